import Derived.Test.YtpmjnbmkippaiaaGreatDoorJ04
import Derived.Lib.AppendZeros
set_option maxRecDepth 100000
set_option maxHeartbeats 16000000
set_option linter.unusedVariables false
set_option linter.unusedSimpArgs false
namespace Go.Proofs.YtpmjnbmkippaiaaGreatDoor
open Go.RowKit Go.Shelf
variable {L S b c g l s:Int} {ps:List (Int × List Int)} {ys zs:List Int} {R ns:List Nd} {B ca cb dl k lo n:Nat} {ao bo:Option Addr} {row:Option Nat} {e:TypeId} {u v v1 v2 vt:Value} {W W' w w':World}
def T0 (v:Value):Prop:=∀n c,v=.slice none n c→n=0∧c=0
theorem Zz.qI (h:Zz e w lo v ns):T0 v:=by
 intro n c hv
 rcases h.2 with ⟨rfl,_⟩ | ⟨g,cap,cur,rfl,_⟩
 · simp only [Y4,Jf] at hv
   exact ⟨hv.1.symm,hv.2.symm⟩
 simp at hv
theorem Cb {L j:Nat} (h:(ZO (R.take L))[j]?=some u):(ZO R)[j]?=some u:=by
 have e:ZO R=ZO (R.take L)++ZO (R.drop L):=by rw [←YE,VC]
 rw [e,Wd (UG.1 h).1];exact h
theorem Wx.NR {c:Nat} (h:Wx w (.slice ao R.length c) R):∀ad,ao=some ad→∀j u,(ZO R)[j]?=some u→w.cell? (ad.add j)=some u:=by
 obtain ⟨pt,c',e,-,-,h3⟩:=h
 simp only [Y4] at e
 obtain ⟨rfl,-,rfl⟩:=e;intro ad had j u hu
 rcases h3 with rfl | ⟨b,o,rfl,hb,hc⟩
 · simp [ZO] at hu
 obtain rfl:=Yv had;have hj:j<R.length*7:=by have:=(UG.1 hu).1;rw [Zq] at this;exact this
 have h7:j % 7<7:=SG _ (by decide);have hr:=Q8 R (j / 7) (j % 7) (by omega) h7;rw [show j / 7*7+j % 7=j by omega,hu] at hr;have hcc:=hc (j / 7) (by omega);rw [Sg];have e:o+j=o+j / 7*7+j % 7:=by omega
 rw [e];clear e hu hj;generalize j % 7=r at *
 match r,h7 with
 | 0,_=>rw [Wi,hcc.c0];exact hr.symm
 | 1,_=>rw [hcc.c1];exact hr.symm
 | 2,_=>rw [hcc.c2];exact hr.symm
 | 3,_=>rw [hcc.c3];exact hr.symm
 | 4,_=>rw [hcc.c4];exact hr.symm
 | 5,_=>rw [hcc.c5];exact hr.symm
 | 6,_=>rw [hcc.c6];exact hr.symm
theorem NQ (R:List Nd):∀u ∈ ZO R,u.oneCell'=true:=by
 intro u hu;unfold ZO at hu;obtain ⟨n,_,hn⟩:=List.mem_flatMap.1 hu;exact SV n u hn
theorem xY (ao:Option Addr) (n c L:Nat) (h1:L≤n) (h2:n≤c) (W:World):(Instr.slice 61 (.slice ao n c) none (some (.int .i64 (L:Int))) none).run Tryz.prog W=.ok (.slice ao L c) W:=by
 have h:(0:Int)≤(L:Int):=by omega
 have h':(L:Int)≤(c:Int):=by omega
 have he:Tryz.prog.elem 61=147:=by kernel_rfl
 rw [run_slice_h W 61 ao n c (by rw [he];exact Tryz.underlying61) .i64 (L:Int) h h',he];go_simp
theorem xX (ao:Option Addr) (n c L:Nat) (h1:L≤n) (W:World):(Instr.slice 61 (.slice ao n c) (some (.int .i64 (L:Int))) none none).run Tryz.prog W=.ok (.slice (if c=L then ao else ao.map (·.add (L*7))) (n - L) (c - L)) W:=by
 have h:(0:Int)≤(L:Int):=by omega
 have h':(L:Int)≤(n:Int):=by omega
 have he:Tryz.prog.elem 61=147:=by kernel_rfl
 rw [run_slice_l W 61 ao n c (by rw [he];exact Tryz.underlying61) .i64 (L:Int) h h',he];go_simp
theorem NP {c:Nat} (h:Wx w (.slice ao R.length c) R) (hn:T0 (.slice ao R.length c)) (L:Nat) (hL:L≤R.length) :
    ∃a2,(∀W,(Instr.slice 61 (.slice ao R.length c) (some (.int .i64 (L:Int))) none none).run Tryz.prog W=.ok (.slice a2 (R.length - L) (c - L)) W)∧Wx w (.slice a2 (R.length - L) (c - L)) (R.drop L)∧T0 (.slice a2 (R.length - L) (c - L)):=by
 obtain ⟨pt,c',e,h1,h2,h3⟩:=h
 simp only [Y4] at e
 obtain ⟨rfl,-,rfl⟩:=e;refine ⟨if c=L then ao else ao.map (·.add (L*7)),xX ao _ c L hL,⟨_,_,by rw [Zd],by rw [Zd];omega,by omega,?_⟩,?_⟩
 · rcases h3 with rfl | ⟨b,o,rfl,hb,hc⟩
   · exact .inl (by simp)
   by_cases hcl:c=L
   · exact .inl (FR (by omega))
   refine .inr ⟨b,o+L*7,by rw [Z1 hcl,zC,Sg],hb,fun i hi=>?_⟩;rw [Zd] at hi;have:=hc (L+i) (by omega);have e1:ZC (R.drop L) i=ZC R (L+i):=by unfold ZC;simp [List.getD]
   rw [e1,show o+L*7+i*7=o+(L+i)*7 by omega];exact this
 intro n' c2 hv
 simp only [Y4] at hv
 obtain ⟨ha,rfl,rfl⟩:=hv;have hao:ao=none:=by
  by_cases hcl:c=L
  · rw [ZZ hcl] at ha;exact ha
  rw [Z1 hcl] at ha;simpa using ha
 subst hao;have:=hn _ _ rfl;omega
theorem xW (ns:List Nd) (es:List Ef):(OZ ns es).2.length≤ns.length:=by
 have:∀(es:List Ef) (st:List Nd × List Nd),(es.foldl Gb st).2.length≤st.2.length:=by
  intro es
  induction es with
  | nil=>exact fun st=>ZT
  | cons e es ih =>
   intro st;rw [Jw];refine ZF (ih _) ?_;unfold Gb;rw [Zd];omega
 exact this es ([],ns)
theorem QY.grown {g:Nat} {n:Ef} (h:QY w B n) (hg:w.grownBy w' (some g)) (hne:B≠g):QY w' B n:=by
 have e:=hg.block B h.lt (by simpa using hne);have cc:∀i,w'.cell? ⟨B,i,none⟩=w.cell? ⟨B,i,none⟩:=fun i=>by simp [World.cell?,e]
 have hs:=hg.size;exact ⟨ZL h.lt hs,(cc _).trans h.c0,(cc _).trans h.c1,(cc _).trans h.c2,(cc _).trans h.c3,(cc _).trans h.c4,(cc _).trans h.c5,(cc _).trans h.c6,(cc _).trans h.c7⟩
structure iL (w:World) (g C:Nat) (st:List Nd × List Nd) (v:Value) (z:Int) (vx:Value) (vo vr:Value) (W:World):Prop where
 own:W.ownsRow (w.heap.size+3) 147 7 vo st.1.length (ZO st.1)
 head:vo=.slice (some ⟨g,0,none⟩) st.1.length C
 rest:Wx w vr st.2
 nil:T0 vr
 below:Below w.heap.size w W
 box:uI w.heap.size v z vx W
theorem MO (w:World) (v:Value) (ns:List Nd) (z:Int) (vx:Value) (es:List Ef) (h:Wx w v ns) (hnil:T0 v) (hx:IJ w vx es)
    (hsz:∀i,(ZC ns i).path.size≤1048576∧(ZC ns i).data.size≤1048576) (hsx:∀i,(Yf es i).nd.path.size≤1048576∧(Yf es i).nd.data.size≤1048576) :
    Calls Tryz.prog 128 #[.agg #[v],.agg #[.int .i64 z,vx]] w fun e w'=>∃v',e=.returned (.agg #[v'])∧Zz 147 w' w.heap.size v' (TQ ns z es)∧Below w.heap.size w w':=by
 obtain ⟨i0,hi,hz0,hz1,hz2⟩:=Yq Tryz.PG;obtain ⟨ao,ca,rfl,_,_⟩:=h.len;obtain ⟨xo,cx,rfl,_,_⟩:=hx.len;have HR:=Z3 h;have HX:=Z3 hx;have HN:=Z3 hnil;have HZ:=Z3 hsz;have th:=Z3 hsx;have B0:Hid (Below w.heap.size w (((w.alloc (.cells #[.slice ao ns.length ca] 63)).alloc (.cells #[.int .i64 z,.slice xo es.length cx] 192)).alloc (.cells #[.slice none 0 0] 63))):=((ZJ.alloc ZT _).alloc (by simp) _).alloc (by simp;omega) _;have X0:Hid (uI w.heap.size (.slice ao ns.length ca) z (.slice xo es.length cx) (((w.alloc (.cells #[.slice ao ns.length ca] 63)).alloc (.cells #[.int .i64 z,.slice xo es.length cx] 192)).alloc (.cells #[.slice none 0 0] 63))):=uI.new _ _ _ _;clear h hx hsz hsx hnil
 go_enter Tryz.func128,Tryz.ntmps128
 go_wp2_with fail
 generalize ((w.alloc _).alloc _).alloc _=w0 at *;refine (XE _ _ ns (HR.out.below B0.out) HZ.out).mono ?_;rintro e w1 ⟨rfl,b1⟩;have B1:=Z3 (YV B0.out b1);have X1:=Z3 (X0.out.below b1 X0.out.size);clear b1 X0 B0
 by_cases hok:YY ns=true
 rotate_left
 · have hok':YY ns=false:=by simpa using hok
   have HT:Hid (TQ ns z es=[]):=by show _=_;unfold TQ;rw [hok'];rfl
   rw [hok'];clear hok hok';have c0:=X1.out.r.cell;have f0:=X1.out.r.frozen;go_wp2;refine ZS (v:=.agg #[.slice none 0 0]) (by simp [results,Tryz.results128,go_sem,c0]) rfl ⟨_,rfl,(by rw [HT.out];exact Zl _ _ _ _),?_⟩
   repeat (first | exact B1.out | refine Below.setCell ?_ (by simp;try omega) _)
 rw [hok];have YR:=X1.out.x.cells
 go_wp2_with fail
 clear YR;refine (Tp _ _ _ es (HX.out.below B1.out) th.out).mono ?_;rintro e w2 ⟨rfl,b2⟩;have B2:=Z3 (YV B1.out b2);have X2:=Z3 (X1.out.below b2 X1.out.size);clear b2 X1 B1
 by_cases qL:WP z es=true
 rotate_left
 · have U:WP z es=false:=by simpa using qL
   have HT:Hid (TQ ns z es=[]):=by show _=_;unfold TQ;rw [U];simp
   rw [U];clear qL U hok;have c0:=X2.out.r.cell;have f0:=X2.out.r.frozen;go_wp2;refine ZS (v:=.agg #[.slice none 0 0]) (by simp [results,Tryz.results128,go_sem,c0]) rfl ⟨_,rfl,(by rw [HT.out];exact Zl _ _ _ _),?_⟩
   repeat (first | exact B2.out | refine Below.setCell ?_ (by simp;try omega) _)
 have hn1:=RQ hok;have he1:=(Iu qL).2;have HT:Hid (TQ ns z es=Dt ns es):=by show _=_;unfold TQ;rw [hok,qL];rfl
 have HA:=Z3 (NY hok);have HE:=Z3 (yk (Iu qL).1);rw [qL];clear hok qL;have ct:=X2.out.t.cell;obtain ⟨y0,y1⟩:=X2.out.x.cells;have s2:=X2.out.size;generalize hen:es.length=n at *;have HP:=Z3 hen;clear hen;generalize hnn:ns.length=m at *;have HM:=Z3 hnn;clear hnn
 go_wp2_with (at_make;go_must (refine Je _ rfl _ _ 61 rfl (w.heap.size+3) 147 i0 (.agg #[.string ByteArray.empty,.string ByteArray.empty,.int .i64 0,.int .i64 0,.int .i64 0,.int .i64 0,.int .i64 0]) 7 Tryz.underlying61 hi hz0 hz1 _ _ _ (m+n) rfl rfl ?c0 ?b2 ?b3 ?b4 ?_))
 case c0=>omega
 case b2=>rw [hz2];omega
 case b3=>unfold maxLen;omega
 case b4=>exact s2
 intro w3 ho3 hg3;have BG:=Z3 (ZJ.grown hg3 ZT (fun q hq=>by simp at hq));have S3:Hid (iL w w2.heap.size (m+n) (OZ ns (es.take 0)) (.slice ao m ca) z (.slice xo n cx) (.slice (some ⟨w2.heap.size,0,none⟩) 0 (m+n)) (.slice ao m ca) w3):=⟨ho3,rfl,HR.out,HN.out,YV B2.out BG.out,X2.out.below BG.out s2⟩;clear ho3 hg3 BG ct y0 y1;have ct:=S3.out.box.t.cell;obtain ⟨y0,y1⟩:=S3.out.box.x.cells;generalize hg:w2.heap.size=g at *;clear X2 B2 hg;go_wp2
 go_loopw [5,6,33] (fun vo vr vk wr=>∃k:Nat,k≤n∧vk=.int .i64 k∧Hid (iL w g (m+n) (OZ ns (es.take k)) (.slice ao m ca) z (.slice xo n cx) vo vr wr)) (fun _ _ i _=>n - (intOf i).toNat)
 case atStart=>exact ⟨0,Zu _,rfl,S3⟩
 case round =>
  clear ct y0 y1 S3;obtain ⟨k,hk,rfl,HS⟩:=hrel;obtain ⟨A,R,X⟩:∃A R,OZ ns (es.take k)=(A,R):=⟨_,_,rfl⟩;have hlen:A.length+R.length≤m+k:=by
   have:=Ds ns es k;rw [X,HM.out] at this;exact this
  have hrl:R.length≤m:=by
   have:=xW ns (es.take k);rw [X,HM.out] at this;exact this
  have ZI:Hid (Asc R):=by
   have:=tq HA.out (es.take k);rw [X] at this;exact this
  have Ca:=Z3 X;rw [X] at HS;clear X;obtain ⟨Z5,hd0,J,Z4,HB0,Z6⟩:=HS.out;obtain ⟨ro,rc,h6,hr1,hr2⟩:=J.len;have OW:Hid (Zz 147 wr (w.heap.size+3) (.slice (some ⟨g,0,none⟩) A.length (m+n)) A):=by rw [hd0] at Z5;exact Z5
  have RR:Hid (Wx w (.slice ro R.length rc) R):=by rw [h6] at J;exact J
  have NN:Hid (T0 (.slice ro R.length rc)):=by rw [h6] at Z4;exact Z4
  have HB:=Z3 HB0;have oC:=Z3 Z6;have hr1':R.length≤rc:=hr1
  replace hd0:u5=.slice (some ⟨g,0,none⟩) A.length (m+n):=hd0
  replace h6:u6=.slice ro R.length rc:=h6
  subst hd0 h6;clear Z5 J Z4 HB0 Z6 HS hr1 hr2;have sB:=HB.out.size;have hgl:=(ZD OW.out g rfl).2
  by_cases hlt:k<n
  · have Vp:(k:Int)<(n:Int):=by omega
    obtain ⟨b,o,hao,hb,hc⟩:∃b o,xo=some ⟨b,o,none⟩∧b<w.heap.size∧Tx w b (o+k*8) (Yf es k):=by
     obtain ⟨pt,cap',e',-,-,h3⟩:=HX.out
     simp only [Y4] at e'
     obtain ⟨rfl,-,-⟩:=e'
     rcases h3 with h3 | ⟨b,o,rfl,hb,hc⟩
     · have:=HP.out;rw [h3] at this;simp at this;omega
     exact ⟨b,o,rfl,hb,hc k (by rw [HP.out];exact hlt)⟩
    subst hao;obtain ⟨c0,c1,c2,c3,c4,c5,c6,c7⟩:=hc.below HB.out hb;clear hc;have ZE:Hid (OZ ns (es.take (k+1))=Gb (A,R) (Yf es k)):=by
     show _=_;rw [←Ca.out];exact Is ns es k (by rw [HP.out];exact hlt)
    clear Ca
    go_wp2_with fail
    clear c0 c1 c2 c3 c4 c5 c6 c7;generalize Yf es k=f at *;have BA:Hid (Below wr.heap.size wr (wr.alloc (.cells #[.bool f.del,.string f.nd.path,.string f.nd.data,.int .i64 f.nd.Zy,.int .i64 f.nd.Zw,.int .i64 f.nd.cz,.int .i64 f.nd.mz,.int .i64 f.nd.pz] 249))):=ZJ.alloc ZT _;have EX:Hid (QY (wr.alloc (.cells #[.bool f.del,.string f.nd.path,.string f.nd.data,.int .i64 f.nd.Zy,.int .i64 f.nd.Zw,.int .i64 f.nd.cz,.int .i64 f.nd.mz,.int .i64 f.nd.pz] 249)) wr.heap.size f):=QY.new _ _ _;generalize wr.alloc _=wA at *;generalize hB:wr.heap.size=B at *;have HG:Hid (B≠g):=by show _≠_;omega
    have ZB:=Z3 (OW.out.below (hB ▸ BA.out));have B1:=Z3 (HB.out.trans (BA.out.mono sB));have X1:=Z3 (oC.out.below BA.out (by omega));clear OW HB oC BA hB;obtain ⟨L,hL⟩:∃L,L=WZ R f.nd.path:=⟨_,rfl⟩;have I:L≤R.length:=by rw [hL];exact RO _ _
    have Zx:Hid (Low R f.nd.path L):=by rw [hL];exact Dv R _ ZI.out
    have HS2:Hid (OZ ns (es.take (k+1))=(A++R.take L++(if f.del then [] else [f.nd]),R.drop (L+if Q1 R f.nd.path L then 1 else 0))):=by
     show _=_;rw [ZE.out,hL]
     rfl
    have Zv:Hid (Q1 R f.nd.path L=true→L<R.length):=by
     intro hh;unfold Q1 at hh
     simp only [Yg,Yt] at hh
     exact hh.1
    clear ZE hL;refine (Ul wA _ R f.nd.path L (RR.out.below B1.out) (by omega) Zx.out).mono ?_;rintro e w4 ⟨rfl,b4⟩;have Zt:=Z3 (ZB.out.below b4);have B4:=Z3 (YV B1.out b4);have X4:=Z3 (X1.out.below b4 X1.out.size);have E4:=Z3 (EX.out.below b4);clear b4 ZB B1 X1 EX;have hs1:=xY ro R.length rc L I hr1'
    go_wp2_with (at_builtin;go_must (refine wpList_append_fits_any _ rfl _ _ 61 rfl (w.heap.size+3) 147 i0 7 Tryz.underlying61 hi hz1 g A.length (m+n) (ZO A) rfl Zt.out ro L rc (ZO (R.take L)) rfl ?n1 ?n2 ?n3 ?n4 ?n5 ?_))
    case n1=>rw [Zq,XU];omega
    case n2=>exact fun e=>by have:=NN.out R.length rc (by rw [e]);omega
    case n3=>exact fun ad had j u hu=>(RR.out.below B4.out).NR ad had j u (Cb hu)
    case n4=>exact NQ _
    case n5=>omega
    intro w5 Vj hg5;have Y:Hid (Zz 147 w5 (w.heap.size+3) (.slice (some ⟨g,0,none⟩) (A.length+L) (m+n)) (A++R.take L)):=by
     show World.ownsRow _ _ _ _ _ _ _;rw [ZA,XU,Wh I,YE];exact Vj
    have B5:=Z3 (B4.out.grown hg5 B4.out.size (fun q hq=>by simp only [Zo] at hq;omega));have X5:=Z3 (X4.out.below ((Below.refl (w.heap.size+3) w4).grown hg5 X4.out.size (fun q hq=>by simp only [Zo] at hq;omega)) ZT);have E5:=Z3 (E4.out.grown hg5 HG.out);have G5:=(ZD Y.out g rfl).2;clear Vj hg5 Zt B4 X4 E4 hs1;obtain ⟨a2,hs2,r2,n2⟩:=NP RR.out NN.out L I;have R2:=Z3 r2;have N2:=Z3 n2;clear r2 n2;obtain ⟨e0,e1,e2,e3,e4,e5,e6,e7⟩:=E5.out.all;obtain ⟨vr,Rn,hw⟩:∃vr Rn,(Rn=R.drop (L+if Q1 R f.nd.path L then 1 else 0)∧Hid (Wx w vr Rn)∧Hid (T0 vr))∧((Q1 R f.nd.path L=false∧vr=.slice a2 (R.length - L) (rc - L))∨(Q1 R f.nd.path L=true∧∀W,(Instr.slice 61 (.slice a2 (R.length - L) (rc - L)) (some (.int .i64 1)) none none).run Tryz.prog W=.ok vr W)):=by
     cases hf:Q1 R f.nd.path L with
     | false=>exact ⟨_,_,⟨rfl,R2,N2⟩,.inl ⟨rfl,rfl⟩⟩
     | true =>
      have hl:=Zv.out hf;have YQ:Wx w (.slice a2 (R.drop L).length (rc - L)) (R.drop L):=by rw [Zd];exact R2.out
      have YP:T0 (.slice a2 (R.drop L).length (rc - L)):=by rw [Zd];exact N2.out
      obtain ⟨a3,hs3,r3,n3⟩:=NP YQ YP 1 (by rw [Zd];omega);rw [Zd] at hs3 r3 n3;rw [Rz] at r3;exact ⟨_,_,⟨rfl,r3,n3⟩,.inr ⟨rfl,hs3⟩⟩
    obtain ⟨⟨kW,R3,N3⟩,hw⟩:=hw;have Cm:Hid (OZ ns (es.take (k+1))=(A++R.take L++(if f.del then [] else [f.nd]),Rn)):=by rw [kW];exact HS2.out
    have Ra:Hid ((A++R.take L).length=A.length+L):=by show _=_;rw [ZA,XU,Wh I]
    clear HS2 kW
    cases hdel:f.del with
    | true =>
     rw [hdel] at e0;have S9:Hid (iL w g (m+n) (OZ ns (es.take (k+1))) (.slice ao m ca) z (.slice (some ⟨b,o,none⟩) n cx) (.slice (some ⟨g,0,none⟩) (A.length+L) (m+n)) vr w5):=by
      have e9:OZ ns (es.take (k+1))=(A++R.take L,Rn):=by rw [Cm.out,hdel];simp
      rw [e9];exact ⟨Y.out,by rw [Ra.out],R3.out,N3.out,B5.out,X5.out⟩
     clear Cm Ra Y R3 N3 B5 X5 R2 N2
     rcases hw with ⟨hf,rfl⟩ | ⟨hf,hs3⟩
     · rw [hf]
       go_wp2;exact ⟨⟨k+1,by omega,by go_num,S9⟩,by simp [intOf];omega⟩
     rw [hf];go_wp2;exact ⟨⟨k+1,by omega,by go_num,S9⟩,by simp [intOf];omega⟩
    | false =>
     rw [hdel] at e0;have FIN:Hid (∀w',w'.ownsRow (w.heap.size+3) 147 7 (.slice (some ⟨g,0,none⟩) (A.length+L+1) (m+n)) (A.length+L+1) (ZO (A++R.take L)++Xs f.nd)→∀t,(w5.alloc (.cells #[.string f.nd.path,.string f.nd.data,.int .i64 f.nd.Zy,.int .i64 f.nd.Zw,.int .i64 f.nd.cz,.int .i64 f.nd.mz,.int .i64 f.nd.pz] t)).grownBy w' (some g)→Hid (iL w g (m+n) (OZ ns (es.take (k+1))) (.slice ao m ca) z (.slice (some ⟨b,o,none⟩) n cx) (.slice (some ⟨g,0,none⟩) (A.length+L+1) (m+n)) vr w')):=by
      intro w' how t hgw;have e9:OZ ns (es.take (k+1))=(A++R.take L++[f.nd],Rn):=by rw [Cm.out,hdel];simp
      have el:(A++R.take L++[f.nd]).length=A.length+L+1:=by rw [ZA,Ra.out];rfl
      rw [e9];have hb3:=((Below.refl (w.heap.size+3) w5).alloc X5.out.size _).grown hgw (by have:=X5.out.size;simp;omega) (fun q hq=>by simp only [Zo] at hq;omega);refine ⟨?_,?_,R3.out,N3.out,B5.out.trans (hb3.mono (by omega)),X5.out.below hb3 ZT⟩
      · show World.ownsRow _ _ _ _ _ (A++R.take L++[f.nd]).length (ZO (A++R.take L++[f.nd]))
        rw [el,Ix];exact how
      show _=Value.slice _ (A++R.take L++[f.nd]).length _;rw [el]
     have OR:Hid (w5.ownsRow (w.heap.size+3) 147 7 (.slice (some ⟨g,0,none⟩) (A.length+L) (m+n)) (A.length+L) (ZO (A++R.take L))):=by
      have:=Y.out;unfold Zz at this;rw [Ra.out] at this;exact this
     clear Cm Ra Y R3 N3 R2 N2
     rcases hw with ⟨hf,rfl⟩ | ⟨hf,hs3⟩
     · rw [hf]
       go_wp2_with (at_builtin;go_must (refine Mc _ rfl _ _ 61 rfl (w.heap.size+3) 147 i0 7 Tryz.underlying61 hi hz1 g (A.length+L) (m+n) _ rfl (OR.out.alloc _) ⟨w5.heap.size,0,none⟩ 1 1 (Xs f.nd) rfl rfl (UA w5 f.nd _) (SV f.nd) ?q1 ?_))
       case q1=>omega
       intro w6 T oB;have S9:=FIN.out w6 T _ oB;clear FIN OR T oB e0 e1 e2 e3 e4 e5 e6 e7;go_wp2;exact ⟨⟨k+1,by omega,by go_num,S9⟩,by simp [intOf];omega⟩
     rw [hf]
     go_wp2_with (at_builtin;go_must (refine Mc _ rfl _ _ 61 rfl (w.heap.size+3) 147 i0 7 Tryz.underlying61 hi hz1 g (A.length+L) (m+n) _ rfl (OR.out.alloc _) ⟨w5.heap.size,0,none⟩ 1 1 (Xs f.nd) rfl rfl (UA w5 f.nd _) (SV f.nd) ?q2 ?_))
     case q2=>have:=Zv.out hf;omega
     intro w6 T oB;have S9:=FIN.out w6 T _ oB;clear FIN OR T oB e0 e1 e2 e3 e4 e5 e6 e7;go_wp2;exact ⟨⟨k+1,by omega,by go_num,S9⟩,by simp [intOf];omega⟩
  have hkn:k=n:=by omega
  subst hkn;have HF:Hid (A++R=TQ ns z es):=by
   have:=tp HA.out HE.out HP.out;rw [Ca.out] at this;rw [HT.out];exact this
  clear Ca
  go_wp2_with (at_builtin;go_must (refine wpList_append_fits_any _ rfl _ _ 61 rfl (w.heap.size+3) 147 i0 7 Tryz.underlying61 hi hz1 g A.length (m+k) (ZO A) rfl OW.out ro R.length rc (ZO R) rfl ?m1 ?m2 ?m3 ?m4 ?m5 ?_))
  case m1=>rw [Zq]
  case m2=>exact fun e=>NN.out R.length rc (by rw [e])
  case m3=>exact fun ad had j u hu=>(RR.out.below HB.out).NR ad had j u hu
  case m4=>exact NQ _
  case m5=>omega
  intro w5 Vj hg5;have Y:Hid (Zz 147 w5 (w.heap.size+3) (.slice (some ⟨g,0,none⟩) (A.length+R.length) (m+k)) (TQ ns z es)):=by
   rw [←HF.out];show World.ownsRow _ _ _ _ _ _ _;rw [ZA,YE];exact Vj
  have B5:=Z3 (HB.out.grown hg5 HB.out.size (fun q hq=>by simp only [Zo] at hq;omega));have X5:=Z3 (oC.out.below ((Below.refl (w.heap.size+3) wr).grown hg5 oC.out.size (fun q hq=>by simp only [Zo] at hq;omega)) ZT);clear Vj hg5 OW HB oC;have c0:=X5.out.r.cell;have f0:=X5.out.r.frozen;go_wp2;refine ZS (v:=.agg #[.slice (some ⟨g,0,none⟩) (A.length+R.length) (m+k)]) (by simp [results,Tryz.results128,go_sem,c0]) rfl ⟨_,rfl,?_,?_⟩
  · refine Zz.mono ?_ (show w.heap.size≤w.heap.size+3 by omega)
    repeat (first | exact Y.out | refine Zz.Yk ?_ (by simp;try omega) _)
  repeat (first | exact B5.out | refine Below.setCell ?_ (by simp;try omega) _)
theorem Fj (w:World) (ao:Option Addr) (cap:Nat) (ns:List Nd) (h:Wx w (.slice ao ns.length cap) ns) (hn:ns.length≤1000) :
    Calls Tryz.prog 166 #[.slice ao ns.length cap] w fun e w'=>∃v',e=.returned v'∧Zz 147 w' w.heap.size v' ns∧ZX w w':=by
 obtain ⟨i0,hi,hz0,hz1,hz2⟩:=Yq Tryz.PG;have q22:∀(w:World) (a:Option Addr) (n c n' c':Nat),(binOp .eql 61 (.slice a n c) (.slice none n' c')).run Tryz.prog w=.ok (.bool a.isNone) w:=fun w a n c n' c'=>pS w _ _ a n c n' c' Tryz.underlying61
 have HE:Hid ((w.alloc (.cells #[] 147)).ownsRow w.heap.size 147 7 (.slice (some ⟨w.heap.size,0,none⟩) 0 0) 0 []):=OO w #[] 0 ZT (Zu _) rfl;have HB:Hid (ZX w (w.alloc (.cells #[] 147))):=ZJ.alloc ZT _;have HR:=Z3 h
 cases ao with
 | none =>
  have hx:ns=[]:=by
   obtain ⟨a',c',e,-,-,h3⟩:=h
   simp only [Y4] at e
   rcases h3 with h3 | ⟨b,o,e2,_⟩
   · exact h3
   rw [←e.1] at e2;cases e2
  subst hx;clear h HR
  go_enter Tryz.func166,Tryz.ntmps166
  go_wp2;go_ret;exact ⟨_,rfl,Zl _ _ _ _,ZJ⟩
 | some a =>
  have li:Hid (∀j u,(ZO ns)[j]?=some u→(w.alloc (.cells #[] 147)).cell? (a.add j)=some u):=fun j u hu=>(HR.out.below HB.out).NR a rfl j u hu
  clear h;generalize hl:ns.length=m at *;have HL:=Z3 hl;clear hl
  go_enter Tryz.func166,Tryz.ntmps166
  go_wp2_with (at_builtin;go_must (refine UF _ rfl _ _ 61 rfl w.heap.size 147 i0 _ 7 72 Tryz.underlying61 hi hz0 hz1 hz2 rfl (by decide) _ _ _ rfl HE.out a m cap (ZO ns) rfl ?c0 li.out (NQ _) ?c3 ?c4 ?c5 ?_))
  case c0=>rw [Zq,HL.out]
  case c3=>unfold maxLen;omega
  case c4=>omega
  case c5=>simp
  intro v2 w2 ho2 hg2 _;have FJ:Hid (Zz 147 w2 w.heap.size v2 ns):=by
   show World.ownsRow _ _ _ _ _ _ _;rw [HL.out];exact ho2
  have HG2:=Z3 (HB.out.grown hg2 (by simp) (by intro q hq;simp [Value.ownBlock] at hq;omega));clear ho2 hg2;go_wp2;go_ret;exact ⟨_,rfl,FJ.out,HG2.out⟩
attribute [local go_sem] VA
section
variable {P:Program} (w:World)
theorem Fi (m:Nat):(Builtin.zeroCells (Value.int .u8 0).cells m).toList=List.replicate m (Value.int .u8 0):=by
 apply pL
 · simp [Builtin.zeroCells,Value.cells]
 intro j h1 h2
 simp [Builtin.zeroCells,Value.cells,Nat.mod_one]
theorem Tn (base:Nat) (t tn ty e:TypeId) (i:TypeInfo) (k kn:IntKind) (ht:P.underlying t=some (.slice e)) (htn:P.underlying tn=some (.int kn)) (hi:P.info? e=some i) (hz:i.zero=some (.int .u8 0))
    (hsize:i.size=1) (hby:i.bytes=1) (g n cap:Nat) (xs:List Value) (hown:w.ownsRow base e 1 (.slice (some ⟨g,0,none⟩) n cap) n xs) (m:Nat) (h0:0<m) (hm:n+m≤1048576) (hbase:base≤w.heap.size) :
    ∃v' w',(Builtin.append_ #[t,tn] ty #[.slice (some ⟨g,0,none⟩) n cap,.int k m]).run P w=.ok v' w'∧w'.ownsRow base e 1 v' (n+m) (xs++List.replicate m (Value.int .u8 0))∧w.grownBy w' (some g):=by
 have hxl:xs.length=n:=by simpa using hown.1
 have hlen:(xs++List.replicate m (Value.int .u8 0)).length=(n+m)*1:=by rw [ZA,hxl,Ju,WV]
 have hw:IntKind.i64.wrap (m:Int)=m:=by rw [XK];omega
 have h63':¬(9223372036854775807<((n:Int)+(m:Int))):=by omega
 have h48i:¬(281474976710656<(m:Int)):=by omega
 have hneg:¬((m:Int)<0):=by omega
 have hns:¬(m=0):=by omega
 have hcells:=Fi m;have hone:∀u ∈ List.replicate m (Value.int .u8 0),u.oneCell'=true:=by intro u hu;rw [ll hu];rfl
 rcases hown.2 with ⟨h1,-⟩ | ⟨g',cap',cur,h1,hbg,hg,hnc,hcm,hcs,htake⟩
 · simp at h1
 simp only [Y4,Zo,JB,TJ] at h1
 obtain ⟨rfl,-,rfl⟩:=h1
 by_cases hroom:n+m≤cap
 · have hcs':cur.size=cap:=by simpa using hcs
   have hst:=zp P g n e (List.replicate m (Value.int .u8 0)) 0 cur w hg (by simp;omega) hone
   simp only [Wi,Ju] at hst
   refine ⟨.slice (some ⟨g,0,none⟩) (n+m) cap,w.setRow g (cur.toList.take n++List.replicate m (Value.int .u8 0)++cur.toList.drop (n+m)).toArray,?_,⟨hlen,.inr ⟨g,cap,_,rfl,hbg,Sz w g cur _ e _ hg,hroom,hcm,?_,?_⟩⟩,⟨rfl,rfl,rfl,by simp,fun k _ hk=>Jg w g k _ (fun e=>hk (by simp [e]))⟩⟩
   · simp [Builtin.append_,US ht,US htn,sizeOf,typeInfo,zeroValue,hi,hz,hsize,hby,asInt,asIntOf,hw,hneg,hns,h48i,hroom,hcells,Sg,hst]
   · simp only [Zm,ZA,XU,Zd,Gc,Ju]
     omega
   have ht':cur.toList.take n=xs:=by simpa using htake
   rw [ht',←hlen];exact Rx
 have holds:=hown.cells (g:=g) rfl;have hn:=hroom;have h48':¬(281474976710656<Builtin.nextslicecap (n+m) cap):=by
  have:=Ji (need:=n+m) (old:=cap) (bytes:=1) (by omega) (by omega);omega
 have hfo:=DT (P:=P) w.drew 1 n ⟨g,0,none⟩ n cap xs (by omega) (by simpa using holds);have hge:=Jk w (n+m) cap e;have hcm2:=Jj w (n+m) cap e (by unfold maxLen;omega);refine ⟨.slice (some ⟨w.heap.size,0,none⟩) (n+m) (grownCap w (n+m) cap e),w.drew.alloc (.cells (xs.toArray++(Builtin.zeroCells (Value.int .u8 0).cells m)++Builtin.zeroCells (Value.int .u8 0).cells (grownCap w (n+m) cap e - (n+m))) e),?_,⟨hlen,.inr ⟨w.heap.size,_,_,rfl,hbase,Y9 w.drew _,hge,hcm2,?_,?_⟩⟩,⟨rfl,rfl,rfl,by simp,fun k hk _=>Below.heap_alloc w.drew _ k hk⟩⟩
 · simp [Builtin.append_,US ht,US htn,sizeOf,typeInfo,zeroValue,hi,hz,hsize,hby,asInt,asIntOf,hw,hneg,hns,h48i,hn,h63',h48',Question.forced,hfo,newRow,grownCap]
 · have hz1:(Value.int IntKind.u8 0).cells.size=1:=rfl
   simp only [pY,Zm,DR,hz1,hxl]
   omega
 simp only [uq,YM,hcells]
 rw [←YM,←hlen];exact Rx
theorem SK {ops:Array Oper} {rest:List Oper} {o:Oper} {a:Act} {Q:Exit→Act→World→Prop} (hgd:o.guard=none) (sl x:Operand) (t tn:TypeId)
    (ho:o.op=.call { callee:=.builtin .append,args:=#[sl,x],argTypes:=#[t,tn] })
    (base:Nat) (e:TypeId) (i:TypeInfo) (k kn:IntKind) (ht:P.underlying t=some (.slice e)) (htn:P.underlying tn=some (.int kn)) (hi:P.info? e=some i) (hz:i.zero=some (.int .u8 0))
    (hsize:i.size=1) (hby:i.bytes=1) (g n cap:Nat) (xs:List Value) (hs:a.eval sl=.slice (some ⟨g,0,none⟩) n cap) (hown:w.ownsRow base e 1 (.slice (some ⟨g,0,none⟩) n cap) n xs) (m:Nat) (hx:a.eval x=.int k m)
    (h0:0<m) (hm:n+m≤1048576) (hbase:base≤w.heap.size)
    (h:∀v' w',w'.ownsRow base e 1 v' (n+m) (xs++List.replicate m (Value.int .u8 0))→w.grownBy w' (some g)→wpList P ops Q rest (a.put o.dst v') w'):wpList P ops Q (o :: rest) a w:=by
 obtain ⟨v',w',hr,h2,h3⟩:=Tn (P:=P) w base t tn o.type e i k kn ht htn hi hz hsize hby g n cap xs hown m h0 hm hbase;exact Lib.wpList_append_run w hgd sl x t tn ho _ _ hs hx v' w' hr (h v' w' h2 h3)
end
theorem Ky (w:World) (s:Int) :
    Calls Tryz.prog 143 #[.int .i64 s] w fun e w'=>e=.returned (.bool (decide (0≤s∧s≤2147483647)))∧w'=w:=by
 by_cases h1:0≤s
 · by_cases h2:s≤2147483647
   · go_enter Tryz.func143,Tryz.ntmps143
     go_wp2;go_ret;exact ⟨YS (by simp;omega),rfl⟩
   go_enter Tryz.func143,Tryz.ntmps143
   go_wp2;go_ret;exact ⟨YS (by simp;omega),rfl⟩
 go_enter Tryz.func143,Tryz.ntmps143
 go_wp2;go_ret;exact ⟨YS (by simp;omega),rfl⟩
theorem Yb (w:World) (base:Nat) (v:Value) (xs:List Int) (N n:Nat) (h:Own .u8 5 w base v xs) (hb:base≤w.heap.size) (hl:xs.length≤1048576) (hn:n≤8) :
    Calls Tryz.prog 96 #[v,.int .i64 N,.int .i64 n] w fun e w'=>∃v',e=.returned v'∧Own .u8 5 w' base v' (xs++Zk N n)∧Below base w w':=by
 obtain ⟨i0,hi,hz0,hz1,hz2⟩:=Yq Tryz.Vh;have HO:=Z3 h;clear h
 go_enter Tryz.func96,Tryz.ntmps96
 go_wp2
 go_loopw [0,7] (fun vi vl wr=>∃(k:Nat) (z:Int),k≤n∧vl=.int .i64 z∧z+1+(k:Int)=(n:Int)∧Hid (Own .u8 5 wr base vi (xs++Zk (N / 2 ^ (8*(n - k))) k))∧Hid (Below base w wr)) (fun _ i _=>((intOf i)+1).toNat)
 case atStart=>exact ⟨0,(n:Int) - 1,Zu _,rfl,by omega,by show Own _ _ _ _ _ _;unfold Zk;rw [TX];exact HO.out,ZJ⟩
 case round =>
  obtain ⟨k,z,hk,rfl,hz,HW,HB⟩:=hrel;have sB:=HB.out.size
  by_cases hz0':0≤z
  · obtain ⟨l,rfl⟩:∃l:Nat,z=(l:Int):=⟨z.toNat,by omega⟩
    have ek:l≤7:=by omega
    have HST:Hid (Zk (N / 2 ^ (8*(n - k))) k++[((N / 2 ^ (8*l) % 256:Nat):Int)]=Zk (N / 2 ^ (8*(n - (k+1)))) (k+1)):=by
     show _=_;rw [show n - k=l+1 by omega,show n - (k+1)=l by omega];exact LW N l k
    obtain ⟨ys,hys⟩:∃ys,ys=xs++Zk (N / 2 ^ (8*(n - k))) k:=⟨_,rfl⟩;have tE:=Z3 hys;have HW1:Hid (wr.ownsRow base 5 1 u0 ys.length (ys.map (Value.int .u8))):=by rw [hys];exact HW.out
    have hyl:ys.length≤1048600:=by rw [hys,ZA,Zb];omega
    clear hys HW;have HV:Hid ((N:Int) / 2 ^ (8*l) % 256=((N / 2 ^ (8*l) % 256:Nat):Int)):=by show _=_;rw [Rr];rfl
    go_wp2_with (at_builtin;go_must (refine UF _ rfl _ _ 22 rfl base 5 i0 (.int .u8 0) 1 1 Tryz.underlying22 hi hz0 hz1 hz2 rfl (by decide) _ _ _ rfl (Mk HW1.out _) ⟨wr.heap.size,0,none⟩ 1 1 [.int .u8 ((N:Int) / 2 ^ (8*l) % 256)] rfl rfl (Vx _ _ _) (by intro u hu;simp at hu;subst hu;rfl) ?c3 ?c4 ?c5 ?_))
    case c3=>unfold maxLen;omega
    case c4=>omega
    case c5=>simp;omega
    intro v2 w2 ho2 hg2 _;have FJ:Hid (Own .u8 5 w2 base v2 (xs++Zk (N / 2 ^ (8*(n - (k+1)))) (k+1))):=by
     rw [HV.out] at ho2;refine Vg (q:=ys.length+1) (ys:=ys++[((N / 2 ^ (8*l) % 256:Nat):Int)]) (by simp) ?_ (by rw [Wn];exact ho2);rw [←HST.out,←YM,←tE.out]
    have HB2:=Z3 ((HB.out.alloc (by omega) _).grown hg2 (by simp;omega) (fun q hq=>(ZD HW1.out q hq).1));clear ho2 hg2 HW1 HB;go_wp2;exact ⟨⟨k+1,(l:Int) - 1,by omega,by go_num,by omega,FJ,HB2⟩,by simp [intOf]⟩
  have hkn:k=n:=by omega
  subst hkn;have eh:=hz0';go_wp2;go_ret;refine ⟨_,rfl,?_,HB.out⟩;have:=HW.out;rw [PN,zF,Nat.pow_zero,Nat.div_one] at this;exact this
theorem NO (w:World) (g b s l c:Int) :
    Calls Tryz.prog 95 #[.agg #[.int .i64 g,.int .i64 b,.int .i64 s,.int .i64 l,.int .i64 c]] w (YI w (.bool (Tv g b s l c))):=by
 go_enter Tryz.func95,Tryz.ntmps95
 go_wp2
 all_goals
  go_ret;refine ⟨YS ?_,ZJ.alloc ZT _⟩;unfold Tv;rw [pW]
  simp only [Yg,Ab,Yt,Qw,false_iff]
  omega
theorem xV {k:IntKind} {xs:List Int} (h:Own k e w lo v xs) (h0:0<xs.length):∃g c,v=.slice (some ⟨g,0,none⟩) xs.length c:=by
 rcases h.2 with ⟨rfl,h1⟩ | ⟨g,cap,cur,rfl,-⟩
 · omega
 exact ⟨g,cap,rfl⟩
def qH (w:World) (k:Nat) (g b s l c:Int):Prop :=
 k<w.heap.size∧w.cell? ⟨k,0,none⟩=some (.int .i64 g)∧w.cell? ⟨k,1,none⟩=some (.int .i64 b)∧w.cell? ⟨k,2,none⟩=some (.int .i64 s)∧w.cell? ⟨k,3,none⟩=some (.int .i64 l)∧w.cell? ⟨k,4,none⟩=some (.int .i64 c)
theorem qH.new (w:World) (g b s l c:Int) (t:TypeId):qH (w.alloc (.cells #[.int .i64 g,.int .i64 b,.int .i64 s,.int .i64 l,.int .i64 c] t)) w.heap.size g b s l c :=
 ⟨by simp,(by go_simp),(by go_simp),(by go_simp),(by go_simp),(by go_simp)⟩
theorem qH.below (h:qH w k g b s l c) (hb:Below B w w') (hk:k<B):qH w' k g b s l c:=by
 obtain ⟨h0,h1,h2,h3,h4,h5⟩:=h;exact ⟨ZL h0 hb.size,(hb.cell (p:=⟨k,0,none⟩) hk).trans h1,(hb.cell (p:=⟨k,1,none⟩) hk).trans h2,(hb.cell (p:=⟨k,2,none⟩) hk).trans h3,(hb.cell (p:=⟨k,3,none⟩) hk).trans h4,(hb.cell (p:=⟨k,4,none⟩) hk).trans h5⟩
theorem Kx (w:World) (g b s l c:Int) (h:Tv g b s l c=false) :
    Calls Tryz.prog 53 #[.agg #[.int .i64 g,.int .i64 b,.int .i64 s,.int .i64 l,.int .i64 c]] w fun e w'=>∃v',e=.returned v'∧Own .u8 5 w' w.heap.size v' []∧ZX w w':=by
 have H:=Z3 h;clear h
 go_enter Tryz.func53,Tryz.ntmps53
 go_wp2_with fail
 refine (NO _ g b s l c).mono ?_;rintro e w1 ⟨rfl,b1⟩;rw [H.out];have B1:=Z3 ((ZJ.alloc ZT _).trans (b1.mono (by simp)));clear b1;go_wp2;go_ret;exact ⟨_,rfl,Zl _ _ _ _,B1.out⟩
theorem MN (w:World) (g b s l c:Nat) (h:Tv g b s l c=true) :
    Calls Tryz.prog 53 #[.agg #[.int .i64 g,.int .i64 b,.int .i64 s,.int .i64 l,.int .i64 c]] w fun e w'=>∃v',e=.returned v'∧Own .u8 5 w' w.heap.size v' (Ck g b s l c)∧ZX w w':=by
 obtain ⟨i0,hi,hz0,hz1,hz2⟩:=Yq Tryz.Vh;have H:=Z3 h;clear h
 go_enter Tryz.func53,Tryz.ntmps53
 go_wp2_with fail
 refine (NO _ g b s l c).mono ?_;rintro e w1 ⟨rfl,b1⟩;rw [H.out];have X1:=Z3 ((qH.new w g b s l c _).below b1 (by simp));have B1:=Z3 ((ZJ.alloc ZT _).trans (b1.mono (by simp)));have s1:w.heap.size+1≤w1.heap.size:=by have:=b1.size;simpa using this
 clear b1;have O1:Hid (Own .u8 5 w1 (w.heap.size+1) (.slice none 0 0) []):=Zl _ _ _ _;obtain ⟨-,x0,x1,x2,x3,x4⟩:=X1.out
 go_wp2_with fail
 refine (Yb _ (w.heap.size+1) _ ([]) g 8 O1.out s1 (by simp) (by omega)).mono ?_;rintro e w2 ⟨v2,rfl,o2,b2⟩;have X2:=Z3 (X1.out.below b2 (by omega));have B2:=Z3 (B1.out.trans (b2.mono (by omega)));have s2:=ZF s1 b2.size;have O2:=Z3 o2;clear x0 x1 x2 x3 x4 o2 b2 X1 B1 O1;obtain ⟨-,x0,x1,x2,x3,x4⟩:=X2.out
 go_wp2_with fail
 refine (Yb _ (w.heap.size+1) _ ([]++Zk g 8) b 1 O2.out s2 (by simp [Zb]) (by omega)).mono ?_;rintro e w3 ⟨v3,rfl,o3,b3⟩;have X3:=Z3 (X2.out.below b3 (by omega));have B3:=Z3 (B2.out.trans (b3.mono (by omega)));have s3:=ZF s2 b3.size;have O3:=Z3 o3;clear x0 x1 x2 x3 x4 o3 b3 X2 B2 O2;obtain ⟨-,x0,x1,x2,x3,x4⟩:=X3.out
 go_wp2_with fail
 refine (Yb _ (w.heap.size+1) _ ([]++Zk g 8++Zk b 1) s 4 O3.out s3 (by simp [Zb]) (by omega)).mono ?_;rintro e w4 ⟨v4,rfl,o4,b4⟩;have X4:=Z3 (X3.out.below b4 (by omega));have B4:=Z3 (B3.out.trans (b4.mono (by omega)));have s4:=ZF s3 b4.size;have O4:=Z3 o4;clear x0 x1 x2 x3 x4 o4 b4 X3 B3 O3;obtain ⟨-,x0,x1,x2,x3,x4⟩:=X4.out
 go_wp2_with fail
 refine (Yb _ (w.heap.size+1) _ ([]++Zk g 8++Zk b 1++Zk s 4) l 4 O4.out s4 (by simp [Zb]) (by omega)).mono ?_;rintro e w5 ⟨v5,rfl,o5,b5⟩;have X5:=Z3 (X4.out.below b5 (by omega));have B5:=Z3 (B4.out.trans (b5.mono (by omega)));have s5:=ZF s4 b5.size;have O5:=Z3 o5;clear x0 x1 x2 x3 x4 o5 b5 X4 B4 O4;obtain ⟨-,x0,x1,x2,x3,x4⟩:=X5.out
 go_wp2_with fail
 refine (Yb _ (w.heap.size+1) _ ([]++Zk g 8++Zk b 1++Zk s 4++Zk l 4) c 4 O5.out s5 (by simp [Zb]) (by omega)).mono ?_;rintro e w6 ⟨v6,rfl,o6,b6⟩;have X6:=Z3 (X5.out.below b6 (by omega));have B6:=Z3 (B5.out.trans (b6.mono (by omega)));have s6:=ZF s5 b6.size;have O6:=Z3 o6;clear x0 x1 x2 x3 x4 o6 b6 X5 B5 O5;have Z:([]++Zk g 8++Zk b 1++Zk s 4++Zk l 4++Zk c 4).length=21:=by simp [Zb]
 obtain ⟨g6,c6,hv6⟩:=xV O6.out (by rw [Z];omega);rw [Z] at hv6;subst hv6;have ZY:Hid (w6.ownsRow (w.heap.size+1) 5 1 (.slice (some ⟨g6,0,none⟩) 21 c6) 21 (([]++Zk g 8++Zk b 1++Zk s 4++Zk l 4++Zk c 4).map (Value.int .u8))):=by have:=O6.out;unfold Own at this;rw [Z] at this;exact this
 clear O6 Z;generalize Zp:([]++Zk g 8++Zk b 1++Zk s 4++Zk l 4++Zk c 4)=L6 at *;have ZV:=Z3 Zp;clear Zp;obtain ⟨-,x0,x1,x2,x3,x4⟩:=X6.out
 go_wp2_with (at_builtin;go_must (refine SK _ rfl _ _ 22 3 rfl (w.heap.size+1) 5 i0 .i64 .i64 Tryz.underlying22 Tryz.underlying3 hi hz0 hz1 hz2 g6 21 c6 _ rfl ZY.out 35 rfl (by omega) (by omega) s6 ?_))
 intro v7 w7 Zn Zi;have b7:=ZJ.grown Zi s6 (fun q hq=>by injection hq with hq;subst hq;exact (ZD ZY.out _ rfl).1);have O7:Hid (Own .u8 5 w7 (w.heap.size+1) v7 (L6++List.replicate 35 0)):=Vg (q:=21+35) (by rw [←ZV.out];simp [Zb]) rfl (by rw [Wn,pE];exact Zn);have X7:=Z3 (X6.out.below b7 (by omega));have B7:=Z3 (B6.out.trans (b7.mono (by omega)));have s7:=ZF s6 b7.size;clear x0 x1 x2 x3 x4 Zn Zi b7 X6 B6 ZY;obtain ⟨-,x0,x1,x2,x3,x4⟩:=X7.out
 go_wp2_with fail
 refine (Yb _ (w.heap.size+1) _ (L6++List.replicate 35 0) g 8 O7.out s7 (by rw [←ZV.out];simp [Zb]) (by omega)).mono ?_;rintro e w8 ⟨v8,rfl,o8,b8⟩;have B8:=Z3 (B7.out.trans (b8.mono (by omega)));have O8:Hid (Own .u8 5 w8 w.heap.size v8 (Ck g b s l c)):=by
  have h8:=o8.mono (show w.heap.size≤w.heap.size+1 by omega);rw [←ZV.out,Yw] at h8;exact h8
 clear o8 b8;go_wp2;go_ret;exact ⟨_,rfl,O8.out,B8.out⟩
theorem BZ (h:Tv g b s l c=true):∃g' b' s' l' c':Nat,g=g'∧b=b'∧s=s'∧l=l'∧c=c':=by
 unfold Tv at h
 simp only [Yg,Ab,Yt] at h
 exact ⟨g.toNat,b.toNat,s.toNat,l.toNat,c.toNat,by omega,by omega,by omega,by omega,by omega⟩
theorem UL (w:World) (g b s l c:Int) :
    Calls Tryz.prog 53 #[.agg #[.int .i64 g,.int .i64 b,.int .i64 s,.int .i64 l,.int .i64 c]] w fun e w'=>∃v',e=.returned v'∧Own .u8 5 w' w.heap.size v' (sup g b s l c)∧ZX w w':=by
 unfold sup
 by_cases h:Tv g b s l c=true
 · rw [ZZ h]
   obtain ⟨g,b,s,l,c,rfl,rfl,rfl,rfl,rfl⟩:=BZ h;exact MN w g b s l c h
 rw [Z1 h];exact Kx w g b s l c (by simpa using h)
attribute [local go_sem] VA
theorem Qy.other {b:Nat} {x0 x1 x2 x3:Value} (h:Qy W b x0 x1 x2 x3) (hg:W.grownBy W' row) (hne:some b≠row):Qy W' b x0 x1 x2 x3:=by
 have hbl:=hg.block b h.1 hne;exact ⟨ZL h.1 hg.size,⟨(Zj (a:=⟨b,0,none⟩) hbl).trans h.2.1.1,(Zj (a:=⟨b,1,none⟩) hbl).trans h.2.1.2.1,(Zj (a:=⟨b,2,none⟩) hbl).trans h.2.1.2.2.1,(Zj (a:=⟨b,3,none⟩) hbl).trans h.2.1.2.2.2⟩,
  (SD (a:=⟨b,0,none⟩) hbl).trans h.2.2.1,(SD (a:=⟨b,1,none⟩) hbl).trans h.2.2.2.1,(SD (a:=⟨b,2,none⟩) hbl).trans h.2.2.2.2.1,(SD (a:=⟨b,3,none⟩) hbl).trans h.2.2.2.2.2⟩
theorem Dr.other (h:Dr w vt W) (hg:W.grownBy W' row) (hr:∀r,row=some r→w.heap.size+2≤r):Dr w vt W' :=
 ⟨h.1.grown hg (by have:=h.2.1;omega) (fun q e=>by have:=hr q e;omega),ZF h.2.1 hg.size,(Zj (a:=⟨w.heap.size,0,none⟩) (hg.block w.heap.size (by have:=h.2.1;omega) (fun e=>by have:=hr _ e.symm;omega))).trans h.2.2.1,h.2.2.2.other hg (fun e=>by have:=hr _ e.symm;omega)⟩
theorem Zz.Yj (h:Zz 147 W lo v ns) (hg:W.grownBy W' row) (hr:∀r,row=some r→∃o:Obj,W.heap[r]?=some o∧o.isCells=false):Zz 147 W' lo v ns:=Yn h hg hr
def YO (S L:Int):Bool:=decide (1≤S∧S≤64) && decide (1≤L∧L≤64)
def NM (S L:Int) (dl:Nat) (ps:List (Int × List Int)):Bool:=YO S L && (Vf dl ps && decide (((dl / 64:Nat):Int)=2+2*(S+L)))
def VJ (S L Za:Int) (log:Bool):Int:=2+Za*(S+L)+if log then S else 0
def LM (S L:Int) (log:Bool):Int:=if log then L else S
def Im (S L:Int) (dl:Nat) (ps:List (Int × List Int)) (Za:Int):Bool:=NM S L dl ps && decide (0≤Za∧Za≤1)
def PC (D:List Int) (f l:Nat):List Int:=(D.drop (f*64)).take (l*64)
def gW (ZQ:List Int) (ps:List (Int × List Int)) (S L Za:Int) (log:Bool):List Int :=
 if Im S L ZQ.length ps Za then PC (Qq ZQ ps) (VJ S L Za log).toNat (LM S L log).toNat else []
theorem Zg (S L:Int):YO S L=true↔(1≤S∧S≤64)∧1≤L∧L≤64:=by unfold YO;simp only [Yg,Yt]
theorem VQ (S L:Int) (dl:Nat) (ps:List (Int × List Int)):NM S L dl ps=true↔YO S L=true∧Vf dl ps=true∧((dl / 64:Nat):Int)=2+2*(S+L):=by
 unfold NM;simp only [Yg,Yt]
theorem NK {ZQ:List Int} (h:Vf ZQ.length ps=true):(Qq ZQ ps).length=ZQ.length:=by
 unfold Qq;rw [ZZ h];exact Ro _ _ _ h _ ZT
theorem RN (D:List Int) (f l:Nat) (h:(f+l)*64≤D.length):(PC D f l).length=l*64:=by
 unfold PC;rw [XU,Zd];omega
theorem Sq (w:World) (S:Int) :
    Calls Tryz.prog 16 #[.int .i64 S] w fun e w'=>e=.returned (.bool (decide (1≤S∧S≤64)))∧w'=w:=by
 by_cases h1:1≤S
 · by_cases h2:S≤64
   · go_enter Tryz.func16,Tryz.ntmps16
     go_wp2;go_ret;exact ⟨YS (by first | rfl | (symm;rw [Yt];exact ⟨h1,h2⟩)),rfl⟩
   have d2:decide (S≤64)=false:=by simpa using h2
   go_enter Tryz.func16,Tryz.ntmps16
   go_wp2;go_ret;exact ⟨YS (by first | rfl | (symm;rw [Mh];omega)),rfl⟩
 have d1:decide (1≤S)=false:=by simpa using h1
 go_enter Tryz.func16,Tryz.ntmps16
 go_wp2;go_ret;exact ⟨YS (by first | rfl | (symm;rw [Mh];omega)),rfl⟩
theorem VE (w:World) (S L:Int) :
    Calls Tryz.prog 9 #[.agg #[.int .i64 S,.int .i64 L]] w (YI w (.bool (YO S L))):=by
 have B0:Hid (ZX w (w.alloc (.cells #[.int .i64 S,.int .i64 L] 25))):=ZJ.alloc ZT _;obtain ⟨t,ht⟩:∃t,t=decide (1≤S∧S≤64):=⟨_,rfl⟩;obtain ⟨u,hu⟩:∃u,u=decide (1≤L∧L≤64):=⟨_,rfl⟩;have H:Hid (YO S L=(t && u)):=by show _=_;rw [ht,hu];rfl
 have V1:Hid (∀W,Calls Tryz.prog 16 #[.int .i64 S] W fun e w'=>e=.returned (.bool t)∧w'=W):=fun W=>by rw [ht];exact Sq W S
 have V2:Hid (∀W,Calls Tryz.prog 16 #[.int .i64 L] W fun e w'=>e=.returned (.bool u)∧w'=W):=fun W=>by rw [hu];exact Sq W L
 clear ht hu
 go_enter Tryz.func9,Tryz.ntmps9
 go_wp2_with fail
 cases t with
 | true =>
  refine (V1.out _).mono ?_;rintro e w1 ⟨rfl,rfl⟩
  go_wp2_with fail
  refine (V2.out _).mono ?_;rintro e w1 ⟨rfl,rfl⟩;go_wp2;go_ret;exact ⟨YS (by rw [H.out];simp),B0.out⟩
 | false =>
  refine (V1.out _).mono ?_;rintro e w1 ⟨rfl,rfl⟩;go_wp2;go_ret;exact ⟨YS (by rw [H.out];simp),B0.out⟩
theorem Tm (w:World) (S L:Int) (hS:1≤S) (hS2:S≤64) (hL:1≤L) (hL2:L≤64) :
    Calls Tryz.prog 92 #[.agg #[.int .i64 S,.int .i64 L]] w (YI w (.int .i64 (S+L))):=by
 have B0:Hid (ZX w (w.alloc (.cells #[.int .i64 S,.int .i64 L] 25))):=ZJ.alloc ZT _
 go_enter Tryz.func92,Tryz.ntmps92
 go_wp2;go_ret;exact ⟨rfl,B0.out⟩
theorem Tl (w:World) (S L:Int) (hS:1≤S) (hS2:S≤64) (hL:1≤L) (hL2:L≤64) :
    Calls Tryz.prog 45 #[.agg #[.int .i64 S,.int .i64 L]] w (YI w (.int .i64 (2+2*(S+L)))):=by
 have B0:Hid (ZX w (w.alloc (.cells #[.int .i64 S,.int .i64 L] 25))):=ZJ.alloc ZT _
 go_enter Tryz.func45,Tryz.ntmps45
 go_wp2_with fail
 refine (Tm _ S L hS hS2 hL hL2).mono ?_;rintro e w1 ⟨rfl,b1⟩;have B1:=Z3 (YV B0.out b1);clear b1 B0;go_wp2;go_ret;exact ⟨rfl,B1.out⟩
def VP (w:World) (ao bo:Option Addr) (dl ca n cb:Nat) (S L:Int) (W:World):Prop :=
 Hid (ZX w W∧Ya W w.heap.size (.slice ao dl ca) (.slice bo n cb)∧Ya W (w.heap.size+1) (.int .i64 S) (.int .i64 L)) ∧
  W.cell? ⟨w.heap.size,0,none⟩=some (.slice ao dl ca)∧W.cell? ⟨w.heap.size,1,none⟩=some (.slice bo n cb)∧W.cell? ⟨w.heap.size+1,0,none⟩=some (.int .i64 S)∧W.cell? ⟨w.heap.size+1,1,none⟩=some (.int .i64 L)
theorem VP.mk (h1:ZX w W) (h2:Ya W w.heap.size (.slice ao dl ca) (.slice bo n cb)) (h3:Ya W (w.heap.size+1) (.int .i64 S) (.int .i64 L)):VP w ao bo dl ca n cb S L W :=
 ⟨⟨h1,h2,h3⟩,h2.2.1,h2.2.2,h3.2.1,h3.2.2⟩
theorem VP.below (h:VP w ao bo dl ca n cb S L W) (hb:ZX W W'):VP w ao bo dl ca n cb S L W' :=
 VP.mk (h.1.out.1.trans (hb.mono h.1.out.1.size)) (h.1.out.2.1.below hb) (h.1.out.2.2.below hb)
theorem Sp (w:World) (ao bo:Option Addr) (dl ca n cb:Nat) (ps:List (Int × List Int)) (S L:Int) (hp:MZ w (.slice bo n cb) ps) (hl:ps.length=n) (hd1:dl≤1048576) (hn:n≤1048576) (Ot:∀i,(pD ps i).length≤1048576) :
    Calls Tryz.prog 36 #[.agg #[.slice ao dl ca,.slice bo n cb],.agg #[.int .i64 S,.int .i64 L]] w (YI w (.bool (NM S L dl ps))):=by
 have HP:=Z3 hp;have HL:=Z3 hl;have Cq:=Z3 Ot;have B0:Hid (ZX w ((w.alloc (.cells #[.slice ao dl ca,.slice bo n cb] 52)).alloc (.cells #[.int .i64 S,.int .i64 L] 25))):=(ZJ.alloc ZT _).alloc (by simp) _;have XD:Hid (Ya ((w.alloc (.cells #[.slice ao dl ca,.slice bo n cb] 52)).alloc (.cells #[.int .i64 S,.int .i64 L] 25)) w.heap.size (.slice ao dl ca) (.slice bo n cb)):=(Ya.new w _ _ _).below (ZJ.alloc ZT _);have XC:Hid (Ya ((w.alloc (.cells #[.slice ao dl ca,.slice bo n cb] 52)).alloc (.cells #[.int .i64 S,.int .i64 L] 25)) (w.heap.size+1) (.int .i64 S) (.int .i64 L)):=by
  have:=Ya.new (w.alloc (.cells #[.slice ao dl ca,.slice bo n cb] 52)) (.int .i64 S) (.int .i64 L) 25;show Ya _ _ _ _
  simpa using this
 obtain ⟨t,ht⟩:∃t,t=YO S L:=⟨_,rfl⟩;obtain ⟨u,hu⟩:∃u,u=Vf dl ps:=⟨_,rfl⟩;have H:Hid (NM S L dl ps=(t && (u && decide (((dl / 64:Nat):Int)=2+2*(S+L))))):=by show _=_;rw [ht,hu];rfl
 have HB:Hid (t=true→(1≤S∧S≤64)∧1≤L∧L≤64):=fun e=>(Zg S L).1 (ht ▸ e)
 have Q:Hid (∀W W',VP w ao bo dl ca n cb S L W→ZX W W'→VP w ao bo dl ca n cb S L W'):=fun W W' h1 h4=>h1.below h4
 have V1:Hid (∀W,Calls Tryz.prog 9 #[.agg #[.int .i64 S,.int .i64 L]] W (YI W (.bool t))):=fun W=>by rw [ht];exact VE W S L
 have V2:Hid (∀W,VP w ao bo dl ca n cb S L W→Calls Tryz.prog 80 #[.agg #[.slice ao dl ca,.slice bo n cb]] W (YI W (.bool u))):=fun W hW=>by rw [hu];exact UN W ao bo dl ca n cb ps (HP.out.below hW.1.out.1) HL.out hd1 hn Cq.out
 clear ht hu hp hl Ot
 go_enter Tryz.func36,Tryz.ntmps36
 go_wp2_with fail
 have S0:=Z3 (VP.mk B0.out XD.out XC.out);clear B0 XD XC;generalize (w.alloc _).alloc _=w0 at *
 cases t with
 | false =>
  refine ZH (S:=VP w ao bo dl ca n cb S L) (by kernel_rfl) (S0.out.below (below_drewN' w0 1)) (fun Z9=>?_);refine ZW ?_ (by kernel_rfl) (fun _=>id) Z9 ?_ ?_
  rotate_left
  · intro w9 Z0;obtain ⟨-,k0,k1,k2,k3⟩:=Z0;go_simp;try with_reducible rfl
  refine ZU 1 rfl (by kernel_rfl) (fun K hK=>?_);go_simp;refine (V1.out _).mono ?_;rintro e w1 ⟨rfl,b1⟩;have hN1:=Q.out _ _ Z9 b1;clear b1;clear Z9;refine hK.out _ _ (hN1) (fun Z9=>?_);clear hK K;refine ZW ?_ (by kernel_rfl) (fun _=>id) Z9 ?_ ?_
  rotate_left
  · intro w9 Z0;obtain ⟨-,k0,k1,k2,k3⟩:=Z0;go_simp;try with_reducible rfl
  iterate 2 (refine MU (by kernel_rfl) (fun _=>id) Z9 ?_)
  iterate 2 (refine ZW ?_ (by kernel_rfl) (fun _=>id) Z9 ?_ ?_;rotate_left;· intro w9 Z0;obtain ⟨-,k0,k1,k2,k3⟩:=Z0;go_simp;try with_reducible rfl)
  iterate 5 (refine MU (by kernel_rfl) (fun _=>id) Z9 ?_)
  iterate 2 (refine ZW ?_ (by kernel_rfl) (fun _=>id) Z9 ?_ ?_;rotate_left;· intro w9 Z0;obtain ⟨-,k0,k1,k2,k3⟩:=Z0;go_simp;try with_reducible rfl)
  refine ZP (by kernel_rfl) ?_ _
  try simp only [Act.put,Y8,Y7,Y6]
  have BE:=Z9.1;clear Z9;go_wp2;go_ret;exact ⟨YS (by rw [H.out];simp <;> rfl),BE.out.1⟩
 | true =>
  obtain ⟨⟨hS1,hS2⟩,hL1,hL2⟩:=HB.out rfl
  cases u with
  | false =>
   refine ZH (S:=VP w ao bo dl ca n cb S L) (by kernel_rfl) (S0.out.below (below_drewN' w0 1)) (fun Z9=>?_);refine ZW ?_ (by kernel_rfl) (fun _=>id) Z9 ?_ ?_
   rotate_left
   · intro w9 Z0;obtain ⟨-,k0,k1,k2,k3⟩:=Z0;go_simp;try with_reducible rfl
   refine ZU 1 rfl (by kernel_rfl) (fun K hK=>?_);go_simp;refine (V1.out _).mono ?_;rintro e w1 ⟨rfl,b1⟩;have hN1:=Q.out _ _ Z9 b1;clear b1;clear Z9;refine hK.out _ _ (hN1) (fun Z9=>?_);clear hK K
   iterate 2 (refine ZW ?_ (by kernel_rfl) (fun _=>id) Z9 ?_ ?_;rotate_left;· intro w9 Z0;obtain ⟨-,k0,k1,k2,k3⟩:=Z0;go_simp;try with_reducible rfl)
   refine ZU 4 rfl (by kernel_rfl) (fun K hK=>?_);go_simp;refine (V2.out _ Z9).mono ?_;rintro e w2 ⟨rfl,b2⟩;have uG:=Q.out _ _ Z9 b2;clear b2;clear Z9;refine hK.out _ _ (uG) (fun Z9=>?_);clear hK K
   iterate 2 (refine ZW ?_ (by kernel_rfl) (fun _=>id) Z9 ?_ ?_;rotate_left;· intro w9 Z0;obtain ⟨-,k0,k1,k2,k3⟩:=Z0;go_simp;try with_reducible rfl)
   iterate 5 (refine MU (by kernel_rfl) (fun _=>id) Z9 ?_)
   iterate 2 (refine ZW ?_ (by kernel_rfl) (fun _=>id) Z9 ?_ ?_;rotate_left;· intro w9 Z0;obtain ⟨-,k0,k1,k2,k3⟩:=Z0;go_simp;try with_reducible rfl)
   refine ZP (by kernel_rfl) ?_ _
   try simp only [Act.put,Y8,Y7,Y6]
   have BE:=Z9.1;clear Z9;go_wp2;go_ret;exact ⟨YS (by rw [H.out];simp <;> rfl),BE.out.1⟩
  | true =>
   refine ZH (S:=VP w ao bo dl ca n cb S L) (by kernel_rfl) (S0.out.below (below_drewN' w0 1)) (fun Z9=>?_);refine ZW ?_ (by kernel_rfl) (fun _=>id) Z9 ?_ ?_
   rotate_left
   · intro w9 Z0;obtain ⟨-,k0,k1,k2,k3⟩:=Z0;go_simp;try with_reducible rfl
   refine ZU 1 rfl (by kernel_rfl) (fun K hK=>?_);go_simp;refine (V1.out _).mono ?_;rintro e w1 ⟨rfl,b1⟩;have hN1:=Q.out _ _ Z9 b1;clear b1;clear Z9;refine hK.out _ _ (hN1) (fun Z9=>?_);clear hK K
   iterate 2 (refine ZW ?_ (by kernel_rfl) (fun _=>id) Z9 ?_ ?_;rotate_left;· intro w9 Z0;obtain ⟨-,k0,k1,k2,k3⟩:=Z0;go_simp;try with_reducible rfl)
   refine ZU 4 rfl (by kernel_rfl) (fun K hK=>?_);go_simp;refine (V2.out _ Z9).mono ?_;rintro e w2 ⟨rfl,b2⟩;have uG:=Q.out _ _ Z9 b2;clear b2;clear Z9;refine hK.out _ _ (uG) (fun Z9=>?_);clear hK K
   iterate 3 (refine ZW ?_ (by kernel_rfl) (fun _=>id) Z9 ?_ ?_;rotate_left;· intro w9 Z0;obtain ⟨-,k0,k1,k2,k3⟩:=Z0;go_simp;try with_reducible rfl)
   refine ZG 9 ?v49 rfl (by kernel_rfl) (fun _=>id) Z9 ?Zh ?_
   case Zh=>intro w9 Z0;obtain ⟨-,k0,k1,k2,k3⟩:=Z0;go_simp;try with_reducible rfl
   refine ZU 8 rfl (by kernel_rfl) (fun K hK=>?_);go_simp;refine (Wt _ ao dl ca _ hd1).mono ?_;rintro e w3 ⟨rfl,b3⟩;have Zf:=Q.out _ _ Z9 b3;clear b3;clear Z9;refine hK.out _ _ (Zf) (fun Z9=>?_);clear hK K;refine ZU 10 rfl (by kernel_rfl) (fun K hK=>?_);go_simp;refine (Tl _ S L hS1 hS2 hL1 hL2).mono ?_;rintro e w4 ⟨rfl,b4⟩;have LL:=Q.out _ _ Z9 b4;clear b4;clear Z9;refine hK.out _ _ (LL) (fun Z9=>?_);clear hK K
   iterate 3 (refine ZW ?_ (by kernel_rfl) (fun _=>id) Z9 ?_ ?_;rotate_left;· intro w9 Z0;obtain ⟨-,k0,k1,k2,k3⟩:=Z0;go_simp;try with_reducible rfl)
   refine ZP (by kernel_rfl) ?_ _
   try simp only [Act.put,Y8,Y7,Y6]
   have BE:=Z9.1;clear Z9;go_wp2;go_ret;exact ⟨YS (by rw [H.out];simp <;> rfl),BE.out.1⟩
theorem QX (S L:Int) (dl:Nat) (ps:List (Int × List Int)) (Za:Int):Im S L dl ps Za=true↔NM S L dl ps=true∧0≤Za∧Za≤1:=by
 unfold Im;simp only [Yg,Yt]
theorem kH {Za:Int} {log:Bool} (h:Im S L dl ps Za=true) :
    ∃f l:Nat,VJ S L Za log=f∧LM S L log=l∧2≤f∧1≤l∧l≤64∧f+l≤dl / 64∧(f+l)*64≤dl∧dl / 64≤258:=by
 obtain ⟨h1,h2,h3⟩:=(QX ..).1 h;obtain ⟨hc,hv,hn⟩:=(VQ ..).1 h1;obtain ⟨⟨hS1,hS2⟩,hL1,hL2⟩:=(Zg S L).1 hc;have hm:=((Wu _ _).1 hv).1;have hb:Za=0∨Za=1:=by omega
 refine ⟨(VJ S L Za log).toNat,(LM S L log).toNat,?_⟩;unfold VJ LM
 rcases hb with rfl | rfl <;> cases log <;> simp <;> omega
theorem VP.lt (h:VP w ao bo dl ca n cb S L W):w.heap.size+2≤W.heap.size:=h.1.out.2.2.1
theorem VP.new (w:World) (ao bo:Option Addr) (dl ca n cb:Nat) (S L:Int) (t1 t2:TypeId):VP w ao bo dl ca n cb S L ((w.alloc (.cells #[.slice ao dl ca,.slice bo n cb] t1)).alloc (.cells #[.int .i64 S,.int .i64 L] t2)):=by
 refine VP.mk ((ZJ.alloc ZT _).alloc (by simp) _) ((Ya.new w _ _ _).below (ZJ.alloc ZT _)) ?_;have:=Ya.new (w.alloc (.cells #[.slice ao dl ca,.slice bo n cb] t1)) (.int .i64 S) (.int .i64 L) t2
 simpa using this
structure Uz where
 g:Int
 b:Int
 s:Int
 l:Int
 c:Int
def tf (ys:List Int):Uz:=⟨nG ys,nB ys,nS ys,nL ys,nC ys⟩
def Kw (S:Int) (ys:List Int):Bool:=decide (Ss ys) && decide (nL ys≤S*64)
structure Dq where
 code:Int
 sp:Uz
 zx:Int
 ns:List Nd
 used:Int
 ops:Int
 ZQ:List Int
 ps:List (Int × List Int)
def oA (code:Int):Dq:=⟨code,⟨0,0,0,0,0⟩,0,[],0,0,[],[]⟩
def QW (log:List Int) (e:Nat):List Int:=log.take e++zeros (log.length - (log.take e).length)
def U9 (f:Int) (log want:List Int) (b:Nat):Nat→List (Int × List Int)
 | 0=>[]
 | n+1=>(if blk log b=blk want b then [] else [(f+b,blk want b)])++U9 f log want (b+1) n
def qG (r:Dq) (vt v1 v2:Value):Array Value:=#[.int .i64 r.code,.int .i64 r.sp.g,.int .i64 r.sp.b,.int .i64 r.sp.s,.int .i64 r.sp.l,.int .i64 r.sp.c,.int .i64 r.zx,vt,.int .i64 r.used,.int .i64 r.ops,v1,v2]
def FY (W:World) (b:Nat) (r:Dq) (vt v1 v2:Value):Prop:=W.heap[b]?=some (.cells (qG r vt v1 v2) 65 (0,0))
theorem FY.lt {b:Nat} {r:Dq} (h:FY W b r vt v1 v2):b<W.heap.size:=(Yh.1 h).1
theorem FY.below {b:Nat} {r:Dq} (h:FY W b r vt v1 v2) (hb:ZX W W'):FY W' b r vt v1 v2:=(hb.block _ h.lt).trans h
theorem FY.new (W:World) (r:Dq) (vt v1 v2:Value):FY (W.alloc (.cells (qG r vt v1 v2) 65)) W.heap.size r vt v1 v2:=Y9 W _
theorem FY.cells {b:Nat} {r:Dq} (h:FY W b r vt v1 v2):W.cell? ⟨b,0,none⟩=some (.int .i64 r.code)∧W.cell? ⟨b,1,none⟩=some (.int .i64 r.sp.g)∧W.cell? ⟨b,2,none⟩=some (.int .i64 r.sp.b)∧W.cell? ⟨b,3,none⟩=some (.int .i64 r.sp.s)∧W.cell? ⟨b,4,none⟩=some (.int .i64 r.sp.l)∧W.cell? ⟨b,5,none⟩=some (.int .i64 r.sp.c)∧W.cell? ⟨b,6,none⟩=some (.int .i64 r.zx)∧W.cell? ⟨b,7,none⟩=some vt∧W.cell? ⟨b,8,none⟩=some (.int .i64 r.used)∧W.cell? ⟨b,9,none⟩=some (.int .i64 r.ops)∧W.cell? ⟨b,10,none⟩=some v1∧W.cell? ⟨b,11,none⟩=some v2:=by
 refine ⟨?_,?_,?_,?_,?_,?_,?_,?_,?_,?_,?_,?_⟩ <;> (rw [cell_of h];rfl)
theorem LK {R:List Int} (h:Own .u8 5 w lo u R):Wc w lo w.heap.size u (.slice none 0 0) R [] (fun _=>.slice none 0 0) :=
 ⟨h,⟨Zl _ _ _ _,fun i hi=>by simp at hi,fun i j hi=>by simp at hi,fun i hi=>by simp at hi⟩,fun g hg=>(h.lt g hg).2,fun g hg=>by simp [Value.ownBlock] at hg,fun i hi=>by simp at hi,.inl rfl,fun i hi=>by simp at hi⟩
theorem Uy (older:List PanicEntry) (w:World) :
    CallsD Tryz.prog 173 #[] (.panicking ({ v:=.iface 296 (.agg #[]),recovered:=false } :: older)) w fun e u' w' =>
     e=.returned (.tuple #[])∧u'=.panicking ({ v:=.iface 296 (.agg #[]),recovered:=true } :: older)∧ZX w w':=by
 refine Jl Tryz.func173 rfl fun c₀ cs hu=>?_
 apply Mb
 simp [wpOpsS,go_sem,recoverD,hu,Tryz.ntmps173]
 refine (Dy w).mono ?_;rintro e w' ⟨rfl,bw⟩
 simp_all [bodyPostS,results,Tryz.results173]
theorem NI (w:World) :
    CallsD Tryz.prog 173 #[] .returning w fun e u' w'=>e=.returned (.tuple #[])∧u'=.returning∧w'=w:=by
 refine Jl Tryz.func173 rfl fun c₀ cs hu=>?_
 apply Mb
 simp [wpOpsS,go_sem,recoverD,hu,Tryz.ntmps173]
 refine (Dz w).mono ?_;rintro e w' ⟨rfl,rfl⟩
 cases c₀
 simp_all [bodyPostS,results,Tryz.results173]
def zeroV:Value:=.agg #[.bool false,.int .i64 0,.int .i64 0,.int .i64 0,.int .i64 0,.int .i64 0]
def Zr (W:World) (k:Nat):Prop :=
 W.cell? ⟨k,0,none⟩=some (.bool false)∧W.cell? ⟨k,1,none⟩=some (.int .i64 0)∧W.cell? ⟨k,2,none⟩=some (.int .i64 0)∧W.cell? ⟨k,3,none⟩=some (.int .i64 0)∧W.cell? ⟨k,4,none⟩=some (.int .i64 0)∧W.cell? ⟨k,5,none⟩=some (.int .i64 0)
theorem Zr.same (h:Zr W k) (he:∀j,W'.cell? ⟨k,j,none⟩=W.cell? ⟨k,j,none⟩):Zr W' k:=by
 obtain ⟨h0,h1,h2,h3,h4,h5⟩:=h;exact ⟨(he 0).trans h0,(he 1).trans h1,(he 2).trans h2,(he 3).trans h3,(he 4).trans h4,(he 5).trans h5⟩
def DS (w W:World) (zs:List Int) (g b s l c:Int):Prop :=
 RS w W (w.heap.size+1) zs∧Zr W w.heap.size∧qH W (w.heap.size+1+1) g b s l c∧(∀j,W.frozen? ⟨w.heap.size+1+1,j,none⟩=false)∧∀j,W.frozen? ⟨w.heap.size,j,none⟩=false
theorem DS.below (h:DS w W zs g b s l c):ZX w W:=h.1.2.2.2.1
theorem DS.number {zs':List Int} {v':Value} {q:Nat} (h:DS w W zs g b s l c) (hr:RS w ((W.setCell ⟨w.heap.size+1,0,none⟩ v').drewN q) (w.heap.size+1) zs'):DS w ((W.setCell ⟨w.heap.size+1,0,none⟩ v').drewN q) zs' g b s l c:=by
 obtain ⟨-,hz,hx,hf,hf0⟩:=h;refine ⟨hr,?_,?_,?_,?_⟩
 · exact Zr.same hz (fun j=>Zs _ _ _ _ (by intro e;injection e with e;omega))
 · obtain ⟨x0,x1,x2,x3,x4,x5⟩:=hx
   have e:∀j,((W.setCell ⟨w.heap.size+1,0,none⟩ v').drewN q).cell? ⟨w.heap.size+1+1,j,none⟩=W.cell? ⟨w.heap.size+1+1,j,none⟩:=fun j=>Zs _ _ _ _ (by intro e;injection e with e;omega)
   exact ⟨by show _<(W.setCell _ _).heap.size;simpa using x0,(e 0).trans x1,(e 1).trans x2,(e 2).trans x3,(e 3).trans x4,(e 4).trans x5⟩
 · intro j;show (W.setCell _ _).frozen? _=false;rw [WU];exact hf j
 intro j;show (W.setCell _ _).frozen? _=false;rw [WU];exact hf0 j
theorem DS.put {g' b' s' l' c':Int} (i:Nat) (z:Int) (h:DS w W zs g b s l c)
    (hx:qH (W.setCell ⟨w.heap.size+1+1,i,none⟩ (.int .i64 z)) (w.heap.size+1+1) g' b' s' l' c'):DS w (W.setCell ⟨w.heap.size+1+1,i,none⟩ (.int .i64 z)) zs g' b' s' l' c':=by
 obtain ⟨⟨r1,r2,r3,r4,v,r5,r6⟩,hz,-,hf,hf0⟩:=h;refine ⟨⟨r1,by simpa using r2,by rw [WU];exact r3,r4.setCell (by show _≤w.heap.size+1+1;omega) _,v,?_,r6⟩,?_,hx,?_,?_⟩
 · rw [Zs _ _ _ _ (by intro e;injection e with e;omega)];exact r5
 · exact Zr.same hz (fun j=>Zs _ _ _ _ (by intro e;injection e with e;omega))
 · intro j;rw [WU];exact hf j
 intro j;rw [WU];exact hf0 j
theorem DS.oK (z:Int) (h:DS w W zs g b s l c):DS w (W.setCell ⟨w.heap.size+1+1,0,none⟩ (.int .i64 z)) zs z b s l c:=by
 obtain ⟨x0,x1,x2,x3,x4,x5⟩:=h.2.2.1;exact h.put 0 z ⟨by simpa using x0,Xo _ _ _ x1,(Zs _ _ _ _ (by intro e;injection e with _ e;omega)).trans x2,(Zs _ _ _ _ (by intro e;injection e with _ e;omega)).trans x3,(Zs _ _ _ _ (by intro e;injection e with _ e;omega)).trans x4,(Zs _ _ _ _ (by intro e;injection e with _ e;omega)).trans x5⟩
theorem DS.oJ (z:Int) (h:DS w W zs g b s l c):DS w (W.setCell ⟨w.heap.size+1+1,1,none⟩ (.int .i64 z)) zs g z s l c:=by
 obtain ⟨x0,x1,x2,x3,x4,x5⟩:=h.2.2.1;exact h.put 1 z ⟨by simpa using x0,(Zs _ _ _ _ (by intro e;injection e with _ e;omega)).trans x1,Xo _ _ _ x2,(Zs _ _ _ _ (by intro e;injection e with _ e;omega)).trans x3,(Zs _ _ _ _ (by intro e;injection e with _ e;omega)).trans x4,(Zs _ _ _ _ (by intro e;injection e with _ e;omega)).trans x5⟩
theorem DS.oI (z:Int) (h:DS w W zs g b s l c):DS w (W.setCell ⟨w.heap.size+1+1,2,none⟩ (.int .i64 z)) zs g b z l c:=by
 obtain ⟨x0,x1,x2,x3,x4,x5⟩:=h.2.2.1;exact h.put 2 z ⟨by simpa using x0,(Zs _ _ _ _ (by intro e;injection e with _ e;omega)).trans x1,(Zs _ _ _ _ (by intro e;injection e with _ e;omega)).trans x2,Xo _ _ _ x3,(Zs _ _ _ _ (by intro e;injection e with _ e;omega)).trans x4,(Zs _ _ _ _ (by intro e;injection e with _ e;omega)).trans x5⟩
theorem DS.oH (z:Int) (h:DS w W zs g b s l c):DS w (W.setCell ⟨w.heap.size+1+1,3,none⟩ (.int .i64 z)) zs g b s z c:=by
 obtain ⟨x0,x1,x2,x3,x4,x5⟩:=h.2.2.1;exact h.put 3 z ⟨by simpa using x0,(Zs _ _ _ _ (by intro e;injection e with _ e;omega)).trans x1,(Zs _ _ _ _ (by intro e;injection e with _ e;omega)).trans x2,(Zs _ _ _ _ (by intro e;injection e with _ e;omega)).trans x3,Xo _ _ _ x4,(Zs _ _ _ _ (by intro e;injection e with _ e;omega)).trans x5⟩
theorem DS.oG (z:Int) (h:DS w W zs g b s l c):DS w (W.setCell ⟨w.heap.size+1+1,4,none⟩ (.int .i64 z)) zs g b s l z:=by
 obtain ⟨x0,x1,x2,x3,x4,x5⟩:=h.2.2.1;exact h.put 4 z ⟨by simpa using x0,(Zs _ _ _ _ (by intro e;injection e with _ e;omega)).trans x1,(Zs _ _ _ _ (by intro e;injection e with _ e;omega)).trans x2,(Zs _ _ _ _ (by intro e;injection e with _ e;omega)).trans x3,(Zs _ _ _ _ (by intro e;injection e with _ e;omega)).trans x4,Xo _ _ _ x5⟩
theorem DS.start (w:World) (ao:Option Addr) (ys:List Int) (cap:Nat) (h:Rd .u8 w (.slice ao ys.length cap) ys) :
    DS w (((w.alloc (.cells #[.bool false,.int .i64 0,.int .i64 0,.int .i64 0,.int .i64 0,.int .i64 0] 97)).alloc (.cells #[.slice ao ys.length cap] 256)).alloc (.cells #[.int .i64 0,.int .i64 0,.int .i64 0,.int .i64 0,.int .i64 0] 60)) ys 0 0 0 0 0:=by
 refine ⟨⟨by omega,by simp,(by go_simp),((ZJ.alloc ZT _).alloc (by simp) _).alloc (by simp;omega) _,_,(by go_simp),h⟩,⟨(by go_simp),(by go_simp),(by go_simp),(by go_simp),(by go_simp),(by go_simp)⟩,⟨by simp,(by go_simp),(by go_simp),(by go_simp),(by go_simp),(by go_simp)⟩,fun j=>(by go_simp),fun j=>(by go_simp)⟩
theorem Ux (h:ys.length<21):KO ys=zeroV:=by
 unfold KO;rw [Z1 (fun h'=>by have:=h'.1;omega)];rfl
theorem DS.keep (h:DS w W zs g b s l c) (hb:ZX W W'):DS w W' zs g b s l c:=by
 have hs:=h.2.2.1.1;obtain ⟨hr,hz,hx,hf,hf0⟩:=h;exact ⟨hr.keep hb hr.2.1,Zr.same hz (fun j=>hb.cell (p:=⟨w.heap.size,j,none⟩) (by show w.heap.size<_;omega)),hx.below hb hs,fun j=>(hb.frozen (p:=⟨w.heap.size+1+1,j,none⟩) hs).trans (hf j),fun j=>(hb.frozen (p:=⟨w.heap.size,j,none⟩) (by show w.heap.size<_;omega)).trans (hf0 j)⟩
theorem s8 (g b s l c:Int):Wm (sup g b s l c):=by
 unfold sup
 split
 · unfold Ck
   intro x hx
   simp only [XP] at hx
   rcases hx with (((((hx | hx) | hx) | hx) | hx) | hx) | hx
   · exact WQ _ _ x hx
   · exact WQ _ _ x hx
   · exact WQ _ _ x hx
   · exact WQ _ _ x hx
   · exact WQ _ _ x hx
   · have:=ll hx;omega
   exact WQ _ _ x hx
 intro x hx;cases hx
theorem wrap_small (h:Wm ys) (n:Nat) (hn:n≤4):wrap64 ((Xl (ys.take n):Nat):Int)=((Xl (ys.take n):Nat):Int):=by
 have hb:=(Ql (ys.take n).length (ys.take n) rfl (fun x hx=>h x (Ms hx))).2;have h1:256 ^ (ys.take n).length≤256 ^ 4:=Jr (by omega) (by rw [XU];omega);have h2:Xl (ys.take n)<4294967296:=ZL hb h1;unfold wrap64;omega
theorem oz (h:Wm ys) (hl:21≤ys.length) {z0 z1 z2 z3 z4:Int} (h0:z0=wrap64 ((Xl (ys.take 8):Nat):Int)) (h1:z1=wrap64 ((Xl ((ys.drop 8).take 1):Nat):Int))
    (h2:z2=wrap64 ((Xl ((ys.drop 9).take 4):Nat):Int)) (h3:z3=wrap64 ((Xl ((ys.drop 13).take 4):Nat):Int)) (h4:z4=wrap64 ((Xl ((ys.drop 17).take 4):Nat):Int)) :
    KO ys=if sup z0 z1 z2 z3 z4=ys then .agg #[.bool true,.int .i64 z0,.int .i64 z1,.int .i64 z2,.int .i64 z3,.int .i64 z4] else zeroV:=by
 have hd:∀k,Wm (ys.drop k):=fun k x hx=>h x (Ry hx)
 rw [wrap_small (hd 8) 1 (by omega)] at h1;rw [wrap_small (hd 9) 4 (by omega)] at h2;rw [wrap_small (hd 13) 4 (by omega)] at h3;rw [wrap_small (hd 17) 4 (by omega)] at h4;have e0:z0=nG ys:=h0;have e1:z1=nB ys:=h1;have e2:z2=nS ys:=h2;have e3:z3=nL ys:=h3;have e4:z4=nC ys:=h4;rw [e0,e1,e2,e3,e4];unfold KO
 by_cases hs:sup (nG ys) (nB ys) (nS ys) (nL ys) (nC ys)=ys
 · rw [ZZ hs,ZZ (show Ss ys from ⟨Cj hs (fun e=>by rw [e] at hl;simp at hl),hs⟩)]
 rw [Z1 hs,Z1 (show ¬Ss ys from fun h=>hs h.2)];rfl
theorem Il (w:World) (v:Value) (ys:List Int) (h:Rd .u8 w v ys) (hby:Wm ys) :
    Calls Tryz.prog 132 #[v] w fun e w'=>e=.returned (KO ys)∧ZX w w':=by
 obtain ⟨ao,cap,rfl,-,-⟩:=h.len;have HR:=Z3 h;have Og:=Z3 hby
 have D0:=Z3 (DS.start w ao ys cap h);clear h hby
 have hm:=eM
 go_enter_defers Tryz.func132,Tryz.ntmps132
 go_wp2_with fail
 generalize (((w.alloc _).alloc _).alloc _)=W0 at *
 by_cases hl0:8≤ys.length
 rotate_left
 · refine (Yp w _ (w.heap.size+1) 8 (ys) D0.out.1 (by omega)).mono ?_
   rintro e W ⟨rfl,rfl⟩;refine Vv (f:=173) (args:=#[]) (by simp) (by simp [go_sem]) ?_;refine (Uy [] _).mono ?_;rintro e u' w2 ⟨rfl,rfl,b2⟩;have Z2:=Zr.same D0.out.2.1 (fun q=>b2.cell (p:=⟨w.heap.size,q,none⟩) (by have:=D0.out.1.2.1;show w.heap.size<_;omega));obtain ⟨z0,z1,z2,z3,z4,z5⟩:=Z2;rw [Ux (by omega)];have B2:=D0.out.below.trans (b2.mono D0.out.below.size)
   simp [Leaves,settle,results,Tryz.results132,go_sem,z0,z1,z2,z3,z4,z5,B2,zeroV]
 refine (XY w _ (w.heap.size+1) 8 (ys) D0.out.1 (by omega) (by omega) (by omega) (Og.out)).mono ?_;rintro e W ⟨rfl,hr,v',q,rfl⟩;have G:Hid (DS w ((W0.setCell ⟨w.heap.size+1,0,none⟩ v').drewN q) (ys.drop 8) 0 0 0 0 0):=by
  have:=D0.out.number hr;exact this
 clear hr;generalize (W0.setCell _ _).drewN q=V0 at *;obtain ⟨z0,hz0⟩:∃z,z=(wrap64 ((Xl ((ys).take 8):Nat):Int)):=⟨_,rfl⟩;rw [←hz0];have HZ0:=Z3 hz0;clear hz0 D0;obtain ⟨y0,y1,y2,y3,y4,y5⟩:=G.out.2.2.1;have yf:=G.out.2.2.2.1 0;have D1:=Z3 (G.out.oK z0)
 go_wp2_with fail
 clear y0 y1 y2 y3 y4 y5 yf G;generalize V0.setCell _ _=W1 at *
 by_cases hl1:9≤ys.length
 rotate_left
 · refine (Yp w _ (w.heap.size+1) 1 (ys.drop 8) D1.out.1 (by rw [Zd];omega)).mono ?_
   rintro e W ⟨rfl,rfl⟩;refine Vv (f:=173) (args:=#[]) (by simp) (by simp [go_sem]) ?_;refine (Uy [] _).mono ?_;rintro e u' w2 ⟨rfl,rfl,b2⟩;have Z2:=Zr.same D1.out.2.1 (fun q=>b2.cell (p:=⟨w.heap.size,q,none⟩) (by have:=D1.out.1.2.1;show w.heap.size<_;omega));obtain ⟨z0,z1,z2,z3,z4,z5⟩:=Z2;rw [Ux (by omega)];have B2:=D1.out.below.trans (b2.mono D1.out.below.size)
   simp [Leaves,settle,results,Tryz.results132,go_sem,z0,z1,z2,z3,z4,z5,B2,zeroV]
 refine (XY w _ (w.heap.size+1) 1 (ys.drop 8) D1.out.1 (by rw [Zd];omega) (by omega) (by omega) (fun x hx=>Og.out x (Ry hx))).mono ?_;rintro e W ⟨rfl,hr,v',q,rfl⟩;have F:Hid (DS w ((W1.setCell ⟨w.heap.size+1,0,none⟩ v').drewN q) (ys.drop 9) z0 0 0 0 0):=by
  have:=D1.out.number hr;rw [Rz] at this;exact this
 clear hr;generalize (W1.setCell _ _).drewN q=V1 at *;obtain ⟨z1,hz1⟩:∃z,z=(wrap64 ((Xl ((ys.drop 8).take 1):Nat):Int)):=⟨_,rfl⟩;rw [←hz1];have HZ1:=Z3 hz1;clear hz1 D1;obtain ⟨y0,y1,y2,y3,y4,y5⟩:=F.out.2.2.1;have yf:=F.out.2.2.2.1 1;have D2:=Z3 (F.out.oJ z1)
 go_wp2_with fail
 clear y0 y1 y2 y3 y4 y5 yf F;generalize V1.setCell _ _=W2 at *
 by_cases hl2:13≤ys.length
 rotate_left
 · refine (Yp w _ (w.heap.size+1) 4 (ys.drop 9) D2.out.1 (by rw [Zd];omega)).mono ?_
   rintro e W ⟨rfl,rfl⟩;refine Vv (f:=173) (args:=#[]) (by simp) (by simp [go_sem]) ?_;refine (Uy [] _).mono ?_;rintro e u' w2 ⟨rfl,rfl,b2⟩;have Z2:=Zr.same D2.out.2.1 (fun q=>b2.cell (p:=⟨w.heap.size,q,none⟩) (by have:=D2.out.1.2.1;show w.heap.size<_;omega));obtain ⟨z0,z1,z2,z3,z4,z5⟩:=Z2;rw [Ux (by omega)];have B2:=D2.out.below.trans (b2.mono D2.out.below.size)
   simp [Leaves,settle,results,Tryz.results132,go_sem,z0,z1,z2,z3,z4,z5,B2,zeroV]
 refine (XY w _ (w.heap.size+1) 4 (ys.drop 9) D2.out.1 (by rw [Zd];omega) (by omega) (by omega) (fun x hx=>Og.out x (Ry hx))).mono ?_;rintro e W ⟨rfl,hr,v',q,rfl⟩;have E:Hid (DS w ((W2.setCell ⟨w.heap.size+1,0,none⟩ v').drewN q) (ys.drop 13) z0 z1 0 0 0):=by
  have:=D2.out.number hr;rw [Rz] at this;exact this
 clear hr;generalize (W2.setCell _ _).drewN q=V2 at *;obtain ⟨z2,hz2⟩:∃z,z=(wrap64 ((Xl ((ys.drop 9).take 4):Nat):Int)):=⟨_,rfl⟩;rw [←hz2];have HZ2:=Z3 hz2;clear hz2 D2;obtain ⟨y0,y1,y2,y3,y4,y5⟩:=E.out.2.2.1;have yf:=E.out.2.2.2.1 2;have D3:=Z3 (E.out.oI z2)
 go_wp2_with fail
 clear y0 y1 y2 y3 y4 y5 yf E;generalize V2.setCell _ _=W3 at *
 by_cases hl3:17≤ys.length
 rotate_left
 · refine (Yp w _ (w.heap.size+1) 4 (ys.drop 13) D3.out.1 (by rw [Zd];omega)).mono ?_
   rintro e W ⟨rfl,rfl⟩;refine Vv (f:=173) (args:=#[]) (by simp) (by simp [go_sem]) ?_;refine (Uy [] _).mono ?_;rintro e u' w2 ⟨rfl,rfl,b2⟩;have Z2:=Zr.same D3.out.2.1 (fun q=>b2.cell (p:=⟨w.heap.size,q,none⟩) (by have:=D3.out.1.2.1;show w.heap.size<_;omega));obtain ⟨z0,z1,z2,z3,z4,z5⟩:=Z2;rw [Ux (by omega)];have B2:=D3.out.below.trans (b2.mono D3.out.below.size)
   simp [Leaves,settle,results,Tryz.results132,go_sem,z0,z1,z2,z3,z4,z5,B2,zeroV]
 refine (XY w _ (w.heap.size+1) 4 (ys.drop 13) D3.out.1 (by rw [Zd];omega) (by omega) (by omega) (fun x hx=>Og.out x (Ry hx))).mono ?_;rintro e W ⟨rfl,hr,v',q,rfl⟩;have d:Hid (DS w ((W3.setCell ⟨w.heap.size+1,0,none⟩ v').drewN q) (ys.drop 17) z0 z1 z2 0 0):=by
  have:=D3.out.number hr;rw [Rz] at this;exact this
 clear hr;generalize (W3.setCell _ _).drewN q=V3 at *;obtain ⟨z3,hz3⟩:∃z,z=(wrap64 ((Xl ((ys.drop 13).take 4):Nat):Int)):=⟨_,rfl⟩;rw [←hz3];have HZ3:=Z3 hz3;clear hz3 D3;obtain ⟨y0,y1,y2,y3,y4,y5⟩:=d.out.2.2.1;have yf:=d.out.2.2.2.1 3;have D4:=Z3 (d.out.oH z3)
 go_wp2_with fail
 clear y0 y1 y2 y3 y4 y5 yf d;generalize V3.setCell _ _=W4 at *
 by_cases hl4:21≤ys.length
 rotate_left
 · refine (Yp w _ (w.heap.size+1) 4 (ys.drop 17) D4.out.1 (by rw [Zd];omega)).mono ?_
   rintro e W ⟨rfl,rfl⟩;refine Vv (f:=173) (args:=#[]) (by simp) (by simp [go_sem]) ?_;refine (Uy [] _).mono ?_;rintro e u' w2 ⟨rfl,rfl,b2⟩;have Z2:=Zr.same D4.out.2.1 (fun q=>b2.cell (p:=⟨w.heap.size,q,none⟩) (by have:=D4.out.1.2.1;show w.heap.size<_;omega));obtain ⟨z0,z1,z2,z3,z4,z5⟩:=Z2;rw [Ux (by omega)];have B2:=D4.out.below.trans (b2.mono D4.out.below.size)
   simp [Leaves,settle,results,Tryz.results132,go_sem,z0,z1,z2,z3,z4,z5,B2,zeroV]
 refine (XY w _ (w.heap.size+1) 4 (ys.drop 17) D4.out.1 (by rw [Zd];omega) (by omega) (by omega) (fun x hx=>Og.out x (Ry hx))).mono ?_;rintro e W ⟨rfl,hr,v',q,rfl⟩;have Z':Hid (DS w ((W4.setCell ⟨w.heap.size+1,0,none⟩ v').drewN q) (ys.drop 21) z0 z1 z2 z3 0):=by
  have:=D4.out.number hr;rw [Rz] at this;exact this
 clear hr;generalize (W4.setCell _ _).drewN q=V4 at *;obtain ⟨z4,qO⟩:∃z,z=(wrap64 ((Xl ((ys.drop 17).take 4):Nat):Int)):=⟨_,rfl⟩;rw [←qO];have ii:=Z3 qO;clear qO D4;obtain ⟨y0,y1,y2,y3,y4,y5⟩:=Z'.out.2.2.1;have yf:=Z'.out.2.2.2.1 4;have D5:=Z3 (Z'.out.oG z4)
 go_wp2_with fail
 clear y0 y1 y2 y3 y4 y5 yf Z';generalize V4.setCell _ _=W5 at *;have Z8:=Z3 (oz Og.out hl4 HZ0.out HZ1.out HZ2.out HZ3.out ii.out);refine (UL _ z0 z1 z2 z3 z4).mono ?_;rintro e W6 ⟨v6,rfl,o6,b6⟩;have s5:=D5.out.1.2.1;have YL:=D5.out.2.2.1.1;have D6:=Z3 (D5.out.keep b6);have O6:=Z3 o6;have BY:=Z3 (HR.out.below D6.out.below);clear o6 b6 D5
 go_wp2_with fail
 refine (OJ _ _ _ (sup z0 z1 z2 z3 z4) ys O6.out.rd BY.out (s8 _ _ _ _ _) Og.out).mono ?_;rintro e W7 ⟨rfl,rfl⟩;obtain ⟨y0,y1,y2,y3,y4,y5⟩:=D6.out.2.2.1;obtain ⟨x0,x1,x2,x3,x4,x5⟩:=D6.out.2.1;have f0:=D6.out.2.2.2.2 0;have f1:=D6.out.2.2.2.2 1;have f2:=D6.out.2.2.2.2 2;have f3:=D6.out.2.2.2.2 3;have f4:=D6.out.2.2.2.2 4;have f5:=D6.out.2.2.2.2 5;have BB:=Z3 D6.out.below
 by_cases hd:sup z0 z1 z2 z3 z4=ys
 · have O:Hid (KO ys=.agg #[.bool true,.int .i64 z0,.int .i64 z1,.int .i64 z2,.int .i64 z3,.int .i64 z4]):=by show _=_;rw [Z8.out,ZZ hd]
   rw [Y3 hd];clear hd Z8;go_wp2;refine Vv (f:=173) (args:=#[]) (by simp) (by simp [go_sem]) ?_;refine (NI _).mono ?_;rintro e u' w2 ⟨rfl,rfl,rfl⟩;rw [O.out];have BW:=(((((BB.out.setCell (p:=⟨w.heap.size,0,none⟩) ZT (.bool true)).setCell (p:=⟨w.heap.size,1,none⟩) ZT (.int .i64 z0)).setCell (p:=⟨w.heap.size,2,none⟩) ZT (.int .i64 z1)).setCell (p:=⟨w.heap.size,3,none⟩) ZT (.int .i64 z2)).setCell (p:=⟨w.heap.size,4,none⟩) ZT (.int .i64 z3)).setCell (p:=⟨w.heap.size,5,none⟩) ZT (.int .i64 z4)
   simp [Leaves,settle,results,Tryz.results132,go_sem,x0,x1,x2,x3,x4,x5,BW]
 have O:Hid (KO ys=zeroV):=by show _=_;rw [Z8.out,Z1 hd]
 rw [YW hd];clear hd Z8;go_wp2;refine Vv (f:=173) (args:=#[]) (by simp) (by simp [go_sem]) ?_;refine (NI _).mono ?_;rintro e u' w2 ⟨rfl,rfl,rfl⟩;rw [O.out];have BW:=(((((BB.out.setCell (p:=⟨w.heap.size,0,none⟩) ZT (.bool false)).setCell (p:=⟨w.heap.size,1,none⟩) ZT (.int .i64 0)).setCell (p:=⟨w.heap.size,2,none⟩) ZT (.int .i64 0)).setCell (p:=⟨w.heap.size,3,none⟩) ZT (.int .i64 0)).setCell (p:=⟨w.heap.size,4,none⟩) ZT (.int .i64 0)).setCell (p:=⟨w.heap.size,5,none⟩) ZT (.int .i64 0)
 simp [Leaves,settle,results,Tryz.results132,go_sem,x0,x1,x2,x3,x4,x5,BW,zeroV]
def TP (w:World) (S L:Int) (W:World):Prop :=
 Hid (ZX w W∧Ya W w.heap.size (.int .i64 S) (.int .i64 L)∧∃x y,WI W (w.heap.size+1) x y)∧W.cell? ⟨w.heap.size,0,none⟩=some (.int .i64 S)∧W.cell? ⟨w.heap.size,1,none⟩=some (.int .i64 L)
theorem TP.below (h:TP w S L W) (hb:ZX W W'):TP w S L W':=by
 obtain ⟨x,y,hx⟩:=h.1.out.2.2;exact ⟨⟨h.1.out.1.trans (hb.mono h.1.out.1.size),h.1.out.2.1.below hb,x,y,hx.below hb⟩,(h.1.out.2.1.below hb).2.1,(h.1.out.2.1.below hb).2.2⟩
theorem TP.new (w:World) (S L:Int) (t1 t2:TypeId):TP w S L ((w.alloc (.cells #[.int .i64 S,.int .i64 L] t1)).alloc (.cells #[.int .i64 0,.int .i64 0] t2)):=by
 have h1:=(Ya.new w (.int .i64 S) (.int .i64 L) t1).below (ZJ.alloc ZT (.cells #[.int .i64 0,.int .i64 0] t2));have h2:=WI.new (w.alloc (.cells #[.int .i64 S,.int .i64 L] t1)) (.int .i64 0) (.int .i64 0) t2;exact ⟨⟨(ZJ.alloc ZT _).alloc (by simp) _,h1,_,_,by simpa using h2⟩,h1.2.1,h1.2.2⟩
theorem WI.stored {b:Nat} {x y:Value} (h:WI W b x y) (u v:Value):WI ((W.setCell ⟨b,0,none⟩ u).setCell ⟨b,1,none⟩ v) b u v:=by
 obtain ⟨⟨z,c0,c1⟩,f0,f1⟩:=h;exact ⟨⟨by simpa using z,by go_simp,by go_simp⟩,by simpa using f0,by simpa using f1⟩
theorem TP.stored (h:TP w S L W) (u v:Value):Ya ((W.setCell ⟨w.heap.size+1,0,none⟩ u).setCell ⟨w.heap.size+1,1,none⟩ v) (w.heap.size+1) u v:=by
 obtain ⟨x,y,hx⟩:=h.1.out.2.2;exact (hx.stored u v).1
theorem TP.store (h:TP w S L W) (u v:Value):TP w S L ((W.setCell ⟨w.heap.size+1,0,none⟩ u).setCell ⟨w.heap.size+1,1,none⟩ v):=by
 obtain ⟨x,y,hx⟩:=h.1.out.2.2;have hb:Below (w.heap.size+1) W ((W.setCell ⟨w.heap.size+1,0,none⟩ u).setCell ⟨w.heap.size+1,1,none⟩ v):=by
  refine Below.setCell (Below.setCell ZJ ?_ _) ?_ _ <;> exact ZT
 have b1:=h.1.out.2.1;have b2:Ya ((W.setCell ⟨w.heap.size+1,0,none⟩ u).setCell ⟨w.heap.size+1,1,none⟩ v) w.heap.size (.int .i64 S) (.int .i64 L):=⟨ZL b1.1 hb.size,(hb.cell (p:=⟨w.heap.size,0,none⟩) (by show w.heap.size<_;omega)).trans b1.2.1,(hb.cell (p:=⟨w.heap.size,1,none⟩) (by show w.heap.size<_;omega)).trans b1.2.2⟩;exact ⟨⟨h.1.out.1.trans (hb.mono (by omega)),b2,u,v,hx.stored u v⟩,b2.2.1,b2.2.2⟩
theorem Ws (w:World) (S L Za:Int) (hc:YO S L=true) (hb:0≤Za∧Za≤1) :
    Calls Tryz.prog 49 #[.agg #[.int .i64 S,.int .i64 L],.int .i64 Za] w (YI w (.agg #[.int .i64 (VJ S L Za false),.int .i64 (LM S L false)])):=by
 obtain ⟨⟨hS1,hS2⟩,hL1,hL2⟩:=(Zg S L).1 hc;clear hc;have hb':Za=0∨Za=1:=by omega
 have HA:Hid (VJ S L Za false=2+Za*(S+L)∧LM S L false=S):=by unfold VJ LM;exact ⟨by simp,rfl⟩
 have hm:0≤Za*(S+L)∧Za*(S+L)≤128:=by rcases hb' with rfl | rfl <;> omega
 rw [HA.out.1,HA.out.2]
 go_enter Tryz.func49,Tryz.ntmps49
 go_wp2_with fail
 have F0:Hid (TP w S L ((w.alloc (.cells #[.int .i64 S,.int .i64 L] 25)).alloc (.cells #[.int .i64 0,.int .i64 0] 111))):=TP.new _ _ _ _ _;generalize (w.alloc _).alloc _=w0 at *;refine ZH (S:=TP w S L) (by kernel_rfl) (F0.out.below (below_drewN' w0 1)) (fun Z9=>?_)
 iterate 2 (refine ZW ?_ (by kernel_rfl) (fun _=>id) Z9 ?_ ?_;rotate_left;· intro w9 Z0;obtain ⟨-,k0,k1⟩:=Z0;go_simp;try with_reducible rfl)
 refine ZG 5 ?v11 rfl (by kernel_rfl) (fun _=>id) Z9 ?NH ?_
 case NH=>intro w9 Z0;obtain ⟨-,k0,k1⟩:=Z0;go_simp;try with_reducible rfl
 refine ZG 6 ?v12 rfl (by kernel_rfl) (fun _=>id) Z9 ?Fh ?_
 case Fh=>intro w9 Z0;obtain ⟨-,k0,k1⟩:=Z0;go_simp;try with_reducible rfl
 refine ZU 2 rfl (by kernel_rfl) (fun K hK=>?_);go_simp;refine (Tm _ S L hS1 hS2 hL1 hL2).mono ?_;rintro e w2 ⟨rfl,b2⟩;have F2:=Z3 (Z9.below b2);clear b2;clear Z9;refine hK.out _ _ (F2.out) (fun Z9=>?_);clear hK K;refine ZG 3 (.int .i64 (Za*(S+L))) rfl (by kernel_rfl) (fun _=>id) Z9 ?oy ?_
 case oy =>
  intro w9 Z0;go_simp
  try (rw [XK];omega)
 refine ZG 4 (.int .i64 (2+Za*(S+L))) rfl (by kernel_rfl) (fun _=>id) Z9 ?ox ?_
 case ox =>
  intro w9 Z0;go_simp
  try (rw [XK];omega)
 refine ZW ?_ (by kernel_rfl) (fun _=>id) Z9 ?_ ?_
 rotate_left
 · intro w9 Z0;obtain ⟨-,k0,k1⟩:=Z0;go_simp;try with_reducible rfl
 refine ZU 8 rfl (by kernel_rfl) (fun K hK=>?_);obtain ⟨x9,y9,ZR⟩:=F2.out.1.out.2.2;obtain ⟨⟨z9,d0,d1⟩,f0,f1⟩:=ZR;go_simp;have F3:Hid (TP w S L ((w2.setCell ⟨w.heap.size+1,0,none⟩ (.int .i64 (2+Za*(S+L)))).setCell ⟨w.heap.size+1,1,none⟩ (.int .i64 S))):=F2.out.store _ _;have X3:Hid (Ya ((w2.setCell ⟨w.heap.size+1,0,none⟩ (.int .i64 (2+Za*(S+L)))).setCell ⟨w.heap.size+1,1,none⟩ (.int .i64 S)) (w.heap.size+1) (.int .i64 (2+Za*(S+L))) (.int .i64 S)):=F2.out.stored _ _;clear d0 d1 f0 f1 z9 F2;generalize ((w2.setCell _ _).setCell _ _)=w3 at *;clear Z9;refine hK.out _ _ (F3.out) (fun Z9=>?_);clear hK K;refine ZP (by kernel_rfl) ?_ _
 try simp only [Act.put,Y8,Y7,Y6]
 clear Z9;obtain ⟨-,d0,d1⟩:=X3.out;go_wp2;refine ZS (v:=.agg #[.int .i64 (2+Za*(S+L)),.int .i64 S]) (by simp [results,Tryz.results49,go_sem,d0,d1]) rfl ⟨rfl,F3.out.1.out.1⟩
theorem Ik (x y:Value) (W:World):(Instr.field 52 (.agg #[x,y]) 0).run Tryz.prog W=.ok x W:=by kernel_rfl
theorem BV (x y:Value) (W:World):(Instr.field 111 (.agg #[x,y]) 0).run Tryz.prog W=.ok x W:=by kernel_rfl
theorem VO (w:World) (S L Za:Int) (hc:YO S L=true) (hb:0≤Za∧Za≤1) :
    Calls Tryz.prog 79 #[.agg #[.int .i64 S,.int .i64 L],.int .i64 Za] w (YI w (.agg #[.int .i64 (VJ S L Za true),.int .i64 (LM S L true)])):=by
 obtain ⟨⟨hS1,hS2⟩,hL1,hL2⟩:=(Zg S L).1 hc;have HC:Hid (YO S L=true∧0≤Za∧Za≤1):=⟨hc,hb⟩;clear hc;have hb':Za=0∨Za=1:=by omega
 have HA:Hid (VJ S L Za true=VJ S L Za false+S∧LM S L true=L):=by unfold VJ LM;exact ⟨by simp,rfl⟩
 have hm:2≤VJ S L Za false∧VJ S L Za false≤130:=by unfold VJ;rcases hb' with rfl | rfl <;> simp <;> omega
 rw [HA.out.1,HA.out.2];have kG:Hid (∀W,Calls Tryz.prog 49 #[.agg #[.int .i64 S,.int .i64 L],.int .i64 Za] W (YI W (.agg #[.int .i64 (VJ S L Za false),.int .i64 (LM S L false)]))):=fun W=>Ws W S L Za HC.out.1 HC.out.2
 generalize VJ S L Za false=q at *;generalize LM S L false=q2 at *;clear hb hb'
 go_enter Tryz.func79,Tryz.ntmps79
 go_wp2_with fail
 have F0:Hid (TP w S L ((w.alloc (.cells #[.int .i64 S,.int .i64 L] 25)).alloc (.cells #[.int .i64 0,.int .i64 0] 111))):=TP.new _ _ _ _ _;generalize (w.alloc _).alloc _=w0 at *;refine ZH (S:=TP w S L) (by kernel_rfl) (F0.out.below (below_drewN' w0 1)) (fun Z9=>?_)
 iterate 2 (refine ZW ?_ (by kernel_rfl) (fun _=>id) Z9 ?_ ?_;rotate_left;· intro w9 Z0;obtain ⟨-,k0,k1⟩:=Z0;go_simp;try with_reducible rfl)
 refine ZG 4 ?v18 rfl (by kernel_rfl) (fun _=>id) Z9 ?Ze ?_
 case Ze=>intro w9 Z0;obtain ⟨-,k0,k1⟩:=Z0;go_simp;try with_reducible rfl
 refine ZG 5 ?v19 rfl (by kernel_rfl) (fun _=>id) Z9 ?Zc ?_
 case Zc=>intro w9 Z0;obtain ⟨-,k0,k1⟩:=Z0;go_simp;try with_reducible rfl
 refine ZG 7 ?v20 rfl (by kernel_rfl) (fun _=>id) Z9 ?Y' ?_
 case Y'=>intro w9 Z0;obtain ⟨-,k0,k1⟩:=Z0;go_simp;try with_reducible rfl
 refine ZG 8 ?v21 rfl (by kernel_rfl) (fun _=>id) Z9 ?Y5 ?_
 case Y5=>intro w9 Z0;obtain ⟨-,k0,k1⟩:=Z0;go_simp;try with_reducible rfl
 refine ZU 2 rfl (by kernel_rfl) (fun K hK=>?_);go_simp;refine (kG.out _).mono ?_;rintro e w2 ⟨rfl,b2⟩;have F2:=Z3 (Z9.below b2);clear b2;clear Z9;refine hK.out _ _ (F2.out) (fun Z9=>?_);clear hK K;refine ZG 3 (.int .i64 q) rfl (by kernel_rfl) (fun _=>id) Z9 ?Y2 ?_
 case Y2 =>
  intro w9 Z0;have eK:=BV (.int .i64 q) (.int .i64 q2) w9;go_simp
 refine ZG 6 (.int .i64 (q+S)) rfl (by kernel_rfl) (fun _=>id) Z9 ?Y1 ?_
 case Y1 =>
  intro w9 Z0;go_simp
  try (rw [XK];omega)
 refine ZW ?_ (by kernel_rfl) (fun _=>id) Z9 ?_ ?_
 rotate_left
 · intro w9 Z0;obtain ⟨-,k0,k1⟩:=Z0;go_simp;try with_reducible rfl
 refine ZU 10 rfl (by kernel_rfl) (fun K hK=>?_);obtain ⟨x9,y9,ZR⟩:=F2.out.1.out.2.2;obtain ⟨⟨z9,d0,d1⟩,f0,f1⟩:=ZR;go_simp;have F3:Hid (TP w S L ((w2.setCell ⟨w.heap.size+1,0,none⟩ (.int .i64 (q+S))).setCell ⟨w.heap.size+1,1,none⟩ (.int .i64 L))):=F2.out.store _ _;have X3:Hid (Ya ((w2.setCell ⟨w.heap.size+1,0,none⟩ (.int .i64 (q+S))).setCell ⟨w.heap.size+1,1,none⟩ (.int .i64 L)) (w.heap.size+1) (.int .i64 (q+S)) (.int .i64 L)):=F2.out.stored _ _;clear d0 d1 f0 f1 z9 F2;generalize ((w2.setCell _ _).setCell _ _)=w3 at *;clear Z9;refine hK.out _ _ (F3.out) (fun Z9=>?_);clear hK K;refine ZP (by kernel_rfl) ?_ _
 try simp only [Act.put,Y8,Y7,Y6]
 clear Z9;obtain ⟨-,d0,d1⟩:=X3.out;go_wp2;refine ZS (v:=.agg #[.int .i64 (q+S),.int .i64 L]) (by simp [results,Tryz.results79,go_sem,d0,d1]) rfl ⟨rfl,F3.out.1.out.1⟩
theorem U8 (w:World) (g N C f l:Nat) (hfl:(f+l)*64≤N) (hl1:1≤l) (hN:N≤C) (Zf:N≤1048576) :
    Calls Tryz.prog 50 #[.agg #[.int .i64 (f:Int),.int .i64 (l:Int)],.slice (some ⟨g,0,none⟩) N C] w (YI w (.slice (some ⟨g,f*64,none⟩) (l*64) (C - f*64))):=by
 have B0:Hid (ZX w (w.alloc (.cells #[.int .i64 (f:Int),.int .i64 (l:Int)] 111))):=ZJ.alloc ZT _;have hne:¬C=f*64:=by omega
 have HE:Hid ((f+l)*64 - f*64=l*64):=by show _=_;omega
 go_enter Tryz.func50,Tryz.ntmps50
 go_wp2;go_ret;rw [HE.out];exact ⟨rfl,B0.out⟩
theorem PB (w:World) (v1 v2:Value) (ZQ:List Int) (ps:List (Int × List Int)) (hd:Rd .u8 w v1 ZQ) (hp:MZ w v2 ps) (hdl:ZQ.length≤1048576) (hn:ps.length≤1048576) (Ot:∀i,(pD ps i).length≤1048576) :
    Calls Tryz.prog 38 #[.agg #[v1,v2]] w fun e w'=>∃u,e=.returned u∧Own .u8 5 w' w.heap.size u (Qq ZQ ps)∧ZX w w':=by
 obtain ⟨va,ca,rfl,-⟩:=hd.len;obtain ⟨vb,cb,rfl,-⟩:=id hp;have HD:=Z3 hd;have HP:=Z3 hp;have Cq:=Z3 Ot;have B0:Hid (ZX w (w.alloc (.cells #[.slice va ZQ.length ca,.slice vb ps.length cb] 52))):=ZJ.alloc ZT _;clear hd hp Ot
 go_enter Tryz.func38,Tryz.ntmps38
 go_wp2_with fail
 generalize w.alloc _=w0 at *;refine (Rb _ _ _ ZQ ps (HD.out.below B0.out) (HP.out.below B0.out) hdl hn Cq.out).mono ?_;rintro e w1 ⟨u,rfl,o1,b1⟩;have O1:=Z3 (o1.mono B0.out.size);have B1:=Z3 (YV B0.out b1);clear o1 b1 B0;have eK:=Ik u (.slice none 0 0) w1;go_wp2;go_ret;exact ⟨_,rfl,O1.out,B1.out⟩
def kF (S:Int) (ys:List Int):Value:=if Ss ys∧nL ys≤S*64 then .agg #[.bool true,.int .i64 (nG ys),.int .i64 (nB ys),.int .i64 (nS ys),.int .i64 (nL ys),.int .i64 (nC ys)] else .agg #[.bool false,.int .i64 0,.int .i64 0,.int .i64 0,.int .i64 0,.int .i64 0]
theorem sZ (S:Int) (hS:1≤S) (ys:List Int):∃(gg:Bool) (x0 x1 x2 x3 x4:Int),KO ys=.agg #[.bool gg,.int .i64 x0,.int .i64 x1,.int .i64 x2,.int .i64 x3,.int .i64 x4]∧kF S ys=if S*64<x3 then .agg #[.bool false,.int .i64 0,.int .i64 0,.int .i64 0,.int .i64 0,.int .i64 0] else .agg #[.bool gg,.int .i64 x0,.int .i64 x1,.int .i64 x2,.int .i64 x3,.int .i64 x4]:=by
 unfold KO kF
 by_cases h:Ss ys
 · rw [ZZ h]
   refine ⟨_,_,_,_,_,_,rfl,?_⟩
   by_cases h2:nL ys≤S*64
   · rw [ZZ ⟨h,h2⟩,Z1 (by omega)]
   rw [Z1 (fun hh=>h2 hh.2),ZZ (by omega)]
 rw [Z1 h];refine ⟨_,_,_,_,_,_,rfl,?_⟩;rw [Z1 (fun hh=>h hh.1),Z1 (by omega)]
theorem XT (b:Nat):∀(vs:List Value) (o:Nat) (w:World),(w.setCells b o vs).heap.size=w.heap.size
 | [],_,_=>rfl
 | v :: r,o,w=>by rw [World.setCells,XT b r];simp
theorem xU {V:List Int} (hV:V.length=64) {b:Nat} (h:W.rangeAt b 0 (V.map (Value.int .u8))) (hb:b<W.heap.size):Rd .u8 W (.slice (some ⟨b,0,none⟩) 64 64) V:=by
 refine ⟨_,_,by rw [hV],by omega,by unfold maxLen;omega,.inr ⟨b,0,rfl,hb,fun i hi=>?_⟩⟩;exact (show W.cell? ⟨b,0+i,none⟩=_ from h i (.int .u8 (V.getD i 0)) (by rw [Qs,List.getD,Xc hi];rfl))
theorem Kv (w:World) (b i g co N C:Nat) (S:Int) (cont:List Int) (c0:w.cell? ⟨b,0,none⟩=some (.int .i64 S)) (c6:w.cell? ⟨b,6,none⟩=some (.slice (some ⟨g,co,none⟩) N C)) (hlt:b<w.heap.size) (hr:Rd .u8 w (.slice (some ⟨g,co,none⟩) N C) cont) (hby:Wm cont) (hN:cont.length=N) (hi:(i+1)*64≤N) (Dp:N≤1048576) (hS:1≤S∧S≤64) :
    Calls Tryz.prog 84 #[.pointer (some ⟨b,0,none⟩),.int .i64 (i:Int)] w (YI w (kF S (blk cont i))):=by
 have kE:Hid (∀W,ZX w W→Calls Tryz.prog 108 #[.slice (some ⟨g,co,none⟩) N C,.int .i64 (i:Int)] W (YI W (.agg ((blk cont i).map (Value.int .u8)).toArray))):=fun W hW=>PJ W g co N C i cont (hr.below hW) hN hi Dp
 have Og:Hid (Wm (blk cont i)):=fun y hy=>hby y (Ry (Ms hy))
 have ZN:Hid ((blk cont i).length=64):=by show _=_;unfold blk;simp;omega
 have B0:Hid (ZX w (w.alloc (.cells #[.bool false,.int .i64 0,.int .i64 0,.int .i64 0,.int .i64 0,.int .i64 0] 97))):=ZJ.alloc ZT _;have R0:Hid (St (w.alloc (.cells #[.bool false,.int .i64 0,.int .i64 0,.int .i64 0,.int .i64 0,.int .i64 0] 97)) w.heap.size [.bool false,.int .i64 0,.int .i64 0,.int .i64 0,.int .i64 0,.int .i64 0]):=St.new w _ _;have k6:=(B0.out.cell (p:=⟨b,6,none⟩) hlt).trans c6;have pm:=Z3 c0;have Z0:IntKind.i64.wrap (S*64)=S*64:=by rw [XK];omega
 generalize blk cont i=ys at *;clear hr c0 c6
 go_enter Tryz.func84,Tryz.ntmps84
 go_wp2_with fail
 generalize w.alloc _=w0 at *;refine (kE.out _ B0.out).mono ?_;rintro e w1 ⟨rfl,b1⟩;have JL:Hid (∀v ∈ (ys.map (Value.int .u8)),v.oneCell'=true):=Wf _ _;have HX:Hid ((ys.map (Value.int .u8)).length=64):=by show _=_;rw [XJ];exact ZN.out
 have B1:=Z3 (YV B0.out b1);have R1:=Z3 (R0.out.below b1);clear b1 B0 R0 k6 kE;obtain ⟨V,hV⟩:∃V,V=ys.map (Value.int .u8):=⟨_,rfl⟩;rw [←hV] at HX JL ⊢;have HV:=Z3 hV;clear hV
 go_wp2_with (refine DQ rfl 117 _ _ rfl w1.heap.size 0 V.toArray rfl rfl ?s1 ?s2 ?s3 ?_)
 case s1 =>
  have e:V.toArray.size=64:=by rw [Zm];exact HX.out
  rw [e];exact Yc _ _ _ _ rfl
 case s2=>rw [Zm];exact YH _ HX.out
 case s3=>exact Ru JL.out
 generalize hW2:World.setCells _ _ _ _=w2;have B2:Hid (ZX w1 w2):=by subst hW2;exact below_setCells ZT _ _ _ (ZJ.alloc ZT _)
 have Y0:Hid (w2.rangeAt w1.heap.size 0 V):=by
  subst hW2;exact OM _ _ _ _ (Yc _ _ _ _ (by rw [HX.out];rfl))
 have hs2:w1.heap.size<w2.heap.size:=by subst hW2;rw [XT,Wg];omega
 clear hW2 JL;refine (Il w2 _ ys (xU ZN.out (by rw [←HV.out];exact Y0.out) hs2) Og.out).mono ?_;rintro e w3 ⟨rfl,b3⟩;obtain ⟨gg,x0,x1,x2,x3,x4,hdec,hgs⟩:=sZ S hS.1 ys;rw [hdec];have ov:=Z3 hgs;have B3:=Z3 ((YV B1.out B2.out).trans (b3.mono (by have:=B1.out.size;have:=B2.out.size;omega)));have R3:=Z3 ((R1.out.below B2.out).below b3);have hs3:=R3.out.lt;clear b3 B1 B2 Y0 HX HV R1 hs2 hdec hgs ZN Og
 go_wp2_with fail
 have X4:Hid (St (w3.alloc (.cells #[.bool gg,.int .i64 x0,.int .i64 x1,.int .i64 x2,.int .i64 x3,.int .i64 x4] 97)) w3.heap.size [.bool gg,.int .i64 x0,.int .i64 x1,.int .i64 x2,.int .i64 x3,.int .i64 x4]):=St.new _ _ _;have ZK:Hid (ZX w3 (w3.alloc (.cells #[.bool gg,.int .i64 x0,.int .i64 x1,.int .i64 x2,.int .i64 x3,.int .i64 x4] 97))):=ZJ.alloc ZT _;generalize w3.alloc _=w4 at *;have B4:=Z3 (YV B3.out ZK.out);have R4:=Z3 (R3.out.below ZK.out);have k0:=(B4.out.cell (p:=⟨b,0,none⟩) hlt).trans pm.out;have y4:=X4.out.cl 4 _ rfl;clear B3 ZK R3
 go_quiet (fail)
 clear k0 y4;have y0:=X4.out.cl 0 _ rfl;have y1:=X4.out.cl 1 _ rfl;have y2:=X4.out.cl 2 _ rfl;have y3:=X4.out.cl 3 _ rfl;have y4:=X4.out.cl 4 _ rfl;have y5:=X4.out.cl 5 _ rfl;have t0:=R4.out.cl 0 _ rfl;have t1:=R4.out.cl 1 _ rfl;have t2:=R4.out.cl 2 _ rfl;have t3:=R4.out.cl 3 _ rfl;have t4:=R4.out.cl 4 _ rfl;have t5:=R4.out.cl 5 _ rfl;have f0:=R4.out.fz 0;have f1:=R4.out.fz 1;have f2:=R4.out.fz 2;have f3:=R4.out.fz 3;have f4:=R4.out.fz 4;have f5:=R4.out.fz 5
 by_cases hx:S*64<x3
 · go_wp2
   have SE:Hid (St (((((((w4.drewN nq).setCell ⟨w.heap.size,0,none⟩ (.bool false)).setCell ⟨w.heap.size,1,none⟩ (.int .i64 0)).setCell ⟨w.heap.size,2,none⟩ (.int .i64 0)).setCell ⟨w.heap.size,3,none⟩ (.int .i64 0)).setCell ⟨w.heap.size,4,none⟩ (.int .i64 0)).setCell ⟨w.heap.size,5,none⟩ (.int .i64 0)) w.heap.size [.bool false,.int .i64 0,.int .i64 0,.int .i64 0,.int .i64 0,.int .i64 0]):=(((((((R4.out.below (below_drewN' w4 nq)).set 0 (.bool false)).set 1 (.int .i64 0)).set 2 (.int .i64 0)).set 3 (.int .i64 0)).set 4 (.int .i64 0)).set 5 (.int .i64 0));have BE:Hid (ZX w (((((((w4.drewN nq).setCell ⟨w.heap.size,0,none⟩ (.bool false)).setCell ⟨w.heap.size,1,none⟩ (.int .i64 0)).setCell ⟨w.heap.size,2,none⟩ (.int .i64 0)).setCell ⟨w.heap.size,3,none⟩ (.int .i64 0)).setCell ⟨w.heap.size,4,none⟩ (.int .i64 0)).setCell ⟨w.heap.size,5,none⟩ (.int .i64 0))):=by
    iterate 6 refine Below.setCell ?_ (by show w.heap.size≤w.heap.size;exact ZT) _
    exact B4.out.trans ((below_drewN' w4 nq).mono B4.out.size)
   clear y0 t0 f0 y1 t1 f1 y2 t2 f2 y3 t3 f3 y4 t4 f4 y5 t5 f5;generalize (((((((w4.drewN nq).setCell _ _).setCell _ _).setCell _ _).setCell _ _).setCell _ _).setCell _ _)=wE at *;have e0:=SE.out.cl 0 _ rfl;have e1:=SE.out.cl 1 _ rfl;have e2:=SE.out.cl 2 _ rfl;have e3:=SE.out.cl 3 _ rfl;have e4:=SE.out.cl 4 _ rfl;have e5:=SE.out.cl 5 _ rfl;exact ZS (v:=.agg #[.bool false,.int .i64 0,.int .i64 0,.int .i64 0,.int .i64 0,.int .i64 0]) (by simp [results,Tryz.results84,go_sem,e0,e1,e2,e3,e4,e5]) rfl ⟨by rw [ov.out,ZZ hx],BE.out⟩
 go_wp2;have SE:Hid (St (((((((w4.drewN nq).setCell ⟨w.heap.size,0,none⟩ (.bool gg)).setCell ⟨w.heap.size,1,none⟩ (.int .i64 x0)).setCell ⟨w.heap.size,2,none⟩ (.int .i64 x1)).setCell ⟨w.heap.size,3,none⟩ (.int .i64 x2)).setCell ⟨w.heap.size,4,none⟩ (.int .i64 x3)).setCell ⟨w.heap.size,5,none⟩ (.int .i64 x4)) w.heap.size [.bool gg,.int .i64 x0,.int .i64 x1,.int .i64 x2,.int .i64 x3,.int .i64 x4]):=(((((((R4.out.below (below_drewN' w4 nq)).set 0 (.bool gg)).set 1 (.int .i64 x0)).set 2 (.int .i64 x1)).set 3 (.int .i64 x2)).set 4 (.int .i64 x3)).set 5 (.int .i64 x4));have BE:Hid (ZX w (((((((w4.drewN nq).setCell ⟨w.heap.size,0,none⟩ (.bool gg)).setCell ⟨w.heap.size,1,none⟩ (.int .i64 x0)).setCell ⟨w.heap.size,2,none⟩ (.int .i64 x1)).setCell ⟨w.heap.size,3,none⟩ (.int .i64 x2)).setCell ⟨w.heap.size,4,none⟩ (.int .i64 x3)).setCell ⟨w.heap.size,5,none⟩ (.int .i64 x4))):=by
  iterate 6 refine Below.setCell ?_ (by show w.heap.size≤w.heap.size;exact ZT) _
  exact B4.out.trans ((below_drewN' w4 nq).mono B4.out.size)
 clear y0 t0 f0 y1 t1 f1 y2 t2 f2 y3 t3 f3 y4 t4 f4 y5 t5 f5;generalize (((((((w4.drewN nq).setCell _ _).setCell _ _).setCell _ _).setCell _ _).setCell _ _).setCell _ _)=wE at *;have e0:=SE.out.cl 0 _ rfl;have e1:=SE.out.cl 1 _ rfl;have e2:=SE.out.cl 2 _ rfl;have e3:=SE.out.cl 3 _ rfl;have e4:=SE.out.cl 4 _ rfl;have e5:=SE.out.cl 5 _ rfl;exact ZS (v:=.agg #[.bool gg,.int .i64 x0,.int .i64 x1,.int .i64 x2,.int .i64 x3,.int .i64 x4]) (by simp [results,Tryz.results84,go_sem,e0,e1,e2,e3,e4,e5]) rfl ⟨by rw [ov.out,Z1 (by omega)],BE.out⟩
def qF (im:List Int) (c:Int):Option (List Nd):=if ((4294967295 - Rp 4294967295 im:Nat):Int)=c then IB im else none
def xT (w:World) (o:Option (List Nd)) (e:Ending) (w':World):Prop :=
 ZX w w'∧((o=none∧e=.returned (.agg #[.bool false,.slice none 0 0]))∨∃ns v,o=some ns∧e=.returned (.agg #[.bool true,v])∧Zz 147 w' w.heap.size v ns)
structure uF (w:World) (xg xb xs xl xc:Int) (W:World):Prop where
 YU:ZX w W
 sx:St W w.heap.size [.int .i64 xg,.int .i64 xb,.int .i64 xs,.int .i64 xl,.int .i64 xc]
 sr:St W (w.heap.size+1) [.bool false,.slice none 0 0]
theorem uF.below {xg xb xs xl xc:Int} (h:uF w xg xb xs xl xc W) (hb:ZX W W'):uF w xg xb xs xl xc W' :=
 ⟨h.YU.trans (hb.mono h.YU.size),h.sx.below hb,h.sr.below hb⟩
theorem uF.new (w:World) (xg xb xs xl xc:Int):uF w xg xb xs xl xc ((w.alloc (.cells #[.int .i64 xg,.int .i64 xb,.int .i64 xs,.int .i64 xl,.int .i64 xc] 60)).alloc (.cells #[.bool false,.slice none 0 0] 135)):=by
 refine ⟨(ZJ.alloc ZT _).alloc (by simp) _,(St.new w _ _).below (ZJ.alloc ZT _),?_⟩;have h9:=St.new (w.alloc (.cells #[.int .i64 xg,.int .i64 xb,.int .i64 xs,.int .i64 xl,.int .i64 xc] 60)) #[.bool false,.slice none 0 0] 135;rw [Wg] at h9;exact h9
theorem BU (w:World) (b g N C ln:Nat) (S L xg xb xs xl xc:Int) (cont:List Int) (c0:w.cell? ⟨b,0,none⟩=some (.int .i64 S)) (c1:w.cell? ⟨b,1,none⟩=some (.int .i64 L)) (c6:w.cell? ⟨b,6,none⟩=some (.slice (some ⟨g,0,none⟩) N C)) (hlt:b<w.heap.size) (hr:Rd .u8 w (.slice (some ⟨g,0,none⟩) N C) cont) (hby:Wm cont) (hN:cont.length=N) (Dp:N≤1048576) (hc:YO S L=true) (xS:2+2*(S+L)≤((N / 64:Nat):Int)) (hb:0≤xb∧xb≤1) (hl:xl=(ln:Int)) (hls:xl≤S*64) (ht:TF w) (h0:0<w.heap.size) :
    Calls Tryz.prog 85 #[.pointer (some ⟨b,0,none⟩),.agg #[.int .i64 xg,.int .i64 xb,.int .i64 xs,.int .i64 xl,.int .i64 xc]] w (xT w (qF ((PC cont (VJ S L xb false).toNat S.toNat).take ln) xc)):=by
 obtain ⟨⟨hS1,hS2⟩,hL1,hL2⟩:=(Zg S L).1 hc;obtain ⟨sn,rfl⟩:∃sn:Nat,S=(sn:Int):=⟨S.toNat,by omega⟩;rw [Ww];obtain ⟨f,hf⟩:∃f:Nat,VJ (sn:Int) L xb false=(f:Int):=⟨(VJ (sn:Int) L xb false).toNat,by
  have hk:xb=0∨xb=1:=by omega
  unfold VJ
  rcases hk with rfl | rfl <;> simp <;> omega⟩
 have kD:(f+sn)*64≤N:=by
  have hk:xb=0∨xb=1:=by omega
  unfold VJ at hf;have h2:N / 64*64≤N:=Nat.div_mul_le_self _ _
  rcases hk with rfl | rfl <;> simp at hf <;> omega
 have lU:N≤C:=by
  obtain ⟨a8,c8,h8,h7,h6⟩:=hr.len
  simp only [Y4] at h8
  obtain ⟨-,h5,rfl⟩:=h8;omega
 have YN:C≤9223372036854775807:=by
  obtain ⟨a8,c8,h8,h7,h6⟩:=hr.len
  simp only [Y4] at h8
  obtain ⟨-,h5,rfl⟩:=h8;unfold maxLen at h6;omega
 rw [hf,Ww];have YZ:(PC cont f sn).take ln=(cont.drop (f*64)).take ln:=by
  unfold PC;rw [Jt,Wh (by omega)]
 rw [YZ];have HR:Hid (∀W,ZX w W→Rd .u8 W (.slice (some ⟨g,f*64,none⟩) ln (C - f*64)) ((cont.drop (f*64)).take ln)):=by
  intro W hW;have h9:=Rd.part (hr.below hW) hN (f*64) ln (by omega);rw [YK] at h9;exact h9
 have Og:Hid (Wm ((cont.drop (f*64)).take ln)):=fun y hy=>hby y (Ry (Ms hy))
 have Z7:Hid (((cont.drop (f*64)).take ln).length≤1048576):=by
  show _≤_;have:=List.length_take_le ln (cont.drop (f*64));omega
 have S0:Hid (uF w xg xb xs xl xc ((w.alloc (.cells #[.int .i64 xg,.int .i64 xb,.int .i64 xs,.int .i64 xl,.int .i64 xc] 60)).alloc (.cells #[.bool false,.slice none 0 0] 135))):=uF.new _ _ _ _ _ _;have uE:Hid (∀W,Calls Tryz.prog 49 #[.agg #[.int .i64 (sn:Int),.int .i64 L],.int .i64 xb] W (YI W (.agg #[.int .i64 (f:Int),.int .i64 (sn:Int)]))):=by
  intro W;have h9:=Ws W (sn:Int) L xb hc hb;rw [hf,show LM (sn:Int) L false=(sn:Int) from rfl] at h9;exact h9
 have Aq:Hid (∀W,Calls Tryz.prog 50 #[.agg #[.int .i64 (f:Int),.int .i64 (sn:Int)],.slice (some ⟨g,0,none⟩) N C] W (YI W (.slice (some ⟨g,f*64,none⟩) (sn*64) (C - f*64)))):=fun W=>U8 W g N C f sn kD (by omega) lU Dp
 have WE:Hid (w.cell? ⟨b,0,none⟩=some (.int .i64 (sn:Int))∧w.cell? ⟨b,1,none⟩=some (.int .i64 L)∧w.cell? ⟨b,6,none⟩=some (.slice (some ⟨g,0,none⟩) N C)):=⟨c0,c1,c6⟩;have ou:Hid (∀W,ZX w W→TF W):=fun W hW=>ht.below h0 hW
 have hlc:(ln:Int)≤((C - f*64:Nat):Int):=by omega
 have gV:=Z3 hl;have YJ:ln≤sn*64:=by omega
 clear hr c0 c1 c6 ht hc YZ hf hby hl;have YG:sn*64≤C - f*64:=by omega
 have hcm:C - f*64≤9223372036854775807:=by omega
 clear kD lU YN xS hN Dp;generalize (cont.drop (f*64)).take ln=IM at *;generalize C - f*64=c9 at *;generalize f*64=fo at *;generalize hM:sn*64=M at *;clear hM
 go_enter Tryz.func85,Tryz.ntmps85
 go_wp2_with fail
 generalize (w.alloc _).alloc _=w0 at *;have Sd:=Z3 (S0.out.below (below_drewN' w0 1));refine ZH (S:=uF w xg xb xs xl xc) (by kernel_rfl) (Sd.out) (fun Z9=>?_)
 iterate 6 (refine ZW ?_ (by kernel_rfl) (fun _=>id) Z9 ?_ ?_;rotate_left;· intro w9 Z0;have k0:=(Z0.YU.cell (p:=⟨b,0,none⟩) hlt).trans WE.out.1;have k1:=(Z0.YU.cell (p:=⟨b,1,none⟩) hlt).trans WE.out.2.1;have k6:=(Z0.YU.cell (p:=⟨b,6,none⟩) hlt).trans WE.out.2.2;have x0:=Z0.sx.cl 0 _ rfl;have x1:=Z0.sx.cl 1 _ rfl;have x2:=Z0.sx.cl 2 _ rfl;have x3:=Z0.sx.cl 3 _ rfl;have x4:=Z0.sx.cl 4 _ rfl;clear Z0;go_simp;try with_reducible rfl)
 refine ZG 7 ?v7 rfl (by kernel_rfl) (fun _=>id) Z9 ?tU ?_
 case tU =>
  intro w9 Z0;have k0:=(Z0.YU.cell (p:=⟨b,0,none⟩) hlt).trans WE.out.1;have k1:=(Z0.YU.cell (p:=⟨b,1,none⟩) hlt).trans WE.out.2.1;have k6:=(Z0.YU.cell (p:=⟨b,6,none⟩) hlt).trans WE.out.2.2;have x0:=Z0.sx.cl 0 _ rfl;have x1:=Z0.sx.cl 1 _ rfl;have x2:=Z0.sx.cl 2 _ rfl;have x3:=Z0.sx.cl 3 _ rfl;have x4:=Z0.sx.cl 4 _ rfl;clear Z0;go_simp
  try with_reducible rfl
 refine ZG 8 ?v8 rfl (by kernel_rfl) (fun _=>id) Z9 ?sW ?_
 case sW =>
  intro w9 Z0;have k0:=(Z0.YU.cell (p:=⟨b,0,none⟩) hlt).trans WE.out.1;have k1:=(Z0.YU.cell (p:=⟨b,1,none⟩) hlt).trans WE.out.2.1;have k6:=(Z0.YU.cell (p:=⟨b,6,none⟩) hlt).trans WE.out.2.2;have x0:=Z0.sx.cl 0 _ rfl;have x1:=Z0.sx.cl 1 _ rfl;have x2:=Z0.sx.cl 2 _ rfl;have x3:=Z0.sx.cl 3 _ rfl;have x4:=Z0.sx.cl 4 _ rfl;clear Z0;go_simp
  try with_reducible rfl
 refine ZG 9 ?v9 rfl (by kernel_rfl) (fun _=>id) Z9 ?ot ?_
 case ot =>
  intro w9 Z0;have k0:=(Z0.YU.cell (p:=⟨b,0,none⟩) hlt).trans WE.out.1;have k1:=(Z0.YU.cell (p:=⟨b,1,none⟩) hlt).trans WE.out.2.1;have k6:=(Z0.YU.cell (p:=⟨b,6,none⟩) hlt).trans WE.out.2.2;have x0:=Z0.sx.cl 0 _ rfl;have x1:=Z0.sx.cl 1 _ rfl;have x2:=Z0.sx.cl 2 _ rfl;have x3:=Z0.sx.cl 3 _ rfl;have x4:=Z0.sx.cl 4 _ rfl;clear Z0;go_simp
  try with_reducible rfl
 refine ZG 10 (.slice (some ⟨g,0,none⟩) N C) rfl (by kernel_rfl) (fun _=>id) Z9 ?Fg ?_
 case Fg =>
  intro w9 Z0;have k0:=(Z0.YU.cell (p:=⟨b,0,none⟩) hlt).trans WE.out.1;have k1:=(Z0.YU.cell (p:=⟨b,1,none⟩) hlt).trans WE.out.2.1;have k6:=(Z0.YU.cell (p:=⟨b,6,none⟩) hlt).trans WE.out.2.2;have x0:=Z0.sx.cl 0 _ rfl;have x1:=Z0.sx.cl 1 _ rfl;have x2:=Z0.sx.cl 2 _ rfl;have x3:=Z0.sx.cl 3 _ rfl;have x4:=Z0.sx.cl 4 _ rfl;clear Z0;go_simp
 refine ZG 12 ?v11 rfl (by kernel_rfl) (fun _=>id) Z9 ?NH ?_
 case NH =>
  intro w9 Z0;have k0:=(Z0.YU.cell (p:=⟨b,0,none⟩) hlt).trans WE.out.1;have k1:=(Z0.YU.cell (p:=⟨b,1,none⟩) hlt).trans WE.out.2.1;have k6:=(Z0.YU.cell (p:=⟨b,6,none⟩) hlt).trans WE.out.2.2;have x0:=Z0.sx.cl 0 _ rfl;have x1:=Z0.sx.cl 1 _ rfl;have x2:=Z0.sx.cl 2 _ rfl;have x3:=Z0.sx.cl 3 _ rfl;have x4:=Z0.sx.cl 4 _ rfl;clear Z0;go_simp
  try with_reducible rfl
 refine ZG 13 (.int .i64 (ln:Int)) rfl (by kernel_rfl) (fun _=>id) Z9 ?Fh ?_
 case Fh =>
  intro w9 Z0;have k0:=(Z0.YU.cell (p:=⟨b,0,none⟩) hlt).trans WE.out.1;have k1:=(Z0.YU.cell (p:=⟨b,1,none⟩) hlt).trans WE.out.2.1;have k6:=(Z0.YU.cell (p:=⟨b,6,none⟩) hlt).trans WE.out.2.2;have x0:=Z0.sx.cl 0 _ rfl;have x1:=Z0.sx.cl 1 _ rfl;have x2:=Z0.sx.cl 2 _ rfl;have x3:=Z0.sx.cl 3 _ rfl;have x4:=Z0.sx.cl 4 _ rfl;rw [gV.out] at x3;clear Z0;go_simp
 refine ZU 6 rfl (by kernel_rfl) (fun K hK=>?_);go_simp;refine (uE.out _).mono ?_;rintro e w1 ⟨rfl,b1⟩;have N1:=Z9.below b1;clear b1;refine hK.out _ _ N1 (fun ZM=>?_);clear hK K Z9;have Z9:=ZM;clear ZM;refine ZU 11 rfl (by kernel_rfl) (fun K hK=>?_);go_simp;refine (Aq.out _).mono ?_;rintro e w2 ⟨rfl,b2⟩;have N2:=Z9.below b2;clear b2;refine hK.out _ _ N2 (fun ZM=>?_);clear hK K Z9;have Z9:=ZM;clear ZM
 iterate 2 (refine ZW ?_ (by kernel_rfl) (fun _=>id) Z9 ?_ ?_;rotate_left;· intro w9 Z0;have k0:=(Z0.YU.cell (p:=⟨b,0,none⟩) hlt).trans WE.out.1;have k1:=(Z0.YU.cell (p:=⟨b,1,none⟩) hlt).trans WE.out.2.1;have k6:=(Z0.YU.cell (p:=⟨b,6,none⟩) hlt).trans WE.out.2.2;have x0:=Z0.sx.cl 0 _ rfl;have x1:=Z0.sx.cl 1 _ rfl;have x2:=Z0.sx.cl 2 _ rfl;have x3:=Z0.sx.cl 3 _ rfl;have x4:=Z0.sx.cl 4 _ rfl;clear Z0;go_simp;try with_reducible rfl)
 refine ZP (by kernel_rfl) ?_ _
 try simp only [Act.put,Y8,Y7,Y6]
 have S2:=Z3 N2;clear Z9 uE Aq S0 Sd N1 N2;have kC:Hid (∀W,uF w xg xb xs xl xc W→Calls Tryz.prog 48 #[.slice (some ⟨g,fo,none⟩) ln c9] W fun e w'=>e=.returned (.int .i64 ((4294967295 - Rp 4294967295 IM:Nat):Int))∧w'=W):=fun W hW=>TC W _ IM (HR.out W hW.YU) Og.out (by have:=Z7.out;omega) (ou.out W hW.YU)
 obtain ⟨cr,hcr⟩:∃cr:Int,cr=((4294967295 - Rp 4294967295 IM:Nat):Int):=⟨_,rfl⟩;rw [←hcr] at kC;have xQ:Hid (qF IM xc=if cr=xc then IB IM else none):=by show _=_;unfold qF;rw [←hcr]
 clear hcr
 go_wp2_with fail
 have Sd:=Z3 (S2.out.below (below_drewN' w2 1));refine ZH (S:=uF w xg xb xs xl xc) (by kernel_rfl) (Sd.out) (fun Z9=>?_);refine ZW ?_ (by kernel_rfl) (fun _=>id) Z9 ?_ ?_
 rotate_left
 · intro w9 Z0;have k0:=(Z0.YU.cell (p:=⟨b,0,none⟩) hlt).trans WE.out.1;have k1:=(Z0.YU.cell (p:=⟨b,1,none⟩) hlt).trans WE.out.2.1;have k6:=(Z0.YU.cell (p:=⟨b,6,none⟩) hlt).trans WE.out.2.2;have x0:=Z0.sx.cl 0 _ rfl;have x1:=Z0.sx.cl 1 _ rfl;have x2:=Z0.sx.cl 2 _ rfl;have x3:=Z0.sx.cl 3 _ rfl;have x4:=Z0.sx.cl 4 _ rfl;clear Z0;go_simp;try with_reducible rfl
 refine ZG 2 ?v16 rfl (by kernel_rfl) (fun _=>id) Z9 ?oq ?_
 case oq =>
  intro w9 Z0;have k0:=(Z0.YU.cell (p:=⟨b,0,none⟩) hlt).trans WE.out.1;have k1:=(Z0.YU.cell (p:=⟨b,1,none⟩) hlt).trans WE.out.2.1;have k6:=(Z0.YU.cell (p:=⟨b,6,none⟩) hlt).trans WE.out.2.2;have x0:=Z0.sx.cl 0 _ rfl;have x1:=Z0.sx.cl 1 _ rfl;have x2:=Z0.sx.cl 2 _ rfl;have x3:=Z0.sx.cl 3 _ rfl;have x4:=Z0.sx.cl 4 _ rfl;clear Z0;go_simp
  try with_reducible rfl
 refine ZG 3 (.int .i64 xc) rfl (by kernel_rfl) (fun _=>id) Z9 ?YX ?_
 case YX =>
  intro w9 Z0;have k0:=(Z0.YU.cell (p:=⟨b,0,none⟩) hlt).trans WE.out.1;have k1:=(Z0.YU.cell (p:=⟨b,1,none⟩) hlt).trans WE.out.2.1;have k6:=(Z0.YU.cell (p:=⟨b,6,none⟩) hlt).trans WE.out.2.2;have x0:=Z0.sx.cl 0 _ rfl;have x1:=Z0.sx.cl 1 _ rfl;have x2:=Z0.sx.cl 2 _ rfl;have x3:=Z0.sx.cl 3 _ rfl;have x4:=Z0.sx.cl 4 _ rfl;clear Z0;go_simp
 refine ZU 1 rfl (by kernel_rfl) (fun K hK=>?_);go_simp;refine (kC.out _ Z9).mono ?_;rintro e w3 ⟨rfl,rfl⟩;have N3:=Z9;refine hK.out _ _ N3 (fun ZM=>?_);clear hK K Z9;have Z9:=ZM;clear ZM;refine ZW ?_ (by kernel_rfl) (fun _=>id) Z9 ?_ ?_
 rotate_left
 · intro w9 Z0;have k0:=(Z0.YU.cell (p:=⟨b,0,none⟩) hlt).trans WE.out.1;have k1:=(Z0.YU.cell (p:=⟨b,1,none⟩) hlt).trans WE.out.2.1;have k6:=(Z0.YU.cell (p:=⟨b,6,none⟩) hlt).trans WE.out.2.2;have x0:=Z0.sx.cl 0 _ rfl;have x1:=Z0.sx.cl 1 _ rfl;have x2:=Z0.sx.cl 2 _ rfl;have x3:=Z0.sx.cl 3 _ rfl;have x4:=Z0.sx.cl 4 _ rfl;clear Z0;go_simp;try with_reducible rfl
 refine ZP (by kernel_rfl) ?_ _
 try simp only [Act.put,Y8,Y7,Y6]
 have S3:=Z3 N3;clear Z9 N3 kC S2 Sd ou WE;generalize w2.drew=w3 at *
 by_cases he:cr=xc
 · have hbq:(cr != xc)=false:=by rw [he];simp
   rw [ZZ he] at xQ;rw [hbq];have s3:=S3.out.YU.size;have O:=Z3 (KJ w3 _ IM (HR.out _ S3.out.YU) Og.out Z7.out);clear HR Og Z7 he hbq
   go_wp2_with fail
   refine (O.out).mono ?_;intro e w4 hd;obtain ⟨b4,hd⟩:=hd;have S4:=Z3 (S3.out.below b4);have t0:=S4.out.sr.cl 0 _ rfl;have t1:=S4.out.sr.cl 1 _ rfl;have f0:=S4.out.sr.fz 0;have f1:=S4.out.sr.fz 1
   rcases hd with ⟨hn0,rfl⟩ | ⟨ns,v,hs0,rfl,o4⟩
   · unfold qN
     go_wp2;have SE:Hid (St ((w4.setCell ⟨w.heap.size+1,0,none⟩ (.bool false)).setCell ⟨w.heap.size+1,1,none⟩ (.slice none 0 0)) (w.heap.size+1) [.bool false,.slice none 0 0]):=(S4.out.sr.set 0 (.bool false)).set 1 (.slice none 0 0);have BE:Hid (ZX w ((w4.setCell ⟨w.heap.size+1,0,none⟩ (.bool false)).setCell ⟨w.heap.size+1,1,none⟩ (.slice none 0 0))):=(S4.out.YU.setCell (by show w.heap.size≤w.heap.size+1;omega) _).setCell (by show w.heap.size≤w.heap.size+1;omega) _;clear t0 t1 f0 f1;generalize (w4.setCell _ _).setCell _ _=wE at *;have e0:=SE.out.cl 0 _ rfl;have e1:=SE.out.cl 1 _ rfl;exact ZS (v:=.agg #[.bool false,.slice none 0 0]) (by simp [results,Tryz.results85,go_sem,e0,e1]) rfl ⟨BE.out,.inl ⟨xQ.out.trans hn0,rfl⟩⟩
   obtain ⟨va,vc,rfl⟩:=Zz.Vc o4;go_wp2;have SE:Hid (St ((w4.setCell ⟨w.heap.size+1,0,none⟩ (.bool true)).setCell ⟨w.heap.size+1,1,none⟩ (.slice va ns.length vc)) (w.heap.size+1) [.bool true,.slice va ns.length vc]):=(S4.out.sr.set 0 (.bool true)).set 1 (.slice va ns.length vc);have BE:Hid (ZX w ((w4.setCell ⟨w.heap.size+1,0,none⟩ (.bool true)).setCell ⟨w.heap.size+1,1,none⟩ (.slice va ns.length vc))):=(S4.out.YU.setCell (by show w.heap.size≤w.heap.size+1;omega) _).setCell (by show w.heap.size≤w.heap.size+1;omega) _;have OE:Hid (Zz 147 ((w4.setCell ⟨w.heap.size+1,0,none⟩ (.bool true)).setCell ⟨w.heap.size+1,1,none⟩ (.slice va ns.length vc)) w.heap.size (.slice va ns.length vc) ns):=by
    have hne:(Value.slice va ns.length vc).ownBlock=none∨(Value.slice va ns.length vc).ownBlock≠some (w.heap.size+1):=.inr (fun e=>by have:=(ZD o4 _ e).1;have:=S3.out.sr.lt;omega);have o5:=Zz.mono o4 s3;exact Yu (Yu o5 (grownBy_set w4 w4 (w.heap.size+1) 0 (.bool true) (YT _ _)) hne) (grownBy_set _ _ (w.heap.size+1) 1 _ (YT _ _)) hne
   clear t0 t1 f0 f1 o4;generalize (w4.setCell _ _).setCell _ _=wE at *;have e0:=SE.out.cl 0 _ rfl;have e1:=SE.out.cl 1 _ rfl;exact ZS (v:=.agg #[.bool true,.slice va ns.length vc]) (by simp [results,Tryz.results85,go_sem,e0,e1]) rfl ⟨BE.out,.inr ⟨ns,_,xQ.out.trans hs0,rfl,OE.out⟩⟩
 have hbq:(cr != xc)=true:=by simpa using he
 rw [Z1 he] at xQ;rw [hbq];have t0:=S3.out.sr.cl 0 _ rfl;have t1:=S3.out.sr.cl 1 _ rfl;have f0:=S3.out.sr.fz 0;have f1:=S3.out.sr.fz 1;clear HR Og Z7 he hbq;go_wp2;have SE:Hid (St ((w3.setCell ⟨w.heap.size+1,0,none⟩ (.bool false)).setCell ⟨w.heap.size+1,1,none⟩ (.slice none 0 0)) (w.heap.size+1) [.bool false,.slice none 0 0]):=(S3.out.sr.set 0 (.bool false)).set 1 (.slice none 0 0);have BE:Hid (ZX w ((w3.setCell ⟨w.heap.size+1,0,none⟩ (.bool false)).setCell ⟨w.heap.size+1,1,none⟩ (.slice none 0 0))):=(S3.out.YU.setCell (by show w.heap.size≤w.heap.size+1;omega) _).setCell (by show w.heap.size≤w.heap.size+1;omega) _;clear t0 t1 f0 f1;generalize (w3.setCell _ _).setCell _ _=wE at *;have e0:=SE.out.cl 0 _ rfl;have e1:=SE.out.cl 1 _ rfl;exact ZS (v:=.agg #[.bool false,.slice none 0 0]) (by simp [results,Tryz.results85,go_sem,e0,e1]) rfl ⟨BE.out,.inl ⟨xQ.out,rfl⟩⟩
structure uD (w:World) (vt:Value) (W:World):Prop where
 YU:ZX w W
 sx:St W w.heap.size [vt]
theorem uD.below (h:uD w vt W) (hb:ZX W W'):uD w vt W' :=
 ⟨h.YU.trans (hb.mono h.YU.size),h.sx.below hb⟩
theorem uD.new (w:World) (vt:Value):uD w vt ((w.alloc (.cells #[vt] 63)).alloc (.cells #[.slice none 0 0,.int .i64 0,.int .i64 0,.int .i64 0] 99))∧St ((w.alloc (.cells #[vt] 63)).alloc (.cells #[.slice none 0 0,.int .i64 0,.int .i64 0,.int .i64 0] 99)) (w.heap.size+1) [.slice none 0 0,.int .i64 0,.int .i64 0,.int .i64 0]:=by
 refine ⟨⟨(ZJ.alloc ZT _).alloc (by simp) _,(St.new w _ _).below (ZJ.alloc ZT _)⟩,?_⟩;have h9:=St.new (w.alloc (.cells #[vt] 63)) #[.slice none 0 0,.int .i64 0,.int .i64 0,.int .i64 0] 99;rw [Wg] at h9;exact h9
end Go.Proofs.YtpmjnbmkippaiaaGreatDoor


