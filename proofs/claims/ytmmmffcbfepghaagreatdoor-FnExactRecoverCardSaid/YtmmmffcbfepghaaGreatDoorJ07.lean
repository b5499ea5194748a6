import Derived.Test.YtmmmffcbfepghaaGreatDoorJ06
import Derived.Lib.AppendZeros
set_option maxRecDepth 100000
set_option maxHeartbeats 16000000
set_option linter.unusedVariables false
set_option linter.unusedSimpArgs false
namespace Go.Proofs.YtmmmffcbfepghaaGreatDoor
open Go.RowKit Go.Shelf
variable {a:Act} {g l last s start zx:Int} {R:List (List Int × Nat)} {ns:List Nd} {res:List Nd × Int × Nat} {B Bo L b c cap k lo n:Nat} {ao:Option Addr} {row:Option Nat} {e:TypeId} {v vt x:Value} {W W' w w':World}
def QR (v:Value):Prop:=∀n c,v=.slice none n c→n=0∧c=0
theorem ZU.qR (h:ZU e w lo v ns):QR v:=by
 intro n c hv
 rcases h.2 with ⟨rfl,_⟩ | ⟨g,cap,cur,rfl,_⟩
 · simp only [Zc,true_and] at hv
   exact ⟨hv.1.symm,hv.2.symm⟩
 simp at hv
theorem Dm {R:List Nd} {j:Nat} {u:Value} (h:(Yd (R.take L))[j]?=some u):(Yd R)[j]?=some u:=by
 have e:Yd R=Yd (R.take L)++Yd (R.drop L):=by rw [←UZ,DO]
 rw [e,Qw (List.getElem?_eq_some_iff.1 h).1];exact h
theorem VL.NR {R:List Nd} (h:VL w (.slice ao R.length c) R):∀ad,ao=some ad→∀j u,(Yd R)[j]?=some u→w.cell? (ad.add j)=some u:=by
 obtain ⟨BK,c',e,-,-,h3⟩:=h
 simp only [Zc] at e
 obtain ⟨rfl,-,rfl⟩:=e;intro ad had j u hu
 rcases h3 with rfl | ⟨b,o,rfl,hb,hc⟩
 · simp [Yd] at hu
 obtain rfl:=UR had;have hj:j<R.length*7:=by have:=(List.getElem?_eq_some_iff.1 hu).1;rw [Vw] at this;exact this
 have h7:j % 7<7:=Rk _ (by decide);have hr:=OM R (j / 7) (j % 7) (by omega) h7;rw [show j / 7*7+j % 7=j by omega,hu] at hr;have hcc:=hc (j / 7) (by omega);rw [GM];have e:o+j=o+j / 7*7+j % 7:=by omega
 rw [e];clear e hu hj;generalize j % 7=r at *
 match r,h7 with
 | 0,_=>rw [Mg,hcc.c0];exact hr.symm
 | 1,_=>rw [hcc.c1];exact hr.symm
 | 2,_=>rw [hcc.c2];exact hr.symm
 | 3,_=>rw [hcc.c3];exact hr.symm
 | 4,_=>rw [hcc.c4];exact hr.symm
 | 5,_=>rw [hcc.c5];exact hr.symm
 | 6,_=>rw [hcc.c6];exact hr.symm
theorem NQ (R:List Nd):∀u ∈ Yd R,u.oneCell'=true:=by
 intro u hu;unfold Yd at hu;obtain ⟨n,_,hn⟩:=List.mem_flatMap.1 hu;exact WL n u hn
theorem zF (ao:Option Addr) (n c L:Nat) (h1:L≤n) (h2:n≤c) (W:World):(Instr.slice 31 (.slice ao n c) none (some (.int .i64 (L:Int))) none).run Tryz.prog W=.ok (.slice ao L c) W:=by
 have h:(0:Int)≤(L:Int):=by omega
 have h':(L:Int)≤(c:Int):=by omega
 have he:Tryz.prog.elem 31=134:=by kernel_rfl
 rw [run_slice_h W 31 ao n c (by rw [he];exact Tryz.underlying31) .i64 (L:Int) h h',he];go_simp
theorem zE (ao:Option Addr) (n c L:Nat) (h1:L≤n) (W:World):(Instr.slice 31 (.slice ao n c) (some (.int .i64 (L:Int))) none none).run Tryz.prog W=.ok (.slice (if c=L then ao else ao.map (·.add (L*7))) (n - L) (c - L)) W:=by
 have h:(0:Int)≤(L:Int):=by omega
 have h':(L:Int)≤(n:Int):=by omega
 have he:Tryz.prog.elem 31=134:=by kernel_rfl
 rw [run_slice_l W 31 ao n c (by rw [he];exact Tryz.underlying31) .i64 (L:Int) h h',he];go_simp
theorem NP {R:List Nd} (h:VL w (.slice ao R.length c) R) (hn:QR (.slice ao R.length c)) (L:Nat) (hL:L≤R.length) :
    ∃a2,(∀W,(Instr.slice 31 (.slice ao R.length c) (some (.int .i64 (L:Int))) none none).run Tryz.prog W=.ok (.slice a2 (R.length - L) (c - L)) W)∧VL w (.slice a2 (R.length - L) (c - L)) (R.drop L)∧QR (.slice a2 (R.length - L) (c - L)):=by
 obtain ⟨BK,c',e,h1,h2,h3⟩:=h
 simp only [Zc] at e
 obtain ⟨rfl,-,rfl⟩:=e;refine ⟨if c=L then ao else ao.map (·.add (L*7)),zE ao _ c L hL,⟨_,_,by rw [Zv],by rw [Zv];omega,by omega,?_⟩,?_⟩
 · rcases h3 with rfl | ⟨b,o,rfl,hb,hc⟩
   · exact .inl (by simp)
   by_cases hcl:c=L
   · exact .inl (Qx (by omega))
   refine .inr ⟨b,o+L*7,by rw [Z3 hcl,Option.map_some,GM],hb,fun i hi=>?_⟩;rw [Zv] at hi;have:=hc (L+i) (by omega);have e1:Zy (R.drop L) i=Zy R (L+i):=by unfold Zy;simp [List.getD]
   rw [e1,show o+L*7+i*7=o+(L+i)*7 by omega];exact this
 intro n' c2 hv
 simp only [Zc] at hv
 obtain ⟨ha,rfl,rfl⟩:=hv;have hao:ao=none:=by
  by_cases hcl:c=L
  · rw [ZY hcl] at ha;exact ha
  rw [Z3 hcl] at ha;simpa using ha
 subst hao;have:=hn _ _ rfl;omega
theorem zD (ns:List Nd) (es:List Ef):(Po ns es).2.length≤ns.length:=by
 have:∀(es:List Ef) (st:List Nd × List Nd),(es.foldl GK st).2.length≤st.2.length:=by
  intro es
  induction es with
  | nil=>exact fun st=>ZW
  | cons e es ih =>
   intro st;rw [GC];refine ZP (ih _) ?_;unfold GK;rw [Zv];omega
 exact this es ([],ns)
theorem Ss.grown {g:Nat} {n:Ef} (h:Ss w B n) (hg:w.grownBy w' (some g)) (hne:B≠g):Ss w' B n:=by
 have e:=hg.block B h.lt (by simpa using hne);have cc:∀i,w'.cell? ⟨B,i,none⟩=w.cell? ⟨B,i,none⟩:=fun i=>by simp [World.cell?,e]
 have hs:=hg.size;exact ⟨ZB h.lt hs,(cc _).trans h.c0,(cc _).trans h.c1,(cc _).trans h.c2,(cc _).trans h.c3,(cc _).trans h.c4,(cc _).trans h.c5,(cc _).trans h.c6,(cc _).trans h.c7⟩
structure p8 (w:World) (g C:Nat) (st:List Nd × List Nd) (v:Value) (z:Int) (vx:Value) (vo vr:Value) (W:World):Prop where
 own:W.ownsRow (w.heap.size+3) 134 7 vo st.1.length (Yd st.1)
 head:vo=.slice (some ⟨g,0,none⟩) st.1.length C
 rest:VL w vr st.2
 nil:QR vr
 below:ZX w W
 box:DB w.heap.size v z vx W
theorem ME (w:World) (v:Value) (ns:List Nd) (z:Int) (vx:Value) (es:List Ef) (h:VL w v ns) (hnil:QR v) (hx:BL w vx es)
    (hsz:∀i,(Zy ns i).path.size≤1048576∧(Zy ns i).data.size≤1048576) (hsx:∀i,(Zh es i).nd.path.size≤1048576∧(Zh es i).nd.data.size≤1048576) :
    Calls Tryz.prog 146 #[.agg #[v],.agg #[.int .i64 z,vx]] w fun e w'=>∃v',e=.returned (.agg #[v'])∧ZU 134 w' w.heap.size v' (ZE ns z es)∧ZX w w':=by
 obtain ⟨i0,hi,hz0,hz1,hz2⟩:=YH Tryz.LP;obtain ⟨ao,ca,rfl,_,_⟩:=h.len;obtain ⟨xo,cx,rfl,_,_⟩:=hx.len;have HR:=Z8 h;have HX:=Z8 hx;have HN:=Z8 hnil;have HZ:=Z8 hsz;have rn:=Z8 hsx;have B0:Hid (ZX w (((w.alloc (.cells #[.slice ao ns.length ca] 33)).alloc (.cells #[.int .i64 z,.slice xo es.length cx] 105)).alloc (.cells #[.slice none 0 0] 33))):=((ZR.alloc ZW _).alloc (by simp) _).alloc (by simp;omega) _;have X0:Hid (DB w.heap.size (.slice ao ns.length ca) z (.slice xo es.length cx) (((w.alloc (.cells #[.slice ao ns.length ca] 33)).alloc (.cells #[.int .i64 z,.slice xo es.length cx] 105)).alloc (.cells #[.slice none 0 0] 33))):=DB.new _ _ _ _;clear h hx hsz hsx hnil
 go_enter Tryz.func146,Tryz.ntmps146
 go_wp2_with fail
 generalize ((w.alloc _).alloc _).alloc _=w0 at *;refine (Vg _ _ ns (HR.out.below B0.out) HZ.out).mono ?_;rintro e w1 ⟨rfl,b1⟩;have B1:=Z8 (Ye B0.out b1);have X1:=Z8 (X0.out.below b1 X0.out.size);clear b1 X0 B0
 by_cases hok:Zp ns=true
 rotate_left
 · have hok':Zp ns=false:=by simpa using hok
   have HT:Hid (ZE ns z es=[]):=by show _=_;unfold ZE;rw [hok'];rfl
   rw [hok'];clear hok hok';have c0:=X1.out.r.cell;have f0:=X1.out.r.frozen;go_wp2;refine ZT (v:=.agg #[.slice none 0 0]) (by simp [results,Tryz.results146,go_sem,c0]) rfl ⟨_,rfl,(by rw [HT.out];exact Yf _ _ _ _),?_⟩
   repeat (first | exact B1.out | refine Zf ?_ (by simp;try omega) _)
 rw [hok];have oG:=X1.out.x.cells
 go_wp2_with fail
 clear oG;refine (PP _ _ _ es (HX.out.below B1.out) rn.out).mono ?_;rintro e w2 ⟨rfl,b2⟩;have B2:=Z8 (Ye B1.out b2);have X2:=Z8 (X1.out.below b2 X1.out.size);clear b2 X1 B1
 by_cases Qr:XR z es=true
 rotate_left
 · have DA:XR z es=false:=by simpa using Qr
   have HT:Hid (ZE ns z es=[]):=by show _=_;unfold ZE;rw [DA];simp
   rw [DA];clear Qr DA hok;have c0:=X2.out.r.cell;have f0:=X2.out.r.frozen;go_wp2;refine ZT (v:=.agg #[.slice none 0 0]) (by simp [results,Tryz.results146,go_sem,c0]) rfl ⟨_,rfl,(by rw [HT.out];exact Yf _ _ _ _),?_⟩
   repeat (first | exact B2.out | refine Zf ?_ (by simp;try omega) _)
 have hn1:=RQ hok;have he1:=(Tu Qr).2;have HT:Hid (ZE ns z es=KU ns es):=by show _=_;unfold ZE;rw [hok,Qr];rfl
 have HA:=Z8 (RL hok);have HE:=Z8 (Ov (Tu Qr).1);rw [Qr];clear hok Qr;have ct:=X2.out.t.cell;obtain ⟨y0,y1⟩:=X2.out.x.cells;have s2:=X2.out.size;generalize hen:es.length=n at *;have HP:=Z8 hen;clear hen;generalize hnn:ns.length=m at *;have HM:=Z8 hnn;clear hnn
 go_wp2_with (at_make;go_must (refine LW _ rfl _ _ 31 rfl (w.heap.size+3) 134 i0 (.agg #[.string ByteArray.empty,.string ByteArray.empty,.int .i64 0,.int .i64 0,.int .i64 0,.int .i64 0,.int .i64 0]) 7 Tryz.underlying31 hi hz0 hz1 _ _ _ (m+n) rfl rfl ?c0 ?b2 ?b3 ?b4 ?_))
 case c0=>omega
 case b2=>rw [hz2];omega
 case b3=>unfold maxLen;omega
 case b4=>exact s2
 intro w3 ho3 hg3;have BG:=Z8 (ZR.grown hg3 ZW (fun q hq=>by simp at hq));have S3:Hid (p8 w w2.heap.size (m+n) (Po ns (es.take 0)) (.slice ao m ca) z (.slice xo n cx) (.slice (some ⟨w2.heap.size,0,none⟩) 0 (m+n)) (.slice ao m ca) w3):=⟨ho3,rfl,HR.out,HN.out,Ye B2.out BG.out,X2.out.below BG.out s2⟩;clear ho3 hg3 BG ct y0 y1;have ct:=S3.out.box.t.cell;obtain ⟨y0,y1⟩:=S3.out.box.x.cells;generalize hg:w2.heap.size=g at *;clear X2 B2 hg;go_wp2
 go_loopw [5,6,33] (fun vo vr vk wr=>∃k:Nat,k≤n∧vk=.int .i64 k∧Hid (p8 w g (m+n) (Po ns (es.take k)) (.slice ao m ca) z (.slice xo n cx) vo vr wr)) (fun _ _ i _=>n - (intOf i).toNat)
 case atStart=>exact ⟨0,ZQ _,rfl,S3⟩
 case round =>
  clear ct y0 y1 S3;obtain ⟨k,hk,rfl,HS⟩:=hrel;obtain ⟨A,R,d⟩:∃A R,Po ns (es.take k)=(A,R):=⟨_,_,rfl⟩;have hlen:A.length+R.length≤m+k:=by
   have:=KS ns es k;rw [d,HM.out] at this;exact this
  have hrl:R.length≤m:=by
   have:=zD ns (es.take k);rw [d,HM.out] at this;exact this
  have Zs:Hid (Asc R):=by
   have:=wT HA.out (es.take k);rw [d] at this;exact this
  have tp:=Z8 d;rw [d] at HS;clear d;obtain ⟨ZN,hd0,Z7,ZH,HB0,Z0⟩:=HS.out;obtain ⟨ro,rc,h6,hr1,hr2⟩:=Z7.len;have OW:Hid (ZU 134 wr (w.heap.size+3) (.slice (some ⟨g,0,none⟩) A.length (m+n)) A):=by rw [hd0] at ZN;exact ZN
  have RR:Hid (VL w (.slice ro R.length rc) R):=by rw [h6] at Z7;exact Z7
  have NN:Hid (QR (.slice ro R.length rc)):=by rw [h6] at ZH;exact ZH
  have HB:=Z8 HB0;have Wl:=Z8 Z0;have hr1':R.length≤rc:=hr1
  replace hd0:u5=.slice (some ⟨g,0,none⟩) A.length (m+n):=hd0
  replace h6:u6=.slice ro R.length rc:=h6
  subst hd0 h6;clear ZN Z7 ZH HB0 Z0 HS hr1 hr2;have sB:=HB.out.size;have hgl:=(ZO OW.out g rfl).2
  by_cases hlt:k<n
  · have YN:(k:Int)<(n:Int):=by omega
    obtain ⟨b,o,hao,hb,hc⟩:∃b o,xo=some ⟨b,o,none⟩∧b<w.heap.size∧TF w b (o+k*8) (Zh es k):=by
     obtain ⟨BK,cap',e',-,-,h3⟩:=HX.out
     simp only [Zc] at e'
     obtain ⟨rfl,-,-⟩:=e'
     rcases h3 with h3 | ⟨b,o,rfl,hb,hc⟩
     · have:=HP.out;rw [h3] at this;simp at this;omega
     exact ⟨b,o,rfl,hb,hc k (by rw [HP.out];exact hlt)⟩
    subst hao;obtain ⟨c0,c1,c2,c3,c4,c5,c6,c7⟩:=hc.below HB.out hb;clear hc;have J:Hid (Po ns (es.take (k+1))=GK (A,R) (Zh es k)):=by
     show _=_;rw [←tp.out];exact ID ns es k (by rw [HP.out];exact hlt)
    clear tp
    go_wp2_with fail
    clear c0 c1 c2 c3 c4 c5 c6 c7;generalize Zh es k=f at *;have BA:Hid (Below wr.heap.size wr (wr.alloc (.cells #[.bool f.del,.string f.nd.path,.string f.nd.data,.int .i64 f.nd.Ym,.int .i64 f.nd.ZD,.int .i64 f.nd.cz,.int .i64 f.nd.mz,.int .i64 f.nd.pz] 141))):=ZR.alloc ZW _;have EX:Hid (Ss (wr.alloc (.cells #[.bool f.del,.string f.nd.path,.string f.nd.data,.int .i64 f.nd.Ym,.int .i64 f.nd.ZD,.int .i64 f.nd.cz,.int .i64 f.nd.mz,.int .i64 f.nd.pz] 141)) wr.heap.size f):=Ss.new _ _ _;generalize wr.alloc _=wA at *;generalize hB:wr.heap.size=B at *;have HG:Hid (B≠g):=by show _≠_;omega
    have Zr:=Z8 (OW.out.below (hB ▸ BA.out));have B1:=Z8 (HB.out.trans (BA.out.mono sB));have X1:=Z8 (Wl.out.below BA.out (by omega));clear OW HB Wl BA hB;obtain ⟨L,hL⟩:∃L,L=RJ R f.nd.path:=⟨_,rfl⟩;have Z6:L≤R.length:=by rw [hL];exact KV _ _
    have Zq:Hid (Low R f.nd.path L):=by rw [hL];exact wY R _ Zs.out
    have HS2:Hid (Po ns (es.take (k+1))=(A++R.take L++(if f.del then [] else [f.nd]),R.drop (L+if IN R f.nd.path L then 1 else 0))):=by
     show _=_;rw [J.out,hL]
     rfl
    have qQ:Hid (IN R f.nd.path L=true→L<R.length):=by
     intro hh;unfold IN at hh
     simp only [Yg,Zg] at hh
     exact hh.1
    clear J hL;refine (K7 wA _ R f.nd.path L (RR.out.below B1.out) (by omega) Zq.out).mono ?_;rintro e w4 ⟨rfl,b4⟩;have Zm:=Z8 (Zr.out.below b4);have B4:=Z8 (Ye B1.out b4);have X4:=Z8 (X1.out.below b4 X1.out.size);have E4:=Z8 (EX.out.below b4);clear b4 Zr B1 X1 EX;have hs1:=zF ro R.length rc L Z6 hr1'
    go_wp2_with (at_builtin;go_must (refine wpList_append_fits_any _ rfl _ _ 31 rfl (w.heap.size+3) 134 i0 7 Tryz.underlying31 hi hz1 g A.length (m+n) (Yd A) rfl Zm.out ro L rc (Yd (R.take L)) rfl ?n1 ?n2 ?n3 ?n4 ?n5 ?_))
    case n1=>rw [Vw,YC];omega
    case n2=>exact fun e=>by have:=NN.out R.length rc (by rw [e]);omega
    case n3=>exact fun ad had j u hu=>(RR.out.below B4.out).NR ad had j u (Dm hu)
    case n4=>exact NQ _
    case n5=>omega
    intro w5 GL hg5;have E:Hid (ZU 134 w5 (w.heap.size+3) (.slice (some ⟨g,0,none⟩) (A.length+L) (m+n)) (A++R.take L)):=by
     show World.ownsRow _ _ _ _ _ _ _;rw [YE,YC,So Z6,UZ];exact GL
    have B5:=Z8 (B4.out.grown hg5 B4.out.size (fun q hq=>by simp only [Xu] at hq;omega));have X5:=Z8 (X4.out.below ((yj (w.heap.size+3) w4).grown hg5 X4.out.size (fun q hq=>by simp only [Xu] at hq;omega)) ZW);have E5:=Z8 (E4.out.grown hg5 HG.out);have G5:=(ZO E.out g rfl).2;clear GL hg5 Zm B4 X4 E4 hs1;obtain ⟨a2,hs2,r2,n2⟩:=NP RR.out NN.out L Z6;have R2:=Z8 r2;have N2:=Z8 n2;clear r2 n2;obtain ⟨e0,e1,e2,e3,e4,e5,e6,e7⟩:=E5.out.all;obtain ⟨vr,Rn,hw⟩:∃vr Rn,(Rn=R.drop (L+if IN R f.nd.path L then 1 else 0)∧Hid (VL w vr Rn)∧Hid (QR vr))∧((IN R f.nd.path L=false∧vr=.slice a2 (R.length - L) (rc - L))∨(IN R f.nd.path L=true∧∀W,(Instr.slice 31 (.slice a2 (R.length - L) (rc - L)) (some (.int .i64 1)) none none).run Tryz.prog W=.ok vr W)):=by
     cases hf:IN R f.nd.path L with
     | false=>exact ⟨_,_,⟨rfl,R2,N2⟩,.inl ⟨rfl,rfl⟩⟩
     | true =>
      have hl:=qQ.out hf;have YZ:VL w (.slice a2 (R.drop L).length (rc - L)) (R.drop L):=by rw [Zv];exact R2.out
      have YY:QR (.slice a2 (R.drop L).length (rc - L)):=by rw [Zv];exact N2.out
      obtain ⟨a3,hs3,r3,n3⟩:=NP YZ YY 1 (by rw [Zv];omega);rw [Zv] at hs3 r3 n3;rw [US] at r3;exact ⟨_,_,⟨rfl,r3,n3⟩,.inr ⟨rfl,hs3⟩⟩
    obtain ⟨⟨rE,R3,N3⟩,hw⟩:=hw;have Gt:Hid (Po ns (es.take (k+1))=(A++R.take L++(if f.del then [] else [f.nd]),Rn)):=by rw [rE];exact HS2.out
    have Uu:Hid ((A++R.take L).length=A.length+L):=by show _=_;rw [YE,YC,So Z6]
    clear HS2 rE
    cases hdel:f.del with
    | true =>
     rw [hdel] at e0;have S9:Hid (p8 w g (m+n) (Po ns (es.take (k+1))) (.slice ao m ca) z (.slice (some ⟨b,o,none⟩) n cx) (.slice (some ⟨g,0,none⟩) (A.length+L) (m+n)) vr w5):=by
      have e9:Po ns (es.take (k+1))=(A++R.take L,Rn):=by rw [Gt.out,hdel];simp
      rw [e9];exact ⟨E.out,by rw [Uu.out],R3.out,N3.out,B5.out,X5.out⟩
     clear Gt Uu E R3 N3 B5 X5 R2 N2
     rcases hw with ⟨hf,rfl⟩ | ⟨hf,hs3⟩
     · rw [hf]
       go_wp2;exact ⟨⟨k+1,by omega,by go_num,S9⟩,by simp [intOf];omega⟩
     rw [hf];go_wp2;exact ⟨⟨k+1,by omega,by go_num,S9⟩,by simp [intOf];omega⟩
    | false =>
     rw [hdel] at e0;have FIN:Hid (∀w',w'.ownsRow (w.heap.size+3) 134 7 (.slice (some ⟨g,0,none⟩) (A.length+L+1) (m+n)) (A.length+L+1) (Yd (A++R.take L)++Rr f.nd)→∀t,(w5.alloc (.cells #[.string f.nd.path,.string f.nd.data,.int .i64 f.nd.Ym,.int .i64 f.nd.ZD,.int .i64 f.nd.cz,.int .i64 f.nd.mz,.int .i64 f.nd.pz] t)).grownBy w' (some g)→Hid (p8 w g (m+n) (Po ns (es.take (k+1))) (.slice ao m ca) z (.slice (some ⟨b,o,none⟩) n cx) (.slice (some ⟨g,0,none⟩) (A.length+L+1) (m+n)) vr w')):=by
      intro w' how t hgw;have e9:Po ns (es.take (k+1))=(A++R.take L++[f.nd],Rn):=by rw [Gt.out,hdel];simp
      have el:(A++R.take L++[f.nd]).length=A.length+L+1:=by rw [YE,Uu.out];rfl
      rw [e9];have hb3:=((yj (w.heap.size+3) w5).alloc X5.out.size _).grown hgw (by have:=X5.out.size;simp;omega) (fun q hq=>by simp only [Xu] at hq;omega);refine ⟨?_,?_,R3.out,N3.out,B5.out.trans (hb3.mono (by omega)),X5.out.below hb3 ZW⟩
      · show World.ownsRow _ _ _ _ _ (A++R.take L++[f.nd]).length (Yd (A++R.take L++[f.nd]))
        rw [el,VZ];exact how
      show _=Value.slice _ (A++R.take L++[f.nd]).length _;rw [el]
     have OR:Hid (w5.ownsRow (w.heap.size+3) 134 7 (.slice (some ⟨g,0,none⟩) (A.length+L) (m+n)) (A.length+L) (Yd (A++R.take L))):=by
      have:=E.out;unfold ZU at this;rw [Uu.out] at this;exact this
     clear Gt Uu E R3 N3 R2 N2
     rcases hw with ⟨hf,rfl⟩ | ⟨hf,hs3⟩
     · rw [hf]
       go_wp2_with (at_builtin;go_must (refine Je _ rfl _ _ 31 rfl (w.heap.size+3) 134 i0 7 Tryz.underlying31 hi hz1 g (A.length+L) (m+n) _ rfl (OR.out.alloc _) ⟨w5.heap.size,0,none⟩ 1 1 (Rr f.nd) rfl rfl (XL w5 f.nd _) (WL f.nd) ?q1 ?_))
       case q1=>omega
       intro w6 Ah Gd;have S9:=FIN.out w6 Ah _ Gd;clear FIN OR Ah Gd e0 e1 e2 e3 e4 e5 e6 e7;go_wp2;exact ⟨⟨k+1,by omega,by go_num,S9⟩,by simp [intOf];omega⟩
     rw [hf]
     go_wp2_with (at_builtin;go_must (refine Je _ rfl _ _ 31 rfl (w.heap.size+3) 134 i0 7 Tryz.underlying31 hi hz1 g (A.length+L) (m+n) _ rfl (OR.out.alloc _) ⟨w5.heap.size,0,none⟩ 1 1 (Rr f.nd) rfl rfl (XL w5 f.nd _) (WL f.nd) ?q2 ?_))
     case q2=>have:=qQ.out hf;omega
     intro w6 Ah Gd;have S9:=FIN.out w6 Ah _ Gd;clear FIN OR Ah Gd e0 e1 e2 e3 e4 e5 e6 e7;go_wp2;exact ⟨⟨k+1,by omega,by go_num,S9⟩,by simp [intOf];omega⟩
  have hkn:k=n:=by omega
  subst hkn;have HF:Hid (A++R=ZE ns z es):=by
   have:=wS HA.out HE.out HP.out;rw [tp.out] at this;rw [HT.out];exact this
  clear tp
  go_wp2_with (at_builtin;go_must (refine wpList_append_fits_any _ rfl _ _ 31 rfl (w.heap.size+3) 134 i0 7 Tryz.underlying31 hi hz1 g A.length (m+k) (Yd A) rfl OW.out ro R.length rc (Yd R) rfl ?m1 ?m2 ?m3 ?m4 ?m5 ?_))
  case m1=>rw [Vw]
  case m2=>exact fun e=>NN.out R.length rc (by rw [e])
  case m3=>exact fun ad had j u hu=>(RR.out.below HB.out).NR ad had j u hu
  case m4=>exact NQ _
  case m5=>omega
  intro w5 GL hg5;have E:Hid (ZU 134 w5 (w.heap.size+3) (.slice (some ⟨g,0,none⟩) (A.length+R.length) (m+k)) (ZE ns z es)):=by
   rw [←HF.out];show World.ownsRow _ _ _ _ _ _ _;rw [YE,UZ];exact GL
  have B5:=Z8 (HB.out.grown hg5 HB.out.size (fun q hq=>by simp only [Xu] at hq;omega));have X5:=Z8 (Wl.out.below ((yj (w.heap.size+3) wr).grown hg5 Wl.out.size (fun q hq=>by simp only [Xu] at hq;omega)) ZW);clear GL hg5 OW HB Wl;have c0:=X5.out.r.cell;have f0:=X5.out.r.frozen;go_wp2;refine ZT (v:=.agg #[.slice (some ⟨g,0,none⟩) (A.length+R.length) (m+k)]) (by simp [results,Tryz.results146,go_sem,c0]) rfl ⟨_,rfl,?_,?_⟩
  · refine ZU.mono ?_ (show w.heap.size≤w.heap.size+3 by omega)
    repeat (first | exact E.out | refine ZU.ZK ?_ (by simp;try omega) _)
  repeat (first | exact B5.out | refine Zf ?_ (by simp;try omega) _)
theorem Ih (w:World) (V:Nat) (v:Value) (zx en last z:Int) (k:Nat) (xa:Option Addr) (xl xc:Nat) (h:UX w V v (.int .i64 zx) (.int .i64 (k:Int)) (.int .i64 en)) (hx:-1≤zx∧zx≤2147483647) (hl:0<k→1≤last∧last≤2147483647) :
    Calls Tryz.prog 130 #[.pointer (some ⟨V,0,none⟩),.int .i64 last,.agg #[.int .i64 z,.slice xa xl xc]] w (Ze w (.bool (if k=0 then decide (z≤zx+1) else decide (z=last+1)))):=by
 have B0:Hid (ZX w (w.alloc (.cells #[.int .i64 z,.slice xa xl xc] 105))):=ZR.alloc ZW _;have H0:=Z8 (h.below B0.out);have HT:Hid (YK (w.alloc (.cells #[.int .i64 z,.slice xa xl xc] 105)) w.heap.size (.int .i64 z) (.slice xa xl xc)):=YK.new _ _ _ _;clear h
 by_cases hk0:k=0
 · subst hk0
   rw [ZY rfl]
   cases hle:decide (z≤zx+1) with
   | true =>
    have Zd:z≤zx+1:=by simpa using hle
    obtain ⟨z0,⟨c0,c1,c2,c3⟩,-⟩:=H0.out
    go_enter Tryz.func130,Tryz.ntmps130
    go_wp2_with fail
    obtain ⟨z1,t0,t1⟩:=HT.out;generalize w.alloc _=w0 at *
    go_quiet (fail)
    go_wp2;go_ret;exact ⟨rfl,YO B0.out _⟩
   | false =>
    have Zd:¬z≤zx+1:=by simpa using hle
    obtain ⟨z0,⟨c0,c1,c2,c3⟩,-⟩:=H0.out
    go_enter Tryz.func130,Tryz.ntmps130
    go_wp2_with fail
    obtain ⟨z1,t0,t1⟩:=HT.out;generalize w.alloc _=w0 at *
    go_quiet (fail)
    go_wp2;go_ret;exact ⟨rfl,YO B0.out _⟩
 rw [Z3 hk0];have hl':=hl (by omega);have qP:¬(k:Int)=0:=by omega
 have hkb:((k:Int) == 0)=false:=by simpa using qP
 clear hl;obtain ⟨z0,⟨c0,c1,c2,c3⟩,-⟩:=H0.out;obtain ⟨b,hb⟩:∃b,b=(z == last+1):=⟨_,rfl⟩;have HE:Hid (decide (z=last+1)=b):=by rw [hb];show _=_;cases h:(z == last+1) <;> simp_all
 rw [HE.out]
 go_enter Tryz.func130,Tryz.ntmps130
 go_wp2;go_ret;exact ⟨by rw [hb];rfl,B0.out⟩
def Dl (w:World) (V:Nat) (ns:List Nd) (zx:Int) (k:Nat) (en z:Int) (es:List Ef) (e:Ending) (w':World):Prop :=
 (z≤zx∧e=.returned (.bool true)∧ZX w w')∨(zx<z∧1000<(ZE ns z es).length∧e=.returned (.bool false)∧ZX w w') ∨
  (zx<z∧¬1000<(ZE ns z es).length∧e=.returned (.bool true)∧∃v',UX w' V v' (.int .i64 z) (.int .i64 (k:Int)) (.int .i64 en)∧ZU 134 w' w.heap.size v' (ZE ns z es)∧w.grownBy w' (some V))
theorem Dk (w:World) (V:Nat) (va:Option Addr) (vc:Nat) (ns:List Nd) (zx en z:Int) (k:Nat) (xa:Option Addr) (xc:Nat) (es:List Ef) (h:UX w V (.slice va ns.length vc) (.int .i64 zx) (.int .i64 (k:Int)) (.int .i64 en)) (hn:VL w (.slice va ns.length vc) ns) (hnil:QR (.slice va ns.length vc)) (hg:Good ns) (hx:BL w (.slice xa es.length xc) es) (hok:XR z es=true) :
    Calls Tryz.prog 131 #[.pointer (some ⟨V,0,none⟩),.agg #[.int .i64 z,.slice xa es.length xc]] w (Dl w V ns zx k en z es):=by
 have B0:Hid (ZX w (w.alloc (.cells #[.int .i64 z,.slice xa es.length xc] 105))):=ZR.alloc ZW _;have H0:=Z8 (h.below B0.out);have HT:Hid (YK (w.alloc (.cells #[.int .i64 z,.slice xa es.length xc] 105)) w.heap.size (.int .i64 z) (.slice xa es.length xc)):=YK.new _ _ _ _;have Zb:=Z8 h.1;have HN:=Z8 hn;have HX:=Z8 hx;have Za:=Z8 hnil;have HG:=Z8 hg;have WC:=Z8 hok;clear h hn hx hnil hg hok
 go_enter Tryz.func131,Tryz.ntmps131
 go_wp2_with fail
 obtain ⟨z0,⟨c0,c1,c2,c3⟩,-⟩:=H0.out;obtain ⟨z1,t0,t1⟩:=HT.out;have oK:Hid ((w.alloc (.cells #[.int .i64 z,.slice xa es.length xc] 105)).heap.size=w.heap.size+1):=by show _=_;simp
 generalize w.alloc _=w0 at *
 by_cases hle:z≤zx
 · go_quiet (fail)
   go_wp2;go_ret;exact .inl ⟨hle,rfl,YO B0.out _⟩
 go_quiet (fail)
 have bq:=below_drewN' w0 nq;have B1:=Z8 (Ye B0.out bq);have H1:=Z8 (H0.out.below bq);have T1:=Z8 (HT.out.below bq);clear bq z0 c0 c1 c2 c3 z1 t0 t1 B0 H0 HT
 go_wp2_with fail
 generalize w0.drewN nq=w1 at *;obtain ⟨z1,t0,t1⟩:=T1.out;obtain ⟨z0,⟨c0,c1,c2,c3⟩,-⟩:=H1.out;have Z5:Hid (∀W,ZX w1 W→Calls Tryz.prog 146 #[.agg #[.slice va ns.length vc],.agg #[.int .i64 z,.slice xa es.length xc]] W fun e w'=>∃ra rc,e=.returned (.agg #[.slice ra (ZE ns z es).length rc])∧ZU 134 w' W.heap.size (.slice ra (ZE ns z es).length rc) (ZE ns z es)∧ZX W w'):=by
  intro W hW;have hb:=Ye B1.out hW;refine (ME W _ ns z _ es (HN.out.below hb) Za.out (HX.out.below hb) (QS HG.out) (zH WC.out)).mono ?_;rintro e w' ⟨v',rfl,o,b⟩;obtain ⟨ra,rc,rfl⟩:=ZU.YW o;exact ⟨ra,rc,rfl,o,b⟩
 have hrl:=Ot ns z es;have bP:ZX w1 w1.drew:=below_drewN' w1 1;refine ZF (S:=fun W=>W.cell? ⟨V,0,none⟩=some (.slice va ns.length vc)∧W.cell? ⟨w.heap.size,0,none⟩=some (.int .i64 z)∧W.cell? ⟨w.heap.size,1,none⟩=some (.slice xa es.length xc)) (by kernel_rfl) (⟨(bP.cell (p:=⟨V,0,none⟩) H1.out.1).trans H1.out.2.1.1,(bP.cell (p:=⟨w.heap.size,0,none⟩) T1.out.1).trans T1.out.2.1,(bP.cell (p:=⟨w.heap.size,1,none⟩) T1.out.1).trans T1.out.2.2⟩) (fun Z9=>?_);have BP:=Z8 bP;clear bP;generalize w1.drew=p1 at *
 iterate 5 (refine ZV ?_ (by kernel_rfl) (fun _=>id) Z9 ?_ ?_;rotate_left;· intro w9 Z4;obtain ⟨k0,k1,k2⟩:=Z4;go_simp;try with_reducible rfl)
 refine Wu 5 6 rfl rfl (by kernel_rfl) (fun K hK=>?_) (fun K hK=>?_)
 · go_simp
   refine (Z5.out p1 BP.out).mono ?_;rintro e w2 ⟨ra,rc,rfl,o2,b2⟩;have B2:=Z8 (Ye BP.out b2);have O2:=Z8 (o2.mono BP.out.size);clear b2 o2;refine hK.out _ _ (⟨(B2.out.cell (p:=⟨V,0,none⟩) H1.out.1).trans H1.out.2.1.1,(B2.out.cell (p:=⟨w.heap.size,0,none⟩) T1.out.1).trans T1.out.2.1,(B2.out.cell (p:=⟨w.heap.size,1,none⟩) T1.out.1).trans T1.out.2.2⟩) (fun ZI=>?_);clear hK K ZI Z9;have Z9:=(⟨(B2.out.cell (p:=⟨V,0,none⟩) H1.out.1).trans H1.out.2.1.1,(B2.out.cell (p:=⟨w.heap.size,0,none⟩) T1.out.1).trans T1.out.2.1,(B2.out.cell (p:=⟨w.heap.size,1,none⟩) T1.out.1).trans T1.out.2.2⟩:(fun W=>W.cell? ⟨V,0,none⟩=some (.slice va ns.length vc)∧W.cell? ⟨w.heap.size,0,none⟩=some (.int .i64 z)∧W.cell? ⟨w.heap.size,1,none⟩=some (.slice xa es.length xc)) w2);refine ZS 6 rfl (by kernel_rfl) (fun K hK=>?_);go_simp;have BA:Hid (ZX w1 (w2.alloc (.cells #[.slice none 0 0] 33))):=B2.out.alloc B2.out.size _;refine hK.out _ _ (⟨(BA.out.cell (p:=⟨V,0,none⟩) H1.out.1).trans H1.out.2.1.1,(BA.out.cell (p:=⟨w.heap.size,0,none⟩) T1.out.1).trans T1.out.2.1,(BA.out.cell (p:=⟨w.heap.size,1,none⟩) T1.out.1).trans T1.out.2.2⟩) (fun ZI=>?_);clear hK K ZI Z9;have Z9:=(⟨(BA.out.cell (p:=⟨V,0,none⟩) H1.out.1).trans H1.out.2.1.1,(BA.out.cell (p:=⟨w.heap.size,0,none⟩) T1.out.1).trans T1.out.2.1,(BA.out.cell (p:=⟨w.heap.size,1,none⟩) T1.out.1).trans T1.out.2.2⟩:(fun W=>W.cell? ⟨V,0,none⟩=some (.slice va ns.length vc)∧W.cell? ⟨w.heap.size,0,none⟩=some (.int .i64 z)∧W.cell? ⟨w.heap.size,1,none⟩=some (.slice xa es.length xc)) (w2.alloc (.cells #[.slice none 0 0] 33)));refine ZS 7 rfl (by kernel_rfl) (fun K hK=>?_);go_simp;have B3:Hid (ZX w1 (w2.alloc (.cells #[(.slice ra (ZE ns z es).length rc)] 33))):=B2.out.alloc B2.out.size _;have Y3:Hid (w2.heap.size<(w2.alloc (.cells #[(.slice ra (ZE ns z es).length rc)] 33)).heap.size∧(w2.alloc (.cells #[(.slice ra (ZE ns z es).length rc)] 33)).cell? ⟨w2.heap.size,0,none⟩=some (.slice ra (ZE ns z es).length rc)):=⟨by simp,by simp⟩;have O3:Hid (ZU 134 (w2.alloc (.cells #[(.slice ra (ZE ns z es).length rc)] 33)) w1.heap.size (.slice ra (ZE ns z es).length rc) (ZE ns z es)):=O2.out.below (ZR.alloc ZW _);have N3:=Z8 B2.out.size;clear BA B2 O2;refine hK.out _ _ (⟨(B3.out.cell (p:=⟨V,0,none⟩) H1.out.1).trans H1.out.2.1.1,(B3.out.cell (p:=⟨w.heap.size,0,none⟩) T1.out.1).trans T1.out.2.1,(B3.out.cell (p:=⟨w.heap.size,1,none⟩) T1.out.1).trans T1.out.2.2⟩) (fun ZI=>?_);clear hK K ZI Z9;have Z9:=(⟨(B3.out.cell (p:=⟨V,0,none⟩) H1.out.1).trans H1.out.2.1.1,(B3.out.cell (p:=⟨w.heap.size,0,none⟩) T1.out.1).trans T1.out.2.1,(B3.out.cell (p:=⟨w.heap.size,1,none⟩) T1.out.1).trans T1.out.2.2⟩:(fun W=>W.cell? ⟨V,0,none⟩=some (.slice va ns.length vc)∧W.cell? ⟨w.heap.size,0,none⟩=some (.int .i64 z)∧W.cell? ⟨w.heap.size,1,none⟩=some (.slice xa es.length xc)) ((w2.alloc (.cells #[(.slice ra (ZE ns z es).length rc)] 33))));refine ZM (by kernel_rfl) ?_ _
   try simp only [Act.put,Zk,Zj,Zi]
   clear Z9;generalize (w2.alloc _)=w3 at *;generalize tk:w2.heap.size=By at *;clear tk;have U:=Z8 (Ye B1.out B3.out);have H3:=Z8 (H1.out.below B3.out);have T3:=Z8 (T1.out.below B3.out);have YX:=B3.out.size;have ZG:=B1.out.size;have hBr:=Zb.out;clear H1 T1 B1 z0 c0 c1 c2 c3 z1 t0 t1 Z5 BP;obtain ⟨z1,t0,t1⟩:=T3.out;obtain ⟨z0,⟨c0,c1,c2,c3⟩,f0,f1,f2,f3⟩:=H3.out;obtain ⟨zy,y0⟩:=Y3.out
   by_cases hbig:1000<(ZE ns z es).length
   · have QP:(1000:Int)<((ZE ns z es).length:Int):=by omega
     go_wp2;go_ret;exact .inr (.inl ⟨by omega,hbig,rfl,U.out⟩)
   have QP:¬(1000:Int)<((ZE ns z es).length:Int):=by omega
   go_wp2_with fail
   have hyb:By≠V:=by have:=N3.out;omega
   have Y':V≠By:=fun e=>hyb e.symm
   have hwb:w.heap.size≠V:=by omega
   have Y9:V≠w.heap.size:=by omega
   have NE:Hid (Value.ownBlock (.slice ra (ZE ns z es).length rc)≠some V):=fun e=>by have h1:w1.heap.size≤V:=(ZO O3.out _ e).1;omega
   have FX:Hid (UX (((w3.setCell ⟨V,0,none⟩ (.slice ra (ZE ns z es).length rc)).setCell ⟨V,1,none⟩ (.int .i64 z))) V (.slice ra (ZE ns z es).length rc) (.int .i64 z) (.int .i64 (k:Int)) (.int .i64 en)):=(H3.out.set0 _).set1 _;have FO:Hid (ZU 134 (((w3.setCell ⟨V,0,none⟩ (.slice ra (ZE ns z es).length rc)).setCell ⟨V,1,none⟩ (.int .i64 z))) w.heap.size (.slice ra (ZE ns z es).length rc) (ZE ns z es)):=((O3.out.Yu NE.out _).Yu NE.out _).mono ZG;have FG:Hid (w.grownBy (((w3.setCell ⟨V,0,none⟩ (.slice ra (ZE ns z es).length rc)).setCell ⟨V,1,none⟩ (.int .i64 z))) (some V)):=grownBy_set _ _ _ _ _ (grownBy_set _ _ _ _ _ ⟨U.out.os,U.out.tape,U.out.output,U.out.size,fun q hq _=>U.out.block q hq⟩);clear H3 T3 O3 B3 U NE
   go_region_law (fail)
   all_goals
    generalize ((w3.setCell _ _).setCell _ _)=w9 at *;go_wp2;go_ret;exact .inr (.inr ⟨by omega,hbig,rfl,_,FX.out.below (below_drewN' w9 1),FO.out.below (below_drewN' w9 1),⟨FG.out.os,FG.out.tape,FG.out.output,FG.out.size,FG.out.block⟩⟩)
 go_simp;have BQ:Hid (ZX w1 (p1.alloc (.cells #[.slice none 0 0] 33))):=BP.out.alloc BP.out.size _;have YQ:Hid (p1.heap.size<(p1.alloc (.cells #[.slice none 0 0] 33)).heap.size∧(p1.alloc (.cells #[.slice none 0 0] 33)).cell? ⟨p1.heap.size,0,none⟩=some (.slice none 0 0)∧(p1.alloc (.cells #[.slice none 0 0] 33)).frozen? ⟨p1.heap.size,0,none⟩=false):=⟨by simp,by simp,by simp⟩;refine hK.out _ _ (⟨(BQ.out.cell (p:=⟨V,0,none⟩) H1.out.1).trans H1.out.2.1.1,(BQ.out.cell (p:=⟨w.heap.size,0,none⟩) T1.out.1).trans T1.out.2.1,(BQ.out.cell (p:=⟨w.heap.size,1,none⟩) T1.out.1).trans T1.out.2.2⟩) (fun ZI=>?_);clear hK K ZI Z9;have Z9:=(⟨(BQ.out.cell (p:=⟨V,0,none⟩) H1.out.1).trans H1.out.2.1.1,(BQ.out.cell (p:=⟨w.heap.size,0,none⟩) T1.out.1).trans T1.out.2.1,(BQ.out.cell (p:=⟨w.heap.size,1,none⟩) T1.out.1).trans T1.out.2.2⟩:(fun W=>W.cell? ⟨V,0,none⟩=some (.slice va ns.length vc)∧W.cell? ⟨w.heap.size,0,none⟩=some (.int .i64 z)∧W.cell? ⟨w.heap.size,1,none⟩=some (.slice xa es.length xc)) (p1.alloc (.cells #[.slice none 0 0] 33)));have SQ:Hid ((p1.alloc (.cells #[.slice none 0 0] 33)).heap.size=p1.heap.size+1):=by show _=_;simp
 generalize (p1.alloc _)=q1 at *;refine ZS 5 rfl (by kernel_rfl) (fun K hK=>?_);go_simp;refine (Z5.out q1 BQ.out).mono ?_;rintro e w2 ⟨ra,rc,rfl,o2,b2⟩;have B2:=Z8 (Ye BQ.out b2);have O2:=Z8 o2;have Y2:Hid (p1.heap.size<w2.heap.size∧w2.cell? ⟨p1.heap.size,0,none⟩=some (.slice none 0 0)∧w2.frozen? ⟨p1.heap.size,0,none⟩=false):=⟨ZB YQ.out.1 b2.size,(b2.cell (p:=⟨p1.heap.size,0,none⟩) YQ.out.1).trans YQ.out.2.1,(b2.frozen (p:=⟨p1.heap.size,0,none⟩) YQ.out.1).trans YQ.out.2.2⟩;clear b2 o2;refine hK.out _ _ (⟨(B2.out.cell (p:=⟨V,0,none⟩) H1.out.1).trans H1.out.2.1.1,(B2.out.cell (p:=⟨w.heap.size,0,none⟩) T1.out.1).trans T1.out.2.1,(B2.out.cell (p:=⟨w.heap.size,1,none⟩) T1.out.1).trans T1.out.2.2⟩) (fun ZI=>?_);clear hK K ZI Z9;have Z9:=(⟨(B2.out.cell (p:=⟨V,0,none⟩) H1.out.1).trans H1.out.2.1.1,(B2.out.cell (p:=⟨w.heap.size,0,none⟩) T1.out.1).trans T1.out.2.1,(B2.out.cell (p:=⟨w.heap.size,1,none⟩) T1.out.1).trans T1.out.2.2⟩:(fun W=>W.cell? ⟨V,0,none⟩=some (.slice va ns.length vc)∧W.cell? ⟨w.heap.size,0,none⟩=some (.int .i64 z)∧W.cell? ⟨w.heap.size,1,none⟩=some (.slice xa es.length xc)) w2);obtain ⟨zz,zc,zf⟩:=Y2.out;refine ZS 7 rfl (by kernel_rfl) (fun K hK=>?_);go_simp;have B3:Hid (ZX w1 (w2.setCell ⟨p1.heap.size,0,none⟩ (.slice ra (ZE ns z es).length rc))):=B2.out.setCell BP.out.size _;have Y3:Hid (p1.heap.size<(w2.setCell ⟨p1.heap.size,0,none⟩ (.slice ra (ZE ns z es).length rc)).heap.size∧(w2.setCell ⟨p1.heap.size,0,none⟩ (.slice ra (ZE ns z es).length rc)).cell? ⟨p1.heap.size,0,none⟩=some (.slice ra (ZE ns z es).length rc)):=⟨by simpa using zz,Ys _ _ _ zc⟩;have O3:Hid (ZU 134 (w2.setCell ⟨p1.heap.size,0,none⟩ (.slice ra (ZE ns z es).length rc)) w1.heap.size (.slice ra (ZE ns z es).length rc) (ZE ns z es)):=(ZU.Yu O2.out (fun e=>by have h1:q1.heap.size≤p1.heap.size:=(ZO O2.out _ e).1;have:=SQ.out;omega) _).mono (by have:=SQ.out;have:=BP.out.size;omega);have N3:=Z8 BP.out.size;clear BQ YQ B2 O2 Y2 zz zc zf SQ;refine hK.out _ _ (⟨(B3.out.cell (p:=⟨V,0,none⟩) H1.out.1).trans H1.out.2.1.1,(B3.out.cell (p:=⟨w.heap.size,0,none⟩) T1.out.1).trans T1.out.2.1,(B3.out.cell (p:=⟨w.heap.size,1,none⟩) T1.out.1).trans T1.out.2.2⟩) (fun ZI=>?_);clear hK K ZI Z9;have Z9:=(⟨(B3.out.cell (p:=⟨V,0,none⟩) H1.out.1).trans H1.out.2.1.1,(B3.out.cell (p:=⟨w.heap.size,0,none⟩) T1.out.1).trans T1.out.2.1,(B3.out.cell (p:=⟨w.heap.size,1,none⟩) T1.out.1).trans T1.out.2.2⟩:(fun W=>W.cell? ⟨V,0,none⟩=some (.slice va ns.length vc)∧W.cell? ⟨w.heap.size,0,none⟩=some (.int .i64 z)∧W.cell? ⟨w.heap.size,1,none⟩=some (.slice xa es.length xc)) ((w2.setCell ⟨p1.heap.size,0,none⟩ (.slice ra (ZE ns z es).length rc))));refine ZM (by kernel_rfl) ?_ _
 try simp only [Act.put,Zk,Zj,Zi]
 clear Z9;generalize (w2.setCell _ _)=w3 at *;generalize tk:p1.heap.size=By at *;clear tk;have U:=Z8 (Ye B1.out B3.out);have H3:=Z8 (H1.out.below B3.out);have T3:=Z8 (T1.out.below B3.out);have YX:=B3.out.size;have ZG:=B1.out.size;have hBr:=Zb.out;clear H1 T1 B1 z0 c0 c1 c2 c3 z1 t0 t1 Z5 BP;obtain ⟨z1,t0,t1⟩:=T3.out;obtain ⟨z0,⟨c0,c1,c2,c3⟩,f0,f1,f2,f3⟩:=H3.out;obtain ⟨zy,y0⟩:=Y3.out
 by_cases hbig:1000<(ZE ns z es).length
 · have QP:(1000:Int)<((ZE ns z es).length:Int):=by omega
   go_wp2;go_ret;exact .inr (.inl ⟨by omega,hbig,rfl,U.out⟩)
 have QP:¬(1000:Int)<((ZE ns z es).length:Int):=by omega
 go_wp2_with fail
 have hyb:By≠V:=by have:=N3.out;omega
 have Y':V≠By:=fun e=>hyb e.symm
 have hwb:w.heap.size≠V:=by omega
 have Y9:V≠w.heap.size:=by omega
 have NE:Hid (Value.ownBlock (.slice ra (ZE ns z es).length rc)≠some V):=fun e=>by have h1:w1.heap.size≤V:=(ZO O3.out _ e).1;omega
 have FX:Hid (UX (((w3.setCell ⟨V,0,none⟩ (.slice ra (ZE ns z es).length rc)).setCell ⟨V,1,none⟩ (.int .i64 z))) V (.slice ra (ZE ns z es).length rc) (.int .i64 z) (.int .i64 (k:Int)) (.int .i64 en)):=(H3.out.set0 _).set1 _;have FO:Hid (ZU 134 (((w3.setCell ⟨V,0,none⟩ (.slice ra (ZE ns z es).length rc)).setCell ⟨V,1,none⟩ (.int .i64 z))) w.heap.size (.slice ra (ZE ns z es).length rc) (ZE ns z es)):=((O3.out.Yu NE.out _).Yu NE.out _).mono ZG;have FG:Hid (w.grownBy (((w3.setCell ⟨V,0,none⟩ (.slice ra (ZE ns z es).length rc)).setCell ⟨V,1,none⟩ (.int .i64 z))) (some V)):=grownBy_set _ _ _ _ _ (grownBy_set _ _ _ _ _ ⟨U.out.os,U.out.tape,U.out.output,U.out.size,fun q hq _=>U.out.block q hq⟩);clear H3 T3 O3 B3 U NE
 go_region_law (fail)
 all_goals
  generalize ((w3.setCell _ _).setCell _ _)=w9 at *;go_wp2;go_ret;exact .inr (.inr ⟨by omega,hbig,rfl,_,FX.out.below (below_drewN' w9 1),FO.out.below (below_drewN' w9 1),⟨FG.out.os,FG.out.tape,FG.out.output,FG.out.size,FG.out.block⟩⟩)
theorem FE (w:World) (ao:Option Addr) (cap:Nat) (ns:List Nd) (h:VL w (.slice ao ns.length cap) ns) (hn:ns.length≤1000) :
    Calls Tryz.prog 127 #[.slice ao ns.length cap] w fun e w'=>∃v',e=.returned v'∧ZU 134 w' w.heap.size v' ns∧ZX w w':=by
 obtain ⟨i0,hi,hz0,hz1,hz2⟩:=YH Tryz.LP;have q22:∀(w:World) (a:Option Addr) (n c n' c':Nat),(binOp .eql 31 (.slice a n c) (.slice none n' c')).run Tryz.prog w=.ok (.bool a.isNone) w:=fun w a n c n' c'=>Lib.run_eql_slice_nil w _ _ a n c n' c' Tryz.underlying31
 have HE:Hid ((w.alloc (.cells #[] 134)).ownsRow w.heap.size 134 7 (.slice (some ⟨w.heap.size,0,none⟩) 0 0) 0 []):=Xb w #[] 0 ZW (ZQ _) rfl;have HB:Hid (ZX w (w.alloc (.cells #[] 134))):=ZR.alloc ZW _;have HR:=Z8 h
 cases ao with
 | none =>
  have hx:ns=[]:=by
   obtain ⟨a',c',e,-,-,h3⟩:=h
   simp only [Zc] at e
   rcases h3 with h3 | ⟨b,o,e2,_⟩
   · exact h3
   rw [←e.1] at e2;cases e2
  subst hx;clear h HR
  go_enter Tryz.func127,Tryz.ntmps127
  go_wp2;go_ret;exact ⟨_,rfl,Yf _ _ _ _,ZR⟩
 | some a =>
  have qV:Hid (∀j u,(Yd ns)[j]?=some u→(w.alloc (.cells #[] 134)).cell? (a.add j)=some u):=fun j u hu=>(HR.out.below HB.out).NR a rfl j u hu
  clear h;generalize hl:ns.length=m at *;have HL:=Z8 hl;clear hl
  go_enter Tryz.func127,Tryz.ntmps127
  go_wp2_with (at_builtin;go_must (refine XS _ rfl _ _ 31 rfl w.heap.size 134 i0 _ 7 72 Tryz.underlying31 hi hz0 hz1 hz2 rfl (by decide) _ _ _ rfl HE.out a m cap (Yd ns) rfl ?c0 qV.out (NQ _) ?c3 ?c4 ?c5 ?_))
  case c0=>rw [Vw,HL.out]
  case c3=>unfold maxLen;omega
  case c4=>omega
  case c5=>simp
  intro v2 w2 ho2 hg2 _;have Sv:Hid (ZU 134 w2 w.heap.size v2 ns):=by
   show World.ownsRow _ _ _ _ _ _ _;rw [HL.out];exact ho2
  have HG2:=Z8 (HB.out.grown hg2 (by simp) (by intro q hq;simp [Value.ownBlock] at hq;omega));clear ho2 hg2;go_wp2;go_ret;exact ⟨_,rfl,Sv.out,HG2.out⟩
attribute [local go_sem] Uf
theorem FD (nn:Nat) (hn1:1≤nn) (l Ba:Nat) (blk o n cap:Nat) (a:List Int) (hl:a.length=n) (hby:YL a) (hn:n≤8192)
    (St:List Value→World→Prop) (Bk Pq PZ:World→Prop)
    (sf:∀s X Y,ZX X Y→St s X→St s Y) (rH:∀X Y,ZX X Y→Bk X→Bk Y)
    (hSR:∀s W,St s W→W.cell? ⟨Ba,0,none⟩=some (.slice (some ⟨blk,o,none⟩) n cap)∧Rd .u8 W (.slice (some ⟨blk,o,none⟩) n cap) a)
    (hY:∀s vs W,St s W→Bk W→wD (Yl n a) St s vs W→YieldAt Fence.wide (nn - 1) Tryz.prog l vs W fun e W'=>(e=.returned (.bool true)∧St (s++[qe vs]) W'∧Bk W')∨(e=.returned (.bool false)∧Pq W'∧PZ W'))
    (W:World) (h0:St [] W) (h1:Bk W) :
    CallsIn Fence.wide nn Tryz.prog 140 #[.func (.yield l) #[] #[],.pointer (some ⟨Ba,0,none⟩)] W fun e W'=>(∃v,e=.returned v)∧((∃s,s.length=(Yl n a).length∧St s W'∧Bk W')∨(Pq W'∧PZ W')):=by
 have HY:=Z8 hY;have xB:=Z8 sf;have AX:=Z8 rH;have ue:=Z8 hSR;have H0:=Z8 h0;have H1:=Z8 h1;have HL:=Z8 hl;have Xe:=Z8 hby
 have O:Hid _:=VC n a (by omega);obtain ⟨c0,r0⟩:=ue.out [] W H0.out;have hcn:n≤cap∧cap≤maxLen:=by
  obtain ⟨_,_,e1,hc1,hc2⟩:=r0.len
  simp only [Zc] at e1;have:=HL.out;omega
 obtain ⟨YD,ZZ⟩:=hcn;have HCM:=Z8 ZZ;unfold maxLen at ZZ;generalize Yl n a=R at *;refine Rf Tryz.func140 rfl trivial ?_ rfl
 simp only [Tryz.ntmps140,WW,XQ,Wv,Nat.reduceAdd,Nat.reduceSub,DV,DU,Qv,Qz,TJ,Qy]
 gi_wp2
 gi_loopw [3] (fun i wr=>∃s:List Value,∃p:Nat,s.length≤R.length∧Hid (pos R s.length=p)∧p≤n∧i=.int .i64 p∧Hid (St s wr)∧Hid (Bk wr)) (fun i _=>n - (intOf i).toNat)
 case atStart=>exact ⟨[],0,ZQ _,Tr _,ZQ _,rfl,H0.out,H1.out⟩
 case round =>
  obtain ⟨s,p,hs,HP,hp,rfl,HS,HB⟩:=hrel;obtain ⟨cB,rA⟩:=ue.out s wr HS.out;have RA:=Z8 rA
  by_cases hcp:cap=p
  · have RS:Hid (Rd .u8 wr (.slice (some ⟨blk,o,none⟩) (n - p) 0) (a.drop p)):=by
     have e1:n - p=0:=by omega
     have e2:=Vj (by rw [Zv,HL.out];exact e1);rw [e1,e2];exact NX _ _ _ (ZQ _)
    gi_wp2_with fail
    refine ⟨trivial,?_⟩;refine (Xq.2 (Up wr (some ⟨blk,o,none⟩) (n - p) 0 (a.drop p) RS.out (by rw [Zv,HL.out]) (fun x hx=>Xe.out x (Wf hx)) (by omega))).mono ?_;rintro e w2 ⟨⟨u,sz,rfl,hc⟩,b2⟩;have HS2:=Z8 (xB.out s wr w2 b2 HS.out);have HB2:=Z8 (AX.out wr w2 b2 HB.out)
    by_cases hlt:s.length<R.length
    · rcases hc with ⟨hf,-,-⟩ | ⟨hf,hsz,o2⟩
      · have:=(O.out.1 s.length hlt).1;rw [HP.out,hf] at this;cases this
      subst hsz;have hget:=(O.out.1 s.length hlt).2;have hps:=Oi R s.length hlt;have hle:=O.out.2.2 (s.length+1) hlt;rw [HP.out] at hget hps;rw [hget] at hps;rw [HL.out] at hle;rw [hps] at hle;omega
    rcases hc with ⟨hf,rfl,rfl⟩ | ⟨hf,-,-⟩
    · have hsl:Hid (s.length=R.length):=by show _=_;omega
      gi_wp2;refine ZT (TG rfl _ _ _) rfl ?_;exact ⟨⟨_,rfl⟩,.inl ⟨s,hsl.out,xB.out s _ _ (ZR.alloc ZW _) HS2.out,AX.out _ _ (ZR.alloc ZW _) HB2.out⟩⟩
    have h9:=O.out.2.1;have e9:s.length=R.length:=by omega
    rw [←e9,HP.out,hf] at h9;cases h9
  have RS:Hid (Rd .u8 wr (.slice (some ⟨blk,o+p,none⟩) (n - p) (cap - p)) (a.drop p)):=Es RA.out HL.out blk o rfl p hp
  gi_wp2_with fail
  refine ⟨trivial,?_⟩;refine (Xq.2 (Up wr (some ⟨blk,o+p,none⟩) (n - p) (cap - p) (a.drop p) RS.out (by rw [Zv,HL.out]) (fun x hx=>Xe.out x (Wf hx)) (by omega))).mono ?_;rintro e w2 ⟨⟨u,sz,rfl,hc⟩,b2⟩;have HS2:=Z8 (xB.out s wr w2 b2 HS.out);have HB2:=Z8 (AX.out wr w2 b2 HB.out)
  by_cases hlt:s.length<R.length
  · rcases hc with ⟨hf,-,-⟩ | ⟨hf,hsz,o2⟩
    · have:=(O.out.1 s.length hlt).1;rw [HP.out,hf] at this;cases this
    subst hsz;have hget:=(O.out.1 s.length hlt).2;have hps:=Oi R s.length hlt;have hle:=O.out.2.2 (s.length+1) hlt;rw [HP.out] at hget hps;rw [hget] at hps;rw [HL.out] at hle;have hP2:Hid (pos R (s.length+1)=p+(2+YP (a.drop p))):=hps;have hle2:p+(2+YP (a.drop p))≤n:=by rw [hps] at hle;exact hle
    obtain ⟨ua,uc,rfl⟩:=Own.slice o2;have BH:(Zw (a.drop p)).length≤maxLen:=by obtain ⟨_,_,e,h1,h2⟩:=o2.rd.len;simp only [Zc] at e;omega
    unfold maxLen at BH;have BA:ZX w2 (w2.alloc (.cells #[.slice ua (Zw (a.drop p)).length uc] 110)):=ZR.alloc ZW _;have hpre:wD R St s #[.int .i64 (((p:Nat):Int)+((2+YP (a.drop p):Nat):Int)),.agg #[.slice ua (Zw (a.drop p)).length uc]] (w2.alloc (.cells #[.slice ua (Zw (a.drop p)).length uc] 110)):=⟨_,wr,by rw [hP2.out,Int.natCast_add p],hlt,HS.out,Ye b2 BA,by rw [hget];exact o2.below BA⟩;have AW:=HY.out s _ _ (xB.out s _ _ BA HS2.out) (AX.out _ _ BA HB2.out) hpre;have hszI:¬(((2+YP (a.drop p):Nat):Int)=0):=by omega
    generalize (Zw (a.drop p)).length=ul at *;generalize 2+YP (a.drop p)=sz at *;have YA:((sz:Int) == 0)=false:=by simpa using hszI
    obtain ⟨fn,tmps,assign,body,hy,hR⟩:=AW;gi_wp2;refine hR.mono ?_;rintro e W3 (⟨rfl,AV,hB3⟩ | ⟨rfl,AV,hB3⟩)
    rotate_left
    · have Qu:Hid (Pq W3∧PZ W3):=⟨AV,hB3⟩
      gi_wp2;refine ZT (TG rfl _ _ _) rfl ?_;exact ⟨⟨_,rfl⟩,.inr Qu.out⟩
    have Gt:Hid (St (s++[.slice ua ul uc]) W3):=AV;have HB3:=Z8 hB3;gi_wp2
    go_roundw
    case rel=>exact ⟨s++[.slice ua ul uc],p+sz,by rw [YE];exact hlt,by rw [YE];exact hP2.out,hle2,by go_num,Gt,HB3⟩
    case measure=>simp [intOf];omega
  rcases hc with ⟨hf,rfl,rfl⟩ | ⟨hf,-,-⟩
  · have hsl:Hid (s.length=R.length):=by show _=_;omega
    gi_wp2;refine ZT (TG rfl _ _ _) rfl ?_;exact ⟨⟨_,rfl⟩,.inl ⟨s,hsl.out,xB.out s _ _ (ZR.alloc ZW _) HS2.out,AX.out _ _ (ZR.alloc ZW _) HB2.out⟩⟩
  have h9:=O.out.2.1;have e9:s.length=R.length:=by omega
  rw [←e9,HP.out,hf] at h9;cases h9
theorem MD (nn:Nat) (hn1:1≤nn) (l Ba:Nat) (St:List Value→World→Prop) (Bk Pq PZ:World→Prop)
    (sf:∀s X Y,ZX X Y→St s X→St s Y) (rH:∀X Y,ZX X Y→Bk X→Bk Y)
    (hSR:∀s W,St s W→W.cell? ⟨Ba,0,none⟩=some (.slice none 0 0))
    (W:World) (h0:St [] W) (h1:Bk W) :
    CallsIn Fence.wide nn Tryz.prog 140 #[.func (.yield l) #[] #[],.pointer (some ⟨Ba,0,none⟩)] W fun e W'=>(∃v,e=.returned v)∧((∃s,s.length=(Yl 0 []).length∧St s W'∧Bk W')∨(Pq W'∧PZ W')):=by
 have xB:=Z8 sf;have AX:=Z8 rH;have ue:=Z8 hSR;have H0:=Z8 h0;have H1:=Z8 h1;refine Rf Tryz.func140 rfl trivial ?_ rfl
 simp only [Tryz.ntmps140,WW,XQ,Wv,Nat.reduceAdd,Nat.reduceSub,DV,DU,Qv,Qz,TJ,Qy]
 gi_wp2
 gi_loopw [3] (fun i wr=>i=.int .i64 0∧Hid (St [] wr)∧Hid (Bk wr)) (fun _ _=>0)
 case atStart=>exact ⟨rfl,H0.out,H1.out⟩
 case round =>
  obtain ⟨rfl,HS,HB⟩:=hrel;have cB:=ue.out [] wr HS.out
  gi_wp2_with fail
  refine ⟨trivial,?_⟩;refine (Xq.2 (Up wr none 0 0 [] (NX _ _ _ (ZQ _)) rfl (fun x hx=>by cases hx) (by omega))).mono ?_;rintro e w2 ⟨⟨u,sz,rfl,hc⟩,b2⟩;have HS2:=Z8 (xB.out [] wr w2 b2 HS.out);have HB2:=Z8 (AX.out wr w2 b2 HB.out)
  rcases hc with ⟨hf,rfl,rfl⟩ | ⟨hf,-,-⟩
  · clear hf
    gi_wp2;refine ZT (TG rfl _ _ _) rfl ?_;exact ⟨⟨_,rfl⟩,.inl ⟨[],rfl,xB.out [] _ _ (ZR.alloc ZW _) HS2.out,AX.out _ _ (ZR.alloc ZW _) HB2.out⟩⟩
  have:=((Vr []).1 hf).1
  simp at this
theorem Kg {F:Fence} {P:Program} {β:Type} {g:Operand} {ps:Array Tmp} {assign body:Code} {Q:Exit→Act→World→Prop} 
    (hro:F.round=none) (h1:1≤n) {gf:Nat} {lb:Array Value} (hg:a.eval g=.func (.func gf) #[] lb) (hFg:F.fn gf) (eg:∀args w,(callFunc gf args).run P w=.ok (.enter gf args) w)
    (St:β→World→Prop) (Pre:β→Array Value→World→Prop) (step:β→Array Value→β) (Kp:World→World→Prop) (Fin:β→Prop) (Pq:World→Prop) (AZ:OwnFrom w.heap.size (fun (_:Unit) W=>Pq W)) (s0:β)
    (hSt:OwnFrom w.heap.size St) (hKt:∀ {A B C:World},Kp A B→Kp B C→Kp A C)
    (hKb:∀(W:World) (l:Nat) (o o':Obj),w.heap.size≤l→W.heap[l]?=some o→o.isCells=false→o.isWalk=false→Kp W (W.putObj l o'))
    (hps:∀s vs W,Pre s vs W→vs.size=ps.size) (h0:St s0 w)
    (Ax:β→Array Value→Act→World→Prop) (hAx:∀s vs a',OwnFrom w.heap.size (fun (_:Unit) W=>Ax s vs a' W))
    (hassign:∀(l:Nat) (s:β) (vs:Array Value) (W:World) (K:Act→World→Prop),St s W→Pre s vs W→(∀a' W',KeepsFrom w.heap.size W W'→Kp W W'→Ax s vs a' W'→K a' W') →
     assign.wpIn (F.inRound l) (n - 1 - 1) P (Exit.then K (fun _ _ _=>False)) { tmps:=(ps.zip vs).foldl (fun t (p,v)=>t.setIfInBounds p v) a.tmps,defers:=[] } W)
    (hbody:∀(l:Nat) (s:β) (vs:Array Value) (a':Act) (W:World),Ax s vs a' W→body.wpIn (F.inRound l) (n - 1 - 1) P (fun e _ W'=>(e=.normal∧KeepsFrom w.heap.size W W'∧Kp W W'∧St (step s vs) W')∨(e=.exit L∧KeepsFrom w.heap.size W W'∧Pq W')) a' W)
    (hcall:∀(Bk PZ:World→Prop) (W1:World),(∀X Y,KeepsFrom w.heap.size X Y→Bk X→Bk Y)→(∀X Y,KeepsFrom w.heap.size X Y→PZ X→PZ Y) →
     (∀s vs W,St s W→Bk W→Pre s vs W→YieldAt F (n - 1 - 1) P (w.heap.size+1) vs W fun e W'=>(e=.returned (.bool true)∧St (step s vs) W'∧Bk W'∧Kp W W')∨(e=.returned (.bool false)∧Pq W'∧PZ W')) →
     ZX w W1→w.heap.size+2≤W1.heap.size→St s0 W1→Bk W1 →
     CallsIn F (n - 1) P gf (#[.func (.yield (w.heap.size+1)) #[] #[]]++lb) W1 fun e W'=>(∃v,e=.returned v)∧((∃s,Fin s∧St s W'∧Bk W')∨(Pq W'∧PZ W')))
    (hdone:∀(D:Nat) (s:β) (W:World),w.heap.size≤D→Fin s→St s W→W.heap[D]?=some (.deferred (some []))→Q .normal { a with defers:={ target:=.collected D,args:=#[] } :: a.defers } W)
    (hstop:∀(D:Nat) (W:World),w.heap.size≤D→Pq W→W.heap[D]?=some (.deferred (some []))→(Code.exit L).wpIn F n P Q { a with defers:={ target:=.collected D,args:=#[] } :: a.defers } W) :
    (Code.rangeFunc g ps assign body).wpIn F n P Q a w:=by
 refine wpIn_rangeFunc ?_;intro fn hfn;rw [hro];obtain ⟨r0,hr0⟩:∃r:Loop,r={ state:=.ready,pending:=none,fn,tmps:=a.tmps,params:=ps,assign,body,defers:=w.heap.size }:=⟨_,rfl⟩;have hst:r0.state=.ready:=by rw [hr0]
 have hpe:r0.pending=none:=by rw [hr0]
 have hgrow:ZX w ((w.alloc (.deferred (some []))).alloc (.loop r0)):=((yj _ w).alloc ZW _).alloc (by simp) _;have AY:Book r0 w.heap.size ((w.alloc (.deferred (some []))).alloc (.loop r0)):=by
  constructor
  · have:=WJ (w.alloc (.deferred (some []))) (.loop r0)
    rwa [XE] at this
  exact (sj _ _ _ (by simp)).trans (WJ w _)
 have uf:St s0 ((w.alloc (.deferred (some []))).alloc (.loop r0)):=hSt.alloc _ (hSt.alloc _ h0);have hsz:w.heap.size+2≤((w.alloc (.deferred (some []))).alloc (.loop r0)).heap.size:=by simp
 have henter:(Instr.enterLoop fn a.tmps ps assign body none).run P w=.ok (w.heap.size+1,[{ target:=.collected w.heap.size,args:=#[] }]) ((w.alloc (.deferred (some []))).alloc (.loop r0)):=by
  rw [hr0];exact run_enterLoop_outer _ _ _ _ _
 generalize (w.alloc _).alloc _=W1 at *;refine ⟨_,_,W1,{ target:=.fn (.func gf) lb,args:=#[.func (.yield (w.heap.size+1)) #[] #[]] },W1,gf,#[.func (.yield (w.heap.size+1)) #[] #[]]++lb,W1,henter,?_,?_,?_,fun _=>h1,?_⟩
 · simp only [resolve,hg]
   simp [go_sem]
 · intro f' hf'
   simp [Target.leads] at hf'
   subst hf';exact hFg
 · simp [invoke,go_sem,eg]
 refine (hcall (Book r0 w.heap.size) (Book { r0 with state:=.done,pending:=some (.exit L) } w.heap.size) W1 (fun X Y hk hb=>hb.keep hk) (fun X Y hk hb=>hb.keep hk) ?_ hgrow hsz uf AY).mono ?_
 · intro s vs W hs hb hp
   have hy:=run_yield (P:=P) (args:=vs) hb.1 (by rw [hr0];exact hps s vs W hp);rw [hr0] at hy;refine ⟨fn,_,assign,body,hy,roundIn_of_wpIn hfn (hassign _ s vs W _ hs hp ?_)⟩;clear hy;intro a' Wa hka hkp hax;have DL:=hb.keep hka;have hlt:=(Array.getElem?_eq_some_iff.1 DL.1).1;refine ⟨_,run_beginRound DL.1 hst,?_⟩;have hl2:(Wa.putObj (w.heap.size+1) (.loop { r0 with state:=.busy })).heap[w.heap.size+1]?=some (.loop { r0 with state:=.busy }):=World.putObj_heap_same hlt;have hk2:(Wa.putObj (w.heap.size+1) (.loop { r0 with state:=.busy })).heap[w.heap.size]?=some (.deferred (some [])):=(World.putObj_heap_other (by omega)).trans DL.2;have hkb:Kp Wa (Wa.putObj (w.heap.size+1) (.loop { r0 with state:=.busy })):=hKb _ _ _ _ (by omega) DL.1 rfl rfl;refine wpIn_mono (hbody _ s vs a' _ ((hAx s vs a').putObj (s:=()) _ hax (by omega) DL.1 rfl)) ?_;rintro e a3 W3 (⟨rfl,hk3,hp3,hs3⟩ | ⟨rfl,hk3,hs3⟩)
   · have hl3:=hk3.same _ _ (by omega) hl2 rfl
     have hd3:=hk3.same _ _ ZW hk2 rfl;have hend:=run_endRound (P:=P) none hl3;have hr1:({ { r0 with state:=.busy } with state:=if (none:Option Code).isNone then .ready else .done,pending:=none }:Loop)=r0:=by rw [hr0];rfl
     rw [hr1] at hend;exact ⟨_,_,hend,.inl ⟨rfl,hSt.putObj _ hs3 (by omega) hl3 rfl,⟨World.putObj_heap_same (Array.getElem?_eq_some_iff.1 hl3).1,(World.putObj_heap_other (by omega)).trans hd3⟩,hKt hkp (hKt (hKt hkb hp3) (hKb _ _ _ _ (by omega) hl3 rfl rfl))⟩⟩
   have hl3:=hk3.same _ _ (by omega) hl2 rfl;have hd3:=hk3.same _ _ ZW hk2 rfl;have hend:=run_endRound (P:=P) (some (.exit L)) hl3;have hr1:({ { r0 with state:=.busy } with state:=if (some (Code.exit L):Option Code).isNone then .ready else .done,pending:=some (.exit L) }:Loop)={ r0 with state:=.done,pending:=some (.exit L) }:=by rw [hr0];rfl
   rw [hr1] at hend;exact ⟨_,_,hend,.inr ⟨rfl,AZ.putObj (s:=()) _ hs3 (by omega) hl3 rfl,⟨World.putObj_heap_same (Array.getElem?_eq_some_iff.1 hl3).1,(World.putObj_heap_other (by omega)).trans hd3⟩⟩⟩
 rintro e W2 ⟨⟨v,rfl⟩,(⟨s,hF,hs,hb⟩ | ⟨hs,hb⟩)⟩
 · have hend:=run_endLoop (P:=P) hb.1 (by rw [hst];simp)
   rw [hpe] at hend;exact ⟨none,_,hend,hdone _ s _ ZW hF (hSt.putObj _ hs (by omega) hb.1 rfl) ((World.putObj_heap_other (by omega)).trans hb.2)⟩
 have hend:=run_endLoop (P:=P) hb.1 (by simp);exact ⟨some (.exit L),_,hend,hstop _ _ ZW (AZ.putObj (s:=()) _ hs (by omega) hb.1 rfl) ((World.putObj_heap_other (by omega)).trans hb.2)⟩
section
variable {P:Program} (w:World)
theorem FC (m:Nat):(Builtin.zeroCells (Value.int .u8 0).cells m).toList=List.replicate m (Value.int .u8 0):=by
 apply xJ
 · simp [Builtin.zeroCells,Value.cells]
 intro j h1 h2
 simp [Builtin.zeroCells,Value.cells,Nat.mod_one]
theorem Tp (base:Nat) (t tn ty e:TypeId) (i:TypeInfo) (k kn:IntKind) (ht:P.underlying t=some (.slice e)) (htn:P.underlying tn=some (.int kn)) (hi:P.info? e=some i) (hz:i.zero=some (.int .u8 0))
    (hsize:i.size=1) (hby:i.bytes=1) (g n cap:Nat) (xs:List Value) (hown:w.ownsRow base e 1 (.slice (some ⟨g,0,none⟩) n cap) n xs) (m:Nat) (h0:0<m) (hm:n+m≤1048576) (hbase:base≤w.heap.size) :
    ∃v' w',(Builtin.append_ #[t,tn] ty #[.slice (some ⟨g,0,none⟩) n cap,.int k m]).run P w=.ok v' w'∧w'.ownsRow base e 1 v' (n+m) (xs++List.replicate m (Value.int .u8 0))∧w.grownBy w' (some g):=by
 have hxl:xs.length=n:=by simpa using hown.1
 have hlen:(xs++List.replicate m (Value.int .u8 0)).length=(n+m)*1:=by rw [YE,hxl,Gy,Jo]
 have hw:IntKind.i64.wrap (m:Int)=m:=by rw [Xf];omega
 have h63':¬(9223372036854775807<((n:Int)+(m:Int))):=by omega
 have h48i:¬(281474976710656<(m:Int)):=by omega
 have hneg:¬((m:Int)<0):=by omega
 have hns:¬(m=0):=by omega
 have hcells:=FC m;have hone:∀u ∈ List.replicate m (Value.int .u8 0),u.oneCell'=true:=by intro u hu;rw [rN hu];rfl
 rcases hown.2 with ⟨h1,-⟩ | ⟨g',cap',cur,h1,hbg,hg,hnc,hcm,hcs,htake⟩
 · simp at h1
 simp only [Zc,Xu,uC,and_true] at h1
 obtain ⟨rfl,-,rfl⟩:=h1
 by_cases hroom:n+m≤cap
 · have hcs':cur.size=cap:=by simpa using hcs
   have hst:=run_storeCells_at P g n e (List.replicate m (Value.int .u8 0)) 0 cur w hg (by simp;omega) hone
   simp only [Mg,Gy] at hst
   refine ⟨.slice (some ⟨g,0,none⟩) (n+m) cap,w.setRow g (cur.toList.take n++List.replicate m (Value.int .u8 0)++cur.toList.drop (n+m)).toArray,?_,⟨hlen,.inr ⟨g,cap,_,rfl,hbg,setRow_heap w g cur _ e _ hg,hroom,hcm,?_,?_⟩⟩,⟨rfl,rfl,rfl,by simp,fun k _ hk=>setRow_other w g k _ (fun e=>hk (by simp [e]))⟩⟩
   · simp [Builtin.append_,Jf ht,Jf htn,sizeOf,typeInfo,zeroValue,hi,hz,hsize,hby,asInt,asIntOf,hw,hneg,hns,h48i,hroom,hcells,GM,hst]
   · simp only [WW,YE,YC,Zv,qg,Gy]
     omega
   have ht':cur.toList.take n=xs:=by simpa using htake
   rw [ht',←hlen];exact List.take_left
 have holds:=hown.cells (g:=g) rfl;have hn:=hroom;have h48':¬(281474976710656<Builtin.nextslicecap (n+m) cap):=by
  have:=growslice_fits (need:=n+m) (old:=cap) (bytes:=1) (by omega) (by omega);omega
 have hfo:=run_firstCells_some (P:=P) w.drew 1 n ⟨g,0,none⟩ n cap xs (by omega) (by simpa using holds);have hge:=grownCap_ge w (n+m) cap e;have hcm2:=grownCap_le_maxLen w (n+m) cap e (by unfold maxLen;omega);refine ⟨.slice (some ⟨w.heap.size,0,none⟩) (n+m) (grownCap w (n+m) cap e),w.drew.alloc (.cells (xs.toArray++(Builtin.zeroCells (Value.int .u8 0).cells m)++Builtin.zeroCells (Value.int .u8 0).cells (grownCap w (n+m) cap e - (n+m))) e),?_,⟨hlen,.inr ⟨w.heap.size,_,_,rfl,hbase,WJ w.drew _,hge,hcm2,?_,?_⟩⟩,⟨rfl,rfl,rfl,by simp,fun k hk _=>sj w.drew _ k hk⟩⟩
 · simp [Builtin.append_,Jf ht,Jf htn,sizeOf,typeInfo,zeroValue,hi,hz,hsize,hby,asInt,asIntOf,hw,hneg,hns,h48i,hn,h63',h48',Question.forced,hfo,newRow,grownCap]
 · have hz1:(Value.int IntKind.u8 0).cells.size=1:=rfl
   simp only [Array.size_append,WW,size_zeroCells,hz1,hxl]
   omega
 simp only [Array.toList_append,R9,hcells]
 rw [←R9,←hlen];exact List.take_left
theorem Sr {ops:Array Oper} {rest:List Oper} {o:Oper} {Q:Exit→Act→World→Prop} (hgd:o.guard=none) (sl x:Operand) (t tn:TypeId)
    (ho:o.op=.call { callee:=.builtin .append,args:=#[sl,x],argTypes:=#[t,tn] })
    (base:Nat) (e:TypeId) (i:TypeInfo) (k kn:IntKind) (ht:P.underlying t=some (.slice e)) (htn:P.underlying tn=some (.int kn)) (hi:P.info? e=some i) (hz:i.zero=some (.int .u8 0))
    (hsize:i.size=1) (hby:i.bytes=1) (g n cap:Nat) (xs:List Value) (hs:a.eval sl=.slice (some ⟨g,0,none⟩) n cap) (hown:w.ownsRow base e 1 (.slice (some ⟨g,0,none⟩) n cap) n xs) (m:Nat) (hx:a.eval x=.int k m)
    (h0:0<m) (hm:n+m≤1048576) (hbase:base≤w.heap.size)
    (h:∀v' w',w'.ownsRow base e 1 v' (n+m) (xs++List.replicate m (Value.int .u8 0))→w.grownBy w' (some g)→wpList P ops Q rest (a.put o.dst v') w'):wpList P ops Q (o :: rest) a w:=by
 obtain ⟨v',w',hr,h2,h3⟩:=Tp (P:=P) w base t tn o.type e i k kn ht htn hi hz hsize hby g n cap xs hown m h0 hm hbase;exact Lib.wpList_append_run w hgd sl x t tn ho _ _ hs hx v' w' hr (h v' w' h2 h3)
end
theorem QO (w:World) (s:Int) :
    Calls Tryz.prog 126 #[.int .i64 s] w fun e w'=>e=.returned (.bool (decide (0≤s∧s≤2147483647)))∧w'=w:=by
 by_cases h1:0≤s
 · by_cases h2:s≤2147483647
   · go_enter Tryz.func126,Tryz.ntmps126
     go_wp2;go_ret;exact ⟨ZJ (by simp;omega),rfl⟩
   go_enter Tryz.func126,Tryz.ntmps126
   go_wp2;go_ret;exact ⟨ZJ (by simp;omega),rfl⟩
 go_enter Tryz.func126,Tryz.ntmps126
 go_wp2;go_ret;exact ⟨ZJ (by simp;omega),rfl⟩
theorem XK (w:World) (base:Nat) (v:Value) (xs:List Int) (N n:Nat) (h:Own .u8 5 w base v xs) (hb:base≤w.heap.size) (hl:xs.length≤1048576) (hn:n≤8) :
    Calls Tryz.prog 136 #[v,.int .i64 N,.int .i64 n] w fun e w'=>∃v',e=.returned v'∧Own .u8 5 w' base v' (xs++Zo N n)∧Below base w w':=by
 obtain ⟨i0,hi,hz0,hz1,hz2⟩:=YH Tryz.Vv;have HO:=Z8 h;clear h
 go_enter Tryz.func136,Tryz.ntmps136
 go_wp2
 go_loopw [0,7] (fun vi vl wr=>∃(k:Nat) (z:Int),k≤n∧vl=.int .i64 z∧z+1+(k:Int)=(n:Int)∧Hid (Own .u8 5 wr base vi (xs++Zo (N / 2 ^ (8*(n - k))) k))∧Hid (Below base w wr)) (fun _ i _=>((intOf i)+1).toNat)
 case atStart=>exact ⟨0,(n:Int) - 1,ZQ _,rfl,by omega,by show Own _ _ _ _ _ _;unfold Zo;rw [Sz];exact HO.out,ZR⟩
 case round =>
  obtain ⟨k,z,hk,rfl,hz,HW,HB⟩:=hrel;have sB:=HB.out.size
  by_cases hz0':0≤z
  · obtain ⟨l,rfl⟩:∃l:Nat,z=(l:Int):=⟨z.toNat,by omega⟩
    have pr:l≤7:=by omega
    have HST:Hid (Zo (N / 2 ^ (8*(n - k))) k++[((N / 2 ^ (8*l) % 256:Nat):Int)]=Zo (N / 2 ^ (8*(n - (k+1)))) (k+1)):=by
     show _=_;rw [show n - k=l+1 by omega,show n - (k+1)=l by omega];exact DJ N l k
    obtain ⟨ys,hys⟩:∃ys,ys=xs++Zo (N / 2 ^ (8*(n - k))) k:=⟨_,rfl⟩;have pq:=Z8 hys;have HW1:Hid (wr.ownsRow base 5 1 u0 ys.length (ys.map (Value.int .u8))):=by rw [hys];exact HW.out
    have hyl:ys.length≤1048600:=by rw [hys,YE,Zn];omega
    clear hys HW;have HV:Hid ((N:Int) / 2 ^ (8*l) % 256=((N / 2 ^ (8*l) % 256:Nat):Int)):=by show _=_;rw [Tz];rfl
    go_wp2_with (at_builtin;go_must (refine XS _ rfl _ _ 22 rfl base 5 i0 (.int .u8 0) 1 1 Tryz.underlying22 hi hz0 hz1 hz2 rfl (by decide) _ _ _ rfl (Ud HW1.out _) ⟨wr.heap.size,0,none⟩ 1 1 [.int .u8 ((N:Int) / 2 ^ (8*l) % 256)] rfl rfl (Vy _ _ _) (by intro u hu;simp at hu;subst hu;rfl) ?c3 ?c4 ?c5 ?_))
    case c3=>unfold maxLen;omega
    case c4=>omega
    case c5=>simp;omega
    intro v2 w2 ho2 hg2 _;have Sv:Hid (Own .u8 5 w2 base v2 (xs++Zo (N / 2 ^ (8*(n - (k+1)))) (k+1))):=by
     rw [HV.out] at ho2;refine WI (q:=ys.length+1) (ys:=ys++[((N / 2 ^ (8*l) % 256:Nat):Int)]) (by simp) ?_ (by rw [WX];exact ho2);rw [←HST.out,←R9,←pq.out]
    have HB2:=Z8 ((HB.out.alloc (by omega) _).grown hg2 (by simp;omega) (fun q hq=>(ZO HW1.out q hq).1));clear ho2 hg2 HW1 HB;go_wp2;exact ⟨⟨k+1,(l:Int) - 1,by omega,by go_num,by omega,Sv,HB2⟩,by simp [intOf]⟩
  have hkn:k=n:=by omega
  subst hkn;have Yz:=hz0';go_wp2;go_ret;refine ⟨_,rfl,?_,HB.out⟩;have:=HW.out;rw [Jm,Nat.mul_zero,Nat.pow_zero,Nat.div_one] at this;exact this
theorem NO (w:World) (g b s l c:Int) :
    Calls Tryz.prog 135 #[.agg #[.int .i64 g,.int .i64 b,.int .i64 s,.int .i64 l,.int .i64 c]] w (Ze w (.bool (VP g b s l c))):=by
 go_enter Tryz.func135,Tryz.ntmps135
 go_wp2
 all_goals
  go_ret;refine ⟨ZJ ?_,ZR.alloc ZW _⟩;unfold VP;rw [Bu]
  simp only [Yg,Jr,Zg,Pe,false_iff]
  omega
theorem To {k:IntKind} {xs:List Int} (h:Own k e w lo v xs) (h0:0<xs.length):∃g c,v=.slice (some ⟨g,0,none⟩) xs.length c:=by
 rcases h.2 with ⟨rfl,h1⟩ | ⟨g,cap,cur,rfl,-⟩
 · omega
 exact ⟨g,cap,rfl⟩
def Kf (w:World) (k:Nat) (g b s l c:Int):Prop :=
 k<w.heap.size∧w.cell? ⟨k,0,none⟩=some (.int .i64 g)∧w.cell? ⟨k,1,none⟩=some (.int .i64 b)∧w.cell? ⟨k,2,none⟩=some (.int .i64 s)∧w.cell? ⟨k,3,none⟩=some (.int .i64 l)∧w.cell? ⟨k,4,none⟩=some (.int .i64 c)
theorem Kf.new (w:World) (g b s l c:Int) (t:TypeId):Kf (w.alloc (.cells #[.int .i64 g,.int .i64 b,.int .i64 s,.int .i64 l,.int .i64 c] t)) w.heap.size g b s l c :=
 ⟨by simp,(by go_simp),(by go_simp),(by go_simp),(by go_simp),(by go_simp)⟩
theorem Kf.below {b c:Int} (h:Kf w k g b s l c) (hb:Below B w w') (hk:k<B):Kf w' k g b s l c:=by
 obtain ⟨h0,h1,h2,h3,h4,h5⟩:=h;exact ⟨ZB h0 hb.size,(hb.cell (p:=⟨k,0,none⟩) hk).trans h1,(hb.cell (p:=⟨k,1,none⟩) hk).trans h2,(hb.cell (p:=⟨k,2,none⟩) hk).trans h3,(hb.cell (p:=⟨k,3,none⟩) hk).trans h4,(hb.cell (p:=⟨k,4,none⟩) hk).trans h5⟩
theorem Ke (w:World) (g b s l c:Int) (h:VP g b s l c=false) :
    Calls Tryz.prog 121 #[.agg #[.int .i64 g,.int .i64 b,.int .i64 s,.int .i64 l,.int .i64 c]] w fun e w'=>∃v',e=.returned v'∧Own .u8 5 w' w.heap.size v' []∧ZX w w':=by
 have H:=Z8 h;clear h
 go_enter Tryz.func121,Tryz.ntmps121
 go_wp2_with fail
 refine (NO _ g b s l c).mono ?_;rintro e w1 ⟨rfl,b1⟩;rw [H.out];have B1:=Z8 ((ZR.alloc ZW _).trans (b1.mono (by simp)));clear b1;go_wp2;go_ret;exact ⟨_,rfl,Yf _ _ _ _,B1.out⟩
theorem MC (w:World) (g b s l c:Nat) (h:VP g b s l c=true) :
    Calls Tryz.prog 121 #[.agg #[.int .i64 g,.int .i64 b,.int .i64 s,.int .i64 l,.int .i64 c]] w fun e w'=>∃v',e=.returned v'∧Own .u8 5 w' w.heap.size v' (Ld g b s l c)∧ZX w w':=by
 obtain ⟨i0,hi,hz0,hz1,hz2⟩:=YH Tryz.Vv;have H:=Z8 h;clear h
 go_enter Tryz.func121,Tryz.ntmps121
 go_wp2_with fail
 refine (NO _ g b s l c).mono ?_;rintro e w1 ⟨rfl,b1⟩;rw [H.out];have X1:=Z8 ((Kf.new w g b s l c _).below b1 (by simp));have B1:=Z8 ((ZR.alloc ZW _).trans (b1.mono (by simp)));have s1:w.heap.size+1≤w1.heap.size:=by have:=b1.size;simpa using this
 clear b1;have O1:Hid (Own .u8 5 w1 (w.heap.size+1) (.slice none 0 0) []):=Yf _ _ _ _;obtain ⟨-,x0,x1,x2,x3,x4⟩:=X1.out
 go_wp2_with fail
 refine (XK _ (w.heap.size+1) _ ([]) g 8 O1.out s1 (by simp) (by omega)).mono ?_;rintro e w2 ⟨v2,rfl,o2,b2⟩;have X2:=Z8 (X1.out.below b2 (by omega));have B2:=Z8 (B1.out.trans (b2.mono (by omega)));have s2:=ZP s1 b2.size;have O2:=Z8 o2;clear x0 x1 x2 x3 x4 o2 b2 X1 B1 O1;obtain ⟨-,x0,x1,x2,x3,x4⟩:=X2.out
 go_wp2_with fail
 refine (XK _ (w.heap.size+1) _ ([]++Zo g 8) b 1 O2.out s2 (by simp [Zn]) (by omega)).mono ?_;rintro e w3 ⟨v3,rfl,o3,b3⟩;have X3:=Z8 (X2.out.below b3 (by omega));have B3:=Z8 (B2.out.trans (b3.mono (by omega)));have s3:=ZP s2 b3.size;have O3:=Z8 o3;clear x0 x1 x2 x3 x4 o3 b3 X2 B2 O2;obtain ⟨-,x0,x1,x2,x3,x4⟩:=X3.out
 go_wp2_with fail
 refine (XK _ (w.heap.size+1) _ ([]++Zo g 8++Zo b 1) s 4 O3.out s3 (by simp [Zn]) (by omega)).mono ?_;rintro e w4 ⟨v4,rfl,o4,b4⟩;have X4:=Z8 (X3.out.below b4 (by omega));have B4:=Z8 (B3.out.trans (b4.mono (by omega)));have s4:=ZP s3 b4.size;have O4:=Z8 o4;clear x0 x1 x2 x3 x4 o4 b4 X3 B3 O3;obtain ⟨-,x0,x1,x2,x3,x4⟩:=X4.out
 go_wp2_with fail
 refine (XK _ (w.heap.size+1) _ ([]++Zo g 8++Zo b 1++Zo s 4) l 4 O4.out s4 (by simp [Zn]) (by omega)).mono ?_;rintro e w5 ⟨v5,rfl,o5,b5⟩;have X5:=Z8 (X4.out.below b5 (by omega));have B5:=Z8 (B4.out.trans (b5.mono (by omega)));have s5:=ZP s4 b5.size;have O5:=Z8 o5;clear x0 x1 x2 x3 x4 o5 b5 X4 B4 O4;obtain ⟨-,x0,x1,x2,x3,x4⟩:=X5.out
 go_wp2_with fail
 refine (XK _ (w.heap.size+1) _ ([]++Zo g 8++Zo b 1++Zo s 4++Zo l 4) c 4 O5.out s5 (by simp [Zn]) (by omega)).mono ?_;rintro e w6 ⟨v6,rfl,o6,b6⟩;have X6:=Z8 (X5.out.below b6 (by omega));have B6:=Z8 (B5.out.trans (b6.mono (by omega)));have s6:=ZP s5 b6.size;have O6:=Z8 o6;clear x0 x1 x2 x3 x4 o6 b6 X5 B5 O5;have I:([]++Zo g 8++Zo b 1++Zo s 4++Zo l 4++Zo c 4).length=21:=by simp [Zn]
 obtain ⟨g6,c6,hv6⟩:=To O6.out (by rw [I];omega);rw [I] at hv6;subst hv6;have ZC:Hid (w6.ownsRow (w.heap.size+1) 5 1 (.slice (some ⟨g6,0,none⟩) 21 c6) 21 (([]++Zo g 8++Zo b 1++Zo s 4++Zo l 4++Zo c 4).map (Value.int .u8))):=by have:=O6.out;unfold Own at this;rw [I] at this;exact this
 clear O6 I;generalize BD:([]++Zo g 8++Zo b 1++Zo s 4++Zo l 4++Zo c 4)=L6 at *;have ZA:=Z8 BD;clear BD;obtain ⟨-,x0,x1,x2,x3,x4⟩:=X6.out
 go_wp2_with (at_builtin;go_must (refine Sr _ rfl _ _ 22 3 rfl (w.heap.size+1) 5 i0 .i64 .i64 Tryz.underlying22 Tryz.underlying3 hi hz0 hz1 hz2 g6 21 c6 _ rfl ZC.out 35 rfl (by omega) (by omega) s6 ?_))
 intro v7 w7 yb BI;have b7:=ZR.grown BI s6 (fun q hq=>by injection hq with hq;subst hq;exact (ZO ZC.out _ rfl).1);have O7:Hid (Own .u8 5 w7 (w.heap.size+1) v7 (L6++List.replicate 35 0)):=WI (q:=21+35) (by rw [←ZA.out];simp [Zn]) rfl (by rw [WX,xG];exact yb);have X7:=Z8 (X6.out.below b7 (by omega));have B7:=Z8 (B6.out.trans (b7.mono (by omega)));have s7:=ZP s6 b7.size;clear x0 x1 x2 x3 x4 yb BI b7 X6 B6 ZC;obtain ⟨-,x0,x1,x2,x3,x4⟩:=X7.out
 go_wp2_with fail
 refine (XK _ (w.heap.size+1) _ (L6++List.replicate 35 0) g 8 O7.out s7 (by rw [←ZA.out];simp [Zn]) (by omega)).mono ?_;rintro e w8 ⟨v8,rfl,o8,b8⟩;have B8:=Z8 (B7.out.trans (b8.mono (by omega)));have O8:Hid (Own .u8 5 w8 w.heap.size v8 (Ld g b s l c)):=by
  have h8:=o8.mono (show w.heap.size≤w.heap.size+1 by omega);rw [←ZA.out,TJ] at h8;exact h8
 clear o8 b8;go_wp2;go_ret;exact ⟨_,rfl,O8.out,B8.out⟩
theorem LB {b c:Int} (h:VP g b s l c=true):∃g' b' s' l' c':Nat,g=g'∧b=b'∧s=s'∧l=l'∧c=c':=by
 unfold VP at h
 simp only [Yg,Jr,Zg] at h
 exact ⟨g.toNat,b.toNat,s.toNat,l.toNat,c.toNat,by omega,by omega,by omega,by omega,by omega⟩
theorem Mz (w:World) (g b s l c:Int) :
    Calls Tryz.prog 121 #[.agg #[.int .i64 g,.int .i64 b,.int .i64 s,.int .i64 l,.int .i64 c]] w fun e w'=>∃v',e=.returned v'∧Own .u8 5 w' w.heap.size v' (sup g b s l c)∧ZX w w':=by
 unfold sup
 by_cases h:VP g b s l c=true
 · rw [ZY h]
   obtain ⟨g,b,s,l,c,rfl,rfl,rfl,rfl,rfl⟩:=LB h;exact MC w g b s l c h
 rw [Z3 h];exact Ke w g b s l c (by simpa using h)
attribute [local go_sem] Uf
theorem UX.other {x0 x1 x2 x3:Value} (h:UX W b x0 x1 x2 x3) (hg:W.grownBy W' row) (hne:some b≠row):UX W' b x0 x1 x2 x3:=by
 have hbl:=hg.block b h.1 hne;exact ⟨ZB h.1 hg.size,⟨(YI (a:=⟨b,0,none⟩) hbl).trans h.2.1.1,(YI (a:=⟨b,1,none⟩) hbl).trans h.2.1.2.1,(YI (a:=⟨b,2,none⟩) hbl).trans h.2.1.2.2.1,(YI (a:=⟨b,3,none⟩) hbl).trans h.2.1.2.2.2⟩,
  (Ue (a:=⟨b,0,none⟩) hbl).trans h.2.2.1,(Ue (a:=⟨b,1,none⟩) hbl).trans h.2.2.2.1,(Ue (a:=⟨b,2,none⟩) hbl).trans h.2.2.2.2.1,(Ue (a:=⟨b,3,none⟩) hbl).trans h.2.2.2.2.2⟩
theorem RD.other (h:RD w vt W) (hg:W.grownBy W' row) (hr:∀r,row=some r→w.heap.size+2≤r):RD w vt W' :=
 ⟨h.1.grown hg (by have:=h.2.1;omega) (fun q e=>by have:=hr q e;omega),ZP h.2.1 hg.size,(YI (a:=⟨w.heap.size,0,none⟩) (hg.block w.heap.size (by have:=h.2.1;omega) (fun e=>by have:=hr _ e.symm;omega))).trans h.2.2.1,h.2.2.2.other hg (fun e=>by have:=hr _ e.symm;omega)⟩
def xX (W:World) (b:Nat) (x:Value):Prop:=b<W.heap.size∧W.cell? ⟨b,0,none⟩=some x∧W.frozen? ⟨b,0,none⟩=false
theorem xX.below (h:xX W b x) (hb:ZX W W'):xX W' b x:=⟨ZB h.1 hb.size,(hb.cell (p:=⟨b,0,none⟩) h.1).trans h.2.1,(hb.frozen (p:=⟨b,0,none⟩) h.1).trans h.2.2⟩
theorem xX.other (h:xX W b x) (hg:W.grownBy W' row) (hne:some b≠row):xX W' b x:=by
 have hbl:=hg.block b h.1 hne;exact ⟨ZB h.1 hg.size,(YI (a:=⟨b,0,none⟩) hbl).trans h.2.1,(Ue (a:=⟨b,0,none⟩) hbl).trans h.2.2⟩
structure Jv (w:World) (vt:Value) (Bo:Nat) (ao:Option Addr) (n cap:Nat) (R:List (List Int × Nat)) (start:Int) (res:List Nd × Int × Nat) (k:Nat) (v:Value) (ns:List Nd) (zx last:Int) (W:World):Prop where
 head:RD w vt W
 out:UX W Bo v (.int .i64 zx) (.int .i64 (k:Int)) (.int .i64 ((pos R k:Nat):Int))
 own:ZU 134 W (w.heap.size+2) v ns
 ne:v.ownBlock≠some Bo∧v.ownBlock≠some (Bo+1)
 T:xX W (Bo+1) (.int .i64 last)
 M:Boxed W (Bo+2) 22 (.slice ao n cap)
 size:Bo+3≤W.heap.size
 low:w.heap.size+2≤Bo
 good:Good ns
 len:ns.length≤1000
 wu:-1≤zx∧zx≤2147483647
 NS:0<k→1≤last∧last≤2147483647
 first:k=0→zx=start
 Y8:k≤R.length
 goes:TY start k ((R.drop k).map (·.1)) ns zx last=res
theorem Jv.later (h:Jv w vt Bo ao n cap R start res k v ns zx last W) (hb:ZX W W'):Jv w vt Bo ao n cap R start res k v ns zx last W' :=
 ⟨h.head.below hb,h.out.below hb,h.own.below hb,h.ne,h.T.below hb,(hb.block _ (by have:=h.size;omega)).trans h.M,ZP h.size hb.size,h.low,h.good,h.len,h.wu,h.NS,h.first,h.Y8,h.goes⟩
theorem ZU.Yq (h:ZU 134 W lo v ns) (hg:W.grownBy W' row) (hr:∀r,row=some r→∃o:Obj,W.heap[r]?=some o∧o.isCells=false):ZU 134 W' lo v ns:=XX h hg hr
theorem Jv.Yq (h:Jv w vt Bo ao n cap R start res k v ns zx last W) (hg:W.grownBy W' row) (hr:∀r,row=some r→Bo+3≤r∧∃o:Obj,W.heap[r]?=some o∧o.isCells=false):Jv w vt Bo ao n cap R start res k v ns zx last W' :=
 ⟨h.head.other hg (fun r e=>by have:=(hr r e).1;have:=h.low;omega),h.out.other hg (fun e=>by have:=(hr _ e.symm).1;omega),h.own.Yq hg (fun r e=>(hr r e).2),h.ne,h.T.other hg (fun e=>by have:=(hr _ e.symm).1;omega),
  (hg.block _ (by have:=h.size;omega) (fun e=>by have:=(hr _ e.symm).1;omega)).trans h.M,ZP h.size hg.size,h.low,h.good,h.len,h.wu,h.NS,h.first,h.Y8,h.goes⟩
def uO (w:World) (vt:Value) (Bo:Nat) (R:List (List Int × Nat)) (res:List Nd × Int × Nat) (W:World):Prop :=
 ∃v ns zx k,RD w vt W∧UX W Bo v (.int .i64 zx) (.int .i64 ((k:Nat):Int)) (.int .i64 ((pos R k:Nat):Int))∧ZU 134 W (w.heap.size+2) v ns∧res=(ns,zx,k)∧w.heap.size+2≤Bo∧Bo+3≤W.heap.size
theorem uO.Yq (h:uO w vt Bo R res W) (hg:W.grownBy W' row) (hr:∀r,row=some r→Bo+3≤r∧∃o:Obj,W.heap[r]?=some o∧o.isCells=false):uO w vt Bo R res W':=by
 obtain ⟨v,ns,zx,k,h1,h2,h3,h4,h5,h6⟩:=h;exact ⟨v,ns,zx,k,h1.other hg (fun r e=>by have:=(hr r e).1;omega),h2.other hg (fun e=>by have:=(hr _ e.symm).1;omega),h3.Yq hg (fun r e=>(hr r e).2),h4,h5,ZP h6 hg.size⟩
theorem Jv.stop (h:Jv w vt Bo ao n cap R start res k v ns zx last W) (hr:res=(ns,zx,k)):uO w vt Bo R res W :=
 ⟨v,ns,zx,k,h.head,h.out,h.own,hr,h.low,h.size⟩
theorem Ig {z:Int} (h1:RD w vt W) (h2:UX W Bo v (.int .i64 zx) (.int .i64 (k:Int)) (.int .i64 ((pos R k:Nat):Int))) (h3:ZU 134 W (w.heap.size+2) v ns) (h4:v.ownBlock≠some Bo∧v.ownBlock≠some (Bo+1)) (h5:xX W (Bo+1) x) (h6:Boxed W (Bo+2) 22 (.slice ao n cap)) (h7:Bo+3≤W.heap.size) (h8:w.heap.size+2≤Bo) (h9:Good ns) (h10:ns.length≤1000) (h11:-1≤zx∧zx≤2147483647) (h12:1≤z∧z≤2147483647) (YV:k+1≤R.length) (YU:TY start (k+1) ((R.drop (k+1)).map (·.1)) ns zx z=res) :
    Jv w vt Bo ao n cap R start res (k+1) v ns zx z (((W.setCell ⟨Bo+1,0,none⟩ (.int .i64 z)).setCell ⟨Bo,2,none⟩ (.int .i64 ((k:Int)+1))).setCell ⟨Bo,3,none⟩ (.int .i64 ((pos R (k+1):Nat):Int))):=by
 refine ⟨((h1.Yu (by omega) _).Yu h8 _).Yu h8 _,?_,((h3.Yu h4.2 _).Yu h4.1 _).Yu h4.1 _,h4,?_,?_,by simpa using h7,h8,h9,h10,h11,fun _=>h12,fun h=>by omega,YV,YU⟩
 · have hb:Below (Bo+1) W (W.setCell ⟨Bo+1,0,none⟩ (.int .i64 z)):=by refine Zf ZR ?_ _;exact ZW
   have:=((h2.ZL hb (by omega)).set2 (.int .i64 ((k:Int)+1))).wv (.int .i64 ((pos R (k+1):Nat):Int));rw [show ((k+1:Nat):Int)=(k:Int)+1 by omega];exact this
 · have h:xX (W.setCell ⟨Bo+1,0,none⟩ (.int .i64 z)) (Bo+1) (.int .i64 z):=⟨by simpa using h5.1,Ys _ _ _ h5.2.1,by simpa using h5.2.2⟩
   exact (h.other (wC _ Bo 2 _) (by simp)).other (wC _ Bo 3 _) (by simp)
 show _=_;rw [Mh _ _ _ _ (by simp),Mh _ _ _ _ (by simp),Mh _ _ _ _ (by simp)];exact h6
theorem If {V:Nat} {X Y:World} (hg:X.grownBy Y (some V)) (h:V<B):KeepsFrom B X Y:=⟨hg.size,fun k _ hB hk _=>(hg.block k (Array.getElem?_eq_some_iff.1 hk).1 (fun e=>by simp at e;omega)).trans hk⟩
def oC (w:World) (vt:Value) (Bo:Nat) (ao:Option Addr) (n cap:Nat) (R:List (List Int × Nat)) (start:Int) (res:List Nd × Int × Nat) (tm:Value→Value→Value→Array Value) (s:List Value) (vs:Array Value) (a':Act) (W:World):Prop :=
 ∃ua uc v ns' zx last Bx,qe vs=.slice ua (pR (R.map (·.1)) s.length).length uc∧s.length<R.length∧Jv w vt Bo ao n cap R start res s.length v ns' zx last W∧Own .u8 5 W (Bo+3) (.slice ua (pR (R.map (·.1)) s.length).length uc) (pR (R.map (·.1)) s.length) ∧
  Boxed W Bx 110 (.slice ua (pR (R.map (·.1)) s.length).length uc)∧a'={ tmps:=tm (.int .i64 ((pos R (s.length+1):Nat):Int)) (.pointer (some ⟨Bx,0,none⟩)) (.agg #[.slice ua (pR (R.map (·.1)) s.length).length uc]),defers:=[] }
theorem NM (w:World) (ta:Option Addr) (tc:Nat) (ns:List Nd) (start:Int) (ao:Option Addr) (n cap:Nat) (a:List Int) (ht:VL w (.slice ta ns.length tc) ns) (hok:Zp ns=true) (hs:Uc start=true) (hr:Rd .u8 w (.slice ao n cap) a) (hl:a.length=n) (hby:YL a) (hn:n≤8192) (hform:(ao=none∧n=0∧cap=0)∨∃blk o,ao=some ⟨blk,o,none⟩) :
    Calls Tryz.prog 106 #[.agg #[.slice ta ns.length tc],.int .i64 start,.slice ao n cap] w (FJ w (Yl n a) (TY start 0 ((Yl n a).map (·.1)) ns start 0)):=by
 have HN:=Z8 ht;have WC:=Z8 hok;have HR:=Z8 hr;have HL:=Z8 hl;have Xe:=Z8 hby
 have HF:=Z8 hform;have hnl:ns.length≤1000:=by unfold Zp at hok;simp only [Yg,Zg] at hok;exact hok.1
 have hst:0≤start∧start≤2147483647:=by unfold Uc at hs;simpa using hs
 have HST:Hid (decide (0≤start∧start≤2147483647)=true):=by show _=_;rw [Zg];exact hst
 have HG:=Z8 (SO hok);obtain ⟨res,hres⟩:∃res,res=TY start 0 ((Yl n a).map (·.1)) ns start 0:=⟨_,rfl⟩;have Um:=Z8 hres.symm;rw [←hres];have hn2:¬(8192:Int)<(n:Int):=by omega
 have pp:decide ((8192:Int)<(n:Int))=false:=by simpa using hn2
 clear ht hok hs hr hl hby hres hform;refine (Xq (n:=6)).1 ?_;refine callsIn_of_wp_marks Tryz.func106 rfl trivial ?_ rfl
 simp only [Tryz.ntmps106,WW,XQ,Wv,Nat.reduceAdd,Nat.reduceSub,DV,DU,Qv,Qz,TJ,Qy]
 gi_wp2_with fail
 have F0:Hid (RD w (.slice ta ns.length tc) ((w.alloc (.cells #[.slice ta ns.length tc] 33)).alloc (.cells #[.slice none 0 0,.int .i64 0,.int .i64 0,.int .i64 0] 60))):=RD.new _ _ _ _;generalize (w.alloc _).alloc _=w0 at *;refine ⟨trivial,?_⟩;refine (Xq.2 (Vg _ _ ns (HN.out.below F0.out.1) (QS HG.out))).mono ?_;rintro e w1 ⟨rfl,b1⟩;rw [WC.out];have F1:=Z8 (F0.out.below b1);clear b1 F0
 gi_wp2_with fail
 refine ⟨trivial,?_⟩;refine (Xq.2 (QO _ start)).mono ?_;rintro e wq ⟨rfl,hwq⟩;rw [HST.out,hwq];clear hwq;obtain ⟨-,-,x0,-⟩:=F1.out
 gi_wp2_with fail
 clear x0;refine ⟨trivial,?_⟩;refine (Xq.2 (FE _ ta tc ns (HN.out.below F1.out.1) hnl)).mono ?_;rintro e w2 ⟨v2,rfl,o2,b2⟩;obtain ⟨na,nc,rfl⟩:=ZU.YW o2;have F2:=Z8 (F1.out.below b2);have O2:=Z8 o2;have s1:=F1.out.2.1;clear o2 b2 F1
 gi_wp2_with fail
 refine ⟨trivial,?_⟩;refine (Dt Fence.wide _ trivial rfl _ _ _ _).mono ?_;rintro e w5 ⟨rfl,PY⟩
 gi_wp2_with fail
 have s2:=F2.out.2.1;have xA:Hid (Jv w (.slice ta ns.length tc) w2.heap.size ao n cap (Yl n a) start res 0 (.slice na ns.length nc) ns start 0 w5):=by
  rw [PY];have bA:ZX w2 (w2.alloc (.cells #[.slice na ns.length nc,.int .i64 start,.int .i64 0,.int .i64 0] 60)):=ZR.alloc ZW _;have hO:=O2.out.below bA;have hF:=F2.out.below bA;have hX:=UX.new w2 (.slice na ns.length nc) (.int .i64 start) (.int .i64 0) (.int .i64 0) 60;have sA:(w2.alloc (.cells #[.slice na ns.length nc,.int .i64 start,.int .i64 0,.int .i64 0] 60)).heap.size=w2.heap.size+1:=by simp
  have hlt:=fun q hq=>ZO O2.out q hq
  generalize w2.alloc _=wA at *;have bB:ZX wA (wA.alloc (.cells #[.int .i64 0] 2)):=ZR.alloc ZW _;have hL:xX (wA.alloc (.cells #[.int .i64 0] 2)) (w2.heap.size+1) (.int .i64 0):=by rw [←sA];exact ⟨by simp,by simp,by simp⟩
  have sB:(wA.alloc (.cells #[.int .i64 0] 2)).heap.size=w2.heap.size+2:=by simp [sA]
  generalize wA.alloc _=wB at *;have bC:ZX wB (wB.alloc (.cells #[.slice ao n cap] 22)):=ZR.alloc ZW _;refine ⟨(hF.below bB).below bC,by rw [Tr];exact (hX.below bB).below bC,((hO.below bB).below bC).mono (by omega),⟨fun e=>by have:=hlt _ e;omega,fun e=>by have:=hlt _ e;omega⟩,hL.below bC,?_,by simp [sB],s2,HG.out,hnl,⟨by omega,by omega⟩,fun h=>by omega,fun _=>rfl,ZQ _,by rw [Jq];exact Um.out⟩;have:=Boxed.new wB 22 (.slice ao n cap);rw [sB] at this;exact this
 have s5:w5.heap.size=w2.heap.size+3:=by rw [PY];simp
 rw [←PY];clear PY O2 F2;refine Kg (L:=0) (F:=Fence.wide) (n:=6) rfl (by omega) (gf:=140) (lb:=#[.pointer (some ⟨w2.heap.size+2,0,none⟩)]) rfl trivial (enters_of Tryz.func140 (by kernel_rfl) rfl)
  (fun s W=>∃v ns' zx last,Jv w (.slice ta ns.length tc) w2.heap.size ao n cap (Yl n a) start res s.length v ns' zx last W) (wD (Yl n a) (fun s W=>∃v ns' zx last,Jv w (.slice ta ns.length tc) w2.heap.size ao n cap (Yl n a) start res s.length v ns' zx last W)) (fun s vs=>s++[qe vs]) (fun _ _=>True) (fun s=>s.length=(Yl n a).length) (uO w (.slice ta ns.length tc) w2.heap.size (Yl n a) res)
  (fun s X Y row hs hg hr=>hs.Yq hg (fun r e=>by have:=hr r e;rw [s5] at this;exact this)) []
  (fun s X Y row hs hg hr=>by obtain ⟨v,ns',zx,last,hs⟩:=hs;exact ⟨v,ns',zx,last,hs.Yq hg (fun r e=>by have:=hr r e;rw [s5] at this;exact this)⟩) (fun _ _=>trivial) (fun _ _ _ _ _ _ _ _=>trivial)
  (fun s vs W hp=>by obtain ⟨u,W0,rfl,-⟩:=hp;rfl) ⟨_,_,_,_,xA.out⟩ (oC w (.slice ta ns.length tc) w2.heap.size ao n cap (Yl n a) start res (fun e b p=>#[.agg #[.slice ta ns.length tc],.int .i64 start,.slice ao n cap,.pointer (some ⟨w.heap.size,0,none⟩),undef,undef,.pointer (some ⟨w.heap.size+1,0,none⟩),.pointer (some ⟨w2.heap.size,0,none⟩),.pointer (some ⟨w2.heap.size+1,0,none⟩),e,b,undef,.agg #[.slice ta ns.length tc],.bool true,.bool false,.bool false,.int .i64 start,.bool true,.bool false,.bool false,.bool false,.slice ao n cap,.int .i64 n,.bool false,.bool false,undef,.pointer (some ⟨w.heap.size,0,none⟩),.slice ta ns.length tc,.slice na ns.length nc,.agg #[.slice na ns.length nc],.int .i64 start,.agg #[.slice na ns.length nc,.int .i64 start,.int .i64 0,.int .i64 0],.slice ao n cap,.func (.func 140) #[] #[.pointer (some ⟨w2.heap.size+2,0,none⟩)],e,p,undef,undef,undef,undef,undef,undef,undef,undef,undef,undef,undef,undef,undef,undef,undef,undef,undef,undef,undef,undef,undef,undef,undef,undef,undef,undef,undef,undef,undef]))
  ?ax ?assign ?body ?call ?done ?stop
 case ax =>
  rintro s vs a' _ X Y row ⟨ua,uc,v,ns',zx,last,Bx,h1,h2,h3,h6,h7,h8⟩ hg hr;refine ⟨ua,uc,v,ns',zx,last,Bx,h1,h2,h3.Yq hg (fun r e=>by have:=hr r e;rw [s5] at this;exact this),XX h6 hg (fun r e=>(hr r e).2),?_,h8⟩;exact (hg.block Bx (Array.getElem?_eq_some_iff.1 h7).1 (fun e=>by obtain ⟨-,o,ho,hc⟩:=hr Bx e.symm;rw [h7] at ho;injection ho with ho;rw [←ho] at hc;cases hc)).trans h7
 case assign =>
  rintro l s vs W K - ⟨u,W0,rfl,hlt,⟨v,ns',zx,last,hs⟩,hb,ho⟩ hK;have hpr:=(FF _ _ hlt).symm;rw [hpr] at ho;obtain ⟨ua,uc,rfl⟩:=Own.slice ho;have HO:=Z8 ho;have HS:=Z8 hs;have HB:=Z8 hb;have HK:Hid (∀a' W',KeepsFrom w5.heap.size W W'→True→(oC w (.slice ta ns.length tc) w2.heap.size ao n cap (Yl n a) start res (fun e b p=>#[.agg #[.slice ta ns.length tc],.int .i64 start,.slice ao n cap,.pointer (some ⟨w.heap.size,0,none⟩),undef,undef,.pointer (some ⟨w.heap.size+1,0,none⟩),.pointer (some ⟨w2.heap.size,0,none⟩),.pointer (some ⟨w2.heap.size+1,0,none⟩),e,b,undef,.agg #[.slice ta ns.length tc],.bool true,.bool false,.bool false,.int .i64 start,.bool true,.bool false,.bool false,.bool false,.slice ao n cap,.int .i64 n,.bool false,.bool false,undef,.pointer (some ⟨w.heap.size,0,none⟩),.slice ta ns.length tc,.slice na ns.length nc,.agg #[.slice na ns.length nc],.int .i64 start,.agg #[.slice na ns.length nc,.int .i64 start,.int .i64 0,.int .i64 0],.slice ao n cap,.func (.func 140) #[] #[.pointer (some ⟨w2.heap.size+2,0,none⟩)],e,p,undef,undef,undef,undef,undef,undef,undef,undef,undef,undef,undef,undef,undef,undef,undef,undef,undef,undef,undef,undef,undef,undef,undef,undef,undef,undef,undef,undef,undef])) s _ a' W'→K a' W'):=hK;clear ho hs hb hK hpr;generalize hq:pR ((Yl n a).map (·.1)) s.length=q at *;have Y7:=Z8 hlt;clear hlt;gi_wp2;refine HK.out _ _ (XJ (ZR.alloc ZW _)) trivial ⟨ua,uc,v,ns',zx,last,W.heap.size,by rw [hq];rfl,Y7.out,(HS.out.later HB.out).later (ZR.alloc ZW _),by rw [hq];exact (HO.out.below (ZR.alloc ZW _)).mono HS.out.size,by rw [hq];exact Boxed.new _ _ _,by rw [hq]⟩
 case body =>
  rintro l s vs a' W ⟨ua,uc,v,ns',zx,last,Bx,hu,hlt,hS,ho,hx,rfl⟩;obtain ⟨va,vc,rfl⟩:=ZU.YW hS.own;have HS:=Z8 hS;have HO:=Z8 ho;have HU:=Z8 hu;have hbt:=El HL.out s.length hlt;have YT:=Z8 hbt.1;have hpl:=hbt.2.1;have cx:=hx.cell;have Yy:=(Array.getElem?_eq_some_iff.1 hx).1;have hdrop:=Ii (Yl n a) s.length hlt;have HDR:=Z8 hdrop;have hk1:Hid (s.length+1≤(Yl n a).length):=hlt;have hps:=(VC n a (by rw [HL.out];exact ZW)).2.2 (s.length+1) hlt;rw [HL.out] at hps;have hsl:s.length≤8192:=by have:=Km n a;omega
  clear hS ho hu hbt hx hdrop hlt;generalize pR ((Yl n a).map (·.1)) s.length=p9 at *;generalize Yl n a=R at *;generalize hk:s.length=k at *;have rU:=Z8 hk;clear hk;have sW:=HS.out.size;have Yx:=HS.out.low
  gi_wp2_with fail
  refine ⟨trivial,?_⟩;refine (Xq.2 (KQ _ _ p9 HO.out.rd YT.out (by omega))).mono ?_;rintro e W1 ⟨b1,hd⟩;rename_i pn zC K9 Dj;have Kd:Hid _:=zC;clear zC;have J:=Z8 (HS.out.later b1);have Z2:Hid (KeepsFrom (w2.heap.size+3) W W1):=XJ b1;clear b1 HS cx
  rcases hd with ⟨hd,rfl⟩ | ⟨z,es,vx,hd,rfl,ox⟩
  · have Wk:Hid (res=(ns',zx,k)):=by
     have:=J.out.goes;rw [HDR.out,Ij hd] at this;exact this.symm
    clear hd;have bA:ZX W1 (W1.alloc (.cells #[.bool false,.int .i64 0,.slice none 0 0] 107)):=ZR.alloc ZW _;have G:=Z8 (J.out.later bA);have Z1:=Z8 (Z2.out.trans (XJ bA));have t0:(W1.alloc (.cells #[.bool false,.int .i64 0,.slice none 0 0] 107)).cell? ⟨W1.heap.size,0,none⟩=some (.bool false):=by simp
    clear bA J Z2;unfold Ai
    gi_wp2_with fail
    generalize W1.alloc _=W2 at *;refine Kd.out _ _ ?_;clear Kd;gi_wp2;refine ⟨trivial,?_⟩;gi_wp2;refine ⟨trivial,?_⟩;gi_wp2;exact ⟨Z1.out,G.out.stop Wk.out⟩
  have hzz:=En (Vf hd);have HD:=Z8 hd;obtain ⟨xa,xc,rfl⟩:=Xr.YW ox;have bA:ZX W1 (W1.alloc (.cells #[.bool true,.int .i64 z,.slice xa es.length xc] 107)):=ZR.alloc ZW _;have G:=Z8 (J.out.later bA);have Z1:=Z8 (Z2.out.trans (XJ bA));have Y6:=Z8 ((Xr.rd ox).below bA);have t0:(W1.alloc (.cells #[.bool true,.int .i64 z,.slice xa es.length xc] 107)).cell? ⟨W1.heap.size,0,none⟩=some (.bool true):=by simp
  have t1:(W1.alloc (.cells #[.bool true,.int .i64 z,.slice xa es.length xc] 107)).cell? ⟨W1.heap.size,1,none⟩=some (.int .i64 z):=by simp
  have t2:(W1.alloc (.cells #[.bool true,.int .i64 z,.slice xa es.length xc] 107)).cell? ⟨W1.heap.size,2,none⟩=some (.slice xa es.length xc):=by simp
  have T2:Hid (W1.heap.size<(W1.alloc (.cells #[.bool true,.int .i64 z,.slice xa es.length xc] 107)).heap.size∧(W1.alloc (.cells #[.bool true,.int .i64 z,.slice xa es.length xc] 107)).cell? ⟨W1.heap.size,1,none⟩=some (.int .i64 z)∧(W1.alloc (.cells #[.bool true,.int .i64 z,.slice xa es.length xc] 107)).cell? ⟨W1.heap.size,2,none⟩=some (.slice xa es.length xc)):=⟨by simp,t1,t2⟩;have S1:=Z8 J.out.size;clear bA J Z2 ox hd
  gi_wp2_with fail
  generalize W1.alloc _=W2 at *;generalize YR:W1.heap.size=Bt at *;clear YR;refine Kd.out _ _ ?_;clear Kd;obtain ⟨zl,l0,lf⟩:=G.out.T
  gi_wp2_with fail
  clear l0 lf zl t0 t1 t2;have hzx:=G.out.wu;refine ⟨trivial,?_⟩;refine (Xq.2 (Ih W2 w2.heap.size (.slice va ns'.length vc) zx _ last z k xa es.length xc G.out.out hzx G.out.NS)).mono ?_;rintro e W3 ⟨rfl,b3⟩;have Qu:=Z8 (G.out.later b3);have Z':=Z8 (Z1.out.trans (XJ b3));have Zz:=Z8 (Y6.out.below b3);have T3:Hid (Bt<W3.heap.size∧W3.cell? ⟨Bt,1,none⟩=some (.int .i64 z)∧W3.cell? ⟨Bt,2,none⟩=some (.slice xa es.length xc)):=⟨ZB T2.out.1 b3.size,(b3.cell (p:=⟨Bt,1,none⟩) T2.out.1).trans T2.out.2.1,(b3.cell (p:=⟨Bt,2,none⟩) T2.out.1).trans T2.out.2.2⟩;clear b3 G Z1 Y6 T2;obtain ⟨fl,hfl⟩:∃fl,fl=(if k=0 then decide (z≤zx+1) else decide (z=last+1)):=⟨_,rfl⟩;have HBAD:Hid ((if k=0 then decide (start+1<z) else decide (z≠last+1))=!fl):=by
   rw [hfl];show _=_
   by_cases hk0:k=0
   · rw [ZY hk0,ZY hk0,Qu.out.first hk0]
     by_cases h:z≤start+1
     · rw [Zl (by omega),YS h];rfl
     rw [YS (by omega),Zl h];rfl
   rw [Z3 hk0,Z3 hk0]
   by_cases h:z=last+1
   · rw [Zl (by omega),YS h];rfl
   rw [YS h,Zl h];rfl
  rw [←hfl];clear hfl
  cases fl with
  | false =>
   have Wk:Hid (res=(ns',zx,k)):=by
    have:=Qu.out.goes;rw [HDR.out,Em HD.out HBAD.out] at this;exact this.symm
   gi_wp2;refine ⟨trivial,?_⟩;gi_wp2;exact ⟨Z'.out,Qu.out.stop Wk.out⟩
  | true =>
   obtain ⟨-,t1,t2⟩:=T3.out
   gi_wp2_with fail
   clear t1 t2;refine ⟨trivial,?_⟩;refine (Xq.2 (Dk W3 w2.heap.size va vc ns' zx _ z k xa xc es Qu.out.out Qu.out.own.rd Qu.out.own.qR Qu.out.good Zz.out (Vf HD.out))).mono ?_;rintro e W4 YM
   rcases YM with ⟨hz,rfl,b4⟩ | ⟨hz,hbig,rfl,b4⟩ | ⟨hz,hbig,rfl,v4,x4,o4,g4⟩
   · have GOES:Hid (TY start (k+1) ((R.drop (k+1)).map (·.1)) ns' zx z=res):=by
      have:=Qu.out.goes;rw [HDR.out,NT HD.out HBAD.out (by omega)] at this;exact this
     have LC:=Z8 (Qu.out.later b4);have y:=Z8 (Z'.out.trans (XJ b4));have t1:=(b4.cell (p:=⟨Bt,1,none⟩) T3.out.1).trans T3.out.2.1;have FIN:=Z8 (Ig LC.out.head LC.out.out LC.out.own LC.out.ne LC.out.T LC.out.M LC.out.size LC.out.low LC.out.good LC.out.len LC.out.wu hzz hk1.out GOES.out);have Zx:Hid (KeepsFrom (w2.heap.size+3) W (((W4.setCell ⟨w2.heap.size+1,0,none⟩ (.int .i64 z)).setCell ⟨w2.heap.size,2,none⟩ (.int .i64 ((k:Int)+1))).setCell ⟨w2.heap.size,3,none⟩ (.int .i64 ((pos R (k+1):Nat):Int)))):=y.out.trans ((((KeepsOthers.setCell _ _ _).from _).trans ((KeepsOthers.setCell _ _ _).from _)).trans ((KeepsOthers.setCell _ _ _).from _));obtain ⟨zo,⟨e0,e1,e2,e3⟩,f0,f1,f2,f3⟩:=LC.out.out;obtain ⟨zl,l0,lf⟩:=LC.out.T;have Y5:Bt≠w2.heap.size+1:=by have:=S1.out;omega
     have Y4:Bt≠w2.heap.size:=by have:=S1.out;omega
     clear b4 Qu Z' Zz T3 LC y;gi_wp2;refine ⟨Zx.out,.slice va ns'.length vc,ns',zx,z,?_⟩;rw [rU.out];exact FIN.out
   · have Wk:Hid (res=(ns',zx,k)):=by
      have:=Qu.out.goes;rw [HDR.out,Ki HD.out HBAD.out hz hbig] at this;exact this.symm
     have LC:=Z8 (Qu.out.later b4);have y:=Z8 (Z'.out.trans (XJ b4));clear b4;gi_wp2;exact ⟨y.out,LC.out.stop Wk.out⟩
   have GOES:Hid (TY start (k+1) ((R.drop (k+1)).map (·.1)) (ZE ns' z es) z z=res):=by
    have:=Qu.out.goes;rw [HDR.out,Kh HD.out HBAD.out hz hbig] at this;exact this
   have y:=Z8 (Z'.out.trans (If g4 (by omega)));have YJ:=Qu.out.size;have t1:=(YI (a:=⟨Bt,1,none⟩) (g4.block Bt T3.out.1 (fun e=>by simp at e;have:=S1.out;omega))).trans T3.out.2.1;have Zu:=Z8 (Qu.out.T.other g4 (by simp));have X4:=Z8 x4;have Y1:Hid (Boxed W4 (w2.heap.size+2) 22 (.slice ao n cap)):=(g4.block (w2.heap.size+2) (by omega) (by simp)).trans Qu.out.M;have HD4:=Z8 (Qu.out.head.other g4 (fun r e=>by simp at e;omega));have Y0:Hid (v4.ownBlock≠some w2.heap.size∧v4.ownBlock≠some (w2.heap.size+1)):=⟨fun e=>by have:=(ZO o4 _ e).1;omega,fun e=>by have:=(ZO o4 _ e).1;omega⟩;have O4:Hid (ZU 134 W4 (w.heap.size+2) v4 (ZE ns' z es)):=o4.mono (by omega);have FIN:=Z8 (Ig HD4.out X4.out O4.out Y0.out Zu.out Y1.out (ZP YJ g4.size) Qu.out.low (SN Qu.out.good (Vf HD.out)) (by omega) ⟨by omega,by omega⟩ hzz hk1.out GOES.out);have Zx:Hid (KeepsFrom (w2.heap.size+3) W (((W4.setCell ⟨w2.heap.size+1,0,none⟩ (.int .i64 z)).setCell ⟨w2.heap.size,2,none⟩ (.int .i64 ((k:Int)+1))).setCell ⟨w2.heap.size,3,none⟩ (.int .i64 ((pos R (k+1):Nat):Int)))):=y.out.trans ((((KeepsOthers.setCell _ _ _).from _).trans ((KeepsOthers.setCell _ _ _).from _)).trans ((KeepsOthers.setCell _ _ _).from _));obtain ⟨zo,⟨e0,e1,e2,e3⟩,f0,f1,f2,f3⟩:=X4.out;obtain ⟨zl,l0,lf⟩:=Zu.out;have Y5:Bt≠w2.heap.size+1:=by have:=S1.out;omega
   have Y4:Bt≠w2.heap.size:=by have:=S1.out;omega
   clear g4 x4 o4 Qu Z' Zz T3 X4 Zu Y1 HD4 Y0 O4 y;gi_wp2;refine ⟨Zx.out,v4,ZE ns' z es,z,z,?_⟩;rw [rU.out];exact FIN.out
 case call =>
  intro Bk PZ W1 rD pS hY _ _ hs0 hb0;have YG:∀s vs W,(fun s W=>∃v ns' zx last,Jv w (.slice ta ns.length tc) w2.heap.size ao n cap (Yl n a) start res s.length v ns' zx last W) s W→Bk W→wD (Yl n a) (fun s W=>∃v ns' zx last,Jv w (.slice ta ns.length tc) w2.heap.size ao n cap (Yl n a) start res s.length v ns' zx last W) s vs W→YieldAt Fence.wide (5 - 1) Tryz.prog (w5.heap.size+1) vs W fun e W'=>(e=.returned (.bool true)∧(fun s W=>∃v ns' zx last,Jv w (.slice ta ns.length tc) w2.heap.size ao n cap (Yl n a) start res s.length v ns' zx last W) (s++[qe vs]) W'∧Bk W')∨(e=.returned (.bool false)∧(uO w (.slice ta ns.length tc) w2.heap.size (Yl n a) res) W'∧PZ W'):=by
   intro s vs W hs hb hp;obtain ⟨fn,tm,pQ,bd,hy,hR⟩:=hY s vs W hs hb hp;exact ⟨fn,tm,pQ,bd,hy,hR.mono (fun e W' h=>by rcases h with h | h;exact .inl ⟨h.1,h.2.1,h.2.2.1⟩;exact .inr h)⟩
  rcases HF.out with ⟨ho,hn0,hc0⟩ | ⟨blk,o,ho⟩
  · have ha:=Vj (by rw [HL.out];exact hn0)
    have hr:=MD 5 (by omega) (w5.heap.size+1) (w2.heap.size+2) (fun s W=>∃v ns' zx last,Jv w (.slice ta ns.length tc) w2.heap.size ao n cap (Yl n a) start res s.length v ns' zx last W) Bk (uO w (.slice ta ns.length tc) w2.heap.size (Yl n a) res) PZ (fun s X Y hb ⟨v,ns',zx,last,h⟩=>⟨v,ns',zx,last,h.later hb⟩) (fun X Y hb h=>rD X Y (XJ hb) h) (fun s W ⟨v,ns',zx,last,h⟩=>by have:=h.M.cell;rw [ho,hn0,hc0] at this;exact this) W1 hs0 hb0;refine hr.mono ?_;rintro e W' ⟨h1,(⟨s,h2,h3⟩ | h3)⟩
    · exact ⟨h1,.inl ⟨s,by rw [h2,hn0,ha],h3⟩⟩
    exact ⟨h1,.inr h3⟩
  exact FD 5 (by omega) (w5.heap.size+1) (w2.heap.size+2) blk o n cap a HL.out Xe.out hn (fun s W=>∃v ns' zx last,Jv w (.slice ta ns.length tc) w2.heap.size ao n cap (Yl n a) start res s.length v ns' zx last W) Bk (uO w (.slice ta ns.length tc) w2.heap.size (Yl n a) res) PZ (fun s X Y hb ⟨v,ns',zx,last,h⟩=>⟨v,ns',zx,last,h.later hb⟩) (fun X Y hb h=>rD X Y (XJ hb) h) (fun s W ⟨v,ns',zx,last,h⟩=>by rw [←ho];exact ⟨h.M.cell,HR.out.below h.head.1⟩) YG W1 hs0 hb0
 case done =>
  rintro D s W hD hfin ⟨v,ns',zx,last,hS⟩ hK;obtain ⟨hH,hX,hO,hlow,hsz⟩:=(⟨hS.head,hS.out,hS.own,hS.low,hS.size⟩:_∧_∧_∧_∧_);have hres:res=(ns',zx,s.length):=by
   have:=hS.goes;rw [hfin,List.drop_length,DQ,TY] at this;rw [←this,hfin]
  clear hS hfin;generalize s.length=k at *;obtain ⟨va,vc,rfl⟩:=ZU.YW hO;have HO:=Z8 hO;have HH:=Z8 hH;have Wk:=Z8 hres;have Zt:=Z8 hK;have hB:=hH.1;obtain ⟨zo,⟨e0,e1,e2,e3⟩,-⟩:=hX;obtain ⟨zr,⟨d0,d1,d2,d3⟩,f0,f1,f2,f3⟩:=hH.2.2.2;clear hO hH hres hK;obtain ⟨ps,hps⟩:∃ps,ps=pos (Yl n a) k:=⟨_,rfl⟩;rw [←hps] at e3;have uN:=Z8 hps;clear hps;gi_wp2;have hK2:((((W.setCell ⟨w.heap.size+1,0,none⟩ (.slice va ns'.length vc)).setCell ⟨w.heap.size+1,1,none⟩ (.int .i64 zx)).setCell ⟨w.heap.size+1,2,none⟩ (.int .i64 (k:Int))).setCell ⟨w.heap.size+1,3,none⟩ (.int .i64 (ps:Int))).heap[D]?=some (.deferred (some [])):=(KeepsOthers.setCell _ _ _).same D _ ((KeepsOthers.setCell _ _ _).same D _ ((KeepsOthers.setCell _ _ _).same D _ ((KeepsOthers.setCell _ _ _).same D _ Zt.out rfl) rfl) rfl) rfl;refine ⟨by simp,.inl ⟨_,_,rfl,run_takeDeferred hK2,?_⟩⟩;have XB:UX ((((W.setCell ⟨w.heap.size+1,0,none⟩ (.slice va ns'.length vc)).setCell ⟨w.heap.size+1,1,none⟩ (.int .i64 zx)).setCell ⟨w.heap.size+1,2,none⟩ (.int .i64 (k:Int))).setCell ⟨w.heap.size+1,3,none⟩ (.int .i64 (ps:Int))) (w.heap.size+1) (.slice va ns'.length vc) (.int .i64 zx) (.int .i64 (k:Int)) (.int .i64 (ps:Int)):=(((HH.out.2.2.2.set0 _).set1 _).set2 _).wv _;have OX:ZU 134 ((((W.setCell ⟨w.heap.size+1,0,none⟩ (.slice va ns'.length vc)).setCell ⟨w.heap.size+1,1,none⟩ (.int .i64 zx)).setCell ⟨w.heap.size+1,2,none⟩ (.int .i64 (k:Int))).setCell ⟨w.heap.size+1,3,none⟩ (.int .i64 (ps:Int))) (w.heap.size+2) (.slice va ns'.length vc) ns':=(((HO.out.ZK (show w.heap.size+1<w.heap.size+2 by omega) _).ZK (show w.heap.size+1<w.heap.size+2 by omega) _).ZK (show w.heap.size+1<w.heap.size+2 by omega) _).ZK (show w.heap.size+1<w.heap.size+2 by omega) _;have BX:ZX w ((((W.setCell ⟨w.heap.size+1,0,none⟩ (.slice va ns'.length vc)).setCell ⟨w.heap.size+1,1,none⟩ (.int .i64 zx)).setCell ⟨w.heap.size+1,2,none⟩ (.int .i64 (k:Int))).setCell ⟨w.heap.size+1,3,none⟩ (.int .i64 (ps:Int))):=(((hB.setCell (by simp) _).setCell (by simp) _).setCell (by simp) _).setCell (by simp) _;have SX:((((W.setCell ⟨w.heap.size+1,0,none⟩ (.slice va ns'.length vc)).setCell ⟨w.heap.size+1,1,none⟩ (.int .i64 zx)).setCell ⟨w.heap.size+1,2,none⟩ (.int .i64 (k:Int))).setCell ⟨w.heap.size+1,3,none⟩ (.int .i64 (ps:Int))).heap.size=W.heap.size:=by simp
  generalize ((((W.setCell _ _).setCell _ _).setCell _ _).setCell _ _)=X at *;have GX:=grownBy_putObj' X D (.deferred none);have YF:w.heap.size+1<D:=by omega
  have YB:=XB.other GX (by simp;omega);have OF:=OX.Yq GX (fun r e=>by injection e with e;subst e;exact ⟨_,hK2,rfl⟩);have BF:=BX.grown GX (by omega) (fun q e=>by injection e with e;omega);generalize X.putObj D (.deferred none)=Z at *;obtain ⟨-,⟨y0,y1,y2,y3⟩,-⟩:=YB;refine ⟨.agg #[.slice va ns'.length vc,.int .i64 zx,.int .i64 (k:Int),.int .i64 (ps:Int)],?_,?_⟩
  · simp [results,Tryz.results106,go_sem,y0,y1,y2,y3]
  rw [Wk.out,uN.out];exact ⟨_,rfl,OF.mono (by omega),BF⟩
 case stop =>
  rintro D W hD ⟨v,ns',zx,k,hH,hX,hO,hres,hlow,hsz⟩ hK;obtain ⟨va,vc,rfl⟩:=ZU.YW hO;have HO:=Z8 hO;have HH:=Z8 hH;have Wk:=Z8 hres;have Zt:=Z8 hK;have hB:=hH.1;obtain ⟨zo,⟨e0,e1,e2,e3⟩,-⟩:=hX;obtain ⟨zr,⟨d0,d1,d2,d3⟩,f0,f1,f2,f3⟩:=hH.2.2.2;clear hO hH hres hK;obtain ⟨ps,hps⟩:∃ps,ps=pos (Yl n a) k:=⟨_,rfl⟩;rw [←hps] at e3;have uN:=Z8 hps;clear hps;gi_wp2;have hK2:((((W.setCell ⟨w.heap.size+1,0,none⟩ (.slice va ns'.length vc)).setCell ⟨w.heap.size+1,1,none⟩ (.int .i64 zx)).setCell ⟨w.heap.size+1,2,none⟩ (.int .i64 (k:Int))).setCell ⟨w.heap.size+1,3,none⟩ (.int .i64 (ps:Int))).heap[D]?=some (.deferred (some [])):=(KeepsOthers.setCell _ _ _).same D _ ((KeepsOthers.setCell _ _ _).same D _ ((KeepsOthers.setCell _ _ _).same D _ ((KeepsOthers.setCell _ _ _).same D _ Zt.out rfl) rfl) rfl) rfl;refine ⟨by simp,.inl ⟨_,_,rfl,run_takeDeferred hK2,?_⟩⟩;have XB:UX ((((W.setCell ⟨w.heap.size+1,0,none⟩ (.slice va ns'.length vc)).setCell ⟨w.heap.size+1,1,none⟩ (.int .i64 zx)).setCell ⟨w.heap.size+1,2,none⟩ (.int .i64 (k:Int))).setCell ⟨w.heap.size+1,3,none⟩ (.int .i64 (ps:Int))) (w.heap.size+1) (.slice va ns'.length vc) (.int .i64 zx) (.int .i64 (k:Int)) (.int .i64 (ps:Int)):=(((HH.out.2.2.2.set0 _).set1 _).set2 _).wv _;have OX:ZU 134 ((((W.setCell ⟨w.heap.size+1,0,none⟩ (.slice va ns'.length vc)).setCell ⟨w.heap.size+1,1,none⟩ (.int .i64 zx)).setCell ⟨w.heap.size+1,2,none⟩ (.int .i64 (k:Int))).setCell ⟨w.heap.size+1,3,none⟩ (.int .i64 (ps:Int))) (w.heap.size+2) (.slice va ns'.length vc) ns':=(((HO.out.ZK (show w.heap.size+1<w.heap.size+2 by omega) _).ZK (show w.heap.size+1<w.heap.size+2 by omega) _).ZK (show w.heap.size+1<w.heap.size+2 by omega) _).ZK (show w.heap.size+1<w.heap.size+2 by omega) _;have BX:ZX w ((((W.setCell ⟨w.heap.size+1,0,none⟩ (.slice va ns'.length vc)).setCell ⟨w.heap.size+1,1,none⟩ (.int .i64 zx)).setCell ⟨w.heap.size+1,2,none⟩ (.int .i64 (k:Int))).setCell ⟨w.heap.size+1,3,none⟩ (.int .i64 (ps:Int))):=(((hB.setCell (by simp) _).setCell (by simp) _).setCell (by simp) _).setCell (by simp) _;have SX:((((W.setCell ⟨w.heap.size+1,0,none⟩ (.slice va ns'.length vc)).setCell ⟨w.heap.size+1,1,none⟩ (.int .i64 zx)).setCell ⟨w.heap.size+1,2,none⟩ (.int .i64 (k:Int))).setCell ⟨w.heap.size+1,3,none⟩ (.int .i64 (ps:Int))).heap.size=W.heap.size:=by simp
  generalize ((((W.setCell _ _).setCell _ _).setCell _ _).setCell _ _)=X at *;have GX:=grownBy_putObj' X D (.deferred none);have YF:w.heap.size+1<D:=by omega
  have YB:=XB.other GX (by simp;omega);have OF:=OX.Yq GX (fun r e=>by injection e with e;subst e;exact ⟨_,hK2,rfl⟩);have BF:=BX.grown GX (by omega) (fun q e=>by injection e with e;omega);generalize X.putObj D (.deferred none)=Z at *;obtain ⟨-,⟨y0,y1,y2,y3⟩,-⟩:=YB;refine ⟨.agg #[.slice va ns'.length vc,.int .i64 zx,.int .i64 (k:Int),.int .i64 (ps:Int)],?_,?_⟩
  · simp [results,Tryz.results106,go_sem,y0,y1,y2,y3]
  rw [Wk.out,uN.out];exact ⟨_,rfl,OF.mono (by omega),BF⟩
end Go.Proofs.YtmmmffcbfepghaaGreatDoor


