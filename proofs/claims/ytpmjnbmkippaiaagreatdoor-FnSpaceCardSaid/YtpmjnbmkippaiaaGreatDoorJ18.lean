import Derived.Test.YtpmjnbmkippaiaaGreatDoorJ17
import Derived.WalkMore
import Derived.Conc.SmallLaws
import Derived.Lib.SlBytesConst
set_option maxRecDepth 100000
set_option maxHeartbeats 16000000
set_option linter.unusedVariables false
set_option linter.unusedSimpArgs false
namespace Go.Proofs.YtpmjnbmkippaiaaGreatDoor
open Go.RowKit Go.Shelf
def X0:Qm:=⟨1,0,0,23,(C0:Int)⟩
def Z5:Qm:=⟨0,0,0,0,0⟩
def Qz (S:Int) (sn:Nat):List Int:=I1 (IZ S (sn:Int))
def jl (S:Int) (sn:Nat):By:=⟨0,X0,0,[Yx],0,0,Qz S sn,[]⟩
theorem jk (n:Nat):blk (I1 n) 0=zeros 64:=by
 unfold blk I1;rw [Xg,XR,ZO,ZO,SC (Xl 64)]
theorem jj (n:Nat):blk (I1 n) 1=L5:=by
 unfold blk I1;rw [Uw,ZO,ZO,List.drop_left' (Xl 64),SC UI]
theorem qz (n a:Nat) (ha:151≤a):(I1 n).drop a=zeros (n*64 - a):=by
 unfold I1;have e:(zeros 64++L5++I0).length=151:=by simp only [ZZ,Xl,UI,Tu]
 rw [Tc,XS (by rw [e];exact ha),e];unfold zeros;rw [List.drop_replicate,Zd,show n*64 - 151 - (a - 151)=n*64 - a by omega]
theorem AQ (n a m:Nat) (ha:151≤a) (hm:a+m≤n*64):((I1 n).drop a).take m=zeros m:=by
 rw [qz n a ha];unfold zeros;rw [List.take_replicate,YC (by omega)]
theorem mj (n m:Nat) (h:23≤m):(((I1 n).drop 128).take m).take 23=I0:=by
 unfold I1;have e:(zeros 64++L5).length=128:=by simp only [ZZ,Xl,UI]
 rw [ZO (zeros 64++L5),List.drop_left' e,U6,YC h,SC Tu]
theorem mi (n:Nat):Sn (I1 n):=by
 intro x hx;unfold I1 zeros at hx
 simp only [Y4,List.mem_replicate] at hx
 have hs:∀x ∈ L5,0≤x∧x<256:=by
  have:L5.all (fun x=>decide (0≤x∧x<256))=true:=by decide +kernel
  intro x hx
  simpa using Yw.1 this x hx
 rcases hx with ((⟨-,rfl⟩ | hx) | hx) | ⟨-,rfl⟩
 · decide
 · exact hs x hx
 · exact uX x hx
 decide
theorem ji (S:Int):Id S (zeros 64)=false:=by
 have:decide (OB (zeros 64))=false:=by decide +kernel
 unfold Id;rw [this];rfl
theorem jh {S:Int} (hS:1≤S):Id S L5=true:=by
 have h:decide (OB L5)=true:=by decide +kernel
 have hl:nL L5=23:=by decide +kernel
 unfold Id;rw [h,hl];simp;omega
theorem jg:rU L5=X0:=by
 have h1:nG L5=1:=by decide +kernel
 have h2:nB L5=0:=by decide +kernel
 have h3:nS L5=0:=by decide +kernel
 have h4:nL L5=23:=by decide +kernel
 have h5:nC L5=(C0:Int):=by decide +kernel
 unfold rU X0;rw [h1,h2,h3,h4,h5]
theorem jf:FX I0=some [Yx]:=by kernel_rfl
theorem eU:p9 I0 (C0:Int)=some [Yx]:=by
 unfold p9;rw [Z0 (by rfl),jf]
theorem NV {S:Int} {sn:Nat} (hc:Wp S (sn:Int)=true):KN S (sn:Int) (Qz S sn).length []=true:=by
 obtain ⟨h1,h2,h3⟩:=Mz hc;unfold Qz;rw [LB _ (by omega)];refine (RK _ _ _ _).2 ⟨hc,(Su _ _).2 ⟨by omega,by omega,by omega,by simp,fun i hi=>by simp at hi⟩,by omega⟩
theorem MZ {S:Int} {sn:Nat} (hc:Wp S (sn:Int)=true):MT (Qz S sn) []=Qz S sn:=by
 obtain ⟨-,hv,-⟩:=(RK _ _ _ _).1 (NV hc);unfold MT;rw [Z0 hv];rfl
theorem yR {S:Int} {sn:Nat} (hc:Wp S (sn:Int)=true):eV (Qz S sn) [] S sn (Qz S sn).length (-1):=by
 obtain ⟨h1,h2,h3⟩:=Mz hc;refine ⟨NV hc,by simp,by rw [MZ hc];exact mi _,by rw [MZ hc],?_,by decide⟩;unfold Qz;rw [LB _ (by omega)];omega
theorem mh {S:Int} {sn:Nat} (hc:Wp S (sn:Int)=true):gV (Qz S sn) [] S (sn:Int) 0 true=zeros (sn*64):=by
 obtain ⟨h1,h2,h3⟩:=Mz hc;obtain ⟨⟨hS1,hS2⟩,hL1,hL2⟩:=(Xk S sn).1 hc;rw [Bu (NV hc) (by decide),MZ hc,Ze];unfold Me Qz;refine AQ _ _ _ ?_ ?_ <;> unfold Ry <;> simp <;> omega
theorem Ei (f:Int) (l:List Int):∀(n b:Nat),QS f l l b n=[]
 | 0,b=>rfl
 | n+1,b=>by rw [QS,Z0 rfl,Ei f l n (b+1)];rfl
structure Rf (w W:World) (b g N C Z:Nat) (vd:Value) (D:List Int):Prop where
 WC:Zi w W
 dk:Own .u8 5 W w.heap.size vd D
 pw:W.heap[Z]?=some (.cells #[.int .i64 0,.slice none 0 0] 132 (0,0))
 ZA:w.heap.size≤Z
 ct:Own .u8 5 W w.heap.size (.slice (some ⟨g,0,none⟩) N C) D
 tab:PJ W
 lo:w.heap.size≤b
 b0:0<b
 ne1:vd.ownBlock≠some b
 Zx:Z≠b
 Zv:g≠b
theorem Rf.tw {w W W':World} {b g N C Z:Nat} {vd:Value} {D:List Int} (h:Rf w W b g N C Z vd D) (t:Tw W b none W' none) (hz:0<W.heap.size):Rf w W' b g N C Z vd D:=by
 refine ⟨h.WC.trans (t.below h.WC.size (by have:=h.lo;omega) (fun g e=>by cases e)),?_,?_,h.ZA,?_,?_,h.lo,h.b0,h.ne1,h.Zx,h.Zv⟩
 · exact h.dk.LS t.LS (fun q e=>by cases e;exact h.ne1)
 · exact (t.block Z (Z3.mp h.pw).1 h.Zx (by simp)).trans h.pw
 · exact h.ct.LS t.LS (fun q e=>by cases e;simpa [Value.ownBlock] using h.Zv)
 intro i hi;have hb:=h.b0;exact (ZP (w:=W) (a:=⟨0,i,none⟩) (t.block 0 hz (by omega) (by simp))).trans (h.tab i hi)
def iy (w:World) (b g N C Z:Nat) (vd:Value) (S:Int) (sn:Nat) (n:Int) (W:World):Prop :=
 Rf w W b g N C Z vd (Qz S sn) ∧
 ((n=0∧St W b (Ow S (sn:Int) vd (.slice (some ⟨Z,0,none⟩) 0 1) (-1) 0 (.slice (some ⟨g,0,none⟩) N C) false Z5 false Z5 0 (.slice none 0 0) 0 0 0)) ∨
 (n=1∧St W b (Ow S (sn:Int) vd (.slice (some ⟨Z,0,none⟩) 0 1) (-1) 0 (.slice (some ⟨g,0,none⟩) N C) true X0 false Z5 0 (.slice none 0 0) 0 0 0)) ∨
 ((n=3∨n=6)∧∃ta tc,St W b (Ow S (sn:Int) vd (.slice (some ⟨Z,0,none⟩) 0 1) (-1) 0 (.slice (some ⟨g,0,none⟩) N C) true X0 false Z5 0 (.slice ta 1 tc) 0 0 0)∧XU 147 W w.heap.size (.slice ta 1 tc) [Yx]∧Value.ownBlock (.slice ta 1 tc)≠some b))
def Cn (w:World) (b g N C Z:Nat) (vd:Value) (S:Int) (sn:Nat) (n:Int) (e:Ending) (w':World):Prop :=
 ∃n',e=.returned (.int .i64 n')∧n<n'∧n'≤6∧iy w b g N C Z vd S sn n' w'
def Cm (w:World) (S:Int) (sn:Nat) (e:Ending) (w':World):Prop :=
 ∃vt v1 Z,e=.returned (.agg (qb (jl S sn) vt v1 (.slice (some ⟨Z,0,none⟩) 0 1)))∧XU 147 w' w.heap.size vt [Yx]∧Own .u8 5 w' w.heap.size v1 (Qz S sn)∧w.heap.size≤Z∧w'.heap[Z]?=some (.cells #[.int .i64 0,.slice none 0 0] 132 (0,0))∧Zi w w'
section
variable {w W:World} {b g N C Z:Nat} {vd:Value} {S:Int} {sn:Nat}
theorem qy (hc:Wp S (sn:Int)=true) (hN:(Qz S sn).length=N) (h:Rf w W b g N C Z vd (Qz S sn))
    (hs:St W b (Ow S (sn:Int) vd (.slice (some ⟨Z,0,none⟩) 0 1) (-1) 0 (.slice (some ⟨g,0,none⟩) N C) false Z5 false Z5 0 (.slice none 0 0) 0 0 0)) :
    Calls Tryz.prog 39 #[.pointer (some ⟨b,0,none⟩)] W (Cn w b g N C Z vd S sn 0):=by
 have H:=yR hc;rw [hN] at H;obtain ⟨-,wK,tG,hS,hs1,hs2⟩:=H.facts;have hr:=h.ct.rd;have hl:=H.len;have hb:=H.eB;rw [MZ hc] at hl hb;refine (wH W b g N C S sn vd _ (-1) 0 _ false _ false _ 0 _ 0 0 0 (Qz S sn) rfl hs hr hb hl H.n9 tG hS).mono ?_;have e0:blk (Qz S sn) 0=zeros 64:=jk _;have e1:blk (Qz S sn) 1=L5:=jj _;rw [e0,e1,ji,jh hS.1,nT (ji S),rO (jh hS.1),jg];rintro e w' ⟨xg,x,yg,y,rfl,s',t',⟨h1,-⟩ | ⟨-,rfl,rfl,rfl,rfl⟩⟩
 · exact absurd (show (0:Int)<1 by decide) h1
 exact ⟨1,by simp,by omega,by omega,h.tw t' (Ue (Zu _) hs.lt),.inr (.inl ⟨rfl,s'⟩)⟩
theorem mg (hc:Wp S (sn:Int)=true) (hN:(Qz S sn).length=N) (h:Rf w W b g N C Z vd (Qz S sn))
    (hs:St W b (Ow S (sn:Int) vd (.slice (some ⟨Z,0,none⟩) 0 1) (-1) 0 (.slice (some ⟨g,0,none⟩) N C) true X0 false Z5 0 (.slice none 0 0) 0 0 0)) :
    Calls Tryz.prog 40 #[.pointer (some ⟨b,0,none⟩)] W (Cn w b g N C Z vd S sn 1):=by
 have H:=yR hc;rw [hN] at H;obtain ⟨-,wK,tG,hS,hs1,hs2⟩:=H.facts;have hl:=H.len;have hb:=H.eB;have hK:=Mz hc;rw [MZ hc] at hl hb;have hz:=Ue (Zu _) hs.lt;have hct:∀W',Tw W b none W' none→Rd .u8 W' (.slice (some ⟨g,0,none⟩) N C) (Qz S sn):=fun W' t=>by
  exact (h.tw t hz).ct.rd
 have lM:N≤C∧C≤maxLen:=by
  obtain ⟨a8,c8,h8,h7,h6⟩:=(hct W (Tw.refl W b none)).len
  simp only [ZC] at h8
  obtain ⟨-,h5,rfl⟩:=h8;omega
 have Zt:N=IZ S (sn:Int)*64:=by rw [←hN];exact LB _ (by omega)
 have ef:(Ry S (sn:Int) 0 true).toNat=2+S.toNat:=by unfold Ry;simp;omega
 refine (Ej W b g N C S sn vd _ (-1) 0 _ true X0 false Z5 0 _ 0 0 0 (Qz S sn) hs rfl hct hb hl H.n9 hc wK h.tab h.b0 [Yx] ?_ [Yx] 0 0 0 ?_ (by decide) (by show (0:Int)≤23∧(23:Int)≤S*64;omega)).mono ?_
 · have e:(Ry S (sn:Int) X0.b false).toNat=2:=by show (Ry S (sn:Int) 0 false).toNat=2;unfold Ry;simp
   rw [e];show p9 ((((I1 (IZ S (sn:Int))).drop 128).take (S.toNat*64)).take 23) (C0:Int)=_;rw [mj _ _ (by omega)];exact eU
 · intro W' ta tc hT hR hs'
   refine GZ W' b g N C S sn 0 0 ta tc [Yx] (Qz S sn) [Yx] 0 0 0 (fun W2 hb2=>?_) (hs'.cl 0 _ rfl) (hs'.cl 1 _ rfl) (hs'.cl 6 _ rfl) hs'.lt (hct W' hT) hb hl H.n9 hc wK (by decide);have hr2:=(hct W' hT).below hb2;have hcell:=Rd.part hr2 hl ((Ry S (sn:Int) 0 true).toNat*64) ((sn:Int).toNat*64) (by rw [ef,Ze];omega);refine Ek W2 ta tc [Yx] g _ _ _ (hR.below hb2) Nf ?_ (by rw [Ze];omega) (by rw [ef,Ze];omega) (by omega) (by rw [Ze];omega);obtain ⟨a8,c8,e8,-,-,h3⟩:=hcell
   simp only [ZC] at e8
   have hz0:(((Qz S sn).drop ((Ry S (sn:Int) 0 true).toNat*64)).take ((sn:Int).toNat*64))=zeros ((sn:Int).toNat*64):=by
    unfold Qz;exact AQ _ _ _ (by rw [ef];omega) (by rw [ef,Ze];omega)
   rw [hz0] at h3
   rcases h3 with h3 | ⟨b9,o9,e9,-,h3⟩
   · have:=ZM List.length h3
     rw [Xl,Ze] at this
     simp at this;omega
   rw [←e8.1] at e9;have h4:=h3 0 (by rw [Xl,Ze];omega)
   simp only [ZK,Ym,VB] at e9
   rw [←e9.1,←e9.2] at h4
   simp only [Yj,Za] at h4
   rw [h4];have:0<sn*64:=by omega
   simp [zeros,List.getD,this]
 rintro e w' ⟨t',va,GI,rfl,s',o'⟩;refine ⟨3,rfl,by omega,by omega,h.tw t' hz,.inr (.inr ⟨.inl rfl,va,GI,s',XU.mono o' (by have:=h.lo;have:=hs.lt;omega),?_⟩)⟩;intro e;have:=(ZT o' b e).1;have:=hs.lt;omega
theorem mf (hc:Wp S (sn:Int)=true) (hN:(Qz S sn).length=N) (h:Rf w W b g N C Z vd (Qz S sn)) {ta:Option Addr} {tc:Nat}
    (hs:St W b (Ow S (sn:Int) vd (.slice (some ⟨Z,0,none⟩) 0 1) (-1) 0 (.slice (some ⟨g,0,none⟩) N C) true X0 false Z5 0 (.slice ta 1 tc) 0 0 0)) (hn:XU 147 W w.heap.size (.slice ta 1 tc) [Yx]) (hne:Value.ownBlock (.slice ta 1 tc)≠some b) :
    Calls Tryz.prog 42 #[.pointer (some ⟨b,0,none⟩)] W (Cn w b g N C Z vd S sn 3):=by
 have H:=yR hc;rw [hN] at H;obtain ⟨-,wK,tG,hS,hs1,hs2⟩:=H.facts;have hl:=H.len;rw [MZ hc] at hl;have hK:=Mz hc;have Zt:N=IZ S (sn:Int)*64:=by rw [←hN];exact LB _ (by omega)
 have ef:Ry S (sn:Int) 0 true=((2+S.toNat:Nat):Int):=by unfold Ry;simp;omega
 have Z2:=mh hc;rw [Bu (NV hc) (by decide),MZ hc,Ze,ef,Ze] at Z2;refine (JI W b (fun W2 hb2=>?_)).mono ?_
 · have Zr:=hs.below hb2
   have h9:=Fz W2 b g N C (2+S.toNat) S sn vd _ (-1) 0 _ true X0 false Z5 0 _ 0 0 0 (Qz S sn) Zr rfl (h.ct.below hb2).rd hl H.n9 hc (by decide) ef (by omega) (by omega) hs2 (by omega);rw [Z2] at h9;have e9:Nq (zeros (sn*64)) 0=zeros (sn*64):=by unfold Nq;simp [Xl]
   rw [e9,Ei] at h9;exact h9
 rintro e w' ⟨rfl,b'⟩;have t':Tw W b none w' none:=Tw.YZ b' _ _;exact ⟨6,rfl,by omega,by omega,h.tw t' (Ue (Zu _) hs.lt),.inr (.inr ⟨.inr rfl,ta,tc,hs.below b',hn.below b',hne⟩)⟩
theorem me {n:Int} (h:iy w b g N C Z vd S sn n W) (h4:4≤n) :
    n=6∧Calls Tryz.prog 43 #[.pointer (some ⟨b,0,none⟩),.int .i64 6] W (Cm w S sn):=by
 obtain ⟨hr,h⟩:=h
 rcases h with ⟨rfl,-⟩ | ⟨rfl,-⟩ | ⟨hn,ta,tc,hs,ho,hne⟩
 iterate 2 omega
 refine ⟨by omega,?_⟩;obtain ⟨a,c,rfl⟩:=hr.dk.slice;refine (Af _ _ _ _ _ _ _ _ _ _ _ _ _ _ _ _ _ _ _ _ _ _ _ _ hs).mono ?_;rintro e w' ⟨rfl,b'⟩;exact ⟨_,_,Z,rfl,ho.below b',hr.dk.below b',hr.ZA,(b'.block Z (Z3.mp hr.pw).1).trans hr.pw,hr.WC.trans (b'.mono hr.WC.size)⟩
end
theorem Eh (w:World) (v1:Value) (S:Int) (sn:Nat) (YN:List Int) (RES:By) (M:YN=Qz S sn) (ZV:RES=jl S sn) (hcf:Wp S (sn:Int)=true) (hd:Rd .u8 w v1 YN) (htab:PJ w) (h0:0<w.heap.size) :
    Calls Tryz.prog 19 #[.agg #[v1,.slice none 0 0],.agg #[.int .i64 S,.int .i64 (sn:Int)],.int .i64 (-1)] w (Cm w S sn):=by
 obtain ⟨ao,ca,rfl,-⟩:=hd.len;have hp:J8 w (.slice none 0 0) []:=⟨none,0,rfl,YR,by decide,.inl rfl⟩;have hfit:KN S (sn:Int) YN.length []=true:=by rw [M];exact NV hcf
 have hdl:YN.length≤1048576:=by rw [M];exact (yR hcf).n9
 have Lm:∀i,(pD ([]:List (Int × List Int)) i).length≤1048576:=fun i=>by simp [pD]
 obtain ⟨-,hv,hdz⟩:=(RK S sn YN.length []).1 hfit;have lE:=ZU hcf;have S0:Hid (yx w (.slice ao YN.length ca) (.slice none 0 0) S (sn:Int) (((w.alloc (.cells #[.slice ao YN.length ca,.slice none 0 0] 52)).alloc (.cells #[.int .i64 S,.int .i64 (sn:Int)] 25)).alloc (.cells #[.int .i64 0,.int .i64 0,.int .i64 0,.int .i64 0,.int .i64 0,.int .i64 0,.int .i64 0,.slice none 0 0,.int .i64 0,.int .i64 0,.slice none 0 0,.slice none 0 0] 65))):=yx.new _ _ _ _ _;have HF:Hid (∀W,Zi w W→Calls Tryz.prog 36 #[.agg #[.slice ao YN.length ca,.slice none 0 0],.agg #[.int .i64 S,.int .i64 (sn:Int)]] W (Wj W (.bool true))):=by
  intro W hW;have h9:=Ox W ao none YN.length ca 0 0 [] S sn (hp.below hW) rfl hdl (Zu _) Lm;rw [hfit] at h9;exact h9
 have hsy:MT YN []=YN:=by rw [M];exact MZ hcf
 have Zo:Hid (∀W,Zi w W→Calls Tryz.prog 37 #[.agg #[.slice ao YN.length ca,.slice none 0 0]] W fun e w'=>∃a c g,e=.returned (.agg #[.slice a YN.length c,.slice (some ⟨g,0,none⟩) 0 1])∧Own .u8 5 w' W.heap.size (.slice a YN.length c) YN∧W.heap.size≤g∧w'.heap[g]?=some (.cells #[.int .i64 0,.slice none 0 0] 132 (0,0))∧Zi W w'):=fun W hW=>GY W ao YN.length ca YN (hd.below hW) rfl hdl
 have G:Hid (∀W,Zi w W→Calls Tryz.prog 38 #[.agg #[.slice ao YN.length ca,.slice none 0 0]] W fun e w'=>∃u,e=.returned u∧Own .u8 5 w' W.heap.size u YN∧Zi W w'):=fun W hW=>by
  have h9:=Md W _ _ YN [] (hd.below hW) (hp.below hW) hdl (by simp) Lm;rw [hsy] at h9;exact h9
 have eP:¬(1936:Int)<(0:Int):=by omega
 obtain ⟨⟨hS1,hS2⟩,hL1,hL2⟩:=(Xk S sn).1 hcf;have hpos:0<YN.length:=by omega
 have vP:=ZU ZV;have Zm:=ZU htab;have U:=ZU M;clear ZV hd hp Lm htab hv hfit hdz hcf M
 go_enter Tryz.func19,Tryz.ntmps19
 go_wp2_with fail
 refine wp_scope_straight ?_
 go_wp2_with fail
 generalize ((w.alloc _).alloc _).alloc _=w0 at *;refine (HF.out _ S0.out.WC).mono ?_;rintro e w1 ⟨rfl,b1⟩;have S1:=ZU (S0.out.below b1);clear b1 S0 HF;have q1:=S1.out.d1
 go_wp2_with fail
 clear q1;have Zl:=ZU (S1.out.below (below_drewN' w1 1));refine ZX (S:=yx w (.slice ao YN.length ca) (.slice none 0 0) S (sn:Int)) (by kernel_rfl) (Zl.out) (fun Z9=>?_);refine Zf (.agg #[.int .i64 S,.int .i64 (sn:Int)]) (by kernel_rfl) (fun _=>id) Z9 ?_ ?_
 · intro w9 ZQ;obtain ⟨-,-,d0,d1,c0,c1,-⟩:=ZQ;go_simp
 refine Zf (.agg #[.slice ao YN.length ca,.slice none 0 0]) (by kernel_rfl) (fun _=>id) Z9 ?_ ?_
 · intro w9 ZQ;obtain ⟨-,-,d0,d1,c0,c1,-⟩:=ZQ;go_simp
 refine Yp 3 (.int .i64 (-1)) rfl (by kernel_rfl) (fun _=>id) Z9 ?hy3 ?_
 case hy3=>intro w9 ZQ;obtain ⟨-,-,d0,d1,c0,c1,-⟩:=ZQ;go_simp
 refine Yp 5 (.agg #[.slice ao YN.length ca,.slice none 0 0]) rfl (by kernel_rfl) (fun _=>id) Z9 ?hy4 ?_
 case hy4=>intro w9 ZQ;obtain ⟨-,-,d0,d1,c0,c1,-⟩:=ZQ;go_simp
 refine YS 2 rfl (by kernel_rfl) (fun K hK=>?_);go_simp;refine (Zo.out _ Z9.WC).mono ?_;rintro e w3 ⟨da,dc,Z,rfl,o3,Zk,Zj,b3⟩;have hN:=Z9.below b3;have B3:=ZU ((below_drewN' w1 1).trans (b3.mono YR));have D3:Hid (Own .u8 5 w3 w1.heap.size (.slice da YN.length dc) YN):=o3;have Z':Hid (w3.heap[Z]?=some (.cells #[.int .i64 0,.slice none 0 0] 132 (0,0))∧w1.heap.size≤Z):=⟨Zj,Zk⟩;clear o3 b3 Zk Zj;refine hK.out _ _ hN (fun YA=>?_);clear hK K Z9;have Z9:=YA;clear YA;refine Yp 4 (.agg #[.slice da YN.length dc,.slice (some ⟨Z,0,none⟩) 0 1,.int .i64 (-1),.int .i64 0]) rfl (by kernel_rfl) (fun _=>id) Z9 ?DN ?_
 case DN=>intro w9 ZQ;obtain ⟨-,-,d0,d1,c0,c1,-⟩:=ZQ;go_simp
 refine YS 6 rfl (by kernel_rfl) (fun K hK=>?_);go_simp;refine (G.out _ Z9.WC).mono ?_;rintro e w4 ⟨u4,rfl,o4,b4⟩;obtain ⟨cg,C,rfl,Zh,Zg⟩:=o4.pos rfl hpos;have hN:=Z9.below b4;have s3:=B3.out.size;have B4:=ZU (B3.out.trans (b4.mono s3));have C4:=ZU (o4.mono s3);have D4:=ZU (Own.below D3.out b4);have E:Hid (w4.heap[Z]?=some (.cells #[.int .i64 0,.slice none 0 0] 132 (0,0))∧w1.heap.size≤Z∧Z<w4.heap.size):=by
  have l9:=(Z3.mp Z'.out.1).1;exact ⟨(b4.block Z l9).trans Z'.out.1,Z'.out.2,ZY l9 b4.size⟩
 clear o4 b4 B3 D3 Z';refine hK.out _ _ hN (fun YA=>?_);clear hK K Z9;have Z9:=YA;clear YA;refine Zf (.agg #[.int .i64 S,.int .i64 (sn:Int),.slice da YN.length dc,.slice (some ⟨Z,0,none⟩) 0 1,.int .i64 (-1),.int .i64 0,.slice (some ⟨cg,0,none⟩) YN.length C,.bool false,.int .i64 0,.int .i64 0,.int .i64 0,.int .i64 0,.int .i64 0,.bool false,.int .i64 0,.int .i64 0,.int .i64 0,.int .i64 0,.int .i64 0,.int .i64 0,.slice none 0 0,.int .i64 0,.int .i64 0,.int .i64 0]) (by kernel_rfl) (fun _=>id) Z9 ?_ ?_
 · intro w9 ZQ;obtain ⟨-,-,d0,d1,c0,c1,-⟩:=ZQ;go_simp
 refine YS 8 rfl (by kernel_rfl) (fun K hK=>?_);have bA:Zi w4 (w4.alloc (.cells #[.int .i64 S,.int .i64 (sn:Int),.slice da YN.length dc,.slice (some ⟨Z,0,none⟩) 0 1,.int .i64 (-1),.int .i64 0,.slice (some ⟨cg,0,none⟩) YN.length C,.bool false,.int .i64 0,.int .i64 0,.int .i64 0,.int .i64 0,.int .i64 0,.bool false,.int .i64 0,.int .i64 0,.int .i64 0,.int .i64 0,.int .i64 0,.int .i64 0,.slice none 0 0,.int .i64 0,.int .i64 0,.int .i64 0] 101)):=Yy.alloc YR _;have hN:=Z9.below bA;have s4:=B4.out.size;have s5:w4.heap.size<(w4.alloc (.cells #[.int .i64 S,.int .i64 (sn:Int),.slice da YN.length dc,.slice (some ⟨Z,0,none⟩) 0 1,.int .i64 (-1),.int .i64 0,.slice (some ⟨cg,0,none⟩) YN.length C,.bool false,.int .i64 0,.int .i64 0,.int .i64 0,.int .i64 0,.int .i64 0,.bool false,.int .i64 0,.int .i64 0,.int .i64 0,.int .i64 0,.int .i64 0,.int .i64 0,.slice none 0 0,.int .i64 0,.int .i64 0,.int .i64 0] 101)).heap.size:=by simp
 have Zc:Hid (iy w1 w4.heap.size cg YN.length C Z (.slice da YN.length dc) S sn 0 (w4.alloc (.cells #[.int .i64 S,.int .i64 (sn:Int),.slice da YN.length dc,.slice (some ⟨Z,0,none⟩) 0 1,.int .i64 (-1),.int .i64 0,.slice (some ⟨cg,0,none⟩) YN.length C,.bool false,.int .i64 0,.int .i64 0,.int .i64 0,.int .i64 0,.int .i64 0,.bool false,.int .i64 0,.int .i64 0,.int .i64 0,.int .i64 0,.int .i64 0,.int .i64 0,.slice none 0 0,.int .i64 0,.int .i64 0,.int .i64 0] 101))):=by
  have hs:St (w4.alloc (.cells #[.int .i64 S,.int .i64 (sn:Int),.slice da YN.length dc,.slice (some ⟨Z,0,none⟩) 0 1,.int .i64 (-1),.int .i64 0,.slice (some ⟨cg,0,none⟩) YN.length C,.bool false,.int .i64 0,.int .i64 0,.int .i64 0,.int .i64 0,.int .i64 0,.bool false,.int .i64 0,.int .i64 0,.int .i64 0,.int .i64 0,.int .i64 0,.int .i64 0,.slice none 0 0,.int .i64 0,.int .i64 0,.int .i64 0] 101)) w4.heap.size (Ow S (sn:Int) (.slice da YN.length dc) (.slice (some ⟨Z,0,none⟩) 0 1) (-1) 0 (.slice (some ⟨cg,0,none⟩) YN.length C) false Z5 false Z5 0 (.slice none 0 0) 0 0 0):=St.new w4 _ _;have bW:=B4.out.trans (bA.mono s4);have hz1:=S1.out.lt;have Zb:=Zm.out.below h0 (S1.out.WC.trans (bW.mono S1.out.WC.size));have IH:∀v:Value,(∀g,v.ownBlock=some g→g<w4.heap.size)→v.ownBlock≠some w4.heap.size:=fun v h e=>by have:=h _ e;omega
  refine ⟨?_,.inl ⟨rfl,hs⟩⟩;rw [←U.out];exact ⟨bW,Own.below D4.out bA,(bA.block Z E.out.2.2).trans E.out.1,E.out.2.1,Own.below C4.out bA,Zb,s4,by omega,IH _ (fun g hg=>(ZT D4.out g hg).2),by have:=E.out.2.2;omega,by omega⟩
 clear bA;go_simp;refine hK.out _ _ hN (fun YA=>?_);clear hK K Z9;have Z9:=YA;clear YA;refine Zf (.pointer (some ⟨w4.heap.size,0,none⟩)) (by kernel_rfl) (fun _=>id) Z9 ?Yu ?_
 case Yu =>
  intro w9 ZQ;clear ZQ;go_simp
 refine ZR (by kernel_rfl) ?_ _
 try simp only [Act.put,WV,WU,WT]
 have S5:Hid (yx w (.slice ao YN.length ca) (.slice none 0 0) S (sn:Int) (w4.alloc (.cells #[.int .i64 S,.int .i64 (sn:Int),.slice da YN.length dc,.slice (some ⟨Z,0,none⟩) 0 1,.int .i64 (-1),.int .i64 0,.slice (some ⟨cg,0,none⟩) YN.length C,.bool false,.int .i64 0,.int .i64 0,.int .i64 0,.int .i64 0,.int .i64 0,.bool false,.int .i64 0,.int .i64 0,.int .i64 0,.int .i64 0,.int .i64 0,.int .i64 0,.slice none 0 0,.int .i64 0,.int .i64 0,.int .i64 0] 101))):=Z9;clear Z9 hN Zo G Zl B4 C4 D4 E Zm Zh Zg;generalize w4.alloc _=w5 at *;generalize hrb:w4.heap.size=rb at *;clear hrb;have hz1:=S1.out.lt;go_wp2;refine wp_label ?_;go_wp2
 go_loopw [8] (fun vn wr=>∃n:Int,vn=.int .i64 n∧0≤n∧n≤6∧Hid (iy w1 rb cg YN.length C Z (.slice da YN.length dc) S sn n wr)) (fun vn _=>(7 - intOf vn).toNat)
 case atStart=>exact ⟨0,rfl,by omega,by omega,Zc⟩
 case round =>
  clear Zc S5;obtain ⟨n,rfl,hn0,Yi,RV⟩:=hrel
  by_cases h4:n<4
  · rcases RV.out with ⟨p1,⟨rfl,p2⟩ | ⟨rfl,p2⟩ | ⟨rfl | rfl,ta,tc,p2,p3,p4⟩⟩
    · have HC:=ZU (qy lE.out (by rw [U.out]) p1 p2)
      clear RV
      go_wp2_with fail
      refine HC.out.mono ?_;rintro e w7 ⟨n',rfl,q1,q2,r7⟩;have R7:=ZU r7;clear HC r7;go_wp2
      go_roundw
      case rel=>exact ⟨n',rfl,by omega,q2,R7⟩
      case measure=>simp [intOf];omega
    · have HC:=ZU (mg lE.out (by rw [U.out]) p1 p2)
      clear RV
      go_wp2_with fail
      refine HC.out.mono ?_;rintro e w7 ⟨n',rfl,q1,q2,r7⟩;have R7:=ZU r7;clear HC r7;go_wp2
      go_roundw
      case rel=>exact ⟨n',rfl,by omega,q2,R7⟩
      case measure=>simp [intOf];omega
    · have HC:=ZU (mf lE.out (by rw [U.out]) p1 p2 p3 p4)
      clear RV
      go_wp2_with fail
      refine HC.out.mono ?_;rintro e w7 ⟨n',rfl,q1,q2,r7⟩;have R7:=ZU r7;clear HC r7;go_wp2
      go_roundw
      case rel=>exact ⟨n',rfl,by omega,q2,R7⟩
      case measure=>simp [intOf];omega
    omega
  have e0:(n == 0)=false:=by rw [YH];omega
  have e1:(n == 1)=false:=by rw [YH];omega
  have e2:(n == 2)=false:=by rw [YH];omega
  have e3:(n == 3)=false:=by rw [YH];omega
  obtain ⟨h6,hE⟩:=me RV.out (by omega);have HE:=ZU hE;clear hE RV;subst h6
  go_wp2_with fail
  clear e0 e1 e2 e3;refine HE.out.mono ?_;rintro e w7 ⟨vt,x1,I,rfl,o7,d7,Yg,Ys,b7⟩;obtain ⟨xa,xc,rfl⟩:=d7.slice;obtain ⟨ta,tc,Y'⟩:=XU.QU o7;have Y8:vt=.slice ta 1 tc:=Y';clear Y';subst Y8;rw [←vP.out];rw [←U.out] at d7 ⊢;have X7:=D8.below S1.out.rx b7;have FIN:Hid (Cm w S sn (.returned (.agg (qb RES (.slice ta 1 tc) (.slice xa YN.length xc) (.slice (some ⟨I,0,none⟩) 0 1)))) (Qf w7 (w.heap.size+1+1) RES (.slice ta 1 tc) (.slice xa YN.length xc) (.slice (some ⟨I,0,none⟩) 0 1))):=by
   have gR:w7.grownBy (Qf w7 (w.heap.size+1+1) RES (.slice ta 1 tc) (.slice xa YN.length xc) (.slice (some ⟨I,0,none⟩) 0 1)) (some (w.heap.size+1+1)):=by
    unfold Qf;exact (grownBy_set _ _ (w.heap.size+1+1) 11 (.slice (some ⟨I,0,none⟩) 0 1) (grownBy_set _ _ (w.heap.size+1+1) 10 (.slice xa YN.length xc) (grownBy_set _ _ (w.heap.size+1+1) 9 (.int .i64 RES.ops) (grownBy_set _ _ (w.heap.size+1+1) 8 (.int .i64 RES.used) (grownBy_set _ _ (w.heap.size+1+1) 7 (.slice ta 1 tc) (grownBy_set _ _ (w.heap.size+1+1) 6 (.int .i64 RES.zx) (grownBy_set _ _ (w.heap.size+1+1) 5 (.int .i64 RES.sp.c) (grownBy_set _ _ (w.heap.size+1+1) 4 (.int .i64 RES.sp.l) (grownBy_set _ _ (w.heap.size+1+1) 3 (.int .i64 RES.sp.s) (grownBy_set _ _ (w.heap.size+1+1) 2 (.int .i64 RES.sp.b) (grownBy_set _ _ (w.heap.size+1+1) 1 (.int .i64 RES.sp.g) (grownBy_set _ _ (w.heap.size+1+1) 0 (.int .i64 RES.code) (Zz _ _)))))))))))))
   have hB:=S1.out.WC.trans (b7.mono S1.out.WC.size);refine ⟨_,_,I,by rw [vP.out],XU.mono (Zn o7 gR (.inr (fun e=>by have:=(ZT o7 _ e).1;omega))) (by omega),?_,by omega,(Cp RES _ _ _ (by omega)).trans Ys,hB.grown gR (by have:=hB.size;omega) (fun q e=>by injection e with e;omega)⟩;rw [←U.out];exact Own.mono (Zn d7 gR (.inr (fun e=>by have:=(ZT d7 _ e).1;omega))) (by omega)
  obtain ⟨c0,c1,c2,c3,c4,c5,c6,c7,c8,c9,c10,c11⟩:=X7.cells;dsimp only [om] at c0 c1 c2 c3 c4 c5 c6 c7 c8 c9 c10 c11;have fz:=X7.frozen;have f0:=fz 0;have f1:=fz 1;have f2:=fz 2;have f3:=fz 3;have f4:=fz 4;have f5:=fz 5;have f6:=fz 6;have f7:=fz 7;have f8:=fz 8;have f9:=fz 9;have f10:=fz 10;have f11:=fz 11;obtain ⟨e0,e1,e2,e3,e4,e5,e6,e7,e8,e9,e10,e11⟩:=Cq (r:=RES) (vt:=.slice ta 1 tc) (v1:=.slice xa YN.length xc) (v2:=.slice (some ⟨I,0,none⟩) 0 1) X7;unfold Qf qb at FIN;unfold Qf at e0 e1 e2 e3 e4 e5 e6 e7 e8 e9 e10 e11;unfold qb;clear fz X7 HE o7 d7 b7;go_wp2;generalize ((((((((((((w7).setCell _ _).setCell _ _).setCell _ _).setCell _ _).setCell _ _).setCell _ _).setCell _ _).setCell _ _).setCell _ _).setCell _ _).setCell _ _).setCell _ _=wE at *;unfold Exit.noGoto;dsimp only;exact ZW (v:=.agg #[.int .i64 RES.code,.int .i64 RES.sp.g,.int .i64 RES.sp.b,.int .i64 RES.sp.s,.int .i64 RES.sp.l,.int .i64 RES.sp.c,.int .i64 RES.zx,.slice ta 1 tc,.int .i64 RES.used,.int .i64 RES.ops,.slice xa YN.length xc,.slice (some ⟨I,0,none⟩) 0 1]) (by simp [results,Tryz.results19,go_sem,e0,e1,e2,e3,e4,e5,e6,e7,e8,e9,e10,e11]) rfl FIN.out
def ma (w:World) (base:Nat) (v:Value) (D:List Int) (f l:Nat):Prop:=∃g C,v=.slice (some ⟨g,f*64,none⟩) (l*64) (C - f*64)∧Own .u8 5 w base (.slice (some ⟨g,0,none⟩) D.length C) D∧D.length≤C
theorem Eg (w:World) (ao bo:Option Addr) (dl ca n cb:Nat) (YN:List Int) (ps:List (Int × List Int)) (S L Xc:Int) (log:Bool) (hd:Rd .u8 w (.slice ao dl ca) YN) (hdl:YN.length=dl) (hp:J8 w (.slice bo n cb) ps) (hl:ps.length=n) (hd1:dl≤1048576) (hn:n≤1048576) (Lm:∀i,(pD ps i).length≤1048576)
    (hok:FF S L dl ps Xc=true) :
    Calls Tryz.prog 35 #[.agg #[.slice ao dl ca,.slice bo n cb],.agg #[.int .i64 S,.int .i64 L],.int .i64 Xc,.bool log] w fun e w'=>∃v',e=.returned v'∧ma w' w.heap.size v' (MT YN ps) (Ry S L Xc log).toNat (Jg S L log).toNat∧Zi w w':=by
 have HD:Hid (Rd .u8 w (.slice ao dl ca) YN):=hd;have OO:Hid (YN.length=dl):=hdl;have HP:Hid (J8 w (.slice bo n cb) ps):=hp;have HL:Hid (ps.length=n):=hl;have AE:Hid (∀i,(pD ps i).length≤1048576):=Lm;obtain ⟨f,l,hf,hl',hf2,hl1,hl2,hfl,ur,Yf⟩:=kF (log:=log) hok;have h1:=((Nr ..).1 hok).1;have hb0:=((Nr ..).1 hok).2.1;have hb1:=((Nr ..).1 hok).2.2;have HF:Hid (KN S L dl ps=true):=h1;have HC:Hid (Wp S L=true):=((RK ..).1 h1).1;have HV:Hid (QX dl ps=true):=((RK ..).1 h1).2.1;rw [hf,hl',Ze,Ze];have qT:Hid ((MT YN ps).length=dl):=by show _=_;rw [KM (by rw [OO.out];exact HV.out),OO.out]
 have Pu:Hid ((Me (MT YN ps) f l).length=l*64):=Oe _ _ _ (by rw [qT.out];exact ur);have G:Hid (∀(W:World),RJ w ao bo dl ca n cb S L W→Calls Tryz.prog 38 #[.agg #[.slice ao dl ca,.slice bo n cb]] W fun e w'=>∃g c,e=.returned (.slice (some ⟨g,0,none⟩) dl c)∧Hid (Own .u8 5 w' w.heap.size (.slice (some ⟨g,0,none⟩) dl c) (MT YN ps))∧(dl≤c∧c≤maxLen)∧Zi W w'):=by
  intro W hF;refine (Md W _ _ YN ps (HD.out.below hF.1.out.1) (HP.out.below hF.1.out.1) (by rw [OO.out];exact hd1) (by rw [HL.out];exact hn) AE.out).mono ?_;rintro e w' ⟨u,rfl,o,b⟩;have hlt:=hF.lt
  rcases o.row with ⟨rfl,h0⟩ | ⟨g,c,rfl,hg,h1,h2⟩
  · have:=qT.out;rw [h0] at this;simp at this;omega
  rw [qT.out] at o h1 ⊢;exact ⟨g,c,rfl,o.mono (by omega),⟨h1,h2⟩,b⟩
 have Y5:Hid (∀(W:World) (g c:Nat),Own .u8 5 W w.heap.size (.slice (some ⟨g,0,none⟩) dl c) (MT YN ps)→dl≤c→c≤maxLen→ma W w.heap.size (.slice (some ⟨g,f*64,none⟩) (l*64) (c - f*64)) (MT YN ps) f l):=by
  intro W g c h h1 h2;exact ⟨g,c,rfl,by rw [qT.out];exact h,by rw [qT.out];exact h1⟩
 have Am:Hid (∀W,(log=true→Calls Tryz.prog 79 #[.agg #[.int .i64 S,.int .i64 L],.int .i64 Xc] W (Wj W (.agg #[.int .i64 (f:Int),.int .i64 (l:Int)]))) ∧
     (log=false→Calls Tryz.prog 49 #[.agg #[.int .i64 S,.int .i64 L],.int .i64 Xc] W (Wj W (.agg #[.int .i64 (f:Int),.int .i64 (l:Int)])))):=by
  intro W;rw [←hf,←hl'];exact ⟨fun e=>by subst e;exact RI W S L Xc HC.out ⟨hb0,hb1⟩,fun e=>by subst e;exact Sr W S L Xc HC.out ⟨hb0,hb1⟩⟩
 clear hd hdl hp hl Lm hok h1 hf hl'
 go_enter Tryz.func35,Tryz.ntmps35
 go_wp2_with fail
 have F1:Hid (RJ w ao bo dl ca n cb S L ((w.alloc (.cells #[.slice ao dl ca,.slice bo n cb] 52)).alloc (.cells #[.int .i64 S,.int .i64 L] 25))):=RJ.new _ _ _ _ _ _ _ _ _ _ _;generalize (w.alloc _).alloc _=w1 at *;refine (Ox _ ao bo dl ca n cb ps S L (HP.out.below F1.out.1.out.1) HL.out hd1 hn AE.out).mono ?_;rintro e w2 ⟨rfl,b2⟩;rw [HF.out];have F2:=ZU (F1.out.below b2);clear F1 b2;have t0:¬Xc<0:=by omega
 have Ye:decide (Xc<0)=false:=by simpa using t0
 have t1:¬2≤Xc:=by omega
 have t1d:decide (2≤Xc)=false:=by simpa using t1
 have eI:Hid (∀W,RJ w ao bo dl ca n cb S L W→True):=fun _ _=>trivial
 cases log with
 | true =>
  replace Am:Hid (∀W,Calls Tryz.prog 79 #[.agg #[.int .i64 S,.int .i64 L],.int .i64 Xc] W (Wj W (.agg #[.int .i64 (f:Int),.int .i64 (l:Int)]))):=fun W=>(Am.out W).1 rfl
  go_wp2_with fail
  refine ZX (S:=RJ w ao bo dl ca n cb S L) (by kernel_rfl) (F2.out.below (below_drewN' w2 1)) (fun Z9=>?_)
  iterate 2 (refine Zf ?_ (by kernel_rfl) (fun _=>id) Z9 ?_ ?_;rotate_left;· intro w9 ZQ;obtain ⟨-,k0,k1,k2,k3⟩:=ZQ;go_simp;try with_reducible rfl)
  refine Yp 3 ?v27 rfl (by kernel_rfl) (fun _=>id) Z9 ?hy27 ?_
  case hy27=>intro w9 ZQ;obtain ⟨-,k0,k1,k2,k3⟩:=ZQ;go_simp;try with_reducible rfl
  refine YS 2 rfl (by kernel_rfl) (fun K hK=>?_);go_simp;refine (Am.out _).mono ?_;rintro e w3 ⟨rfl,b3⟩;have F3:Hid (RJ w ao bo dl ca n cb S L w3):=Z9.below b3;clear b3;clear Z9;refine hK.out _ _ (F3.out) (fun Z9=>?_);clear hK K;refine YS 4 rfl (by kernel_rfl) (fun K hK=>?_);go_simp;refine (G.out _ F3.out).mono ?_;rintro e w4 ⟨g4,c4,rfl,O4,hc4,b4⟩;have F4:=ZU (F3.out.below b4);clear b4 F3;clear Z9;refine hK.out _ _ (F4.out) (fun Z9=>?_);clear hK K;refine YS 5 rfl (by kernel_rfl) (fun K hK=>?_);go_simp;refine (QR _ g4 dl c4 f l ur hl1 hc4.1 hd1).mono ?_;rintro e w5 ⟨rfl,b5⟩;have F5:=ZU (F4.out.below b5);have O5:=ZU (O4.out.below b5);clear b5 F4 O4;clear Z9;refine hK.out _ _ (F5.out) (fun Z9=>?_);clear hK K;refine Zf ?_ (by kernel_rfl) (fun _=>id) Z9 ?_ ?_
  rotate_left
  · intro w9 ZQ;obtain ⟨-,k0,k1,k2,k3⟩:=ZQ;go_simp;try with_reducible rfl
  refine ZR (by kernel_rfl) ?_ _
  try simp only [Act.put,WV,WU,WT]
  clear Z9;go_wp2;go_ret;exact ⟨_,rfl,Y5.out _ _ _ O5.out hc4.1 hc4.2,F5.out.1.out.1⟩
 | false =>
  replace Am:Hid (∀W,Calls Tryz.prog 49 #[.agg #[.int .i64 S,.int .i64 L],.int .i64 Xc] W (Wj W (.agg #[.int .i64 (f:Int),.int .i64 (l:Int)]))):=fun W=>(Am.out W).2 rfl
  go_wp2_with fail
  refine ZX (S:=RJ w ao bo dl ca n cb S L) (by kernel_rfl) (F2.out.below (below_drewN' w2 1)) (fun Z9=>?_)
  iterate 2 (refine Zf ?_ (by kernel_rfl) (fun _=>id) Z9 ?_ ?_;rotate_left;· intro w9 ZQ;obtain ⟨-,k0,k1,k2,k3⟩:=ZQ;go_simp;try with_reducible rfl)
  refine Yp 3 ?v31 rfl (by kernel_rfl) (fun _=>id) Z9 ?hy31 ?_
  case hy31=>intro w9 ZQ;obtain ⟨-,k0,k1,k2,k3⟩:=ZQ;go_simp;try with_reducible rfl
  refine YS 2 rfl (by kernel_rfl) (fun K hK=>?_);go_simp;refine (Am.out _).mono ?_;rintro e w3 ⟨rfl,b3⟩;have F3:Hid (RJ w ao bo dl ca n cb S L w3):=Z9.below b3;clear b3;clear Z9;refine hK.out _ _ (F3.out) (fun Z9=>?_);clear hK K;refine YS 4 rfl (by kernel_rfl) (fun K hK=>?_);go_simp;refine (G.out _ F3.out).mono ?_;rintro e w4 ⟨g4,c4,rfl,O4,hc4,b4⟩;have F4:=ZU (F3.out.below b4);clear b4 F3;clear Z9;refine hK.out _ _ (F4.out) (fun Z9=>?_);clear hK K;refine YS 5 rfl (by kernel_rfl) (fun K hK=>?_);go_simp;refine (QR _ g4 dl c4 f l ur hl1 hc4.1 hd1).mono ?_;rintro e w5 ⟨rfl,b5⟩;have F5:=ZU (F4.out.below b5);have O5:=ZU (O4.out.below b5);clear b5 F4 O4;clear Z9;refine hK.out _ _ (F5.out) (fun Z9=>?_);clear hK K;refine Zf ?_ (by kernel_rfl) (fun _=>id) Z9 ?_ ?_
  rotate_left
  · intro w9 ZQ;obtain ⟨-,k0,k1,k2,k3⟩:=ZQ;go_simp;try with_reducible rfl
  refine ZR (by kernel_rfl) ?_ _
  try simp only [Act.put,WV,WU,WT]
  clear Z9;go_wp2;go_ret;exact ⟨_,rfl,Y5.out _ _ _ O5.out hc4.1 hc4.2,F5.out.1.out.1⟩
--@FI
--@IF impl.ZS
end Go.Proofs.YtpmjnbmkippaiaaGreatDoor
namespace Go.Proofs.YtpmjnbmkippaiaaGreatDoor
open Go.RowKit Go.Conc
theorem Own.Ff {w:World} {lo g n m C:Nat} {xs:List Int} (h:Own .u8 5 w lo (.slice (some ⟨g,0,none⟩) n C) xs) (hm:m≤xs.length):Own .u8 5 w 0 (.slice (some ⟨g,0,none⟩) m C) (xs.take m):=by
 refine ⟨by simp,.inr ?_⟩
 rcases h.2 with ⟨h1,-⟩ | ⟨q,cap,cur,e,h1,h2,h3,h4,h5,h6⟩
 · cases h1
 injection e with e1 e2 e3
 injection e1 with e1;injection e1 with e1
 subst e1;subst e3;refine ⟨_,_,cur,by simp [YC hm],Zu _,h2,?_,h4,h5,?_⟩
 · simp only [Zw];omega
 rw [Zw,YC hm,Yr,UD,←h6,U6,Yr,YC hm]
structure Ns (w:World) (sB:Nat) (L R:List Value) (W:World):Prop where
 tw:Tw w sB none W none
 sv:St W sB L
 bx:St W w.heap.size R
theorem Ns.below {w:World} {sB:Nat} {L R:List Value} {W W':World} (h:Ns w sB L R W) (hb:Zi W W'):Ns w sB L R W' :=
 ⟨h.tw.trans (Tw.YZ hb _ _),h.sv.below hb,h.bx.below hb⟩
structure tX (κ:Sc) (σ:Sx) (sB:Nat) (S:Int) (sn:Nat):Prop where
 sB:κ.sB=sB
 S:κ.S=S
 L:κ.L=(sn:Int)
 cap:κ.cap=sn*64 / 9
 X:κ.X=[]
 rt:Rt σ
 Yq:eC σ
 k:σ.k=0
 sn:σ.sn=none
 em:σ.em=false
theorem yQ (w:World) (sB Z:Nat) (S:Int) (sn:Nat) (ta:Option Addr) (tc xl:Nat) (xa:Option Addr) (xc:Nat) (hc:Wp S (sn:Int)=true) (hs:St w sB (Ia (.pointer none) S (sn:Int) (.slice none 0 0) (.slice none 0 0) 0)) (hx:xl=(Qz S sn).length) (hd:Own .u8 5 w (sB+1) (.slice xa xl xc) (Qz S sn)) (ht:XU 147 w (sB+1) (.slice ta 1 tc) [Yx]) (hp:w.heap[Z]?=some (.cells #[.int .i64 0,.slice none 0 0] 132 (0,0))) (hpl:sB<Z) :
    Calls Tryz.prog 18 #[.pointer (some ⟨sB,0,none⟩),.agg #[.int .i64 0,.int .i64 1,.int .i64 0,.int .i64 0,.int .i64 23,.int .i64 (C0:Int),.int .i64 0,.slice ta 1 tc,.int .i64 0,.int .i64 0,.slice xa xl xc,.slice (some ⟨Z,0,none⟩) 0 1]] w fun e w'=>e=.returned (.tuple #[])∧Tw w sB none w' none∧∃ κ σ,Sv κ σ w'∧tX κ σ sB S sn:=by
 have c3:=hs.cl 3 _ rfl;have c4:=hs.cl 4 _ rfl;have f3:=hs.fz 3;have f4:=hs.fz 4;have hlt:=hs.lt;have N1:Hid (Ns w sB (Ia (.pointer none) S (sn:Int) (.slice xa xl xc) (.slice (some ⟨Z,0,none⟩) 0 1) 0) [.int .i64 0,.int .i64 1,.int .i64 0,.int .i64 0,.int .i64 23,.int .i64 (C0:Int),.int .i64 0,.slice ta 1 tc,.int .i64 0,.int .i64 0,.slice xa xl xc,.slice (some ⟨Z,0,none⟩) 0 1] (((w.setCell ⟨sB,3,none⟩ (.slice xa xl xc)).setCell ⟨sB,4,none⟩ (.slice (some ⟨Z,0,none⟩) 0 1)).alloc (.cells #[.int .i64 0,.int .i64 1,.int .i64 0,.int .i64 0,.int .i64 23,.int .i64 (C0:Int),.int .i64 0,.slice ta 1 tc,.int .i64 0,.int .i64 0,.slice xa xl xc,.slice (some ⟨Z,0,none⟩) 0 1] 65))):=by
  have bA:=(Below.refl ((w.setCell ⟨sB,3,none⟩ (.slice xa xl xc)).setCell ⟨sB,4,none⟩ (.slice (some ⟨Z,0,none⟩) 0 1)).heap.size _).alloc YR (.cells #[.int .i64 0,.int .i64 1,.int .i64 0,.int .i64 0,.int .i64 23,.int .i64 (C0:Int),.int .i64 0,.slice ta 1 tc,.int .i64 0,.int .i64 0,.slice xa xl xc,.slice (some ⟨Z,0,none⟩) 0 1] 65);have s9:=St.new ((w.setCell ⟨sB,3,none⟩ (.slice xa xl xc)).setCell ⟨sB,4,none⟩ (.slice (some ⟨Z,0,none⟩) 0 1)) #[.int .i64 0,.int .i64 1,.int .i64 0,.int .i64 0,.int .i64 23,.int .i64 (C0:Int),.int .i64 0,.slice ta 1 tc,.int .i64 0,.int .i64 0,.slice xa xl xc,.slice (some ⟨Z,0,none⟩) 0 1] 65;have z9:((w.setCell ⟨sB,3,none⟩ (.slice xa xl xc)).setCell ⟨sB,4,none⟩ (.slice (some ⟨Z,0,none⟩) 0 1)).heap.size=w.heap.size:=by simp
  rw [z9] at s9;exact ⟨(Tw.refl w sB none).set.set.trans (Tw.YZ bA sB none),((hs.set 3 _).set 4 _).below bA,s9⟩
 have HX:=ZU hx;clear hx
 go_enter Tryz.func18,Tryz.ntmps18
 go_wp2_with fail
 clear c3 c4 f3 f4;generalize ((w.setCell _ _).setCell _ _).alloc _=w1 at *;have N2:Hid (Ns w sB (Ia (.pointer none) S (sn:Int) (.slice xa xl xc) (.slice (some ⟨Z,0,none⟩) 0 1) 0) [.int .i64 0,.int .i64 1,.int .i64 0,.int .i64 0,.int .i64 23,.int .i64 (C0:Int),.int .i64 0,.slice ta 1 tc,.int .i64 0,.int .i64 0,.slice xa xl xc,.slice (some ⟨Z,0,none⟩) 0 1] w1.drew):=N1.out.below (below_drewN' w1 1);clear N1;refine ZX (S:=Ns w sB (Ia (.pointer none) S (sn:Int) (.slice xa xl xc) (.slice (some ⟨Z,0,none⟩) 0 1) 0) [.int .i64 0,.int .i64 1,.int .i64 0,.int .i64 0,.int .i64 23,.int .i64 (C0:Int),.int .i64 0,.slice ta 1 tc,.int .i64 0,.int .i64 0,.slice xa xl xc,.slice (some ⟨Z,0,none⟩) 0 1]) (by kernel_rfl) N2.out (fun Z9=>?_);clear N2;generalize w1.drew=w2 at *
 iterate 7 (refine Zf ?_ (by kernel_rfl) (fun _=>id) Z9 ?_ ?_;rotate_left;· intro w9 ZQ;have k0:=ZQ.sv.cl 6 _ rfl;have k1:=ZQ.bx.cl 9 _ rfl;clear ZQ;go_simp;try with_reducible rfl)
 refine Zf (.int .i64 0) (by kernel_rfl) (fun _=>id) Z9 ?_ ?_
 · intro w9 ZQ;have k0:=ZQ.sv.cl 6 _ rfl;have k1:=ZQ.bx.cl 9 _ rfl;clear ZQ;go_simp;rfl
 iterate 3 (refine Zf ?_ (by kernel_rfl) (fun _=>id) Z9 ?_ ?_;rotate_left;· intro w9 ZQ;have k0:=ZQ.sv.cl 6 _ rfl;have k1:=ZQ.bx.cl 9 _ rfl;clear ZQ;go_simp;try with_reducible rfl)
 refine YS 11 rfl (by kernel_rfl) (fun K hK=>?_);have k6:=Z9.sv.cl 6 _ rfl;have f6:=Z9.sv.fz 6;go_simp;have hN:Ns w sB (Ia (.pointer none) S (sn:Int) (.slice xa xl xc) (.slice (some ⟨Z,0,none⟩) 0 1) 0) [.int .i64 0,.int .i64 1,.int .i64 0,.int .i64 0,.int .i64 23,.int .i64 (C0:Int),.int .i64 0,.slice ta 1 tc,.int .i64 0,.int .i64 0,.slice xa xl xc,.slice (some ⟨Z,0,none⟩) 0 1] (w2.setCell ⟨sB,6,none⟩ (.int .i64 0)):=⟨Z9.tw.set,Z9.sv.set 6 (.int .i64 0),Z9.bx.other (by omega)⟩;refine hK.out _ _ hN (fun YA=>?_);clear hK K YA Z9 k6 f6;have N3:=ZU hN;clear hN;refine ZR (by kernel_rfl) ?_ _
 try simp only [Act.put,WV,WU,WT]
 generalize w2.setCell _ _=w3 at *;have Am:Hid (∀W,Ns w sB (Ia (.pointer none) S (sn:Int) (.slice xa xl xc) (.slice (some ⟨Z,0,none⟩) 0 1) 0) [.int .i64 0,.int .i64 1,.int .i64 0,.int .i64 0,.int .i64 23,.int .i64 (C0:Int),.int .i64 0,.slice ta 1 tc,.int .i64 0,.int .i64 0,.slice xa xl xc,.slice (some ⟨Z,0,none⟩) 0 1] W→Calls Tryz.prog 35 #[.agg #[.slice xa xl xc,.slice (some ⟨Z,0,none⟩) 0 1],.agg #[.int .i64 S,.int .i64 (sn:Int)],.int .i64 0,.bool true] W fun e w'=>∃v',e=.returned v'∧ma w' W.heap.size v' (Qz S sn) (2+S.toNat) sn∧Zi W w'):=fun W hW=>by
  have o9:=hd.LS hW.tw.LS (fun q e=>by cases e;exact fun e9=>by have:=(ZT hd _ e9).1;omega);have tB:=(yR hc).n9;have h9:=Eg W xa (some ⟨Z,0,none⟩) xl xc 0 1 (Qz S sn) [] S (sn:Int) 0 true o9.rd HX.out.symm ⟨_,1,rfl,by decide,by decide,.inl rfl⟩ rfl (by rw [HX.out];exact tB) (by decide) (fun i=>by simp [pD]) (by unfold FF;rw [HX.out,NV hc];rfl);have e1:(Ry S (sn:Int) 0 true).toNat=2+S.toNat:=by
   obtain ⟨⟨hS1,hS2⟩,hL1,hL2⟩:=(Xk S sn).1 hc;unfold Ry;simp;omega
  have e2:(Jg S (sn:Int) true).toNat=sn:=by unfold Jg;simp
  rw [e1,e2,MZ hc] at h9;exact h9
 have N4:Hid (Ns w sB (Ia (.pointer none) S (sn:Int) (.slice xa xl xc) (.slice (some ⟨Z,0,none⟩) 0 1) 0) [.int .i64 0,.int .i64 1,.int .i64 0,.int .i64 0,.int .i64 23,.int .i64 (C0:Int),.int .i64 0,.slice ta 1 tc,.int .i64 0,.int .i64 0,.slice xa xl xc,.slice (some ⟨Z,0,none⟩) 0 1] w3.drew):=N3.out.below (below_drewN' w3 1);clear N3
 go_wp2_with fail
 refine ZX (S:=Ns w sB (Ia (.pointer none) S (sn:Int) (.slice xa xl xc) (.slice (some ⟨Z,0,none⟩) 0 1) 0) [.int .i64 0,.int .i64 1,.int .i64 0,.int .i64 0,.int .i64 23,.int .i64 (C0:Int),.int .i64 0,.slice ta 1 tc,.int .i64 0,.int .i64 0,.slice xa xl xc,.slice (some ⟨Z,0,none⟩) 0 1]) (by kernel_rfl) N4.out (fun Z9=>?_);clear N4;generalize w3.drew=w4 at *
 iterate 9 (refine Zf ?_ (by kernel_rfl) (fun _=>id) Z9 ?_ ?_;rotate_left;· intro w9 ZQ;have k0:=ZQ.sv.cl 1 _ rfl;have k1:=ZQ.sv.cl 2 _ rfl;have k2:=ZQ.bx.cl 10 _ rfl;have k3:=ZQ.bx.cl 11 _ rfl;have k4:=ZQ.bx.cl 2 _ rfl;clear ZQ;go_simp;try with_reducible rfl)
 refine YS 9 rfl (by kernel_rfl) (fun K hK=>?_);go_simp;refine (Am.out _ Z9).mono ?_;rintro e w5 ⟨v5,rfl,⟨lg,J,rfl,o5,hlc⟩,b5⟩;have hw4:w.heap.size≤w4.heap.size:=Z9.tw.size;have N5:=Z9.below b5;have O5:=ZU o5;refine hK.out _ _ N5 (fun YA=>?_);clear hK K YA Z9 o5;have Z9:=N5;clear N5;refine Zf ?_ (by kernel_rfl) (fun _=>id) Z9 ?_ ?_
 rotate_left
 · intro w9 ZQ;clear ZQ;go_simp;try with_reducible rfl
 refine ZR (by kernel_rfl) ?_ _
 try simp only [Act.put,WV,WU,WT]
 have N5:=ZU Z9;have t7:=Z9.bx.cl 7 _ rfl;have t6:=Z9.bx.cl 6 _ rfl;clear Z9
 go_wp2_with fail
 have N6:Hid (Ns w sB (Ia (.pointer none) S (sn:Int) (.slice xa xl xc) (.slice (some ⟨Z,0,none⟩) 0 1) 0) [.int .i64 0,.int .i64 1,.int .i64 0,.int .i64 0,.int .i64 23,.int .i64 (C0:Int),.int .i64 0,.slice ta 1 tc,.int .i64 0,.int .i64 0,.slice xa xl xc,.slice (some ⟨Z,0,none⟩) 0 1] (w5.alloc (.cells #[.slice ta 1 tc,.int .i64 0] 87)).drew):=(N5.out.below (Yy.alloc YR _)).below (below_drewN' _ 1);have T6:Hid (St (w5.alloc (.cells #[.slice ta 1 tc,.int .i64 0] 87)).drew w5.heap.size [.slice ta 1 tc,.int .i64 0]):=(St.new w5 #[.slice ta 1 tc,.int .i64 0] 87).below (below_drewN' _ 1);have O6:Hid (Own .u8 5 (w5.alloc (.cells #[.slice ta 1 tc,.int .i64 0] 87)).drew w4.heap.size (.slice (some ⟨lg,0,none⟩) (Qz S sn).length J) (Qz S sn)):=Own.below (Own.below O5.out (Yy.alloc YR _)) (below_drewN' _ 1);have z6:Hid (w5.heap.size<(w5.alloc (.cells #[.slice ta 1 tc,.int .i64 0] 87)).drew.heap.size):=by show _<_;simp
 have z5:=ZU (b5.size);have yD:Hid (w.heap.size≤w4.heap.size):=hw4;clear hw4;have HQ:Hid (IntKind.i64.wrap (((sn:Int)*64).tdiv 9)=(sn:Int)*64 / 9):=by
  show _=_;obtain ⟨-,hL1,hL2⟩:=(Xk S sn).1 hc;rw [UF (by omega)];rw [Zq] <;> omega
 clear N5 O5 t7 t6;refine ZX (S:=fun W=>St W w.heap.size [.int .i64 0,.int .i64 1,.int .i64 0,.int .i64 0,.int .i64 23,.int .i64 (C0:Int),.int .i64 0,.slice ta 1 tc,.int .i64 0,.int .i64 0,.slice xa xl xc,.slice (some ⟨Z,0,none⟩) 0 1]∧St W w5.heap.size [.slice ta 1 tc,.int .i64 0]) (by kernel_rfl) ⟨N6.out.bx,T6.out⟩ (fun Z9=>?_);generalize (w5.alloc _).drew=w6 at *
 iterate 5 (refine Zf ?_ (by kernel_rfl) (fun _=>id) Z9 ?_ ?_;rotate_left;· intro w9 ZQ;have k0:=ZQ.2.cl 0 _ rfl;have k1:=ZQ.2.cl 1 _ rfl;have k2:=ZQ.1.cl 1 _ rfl;have k3:=ZQ.1.cl 2 _ rfl;have k4:=ZQ.1.cl 3 _ rfl;have k5:=ZQ.1.cl 4 _ rfl;have k6:=ZQ.1.cl 5 _ rfl;have k7:=ZQ.1.cl 8 _ rfl;have k8:=ZQ.1.cl 0 _ rfl;clear ZQ;go_simp;try with_reducible rfl)
 refine Zf (.int .i64 ((sn*64 / 9:Nat):Int)) (by kernel_rfl) (fun _=>id) Z9 ?_ ?_
 · intro w9 ZQ;clear ZQ;go_simp;exact HQ.out
 refine Yp 7 ?v28 rfl (by kernel_rfl) (fun _=>id) Z9 ?hy28 ?_
 case hy28 =>
  intro w9 ZQ;have k0:=ZQ.2.cl 0 _ rfl;have k1:=ZQ.2.cl 1 _ rfl;have k2:=ZQ.1.cl 1 _ rfl;have k3:=ZQ.1.cl 2 _ rfl;have k4:=ZQ.1.cl 3 _ rfl;have k5:=ZQ.1.cl 4 _ rfl;have k6:=ZQ.1.cl 5 _ rfl;have k7:=ZQ.1.cl 8 _ rfl;have k8:=ZQ.1.cl 0 _ rfl;clear ZQ;go_simp
  try with_reducible rfl
 refine Yp 8 ?v29 rfl (by kernel_rfl) (fun _=>id) Z9 ?hy29 ?_
 case hy29 =>
  intro w9 ZQ;have k0:=ZQ.2.cl 0 _ rfl;have k1:=ZQ.2.cl 1 _ rfl;have k2:=ZQ.1.cl 1 _ rfl;have k3:=ZQ.1.cl 2 _ rfl;have k4:=ZQ.1.cl 3 _ rfl;have k5:=ZQ.1.cl 4 _ rfl;have k6:=ZQ.1.cl 5 _ rfl;have k7:=ZQ.1.cl 8 _ rfl;have k8:=ZQ.1.cl 0 _ rfl;clear ZQ;go_simp
  try with_reducible rfl
 refine Yp 9 ?v30 rfl (by kernel_rfl) (fun _=>id) Z9 ?vu ?_
 case vu =>
  intro w9 ZQ;have k0:=ZQ.2.cl 0 _ rfl;have k1:=ZQ.2.cl 1 _ rfl;have k2:=ZQ.1.cl 1 _ rfl;have k3:=ZQ.1.cl 2 _ rfl;have k4:=ZQ.1.cl 3 _ rfl;have k5:=ZQ.1.cl 4 _ rfl;have k6:=ZQ.1.cl 5 _ rfl;have k7:=ZQ.1.cl 8 _ rfl;have k8:=ZQ.1.cl 0 _ rfl;clear ZQ;go_simp
  try with_reducible rfl
 refine Yp 10 ?v31 rfl (by kernel_rfl) (fun _=>id) Z9 ?hy31 ?_
 case hy31 =>
  intro w9 ZQ;have k0:=ZQ.2.cl 0 _ rfl;have k1:=ZQ.2.cl 1 _ rfl;have k2:=ZQ.1.cl 1 _ rfl;have k3:=ZQ.1.cl 2 _ rfl;have k4:=ZQ.1.cl 3 _ rfl;have k5:=ZQ.1.cl 4 _ rfl;have k6:=ZQ.1.cl 5 _ rfl;have k7:=ZQ.1.cl 8 _ rfl;have k8:=ZQ.1.cl 0 _ rfl;clear ZQ;go_simp
  try with_reducible rfl
 refine Yp 11 ?v32 rfl (by kernel_rfl) (fun _=>id) Z9 ?hy32 ?_
 case hy32 =>
  intro w9 ZQ;have k0:=ZQ.2.cl 0 _ rfl;have k1:=ZQ.2.cl 1 _ rfl;have k2:=ZQ.1.cl 1 _ rfl;have k3:=ZQ.1.cl 2 _ rfl;have k4:=ZQ.1.cl 3 _ rfl;have k5:=ZQ.1.cl 4 _ rfl;have k6:=ZQ.1.cl 5 _ rfl;have k7:=ZQ.1.cl 8 _ rfl;have k8:=ZQ.1.cl 0 _ rfl;clear ZQ;go_simp
  try with_reducible rfl
 refine Yp 12 ?v33 rfl (by kernel_rfl) (fun _=>id) Z9 ?vh ?_
 case vh =>
  intro w9 ZQ;have k0:=ZQ.2.cl 0 _ rfl;have k1:=ZQ.2.cl 1 _ rfl;have k2:=ZQ.1.cl 1 _ rfl;have k3:=ZQ.1.cl 2 _ rfl;have k4:=ZQ.1.cl 3 _ rfl;have k5:=ZQ.1.cl 4 _ rfl;have k6:=ZQ.1.cl 5 _ rfl;have k7:=ZQ.1.cl 8 _ rfl;have k8:=ZQ.1.cl 0 _ rfl;clear ZQ;go_simp
  try with_reducible rfl
 refine Yp 13 ?v34 rfl (by kernel_rfl) (fun _=>id) Z9 ?hy34 ?_
 case hy34 =>
  intro w9 ZQ;have k0:=ZQ.2.cl 0 _ rfl;have k1:=ZQ.2.cl 1 _ rfl;have k2:=ZQ.1.cl 1 _ rfl;have k3:=ZQ.1.cl 2 _ rfl;have k4:=ZQ.1.cl 3 _ rfl;have k5:=ZQ.1.cl 4 _ rfl;have k6:=ZQ.1.cl 5 _ rfl;have k7:=ZQ.1.cl 8 _ rfl;have k8:=ZQ.1.cl 0 _ rfl;clear ZQ;go_simp
  try with_reducible rfl
 refine Yp 14 ?v35 rfl (by kernel_rfl) (fun _=>id) Z9 ?Y2 ?_
 case Y2 =>
  intro w9 ZQ;have k0:=ZQ.2.cl 0 _ rfl;have k1:=ZQ.2.cl 1 _ rfl;have k2:=ZQ.1.cl 1 _ rfl;have k3:=ZQ.1.cl 2 _ rfl;have k4:=ZQ.1.cl 3 _ rfl;have k5:=ZQ.1.cl 4 _ rfl;have k6:=ZQ.1.cl 5 _ rfl;have k7:=ZQ.1.cl 8 _ rfl;have k8:=ZQ.1.cl 0 _ rfl;clear ZQ;go_simp
  try with_reducible rfl
 refine Yp 15 ?v36 rfl (by kernel_rfl) (fun _=>id) Z9 ?Y1 ?_
 case Y1 =>
  intro w9 ZQ;have k0:=ZQ.2.cl 0 _ rfl;have k1:=ZQ.2.cl 1 _ rfl;have k2:=ZQ.1.cl 1 _ rfl;have k3:=ZQ.1.cl 2 _ rfl;have k4:=ZQ.1.cl 3 _ rfl;have k5:=ZQ.1.cl 4 _ rfl;have k6:=ZQ.1.cl 5 _ rfl;have k7:=ZQ.1.cl 8 _ rfl;have k8:=ZQ.1.cl 0 _ rfl;clear ZQ;go_simp
  try with_reducible rfl
 refine YS 6 rfl (by kernel_rfl) (fun K hK=>?_);go_simp;have MC:Sem.run Tryz.prog (Instr.makeChan 88 (.int .i64 ((sn:Int)*64 / 9))) w6=.ok (.chan (some w6.heap.size)) (w6.alloc (.chan (sn*64 / 9) #[] false 0 0 false)):=by
  obtain ⟨-,hL1,hL2⟩:=(Xk S sn).1 hc;have fk:(Tryz.prog.info? 22).map (·.bytes)=some 24:=by kernel_rfl
  obtain ⟨i9,hi9,OY⟩:=Option.map_eq_some_iff.1 fk;have h9:=run_makeChan (w:=w6) (P:=Tryz.prog) (t:=88) Tryz.underlying88 hi9 .i64 (sn*64 / 9) (by omega) (by rw [OY];omega);have e9:((sn*64 / 9:Nat):Int)=(sn:Int)*64 / 9:=by omega
  rw [e9] at h9;exact h9
 rw [MC];clear MC;go_simp;have bC:=(Below.refl w6.heap.size w6).alloc YR (.chan (sn*64 / 9) #[] false 0 0 false);refine hK.out _ _ ⟨Z9.1.below bC,Z9.2.below bC⟩ (fun YA=>?_);clear hK K YA;have hH7:St (w6.alloc (.chan (sn*64 / 9) #[] false 0 0 false)) w.heap.size [.int .i64 0,.int .i64 1,.int .i64 0,.int .i64 0,.int .i64 23,.int .i64 (C0:Int),.int .i64 0,.slice ta 1 tc,.int .i64 0,.int .i64 0,.slice xa xl xc,.slice (some ⟨Z,0,none⟩) 0 1]∧St (w6.alloc (.chan (sn*64 / 9) #[] false 0 0 false)) w5.heap.size [.slice ta 1 tc,.int .i64 0]:=⟨Z9.1.below bC,Z9.2.below bC⟩;clear Z9;have Z9:=hH7;refine Zf ?_ (by kernel_rfl) (fun _=>id) Z9 ?_ ?_
 rotate_left
 · intro w9 ZQ;clear ZQ;go_simp;try with_reducible rfl
 refine YS 17 rfl (by kernel_rfl) (fun K hK=>?_);go_simp;have C7:Hid ((w6.alloc (.chan (sn*64 / 9) #[] false 0 0 false)).heap[w6.heap.size]?=some (.chan (sn*64 / 9) #[] false 0 0 false)):=Array.getElem?_push_size;have N7:=ZU (N6.out.below bC);have O7:Hid (Own .u8 5 (w6.alloc (.chan (sn*64 / 9) #[] false 0 0 false)) w4.heap.size (.slice (some ⟨lg,0,none⟩) (Qz S sn).length J) (Qz S sn)):=Own.below O6.out bC;have E7:Hid ((w6.alloc (.chan (sn*64 / 9) #[] false 0 0 false)).heap.size=w6.heap.size+1):=by show _=_;simp
 have z7:Hid (w6.heap.size<(w6.alloc (.chan (sn*64 / 9) #[] false 0 0 false)).heap.size∧lg<w6.heap.size∧w4.heap.size≤lg):=⟨by simp,(ZT O6.out lg rfl).2,(ZT O6.out lg rfl).1⟩;clear N6 O6 bC;generalize w6.alloc _=w7 at *;have bD:=(Below.refl w7.heap.size w7).alloc YR (.cells #[.slice ta 1 tc,.int .i64 0,.slice ta 1 tc,.int .i64 0,.chan (some w6.heap.size),.int .i64 0,.int .i64 1,.int .i64 0,.int .i64 0,.int .i64 23,.int .i64 (C0:Int),.slice (some ⟨lg,(2+S.toNat)*64,none⟩) 0 (J - (2+S.toNat)*64),.pointer none,.bool false] 91);refine hK.out _ _ ⟨hH7.1.below bD,hH7.2.below bD⟩ (fun YA=>?_);clear hK K YA;have Z9:St (w7.alloc (.cells #[.slice ta 1 tc,.int .i64 0,.slice ta 1 tc,.int .i64 0,.chan (some w6.heap.size),.int .i64 0,.int .i64 1,.int .i64 0,.int .i64 0,.int .i64 23,.int .i64 (C0:Int),.slice (some ⟨lg,(2+S.toNat)*64,none⟩) 0 (J - (2+S.toNat)*64),.pointer none,.bool false] 91)) w.heap.size [.int .i64 0,.int .i64 1,.int .i64 0,.int .i64 0,.int .i64 23,.int .i64 (C0:Int),.int .i64 0,.slice ta 1 tc,.int .i64 0,.int .i64 0,.slice xa xl xc,.slice (some ⟨Z,0,none⟩) 0 1]∧St (w7.alloc (.cells #[.slice ta 1 tc,.int .i64 0,.slice ta 1 tc,.int .i64 0,.chan (some w6.heap.size),.int .i64 0,.int .i64 1,.int .i64 0,.int .i64 0,.int .i64 23,.int .i64 (C0:Int),.slice (some ⟨lg,(2+S.toNat)*64,none⟩) 0 (J - (2+S.toNat)*64),.pointer none,.bool false] 91)) w5.heap.size [.slice ta 1 tc,.int .i64 0]:=⟨hH7.1.below bD,hH7.2.below bD⟩;clear hH7;have M8:Hid (St (w7.alloc (.cells #[.slice ta 1 tc,.int .i64 0,.slice ta 1 tc,.int .i64 0,.chan (some w6.heap.size),.int .i64 0,.int .i64 1,.int .i64 0,.int .i64 0,.int .i64 23,.int .i64 (C0:Int),.slice (some ⟨lg,(2+S.toNat)*64,none⟩) 0 (J - (2+S.toNat)*64),.pointer none,.bool false] 91)) (w6.heap.size+1) [.slice ta 1 tc,.int .i64 0,.slice ta 1 tc,.int .i64 0,.chan (some w6.heap.size),.int .i64 0,.int .i64 1,.int .i64 0,.int .i64 0,.int .i64 23,.int .i64 (C0:Int),.slice (some ⟨lg,(2+S.toNat)*64,none⟩) 0 (J - (2+S.toNat)*64),.pointer none,.bool false]):=by
  rw [←E7.out];exact St.new w7 #[.slice ta 1 tc,.int .i64 0,.slice ta 1 tc,.int .i64 0,.chan (some w6.heap.size),.int .i64 0,.int .i64 1,.int .i64 0,.int .i64 0,.int .i64 23,.int .i64 (C0:Int),.slice (some ⟨lg,(2+S.toNat)*64,none⟩) 0 (J - (2+S.toNat)*64),.pointer none,.bool false] 91
 have C8:Hid ((w7.alloc (.cells #[.slice ta 1 tc,.int .i64 0,.slice ta 1 tc,.int .i64 0,.chan (some w6.heap.size),.int .i64 0,.int .i64 1,.int .i64 0,.int .i64 0,.int .i64 23,.int .i64 (C0:Int),.slice (some ⟨lg,(2+S.toNat)*64,none⟩) 0 (J - (2+S.toNat)*64),.pointer none,.bool false] 91)).heap[w6.heap.size]?=some (.chan (sn*64 / 9) #[] false 0 0 false)):=(bD.block _ (by have:=z7.out;omega)).trans C7.out;have N8:=ZU (N7.out.below bD);have O8:Hid (Own .u8 5 (w7.alloc (.cells #[.slice ta 1 tc,.int .i64 0,.slice ta 1 tc,.int .i64 0,.chan (some w6.heap.size),.int .i64 0,.int .i64 1,.int .i64 0,.int .i64 0,.int .i64 23,.int .i64 (C0:Int),.slice (some ⟨lg,(2+S.toNat)*64,none⟩) 0 (J - (2+S.toNat)*64),.pointer none,.bool false] 91)) w4.heap.size (.slice (some ⟨lg,0,none⟩) (Qz S sn).length J) (Qz S sn)):=Own.below O7.out bD;have z8:Hid (w7.heap.size<(w7.alloc (.cells #[.slice ta 1 tc,.int .i64 0,.slice ta 1 tc,.int .i64 0,.chan (some w6.heap.size),.int .i64 0,.int .i64 1,.int .i64 0,.int .i64 0,.int .i64 23,.int .i64 (C0:Int),.slice (some ⟨lg,(2+S.toNat)*64,none⟩) 0 (J - (2+S.toNat)*64),.pointer none,.bool false] 91)).heap.size):=by show _<_;simp
 clear C7 N7 O7 bD;generalize w7.alloc _=w8 at *
 iterate 2 (refine Zf ?_ (by kernel_rfl) (fun _=>id) Z9 ?_ ?_;rotate_left;· intro w9 ZQ;clear ZQ;go_simp;try with_reducible rfl)
 refine YS 20 rfl (by kernel_rfl) (fun K hK=>?_);have k0:=N8.out.sv.cl 0 _ rfl;have f0:=N8.out.sv.fz 0;go_simp;clear k0 f0;refine hK.out _ _ ⟨Z9.1.other (by omega),Z9.2.other (by have:=z5.out;have:=yD.out;omega)⟩ (fun YA=>?_);clear hK K YA Z9;refine ZR (by kernel_rfl) ?_ _
 try simp only [Act.put,WV,WU,WT]
 have FIN:Hid (Tw w sB none (w8.setCell ⟨sB,0,none⟩ (.pointer (some ⟨w6.heap.size+1,0,none⟩))) none∧∃ κ σ,Sv κ σ (w8.setCell ⟨sB,0,none⟩ (.pointer (some ⟨w6.heap.size+1,0,none⟩)))∧tX κ σ sB S sn):=by
  have Z7:=z7.out;have Z8:=z8.out;have e7:=E7.out;have Z6:=z6.out;have Z5:=z5.out;have Yd:=yD.out;have T9:=(N8.out.tw).set (j:=0) (x:=.pointer (some ⟨w6.heap.size+1,0,none⟩));have tB:=(yR hc).n9;obtain ⟨⟨hS1,hS2⟩,hL1,hL2⟩:=(Xk S sn).1 hc;have hDl:(2+S.toNat+sn)*64≤(Qz S sn).length:=by
   have:=((RK ..).1 (NV hc)).2.2;omega
  have eT:=hd.LS T9.LS (fun q e=>by cases e;exact fun e9=>by have:=(ZT hd _ e9).1;omega);have ZN:=T9.gS ht (fun e9=>by have:=(ZT ht _ e9).1;omega);have fx:∀q,xa.map (·.block)=some q→sB<q∧q<w.heap.size:=fun q e=>by
   cases xa with
   | none=>cases e
   | some a=>cases e;exact ZT hd _ rfl
  have ft:∀q,(Value.slice ta 1 tc).ownBlock=some q→sB<q∧q<w.heap.size:=fun q e=>ZT ht _ e
  have fd:∀q,(Value.slice xa xl xc).ownBlock=some q→sB<q∧q<w.heap.size:=fun q e=>ZT hd _ e
  have ZL:Z<w.heap.size:=(Z3.mp hp).1;have hup:sB<w6.heap.size+1∧sB<w6.heap.size∧sB<lg:=by omega
  have far:∀v:Value,(∀q,v.ownBlock=some q→sB<q∧q<w.heap.size)→Pp ⟨sB,w6.heap.size+1,w6.heap.size,lg,(2+S.toNat)*64,sn*64 / 9,S,sn,[],hup⟩ v:=fun v hv q hq=>by
   have:=hv q hq;exact ⟨by show q≠sB;omega,by show q≠w6.heap.size+1;omega,by show q≠w6.heap.size;omega,by show q≠lg;omega,by simp⟩
  refine ⟨T9,⟨sB,w6.heap.size+1,w6.heap.size,lg,(2+S.toNat)*64,sn*64 / 9,S,sn,[],hup⟩,⟨[Yx],0,[Yx],0,[],0,1,0,0,23,C0,[],0,none,0,false,some Z⟩,?_,⟨rfl,rfl,rfl,rfl,rfl,⟨rfl,rfl,rfl,rfl,rfl,rfl,rfl⟩,⟨rfl,rfl,rfl⟩,rfl,rfl,rfl⟩⟩;refine ⟨⟨?_,?_,?_,?_,?_,?_⟩,fun x hx=>by simp at hx,⟨_,0,_,N8.out.sv.set 0 _,eT,tB,⟨Int.le_refl _,Int.le_refl _⟩,far _ fd⟩,⟨.slice ta 1 tc,.slice ta 1 tc,J - (2+S.toNat)*64,?_,ZN.rd,ZN.rd,ZN.qe,far _ ft,far _ ft,?_,?_⟩,⟨[],0,0,?_,⟨rfl,fun i hi=>by simp at hi⟩,fun i hi=>by simp at hi⟩,fun p hp=>by simp at hp,?_⟩
  · show sB≠w6.heap.size+1;omega
  · show sB≠w6.heap.size;omega
  · show sB≠lg;omega
  · show w6.heap.size+1≠w6.heap.size;omega
  · show w6.heap.size+1≠lg;omega
  · show w6.heap.size≠lg;omega
  · have h9:=M8.out.other (c:=sB) (j:=0) (x:=.pointer (some ⟨w6.heap.size+1,0,none⟩)) (by omega)
    simpa [yB] using h9
  · have h9:=(Own.setAt (u:=.pointer (some ⟨w6.heap.size+1,0,none⟩)) (g:=sB) (j:=0) O8.out (.inr (fun e=>by simp only [Value.ownBlock,ZK] at e;omega)))
    refine ⟨lg,(2+S.toNat)*64,J - (2+S.toNat)*64,(Qz S sn).take ((2+S.toNat)*64),rfl,by simp;omega,?_⟩;have h8:=h9.Ff (m:=(2+S.toNat)*64) (by omega);rw [YD,show (2+S.toNat)*64+([]:List Int).length=(2+S.toNat)*64 from rfl,show (2+S.toNat)*64+(J - (2+S.toNat)*64)=J by omega];exact h8
  · show (sn:Int)*64≤((J - (2+S.toNat)*64:Nat):Int);omega
  · exact (Below.heap_setCell w8 ⟨sB,0,none⟩ _ w6.heap.size (by show w6.heap.size≠sB;omega)).trans C8.out
  intro g hg
  injection hg with hg;subst hg
  exact ⟨(T9.block Z ZL (by omega) (by simp)).trans hp,hpl,by show Z≠w6.heap.size+1;omega,by show Z≠w6.heap.size;omega,by show Z≠lg;omega,by simp⟩
 generalize w8.setCell _ _=w9 at *;go_wp2
 go_end0
 exact ⟨rfl,FIN.out⟩
 end Go.Proofs.YtpmjnbmkippaiaaGreatDoor
namespace Go.Proofs.YtpmjnbmkippaiaaGreatDoor
open Go.RowKit Go.Conc
structure Nw (w:World) (C L:List Value) (W:World):Prop where
 WC:Zi w W
 cf:St W w.heap.size C
 sv:St W (w.heap.size+1) L
theorem Nw.below {w:World} {C L:List Value} {W W':World} (h:Nw w C L W) (hb:Zi W W'):Nw w C L W' :=
 ⟨h.WC.trans (hb.mono h.WC.size),h.cf.below hb,h.sv.below hb⟩
def ez (w:World) (S:Int) (sn:Nat) (e:Ending) (w':World):Prop :=
 ∃ κ σ,e=.returned (.pointer (some ⟨κ.sB,0,none⟩))∧Sv κ σ w'∧tX κ σ (w.heap.size+1) S sn∧Zi w w'
theorem JH (w:World) (S:Int) (sn:Nat) (hc:Wp S (sn:Int)=true) (htab:PJ w) (h0:0<w.heap.size) :
    Calls Tryz.prog 10 #[.agg #[.int .i64 S,.int .i64 (sn:Int)]] w (ez w S sn):=by
 have N1:Hid (Nw w [.int .i64 S,.int .i64 (sn:Int)] [.pointer none,.int .i64 S,.int .i64 (sn:Int),.slice none 0 0,.slice none 0 0,.int .i64 0,.int .i64 0,.slice none 0 0] ((w.alloc (.cells #[.int .i64 S,.int .i64 (sn:Int)] 25)).alloc (.cells #[.pointer none,.int .i64 S,.int .i64 (sn:Int),.slice none 0 0,.slice none 0 0,.int .i64 0,.int .i64 0,.slice none 0 0] 56))):=by
  have b1:=(Below.refl w.heap.size w).alloc YR (.cells #[.int .i64 S,.int .i64 (sn:Int)] 25);have b2:=(Below.refl (w.alloc (.cells #[.int .i64 S,.int .i64 (sn:Int)] 25)).heap.size (w.alloc (.cells #[.int .i64 S,.int .i64 (sn:Int)] 25))).alloc YR (.cells #[.pointer none,.int .i64 S,.int .i64 (sn:Int),.slice none 0 0,.slice none 0 0,.int .i64 0,.int .i64 0,.slice none 0 0] 56);have e1:(w.alloc (.cells #[.int .i64 S,.int .i64 (sn:Int)] 25)).heap.size=w.heap.size+1:=by simp
  have s2:=St.new (w.alloc (.cells #[.int .i64 S,.int .i64 (sn:Int)] 25)) #[.pointer none,.int .i64 S,.int .i64 (sn:Int),.slice none 0 0,.slice none 0 0,.int .i64 0,.int .i64 0,.slice none 0 0] 56;rw [e1] at s2;exact ⟨WD b1 b2,(St.new w #[.int .i64 S,.int .i64 (sn:Int)] 25).below b2,s2⟩
 have HT:Hid (∀W,Zi w W→PJ W):=fun W hW=>htab.below h0 hW
 have H0:=ZU h0;have HC:=ZU hc;clear htab h0 hc
 go_enter Tryz.func10,Tryz.ntmps10
 go_wp2_with fail
 generalize ((w.alloc _).alloc _)=w1 at *;refine (zi w1 (w.heap.size+1) _ _ _ _ _ _ _ _ N1.out.sv).mono ?_;rintro e w2 ⟨rfl,s2,g2⟩;have N2:Hid (Nw w [.int .i64 S,.int .i64 (sn:Int)] (Ia (.pointer none) S (sn:Int) (.slice none 0 0) (.slice none 0 0) 0) w2.drew):=by
  have n1:=N1.out;have hb:=n1.WC.trans (show Below w.heap.size w1 w2 from ⟨g2.os,g2.tape,g2.output,g2.size,fun q hq=>g2.block q (ZY hq n1.WC.size) (fun e=>by injection e with e;omega)⟩);exact Nw.below ⟨hb,n1.cf.grown g2 (by simp),s2⟩ (below_drewN' w2 1)
 clear N1 s2 g2
 go_wp2_with fail
 refine ZX (S:=fun W=>∃L,Nw w [.int .i64 S,.int .i64 (sn:Int)] L W) (by kernel_rfl) ⟨_,N2.out⟩ (fun Z9=>?_);generalize w2.drew=w3 at *
 iterate 2 (refine Zf ?_ (by kernel_rfl) (fun _=>id) Z9 ?_ ?_;rotate_left;· intro w9 ZQ;obtain ⟨L9,ZQ⟩:=ZQ;have k0:=ZQ.cf.cl 0 _ rfl;have k1:=ZQ.cf.cl 1 _ rfl;clear ZQ;go_simp;try with_reducible rfl)
 refine Yp 3 ?v3 rfl (by kernel_rfl) (fun _=>id) Z9 ?hy3 ?_
 case hy3 =>
  intro w9 ZQ;obtain ⟨L9,ZQ⟩:=ZQ;have k0:=ZQ.cf.cl 0 _ rfl;have k1:=ZQ.cf.cl 1 _ rfl;clear ZQ;go_simp
  try with_reducible rfl
 refine YS 2 rfl (by kernel_rfl) (fun K hK=>?_);go_simp;have h9:=Ks w3 S (sn:Int) HC.out (HT.out _ N2.out.WC) (ZY H0.out N2.out.WC.size);refine h9.mono ?_;clear h9;rintro e w4 ⟨v4,rfl,o4,b4⟩;have N4:=N2.out.below b4;refine hK.out _ _ ⟨_,N4⟩ (fun YA=>?_);have O4:=ZU o4;clear hK K YA Z9 N2 o4 b4;have Z9:∃L,Nw w [.int .i64 S,.int .i64 (sn:Int)] L w4:=⟨_,N4⟩;refine YS 4 rfl (by kernel_rfl) (fun K hK=>?_);go_simp;have h9:=Eh w4 v4 S sn (Qz S sn) (jl S sn) rfl rfl HC.out O4.out.rd (HT.out _ N4.WC) (ZY H0.out N4.WC.size);refine h9.mono ?_;clear h9;rintro e w5 ⟨vt,v5,Z,rfl,t5,o5,ZL,p5,b5⟩;have N5:=N4.below b5;have Z4:w.heap.size+1<w4.heap.size:=N4.sv.lt;refine hK.out _ _ ⟨_,N5⟩ (fun YA=>?_);clear hK K YA N4 b5 O4 Z9;obtain ⟨ta,tc,rfl⟩:=t5.slice;obtain ⟨xa,xc,rfl,-⟩:=o5.rd.len;have HS:Hid (Calls Tryz.prog 18 #[.pointer (some ⟨w.heap.size+1,0,none⟩),.agg (qb (jl S sn) (.slice ta [Yx].length tc) (.slice xa (Qz S sn).length xc) (.slice (some ⟨Z,0,none⟩) 0 1))] w5 fun e w'=>e=.returned (.tuple #[])∧Tw w5 (w.heap.size+1) none w' none∧∃ κ σ,Sv κ σ w'∧tX κ σ (w.heap.size+1) S sn) :=
  yQ w5 (w.heap.size+1) Z S sn ta tc (Qz S sn).length xa xc HC.out N5.sv rfl (o5.mono (by omega)) (t5.mono (by omega)) p5 (by omega)
 clear t5 o5 ZL p5;generalize qb (jl S sn) (.slice ta [Yx].length tc) (.slice xa (Qz S sn).length xc) (.slice (some ⟨Z,0,none⟩) 0 1)=RR at *;refine YS 5 rfl (by kernel_rfl) (fun K hK=>?_);go_simp;refine HS.out.mono ?_;rintro e w6 ⟨rfl,t6,κ,σ,v6,n6⟩;have FIN:Hid (ez w S sn (.returned (.pointer (some ⟨w.heap.size+1,0,none⟩))) w6):=⟨κ,σ,by rw [n6.sB],v6,n6,N5.WC.trans (t6.below (B:=w.heap.size) N5.WC.size (by omega) (by simp))⟩;have Y0:∃L,Nw w [.int .i64 S,.int .i64 (sn:Int)] L w6:=⟨(Ia (.pointer none) S (sn:Int) (.slice none 0 0) (.slice none 0 0) 0).take 0,N5.WC.trans (t6.below (B:=w.heap.size) N5.WC.size (by omega) (by simp)),t6.st N5.cf (by omega) (by simp),?sv⟩
 case sv =>
  refine ⟨ZY N5.sv.lt t6.size,fun j=>?_,fun j v hv=>by simp at hv⟩;obtain ⟨vd,made,YN,a1,-⟩:=v6.dk;rw [n6.sB] at a1;exact a1.fz j
 refine hK.out _ _ Y0 (fun YA=>?_);clear hK K YA t6 v6 n6 N5 Z4 Y0;refine ZR (by kernel_rfl) ?_ _
 try simp only [Act.put,WV,WU,WT]
 go_wp2;go_ret;exact FIN.out
 end Go.Proofs.YtpmjnbmkippaiaaGreatDoor
namespace Go.Proofs.YtpmjnbmkippaiaaGreatDoor
open Go.RowKit Go.Conc
theorem qH.later {m:Int} {te:TypeId} {pe:Value} {w W:World} (h:qH m te pe w) (hb:Zi w W):qH m te pe W :=
 ⟨h.tc.below (ZG w _ (h.tc 0 (by omega))) hb,Ra h.pM hb,(hb.cell (ZG w _ h.er)).trans h.er,h.pl.later hb,h.fm.later hb⟩
theorem je {m:Int} {te:TypeId} {pe:Value} {κ:Sc} {w W:World} (h:qH m te pe w) (hb:Zi w W) (hs:w.heap.size≤κ.sB):Gl m te pe κ W:=fun W2 hg=>h.later (hb.trans (hg.low hs hb.size))
structure jd (w:World) (κ:Sc) (Bs S L:Nat):Prop where
 ln:yy κ S L
 lt:κ.sB<Bs∧κ.mB<Bs∧κ.c<Bs∧κ.lb<Bs
 wb:w.heap.size≤κ.sB
structure JG (w:World) (κ:Sc) (Bs S L n k:Nat) (xs:List Int) (va:Value) (X:List Nat) (W:World):Prop where
 sv:∃ σ,Rk S L n k σ∧Sv { κ with X:=X } σ W
 xa:Bs+1 ∈ X
 xi:Bs+2 ∈ X
 xv:∀g,va.ownBlock=some g→g ∈ X
 bx:Boxed W (Bs+1) 22 va
 bi:∃v,Boxed W (Bs+2) 22 v
 ow:Own .u8 5 W (Bs+3) va xs
 sb:Boxed W Bs 34 (.pointer (some ⟨κ.sB,0,none⟩))
 low:Zi w W
 sz:Bs+3≤W.heap.size
def l8 (w:World) (κ:Sc) (Bs S L n k:Nat) (W:World):Prop:=∃va X,(k=0→va.ownBlock=none)∧JG w κ Bs S L n k (XI (Mo S L n k)) va X W
section
variable {w:World} {κ:Sc} {Bs S L n k:Nat} {xs:List Int} {va:Value} {X:List Nat} {W W':World}
theorem JG.below (h:JG w κ Bs S L n k xs va X W) (hb:Zi W W'):JG w κ Bs S L n k xs va X W':=by
 obtain ⟨σ,r,v⟩:=h.sv;obtain ⟨vi,bi⟩:=h.bi;exact ⟨⟨σ,r,v.below hb⟩,h.xa,h.xi,h.xv,(hb.block _ h.bx.lt).trans h.bx,⟨vi,(hb.block _ bi.lt).trans bi⟩,h.ow.below hb,(hb.block _ h.sb.lt).trans h.sb,h.low.trans (hb.mono h.low.size),ZJ h.sz hb.size⟩
theorem l8.below (h:l8 w κ Bs S L n k W) (hb:Zi W W'):l8 w κ Bs S L n k W':=let ⟨va,X,h0,h⟩:=h;⟨va,X,h0,h.below hb⟩
theorem JG.Vz (hf:jd w κ Bs S L) {row:Option Nat} (h:JG w κ Bs S L n k xs va X W) (hg:W.grownBy W' row) (hr:∀r,row=some r→Bs+3≤r∧∃o:Obj,W.heap[r]?=some o∧o.isCells=false):JG w κ Bs S L n k xs va X W':=by
 obtain ⟨σ,r,v⟩:=h.sv;have hlt:=hf.lt;have hz:=hf.wb;refine ⟨⟨σ,r,v.Vz hg (fun r e=>⟨by show r≠κ.c;have:=(hr r e).1;omega,(hr r e).2⟩)⟩,h.xa,h.xi,h.xv,h.bx.kept hg (fun e=>by have:=(hr _ e.symm).1;omega),(let ⟨vi,bi⟩:=h.bi;⟨vi,bi.kept hg (fun e=>by have:=(hr _ e.symm).1;omega)⟩),VD h.ow hg (fun r e=>(hr r e).2),h.sb.kept hg (fun e=>by have:=(hr _ e.symm).1;omega),h.low.grown hg h.low.size (fun q e=>by have:=(hr q e).1;omega),ZJ h.sz hg.size⟩
theorem JG.jc (hf:jd w κ Bs S L) (h:JG w κ Bs S L n k xs va X W) (x:Value):JG w κ Bs S L n k xs va X (W.setCell ⟨Bs+2,0,none⟩ x):=by
 obtain ⟨σ,r,v⟩:=h.sv;have hlt:=hf.lt;have hz:=hf.wb;have hg:=kH W (Bs+2) 0 x;exact ⟨⟨σ,r,v.other h.xi hg⟩,h.xa,h.xi,h.xv,h.bx.kept hg (by simp),(let ⟨vi,bi⟩:=h.bi;⟨x,bi.set x⟩),Own.VA h.ow (show Bs+2<Bs+3 by omega) x,h.sb.kept hg (by simp),h.low.setCell (by show w.heap.size≤Bs+2;omega) x,by simpa using h.sz⟩
theorem JG.line (hf:jd w κ Bs S L) (h:JG w κ Bs S L n k xs va X W) (hx:va.ownBlock=none∨4≤xs.length) (hg:Gw { κ with X:=X } W W') (hs:∃ σ,Rk S L n (k+1) σ∧Sv { κ with X:=X } σ W') :
    JG w κ Bs S L n (k+1) xs va X W'∧KeepsFrom (Bs+3) W W'∧W'.heap[Bs+2]?=W.heap[Bs+2]?:=by
 have hlt:=hf.lt;have hsz:=h.sz;have blk:∀q,Bs≤q→q<W.heap.size→W.cell? ⟨q,3,none⟩≠some (.slice none 0 0)→W.cell? ⟨q,1,none⟩≠some (.slice none 0 0)→W'.heap[q]?=W.heap[q]?:=fun q h1 h2 h3 h4=>hg.block q h2 (by show q≠κ.sB;omega) (by show q≠κ.mB;omega) (by show q≠κ.c;omega) (by show q≠κ.lb;omega) (fun _=>h3) (fun _=>h4)
 have box:∀ {q t v},Bs≤q→Boxed W q t v→W'.heap[q]?=W.heap[q]?:=fun {q t v} h1 hb=>blk q h1 hb.lt (by simp [World.cell?,show W.heap[q]?=_ from hb]) (by simp [World.cell?,show W.heap[q]?=_ from hb])
 obtain ⟨vi,bi⟩:=h.bi;have ei:=box (by omega) bi;refine ⟨⟨hs,h.xa,h.xi,h.xv,(box (by omega) h.bx).trans h.bx,⟨vi,ei.trans bi⟩,?_,(box YR h.sb).trans h.sb,h.low.trans (hg.low hf.wb h.low.size),ZJ hsz hg.size⟩,⟨hg.size,fun q o hq ho hc=>?_⟩,ei⟩
 · have h9:=h.ow
   refine ⟨h9.1,h9.2.imp id ?_⟩;rintro ⟨g,cap,cur,rfl,e1,e2,e3⟩;refine ⟨g,cap,cur,rfl,e1,?_,e3⟩
   rcases hx with hx | hx
   · simp [Value.ownBlock] at hx
   obtain ⟨ao,cp,e,-,-,r3⟩:=h9.rd
   rcases r3 with r3 | ⟨b,off,eb,hb,hc⟩
   · rw [r3] at hx;simp at hx
   simp only [ZC] at e
   rw [eb] at e
   simp only [ZK,Ym,VB] at e
   obtain ⟨⟨rfl,rfl⟩,-,-⟩:=e;have c3:=hc 3 (by omega);have c1:=hc 1 (by omega);rw [Za] at c3 c1;exact (blk g (by omega) hb (by rw [c3];simp) (by rw [c1];simp)).trans e2
 have hl:=(Z3.1 ho).1;have nc:∀j,W.cell? ⟨q,j,none⟩=none:=fun j=>by
  unfold World.cell?;rw [ho]
  cases o <;> first | rfl | (cases hc)
 exact (blk q (by omega) hl (by rw [nc];simp) (by rw [nc];simp)).trans ho
theorem JG.app (hf:jd w κ Bs S L) (h:JG w κ Bs S L n k xs va X W) {ys:List Int} {v2:Value} {W2:World} (ho:Own .u8 5 W2 (Bs+3) v2 ys)
    (hc:(v2.ownBlock=va.ownBlock∧W.grownBy W2 va.ownBlock)∨(Zi W W2∧∀g,v2.ownBlock=some g→W.heap.size≤g)) :
    ∃X',JG w κ Bs S L n k ys v2 X' (W2.setCell ⟨Bs+1,0,none⟩ v2)∧KeepsFrom (Bs+3) W (W2.setCell ⟨Bs+1,0,none⟩ v2)∧(W2.setCell ⟨Bs+1,0,none⟩ v2).heap[Bs+2]?=W.heap[Bs+2]?∧W2.cell? ⟨Bs+1,0,none⟩=some va∧W2.frozen? ⟨Bs+1,0,none⟩=false:=by
 have hlt:=hf.lt;have hz:=hf.wb;have hsz:=h.sz;obtain ⟨vi,bi⟩:=h.bi;obtain ⟨σ,r,v⟩:=h.sv;have hne:=r.ne;have main:∀X',(∃ σ,Rk S L n k σ∧Sv { κ with X:=X' } σ W2)→Bs+1 ∈ X'→Bs+2 ∈ X'→(∀g,v2.ownBlock=some g→g ∈ X')→(∀q,q<Bs+3→W2.heap[q]?=W.heap[q]?)→Zi w W2→KeepsFrom (Bs+3) W W2→W.heap.size≤W2.heap.size →
     ∃X',JG w κ Bs S L n k ys v2 X' (W2.setCell ⟨Bs+1,0,none⟩ v2)∧KeepsFrom (Bs+3) W (W2.setCell ⟨Bs+1,0,none⟩ v2)∧(W2.setCell ⟨Bs+1,0,none⟩ v2).heap[Bs+2]?=W.heap[Bs+2]?∧W2.cell? ⟨Bs+1,0,none⟩=some va∧W2.frozen? ⟨Bs+1,0,none⟩=false:=by
  intro X' hs a1 a2 a3 a4 a5 a6 a7;obtain ⟨σ',r',v'⟩:=hs;have hg:=kH W2 (Bs+1) 0 v2;have b2:Boxed W2 (Bs+1) 22 va:=(a4 _ (by omega)).trans h.bx;have i2:Boxed W2 (Bs+2) 22 vi:=(a4 _ (by omega)).trans bi;have s2:Boxed W2 Bs 34 (.pointer (some ⟨κ.sB,0,none⟩)):=(a4 _ (by omega)).trans h.sb;exact ⟨X',⟨⟨σ',r',v'.other a1 hg⟩,a1,a2,a3,b2.set _,⟨vi,i2.kept hg (by simp)⟩,Own.VA ho (show Bs+1<Bs+3 by omega) v2,s2.kept hg (by simp),a5.setCell (by show w.heap.size≤Bs+1;omega) v2,by simp;omega⟩,a6.trans ((KeepsOthers.setCell _ _ _).from _),((i2.kept hg (by simp)).trans bi.symm),b2.cell,b2.frozen⟩
 rcases hc with ⟨e,hg⟩ | ⟨hb,hfr⟩
 · cases ev:va.ownBlock with
   | none =>
    rw [ev] at hg;have hb:Zi W W2:=⟨hg.os,hg.tape,hg.output,hg.size,fun q hq=>hg.block q hq (by simp)⟩;exact main X ⟨σ,r,v.below hb⟩ h.xa h.xi (fun g eg=>by rw [e,ev] at eg;cases eg) (fun q hq=>hb.block q (by omega)) (h.low.trans (hb.mono h.low.size)) (Vf hb) hb.size
   | some g =>
    have hge:=(ZT h.ow g ev).1;rw [ev] at hg;exact main X ⟨σ,r,v.other (h.xv g ev) hg⟩ h.xa h.xi (fun q eq=>h.xv q (by rw [←e];exact eq)) (fun q hq=>hg.block q (by omega) (fun e9=>by injection e9 with e9;omega)) (h.low.grown hg h.low.size (fun q e9=>by injection e9 with e9;omega)) (Aq h.ow (by rw [ev];exact hg)) hg.size
 cases ev:v2.ownBlock with
 | none=>exact main X ⟨σ,r,v.below hb⟩ h.xa h.xi (fun g eg=>by rw [ev] at eg;cases eg) (fun q hq=>hb.block q (by omega)) (h.low.trans (hb.mono h.low.size)) (Vf hb) hb.size
 | some g =>
  have h1:=hfr g ev;have h2:=(ZT ho g ev).2;have v9:Sv { κ with X:=g :: X } σ W2:=v.boxed hb h1 h2 hne.1 hne.2;exact main (g :: X) ⟨σ,r,v9⟩ (Zp _ h.xa) (Zp _ h.xi) (fun q eq=>by rw [ev] at eq;injection eq with eq;rw [←eq];exact YO ..) (fun q hq=>hb.block q (by omega)) (h.low.trans (hb.mono h.low.size)) (Vf hb) hb.size
theorem yP (s:ByteArray) (B O:Nat):Lib.bytesTrimSuffix B O (s.size+1) (s.size+1) (U0 s++[10]) [10]=.slice (some ⟨B,O,none⟩) s.size (s.size+1):=by
 have h:Lib.hasSuffix (Lib.bytesOf (U0 s++[10])) (Lib.bytesOf [10])=true:=by
  unfold Lib.hasSuffix;rw [List.isSuffixOf_iff_suffix];unfold Lib.bytesOf;rw [Y6];exact List.suffix_append _ _
 unfold Lib.bytesTrimSuffix;rw [Z0 h]
 rfl
end
end Go.Proofs.YtpmjnbmkippaiaaGreatDoor
namespace Go.Proofs.YtpmjnbmkippaiaaGreatDoor
open Go.RowKit Go.Shelf
theorem jb {α β:Type}:∀ {l:List (α × β)},(l.map Prod.fst).Nodup→∀ {k:α} {v u:β},(k,v) ∈ l→(k,u) ∈ l→u=v
 | [],_,_,_,_,h,_=>by cases h
 | (a,b) :: l,hn,k,v,u,h1,h2=>by
  rw [Yl,List.nodup_cons] at hn;have hx:∀x,(k,x) ∈ l→k≠a:=fun x hx e=>hn.1 (by rw [←e];exact List.mem_map.2 ⟨_,hx,rfl⟩)
  rcases Y9.1 h1 with e1 | m1
  · rcases Y9.1 h2 with e2 | m2
    · rw [(VH e1).2,(VH e2).2]
    exact absurd (VH e1).1 (hx _ m2)
  rcases Y9.1 h2 with e2 | m2
  · exact absurd (VH e2).1 (hx _ m1)
  exact jb hn.2 m1 m2
theorem tW (B:Nat):((tk B).map Prod.fst).Nodup:=by
 unfold tk
 simp only [Yl,WO]
 decide +kernel
def five (f:ByteArray):Prop:=(f.toList == [99,114,101,97,116,101])=true∨(f.toList == [115,101,116])=true∨(f.toList == [102,108,117,115,104])=true∨(f.toList == [115,110,97,112])=true∨(f.toList == [115,116,101,112])=true
def dR (W:World) (s:Value) (l:Ln) (v:Value):Prop :=
 (v=.func (.func 59) #[] #[]∧Calls Tryz.prog 59 #[s] W fun e w'=>mP W l e w') ∨
 (∃k,v=.func (.func 103) #[] #[.pointer (some ⟨k,0,none⟩)]∧Calls Tryz.prog 103 #[s,.pointer (some ⟨k,0,none⟩)] W fun e w'=>mP W l e w') ∨
 (∃f k,v=.func (.func 105) #[] #[.pointer (some ⟨f,0,none⟩),.pointer (some ⟨k,0,none⟩)]∧Calls Tryz.prog 105 #[s,.pointer (some ⟨f,0,none⟩),.pointer (some ⟨k,0,none⟩)] W fun e w'=>mP W l e w')
theorem yO (w W:World) (N g c:Nat) (L:List ByteArray) (hp:PS w W N (tk w.heap.size) (mO w.heap.size)) (hL:0<L.length) (hL1:L.length≤1048577) (pO:L.length≤c) (hc:c≤maxLen) (hcl:∀i,i<L.length→W.cell? ⟨g,i,none⟩=some (.string (Yh L i))) (hgb:g<W.heap.size) (hsz:mR L) {m:Int} {te:TypeId} {pe:Value} (hg:ze W m te pe) (hf:tp W) (h5:five (Yh L 0)) :
    ∃v,(Instr.lookup 75 (.map (some w.heap.size)) (.string (Yh L 0)) true).run Tryz.prog W=.ok (.tuple #[v,.bool true]) W∧dR W (.slice (some ⟨g,0,none⟩) L.length c) (za L) v:=by
 have hR:tr W (.slice (some ⟨g,0,none⟩) L.length c) L:=⟨_,c,rfl,pO,hc,.inr ⟨g,0,rfl,hgb,fun i hi=>by rw [Za];exact hcl i hi⟩⟩;have hop:∀V,Zi W V→Calls Tryz.prog 101 #[.slice (some ⟨g,0,none⟩) L.length c] V fun e w'=>JM V L e w':=fun V hV=>EB V _ L (hR.below hV) hsz (hg.later hV) (hf.later hV)
 have hcx:∀p ∈ mO w.heap.size,w.heap.size<p.1∧p.1<N∧W.cell? ⟨p.1,0,none⟩=some p.2:=hp.c;have hN:=hp.z;have hit:∀ {l:List UInt8} {v:Value},((Yh L 0).toList == l)=true→(UG l,v) ∈ tk w.heap.size→(Instr.lookup 75 (.map (some w.heap.size)) (.string (Yh L 0)) true).run Tryz.prog W=.ok (.tuple #[v,.bool true]) W:=fun {l v} q hm=>by
  rw [jN q];exact hp.m.hit (P:=Tryz.prog) Tryz.underlying75 Tryz.underlying9 hm (fun v9 h9=>jb (tW _) hm h9)
 have k2:=hcx (w.heap.size+1,.int .i64 2) (by simp [mO]);have k6:=hcx (w.heap.size+5,.int .i64 6) (by simp [mO])
 rcases h5 with q | q | q | q | q
 · exact ⟨.func (.func 59) #[] #[],hit q (by simp [tk,UG]),.inl ⟨rfl,IV W _ c L hop _ (Kk q)⟩⟩
 · exact ⟨.func (.func 59) #[] #[],hit q (by simp [tk,UG]),.inl ⟨rfl,IV W _ c L hop _ (A7 q)⟩⟩
 · exact ⟨.func (.func 103) #[] #[.pointer (some ⟨w.heap.size+1,0,none⟩)],hit q (by simp [tk,UG]),.inr (.inl ⟨_,rfl,IX W _ _ c (w.heap.size+1) 2 k2.2.2 (by rw [hN];exact k2.2.1) _ (IW q)⟩)⟩
 · exact ⟨.func (.func 103) #[] #[.pointer (some ⟨w.heap.size+5,0,none⟩)],hit q (by simp [tk,UG]),.inr (.inl ⟨_,rfl,IX W _ _ c (w.heap.size+5) 6 k6.2.2 (by rw [hN];exact k6.2.1) _ (EE q)⟩)⟩
 exact ⟨.func (.func 105) #[] #[.pointer (some ⟨w.heap.size+7,0,none⟩),.pointer (some ⟨w.heap.size+6,0,none⟩)],hit q (by simp [tk,UG]),.inr (.inr ⟨_,_,rfl,Hh W g c (w.heap.size+6) (w.heap.size+7) L 7 (hcx (w.heap.size+6,.int .i64 7) (by simp [mO])).2.2 (hcx (w.heap.size+7,.func (.func 64) #[] #[]) (by simp [mO])).2.2 hL hL1 pO hc hR hsz hg _ (ED q)⟩)⟩
theorem JF (w:World) (v:Value) (b:ByteArray) (h:Rd .u8 w v (bI b)) (hs:b.size≤1048576) {m:Int} {te:TypeId} {pe:Value} (hg:ze w m te pe) (hf:tp w) (hbig:¬60000<b.size) (hall:(UH b).all Wh=true) (h5:five (Yh (UH b) 0)) :
    Calls Tryz.prog 12 #[v] w fun e w'=>mP w (TQ b) e w':=by
 have hA:Zi w (w.alloc (.cells #[.int .i64 0,.slice none 0 0,.bool false,.string ⟨#[]⟩,.slice none 0 0] 43)):=Yy.alloc YR _;have BA:=ZU hA;have X:=ZU (St.new w #[.int .i64 0,.slice none 0 0,.bool false,.string ⟨#[]⟩,.slice none 0 0] 43);have hcv:=To (h.below hA);rw [Ez] at hcv;have s1:(w.alloc (.cells #[.int .i64 0,.slice none 0 0,.bool false,.string ⟨#[]⟩,.slice none 0 0] 43)).heap.size=w.heap.size+1:=by simp
 have HG:=ZU (hg.later hA);have HF:=ZU (hf.later hA);have HS:=ZU (yY (w.alloc (.cells #[.int .i64 0,.slice none 0 0,.bool false,.string ⟨#[]⟩,.slice none 0 0] 43)) b hs HG.out.mx);obtain ⟨ao,cap,rfl,-⟩:=h;rw [QO] at hcv ⊢;clear hA hg hf;have oR:¬(60000:Int)<((b.size:Nat):Int):=by omega
 have H5:=ZU h5;have iO:=ZU hall;have Pu:Hid (TQ b=if (UH b).all Wh=true then za (UH b) else Oo):=by show _=_;unfold TQ;rw [Z1 hbig]
 obtain ⟨hl0,hl1,hsz⟩:=uD b hs;have LW:=ZU hsz;generalize TQ b=l at *;generalize UH b=L at *;clear hbig hs hsz h5 hall
 go_enter Tryz.func12,Tryz.ntmps12
 go_wp2_with fail
 generalize w.alloc _=w1 at *;refine HS.out.mono ?_;rintro e w2 ⟨rfl,rfl⟩;have b2:Zi w1 (w1.alloc (.cells (L.map Value.string).toArray 9)):=Yy.alloc YR _;have Qs:=ZU (yX w1 L);have s2:(w1.alloc (.cells (L.map Value.string).toArray 9)).heap.size=w1.heap.size+1:=by simp
 replace X:=ZU (X.out.below b2)
 replace BA:=ZU (WD BA.out b2)
 replace HG:=ZU (HG.out.later b2)
 replace HF:=ZU (HF.out.later b2)
 clear HS hcv b2;generalize w1.alloc _=w3 at *;generalize hgg:w1.heap.size=g at *;have hgw:g<w3.heap.size:=by omega
 have sw:w.heap.size+1≤w3.heap.size:=by omega
 clear hgg s2 s1
 go_wp2_with fail
 refine (zb w3 g L.length L hl0 YR (by unfold maxLen;omega) Qs.out hgw).mono ?_;rintro e w4 ⟨rfl,b4⟩
 replace X:=ZU (X.out.below b4)
 replace BA:=ZU (WD BA.out b4)
 replace HG:=ZU (HG.out.later b4)
 replace HF:=ZU (HF.out.later b4)
 replace Qs:Hid (∀i,i<L.length→w4.cell? ⟨g,i,none⟩=some (.string (Yh L i))):=fun i hi=>(b4.cell (p:=⟨g,i,none⟩) hgw).trans (Qs.out i hi)
 have s4:=b4.size;clear b4;rw [iO.out];have YY:=ZU (Pu.out.trans (Z0 iO.out));clear Pu
 go_wp2_with fail
 have hpz:(0:Int)<((L.length:Nat):Int):=by omega
 have bD:Zi w4 w4.drew:=below_drewN' w4 1;refine ZX (S:=fun W=>W.cell? ⟨g,0,none⟩=some (.string (Yh L 0))) (by kernel_rfl) ((bD.cell (p:=⟨g,0,none⟩) (by show g<_;omega)).trans (Qs.out 0 hl0)) (fun Z9=>?_)
 replace X:=ZU (X.out.below bD)
 replace BA:=ZU (WD BA.out bD)
 replace HG:=ZU (HG.out.later bD)
 replace HF:=ZU (HF.out.later bD)
 replace Qs:Hid (∀i,i<L.length→w4.drew.cell? ⟨g,i,none⟩=some (.string (Yh L i))):=fun i hi=>(bD.cell (p:=⟨g,i,none⟩) (by show g<_;omega)).trans (Qs.out i hi)
 have s5:=bD.size;clear bD;generalize w4.drew=w5 at *;refine Yp 1 (.slice (some ⟨g,0,none⟩) L.length L.length) rfl (by kernel_rfl) (fun _=>id) Z9 ?_ ?_
 · intro w9 ZQ;clear ZQ;go_simp;try with_reducible rfl
 refine Yp 2 (.pointer (some ⟨g,0,none⟩)) rfl (by kernel_rfl) (fun _=>id) Z9 ?_ ?_
 · intro w9 ZQ;clear ZQ;go_simp;try with_reducible rfl
 refine Yp 3 (.string (Yh L 0)) rfl (by kernel_rfl) (fun _=>id) Z9 ?_ ?_
 · intro w9 ZQ;go_simp;try with_reducible rfl
 refine YS 0 rfl (by kernel_rfl) (fun K hK=>?_);go_simp;refine (EA w5).mono ?_;rintro e w6 ⟨rfl,P6⟩;have b6:=P6.b;obtain ⟨fv,hlk,qM⟩:=yO w5 w6 _ g L.length L P6 hl0 hl1 YR (by unfold maxLen;omega) (fun i hi=>(b6.cell (p:=⟨g,i,none⟩) (by show g<_;omega)).trans (Qs.out i hi)) (by have:=b6.size;omega) LW.out (HG.out.later b6) (HF.out.later b6) H5.out
 replace X:=ZU (X.out.below b6)
 replace BA:=ZU (WD BA.out b6)
 have s6:=b6.size;have HY:=ZU qM;refine hK.out _ _ ((b6.cell (p:=⟨g,0,none⟩) (by show g<_;omega)).trans Z9) (fun Ms=>?_);clear hK K Z9 P6 b6 qM Qs HG HF;refine YS 4 rfl (by kernel_rfl) (fun K hK=>?_);go_simp;refine hK.out _ _ Ms (fun Z9=>?_);clear hK K Ms hlk
 iterate 5 (refine Zf ?_ (by kernel_rfl) (fun _=>id) Z9 ?_ ?_;rotate_left;· intro w9 ZQ;clear ZQ;go_simp;try with_reducible rfl)
 refine ZR (by kernel_rfl) ?_ _
 try simp only [Act.put,WV,WU,WT]
 clear Z9;have hP:=HY.out;rw [←YY.out] at hP;clear HY YY
 rcases hP with ⟨rfl,hc⟩ | ⟨k9,rfl,hc⟩ | ⟨f9,k9,rfl,hc⟩
 all_goals
  have HC:=ZU hc;clear hc
  go_wp2_with fail
  refine HC.out.mono ?_;rintro e w7 ⟨vo,vn,rfl,o7,n7,b7⟩;obtain ⟨YX,YW,rfl⟩:=o7.slice;obtain ⟨YQ,YM,rfl⟩:∃a c,vn=.slice a l.nums.length c:=by
   obtain ⟨a,c,e9,-⟩:=P1 n7;exact ⟨a,c,e9⟩
  replace X:=ZU (X.out.below b7)
  replace BA:=ZU (WD BA.out b7)
  have O7:=ZU (RP.mono o7 (show w.heap.size+1≤w6.heap.size by omega));have N7:=ZU (Own.mono n7 (show w.heap.size+1≤w6.heap.size by omega));clear HC o7 n7 b7;have x0:=X.out.fz;have y0:=X.out.cl 0 _ rfl;have y1:=X.out.cl 1 _ rfl;have y2:=X.out.cl 2 _ rfl;have y3:=X.out.cl 3 _ rfl;have y4:=X.out.cl 4 _ rfl
  go_wp2_with fail
  obtain ⟨b9,x9,o9,n9⟩:=QM BA.out X.out (l.kind) (l.Rz) (l.path) (vo:=.slice YX l.ops.length YW) (vn:=.slice YQ l.nums.length YM) (show RP _ _ _ _ l.ops from O7.out) (show Own _ _ _ _ _ l.nums from N7.out);have d0:=x9.cl 0 _ rfl;have d1:=x9.cl 1 _ rfl;have d2:=x9.cl 2 _ rfl;have d3:=x9.cl 3 _ rfl;have d4:=x9.cl 4 _ rfl;exact ZW (v:=.agg #[.int .i64 (l.kind),.slice YX l.ops.length YW,.bool (l.Rz),.string (l.path),.slice YQ l.nums.length YM]) (by simp [results,Tryz.results12,go_sem,d0,d1,d2,d3,d4]) rfl (by rw [show l=l from rfl];exact ⟨_,_,rfl,o9,n9,b9⟩)
theorem qx {n:Nat} (h:1≤n) (hn:n≤64) (k:Nat) (hk:k<116):(UH ((Qt n).getD k ⟨#[]⟩)).all Wh=true∧five (Yh (UH ((Qt n).getD k ⟨#[]⟩)) 0):=by
 have g2:Wh pA=true:=by decide +kernel
 have c1:(UH (Et n)).all Wh=true∧five (Yh (UH (Et n)) 0):=by
  have g1:Wh (UG [99,114,101,97,116,101])=true:=by decide +kernel
  rw [uA];exact ⟨by simp [g1,g2,He h],.inl (by show ((UG [99,114,101,97,116,101]).toList == _)=true;decide +kernel)⟩
 have c2:(UH (Hf n)).all Wh=true∧five (Yh (UH (Hf n)) 0):=by
  have g1:Wh (UG [115,101,116])=true:=by decide +kernel
  have g3:Wh (UG [45,49])=true:=by decide +kernel
  rw [uz];exact ⟨by simp [g1,g2,g3,He h],.inr (.inl (by show ((UG [115,101,116]).toList == _)=true;decide +kernel))⟩
 have c3:(UH NW).all Wh=true∧five (Yh (UH NW) 0):=by rw [uy];exact ⟨by decide +kernel,.inr (.inr (.inl (by decide +kernel)))⟩
 have c4:(UH DW).all Wh=true∧five (Yh (UH DW) 0):=by rw [ux];exact ⟨by decide +kernel,.inr (.inr (.inr (.inl (by decide +kernel))))⟩
 have c5:(UH AY).all Wh=true∧five (Yh (UH AY) 0):=by rw [uw];exact ⟨by decide +kernel,.inr (.inr (.inr (.inr (by decide +kernel))))⟩
 rw [uu n k hk]
 repeat' split
 all_goals assumption
end Go.Proofs.YtpmjnbmkippaiaaGreatDoor
namespace Go.Proofs.YtpmjnbmkippaiaaGreatDoor
open Go.RowKit Go.Conc Go.Shelf
attribute [local go_sem] Yv
theorem Ee {F:Fence} {n fuel:Nat} {P:Program} {md:Region.Mode} {ops:Array Oper} {Q:Exit→Act→World→Prop} {listed:Array Bool} {a:Act} {w:World} (R:Array Oper→(Exit→Act→World→Prop)→Prop) (h1:R ops Q) (h2:R ops Q→wpAnyIn F n P md ops Q fuel listed a w):wpAnyIn F n P md ops Q fuel listed a w:=h2 h1
theorem Rk.zero {κ:Sc} {σ:Sx} {sB:Nat} {S:Int} {sn n S9:Nat} (h:tX κ σ sB S sn):Rk S9 sn n 0 σ:=by
 refine ⟨fun _=>h.k,fun _=>by rw [h.k];omega,fun _=>by rw [h.k];omega,fun _=>⟨by rw [h.k];omega,h.Yq⟩,fun _=>h.sn,fun _=>h.em,fun e=>by omega,fun _=>by rw [h.rt.2.2.2.2.2.2];simp,?_⟩
 by_cases h9:Xv n≤sn*64
 · rw [Z0 h9,Z0 rfl];exact h.rt
 rw [Z1 h9,Z1 (by omega),Z1 (by omega),Z0 (by omega)];exact h.rt
theorem yN {m:Int} {te:TypeId} {pe:Value} (w:World) (B o N cap S L n:Nat) (hn:n≤64) (hn1:1≤n) (hc:Wp (S:Int) (L:Int)=true) (hG:qH m te pe w) (hN:(XI (Qt n)).length=N) (hr:Rd .u8 w (.slice (some ⟨B,o,none⟩) N cap) (XI (Qt n))) :
    Calls Tryz.prog 6 #[.slice (some ⟨B,o,none⟩) N cap,.agg #[.int .i64 (S:Int),.int .i64 (L:Int)]] w fun e w'=>∃v',e=.returned v'∧Own .u8 5 w' w.heap.size v' (XI (Mo S L n 116))∧Zi w w':=by
 have hsz:N≤9396:=by
  have:=Ha (Qt n) (fun s hs=>(AS n hn s hs).2);rw [Re,hN] at this;omega
 have HG:=ZU hG;have HR:=ZU hr;have HN:=ZU hN;have HC:=ZU hc;have hNb:¬(60000:Int)<(N:Int):=by omega
 have Yc:decide ((60000:Int)<(N:Int))=false:=by simpa using hNb
 have B0:Hid (Zi w (w.alloc (.cells #[.int .i64 (S:Int),.int .i64 (L:Int)] 25))):=Yy.alloc YR _;have C0:=ZU (St.new w #[.int .i64 (S:Int),.int .i64 (L:Int)] 25);clear hG hr hN hc;refine (YK (n:=6)).1 ?_;refine callsIn_of_wp_marks Tryz.func6 rfl trivial ?_ rfl
 simp only [Tryz.ntmps6,ZI,ZE,Y7,Nat.reduceAdd,Nat.reduceSub,YV,YU,YI,YT,Zd,Y3]
 gi_wp2_with fail
 refine ⟨trivial,?_⟩;refine (YK.2 (Rs _ (S:Int) (L:Int))).mono ?_;rintro e w1 ⟨rfl,b1⟩;rw [HC.out];have B1:=ZU (WD B0.out b1);have C1:=ZU (C0.out.below b1);have c0:=C1.out.cl 0 _ rfl;have c1:=C1.out.cl 1 _ rfl;clear B0 C0 b1
 gi_wp2_with fail
 clear c0 c1;refine ⟨trivial,?_⟩;refine (YK.2 (JH w1 (S:Int) L HC.out (HG.out.later B1.out).tc (ZY (by omega) (Nat.succ_le_of_lt (C1.out.lt))))).mono ?_;rintro e w2 ⟨κ,σ,rfl,v2,n2,b2⟩
 gi_wp2_with fail
 refine ⟨trivial,?_⟩;refine (ug _ _ _ _ _).mono ?_;rintro e w5 ⟨rfl,NG⟩
 gi_wp2_with fail
 have B2:Zi w w2:=WD B1.out b2;have hkB:w.heap.size≤κ.sB:=by rw [n2.sB];have:=B1.out.size;omega
 have hF:jd w κ w2.heap.size S L:=by
  obtain ⟨vd,made,YN,a1,-⟩:=v2.dk;obtain ⟨vt,vq,cp,b1,-,-,-,-,-,b7,-⟩:=v2.mm;obtain ⟨Lv,s,r,c1,-⟩:=v2.ch;refine ⟨⟨n2.S,n2.L,n2.cap,by rw [n2.S,n2.L];exact HC.out⟩,⟨a1.lt,b1.lt,(Z3.1 c1).1,(b7.lt κ.lb rfl).2⟩,hkB⟩
 have s5:w5.heap.size=w2.heap.size+3:=by rw [NG];simp
 have DF:Hid (l8 w κ w2.heap.size S L n 0 w5∧Boxed w5 (w2.heap.size+2) 22 (.slice (some ⟨B,o,none⟩) N cap)):=by
  have bA:Zi w2 ((w2.alloc (.cells #[.pointer (some ⟨κ.sB,0,none⟩)] 34)).alloc (.cells #[.slice none 0 0] 22)):=(Yy.alloc YR _).alloc (by simp) _;have zA:((w2.alloc (.cells #[.pointer (some ⟨κ.sB,0,none⟩)] 34)).alloc (.cells #[.slice none 0 0] 22)).heap.size=w2.heap.size+2:=by simp
  have x1:=(Boxed.new w2 34 (.pointer (some ⟨κ.sB,0,none⟩))).alloc (.cells #[.slice none 0 0] 22);have x2:=Boxed.new (w2.alloc (.cells #[.pointer (some ⟨κ.sB,0,none⟩)] 34)) 22 (.slice none 0 0);rw [YF] at x2;rw [NG];generalize (w2.alloc _).alloc _=wA at *;have hT:σ.T≠[]:=by rw [n2.rt.1];exact QL
  have hQ:σ.Q≠[]:=by rw [n2.rt.2.2.1];exact QL
  have vA:Sv { κ with X:=(w2.heap.size+1) :: κ.X } σ wA:=v2.boxed bA (by omega) (by omega) hT hQ;have bB:Zi wA (wA.alloc (.cells #[.slice (some ⟨B,o,none⟩) N cap] 22)):=Yy.alloc YR _;have vB:Sv { κ with X:=(w2.heap.size+2) :: (w2.heap.size+1) :: κ.X } σ (wA.alloc (.cells #[.slice (some ⟨B,o,none⟩) N cap] 22)):=vA.boxed bB (by omega) (by simp;omega) hT hQ;have x3:=Boxed.new wA 22 (.slice (some ⟨B,o,none⟩) N cap);rw [zA] at x3;exact ⟨⟨.slice none 0 0,_,fun _=>rfl,⟨σ,Rk.zero n2,vB⟩,by simp,by simp,fun g e=>by simp [Value.ownBlock] at e,x2.alloc _,⟨_,x3⟩,ZH _ _ _ _,x1.alloc _,B2.trans ((WD bA bB).mono B2.size),by simp;omega⟩,x3⟩
 have DA:Hid (∀W,Zi w W→∀i,i<N→W.cell? ⟨B,o+i,none⟩=some (.int .u8 ((XI (Qt n)).getD i 0))):=fun W hW i hi=>by
  obtain ⟨ao,cp,e,r1,r2,r3⟩:=HR.out.below hW
  rcases r3 with r3 | ⟨b9,off,eb,OY,jO⟩
  · have:=HN.out;rw [r3] at this;simp at this;omega
  simp only [ZC] at e
  rw [eb] at e
  simp only [ZK,Ym,VB] at e
  obtain ⟨⟨rfl,rfl⟩,-,-⟩:=e;exact jO i (by rw [HN.out];exact hi)
 have hBl:B<w.heap.size:=by
  obtain ⟨ao,cp,e,r1,r2,r3⟩:=HR.out
  rcases r3 with r3 | ⟨b9,off,eb,OY,-⟩
  · have h9:=HN.out
    have:=Hd (ls:=Qt n) (k:=0) (by rw [Re];omega);rw [r3] at this;simp at this
  simp only [ZC] at e
  rw [eb] at e
  simp only [ZK,Ym,VB] at e
  omega
 obtain ⟨Yo,hcm⟩:N≤cap∧cap≤maxLen:=by
  obtain ⟨ao,cp,e,r1,r2,-⟩:=HR.out
  simp only [ZC] at e
  rw [HN.out] at r1;omega
 have HF:=ZU hF;rw [←NG];clear NG v2 n2 b2 B1 C1 B2 hkB hF HR;refine PE (F:=Fence.wide) (n:=6) rfl (by omega) (gf:=21) (lb:=#[.pointer (some ⟨w2.heap.size+2,0,none⟩)]) rfl trivial (enters_of Tryz.func21 (by kernel_rfl) rfl)
  (fun k W=>l8 w κ w2.heap.size S L n k W) (fun k vs _=>k<116∧vs=#[.slice (some ⟨B,o+Rw (Qt n) k,none⟩) (((Qt n).getD k ⟨#[]⟩).size+1) (((Qt n).getD k ⟨#[]⟩).size+1)]) (fun k _=>k+1) (fun X Y=>Y.heap[w2.heap.size+2]?=X.heap[w2.heap.size+2]?) (fun k=>k=116) 0
  (fun k X Y row hs hg hr=>by obtain ⟨va,X9,h0,hs⟩:=hs;exact ⟨va,X9,h0,hs.Vz HF.out hg (fun r e=>by have:=hr r e;rw [s5] at this;exact this)⟩) (fun h1 h2=>h2.trans h1) (fun W l o o' hl _ _ _=>World.putObj_heap_other (by omega))
  (fun k vs W hp=>by rw [hp.2];rfl) DF.out.1
  (fun k vs a' W=>k<116∧l8 w κ w2.heap.size S L n k W∧a'={ tmps:=(fun T=>#[.slice (some ⟨B,o,none⟩) N cap,.agg #[.int .i64 (S:Int),.int .i64 (L:Int)],undef,.pointer (some ⟨w.heap.size,0,none⟩),.slice none 0 0,.pointer (some ⟨w2.heap.size,0,none⟩),.pointer (some ⟨w2.heap.size+1,0,none⟩),T,undef,.agg #[.int .i64 (S:Int),.int .i64 (L:Int)],.bool true,.bool false,undef,undef,.slice (some ⟨B,o,none⟩) N cap,.int .i64 (N:Int),.bool false,undef,undef,.agg #[.int .i64 (S:Int),.int .i64 (L:Int)],.pointer (some ⟨κ.sB,0,none⟩),.slice (some ⟨B,o,none⟩) N cap,.func (.func 21) #[] #[.pointer (some ⟨w2.heap.size+2,0,none⟩)],T,undef,undef,undef,undef,undef,undef,undef,undef,undef,undef,undef,undef,undef]) (.slice (some ⟨B,o+Rw (Qt n) k,none⟩) (((Qt n).getD k ⟨#[]⟩).size+1) (((Qt n).getD k ⟨#[]⟩).size+1)),defers:=[] })
  ?ax ?assign ?body ?call ?done
 case ax =>
  rintro k vs a' _ X Y row ⟨h1,⟨va,X9,h0,h2⟩,h3⟩ hg hr;exact ⟨h1,⟨va,X9,h0,h2.Vz HF.out hg (fun r e=>by have:=hr r e;rw [s5] at this;exact this)⟩,h3⟩
 case assign =>
  rintro l k vs W K hS ⟨hk,rfl⟩ hK;have HK:=ZU hK;have HS:=ZU hS;clear hK hS;gi_wp2;exact HK.out _ _ ⟨YR,fun _ _ _ h _=>h⟩ rfl ⟨hk,HS.out,rfl⟩
 case call =>
  intro Bk W1 sy hY hb1 _ hs0 hb0;have hx1:Boxed W1 (w2.heap.size+2) 22 (.slice (some ⟨B,o,none⟩) N cap):=(hb1.block _ (by omega)).trans DF.out.2;refine (Ct 5 (by omega) (w5.heap.size+1) (w2.heap.size+2) B o N cap (Qt n) (fun s hs=>(AS n hn s hs).1) HN.out (by omega) Yo hcm (fun k W=>l8 w κ w2.heap.size S L n k W) Bk (fun k X Y hb h=>h.below hb) (fun X Y hb h=>sy X Y (Vf hb) h) (fun k X v h=>let ⟨va,X9,h0,h⟩:=h;⟨va,X9,h0,h.jc HF.out v⟩) (fun X v h=>sy _ _ ((KeepsOthers.setCell _ _ _).from _) h) (fun k W h=>let ⟨va,X9,h0,h⟩:=h;DA.out W h.low) (fun k vs W a b c=>hY k vs W a b (by rw [Re] at c;exact c)) W1 hs0 hb0 hx1 (by rw [Re];omega)).mono ?_;rintro e W' ⟨h1,h2,h3⟩;rw [Re] at h2;exact ⟨h1,116,rfl,h2,h3⟩
 case done =>
  rintro D k W hD rfl ⟨va,X9,-,hJ⟩ hK;have c0:=hJ.bx.cell;have HJ:=ZU hJ;have HK:=ZU hK;clear hJ hK;gi_wp2;refine ⟨by simp,.inl ⟨_,_,rfl,run_takeDeferred HK.out,?_⟩⟩;have GX:=grownBy_putObj' W D (.deferred none);have OF:Own .u8 5 (W.putObj D (.deferred none)) (w2.heap.size+3) va (XI (Mo S L n 116)):=VD HJ.out.ow GX (fun r e=>by injection e with e;subst e;exact ⟨_,HK.out,rfl⟩);have hz:=HF.out.wb;have hlt:=HF.out.lt;have BF:=HJ.out.low.grown GX HJ.out.low.size (fun q e=>by injection e with e;omega);exact ⟨va,by simp [results,Tryz.results6,go_sem],va,rfl,OF.mono (by omega),BF⟩
 case body =>
  rintro l k vs a' W ⟨hk,⟨va,X,YL,hJ⟩,rfl⟩;have Yn:=ZU YL;have HJ:=ZU hJ;have hkl:k<(Qt n).length:=by rw [Re];exact hk
  have kr:Hid (∀W',Zi w W'→∀i,i<((Qt n).getD k ⟨#[]⟩).size+1→W'.cell? ⟨B,o+Rw (Qt n) k+i,none⟩=some (.int .u8 ((U0 ((Qt n).getD k ⟨#[]⟩)++[10]).getD i 0))):=fun W' hW' i hi=>by
   have h1:=Hd hkl;rw [HN.out] at h1;have h2:=DA.out W' hW' (Rw (Qt n) k+i) (by omega);rw [←Xu] at h2;rw [h2];have h3:(XI (Qt n)).getD (Rw (Qt n) k+i) 0=((XI (Qt n)).drop (Rw (Qt n) k)).getD i 0:=by simp [List.getD,Yt]
   rw [h3,Mp hkl,show (10:Int) :: XI ((Qt n).drop (k+1))=[10]++XI ((Qt n).drop (k+1)) from rfl,←ZO]
   congr 2
   rw [List.getD,List.getD,Zy (by rw [ZZ,Wq];exact hi)]
   rfl
  have F5:=ZU (qx hn1 hn k hk);have YJ:((Qt n).getD k ⟨#[]⟩).size≤80:=by
   rw [List.getD,ZF hkl];exact (AS n hn _ (YP hkl)).2
  obtain ⟨s,hs⟩:∃s,s=(Qt n).getD k ⟨#[]⟩:=⟨_,rfl⟩;have HS:=ZU hs;rw [←hs] at kr YJ F5 ⊢;generalize o+Rw (Qt n) k=O at *;have kc:=Lib.run_convert_bytes_const (P:=Tryz.prog) W 22 5 #[.int .u8 10] 1 1 Tryz.underlying22 Tryz.underlying5;have bA:Zi W (W.alloc (.cells #[.int .u8 10] 5 (1,2))):=Yy.alloc YR _;clear hJ hs YL
  gi_wp2_with fail
  have zW:(W.alloc (.cells #[.int .u8 10] 5 (1,2))).heap.size=W.heap.size+1:=by simp
  have cN:∀i,i<1→(W.alloc (.cells #[.int .u8 10] 5 (1,2))).cell? ⟨W.heap.size,0+i,none⟩=some (.int .u8 (([10]:List Int).getD i 0)):=fun i hi=>by
   have:i=0:=by omega
   subst this;rw [Yz _ W.heap.size (0+0) _ _ _ (Zs W _)]
   rfl
  have JA:=ZU (HJ.out.below bA);have KA:Hid (KeepsFrom (w2.heap.size+3) W (W.alloc (.cells #[.int .u8 10] 5 (1,2)))∧(W.alloc (.cells #[.int .u8 10] 5 (1,2))).heap[w2.heap.size+2]?=W.heap[w2.heap.size+2]?):=⟨Vf bA,bA.block _ (by have:=HJ.out.sz;omega)⟩;have CN:=ZU cN;clear kc bA zW cN HJ;generalize W.alloc _=WA at *;refine ⟨trivial,?_⟩;refine (CallsIn.inRound l (YK.2 (Tryz.bytes_TrimSuffix B O (s.size+1) (s.size+1) W.heap.size 0 1 1 (U0 s++[10]) [10] WA (by rw [ZZ,Wq];rfl) rfl YR (by omega) (kr.out WA JA.out.low) CN.out))).mono ?_;rintro e w7 ⟨rfl,rfl⟩;rw [yP]
  gi_wp2_with fail
  refine ⟨trivial,?_⟩;have GA:=ZU (HG.out.later JA.out.low);have RA:Rd .u8 w7 (.slice (some ⟨B,O,none⟩) s.size (s.size+1)) (bI s):=by
   refine ⟨_,s.size+1,by rw [QO],by rw [QO];omega,by unfold maxLen;omega,.inr ⟨B,O,rfl,ZY hBl JA.out.low.size,fun i hi=>?_⟩⟩;rw [QO] at hi;rw [kr.out w7 JA.out.low i (by omega),List.getD,Zy (by rw [Wq];exact hi)]
   rfl
  refine (CallsIn.inRound l (YK.2 (JF w7 _ s RA (by omega) GA.out.pl GA.out.fm (by omega) F5.out.1 F5.out.2))).mono ?_;rintro e w8 ⟨vo,vn,rfl,o8,n8,b8⟩;obtain ⟨oa,oc,rfl⟩:=o8.slice;obtain ⟨na,nc,rfl⟩:=Own.slice n8;obtain ⟨ln,hln⟩:∃ln,ln=TQ s:=⟨_,rfl⟩;have HL:Hid (TQ ((Qt n).getD k ⟨#[]⟩)=ln):=by show _=_;rw [hln,HS.out]
  rw [←hln] at o8 n8 ⊢;clear hln RA GA;have O8:=ZU o8;have N8:=ZU n8;have B8:=ZU b8;clear o8 n8 b8
  gi_wp2_with fail
  rename_i KK Ib;have bB:Zi w8 (w8.alloc (.cells #[.int .i64 ln.kind,.slice oa ln.ops.length oc,.bool ln.Rz,.string ln.path,.slice na ln.nums.length nc] 43)).drew:=(Yy.alloc YR _).trans ((below_drewN' _ 1).mono (by simp));have XB:Hid (St (w8.alloc (.cells #[.int .i64 ln.kind,.slice oa ln.ops.length oc,.bool ln.Rz,.string ln.path,.slice na ln.nums.length nc] 43)).drew w8.heap.size [.int .i64 ln.kind,.slice oa ln.ops.length oc,.bool ln.Rz,.string ln.path,.slice na ln.nums.length nc]):=(St.new w8 #[.int .i64 ln.kind,.slice oa ln.ops.length oc,.bool ln.Rz,.string ln.path,.slice na ln.nums.length nc] 43).below (below_drewN' _ 1);have REST:Hid (∀(W3:World) (YG:Option Addr) (YE YB:Nat) (X3:List Nat) (u29 u30 u31 u32 u33:Value) (y3:List Int),Hid (y3=XI (Mo S L n k)++U0 (VY S L n k))→JG w κ w2.heap.size S L n (k+1) y3 (.slice YG YE YB) X3 W3→KeepsFrom (w2.heap.size+3) W W3→W3.heap[w2.heap.size+2]?=W.heap[w2.heap.size+2]?→KK { tmps:=#[.slice (some ⟨B,o,none⟩) N cap,.agg #[.int .i64 (S:Int),.int .i64 (L:Int)],undef,.pointer (some ⟨w.heap.size,0,none⟩),.slice none 0 0,.pointer (some ⟨w2.heap.size,0,none⟩),.pointer (some ⟨w2.heap.size+1,0,none⟩),.slice (some ⟨B,O,none⟩) (s.size+1) (s.size+1),.pointer (some ⟨w8.heap.size,0,none⟩),.agg #[.int .i64 (S:Int),.int .i64 (L:Int)],.bool true,.bool false,undef,undef,.slice (some ⟨B,o,none⟩) N cap,.int .i64 (N:Int),.bool false,undef,undef,.agg #[.int .i64 (S:Int),.int .i64 (L:Int)],.pointer (some ⟨κ.sB,0,none⟩),.slice (some ⟨B,o,none⟩) N cap,.func (.func 21) #[] #[.pointer (some ⟨w2.heap.size+2,0,none⟩)],.slice (some ⟨B,O,none⟩) (s.size+1) (s.size+1),.slice (some ⟨B,O,none⟩) (s.size+1) (s.size+1),.slice (some ⟨W.heap.size,0,none⟩) 1 1,.slice (some ⟨W.heap.size,0,none⟩) 1 1,.slice (some ⟨B,O,none⟩) s.size (s.size+1),.agg #[.int .i64 ln.kind,.slice oa ln.ops.length oc,.bool ln.Rz,.string ln.path,.slice na ln.nums.length nc],u29,u30,u31,u32,u33,undef,undef,undef],defers:=[] } W3):=by
   intro W3 YG YE YB X3 u29 u30 u31 u32 u33 y3 H3 j3 k3 i3;have J3:=ZU j3;have K3:Hid (KeepsFrom (w2.heap.size+3) W W3∧W3.heap[w2.heap.size+2]?=W.heap[w2.heap.size+2]?):=⟨k3,i3⟩;have c3:=j3.bx.cell;have hxl:y3.length+(⟨#[10]⟩:ByteArray).size≤1048576:=by
    rw [H3.out];obtain ⟨-,h2⟩:=Kd S L n k;obtain ⟨-,h4,-⟩:=Hc S L n k;rw [ZZ,Wq];have:(⟨#[10]⟩:ByteArray).size=1:=rfl;omega
   have gU:=ZU hxl;clear hxl j3 k3 i3 XB bB JA KA O8 N8 B8;refine Ib _ _ ?_;clear Ib
   gi_wp2_with (gi_at_builtin;go_must (refine OJ rfl _ _ rfl (w2.heap.size+3) _ y3 ⟨#[10]⟩ rfl rfl J3.out.ow (by decide) gU.out J3.out.sz ?_))
   intro v4 w4 o4 c4;obtain ⟨y4,hy4⟩:∃y,y=y3++U0 ⟨#[10]⟩:=⟨_,rfl⟩;have H4:=ZU hy4;rw [←hy4] at o4;clear hy4;obtain ⟨a4,l4,rfl⟩:=Own.slice o4;obtain ⟨X4,j4,k4,i4,cc,ff⟩:=J3.out.app HF.out o4 c4;have J4:=ZU j4;have K4:Hid (KeepsFrom (w2.heap.size+3) W3 _∧_=W3.heap[w2.heap.size+2]?):=⟨k4,i4⟩;clear o4 c4 j4 k4 i4 c3;gi_wp2;refine ⟨K3.out.1.trans K4.out.1,K4.out.2.trans K3.out.2,.slice a4 y4.length l4,X4,fun e=>by omega,?_⟩;rw [Eo,←H3.out,←H4.out];exact J4.out
  have A:=ZU ((JA.out.below B8.out).below bB);have ZD:Hid (KeepsFrom (w2.heap.size+3) W _∧(w8.alloc (.cells #[.int .i64 ln.kind,.slice oa ln.ops.length oc,.bool ln.Rz,.string ln.path,.slice na ln.nums.length nc] 43)).drew.heap[w2.heap.size+2]?=W.heap[w2.heap.size+2]?):=⟨KA.out.1.trans ((Vf B8.out).trans (Vf bB)),(bB.block _ (by have:=(JA.out.below B8.out).sz;omega)).trans ((B8.out.block _ (by have:=JA.out.sz;omega)).trans KA.out.2)⟩;have CALL:Hid (Calls Tryz.prog 14 #[.pointer (some ⟨κ.sB,0,none⟩),.agg #[.int .i64 ln.kind,.slice oa ln.ops.length oc,.bool ln.Rz,.string ln.path,.slice na ln.nums.length nc]] (w8.alloc (.cells #[.int .i64 ln.kind,.slice oa ln.ops.length oc,.bool ln.Rz,.string ln.path,.slice na ln.nums.length nc] 43)).drew fun e W'=>e=.returned (.string (VY S L n k))∧JG w κ w2.heap.size S L n (k+1) (XI (Mo S L n k)) va X W'∧KeepsFrom (w2.heap.size+3) W W'∧W'.heap[w2.heap.size+2]?=W.heap[w2.heap.size+2]?):=by
   obtain ⟨σ1,r1,v1⟩:=JA.out.sv;have b10:=WD B8.out bB;have tB:=HF.out.ln;refine (yU (κ:={ κ with X:=X }) (σ:=σ1) ⟨tB.eS,tB.eL,tB.cap,tB.c⟩ (v1.below b10) (je HG.out A.out.low HF.out.wb) hn r1 hn1 hk (.slice oa ln.ops.length oc) (.slice na ln.nums.length nc) w7 ln HL.out b10 v1 (O8.out.below bB) (N8.out.below bB)).mono ?_;rintro e W' ⟨rfl,g',h'⟩;obtain ⟨j',k',i'⟩:=A.out.line HF.out (by
    by_cases e0:k=0
    · exact .inl (Yn.out e0)
    exact .inr (by have:=(Kd S L n k).1;omega)) g' h'
   exact ⟨rfl,j',ZD.out.1.trans k',i'.trans ZD.out.2⟩
  clear B8 O8 N8 JA KA Ib ZD;have Yk:Hid (∀W',JG w κ w2.heap.size S L n (k+1) (XI (Mo S L n k)) va X W'→0<(VY S L n k).size∧(XI (Mo S L n k)).length+(VY S L n k).size≤1048576):=fun W' _=>by
   obtain ⟨-,h2⟩:=Kd S L n k;obtain ⟨h3,h4,-⟩:=Hc S L n k;omega
  have a0:=A.out.bx.cell;have a1:=A.out.sb.cell;have x0:=XB.out.cl 0 _ rfl;have x1:=XB.out.cl 1 _ rfl;have x2:=XB.out.cl 2 _ rfl;have x3:=XB.out.cl 3 _ rfl;have x4:=XB.out.cl 4 _ rfl;clear XB bB A;refine wpIn_region_any (by kernel_rfl) ?_;refine En l rfl (by kernel_rfl) _ _ _ _ ?_
  change wpAnyIn _ _ _ _ _ _ _ _ _ (w8.alloc (.cells #[.int .i64 ln.kind,.slice oa ln.ops.length oc,.bool ln.Rz,.string ln.path,.slice na ln.nums.length nc] 43)).drew
  generalize (w8.alloc _).drew=I9 at *;refine Ee (R:=fun ZB Q=>∀W',JG w κ w2.heap.size S L n (k+1) (XI (Mo S L n k)) va X W'→KeepsFrom (w2.heap.size+3) W W'→W'.heap[w2.heap.size+2]?=W.heap[w2.heap.size+2]?→wpAnyIn Fence.wide 4 Tryz.prog .any ZB Q 2 #[true,true,true,true,false,false] { tmps:=#[.slice (some ⟨B,o,none⟩) N cap,.agg #[.int .i64 (S:Int),.int .i64 (L:Int)],undef,.pointer (some ⟨w.heap.size,0,none⟩),.slice none 0 0,.pointer (some ⟨w2.heap.size,0,none⟩),.pointer (some ⟨w2.heap.size+1,0,none⟩),.slice (some ⟨B,O,none⟩) (s.size+1) (s.size+1),.pointer (some ⟨w8.heap.size,0,none⟩),.agg #[.int .i64 (S:Int),.int .i64 (L:Int)],.bool true,.bool false,undef,undef,.slice (some ⟨B,o,none⟩) N cap,.int .i64 (N:Int),.bool false,undef,undef,.agg #[.int .i64 (S:Int),.int .i64 (L:Int)],.pointer (some ⟨κ.sB,0,none⟩),.slice (some ⟨B,o,none⟩) N cap,.func (.func 21) #[] #[.pointer (some ⟨w2.heap.size+2,0,none⟩)],.slice (some ⟨B,O,none⟩) (s.size+1) (s.size+1),.slice (some ⟨B,O,none⟩) (s.size+1) (s.size+1),.slice (some ⟨W.heap.size,0,none⟩) 1 1,.slice (some ⟨W.heap.size,0,none⟩) 1 1,.slice (some ⟨B,O,none⟩) s.size (s.size+1),.agg #[.int .i64 ln.kind,.slice oa ln.ops.length oc,.bool ln.Rz,.string ln.path,.slice na ln.nums.length nc],va,.pointer (some ⟨κ.sB,0,none⟩),.agg #[.int .i64 ln.kind,.slice oa ln.ops.length oc,.bool ln.Rz,.string ln.path,.slice na ln.nums.length nc],.string (VY S L n k),undef,undef,undef,undef],defers:=[] } W') ?_ (fun HT=>?_)
  · intro W' j1 k1 i1
    have p1:=Yk.out _ j1;refine wpAnyIn_ready (rs:=[4]) (by kernel_rfl) (by simp) ?_;refine AllReadyIn.cons (o:=⟨some 33,_,_,_,_,_⟩) rfl (fun K9 QD=>?_) AllReadyIn.nil;rw [Z0 (by rfl)];refine LQ rfl _ _ rfl (w2.heap.size+3) va (XI (Mo S L n k)) (VY S L n k) rfl rfl j1.ow p1.1 p1.2 j1.sz ?_;intro v2 W2 o2 c2;obtain ⟨y2,hy2⟩:∃y,y=XI (Mo S L n k)++U0 (VY S L n k):=⟨_,rfl⟩;have H2:=ZU hy2;rw [←hy2] at o2;clear hy2;obtain ⟨a2,l2,rfl⟩:=Own.slice o2;obtain ⟨X2,j2,k2,i2,cc,ff⟩:=j1.app HF.out o2 c2;refine QD _ _ ?_;refine wpAnyIn_ready (rs:=[5]) (by kernel_rfl) (by simp) ?_;refine AllReadyIn.cons (o:=⟨none,_,_,_,_,_⟩) rfl (fun K9 QD=>?_) AllReadyIn.nil;rw [Z0 (by rfl)];go_simp;refine QD _ _ ?_;exact wpAnyIn_done (by kernel_rfl) (REST.out _ _ _ _ _ _ _ _ _ _ _ H2 j2 (k1.trans k2) (i2.trans i1)) _
  refine Ee (R:=fun ZB Q=>wpAnyIn Fence.wide 4 Tryz.prog .any ZB Q 3 #[true,true,true,false,false,false] { tmps:=#[.slice (some ⟨B,o,none⟩) N cap,.agg #[.int .i64 (S:Int),.int .i64 (L:Int)],undef,.pointer (some ⟨w.heap.size,0,none⟩),.slice none 0 0,.pointer (some ⟨w2.heap.size,0,none⟩),.pointer (some ⟨w2.heap.size+1,0,none⟩),.slice (some ⟨B,O,none⟩) (s.size+1) (s.size+1),.pointer (some ⟨w8.heap.size,0,none⟩),.agg #[.int .i64 (S:Int),.int .i64 (L:Int)],.bool true,.bool false,undef,undef,.slice (some ⟨B,o,none⟩) N cap,.int .i64 (N:Int),.bool false,undef,undef,.agg #[.int .i64 (S:Int),.int .i64 (L:Int)],.pointer (some ⟨κ.sB,0,none⟩),.slice (some ⟨B,o,none⟩) N cap,.func (.func 21) #[] #[.pointer (some ⟨w2.heap.size+2,0,none⟩)],.slice (some ⟨B,O,none⟩) (s.size+1) (s.size+1),.slice (some ⟨B,O,none⟩) (s.size+1) (s.size+1),.slice (some ⟨W.heap.size,0,none⟩) 1 1,.slice (some ⟨W.heap.size,0,none⟩) 1 1,.slice (some ⟨B,O,none⟩) s.size (s.size+1),.agg #[.int .i64 ln.kind,.slice oa ln.ops.length oc,.bool ln.Rz,.string ln.path,.slice na ln.nums.length nc],va,.pointer (some ⟨κ.sB,0,none⟩),.agg #[.int .i64 ln.kind,.slice oa ln.ops.length oc,.bool ln.Rz,.string ln.path,.slice na ln.nums.length nc],undef,undef,undef,undef,undef],defers:=[] } I9) ?_ (fun HA=>?_)
  · refine wpAnyIn_ready (rs:=[3]) (by kernel_rfl) (by simp) ?_
    refine AllReadyIn.cons (o:=⟨some 32,_,_,_,_,_⟩) rfl (fun K9 QD=>?_) AllReadyIn.nil;rw [Z0 (by rfl)];go_simp;refine ⟨trivial,(YK.2 CALL.out).mono ?_⟩;rintro e W' ⟨rfl,j1,k1,i1⟩;refine QD _ _ ?_;exact HT _ j1 k1 i1
  refine wpAnyIn_ready (rs:=[0,1,2]) (by kernel_rfl) (by simp) ?_;refine AllReadyIn.cons (o:=⟨some 29,_,_,_,_,_⟩) rfl (fun K9 QD=>?_) (AllReadyIn.cons (o:=⟨some 30,_,_,_,_,_⟩) rfl (fun K9 QD=>?_) (AllReadyIn.cons (o:=⟨some 31,_,_,_,_,_⟩) rfl (fun K9 QD=>?_) AllReadyIn.nil))
  · rw [Z0 (by rfl)]
    go_simp;refine QD _ _ ?_;refine wpAnyIn_ready (rs:=[1,2]) (by kernel_rfl) (by simp) ?_;refine AllReadyIn.cons (o:=⟨some 30,_,_,_,_,_⟩) rfl (fun K9 QD=>?_) (AllReadyIn.cons (o:=⟨some 31,_,_,_,_,_⟩) rfl (fun K9 QD=>?_) AllReadyIn.nil)
    · rw [Z0 (by rfl)]
      go_simp;refine QD _ _ ?_;refine wpAnyIn_ready (rs:=[2]) (by kernel_rfl) (by simp) ?_;refine AllReadyIn.cons (o:=⟨some 31,_,_,_,_,_⟩) rfl (fun K9 QD=>?_) AllReadyIn.nil;rw [Z0 (by rfl)];go_simp;refine QD _ _ ?_;exact HA
    rw [Z0 (by rfl)];go_simp;refine QD _ _ ?_;refine wpAnyIn_ready (rs:=[1]) (by kernel_rfl) (by simp) ?_;refine AllReadyIn.cons (o:=⟨some 30,_,_,_,_,_⟩) rfl (fun K9 QD=>?_) AllReadyIn.nil;rw [Z0 (by rfl)];go_simp;refine QD _ _ ?_;exact HA
  · rw [Z0 (by rfl)]
    go_simp;refine QD _ _ ?_;refine wpAnyIn_ready (rs:=[0,2]) (by kernel_rfl) (by simp) ?_;refine AllReadyIn.cons (o:=⟨some 29,_,_,_,_,_⟩) rfl (fun K9 QD=>?_) (AllReadyIn.cons (o:=⟨some 31,_,_,_,_,_⟩) rfl (fun K9 QD=>?_) AllReadyIn.nil)
    · rw [Z0 (by rfl)]
      go_simp;refine QD _ _ ?_;refine wpAnyIn_ready (rs:=[2]) (by kernel_rfl) (by simp) ?_;refine AllReadyIn.cons (o:=⟨some 31,_,_,_,_,_⟩) rfl (fun K9 QD=>?_) AllReadyIn.nil;rw [Z0 (by rfl)];go_simp;refine QD _ _ ?_;exact HA
    rw [Z0 (by rfl)];go_simp;refine QD _ _ ?_;refine wpAnyIn_ready (rs:=[0,3]) (by kernel_rfl) (by simp) ?_;refine AllReadyIn.cons (o:=⟨some 29,_,_,_,_,_⟩) rfl (fun K9 QD=>?_) (AllReadyIn.cons (o:=⟨some 32,_,_,_,_,_⟩) rfl (fun K9 QD=>?_) AllReadyIn.nil)
    · rw [Z0 (by rfl)]
      go_simp;refine QD _ _ ?_;exact HA
    rw [Z0 (by rfl)];go_simp;refine ⟨trivial,(YK.2 CALL.out).mono ?_⟩;rintro e W' ⟨rfl,j1,k1,i1⟩;refine QD _ _ ?_;have a9:=j1.bx.cell;refine wpAnyIn_ready (rs:=[0]) (by kernel_rfl) (by simp) ?_;refine AllReadyIn.cons (o:=⟨some 29,_,_,_,_,_⟩) rfl (fun K9 QD=>?_) AllReadyIn.nil;rw [Z0 (by rfl)];go_simp;refine QD _ _ ?_;exact HT _ j1 k1 i1
  rw [Z0 (by rfl)];go_simp;refine QD _ _ ?_;refine wpAnyIn_ready (rs:=[0,1]) (by kernel_rfl) (by simp) ?_;refine AllReadyIn.cons (o:=⟨some 29,_,_,_,_,_⟩) rfl (fun K9 QD=>?_) (AllReadyIn.cons (o:=⟨some 30,_,_,_,_,_⟩) rfl (fun K9 QD=>?_) AllReadyIn.nil)
  · rw [Z0 (by rfl)]
    go_simp;refine QD _ _ ?_;refine wpAnyIn_ready (rs:=[1]) (by kernel_rfl) (by simp) ?_;refine AllReadyIn.cons (o:=⟨some 30,_,_,_,_,_⟩) rfl (fun K9 QD=>?_) AllReadyIn.nil;rw [Z0 (by rfl)];go_simp;refine QD _ _ ?_;exact HA
  rw [Z0 (by rfl)];go_simp;refine QD _ _ ?_;refine wpAnyIn_ready (rs:=[0,3]) (by kernel_rfl) (by simp) ?_;refine AllReadyIn.cons (o:=⟨some 29,_,_,_,_,_⟩) rfl (fun K9 QD=>?_) (AllReadyIn.cons (o:=⟨some 32,_,_,_,_,_⟩) rfl (fun K9 QD=>?_) AllReadyIn.nil)
  · rw [Z0 (by rfl)]
    go_simp;refine QD _ _ ?_;exact HA
  rw [Z0 (by rfl)];go_simp;refine ⟨trivial,(YK.2 CALL.out).mono ?_⟩;rintro e W' ⟨rfl,j1,k1,i1⟩;refine QD _ _ ?_;have a9:=j1.bx.cell;refine wpAnyIn_ready (rs:=[0]) (by kernel_rfl) (by simp) ?_;refine AllReadyIn.cons (o:=⟨some 29,_,_,_,_,_⟩) rfl (fun K9 QD=>?_) AllReadyIn.nil;rw [Z0 (by rfl)];go_simp;refine QD _ _ ?_;exact HT _ j1 k1 i1
end Go.Proofs.YtpmjnbmkippaiaaGreatDoor
namespace Go.Proofs.YtpmjnbmkippaiaaGreatDoor
open Go.RowKit Go.Shelf
def lw (xs:List Int) (i n:Nat):Nat:=if n≤1 then 0 else if xs.length=0 then i*7 % n else ((xs.getD (i % xs.length) 0).toNat+i / xs.length) % n
theorem ja (xs:List Int) (i n:Nat) (h:1≤n):lw xs i n<n:=by
 unfold lw
 by_cases h1:n≤1
 · rw [Z0 h1];omega
 rw [Z1 h1]
 split
 · exact Wg _ (by omega)
 exact Wg _ (by omega)
theorem tV (w:World) (b o m cap:Nat) (i n x:Nat) (hm:0<m) (hm1:m≤1099511627776) (hx:x<256) (hc:w.cell? ⟨b,o+i % m,none⟩=some (.int .u8 (x:Int))) (hi:i≤1099511627776) (hn:1<n) (hn1:n≤1099511627776) :
    Calls Tryz.prog 4 #[.slice (some ⟨b,o,none⟩) m cap,.int .i64 i,.int .i64 n] w fun e w'=>e=.returned (.int .i64 (((x+i / m) % n:Nat):Int))∧∃q,w'=w.drewN q:=by
 have h1:¬(n:Int)≤1:=by omega
 have h2:((m:Int) == 0)=false:=YH.2 (by omega);have h3:i % m<m:=Wg _ hm;have h4:(i:Int) % (m:Int)=((i % m:Nat):Int):=by omega
 have h5:(i:Int) / (m:Int)=((i / m:Nat):Int):=by omega
 have h6:i / m≤i:=Uk _ _;generalize i % m=a at *;generalize i / m=d at *;have h7:((m:Int) == 0)=false:=h2;have h8:((n:Int) == 0)=false:=YH.2 (by omega)
 go_enter Tryz.func4,Tryz.ntmps4
 go_wp2
 go_quiet (fail)
 go_wp2;go_ret;exact ⟨Pe (by rw [Int.natCast_emod,Int.natCast_add]),_,rfl⟩
theorem tU (w:World) (v:Value) (i n:Nat) (hn:n≤1) :
    Calls Tryz.prog 4 #[v,.int .i64 i,.int .i64 n] w fun e w'=>e=.returned (.int .i64 0)∧w'=w:=by
 have h1:(n:Int)≤1:=by omega
 go_enter Tryz.func4,Tryz.ntmps4
 go_wp2;go_ret;exact ⟨rfl,rfl⟩
theorem Ed (w:World) (ao:Option Addr) (cap i n:Nat) (hn:1<n) (hn1:n≤1099511627776) (hi:i≤1099511627776) :
    Calls Tryz.prog 4 #[.slice ao 0 cap,.int .i64 i,.int .i64 n] w fun e w'=>e=.returned (.int .i64 ((i*7 % n:Nat):Int))∧w'=w:=by
 have h1:¬(n:Int)≤1:=by omega
 have h8:((n:Int) == 0)=false:=YH.2 (by omega)
 go_enter Tryz.func4,Tryz.ntmps4
 go_wp2;go_ret;exact ⟨rfl,rfl⟩
theorem tT (w:World) (v:Value) (xs:List Int) (i n:Nat) (h:Rd .u8 w v xs) (hby:∀x ∈ xs,0≤x∧x<256) (hl:xs.length≤1099511627776) (hi:i≤1099511627776) (hn1:n≤1099511627776) :
    Calls Tryz.prog 4 #[v,.int .i64 i,.int .i64 n] w fun e w'=>e=.returned (.int .i64 ((lw xs i n:Nat):Int))∧∃q,w'=w.drewN q:=by
 unfold lw
 by_cases h1:n≤1
 · rw [Z0 h1]
   refine (tU w v i n h1).mono ?_;rintro e w' ⟨rfl,rfl⟩;exact ⟨rfl,0,rfl⟩
 rw [Z1 h1];obtain ⟨ao,cap,rfl,k1,k2,k3⟩:=h
 rcases k3 with rfl | ⟨b,o,rfl,hb,hc⟩
 · rw [Z0 (show ([]:List Int).length=0 from rfl)]
   refine (Ed w ao cap i n (by omega) hn1 hi).mono ?_;rintro e w' ⟨rfl,rfl⟩;exact ⟨rfl,0,rfl⟩
 by_cases h0:xs.length=0
 · rw [Z0 h0,h0]
   refine (Ed w _ cap i n (by omega) hn1 hi).mono ?_;rintro e w' ⟨rfl,rfl⟩;exact ⟨rfl,0,rfl⟩
 rw [Z1 h0];have hlt:i % xs.length<xs.length:=Wg _ (by omega);have hx:=hby _ (YP hlt);have e:xs.getD (i % xs.length) 0=(((xs.getD (i % xs.length) 0).toNat:Nat):Int):=by
  simp only [List.getD,ZF hlt,Xf];omega
 have hc':=hc _ hlt;rw [e] at hc';exact tV w b o xs.length cap i n _ (by omega) hl (by simp only [List.getD,ZF hlt,Xf];omega) hc' hi (by omega) hn1
def QJ (n:Nat):Nat→Code→Code
 | 0,c=>c
 | k+1,.seq (.region i o d) b=>match i == n with
  | true=>.seq (.region i o d) b
  | false=>QJ n k b
 | k+1,.seq (.seq (.region i o d) a) b=>match i == n with
  | true=>.seq (.seq (.region i o d) a) b
  | false=>QJ n k b
 | k+1,.seq _ b=>QJ n k b
 | _,c=>c
def Mn (f:Func):Code:=match f.body with
 | some c=>c
 | none=>.skip
end Go.Proofs.YtpmjnbmkippaiaaGreatDoor


