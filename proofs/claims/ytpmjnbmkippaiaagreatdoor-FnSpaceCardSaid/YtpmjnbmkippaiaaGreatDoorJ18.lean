import Derived.Test.YtpmjnbmkippaiaaGreatDoorJ17
import Derived.WalkMore
import Derived.Conc.SmallLaws
import Derived.Lib.SlBytesConst
set_option maxRecDepth 100000
set_option maxHeartbeats 16000000
set_option linter.unusedVariables false
set_option linter.unusedSimpArgs false
namespace Go.Proofs.YtpmjnbmkippaiaaGreatDoor
open Go.RowKit Go.Shelf
def X0:Uz:=⟨1,0,0,23,(C0:Int)⟩
def Z5:Uz:=⟨0,0,0,0,0⟩
def UP (S:Int) (sn:Nat):List Int:=Lx (Lw S (sn:Int))
def jn (S:Int) (sn:Nat):Dq:=⟨0,X0,0,[ZI],0,0,UP S sn,[]⟩
theorem jm (n:Nat):blk (Lx n) 0=zeros 64:=by
 unfold blk Lx;rw [TK,Qu,YM,YM,zL (Zh 64)]
theorem jl (n:Nat):blk (Lx n) 1=Pu:=by
 unfold blk Lx;rw [Mo,YM,YM,List.drop_left' (Zh 64),zL Xx]
theorem rn (n a:Nat) (ha:151≤a):(Lx n).drop a=zeros (n*64 - a):=by
 unfold Lx;have e:(zeros 64++Pu++I0).length=151:=by simp only [ZA,Zh,Xx,WX]
 rw [pO,Jy (by rw [e];exact ha),e];unfold zeros;rw [List.drop_replicate,Yw,show n*64 - 151 - (a - 151)=n*64 - a by omega]
theorem CK (n a m:Nat) (ha:151≤a) (hm:a+m≤n*64):((Lx n).drop a).take m=zeros m:=by
 rw [rn n a ha];unfold zeros;rw [List.take_replicate,Wh (by omega)]
theorem my (n m:Nat) (h:23≤m):(((Lx n).drop 128).take m).take 23=I0:=by
 unfold Lx;have e:(zeros 64++Pu).length=128:=by simp only [ZA,Zh,Xx]
 rw [YM (zeros 64++Pu),List.drop_left' e,Jt,Wh h,zL WX]
theorem mw (n:Nat):Wm (Lx n):=by
 intro x hx;unfold Lx zeros at hx
 simp only [XP,List.mem_replicate] at hx
 have hs:∀x ∈ Pu,0≤x∧x<256:=by
  have:Pu.all (fun x=>decide (0≤x∧x<256))=true:=by decide +kernel
  intro x hx
  simpa using Se.1 this x hx
 rcases hx with ((⟨-,rfl⟩ | hx) | hx) | ⟨-,rfl⟩
 · decide
 · exact hs x hx
 · exact wt x hx
 decide
theorem jk (S:Int):Kw S (zeros 64)=false:=by
 have:decide (Ss (zeros 64))=false:=by decide +kernel
 unfold Kw;rw [this];rfl
theorem jj {S:Int} (hS:1≤S):Kw S Pu=true:=by
 have h:decide (Ss Pu)=true:=by decide +kernel
 have hl:nL Pu=23:=by decide +kernel
 unfold Kw;rw [h,hl];simp;omega
theorem ji:tf Pu=X0:=by
 have h1:nG Pu=1:=by decide +kernel
 have h2:nB Pu=0:=by decide +kernel
 have h3:nS Pu=0:=by decide +kernel
 have h4:nL Pu=23:=by decide +kernel
 have h5:nC Pu=(C0:Int):=by decide +kernel
 unfold tf X0;rw [h1,h2,h3,h4,h5]
theorem jh:IB I0=some [ZI]:=by kernel_rfl
theorem eV:qF I0 (C0:Int)=some [ZI]:=by
 unfold qF;rw [ZZ (by rfl),jh]
theorem RC {S:Int} {sn:Nat} (hc:YO S (sn:Int)=true):NM S (sn:Int) (UP S sn).length []=true:=by
 obtain ⟨h1,h2,h3⟩:=P8 hc;unfold UP;rw [OS _ (by omega)];refine (VQ _ _ _ _).2 ⟨hc,(Wu _ _).2 ⟨by omega,by omega,by omega,by simp,fun i hi=>by simp at hi⟩,by omega⟩
theorem QB {S:Int} {sn:Nat} (hc:YO S (sn:Int)=true):Qq (UP S sn) []=UP S sn:=by
 obtain ⟨-,hv,-⟩:=(VQ _ _ _ _).1 (RC hc);unfold Qq;rw [ZZ hv];rfl
theorem AB {S:Int} {sn:Nat} (hc:YO S (sn:Int)=true):eW (UP S sn) [] S sn (UP S sn).length (-1):=by
 obtain ⟨h1,h2,h3⟩:=P8 hc;refine ⟨RC hc,by simp,by rw [QB hc];exact mw _,by rw [QB hc],?_,by decide⟩;unfold UP;rw [OS _ (by omega)];omega
theorem mv {S:Int} {sn:Nat} (hc:YO S (sn:Int)=true):gW (UP S sn) [] S (sn:Int) 0 true=zeros (sn*64):=by
 obtain ⟨h1,h2,h3⟩:=P8 hc;obtain ⟨⟨hS1,hS2⟩,hL1,hL2⟩:=(Zg S sn).1 hc;rw [Do (RC hc) (by decide),QB hc,Ww];unfold PC UP;refine CK _ _ _ ?_ ?_ <;> unfold VJ <;> simp <;> omega
theorem Gj (f:Int) (l:List Int):∀(n b:Nat),U9 f l l b n=[]
 | 0,b=>rfl
 | n+1,b=>by rw [U9,ZZ rfl,Gj f l n (b+1)];rfl
structure Rf (w W:World) (b g N C Z:Nat) (vd:Value) (D:List Int):Prop where
 YU:ZX w W
 dk:Own .u8 5 W w.heap.size vd D
 pw:W.heap[Z]?=some (.cells #[.int .i64 0,.slice none 0 0] 132 (0,0))
 Zy:w.heap.size≤Z
 ct:Own .u8 5 W w.heap.size (.slice (some ⟨g,0,none⟩) N C) D
 tab:TF W
 lo:w.heap.size≤b
 b0:0<b
 ne1:vd.ownBlock≠some b
 Zx:Z≠b
 Zw:g≠b
theorem Rf.tw {w W W':World} {b g N C Z:Nat} {vd:Value} {D:List Int} (h:Rf w W b g N C Z vd D) (t:Tw W b none W' none) (hz:0<W.heap.size):Rf w W' b g N C Z vd D:=by
 refine ⟨h.YU.trans (t.below h.YU.size (by have:=h.lo;omega) (fun g e=>by cases e)),?_,?_,h.Zy,?_,?_,h.lo,h.b0,h.ne1,h.Zx,h.Zw⟩
 · exact h.dk.Pj t.Pj (fun q e=>by cases e;exact h.ne1)
 · exact (t.block Z (Yh.mp h.pw).1 h.Zx (by simp)).trans h.pw
 · exact h.ct.Pj t.Pj (fun q e=>by cases e;simpa [Value.ownBlock] using h.Zw)
 intro i hi;have hb:=h.b0;exact (Zj (w:=W) (a:=⟨0,i,none⟩) (t.block 0 hz (by omega) (by simp))).trans (h.tab i hi)
def iA (w:World) (b g N C Z:Nat) (vd:Value) (S:Int) (sn:Nat) (n:Int) (W:World):Prop :=
 Rf w W b g N C Z vd (UP S sn) ∧
 ((n=0∧St W b (So S (sn:Int) vd (.slice (some ⟨Z,0,none⟩) 0 1) (-1) 0 (.slice (some ⟨g,0,none⟩) N C) false Z5 false Z5 0 (.slice none 0 0) 0 0 0)) ∨
 (n=1∧St W b (So S (sn:Int) vd (.slice (some ⟨Z,0,none⟩) 0 1) (-1) 0 (.slice (some ⟨g,0,none⟩) N C) true X0 false Z5 0 (.slice none 0 0) 0 0 0)) ∨
 ((n=3∨n=6)∧∃ta tc,St W b (So S (sn:Int) vd (.slice (some ⟨Z,0,none⟩) 0 1) (-1) 0 (.slice (some ⟨g,0,none⟩) N C) true X0 false Z5 0 (.slice ta 1 tc) 0 0 0)∧Zz 147 W w.heap.size (.slice ta 1 tc) [ZI]∧Value.ownBlock (.slice ta 1 tc)≠some b))
def Ek (w:World) (b g N C Z:Nat) (vd:Value) (S:Int) (sn:Nat) (n:Int) (e:Ending) (w':World):Prop :=
 ∃n',e=.returned (.int .i64 n')∧n<n'∧n'≤6∧iA w b g N C Z vd S sn n' w'
def Ej (w:World) (S:Int) (sn:Nat) (e:Ending) (w':World):Prop :=
 ∃vt v1 Z,e=.returned (.agg (qG (jn S sn) vt v1 (.slice (some ⟨Z,0,none⟩) 0 1)))∧Zz 147 w' w.heap.size vt [ZI]∧Own .u8 5 w' w.heap.size v1 (UP S sn)∧w.heap.size≤Z∧w'.heap[Z]?=some (.cells #[.int .i64 0,.slice none 0 0] 132 (0,0))∧ZX w w'
section
variable {w W:World} {b g N C Z:Nat} {vd:Value} {S:Int} {sn:Nat}
theorem rm (hc:YO S (sn:Int)=true) (hN:(UP S sn).length=N) (h:Rf w W b g N C Z vd (UP S sn))
    (hs:St W b (So S (sn:Int) vd (.slice (some ⟨Z,0,none⟩) 0 1) (-1) 0 (.slice (some ⟨g,0,none⟩) N C) false Z5 false Z5 0 (.slice none 0 0) 0 0 0)) :
    Calls Tryz.prog 39 #[.pointer (some ⟨b,0,none⟩)] W (Ek w b g N C Z vd S sn 0):=by
 have H:=AB hc;rw [hN] at H;obtain ⟨-,xS,uG,hS,hs1,hs2⟩:=H.facts;have hr:=h.ct.rd;have hl:=H.len;have hb:=H.eB;rw [QB hc] at hl hb;refine (xO W b g N C S sn vd _ (-1) 0 _ false _ false _ 0 _ 0 0 0 (UP S sn) rfl hs hr hb hl H.n9 uG hS).mono ?_;have e0:blk (UP S sn) 0=zeros 64:=jm _;have e1:blk (UP S sn) 1=Pu:=jl _;rw [e0,e1,jk,jj hS.1,oe (jk S),sR (jj hS.1),ji];rintro e w' ⟨xg,x,yg,y,rfl,s',t',⟨h1,-⟩ | ⟨-,rfl,rfl,rfl,rfl⟩⟩
 · exact absurd (show (0:Int)<1 by decide) h1
 exact ⟨1,by simp,by omega,by omega,h.tw t' (zJ (Zu _) hs.lt),.inr (.inl ⟨rfl,s'⟩)⟩
theorem mt (hc:YO S (sn:Int)=true) (hN:(UP S sn).length=N) (h:Rf w W b g N C Z vd (UP S sn))
    (hs:St W b (So S (sn:Int) vd (.slice (some ⟨Z,0,none⟩) 0 1) (-1) 0 (.slice (some ⟨g,0,none⟩) N C) true X0 false Z5 0 (.slice none 0 0) 0 0 0)) :
    Calls Tryz.prog 40 #[.pointer (some ⟨b,0,none⟩)] W (Ek w b g N C Z vd S sn 1):=by
 have H:=AB hc;rw [hN] at H;obtain ⟨-,xS,uG,hS,hs1,hs2⟩:=H.facts;have hl:=H.len;have hb:=H.eB;have hK:=P8 hc;rw [QB hc] at hl hb;have hz:=zJ (Zu _) hs.lt;have hct:∀W',Tw W b none W' none→Rd .u8 W' (.slice (some ⟨g,0,none⟩) N C) (UP S sn):=fun W' t=>by
  exact (h.tw t hz).ct.rd
 have lU:N≤C∧C≤maxLen:=by
  obtain ⟨a8,c8,h8,h7,h6⟩:=(hct W (Tw.refl W b none)).len
  simp only [Y4] at h8
  obtain ⟨-,h5,rfl⟩:=h8;omega
 have Zt:N=Lw S (sn:Int)*64:=by rw [←hN];exact OS _ (by omega)
 have ef:(VJ S (sn:Int) 0 true).toNat=2+S.toNat:=by unfold VJ;simp;omega
 refine (Gk W b g N C S sn vd _ (-1) 0 _ true X0 false Z5 0 _ 0 0 0 (UP S sn) hs rfl hct hb hl H.n9 hc xS h.tab h.b0 [ZI] ?_ [ZI] 0 0 0 ?_ (by decide) (by show (0:Int)≤23∧(23:Int)≤S*64;omega)).mono ?_
 · have e:(VJ S (sn:Int) X0.b false).toNat=2:=by show (VJ S (sn:Int) 0 false).toNat=2;unfold VJ;simp
   rw [e];show qF ((((Lx (Lw S (sn:Int))).drop 128).take (S.toNat*64)).take 23) (C0:Int)=_;rw [my _ _ (by omega)];exact eV
 · intro W' ta tc hT hR hs'
   refine JW W' b g N C S sn 0 0 ta tc [ZI] (UP S sn) [ZI] 0 0 0 (fun W2 hb2=>?_) (hs'.cl 0 _ rfl) (hs'.cl 1 _ rfl) (hs'.cl 6 _ rfl) hs'.lt (hct W' hT) hb hl H.n9 hc xS (by decide);have hr2:=(hct W' hT).below hb2;have hcell:=Rd.part hr2 hl ((VJ S (sn:Int) 0 true).toNat*64) ((sn:Int).toNat*64) (by rw [ef,Ww];omega);refine Gm W2 ta tc [ZI] g _ _ _ (hR.below hb2) QK ?_ (by rw [Ww];omega) (by rw [ef,Ww];omega) (by omega) (by rw [Ww];omega);obtain ⟨a8,c8,e8,-,-,h3⟩:=hcell
   simp only [Y4] at e8
   have hz0:(((UP S sn).drop ((VJ S (sn:Int) 0 true).toNat*64)).take ((sn:Int).toNat*64))=zeros ((sn:Int).toNat*64):=by
    unfold UP;exact CK _ _ _ (by rw [ef];omega) (by rw [ef,Ww];omega)
   rw [hz0] at h3
   rcases h3 with h3 | ⟨b9,o9,e9,-,h3⟩
   · have:=ZR List.length h3
     rw [Zh,Ww] at this
     simp at this;omega
   rw [←e8.1] at e9;have h4:=h3 0 (by rw [Zh,Ww];omega)
   simp only [Zo,JB,TJ] at e9
   rw [←e9.1,←e9.2] at h4
   simp only [Wi,YK] at h4
   rw [h4];have:0<sn*64:=by omega
   simp [zeros,List.getD,this]
 rintro e w' ⟨t',va,JC,rfl,s',o'⟩;refine ⟨3,rfl,by omega,by omega,h.tw t' hz,.inr (.inr ⟨.inl rfl,va,JC,s',Zz.mono o' (by have:=h.lo;have:=hs.lt;omega),?_⟩)⟩;intro e;have:=(ZD o' b e).1;have:=hs.lt;omega
theorem mr (hc:YO S (sn:Int)=true) (hN:(UP S sn).length=N) (h:Rf w W b g N C Z vd (UP S sn)) {ta:Option Addr} {tc:Nat}
    (hs:St W b (So S (sn:Int) vd (.slice (some ⟨Z,0,none⟩) 0 1) (-1) 0 (.slice (some ⟨g,0,none⟩) N C) true X0 false Z5 0 (.slice ta 1 tc) 0 0 0)) (hn:Zz 147 W w.heap.size (.slice ta 1 tc) [ZI]) (hne:Value.ownBlock (.slice ta 1 tc)≠some b) :
    Calls Tryz.prog 42 #[.pointer (some ⟨b,0,none⟩)] W (Ek w b g N C Z vd S sn 3):=by
 have H:=AB hc;rw [hN] at H;obtain ⟨-,xS,uG,hS,hs1,hs2⟩:=H.facts;have hl:=H.len;rw [QB hc] at hl;have hK:=P8 hc;have Zt:N=Lw S (sn:Int)*64:=by rw [←hN];exact OS _ (by omega)
 have ef:VJ S (sn:Int) 0 true=((2+S.toNat:Nat):Int):=by unfold VJ;simp;omega
 have Z2:=mv hc;rw [Do (RC hc) (by decide),QB hc,Ww,ef,Ww] at Z2;refine (MA W b (fun W2 hb2=>?_)).mono ?_
 · have Zs:=hs.below hb2
   have h9:=Ii W2 b g N C (2+S.toNat) S sn vd _ (-1) 0 _ true X0 false Z5 0 _ 0 0 0 (UP S sn) Zs rfl (h.ct.below hb2).rd hl H.n9 hc (by decide) ef (by omega) (by omega) hs2 (by omega);rw [Z2] at h9;have e9:QW (zeros (sn*64)) 0=zeros (sn*64):=by unfold QW;simp [Zh]
   rw [e9,Gj] at h9;exact h9
 rintro e w' ⟨rfl,b'⟩;have t':Tw W b none w' none:=Tw.ZV b' _ _;exact ⟨6,rfl,by omega,by omega,h.tw t' (zJ (Zu _) hs.lt),.inr (.inr ⟨.inr rfl,ta,tc,hs.below b',hn.below b',hne⟩)⟩
theorem mq {n:Int} (h:iA w b g N C Z vd S sn n W) (h4:4≤n) :
    n=6∧Calls Tryz.prog 43 #[.pointer (some ⟨b,0,none⟩),.int .i64 6] W (Ej w S sn):=by
 obtain ⟨hr,h⟩:=h
 rcases h with ⟨rfl,-⟩ | ⟨rfl,-⟩ | ⟨hn,ta,tc,hs,ho,hne⟩
 iterate 2 omega
 refine ⟨by omega,?_⟩;obtain ⟨a,c,rfl⟩:=hr.dk.slice;refine (BT _ _ _ _ _ _ _ _ _ _ _ _ _ _ _ _ _ _ _ _ _ _ _ _ hs).mono ?_;rintro e w' ⟨rfl,b'⟩;exact ⟨_,_,Z,rfl,ho.below b',hr.dk.below b',hr.Zy,(b'.block Z (Yh.mp hr.pw).1).trans hr.pw,hr.YU.trans (b'.mono hr.YU.size)⟩
end
theorem Gi (w:World) (v1:Value) (S:Int) (sn:Nat) (ZQ:List Int) (RES:Dq) (M:ZQ=UP S sn) (ZY:RES=jn S sn) (hcf:YO S (sn:Int)=true) (hd:Rd .u8 w v1 ZQ) (htab:TF w) (h0:0<w.heap.size) :
    Calls Tryz.prog 19 #[.agg #[v1,.slice none 0 0],.agg #[.int .i64 S,.int .i64 (sn:Int)],.int .i64 (-1)] w (Ej w S sn):=by
 obtain ⟨ao,ca,rfl,-⟩:=hd.len;have hp:MZ w (.slice none 0 0) []:=⟨none,0,rfl,ZT,by decide,.inl rfl⟩;have hfit:NM S (sn:Int) ZQ.length []=true:=by rw [M];exact RC hcf
 have hdl:ZQ.length≤1048576:=by rw [M];exact (AB hcf).n9
 have Ot:∀i,(pD ([]:List (Int × List Int)) i).length≤1048576:=fun i=>by simp [pD]
 obtain ⟨-,hv,hdz⟩:=(VQ S sn ZQ.length []).1 hfit;have lM:=Z3 hcf;have S0:Hid (Ad w (.slice ao ZQ.length ca) (.slice none 0 0) S (sn:Int) (((w.alloc (.cells #[.slice ao ZQ.length ca,.slice none 0 0] 52)).alloc (.cells #[.int .i64 S,.int .i64 (sn:Int)] 25)).alloc (.cells #[.int .i64 0,.int .i64 0,.int .i64 0,.int .i64 0,.int .i64 0,.int .i64 0,.int .i64 0,.slice none 0 0,.int .i64 0,.int .i64 0,.slice none 0 0,.slice none 0 0] 65))):=Ad.new _ _ _ _ _;have HF:Hid (∀W,ZX w W→Calls Tryz.prog 36 #[.agg #[.slice ao ZQ.length ca,.slice none 0 0],.agg #[.int .i64 S,.int .i64 (sn:Int)]] W (YI W (.bool true))):=by
  intro W hW;have h9:=Sp W ao none ZQ.length ca 0 0 [] S sn (hp.below hW) rfl hdl (Zu _) Ot;rw [hfit] at h9;exact h9
 have hsy:Qq ZQ []=ZQ:=by rw [M];exact QB hcf
 have Zr:Hid (∀W,ZX w W→Calls Tryz.prog 37 #[.agg #[.slice ao ZQ.length ca,.slice none 0 0]] W fun e w'=>∃a c g,e=.returned (.agg #[.slice a ZQ.length c,.slice (some ⟨g,0,none⟩) 0 1])∧Own .u8 5 w' W.heap.size (.slice a ZQ.length c) ZQ∧W.heap.size≤g∧w'.heap[g]?=some (.cells #[.int .i64 0,.slice none 0 0] 132 (0,0))∧ZX W w'):=fun W hW=>JU W ao ZQ.length ca ZQ (hd.below hW) rfl hdl
 have G:Hid (∀W,ZX w W→Calls Tryz.prog 38 #[.agg #[.slice ao ZQ.length ca,.slice none 0 0]] W fun e w'=>∃u,e=.returned u∧Own .u8 5 w' W.heap.size u ZQ∧ZX W w'):=fun W hW=>by
  have h9:=PB W _ _ ZQ [] (hd.below hW) (hp.below hW) hdl (by simp) Ot;rw [hsy] at h9;exact h9
 have eP:¬(1936:Int)<(0:Int):=by omega
 obtain ⟨⟨hS1,hS2⟩,hL1,hL2⟩:=(Zg S sn).1 hcf;have hpos:0<ZQ.length:=by omega
 have wZ:=Z3 ZY;have Zq:=Z3 htab;have U:=Z3 M;clear ZY hd hp Ot htab hv hfit hdz hcf M
 go_enter Tryz.func19,Tryz.ntmps19
 go_wp2_with fail
 refine wp_scope_straight ?_
 go_wp2_with fail
 generalize ((w.alloc _).alloc _).alloc _=w0 at *;refine (HF.out _ S0.out.YU).mono ?_;rintro e w1 ⟨rfl,b1⟩;have S1:=Z3 (S0.out.below b1);clear b1 S0 HF;have q1:=S1.out.d1
 go_wp2_with fail
 clear q1;have Zn:=Z3 (S1.out.below (below_drewN' w1 1));refine ZH (S:=Ad w (.slice ao ZQ.length ca) (.slice none 0 0) S (sn:Int)) (by kernel_rfl) (Zn.out) (fun Z9=>?_);refine ZW (.agg #[.int .i64 S,.int .i64 (sn:Int)]) (by kernel_rfl) (fun _=>id) Z9 ?_ ?_
 · intro w9 Z0;obtain ⟨-,-,d0,d1,c0,c1,-⟩:=Z0;go_simp
 refine ZW (.agg #[.slice ao ZQ.length ca,.slice none 0 0]) (by kernel_rfl) (fun _=>id) Z9 ?_ ?_
 · intro w9 Z0;obtain ⟨-,-,d0,d1,c0,c1,-⟩:=Z0;go_simp
 refine ZG 3 (.int .i64 (-1)) rfl (by kernel_rfl) (fun _=>id) Z9 ?hy3 ?_
 case hy3=>intro w9 Z0;obtain ⟨-,-,d0,d1,c0,c1,-⟩:=Z0;go_simp
 refine ZG 5 (.agg #[.slice ao ZQ.length ca,.slice none 0 0]) rfl (by kernel_rfl) (fun _=>id) Z9 ?hy4 ?_
 case hy4=>intro w9 Z0;obtain ⟨-,-,d0,d1,c0,c1,-⟩:=Z0;go_simp
 refine ZU 2 rfl (by kernel_rfl) (fun K hK=>?_);go_simp;refine (Zr.out _ Z9.YU).mono ?_;rintro e w3 ⟨da,dc,Z,rfl,o3,Zk,Zi,b3⟩;have hN:=Z9.below b3;have B3:=Z3 ((below_drewN' w1 1).trans (b3.mono ZT));have D3:Hid (Own .u8 5 w3 w1.heap.size (.slice da ZQ.length dc) ZQ):=o3;have Z':Hid (w3.heap[Z]?=some (.cells #[.int .i64 0,.slice none 0 0] 132 (0,0))∧w1.heap.size≤Z):=⟨Zi,Zk⟩;clear o3 b3 Zk Zi;refine hK.out _ _ hN (fun ZM=>?_);clear hK K Z9;have Z9:=ZM;clear ZM;refine ZG 4 (.agg #[.slice da ZQ.length dc,.slice (some ⟨Z,0,none⟩) 0 1,.int .i64 (-1),.int .i64 0]) rfl (by kernel_rfl) (fun _=>id) Z9 ?FE ?_
 case FE=>intro w9 Z0;obtain ⟨-,-,d0,d1,c0,c1,-⟩:=Z0;go_simp
 refine ZU 6 rfl (by kernel_rfl) (fun K hK=>?_);go_simp;refine (G.out _ Z9.YU).mono ?_;rintro e w4 ⟨u4,rfl,o4,b4⟩;obtain ⟨cg,C,rfl,Zf,Ze⟩:=o4.pos rfl hpos;have hN:=Z9.below b4;have s3:=B3.out.size;have B4:=Z3 (B3.out.trans (b4.mono s3));have C4:=Z3 (o4.mono s3);have D4:=Z3 (Own.below D3.out b4);have E:Hid (w4.heap[Z]?=some (.cells #[.int .i64 0,.slice none 0 0] 132 (0,0))∧w1.heap.size≤Z∧Z<w4.heap.size):=by
  have l9:=(Yh.mp Z'.out.1).1;exact ⟨(b4.block Z l9).trans Z'.out.1,Z'.out.2,ZL l9 b4.size⟩
 clear o4 b4 B3 D3 Z';refine hK.out _ _ hN (fun ZM=>?_);clear hK K Z9;have Z9:=ZM;clear ZM;refine ZW (.agg #[.int .i64 S,.int .i64 (sn:Int),.slice da ZQ.length dc,.slice (some ⟨Z,0,none⟩) 0 1,.int .i64 (-1),.int .i64 0,.slice (some ⟨cg,0,none⟩) ZQ.length C,.bool false,.int .i64 0,.int .i64 0,.int .i64 0,.int .i64 0,.int .i64 0,.bool false,.int .i64 0,.int .i64 0,.int .i64 0,.int .i64 0,.int .i64 0,.int .i64 0,.slice none 0 0,.int .i64 0,.int .i64 0,.int .i64 0]) (by kernel_rfl) (fun _=>id) Z9 ?_ ?_
 · intro w9 Z0;obtain ⟨-,-,d0,d1,c0,c1,-⟩:=Z0;go_simp
 refine ZU 8 rfl (by kernel_rfl) (fun K hK=>?_);have bA:ZX w4 (w4.alloc (.cells #[.int .i64 S,.int .i64 (sn:Int),.slice da ZQ.length dc,.slice (some ⟨Z,0,none⟩) 0 1,.int .i64 (-1),.int .i64 0,.slice (some ⟨cg,0,none⟩) ZQ.length C,.bool false,.int .i64 0,.int .i64 0,.int .i64 0,.int .i64 0,.int .i64 0,.bool false,.int .i64 0,.int .i64 0,.int .i64 0,.int .i64 0,.int .i64 0,.int .i64 0,.slice none 0 0,.int .i64 0,.int .i64 0,.int .i64 0] 101)):=ZJ.alloc ZT _;have hN:=Z9.below bA;have s4:=B4.out.size;have s5:w4.heap.size<(w4.alloc (.cells #[.int .i64 S,.int .i64 (sn:Int),.slice da ZQ.length dc,.slice (some ⟨Z,0,none⟩) 0 1,.int .i64 (-1),.int .i64 0,.slice (some ⟨cg,0,none⟩) ZQ.length C,.bool false,.int .i64 0,.int .i64 0,.int .i64 0,.int .i64 0,.int .i64 0,.bool false,.int .i64 0,.int .i64 0,.int .i64 0,.int .i64 0,.int .i64 0,.int .i64 0,.slice none 0 0,.int .i64 0,.int .i64 0,.int .i64 0] 101)).heap.size:=by simp
 have Zd:Hid (iA w1 w4.heap.size cg ZQ.length C Z (.slice da ZQ.length dc) S sn 0 (w4.alloc (.cells #[.int .i64 S,.int .i64 (sn:Int),.slice da ZQ.length dc,.slice (some ⟨Z,0,none⟩) 0 1,.int .i64 (-1),.int .i64 0,.slice (some ⟨cg,0,none⟩) ZQ.length C,.bool false,.int .i64 0,.int .i64 0,.int .i64 0,.int .i64 0,.int .i64 0,.bool false,.int .i64 0,.int .i64 0,.int .i64 0,.int .i64 0,.int .i64 0,.int .i64 0,.slice none 0 0,.int .i64 0,.int .i64 0,.int .i64 0] 101))):=by
  have hs:St (w4.alloc (.cells #[.int .i64 S,.int .i64 (sn:Int),.slice da ZQ.length dc,.slice (some ⟨Z,0,none⟩) 0 1,.int .i64 (-1),.int .i64 0,.slice (some ⟨cg,0,none⟩) ZQ.length C,.bool false,.int .i64 0,.int .i64 0,.int .i64 0,.int .i64 0,.int .i64 0,.bool false,.int .i64 0,.int .i64 0,.int .i64 0,.int .i64 0,.int .i64 0,.int .i64 0,.slice none 0 0,.int .i64 0,.int .i64 0,.int .i64 0] 101)) w4.heap.size (So S (sn:Int) (.slice da ZQ.length dc) (.slice (some ⟨Z,0,none⟩) 0 1) (-1) 0 (.slice (some ⟨cg,0,none⟩) ZQ.length C) false Z5 false Z5 0 (.slice none 0 0) 0 0 0):=St.new w4 _ _;have bW:=B4.out.trans (bA.mono s4);have hz1:=S1.out.lt;have Zc:=Zq.out.below h0 (S1.out.YU.trans (bW.mono S1.out.YU.size));have Lc:∀v:Value,(∀g,v.ownBlock=some g→g<w4.heap.size)→v.ownBlock≠some w4.heap.size:=fun v h e=>by have:=h _ e;omega
  refine ⟨?_,.inl ⟨rfl,hs⟩⟩;rw [←U.out];exact ⟨bW,Own.below D4.out bA,(bA.block Z E.out.2.2).trans E.out.1,E.out.2.1,Own.below C4.out bA,Zc,s4,by omega,Lc _ (fun g hg=>(ZD D4.out g hg).2),by have:=E.out.2.2;omega,by omega⟩
 clear bA;go_simp;refine hK.out _ _ hN (fun ZM=>?_);clear hK K Z9;have Z9:=ZM;clear ZM;refine ZW (.pointer (some ⟨w4.heap.size,0,none⟩)) (by kernel_rfl) (fun _=>id) Z9 ?YH ?_
 case YH =>
  intro w9 Z0;clear Z0;go_simp
 refine ZP (by kernel_rfl) ?_ _
 try simp only [Act.put,Y8,Y7,Y6]
 have S5:Hid (Ad w (.slice ao ZQ.length ca) (.slice none 0 0) S (sn:Int) (w4.alloc (.cells #[.int .i64 S,.int .i64 (sn:Int),.slice da ZQ.length dc,.slice (some ⟨Z,0,none⟩) 0 1,.int .i64 (-1),.int .i64 0,.slice (some ⟨cg,0,none⟩) ZQ.length C,.bool false,.int .i64 0,.int .i64 0,.int .i64 0,.int .i64 0,.int .i64 0,.bool false,.int .i64 0,.int .i64 0,.int .i64 0,.int .i64 0,.int .i64 0,.int .i64 0,.slice none 0 0,.int .i64 0,.int .i64 0,.int .i64 0] 101))):=Z9;clear Z9 hN Zr G Zn B4 C4 D4 E Zq Zf Ze;generalize w4.alloc _=w5 at *;generalize hrb:w4.heap.size=rb at *;clear hrb;have hz1:=S1.out.lt;go_wp2;refine wp_label ?_;go_wp2
 go_loopw [8] (fun vn wr=>∃n:Int,vn=.int .i64 n∧0≤n∧n≤6∧Hid (iA w1 rb cg ZQ.length C Z (.slice da ZQ.length dc) S sn n wr)) (fun vn _=>(7 - intOf vn).toNat)
 case atStart=>exact ⟨0,rfl,by omega,by omega,Zd⟩
 case round =>
  clear Zd S5;obtain ⟨n,rfl,hn0,Yy,RV⟩:=hrel
  by_cases h4:n<4
  · rcases RV.out with ⟨p1,⟨rfl,p2⟩ | ⟨rfl,p2⟩ | ⟨rfl | rfl,ta,tc,p2,p3,p4⟩⟩
    · have HC:=Z3 (rm lM.out (by rw [U.out]) p1 p2)
      clear RV
      go_wp2_with fail
      refine HC.out.mono ?_;rintro e w7 ⟨n',rfl,q1,q2,r7⟩;have R7:=Z3 r7;clear HC r7;go_wp2
      go_roundw
      case rel=>exact ⟨n',rfl,by omega,q2,R7⟩
      case measure=>simp [intOf];omega
    · have HC:=Z3 (mt lM.out (by rw [U.out]) p1 p2)
      clear RV
      go_wp2_with fail
      refine HC.out.mono ?_;rintro e w7 ⟨n',rfl,q1,q2,r7⟩;have R7:=Z3 r7;clear HC r7;go_wp2
      go_roundw
      case rel=>exact ⟨n',rfl,by omega,q2,R7⟩
      case measure=>simp [intOf];omega
    · have HC:=Z3 (mr lM.out (by rw [U.out]) p1 p2 p3 p4)
      clear RV
      go_wp2_with fail
      refine HC.out.mono ?_;rintro e w7 ⟨n',rfl,q1,q2,r7⟩;have R7:=Z3 r7;clear HC r7;go_wp2
      go_roundw
      case rel=>exact ⟨n',rfl,by omega,q2,R7⟩
      case measure=>simp [intOf];omega
    omega
  have e0:(n == 0)=false:=by rw [Vy];omega
  have e1:(n == 1)=false:=by rw [Vy];omega
  have e2:(n == 2)=false:=by rw [Vy];omega
  have e3:(n == 3)=false:=by rw [Vy];omega
  obtain ⟨h6,hE⟩:=mq RV.out (by omega);have HE:=Z3 hE;clear hE RV;subst h6
  go_wp2_with fail
  clear e0 e1 e2 e3;refine HE.out.mono ?_;rintro e w7 ⟨vt,x1,I,rfl,o7,d7,Yx,YF,b7⟩;obtain ⟨xa,xc,rfl⟩:=d7.slice;obtain ⟨ta,tc,Zb⟩:=Zz.Vc o7;have Y':vt=.slice ta 1 tc:=Zb;clear Zb;subst Y';rw [←wZ.out];rw [←U.out] at d7 ⊢;have X7:=FY.below S1.out.rx b7;have FIN:Hid (Ej w S sn (.returned (.agg (qG RES (.slice ta 1 tc) (.slice xa ZQ.length xc) (.slice (some ⟨I,0,none⟩) 0 1)))) (Us w7 (w.heap.size+1+1) RES (.slice ta 1 tc) (.slice xa ZQ.length xc) (.slice (some ⟨I,0,none⟩) 0 1))):=by
   have gR:w7.grownBy (Us w7 (w.heap.size+1+1) RES (.slice ta 1 tc) (.slice xa ZQ.length xc) (.slice (some ⟨I,0,none⟩) 0 1)) (some (w.heap.size+1+1)):=by
    unfold Us;exact (grownBy_set _ _ (w.heap.size+1+1) 11 (.slice (some ⟨I,0,none⟩) 0 1) (grownBy_set _ _ (w.heap.size+1+1) 10 (.slice xa ZQ.length xc) (grownBy_set _ _ (w.heap.size+1+1) 9 (.int .i64 RES.ops) (grownBy_set _ _ (w.heap.size+1+1) 8 (.int .i64 RES.used) (grownBy_set _ _ (w.heap.size+1+1) 7 (.slice ta 1 tc) (grownBy_set _ _ (w.heap.size+1+1) 6 (.int .i64 RES.zx) (grownBy_set _ _ (w.heap.size+1+1) 5 (.int .i64 RES.sp.c) (grownBy_set _ _ (w.heap.size+1+1) 4 (.int .i64 RES.sp.l) (grownBy_set _ _ (w.heap.size+1+1) 3 (.int .i64 RES.sp.s) (grownBy_set _ _ (w.heap.size+1+1) 2 (.int .i64 RES.sp.b) (grownBy_set _ _ (w.heap.size+1+1) 1 (.int .i64 RES.sp.g) (grownBy_set _ _ (w.heap.size+1+1) 0 (.int .i64 RES.code) (YT _ _)))))))))))))
   have hB:=S1.out.YU.trans (b7.mono S1.out.YU.size);refine ⟨_,_,I,by rw [wZ.out],Zz.mono (Yu o7 gR (.inr (fun e=>by have:=(ZD o7 _ e).1;omega))) (by omega),?_,by omega,(En RES _ _ _ (by omega)).trans YF,hB.grown gR (by have:=hB.size;omega) (fun q e=>by injection e with e;omega)⟩;rw [←U.out];exact Own.mono (Yu d7 gR (.inr (fun e=>by have:=(ZD d7 _ e).1;omega))) (by omega)
  obtain ⟨c0,c1,c2,c3,c4,c5,c6,c7,c8,c9,c10,c11⟩:=X7.cells;dsimp only [oA] at c0 c1 c2 c3 c4 c5 c6 c7 c8 c9 c10 c11;have fz:=X7.frozen;have f0:=fz 0;have f1:=fz 1;have f2:=fz 2;have f3:=fz 3;have f4:=fz 4;have f5:=fz 5;have f6:=fz 6;have f7:=fz 7;have f8:=fz 8;have f9:=fz 9;have f10:=fz 10;have f11:=fz 11;obtain ⟨e0,e1,e2,e3,e4,e5,e6,e7,e8,e9,e10,e11⟩:=Eo (r:=RES) (vt:=.slice ta 1 tc) (v1:=.slice xa ZQ.length xc) (v2:=.slice (some ⟨I,0,none⟩) 0 1) X7;unfold Us qG at FIN;unfold Us at e0 e1 e2 e3 e4 e5 e6 e7 e8 e9 e10 e11;unfold qG;clear fz X7 HE o7 d7 b7;go_wp2;generalize ((((((((((((w7).setCell _ _).setCell _ _).setCell _ _).setCell _ _).setCell _ _).setCell _ _).setCell _ _).setCell _ _).setCell _ _).setCell _ _).setCell _ _).setCell _ _=wE at *;unfold Exit.noGoto;dsimp only;exact ZS (v:=.agg #[.int .i64 RES.code,.int .i64 RES.sp.g,.int .i64 RES.sp.b,.int .i64 RES.sp.s,.int .i64 RES.sp.l,.int .i64 RES.sp.c,.int .i64 RES.zx,.slice ta 1 tc,.int .i64 RES.used,.int .i64 RES.ops,.slice xa ZQ.length xc,.slice (some ⟨I,0,none⟩) 0 1]) (by simp [results,Tryz.results19,go_sem,e0,e1,e2,e3,e4,e5,e6,e7,e8,e9,e10,e11]) rfl FIN.out
def mn (w:World) (base:Nat) (v:Value) (D:List Int) (f l:Nat):Prop:=∃g C,v=.slice (some ⟨g,f*64,none⟩) (l*64) (C - f*64)∧Own .u8 5 w base (.slice (some ⟨g,0,none⟩) D.length C) D∧D.length≤C
theorem Gh (w:World) (ao bo:Option Addr) (dl ca n cb:Nat) (ZQ:List Int) (ps:List (Int × List Int)) (S L Za:Int) (log:Bool) (hd:Rd .u8 w (.slice ao dl ca) ZQ) (hdl:ZQ.length=dl) (hp:MZ w (.slice bo n cb) ps) (hl:ps.length=n) (hd1:dl≤1048576) (hn:n≤1048576) (Ot:∀i,(pD ps i).length≤1048576)
    (hok:Im S L dl ps Za=true) :
    Calls Tryz.prog 35 #[.agg #[.slice ao dl ca,.slice bo n cb],.agg #[.int .i64 S,.int .i64 L],.int .i64 Za,.bool log] w fun e w'=>∃v',e=.returned v'∧mn w' w.heap.size v' (Qq ZQ ps) (VJ S L Za log).toNat (LM S L log).toNat∧ZX w w':=by
 have HD:Hid (Rd .u8 w (.slice ao dl ca) ZQ):=hd;have SM:Hid (ZQ.length=dl):=hdl;have HP:Hid (MZ w (.slice bo n cb) ps):=hp;have HL:Hid (ps.length=n):=hl;have Cq:Hid (∀i,(pD ps i).length≤1048576):=Ot;obtain ⟨f,l,hf,hl',hf2,hl1,hl2,hfl,vF,Yv⟩:=kH (log:=log) hok;have h1:=((QX ..).1 hok).1;have hb0:=((QX ..).1 hok).2.1;have hb1:=((QX ..).1 hok).2.2;have HF:Hid (NM S L dl ps=true):=h1;have HC:Hid (YO S L=true):=((VQ ..).1 h1).1;have HV:Hid (Vf dl ps=true):=((VQ ..).1 h1).2.1;rw [hf,hl',Ww,Ww];have rN:Hid ((Qq ZQ ps).length=dl):=by show _=_;rw [NK (by rw [SM.out];exact HV.out),SM.out]
 have To:Hid ((PC (Qq ZQ ps) f l).length=l*64):=RN _ _ _ (by rw [rN.out];exact vF);have G:Hid (∀(W:World),VP w ao bo dl ca n cb S L W→Calls Tryz.prog 38 #[.agg #[.slice ao dl ca,.slice bo n cb]] W fun e w'=>∃g c,e=.returned (.slice (some ⟨g,0,none⟩) dl c)∧Hid (Own .u8 5 w' w.heap.size (.slice (some ⟨g,0,none⟩) dl c) (Qq ZQ ps))∧(dl≤c∧c≤maxLen)∧ZX W w'):=by
  intro W hF;refine (PB W _ _ ZQ ps (HD.out.below hF.1.out.1) (HP.out.below hF.1.out.1) (by rw [SM.out];exact hd1) (by rw [HL.out];exact hn) Cq.out).mono ?_;rintro e w' ⟨u,rfl,o,b⟩;have hlt:=hF.lt
  rcases o.row with ⟨rfl,h0⟩ | ⟨g,c,rfl,hg,h1,h2⟩
  · have:=rN.out;rw [h0] at this;simp at this;omega
  rw [rN.out] at o h1 ⊢;exact ⟨g,c,rfl,o.mono (by omega),⟨h1,h2⟩,b⟩
 have Y5:Hid (∀(W:World) (g c:Nat),Own .u8 5 W w.heap.size (.slice (some ⟨g,0,none⟩) dl c) (Qq ZQ ps)→dl≤c→c≤maxLen→mn W w.heap.size (.slice (some ⟨g,f*64,none⟩) (l*64) (c - f*64)) (Qq ZQ ps) f l):=by
  intro W g c h h1 h2;exact ⟨g,c,rfl,by rw [rN.out];exact h,by rw [rN.out];exact h1⟩
 have Ca:Hid (∀W,(log=true→Calls Tryz.prog 79 #[.agg #[.int .i64 S,.int .i64 L],.int .i64 Za] W (YI W (.agg #[.int .i64 (f:Int),.int .i64 (l:Int)]))) ∧
     (log=false→Calls Tryz.prog 49 #[.agg #[.int .i64 S,.int .i64 L],.int .i64 Za] W (YI W (.agg #[.int .i64 (f:Int),.int .i64 (l:Int)])))):=by
  intro W;rw [←hf,←hl'];exact ⟨fun e=>by subst e;exact VO W S L Za HC.out ⟨hb0,hb1⟩,fun e=>by subst e;exact Ws W S L Za HC.out ⟨hb0,hb1⟩⟩
 clear hd hdl hp hl Ot hok h1 hf hl'
 go_enter Tryz.func35,Tryz.ntmps35
 go_wp2_with fail
 have F1:Hid (VP w ao bo dl ca n cb S L ((w.alloc (.cells #[.slice ao dl ca,.slice bo n cb] 52)).alloc (.cells #[.int .i64 S,.int .i64 L] 25))):=VP.new _ _ _ _ _ _ _ _ _ _ _;generalize (w.alloc _).alloc _=w1 at *;refine (Sp _ ao bo dl ca n cb ps S L (HP.out.below F1.out.1.out.1) HL.out hd1 hn Cq.out).mono ?_;rintro e w2 ⟨rfl,b2⟩;rw [HF.out];have F2:=Z3 (F1.out.below b2);clear F1 b2;have t0:¬Za<0:=by omega
 have Yt:decide (Za<0)=false:=by simpa using t0
 have t1:¬2≤Za:=by omega
 have t1d:decide (2≤Za)=false:=by simpa using t1
 have eI:Hid (∀W,VP w ao bo dl ca n cb S L W→True):=fun _ _=>trivial
 cases log with
 | true =>
  replace Ca:Hid (∀W,Calls Tryz.prog 79 #[.agg #[.int .i64 S,.int .i64 L],.int .i64 Za] W (YI W (.agg #[.int .i64 (f:Int),.int .i64 (l:Int)]))):=fun W=>(Ca.out W).1 rfl
  go_wp2_with fail
  refine ZH (S:=VP w ao bo dl ca n cb S L) (by kernel_rfl) (F2.out.below (below_drewN' w2 1)) (fun Z9=>?_)
  iterate 2 (refine ZW ?_ (by kernel_rfl) (fun _=>id) Z9 ?_ ?_;rotate_left;· intro w9 Z0;obtain ⟨-,k0,k1,k2,k3⟩:=Z0;go_simp;try with_reducible rfl)
  refine ZG 3 ?v27 rfl (by kernel_rfl) (fun _=>id) Z9 ?hy27 ?_
  case hy27=>intro w9 Z0;obtain ⟨-,k0,k1,k2,k3⟩:=Z0;go_simp;try with_reducible rfl
  refine ZU 2 rfl (by kernel_rfl) (fun K hK=>?_);go_simp;refine (Ca.out _).mono ?_;rintro e w3 ⟨rfl,b3⟩;have F3:Hid (VP w ao bo dl ca n cb S L w3):=Z9.below b3;clear b3;clear Z9;refine hK.out _ _ (F3.out) (fun Z9=>?_);clear hK K;refine ZU 4 rfl (by kernel_rfl) (fun K hK=>?_);go_simp;refine (G.out _ F3.out).mono ?_;rintro e w4 ⟨g4,c4,rfl,O4,hc4,b4⟩;have F4:=Z3 (F3.out.below b4);clear b4 F3;clear Z9;refine hK.out _ _ (F4.out) (fun Z9=>?_);clear hK K;refine ZU 5 rfl (by kernel_rfl) (fun K hK=>?_);go_simp;refine (U8 _ g4 dl c4 f l vF hl1 hc4.1 hd1).mono ?_;rintro e w5 ⟨rfl,b5⟩;have F5:=Z3 (F4.out.below b5);have O5:=Z3 (O4.out.below b5);clear b5 F4 O4;clear Z9;refine hK.out _ _ (F5.out) (fun Z9=>?_);clear hK K;refine ZW ?_ (by kernel_rfl) (fun _=>id) Z9 ?_ ?_
  rotate_left
  · intro w9 Z0;obtain ⟨-,k0,k1,k2,k3⟩:=Z0;go_simp;try with_reducible rfl
  refine ZP (by kernel_rfl) ?_ _
  try simp only [Act.put,Y8,Y7,Y6]
  clear Z9;go_wp2;go_ret;exact ⟨_,rfl,Y5.out _ _ _ O5.out hc4.1 hc4.2,F5.out.1.out.1⟩
 | false =>
  replace Ca:Hid (∀W,Calls Tryz.prog 49 #[.agg #[.int .i64 S,.int .i64 L],.int .i64 Za] W (YI W (.agg #[.int .i64 (f:Int),.int .i64 (l:Int)]))):=fun W=>(Ca.out W).2 rfl
  go_wp2_with fail
  refine ZH (S:=VP w ao bo dl ca n cb S L) (by kernel_rfl) (F2.out.below (below_drewN' w2 1)) (fun Z9=>?_)
  iterate 2 (refine ZW ?_ (by kernel_rfl) (fun _=>id) Z9 ?_ ?_;rotate_left;· intro w9 Z0;obtain ⟨-,k0,k1,k2,k3⟩:=Z0;go_simp;try with_reducible rfl)
  refine ZG 3 ?v31 rfl (by kernel_rfl) (fun _=>id) Z9 ?hy31 ?_
  case hy31=>intro w9 Z0;obtain ⟨-,k0,k1,k2,k3⟩:=Z0;go_simp;try with_reducible rfl
  refine ZU 2 rfl (by kernel_rfl) (fun K hK=>?_);go_simp;refine (Ca.out _).mono ?_;rintro e w3 ⟨rfl,b3⟩;have F3:Hid (VP w ao bo dl ca n cb S L w3):=Z9.below b3;clear b3;clear Z9;refine hK.out _ _ (F3.out) (fun Z9=>?_);clear hK K;refine ZU 4 rfl (by kernel_rfl) (fun K hK=>?_);go_simp;refine (G.out _ F3.out).mono ?_;rintro e w4 ⟨g4,c4,rfl,O4,hc4,b4⟩;have F4:=Z3 (F3.out.below b4);clear b4 F3;clear Z9;refine hK.out _ _ (F4.out) (fun Z9=>?_);clear hK K;refine ZU 5 rfl (by kernel_rfl) (fun K hK=>?_);go_simp;refine (U8 _ g4 dl c4 f l vF hl1 hc4.1 hd1).mono ?_;rintro e w5 ⟨rfl,b5⟩;have F5:=Z3 (F4.out.below b5);have O5:=Z3 (O4.out.below b5);clear b5 F4 O4;clear Z9;refine hK.out _ _ (F5.out) (fun Z9=>?_);clear hK K;refine ZW ?_ (by kernel_rfl) (fun _=>id) Z9 ?_ ?_
  rotate_left
  · intro w9 Z0;obtain ⟨-,k0,k1,k2,k3⟩:=Z0;go_simp;try with_reducible rfl
  refine ZP (by kernel_rfl) ?_ _
  try simp only [Act.put,Y8,Y7,Y6]
  clear Z9;go_wp2;go_ret;exact ⟨_,rfl,Y5.out _ _ _ O5.out hc4.1 hc4.2,F5.out.1.out.1⟩
--@FI
--@IF impl.ZO
end Go.Proofs.YtpmjnbmkippaiaaGreatDoor
namespace Go.Proofs.YtpmjnbmkippaiaaGreatDoor
open Go.RowKit Go.Conc
theorem Own.Hp {w:World} {lo g n m C:Nat} {xs:List Int} (h:Own .u8 5 w lo (.slice (some ⟨g,0,none⟩) n C) xs) (hm:m≤xs.length):Own .u8 5 w 0 (.slice (some ⟨g,0,none⟩) m C) (xs.take m):=by
 refine ⟨by simp,.inr ?_⟩
 rcases h.2 with ⟨h1,-⟩ | ⟨q,cap,cur,e,h1,h2,h3,h4,h5,h6⟩
 · cases h1
 injection e with e1 e2 e3
 injection e1 with e1;injection e1 with e1
 subst e1;subst e3;refine ⟨_,_,cur,by simp [Wh hm],Zu _,h2,?_,h4,h5,?_⟩
 · simp only [XU];omega
 rw [XU,Wh hm,WV,zU,←h6,Jt,WV,Wh hm]
structure Ns (w:World) (sB:Nat) (L R:List Value) (W:World):Prop where
 tw:Tw w sB none W none
 sv:St W sB L
 bx:St W w.heap.size R
theorem Ns.below {w:World} {sB:Nat} {L R:List Value} {W W':World} (h:Ns w sB L R W) (hb:ZX W W'):Ns w sB L R W' :=
 ⟨h.tw.trans (Tw.ZV hb _ _),h.sv.below hb,h.bx.below hb⟩
structure uW (κ:Sc) (σ:Sx) (sB:Nat) (S:Int) (sn:Nat):Prop where
 sB:κ.sB=sB
 S:κ.S=S
 L:κ.L=(sn:Int)
 cap:κ.cap=sn*64 / 9
 X:κ.X=[]
 rt:Rt σ
 YE:eC σ
 k:σ.k=0
 sn:σ.sn=none
 em:σ.em=false
theorem AA (w:World) (sB Z:Nat) (S:Int) (sn:Nat) (ta:Option Addr) (tc xl:Nat) (xa:Option Addr) (xc:Nat) (hc:YO S (sn:Int)=true) (hs:St w sB (Kt (.pointer none) S (sn:Int) (.slice none 0 0) (.slice none 0 0) 0)) (hx:xl=(UP S sn).length) (hd:Own .u8 5 w (sB+1) (.slice xa xl xc) (UP S sn)) (ht:Zz 147 w (sB+1) (.slice ta 1 tc) [ZI]) (hp:w.heap[Z]?=some (.cells #[.int .i64 0,.slice none 0 0] 132 (0,0))) (hpl:sB<Z) :
    Calls Tryz.prog 18 #[.pointer (some ⟨sB,0,none⟩),.agg #[.int .i64 0,.int .i64 1,.int .i64 0,.int .i64 0,.int .i64 23,.int .i64 (C0:Int),.int .i64 0,.slice ta 1 tc,.int .i64 0,.int .i64 0,.slice xa xl xc,.slice (some ⟨Z,0,none⟩) 0 1]] w fun e w'=>e=.returned (.tuple #[])∧Tw w sB none w' none∧∃ κ σ,Sv κ σ w'∧uW κ σ sB S sn:=by
 have c3:=hs.cl 3 _ rfl;have c4:=hs.cl 4 _ rfl;have f3:=hs.fz 3;have f4:=hs.fz 4;have hlt:=hs.lt;have N1:Hid (Ns w sB (Kt (.pointer none) S (sn:Int) (.slice xa xl xc) (.slice (some ⟨Z,0,none⟩) 0 1) 0) [.int .i64 0,.int .i64 1,.int .i64 0,.int .i64 0,.int .i64 23,.int .i64 (C0:Int),.int .i64 0,.slice ta 1 tc,.int .i64 0,.int .i64 0,.slice xa xl xc,.slice (some ⟨Z,0,none⟩) 0 1] (((w.setCell ⟨sB,3,none⟩ (.slice xa xl xc)).setCell ⟨sB,4,none⟩ (.slice (some ⟨Z,0,none⟩) 0 1)).alloc (.cells #[.int .i64 0,.int .i64 1,.int .i64 0,.int .i64 0,.int .i64 23,.int .i64 (C0:Int),.int .i64 0,.slice ta 1 tc,.int .i64 0,.int .i64 0,.slice xa xl xc,.slice (some ⟨Z,0,none⟩) 0 1] 65))):=by
  have bA:=(Below.refl ((w.setCell ⟨sB,3,none⟩ (.slice xa xl xc)).setCell ⟨sB,4,none⟩ (.slice (some ⟨Z,0,none⟩) 0 1)).heap.size _).alloc ZT (.cells #[.int .i64 0,.int .i64 1,.int .i64 0,.int .i64 0,.int .i64 23,.int .i64 (C0:Int),.int .i64 0,.slice ta 1 tc,.int .i64 0,.int .i64 0,.slice xa xl xc,.slice (some ⟨Z,0,none⟩) 0 1] 65);have s9:=St.new ((w.setCell ⟨sB,3,none⟩ (.slice xa xl xc)).setCell ⟨sB,4,none⟩ (.slice (some ⟨Z,0,none⟩) 0 1)) #[.int .i64 0,.int .i64 1,.int .i64 0,.int .i64 0,.int .i64 23,.int .i64 (C0:Int),.int .i64 0,.slice ta 1 tc,.int .i64 0,.int .i64 0,.slice xa xl xc,.slice (some ⟨Z,0,none⟩) 0 1] 65;have z9:((w.setCell ⟨sB,3,none⟩ (.slice xa xl xc)).setCell ⟨sB,4,none⟩ (.slice (some ⟨Z,0,none⟩) 0 1)).heap.size=w.heap.size:=by simp
  rw [z9] at s9;exact ⟨(Tw.refl w sB none).set.set.trans (Tw.ZV bA sB none),((hs.set 3 _).set 4 _).below bA,s9⟩
 have HX:=Z3 hx;clear hx
 go_enter Tryz.func18,Tryz.ntmps18
 go_wp2_with fail
 clear c3 c4 f3 f4;generalize ((w.setCell _ _).setCell _ _).alloc _=w1 at *;have N2:Hid (Ns w sB (Kt (.pointer none) S (sn:Int) (.slice xa xl xc) (.slice (some ⟨Z,0,none⟩) 0 1) 0) [.int .i64 0,.int .i64 1,.int .i64 0,.int .i64 0,.int .i64 23,.int .i64 (C0:Int),.int .i64 0,.slice ta 1 tc,.int .i64 0,.int .i64 0,.slice xa xl xc,.slice (some ⟨Z,0,none⟩) 0 1] w1.drew):=N1.out.below (below_drewN' w1 1);clear N1;refine ZH (S:=Ns w sB (Kt (.pointer none) S (sn:Int) (.slice xa xl xc) (.slice (some ⟨Z,0,none⟩) 0 1) 0) [.int .i64 0,.int .i64 1,.int .i64 0,.int .i64 0,.int .i64 23,.int .i64 (C0:Int),.int .i64 0,.slice ta 1 tc,.int .i64 0,.int .i64 0,.slice xa xl xc,.slice (some ⟨Z,0,none⟩) 0 1]) (by kernel_rfl) N2.out (fun Z9=>?_);clear N2;generalize w1.drew=w2 at *
 iterate 7 (refine ZW ?_ (by kernel_rfl) (fun _=>id) Z9 ?_ ?_;rotate_left;· intro w9 Z0;have k0:=Z0.sv.cl 6 _ rfl;have k1:=Z0.bx.cl 9 _ rfl;clear Z0;go_simp;try with_reducible rfl)
 refine ZW (.int .i64 0) (by kernel_rfl) (fun _=>id) Z9 ?_ ?_
 · intro w9 Z0;have k0:=Z0.sv.cl 6 _ rfl;have k1:=Z0.bx.cl 9 _ rfl;clear Z0;go_simp;rfl
 iterate 3 (refine ZW ?_ (by kernel_rfl) (fun _=>id) Z9 ?_ ?_;rotate_left;· intro w9 Z0;have k0:=Z0.sv.cl 6 _ rfl;have k1:=Z0.bx.cl 9 _ rfl;clear Z0;go_simp;try with_reducible rfl)
 refine ZU 11 rfl (by kernel_rfl) (fun K hK=>?_);have k6:=Z9.sv.cl 6 _ rfl;have f6:=Z9.sv.fz 6;go_simp;have hN:Ns w sB (Kt (.pointer none) S (sn:Int) (.slice xa xl xc) (.slice (some ⟨Z,0,none⟩) 0 1) 0) [.int .i64 0,.int .i64 1,.int .i64 0,.int .i64 0,.int .i64 23,.int .i64 (C0:Int),.int .i64 0,.slice ta 1 tc,.int .i64 0,.int .i64 0,.slice xa xl xc,.slice (some ⟨Z,0,none⟩) 0 1] (w2.setCell ⟨sB,6,none⟩ (.int .i64 0)):=⟨Z9.tw.set,Z9.sv.set 6 (.int .i64 0),Z9.bx.other (by omega)⟩;refine hK.out _ _ hN (fun ZM=>?_);clear hK K ZM Z9 k6 f6;have N3:=Z3 hN;clear hN;refine ZP (by kernel_rfl) ?_ _
 try simp only [Act.put,Y8,Y7,Y6]
 generalize w2.setCell _ _=w3 at *;have Ca:Hid (∀W,Ns w sB (Kt (.pointer none) S (sn:Int) (.slice xa xl xc) (.slice (some ⟨Z,0,none⟩) 0 1) 0) [.int .i64 0,.int .i64 1,.int .i64 0,.int .i64 0,.int .i64 23,.int .i64 (C0:Int),.int .i64 0,.slice ta 1 tc,.int .i64 0,.int .i64 0,.slice xa xl xc,.slice (some ⟨Z,0,none⟩) 0 1] W→Calls Tryz.prog 35 #[.agg #[.slice xa xl xc,.slice (some ⟨Z,0,none⟩) 0 1],.agg #[.int .i64 S,.int .i64 (sn:Int)],.int .i64 0,.bool true] W fun e w'=>∃v',e=.returned v'∧mn w' W.heap.size v' (UP S sn) (2+S.toNat) sn∧ZX W w'):=fun W hW=>by
  have o9:=hd.Pj hW.tw.Pj (fun q e=>by cases e;exact fun e9=>by have:=(ZD hd _ e9).1;omega);have uC:=(AB hc).n9;have h9:=Gh W xa (some ⟨Z,0,none⟩) xl xc 0 1 (UP S sn) [] S (sn:Int) 0 true o9.rd HX.out.symm ⟨_,1,rfl,by decide,by decide,.inl rfl⟩ rfl (by rw [HX.out];exact uC) (by decide) (fun i=>by simp [pD]) (by unfold Im;rw [HX.out,RC hc];rfl);have e1:(VJ S (sn:Int) 0 true).toNat=2+S.toNat:=by
   obtain ⟨⟨hS1,hS2⟩,hL1,hL2⟩:=(Zg S sn).1 hc;unfold VJ;simp;omega
  have e2:(LM S (sn:Int) true).toNat=sn:=by unfold LM;simp
  rw [e1,e2,QB hc] at h9;exact h9
 have N4:Hid (Ns w sB (Kt (.pointer none) S (sn:Int) (.slice xa xl xc) (.slice (some ⟨Z,0,none⟩) 0 1) 0) [.int .i64 0,.int .i64 1,.int .i64 0,.int .i64 0,.int .i64 23,.int .i64 (C0:Int),.int .i64 0,.slice ta 1 tc,.int .i64 0,.int .i64 0,.slice xa xl xc,.slice (some ⟨Z,0,none⟩) 0 1] w3.drew):=N3.out.below (below_drewN' w3 1);clear N3
 go_wp2_with fail
 refine ZH (S:=Ns w sB (Kt (.pointer none) S (sn:Int) (.slice xa xl xc) (.slice (some ⟨Z,0,none⟩) 0 1) 0) [.int .i64 0,.int .i64 1,.int .i64 0,.int .i64 0,.int .i64 23,.int .i64 (C0:Int),.int .i64 0,.slice ta 1 tc,.int .i64 0,.int .i64 0,.slice xa xl xc,.slice (some ⟨Z,0,none⟩) 0 1]) (by kernel_rfl) N4.out (fun Z9=>?_);clear N4;generalize w3.drew=w4 at *
 iterate 9 (refine ZW ?_ (by kernel_rfl) (fun _=>id) Z9 ?_ ?_;rotate_left;· intro w9 Z0;have k0:=Z0.sv.cl 1 _ rfl;have k1:=Z0.sv.cl 2 _ rfl;have k2:=Z0.bx.cl 10 _ rfl;have k3:=Z0.bx.cl 11 _ rfl;have k4:=Z0.bx.cl 2 _ rfl;clear Z0;go_simp;try with_reducible rfl)
 refine ZU 9 rfl (by kernel_rfl) (fun K hK=>?_);go_simp;refine (Ca.out _ Z9).mono ?_;rintro e w5 ⟨v5,rfl,⟨lg,J,rfl,o5,hlc⟩,b5⟩;have hw4:w.heap.size≤w4.heap.size:=Z9.tw.size;have N5:=Z9.below b5;have O5:=Z3 o5;refine hK.out _ _ N5 (fun ZM=>?_);clear hK K ZM Z9 o5;have Z9:=N5;clear N5;refine ZW ?_ (by kernel_rfl) (fun _=>id) Z9 ?_ ?_
 rotate_left
 · intro w9 Z0;clear Z0;go_simp;try with_reducible rfl
 refine ZP (by kernel_rfl) ?_ _
 try simp only [Act.put,Y8,Y7,Y6]
 have N5:=Z3 Z9;have t7:=Z9.bx.cl 7 _ rfl;have t6:=Z9.bx.cl 6 _ rfl;clear Z9
 go_wp2_with fail
 have N6:Hid (Ns w sB (Kt (.pointer none) S (sn:Int) (.slice xa xl xc) (.slice (some ⟨Z,0,none⟩) 0 1) 0) [.int .i64 0,.int .i64 1,.int .i64 0,.int .i64 0,.int .i64 23,.int .i64 (C0:Int),.int .i64 0,.slice ta 1 tc,.int .i64 0,.int .i64 0,.slice xa xl xc,.slice (some ⟨Z,0,none⟩) 0 1] (w5.alloc (.cells #[.slice ta 1 tc,.int .i64 0] 87)).drew):=(N5.out.below (ZJ.alloc ZT _)).below (below_drewN' _ 1);have T6:Hid (St (w5.alloc (.cells #[.slice ta 1 tc,.int .i64 0] 87)).drew w5.heap.size [.slice ta 1 tc,.int .i64 0]):=(St.new w5 #[.slice ta 1 tc,.int .i64 0] 87).below (below_drewN' _ 1);have O6:Hid (Own .u8 5 (w5.alloc (.cells #[.slice ta 1 tc,.int .i64 0] 87)).drew w4.heap.size (.slice (some ⟨lg,0,none⟩) (UP S sn).length J) (UP S sn)):=Own.below (Own.below O5.out (ZJ.alloc ZT _)) (below_drewN' _ 1);have z6:Hid (w5.heap.size<(w5.alloc (.cells #[.slice ta 1 tc,.int .i64 0] 87)).drew.heap.size):=by show _<_;simp
 have z5:=Z3 (b5.size);have Aj:Hid (w.heap.size≤w4.heap.size):=hw4;clear hw4;have HQ:Hid (IntKind.i64.wrap (((sn:Int)*64).tdiv 9)=(sn:Int)*64 / 9):=by
  show _=_;obtain ⟨-,hL1,hL2⟩:=(Zg S sn).1 hc;rw [lp (by omega)];rw [XK] <;> omega
 clear N5 O5 t7 t6;refine ZH (S:=fun W=>St W w.heap.size [.int .i64 0,.int .i64 1,.int .i64 0,.int .i64 0,.int .i64 23,.int .i64 (C0:Int),.int .i64 0,.slice ta 1 tc,.int .i64 0,.int .i64 0,.slice xa xl xc,.slice (some ⟨Z,0,none⟩) 0 1]∧St W w5.heap.size [.slice ta 1 tc,.int .i64 0]) (by kernel_rfl) ⟨N6.out.bx,T6.out⟩ (fun Z9=>?_);generalize (w5.alloc _).drew=w6 at *
 iterate 5 (refine ZW ?_ (by kernel_rfl) (fun _=>id) Z9 ?_ ?_;rotate_left;· intro w9 Z0;have k0:=Z0.2.cl 0 _ rfl;have k1:=Z0.2.cl 1 _ rfl;have k2:=Z0.1.cl 1 _ rfl;have k3:=Z0.1.cl 2 _ rfl;have k4:=Z0.1.cl 3 _ rfl;have k5:=Z0.1.cl 4 _ rfl;have k6:=Z0.1.cl 5 _ rfl;have k7:=Z0.1.cl 8 _ rfl;have k8:=Z0.1.cl 0 _ rfl;clear Z0;go_simp;try with_reducible rfl)
 refine ZW (.int .i64 ((sn*64 / 9:Nat):Int)) (by kernel_rfl) (fun _=>id) Z9 ?_ ?_
 · intro w9 Z0;clear Z0;go_simp;exact HQ.out
 refine ZG 7 ?v28 rfl (by kernel_rfl) (fun _=>id) Z9 ?hy28 ?_
 case hy28 =>
  intro w9 Z0;have k0:=Z0.2.cl 0 _ rfl;have k1:=Z0.2.cl 1 _ rfl;have k2:=Z0.1.cl 1 _ rfl;have k3:=Z0.1.cl 2 _ rfl;have k4:=Z0.1.cl 3 _ rfl;have k5:=Z0.1.cl 4 _ rfl;have k6:=Z0.1.cl 5 _ rfl;have k7:=Z0.1.cl 8 _ rfl;have k8:=Z0.1.cl 0 _ rfl;clear Z0;go_simp
  try with_reducible rfl
 refine ZG 8 ?v29 rfl (by kernel_rfl) (fun _=>id) Z9 ?hy29 ?_
 case hy29 =>
  intro w9 Z0;have k0:=Z0.2.cl 0 _ rfl;have k1:=Z0.2.cl 1 _ rfl;have k2:=Z0.1.cl 1 _ rfl;have k3:=Z0.1.cl 2 _ rfl;have k4:=Z0.1.cl 3 _ rfl;have k5:=Z0.1.cl 4 _ rfl;have k6:=Z0.1.cl 5 _ rfl;have k7:=Z0.1.cl 8 _ rfl;have k8:=Z0.1.cl 0 _ rfl;clear Z0;go_simp
  try with_reducible rfl
 refine ZG 9 ?v30 rfl (by kernel_rfl) (fun _=>id) Z9 ?wC ?_
 case wC =>
  intro w9 Z0;have k0:=Z0.2.cl 0 _ rfl;have k1:=Z0.2.cl 1 _ rfl;have k2:=Z0.1.cl 1 _ rfl;have k3:=Z0.1.cl 2 _ rfl;have k4:=Z0.1.cl 3 _ rfl;have k5:=Z0.1.cl 4 _ rfl;have k6:=Z0.1.cl 5 _ rfl;have k7:=Z0.1.cl 8 _ rfl;have k8:=Z0.1.cl 0 _ rfl;clear Z0;go_simp
  try with_reducible rfl
 refine ZG 10 ?v31 rfl (by kernel_rfl) (fun _=>id) Z9 ?hy31 ?_
 case hy31 =>
  intro w9 Z0;have k0:=Z0.2.cl 0 _ rfl;have k1:=Z0.2.cl 1 _ rfl;have k2:=Z0.1.cl 1 _ rfl;have k3:=Z0.1.cl 2 _ rfl;have k4:=Z0.1.cl 3 _ rfl;have k5:=Z0.1.cl 4 _ rfl;have k6:=Z0.1.cl 5 _ rfl;have k7:=Z0.1.cl 8 _ rfl;have k8:=Z0.1.cl 0 _ rfl;clear Z0;go_simp
  try with_reducible rfl
 refine ZG 11 ?v32 rfl (by kernel_rfl) (fun _=>id) Z9 ?hy32 ?_
 case hy32 =>
  intro w9 Z0;have k0:=Z0.2.cl 0 _ rfl;have k1:=Z0.2.cl 1 _ rfl;have k2:=Z0.1.cl 1 _ rfl;have k3:=Z0.1.cl 2 _ rfl;have k4:=Z0.1.cl 3 _ rfl;have k5:=Z0.1.cl 4 _ rfl;have k6:=Z0.1.cl 5 _ rfl;have k7:=Z0.1.cl 8 _ rfl;have k8:=Z0.1.cl 0 _ rfl;clear Z0;go_simp
  try with_reducible rfl
 refine ZG 12 ?v33 rfl (by kernel_rfl) (fun _=>id) Z9 ?wz ?_
 case wz =>
  intro w9 Z0;have k0:=Z0.2.cl 0 _ rfl;have k1:=Z0.2.cl 1 _ rfl;have k2:=Z0.1.cl 1 _ rfl;have k3:=Z0.1.cl 2 _ rfl;have k4:=Z0.1.cl 3 _ rfl;have k5:=Z0.1.cl 4 _ rfl;have k6:=Z0.1.cl 5 _ rfl;have k7:=Z0.1.cl 8 _ rfl;have k8:=Z0.1.cl 0 _ rfl;clear Z0;go_simp
  try with_reducible rfl
 refine ZG 13 ?v34 rfl (by kernel_rfl) (fun _=>id) Z9 ?hy34 ?_
 case hy34 =>
  intro w9 Z0;have k0:=Z0.2.cl 0 _ rfl;have k1:=Z0.2.cl 1 _ rfl;have k2:=Z0.1.cl 1 _ rfl;have k3:=Z0.1.cl 2 _ rfl;have k4:=Z0.1.cl 3 _ rfl;have k5:=Z0.1.cl 4 _ rfl;have k6:=Z0.1.cl 5 _ rfl;have k7:=Z0.1.cl 8 _ rfl;have k8:=Z0.1.cl 0 _ rfl;clear Z0;go_simp
  try with_reducible rfl
 refine ZG 14 ?v35 rfl (by kernel_rfl) (fun _=>id) Z9 ?Y3 ?_
 case Y3 =>
  intro w9 Z0;have k0:=Z0.2.cl 0 _ rfl;have k1:=Z0.2.cl 1 _ rfl;have k2:=Z0.1.cl 1 _ rfl;have k3:=Z0.1.cl 2 _ rfl;have k4:=Z0.1.cl 3 _ rfl;have k5:=Z0.1.cl 4 _ rfl;have k6:=Z0.1.cl 5 _ rfl;have k7:=Z0.1.cl 8 _ rfl;have k8:=Z0.1.cl 0 _ rfl;clear Z0;go_simp
  try with_reducible rfl
 refine ZG 15 ?v36 rfl (by kernel_rfl) (fun _=>id) Z9 ?Y2 ?_
 case Y2 =>
  intro w9 Z0;have k0:=Z0.2.cl 0 _ rfl;have k1:=Z0.2.cl 1 _ rfl;have k2:=Z0.1.cl 1 _ rfl;have k3:=Z0.1.cl 2 _ rfl;have k4:=Z0.1.cl 3 _ rfl;have k5:=Z0.1.cl 4 _ rfl;have k6:=Z0.1.cl 5 _ rfl;have k7:=Z0.1.cl 8 _ rfl;have k8:=Z0.1.cl 0 _ rfl;clear Z0;go_simp
  try with_reducible rfl
 refine ZU 6 rfl (by kernel_rfl) (fun K hK=>?_);go_simp;have MC:Sem.run Tryz.prog (Instr.makeChan 88 (.int .i64 ((sn:Int)*64 / 9))) w6=.ok (.chan (some w6.heap.size)) (w6.alloc (.chan (sn*64 / 9) #[] false 0 0 false)):=by
  obtain ⟨-,hL1,hL2⟩:=(Zg S sn).1 hc;have fp:(Tryz.prog.info? 22).map (·.bytes)=some 24:=by kernel_rfl
  obtain ⟨i9,hi9,ST⟩:=Option.map_eq_some_iff.1 fp;have h9:=run_makeChan (w:=w6) (P:=Tryz.prog) (t:=88) Tryz.underlying88 hi9 .i64 (sn*64 / 9) (by omega) (by rw [ST];omega);have e9:((sn*64 / 9:Nat):Int)=(sn:Int)*64 / 9:=by omega
  rw [e9] at h9;exact h9
 rw [MC];clear MC;go_simp;have bC:=(Below.refl w6.heap.size w6).alloc ZT (.chan (sn*64 / 9) #[] false 0 0 false);refine hK.out _ _ ⟨Z9.1.below bC,Z9.2.below bC⟩ (fun ZM=>?_);clear hK K ZM;have hH7:St (w6.alloc (.chan (sn*64 / 9) #[] false 0 0 false)) w.heap.size [.int .i64 0,.int .i64 1,.int .i64 0,.int .i64 0,.int .i64 23,.int .i64 (C0:Int),.int .i64 0,.slice ta 1 tc,.int .i64 0,.int .i64 0,.slice xa xl xc,.slice (some ⟨Z,0,none⟩) 0 1]∧St (w6.alloc (.chan (sn*64 / 9) #[] false 0 0 false)) w5.heap.size [.slice ta 1 tc,.int .i64 0]:=⟨Z9.1.below bC,Z9.2.below bC⟩;clear Z9;refine ZW ?_ (by kernel_rfl) (fun _=>id) Z9 ?_ ?_
 rotate_left
 · intro w9 Z0;clear Z0;go_simp;try with_reducible rfl
 refine ZU 17 rfl (by kernel_rfl) (fun K hK=>?_);go_simp;have C7:Hid ((w6.alloc (.chan (sn*64 / 9) #[] false 0 0 false)).heap[w6.heap.size]?=some (.chan (sn*64 / 9) #[] false 0 0 false)):=Array.getElem?_push_size;have N7:=Z3 (N6.out.below bC);have O7:Hid (Own .u8 5 (w6.alloc (.chan (sn*64 / 9) #[] false 0 0 false)) w4.heap.size (.slice (some ⟨lg,0,none⟩) (UP S sn).length J) (UP S sn)):=Own.below O6.out bC;have E7:Hid ((w6.alloc (.chan (sn*64 / 9) #[] false 0 0 false)).heap.size=w6.heap.size+1):=by show _=_;simp
 have z7:Hid (w6.heap.size<(w6.alloc (.chan (sn*64 / 9) #[] false 0 0 false)).heap.size∧lg<w6.heap.size∧w4.heap.size≤lg):=⟨by simp,(ZD O6.out lg rfl).2,(ZD O6.out lg rfl).1⟩;clear N6 O6 bC;generalize w6.alloc _=w7 at *;have bD:=(Below.refl w7.heap.size w7).alloc ZT (.cells #[.slice ta 1 tc,.int .i64 0,.slice ta 1 tc,.int .i64 0,.chan (some w6.heap.size),.int .i64 0,.int .i64 1,.int .i64 0,.int .i64 0,.int .i64 23,.int .i64 (C0:Int),.slice (some ⟨lg,(2+S.toNat)*64,none⟩) 0 (J - (2+S.toNat)*64),.pointer none,.bool false] 91);refine hK.out _ _ ⟨hH7.1.below bD,hH7.2.below bD⟩ (fun ZM=>?_);clear hK K ZM;have Z9:St (w7.alloc (.cells #[.slice ta 1 tc,.int .i64 0,.slice ta 1 tc,.int .i64 0,.chan (some w6.heap.size),.int .i64 0,.int .i64 1,.int .i64 0,.int .i64 0,.int .i64 23,.int .i64 (C0:Int),.slice (some ⟨lg,(2+S.toNat)*64,none⟩) 0 (J - (2+S.toNat)*64),.pointer none,.bool false] 91)) w.heap.size [.int .i64 0,.int .i64 1,.int .i64 0,.int .i64 0,.int .i64 23,.int .i64 (C0:Int),.int .i64 0,.slice ta 1 tc,.int .i64 0,.int .i64 0,.slice xa xl xc,.slice (some ⟨Z,0,none⟩) 0 1]∧St (w7.alloc (.cells #[.slice ta 1 tc,.int .i64 0,.slice ta 1 tc,.int .i64 0,.chan (some w6.heap.size),.int .i64 0,.int .i64 1,.int .i64 0,.int .i64 0,.int .i64 23,.int .i64 (C0:Int),.slice (some ⟨lg,(2+S.toNat)*64,none⟩) 0 (J - (2+S.toNat)*64),.pointer none,.bool false] 91)) w5.heap.size [.slice ta 1 tc,.int .i64 0]:=⟨hH7.1.below bD,hH7.2.below bD⟩;clear hH7;have M8:Hid (St (w7.alloc (.cells #[.slice ta 1 tc,.int .i64 0,.slice ta 1 tc,.int .i64 0,.chan (some w6.heap.size),.int .i64 0,.int .i64 1,.int .i64 0,.int .i64 0,.int .i64 23,.int .i64 (C0:Int),.slice (some ⟨lg,(2+S.toNat)*64,none⟩) 0 (J - (2+S.toNat)*64),.pointer none,.bool false] 91)) (w6.heap.size+1) [.slice ta 1 tc,.int .i64 0,.slice ta 1 tc,.int .i64 0,.chan (some w6.heap.size),.int .i64 0,.int .i64 1,.int .i64 0,.int .i64 0,.int .i64 23,.int .i64 (C0:Int),.slice (some ⟨lg,(2+S.toNat)*64,none⟩) 0 (J - (2+S.toNat)*64),.pointer none,.bool false]):=by
  rw [←E7.out];exact St.new w7 #[.slice ta 1 tc,.int .i64 0,.slice ta 1 tc,.int .i64 0,.chan (some w6.heap.size),.int .i64 0,.int .i64 1,.int .i64 0,.int .i64 0,.int .i64 23,.int .i64 (C0:Int),.slice (some ⟨lg,(2+S.toNat)*64,none⟩) 0 (J - (2+S.toNat)*64),.pointer none,.bool false] 91
 have C8:Hid ((w7.alloc (.cells #[.slice ta 1 tc,.int .i64 0,.slice ta 1 tc,.int .i64 0,.chan (some w6.heap.size),.int .i64 0,.int .i64 1,.int .i64 0,.int .i64 0,.int .i64 23,.int .i64 (C0:Int),.slice (some ⟨lg,(2+S.toNat)*64,none⟩) 0 (J - (2+S.toNat)*64),.pointer none,.bool false] 91)).heap[w6.heap.size]?=some (.chan (sn*64 / 9) #[] false 0 0 false)):=(bD.block _ (by have:=z7.out;omega)).trans C7.out;have N8:=Z3 (N7.out.below bD);have O8:Hid (Own .u8 5 (w7.alloc (.cells #[.slice ta 1 tc,.int .i64 0,.slice ta 1 tc,.int .i64 0,.chan (some w6.heap.size),.int .i64 0,.int .i64 1,.int .i64 0,.int .i64 0,.int .i64 23,.int .i64 (C0:Int),.slice (some ⟨lg,(2+S.toNat)*64,none⟩) 0 (J - (2+S.toNat)*64),.pointer none,.bool false] 91)) w4.heap.size (.slice (some ⟨lg,0,none⟩) (UP S sn).length J) (UP S sn)):=Own.below O7.out bD;have z8:Hid (w7.heap.size<(w7.alloc (.cells #[.slice ta 1 tc,.int .i64 0,.slice ta 1 tc,.int .i64 0,.chan (some w6.heap.size),.int .i64 0,.int .i64 1,.int .i64 0,.int .i64 0,.int .i64 23,.int .i64 (C0:Int),.slice (some ⟨lg,(2+S.toNat)*64,none⟩) 0 (J - (2+S.toNat)*64),.pointer none,.bool false] 91)).heap.size):=by show _<_;simp
 clear C7 N7 O7 bD;generalize w7.alloc _=w8 at *
 iterate 2 (refine ZW ?_ (by kernel_rfl) (fun _=>id) Z9 ?_ ?_;rotate_left;· intro w9 Z0;clear Z0;go_simp;try with_reducible rfl)
 refine ZU 20 rfl (by kernel_rfl) (fun K hK=>?_);have k0:=N8.out.sv.cl 0 _ rfl;have f0:=N8.out.sv.fz 0;go_simp;clear k0 f0;refine hK.out _ _ ⟨Z9.1.other (by omega),Z9.2.other (by have:=z5.out;have:=Aj.out;omega)⟩ (fun ZM=>?_);clear hK K ZM Z9;refine ZP (by kernel_rfl) ?_ _
 try simp only [Act.put,Y8,Y7,Y6]
 have FIN:Hid (Tw w sB none (w8.setCell ⟨sB,0,none⟩ (.pointer (some ⟨w6.heap.size+1,0,none⟩))) none∧∃ κ σ,Sv κ σ (w8.setCell ⟨sB,0,none⟩ (.pointer (some ⟨w6.heap.size+1,0,none⟩)))∧uW κ σ sB S sn):=by
  have Z7:=z7.out;have Z8:=z8.out;have e7:=E7.out;have Z6:=z6.out;have Z5:=z5.out;have Ys:=Aj.out;have T9:=(N8.out.tw).set (j:=0) (x:=.pointer (some ⟨w6.heap.size+1,0,none⟩));have uC:=(AB hc).n9;obtain ⟨⟨hS1,hS2⟩,hL1,hL2⟩:=(Zg S sn).1 hc;have hDl:(2+S.toNat+sn)*64≤(UP S sn).length:=by
   have:=((VQ ..).1 (RC hc)).2.2;omega
  have eU:=hd.Pj T9.Pj (fun q e=>by cases e;exact fun e9=>by have:=(ZD hd _ e9).1;omega);have ZN:=T9.gT ht (fun e9=>by have:=(ZD ht _ e9).1;omega);have fx:∀q,xa.map (·.block)=some q→sB<q∧q<w.heap.size:=fun q e=>by
   cases xa with
   | none=>cases e
   | some a=>cases e;exact ZD hd _ rfl
  have ft:∀q,(Value.slice ta 1 tc).ownBlock=some q→sB<q∧q<w.heap.size:=fun q e=>ZD ht _ e
  have fd:∀q,(Value.slice xa xl xc).ownBlock=some q→sB<q∧q<w.heap.size:=fun q e=>ZD hd _ e
  have ZK:Z<w.heap.size:=(Yh.mp hp).1;have hup:sB<w6.heap.size+1∧sB<w6.heap.size∧sB<lg:=by omega
  have far:∀v:Value,(∀q,v.ownBlock=some q→sB<q∧q<w.heap.size)→Tk ⟨sB,w6.heap.size+1,w6.heap.size,lg,(2+S.toNat)*64,sn*64 / 9,S,sn,[],hup⟩ v:=fun v hv q hq=>by
   have:=hv q hq;exact ⟨by show q≠sB;omega,by show q≠w6.heap.size+1;omega,by show q≠w6.heap.size;omega,by show q≠lg;omega,by simp⟩
  refine ⟨T9,⟨sB,w6.heap.size+1,w6.heap.size,lg,(2+S.toNat)*64,sn*64 / 9,S,sn,[],hup⟩,⟨[ZI],0,[ZI],0,[],0,1,0,0,23,C0,[],0,none,0,false,some Z⟩,?_,⟨rfl,rfl,rfl,rfl,rfl,⟨rfl,rfl,rfl,rfl,rfl,rfl,rfl⟩,⟨rfl,rfl,rfl⟩,rfl,rfl,rfl⟩⟩;refine ⟨⟨?_,?_,?_,?_,?_,?_⟩,fun x hx=>by simp at hx,⟨_,0,_,N8.out.sv.set 0 _,eU,uC,⟨Int.le_refl _,Int.le_refl _⟩,far _ fd⟩,⟨.slice ta 1 tc,.slice ta 1 tc,J - (2+S.toNat)*64,?_,ZN.rd,ZN.rd,ZN.qI,far _ ft,far _ ft,?_,?_⟩,⟨[],0,0,?_,⟨rfl,fun i hi=>by simp at hi⟩,fun i hi=>by simp at hi⟩,fun p hp=>by simp at hp,?_⟩
  · show sB≠w6.heap.size+1;omega
  · show sB≠w6.heap.size;omega
  · show sB≠lg;omega
  · show w6.heap.size+1≠w6.heap.size;omega
  · show w6.heap.size+1≠lg;omega
  · show w6.heap.size≠lg;omega
  · have h9:=M8.out.other (c:=sB) (j:=0) (x:=.pointer (some ⟨w6.heap.size+1,0,none⟩)) (by omega)
    simpa [Ah] using h9
  · have h9:=(Own.setAt (u:=.pointer (some ⟨w6.heap.size+1,0,none⟩)) (g:=sB) (j:=0) O8.out (.inr (fun e=>by simp only [Value.ownBlock,Zo] at e;omega)))
    refine ⟨lg,(2+S.toNat)*64,J - (2+S.toNat)*64,(UP S sn).take ((2+S.toNat)*64),rfl,by simp;omega,?_⟩;have h8:=h9.Hp (m:=(2+S.toNat)*64) (by omega);rw [TX,show (2+S.toNat)*64+([]:List Int).length=(2+S.toNat)*64 from rfl,show (2+S.toNat)*64+(J - (2+S.toNat)*64)=J by omega];exact h8
  · show (sn:Int)*64≤((J - (2+S.toNat)*64:Nat):Int);omega
  · exact (Below.heap_setCell w8 ⟨sB,0,none⟩ _ w6.heap.size (by show w6.heap.size≠sB;omega)).trans C8.out
  intro g hg
  injection hg with hg;subst hg
  exact ⟨(T9.block Z ZK (by omega) (by simp)).trans hp,hpl,by show Z≠w6.heap.size+1;omega,by show Z≠w6.heap.size;omega,by show Z≠lg;omega,by simp⟩
 generalize w8.setCell _ _=w9 at *;go_wp2
 go_end0
 exact ⟨rfl,FIN.out⟩
 end Go.Proofs.YtpmjnbmkippaiaaGreatDoor
namespace Go.Proofs.YtpmjnbmkippaiaaGreatDoor
open Go.RowKit Go.Conc
structure Nw (w:World) (C L:List Value) (W:World):Prop where
 YU:ZX w W
 cf:St W w.heap.size C
 sv:St W (w.heap.size+1) L
theorem Nw.below {w:World} {C L:List Value} {W W':World} (h:Nw w C L W) (hb:ZX W W'):Nw w C L W' :=
 ⟨h.YU.trans (hb.mono h.YU.size),h.cf.below hb,h.sv.below hb⟩
def ez (w:World) (S:Int) (sn:Nat) (e:Ending) (w':World):Prop :=
 ∃ κ σ,e=.returned (.pointer (some ⟨κ.sB,0,none⟩))∧Sv κ σ w'∧uW κ σ (w.heap.size+1) S sn∧ZX w w'
theorem Mz (w:World) (S:Int) (sn:Nat) (hc:YO S (sn:Int)=true) (htab:TF w) (h0:0<w.heap.size) :
    Calls Tryz.prog 10 #[.agg #[.int .i64 S,.int .i64 (sn:Int)]] w (ez w S sn):=by
 have N1:Hid (Nw w [.int .i64 S,.int .i64 (sn:Int)] [.pointer none,.int .i64 S,.int .i64 (sn:Int),.slice none 0 0,.slice none 0 0,.int .i64 0,.int .i64 0,.slice none 0 0] ((w.alloc (.cells #[.int .i64 S,.int .i64 (sn:Int)] 25)).alloc (.cells #[.pointer none,.int .i64 S,.int .i64 (sn:Int),.slice none 0 0,.slice none 0 0,.int .i64 0,.int .i64 0,.slice none 0 0] 56))):=by
  have b1:=(Below.refl w.heap.size w).alloc ZT (.cells #[.int .i64 S,.int .i64 (sn:Int)] 25);have b2:=(Below.refl (w.alloc (.cells #[.int .i64 S,.int .i64 (sn:Int)] 25)).heap.size (w.alloc (.cells #[.int .i64 S,.int .i64 (sn:Int)] 25))).alloc ZT (.cells #[.pointer none,.int .i64 S,.int .i64 (sn:Int),.slice none 0 0,.slice none 0 0,.int .i64 0,.int .i64 0,.slice none 0 0] 56);have e1:(w.alloc (.cells #[.int .i64 S,.int .i64 (sn:Int)] 25)).heap.size=w.heap.size+1:=by simp
  have s2:=St.new (w.alloc (.cells #[.int .i64 S,.int .i64 (sn:Int)] 25)) #[.pointer none,.int .i64 S,.int .i64 (sn:Int),.slice none 0 0,.slice none 0 0,.int .i64 0,.int .i64 0,.slice none 0 0] 56;rw [e1] at s2;exact ⟨YV b1 b2,(St.new w #[.int .i64 S,.int .i64 (sn:Int)] 25).below b2,s2⟩
 have HT:Hid (∀W,ZX w W→TF W):=fun W hW=>htab.below h0 hW
 have H0:=Z3 h0;have HC:=Z3 hc;clear htab h0 hc
 go_enter Tryz.func10,Tryz.ntmps10
 go_wp2_with fail
 generalize ((w.alloc _).alloc _)=w1 at *;refine (AT w1 (w.heap.size+1) _ _ _ _ _ _ _ _ N1.out.sv).mono ?_;rintro e w2 ⟨rfl,s2,g2⟩;have N2:Hid (Nw w [.int .i64 S,.int .i64 (sn:Int)] (Kt (.pointer none) S (sn:Int) (.slice none 0 0) (.slice none 0 0) 0) w2.drew):=by
  have n1:=N1.out;have hb:=n1.YU.trans (show Below w.heap.size w1 w2 from ⟨g2.os,g2.tape,g2.output,g2.size,fun q hq=>g2.block q (ZL hq n1.YU.size) (fun e=>by injection e with e;omega)⟩);exact Nw.below ⟨hb,n1.cf.grown g2 (by simp),s2⟩ (below_drewN' w2 1)
 clear N1 s2 g2
 go_wp2_with fail
 refine ZH (S:=fun W=>∃L,Nw w [.int .i64 S,.int .i64 (sn:Int)] L W) (by kernel_rfl) ⟨_,N2.out⟩ (fun Z9=>?_);generalize w2.drew=w3 at *
 iterate 2 (refine ZW ?_ (by kernel_rfl) (fun _=>id) Z9 ?_ ?_;rotate_left;· intro w9 Z0;obtain ⟨L9,Z0⟩:=Z0;have k0:=Z0.cf.cl 0 _ rfl;have k1:=Z0.cf.cl 1 _ rfl;clear Z0;go_simp;try with_reducible rfl)
 refine ZG 3 ?v3 rfl (by kernel_rfl) (fun _=>id) Z9 ?hy3 ?_
 case hy3 =>
  intro w9 Z0;obtain ⟨L9,Z0⟩:=Z0;have k0:=Z0.cf.cl 0 _ rfl;have k1:=Z0.cf.cl 1 _ rfl;clear Z0;go_simp
  try with_reducible rfl
 refine ZU 2 rfl (by kernel_rfl) (fun K hK=>?_);go_simp;have h9:=Np w3 S (sn:Int) HC.out (HT.out _ N2.out.YU) (ZL H0.out N2.out.YU.size);refine h9.mono ?_;clear h9;rintro e w4 ⟨v4,rfl,o4,b4⟩;have N4:=N2.out.below b4;refine hK.out _ _ ⟨_,N4⟩ (fun ZM=>?_);have O4:=Z3 o4;clear hK K ZM Z9 N2 o4 b4;have Z9:∃L,Nw w [.int .i64 S,.int .i64 (sn:Int)] L w4:=⟨_,N4⟩;refine ZU 4 rfl (by kernel_rfl) (fun K hK=>?_);go_simp;have h9:=Gi w4 v4 S sn (UP S sn) (jn S sn) rfl rfl HC.out O4.out.rd (HT.out _ N4.YU) (ZL H0.out N4.YU.size);refine h9.mono ?_;clear h9;rintro e w5 ⟨vt,v5,Z,rfl,t5,o5,ZK,p5,b5⟩;have N5:=N4.below b5;have Z4:w.heap.size+1<w4.heap.size:=N4.sv.lt;refine hK.out _ _ ⟨_,N5⟩ (fun ZM=>?_);clear hK K ZM N4 b5 O4 Z9;obtain ⟨ta,tc,rfl⟩:=t5.slice;obtain ⟨xa,xc,rfl,-⟩:=o5.rd.len;have HS:Hid (Calls Tryz.prog 18 #[.pointer (some ⟨w.heap.size+1,0,none⟩),.agg (qG (jn S sn) (.slice ta [ZI].length tc) (.slice xa (UP S sn).length xc) (.slice (some ⟨Z,0,none⟩) 0 1))] w5 fun e w'=>e=.returned (.tuple #[])∧Tw w5 (w.heap.size+1) none w' none∧∃ κ σ,Sv κ σ w'∧uW κ σ (w.heap.size+1) S sn) :=
  AA w5 (w.heap.size+1) Z S sn ta tc (UP S sn).length xa xc HC.out N5.sv rfl (o5.mono (by omega)) (t5.mono (by omega)) p5 (by omega)
 clear t5 o5 ZK p5;generalize qG (jn S sn) (.slice ta [ZI].length tc) (.slice xa (UP S sn).length xc) (.slice (some ⟨Z,0,none⟩) 0 1)=RR at *;refine ZU 5 rfl (by kernel_rfl) (fun K hK=>?_);go_simp;refine HS.out.mono ?_;rintro e w6 ⟨rfl,t6,κ,σ,v6,n6⟩;have FIN:Hid (ez w S sn (.returned (.pointer (some ⟨w.heap.size+1,0,none⟩))) w6):=⟨κ,σ,by rw [n6.sB],v6,n6,N5.YU.trans (t6.below (B:=w.heap.size) N5.YU.size (by omega) (by simp))⟩;have Y1:∃L,Nw w [.int .i64 S,.int .i64 (sn:Int)] L w6:=⟨(Kt (.pointer none) S (sn:Int) (.slice none 0 0) (.slice none 0 0) 0).take 0,N5.YU.trans (t6.below (B:=w.heap.size) N5.YU.size (by omega) (by simp)),t6.st N5.cf (by omega) (by simp),?sv⟩
 case sv =>
  refine ⟨ZL N5.sv.lt t6.size,fun j=>?_,fun j v hv=>by simp at hv⟩;obtain ⟨vd,made,ZQ,a1,-⟩:=v6.dk;rw [n6.sB] at a1;exact a1.fz j
 refine hK.out _ _ Y1 (fun ZM=>?_);clear hK K ZM t6 v6 n6 N5 Z4 Y1;refine ZP (by kernel_rfl) ?_ _
 try simp only [Act.put,Y8,Y7,Y6]
 go_wp2;go_ret;exact FIN.out
 end Go.Proofs.YtpmjnbmkippaiaaGreatDoor
namespace Go.Proofs.YtpmjnbmkippaiaaGreatDoor
open Go.RowKit Go.Conc
theorem rB.later {m:Int} {te:TypeId} {pe:Value} {w W:World} (h:rB m te pe w) (hb:ZX w W):rB m te pe W :=
 ⟨h.tc.below (YJ w _ (h.tc 0 (by omega))) hb,Vi h.qs hb,(hb.cell (YJ w _ h.er)).trans h.er,h.pl.later hb,h.fm.later hb⟩
theorem jg {m:Int} {te:TypeId} {pe:Value} {κ:Sc} {w W:World} (h:rB m te pe w) (hb:ZX w W) (hs:w.heap.size≤κ.sB):Gl m te pe κ W:=fun W2 hg=>h.later (hb.trans (hg.low hs hb.size))
structure jf (w:World) (κ:Sc) (Bs S L:Nat):Prop where
 ln:Ae κ S L
 lt:κ.sB<Bs∧κ.mB<Bs∧κ.c<Bs∧κ.lb<Bs
 wb:w.heap.size≤κ.sB
structure My (w:World) (κ:Sc) (Bs S L n k:Nat) (xs:List Int) (va:Value) (X:List Nat) (W:World):Prop where
 sv:∃ σ,Rk S L n k σ∧Sv { κ with X:=X } σ W
 xa:Bs+1 ∈ X
 xi:Bs+2 ∈ X
 xv:∀g,va.ownBlock=some g→g ∈ X
 bx:Boxed W (Bs+1) 22 va
 bi:∃v,Boxed W (Bs+2) 22 v
 ow:Own .u8 5 W (Bs+3) va xs
 sb:Boxed W Bs 34 (.pointer (some ⟨κ.sB,0,none⟩))
 low:ZX w W
 sz:Bs+3≤W.heap.size
def ml (w:World) (κ:Sc) (Bs S L n k:Nat) (W:World):Prop:=∃va X,(k=0→va.ownBlock=none)∧My w κ Bs S L n k (Zv (PR S L n k)) va X W
section
variable {w:World} {κ:Sc} {Bs S L n k:Nat} {xs:List Int} {va:Value} {X:List Nat} {W W':World}
theorem My.below (h:My w κ Bs S L n k xs va X W) (hb:ZX W W'):My w κ Bs S L n k xs va X W':=by
 obtain ⟨σ,r,v⟩:=h.sv;obtain ⟨vi,bi⟩:=h.bi;exact ⟨⟨σ,r,v.below hb⟩,h.xa,h.xi,h.xv,(hb.block _ h.bx.lt).trans h.bx,⟨vi,(hb.block _ bi.lt).trans bi⟩,h.ow.below hb,(hb.block _ h.sb.lt).trans h.sb,h.low.trans (hb.mono h.low.size),ZF h.sz hb.size⟩
theorem ml.below (h:ml w κ Bs S L n k W) (hb:ZX W W'):ml w κ Bs S L n k W':=let ⟨va,X,h0,h⟩:=h;⟨va,X,h0,h.below hb⟩
theorem My.Yj (hf:jf w κ Bs S L) {row:Option Nat} (h:My w κ Bs S L n k xs va X W) (hg:W.grownBy W' row) (hr:∀r,row=some r→Bs+3≤r∧∃o:Obj,W.heap[r]?=some o∧o.isCells=false):My w κ Bs S L n k xs va X W':=by
 obtain ⟨σ,r,v⟩:=h.sv;have hlt:=hf.lt;have hz:=hf.wb;refine ⟨⟨σ,r,v.Yj hg (fun r e=>⟨by show r≠κ.c;have:=(hr r e).1;omega,(hr r e).2⟩)⟩,h.xa,h.xi,h.xv,h.bx.kept hg (fun e=>by have:=(hr _ e.symm).1;omega),(let ⟨vi,bi⟩:=h.bi;⟨vi,bi.kept hg (fun e=>by have:=(hr _ e.symm).1;omega)⟩),Yn h.ow hg (fun r e=>(hr r e).2),h.sb.kept hg (fun e=>by have:=(hr _ e.symm).1;omega),h.low.grown hg h.low.size (fun q e=>by have:=(hr q e).1;omega),ZF h.sz hg.size⟩
theorem My.je (hf:jf w κ Bs S L) (h:My w κ Bs S L n k xs va X W) (x:Value):My w κ Bs S L n k xs va X (W.setCell ⟨Bs+2,0,none⟩ x):=by
 obtain ⟨σ,r,v⟩:=h.sv;have hlt:=hf.lt;have hz:=hf.wb;have hg:=kJ W (Bs+2) 0 x;exact ⟨⟨σ,r,v.other h.xi hg⟩,h.xa,h.xi,h.xv,h.bx.kept hg (by simp),(let ⟨vi,bi⟩:=h.bi;⟨x,bi.set x⟩),Own.Yk h.ow (show Bs+2<Bs+3 by omega) x,h.sb.kept hg (by simp),h.low.setCell (by show w.heap.size≤Bs+2;omega) x,by simpa using h.sz⟩
theorem My.line (hf:jf w κ Bs S L) (h:My w κ Bs S L n k xs va X W) (hx:va.ownBlock=none∨4≤xs.length) (hg:Gw { κ with X:=X } W W') (hs:∃ σ,Rk S L n (k+1) σ∧Sv { κ with X:=X } σ W') :
    My w κ Bs S L n (k+1) xs va X W'∧KeepsFrom (Bs+3) W W'∧W'.heap[Bs+2]?=W.heap[Bs+2]?:=by
 have hlt:=hf.lt;have hsz:=h.sz;have blk:∀q,Bs≤q→q<W.heap.size→W.cell? ⟨q,3,none⟩≠some (.slice none 0 0)→W.cell? ⟨q,1,none⟩≠some (.slice none 0 0)→W'.heap[q]?=W.heap[q]?:=fun q h1 h2 h3 h4=>hg.block q h2 (by show q≠κ.sB;omega) (by show q≠κ.mB;omega) (by show q≠κ.c;omega) (by show q≠κ.lb;omega) (fun _=>h3) (fun _=>h4)
 have box:∀ {q t v},Bs≤q→Boxed W q t v→W'.heap[q]?=W.heap[q]?:=fun {q t v} h1 hb=>blk q h1 hb.lt (by simp [World.cell?,show W.heap[q]?=_ from hb]) (by simp [World.cell?,show W.heap[q]?=_ from hb])
 obtain ⟨vi,bi⟩:=h.bi;have ei:=box (by omega) bi;refine ⟨⟨hs,h.xa,h.xi,h.xv,(box (by omega) h.bx).trans h.bx,⟨vi,ei.trans bi⟩,?_,(box ZT h.sb).trans h.sb,h.low.trans (hg.low hf.wb h.low.size),ZF hsz hg.size⟩,⟨hg.size,fun q o hq ho hc=>?_⟩,ei⟩
 · have h9:=h.ow
   refine ⟨h9.1,h9.2.imp id ?_⟩;rintro ⟨g,cap,cur,rfl,e1,e2,e3⟩;refine ⟨g,cap,cur,rfl,e1,?_,e3⟩
   rcases hx with hx | hx
   · simp [Value.ownBlock] at hx
   obtain ⟨ao,cp,e,-,-,r3⟩:=h9.rd
   rcases r3 with r3 | ⟨b,off,eb,hb,hc⟩
   · rw [r3] at hx;simp at hx
   simp only [Y4] at e
   rw [eb] at e
   simp only [Zo,JB,TJ] at e
   obtain ⟨⟨rfl,rfl⟩,-,-⟩:=e;have c3:=hc 3 (by omega);have c1:=hc 1 (by omega);rw [YK] at c3 c1;exact (blk g (by omega) hb (by rw [c3];simp) (by rw [c1];simp)).trans e2
 have hl:=(Yh.1 ho).1;have nc:∀j,W.cell? ⟨q,j,none⟩=none:=fun j=>by
  unfold World.cell?;rw [ho]
  cases o <;> first | rfl | (cases hc)
 exact (blk q (by omega) hl (by rw [nc];simp) (by rw [nc];simp)).trans ho
theorem My.app (hf:jf w κ Bs S L) (h:My w κ Bs S L n k xs va X W) {ys:List Int} {v2:Value} {W2:World} (ho:Own .u8 5 W2 (Bs+3) v2 ys)
    (hc:(v2.ownBlock=va.ownBlock∧W.grownBy W2 va.ownBlock)∨(ZX W W2∧∀g,v2.ownBlock=some g→W.heap.size≤g)) :
    ∃X',My w κ Bs S L n k ys v2 X' (W2.setCell ⟨Bs+1,0,none⟩ v2)∧KeepsFrom (Bs+3) W (W2.setCell ⟨Bs+1,0,none⟩ v2)∧(W2.setCell ⟨Bs+1,0,none⟩ v2).heap[Bs+2]?=W.heap[Bs+2]?∧W2.cell? ⟨Bs+1,0,none⟩=some va∧W2.frozen? ⟨Bs+1,0,none⟩=false:=by
 have hlt:=hf.lt;have hz:=hf.wb;have hsz:=h.sz;obtain ⟨vi,bi⟩:=h.bi;obtain ⟨σ,r,v⟩:=h.sv;have hne:=r.ne;have main:∀X',(∃ σ,Rk S L n k σ∧Sv { κ with X:=X' } σ W2)→Bs+1 ∈ X'→Bs+2 ∈ X'→(∀g,v2.ownBlock=some g→g ∈ X')→(∀q,q<Bs+3→W2.heap[q]?=W.heap[q]?)→ZX w W2→KeepsFrom (Bs+3) W W2→W.heap.size≤W2.heap.size →
     ∃X',My w κ Bs S L n k ys v2 X' (W2.setCell ⟨Bs+1,0,none⟩ v2)∧KeepsFrom (Bs+3) W (W2.setCell ⟨Bs+1,0,none⟩ v2)∧(W2.setCell ⟨Bs+1,0,none⟩ v2).heap[Bs+2]?=W.heap[Bs+2]?∧W2.cell? ⟨Bs+1,0,none⟩=some va∧W2.frozen? ⟨Bs+1,0,none⟩=false:=by
  intro X' hs a1 a2 a3 a4 a5 a6 a7;obtain ⟨σ',r',v'⟩:=hs;have hg:=kJ W2 (Bs+1) 0 v2;have b2:Boxed W2 (Bs+1) 22 va:=(a4 _ (by omega)).trans h.bx;have i2:Boxed W2 (Bs+2) 22 vi:=(a4 _ (by omega)).trans bi;have s2:Boxed W2 Bs 34 (.pointer (some ⟨κ.sB,0,none⟩)):=(a4 _ (by omega)).trans h.sb;exact ⟨X',⟨⟨σ',r',v'.other a1 hg⟩,a1,a2,a3,b2.set _,⟨vi,i2.kept hg (by simp)⟩,Own.Yk ho (show Bs+1<Bs+3 by omega) v2,s2.kept hg (by simp),a5.setCell (by show w.heap.size≤Bs+1;omega) v2,by simp;omega⟩,a6.trans ((KeepsOthers.setCell _ _ _).from _),((i2.kept hg (by simp)).trans bi.symm),b2.cell,b2.frozen⟩
 rcases hc with ⟨e,hg⟩ | ⟨hb,hfr⟩
 · cases ev:va.ownBlock with
   | none =>
    rw [ev] at hg;have hb:ZX W W2:=⟨hg.os,hg.tape,hg.output,hg.size,fun q hq=>hg.block q hq (by simp)⟩;exact main X ⟨σ,r,v.below hb⟩ h.xa h.xi (fun g eg=>by rw [e,ev] at eg;cases eg) (fun q hq=>hb.block q (by omega)) (h.low.trans (hb.mono h.low.size)) (XZ hb) hb.size
   | some g =>
    have hge:=(ZD h.ow g ev).1;rw [ev] at hg;exact main X ⟨σ,r,v.other (h.xv g ev) hg⟩ h.xa h.xi (fun q eq=>h.xv q (by rw [←e];exact eq)) (fun q hq=>hg.block q (by omega) (fun e9=>by injection e9 with e9;omega)) (h.low.grown hg h.low.size (fun q e9=>by injection e9 with e9;omega)) (Ce h.ow (by rw [ev];exact hg)) hg.size
 cases ev:v2.ownBlock with
 | none=>exact main X ⟨σ,r,v.below hb⟩ h.xa h.xi (fun g eg=>by rw [ev] at eg;cases eg) (fun q hq=>hb.block q (by omega)) (h.low.trans (hb.mono h.low.size)) (XZ hb) hb.size
 | some g =>
  have h1:=hfr g ev;have h2:=(ZD ho g ev).2;have v9:Sv { κ with X:=g :: X } σ W2:=v.boxed hb h1 h2 hne.1 hne.2;exact main (g :: X) ⟨σ,r,v9⟩ (Yl _ h.xa) (Yl _ h.xi) (fun q eq=>by rw [ev] at eq;injection eq with eq;rw [←eq];exact Wk ..) (fun q hq=>hb.block q (by omega)) (h.low.trans (hb.mono h.low.size)) (XZ hb) hb.size
theorem Az (s:ByteArray) (B O:Nat):Lib.bytesTrimSuffix B O (s.size+1) (s.size+1) (XS s++[10]) [10]=.slice (some ⟨B,O,none⟩) s.size (s.size+1):=by
 have h:Lib.hasSuffix (Lib.bytesOf (XS s++[10])) (Lib.bytesOf [10])=true:=by
  unfold Lib.hasSuffix;rw [List.isSuffixOf_iff_suffix];unfold Lib.bytesOf;rw [Wn];exact List.suffix_append _ _
 unfold Lib.bytesTrimSuffix;rw [ZZ h]
 rfl
end
end Go.Proofs.YtpmjnbmkippaiaaGreatDoor
namespace Go.Proofs.YtpmjnbmkippaiaaGreatDoor
open Go.RowKit Go.Shelf
theorem jd {α β:Type}:∀ {l:List (α × β)},(l.map Prod.fst).Nodup→∀ {k:α} {v u:β},(k,v) ∈ l→(k,u) ∈ l→u=v
 | [],_,_,_,_,h,_=>by cases h
 | (a,b) :: l,hn,k,v,u,h1,h2=>by
  rw [TM,List.nodup_cons] at hn;have hx:∀x,(k,x) ∈ l→k≠a:=fun x hx e=>hn.1 (by rw [←e];exact List.mem_map.2 ⟨_,hx,rfl⟩)
  rcases Yz.1 h1 with e1 | m1
  · rcases Yz.1 h2 with e2 | m2
    · rw [(PL e1).2,(PL e2).2]
    exact absurd (PL e1).1 (hx _ m2)
  rcases Yz.1 h2 with e2 | m2
  · exact absurd (PL e2).1 (hx _ m1)
  exact jd hn.2 m1 m2
theorem uV (B:Nat):((ur B).map Prod.fst).Nodup:=by
 unfold ur
 simp only [TM,MV]
 decide +kernel
def five (f:ByteArray):Prop:=(f.toList == [99,114,101,97,116,101])=true∨(f.toList == [115,101,116])=true∨(f.toList == [102,108,117,115,104])=true∨(f.toList == [115,110,97,112])=true∨(f.toList == [115,116,101,112])=true
def dR (W:World) (s:Value) (l:Ln) (v:Value):Prop :=
 (v=.func (.func 59) #[] #[]∧Calls Tryz.prog 59 #[s] W fun e w'=>mY W l e w') ∨
 (∃k,v=.func (.func 103) #[] #[.pointer (some ⟨k,0,none⟩)]∧Calls Tryz.prog 103 #[s,.pointer (some ⟨k,0,none⟩)] W fun e w'=>mY W l e w') ∨
 (∃f k,v=.func (.func 105) #[] #[.pointer (some ⟨f,0,none⟩),.pointer (some ⟨k,0,none⟩)]∧Calls Tryz.prog 105 #[s,.pointer (some ⟨f,0,none⟩),.pointer (some ⟨k,0,none⟩)] W fun e w'=>mY W l e w')
theorem Ay (w W:World) (N g c:Nat) (L:List ByteArray) (hp:PS w W N (ur w.heap.size) (mX w.heap.size)) (hL:0<L.length) (hL1:L.length≤1048577) (qt:L.length≤c) (hc:c≤maxLen) (hcl:∀i,i<L.length→W.cell? ⟨g,i,none⟩=some (.string (ZE L i))) (hgb:g<W.heap.size) (hsz:m6 L) {m:Int} {te:TypeId} {pe:Value} (hg:AQ W m te pe) (hf:uu W) (h5:five (ZE L 0)) :
    ∃v,(Instr.lookup 75 (.map (some w.heap.size)) (.string (ZE L 0)) true).run Tryz.prog W=.ok (.tuple #[v,.bool true]) W∧dR W (.slice (some ⟨g,0,none⟩) L.length c) (AM L) v:=by
 have hR:ux W (.slice (some ⟨g,0,none⟩) L.length c) L:=⟨_,c,rfl,qt,hc,.inr ⟨g,0,rfl,hgb,fun i hi=>by rw [YK];exact hcl i hi⟩⟩;have hop:∀V,ZX W V→Calls Tryz.prog 101 #[.slice (some ⟨g,0,none⟩) L.length c] V fun e w'=>ME V L e w':=fun V hV=>GI V _ L (hR.below hV) hsz (hg.later hV) (hf.later hV)
 have hcx:∀p ∈ mX w.heap.size,w.heap.size<p.1∧p.1<N∧W.cell? ⟨p.1,0,none⟩=some p.2:=hp.c;have hN:=hp.z;have hit:∀ {l:List UInt8} {v:Value},((ZE L 0).toList == l)=true→(Xv l,v) ∈ ur w.heap.size→(Instr.lookup 75 (.map (some w.heap.size)) (.string (ZE L 0)) true).run Tryz.prog W=.ok (.tuple #[v,.bool true]) W:=fun {l v} q hm=>by
  rw [jP q];exact hp.m.hit (P:=Tryz.prog) Tryz.underlying75 Tryz.underlying9 hm (fun v9 h9=>jd (uV _) hm h9)
 have k2:=hcx (w.heap.size+1,.int .i64 2) (by simp [mX]);have k6:=hcx (w.heap.size+5,.int .i64 6) (by simp [mX])
 rcases h5 with q | q | q | q | q
 · exact ⟨.func (.func 59) #[] #[],hit q (by simp [ur,Xv]),.inl ⟨rfl,Lr W _ c L hop _ (Ni q)⟩⟩
 · exact ⟨.func (.func 59) #[] #[],hit q (by simp [ur,Xv]),.inl ⟨rfl,Lr W _ c L hop _ (C6 q)⟩⟩
 · exact ⟨.func (.func 103) #[] #[.pointer (some ⟨w.heap.size+1,0,none⟩)],hit q (by simp [ur,Xv]),.inr (.inl ⟨_,rfl,Lt W _ _ c (w.heap.size+1) 2 k2.2.2 (by rw [hN];exact k2.2.1) _ (Ls q)⟩)⟩
 · exact ⟨.func (.func 103) #[] #[.pointer (some ⟨w.heap.size+5,0,none⟩)],hit q (by simp [ur,Xv]),.inr (.inl ⟨_,rfl,Lt W _ _ c (w.heap.size+5) 6 k6.2.2 (by rw [hN];exact k6.2.1) _ (GL q)⟩)⟩
 exact ⟨.func (.func 105) #[] #[.pointer (some ⟨w.heap.size+7,0,none⟩),.pointer (some ⟨w.heap.size+6,0,none⟩)],hit q (by simp [ur,Xv]),.inr (.inr ⟨_,_,rfl,J9 W g c (w.heap.size+6) (w.heap.size+7) L 7 (hcx (w.heap.size+6,.int .i64 7) (by simp [mX])).2.2 (hcx (w.heap.size+7,.func (.func 64) #[] #[]) (by simp [mX])).2.2 hL hL1 qt hc hR hsz hg _ (GK q)⟩)⟩
theorem Mx (w:World) (v:Value) (b:ByteArray) (h:Rd .u8 w v (bI b)) (hs:b.size≤1048576) {m:Int} {te:TypeId} {pe:Value} (hg:AQ w m te pe) (hf:uu w) (hbig:¬60000<b.size) (hall:(Xw b).all YG=true) (h5:five (ZE (Xw b) 0)) :
    Calls Tryz.prog 12 #[v] w fun e w'=>mY w (Xf b) e w':=by
 have hA:ZX w (w.alloc (.cells #[.int .i64 0,.slice none 0 0,.bool false,.string ⟨#[]⟩,.slice none 0 0] 43)):=ZJ.alloc ZT _;have BA:=Z3 hA;have X:=Z3 (St.new w #[.int .i64 0,.slice none 0 0,.bool false,.string ⟨#[]⟩,.slice none 0 0] 43);have hcv:=WS (h.below hA);rw [GF] at hcv;have s1:(w.alloc (.cells #[.int .i64 0,.slice none 0 0,.bool false,.string ⟨#[]⟩,.slice none 0 0] 43)).heap.size=w.heap.size+1:=by simp
 have HG:=Z3 (hg.later hA);have HF:=Z3 (hf.later hA);have HS:=Z3 (AI (w.alloc (.cells #[.int .i64 0,.slice none 0 0,.bool false,.string ⟨#[]⟩,.slice none 0 0] 43)) b hs HG.out.mx);obtain ⟨ao,cap,rfl,-⟩:=h;rw [U6] at hcv ⊢;clear hA hg hf;have o0:¬(60000:Int)<((b.size:Nat):Int):=by omega
 have H5:=Z3 h5;have iQ:=Z3 hall;have To:Hid (Xf b=if (Xw b).all YG=true then AM (Xw b) else Si):=by show _=_;unfold Xf;rw [Z1 hbig]
 obtain ⟨hl0,hl1,hsz⟩:=vO b hs;have Pm:=Z3 hsz;generalize Xf b=l at *;generalize Xw b=L at *;clear hbig hs hsz h5 hall
 go_enter Tryz.func12,Tryz.ntmps12
 go_wp2_with fail
 generalize w.alloc _=w1 at *;refine HS.out.mono ?_;rintro e w2 ⟨rfl,rfl⟩;have b2:ZX w1 (w1.alloc (.cells (L.map Value.string).toArray 9)):=ZJ.alloc ZT _;have UH:=Z3 (AH w1 L);have s2:(w1.alloc (.cells (L.map Value.string).toArray 9)).heap.size=w1.heap.size+1:=by simp
 replace X:=Z3 (X.out.below b2)
 replace BA:=Z3 (YV BA.out b2)
 replace HG:=Z3 (HG.out.later b2)
 replace HF:=Z3 (HF.out.later b2)
 clear HS hcv b2;generalize w1.alloc _=w3 at *;generalize hgg:w1.heap.size=g at *;have hgw:g<w3.heap.size:=by omega
 have sw:w.heap.size+1≤w3.heap.size:=by omega
 clear hgg s2 s1
 go_wp2_with fail
 refine (AN w3 g L.length L hl0 ZT (by unfold maxLen;omega) UH.out hgw).mono ?_;rintro e w4 ⟨rfl,b4⟩
 replace X:=Z3 (X.out.below b4)
 replace BA:=Z3 (YV BA.out b4)
 replace HG:=Z3 (HG.out.later b4)
 replace HF:=Z3 (HF.out.later b4)
 replace UH:Hid (∀i,i<L.length→w4.cell? ⟨g,i,none⟩=some (.string (ZE L i))):=fun i hi=>(b4.cell (p:=⟨g,i,none⟩) hgw).trans (UH.out i hi)
 have s4:=b4.size;clear b4;rw [iQ.out];have Y0:=Z3 (To.out.trans (ZZ iQ.out));clear To
 go_wp2_with fail
 have hpz:(0:Int)<((L.length:Nat):Int):=by omega
 have bD:ZX w4 w4.drew:=below_drewN' w4 1;refine ZH (S:=fun W=>W.cell? ⟨g,0,none⟩=some (.string (ZE L 0))) (by kernel_rfl) ((bD.cell (p:=⟨g,0,none⟩) (by show g<_;omega)).trans (UH.out 0 hl0)) (fun Z9=>?_)
 replace X:=Z3 (X.out.below bD)
 replace BA:=Z3 (YV BA.out bD)
 replace HG:=Z3 (HG.out.later bD)
 replace HF:=Z3 (HF.out.later bD)
 replace UH:Hid (∀i,i<L.length→w4.drew.cell? ⟨g,i,none⟩=some (.string (ZE L i))):=fun i hi=>(bD.cell (p:=⟨g,i,none⟩) (by show g<_;omega)).trans (UH.out i hi)
 have s5:=bD.size;clear bD;generalize w4.drew=w5 at *;refine ZG 1 (.slice (some ⟨g,0,none⟩) L.length L.length) rfl (by kernel_rfl) (fun _=>id) Z9 ?_ ?_
 · intro w9 Z0;clear Z0;go_simp;try with_reducible rfl
 refine ZG 2 (.pointer (some ⟨g,0,none⟩)) rfl (by kernel_rfl) (fun _=>id) Z9 ?_ ?_
 · intro w9 Z0;clear Z0;go_simp;try with_reducible rfl
 refine ZG 3 (.string (ZE L 0)) rfl (by kernel_rfl) (fun _=>id) Z9 ?_ ?_
 · intro w9 Z0;go_simp;try with_reducible rfl
 refine ZU 0 rfl (by kernel_rfl) (fun K hK=>?_);go_simp;refine (GG w5).mono ?_;rintro e w6 ⟨rfl,P6⟩;have b6:=P6.b;obtain ⟨fv,hlk,rG⟩:=Ay w5 w6 _ g L.length L P6 hl0 hl1 ZT (by unfold maxLen;omega) (fun i hi=>(b6.cell (p:=⟨g,i,none⟩) (by show g<_;omega)).trans (UH.out i hi)) (by have:=b6.size;omega) Pm.out (HG.out.later b6) (HF.out.later b6) H5.out
 replace X:=Z3 (X.out.below b6)
 replace BA:=Z3 (YV BA.out b6)
 have s6:=b6.size;have HY:=Z3 rG;refine hK.out _ _ ((b6.cell (p:=⟨g,0,none⟩) (by show g<_;omega)).trans Z9) (fun PW=>?_);clear hK K Z9 P6 b6 rG UH HG HF;refine ZU 4 rfl (by kernel_rfl) (fun K hK=>?_);go_simp;refine hK.out _ _ PW (fun Z9=>?_);clear hK K PW hlk
 iterate 5 (refine ZW ?_ (by kernel_rfl) (fun _=>id) Z9 ?_ ?_;rotate_left;· intro w9 Z0;clear Z0;go_simp;try with_reducible rfl)
 refine ZP (by kernel_rfl) ?_ _
 try simp only [Act.put,Y8,Y7,Y6]
 clear Z9;have hP:=HY.out;rw [←Y0.out] at hP;clear HY Y0
 rcases hP with ⟨rfl,hc⟩ | ⟨k9,rfl,hc⟩ | ⟨f9,k9,rfl,hc⟩
 all_goals
  have HC:=Z3 hc;clear hc
  go_wp2_with fail
  refine HC.out.mono ?_;rintro e w7 ⟨vo,vn,rfl,o7,n7,b7⟩;obtain ⟨YZ,YY,rfl⟩:=o7.slice;obtain ⟨YX,YW,rfl⟩:∃a c,vn=.slice a l.nums.length c:=by
   obtain ⟨a,c,e9,-⟩:=Uh n7;exact ⟨a,c,e9⟩
  replace X:=Z3 (X.out.below b7)
  replace BA:=Z3 (YV BA.out b7)
  have O7:=Z3 (VU.mono o7 (show w.heap.size+1≤w6.heap.size by omega));have N7:=Z3 (Own.mono n7 (show w.heap.size+1≤w6.heap.size by omega));clear HC o7 n7 b7;have x0:=X.out.fz;have y0:=X.out.cl 0 _ rfl;have y1:=X.out.cl 1 _ rfl;have y2:=X.out.cl 2 _ rfl;have y3:=X.out.cl 3 _ rfl;have y4:=X.out.cl 4 _ rfl
  go_wp2_with fail
  obtain ⟨b9,x9,o9,n9⟩:=U4 BA.out X.out (l.kind) (l.VK) (l.path) (vo:=.slice YZ l.ops.length YY) (vn:=.slice YX l.nums.length YW) (show VU _ _ _ _ l.ops from O7.out) (show Own _ _ _ _ _ l.nums from N7.out);have d0:=x9.cl 0 _ rfl;have d1:=x9.cl 1 _ rfl;have d2:=x9.cl 2 _ rfl;have d3:=x9.cl 3 _ rfl;have d4:=x9.cl 4 _ rfl;exact ZS (v:=.agg #[.int .i64 (l.kind),.slice YZ l.ops.length YY,.bool (l.VK),.string (l.path),.slice YX l.nums.length YW]) (by simp [results,Tryz.results12,go_sem,d0,d1,d2,d3,d4]) rfl (by rw [show l=l from rfl];exact ⟨_,_,rfl,o9,n9,b9⟩)
theorem rk {n:Nat} (h:1≤n) (hn:n≤64) (k:Nat) (hk:k<116):(Xw ((UI n).getD k ⟨#[]⟩)).all YG=true∧five (ZE (Xw ((UI n).getD k ⟨#[]⟩)) 0):=by
 have g2:YG pA=true:=by decide +kernel
 have c1:(Xw (Gy n)).all YG=true∧five (ZE (Xw (Gy n)) 0):=by
  have g1:YG (Xv [99,114,101,97,116,101])=true:=by decide +kernel
  rw [vL];exact ⟨by simp [g1,g2,J6 h],.inl (by show ((Xv [99,114,101,97,116,101]).toList == _)=true;decide +kernel)⟩
 have c2:(Xw (J7 n)).all YG=true∧five (ZE (Xw (J7 n)) 0):=by
  have g1:YG (Xv [115,101,116])=true:=by decide +kernel
  have g3:YG (Xv [45,49])=true:=by decide +kernel
  rw [vK];exact ⟨by simp [g1,g2,g3,J6 h],.inr (.inl (by show ((Xv [115,101,116]).toList == _)=true;decide +kernel))⟩
 have c3:(Xw RF).all YG=true∧five (ZE (Xw RF) 0):=by rw [vJ];exact ⟨by decide +kernel,.inr (.inr (.inl (by decide +kernel)))⟩
 have c4:(Xw FU).all YG=true∧five (ZE (Xw FU) 0):=by rw [vI];exact ⟨by decide +kernel,.inr (.inr (.inr (.inl (by decide +kernel))))⟩
 have c5:(Xw CY).all YG=true∧five (ZE (Xw CY) 0):=by rw [vH];exact ⟨by decide +kernel,.inr (.inr (.inr (.inr (by decide +kernel))))⟩
 rw [vG n k hk]
 repeat' split
 all_goals assumption
end Go.Proofs.YtpmjnbmkippaiaaGreatDoor
namespace Go.Proofs.YtpmjnbmkippaiaaGreatDoor
open Go.RowKit Go.Conc Go.Shelf
attribute [local go_sem] VA
theorem Gg {F:Fence} {n fuel:Nat} {P:Program} {md:Region.Mode} {ops:Array Oper} {Q:Exit→Act→World→Prop} {listed:Array Bool} {a:Act} {w:World} (R:Array Oper→(Exit→Act→World→Prop)→Prop) (h1:R ops Q) (h2:R ops Q→wpAnyIn F n P md ops Q fuel listed a w):wpAnyIn F n P md ops Q fuel listed a w:=h2 h1
theorem Rk.zero {κ:Sc} {σ:Sx} {sB:Nat} {S:Int} {sn n S9:Nat} (h:uW κ σ sB S sn):Rk S9 sn n 0 σ:=by
 refine ⟨fun _=>h.k,fun _=>by rw [h.k];omega,fun _=>by rw [h.k];omega,fun _=>⟨by rw [h.k];omega,h.YE⟩,fun _=>h.sn,fun _=>h.em,fun e=>by omega,fun _=>by rw [h.rt.2.2.2.2.2.2];simp,?_⟩
 by_cases h9:Zp n≤sn*64
 · rw [ZZ h9,ZZ rfl];exact h.rt
 rw [Z1 h9,Z1 (by omega),Z1 (by omega),ZZ (by omega)];exact h.rt
theorem Aw {m:Int} {te:TypeId} {pe:Value} (w:World) (B o N cap S L n:Nat) (hn:n≤64) (hn1:1≤n) (hc:YO (S:Int) (L:Int)=true) (hG:rB m te pe w) (hN:(Zv (UI n)).length=N) (hr:Rd .u8 w (.slice (some ⟨B,o,none⟩) N cap) (Zv (UI n))) :
    Calls Tryz.prog 6 #[.slice (some ⟨B,o,none⟩) N cap,.agg #[.int .i64 (S:Int),.int .i64 (L:Int)]] w fun e w'=>∃v',e=.returned v'∧Own .u8 5 w' w.heap.size v' (Zv (PR S L n 116))∧ZX w w':=by
 have hsz:N≤9396:=by
  have:=JY (UI n) (fun s hs=>(CM n hn s hs).2);rw [Vl,hN] at this;omega
 have HG:=Z3 hG;have HR:=Z3 hr;have HN:=Z3 hN;have HC:=Z3 hc;have hNb:¬(60000:Int)<(N:Int):=by omega
 have Yq:decide ((60000:Int)<(N:Int))=false:=by simpa using hNb
 have B0:Hid (ZX w (w.alloc (.cells #[.int .i64 (S:Int),.int .i64 (L:Int)] 25))):=ZJ.alloc ZT _;have C0:=Z3 (St.new w #[.int .i64 (S:Int),.int .i64 (L:Int)] 25);clear hG hr hN hc;refine (XM (n:=6)).1 ?_;refine callsIn_of_wp_marks Tryz.func6 rfl trivial ?_ rfl
 simp only [Tryz.ntmps6,Zm,Yr,Wo,Nat.reduceAdd,Nat.reduceSub,JO,JN,Wj,Ur,Yw,Vq]
 gi_wp2_with fail
 refine ⟨trivial,?_⟩;refine (XM.2 (VE _ (S:Int) (L:Int))).mono ?_;rintro e w1 ⟨rfl,b1⟩;rw [HC.out];have B1:=Z3 (YV B0.out b1);have C1:=Z3 (C0.out.below b1);have c0:=C1.out.cl 0 _ rfl;have c1:=C1.out.cl 1 _ rfl;clear B0 C0 b1
 gi_wp2_with fail
 clear c0 c1;refine ⟨trivial,?_⟩;refine (XM.2 (Mz w1 (S:Int) L HC.out (HG.out.later B1.out).tc (ZL (by omega) (Nat.succ_le_of_lt (C1.out.lt))))).mono ?_;rintro e w2 ⟨κ,σ,rfl,v2,n2,b2⟩
 gi_wp2_with fail
 refine ⟨trivial,?_⟩;refine (vg _ _ _ _ _).mono ?_;rintro e w5 ⟨rfl,Rc⟩
 gi_wp2_with fail
 have B2:ZX w w2:=YV B1.out b2;have hkB:w.heap.size≤κ.sB:=by rw [n2.sB];have:=B1.out.size;omega
 have hF:jf w κ w2.heap.size S L:=by
  obtain ⟨vd,made,ZQ,a1,-⟩:=v2.dk;obtain ⟨vt,vq,cp,b1,-,-,-,-,-,b7,-⟩:=v2.mm;obtain ⟨Lv,s,r,c1,-⟩:=v2.ch;refine ⟨⟨n2.S,n2.L,n2.cap,by rw [n2.S,n2.L];exact HC.out⟩,⟨a1.lt,b1.lt,(Yh.1 c1).1,(b7.lt κ.lb rfl).2⟩,hkB⟩
 have s5:w5.heap.size=w2.heap.size+3:=by rw [Rc];simp
 have Fv:Hid (ml w κ w2.heap.size S L n 0 w5∧Boxed w5 (w2.heap.size+2) 22 (.slice (some ⟨B,o,none⟩) N cap)):=by
  have bA:ZX w2 ((w2.alloc (.cells #[.pointer (some ⟨κ.sB,0,none⟩)] 34)).alloc (.cells #[.slice none 0 0] 22)):=(ZJ.alloc ZT _).alloc (by simp) _;have zA:((w2.alloc (.cells #[.pointer (some ⟨κ.sB,0,none⟩)] 34)).alloc (.cells #[.slice none 0 0] 22)).heap.size=w2.heap.size+2:=by simp
  have x1:=(Boxed.new w2 34 (.pointer (some ⟨κ.sB,0,none⟩))).alloc (.cells #[.slice none 0 0] 22);have x2:=Boxed.new (w2.alloc (.cells #[.pointer (some ⟨κ.sB,0,none⟩)] 34)) 22 (.slice none 0 0);rw [Wg] at x2;rw [Rc];generalize (w2.alloc _).alloc _=wA at *;have hT:σ.T≠[]:=by rw [n2.rt.1];exact U3
  have hQ:σ.Q≠[]:=by rw [n2.rt.2.2.1];exact U3
  have vA:Sv { κ with X:=(w2.heap.size+1) :: κ.X } σ wA:=v2.boxed bA (by omega) (by omega) hT hQ;have bB:ZX wA (wA.alloc (.cells #[.slice (some ⟨B,o,none⟩) N cap] 22)):=ZJ.alloc ZT _;have vB:Sv { κ with X:=(w2.heap.size+2) :: (w2.heap.size+1) :: κ.X } σ (wA.alloc (.cells #[.slice (some ⟨B,o,none⟩) N cap] 22)):=vA.boxed bB (by omega) (by simp;omega) hT hQ;have x3:=Boxed.new wA 22 (.slice (some ⟨B,o,none⟩) N cap);rw [zA] at x3;exact ⟨⟨.slice none 0 0,_,fun _=>rfl,⟨σ,Rk.zero n2,vB⟩,by simp,by simp,fun g e=>by simp [Value.ownBlock] at e,x2.alloc _,⟨_,x3⟩,Zl _ _ _ _,x1.alloc _,B2.trans ((YV bA bB).mono B2.size),by simp;omega⟩,x3⟩
 have Fq:Hid (∀W,ZX w W→∀i,i<N→W.cell? ⟨B,o+i,none⟩=some (.int .u8 ((Zv (UI n)).getD i 0))):=fun W hW i hi=>by
  obtain ⟨ao,cp,e,r1,r2,r3⟩:=HR.out.below hW
  rcases r3 with r3 | ⟨b9,off,eb,ST,jQ⟩
  · have:=HN.out;rw [r3] at this;simp at this;omega
  simp only [Y4] at e
  rw [eb] at e
  simp only [Zo,JB,TJ] at e
  obtain ⟨⟨rfl,rfl⟩,-,-⟩:=e;exact jQ i (by rw [HN.out];exact hi)
 have hBl:B<w.heap.size:=by
  obtain ⟨ao,cp,e,r1,r2,r3⟩:=HR.out
  rcases r3 with r3 | ⟨b9,off,eb,ST,-⟩
  · have h9:=HN.out
    have:=J1 (ls:=UI n) (k:=0) (by rw [Vl];omega);rw [r3] at this;simp at this
  simp only [Y4] at e
  rw [eb] at e
  simp only [Zo,JB,TJ] at e
  omega
 obtain ⟨YD,hcm⟩:N≤cap∧cap≤maxLen:=by
  obtain ⟨ao,cp,e,r1,r2,-⟩:=HR.out
  simp only [Y4] at e
  rw [HN.out] at r1;omega
 have HF:=Z3 hF;rw [←Rc];clear Rc v2 n2 b2 B1 C1 B2 hkB hF HR;refine Ty (F:=Fence.wide) (n:=6) rfl (by omega) (gf:=21) (lb:=#[.pointer (some ⟨w2.heap.size+2,0,none⟩)]) rfl trivial (enters_of Tryz.func21 (by kernel_rfl) rfl)
  (fun k W=>ml w κ w2.heap.size S L n k W) (fun k vs _=>k<116∧vs=#[.slice (some ⟨B,o+VH (UI n) k,none⟩) (((UI n).getD k ⟨#[]⟩).size+1) (((UI n).getD k ⟨#[]⟩).size+1)]) (fun k _=>k+1) (fun X Y=>Y.heap[w2.heap.size+2]?=X.heap[w2.heap.size+2]?) (fun k=>k=116) 0
  (fun k X Y row hs hg hr=>by obtain ⟨va,X9,h0,hs⟩:=hs;exact ⟨va,X9,h0,hs.Yj HF.out hg (fun r e=>by have:=hr r e;rw [s5] at this;exact this)⟩) (fun h1 h2=>h2.trans h1) (fun W l o o' hl _ _ _=>World.putObj_heap_other (by omega))
  (fun k vs W hp=>by rw [hp.2];rfl) Fv.out.1
  (fun k vs a' W=>k<116∧ml w κ w2.heap.size S L n k W∧a'={ tmps:=(fun T=>#[.slice (some ⟨B,o,none⟩) N cap,.agg #[.int .i64 (S:Int),.int .i64 (L:Int)],undef,.pointer (some ⟨w.heap.size,0,none⟩),.slice none 0 0,.pointer (some ⟨w2.heap.size,0,none⟩),.pointer (some ⟨w2.heap.size+1,0,none⟩),T,undef,.agg #[.int .i64 (S:Int),.int .i64 (L:Int)],.bool true,.bool false,undef,undef,.slice (some ⟨B,o,none⟩) N cap,.int .i64 (N:Int),.bool false,undef,undef,.agg #[.int .i64 (S:Int),.int .i64 (L:Int)],.pointer (some ⟨κ.sB,0,none⟩),.slice (some ⟨B,o,none⟩) N cap,.func (.func 21) #[] #[.pointer (some ⟨w2.heap.size+2,0,none⟩)],T,undef,undef,undef,undef,undef,undef,undef,undef,undef,undef,undef,undef,undef]) (.slice (some ⟨B,o+VH (UI n) k,none⟩) (((UI n).getD k ⟨#[]⟩).size+1) (((UI n).getD k ⟨#[]⟩).size+1)),defers:=[] })
  ?ax ?assign ?body ?call ?done
 case ax =>
  rintro k vs a' _ X Y row ⟨h1,⟨va,X9,h0,h2⟩,h3⟩ hg hr;exact ⟨h1,⟨va,X9,h0,h2.Yj HF.out hg (fun r e=>by have:=hr r e;rw [s5] at this;exact this)⟩,h3⟩
 case assign =>
  rintro l k vs W K hS ⟨hk,rfl⟩ hK;have HK:=Z3 hK;have HS:=Z3 hS;clear hK hS;gi_wp2;exact HK.out _ _ ⟨ZT,fun _ _ _ h _=>h⟩ rfl ⟨hk,HS.out,rfl⟩
 case call =>
  intro Bk W1 tG hY hb1 _ hs0 hb0;have hx1:Boxed W1 (w2.heap.size+2) 22 (.slice (some ⟨B,o,none⟩) N cap):=(hb1.block _ (by omega)).trans Fv.out.2;refine (Eq 5 (by omega) (w5.heap.size+1) (w2.heap.size+2) B o N cap (UI n) (fun s hs=>(CM n hn s hs).1) HN.out (by omega) YD hcm (fun k W=>ml w κ w2.heap.size S L n k W) Bk (fun k X Y hb h=>h.below hb) (fun X Y hb h=>tG X Y (XZ hb) h) (fun k X v h=>let ⟨va,X9,h0,h⟩:=h;⟨va,X9,h0,h.je HF.out v⟩) (fun X v h=>tG _ _ ((KeepsOthers.setCell _ _ _).from _) h) (fun k W h=>let ⟨va,X9,h0,h⟩:=h;Fq.out W h.low) (fun k vs W a b c=>hY k vs W a b (by rw [Vl] at c;exact c)) W1 hs0 hb0 hx1 (by rw [Vl];omega)).mono ?_;rintro e W' ⟨h1,h2,h3⟩;rw [Vl] at h2;exact ⟨h1,116,rfl,h2,h3⟩
 case done =>
  rintro D k W hD rfl ⟨va,X9,-,hJ⟩ hK;have c0:=hJ.bx.cell;have HJ:=Z3 hJ;have HK:=Z3 hK;clear hJ hK;gi_wp2;refine ⟨by simp,.inl ⟨_,_,rfl,run_takeDeferred HK.out,?_⟩⟩;have GX:=grownBy_putObj' W D (.deferred none);have OF:Own .u8 5 (W.putObj D (.deferred none)) (w2.heap.size+3) va (Zv (PR S L n 116)):=Yn HJ.out.ow GX (fun r e=>by injection e with e;subst e;exact ⟨_,HK.out,rfl⟩);have hz:=HF.out.wb;have hlt:=HF.out.lt;have BF:=HJ.out.low.grown GX HJ.out.low.size (fun q e=>by injection e with e;omega);exact ⟨va,by simp [results,Tryz.results6,go_sem],va,rfl,OF.mono (by omega),BF⟩
 case body =>
  rintro l k vs a' W ⟨hk,⟨va,X,YS,hJ⟩,rfl⟩;have YC:=Z3 YS;have HJ:=Z3 hJ;have hkl:k<(UI n).length:=by rw [Vl];exact hk
  have ku:Hid (∀W',ZX w W'→∀i,i<((UI n).getD k ⟨#[]⟩).size+1→W'.cell? ⟨B,o+VH (UI n) k+i,none⟩=some (.int .u8 ((XS ((UI n).getD k ⟨#[]⟩)++[10]).getD i 0))):=fun W' hW' i hi=>by
   have h1:=J1 hkl;rw [HN.out] at h1;have h2:=Fq.out W' hW' (VH (UI n) k+i) (by omega);rw [←Ue] at h2;rw [h2];have h3:(Zv (UI n)).getD (VH (UI n) k+i) 0=((Zv (UI n)).drop (VH (UI n) k)).getD i 0:=by simp [List.getD,Qt]
   rw [h3,PT hkl,show (10:Int) :: Zv ((UI n).drop (k+1))=[10]++Zv ((UI n).drop (k+1)) from rfl,←YM]
   congr 2
   rw [List.getD,List.getD,Wd (by rw [ZA,YP];exact hi)]
   rfl
  have F5:=Z3 (rk hn1 hn k hk);have YR:((UI n).getD k ⟨#[]⟩).size≤80:=by
   rw [List.getD,Xc hkl];exact (CM n hn _ (UO hkl)).2
  obtain ⟨s,hs⟩:∃s,s=(UI n).getD k ⟨#[]⟩:=⟨_,rfl⟩;have HS:=Z3 hs;rw [←hs] at ku YR F5 ⊢;generalize o+VH (UI n) k=O at *;have kc:=Lib.run_convert_bytes_const (P:=Tryz.prog) W 22 5 #[.int .u8 10] 1 1 Tryz.underlying22 Tryz.underlying5;have bA:ZX W (W.alloc (.cells #[.int .u8 10] 5 (1,2))):=ZJ.alloc ZT _;clear hJ hs YS
  gi_wp2_with fail
  have zW:(W.alloc (.cells #[.int .u8 10] 5 (1,2))).heap.size=W.heap.size+1:=by simp
  have cN:∀i,i<1→(W.alloc (.cells #[.int .u8 10] 5 (1,2))).cell? ⟨W.heap.size,0+i,none⟩=some (.int .u8 (([10]:List Int).getD i 0)):=fun i hi=>by
   have:i=0:=by omega
   subst this;rw [Xn _ W.heap.size (0+0) _ _ _ (Y9 W _)]
   rfl
  have JA:=Z3 (HJ.out.below bA);have KA:Hid (KeepsFrom (w2.heap.size+3) W (W.alloc (.cells #[.int .u8 10] 5 (1,2)))∧(W.alloc (.cells #[.int .u8 10] 5 (1,2))).heap[w2.heap.size+2]?=W.heap[w2.heap.size+2]?):=⟨XZ bA,bA.block _ (by have:=HJ.out.sz;omega)⟩;have CN:=Z3 cN;clear kc bA zW cN HJ;generalize W.alloc _=WA at *;refine ⟨trivial,?_⟩;refine (CallsIn.inRound l (XM.2 (Tryz.bytes_TrimSuffix B O (s.size+1) (s.size+1) W.heap.size 0 1 1 (XS s++[10]) [10] WA (by rw [ZA,YP];rfl) rfl ZT (by omega) (ku.out WA JA.out.low) CN.out))).mono ?_;rintro e w7 ⟨rfl,rfl⟩;rw [Az]
  gi_wp2_with fail
  refine ⟨trivial,?_⟩;have GA:=Z3 (HG.out.later JA.out.low);have RA:Rd .u8 w7 (.slice (some ⟨B,O,none⟩) s.size (s.size+1)) (bI s):=by
   refine ⟨_,s.size+1,by rw [U6],by rw [U6];omega,by unfold maxLen;omega,.inr ⟨B,O,rfl,ZL hBl JA.out.low.size,fun i hi=>?_⟩⟩;rw [U6] at hi;rw [ku.out w7 JA.out.low i (by omega),List.getD,Wd (by rw [YP];exact hi)]
   rfl
  refine (CallsIn.inRound l (XM.2 (Mx w7 _ s RA (by omega) GA.out.pl GA.out.fm (by omega) F5.out.1 F5.out.2))).mono ?_;rintro e w8 ⟨vo,vn,rfl,o8,n8,b8⟩;obtain ⟨oa,oc,rfl⟩:=o8.slice;obtain ⟨na,nc,rfl⟩:=Own.slice n8;obtain ⟨ln,hln⟩:∃ln,ln=Xf s:=⟨_,rfl⟩;have HL:Hid (Xf ((UI n).getD k ⟨#[]⟩)=ln):=by show _=_;rw [hln,HS.out]
  rw [←hln] at o8 n8 ⊢;clear hln RA GA;have O8:=Z3 o8;have N8:=Z3 n8;have B8:=Z3 b8;clear o8 n8 b8
  gi_wp2_with fail
  rename_i KK Ku;have bB:ZX w8 (w8.alloc (.cells #[.int .i64 ln.kind,.slice oa ln.ops.length oc,.bool ln.VK,.string ln.path,.slice na ln.nums.length nc] 43)).drew:=(ZJ.alloc ZT _).trans ((below_drewN' _ 1).mono (by simp));have XB:Hid (St (w8.alloc (.cells #[.int .i64 ln.kind,.slice oa ln.ops.length oc,.bool ln.VK,.string ln.path,.slice na ln.nums.length nc] 43)).drew w8.heap.size [.int .i64 ln.kind,.slice oa ln.ops.length oc,.bool ln.VK,.string ln.path,.slice na ln.nums.length nc]):=(St.new w8 #[.int .i64 ln.kind,.slice oa ln.ops.length oc,.bool ln.VK,.string ln.path,.slice na ln.nums.length nc] 43).below (below_drewN' _ 1);have REST:Hid (∀(W3:World) (YQ:Option Addr) (YN YL:Nat) (X3:List Nat) (u29 u30 u31 u32 u33:Value) (y3:List Int),Hid (y3=Zv (PR S L n k)++XS (YA S L n k))→My w κ w2.heap.size S L n (k+1) y3 (.slice YQ YN YL) X3 W3→KeepsFrom (w2.heap.size+3) W W3→W3.heap[w2.heap.size+2]?=W.heap[w2.heap.size+2]?→KK { tmps:=#[.slice (some ⟨B,o,none⟩) N cap,.agg #[.int .i64 (S:Int),.int .i64 (L:Int)],undef,.pointer (some ⟨w.heap.size,0,none⟩),.slice none 0 0,.pointer (some ⟨w2.heap.size,0,none⟩),.pointer (some ⟨w2.heap.size+1,0,none⟩),.slice (some ⟨B,O,none⟩) (s.size+1) (s.size+1),.pointer (some ⟨w8.heap.size,0,none⟩),.agg #[.int .i64 (S:Int),.int .i64 (L:Int)],.bool true,.bool false,undef,undef,.slice (some ⟨B,o,none⟩) N cap,.int .i64 (N:Int),.bool false,undef,undef,.agg #[.int .i64 (S:Int),.int .i64 (L:Int)],.pointer (some ⟨κ.sB,0,none⟩),.slice (some ⟨B,o,none⟩) N cap,.func (.func 21) #[] #[.pointer (some ⟨w2.heap.size+2,0,none⟩)],.slice (some ⟨B,O,none⟩) (s.size+1) (s.size+1),.slice (some ⟨B,O,none⟩) (s.size+1) (s.size+1),.slice (some ⟨W.heap.size,0,none⟩) 1 1,.slice (some ⟨W.heap.size,0,none⟩) 1 1,.slice (some ⟨B,O,none⟩) s.size (s.size+1),.agg #[.int .i64 ln.kind,.slice oa ln.ops.length oc,.bool ln.VK,.string ln.path,.slice na ln.nums.length nc],u29,u30,u31,u32,u33,undef,undef,undef],defers:=[] } W3):=by
   intro W3 YQ YN YL X3 u29 u30 u31 u32 u33 y3 H3 j3 k3 i3;have J3:=Z3 j3;have K3:Hid (KeepsFrom (w2.heap.size+3) W W3∧W3.heap[w2.heap.size+2]?=W.heap[w2.heap.size+2]?):=⟨k3,i3⟩;have c3:=j3.bx.cell;have hxl:y3.length+(⟨#[10]⟩:ByteArray).size≤1048576:=by
    rw [H3.out];obtain ⟨-,h2⟩:=M9 S L n k;obtain ⟨-,h4,-⟩:=J0 S L n k;rw [ZA,YP];have:(⟨#[10]⟩:ByteArray).size=1:=rfl;omega
   have gV:=Z3 hxl;clear hxl j3 k3 i3 XB bB JA KA O8 N8 B8;refine Ku _ _ ?_;clear Ku
   gi_wp2_with (gi_at_builtin;go_must (refine SI rfl _ _ rfl (w2.heap.size+3) _ y3 ⟨#[10]⟩ rfl rfl J3.out.ow (by decide) gV.out J3.out.sz ?_))
   intro v4 w4 o4 c4;obtain ⟨y4,hy4⟩:∃y,y=y3++XS ⟨#[10]⟩:=⟨_,rfl⟩;have H4:=Z3 hy4;rw [←hy4] at o4;clear hy4;obtain ⟨a4,l4,rfl⟩:=Own.slice o4;obtain ⟨X4,j4,k4,i4,cc,ff⟩:=J3.out.app HF.out o4 c4;have J4:=Z3 j4;have K4:Hid (KeepsFrom (w2.heap.size+3) W3 _∧_=W3.heap[w2.heap.size+2]?):=⟨k4,i4⟩;clear o4 c4 j4 k4 i4 c3;gi_wp2;refine ⟨K3.out.1.trans K4.out.1,K4.out.2.trans K3.out.2,.slice a4 y4.length l4,X4,fun e=>by omega,?_⟩;rw [Gq,←H3.out,←H4.out];exact J4.out
  have A:=Z3 ((JA.out.below B8.out).below bB);have ZC:Hid (KeepsFrom (w2.heap.size+3) W _∧(w8.alloc (.cells #[.int .i64 ln.kind,.slice oa ln.ops.length oc,.bool ln.VK,.string ln.path,.slice na ln.nums.length nc] 43)).drew.heap[w2.heap.size+2]?=W.heap[w2.heap.size+2]?):=⟨KA.out.1.trans ((XZ B8.out).trans (XZ bB)),(bB.block _ (by have:=(JA.out.below B8.out).sz;omega)).trans ((B8.out.block _ (by have:=JA.out.sz;omega)).trans KA.out.2)⟩;have CALL:Hid (Calls Tryz.prog 14 #[.pointer (some ⟨κ.sB,0,none⟩),.agg #[.int .i64 ln.kind,.slice oa ln.ops.length oc,.bool ln.VK,.string ln.path,.slice na ln.nums.length nc]] (w8.alloc (.cells #[.int .i64 ln.kind,.slice oa ln.ops.length oc,.bool ln.VK,.string ln.path,.slice na ln.nums.length nc] 43)).drew fun e W'=>e=.returned (.string (YA S L n k))∧My w κ w2.heap.size S L n (k+1) (Zv (PR S L n k)) va X W'∧KeepsFrom (w2.heap.size+3) W W'∧W'.heap[w2.heap.size+2]?=W.heap[w2.heap.size+2]?):=by
   obtain ⟨σ1,r1,v1⟩:=JA.out.sv;have b10:=YV B8.out bB;have uC:=HF.out.ln;refine (AE (κ:={ κ with X:=X }) (σ:=σ1) ⟨uC.eS,uC.eL,uC.cap,uC.c⟩ (v1.below b10) (jg HG.out A.out.low HF.out.wb) hn r1 hn1 hk (.slice oa ln.ops.length oc) (.slice na ln.nums.length nc) w7 ln HL.out b10 v1 (O8.out.below bB) (N8.out.below bB)).mono ?_;rintro e W' ⟨rfl,g',h'⟩;obtain ⟨j',k',i'⟩:=A.out.line HF.out (by
    by_cases e0:k=0
    · exact .inl (YC.out e0)
    exact .inr (by have:=(M9 S L n k).1;omega)) g' h'
   exact ⟨rfl,j',ZC.out.1.trans k',i'.trans ZC.out.2⟩
  clear B8 O8 N8 JA KA Ku ZC;have YB:Hid (∀W',My w κ w2.heap.size S L n (k+1) (Zv (PR S L n k)) va X W'→0<(YA S L n k).size∧(Zv (PR S L n k)).length+(YA S L n k).size≤1048576):=fun W' _=>by
   obtain ⟨-,h2⟩:=M9 S L n k;obtain ⟨h3,h4,-⟩:=J0 S L n k;omega
  have a0:=A.out.bx.cell;have a1:=A.out.sb.cell;have x0:=XB.out.cl 0 _ rfl;have x1:=XB.out.cl 1 _ rfl;have x2:=XB.out.cl 2 _ rfl;have x3:=XB.out.cl 3 _ rfl;have x4:=XB.out.cl 4 _ rfl;clear XB bB A;refine wpIn_region_any (by kernel_rfl) ?_;refine Gp l rfl (by kernel_rfl) _ _ _ _ ?_
  change wpAnyIn _ _ _ _ _ _ _ _ _ (w8.alloc (.cells #[.int .i64 ln.kind,.slice oa ln.ops.length oc,.bool ln.VK,.string ln.path,.slice na ln.nums.length nc] 43)).drew
  generalize (w8.alloc _).drew=LE at *;refine Gg (R:=fun ZB Q=>∀W',My w κ w2.heap.size S L n (k+1) (Zv (PR S L n k)) va X W'→KeepsFrom (w2.heap.size+3) W W'→W'.heap[w2.heap.size+2]?=W.heap[w2.heap.size+2]?→wpAnyIn Fence.wide 4 Tryz.prog .any ZB Q 2 #[true,true,true,true,false,false] { tmps:=#[.slice (some ⟨B,o,none⟩) N cap,.agg #[.int .i64 (S:Int),.int .i64 (L:Int)],undef,.pointer (some ⟨w.heap.size,0,none⟩),.slice none 0 0,.pointer (some ⟨w2.heap.size,0,none⟩),.pointer (some ⟨w2.heap.size+1,0,none⟩),.slice (some ⟨B,O,none⟩) (s.size+1) (s.size+1),.pointer (some ⟨w8.heap.size,0,none⟩),.agg #[.int .i64 (S:Int),.int .i64 (L:Int)],.bool true,.bool false,undef,undef,.slice (some ⟨B,o,none⟩) N cap,.int .i64 (N:Int),.bool false,undef,undef,.agg #[.int .i64 (S:Int),.int .i64 (L:Int)],.pointer (some ⟨κ.sB,0,none⟩),.slice (some ⟨B,o,none⟩) N cap,.func (.func 21) #[] #[.pointer (some ⟨w2.heap.size+2,0,none⟩)],.slice (some ⟨B,O,none⟩) (s.size+1) (s.size+1),.slice (some ⟨B,O,none⟩) (s.size+1) (s.size+1),.slice (some ⟨W.heap.size,0,none⟩) 1 1,.slice (some ⟨W.heap.size,0,none⟩) 1 1,.slice (some ⟨B,O,none⟩) s.size (s.size+1),.agg #[.int .i64 ln.kind,.slice oa ln.ops.length oc,.bool ln.VK,.string ln.path,.slice na ln.nums.length nc],va,.pointer (some ⟨κ.sB,0,none⟩),.agg #[.int .i64 ln.kind,.slice oa ln.ops.length oc,.bool ln.VK,.string ln.path,.slice na ln.nums.length nc],.string (YA S L n k),undef,undef,undef,undef],defers:=[] } W') ?_ (fun HT=>?_)
  · intro W' j1 k1 i1
    have p1:=YB.out _ j1;refine wpAnyIn_ready (rs:=[4]) (by kernel_rfl) (by simp) ?_;refine AllReadyIn.cons (o:=⟨some 33,_,_,_,_,_⟩) rfl (fun K9 UV=>?_) AllReadyIn.nil;rw [ZZ (by rfl)];refine Pg rfl _ _ rfl (w2.heap.size+3) va (Zv (PR S L n k)) (YA S L n k) rfl rfl j1.ow p1.1 p1.2 j1.sz ?_;intro v2 W2 o2 c2;obtain ⟨y2,hy2⟩:∃y,y=Zv (PR S L n k)++XS (YA S L n k):=⟨_,rfl⟩;have H2:=Z3 hy2;rw [←hy2] at o2;clear hy2;obtain ⟨a2,l2,rfl⟩:=Own.slice o2;obtain ⟨X2,j2,k2,i2,cc,ff⟩:=j1.app HF.out o2 c2;refine UV _ _ ?_;refine wpAnyIn_ready (rs:=[5]) (by kernel_rfl) (by simp) ?_;refine AllReadyIn.cons (o:=⟨none,_,_,_,_,_⟩) rfl (fun K9 UV=>?_) AllReadyIn.nil;rw [ZZ (by rfl)];go_simp;refine UV _ _ ?_;exact wpAnyIn_done (by kernel_rfl) (REST.out _ _ _ _ _ _ _ _ _ _ _ H2 j2 (k1.trans k2) (i2.trans i1)) _
  refine Gg (R:=fun ZB Q=>wpAnyIn Fence.wide 4 Tryz.prog .any ZB Q 3 #[true,true,true,false,false,false] { tmps:=#[.slice (some ⟨B,o,none⟩) N cap,.agg #[.int .i64 (S:Int),.int .i64 (L:Int)],undef,.pointer (some ⟨w.heap.size,0,none⟩),.slice none 0 0,.pointer (some ⟨w2.heap.size,0,none⟩),.pointer (some ⟨w2.heap.size+1,0,none⟩),.slice (some ⟨B,O,none⟩) (s.size+1) (s.size+1),.pointer (some ⟨w8.heap.size,0,none⟩),.agg #[.int .i64 (S:Int),.int .i64 (L:Int)],.bool true,.bool false,undef,undef,.slice (some ⟨B,o,none⟩) N cap,.int .i64 (N:Int),.bool false,undef,undef,.agg #[.int .i64 (S:Int),.int .i64 (L:Int)],.pointer (some ⟨κ.sB,0,none⟩),.slice (some ⟨B,o,none⟩) N cap,.func (.func 21) #[] #[.pointer (some ⟨w2.heap.size+2,0,none⟩)],.slice (some ⟨B,O,none⟩) (s.size+1) (s.size+1),.slice (some ⟨B,O,none⟩) (s.size+1) (s.size+1),.slice (some ⟨W.heap.size,0,none⟩) 1 1,.slice (some ⟨W.heap.size,0,none⟩) 1 1,.slice (some ⟨B,O,none⟩) s.size (s.size+1),.agg #[.int .i64 ln.kind,.slice oa ln.ops.length oc,.bool ln.VK,.string ln.path,.slice na ln.nums.length nc],va,.pointer (some ⟨κ.sB,0,none⟩),.agg #[.int .i64 ln.kind,.slice oa ln.ops.length oc,.bool ln.VK,.string ln.path,.slice na ln.nums.length nc],undef,undef,undef,undef,undef],defers:=[] } LE) ?_ (fun HA=>?_)
  · refine wpAnyIn_ready (rs:=[3]) (by kernel_rfl) (by simp) ?_
    refine AllReadyIn.cons (o:=⟨some 32,_,_,_,_,_⟩) rfl (fun K9 UV=>?_) AllReadyIn.nil;rw [ZZ (by rfl)];go_simp;refine ⟨trivial,(XM.2 CALL.out).mono ?_⟩;rintro e W' ⟨rfl,j1,k1,i1⟩;refine UV _ _ ?_;exact HT _ j1 k1 i1
  refine wpAnyIn_ready (rs:=[0,1,2]) (by kernel_rfl) (by simp) ?_;refine AllReadyIn.cons (o:=⟨some 29,_,_,_,_,_⟩) rfl (fun K9 UV=>?_) (AllReadyIn.cons (o:=⟨some 30,_,_,_,_,_⟩) rfl (fun K9 UV=>?_) (AllReadyIn.cons (o:=⟨some 31,_,_,_,_,_⟩) rfl (fun K9 UV=>?_) AllReadyIn.nil))
  · rw [ZZ (by rfl)]
    go_simp;refine UV _ _ ?_;refine wpAnyIn_ready (rs:=[1,2]) (by kernel_rfl) (by simp) ?_;refine AllReadyIn.cons (o:=⟨some 30,_,_,_,_,_⟩) rfl (fun K9 UV=>?_) (AllReadyIn.cons (o:=⟨some 31,_,_,_,_,_⟩) rfl (fun K9 UV=>?_) AllReadyIn.nil)
    · rw [ZZ (by rfl)]
      go_simp;refine UV _ _ ?_;refine wpAnyIn_ready (rs:=[2]) (by kernel_rfl) (by simp) ?_;refine AllReadyIn.cons (o:=⟨some 31,_,_,_,_,_⟩) rfl (fun K9 UV=>?_) AllReadyIn.nil;rw [ZZ (by rfl)];go_simp;refine UV _ _ ?_;exact HA
    rw [ZZ (by rfl)];go_simp;refine UV _ _ ?_;refine wpAnyIn_ready (rs:=[1]) (by kernel_rfl) (by simp) ?_;refine AllReadyIn.cons (o:=⟨some 30,_,_,_,_,_⟩) rfl (fun K9 UV=>?_) AllReadyIn.nil;rw [ZZ (by rfl)];go_simp;refine UV _ _ ?_;exact HA
  · rw [ZZ (by rfl)]
    go_simp;refine UV _ _ ?_;refine wpAnyIn_ready (rs:=[0,2]) (by kernel_rfl) (by simp) ?_;refine AllReadyIn.cons (o:=⟨some 29,_,_,_,_,_⟩) rfl (fun K9 UV=>?_) (AllReadyIn.cons (o:=⟨some 31,_,_,_,_,_⟩) rfl (fun K9 UV=>?_) AllReadyIn.nil)
    · rw [ZZ (by rfl)]
      go_simp;refine UV _ _ ?_;refine wpAnyIn_ready (rs:=[2]) (by kernel_rfl) (by simp) ?_;refine AllReadyIn.cons (o:=⟨some 31,_,_,_,_,_⟩) rfl (fun K9 UV=>?_) AllReadyIn.nil;rw [ZZ (by rfl)];go_simp;refine UV _ _ ?_;exact HA
    rw [ZZ (by rfl)];go_simp;refine UV _ _ ?_;refine wpAnyIn_ready (rs:=[0,3]) (by kernel_rfl) (by simp) ?_;refine AllReadyIn.cons (o:=⟨some 29,_,_,_,_,_⟩) rfl (fun K9 UV=>?_) (AllReadyIn.cons (o:=⟨some 32,_,_,_,_,_⟩) rfl (fun K9 UV=>?_) AllReadyIn.nil)
    · rw [ZZ (by rfl)]
      go_simp;refine UV _ _ ?_;exact HA
    rw [ZZ (by rfl)];go_simp;refine ⟨trivial,(XM.2 CALL.out).mono ?_⟩;rintro e W' ⟨rfl,j1,k1,i1⟩;refine UV _ _ ?_;have a9:=j1.bx.cell;refine wpAnyIn_ready (rs:=[0]) (by kernel_rfl) (by simp) ?_;refine AllReadyIn.cons (o:=⟨some 29,_,_,_,_,_⟩) rfl (fun K9 UV=>?_) AllReadyIn.nil;rw [ZZ (by rfl)];go_simp;refine UV _ _ ?_;exact HT _ j1 k1 i1
  rw [ZZ (by rfl)];go_simp;refine UV _ _ ?_;refine wpAnyIn_ready (rs:=[0,1]) (by kernel_rfl) (by simp) ?_;refine AllReadyIn.cons (o:=⟨some 29,_,_,_,_,_⟩) rfl (fun K9 UV=>?_) (AllReadyIn.cons (o:=⟨some 30,_,_,_,_,_⟩) rfl (fun K9 UV=>?_) AllReadyIn.nil)
  · rw [ZZ (by rfl)]
    go_simp;refine UV _ _ ?_;refine wpAnyIn_ready (rs:=[1]) (by kernel_rfl) (by simp) ?_;refine AllReadyIn.cons (o:=⟨some 30,_,_,_,_,_⟩) rfl (fun K9 UV=>?_) AllReadyIn.nil;rw [ZZ (by rfl)];go_simp;refine UV _ _ ?_;exact HA
  rw [ZZ (by rfl)];go_simp;refine UV _ _ ?_;refine wpAnyIn_ready (rs:=[0,3]) (by kernel_rfl) (by simp) ?_;refine AllReadyIn.cons (o:=⟨some 29,_,_,_,_,_⟩) rfl (fun K9 UV=>?_) (AllReadyIn.cons (o:=⟨some 32,_,_,_,_,_⟩) rfl (fun K9 UV=>?_) AllReadyIn.nil)
  · rw [ZZ (by rfl)]
    go_simp;refine UV _ _ ?_;exact HA
  rw [ZZ (by rfl)];go_simp;refine ⟨trivial,(XM.2 CALL.out).mono ?_⟩;rintro e W' ⟨rfl,j1,k1,i1⟩;refine UV _ _ ?_;have a9:=j1.bx.cell;refine wpAnyIn_ready (rs:=[0]) (by kernel_rfl) (by simp) ?_;refine AllReadyIn.cons (o:=⟨some 29,_,_,_,_,_⟩) rfl (fun K9 UV=>?_) AllReadyIn.nil;rw [ZZ (by rfl)];go_simp;refine UV _ _ ?_;exact HT _ j1 k1 i1
end Go.Proofs.YtpmjnbmkippaiaaGreatDoor
namespace Go.Proofs.YtpmjnbmkippaiaaGreatDoor
open Go.RowKit Go.Shelf
def lw (xs:List Int) (i n:Nat):Nat:=if n≤1 then 0 else if xs.length=0 then i*7 % n else ((xs.getD (i % xs.length) 0).toNat+i / xs.length) % n
theorem jc (xs:List Int) (i n:Nat) (h:1≤n):lw xs i n<n:=by
 unfold lw
 by_cases h1:n≤1
 · rw [ZZ h1];omega
 rw [Z1 h1]
 split
 · exact SG _ (by omega)
 exact SG _ (by omega)
theorem uU (w:World) (b o m cap:Nat) (i n x:Nat) (hm:0<m) (hm1:m≤1099511627776) (hx:x<256) (hc:w.cell? ⟨b,o+i % m,none⟩=some (.int .u8 (x:Int))) (hi:i≤1099511627776) (hn:1<n) (hn1:n≤1099511627776) :
    Calls Tryz.prog 4 #[.slice (some ⟨b,o,none⟩) m cap,.int .i64 i,.int .i64 n] w fun e w'=>e=.returned (.int .i64 (((x+i / m) % n:Nat):Int))∧∃q,w'=w.drewN q:=by
 have h1:¬(n:Int)≤1:=by omega
 have h2:((m:Int) == 0)=false:=Vy.2 (by omega);have h3:i % m<m:=SG _ hm;have h4:(i:Int) % (m:Int)=((i % m:Nat):Int):=by omega
 have h5:(i:Int) / (m:Int)=((i / m:Nat):Int):=by omega
 have h6:i / m≤i:=D9 _ _;generalize i % m=a at *;generalize i / m=d at *;have h7:((m:Int) == 0)=false:=h2;have h8:((n:Int) == 0)=false:=Vy.2 (by omega)
 go_enter Tryz.func4,Tryz.ntmps4
 go_wp2
 go_quiet (fail)
 go_wp2;go_ret;exact ⟨Ta (by rw [Int.natCast_emod,Int.natCast_add]),_,rfl⟩
theorem uT (w:World) (v:Value) (i n:Nat) (hn:n≤1) :
    Calls Tryz.prog 4 #[v,.int .i64 i,.int .i64 n] w fun e w'=>e=.returned (.int .i64 0)∧w'=w:=by
 have h1:(n:Int)≤1:=by omega
 go_enter Tryz.func4,Tryz.ntmps4
 go_wp2;go_ret;exact ⟨rfl,rfl⟩
theorem Gf (w:World) (ao:Option Addr) (cap i n:Nat) (hn:1<n) (hn1:n≤1099511627776) (hi:i≤1099511627776) :
    Calls Tryz.prog 4 #[.slice ao 0 cap,.int .i64 i,.int .i64 n] w fun e w'=>e=.returned (.int .i64 ((i*7 % n:Nat):Int))∧w'=w:=by
 have h1:¬(n:Int)≤1:=by omega
 have h8:((n:Int) == 0)=false:=Vy.2 (by omega)
 go_enter Tryz.func4,Tryz.ntmps4
 go_wp2;go_ret;exact ⟨rfl,rfl⟩
theorem uS (w:World) (v:Value) (xs:List Int) (i n:Nat) (h:Rd .u8 w v xs) (hby:∀x ∈ xs,0≤x∧x<256) (hl:xs.length≤1099511627776) (hi:i≤1099511627776) (hn1:n≤1099511627776) :
    Calls Tryz.prog 4 #[v,.int .i64 i,.int .i64 n] w fun e w'=>e=.returned (.int .i64 ((lw xs i n:Nat):Int))∧∃q,w'=w.drewN q:=by
 unfold lw
 by_cases h1:n≤1
 · rw [ZZ h1]
   refine (uT w v i n h1).mono ?_;rintro e w' ⟨rfl,rfl⟩;exact ⟨rfl,0,rfl⟩
 rw [Z1 h1];obtain ⟨ao,cap,rfl,k1,k2,k3⟩:=h
 rcases k3 with rfl | ⟨b,o,rfl,hb,hc⟩
 · rw [ZZ (show ([]:List Int).length=0 from rfl)]
   refine (Gf w ao cap i n (by omega) hn1 hi).mono ?_;rintro e w' ⟨rfl,rfl⟩;exact ⟨rfl,0,rfl⟩
 by_cases h0:xs.length=0
 · rw [ZZ h0,h0]
   refine (Gf w _ cap i n (by omega) hn1 hi).mono ?_;rintro e w' ⟨rfl,rfl⟩;exact ⟨rfl,0,rfl⟩
 rw [Z1 h0];have hlt:i % xs.length<xs.length:=SG _ (by omega);have hx:=hby _ (UO hlt);have e:xs.getD (i % xs.length) 0=(((xs.getD (i % xs.length) 0).toNat:Nat):Int):=by
  simp only [List.getD,Xc hlt,PM];omega
 have hc':=hc _ hlt;rw [e] at hc';exact uU w b o xs.length cap i n _ (by omega) hl (by simp only [List.getD,Xc hlt,PM];omega) hc' hi (by omega) hn1
def U1 (n:Nat):Nat→Code→Code
 | 0,c=>c
 | k+1,.seq (.region i o d) b=>match i == n with
  | true=>.seq (.region i o d) b
  | false=>U1 n k b
 | k+1,.seq (.seq (.region i o d) a) b=>match i == n with
  | true=>.seq (.seq (.region i o d) a) b
  | false=>U1 n k b
 | k+1,.seq _ b=>U1 n k b
 | _,c=>c
def PQ (f:Func):Code:=match f.body with
 | some c=>c
 | none=>.skip
end Go.Proofs.YtpmjnbmkippaiaaGreatDoor


