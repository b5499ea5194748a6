import Derived.Test.YtpmjnbmkippaiaaGreatDoorJ16
import Derived.Test.YtpmjnbmkippaiaaGreatDoorJ13
import Derived.Conc.SmallLaws
import Derived.Lib.SlBytesConst
set_option maxRecDepth 100000
set_option maxHeartbeats 16000000
set_option linter.all false
namespace Go.Proofs.YtpmjnbmkippaiaaGreatDoor
open Go.RowKit Go.Shelf
attribute [local go_sem] Yv
def Rw (ls:List ByteArray) (k:Nat):Nat:=(XI (ls.take k)).length
theorem uq (ls:List ByteArray):Rw ls 0=0:=rfl
theorem P0 (s:ByteArray) (ls:List ByteArray):XI (s :: ls)=U0 s++10 :: XI ls:=by
 unfold XI;rw [WY,ZO]
 rfl
theorem Mp (a b:List ByteArray):XI (a++b)=XI a++XI b:=by unfold XI;rw [XZ]
theorem uo {ls:List ByteArray} {k:Nat} (h:k<ls.length):Rw ls (k+1)=Rw ls k+((ls.getD k ⟨#[]⟩).size+1):=by
 unfold Rw;rw [YW h,Mp,ZZ,P0,List.getD,ZF h,ZZ,Wq]
 rfl
theorem qF (ls:List ByteArray):Rw ls ls.length=(XI ls).length:=by unfold Rw;rw [Xp]
theorem Mo {ls:List ByteArray} {k:Nat} (h:k<ls.length):(XI ls).drop (Rw ls k)=U0 (ls.getD k ⟨#[]⟩)++10 :: XI (ls.drop (k+1)):=by
 have e:XI ls=XI (ls.take k)++XI (ls.drop k):=by rw [←Mp,YQ]
 rw [e];unfold Rw;rw [List.drop_left,Yg h,P0,List.getD,ZF h]
 rfl
theorem G0 {ls:List ByteArray} {k:Nat} (h:k<ls.length):Rw ls k+((ls.getD k ⟨#[]⟩).size+1)≤(XI ls).length:=by
 have:=ZM List.length (Mo h);rw [ZS,ZZ,Wq,ZE] at this;omega
theorem pM:∀(s:List UInt8) (r:List UInt8),(10:UInt8) ∉ s→Lib.indexByte (s++10 :: r) 10=(s.length:Int)
 | [],r,_=>rfl
 | b :: s,r,h=>by
  have h1:(b == 10)=false:=VU (fun e=>h (by rw [e];exact YO ..));have ih:=pM s r (fun e=>h (Zp _ e));rw [Y3];unfold Lib.indexByte;rw [h1,ih];have h2:(((s.length:Nat):Int) == -1)=false:=VU (by omega);rw [h2]
  simp
theorem Ej (s:ByteArray):Lib.bytesOf (U0 s)=s.data.toList:=by
 unfold Lib.bytesOf U0;rw [SF]
 conv=>rhs;rw [←List.map_id s.data.toList]
 refine Vw fun x _=>?_
 simp
theorem um {ls:List ByteArray} {k:Nat} (h:k<ls.length) (hn:∀s ∈ ls,(10:UInt8) ∉ s.data.toList):Lib.indexByte (Lib.bytesOf ((XI ls).drop (Rw ls k))) 10=((ls.getD k ⟨#[]⟩).size:Int):=by
 have h1:(10:UInt8) ∉ (ls.getD k ⟨#[]⟩).data.toList:=by
  rw [List.getD,ZF h];exact hn _ (YP h)
 rw [Mo h,show Lib.bytesOf (U0 (ls.getD k ⟨#[]⟩)++10 :: XI (ls.drop (k+1)))=(ls.getD k ⟨#[]⟩).data.toList++10 :: Lib.bytesOf (XI (ls.drop (k+1))) by
  rw [←Ej];unfold Lib.bytesOf;rw [Y6];rfl]
 rw [pM _ _ h1,Tx]
def Ei (B:Nat) (W:World):Nat:=match W.cell? ⟨B,0,none⟩ with
 | some (.slice _ n _)=>n
 | _=>0
theorem Eh {B:Nat} {W:World} {t:TypeId} {a:Option Addr} {n c:Nat} (h:Boxed W B t (.slice a n c)):Ei B W=n:=by unfold Ei;rw [h.cell]
theorem uk (n:Nat) (ao:Option Addr) (m cap:Nat) (w:World) :
    CallsIn Fence.wide n Tryz.prog 11 #[.slice ao m cap] w fun e w'=>e=.returned (.func (.func 21) #[] #[.pointer (some ⟨w.heap.size,0,none⟩)])∧w'=w.alloc (.cells #[.slice ao m cap] 22):=by
 refine Xb Tryz.func11 rfl trivial ?_ rfl
 simp only [Tryz.ntmps11,ZI,ZE,Y7,Nat.reduceAdd,Nat.reduceSub,YV,YU,YI,YT,Zd,Y3]
 gi_wp2;go_ret;exact ⟨rfl,rfl⟩
theorem Cp (nn:Nat) (hn1:1≤nn) (l U B o N cap:Nat) (ls:List ByteArray) (hno:∀s ∈ ls,(10:UInt8) ∉ s.data.toList) (hN:(XI ls).length=N) (tH:N≤1048576) (hc1:N≤cap) (hc2:cap≤maxLen)
    (St:Nat→World→Prop) (Bk:World→Prop)
    (jh:∀k X Y,Zi X Y→St k X→St k Y) (jg:∀X Y,Zi X Y→Bk X→Bk Y)
    (hSW:∀k X v,St k X→St k (X.setCell ⟨U,0,none⟩ v)) (hBW:∀X v,Bk X→Bk (X.setCell ⟨U,0,none⟩ v))
    (hSR:∀k W,St k W→∀i,i<N→W.cell? ⟨B,o+i,none⟩=some (.int .u8 ((XI ls).getD i 0)))
    (hY:∀k vs W,St k W→Bk W→(k<ls.length∧vs=#[.slice (some ⟨B,o+Rw ls k,none⟩) ((ls.getD k ⟨#[]⟩).size+1) ((ls.getD k ⟨#[]⟩).size+1)])→YieldAt Fence.wide (nn - 1) Tryz.prog l vs W fun e W'=>e=.returned (.bool true)∧St (k+1) W'∧Bk W'∧W'.heap[U]?=W.heap[U]?)
    (W:World) (h0:St 0 W) (h1:Bk W) (hs:Boxed W U 22 (.slice (some ⟨B,o,none⟩) N cap)) (hls:0<ls.length) :
    CallsIn Fence.wide nn Tryz.prog 21 #[.func (.yield l) #[] #[],.pointer (some ⟨U,0,none⟩)] W fun e W'=>(∃v,e=.returned v)∧St ls.length W'∧Bk W':=by
 have HY:=ZU hY;have ma:=ZU jh;have fH:=ZU jg;have iK:=ZU hSW;have lu:=ZU hBW;have jf:=ZU hSR;have H0:=ZU h0;have H1:=ZU h1;have pu:Hid (Boxed W U 22 (.slice (some ⟨B,o+Rw ls 0,none⟩) (N - Rw ls 0) (cap - Rw ls 0))):=by
  show Boxed _ _ _ _;rw [uq];exact hs
 have ST:=ZU hno;have HN:=ZU hN;unfold maxLen at hc2;clear hY jh jg hSW hBW hSR h0 h1 hs hno hN;refine Xb Tryz.func21 rfl trivial ?_ rfl
 simp only [Tryz.ntmps21,ZI,ZE,Y7,Nat.reduceAdd,Nat.reduceSub,YV,YU,YI,YT,Zd,Y3]
 gi_wp2
 gi_loopw [] (fun wr=>∃(k:Nat) (vs:Value),Hid (St k wr)∧Hid (Bk wr)∧Hid (Boxed wr U 22 vs)∧Hid ((k<ls.length∧vs=.slice (some ⟨B,o+Rw ls k,none⟩) (N - Rw ls k) (cap - Rw ls k))∨(k=ls.length∧∃a c,vs=.slice a 0 c))) (fun wr=>Ei U wr)
 case atStart=>exact ⟨0,_,H0,H1,pu,.inl ⟨hls,rfl⟩⟩
 case round =>
  obtain ⟨k,vs,HS,HB,HX,HC⟩:=hrel
  rcases HC.out with ⟨hk,rfl⟩ | ⟨hk,a,c,rfl⟩
  · have hle:=G0 hk
    have hidx:=um hk ST.out;have hxl:((XI ls).drop (Rw ls k)).length=N - Rw ls k:=by rw [ZS,HN.out]
    have hps:=uo hk;rw [HN.out] at hle;have HI:=ZU (Tryz.bytes_IndexByte B (o+Rw ls k) (N - Rw ls k) (cap - Rw ls k) ((XI ls).drop (Rw ls k)) 10 wr hxl (fun i hi=>by
     have:=jf.out k wr HS.out (Rw ls k+i) (by omega);rw [←Xu] at this;rw [this]
     simp [List.getD,Yt]))
    rw [show ((10:Int).toNat.toUInt8)=(10:UInt8) from rfl,hidx] at HI;have Zx:Hid (∀(W3:World) (v:Value),St (k+1) W3→Bk W3→Boxed W3 U 22 v→(v=.slice (if cap - Rw ls k=(ls.getD k ⟨#[]⟩).size+1 then some ⟨B,o+Rw ls k,none⟩ else some ⟨B,o+Rw ls k+((ls.getD k ⟨#[]⟩).size+1),none⟩) (N - Rw ls k - ((ls.getD k ⟨#[]⟩).size+1)) (cap - Rw ls k - ((ls.getD k ⟨#[]⟩).size+1))) →
        (∃(k:Nat) (vs:Value),Hid (St k W3)∧Hid (Bk W3)∧Hid (Boxed W3 U 22 vs)∧Hid ((k<ls.length∧vs=.slice (some ⟨B,o+Rw ls k,none⟩) (N - Rw ls k) (cap - Rw ls k))∨(k=ls.length∧∃a c,vs=.slice a 0 c)))∧Ei U W3<N - Rw ls k):=by
     intro W3 v a1 a2 a3 a4;refine ⟨⟨k+1,v,a1,a2,a3,?_⟩,?_⟩
     · by_cases h9:k+1<ls.length
       · have h8:=G0 h9
         rw [HN.out,hps] at h8;refine .inl ⟨h9,?_⟩;rw [a4,Z1 (by omega),hps]
         simp only [Xu,Nat.sub_sub]
       have h8:Rw ls (k+1)=N:=by rw [show k+1=ls.length by omega,qF,HN.out]
       rw [hps] at h8;refine .inr ⟨by omega,?_⟩;rw [a4,show N - Rw ls k - ((ls.getD k ⟨#[]⟩).size+1)=0 by omega];exact ⟨_,_,rfl⟩
     subst a4;rw [Eh a3];omega
    have HM:Hid (Ei U wr=N - Rw ls k):=Eh HX.out;have Zv:Hid (∀W2,St k W2→Bk W2→YieldAt Fence.wide (nn - 1) Tryz.prog l #[.slice (some ⟨B,o+Rw ls k,none⟩) ((ls.getD k ⟨#[]⟩).size+1) ((ls.getD k ⟨#[]⟩).size+1)] W2 fun e W'=>e=.returned (.bool true)∧St (k+1) W'∧Bk W'∧W'.heap[U]?=W2.heap[U]?):=fun W2 a b=>HY.out k _ W2 a b ⟨hk,rfl⟩
    clear hidx hxl hps;have hr1:(ls.getD k ⟨#[]⟩).size+1≤N - Rw ls k:=by omega
    have hr2:N - Rw ls k≤cap - Rw ls k:=by omega
    have hr3:cap - Rw ls k≤9223372036854775807:=by omega
    have hr4:N - Rw ls k≤1048576:=by omega
    clear hle HC;generalize (ls.getD k ⟨#[]⟩).size=j at *;generalize o+Rw ls k=O at *;generalize N - Rw ls k=r at *;generalize cap - Rw ls k=c at *;have cS:=HX.out.cell;have hr0:(0:Int)<(r:Int):=by omega
    have hj0:¬(j:Int)<0:=by omega
    have hj1:(j:Int)+1≤(c:Int):=by omega
    have hj2:(j:Int)+1≤(r:Int):=by omega
    gi_wp2_with fail
    refine ⟨trivial,?_⟩;refine (YK.2 HI.out).mono ?_;rintro e w2 ⟨rfl,rfl⟩;clear HI
    gi_wp2_with fail
    rename_i KK QQ Hq;have Yu:IntKind.i64.wrap ((j:Int)+1)=(j:Int)+1:=by rw [Zq];omega
    have Ys:0≤(j:Int)+1:=by omega
    have B2:Zi w2 w2.drew:=below_drewN' w2 1;have HS2:=ZU (ma.out k _ _ B2 HS.out);have HB2:=ZU (fH.out _ _ B2 HB.out);have Am:Hid (Boxed w2.drew U 22 (.slice (some ⟨B,O,none⟩) r c)):=HX.out;have REST:Hid (∀V2:Value,V2=.slice (if c=j+1 then some ⟨B,O,none⟩ else some ⟨B,O+(j+1),none⟩) (r - (j+1)) (c - (j+1))→∀u12 u13 u14 u16 u17 u18,KK { tmps:=#[.func (.yield l) #[] #[],.pointer (some ⟨U,0,none⟩),undef,.slice (some ⟨B,O,none⟩) (j+1) c,.int .i64 (j:Int),.slice (some ⟨B,O,none⟩) r c,.int .i64 (r:Int),.bool true,.slice (some ⟨B,O,none⟩) r c,.int .i64 (j:Int),.int .i64 (j:Int),.bool true,u12,u13,u14,.slice (some ⟨B,O,none⟩) (j+1) c,u16,u17,u18,V2,u20,u21,u22,u23,u24,u25,u26,u27,u28,u29],defers:=[] } (w2.drew.setCell ⟨U,0,none⟩ V2)):=by
     intro V2 hV2 u12 u13 u14 u16 u17 u18;have HV:=ZU hV2;have AP:=iK.out k _ V2 HS2.out;have hB3:=lu.out _ V2 HB2.out;have Ch:=ZU (Am.out.set V2);have qw:=Zv.out _ AP hB3;clear HS HB HX HS2 HB2 Am B2 AP hB3 cS;generalize w2.drew.setCell _ _=w3 at *;refine Hq _ _ ?_;clear Hq hV2;obtain ⟨fn,tmps,assign,body,hy,hR⟩:=qw;gi_wp2;refine hR.mono ?_;rintro e W3 ⟨rfl,AP,hB3,hK3⟩;have NX:=Zx.out W3 V2 AP hB3 (hK3.trans Ch.out) HV.out;have PB:=ZU NX;clear AP hB3 hy hR hK3 NX;gi_wp2
     go_roundw
     case rel=>exact PB.out.1
     case measure=>rw [HM.out];exact PB.out.2
    clear HS HB HX HS2 HB2 Zv Zx HM;have cS:=Am.out.cell;refine wpIn_wide.2 ?_;refine ZX (S:=fun _=>True) (by kernel_rfl) trivial (fun Z9=>?_);generalize w2.drew=w3 at *;refine PL (i:=1) (oi:=⟨some 13,_,_,_,_,_⟩) (v:=?v1) rfl (by kernel_rfl) (fun _ _ _ h=>h) (Or.inl ⟨by rfl,?hy1⟩) trivial ?E
    case hy1 =>
     intro w9 ZQ;clear ZQ;go_simp
     try with_reducible rfl
    refine PL (i:=2) (oi:=⟨some 14,_,_,_,_,_⟩) (v:=?v2) rfl (by kernel_rfl) (fun _ _ _ h=>h) (Or.inl ⟨by rfl,?hy2⟩) trivial ?pL
    case hy2 =>
     intro w9 ZQ;clear ZQ;go_simp
     try with_reducible rfl
    refine PL (i:=5) (oi:=⟨some 17,_,_,_,_,_⟩) (v:=?v3) rfl (by kernel_rfl) (fun _ _ _ h=>h) (Or.inl ⟨by rfl,?hy3⟩) trivial ?A
    case hy3 =>
     intro w9 ZQ;clear ZQ;go_simp
     try with_reducible rfl
    refine PL (i:=6) (oi:=⟨some 18,_,_,_,_,_⟩) (v:=?v4) rfl (by kernel_rfl) (fun _ _ _ h=>h) (Or.inl ⟨by rfl,?hy4⟩) trivial ?d
    case hy4 =>
     intro w9 ZQ;clear ZQ;go_simp
     try with_reducible rfl
    refine QG 0 4 rfl rfl (by kernel_rfl) (fun K hK=>?_) (fun K hK=>?_)
    · go_simp
      refine hK.out _ _ trivial (fun YA=>?_);clear hK K YA;refine PL (i:=3) (oi:=⟨some 15,_,_,_,_,_⟩) (v:=?v5) rfl (by kernel_rfl) (fun _ _ _ h=>h) (Or.inl ⟨by rfl,?DH⟩) trivial ?pK
      case DH =>
       intro w9 ZQ;clear ZQ;go_simp
       try with_reducible rfl
      refine PL (i:=8) (oi:=⟨some 3,_,_,_,_,_⟩) (v:=?v6) rfl (by kernel_rfl) (fun _ _ _ h=>h) (Or.inl ⟨by rfl,?rP⟩) trivial ?Z'
      case rP =>
       intro w9 ZQ;clear ZQ;go_simp
       try with_reducible rfl
      refine YS 4 rfl (by kernel_rfl) (fun K hK=>?_);go_simp;refine hK.out _ _ trivial (fun YA=>?_);clear hK K YA;refine PL (i:=7) (oi:=⟨some 19,_,_,_,_,_⟩) (v:=?v7) rfl (by kernel_rfl) (fun _ _ _ h=>h) (Or.inl ⟨by rfl,?rO⟩) trivial ?Z2
      case rO =>
       intro w9 ZQ;clear ZQ;go_simp
       try with_reducible rfl
      refine YS 9 rfl (by kernel_rfl) (fun K hK=>?_);have f0:=Am.out.frozen;go_simp;clear f0;refine hK.out _ _ trivial (fun YA=>?_);clear hK K YA;exact ZR (by kernel_rfl) (REST.out _ rfl _ _ _ _ _ _) _
    go_simp;refine hK.out _ _ trivial (fun YA=>?_);clear hK K YA;refine PL (i:=7) (oi:=⟨some 19,_,_,_,_,_⟩) (v:=?v8) rfl (by kernel_rfl) (fun _ _ _ h=>h) (Or.inl ⟨by rfl,?ru⟩) trivial ?ZV
    case ru =>
     intro w9 ZQ;clear ZQ;go_simp
     try with_reducible rfl
    refine YS 0 rfl (by kernel_rfl) (fun K hK=>?_);go_simp;refine hK.out _ _ trivial (fun YA=>?_);clear hK K YA;refine PL (i:=3) (oi:=⟨some 15,_,_,_,_,_⟩) (v:=?v9) rfl (by kernel_rfl) (fun _ _ _ h=>h) (Or.inl ⟨by rfl,?ny⟩) trivial ?ZP
    case ny =>
     intro w9 ZQ;clear ZQ;go_simp
     try with_reducible rfl
    refine PL (i:=8) (oi:=⟨some 3,_,_,_,_,_⟩) (v:=?v10) rfl (by kernel_rfl) (fun _ _ _ h=>h) (Or.inl ⟨by rfl,?Dc⟩) trivial ?I
    case Dc =>
     intro w9 ZQ;clear ZQ;go_simp
     try with_reducible rfl
    refine YS 9 rfl (by kernel_rfl) (fun K hK=>?_);have f0:=Am.out.frozen;go_simp;clear f0;refine hK.out _ _ trivial (fun YA=>?_);clear hK K YA;exact ZR (by kernel_rfl) (REST.out _ rfl _ _ _ _ _ _) _
  subst hk;have cS:=HX.out.cell;gi_wp2;refine bodyPost_end (Wu rfl _ _ _) rfl ?_;exact ⟨⟨_,rfl⟩,HS.out,HB.out⟩
theorem mq (s:ByteArray) (y z:Nat):tl s [y,z]=tl s [y]++(⟨#[32]⟩++Ct z):=by
 unfold tl VS
 simp only [WY,UU,YD]
 rw [←ZO,OQ,show ((32:Int) :: QC z)=[32]++QC z from rfl,OQ [32]]
 rfl
theorem mn:∀z,z<200→(1≤(Ct z).size∧(Ct z).size≤3)∧(10:UInt8) ∉ (Ct z).data.toList:=by decide +kernel
def Kd (lo hi:Nat) (b:ByteArray):Prop:=lo≤b.size∧b.size≤hi∧(10:UInt8) ∉ b.data.toList
theorem Kd.say {lo hi:Nat} {b:ByteArray} (h:Kd lo hi b) {z:Nat} (hz:z<200):Kd (lo+2) (hi+4) (b++(⟨#[32]⟩++Ct z)):=by
 obtain ⟨⟨d1,d2⟩,d3⟩:=mn z hz;have e:(⟨#[32]⟩++Ct z:ByteArray).size=1+(Ct z).size:=by rw [VX];rfl
 refine ⟨by rw [VX,e];have:=h.1;omega,by rw [VX,e];have:=h.2.1;omega,?_⟩;rw [Yd,Yd,Vx,Vx];intro hm
 rcases Y4.1 hm with hm | hm
 · exact h.2.2 hm
 rcases Y4.1 hm with hm | hm
 · exact absurd hm (by decide)
 exact d3 hm
theorem Kd.mono {lo hi lo' hi':Nat} {b:ByteArray} (h:Kd lo hi b) (h1:lo'≤lo) (h2:hi≤hi'):Kd lo' hi' b:=⟨ZJ h1 h.1,ZJ h.2.1 h2,h.2.2⟩
theorem QJ {s:ByteArray} (h:Kd 5 8 s) {z:Nat} (hz:z<200):Kd 5 20 (tl s [z]):=by rw [Cs];exact (h.say hz).mono (by omega) (by omega)
theorem Co {s:ByteArray} (h:Kd 5 8 s) {y z:Nat} (hy:y<200) (hz:z<200):Kd 5 20 (tl s [y,z]):=by rw [mq,Cs];exact ((h.say hy).say hz).mono (by omega) (by omega)
theorem uj:Kd 5 8 wQ:=by unfold Kd;decide
theorem AV:Kd 5 8 wE:=by unfold Kd;decide
theorem ui:Kd 5 8 wF:=by unfold Kd;decide
theorem pJ:Kd 5 8 wS:=by unfold Kd;decide
theorem pI:Kd 5 8 wL:=by unfold Kd;decide
theorem jw:Kd 5 8 wU:=by unfold Kd;decide
theorem GZ (S L n k:Nat):Kd 5 20 (VY S L n k):=by
 have ht:VZ L n≤110:=VV _ _;unfold VY
 by_cases h9:Xv n≤L*64
 · rw [Z0 h9]
   by_cases h0:k=0
   · rw [Z0 h0];exact QJ uj (by omega)
   rw [Z1 h0]
   by_cases h1:k=1
   · rw [Z0 h1];exact Co ui (by omega) (by omega)
   rw [Z1 h1]
   by_cases h2:k<112
   · rw [Z0 h2]
     by_cases h3:k - 2<VC L n
     · rw [Z0 h3];exact QJ uj (by omega)
     rw [Z1 h3];exact QJ AV (by omega)
   rw [Z1 h2]
   by_cases h3:k=112
   · rw [Z0 h3];exact Co ui (by omega) (by omega)
   rw [Z1 h3]
   by_cases h4:k=113
   · rw [Z0 h4];exact QJ pJ (by omega)
   rw [Z1 h4]
   by_cases h5:k=114
   · rw [Z0 h5]
     by_cases h6:47+n≤S*64
     · rw [Z0 h6];exact QJ pI (by omega)
     rw [Z1 h6];exact jw.mono (by omega) (by omega)
   rw [Z1 h5]
   by_cases h6:47+n≤S*64∨110<VC L n
   · rw [Z0 h6];exact QJ uj (by omega)
   rw [Z1 h6];exact QJ AV (by omega)
 rw [Z1 h9]
 by_cases h0:k=0
 · rw [Z0 h0];exact QJ AV (by omega)
 rw [Z1 h0]
 by_cases h1:k=1∨k=112
 · rw [Z0 h1];exact Co ui (by omega) (by omega)
 rw [Z1 h1]
 by_cases h4:k=113
 · rw [Z0 h4];exact QJ pJ (by omega)
 rw [Z1 h4]
 by_cases h5:k=114
 · rw [Z0 h5];exact QJ pI (by omega)
 rw [Z1 h5];exact QJ AV (by omega)
def Mn (S L n k:Nat):List ByteArray:=(List.range k).map (VY S L n)
theorem GY (S L n k:Nat):(Mn S L n k).length=k:=by simp [Mn]
theorem uh (S L n k:Nat):Mn S L n (k+1)=Mn S L n k++[VY S L n k]:=by unfold Mn;rw [SD,Y6];rfl
theorem ml (S L n k i:Nat) (h:i<k):(Mn S L n k).getD i ⟨#[]⟩=VY S L n i:=by
 unfold Mn
 simp [List.getD,h]
theorem Eg (S L n k:Nat):XI (Mn S L n (k+1))=(XI (Mn S L n k)++U0 (VY S L n k))++U0 ⟨#[10]⟩:=by
 rw [uh,Mp,P0]
 simp [XI,U0]
theorem mj (S L n k:Nat):∀s ∈ Mn S L n k,(10:UInt8) ∉ s.data.toList:=by
 intro s hs;obtain ⟨i,-,rfl⟩:=List.mem_map.1 hs;exact (GZ S L n i).2.2
theorem Kc (S L n:Nat):∀k,k*6≤(XI (Mn S L n k)).length∧(XI (Mn S L n k)).length≤k*21
 | 0=>by simp [Mn,XI]
 | k+1=>by
  obtain ⟨h1,h2⟩:=Kc S L n k;obtain ⟨h3,h4,-⟩:=GZ S L n k;rw [Eg,ZZ,ZZ,Wq,Wq];have:(⟨#[10]⟩:ByteArray).size=1:=rfl;omega
theorem AU (n:Nat) (hn:n≤64):∀s ∈ Qt n,(10:UInt8) ∉ s.data.toList∧s.size≤80:=by
 have hx:(10:UInt8) ∉ xL n:=fun h=>absurd (List.mem_replicate.1 h).2 (by decide)
 have h1:(10:UInt8) ∉ (El n).data.toList∧(El n).size≤80:=by
  refine ⟨?_,by simp [El,UG,ByteArray.size,xL];omega⟩;unfold El;rw [Qy]
  simp [hx]
 have h2:(10:UInt8) ∉ (Hb n).data.toList∧(Hb n).size≤80:=by
  refine ⟨?_,by simp [Hb,UG,ByteArray.size,xL];omega⟩;unfold Hb;rw [Qy]
  simp [hx]
 have h3:(10:UInt8) ∉ NU.data.toList∧NU.size≤80:=by decide
 have h4:(10:UInt8) ∉ DX.data.toList∧DX.size≤80:=by decide
 have h5:(10:UInt8) ∉ A0.data.toList∧A0.size≤80:=by decide
 intro s hs;unfold Qt at hs
 rcases Y4.1 hs with hs | hs
 · rcases Y4.1 hs with hs | hs
   · simp only [Y9,SW,Sh] at hs
     rcases hs with rfl | rfl
     · exact h1
     exact h3
   rw [(List.mem_replicate.1 hs).2];exact h2
 simp only [Y9,SW,Sh] at hs
 rcases hs with rfl | rfl | rfl | rfl
 · exact h3
 · exact h4
 · exact h5
 exact h2
theorem GV:∀(ls:List ByteArray),(∀s ∈ ls,s.size≤80)→(XI ls).length≤81*ls.length
 | [],_=>by simp [XI]
 | s :: ls,h=>by
  rw [P0,ZZ,Wq,ZE,ZE];have:=GV ls (fun t ht=>h t (Zp _ ht));have:=h s (YO ..);omega
end Go.Proofs.YtpmjnbmkippaiaaGreatDoor
namespace Go.Proofs.YtpmjnbmkippaiaaGreatDoor
open Go.RowKit Go.Conc
theorem Own.Fk {w:World} {lo g n m C:Nat} {xs:List Int} (h:Own .u8 5 w lo (.slice (some ⟨g,0,none⟩) n C) xs) (hm:m≤xs.length):Own .u8 5 w 0 (.slice (some ⟨g,0,none⟩) m C) (xs.take m):=by
 refine ⟨by simp,.inr ?_⟩
 rcases h.2 with ⟨h1,-⟩ | ⟨q,cap,cur,e,h1,h2,h3,h4,h5,h6⟩
 · cases h1
 injection e with e1 e2 e3
 injection e1 with e1;injection e1 with e1
 subst e1;subst e3;refine ⟨_,_,cur,by simp [YC hm],Zu _,h2,?_,h4,h5,?_⟩
 · simp only [Zw];omega
 rw [Zw,YC hm,Yr,UD,←h6,U6,Yr,YC hm]
structure Ns (w:World) (sB:Nat) (L R:List Value) (W:World):Prop where
 tw:Tw w sB none W none
 sv:St W sB L
 bx:St W w.heap.size R
theorem Ns.below {w:World} {sB:Nat} {L R:List Value} {W W':World} (h:Ns w sB L R W) (hb:Zi W W'):Ns w sB L R W' :=
 ⟨h.tw.trans (Tw.YZ hb _ _),h.sv.below hb,h.bx.below hb⟩
structure ug (κ:Sc) (σ:Sx) (sB:Nat) (S:Int) (sn:Nat):Prop where
 sB:κ.sB=sB
 S:κ.S=S
 L:κ.L=(sn:Int)
 cap:κ.cap=sn*64 / 9
 X:κ.X=[]
 rt:Rt σ
 YN:fk σ
 k:σ.k=0
 sn:σ.sn=none
 em:σ.em=false
theorem yU (w:World) (sB pg:Nat) (S:Int) (sn:Nat) (ta:Option Addr) (tc xl:Nat) (xa:Option Addr) (xc:Nat) (hc:Wp S (sn:Int)=true) (hs:St w sB (Hp (.pointer none) S (sn:Int) (.slice none 0 0) (.slice none 0 0) 0)) (hx:xl=(Qz S sn).length) (hd:Own .u8 5 w (sB+1) (.slice xa xl xc) (Qz S sn)) (ht:XU 147 w (sB+1) (.slice ta 1 tc) [Yx]) (hp:w.heap[pg]?=some (.cells #[.int .i64 0,.slice none 0 0] 132 (0,0))) (hpl:sB<pg) :
    Calls Tryz.prog 18 #[.pointer (some ⟨sB,0,none⟩),.agg #[.int .i64 0,.int .i64 1,.int .i64 0,.int .i64 0,.int .i64 23,.int .i64 (C0:Int),.int .i64 0,.slice ta 1 tc,.int .i64 0,.int .i64 0,.slice xa xl xc,.slice (some ⟨pg,0,none⟩) 0 1]] w fun e w'=>e=.returned (.tuple #[])∧Tw w sB none w' none∧∃ κ σ,Sv κ σ w'∧ug κ σ sB S sn:=by
 have c3:=hs.cl 3 _ rfl;have c4:=hs.cl 4 _ rfl;have f3:=hs.fz 3;have f4:=hs.fz 4;have hlt:=hs.lt;have N1:Hid (Ns w sB (Hp (.pointer none) S (sn:Int) (.slice xa xl xc) (.slice (some ⟨pg,0,none⟩) 0 1) 0) [.int .i64 0,.int .i64 1,.int .i64 0,.int .i64 0,.int .i64 23,.int .i64 (C0:Int),.int .i64 0,.slice ta 1 tc,.int .i64 0,.int .i64 0,.slice xa xl xc,.slice (some ⟨pg,0,none⟩) 0 1] (((w.setCell ⟨sB,3,none⟩ (.slice xa xl xc)).setCell ⟨sB,4,none⟩ (.slice (some ⟨pg,0,none⟩) 0 1)).alloc (.cells #[.int .i64 0,.int .i64 1,.int .i64 0,.int .i64 0,.int .i64 23,.int .i64 (C0:Int),.int .i64 0,.slice ta 1 tc,.int .i64 0,.int .i64 0,.slice xa xl xc,.slice (some ⟨pg,0,none⟩) 0 1] 65))):=by
  have bA:=(Below.refl ((w.setCell ⟨sB,3,none⟩ (.slice xa xl xc)).setCell ⟨sB,4,none⟩ (.slice (some ⟨pg,0,none⟩) 0 1)).heap.size _).alloc YR (.cells #[.int .i64 0,.int .i64 1,.int .i64 0,.int .i64 0,.int .i64 23,.int .i64 (C0:Int),.int .i64 0,.slice ta 1 tc,.int .i64 0,.int .i64 0,.slice xa xl xc,.slice (some ⟨pg,0,none⟩) 0 1] 65);have s9:=St.new ((w.setCell ⟨sB,3,none⟩ (.slice xa xl xc)).setCell ⟨sB,4,none⟩ (.slice (some ⟨pg,0,none⟩) 0 1)) #[.int .i64 0,.int .i64 1,.int .i64 0,.int .i64 0,.int .i64 23,.int .i64 (C0:Int),.int .i64 0,.slice ta 1 tc,.int .i64 0,.int .i64 0,.slice xa xl xc,.slice (some ⟨pg,0,none⟩) 0 1] 65;have z9:((w.setCell ⟨sB,3,none⟩ (.slice xa xl xc)).setCell ⟨sB,4,none⟩ (.slice (some ⟨pg,0,none⟩) 0 1)).heap.size=w.heap.size:=by simp
  rw [z9] at s9;exact ⟨(Tw.refl w sB none).set.set.trans (Tw.YZ bA sB none),((hs.set 3 _).set 4 _).below bA,s9⟩
 have HX:=ZU hx;clear hx
 go_enter Tryz.func18,Tryz.ntmps18
 go_wp2_with fail
 clear c3 c4 f3 f4;generalize ((w.setCell _ _).setCell _ _).alloc _=w1 at *;have N2:Hid (Ns w sB (Hp (.pointer none) S (sn:Int) (.slice xa xl xc) (.slice (some ⟨pg,0,none⟩) 0 1) 0) [.int .i64 0,.int .i64 1,.int .i64 0,.int .i64 0,.int .i64 23,.int .i64 (C0:Int),.int .i64 0,.slice ta 1 tc,.int .i64 0,.int .i64 0,.slice xa xl xc,.slice (some ⟨pg,0,none⟩) 0 1] w1.drew):=N1.out.below (below_drewN' w1 1);clear N1;refine ZX (S:=Ns w sB (Hp (.pointer none) S (sn:Int) (.slice xa xl xc) (.slice (some ⟨pg,0,none⟩) 0 1) 0) [.int .i64 0,.int .i64 1,.int .i64 0,.int .i64 0,.int .i64 23,.int .i64 (C0:Int),.int .i64 0,.slice ta 1 tc,.int .i64 0,.int .i64 0,.slice xa xl xc,.slice (some ⟨pg,0,none⟩) 0 1]) (by kernel_rfl) N2.out (fun Z9=>?_);clear N2;generalize w1.drew=w2 at *
 iterate 7 (refine Zf ?_ (by kernel_rfl) (fun _=>id) Z9 ?_ ?_;rotate_left;· intro w9 ZQ;have k0:=ZQ.sv.cl 6 _ rfl;have k1:=ZQ.bx.cl 9 _ rfl;clear ZQ;go_simp;try with_reducible rfl)
 refine Zf (.int .i64 0) (by kernel_rfl) (fun _=>id) Z9 ?_ ?_
 · intro w9 ZQ;have k0:=ZQ.sv.cl 6 _ rfl;have k1:=ZQ.bx.cl 9 _ rfl;clear ZQ;go_simp;rfl
 iterate 3 (refine Zf ?_ (by kernel_rfl) (fun _=>id) Z9 ?_ ?_;rotate_left;· intro w9 ZQ;have k0:=ZQ.sv.cl 6 _ rfl;have k1:=ZQ.bx.cl 9 _ rfl;clear ZQ;go_simp;try with_reducible rfl)
 refine YS 11 rfl (by kernel_rfl) (fun K hK=>?_);have k6:=Z9.sv.cl 6 _ rfl;have f6:=Z9.sv.fz 6;go_simp;have hN:Ns w sB (Hp (.pointer none) S (sn:Int) (.slice xa xl xc) (.slice (some ⟨pg,0,none⟩) 0 1) 0) [.int .i64 0,.int .i64 1,.int .i64 0,.int .i64 0,.int .i64 23,.int .i64 (C0:Int),.int .i64 0,.slice ta 1 tc,.int .i64 0,.int .i64 0,.slice xa xl xc,.slice (some ⟨pg,0,none⟩) 0 1] (w2.setCell ⟨sB,6,none⟩ (.int .i64 0)):=⟨Z9.tw.set,Z9.sv.set 6 (.int .i64 0),Z9.bx.other (by omega)⟩;refine hK.out _ _ hN (fun YA=>?_);clear hK K YA Z9 k6 f6;have N3:=ZU hN;clear hN;refine ZR (by kernel_rfl) ?_ _
 try simp only [Act.put,WV,WU,WT]
 generalize w2.setCell _ _=w3 at *;have zF:Hid (∀W,Ns w sB (Hp (.pointer none) S (sn:Int) (.slice xa xl xc) (.slice (some ⟨pg,0,none⟩) 0 1) 0) [.int .i64 0,.int .i64 1,.int .i64 0,.int .i64 0,.int .i64 23,.int .i64 (C0:Int),.int .i64 0,.slice ta 1 tc,.int .i64 0,.int .i64 0,.slice xa xl xc,.slice (some ⟨pg,0,none⟩) 0 1] W→Calls Tryz.prog 35 #[.agg #[.slice xa xl xc,.slice (some ⟨pg,0,none⟩) 0 1],.agg #[.int .i64 S,.int .i64 (sn:Int)],.int .i64 0,.bool true] W fun e w'=>∃v',e=.returned v'∧mV w' W.heap.size v' (Qz S sn) (2+S.toNat) sn∧Zi W w'):=fun W hW=>by
  have o9:=hd.LR hW.tw.LR (fun q e=>by cases e;exact fun e9=>by have:=(ZT hd _ e9).1;omega);have tC:=(ze hc).n9;have h9:=EA W xa (some ⟨pg,0,none⟩) xl xc 0 1 (Qz S sn) [] S (sn:Int) 0 true o9.rd HX.out.symm ⟨_,1,rfl,by decide,by decide,.inl rfl⟩ rfl (by rw [HX.out];exact tC) (by decide) (fun i=>by simp [pD]) (by unfold EV;rw [HX.out,NW hc];rfl);have e1:(Rx S (sn:Int) 0 true).toNat=2+S.toNat:=by
   obtain ⟨⟨hS1,hS2⟩,hL1,hL2⟩:=(Xk S sn).1 hc;unfold Rx;simp;omega
  have e2:(I9 S (sn:Int) true).toNat=sn:=by unfold I9;simp
  rw [e1,e2,M0 hc] at h9;exact h9
 have N4:Hid (Ns w sB (Hp (.pointer none) S (sn:Int) (.slice xa xl xc) (.slice (some ⟨pg,0,none⟩) 0 1) 0) [.int .i64 0,.int .i64 1,.int .i64 0,.int .i64 0,.int .i64 23,.int .i64 (C0:Int),.int .i64 0,.slice ta 1 tc,.int .i64 0,.int .i64 0,.slice xa xl xc,.slice (some ⟨pg,0,none⟩) 0 1] w3.drew):=N3.out.below (below_drewN' w3 1);clear N3
 go_wp2_with fail
 refine ZX (S:=Ns w sB (Hp (.pointer none) S (sn:Int) (.slice xa xl xc) (.slice (some ⟨pg,0,none⟩) 0 1) 0) [.int .i64 0,.int .i64 1,.int .i64 0,.int .i64 0,.int .i64 23,.int .i64 (C0:Int),.int .i64 0,.slice ta 1 tc,.int .i64 0,.int .i64 0,.slice xa xl xc,.slice (some ⟨pg,0,none⟩) 0 1]) (by kernel_rfl) N4.out (fun Z9=>?_);clear N4;generalize w3.drew=w4 at *
 iterate 9 (refine Zf ?_ (by kernel_rfl) (fun _=>id) Z9 ?_ ?_;rotate_left;· intro w9 ZQ;have k0:=ZQ.sv.cl 1 _ rfl;have k1:=ZQ.sv.cl 2 _ rfl;have k2:=ZQ.bx.cl 10 _ rfl;have k3:=ZQ.bx.cl 11 _ rfl;have k4:=ZQ.bx.cl 2 _ rfl;clear ZQ;go_simp;try with_reducible rfl)
 refine YS 9 rfl (by kernel_rfl) (fun K hK=>?_);go_simp;refine (zF.out _ Z9).mono ?_;rintro e w5 ⟨v5,rfl,⟨lg,M,rfl,o5,hlc⟩,b5⟩;have hw4:w.heap.size≤w4.heap.size:=Z9.tw.size;have N5:=Z9.below b5;have O5:=ZU o5;refine hK.out _ _ N5 (fun YA=>?_);clear hK K YA Z9 o5;have Z9:=N5;clear N5;refine Zf ?_ (by kernel_rfl) (fun _=>id) Z9 ?_ ?_
 rotate_left
 · intro w9 ZQ;clear ZQ;go_simp;try with_reducible rfl
 refine ZR (by kernel_rfl) ?_ _
 try simp only [Act.put,WV,WU,WT]
 have N5:=ZU Z9;have t7:=Z9.bx.cl 7 _ rfl;have t6:=Z9.bx.cl 6 _ rfl;clear Z9
 go_wp2_with fail
 have N6:Hid (Ns w sB (Hp (.pointer none) S (sn:Int) (.slice xa xl xc) (.slice (some ⟨pg,0,none⟩) 0 1) 0) [.int .i64 0,.int .i64 1,.int .i64 0,.int .i64 0,.int .i64 23,.int .i64 (C0:Int),.int .i64 0,.slice ta 1 tc,.int .i64 0,.int .i64 0,.slice xa xl xc,.slice (some ⟨pg,0,none⟩) 0 1] (w5.alloc (.cells #[.slice ta 1 tc,.int .i64 0] 87)).drew):=(N5.out.below (Yy.alloc YR _)).below (below_drewN' _ 1);have T6:Hid (St (w5.alloc (.cells #[.slice ta 1 tc,.int .i64 0] 87)).drew w5.heap.size [.slice ta 1 tc,.int .i64 0]):=(St.new w5 #[.slice ta 1 tc,.int .i64 0] 87).below (below_drewN' _ 1);have O6:Hid (Own .u8 5 (w5.alloc (.cells #[.slice ta 1 tc,.int .i64 0] 87)).drew w4.heap.size (.slice (some ⟨lg,0,none⟩) (Qz S sn).length M) (Qz S sn)):=Own.below (Own.below O5.out (Yy.alloc YR _)) (below_drewN' _ 1);have z6:Hid (w5.heap.size<(w5.alloc (.cells #[.slice ta 1 tc,.int .i64 0] 87)).drew.heap.size):=by show _<_;simp
 have z5:=ZU (b5.size);have yI:Hid (w.heap.size≤w4.heap.size):=hw4;clear hw4;have HQ:Hid (IntKind.i64.wrap (((sn:Int)*64).tdiv 9)=(sn:Int)*64 / 9):=by
  show _=_;obtain ⟨-,hL1,hL2⟩:=(Xk S sn).1 hc;rw [UF (by omega)];rw [Zq] <;> omega
 clear N5 O5 t7 t6;refine ZX (S:=fun W=>St W w.heap.size [.int .i64 0,.int .i64 1,.int .i64 0,.int .i64 0,.int .i64 23,.int .i64 (C0:Int),.int .i64 0,.slice ta 1 tc,.int .i64 0,.int .i64 0,.slice xa xl xc,.slice (some ⟨pg,0,none⟩) 0 1]∧St W w5.heap.size [.slice ta 1 tc,.int .i64 0]) (by kernel_rfl) ⟨N6.out.bx,T6.out⟩ (fun Z9=>?_);generalize (w5.alloc _).drew=w6 at *
 iterate 5 (refine Zf ?_ (by kernel_rfl) (fun _=>id) Z9 ?_ ?_;rotate_left;· intro w9 ZQ;have k0:=ZQ.2.cl 0 _ rfl;have k1:=ZQ.2.cl 1 _ rfl;have k2:=ZQ.1.cl 1 _ rfl;have k3:=ZQ.1.cl 2 _ rfl;have k4:=ZQ.1.cl 3 _ rfl;have k5:=ZQ.1.cl 4 _ rfl;have k6:=ZQ.1.cl 5 _ rfl;have k7:=ZQ.1.cl 8 _ rfl;have k8:=ZQ.1.cl 0 _ rfl;clear ZQ;go_simp;try with_reducible rfl)
 refine Zf (.int .i64 ((sn*64 / 9:Nat):Int)) (by kernel_rfl) (fun _=>id) Z9 ?_ ?_
 · intro w9 ZQ;clear ZQ;go_simp;exact HQ.out
 refine Yp 7 ?v28 rfl (by kernel_rfl) (fun _=>id) Z9 ?hy28 ?_
 case hy28 =>
  intro w9 ZQ;have k0:=ZQ.2.cl 0 _ rfl;have k1:=ZQ.2.cl 1 _ rfl;have k2:=ZQ.1.cl 1 _ rfl;have k3:=ZQ.1.cl 2 _ rfl;have k4:=ZQ.1.cl 3 _ rfl;have k5:=ZQ.1.cl 4 _ rfl;have k6:=ZQ.1.cl 5 _ rfl;have k7:=ZQ.1.cl 8 _ rfl;have k8:=ZQ.1.cl 0 _ rfl;clear ZQ;go_simp
  try with_reducible rfl
 refine Yp 8 ?v29 rfl (by kernel_rfl) (fun _=>id) Z9 ?hy29 ?_
 case hy29 =>
  intro w9 ZQ;have k0:=ZQ.2.cl 0 _ rfl;have k1:=ZQ.2.cl 1 _ rfl;have k2:=ZQ.1.cl 1 _ rfl;have k3:=ZQ.1.cl 2 _ rfl;have k4:=ZQ.1.cl 3 _ rfl;have k5:=ZQ.1.cl 4 _ rfl;have k6:=ZQ.1.cl 5 _ rfl;have k7:=ZQ.1.cl 8 _ rfl;have k8:=ZQ.1.cl 0 _ rfl;clear ZQ;go_simp
  try with_reducible rfl
 refine Yp 9 ?v30 rfl (by kernel_rfl) (fun _=>id) Z9 ?uL ?_
 case uL =>
  intro w9 ZQ;have k0:=ZQ.2.cl 0 _ rfl;have k1:=ZQ.2.cl 1 _ rfl;have k2:=ZQ.1.cl 1 _ rfl;have k3:=ZQ.1.cl 2 _ rfl;have k4:=ZQ.1.cl 3 _ rfl;have k5:=ZQ.1.cl 4 _ rfl;have k6:=ZQ.1.cl 5 _ rfl;have k7:=ZQ.1.cl 8 _ rfl;have k8:=ZQ.1.cl 0 _ rfl;clear ZQ;go_simp
  try with_reducible rfl
 refine Yp 10 ?v31 rfl (by kernel_rfl) (fun _=>id) Z9 ?hy31 ?_
 case hy31 =>
  intro w9 ZQ;have k0:=ZQ.2.cl 0 _ rfl;have k1:=ZQ.2.cl 1 _ rfl;have k2:=ZQ.1.cl 1 _ rfl;have k3:=ZQ.1.cl 2 _ rfl;have k4:=ZQ.1.cl 3 _ rfl;have k5:=ZQ.1.cl 4 _ rfl;have k6:=ZQ.1.cl 5 _ rfl;have k7:=ZQ.1.cl 8 _ rfl;have k8:=ZQ.1.cl 0 _ rfl;clear ZQ;go_simp
  try with_reducible rfl
 refine Yp 11 ?v32 rfl (by kernel_rfl) (fun _=>id) Z9 ?hy32 ?_
 case hy32 =>
  intro w9 ZQ;have k0:=ZQ.2.cl 0 _ rfl;have k1:=ZQ.2.cl 1 _ rfl;have k2:=ZQ.1.cl 1 _ rfl;have k3:=ZQ.1.cl 2 _ rfl;have k4:=ZQ.1.cl 3 _ rfl;have k5:=ZQ.1.cl 4 _ rfl;have k6:=ZQ.1.cl 5 _ rfl;have k7:=ZQ.1.cl 8 _ rfl;have k8:=ZQ.1.cl 0 _ rfl;clear ZQ;go_simp
  try with_reducible rfl
 refine Yp 12 ?v33 rfl (by kernel_rfl) (fun _=>id) Z9 ?uK ?_
 case uK =>
  intro w9 ZQ;have k0:=ZQ.2.cl 0 _ rfl;have k1:=ZQ.2.cl 1 _ rfl;have k2:=ZQ.1.cl 1 _ rfl;have k3:=ZQ.1.cl 2 _ rfl;have k4:=ZQ.1.cl 3 _ rfl;have k5:=ZQ.1.cl 4 _ rfl;have k6:=ZQ.1.cl 5 _ rfl;have k7:=ZQ.1.cl 8 _ rfl;have k8:=ZQ.1.cl 0 _ rfl;clear ZQ;go_simp
  try with_reducible rfl
 refine Yp 13 ?v34 rfl (by kernel_rfl) (fun _=>id) Z9 ?hy34 ?_
 case hy34 =>
  intro w9 ZQ;have k0:=ZQ.2.cl 0 _ rfl;have k1:=ZQ.2.cl 1 _ rfl;have k2:=ZQ.1.cl 1 _ rfl;have k3:=ZQ.1.cl 2 _ rfl;have k4:=ZQ.1.cl 3 _ rfl;have k5:=ZQ.1.cl 4 _ rfl;have k6:=ZQ.1.cl 5 _ rfl;have k7:=ZQ.1.cl 8 _ rfl;have k8:=ZQ.1.cl 0 _ rfl;clear ZQ;go_simp
  try with_reducible rfl
 refine Yp 14 ?v35 rfl (by kernel_rfl) (fun _=>id) Z9 ?Zt ?_
 case Zt =>
  intro w9 ZQ;have k0:=ZQ.2.cl 0 _ rfl;have k1:=ZQ.2.cl 1 _ rfl;have k2:=ZQ.1.cl 1 _ rfl;have k3:=ZQ.1.cl 2 _ rfl;have k4:=ZQ.1.cl 3 _ rfl;have k5:=ZQ.1.cl 4 _ rfl;have k6:=ZQ.1.cl 5 _ rfl;have k7:=ZQ.1.cl 8 _ rfl;have k8:=ZQ.1.cl 0 _ rfl;clear ZQ;go_simp
  try with_reducible rfl
 refine Yp 15 ?v36 rfl (by kernel_rfl) (fun _=>id) Z9 ?Zr ?_
 case Zr =>
  intro w9 ZQ;have k0:=ZQ.2.cl 0 _ rfl;have k1:=ZQ.2.cl 1 _ rfl;have k2:=ZQ.1.cl 1 _ rfl;have k3:=ZQ.1.cl 2 _ rfl;have k4:=ZQ.1.cl 3 _ rfl;have k5:=ZQ.1.cl 4 _ rfl;have k6:=ZQ.1.cl 5 _ rfl;have k7:=ZQ.1.cl 8 _ rfl;have k8:=ZQ.1.cl 0 _ rfl;clear ZQ;go_simp
  try with_reducible rfl
 refine YS 6 rfl (by kernel_rfl) (fun K hK=>?_);go_simp;have MC:Sem.run Tryz.prog (Instr.makeChan 88 (.int .i64 ((sn:Int)*64 / 9))) w6=.ok (.chan (some w6.heap.size)) (w6.alloc (.chan (sn*64 / 9) #[] false 0 0 false)):=by
  obtain ⟨-,hL1,hL2⟩:=(Xk S sn).1 hc;have gD:(Tryz.prog.info? 22).map (·.bytes)=some 24:=by kernel_rfl
  obtain ⟨i9,hi9,OS⟩:=Option.map_eq_some_iff.1 gD;have h9:=run_makeChan (w:=w6) (P:=Tryz.prog) (t:=88) Tryz.underlying88 hi9 .i64 (sn*64 / 9) (by omega) (by rw [OS];omega);have e9:((sn*64 / 9:Nat):Int)=(sn:Int)*64 / 9:=by omega
  rw [e9] at h9;exact h9
 rw [MC];clear MC;go_simp;have bC:=(Below.refl w6.heap.size w6).alloc YR (.chan (sn*64 / 9) #[] false 0 0 false);refine hK.out _ _ ⟨Z9.1.below bC,Z9.2.below bC⟩ (fun YA=>?_);clear hK K YA;have hH7:St (w6.alloc (.chan (sn*64 / 9) #[] false 0 0 false)) w.heap.size [.int .i64 0,.int .i64 1,.int .i64 0,.int .i64 0,.int .i64 23,.int .i64 (C0:Int),.int .i64 0,.slice ta 1 tc,.int .i64 0,.int .i64 0,.slice xa xl xc,.slice (some ⟨pg,0,none⟩) 0 1]∧St (w6.alloc (.chan (sn*64 / 9) #[] false 0 0 false)) w5.heap.size [.slice ta 1 tc,.int .i64 0]:=⟨Z9.1.below bC,Z9.2.below bC⟩;clear Z9;have Z9:=hH7;refine Zf ?_ (by kernel_rfl) (fun _=>id) Z9 ?_ ?_
 rotate_left
 · intro w9 ZQ;clear ZQ;go_simp;try with_reducible rfl
 refine YS 17 rfl (by kernel_rfl) (fun K hK=>?_);go_simp;have C7:Hid ((w6.alloc (.chan (sn*64 / 9) #[] false 0 0 false)).heap[w6.heap.size]?=some (.chan (sn*64 / 9) #[] false 0 0 false)):=Array.getElem?_push_size;have N7:=ZU (N6.out.below bC);have O7:Hid (Own .u8 5 (w6.alloc (.chan (sn*64 / 9) #[] false 0 0 false)) w4.heap.size (.slice (some ⟨lg,0,none⟩) (Qz S sn).length M) (Qz S sn)):=Own.below O6.out bC;have E7:Hid ((w6.alloc (.chan (sn*64 / 9) #[] false 0 0 false)).heap.size=w6.heap.size+1):=by show _=_;simp
 have z7:Hid (w6.heap.size<(w6.alloc (.chan (sn*64 / 9) #[] false 0 0 false)).heap.size∧lg<w6.heap.size∧w4.heap.size≤lg):=⟨by simp,(ZT O6.out lg rfl).2,(ZT O6.out lg rfl).1⟩;clear N6 O6 bC;generalize w6.alloc _=w7 at *;have bD:=(Below.refl w7.heap.size w7).alloc YR (.cells #[.slice ta 1 tc,.int .i64 0,.slice ta 1 tc,.int .i64 0,.chan (some w6.heap.size),.int .i64 0,.int .i64 1,.int .i64 0,.int .i64 0,.int .i64 23,.int .i64 (C0:Int),.slice (some ⟨lg,(2+S.toNat)*64,none⟩) 0 (M - (2+S.toNat)*64),.pointer none,.bool false] 91);refine hK.out _ _ ⟨hH7.1.below bD,hH7.2.below bD⟩ (fun YA=>?_);clear hK K YA;have Z9:St (w7.alloc (.cells #[.slice ta 1 tc,.int .i64 0,.slice ta 1 tc,.int .i64 0,.chan (some w6.heap.size),.int .i64 0,.int .i64 1,.int .i64 0,.int .i64 0,.int .i64 23,.int .i64 (C0:Int),.slice (some ⟨lg,(2+S.toNat)*64,none⟩) 0 (M - (2+S.toNat)*64),.pointer none,.bool false] 91)) w.heap.size [.int .i64 0,.int .i64 1,.int .i64 0,.int .i64 0,.int .i64 23,.int .i64 (C0:Int),.int .i64 0,.slice ta 1 tc,.int .i64 0,.int .i64 0,.slice xa xl xc,.slice (some ⟨pg,0,none⟩) 0 1]∧St (w7.alloc (.cells #[.slice ta 1 tc,.int .i64 0,.slice ta 1 tc,.int .i64 0,.chan (some w6.heap.size),.int .i64 0,.int .i64 1,.int .i64 0,.int .i64 0,.int .i64 23,.int .i64 (C0:Int),.slice (some ⟨lg,(2+S.toNat)*64,none⟩) 0 (M - (2+S.toNat)*64),.pointer none,.bool false] 91)) w5.heap.size [.slice ta 1 tc,.int .i64 0]:=⟨hH7.1.below bD,hH7.2.below bD⟩;clear hH7;have M8:Hid (St (w7.alloc (.cells #[.slice ta 1 tc,.int .i64 0,.slice ta 1 tc,.int .i64 0,.chan (some w6.heap.size),.int .i64 0,.int .i64 1,.int .i64 0,.int .i64 0,.int .i64 23,.int .i64 (C0:Int),.slice (some ⟨lg,(2+S.toNat)*64,none⟩) 0 (M - (2+S.toNat)*64),.pointer none,.bool false] 91)) (w6.heap.size+1) [.slice ta 1 tc,.int .i64 0,.slice ta 1 tc,.int .i64 0,.chan (some w6.heap.size),.int .i64 0,.int .i64 1,.int .i64 0,.int .i64 0,.int .i64 23,.int .i64 (C0:Int),.slice (some ⟨lg,(2+S.toNat)*64,none⟩) 0 (M - (2+S.toNat)*64),.pointer none,.bool false]):=by
  rw [←E7.out];exact St.new w7 #[.slice ta 1 tc,.int .i64 0,.slice ta 1 tc,.int .i64 0,.chan (some w6.heap.size),.int .i64 0,.int .i64 1,.int .i64 0,.int .i64 0,.int .i64 23,.int .i64 (C0:Int),.slice (some ⟨lg,(2+S.toNat)*64,none⟩) 0 (M - (2+S.toNat)*64),.pointer none,.bool false] 91
 have C8:Hid ((w7.alloc (.cells #[.slice ta 1 tc,.int .i64 0,.slice ta 1 tc,.int .i64 0,.chan (some w6.heap.size),.int .i64 0,.int .i64 1,.int .i64 0,.int .i64 0,.int .i64 23,.int .i64 (C0:Int),.slice (some ⟨lg,(2+S.toNat)*64,none⟩) 0 (M - (2+S.toNat)*64),.pointer none,.bool false] 91)).heap[w6.heap.size]?=some (.chan (sn*64 / 9) #[] false 0 0 false)):=(bD.block _ (by have:=z7.out;omega)).trans C7.out;have N8:=ZU (N7.out.below bD);have O8:Hid (Own .u8 5 (w7.alloc (.cells #[.slice ta 1 tc,.int .i64 0,.slice ta 1 tc,.int .i64 0,.chan (some w6.heap.size),.int .i64 0,.int .i64 1,.int .i64 0,.int .i64 0,.int .i64 23,.int .i64 (C0:Int),.slice (some ⟨lg,(2+S.toNat)*64,none⟩) 0 (M - (2+S.toNat)*64),.pointer none,.bool false] 91)) w4.heap.size (.slice (some ⟨lg,0,none⟩) (Qz S sn).length M) (Qz S sn)):=Own.below O7.out bD;have z8:Hid (w7.heap.size<(w7.alloc (.cells #[.slice ta 1 tc,.int .i64 0,.slice ta 1 tc,.int .i64 0,.chan (some w6.heap.size),.int .i64 0,.int .i64 1,.int .i64 0,.int .i64 0,.int .i64 23,.int .i64 (C0:Int),.slice (some ⟨lg,(2+S.toNat)*64,none⟩) 0 (M - (2+S.toNat)*64),.pointer none,.bool false] 91)).heap.size):=by show _<_;simp
 clear C7 N7 O7 bD;generalize w7.alloc _=w8 at *
 iterate 2 (refine Zf ?_ (by kernel_rfl) (fun _=>id) Z9 ?_ ?_;rotate_left;· intro w9 ZQ;clear ZQ;go_simp;try with_reducible rfl)
 refine YS 20 rfl (by kernel_rfl) (fun K hK=>?_);have k0:=N8.out.sv.cl 0 _ rfl;have f0:=N8.out.sv.fz 0;go_simp;clear k0 f0;refine hK.out _ _ ⟨Z9.1.other (by omega),Z9.2.other (by have:=z5.out;have:=yI.out;omega)⟩ (fun YA=>?_);clear hK K YA Z9;refine ZR (by kernel_rfl) ?_ _
 try simp only [Act.put,WV,WU,WT]
 have FIN:Hid (Tw w sB none (w8.setCell ⟨sB,0,none⟩ (.pointer (some ⟨w6.heap.size+1,0,none⟩))) none∧∃ κ σ,Sv κ σ (w8.setCell ⟨sB,0,none⟩ (.pointer (some ⟨w6.heap.size+1,0,none⟩)))∧ug κ σ sB S sn):=by
  have Z7:=z7.out;have Z8:=z8.out;have e7:=E7.out;have Z6:=z6.out;have Z5:=z5.out;have Yq:=yI.out;have T9:=(N8.out.tw).set (j:=0) (x:=.pointer (some ⟨w6.heap.size+1,0,none⟩));have tC:=(ze hc).n9;obtain ⟨⟨hS1,hS2⟩,hL1,hL2⟩:=(Xk S sn).1 hc;have hDl:(2+S.toNat+sn)*64≤(Qz S sn).length:=by
   have:=((RI ..).1 (NW hc)).2.2;omega
  have fJ:=hd.LR T9.LR (fun q e=>by cases e;exact fun e9=>by have:=(ZT hd _ e9).1;omega);have ZN:=T9.gn ht (fun e9=>by have:=(ZT ht _ e9).1;omega);have fx:∀q,xa.map (·.block)=some q→sB<q∧q<w.heap.size:=fun q e=>by
   cases xa with
   | none=>cases e
   | some a=>cases e;exact ZT hd _ rfl
  have ft:∀q,(Value.slice ta 1 tc).ownBlock=some q→sB<q∧q<w.heap.size:=fun q e=>ZT ht _ e
  have fd:∀q,(Value.slice xa xl xc).ownBlock=some q→sB<q∧q<w.heap.size:=fun q e=>ZT hd _ e
  have ZL:pg<w.heap.size:=(Z3.mp hp).1;have hup:sB<w6.heap.size+1∧sB<w6.heap.size∧sB<lg:=by omega
  have far:∀v:Value,(∀q,v.ownBlock=some q→sB<q∧q<w.heap.size)→Pg ⟨sB,w6.heap.size+1,w6.heap.size,lg,(2+S.toNat)*64,sn*64 / 9,S,sn,[],hup⟩ v:=fun v hv q hq=>by
   have:=hv q hq;exact ⟨by show q≠sB;omega,by show q≠w6.heap.size+1;omega,by show q≠w6.heap.size;omega,by show q≠lg;omega,by simp⟩
  refine ⟨T9,⟨sB,w6.heap.size+1,w6.heap.size,lg,(2+S.toNat)*64,sn*64 / 9,S,sn,[],hup⟩,⟨[Yx],0,[Yx],0,[],0,1,0,0,23,C0,[],0,none,0,false,some pg⟩,?_,⟨rfl,rfl,rfl,rfl,rfl,⟨rfl,rfl,rfl,rfl,rfl,rfl,rfl⟩,⟨rfl,rfl,rfl⟩,rfl,rfl,rfl⟩⟩;refine ⟨⟨?_,?_,?_,?_,?_,?_⟩,fun x hx=>by simp at hx,⟨_,0,_,N8.out.sv.set 0 _,fJ,tC,⟨Int.le_refl _,Int.le_refl _⟩,far _ fd⟩,⟨.slice ta 1 tc,.slice ta 1 tc,M - (2+S.toNat)*64,?_,ZN.rd,ZN.rd,ZN.qi,far _ ft,far _ ft,?_,?_⟩,⟨[],0,0,?_,⟨rfl,fun i hi=>by simp at hi⟩,fun i hi=>by simp at hi⟩,fun p hp=>by simp at hp,?_⟩
  · show sB≠w6.heap.size+1;omega
  · show sB≠w6.heap.size;omega
  · show sB≠lg;omega
  · show w6.heap.size+1≠w6.heap.size;omega
  · show w6.heap.size+1≠lg;omega
  · show w6.heap.size≠lg;omega
  · have h9:=M8.out.other (c:=sB) (j:=0) (x:=.pointer (some ⟨w6.heap.size+1,0,none⟩)) (by omega)
    simpa [yG] using h9
  · have h9:=(Own.setAt (u:=.pointer (some ⟨w6.heap.size+1,0,none⟩)) (g:=sB) (j:=0) O8.out (.inr (fun e=>by simp only [Value.ownBlock,ZK] at e;omega)))
    refine ⟨lg,(2+S.toNat)*64,M - (2+S.toNat)*64,(Qz S sn).take ((2+S.toNat)*64),rfl,by simp;omega,?_⟩;have h8:=h9.Fk (m:=(2+S.toNat)*64) (by omega);rw [YD,show (2+S.toNat)*64+([]:List Int).length=(2+S.toNat)*64 from rfl,show (2+S.toNat)*64+(M - (2+S.toNat)*64)=M by omega];exact h8
  · show (sn:Int)*64≤((M - (2+S.toNat)*64:Nat):Int);omega
  · exact (Below.heap_setCell w8 ⟨sB,0,none⟩ _ w6.heap.size (by show w6.heap.size≠sB;omega)).trans C8.out
  intro g hg
  injection hg with hg;subst hg
  exact ⟨(T9.block pg ZL (by omega) (by simp)).trans hp,hpl,by show pg≠w6.heap.size+1;omega,by show pg≠w6.heap.size;omega,by show pg≠lg;omega,by simp⟩
 generalize w8.setCell _ _=w9 at *;go_wp2
 go_end0
 exact ⟨rfl,FIN.out⟩
 end Go.Proofs.YtpmjnbmkippaiaaGreatDoor
namespace Go.Proofs.YtpmjnbmkippaiaaGreatDoor
open Go.RowKit Go.Conc
structure Nw (w:World) (C L:List Value) (W:World):Prop where
 WC:Zi w W
 cf:St W w.heap.size C
 sv:St W (w.heap.size+1) L
theorem Nw.below {w:World} {C L:List Value} {W W':World} (h:Nw w C L W) (hb:Zi W W'):Nw w C L W' :=
 ⟨h.WC.trans (hb.mono h.WC.size),h.cf.below hb,h.sv.below hb⟩
def fj (w:World) (S:Int) (sn:Nat) (e:Ending) (w':World):Prop :=
 ∃ κ σ,e=.returned (.pointer (some ⟨κ.sB,0,none⟩))∧Sv κ σ w'∧ug κ σ (w.heap.size+1) S sn∧Zi w w'
theorem JG (w:World) (S:Int) (sn:Nat) (hc:Wp S (sn:Int)=true) (htab:Po w) (h0:0<w.heap.size) :
    Calls Tryz.prog 10 #[.agg #[.int .i64 S,.int .i64 (sn:Int)]] w (fj w S sn):=by
 have N1:Hid (Nw w [.int .i64 S,.int .i64 (sn:Int)] [.pointer none,.int .i64 S,.int .i64 (sn:Int),.slice none 0 0,.slice none 0 0,.int .i64 0,.int .i64 0,.slice none 0 0] ((w.alloc (.cells #[.int .i64 S,.int .i64 (sn:Int)] 25)).alloc (.cells #[.pointer none,.int .i64 S,.int .i64 (sn:Int),.slice none 0 0,.slice none 0 0,.int .i64 0,.int .i64 0,.slice none 0 0] 56))):=by
  have b1:=(Below.refl w.heap.size w).alloc YR (.cells #[.int .i64 S,.int .i64 (sn:Int)] 25);have b2:=(Below.refl (w.alloc (.cells #[.int .i64 S,.int .i64 (sn:Int)] 25)).heap.size (w.alloc (.cells #[.int .i64 S,.int .i64 (sn:Int)] 25))).alloc YR (.cells #[.pointer none,.int .i64 S,.int .i64 (sn:Int),.slice none 0 0,.slice none 0 0,.int .i64 0,.int .i64 0,.slice none 0 0] 56);have e1:(w.alloc (.cells #[.int .i64 S,.int .i64 (sn:Int)] 25)).heap.size=w.heap.size+1:=by simp
  have s2:=St.new (w.alloc (.cells #[.int .i64 S,.int .i64 (sn:Int)] 25)) #[.pointer none,.int .i64 S,.int .i64 (sn:Int),.slice none 0 0,.slice none 0 0,.int .i64 0,.int .i64 0,.slice none 0 0] 56;rw [e1] at s2;exact ⟨WD b1 b2,(St.new w #[.int .i64 S,.int .i64 (sn:Int)] 25).below b2,s2⟩
 have HT:Hid (∀W,Zi w W→Po W):=fun W hW=>htab.below h0 hW
 have H0:=ZU h0;have HC:=ZU hc;clear htab h0 hc
 go_enter Tryz.func10,Tryz.ntmps10
 go_wp2_with fail
 generalize ((w.alloc _).alloc _)=w1 at *;refine (zi w1 (w.heap.size+1) _ _ _ _ _ _ _ _ N1.out.sv).mono ?_;rintro e w2 ⟨rfl,s2,g2⟩;have N2:Hid (Nw w [.int .i64 S,.int .i64 (sn:Int)] (Hp (.pointer none) S (sn:Int) (.slice none 0 0) (.slice none 0 0) 0) w2.drew):=by
  have n1:=N1.out;have hb:=n1.WC.trans (show Below w.heap.size w1 w2 from ⟨g2.os,g2.tape,g2.output,g2.size,fun q hq=>g2.block q (ZY hq n1.WC.size) (fun e=>by injection e with e;omega)⟩);exact Nw.below ⟨hb,n1.cf.grown g2 (by simp),s2⟩ (below_drewN' w2 1)
 clear N1 s2 g2
 go_wp2_with fail
 refine ZX (S:=fun W=>∃L,Nw w [.int .i64 S,.int .i64 (sn:Int)] L W) (by kernel_rfl) ⟨_,N2.out⟩ (fun Z9=>?_);generalize w2.drew=w3 at *
 iterate 2 (refine Zf ?_ (by kernel_rfl) (fun _=>id) Z9 ?_ ?_;rotate_left;· intro w9 ZQ;obtain ⟨L9,ZQ⟩:=ZQ;have k0:=ZQ.cf.cl 0 _ rfl;have k1:=ZQ.cf.cl 1 _ rfl;clear ZQ;go_simp;try with_reducible rfl)
 refine Yp 3 ?v3 rfl (by kernel_rfl) (fun _=>id) Z9 ?hy3 ?_
 case hy3 =>
  intro w9 ZQ;obtain ⟨L9,ZQ⟩:=ZQ;have k0:=ZQ.cf.cl 0 _ rfl;have k1:=ZQ.cf.cl 1 _ rfl;clear ZQ;go_simp
  try with_reducible rfl
 refine YS 2 rfl (by kernel_rfl) (fun K hK=>?_);go_simp;have h9:=Kk w3 S (sn:Int) HC.out (HT.out _ N2.out.WC) (ZY H0.out N2.out.WC.size);refine h9.mono ?_;clear h9;rintro e w4 ⟨v4,rfl,o4,b4⟩;have N4:=N2.out.below b4;refine hK.out _ _ ⟨_,N4⟩ (fun YA=>?_);have O4:=ZU o4;clear hK K YA Z9 N2 o4 b4;have Z9:∃L,Nw w [.int .i64 S,.int .i64 (sn:Int)] L w4:=⟨_,N4⟩;refine YS 4 rfl (by kernel_rfl) (fun K hK=>?_);go_simp;have h9:=EB w4 v4 S sn (Qz S sn) (j7 S sn) rfl rfl HC.out O4.out.rd (HT.out _ N4.WC) (ZY H0.out N4.WC.size);refine h9.mono ?_;clear h9;rintro e w5 ⟨vt,v5,pg,rfl,t5,o5,ZL,p5,b5⟩;have N5:=N4.below b5;have Z4:w.heap.size+1<w4.heap.size:=N4.sv.lt;refine hK.out _ _ ⟨_,N5⟩ (fun YA=>?_);clear hK K YA N4 b5 O4 Z9;obtain ⟨ta,tc,rfl⟩:=t5.slice;obtain ⟨xa,xc,rfl,-⟩:=o5.rd.len;have HS:Hid (Calls Tryz.prog 18 #[.pointer (some ⟨w.heap.size+1,0,none⟩),.agg (qg (j7 S sn) (.slice ta [Yx].length tc) (.slice xa (Qz S sn).length xc) (.slice (some ⟨pg,0,none⟩) 0 1))] w5 fun e w'=>e=.returned (.tuple #[])∧Tw w5 (w.heap.size+1) none w' none∧∃ κ σ,Sv κ σ w'∧ug κ σ (w.heap.size+1) S sn) :=
  yU w5 (w.heap.size+1) pg S sn ta tc (Qz S sn).length xa xc HC.out N5.sv rfl (o5.mono (by omega)) (t5.mono (by omega)) p5 (by omega)
 clear t5 o5 ZL p5;generalize qg (j7 S sn) (.slice ta [Yx].length tc) (.slice xa (Qz S sn).length xc) (.slice (some ⟨pg,0,none⟩) 0 1)=RR at *;refine YS 5 rfl (by kernel_rfl) (fun K hK=>?_);go_simp;refine HS.out.mono ?_;rintro e w6 ⟨rfl,t6,κ,σ,v6,n6⟩;have FIN:Hid (fj w S sn (.returned (.pointer (some ⟨w.heap.size+1,0,none⟩))) w6):=⟨κ,σ,by rw [n6.sB],v6,n6,N5.WC.trans (t6.below (B:=w.heap.size) N5.WC.size (by omega) (by simp))⟩;have Zo:∃L,Nw w [.int .i64 S,.int .i64 (sn:Int)] L w6:=⟨(Hp (.pointer none) S (sn:Int) (.slice none 0 0) (.slice none 0 0) 0).take 0,N5.WC.trans (t6.below (B:=w.heap.size) N5.WC.size (by omega) (by simp)),t6.st N5.cf (by omega) (by simp),?sv⟩
 case sv =>
  refine ⟨ZY N5.sv.lt t6.size,fun j=>?_,fun j v hv=>by simp at hv⟩;obtain ⟨vd,made,YL,a1,-⟩:=v6.dk;rw [n6.sB] at a1;exact a1.fz j
 refine hK.out _ _ Zo (fun YA=>?_);clear hK K YA t6 v6 n6 N5 Z4 Zo;refine ZR (by kernel_rfl) ?_ _
 try simp only [Act.put,WV,WU,WT]
 go_wp2;go_ret;exact FIN.out
 end Go.Proofs.YtpmjnbmkippaiaaGreatDoor
namespace Go.Proofs.YtpmjnbmkippaiaaGreatDoor
open Go.RowKit Go.Conc
theorem qL.later {m:Int} {te:TypeId} {pe:Value} {w W:World} (h:qL m te pe w) (hb:Zi w W):qL m te pe W :=
 ⟨h.tc.below (ZG w _ (h.tc 0 (by omega))) hb,Ra h.pW hb,(hb.cell (ZG w _ h.er)).trans h.er,h.pl.later hb,h.fm.later hb⟩
theorem jv {m:Int} {te:TypeId} {pe:Value} {κ:Sc} {w W:World} (h:qL m te pe w) (hb:Zi w W) (hs:w.heap.size≤κ.sB):Gl m te pe κ W:=fun W2 hg=>h.later (hb.trans (hg.low hs hb.size))
structure ju (w:World) (κ:Sc) (Bs S L:Nat):Prop where
 ln:yD κ S L
 lt:κ.sB<Bs∧κ.mB<Bs∧κ.c<Bs∧κ.lb<Bs
 wb:w.heap.size≤κ.sB
structure JF (w:World) (κ:Sc) (Bs S L n k:Nat) (xs:List Int) (va:Value) (X:List Nat) (W:World):Prop where
 sv:∃ σ,Rk S L n k σ∧Sv { κ with X:=X } σ W
 xa:Bs+1 ∈ X
 xi:Bs+2 ∈ X
 xv:∀g,va.ownBlock=some g→g ∈ X
 bx:Boxed W (Bs+1) 22 va
 bi:∃v,Boxed W (Bs+2) 22 v
 ow:Own .u8 5 W (Bs+3) va xs
 sb:Boxed W Bs 34 (.pointer (some ⟨κ.sB,0,none⟩))
 low:Zi w W
 sz:Bs+3≤W.heap.size
def mi (w:World) (κ:Sc) (Bs S L n k:Nat) (W:World):Prop:=∃va X,(k=0→va.ownBlock=none)∧JF w κ Bs S L n k (XI (Mn S L n k)) va X W
section
variable {w:World} {κ:Sc} {Bs S L n k:Nat} {xs:List Int} {va:Value} {X:List Nat} {W W':World}
theorem JF.below (h:JF w κ Bs S L n k xs va X W) (hb:Zi W W'):JF w κ Bs S L n k xs va X W':=by
 obtain ⟨σ,r,v⟩:=h.sv;obtain ⟨vi,bi⟩:=h.bi;exact ⟨⟨σ,r,v.below hb⟩,h.xa,h.xi,h.xv,(hb.block _ h.bx.lt).trans h.bx,⟨vi,(hb.block _ bi.lt).trans bi⟩,h.ow.below hb,(hb.block _ h.sb.lt).trans h.sb,h.low.trans (hb.mono h.low.size),ZJ h.sz hb.size⟩
theorem mi.below (h:mi w κ Bs S L n k W) (hb:Zi W W'):mi w κ Bs S L n k W':=let ⟨va,X,h0,h⟩:=h;⟨va,X,h0,h.below hb⟩
theorem JF.VA (hf:ju w κ Bs S L) {row:Option Nat} (h:JF w κ Bs S L n k xs va X W) (hg:W.grownBy W' row) (hr:∀r,row=some r→Bs+3≤r∧∃o:Obj,W.heap[r]?=some o∧o.isCells=false):JF w κ Bs S L n k xs va X W':=by
 obtain ⟨σ,r,v⟩:=h.sv;have hlt:=hf.lt;have hz:=hf.wb;refine ⟨⟨σ,r,v.VA hg (fun r e=>⟨by show r≠κ.c;have:=(hr r e).1;omega,(hr r e).2⟩)⟩,h.xa,h.xi,h.xv,h.bx.kept hg (fun e=>by have:=(hr _ e.symm).1;omega),(let ⟨vi,bi⟩:=h.bi;⟨vi,bi.kept hg (fun e=>by have:=(hr _ e.symm).1;omega)⟩),VD h.ow hg (fun r e=>(hr r e).2),h.sb.kept hg (fun e=>by have:=(hr _ e.symm).1;omega),h.low.grown hg h.low.size (fun q e=>by have:=(hr q e).1;omega),ZJ h.sz hg.size⟩
theorem JF.jt (hf:ju w κ Bs S L) (h:JF w κ Bs S L n k xs va X W) (x:Value):JF w κ Bs S L n k xs va X (W.setCell ⟨Bs+2,0,none⟩ x):=by
 obtain ⟨σ,r,v⟩:=h.sv;have hlt:=hf.lt;have hz:=hf.wb;have hg:=kt W (Bs+2) 0 x;exact ⟨⟨σ,r,v.other h.xi hg⟩,h.xa,h.xi,h.xv,h.bx.kept hg (by simp),(let ⟨vi,bi⟩:=h.bi;⟨x,bi.set x⟩),Own.Vz h.ow (show Bs+2<Bs+3 by omega) x,h.sb.kept hg (by simp),h.low.setCell (by show w.heap.size≤Bs+2;omega) x,by simpa using h.sz⟩
theorem JF.line (hf:ju w κ Bs S L) (h:JF w κ Bs S L n k xs va X W) (hx:va.ownBlock=none∨4≤xs.length) (hg:Gw { κ with X:=X } W W') (hs:∃ σ,Rk S L n (k+1) σ∧Sv { κ with X:=X } σ W') :
    JF w κ Bs S L n (k+1) xs va X W'∧KeepsFrom (Bs+3) W W'∧W'.heap[Bs+2]?=W.heap[Bs+2]?:=by
 have hlt:=hf.lt;have hsz:=h.sz;have blk:∀q,Bs≤q→q<W.heap.size→W.cell? ⟨q,3,none⟩≠some (.slice none 0 0)→W.cell? ⟨q,1,none⟩≠some (.slice none 0 0)→W'.heap[q]?=W.heap[q]?:=fun q h1 h2 h3 h4=>hg.block q h2 (by show q≠κ.sB;omega) (by show q≠κ.mB;omega) (by show q≠κ.c;omega) (by show q≠κ.lb;omega) (fun _=>h3) (fun _=>h4)
 have box:∀ {q t v},Bs≤q→Boxed W q t v→W'.heap[q]?=W.heap[q]?:=fun {q t v} h1 hb=>blk q h1 hb.lt (by simp [World.cell?,show W.heap[q]?=_ from hb]) (by simp [World.cell?,show W.heap[q]?=_ from hb])
 obtain ⟨vi,bi⟩:=h.bi;have ei:=box (by omega) bi;refine ⟨⟨hs,h.xa,h.xi,h.xv,(box (by omega) h.bx).trans h.bx,⟨vi,ei.trans bi⟩,?_,(box YR h.sb).trans h.sb,h.low.trans (hg.low hf.wb h.low.size),ZJ hsz hg.size⟩,⟨hg.size,fun q o hq ho hc=>?_⟩,ei⟩
 · have h9:=h.ow
   refine ⟨h9.1,h9.2.imp id ?_⟩;rintro ⟨g,cap,cur,rfl,e1,e2,e3⟩;refine ⟨g,cap,cur,rfl,e1,?_,e3⟩
   rcases hx with hx | hx
   · simp [Value.ownBlock] at hx
   obtain ⟨ao,cp,e,-,-,r3⟩:=h9.rd
   rcases r3 with r3 | ⟨b,off,eb,hb,hc⟩
   · rw [r3] at hx;simp at hx
   simp only [ZC] at e
   rw [eb] at e
   simp only [ZK,Ym,VB] at e
   obtain ⟨⟨rfl,rfl⟩,-,-⟩:=e;have c3:=hc 3 (by omega);have c1:=hc 1 (by omega);rw [Za] at c3 c1;exact (blk g (by omega) hb (by rw [c3];simp) (by rw [c1];simp)).trans e2
 have hl:=(Z3.1 ho).1;have nc:∀j,W.cell? ⟨q,j,none⟩=none:=fun j=>by
  unfold World.cell?;rw [ho]
  cases o <;> first | rfl | (cases hc)
 exact (blk q (by omega) hl (by rw [nc];simp) (by rw [nc];simp)).trans ho
theorem JF.app (hf:ju w κ Bs S L) (h:JF w κ Bs S L n k xs va X W) {ys:List Int} {v2:Value} {W2:World} (ho:Own .u8 5 W2 (Bs+3) v2 ys)
    (hc:(v2.ownBlock=va.ownBlock∧W.grownBy W2 va.ownBlock)∨(Zi W W2∧∀g,v2.ownBlock=some g→W.heap.size≤g)) :
    ∃X',JF w κ Bs S L n k ys v2 X' (W2.setCell ⟨Bs+1,0,none⟩ v2)∧KeepsFrom (Bs+3) W (W2.setCell ⟨Bs+1,0,none⟩ v2)∧(W2.setCell ⟨Bs+1,0,none⟩ v2).heap[Bs+2]?=W.heap[Bs+2]?∧W2.cell? ⟨Bs+1,0,none⟩=some va∧W2.frozen? ⟨Bs+1,0,none⟩=false:=by
 have hlt:=hf.lt;have hz:=hf.wb;have hsz:=h.sz;obtain ⟨vi,bi⟩:=h.bi;obtain ⟨σ,r,v⟩:=h.sv;have hne:=r.ne;have main:∀X',(∃ σ,Rk S L n k σ∧Sv { κ with X:=X' } σ W2)→Bs+1 ∈ X'→Bs+2 ∈ X'→(∀g,v2.ownBlock=some g→g ∈ X')→(∀q,q<Bs+3→W2.heap[q]?=W.heap[q]?)→Zi w W2→KeepsFrom (Bs+3) W W2→W.heap.size≤W2.heap.size →
     ∃X',JF w κ Bs S L n k ys v2 X' (W2.setCell ⟨Bs+1,0,none⟩ v2)∧KeepsFrom (Bs+3) W (W2.setCell ⟨Bs+1,0,none⟩ v2)∧(W2.setCell ⟨Bs+1,0,none⟩ v2).heap[Bs+2]?=W.heap[Bs+2]?∧W2.cell? ⟨Bs+1,0,none⟩=some va∧W2.frozen? ⟨Bs+1,0,none⟩=false:=by
  intro X' hs a1 a2 a3 a4 a5 a6 a7;obtain ⟨σ',r',v'⟩:=hs;have hg:=kt W2 (Bs+1) 0 v2;have b2:Boxed W2 (Bs+1) 22 va:=(a4 _ (by omega)).trans h.bx;have i2:Boxed W2 (Bs+2) 22 vi:=(a4 _ (by omega)).trans bi;have s2:Boxed W2 Bs 34 (.pointer (some ⟨κ.sB,0,none⟩)):=(a4 _ (by omega)).trans h.sb;exact ⟨X',⟨⟨σ',r',v'.other a1 hg⟩,a1,a2,a3,b2.set _,⟨vi,i2.kept hg (by simp)⟩,Own.Vz ho (show Bs+1<Bs+3 by omega) v2,s2.kept hg (by simp),a5.setCell (by show w.heap.size≤Bs+1;omega) v2,by simp;omega⟩,a6.trans ((KeepsOthers.setCell _ _ _).from _),((i2.kept hg (by simp)).trans bi.symm),b2.cell,b2.frozen⟩
 rcases hc with ⟨e,hg⟩ | ⟨hb,hfr⟩
 · cases ev:va.ownBlock with
   | none =>
    rw [ev] at hg;have hb:Zi W W2:=⟨hg.os,hg.tape,hg.output,hg.size,fun q hq=>hg.block q hq (by simp)⟩;exact main X ⟨σ,r,v.below hb⟩ h.xa h.xi (fun g eg=>by rw [e,ev] at eg;cases eg) (fun q hq=>hb.block q (by omega)) (h.low.trans (hb.mono h.low.size)) (Vf hb) hb.size
   | some g =>
    have hge:=(ZT h.ow g ev).1;rw [ev] at hg;exact main X ⟨σ,r,v.other (h.xv g ev) hg⟩ h.xa h.xi (fun q eq=>h.xv q (by rw [←e];exact eq)) (fun q hq=>hg.block q (by omega) (fun e9=>by injection e9 with e9;omega)) (h.low.grown hg h.low.size (fun q e9=>by injection e9 with e9;omega)) (zJ h.ow (by rw [ev];exact hg)) hg.size
 cases ev:v2.ownBlock with
 | none=>exact main X ⟨σ,r,v.below hb⟩ h.xa h.xi (fun g eg=>by rw [ev] at eg;cases eg) (fun q hq=>hb.block q (by omega)) (h.low.trans (hb.mono h.low.size)) (Vf hb) hb.size
 | some g =>
  have h1:=hfr g ev;have h2:=(ZT ho g ev).2;have v9:Sv { κ with X:=g :: X } σ W2:=v.boxed hb h1 h2 hne.1 hne.2;exact main (g :: X) ⟨σ,r,v9⟩ (Zp _ h.xa) (Zp _ h.xi) (fun q eq=>by rw [ev] at eq;injection eq with eq;rw [←eq];exact YO ..) (fun q hq=>hb.block q (by omega)) (h.low.trans (hb.mono h.low.size)) (Vf hb) hb.size
theorem yT (s:ByteArray) (B O:Nat):Lib.bytesTrimSuffix B O (s.size+1) (s.size+1) (U0 s++[10]) [10]=.slice (some ⟨B,O,none⟩) s.size (s.size+1):=by
 have h:Lib.hasSuffix (Lib.bytesOf (U0 s++[10])) (Lib.bytesOf [10])=true:=by
  unfold Lib.hasSuffix;rw [List.isSuffixOf_iff_suffix];unfold Lib.bytesOf;rw [Y6];exact List.suffix_append _ _
 unfold Lib.bytesTrimSuffix;rw [Z0 h]
 rfl
end
end Go.Proofs.YtpmjnbmkippaiaaGreatDoor
namespace Go.Proofs.YtpmjnbmkippaiaaGreatDoor
open Go.RowKit Go.Shelf
theorem js {α β:Type}:∀ {l:List (α × β)},(l.map Prod.fst).Nodup→∀ {k:α} {v u:β},(k,v) ∈ l→(k,u) ∈ l→u=v
 | [],_,_,_,_,h,_=>by cases h
 | (a,b) :: l,hn,k,v,u,h1,h2=>by
  rw [Yl,List.nodup_cons] at hn;have hx:∀x,(k,x) ∈ l→k≠a:=fun x hx e=>hn.1 (by rw [←e];exact List.mem_map.2 ⟨_,hx,rfl⟩)
  rcases Y9.1 h1 with e1 | m1
  · rcases Y9.1 h2 with e2 | m2
    · rw [(VH e1).2,(VH e2).2]
    exact absurd (VH e1).1 (hx _ m2)
  rcases Y9.1 h2 with e2 | m2
  · exact absurd (VH e2).1 (hx _ m1)
  exact js hn.2 m1 m2
theorem uf (B:Nat):((tR B).map Prod.fst).Nodup:=by
 unfold tR
 simp only [Yl,WO]
 decide +kernel
def five (f:ByteArray):Prop:=(f.toList == [99,114,101,97,116,101])=true∨(f.toList == [115,101,116])=true∨(f.toList == [102,108,117,115,104])=true∨(f.toList == [115,110,97,112])=true∨(f.toList == [115,116,101,112])=true
def eK (W:World) (s:Value) (l:Ln) (v:Value):Prop :=
 (v=.func (.func 59) #[] #[]∧Calls Tryz.prog 59 #[s] W fun e w'=>ox W l e w') ∨
 (∃k,v=.func (.func 103) #[] #[.pointer (some ⟨k,0,none⟩)]∧Calls Tryz.prog 103 #[s,.pointer (some ⟨k,0,none⟩)] W fun e w'=>ox W l e w') ∨
 (∃f k,v=.func (.func 105) #[] #[.pointer (some ⟨f,0,none⟩),.pointer (some ⟨k,0,none⟩)]∧Calls Tryz.prog 105 #[s,.pointer (some ⟨f,0,none⟩),.pointer (some ⟨k,0,none⟩)] W fun e w'=>ox W l e w')
theorem yS (w W:World) (N g c:Nat) (L:List ByteArray) (hp:PS w W N (tR w.heap.size) (ou w.heap.size)) (hL:0<L.length) (hL1:L.length≤1048577) (qn:L.length≤c) (hc:c≤maxLen) (hcl:∀i,i<L.length→W.cell? ⟨g,i,none⟩=some (.string (Yh L i))) (hgb:g<W.heap.size) (hsz:oz L) {m:Int} {te:TypeId} {pe:Value} (hg:Aq W m te pe) (hf:tT W) (h5:five (Yh L 0)) :
    ∃v,(Instr.lookup 75 (.map (some w.heap.size)) (.string (Yh L 0)) true).run Tryz.prog W=.ok (.tuple #[v,.bool true]) W∧eK W (.slice (some ⟨g,0,none⟩) L.length c) (Aj L) v:=by
 have hR:tU W (.slice (some ⟨g,0,none⟩) L.length c) L:=⟨_,c,rfl,qn,hc,.inr ⟨g,0,rfl,hgb,fun i hi=>by rw [Za];exact hcl i hi⟩⟩;have hop:∀V,Zi W V→Calls Tryz.prog 101 #[.slice (some ⟨g,0,none⟩) L.length c] V fun e w'=>JW V L e w':=fun V hV=>Fr V _ L (hR.below hV) hsz (hg.later hV) (hf.later hV)
 have hcx:∀p ∈ ou w.heap.size,w.heap.size<p.1∧p.1<N∧W.cell? ⟨p.1,0,none⟩=some p.2:=hp.c;have hN:=hp.z;have hit:∀ {l:List UInt8} {v:Value},((Yh L 0).toList == l)=true→(UG l,v) ∈ tR w.heap.size→(Instr.lookup 75 (.map (some w.heap.size)) (.string (Yh L 0)) true).run Tryz.prog W=.ok (.tuple #[v,.bool true]) W:=fun {l v} q hm=>by
  rw [kD q];exact hp.m.hit (P:=Tryz.prog) Tryz.underlying75 Tryz.underlying9 hm (fun v9 h9=>js (uf _) hm h9)
 have k2:=hcx (w.heap.size+1,.int .i64 2) (by simp [ou]);have k6:=hcx (w.heap.size+5,.int .i64 6) (by simp [ou])
 rcases h5 with q | q | q | q | q
 · exact ⟨.func (.func 59) #[] #[],hit q (by simp [tR,UG]),.inl ⟨rfl,Jh W _ c L hop _ (K0 q)⟩⟩
 · exact ⟨.func (.func 59) #[] #[],hit q (by simp [tR,UG]),.inl ⟨rfl,Jh W _ c L hop _ (BC q)⟩⟩
 · exact ⟨.func (.func 103) #[] #[.pointer (some ⟨w.heap.size+1,0,none⟩)],hit q (by simp [tR,UG]),.inr (.inl ⟨_,rfl,Jj W _ _ c (w.heap.size+1) 2 k2.2.2 (by rw [hN];exact k2.2.1) _ (Ji q)⟩)⟩
 · exact ⟨.func (.func 103) #[] #[.pointer (some ⟨w.heap.size+5,0,none⟩)],hit q (by simp [tR,UG]),.inr (.inl ⟨_,rfl,Jj W _ _ c (w.heap.size+5) 6 k6.2.2 (by rw [hN];exact k6.2.1) _ (Fu q)⟩)⟩
 exact ⟨.func (.func 105) #[] #[.pointer (some ⟨w.heap.size+7,0,none⟩),.pointer (some ⟨w.heap.size+6,0,none⟩)],hit q (by simp [tR,UG]),.inr (.inr ⟨_,_,rfl,Ip W g c (w.heap.size+6) (w.heap.size+7) L 7 (hcx (w.heap.size+6,.int .i64 7) (by simp [ou])).2.2 (hcx (w.heap.size+7,.func (.func 64) #[] #[]) (by simp [ou])).2.2 hL hL1 qn hc hR hsz hg _ (Ft q)⟩)⟩
theorem JE (w:World) (v:Value) (b:ByteArray) (h:Rd .u8 w v (bI b)) (hs:b.size≤1048576) {m:Int} {te:TypeId} {pe:Value} (hg:Aq w m te pe) (hf:tT w) (hbig:¬60000<b.size) (hall:(UK b).all Wi=true) (h5:five (Yh (UK b) 0)) :
    Calls Tryz.prog 12 #[v] w fun e w'=>ox w (TQ b) e w':=by
 have hA:Zi w (w.alloc (.cells #[.int .i64 0,.slice none 0 0,.bool false,.string ⟨#[]⟩,.slice none 0 0] 43)):=Yy.alloc YR _;have BA:=ZU hA;have X:=ZU (St.new w #[.int .i64 0,.slice none 0 0,.bool false,.string ⟨#[]⟩,.slice none 0 0] 43);have hcv:=To (h.below hA);rw [Fp] at hcv;have s1:(w.alloc (.cells #[.int .i64 0,.slice none 0 0,.bool false,.string ⟨#[]⟩,.slice none 0 0] 43)).heap.size=w.heap.size+1:=by simp
 have HG:=ZU (hg.later hA);have HF:=ZU (hf.later hA);have HS:=ZU (Ac (w.alloc (.cells #[.int .i64 0,.slice none 0 0,.bool false,.string ⟨#[]⟩,.slice none 0 0] 43)) b hs HG.out.mx);obtain ⟨ao,cap,rfl,-⟩:=h;rw [QT] at hcv ⊢;clear hA hg hf;have ov:¬(60000:Int)<((b.size:Nat):Int):=by omega
 have H5:=ZU h5;have je:=ZU hall;have Pu:Hid (TQ b=if (UK b).all Wi=true then Aj (UK b) else Oz):=by show _=_;unfold TQ;rw [Z1 hbig]
 obtain ⟨hl0,hl1,hsz⟩:=xu b hs;have LY:=ZU hsz;generalize TQ b=l at *;generalize UK b=L at *;clear hbig hs hsz h5 hall
 go_enter Tryz.func12,Tryz.ntmps12
 go_wp2_with fail
 generalize w.alloc _=w1 at *;refine HS.out.mono ?_;rintro e w2 ⟨rfl,rfl⟩;have b2:Zi w1 (w1.alloc (.cells (L.map Value.string).toArray 9)):=Yy.alloc YR _;have Qs:=ZU (Ab w1 L);have s2:(w1.alloc (.cells (L.map Value.string).toArray 9)).heap.size=w1.heap.size+1:=by simp
 replace X:=ZU (X.out.below b2)
 replace BA:=ZU (WD BA.out b2)
 replace HG:=ZU (HG.out.later b2)
 replace HF:=ZU (HF.out.later b2)
 clear HS hcv b2;generalize w1.alloc _=w3 at *;generalize hgg:w1.heap.size=g at *;have hgw:g<w3.heap.size:=by omega
 have sw:w.heap.size+1≤w3.heap.size:=by omega
 clear hgg s2 s1
 go_wp2_with fail
 refine (An w3 g L.length L hl0 YR (by unfold maxLen;omega) Qs.out hgw).mono ?_;rintro e w4 ⟨rfl,b4⟩
 replace X:=ZU (X.out.below b4)
 replace BA:=ZU (WD BA.out b4)
 replace HG:=ZU (HG.out.later b4)
 replace HF:=ZU (HF.out.later b4)
 replace Qs:Hid (∀i,i<L.length→w4.cell? ⟨g,i,none⟩=some (.string (Yh L i))):=fun i hi=>(b4.cell (p:=⟨g,i,none⟩) hgw).trans (Qs.out i hi)
 have s4:=b4.size;clear b4;rw [je.out];have Zn:=ZU (Pu.out.trans (Z0 je.out));clear Pu
 go_wp2_with fail
 have hpz:(0:Int)<((L.length:Nat):Int):=by omega
 have bD:Zi w4 w4.drew:=below_drewN' w4 1;refine ZX (S:=fun W=>W.cell? ⟨g,0,none⟩=some (.string (Yh L 0))) (by kernel_rfl) ((bD.cell (p:=⟨g,0,none⟩) (by show g<_;omega)).trans (Qs.out 0 hl0)) (fun Z9=>?_)
 replace X:=ZU (X.out.below bD)
 replace BA:=ZU (WD BA.out bD)
 replace HG:=ZU (HG.out.later bD)
 replace HF:=ZU (HF.out.later bD)
 replace Qs:Hid (∀i,i<L.length→w4.drew.cell? ⟨g,i,none⟩=some (.string (Yh L i))):=fun i hi=>(bD.cell (p:=⟨g,i,none⟩) (by show g<_;omega)).trans (Qs.out i hi)
 have s5:=bD.size;clear bD;generalize w4.drew=w5 at *;refine Yp 1 (.slice (some ⟨g,0,none⟩) L.length L.length) rfl (by kernel_rfl) (fun _=>id) Z9 ?_ ?_
 · intro w9 ZQ;clear ZQ;go_simp;try with_reducible rfl
 refine Yp 2 (.pointer (some ⟨g,0,none⟩)) rfl (by kernel_rfl) (fun _=>id) Z9 ?_ ?_
 · intro w9 ZQ;clear ZQ;go_simp;try with_reducible rfl
 refine Yp 3 (.string (Yh L 0)) rfl (by kernel_rfl) (fun _=>id) Z9 ?_ ?_
 · intro w9 ZQ;go_simp;try with_reducible rfl
 refine YS 0 rfl (by kernel_rfl) (fun K hK=>?_);go_simp;refine (Fq w5).mono ?_;rintro e w6 ⟨rfl,P6⟩;have b6:=P6.b;obtain ⟨fv,hlk,sh⟩:=yS w5 w6 _ g L.length L P6 hl0 hl1 YR (by unfold maxLen;omega) (fun i hi=>(b6.cell (p:=⟨g,i,none⟩) (by show g<_;omega)).trans (Qs.out i hi)) (by have:=b6.size;omega) LY.out (HG.out.later b6) (HF.out.later b6) H5.out
 replace X:=ZU (X.out.below b6)
 replace BA:=ZU (WD BA.out b6)
 have s6:=b6.size;have HY:=ZU sh;refine hK.out _ _ ((b6.cell (p:=⟨g,0,none⟩) (by show g<_;omega)).trans Z9) (fun ME=>?_);clear hK K Z9 P6 b6 sh Qs HG HF;refine YS 4 rfl (by kernel_rfl) (fun K hK=>?_);go_simp;refine hK.out _ _ ME (fun Z9=>?_);clear hK K ME hlk
 iterate 5 (refine Zf ?_ (by kernel_rfl) (fun _=>id) Z9 ?_ ?_;rotate_left;· intro w9 ZQ;clear ZQ;go_simp;try with_reducible rfl)
 refine ZR (by kernel_rfl) ?_ _
 try simp only [Act.put,WV,WU,WT]
 clear Z9;have hP:=HY.out;rw [←Zn.out] at hP;clear HY Zn
 rcases hP with ⟨rfl,hc⟩ | ⟨k9,rfl,hc⟩ | ⟨f9,k9,rfl,hc⟩
 all_goals
  have HC:=ZU hc;clear hc
  go_wp2_with fail
  refine HC.out.mono ?_;rintro e w7 ⟨vo,vn,rfl,o7,n7,b7⟩;obtain ⟨Zm,Zl,rfl⟩:=o7.slice;obtain ⟨Zk,Zj,rfl⟩:∃a c,vn=.slice a l.nums.length c:=by
   obtain ⟨a,c,e9,-⟩:=P2 n7;exact ⟨a,c,e9⟩
  replace X:=ZU (X.out.below b7)
  replace BA:=ZU (WD BA.out b7)
  have O7:=ZU (RQ.mono o7 (show w.heap.size+1≤w6.heap.size by omega));have N7:=ZU (Own.mono n7 (show w.heap.size+1≤w6.heap.size by omega));clear HC o7 n7 b7;have x0:=X.out.fz;have y0:=X.out.cl 0 _ rfl;have y1:=X.out.cl 1 _ rfl;have y2:=X.out.cl 2 _ rfl;have y3:=X.out.cl 3 _ rfl;have y4:=X.out.cl 4 _ rfl
  go_wp2_with fail
  obtain ⟨b9,x9,o9,n9⟩:=QR BA.out X.out (l.kind) (l.RJ) (l.path) (vo:=.slice Zm l.ops.length Zl) (vn:=.slice Zk l.nums.length Zj) (show RQ _ _ _ _ l.ops from O7.out) (show Own _ _ _ _ _ l.nums from N7.out);have d0:=x9.cl 0 _ rfl;have d1:=x9.cl 1 _ rfl;have d2:=x9.cl 2 _ rfl;have d3:=x9.cl 3 _ rfl;have d4:=x9.cl 4 _ rfl;exact ZW (v:=.agg #[.int .i64 (l.kind),.slice Zm l.ops.length Zl,.bool (l.RJ),.string (l.path),.slice Zk l.nums.length Zj]) (by simp [results,Tryz.results12,go_sem,d0,d1,d2,d3,d4]) rfl (by rw [show l=l from rfl];exact ⟨_,_,rfl,o9,n9,b9⟩)
theorem qE {n:Nat} (h:1≤n) (hn:n≤64) (k:Nat) (hk:k<116):(UK ((Qt n).getD k ⟨#[]⟩)).all Wi=true∧five (Yh (UK ((Qt n).getD k ⟨#[]⟩)) 0):=by
 have g2:Wi pA=true:=by decide +kernel
 have c1:(UK (El n)).all Wi=true∧five (Yh (UK (El n)) 0):=by
  have g1:Wi (UG [99,114,101,97,116,101])=true:=by decide +kernel
  rw [uD];exact ⟨by simp [g1,g2,Ha h],.inl (by show ((UG [99,114,101,97,116,101]).toList == _)=true;decide +kernel)⟩
 have c2:(UK (Hb n)).all Wi=true∧five (Yh (UK (Hb n)) 0):=by
  have g1:Wi (UG [115,101,116])=true:=by decide +kernel
  have g3:Wi (UG [45,49])=true:=by decide +kernel
  rw [uC];exact ⟨by simp [g1,g2,g3,Ha h],.inr (.inl (by show ((UG [115,101,116]).toList == _)=true;decide +kernel))⟩
 have c3:(UK NU).all Wi=true∧five (Yh (UK NU) 0):=by rw [uB];exact ⟨by decide +kernel,.inr (.inr (.inl (by decide +kernel)))⟩
 have c4:(UK DX).all Wi=true∧five (Yh (UK DX) 0):=by rw [uA];exact ⟨by decide +kernel,.inr (.inr (.inr (.inl (by decide +kernel))))⟩
 have c5:(UK A0).all Wi=true∧five (Yh (UK A0) 0):=by rw [uz];exact ⟨by decide +kernel,.inr (.inr (.inr (.inr (by decide +kernel))))⟩
 rw [uy n k hk]
 repeat' split
 all_goals assumption
end Go.Proofs.YtpmjnbmkippaiaaGreatDoor
namespace Go.Proofs.YtpmjnbmkippaiaaGreatDoor
open Go.RowKit Go.Conc Go.Shelf
attribute [local go_sem] Yv
theorem Ee {F:Fence} {n fuel:Nat} {P:Program} {md:Region.Mode} {ops:Array Oper} {Q:Exit→Act→World→Prop} {listed:Array Bool} {a:Act} {w:World} (R:Array Oper→(Exit→Act→World→Prop)→Prop) (h1:R ops Q) (h2:R ops Q→wpAnyIn F n P md ops Q fuel listed a w):wpAnyIn F n P md ops Q fuel listed a w:=h2 h1
theorem Rk.zero {κ:Sc} {σ:Sx} {sB:Nat} {S:Int} {sn n S9:Nat} (h:ug κ σ sB S sn):Rk S9 sn n 0 σ:=by
 refine ⟨fun _=>h.k,fun _=>by rw [h.k];omega,fun _=>by rw [h.k];omega,fun _=>⟨by rw [h.k];omega,h.YN⟩,fun _=>h.sn,fun _=>h.em,fun e=>by omega,fun _=>by rw [h.rt.2.2.2.2.2.2];simp,?_⟩
 by_cases h9:Xv n≤sn*64
 · rw [Z0 h9,Z0 rfl];exact h.rt
 rw [Z1 h9,Z1 (by omega),Z1 (by omega),Z0 (by omega)];exact h.rt
theorem yR {m:Int} {te:TypeId} {pe:Value} (w:World) (B o N cap S L n:Nat) (hn:n≤64) (hn1:1≤n) (hc:Wp (S:Int) (L:Int)=true) (hG:qL m te pe w) (hN:(XI (Qt n)).length=N) (hr:Rd .u8 w (.slice (some ⟨B,o,none⟩) N cap) (XI (Qt n))) :
    Calls Tryz.prog 6 #[.slice (some ⟨B,o,none⟩) N cap,.agg #[.int .i64 (S:Int),.int .i64 (L:Int)]] w fun e w'=>∃v',e=.returned v'∧Own .u8 5 w' w.heap.size v' (XI (Mn S L n 116))∧Zi w w':=by
 have hsz:N≤9396:=by
  have:=GV (Qt n) (fun s hs=>(AU n hn s hs).2);rw [Re,hN] at this;omega
 have HG:=ZU hG;have HR:=ZU hr;have HN:=ZU hN;have HC:=ZU hc;have hNb:¬(60000:Int)<(N:Int):=by omega
 have Yo:decide ((60000:Int)<(N:Int))=false:=by simpa using hNb
 have B0:Hid (Zi w (w.alloc (.cells #[.int .i64 (S:Int),.int .i64 (L:Int)] 25))):=Yy.alloc YR _;have C0:=ZU (St.new w #[.int .i64 (S:Int),.int .i64 (L:Int)] 25);clear hG hr hN hc;refine (YK (n:=6)).1 ?_;refine callsIn_of_wp_marks Tryz.func6 rfl trivial ?_ rfl
 simp only [Tryz.ntmps6,ZI,ZE,Y7,Nat.reduceAdd,Nat.reduceSub,YV,YU,YI,YT,Zd,Y3]
 gi_wp2_with fail
 refine ⟨trivial,?_⟩;refine (YK.2 (Rs _ (S:Int) (L:Int))).mono ?_;rintro e w1 ⟨rfl,b1⟩;rw [HC.out];have B1:=ZU (WD B0.out b1);have C1:=ZU (C0.out.below b1);have c0:=C1.out.cl 0 _ rfl;have c1:=C1.out.cl 1 _ rfl;clear B0 C0 b1
 gi_wp2_with fail
 clear c0 c1;refine ⟨trivial,?_⟩;refine (YK.2 (JG w1 (S:Int) L HC.out (HG.out.later B1.out).tc (ZY (by omega) (Nat.succ_le_of_lt (C1.out.lt))))).mono ?_;rintro e w2 ⟨κ,σ,rfl,v2,n2,b2⟩
 gi_wp2_with fail
 refine ⟨trivial,?_⟩;refine (uk _ _ _ _ _).mono ?_;rintro e w5 ⟨rfl,NS⟩
 gi_wp2_with fail
 have B2:Zi w w2:=WD B1.out b2;have hkB:w.heap.size≤κ.sB:=by rw [n2.sB];have:=B1.out.size;omega
 have hF:ju w κ w2.heap.size S L:=by
  obtain ⟨vd,made,YL,a1,-⟩:=v2.dk;obtain ⟨vt,vq,cp,b1,-,-,-,-,-,b7,-⟩:=v2.mm;obtain ⟨Lv,s,r,c1,-⟩:=v2.ch;refine ⟨⟨n2.S,n2.L,n2.cap,by rw [n2.S,n2.L];exact HC.out⟩,⟨a1.lt,b1.lt,(Z3.1 c1).1,(b7.lt κ.lb rfl).2⟩,hkB⟩
 have s5:w5.heap.size=w2.heap.size+3:=by rw [NS];simp
 have DP:Hid (mi w κ w2.heap.size S L n 0 w5∧Boxed w5 (w2.heap.size+2) 22 (.slice (some ⟨B,o,none⟩) N cap)):=by
  have bA:Zi w2 ((w2.alloc (.cells #[.pointer (some ⟨κ.sB,0,none⟩)] 34)).alloc (.cells #[.slice none 0 0] 22)):=(Yy.alloc YR _).alloc (by simp) _;have zA:((w2.alloc (.cells #[.pointer (some ⟨κ.sB,0,none⟩)] 34)).alloc (.cells #[.slice none 0 0] 22)).heap.size=w2.heap.size+2:=by simp
  have x1:=(Boxed.new w2 34 (.pointer (some ⟨κ.sB,0,none⟩))).alloc (.cells #[.slice none 0 0] 22);have x2:=Boxed.new (w2.alloc (.cells #[.pointer (some ⟨κ.sB,0,none⟩)] 34)) 22 (.slice none 0 0);rw [YF] at x2;rw [NS];generalize (w2.alloc _).alloc _=wA at *;have hT:σ.T≠[]:=by rw [n2.rt.1];exact QK
  have hQ:σ.Q≠[]:=by rw [n2.rt.2.2.1];exact QK
  have vA:Sv { κ with X:=(w2.heap.size+1) :: κ.X } σ wA:=v2.boxed bA (by omega) (by omega) hT hQ;have bB:Zi wA (wA.alloc (.cells #[.slice (some ⟨B,o,none⟩) N cap] 22)):=Yy.alloc YR _;have vB:Sv { κ with X:=(w2.heap.size+2) :: (w2.heap.size+1) :: κ.X } σ (wA.alloc (.cells #[.slice (some ⟨B,o,none⟩) N cap] 22)):=vA.boxed bB (by omega) (by simp;omega) hT hQ;have x3:=Boxed.new wA 22 (.slice (some ⟨B,o,none⟩) N cap);rw [zA] at x3;exact ⟨⟨.slice none 0 0,_,fun _=>rfl,⟨σ,Rk.zero n2,vB⟩,by simp,by simp,fun g e=>by simp [Value.ownBlock] at e,x2.alloc _,⟨_,x3⟩,ZH _ _ _ _,x1.alloc _,B2.trans ((WD bA bB).mono B2.size),by simp;omega⟩,x3⟩
 have DJ:Hid (∀W,Zi w W→∀i,i<N→W.cell? ⟨B,o+i,none⟩=some (.int .u8 ((XI (Qt n)).getD i 0))):=fun W hW i hi=>by
  obtain ⟨ao,cp,e,r1,r2,r3⟩:=HR.out.below hW
  rcases r3 with r3 | ⟨b9,off,eb,OS,kE⟩
  · have:=HN.out;rw [r3] at this;simp at this;omega
  simp only [ZC] at e
  rw [eb] at e
  simp only [ZK,Ym,VB] at e
  obtain ⟨⟨rfl,rfl⟩,-,-⟩:=e;exact kE i (by rw [HN.out];exact hi)
 have hBl:B<w.heap.size:=by
  obtain ⟨ao,cp,e,r1,r2,r3⟩:=HR.out
  rcases r3 with r3 | ⟨b9,off,eb,OS,-⟩
  · have h9:=HN.out
    have:=G0 (ls:=Qt n) (k:=0) (by rw [Re];omega);rw [r3] at this;simp at this
  simp only [ZC] at e
  rw [eb] at e
  simp only [ZK,Ym,VB] at e
  omega
 obtain ⟨YM,hcm⟩:N≤cap∧cap≤maxLen:=by
  obtain ⟨ao,cp,e,r1,r2,-⟩:=HR.out
  simp only [ZC] at e
  rw [HN.out] at r1;omega
 have HF:=ZU hF;rw [←NS];clear NS v2 n2 b2 B1 C1 B2 hkB hF HR;refine PJ (F:=Fence.wide) (n:=6) rfl (by omega) (gf:=21) (lb:=#[.pointer (some ⟨w2.heap.size+2,0,none⟩)]) rfl trivial (enters_of Tryz.func21 (by kernel_rfl) rfl)
  (fun k W=>mi w κ w2.heap.size S L n k W) (fun k vs _=>k<116∧vs=#[.slice (some ⟨B,o+Rw (Qt n) k,none⟩) (((Qt n).getD k ⟨#[]⟩).size+1) (((Qt n).getD k ⟨#[]⟩).size+1)]) (fun k _=>k+1) (fun X Y=>Y.heap[w2.heap.size+2]?=X.heap[w2.heap.size+2]?) (fun k=>k=116) 0
  (fun k X Y row hs hg hr=>by obtain ⟨va,X9,h0,hs⟩:=hs;exact ⟨va,X9,h0,hs.VA HF.out hg (fun r e=>by have:=hr r e;rw [s5] at this;exact this)⟩) (fun h1 h2=>h2.trans h1) (fun W l o o' hl _ _ _=>World.putObj_heap_other (by omega))
  (fun k vs W hp=>by rw [hp.2];rfl) DP.out.1
  (fun k vs a' W=>k<116∧mi w κ w2.heap.size S L n k W∧a'={ tmps:=(fun T=>#[.slice (some ⟨B,o,none⟩) N cap,.agg #[.int .i64 (S:Int),.int .i64 (L:Int)],undef,.pointer (some ⟨w.heap.size,0,none⟩),.slice none 0 0,.pointer (some ⟨w2.heap.size,0,none⟩),.pointer (some ⟨w2.heap.size+1,0,none⟩),T,undef,.agg #[.int .i64 (S:Int),.int .i64 (L:Int)],.bool true,.bool false,undef,undef,.slice (some ⟨B,o,none⟩) N cap,.int .i64 (N:Int),.bool false,undef,undef,.agg #[.int .i64 (S:Int),.int .i64 (L:Int)],.pointer (some ⟨κ.sB,0,none⟩),.slice (some ⟨B,o,none⟩) N cap,.func (.func 21) #[] #[.pointer (some ⟨w2.heap.size+2,0,none⟩)],T,undef,undef,undef,undef,undef,undef,undef,undef,undef,undef,undef,undef,undef]) (.slice (some ⟨B,o+Rw (Qt n) k,none⟩) (((Qt n).getD k ⟨#[]⟩).size+1) (((Qt n).getD k ⟨#[]⟩).size+1)),defers:=[] })
  ?ax ?assign ?body ?call ?done
 case ax =>
  rintro k vs a' _ X Y row ⟨h1,⟨va,X9,h0,h2⟩,h3⟩ hg hr;exact ⟨h1,⟨va,X9,h0,h2.VA HF.out hg (fun r e=>by have:=hr r e;rw [s5] at this;exact this)⟩,h3⟩
 case assign =>
  rintro l k vs W K hS ⟨hk,rfl⟩ hK;have HK:=ZU hK;have HS:=ZU hS;clear hK hS;gi_wp2;exact HK.out _ _ ⟨YR,fun _ _ _ h _=>h⟩ rfl ⟨hk,HS.out,rfl⟩
 case call =>
  intro Bk W1 tk hY hb1 _ hs0 hb0;have hx1:Boxed W1 (w2.heap.size+2) 22 (.slice (some ⟨B,o,none⟩) N cap):=(hb1.block _ (by omega)).trans DP.out.2;refine (Cp 5 (by omega) (w5.heap.size+1) (w2.heap.size+2) B o N cap (Qt n) (fun s hs=>(AU n hn s hs).1) HN.out (by omega) YM hcm (fun k W=>mi w κ w2.heap.size S L n k W) Bk (fun k X Y hb h=>h.below hb) (fun X Y hb h=>tk X Y (Vf hb) h) (fun k X v h=>let ⟨va,X9,h0,h⟩:=h;⟨va,X9,h0,h.jt HF.out v⟩) (fun X v h=>tk _ _ ((KeepsOthers.setCell _ _ _).from _) h) (fun k W h=>let ⟨va,X9,h0,h⟩:=h;DJ.out W h.low) (fun k vs W a b c=>hY k vs W a b (by rw [Re] at c;exact c)) W1 hs0 hb0 hx1 (by rw [Re];omega)).mono ?_;rintro e W' ⟨h1,h2,h3⟩;rw [Re] at h2;exact ⟨h1,116,rfl,h2,h3⟩
 case done =>
  rintro D k W hD rfl ⟨va,X9,-,hJ⟩ hK;have c0:=hJ.bx.cell;have HJ:=ZU hJ;have HK:=ZU hK;clear hJ hK;gi_wp2;refine ⟨by simp,.inl ⟨_,_,rfl,run_takeDeferred HK.out,?_⟩⟩;have GX:=grownBy_putObj' W D (.deferred none);have OF:Own .u8 5 (W.putObj D (.deferred none)) (w2.heap.size+3) va (XI (Mn S L n 116)):=VD HJ.out.ow GX (fun r e=>by injection e with e;subst e;exact ⟨_,HK.out,rfl⟩);have hz:=HF.out.wb;have hlt:=HF.out.lt;have BF:=HJ.out.low.grown GX HJ.out.low.size (fun q e=>by injection e with e;omega);exact ⟨va,by simp [results,Tryz.results6,go_sem],va,rfl,OF.mono (by omega),BF⟩
 case body =>
  rintro l k vs a' W ⟨hk,⟨va,X,Zh,hJ⟩,rfl⟩;have YJ:=ZU Zh;have HJ:=ZU hJ;have hkl:k<(Qt n).length:=by rw [Re];exact hk
  have kV:Hid (∀W',Zi w W'→∀i,i<((Qt n).getD k ⟨#[]⟩).size+1→W'.cell? ⟨B,o+Rw (Qt n) k+i,none⟩=some (.int .u8 ((U0 ((Qt n).getD k ⟨#[]⟩)++[10]).getD i 0))):=fun W' hW' i hi=>by
   have h1:=G0 hkl;rw [HN.out] at h1;have h2:=DJ.out W' hW' (Rw (Qt n) k+i) (by omega);rw [←Xu] at h2;rw [h2];have h3:(XI (Qt n)).getD (Rw (Qt n) k+i) 0=((XI (Qt n)).drop (Rw (Qt n) k)).getD i 0:=by simp [List.getD,Yt]
   rw [h3,Mo hkl,show (10:Int) :: XI ((Qt n).drop (k+1))=[10]++XI ((Qt n).drop (k+1)) from rfl,←ZO]
   congr 2
   rw [List.getD,List.getD,Zy (by rw [ZZ,Wq];exact hi)]
   rfl
  have F5:=ZU (qE hn1 hn k hk);have Zg:((Qt n).getD k ⟨#[]⟩).size≤80:=by
   rw [List.getD,ZF hkl];exact (AU n hn _ (YP hkl)).2
  obtain ⟨s,hs⟩:∃s,s=(Qt n).getD k ⟨#[]⟩:=⟨_,rfl⟩;have HS:=ZU hs;rw [←hs] at kV Zg F5 ⊢;generalize o+Rw (Qt n) k=O at *;have kc:=Lib.run_convert_bytes_const (P:=Tryz.prog) W 22 5 #[.int .u8 10] 1 1 Tryz.underlying22 Tryz.underlying5;have bA:Zi W (W.alloc (.cells #[.int .u8 10] 5 (1,2))):=Yy.alloc YR _;clear hJ hs Zh
  gi_wp2_with fail
  have zW:(W.alloc (.cells #[.int .u8 10] 5 (1,2))).heap.size=W.heap.size+1:=by simp
  have cN:∀i,i<1→(W.alloc (.cells #[.int .u8 10] 5 (1,2))).cell? ⟨W.heap.size,0+i,none⟩=some (.int .u8 (([10]:List Int).getD i 0)):=fun i hi=>by
   have:i=0:=by omega
   subst this;rw [Yz _ W.heap.size (0+0) _ _ _ (Zs W _)]
   rfl
  have JA:=ZU (HJ.out.below bA);have KA:Hid (KeepsFrom (w2.heap.size+3) W (W.alloc (.cells #[.int .u8 10] 5 (1,2)))∧(W.alloc (.cells #[.int .u8 10] 5 (1,2))).heap[w2.heap.size+2]?=W.heap[w2.heap.size+2]?):=⟨Vf bA,bA.block _ (by have:=HJ.out.sz;omega)⟩;have CN:=ZU cN;clear kc bA zW cN HJ;generalize W.alloc _=WA at *;refine ⟨trivial,?_⟩;refine (CallsIn.inRound l (YK.2 (Tryz.bytes_TrimSuffix B O (s.size+1) (s.size+1) W.heap.size 0 1 1 (U0 s++[10]) [10] WA (by rw [ZZ,Wq];rfl) rfl YR (by omega) (kV.out WA JA.out.low) CN.out))).mono ?_;rintro e w7 ⟨rfl,rfl⟩;rw [yT]
  gi_wp2_with fail
  refine ⟨trivial,?_⟩;have GA:=ZU (HG.out.later JA.out.low);have RA:Rd .u8 w7 (.slice (some ⟨B,O,none⟩) s.size (s.size+1)) (bI s):=by
   refine ⟨_,s.size+1,by rw [QT],by rw [QT];omega,by unfold maxLen;omega,.inr ⟨B,O,rfl,ZY hBl JA.out.low.size,fun i hi=>?_⟩⟩;rw [QT] at hi;rw [kV.out w7 JA.out.low i (by omega),List.getD,Zy (by rw [Wq];exact hi)]
   rfl
  refine (CallsIn.inRound l (YK.2 (JE w7 _ s RA (by omega) GA.out.pl GA.out.fm (by omega) F5.out.1 F5.out.2))).mono ?_;rintro e w8 ⟨vo,vn,rfl,o8,n8,b8⟩;obtain ⟨oa,oc,rfl⟩:=o8.slice;obtain ⟨na,nc,rfl⟩:=Own.slice n8;obtain ⟨ln,hln⟩:∃ln,ln=TQ s:=⟨_,rfl⟩;have HL:Hid (TQ ((Qt n).getD k ⟨#[]⟩)=ln):=by show _=_;rw [hln,HS.out]
  rw [←hln] at o8 n8 ⊢;clear hln RA GA;have O8:=ZU o8;have N8:=ZU n8;have B8:=ZU b8;clear o8 n8 b8
  gi_wp2_with fail
  rename_i KK Hq;have bB:Zi w8 (w8.alloc (.cells #[.int .i64 ln.kind,.slice oa ln.ops.length oc,.bool ln.RJ,.string ln.path,.slice na ln.nums.length nc] 43)).drew:=(Yy.alloc YR _).trans ((below_drewN' _ 1).mono (by simp));have XB:Hid (St (w8.alloc (.cells #[.int .i64 ln.kind,.slice oa ln.ops.length oc,.bool ln.RJ,.string ln.path,.slice na ln.nums.length nc] 43)).drew w8.heap.size [.int .i64 ln.kind,.slice oa ln.ops.length oc,.bool ln.RJ,.string ln.path,.slice na ln.nums.length nc]):=(St.new w8 #[.int .i64 ln.kind,.slice oa ln.ops.length oc,.bool ln.RJ,.string ln.path,.slice na ln.nums.length nc] 43).below (below_drewN' _ 1);have REST:Hid (∀(W3:World) (Ze:Option Addr) (Zc Zb:Nat) (X3:List Nat) (u29 u30 u31 u32 u33:Value) (y3:List Int),Hid (y3=XI (Mn S L n k)++U0 (VY S L n k))→JF w κ w2.heap.size S L n (k+1) y3 (.slice Ze Zc Zb) X3 W3→KeepsFrom (w2.heap.size+3) W W3→W3.heap[w2.heap.size+2]?=W.heap[w2.heap.size+2]?→KK { tmps:=#[.slice (some ⟨B,o,none⟩) N cap,.agg #[.int .i64 (S:Int),.int .i64 (L:Int)],undef,.pointer (some ⟨w.heap.size,0,none⟩),.slice none 0 0,.pointer (some ⟨w2.heap.size,0,none⟩),.pointer (some ⟨w2.heap.size+1,0,none⟩),.slice (some ⟨B,O,none⟩) (s.size+1) (s.size+1),.pointer (some ⟨w8.heap.size,0,none⟩),.agg #[.int .i64 (S:Int),.int .i64 (L:Int)],.bool true,.bool false,undef,undef,.slice (some ⟨B,o,none⟩) N cap,.int .i64 (N:Int),.bool false,undef,undef,.agg #[.int .i64 (S:Int),.int .i64 (L:Int)],.pointer (some ⟨κ.sB,0,none⟩),.slice (some ⟨B,o,none⟩) N cap,.func (.func 21) #[] #[.pointer (some ⟨w2.heap.size+2,0,none⟩)],.slice (some ⟨B,O,none⟩) (s.size+1) (s.size+1),.slice (some ⟨B,O,none⟩) (s.size+1) (s.size+1),.slice (some ⟨W.heap.size,0,none⟩) 1 1,.slice (some ⟨W.heap.size,0,none⟩) 1 1,.slice (some ⟨B,O,none⟩) s.size (s.size+1),.agg #[.int .i64 ln.kind,.slice oa ln.ops.length oc,.bool ln.RJ,.string ln.path,.slice na ln.nums.length nc],u29,u30,u31,u32,u33,undef,undef,undef],defers:=[] } W3):=by
   intro W3 Ze Zc Zb X3 u29 u30 u31 u32 u33 y3 H3 j3 k3 i3;have J3:=ZU j3;have K3:Hid (KeepsFrom (w2.heap.size+3) W W3∧W3.heap[w2.heap.size+2]?=W.heap[w2.heap.size+2]?):=⟨k3,i3⟩;have c3:=j3.bx.cell;have hxl:y3.length+(⟨#[10]⟩:ByteArray).size≤1048576:=by
    rw [H3.out];obtain ⟨-,h2⟩:=Kc S L n k;obtain ⟨-,h4,-⟩:=GZ S L n k;rw [ZZ,Wq];have:(⟨#[10]⟩:ByteArray).size=1:=rfl;omega
   have gp:=ZU hxl;clear hxl j3 k3 i3 XB bB JA KA O8 N8 B8;refine Hq _ _ ?_;clear Hq
   gi_wp2_with (gi_at_builtin;go_must (refine OI rfl _ _ rfl (w2.heap.size+3) _ y3 ⟨#[10]⟩ rfl rfl J3.out.ow (by decide) gp.out J3.out.sz ?_))
   intro v4 w4 o4 c4;obtain ⟨y4,hy4⟩:∃y,y=y3++U0 ⟨#[10]⟩:=⟨_,rfl⟩;have H4:=ZU hy4;rw [←hy4] at o4;clear hy4;obtain ⟨a4,l4,rfl⟩:=Own.slice o4;obtain ⟨X4,j4,k4,i4,cc,ff⟩:=J3.out.app HF.out o4 c4;have J4:=ZU j4;have K4:Hid (KeepsFrom (w2.heap.size+3) W3 _∧_=W3.heap[w2.heap.size+2]?):=⟨k4,i4⟩;clear o4 c4 j4 k4 i4 c3;gi_wp2;refine ⟨K3.out.1.trans K4.out.1,K4.out.2.trans K3.out.2,.slice a4 y4.length l4,X4,fun e=>by omega,?_⟩;rw [Eg,←H3.out,←H4.out];exact J4.out
  have J:=ZU ((JA.out.below B8.out).below bB);have ZD:Hid (KeepsFrom (w2.heap.size+3) W _∧(w8.alloc (.cells #[.int .i64 ln.kind,.slice oa ln.ops.length oc,.bool ln.RJ,.string ln.path,.slice na ln.nums.length nc] 43)).drew.heap[w2.heap.size+2]?=W.heap[w2.heap.size+2]?):=⟨KA.out.1.trans ((Vf B8.out).trans (Vf bB)),(bB.block _ (by have:=(JA.out.below B8.out).sz;omega)).trans ((B8.out.block _ (by have:=JA.out.sz;omega)).trans KA.out.2)⟩;have CALL:Hid (Calls Tryz.prog 14 #[.pointer (some ⟨κ.sB,0,none⟩),.agg #[.int .i64 ln.kind,.slice oa ln.ops.length oc,.bool ln.RJ,.string ln.path,.slice na ln.nums.length nc]] (w8.alloc (.cells #[.int .i64 ln.kind,.slice oa ln.ops.length oc,.bool ln.RJ,.string ln.path,.slice na ln.nums.length nc] 43)).drew fun e W'=>e=.returned (.string (VY S L n k))∧JF w κ w2.heap.size S L n (k+1) (XI (Mn S L n k)) va X W'∧KeepsFrom (w2.heap.size+3) W W'∧W'.heap[w2.heap.size+2]?=W.heap[w2.heap.size+2]?):=by
   obtain ⟨σ1,r1,v1⟩:=JA.out.sv;have b10:=WD B8.out bB;have tC:=HF.out.ln;refine (yW (κ:={ κ with X:=X }) (σ:=σ1) ⟨tC.eS,tC.eL,tC.cap,tC.c⟩ (v1.below b10) (jv HG.out J.out.low HF.out.wb) hn r1 hn1 hk (.slice oa ln.ops.length oc) (.slice na ln.nums.length nc) w7 ln HL.out b10 v1 (O8.out.below bB) (N8.out.below bB)).mono ?_;rintro e W' ⟨rfl,g',h'⟩;obtain ⟨j',k',i'⟩:=J.out.line HF.out (by
    by_cases e0:k=0
    · exact .inl (YJ.out e0)
    exact .inr (by have:=(Kc S L n k).1;omega)) g' h'
   exact ⟨rfl,j',ZD.out.1.trans k',i'.trans ZD.out.2⟩
  clear B8 O8 N8 JA KA Hq ZD;have YH:Hid (∀W',JF w κ w2.heap.size S L n (k+1) (XI (Mn S L n k)) va X W'→0<(VY S L n k).size∧(XI (Mn S L n k)).length+(VY S L n k).size≤1048576):=fun W' _=>by
   obtain ⟨-,h2⟩:=Kc S L n k;obtain ⟨h3,h4,-⟩:=GZ S L n k;omega
  have a0:=J.out.bx.cell;have a1:=J.out.sb.cell;have x0:=XB.out.cl 0 _ rfl;have x1:=XB.out.cl 1 _ rfl;have x2:=XB.out.cl 2 _ rfl;have x3:=XB.out.cl 3 _ rfl;have x4:=XB.out.cl 4 _ rfl;clear XB bB J;refine wpIn_region_any (by kernel_rfl) ?_;refine EG l rfl (by kernel_rfl) _ _ _ _ ?_
  change wpAnyIn _ _ _ _ _ _ _ _ _ (w8.alloc (.cells #[.int .i64 ln.kind,.slice oa ln.ops.length oc,.bool ln.RJ,.string ln.path,.slice na ln.nums.length nc] 43)).drew
  generalize (w8.alloc _).drew=Jg at *;refine Ee (R:=fun ZB Q=>∀W',JF w κ w2.heap.size S L n (k+1) (XI (Mn S L n k)) va X W'→KeepsFrom (w2.heap.size+3) W W'→W'.heap[w2.heap.size+2]?=W.heap[w2.heap.size+2]?→wpAnyIn Fence.wide 4 Tryz.prog .any ZB Q 2 #[true,true,true,true,false,false] { tmps:=#[.slice (some ⟨B,o,none⟩) N cap,.agg #[.int .i64 (S:Int),.int .i64 (L:Int)],undef,.pointer (some ⟨w.heap.size,0,none⟩),.slice none 0 0,.pointer (some ⟨w2.heap.size,0,none⟩),.pointer (some ⟨w2.heap.size+1,0,none⟩),.slice (some ⟨B,O,none⟩) (s.size+1) (s.size+1),.pointer (some ⟨w8.heap.size,0,none⟩),.agg #[.int .i64 (S:Int),.int .i64 (L:Int)],.bool true,.bool false,undef,undef,.slice (some ⟨B,o,none⟩) N cap,.int .i64 (N:Int),.bool false,undef,undef,.agg #[.int .i64 (S:Int),.int .i64 (L:Int)],.pointer (some ⟨κ.sB,0,none⟩),.slice (some ⟨B,o,none⟩) N cap,.func (.func 21) #[] #[.pointer (some ⟨w2.heap.size+2,0,none⟩)],.slice (some ⟨B,O,none⟩) (s.size+1) (s.size+1),.slice (some ⟨B,O,none⟩) (s.size+1) (s.size+1),.slice (some ⟨W.heap.size,0,none⟩) 1 1,.slice (some ⟨W.heap.size,0,none⟩) 1 1,.slice (some ⟨B,O,none⟩) s.size (s.size+1),.agg #[.int .i64 ln.kind,.slice oa ln.ops.length oc,.bool ln.RJ,.string ln.path,.slice na ln.nums.length nc],va,.pointer (some ⟨κ.sB,0,none⟩),.agg #[.int .i64 ln.kind,.slice oa ln.ops.length oc,.bool ln.RJ,.string ln.path,.slice na ln.nums.length nc],.string (VY S L n k),undef,undef,undef,undef],defers:=[] } W') ?_ (fun HT=>?_)
  · intro W' j1 k1 i1
    have p1:=YH.out _ j1;refine wpAnyIn_ready (rs:=[4]) (by kernel_rfl) (by simp) ?_;refine AllReadyIn.cons (o:=⟨some 33,_,_,_,_,_⟩) rfl (fun K9 QD=>?_) AllReadyIn.nil;rw [Z0 (by rfl)];refine LP rfl _ _ rfl (w2.heap.size+3) va (XI (Mn S L n k)) (VY S L n k) rfl rfl j1.ow p1.1 p1.2 j1.sz ?_;intro v2 W2 o2 c2;obtain ⟨y2,hy2⟩:∃y,y=XI (Mn S L n k)++U0 (VY S L n k):=⟨_,rfl⟩;have H2:=ZU hy2;rw [←hy2] at o2;clear hy2;obtain ⟨a2,l2,rfl⟩:=Own.slice o2;obtain ⟨X2,j2,k2,i2,cc,ff⟩:=j1.app HF.out o2 c2;refine QD _ _ ?_;refine wpAnyIn_ready (rs:=[5]) (by kernel_rfl) (by simp) ?_;refine AllReadyIn.cons (o:=⟨none,_,_,_,_,_⟩) rfl (fun K9 QD=>?_) AllReadyIn.nil;rw [Z0 (by rfl)];go_simp;refine QD _ _ ?_;exact wpAnyIn_done (by kernel_rfl) (REST.out _ _ _ _ _ _ _ _ _ _ _ H2 j2 (k1.trans k2) (i2.trans i1)) _
  refine Ee (R:=fun ZB Q=>wpAnyIn Fence.wide 4 Tryz.prog .any ZB Q 3 #[true,true,true,false,false,false] { tmps:=#[.slice (some ⟨B,o,none⟩) N cap,.agg #[.int .i64 (S:Int),.int .i64 (L:Int)],undef,.pointer (some ⟨w.heap.size,0,none⟩),.slice none 0 0,.pointer (some ⟨w2.heap.size,0,none⟩),.pointer (some ⟨w2.heap.size+1,0,none⟩),.slice (some ⟨B,O,none⟩) (s.size+1) (s.size+1),.pointer (some ⟨w8.heap.size,0,none⟩),.agg #[.int .i64 (S:Int),.int .i64 (L:Int)],.bool true,.bool false,undef,undef,.slice (some ⟨B,o,none⟩) N cap,.int .i64 (N:Int),.bool false,undef,undef,.agg #[.int .i64 (S:Int),.int .i64 (L:Int)],.pointer (some ⟨κ.sB,0,none⟩),.slice (some ⟨B,o,none⟩) N cap,.func (.func 21) #[] #[.pointer (some ⟨w2.heap.size+2,0,none⟩)],.slice (some ⟨B,O,none⟩) (s.size+1) (s.size+1),.slice (some ⟨B,O,none⟩) (s.size+1) (s.size+1),.slice (some ⟨W.heap.size,0,none⟩) 1 1,.slice (some ⟨W.heap.size,0,none⟩) 1 1,.slice (some ⟨B,O,none⟩) s.size (s.size+1),.agg #[.int .i64 ln.kind,.slice oa ln.ops.length oc,.bool ln.RJ,.string ln.path,.slice na ln.nums.length nc],va,.pointer (some ⟨κ.sB,0,none⟩),.agg #[.int .i64 ln.kind,.slice oa ln.ops.length oc,.bool ln.RJ,.string ln.path,.slice na ln.nums.length nc],undef,undef,undef,undef,undef],defers:=[] } Jg) ?_ (fun HA=>?_)
  · refine wpAnyIn_ready (rs:=[3]) (by kernel_rfl) (by simp) ?_
    refine AllReadyIn.cons (o:=⟨some 32,_,_,_,_,_⟩) rfl (fun K9 QD=>?_) AllReadyIn.nil;rw [Z0 (by rfl)];go_simp;refine ⟨trivial,(YK.2 CALL.out).mono ?_⟩;rintro e W' ⟨rfl,j1,k1,i1⟩;refine QD _ _ ?_;exact HT _ j1 k1 i1
  refine wpAnyIn_ready (rs:=[0,1,2]) (by kernel_rfl) (by simp) ?_;refine AllReadyIn.cons (o:=⟨some 29,_,_,_,_,_⟩) rfl (fun K9 QD=>?_) (AllReadyIn.cons (o:=⟨some 30,_,_,_,_,_⟩) rfl (fun K9 QD=>?_) (AllReadyIn.cons (o:=⟨some 31,_,_,_,_,_⟩) rfl (fun K9 QD=>?_) AllReadyIn.nil))
  · rw [Z0 (by rfl)]
    go_simp;refine QD _ _ ?_;refine wpAnyIn_ready (rs:=[1,2]) (by kernel_rfl) (by simp) ?_;refine AllReadyIn.cons (o:=⟨some 30,_,_,_,_,_⟩) rfl (fun K9 QD=>?_) (AllReadyIn.cons (o:=⟨some 31,_,_,_,_,_⟩) rfl (fun K9 QD=>?_) AllReadyIn.nil)
    · rw [Z0 (by rfl)]
      go_simp;refine QD _ _ ?_;refine wpAnyIn_ready (rs:=[2]) (by kernel_rfl) (by simp) ?_;refine AllReadyIn.cons (o:=⟨some 31,_,_,_,_,_⟩) rfl (fun K9 QD=>?_) AllReadyIn.nil;rw [Z0 (by rfl)];go_simp;refine QD _ _ ?_;exact HA
    rw [Z0 (by rfl)];go_simp;refine QD _ _ ?_;refine wpAnyIn_ready (rs:=[1]) (by kernel_rfl) (by simp) ?_;refine AllReadyIn.cons (o:=⟨some 30,_,_,_,_,_⟩) rfl (fun K9 QD=>?_) AllReadyIn.nil;rw [Z0 (by rfl)];go_simp;refine QD _ _ ?_;exact HA
  · rw [Z0 (by rfl)]
    go_simp;refine QD _ _ ?_;refine wpAnyIn_ready (rs:=[0,2]) (by kernel_rfl) (by simp) ?_;refine AllReadyIn.cons (o:=⟨some 29,_,_,_,_,_⟩) rfl (fun K9 QD=>?_) (AllReadyIn.cons (o:=⟨some 31,_,_,_,_,_⟩) rfl (fun K9 QD=>?_) AllReadyIn.nil)
    · rw [Z0 (by rfl)]
      go_simp;refine QD _ _ ?_;refine wpAnyIn_ready (rs:=[2]) (by kernel_rfl) (by simp) ?_;refine AllReadyIn.cons (o:=⟨some 31,_,_,_,_,_⟩) rfl (fun K9 QD=>?_) AllReadyIn.nil;rw [Z0 (by rfl)];go_simp;refine QD _ _ ?_;exact HA
    rw [Z0 (by rfl)];go_simp;refine QD _ _ ?_;refine wpAnyIn_ready (rs:=[0,3]) (by kernel_rfl) (by simp) ?_;refine AllReadyIn.cons (o:=⟨some 29,_,_,_,_,_⟩) rfl (fun K9 QD=>?_) (AllReadyIn.cons (o:=⟨some 32,_,_,_,_,_⟩) rfl (fun K9 QD=>?_) AllReadyIn.nil)
    · rw [Z0 (by rfl)]
      go_simp;refine QD _ _ ?_;exact HA
    rw [Z0 (by rfl)];go_simp;refine ⟨trivial,(YK.2 CALL.out).mono ?_⟩;rintro e W' ⟨rfl,j1,k1,i1⟩;refine QD _ _ ?_;have a9:=j1.bx.cell;refine wpAnyIn_ready (rs:=[0]) (by kernel_rfl) (by simp) ?_;refine AllReadyIn.cons (o:=⟨some 29,_,_,_,_,_⟩) rfl (fun K9 QD=>?_) AllReadyIn.nil;rw [Z0 (by rfl)];go_simp;refine QD _ _ ?_;exact HT _ j1 k1 i1
  rw [Z0 (by rfl)];go_simp;refine QD _ _ ?_;refine wpAnyIn_ready (rs:=[0,1]) (by kernel_rfl) (by simp) ?_;refine AllReadyIn.cons (o:=⟨some 29,_,_,_,_,_⟩) rfl (fun K9 QD=>?_) (AllReadyIn.cons (o:=⟨some 30,_,_,_,_,_⟩) rfl (fun K9 QD=>?_) AllReadyIn.nil)
  · rw [Z0 (by rfl)]
    go_simp;refine QD _ _ ?_;refine wpAnyIn_ready (rs:=[1]) (by kernel_rfl) (by simp) ?_;refine AllReadyIn.cons (o:=⟨some 30,_,_,_,_,_⟩) rfl (fun K9 QD=>?_) AllReadyIn.nil;rw [Z0 (by rfl)];go_simp;refine QD _ _ ?_;exact HA
  rw [Z0 (by rfl)];go_simp;refine QD _ _ ?_;refine wpAnyIn_ready (rs:=[0,3]) (by kernel_rfl) (by simp) ?_;refine AllReadyIn.cons (o:=⟨some 29,_,_,_,_,_⟩) rfl (fun K9 QD=>?_) (AllReadyIn.cons (o:=⟨some 32,_,_,_,_,_⟩) rfl (fun K9 QD=>?_) AllReadyIn.nil)
  · rw [Z0 (by rfl)]
    go_simp;refine QD _ _ ?_;exact HA
  rw [Z0 (by rfl)];go_simp;refine ⟨trivial,(YK.2 CALL.out).mono ?_⟩;rintro e W' ⟨rfl,j1,k1,i1⟩;refine QD _ _ ?_;have a9:=j1.bx.cell;refine wpAnyIn_ready (rs:=[0]) (by kernel_rfl) (by simp) ?_;refine AllReadyIn.cons (o:=⟨some 29,_,_,_,_,_⟩) rfl (fun K9 QD=>?_) AllReadyIn.nil;rw [Z0 (by rfl)];go_simp;refine QD _ _ ?_;exact HT _ j1 k1 i1
end Go.Proofs.YtpmjnbmkippaiaaGreatDoor
namespace Go.Proofs.YtpmjnbmkippaiaaGreatDoor
open Go.RowKit Go.Shelf
def Cn:Code→Code
 | .seq a _=>a
 | c=>c
theorem pH {w W:World} {H:Act→World→Prop} {g gc f:Nat} {t0 t1 t2 t3 t4 t5 t6 t7 t8 t9 t11 t12 t13 t15 t16 t18 t19 t20 t21 t22 t23 t24 t25 t26 t27 t28 t29 t30 t31 t32 t33 t34 t35 t36 t37 t38 t39 t40 t41 t42 t43 t44 t45 t46 t47 t48 t49 t50 t51 t52 t53 t54 t55 t56 t57 t58 t59 t60 t61 t62 t63 t64 t65 t66 t67 t68 t69 t70 t71 t72 t73 t74 t75 t76 t77 t78 t79 t80 t81 t82 t83 t84 t85 t86 t87 t88 t89 t90 t91 t92 t93 t94 t95 t96 t97 t98 t99 t100 t101 t102 t103 t104 t105 t106 t107 t108 t109 t110 t111 t112 t113 t114 t115 t116 t117 t118 t119 t120 t121 t122 t123 t124 t125 t126 t127 t128 t129 t130 t131 t132 t133 t134 t135 t136 t137 t138 t139 t140 t141 t142 t143 t144 t145 t146 t147 t148 t149 t150 t151 t152 t153 t154 t155 t156 t157 t158 t159 t160 t161 t162 t163 t164 t165 t166 t167 t168 t169 t170 t171 t172 t173 t174 t175 t176 t177 t178 t179 t180 t181 t182:Value} (Z:∀a w',Code.ret.wp Tryz.prog (bodyPost Tryz.prog Tryz.f3 (Wj w (.bool true))) a w'→H a w') (hf:f≤110) (h4:W.cell? ⟨g,114,none⟩=some (.string (tl wL [f+1]))) (hb:Zi w W) :
    (Cn (QL 44 80 (Ms Tryz.f3))).wp Tryz.prog (Exit.then H (bodyPost Tryz.prog Tryz.f3 (Wj w (.bool true)))) { tmps:=#[t0,t1,t2,t3,t4,t5,t6,t7,t8,t9,.slice (some ⟨g,0,none⟩) 116 gc,t11,t12,t13,.int .i64 (f:Int),t15,t16,.string (tl wQ [f+2]),t18,t19,t20,t21,t22,t23,t24,t25,t26,t27,t28,t29,t30,t31,t32,t33,t34,t35,t36,t37,t38,t39,t40,t41,t42,t43,t44,t45,t46,t47,t48,t49,t50,t51,t52,t53,t54,t55,t56,t57,t58,t59,t60,t61,t62,t63,t64,t65,t66,t67,t68,t69,t70,t71,t72,t73,t74,t75,t76,t77,t78,t79,t80,t81,t82,t83,t84,t85,t86,t87,t88,t89,t90,t91,t92,t93,t94,t95,t96,t97,t98,t99,t100,t101,t102,t103,t104,t105,t106,t107,t108,t109,t110,t111,t112,t113,t114,t115,t116,t117,t118,t119,t120,t121,t122,t123,t124,t125,t126,t127,t128,t129,t130,t131,t132,t133,t134,t135,t136,t137,t138,t139,t140,t141,t142,t143,t144,t145,t146,t147,t148,t149,t150,t151,t152,t153,t154,t155,t156,t157,t158,t159,t160,t161,t162,t163,t164,t165,t166,t167,t168,t169,t170,t171,t172,t173,t174,t175,t176,t177,t178,t179,t180,t181,t182],defers:=[] } W:=by
 have hk4:=ZG W _ h4;obtain ⟨a4,ZA⟩:∃a,a=tl wL [f+1]:=⟨_,rfl⟩;obtain ⟨a5,Zz⟩:∃a,a=tl wQ [f+2]:=⟨_,rfl⟩;rw [←ZA] at h4;rw [←Zz];have A4:=ZU ZA;have A5:=ZU Zz;have B0:Zi w W.drew:=hb.trans ((below_drewN' W 1).mono hb.size);have h4':W.drew.cell? ⟨g,114,none⟩=some (.string a4):=h4;have G:=ZU Z;have hw0:IntKind.i64.wrap 114=114:=by rw [Zq];rfl
 have hw1:IntKind.i64.wrap (1+(f:Int))=1+(f:Int):=by rw [Zq];omega
 have hw2:IntKind.i64.wrap (2+(f:Int))=2+(f:Int):=by rw [Zq];omega
 clear ZA Zz hb h4 Z
 conv in (Cn _)=>simp only [Ms,Tryz.f3,QL,Cn,Nat.reduceBEq]
 refine ZX (S:=fun W'=>W'.cell? ⟨g,114,none⟩=some (.string a4)∧Zi w W') (by kernel_rfl) ⟨h4',B0⟩ (fun Z9=>?_);generalize W.drew=w1 at *;refine PL (i:=0) (oi:=⟨some 164,_,_,_,_,_⟩) (v:=?v1) rfl (by kernel_rfl) (fun _ _ _ h=>h) (Or.inl ⟨by rfl,?hy1⟩) Z9 ?E
 case hy1 =>
  intro w9 ZQ;have e9:=ZQ.1;clear ZQ;go_simp
  try with_reducible rfl
 refine PL (i:=1) (oi:=⟨some 165,_,_,_,_,_⟩) (v:=?v2) rfl (by kernel_rfl) (fun _ _ _ h=>h) (Or.inl ⟨by rfl,?hy2⟩) Z9 ?pL
 case hy2 =>
  intro w9 ZQ;have e9:=ZQ.1;clear ZQ;go_simp
  try with_reducible rfl
 refine PL (i:=2) (oi:=⟨some 166,_,_,_,_,_⟩) (v:=?v3) rfl (by kernel_rfl) (fun _ _ _ h=>h) (Or.inl ⟨by rfl,?hy3⟩) Z9 ?A
 case hy3 =>
  intro w9 ZQ;have e9:=ZQ.1;clear ZQ;go_simp
  try with_reducible rfl
 refine PL (i:=3) (oi:=⟨some 167,_,_,_,_,_⟩) (v:=?v4) rfl (by kernel_rfl) (fun _ _ _ h=>h) (Or.inl ⟨by rfl,?hy4⟩) Z9 ?d
 case hy4 =>
  intro w9 ZQ;have e9:=ZQ.1;clear ZQ;go_simp
  try with_reducible rfl
 refine PL (i:=4) (oi:=⟨some 168,_,_,_,_,_⟩) (v:=?v5) rfl (by kernel_rfl) (fun _ _ _ h=>h) (Or.inl ⟨by rfl,?DH⟩) Z9 ?pK
 case DH =>
  intro w9 ZQ;have e9:=ZQ.1;clear ZQ;go_simp
  try with_reducible rfl
 refine PL (i:=5) (oi:=⟨some 169,_,_,_,_,_⟩) (v:=?v6) rfl (by kernel_rfl) (fun _ _ _ h=>h) (Or.inl ⟨by rfl,?rP⟩) Z9 ?Z'
 case rP =>
  intro w9 ZQ;have e9:=ZQ.1;clear ZQ;go_simp
  try with_reducible rfl
 refine PL (i:=6) (oi:=⟨some 170,_,_,_,_,_⟩) (v:=?v7) rfl (by kernel_rfl) (fun _ _ _ h=>h) (Or.inl ⟨by rfl,?rO⟩) Z9 ?Z2
 case rO =>
  intro w9 ZQ;have e9:=ZQ.1;clear ZQ;go_simp
  try with_reducible rfl
 refine PL (i:=7) (oi:=⟨some 171,_,_,_,_,_⟩) (v:=?v8) rfl (by kernel_rfl) (fun _ _ _ h=>h) (Or.inl ⟨by rfl,?ru⟩) Z9 ?ZV
 case ru =>
  intro w9 ZQ;have e9:=ZQ.1;clear ZQ;go_simp
  try with_reducible rfl
 refine YS 8 rfl (by kernel_rfl) (fun K hK=>?_);have N9:Zi w1 (w1.alloc (.cells #[.int .i64 (1+(f:Int))] 2)):=Yy.alloc YR _;have C9:Hid ((w1.alloc (.cells #[.int .i64 (1+(f:Int))] 2)).cell? ⟨w1.heap.size,0,none⟩=some (.int .i64 ((f+1:Nat):Int))):=by
  show _=_;rw [Yz _ w1.heap.size 0 _ _ _ (Zs w1 _),show ((f+1:Nat):Int)=1+(f:Int) by omega]
  rfl
 go_simp;have hH2:(w1.alloc (.cells #[.int .i64 (1+(f:Int))] 2)).cell? ⟨g,114,none⟩=some (.string a4)∧Zi w (w1.alloc (.cells #[.int .i64 (1+(f:Int))] 2)):=⟨(N9.cell (ZG w1 _ Z9.1)).trans Z9.1,Z9.2.trans (N9.mono Z9.2.size)⟩;refine hK.out _ _ hH2 (fun YA=>?_);clear hK K YA N9 Z9;have Z9:=hH2;clear hH2;have S9:=ZU (Mq _ wL _ 0 1 (f+1) C9.out (by omega) (by decide));clear C9;generalize w1.alloc _=w2 at *;refine YS 9 rfl (by kernel_rfl) (fun K hK=>?_);go_simp;refine S9.out.mono ?_;rintro e w3 ⟨rfl,b3⟩;rw [show tl wL [f+1]=a4 from A4.out.symm];have hH2:w3.cell? ⟨g,114,none⟩=some (.string a4)∧Zi w w3:=⟨(b3.cell (ZG w2 _ Z9.1)).trans Z9.1,Z9.2.trans (b3.mono Z9.2.size)⟩;refine hK.out _ _ hH2 (fun YA=>?_);clear hK K YA b3 Z9 S9;have Z9:=hH2;clear hH2;generalize w3=w1 at *;refine PL (i:=10) (oi:=⟨some 174,_,_,_,_,_⟩) (v:=?v9) rfl (by kernel_rfl) (fun _ _ _ h=>h) (Or.inl ⟨by rfl,?ny⟩) Z9 ?ZP
 case ny =>
  intro w9 ZQ;have e9:=ZQ.1;clear ZQ;go_simp
  try with_reducible rfl
 refine PL (i:=11) (oi:=⟨some 175,_,_,_,_,_⟩) (v:=?v10) rfl (by kernel_rfl) (fun _ _ _ h=>h) (Or.inl ⟨by rfl,?Dc⟩) Z9 ?I
 case Dc =>
  intro w9 ZQ;have e9:=ZQ.1;clear ZQ;go_simp
  try with_reducible rfl
 refine PL (i:=12) (oi:=⟨some 176,_,_,_,_,_⟩) (v:=?v11) rfl (by kernel_rfl) (fun _ _ _ h=>h) (Or.inl ⟨by rfl,?Ks⟩) Z9 ?Y5
 case Ks =>
  intro w9 ZQ;have e9:=ZQ.1;clear ZQ;go_simp
  try with_reducible rfl
 refine PL (i:=13) (oi:=⟨some 177,_,_,_,_,_⟩) (v:=?v12) rfl (by kernel_rfl) (fun _ _ _ h=>h) (Or.inl ⟨by rfl,?Dd⟩) Z9 ?Y2
 case Dd =>
  intro w9 ZQ;have e9:=ZQ.1;clear ZQ;go_simp
  try with_reducible rfl
 refine PL (i:=14) (oi:=⟨some 178,_,_,_,_,_⟩) (v:=?v13) rfl (by kernel_rfl) (fun _ _ _ h=>h) (Or.inl ⟨by rfl,?nH⟩) Z9 ?Y1
 case nH =>
  intro w9 ZQ;have e9:=ZQ.1;clear ZQ;go_simp
  try with_reducible rfl
 refine YS 15 rfl (by kernel_rfl) (fun K hK=>?_);have N9:Zi w1 (w1.alloc (.cells #[.int .i64 (2+(f:Int))] 2)):=Yy.alloc YR _;have C9:Hid ((w1.alloc (.cells #[.int .i64 (2+(f:Int))] 2)).cell? ⟨w1.heap.size,0,none⟩=some (.int .i64 ((f+2:Nat):Int))):=by
  show _=_;rw [Yz _ w1.heap.size 0 _ _ _ (Zs w1 _),show ((f+2:Nat):Int)=2+(f:Int) by omega]
  rfl
 go_simp;have hH2:(w1.alloc (.cells #[.int .i64 (2+(f:Int))] 2)).cell? ⟨g,114,none⟩=some (.string a4)∧Zi w (w1.alloc (.cells #[.int .i64 (2+(f:Int))] 2)):=⟨(N9.cell (ZG w1 _ Z9.1)).trans Z9.1,Z9.2.trans (N9.mono Z9.2.size)⟩;refine hK.out _ _ hH2 (fun YA=>?_);clear hK K YA N9 Z9;have Z9:=hH2;clear hH2;have S9:=ZU (Mq _ wQ _ 0 1 (f+2) C9.out (by omega) (by decide));clear C9;generalize w1.alloc _=w2 at *;refine YS 16 rfl (by kernel_rfl) (fun K hK=>?_);go_simp;refine S9.out.mono ?_;rintro e w3 ⟨rfl,b3⟩;rw [show tl wQ [f+2]=a5 from A5.out.symm];have hH2:w3.cell? ⟨g,114,none⟩=some (.string a4)∧Zi w w3:=⟨(b3.cell (ZG w2 _ Z9.1)).trans Z9.1,Z9.2.trans (b3.mono Z9.2.size)⟩;refine hK.out _ _ hH2 (fun YA=>?_);clear hK K YA b3 Z9 S9;have Z9:=hH2;clear hH2;generalize w3=w1 at *;refine PL (i:=17) (oi:=⟨some 181,_,_,_,_,_⟩) (v:=?v14) rfl (by kernel_rfl) (fun _ _ _ h=>h) (Or.inl ⟨by rfl,?nE⟩) Z9 ?Y0
 case nE =>
  intro w9 ZQ;have e9:=ZQ.1;clear ZQ;go_simp
  try with_reducible rfl
 refine PL (i:=18) (oi:=⟨some 182,_,_,_,_,_⟩) (v:=?v15) rfl (by kernel_rfl) (fun _ _ _ h=>h) (Or.inl ⟨by rfl,?Y'⟩) Z9 ?YY
 case Y' =>
  intro w9 ZQ;have e9:=ZQ.1;clear ZQ;go_simp
  try with_reducible rfl
 refine PL (i:=19) (oi:=⟨some 2,_,_,_,_,_⟩) (v:=?v16) rfl (by kernel_rfl) (fun _ _ _ h=>h) (Or.inl ⟨by rfl,?nx⟩) Z9 ?YX
 case nx =>
  intro w9 ZQ;have e9:=ZQ.1;clear ZQ;go_simp
  try with_reducible rfl
 refine ZR (by kernel_rfl) (G.out _ _ ?_) _
 try simp only [Act.put,WV,WU,WT]
 have FIN:=ZU Z9.2;clear Z9 G;go_wp2;go_ret;exact ⟨rfl,FIN.out⟩
theorem ud {S L n:Nat} (h:Xv n≤L*64) :
    (47+n≤S*64→VY S L n 114=tl wL [VZ L n+1]∧VY S L n 115=tl wQ [VZ L n+2]) ∧
    (¬47+n≤S*64→VY S L n 114=wU∧VY S L n 115=if 110<VC L n then tl wQ [VZ L n+2] else tl wE [8]):=by
 constructor
 · intro h1
   constructor
   · unfold VY;rw [Z0 h];show (if 47+n≤S*64 then _ else _)=_;rw [Z0 h1]
   unfold VY;rw [Z0 h];show (if 47+n≤S*64∨110<VC L n then _ else _)=_;rw [Z0 (.inl h1)]
 intro h1
 constructor
 · unfold VY;rw [Z0 h];show (if 47+n≤S*64 then _ else _)=_;rw [Z1 h1]
 unfold VY;rw [Z0 h];show (if 47+n≤S*64∨110<VC L n then _ else _)=_
 by_cases h2:110<VC L n
 · rw [Z0 (.inr h2),Z0 h2]
 rw [Z1 (by omega),Z1 h2]
theorem pG:tl wE [8]=⟨#[101,114,114,111,114,32,56]⟩:=by decide +kernel
theorem jr:tl wE [2]=⟨#[101,114,114,111,114,32,50]⟩:=by decide +kernel
theorem jq:tl wQ [1]=⟨#[113,117,101,117,101,100,32,49]⟩:=by decide +kernel
theorem jp:tl wF [1,1]=⟨#[102,108,117,115,104,101,100,32,49,32,49]⟩:=by decide +kernel
theorem jo:∀z,z<200→((tl wQ [z]).toList == [101,114,114,111,114,32,56])=false:=by decide +kernel
theorem jn {w W:World} {CB g gc S L n:Nat} {t0 t1 t2 t5 t6 t7 t8 t9 t11 t12 t13 t15 t16 t17 t18 t19 t20 t21 t22 t23 t24 t25 t26 t27 t28 t29 t30 t31 t32 t33 t34 t35 t36 t37 t38 t39 t40 t41 t42 t43 t44 t45 t46 t47 t48 t49 t50 t51 t52 t53 t54 t55 t56 t57 t58 t59 t60 t61 t62 t63 t64 t65 t66 t67 t68 t69 t70 t71 t72 t73 t74 t75 t76 t77 t78 t79 t80 t81 t82 t83 t84 t85 t86 t87 t88 t89 t90 t91 t92 t93 t94 t95 t96 t97 t98 t99 t100 t101 t102 t103 t104 t105 t106 t107 t108 t109 t110 t111 t112 t113 t114 t115 t116 t117 t118 t119 t120 t121 t122 t123 t124 t125 t126 t127 t128 t129 t130 t131 t132 t133 t134 t135 t136 t137 t138 t139 t140 t141 t142 t143 t144 t145 t146 t147 t148 t149 t150 t151 t152 t153 t154 t155 t156 t157 t158 t159 t160 t161 t162 t163 t164 t165 t166 t167 t168 t169 t170 t171 t172 t173 t174 t175 t176 t177 t178 t179 t180 t181 t182:Value} (hn:n≤64) (hS:1≤S∧S≤64) (hL:1≤L∧L≤64) (hm:Xv n≤L*64) (cS:W.cell? ⟨CB,0,none⟩=some (.int .i64 (S:Int))) (h4:W.cell? ⟨g,114,none⟩=some (.string (VY S L n 114))) (h5:W.cell? ⟨g,115,none⟩=some (.string (VY S L n 115))) (hb:Zi w W) :
    (QL 39 80 (Ms Tryz.f3)).wp Tryz.prog (bodyPost Tryz.prog Tryz.f3 (Wj w (.bool true))) { tmps:=#[t0,t1,t2,.pointer (some ⟨CB,0,none⟩),.int .i64 (n:Int),t5,t6,t7,t8,t9,.slice (some ⟨g,0,none⟩) 116 gc,t11,t12,t13,.int .i64 (VC L n:Int),t15,t16,t17,t18,t19,t20,t21,t22,t23,t24,t25,t26,t27,t28,t29,t30,t31,t32,t33,t34,t35,t36,t37,t38,t39,t40,t41,t42,t43,t44,t45,t46,t47,t48,t49,t50,t51,t52,t53,t54,t55,t56,t57,t58,t59,t60,t61,t62,t63,t64,t65,t66,t67,t68,t69,t70,t71,t72,t73,t74,t75,t76,t77,t78,t79,t80,t81,t82,t83,t84,t85,t86,t87,t88,t89,t90,t91,t92,t93,t94,t95,t96,t97,t98,t99,t100,t101,t102,t103,t104,t105,t106,t107,t108,t109,t110,t111,t112,t113,t114,t115,t116,t117,t118,t119,t120,t121,t122,t123,t124,t125,t126,t127,t128,t129,t130,t131,t132,t133,t134,t135,t136,t137,t138,t139,t140,t141,t142,t143,t144,t145,t146,t147,t148,t149,t150,t151,t152,t153,t154,t155,t156,t157,t158,t159,t160,t161,t162,t163,t164,t165,t166,t167,t168,t169,t170,t171,t172,t173,t174,t175,t176,t177,t178,t179,t180,t181,t182],defers:=[] } W:=by
 obtain ⟨l1,l2⟩:=ud (S:=S) hm;have ht:VZ L n≤110:=VV _ _;have hft:VZ L n=min 110 (VC L n):=rfl;have YG:VC L n≤4096:=by unfold VC;exact ZJ (Uk _ _) (by omega)
 have hk4:=ZG W _ h4;have HB:=ZU hb;have Yn:IntKind.i64.wrap ((S:Int)*64)=(S:Int)*64:=by rw [Zq];omega
 clear hb
 conv in (QL _ _ _)=>simp only [Ms,Tryz.f3,QL,Nat.reduceBEq]
 by_cases hc:47+n≤S*64
 · obtain ⟨e4,e5⟩:=l1 hc
   rw [e4] at h4;rw [e5] at h5;have hcI:¬(S:Int)*64<47+(n:Int):=by omega
   clear l1 l2 e4 e5 hm
   by_cases hf:110<VC L n
   · have mR:(110:Int)<(VC L n:Int):=by omega
     have e9:VZ L n=110:=by omega
     rw [e9] at h4 h5;clear hft ht e9;have H4:=ZU h4;clear h4
     go_wp2_with fail
     rename_i H Z;exact pH (f:=110) Z (by omega) H4.out HB.out
   have mR:¬(110:Int)<(VC L n:Int):=by omega
   have e9:VZ L n=VC L n:=by omega
   rw [e9] at h4 h5;clear hft ht e9;have H4:=ZU h4;clear h4
   go_wp2_with fail
   rename_i H Z;exact pH (f:=VC L n) Z (by omega) H4.out HB.out
 obtain ⟨e4,e5⟩:=l2 hc;rw [e4] at h4;rw [e5] at h5;have hcI:(S:Int)*64<47+(n:Int):=by omega
 have hU:(wU.toList == [115,110,97,112,102,117,108,108])=true:=by decide +kernel
 clear l1 l2 e4 e5 hm hft;generalize wU=u at *
 by_cases hf:110<VC L n
 · rw [Z0 hf] at h5
   have mR:¬(VC L n:Int)≤110:=by omega
   have hE:=jo (VZ L n+2) (by omega);generalize tl wQ [VZ L n+2]=a5 at *;go_wp2;go_ret;exact ⟨rfl,HB.out⟩
 rw [Z1 hf] at h5;have mR:(VC L n:Int)≤110:=by omega
 have hE:((tl wE [8]).toList == [101,114,114,111,114,32,56])=true:=by decide +kernel
 generalize tl wE [8]=a5 at *;go_wp2;go_ret;exact ⟨rfl,HB.out⟩
theorem jm {w W:World} {CB g gc lc S L n:Nat} {la:Option Addr} {t0 t1 t2 t5 t6 t7 t9 t11 t12 t13 t14 t15 t16 t17 t18 t19 t20 t21 t22 t23 t24 t25 t26 t27 t28 t29 t30 t31 t32 t33 t34 t35 t36 t37 t38 t39 t40 t41 t42 t43 t44 t45 t46 t47 t48 t49 t50 t51 t52 t53 t54 t55 t56 t57 t58 t59 t60 t61 t62 t63 t64 t65 t66 t67 t68 t69 t70 t71 t72 t73 t74 t75 t76 t77 t78 t79 t80 t81 t82 t83 t84 t85 t86 t87 t88 t89 t90 t91 t92 t93 t94 t95 t96 t97 t98 t99 t100 t101 t102 t103 t104 t105 t106 t107 t108 t109 t110 t111 t112 t113 t114 t115 t116 t117 t118 t119 t120 t121 t122 t123 t124 t125 t126 t127 t128 t129 t130 t131 t132 t133 t134 t135 t136 t137 t138 t139 t140 t141 t142 t143 t144 t145 t146 t147 t148 t149 t150 t151 t152 t153 t154 t155 t156 t157 t158 t159 t160 t161 t162 t163 t164 t165 t166 t167 t168 t169 t170 t171 t172 t173 t174 t175 t176 t177 t178 t179 t180 t181 t182:Value} (hn:n≤64) (hS:1≤S∧S≤64) (hL:1≤L∧L≤64) (cS:W.cell? ⟨CB,0,none⟩=some (.int .i64 (S:Int))) (cL:W.cell? ⟨CB,1,none⟩=some (.int .i64 (L:Int))) (hg:∀i,i<116→W.cell? ⟨g,i,none⟩=some (.string (VY S L n i))) (hb:Zi w W) :
    (QL 21 80 (Ms Tryz.f3)).wp Tryz.prog (bodyPost Tryz.prog Tryz.f3 (Wj w (.bool true))) { tmps:=#[t0,t1,t2,.pointer (some ⟨CB,0,none⟩),.int .i64 (n:Int),t5,t6,t7,.slice la 116 lc,t9,.slice (some ⟨g,0,none⟩) 116 gc,t11,t12,t13,t14,t15,t16,t17,t18,t19,t20,t21,t22,t23,t24,t25,t26,t27,t28,t29,t30,t31,t32,t33,t34,t35,t36,t37,t38,t39,t40,t41,t42,t43,t44,t45,t46,t47,t48,t49,t50,t51,t52,t53,t54,t55,t56,t57,t58,t59,t60,t61,t62,t63,t64,t65,t66,t67,t68,t69,t70,t71,t72,t73,t74,t75,t76,t77,t78,t79,t80,t81,t82,t83,t84,t85,t86,t87,t88,t89,t90,t91,t92,t93,t94,t95,t96,t97,t98,t99,t100,t101,t102,t103,t104,t105,t106,t107,t108,t109,t110,t111,t112,t113,t114,t115,t116,t117,t118,t119,t120,t121,t122,t123,t124,t125,t126,t127,t128,t129,t130,t131,t132,t133,t134,t135,t136,t137,t138,t139,t140,t141,t142,t143,t144,t145,t146,t147,t148,t149,t150,t151,t152,t153,t154,t155,t156,t157,t158,t159,t160,t161,t162,t163,t164,t165,t166,t167,t168,t169,t170,t171,t172,t173,t174,t175,t176,t177,t178,t179,t180,t181,t182],defers:=[] } W:=by
 have Yk:IntKind.i64.wrap ((L:Int)*64)=(L:Int)*64:=by rw [Zq];omega
 have HG:=ZU hg;have HB:=ZU hb;have CS:=ZU cS;have h0:=hg 0 (by omega);have h1:=hg 1 (by omega);have h2:=hg 2 (by omega);clear hg hb cS
 conv in (QL _ _ _)=>simp only [Ms,Tryz.f3,QL,Nat.reduceBEq]
 go_upto_region 26 with fail
 have e1:(2+(8*(55+(n:Int))+6) / 7)=(Xv n:Int):=by unfold Xv;omega
 have e2:(2+(8*(31+(n:Int))+6) / 7)=(Xh n:Int):=by unfold Xh;omega
 rw [e1,e2];clear e1 e2;have hmb:Xv n≤139:=by unfold Xv;omega
 have YE:2≤Xh n∧Xh n≤111:=by unfold Xh;omega
 by_cases hm:Xv n≤L*64
 · have iI:¬(L:Int)*64<(Xv n:Int):=by omega
   have a0:VY S L n 0=tl wQ [1]:=by unfold VY;rw [Z0 hm];rfl
   have a1:VY S L n 1=tl wF [1,1]:=by unfold VY;rw [Z0 hm];rfl
   rw [a0,jq] at h0;rw [a1,jp] at h1;have HM:=ZU hm;have hq:((L:Int)*64 - (Xv n:Int)) / (Xh n:Int)=(VC L n:Int):=by
    unfold VC;rw [show (L:Int)*64 - (Xv n:Int)=((L*64 - Xv n:Nat):Int) by omega,←Int.natCast_ediv]
   have HQ:=ZU hq;have hd0:0≤(L:Int)*64 - (Xv n:Int):=by omega
   have hws:IntKind.i64.wrap ((L:Int)*64 - (Xv n:Int))=(L:Int)*64 - (Xv n:Int):=by rw [Zq];omega
   have Y8:((Xh n:Int) == 0)=false:=VU (by omega);clear a0 a1 hm h2 hq;obtain ⟨md,hmd⟩:∃x,x=Xv n:=⟨_,rfl⟩;obtain ⟨ea,iQ⟩:∃x,x=Xh n:=⟨_,rfl⟩;rw [←hmd] at hmb iI hd0 hws HQ ⊢;rw [←iQ] at YE Y8 HQ ⊢;clear hmd iQ
   go_upto_region 31 with fail
   rw [HQ.out];rename_i KR jl KL Yj;have iP:=ZU jl;have YG:VC L n≤4096:=by unfold VC;exact ZJ (Uk _ _) (by omega)
   have YB:Hid (∀i,i<110→VY S L n (i+2)=if i<VC L n then tl wQ [i+2] else ⟨#[101,114,114,111,114,32,56]⟩):=fun i hi=>by
    unfold VY;rw [Z0 HM.out,Z1 (by omega),Z1 (by omega),Z0 (by omega),←pG]
    rfl
   clear jl HQ h0 h1 cL hws Y8 hd0
   go_wp2_with fail
   go_loopw [15,16] (fun v15 v16 wr=>∃i:Nat,v15=.int .i64 (i:Int)∧i≤110∧Hid (Zi W wr)) (fun v _ _=>110 - (intOf v).toNat)
   case atStart=>exact ⟨0,rfl,by omega,Yy⟩
   case round =>
    obtain ⟨i,rfl,hi,HR⟩:=hrel
    by_cases hlt:i<110
    · have Rj:(i:Int)<110:=by omega
      have hc:=(HR.out.cell (ZG W _ (HG.out (i+2) (by omega)))).trans (HG.out (i+2) (by omega));rw [YB.out i hlt] at hc;have hw2:IntKind.i64.wrap (2+(i:Int))=2+(i:Int):=by rw [Zq];omega
      have hix:0≤2+(i:Int):=by omega
      have Yw:2+(i:Int)<116:=by omega
      have hto:(2+(i:Int)).toNat=i+2:=by omega
      by_cases hf:i<VC L n
      · have mR:(i:Int)<(VC L n:Int):=by omega
        rw [Z0 hf] at hc;have S9:Hid (Calls Tryz.prog 8 #[.string wQ,.slice (some ⟨wr.heap.size,0,none⟩) 1 1] (wr.alloc (.cells #[.int .i64 (2+(i:Int))] 2)) (Wj wr (.string (tl wQ [i+2])))):=by
         have N9:Zi wr (wr.alloc (.cells #[.int .i64 (2+(i:Int))] 2)):=Yy.alloc YR _;refine (Mq _ wQ _ 0 1 (i+2) ?_ (by omega) (by decide)).mono (fun e w' h=>⟨h.1,WD N9 h.2⟩);rw [Yz _ wr.heap.size 0 _ _ _ (Zs wr _),show ((i+2:Nat):Int)=2+(i:Int) by omega]
         rfl
        generalize tl wQ [i+2]=a9 at *;have HC:=ZU hc;clear hc
        go_wp2_with fail
        refine S9.out.mono ?_;rintro e w3 ⟨rfl,b3⟩;have hc:=(b3.cell (ZG wr _ HC.out)).trans HC.out;have R3:=ZU (WD HR.out b3);clear b3 S9 HC
        go_wp2_with fail
        exact ⟨⟨i+1,by go_num,by omega,R3⟩,by simp [intOf];omega⟩
      have mR:¬(i:Int)<(VC L n:Int):=by omega
      rw [Z1 hf] at hc
      go_wp2_with fail
      exact ⟨⟨i+1,by go_num,by omega,HR⟩,by simp [intOf];omega⟩
    have hie:i=110:=by omega
    subst hie
    go_wp2_with fail
    refine iP.out _ _ ?_;have b9:=HR.out;exact jn hn hS hL HM.out ((b9.cell (ZG W _ CS.out)).trans CS.out) ((b9.cell (ZG W _ (HG.out 114 (by omega)))).trans (HG.out 114 (by omega))) ((b9.cell (ZG W _ (HG.out 115 (by omega)))).trans (HG.out 115 (by omega))) (WD HB.out b9)
 have iI:(L:Int)*64<(Xv n:Int):=by omega
 have a0:VY S L n 0=tl wE [8]:=by unfold VY;rw [Z1 hm];rfl
 have a2:VY S L n 2=tl wE [2]:=by unfold VY;rw [Z1 hm];rfl
 rw [a0,pG] at h0;rw [a2,jr] at h2;clear a0 a2 hm h1;generalize Xv n=md at *;generalize Xh n=ea at *;go_wp2;go_ret;exact ⟨rfl,HB.out⟩
end Go.Proofs.YtpmjnbmkippaiaaGreatDoor


