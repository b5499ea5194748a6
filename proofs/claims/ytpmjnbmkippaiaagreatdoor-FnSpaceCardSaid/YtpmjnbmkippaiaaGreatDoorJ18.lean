import Derived.Test.YtpmjnbmkippaiaaGreatDoorJ17
import Derived.Test.YtpmjnbmkippaiaaGreatDoorCards
import Derived.Test.YtpmjnbmkippaiaaGreatDoorTie
import Derived.Lib.LaidIn
import Derived.Lib.LaidTab
import Derived.Lib.ItoaNum
import Derived.LaidHandle
import Derived.LaidSub
import Derived.Stop.LaidErr
import Derived.Shelf.Vars
set_option maxRecDepth 100000
set_option maxHeartbeats 16000000
set_option linter.all false
namespace Go.Proofs.YtpmjnbmkippaiaaGreatDoor
section
open Go.RowKit Go.Shelf
variable {m:Int} {te:TypeId} {pe:Value} {W:World}
theorem qD (i:Nat):xB i++⟨#[120]⟩=xB (i+1):=by
 apply WM;rw [Yd];unfold xB;rw [US,←YT]
theorem qC (n:Nat):((⟨#[115,101,116,32,47,97,32]⟩++xB n)++⟨#[32,45,49]⟩:ByteArray)=Hb n:=by
 apply WM;rw [Yd,Yd];unfold xB Hb UG xL;apply UW
 simp
theorem qB (n:Nat):(⟨#[99,114,101,97,116,101,32,47,97,32]⟩++xB n:ByteArray)=El n:=by
 apply WM;rw [Yd];unfold xB El UG xL;apply UW
 simp
theorem Ul.fJ {w:World} {base:Nat} {v:Value} {xs:List Int} (h:Ul w base v xs):∃g c,v=.slice (some ⟨g,0,none⟩) xs.length c∧Rd .u8 w (.slice (some ⟨g,0,none⟩) xs.length c) xs:=by
 obtain ⟨g,cap,rfl,h1,h2,h3,h4,h5,h6⟩:=h;refine ⟨g,cap,rfl,_,cap,rfl,h3,h4,.inr ⟨g,0,rfl,h2,fun i hi=>?_⟩⟩;refine h5 i _ ?_;rw [Yo,ZF hi,List.getD,ZF hi]
 rfl
theorem tZ (w:World) (v:Value) (S L n:Nat) (hn:n≤64) (hn1:1≤n) (hc:Wp (S:Int) (L:Int)=true) (hG:qL m te pe w) (h:jx w v (Qt n)) :
    Calls Tryz.prog 7 #[v] w fun e w1=>∃v1,e=.returned v1∧Zi w w1∧∀W1,Zi w1 W1 →
     Calls Tryz.prog 6 #[v1,.agg #[.int .i64 (S:Int),.int .i64 (L:Int)]] W1 fun e w2=>∃v2,e=.returned v2∧Zi W1 w2∧∀W2,Zi w2 W2 →
      Calls Tryz.prog 5 #[v2] W2 fun e w3=>∃g c,e=.returned (.slice (some ⟨g,0,none⟩) 116 c)∧Zi W2 w3∧∀i,i<116→w3.cell? ⟨g,i,none⟩=some (.string (VY S L n i)):=by
 have hj:(XI (Qt n)).length≤9396:=by
  have:=GV (Qt n) (fun s hs=>(AU n hn s hs).2);rw [Re] at this;omega
 refine (Cq w v (Qt n) h (by rw [Re];omega) (by omega)).mono ?_;rintro e w1 ⟨v1,rfl,o1,b1⟩;refine ⟨v1,rfl,b1,fun W1 hW1=>?_⟩;obtain ⟨g1,c1,rfl,r1⟩:=o1.fJ;refine (yR W1 g1 0 _ c1 S L n hn hn1 hc (hG.later (WD b1 hW1)) rfl (r1.below hW1)).mono ?_;rintro e w2 ⟨v2,rfl,o2,b2⟩;refine ⟨v2,rfl,b2,fun W2 hW2=>?_⟩;have hs:=Kc S L n 116;have hz:(pO (Mn S L n 116)).size=(XI (Mn S L n 116)).length:=by rw [←QT,ur]
 refine (Ek W2 v2 (pO (Mn S L n 116)) (Mn S L n 116) (by rw [ur];exact (Own.rd o2).below hW2) (by omega) (by omega) (AW _ (mj S L n 116))).mono ?_;rintro e w3 ⟨v3,rfl,o3,b3⟩;obtain ⟨g,c,rfl,-,-,-,-,hcl⟩:=o3.cells (by rw [GY];omega);rw [GY] at hcl;refine ⟨g,c,by rw [GY],b3,fun i hi=>?_⟩;rw [hcl i hi];unfold Yh;rw [ml S L n 116 i hi]
theorem yQ (w:World) (v:Value) (xs:List Int) (h:Rd .u8 w v xs) (hby:Sn xs) (hG:qL m te pe w) :
    Calls Tryz.prog 3 #[v] w (Wj w (.bool true)):=by
 have HR:=ZU h;have HG:=ZU hG;have Lp:=ZU hby
 obtain ⟨ao,cap,rfl,-,-⟩:=h;clear hby hG
 by_cases hbig:1048576<xs.length
 · have ov:(1048576:Int)<(xs.length:Int):=by omega
   go_enter Tryz.func3,Tryz.ntmps3
   go_wp2;go_ret;exact ⟨rfl,Yy⟩
 have ov:¬(1048576:Int)<(xs.length:Int):=by omega
 have HX:Hid (xs.length≤1048576):=by show _≤_;omega
 have HAT:Hid (∀(W:World) (i:Nat),Zi w W→i≤2→Calls Tryz.prog 4 #[.slice ao xs.length cap,.int .i64 (i:Int),.int .i64 64] W fun e w'=>∃r:Nat,e=.returned (.int .i64 (r:Int))∧r<64∧Zi W w'):=fun W i hW hi =>
  (uS W _ xs i 64 (HR.out.below hW) Lp.out (by have:=HX.out;omega) (by omega) (by omega)).mono (fun e w' ⟨h1,q,h3⟩=>⟨_,h1,jW xs i 64 (by omega),by rw [h3];exact below_drewN' W q⟩)
 clear hbig HX HR Lp;generalize xs.length=xl at *;obtain ⟨iq,sd,hq0,sc,rZ⟩:=YN Tryz.xH
 go_enter Tryz.func3,Tryz.ntmps3
 go_wp2_with fail
 refine (HAT.out w 0 Yy (by omega)).mono ?_;rintro e w1 ⟨r0,rfl,hr0,b1⟩;obtain ⟨S,hS0⟩:∃S:Nat,(S:Int)=1+(r0:Int):=⟨1+r0,by omega⟩;have hw0:IntKind.i64.wrap (1+(r0:Int))=1+(r0:Int):=by rw [Zq];omega
 have B1:=ZU b1;have pu:=ZU hS0;clear b1 hS0
 go_wp2_with fail
 refine (HAT.out w1 1 B1.out (by omega)).mono ?_;rintro e w2 ⟨r1,rfl,hr1,b2⟩;obtain ⟨L,hL0⟩:∃L:Nat,(L:Int)=1+(r1:Int):=⟨1+r1,by omega⟩;have hw1:IntKind.i64.wrap (1+(r1:Int))=1+(r1:Int):=by rw [Zq];omega
 have B2:=ZU (WD B1.out b2);have A:=ZU hL0;clear b2 B1 hL0
 go_wp2_with fail
 rw [←pu.out,←A.out];have bA:Zi w2 (w2.alloc (.cells #[.int .i64 (S:Int),.int .i64 (L:Int)] 25)):=Yy.alloc YR _;have XA:=St.new w2 #[.int .i64 (S:Int),.int .i64 (L:Int)] 25;refine (HAT.out _ 2 (WD B2.out bA) (by omega)).mono ?_;rintro e w3 ⟨r2,rfl,hr2,b3⟩;obtain ⟨n,hn0⟩:∃n:Nat,(n:Int)=1+(r2:Int):=⟨1+r2,by omega⟩;have hw2:IntKind.i64.wrap (1+(r2:Int))=(n:Int):=by rw [Zq];omega
 have B3:Hid (Zi w w3):=(WD B2.out bA).trans (b3.mono (WD B2.out bA).size);have X3:=ZU (XA.below b3);have hS:1≤S∧S≤64:=by have:=pu.out;omega
 have hL:1≤L∧L≤64:=by have:=A.out;omega
 have hn:1≤n∧n≤64:=by omega
 have y:Hid (Wp (S:Int) (L:Int)=true):=(Xk _ _).2 ⟨by omega,by omega⟩;clear b3 bA XA B2 hn0 HAT pu A hw0 hw1 hr0 hr1;generalize w2.heap.size=CB at *
 go_wp2_with fail
 clear hw2 hr2;rename_i KR jl;have iP:=ZU jl;clear jl;have X0:Hid (xB 0=⟨#[]⟩):=rfl
 go_loopw [5,6] (fun v5 v6 wr=>∃(i:Nat) (d:ByteArray),v6=.int .i64 (i:Int)∧v5=.string d∧i≤n∧Hid (d=xB i)∧wr=w3) (fun _ v _=>n - (intOf v).toNat)
 case atStart=>exact ⟨0,_,rfl,rfl,Zu _,rfl,rfl⟩
 case round =>
  obtain ⟨i,d,rfl,rfl,hi,HD,hwr⟩:=hrel
  replace hwr:=hwr.symm
  subst hwr;have hds:d.size=i:=by rw [HD.out,Tf]
  have ku:Hid (d.size≤64):=by show _≤_;omega
  by_cases hlt:i<n
  · have Rj:(i:Int)<(n:Int):=by omega
    have HD2:Hid (d++⟨#[120]⟩=xB (i+1)):=by show _=_;rw [HD.out,qD]
    have hdz:d.size≤64:=ku.out;clear hds
    go_wp2_with fail
    exact ⟨⟨i+1,_,by go_num,rfl,by omega,HD2,trivial⟩,by simp [intOf];omega⟩
  have hin:i=n:=by omega
  subst hin;have Rj:¬(i:Int)<(i:Int):=by omega
  clear hds;have hdz:d.size≤64:=ku.out
  go_wp2_with fail
  refine iP.out _ _ ?_
  go_upto_region 12 with fail
  have est:(⟨#[115,101,116,32,47,97,32]⟩++d++⟨#[32,45,49]⟩:ByteArray)=Hb i:=by rw [HD.out];exact qC i
  have f:(⟨#[99,114,101,97,116,101,32,47,97,32]⟩++d:ByteArray)=El i:=by rw [HD.out];exact qB i
  rw [est,f];clear est f;rename_i ZL C ZK ZO;have B:=ZU C;clear C iP;obtain ⟨sl,hsl⟩:∃s,s=Hb i:=⟨_,rfl⟩;obtain ⟨cl,hcl⟩:∃s,s=El i:=⟨_,rfl⟩;rw [←hsl,←hcl];have ol:Hid (Qt i=cl :: NU :: (List.replicate 110 sl++[NU,DX,A0,sl])):=by show _=_;rw [hsl,hcl];rfl
  clear hsl hcl;have O0:Hid (Rq (w3.alloc (.cells #[.string cl,.string ⟨#[102,108,117,115,104]⟩] 9)) w3.heap.size (.slice (some ⟨w3.heap.size,0,none⟩) 2 2) (cl :: NU :: List.replicate 0 sl)):=WX (base:=w3.heap.size) (e:=9) (size:=1) w3 #[.string cl,.string ⟨#[102,108,117,115,104]⟩] 2 YR (by decide) rfl;have B0:Hid (Zi w3 (w3.alloc (.cells #[.string cl,.string ⟨#[102,108,117,115,104]⟩] 9))):=Yy.alloc YR _;generalize w3.alloc _=w4 at *
  go_wp2_with fail
  go_loopw [8,9] (fun v8 v9 wr=>∃(j g co:Nat),v9=.int .i64 (j:Int)∧v8=.slice (some ⟨g,0,none⟩) (j+2) co∧j≤110∧Hid (Rq wr w3.heap.size (.slice (some ⟨g,0,none⟩) (j+2) co) (cl :: NU :: List.replicate j sl))∧Hid (Zi w3 wr)) (fun _ v _=>110 - (intOf v).toNat)
  case atStart=>exact ⟨0,w3.heap.size,2,rfl,rfl,by omega,O0,B0⟩
  case round =>
   obtain ⟨j,g,co,rfl,rfl,hj,HO,HB⟩:=hrel;clear O0 B0;have sB:=HB.out.size;have OR:Hid (wr.ownsRow w3.heap.size 9 1 (.slice (some ⟨g,0,none⟩) (j+2) co) (j+2) ((cl :: NU :: List.replicate j sl).map Value.string)):=by
    have h9:=HO.out;unfold Rq at h9
    rwa [show (cl :: NU :: List.replicate j sl).length=j+2 by simp] at h9
   by_cases hlt2:j<110
   · have ZN:(j:Int)<110:=by omega
     generalize hD:(cl :: NU :: List.replicate j sl).map Value.string=D at OR;have pt:=ZU hD;clear hD HO
     go_wp2_with (at_builtin;go_must (refine wpList_append_lies _ rfl _ _ 26 rfl w3.heap.size 9 iq (.string ByteArray.empty) 1 16 Tryz.underlying26 sd hq0 sc rZ rfl (by decide) _ _ _ rfl (OR.out.alloc _) ⟨wr.heap.size,0,none⟩ 1 1 [.string sl] rfl rfl (XW _ _ _) (by intro u hu;simp at hu;subst hu;rfl) (by decide) ?c3 ?c4 ?c5 _ rfl ?_))
     case c3=>unfold maxLen;omega
     case c4=>omega
     case c5=>first | omega | (simp;omega)
     intro g5 k5 w5 Rb hg5 MJ Nv;have O5:Hid (Rq w5 w3.heap.size (.slice (some ⟨g5,0,none⟩) (j+1+2) k5) (cl :: NU :: List.replicate (j+1) sl)):=by
      have e9:(cl :: NU :: List.replicate (j+1) sl).map Value.string=D++[.string sl]:=by rw [←pt.out,US];simp
      show World.ownsRow _ _ _ _ _ _ _;rw [e9,show (cl :: NU :: List.replicate (j+1) sl).length=j+2+1 by simp,show j+1+2=j+2+1 by omega];exact Rb
     have B5:Hid (Zi w3 w5):=(HB.out.alloc sB _).grown hg5 (by simp;omega) (fun q hq=>(ZT OR.out q hq).1);clear Rb hg5 MJ Nv OR HB
     go_wp2_with fail
     exact ⟨⟨j+1,g5,k5,by go_num,rfl,by omega,O5,B5⟩,by simp [intOf];omega⟩
   have ZW:j=110:=by omega
   subst ZW;clear HO;have pt:Hid ((cl :: NU :: (List.replicate 110 sl++[NU,DX,A0,sl])).map Value.string=(cl :: NU :: List.replicate 110 sl).map Value.string++[.string NU,.string DX,.string A0,.string sl]):=by show _=_;simp
   generalize (cl :: NU :: List.replicate 110 sl).map Value.string=D at OR pt
   go_wp2_with fail
   refine B.out _ _ ?_;clear B
   go_wp2_with (at_builtin;go_must (refine wpList_append_lies _ rfl _ _ 26 rfl w3.heap.size 9 iq (.string ByteArray.empty) 1 16 Tryz.underlying26 sd hq0 sc rZ rfl (by decide) _ _ _ rfl (OR.out.alloc _) ⟨wr.heap.size,0,none⟩ 1 1 [.string ⟨#[102,108,117,115,104]⟩] rfl rfl (XW _ _ _) (by intro u hu;simp at hu;subst hu;rfl) (by decide) ?c3 ?c4 ?c5 _ rfl ?_))
   case c3=>unfold maxLen;omega
   case c4=>omega
   case c5=>first | omega | (simp;omega)
   intro b Z' X Rb hg5 MJ Nv;have V:Hid (Zi w3 X):=(HB.out.alloc sB _).grown hg5 (by simp;omega) (fun q hq=>(ZT OR.out q hq).1);have U:Hid (X.ownsRow w3.heap.size 9 1 (.slice (some ⟨b,0,none⟩) 113 Z') 113 (D++[.string NU])):=Rb;clear Rb hg5 MJ Nv OR HB sB;have HB:=V;have OR:=U;have sB:=HB.out.size;clear V U
   go_wp2_with (at_builtin;go_must (refine wpList_append_lies _ rfl _ _ 26 rfl w3.heap.size 9 iq (.string ByteArray.empty) 1 16 Tryz.underlying26 sd hq0 sc rZ rfl (by decide) _ _ _ rfl (OR.out.alloc _) ⟨X.heap.size,0,none⟩ 1 1 [.string ⟨#[115,110,97,112]⟩] rfl rfl (XW _ _ _) (by intro u hu;simp at hu;subst hu;rfl) (by decide) ?c3 ?c4 ?c5 _ rfl ?_))
   case c3=>unfold maxLen;omega
   case c4=>omega
   case c5=>first | omega | (simp;omega)
   intro Z8 Z7 T Rb hg5 MJ Nv;have R:Hid (Zi w3 T):=(HB.out.alloc sB _).grown hg5 (by simp;omega) (fun q hq=>(ZT OR.out q hq).1);have Q:Hid (T.ownsRow w3.heap.size 9 1 (.slice (some ⟨Z8,0,none⟩) 114 Z7) 114 (D++[.string NU,.string DX])):=Rb;clear Rb hg5 MJ Nv OR HB sB;have HB:=R;have OR:=Q;have sB:=HB.out.size;clear R Q
   go_wp2_with (at_builtin;go_must (refine wpList_append_lies _ rfl _ _ 26 rfl w3.heap.size 9 iq (.string ByteArray.empty) 1 16 Tryz.underlying26 sd hq0 sc rZ rfl (by decide) _ _ _ rfl (OR.out.alloc _) ⟨T.heap.size,0,none⟩ 1 1 [.string ⟨#[115,116,101,112,32,49,48,48,48]⟩] rfl rfl (XW _ _ _) (by intro u hu;simp at hu;subst hu;rfl) (by decide) ?c3 ?c4 ?c5 _ rfl ?_))
   case c3=>unfold maxLen;omega
   case c4=>omega
   case c5=>first | omega | (simp;omega)
   intro Z6 Z5 O Rb hg5 MJ Nv;have N:Hid (Zi w3 O):=(HB.out.alloc sB _).grown hg5 (by simp;omega) (fun q hq=>(ZT OR.out q hq).1);have M:Hid (O.ownsRow w3.heap.size 9 1 (.slice (some ⟨Z6,0,none⟩) 115 Z5) 115 (D++[.string NU,.string DX,.string A0])):=Rb;clear Rb hg5 MJ Nv OR HB sB;have HB:=N;have OR:=M;have sB:=HB.out.size;clear N M
   go_wp2_with (at_builtin;go_must (refine wpList_append_lies _ rfl _ _ 26 rfl w3.heap.size 9 iq (.string ByteArray.empty) 1 16 Tryz.underlying26 sd hq0 sc rZ rfl (by decide) _ _ _ rfl (OR.out.alloc _) ⟨O.heap.size,0,none⟩ 1 1 [.string sl] rfl rfl (XW _ _ _) (by intro u hu;simp at hu;subst hu;rfl) (by decide) ?c3 ?c4 ?c5 _ rfl ?_))
   case c3=>unfold maxLen;omega
   case c4=>omega
   case c5=>first | omega | (simp;omega)
   intro J I Z Rb hg5 MJ Nv;have G:Hid (Zi w3 Z):=(HB.out.alloc sB _).grown hg5 (by simp;omega) (fun q hq=>(ZT OR.out q hq).1);have F:Hid (Z.ownsRow w3.heap.size 9 1 (.slice (some ⟨J,0,none⟩) 116 I) 116 (D++[.string NU,.string DX,.string A0,.string sl])):=Rb;clear Rb hg5 MJ Nv OR HB sB;have HB:=G;have OR:=F;have sB:=HB.out.size;clear G F
   go_wp2_with fail
   rename_i KK Hq;have Z4:jx Z (.slice (some ⟨J,0,none⟩) 116 I) (Qt i):=by
    refine Rq.DL (lo:=w3.heap.size) ?_;show World.ownsRow _ _ _ _ _ _ _;rw [Re,ol.out,pt.out];exact OR.out
   have bD:Zi Z Z.drew:=below_drewN' Z 1;have BW:Hid (Zi w Z.drew):=(WD B3.out HB.out).trans (bD.mono (WD B3.out HB.out).size);have E:=X3.out.lt;have c0:Z.drew.cell? ⟨CB,0,none⟩=some (.int .i64 (S:Int)):=(bD.cell (ZY E sB)).trans ((HB.out.cell E).trans (X3.out.cl 0 _ rfl));have c1:Z.drew.cell? ⟨CB,1,none⟩=some (.int .i64 (L:Int)):=(bD.cell (ZY E sB)).trans ((HB.out.cell E).trans (X3.out.cl 1 _ rfl));have Pu:=ZU (tZ Z.drew _ S L i hn.2 hn.1 y.out (HG.out.later BW.out) (show jx Z.drew (.slice (some ⟨J,0,none⟩) 116 I) (Qt i) by
    obtain ⟨a1,a2,a3,a4,a5,a6⟩:=Z4;exact ⟨a1,a2,a3,a4,a5,a6⟩))
   have HKK:=ZU Hq;clear Hq Z4 bD HB OR sB E X3 B3 pt ol hlt2;refine ZX (S:=fun W'=>W'.cell? ⟨CB,0,none⟩=some (.int .i64 (S:Int))∧W'.cell? ⟨CB,1,none⟩=some (.int .i64 (L:Int))) (by kernel_rfl) ⟨c0,c1⟩ (fun Z9=>?_);generalize Z.drew=u1 at *;clear c0 c1;refine PL (i:=0) (oi:=⟨some 65,_,_,_,_,_⟩) (v:=?v0) rfl (by kernel_rfl) (fun _ _ _ h=>h) (Or.inl ⟨by rfl,?hy0⟩) Z9 ?ZV
   case hy0=>intro w9 ZQ;obtain ⟨e0,e1⟩:=ZQ;go_simp;try with_reducible rfl
   refine PL (i:=2) (oi:=⟨some 67,_,_,_,_,_⟩) (v:=?v2) rfl (by kernel_rfl) (fun _ _ _ h=>h) (Or.inl ⟨by rfl,?hy2⟩) Z9 ?pL
   case hy2=>intro w9 ZQ;obtain ⟨e0,e1⟩:=ZQ;go_simp;try with_reducible rfl
   refine YS 1 rfl (by kernel_rfl) (fun K hK=>?_);go_simp;refine Pu.out.mono ?_;rintro e u2 ⟨v1,rfl,b2,h2⟩;have Y:u2.cell? ⟨CB,0,none⟩=some (.int .i64 (S:Int))∧u2.cell? ⟨CB,1,none⟩=some (.int .i64 (L:Int)):=⟨(b2.cell (ZG u1 _ Z9.1)).trans Z9.1,(b2.cell (ZG u1 _ Z9.2)).trans Z9.2⟩;refine hK.out _ _ Y (fun YA=>?_);have Z3:=ZU (WD BW.out b2);have Z2:=ZU (h2 u2 Yy);clear hK K YA Pu b2 h2 Z9 BW;have Z9:=Y;clear Y;refine YS 3 rfl (by kernel_rfl) (fun K hK=>?_);go_simp;refine Z2.out.mono ?_;rintro e u3 ⟨v2,rfl,b3,h3⟩;have Y:u3.cell? ⟨CB,0,none⟩=some (.int .i64 (S:Int))∧u3.cell? ⟨CB,1,none⟩=some (.int .i64 (L:Int)):=⟨(b3.cell (ZG u2 _ Z9.1)).trans Z9.1,(b3.cell (ZG u2 _ Z9.2)).trans Z9.2⟩;refine hK.out _ _ Y (fun YA=>?_);have Z1:=ZU (WD Z3.out b3);have Z0:=ZU (h3 u3 Yy);clear hK K YA Z2 b3 h3 Z9 Z3;have Z9:=Y;clear Y;refine YS 4 rfl (by kernel_rfl) (fun K hK=>?_);go_simp;refine Z0.out.mono ?_;rintro e u4 ⟨gg,gc,rfl,b4,h4⟩;have Y:u4.cell? ⟨CB,0,none⟩=some (.int .i64 (S:Int))∧u4.cell? ⟨CB,1,none⟩=some (.int .i64 (L:Int)):=⟨(b4.cell (ZG u3 _ Z9.1)).trans Z9.1,(b4.cell (ZG u3 _ Z9.2)).trans Z9.2⟩;refine hK.out _ _ Y (fun YA=>?_);have ZP:=ZU (WD Z1.out b4);have H4:=ZU h4;clear hK K YA Z0 b4 h4 Z9 Z1;have Z9:=Y;clear Y;refine PL (i:=5) (oi:=⟨some 10,_,_,_,_,_⟩) (v:=?v5) rfl (by kernel_rfl) (fun _ _ _ h=>h) (Or.inl ⟨by rfl,?DH⟩) Z9 ?pK
   case DH =>
    intro w9 ZQ;clear ZQ;go_simp
    try with_reducible rfl
   refine ZR (by kernel_rfl) (HKK.out _ _ ?_) _
   try simp only [Act.put,WV,WU,WT]
   exact jm hn.2 hS hL Z9.1 Z9.2 H4.out ZP.out
end
section
open Go.ChangeShapes Go.WideShapes Go.ChangeAt Go.RowKit
variable {m:Int} {te:TypeId} {pe:Value} {W:World}
theorem knob:ownKnob Tryz.prog.godebug=none:=by kernel_rfl
theorem laidOut:laidOutB Tryz.prog=true:=by kernel_rfl
def fI : List (String × DataW Unit) := [("math/bits.deBruijn32tab", Rows.laid_math_bits_deBruijn32tab), ("math/bits.deBruijn64tab", Rows.laid_math_bits_deBruijn64tab), ("internal/strconv.uint64pow10", Rows.laid_internal_strconv_uint64pow10), ("unicode/utf8.acceptRanges", Rows.laid_unicode_utf8_acceptRanges), ("strconv.ErrRange", Rows.laid_strconv_ErrRange), ("strconv.ErrSyntax", Rows.laid_strconv_ErrSyntax), ("loop.example/s01594/impl.crcTable", Rows.laid_loop_example_s01594_impl_crcTable), ("loop.example/s01594/impl.opForms", Rows.laid_loop_example_s01594_impl_opForms), ("unicode/utf8.first", Rows.laid_unicode_utf8_first)]
def Kb : List (String × DataW Unit) := [("math/bits.deBruijn32tab", Rows.laid_math_bits_deBruijn32tab), ("math/bits.deBruijn64tab", Rows.laid_math_bits_deBruijn64tab), ("internal/strconv.uint64pow10", Rows.laid_internal_strconv_uint64pow10), ("unicode/utf8.acceptRanges", Rows.laid_unicode_utf8_acceptRanges), ("errors.errorType", Rows.laid_errors_errorType), ("strconv.ErrRange", Rows.laid_strconv_ErrRange), ("strconv.ErrSyntax", Rows.laid_strconv_ErrSyntax), ("loop.example/s01594/impl.crcTable", Rows.laid_loop_example_s01594_impl_crcTable), ("loop.example/s01594/impl.opForms", Rows.laid_loop_example_s01594_impl_opForms), ("unicode/utf8.first", Rows.laid_unicode_utf8_first)]
theorem MY:(Kb.filter fun x=>x.2.handleName?.isNone)=fI:=by kernel_rfl
theorem AT : (Kb.filter fun x => x.2.handleName?.isSome) = [("errors.errorType", Rows.laid_errors_errorType)] := by kernel_rfl
theorem mh : Tryz.prog.globalNamed "loop.example/s01594/impl.crcTable" = some 0 := by kernel_rfl
theorem Ed:(Tryz.prog.globals[0]?).map (·.type)=some 152:=by kernel_rfl
theorem mg:Tryz.prog.cellsOf 152=16:=by kernel_rfl
theorem cellsE:Tryz.prog.cellsOf 150=1:=by kernel_rfl
def Pe:Array Value:=#[.int .u32 0,.int .u32 274646895,.int .u32 549293790,.int .u32 820201905,.int .u32 1098587580,.int .u32 1361435347,.int .u32 1640403810,.int .u32 1905808397,.int .u32 2197175160,.int .u32 2460548119,.int .u32 2722870694,.int .u32 2987750089,.int .u32 3280807620,.int .u32 3553878443,.int .u32 3811616794,.int .u32 4084100981]
abbrev Cm {H:Type}:DataW H:=.agg [.lit (.int .u32 0),.lit (.int .u32 274646895),.lit (.int .u32 549293790),.lit (.int .u32 820201905),.lit (.int .u32 1098587580),.lit (.int .u32 1361435347),.lit (.int .u32 1640403810),.lit (.int .u32 1905808397),.lit (.int .u32 2197175160),.lit (.int .u32 2460548119),.lit (.int .u32 2722870694),.lit (.int .u32 2987750089),.lit (.int .u32 3280807620),.lit (.int .u32 3553878443),.lit (.int .u32 3811616794),.lit (.int .u32 4084100981)]
theorem L3 {H:Type} (enc:TypeId × Value→H) (W:World) (sp:Nat→Bool):DataW.trod enc Tryz.prog W 0 sp true 3 152 Pe.toList=some (Cm,[]):=by kernel_rfl
theorem tY:∀i,i<16→some (Value.int .u32 (([0,274646895,549293790,820201905,1098587580,1361435347,1640403810,1905808397,2197175160,2460548119,2722870694,2987750089,3280807620,3553878443,3811616794,4084100981]:List Int).getD i 0))=some (.int .u32 ((LS.getD i 0:Nat):Int)):=by
 intro i hi;have:∀i,i<16→([0,274646895,549293790,820201905,1098587580,1361435347,1640403810,1905808397,2197175160,2460548119,2722870694,2987750089,3280807620,3553878443,3811616794,4084100981]:List Int).getD i 0=((LS.getD i 0:Nat):Int):=by decide +kernel
 rw [this i hi]
def gL (P:Program) (n:String):Nat:=(P.globalNamed n).getD 0
def qA (P:Program):Nat:=(World.holding P default ⟨#[],#[],[]⟩).heap.size
def PY (P:Program) (os:Os):World :=
 let w0:=World.holding P os ⟨#[.cells #[.string ⟨#[118,97,108,117,101,32,111,117,116,32,111,102,32,114,97,110,103,101]⟩] 376,.cells #[.string ⟨#[105,110,118,97,108,105,100,32,115,121,110,116,97,120]⟩] 376],#[],[]⟩
 let put (h:Array Obj) (g:Nat) (cs:Array Value):Array Obj:=h.modify g fun
  | .cells _ t frozen=>.cells cs t frozen
  | o=>o
 let h1 := put w0.heap (gL P "unicode/utf8.first") (Go.Pinned.utf8FirstZ.map fun (z : Nat) => Value.int .u8 (z : Int)).toArray
 let h2 := put h1 (gL P "unicode/utf8.acceptRanges") ((([128, 191, 160, 191, 128, 159, 144, 191, 128, 143] : List Int) ++ List.replicate 22 0).map fun (z : Int) => Value.int .u8 z).toArray
 let h3 := put h2 (gL P "math/bits.deBruijn32tab") (([0, 1, 28, 2, 29, 14, 24, 3, 30, 22, 20, 15, 25, 17, 4, 8, 31, 27, 13, 23, 21, 19, 16, 7, 26, 12, 18, 6, 11, 5, 10, 9] : List Int).map fun (z : Int) => Value.int .u8 z).toArray
 let h4 := put h3 (gL P "math/bits.deBruijn64tab") (([0, 1, 56, 2, 57, 49, 28, 3, 61, 58, 42, 50, 38, 29, 17, 4, 62, 47, 59, 36, 45, 43, 51, 22, 53, 39, 33, 30, 24, 18, 12, 5, 63, 55, 48, 27, 60, 41, 37, 16, 46, 35, 44, 21, 52, 32, 23, 11, 54, 26, 40, 15, 34, 20, 31, 10, 25, 14, 19, 9, 13, 8, 7, 6] : List Int).map fun (z : Int) => Value.int .u8 z).toArray
 let h5 := put h4 (gL P "internal/strconv.uint64pow10") (Lib.pow10Tab.map fun (z : Int) => Value.int .u64 z).toArray
 let h6 := put h5 (gL P "strconv.ErrRange") #[.iface 374 (.pointer (some ⟨qA P, 0, none⟩))]
 let h7 := put h6 (gL P "strconv.ErrSyntax") #[.iface 374 (.pointer (some ⟨qA P + 1, 0, none⟩))]
 let h8 := put h7 (gL P "loop.example/s01594/impl.opForms") Fw.toArray
 let h9 := put h8 (gL P "errors.errorType") #[.iface 345 (.agg #[.pointer (some ⟨11, 182, none⟩)])]
 let h10 := put h9 (gL P "loop.example/s01594/impl.crcTable") Pe
 { w0 with heap:=h10 }
theorem yP (os:Os) (args:Array Value):laidMet Tryz.prog fI ((PY Tryz.prog os).forCall (fun _ _=>0) ⟨#[],args,[]⟩).memory :=
 (LaidIn.of_run (l := fI) [gL Tryz.prog "unicode/utf8.first", gL Tryz.prog "unicode/utf8.acceptRanges", gL Tryz.prog "math/bits.deBruijn32tab", gL Tryz.prog "math/bits.deBruijn64tab", gL Tryz.prog "internal/strconv.uint64pow10", gL Tryz.prog "strconv.ErrRange", gL Tryz.prog "strconv.ErrSyntax", gL Tryz.prog "loop.example/s01594/impl.opForms", gL Tryz.prog "loop.example/s01594/impl.crcTable", qA Tryz.prog, qA Tryz.prog + 1] 8 (by kernel_rfl) (by kernel_rfl) (by kernel_rfl) (by kernel_rfl)).met
theorem yO (os:Os) (args:Array Value):laidMetH Tryz.prog Kb ((PY Tryz.prog os).forCall (fun _ _=>0) ⟨#[],args,[]⟩).memory :=
 laidMetH_of_parts (by rw [MY];exact yP os args) (by rw [AT];kernel_rfl)
theorem eJ : Tryz.prog.globalNamed "errors.errorType" = some 5 := by kernel_rfl
theorem eI : (Tryz.prog.cutTypes.find? (·.1 == "internal/reflectlite.rtype")).map (·.2) = some 345 := by kernel_rfl
theorem qz:((List.range Tryz.prog.types.size).filter fun t=>Tryz.prog.rowNamed t [101,114,114,111,114])=[182]:=by kernel_rfl
theorem jk:typeHandle Tryz.prog 182=.pointer (some ⟨11,182,none⟩):=by kernel_rfl
theorem pW:Rows.laid_internal_strconv_uint64pow10=Lib.tabData (H:=Unit) .u64 Lib.pow10Tab:=by kernel_rfl
theorem LO (h:laidMetH Tryz.prog Kb W):W.cell? ⟨5,0,none⟩=some (.iface 345 (.agg #[.pointer (some ⟨11,182,none⟩)])):=by
 have h':=(laidMetH_iff.1 h).2;rw [AT] at h';obtain ⟨name,u,ty,e1,e2,e3,e4,e5⟩:=h' _ (Vk.2 rfl);have en:name=[101,114,114,111,114]:=(Zc e1).symm;subst en;obtain rfl:=Zc (eI.symm.trans e2);have hm:ty ∈ (List.range Tryz.prog.types.size).filter fun t=>Tryz.prog.rowNamed t [101,114,114,111,114]:=List.mem_filter.2 ⟨Yb.2 e3,e4⟩
 rw [qz] at hm;obtain rfl:=Vk.1 hm;rw [jk] at e5
 simpa using Sw eJ e5 0
theorem GU (h : laidMetH Tryz.prog Kb W) : Lib.TabIs Tryz.prog W "internal/strconv.uint64pow10" .u64 Lib.pow10Tab := by
 have h':=(laidMetH_iff.1 h).1;rw [MY] at h'
 have h2 : laidMet Tryz.prog (("internal/strconv.uint64pow10", Rows.laid_internal_strconv_uint64pow10) :: [("unicode/utf8.acceptRanges", Rows.laid_unicode_utf8_acceptRanges), ("strconv.ErrRange", Rows.laid_strconv_ErrRange), ("strconv.ErrSyntax", Rows.laid_strconv_ErrSyntax), ("loop.example/s01594/impl.crcTable", Rows.laid_loop_example_s01594_impl_crcTable), ("loop.example/s01594/impl.opForms", Rows.laid_loop_example_s01594_impl_opForms), ("unicode/utf8.first", Rows.laid_unicode_utf8_first)]) W := laidMet.tail (laidMet.tail h')
 rw [pW] at h2
 exact Lib.tabIs_of_head (g := gL Tryz.prog "internal/strconv.uint64pow10") (t := 340) (e := 273) (n := 20) (by kernel_rfl) (by kernel_rfl) Tryz.underlying340 Tryz.underlying273 (by kernel_rfl) (by kernel_rfl) h2
theorem GT (h:W.ShapedOpen Tryz.prog):∃m,W.cell? ⟨1,0,none⟩=some (.int .i64 m) :=
 cell_of_shapedOpen_int (t:=3) (zero:=#[.int .i64 0]) h (Wm (by kernel_rfl)) (by kernel_rfl) rfl (by kernel_rfl) (by kernel_rfl) Tryz.underlying3
theorem pF : "*" ++ "errors.errorString" = "*errors.errorString" := by decide
theorem jj (u : TypeId) (h : Tryz.prog.typeName? 3 u = some "*errors.errorString") : u = 374 :=
 typeName_ptr_named (nm := "errors.errorString") (by rw [pF]; kernel_rfl) (by kernel_rfl) (by decide) u (by rw [pF]; exact h)
theorem Ec (h:laidMetH Tryz.prog Kb W):∃a,W.cell? ⟨7,0,none⟩=some (.iface 374 (.pointer (some a))):=by
 have h':=(laidMetH_iff.1 h).1;rw [MY] at h'
 have h2 : laidMet Tryz.prog (("strconv.ErrSyntax", Rows.laid_strconv_ErrSyntax) :: [("loop.example/s01594/impl.crcTable", Rows.laid_loop_example_s01594_impl_crcTable), ("loop.example/s01594/impl.opForms", Rows.laid_loop_example_s01594_impl_opForms), ("unicode/utf8.first", Rows.laid_unicode_utf8_first)]) W := laidMet.tail (laidMet.tail (laidMet.tail (laidMet.tail (laidMet.tail h'))))
 have hg : Tryz.prog.globalNamed "strconv.ErrSyntax" = some 7 := by kernel_rfl
 obtain ⟨a1,s1,hv1,-⟩:=laid_sentinel h2 hg (by kernel_rfl) Tryz.underlying182 jj Tryz.underlying374 Tryz.underlying376 rfl rfl Tryz.underlying9 (by kernel_rfl) (by kernel_rfl);exact ⟨a1,by simpa using Sw hg hv1 0⟩
section
variable {H:Type} {enc:TypeId × Value→H} {w:World} {base:Nat} {sp:Nat→Bool} {held:Bool} {fuel:Nat}
theorem QI {cs:List Value} {s:List UInt8} {k:Int} {b1 b2 b3:Bool} {p:List MemPlace} (h:DataW.trod enc Tryz.prog w base sp held fuel 226 cs=some (.agg [.lit (.string s),.lit (.int .i64 k),.lit (.bool b1),.lit (.bool b2),.lit (.bool b3)],p)) :
    cs=[.string (UG s),.int .i64 k,.bool b1,.bool b2,.bool b3]:=by
 obtain ⟨xs,n,-,hx,hl,hlen,hf⟩:=DataW.trod_struct Tryz.underlying226 h;have hl5:cs.length=5:=hl.trans (by kernel_rfl)
 match xs,hlen,cs,hl5 with
 | [y0,y1,y2,y3,y4],_,[c0,c1,c2,c3,c4],_ =>
  have f0:=hf 0 _ rfl;have f1:=hf 1 _ rfl;have f2:=hf 2 _ rfl;have f3:=hf 3 _ rfl;have f4:=hf 4 _ rfl;have e9:Tryz.prog.cellsOf 9=1:=by kernel_rfl
  have e2:Tryz.prog.cellsOf 2=1:=by kernel_rfl
  have e4:Tryz.prog.cellsOf 4=1:=by kernel_rfl
  have u0:DataW.trod enc Tryz.prog w base sp held n 9 (([c0,c1,c2,c3,c4].drop 0).take (Tryz.prog.cellsOf 9))=some y0:=f0;have u1:DataW.trod enc Tryz.prog w base sp held n 2 (([c0,c1,c2,c3,c4].drop 1).take (Tryz.prog.cellsOf 2))=some y1:=f1;have u2:DataW.trod enc Tryz.prog w base sp held n 4 (([c0,c1,c2,c3,c4].drop 2).take (Tryz.prog.cellsOf 4))=some y2:=f2;have u3:DataW.trod enc Tryz.prog w base sp held n 4 (([c0,c1,c2,c3,c4].drop 3).take (Tryz.prog.cellsOf 4))=some y3:=f3;have u4:DataW.trod enc Tryz.prog w base sp held n 4 (([c0,c1,c2,c3,c4].drop 4).take (Tryz.prog.cellsOf 4))=some y4:=f4;clear f0 f1 f2 f3 f4;rw [e9] at u0;rw [e2] at u1;rw [e4] at u2 u3 u4
  simp only [XR,Ur,List.take_succ_cons,WI] at u0 u1 u2 u3 u4
  obtain ⟨s0,g0,rfl,-⟩:=DataW.trod_string Tryz.underlying9 u0;obtain ⟨n1,g1,rfl,-⟩:=DataW.trod_int Tryz.underlying2 u1;obtain ⟨z2,g2,rfl⟩:=SI Tryz.underlying4 u2;obtain ⟨z3,g3,rfl⟩:=SI Tryz.underlying4 u3;obtain ⟨z4,g4,rfl⟩:=SI Tryz.underlying4 u4
  simp at g0 g1 g2 g3 g4 hx
  obtain ⟨⟨h0,h1,h2,h3,h4⟩,-⟩:=hx;subst g0 g1 g2 g3 g4 h1 h2 h3 h4;rw [h0,Ny]
end
theorem qy {l:List Value} (h:l.length=25):l=(l.drop 0).take 5++((l.drop 5).take 5++((l.drop 10).take 5++((l.drop 15).take 5++(l.drop 20).take 5))):=by
 have e:∀n,(l.drop n).take 5++l.drop (n+5)=l.drop n:=fun n=>by rw [←Yc];exact YQ 5 _
 have z:(l.drop 20).take 5=l.drop 20:=Y8 (by rw [ZS];omega);rw [z,e 15,e 10,e 5,e 0,XR]
theorem IT (h : laidMetH Tryz.prog Kb W) : W.var? Tryz.prog "loop.example/s01594/impl.opForms" = some Fw.toArray := by
 have h':=(laidMetH_iff.1 h).1;rw [MY] at h'
 have h2 : laidMet Tryz.prog (("loop.example/s01594/impl.opForms", Rows.laid_loop_example_s01594_impl_opForms) :: [("unicode/utf8.first", Rows.laid_unicode_utf8_first)]) W := laidMet.tail (laidMet.tail (laidMet.tail (laidMet.tail (laidMet.tail (laidMet.tail (laidMet.tail h'))))))
 have hg : Tryz.prog.globalNamed "loop.example/s01594/impl.opForms" = some 2 := by kernel_rfl
 have hty:(Tryz.prog.globals[2]?).map (·.type)=some 269:=by kernel_rfl
 obtain ⟨ps,⟨g',t',cs,fuel,p,q,hg',ht',hvar,hd,-,-⟩,-⟩:=h2;obtain rfl:=Zc (hg.symm.trans hg');obtain rfl:=Zc (hty.symm.trans ht');obtain ⟨xs,m,-,hx,hl,hlen,hf⟩:=DataW.trod_array Tryz.underlying269 hd;have ZZ:cs.toList.length=25:=hl.trans (by kernel_rfl);have e5:Tryz.prog.cellsOf 226=5:=by kernel_rfl
 have hcs:cs.toList=Fw:=by
  match xs,hlen with
  | [y0,y1,y2,y3,y4],_ =>
   have f0:=hf 0 (by omega);have f1:=hf 1 (by omega);have f2:=hf 2 (by omega);have f3:=hf 3 (by omega);have f4:=hf 4 (by omega)
   simp only [e5,List.getElem?_cons_zero,Xr] at f0 f1 f2 f3 f4
   have hx1:=ZM Prod.fst hx;unfold Rows.laid_loop_example_s01594_impl_opForms at hx1
   simp at hx1
   obtain ⟨h0,h1,h2,h3,h4⟩:=hx1;obtain ⟨a0,b0⟩:=y0;obtain ⟨a1,b1⟩:=y1;obtain ⟨a2,b2⟩:=y2;obtain ⟨a3,b3⟩:=y3;obtain ⟨a4,b4⟩:=y4
   simp only at h0 h1 h2 h3 h4
   subst h0 h1 h2 h3 h4;have g0:=QI f0;have g1:=QI f1;have g2:=QI f2;have g3:=QI f3;have g4:=QI f4;rw [qy ZZ]
   simp only [Xg,Uw,show 2*5=10 from rfl,show 3*5=15 from rfl,show 4*5=20 from rfl] at g0 g1 g2 g3 g4
   rw [g0,g1,g2,g3,g4]
   rfl
 rw [hvar,←hcs]
theorem tX : Tryz.prog.globalNamed "loop.example/s01594/impl.opForms" = some 2 := by kernel_rfl
theorem Cl:(Tryz.prog.globals[2]?).map (·.type)=some 269:=by kernel_rfl
theorem L2 {H:Type} (enc:TypeId × Value→H) (W:World) (sp:Nat→Bool):DataW.trod enc Tryz.prog W 0 sp true 4 269 Fw.toArray.toList=some (Rows.laid_loop_example_s01594_impl_opForms,[]):=by kernel_rfl
theorem JD (h:laidMetH Tryz.prog Kb W):tT W:=by
 have hcell:=fun i=>Sw tX (IT h) i
 have hc0:=hcell 0;rw [show Fw.toArray[0]?=some (Fw.getD 0 undef) from rfl] at hc0;refine ⟨ZG W _ hc0,fun j v hv=>?_⟩;rw [Za,hcell j,XK];exact hv
theorem LZ (h : laidMetH Tryz.prog Kb W) : Lib.TabIs Tryz.prog W "loop.example/s01594/impl.crcTable" .u32 [0, 274646895, 549293790, 820201905, 1098587580, 1361435347, 1640403810, 1905808397, 2197175160, 2460548119, 2722870694, 2987750089, 3280807620, 3553878443, 3811616794, 4084100981] := by
 have h':=(laidMetH_iff.1 h).1;rw [MY] at h'
 have h2 : laidMet Tryz.prog (("loop.example/s01594/impl.crcTable", Rows.laid_loop_example_s01594_impl_crcTable) :: [("loop.example/s01594/impl.opForms", Rows.laid_loop_example_s01594_impl_opForms), ("unicode/utf8.first", Rows.laid_unicode_utf8_first)]) W := laidMet.tail (laidMet.tail (laidMet.tail (laidMet.tail (laidMet.tail (laidMet.tail h')))))
 obtain ⟨ps,⟨g',t',cs,fuel,p,q,hg',ht',hvar,hd,-,-⟩,-⟩:=h2;obtain rfl:=Zc (mh.symm.trans hg');obtain rfl:=Zc (Ed.symm.trans ht');unfold Lib.TabIs;rw [hvar,←Lib.cells_of_tab Tryz.underlying152 Tryz.underlying150 cellsE mg (zs:=[0,274646895,549293790,820201905,1098587580,1361435347,1640403810,1905808397,2197175160,2460548119,2722870694,2987750089,3280807620,3553878443,3811616794,4084100981]) (k:=.u32) hd]
theorem GS (h:laidMetH Tryz.prog Kb W) (hsh:W.ShapedOpen Tryz.prog):∃m te pe,qL m te pe W:=by
 obtain ⟨mx,hmx⟩:=GT hsh;obtain ⟨ea,iQ⟩:=Ec h;have hT:=LZ h;exact ⟨mx,_,_,⟨fun i hi=>by rw [hT.cell mh i hi];exact tY i hi,GU h,LO h,⟨hmx,iQ⟩,JD h⟩⟩
end
end Go.Proofs.YtpmjnbmkippaiaaGreatDoor


