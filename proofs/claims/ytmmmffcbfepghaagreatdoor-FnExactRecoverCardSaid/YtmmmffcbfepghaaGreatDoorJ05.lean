import Derived.Test.YtmmmffcbfepghaaGreatDoorJ04
import Derived.Test.YtmmmffcbfepghaaGreatDoorRows
set_option maxRecDepth 100000
set_option maxHeartbeats 16000000
set_option linter.unusedVariables false
set_option linter.unusedSimpArgs false
namespace Go.Proofs.YtmmmffcbfepghaaGreatDoor
open Go.RowKit Go.Shelf
variable {k:IntKind} {ps:List (Int × List Int)} {rs:List (List Int)} {Z7 xs:List Int} {us:List Value} {B cap dl g hi j lo lo' n o:Nat} {ao:Option Addr} {row:Option Nat} {e t te:TypeId} {u v vd vp x y:Value} {a w w' w1:World}
def xZ (ps:List Int):List Int:=if pk (up ps)=ps then up ps else []
theorem Ac (xs:List Int):YL (pk xs):=fun x hx=>by have:=AN xs x hx;omega
theorem FY (xs:List Int):YL (up xs):=fun x hx=>by have:=AM xs x hx;omega
theorem uT {W:World} (hb:ZX W w1):(∀b o,b<W.heap.size→w1.cell? ⟨b,o,none⟩=W.cell? ⟨b,o,none⟩)∧(∀b o,b<W.heap.size→w1.frozen? ⟨b,o,none⟩=W.frozen? ⟨b,o,none⟩) :=
 ⟨fun b o h=>hb.cell (p:=⟨b,o,none⟩) h,fun b o h=>hb.frozen (p:=⟨b,o,none⟩) h⟩
theorem LH (hb:Below (w.alloc (.cells #[x] t)).heap.size (w.alloc (.cells #[x] t)) w1) :
    w1.cell? ⟨w.heap.size,0,none⟩=some x∧w1.frozen? ⟨w.heap.size,0,none⟩=false∧w.heap.size<w1.heap.size:=by
 obtain ⟨hc,hf⟩:=uT hb;have hs:=hb.size
 simp at hs
 refine ⟨?_,?_,by omega⟩
 · rw [hc _ _ (by simp)];simp
 rw [hf _ _ (by simp)];simp
theorem Own.ZK {base:Nat} (h:Own k e w base v xs) {a:Addr} (ha:a.block<base) (u:Value):Own k e (w.setCell a u) base v xs:=LY h ha u
theorem Ts (w:World) (v:Value) (xs:List Int) (h:Rd .u8 w v xs) (hby:YL xs) (hn:xs.length≤1099511627776) :
    Calls Tryz.prog 151 #[v] w fun e w'=>∃v',e=.returned (.agg #[v'])∧Own .u8 5 w' w.heap.size v' (xZ xs)∧ZX w w':=by
 have B0:Hid (ZX w (w.alloc (.cells #[.slice none 0 0] 110))):=ZR.alloc ZW _;have R0:=Z8 (h.below B0.out);have BH:(up xs).length≤1099511627776:=by rw [LL];omega
 have tx:=Z8 BH
 go_enter Tryz.func151,Tryz.ntmps151
 go_wp2_with fail
 refine (Ok _ _ xs R0.out hby hn).mono ?_;rintro e w1 ⟨v1,rfl,o1,b1⟩;have O1:Hid (Own .u8 5 w1 (w.heap.size+1) v1 (up xs)):=by have:=o1;simp at this;exact this
 have B1:=Z8 b1
 go_wp2_with fail
 refine (La _ _ (up xs) O1.out.rd (FY xs) tx.out).mono ?_;rintro e w2 ⟨v2,rfl,o2,b2⟩;have O2:=Z8 o2;have s1:=B1.out.size;have B2:=Z8 (B1.out.trans (b2.mono s1));have tu:=Z8 (O1.out.below b2)
 go_wp2_with fail
 refine (Tt _ _ _ (pk (up xs)) xs O2.out.rd (R0.out.below B2.out) (Ac _) hby).mono ?_;rintro e w2 ⟨rfl,rfl⟩;obtain ⟨c1,f1,z1⟩:=LH B2.out;have BW:=Z8 (B0.out.trans (B2.out.mono (by simp)))
 by_cases he:pk (up xs)=xs
 · have hd:decide (pk (up xs)=xs)=true:=by simp [he]
   have HU:Hid (xZ xs=up xs):=ZY he;rw [hd];obtain ⟨Y,U,rfl,_,_⟩:=tu.out.rd.len;go_wp2;refine ZT (v:=.agg #[.slice Y (up xs).length U]) (by simp [results,Tryz.results151,go_sem,c1]) rfl ⟨.slice Y (up xs).length U,rfl,?_,?_⟩
   · rw [HU.out]
     exact (Own.ZK tu.out (a:=⟨w.heap.size,0,none⟩) (by simp) _).mono (by omega)
   exact BW.out.setCell ZW _
 have hd:decide (pk (up xs)=xs)=false:=by simp [he]
 have HU:Hid (xZ xs=[]):=Z3 he;rw [hd];go_wp2;refine ZT (v:=.agg #[.slice none 0 0]) (by simp [results,Tryz.results151,go_sem,c1]) rfl ⟨.slice none 0 0,rfl,?_,?_⟩
 · rw [HU.out]
   exact Yf _ _ _ _
 exact BW.out.setCell ZW _
def g8 (xs:List Int) (q t:Nat):Nat:=Ws 7 xs / 2 ^ (7*xs.length - (8*q+t)) % 2 ^ t
theorem wK (xs:List Int) (q:Nat):g8 xs q 0=0:=by unfold g8;simp [Nat.mod_one]
theorem rg (xs:List Int) (q t:Nat) (h:8*q+t<7*xs.length):g8 xs q (t+1)=2*g8 xs q t+PS 7 1 xs (8*q+t):=by
 unfold g8 PS;have e:7*xs.length - (8*q+t)=7*xs.length - (8*q+(t+1))+1:=by omega
 rw [e,show 2 ^ (7*xs.length - (8*q+(t+1))+1)=2 ^ (7*xs.length - (8*q+(t+1)))*2 from Rj _ _,←Mf,show 7*xs.length - 1*(8*q+t+1)=7*xs.length - (8*q+(t+1)) by omega,Nat.pow_one];generalize Ws 7 xs / 2 ^ (7*xs.length - (8*q+(t+1)))=X;rw [Rj,Fa (2 ^ t) 2,Nat.mod_mul];omega
theorem re (xs:List Int) (q t:Nat) (ht:t≤8):g8 xs q t≤255:=by
 have h:g8 xs q t<2 ^ t:=Rk _ (V7 t);have h2:2 ^ t≤2 ^ 8:=Me (by omega) ht
 simp only [Nat.reducePow] at h2
 omega
theorem ts (xs:List Int) (q:Nat):g8 xs q 8=PS 7 8 xs q:=by unfold g8 PS;rw [show 8*q+8=8*(q+1) by omega]
theorem Oj (w:World) (v:Value) (xs:List Int) (h:Rd .u8 w v xs) (hby:YL xs) (hn:xs.length≤1099511627776) :
    Calls Tryz.prog 90 #[v] w fun e w'=>∃v',e=.returned (.agg #[v'])∧Own .u8 5 w' w.heap.size v' (xZ xs)∧ZX w w':=by
 obtain ⟨i0,hi,hz0,hz1,hz2⟩:=YH Tryz.Vv;have B0:Hid (ZX w (w.alloc (.cells #[.slice none 0 0] 110))):=ZR.alloc ZW _;have R0:=Z8 (h.below B0.out);have BH:(up xs).length≤1099511627776:=by rw [LL];omega
 have tx:=Z8 BH
 go_enter Tryz.func90,Tryz.ntmps90
 go_wp2_with fail
 refine (RH _ _ xs 7 R0.out hby hn (by omega)).mono ?_;rintro e w1 ⟨vb,rfl,KN,hb1⟩;obtain ⟨ao,cap,rfl,h1,h2,h3⟩:=KN.rd;rw [UI] at h1 h3 ⊢;have h3':xs.length=0∨∃b o,ao=some ⟨b,o,none⟩∧b<w1.heap.size∧Hid (∀i,i<7*xs.length→w1.cell? ⟨b,o+i,none⟩=some (.int .i64 ((PS 7 1 xs i:Nat):Int))):=by
  rcases h3 with h3 | ⟨b,o,rfl,hlt1,hc1⟩
  · left;have:=Wd List.length h3;rw [UI] at this;simp at this;omega
  exact .inr ⟨b,o,rfl,hlt1,fun i hi=>by rw [hc1 i hi,On _ _ _ _ hi]⟩
 have HB1:=Z8 hb1;generalize hnn:xs.length=n at *;have HN:=Z8 hnn;have hsz:=hb1.size;have H3:=Z8 h3';go_wp2
 go_loopw [4,5] (fun v i wr=>∃q:Nat,8*q≤7*n∧i=.int .i64 (8*q)∧wr.ownsRow w1.heap.size 5 1 v q ((wM xs q).map (Value.int .u8))∧ZX w1 wr) (fun _ i _=>7*n+8 - (intOf i).toNat)
 case atStart=>exact ⟨0,by omega,rfl,Xb w1 #[] 0 ZW (ZQ _) rfl,ZR.alloc ZW _⟩
 case round =>
  obtain ⟨q,hq,rfl,ho,hg⟩:=hrel
  by_cases hlt:8*q+8≤7*n
  · have YN:8*(q:Int)+8≤7*(n:Int):=by omega
    rcases H3.out with h0 | ⟨b,o,rfl,hlt1,HC⟩
    · omega
    go_wp2
    go_loop [6,7] (fun v j=>∃t V:Nat,t≤8∧j=.int .i64 (8*(q:Int)+t)∧V≤255∧v=.int .i64 V∧Hid (V=g8 xs q t)) (fun _ j=>(8*(q:Int)+8 - intOf j).toNat)
    case atStart=>exact ⟨0,0,by omega,by go_num,by omega,rfl,(wK xs q).symm⟩
    case round =>
     obtain ⟨t,V,ht,rfl,hV,rfl,HV⟩:=hrel
     by_cases pE:t<8
     · have vv:8*(q:Int)+(t:Int)<8*(q:Int)+8:=by omega
       have hin:8*q+t<7*n:=by omega
       have rh:8*(q:Int)+(t:Int)<7*(n:Int):=by omega
       have hgs:=rg xs q t (by rw [HN.out];exact hin);have hgl:=re xs q (t+1) (by omega);have hsrc:=(hg.cell (p:=⟨b,o+(8*q+t),none⟩) hlt1).trans (HC.out _ hin);rw [←HV.out] at hgs;generalize hD:PS 7 1 xs (8*q+t)=D at *;have hb:2*V+D≤255:=by omega
       have uU:=Z8 hgs.symm;go_wp2
       go_round
       case rel=>exact ⟨t+1,2*V+D,by omega,by go_num,hb,by go_num,uU.out⟩
       case measure=>simp [intOf];omega
     have pC:t=8:=by omega
     subst pC;have HL:Hid (q+1≤8796093022208):=by show _≤_;omega
     go_wp2_with (at_builtin;go_must (refine XS _ rfl _ _ 22 rfl w1.heap.size 5 i0 (.int .u8 0) 1 1 Tryz.underlying22 hi hz0 hz1 hz2 rfl (by decide) _ _ _ rfl (ho.alloc _) ⟨wr.heap.size,0,none⟩ 1 1 [.int .u8 (V:Int)] rfl rfl (Vy _ _ _) (by intro u hu;simp at hu;subst hu;rfl) ?c3 ?c4 ?c5 ?_))
     case c3=>have:=HL.out;unfold maxLen;omega
     case c4=>have:=HL.out;omega
     case c5=>have:=hg.size;simp;omega
     intro v2 w2 ho2 hg2 _;have Sv:Hid (w2.ownsRow w1.heap.size 5 1 v2 (q+1) ((wM xs (q+1)).map (Value.int .u8))):=by
      rw [HV.out,ts] at ho2;show World.ownsRow _ _ _ _ _ _ _;rw [It,WX];exact ho2
     have HG2:=Z8 ((hg.alloc (hg.size) _).grown hg2 (by have:=hg.size;simp;omega) (fun q hq=>(ho.lt q hq).1));go_wp2
     go_roundw
     case rel=>exact ⟨q+1,by omega,by go_num,Sv.out,HG2.out⟩
     case measure=>simp [intOf];omega
  have YN:¬8*(q:Int)+8≤7*(n:Int):=by omega
  have O1:=Z8 (WI (Ex xs q) (Ew (by rw [HN.out];omega)) ho);have BG:=Z8 hg
  go_wp2_with fail
  refine (QY _ _ (up xs) O1.out.rd (FY xs) tx.out).mono ?_;rintro e w2 ⟨v2,rfl,o2,b2⟩;have O2:=Z8 o2;have sg:=BG.out.size;have B2:=Z8 ((HB1.out.trans (BG.out.mono hsz)).trans (b2.mono (ZP hsz sg)));have tu:=Z8 (O1.out.below b2)
  go_wp2_with fail
  refine (UW _ _ _ (pk (up xs)) xs O2.out.rd (R0.out.below B2.out) (Ac _) hby).mono ?_;rintro e w2 ⟨rfl,rfl⟩;obtain ⟨c1,f1,z1⟩:=LH B2.out;have BW:=Z8 (B0.out.trans (B2.out.mono (by simp)));have hsz':w.heap.size<w1.heap.size:=by simp at hsz;omega
  by_cases he:pk (up xs)=xs
  · have hd:decide (pk (up xs)=xs)=true:=by simp [he]
    have HU:Hid (xZ xs=up xs):=ZY he;rw [hd];obtain ⟨Y,U,rfl,_,_⟩:=tu.out.rd.len;go_wp2;refine ZT (v:=.agg #[.slice Y (up xs).length U]) (by simp [results,Tryz.results90,go_sem,c1]) rfl ⟨.slice Y (up xs).length U,rfl,?_,?_⟩
    · rw [HU.out]
      exact (Own.ZK tu.out (a:=⟨w.heap.size,0,none⟩) hsz' _).mono (by omega)
    exact BW.out.setCell ZW _
  have hd:decide (pk (up xs)=xs)=false:=by simp [he]
  have HU:Hid (xZ xs=[]):=Z3 he;rw [hd];go_wp2;refine ZT (v:=.agg #[.slice none 0 0]) (by simp [results,Tryz.results90,go_sem,c1]) rfl ⟨.slice none 0 0,rfl,?_,?_⟩
  · rw [HU.out]
    exact Yf _ _ _ _
  exact BW.out.setCell ZW _
def GJ (w:World) (b:Nat) (v:Value):Prop:=b<w.heap.size∧w.cell? ⟨b,0,none⟩=some v
theorem GJ.below {b:Nat} (h:GJ w b v) (hb:ZX w w'):GJ w' b v :=
 ⟨ZB h.1 hb.size,(hb.cell (p:=⟨b,0,none⟩) h.1).trans h.2⟩
theorem GJ.new (w:World) (v:Value) (t:TypeId):GJ (w.alloc (.cells #[v] t)) w.heap.size v:=⟨by simp,by simp⟩
theorem GJ.drewN {b:Nat} (h:GJ w b v) (n:Nat):GJ (w.drewN n) b v:=h
def YP (a:List Int):Nat:=(a.getD 0 0).toNat % 128*128+(a.getD 1 0).toNat % 128
def Zw (a:List Int):List Int:=xZ ((a.drop 2).take (YP a))
def FW (a:List Int):Prop:=2≤a.length∧128≤a.getD 0 0∧128≤a.getD 1 0∧2+YP a≤a.length∧Zw a≠[]∧(Zw a).length≤2000
def Vs (a:List Int):Bool:=decide (2≤a.length) && decide (128≤a.getD 0 0) && decide (128≤a.getD 1 0) && decide (2+YP a≤a.length) && decide (Zw a≠[]) && decide ((Zw a).length≤2000)
theorem Vr (a:List Int):Vs a=true↔FW a:=by
 unfold Vs FW
 simp only [Yg,Zg,and_assoc]
theorem WB {a:List Int} (h:¬FW a):Vs a=false:=by
 cases e:Vs a with
 | false=>rfl
 | true=>exact absurd ((Vr a).1 e) h
def Yl:Nat→List Int→List (List Int × Nat)
 | 0,_=>[]
 | f+1,a=>if Vs a then (Zw a,2+YP a) :: Yl f (a.drop (2+YP a)) else []
def pos (R:List (List Int × Nat)) (k:Nat):Nat:=((R.take k).map (·.2)).sum
theorem Tr (R:List (List Int × Nat)):pos R 0=0:=by simp [pos]
theorem QX (r:List Int × Nat) (R:List (List Int × Nat)) (k:Nat):pos (r :: R) (k+1)=r.2+pos R k:=by simp [pos]
theorem VC:∀(f:Nat) (a:List Int),a.length≤f →
    (∀k,k<(Yl f a).length→Vs (a.drop (pos (Yl f a) k))=true∧(Yl f a).getD k ([],0)=(Zw (a.drop (pos (Yl f a) k)),2+YP (a.drop (pos (Yl f a) k)))) ∧
    Vs (a.drop (pos (Yl f a) (Yl f a).length))=false∧(∀k,k≤(Yl f a).length→pos (Yl f a) k≤a.length)
 | 0,a,h=>by
  have:a=[]:=Vj (by omega);subst this;exact ⟨fun k hk=>by simp [Yl] at hk,by rfl,fun k hk=>by simp [Yl] at hk;subst hk;simp [pos]⟩
 | f+1,a,h=>by
  cases e:Vs a with
  | false =>
   have hs:Yl (f+1) a=[]:=by unfold Yl;rw [e];simp
   rw [hs];exact ⟨fun k hk=>by simp at hk,by simpa [pos] using e,fun k hk=>by simp at hk;subst hk;simp [pos]⟩
  | true =>
   have hs:Yl (f+1) a=(Zw a,2+YP a) :: Yl f (a.drop (2+YP a)):=by
    conv=>lhs;unfold Yl
    rw [e];simp
   obtain ⟨k1,k2,k3,k4,-⟩:=(Vr a).1 e;obtain ⟨i1,i2,i3⟩:=VC f (a.drop (2+YP a)) (by rw [Zv];omega);rw [hs];refine ⟨fun k hk=>?_,?_,fun k hk=>?_⟩
   · cases k with
     | zero=>rw [Tr,Jq];exact ⟨e,rfl⟩
     | succ k =>
      have:=i1 k (by simpa using hk);rw [QX,←US];exact this
   · rw [XQ,QX,←US];exact i2
   cases k with
   | zero=>rw [Tr];exact ZQ _
   | succ k =>
    have:=i3 k (by simpa using hk);rw [Zv] at this;rw [QX];show 2+YP a+_≤_;omega
theorem Oi (R:List (List Int × Nat)) (k:Nat) (h:k<R.length):pos R (k+1)=pos R k+(R.getD k ([],0)).2:=by
 unfold pos;rw [Rm h,WX,xE]
 simp [List.getD,h]
theorem wJ:xZ []=[]:=by rfl
def zeros (n:Nat):List Int:=List.replicate n 0
theorem Qo (n:Nat):(zeros n).length=n:=by simp [zeros]
theorem RF (hb:Below (w.alloc (.cells #[x,y] t)).heap.size (w.alloc (.cells #[x,y] t)) w1) :
    w1.cell? ⟨w.heap.size,0,none⟩=some x∧w1.cell? ⟨w.heap.size,1,none⟩=some y∧w1.frozen? ⟨w.heap.size,0,none⟩=false∧w1.frozen? ⟨w.heap.size,1,none⟩=false∧w.heap.size<w1.heap.size:=by
 obtain ⟨hc,hf⟩:=uT hb;have hs:=hb.size
 simp at hs
 refine ⟨?_,?_,?_,?_,by omega⟩
 · rw [hc _ _ (by simp)];simp
 · rw [hc _ _ (by simp)];simp
 · rw [hf _ _ (by simp)];simp
 rw [hf _ _ (by simp)];simp
theorem QW (w:World) (ao bo:Option Addr) (ca cb:Nat) :
    Calls Tryz.prog 41 #[.slice ao 0 ca,.slice bo 0 cb] w fun e w'=>e=.returned (.bool true)∧w'=w:=by
 go_enter Tryz.func41,Tryz.ntmps41
 go_wp2
 go_rounds 1
 go_ret;exact ⟨rfl,rfl⟩
theorem Oh (w:World) (ao:Option Addr) (ca:Nat) (k:Int) :
    Calls Tryz.prog 43 #[.slice ao 0 ca,.int .i64 k] w fun e w'=>e=.returned (.int .i64 k)∧w'=w:=by
 go_enter Tryz.func43,Tryz.ntmps43
 go_wp2
 go_rounds 1
 go_ret;exact ⟨rfl,rfl⟩
theorem Og (w:World) (ao:Option Addr) (ca:Nat) (k:Int) :
    Calls Tryz.prog 85 #[.slice ao 0 ca,.int .i64 k] w fun e w'=>e=.returned (.int .i64 k)∧w'=w:=by
 go_enter Tryz.func85,Tryz.ntmps85
 go_wp2
 go_rounds 1
 go_ret;exact ⟨rfl,rfl⟩
def YK (w:World) (b:Nat) (x y:Value):Prop:=b<w.heap.size∧w.cell? ⟨b,0,none⟩=some x∧w.cell? ⟨b,1,none⟩=some y
theorem YK.below {b:Nat} (h:YK w b x y) (hb:ZX w w'):YK w' b x y :=
 ⟨ZB h.1 hb.size,(hb.cell (p:=⟨b,0,none⟩) h.1).trans h.2.1,(hb.cell (p:=⟨b,1,none⟩) h.1).trans h.2.2⟩
theorem YK.other {b:Nat} (h:YK w b x y) (hg:w.grownBy w' row) (hne:some b≠row):YK w' b x y :=
 ⟨ZB h.1 hg.size,hg.cell h.2.1 hne,hg.cell h.2.2 hne⟩
theorem YK.new (w:World) (x y:Value) (t:TypeId):YK (w.alloc (.cells #[x,y] t)) w.heap.size x y:=⟨by simp,by simp,by simp⟩
def pB (ps:List (Int × List Int)) (i:Nat):Int:=(ps.getD i (0,[])).1
def pD (ps:List (Int × List Int)) (i:Nat):List Int:=(ps.getD i (0,[])).2
def XP (w:World) (v:Value) (ps:List (Int × List Int)):Prop :=
 ∃ao cap,v=.slice ao ps.length cap∧ps.length≤cap∧cap≤maxLen ∧
  (ps=[]∨∃b off,ao=some ⟨b,off,none⟩∧b<w.heap.size∧∀i,i<ps.length →
   w.cell? ⟨b,off+i*2,none⟩=some (.int .i64 (pB ps i))∧∃da c,w.cell? ⟨b,off+i*2+1,none⟩=some (.slice da (pD ps i).length c)∧Rd .u8 w (.slice da (pD ps i).length c) (pD ps i))
theorem XP.len (h:XP w v ps):∃ao cap,v=.slice ao ps.length cap∧ps.length≤cap∧cap≤maxLen:=by
 obtain ⟨ao,cap,h0,h1,h2,_⟩:=h;exact ⟨ao,cap,h0,h1,h2⟩
theorem XP.below (h:XP w v ps) (hb:ZX w w'):XP w' v ps:=by
 obtain ⟨ao,cap,rfl,h1,h2,h3⟩:=h;refine ⟨ao,cap,rfl,h1,h2,?_⟩
 rcases h3 with h3 | ⟨b,off,rfl,hlt,hc⟩
 · exact .inl h3
 refine .inr ⟨b,off,rfl,ZB hlt hb.size,fun i hi=>?_⟩;obtain ⟨c1,da,c,c2,r⟩:=hc i hi;exact ⟨(hb.cell (p:=⟨b,_,none⟩) hlt).trans c1,da,c,(hb.cell (p:=⟨b,_,none⟩) hlt).trans c2,r.below hb⟩
def tot (ps:List (Int × List Int)):Nat:=(ps.map fun p=>p.2.length).sum
theorem WG (ps:List (Int × List Int)) (k:Nat) (h:k<ps.length):tot (ps.take (k+1))=tot (ps.take k)+(pD ps k).length:=by
 unfold tot pD;rw [Rm h,WX,xE]
 simp [List.getD,h]
theorem wI (ps:List (Int × List Int)) (k:Nat) (h:ps.length≤k):tot (ps.take k)=tot ps:=by rw [We h]
theorem PM (w:World) (ao:Option Addr) (n cap:Nat) (left:Int) (hn:n≤maxLen) (h0:0≤left) (h1:left≤1048576) :
    Calls Tryz.prog 14 #[.slice ao n cap,.int .i64 left] w fun e w'=>e=.returned (.int .i64 (if left<n then -1 else left - n))∧w'=w:=by
 unfold maxLen at hn
 by_cases h:left<n
 · rw [ZY h]
   have h2:left - (n:Int)<0:=by omega
   go_enter Tryz.func14,Tryz.ntmps14
   go_wp2;go_ret;exact ⟨rfl,rfl⟩
 rw [Z3 h];have h2:¬left - (n:Int)<0:=by omega
 go_enter Tryz.func14,Tryz.ntmps14
 go_wp2;go_ret;exact ⟨rfl,rfl⟩
theorem Is (w:World) (x:Int) (ao:Option Addr) (n cap:Nat) (left:Int) (hn:n≤maxLen) (h0:0≤left) (h1:left≤1048576) :
    Calls Tryz.prog 47 #[.agg #[.int .i64 x,.slice ao n cap],.int .i64 left] w (Ze w (.int .i64 (if left<n then -1 else left - n))):=by
 have B0:Hid (ZX w (w.alloc (.cells #[.int .i64 x,.slice ao n cap] 85))):=ZR.alloc ZW _
 go_enter Tryz.func47,Tryz.ntmps47
 go_wp2_with fail
 refine (PM _ ao n cap left hn h0 h1).mono ?_;rintro e w1 ⟨rfl,hw⟩;subst hw
 by_cases h:left<n
 · rw [ZY h]
   go_wp2;go_ret;exact ⟨rfl,B0.out⟩
 rw [Z3 h];have h2:¬left - (n:Int)<0:=by omega
 go_wp2;go_ret;exact ⟨rfl,B0.out⟩
theorem KJ (w:World) (b o n cap:Nat) (ps:List (Int × List Int)) (hp:ps.length=n) (hn:n≤maxLen) (hb:b<w.heap.size)
    (hc:∀i,i<n→w.cell? ⟨b,o+i*2,none⟩=some (.int .i64 (pB ps i))∧∃da c,w.cell? ⟨b,o+i*2+1,none⟩=some (.slice da (pD ps i).length c)∧Rd .u8 w (.slice da (pD ps i).length c) (pD ps i)) (left:Int) (h0:0≤left) (h1:left≤1048576) :
    Calls Tryz.prog 15 #[.slice (some ⟨b,o,none⟩) n cap,.int .i64 left] w fun e w'=>∃r:Int,e=.returned (.int .i64 r)∧(r<0∨r+n+tot ps=left)∧ZX w w':=by
 have HC:=Z8 hc;have HP:=Z8 hp;clear hc hp;unfold maxLen at hn
 by_cases hl:left<n
 · have h2:left - (n:Int)<0:=by omega
   go_enter Tryz.func15,Tryz.ntmps15
   go_wp2;go_ret;exact ⟨-1,rfl,.inl (by omega),ZR⟩
 have h2:¬left - (n:Int)<0:=by omega
 go_enter Tryz.func15,Tryz.ntmps15
 go_wp2
 go_loopw [1,5] (fun l i wr=>∃(k:Nat) (L:Int),k≤n∧i=.int .i64 k∧0≤L∧L≤1048576∧l=.int .i64 L∧Hid (L+n+tot (ps.take k)=left)∧ZX w wr) (fun _ i _=>n - (intOf i).toNat)
 case atStart=>exact ⟨0,left - n,ZQ _,rfl,by omega,by omega,rfl,(by show _=_;simp [tot]),ZR⟩
 case round =>
  obtain ⟨k,L,hk,rfl,hL0,hL1,rfl,HE,hg⟩:=hrel
  by_cases hlt:k<n
  · obtain ⟨c1,da,dc,c2,r⟩:=HC.out k hlt
    have YN:(k:Int)<(n:Int):=by omega
    have c1':=(hg.cell (p:=⟨b,o+k*2,none⟩) hb).trans c1;have c2':=(hg.cell (p:=⟨b,o+k*2+1,none⟩) hb).trans c2;have HG:=Z8 hg;have hd2:(pD ps k).length≤maxLen:=by obtain ⟨_,_,_,h3,h4⟩:=r.len;omega
    have M:=Z8 (WG ps k (by rw [HP.out];exact hlt));have sg:=hg.size;clear c1 c2 hg r
    go_wp2_with fail
    refine (Is _ _ _ _ _ L hd2 hL0 hL1).mono ?_;rintro e w1 ⟨rfl,b1⟩;have wH:=Z8 (HG.out.trans (b1.mono sg));clear b1 c1' c2'
    by_cases hneg:L<(pD ps k).length
    · rw [ZY hneg]
      go_wp2;go_ret;exact ⟨-1,rfl,.inl (by omega),wH.out⟩
    rw [Z3 hneg];have h3:¬L - ((pD ps k).length:Int)<0:=by omega
    go_wp2
    go_roundw
    case rel=>exact ⟨k+1,L - (pD ps k).length,by omega,by go_num,by omega,by omega,rfl,(by show _=_;rw [M.out];have:=HE.out;omega),wH.out⟩
    case measure=>simp [intOf];omega
  have HG:Hid (ZX w wr):=hg;clear hg;go_wp2;go_ret;exact ⟨L,rfl,.inr (by have:=HE.out;rw [wI ps k (by rw [HP.out];omega)] at this;exact this),HG.out⟩
theorem KI (w:World) (ao:Option Addr) (cap:Nat) (left:Int) (h0:0≤left) (h1:left≤1048576) :
    Calls Tryz.prog 15 #[.slice ao 0 cap,.int .i64 left] w fun e w'=>e=.returned (.int .i64 left)∧w'=w:=by
 have h2:¬left<0:=by omega
 go_enter Tryz.func15,Tryz.ntmps15
 go_wp2
 go_rounds 1
 go_ret;exact ⟨by simp,rfl⟩
theorem KH (w:World) (v:Value) (ps:List (Int × List Int)) (h:XP w v ps) (left:Int) (h0:0≤left) (h1:left≤1048576) :
    Calls Tryz.prog 15 #[v,.int .i64 left] w fun e w'=>∃r:Int,e=.returned (.int .i64 r)∧(r<0∨r+ps.length+tot ps=left)∧ZX w w':=by
 obtain ⟨ao,cap,rfl,k1,k2,k3⟩:=h
 rcases k3 with rfl | ⟨b,o,rfl,hb,hc⟩
 · refine (KI w ao cap left h0 h1).mono ?_
   rintro e w' ⟨rfl,rfl⟩;exact ⟨left,rfl,.inr (by simp [tot]),ZR⟩
 exact KJ w b o ps.length cap ps rfl (by omega) hb hc left h0 h1
theorem FV (w:World) (vd vp:Value) (Z7:List Int) (ps:List (Int × List Int)) (hd:Rd .u8 w vd Z7) (hp:XP w vp ps) :
    Calls Tryz.prog 4 #[.agg #[vd,vp],.int .i64 1048576] w fun e w'=>∃r:Int,e=.returned (.int .i64 r)∧(r<0∨r+Z7.length+ps.length+tot ps=1048576)∧ZX w w':=by
 have B0:Hid (ZX w (w.alloc (.cells #[vd,vp] 25))):=ZR.alloc ZW _;have RP:=Z8 (hp.below B0.out);obtain ⟨ao,cap,rfl,k1,k2⟩:=hd.len;clear hp hd
 go_enter Tryz.func4,Tryz.ntmps4
 go_wp2_with fail
 refine (PM _ ao Z7.length cap 1048576 (by omega) (by omega) (by omega)).mono ?_;rintro e w1 ⟨rfl,hw⟩;subst hw
 by_cases h:(1048576:Int)<Z7.length
 · rw [ZY h]
   go_wp2;go_ret;exact ⟨-1,rfl,.inl (by omega),B0.out⟩
 rw [Z3 h];have h2:¬(1048576:Int) - (Z7.length:Int)<0:=by omega
 go_wp2_with fail
 refine (KH _ _ ps RP.out (1048576 - Z7.length) (by omega) (by omega)).mono ?_;rintro e w2 ⟨r,rfl,hr,b2⟩;have B2:=Z8 (B0.out.trans (b2.mono (by simp)));clear b2
 by_cases hneg:r<0
 · go_wp2
   go_ret;exact ⟨-1,rfl,.inl (by omega),B2.out⟩
 have h3:r+ps.length+tot ps=1048576 - Z7.length:=by omega
 have H3:Hid (r+Z7.length+ps.length+tot ps=1048576):=by show _=_;omega
 clear hr h3;go_wp2;go_ret;exact ⟨r,rfl,.inr H3.out,B2.out⟩
def Yt (n:Nat) (f:Nat→Int) (g:Nat→Value):List Value:=(List.range n).flatMap fun i=>[.int .i64 (f i),g i]
theorem SU (n:Nat) (f:Nat→Int) (g:Nat→Value):Yt (n+1) f g=Yt n f g++[.int .i64 (f n),g n]:=by
 unfold Yt;rw [xF,List.flatMap_append];simp
theorem Xp (n:Nat) (f:Nat→Int) (g:Nat→Value):(Yt n f g).length=n*2:=by
 induction n with
 | zero=>rfl
 | succ n ih=>rw [SU,YE,ih];simp;omega
theorem WE (n:Nat) (f:Nat→Int) (g:Nat→Value) (j:Nat) (h:j<n*2):(Yt n f g)[j]?=some (if j % 2=0 then .int .i64 (f (j / 2)) else g (j / 2)):=by
 induction n with
 | zero=>omega
 | succ n ih =>
  rw [SU]
  by_cases hj:j<n*2
  · rw [Qw (by rw [Xp];exact hj),ih hj]
  rw [Nb (by rw [Xp];omega),Xp]
  by_cases e:j=n*2
  · subst e
    simp [show n*2 % 2=0 by omega]
  have e2:j=n*2+1:=by omega
  subst e2;rw [Z3 (by omega),show n*2+1 - n*2=1 by omega,show (n*2+1) / 2=n by omega]
  rfl
theorem WS {f f':Nat→Int} {g g':Nat→Value} (hf:∀i,i<n→f i=f' i) (hg:∀i,i<n→g i=g' i):Yt n f g=Yt n f' g':=by
 unfold Yt;rw [List.flatMap_def,List.flatMap_def]
 congr 1
 apply List.map_congr_left;intro i hi;have hi:=RZ.1 hi;rw [hf i hi,hg i hi]
theorem Ir {f f':Nat→Int} {g g':Nat→Value} {k:Nat} (hk:k<n) (hf:∀i,i≠k→f i=f' i) (hg:∀i,i≠k→g i=g' i) :
    ((Yt n f g).set (k*2) (.int .i64 (f' k))).set (k*2+1) (g' k)=Yt n f' g':=by
 apply Lr;intro j
 by_cases hj:j<n*2
 · rw [Gz,Gz,WE n f' g' j hj,WE n f g j hj]
   simp only [xH,Xp]
   by_cases e1:k*2+1=j
   · rw [ZY e1,ZY (by omega),Z3 (by omega),show j / 2=k by omega]
   rw [Z3 e1]
   by_cases e2:k*2=j
   · rw [ZY e2,ZY (by omega),ZY (by omega),show j / 2=k by omega]
   rw [Z3 e2,hf _ (by omega),hg _ (by omega)]
 rw [Sy (by simp [Xp];omega),Sy (by rw [Xp];omega)]
theorem LF (n:Nat):(madeCells #[Value.int .i64 0,Value.slice none 0 0] (n*2)).toList=Yt n (fun _=>0) (fun _=>.slice none 0 0):=by
 apply Lr;intro j
 by_cases hj:j<n*2
 · rw [WE _ _ _ _ hj]
   rcases Bg j with e | e
   · simp [madeCells,hj,e]
   simp [madeCells,hj,e]
 simp [madeCells,hj,Sy (show (Yt n (fun _=>0) (fun _=>Value.slice none 0 0)).length≤j by rw [Xp];omega)]
def PL (a b:Value):Prop:=a.ownBlock=none∨a.ownBlock≠b.ownBlock
theorem Own.slice (h:Own k e w lo v xs):∃a c,v=.slice a xs.length c:=by
 obtain ⟨a,c,h0,_⟩:=h.rd.len;exact ⟨a,c,h0⟩
theorem Own.setAt (h:Own k e w lo v xs) (hne:v.ownBlock=none∨v.ownBlock≠some g):Own k e (w.setCell ⟨g,j,none⟩ u) lo v xs :=
 h.other (grownBy_set w w g j u (YT _ _)) hne
def WK (w:World) (lo:Nat) (v:Value) (xs:List Int):Prop:=∃te,Own .u8 te w lo v xs
theorem Own.b (h:Own .u8 te w lo v xs):WK w lo v xs:=⟨te,h⟩
theorem WK.rd (h:WK w lo v xs):Rd .u8 w v xs:=h.elim fun _ h=>h.rd
theorem WK.below (h:WK w lo v xs) (hb:ZX w w'):WK w' lo v xs:=h.elim fun _ h=>⟨_,h.below hb⟩
theorem WK.mono (h:WK w lo v xs) (hl:lo'≤lo):WK w lo' v xs:=h.elim fun _ h=>⟨_,h.mono hl⟩
theorem WK.other (h:WK w lo v xs) (hg:w.grownBy w' row) (hne:v.ownBlock=none∨v.ownBlock≠row):WK w' lo v xs:=h.elim fun _ h=>⟨_,h.other hg hne⟩
theorem WK.lt (h:WK w lo v xs):∀g,v.ownBlock=some g→lo≤g∧g<w.heap.size:=h.elim fun _ h=>h.lt
theorem WK.slice (h:WK w lo v xs):∃a c,v=.slice a xs.length c:=h.elim fun _ h=>h.slice
theorem WK.setAt (h:WK w lo v xs) (hne:v.ownBlock=none∨v.ownBlock≠some g):WK (w.setCell ⟨g,j,none⟩ u) lo v xs:=h.elim fun _ h=>⟨_,h.setAt hne⟩
theorem WK.ZK (h:WK w lo v xs) {a:Addr} (ha:a.block<lo) (u:Value):WK (w.setCell a u) lo v xs:=h.elim fun _ h=>⟨_,h.ZK ha u⟩
def VQ (e:TypeId) (w:World) (lo:Nat) (v:Value) (ps:List (Int × List Int)) (dv:Nat→Value):Prop :=
 w.ownsRow lo e 2 v ps.length (Yt ps.length (pB ps) dv)∧(∀i,i<ps.length→WK w lo (dv i) (pD ps i)) ∧
 (∀i j,i<ps.length→j<ps.length→i≠j→PL (dv i) (dv j))∧∀i,i<ps.length→PL (dv i) v
theorem VQ.rd {dv:Nat→Value} (h:VQ e w lo v ps dv):XP w v ps:=by
 obtain ⟨ho,hd,_,_⟩:=h
 rcases ho.2 with ⟨rfl,h0⟩ | ⟨g,cap,cur,rfl,hb,hg,hn,hm,hs,ht⟩
 · have:ps=[]:=Vj h0
   subst this;exact ⟨none,0,rfl,ZW,ZQ _,.inl rfl⟩
 refine ⟨_,cap,rfl,hn,hm,.inr ⟨g,0,rfl,(Array.getElem?_eq_some_iff.1 hg).1,fun i hi=>?_⟩⟩;have c1:=Va ho (g:=g) rfl (i*2) _ (WE _ _ _ _ (by omega));have c2:=Va ho (g:=g) rfl (i*2+1) _ (WE _ _ _ _ (by omega));rw [GM] at c1 c2;rw [ZY (by omega),show i*2 / 2=i by omega] at c1;rw [Z3 (by omega),show (i*2+1) / 2=i by omega] at c2;obtain ⟨a,c,e⟩:=(hd i hi).slice;refine ⟨c1,a,c,?_,?_⟩
 · rw [←e,TI];exact c2
 rw [←e];exact (hd i hi).rd
theorem VQ.below {dv:Nat→Value} (h:VQ e w lo v ps dv) (hb:ZX w w'):VQ e w' lo v ps dv:=by
 obtain ⟨ho,hd,h3,h4⟩:=h;refine ⟨⟨ho.1,?_⟩,fun i hi=>(hd i hi).below hb,h3,h4⟩
 rcases ho.2 with hn | ⟨g,cap,cur,rfl,hbg,hgg,rest⟩
 · exact .inl hn
 exact .inr ⟨g,cap,cur,rfl,hbg,by rw [hb.block g (Array.getElem?_eq_some_iff.1 hgg).1];exact hgg,rest⟩
theorem VQ.mono {dv:Nat→Value} (h:VQ e w lo v ps dv) (hl:lo'≤lo):VQ e w lo' v ps dv:=by
 obtain ⟨ho,hd,h3,h4⟩:=h;refine ⟨⟨ho.1,?_⟩,fun i hi=>(hd i hi).mono hl,h3,h4⟩
 rcases ho.2 with hn | ⟨g,cap,cur,rfl,hbg,rest⟩
 · exact .inl hn
 exact .inr ⟨g,cap,cur,rfl,by omega,rest⟩
theorem Iq (w:World) (x:Int) (vd:Value) (xs:List Int) (h:Rd .u8 w vd xs) (hn:xs.length≤1099511627776) :
    Calls Tryz.prog 65 #[.agg #[.int .i64 x,vd]] w fun e w'=>∃v',e=.returned (.agg #[.int .i64 x,v'])∧Own .u8 5 w' w.heap.size v' xs∧ZX w w':=by
 obtain ⟨ao,cap,rfl,k1,k2⟩:=h.len;have HB:Hid (∀o1 o2 o3,ZX w (((w.alloc o1).alloc o2).alloc o3)):=fun o1 o2 o3=>((ZR.alloc ZW _).alloc (by simp) _).alloc (by simp;omega) _
 have HR:=Z8 h;clear h
 go_enter Tryz.func65,Tryz.ntmps65
 go_wp2_with fail
 refine (PT _ _ xs (HR.out.below (HB.out _ _ _)) hn).mono ?_;rintro e w1 ⟨v1,rfl,o1,b1⟩;obtain ⟨a1,c1,rfl⟩:=o1.slice;have c20:w1.cell? ⟨w.heap.size+2,0,none⟩=some (.int .i64 x):=(b1.cell (p:=⟨w.heap.size+2,0,none⟩) (by simp)).trans (by go_simp);have c21:w1.cell? ⟨w.heap.size+2,1,none⟩=some (.slice none 0 0):=(b1.cell (p:=⟨w.heap.size+2,1,none⟩) (by simp)).trans (by go_simp);have f21:w1.frozen? ⟨w.heap.size+2,1,none⟩=false:=(b1.frozen (p:=⟨w.heap.size+2,1,none⟩) (by simp)).trans (by go_simp);have c10:w1.cell? ⟨w.heap.size+1,0,none⟩=some (.int .i64 0):=(b1.cell (p:=⟨w.heap.size+1,0,none⟩) (by simp)).trans (by go_simp);have c11:w1.cell? ⟨w.heap.size+1,1,none⟩=some (.slice none 0 0):=(b1.cell (p:=⟨w.heap.size+1,1,none⟩) (by simp)).trans (by go_simp);have f10:w1.frozen? ⟨w.heap.size+1,0,none⟩=false:=(b1.frozen (p:=⟨w.heap.size+1,0,none⟩) (by simp)).trans (by go_simp);have f11:w1.frozen? ⟨w.heap.size+1,1,none⟩=false:=(b1.frozen (p:=⟨w.heap.size+1,1,none⟩) (by simp)).trans (by go_simp);have O1:Hid (Own .u8 5 w1 (w.heap.size+3) (.slice a1 xs.length c1) xs):=by have:=o1;simp at this;exact this
 have z1:w.heap.size+3≤w1.heap.size:=by have:=b1.size;simp at this;omega
 have B1:=Z8 ((HB.out _ _ _).trans (b1.mono (by simp;omega)));clear o1 b1;go_wp2;refine ZT (v:=.agg #[.int .i64 x,.slice a1 xs.length c1]) (by simp [results,Tryz.results65,go_sem,c10,c11]) rfl ⟨_,rfl,?_,?_⟩
 · refine Own.mono ?_ (show w.heap.size≤w.heap.size+3 by omega)
   repeat (first | exact O1.out | refine Own.ZK ?_ (by simp;try omega) _)
 repeat (first | exact B1.out | refine Zf ?_ (by simp;try omega) _)
theorem Rd.cut (h:Rd k w (.slice ao n cap) xs) (hn:xs.length=n) (h0:0<n):∃blk o,ao=some ⟨blk,o,none⟩∧blk<w.heap.size∧n≤cap∧cap≤maxLen∧∀i,i<n→w.cell? ⟨blk,o+i,none⟩=some (.int k (xs.getD i 0)):=by
 obtain ⟨BK,cap',e,h1,h2,h3⟩:=h
 simp only [Zc] at e
 obtain ⟨rfl,hl,rfl⟩:=e
 rcases h3 with rfl | ⟨b,o,rfl,hb,hc⟩
 · simp at hn;omega
 exact ⟨b,o,rfl,hb,by omega,h2,fun i hi=>hc i (by omega)⟩
theorem Ip {blk:Nat} (hb:blk<w.heap.size) (hc:∀i,i<n→w.cell? ⟨blk,o+i,none⟩=some (.int k (xs.getD i 0))) (hn:xs.length=n) (i m:Nat) (hm:i+m≤n) (hcap:n≤cap) (hcm:cap≤maxLen):Rd k w (.slice (some ⟨blk,o+i,none⟩) m (cap - i)) ((xs.drop i).take m):=by
 have hlen:((xs.drop i).take m).length=m:=by rw [YC,Zv];omega
 refine ⟨_,cap - i,by rw [hlen],by omega,by omega,.inr ⟨blk,o+i,rfl,hb,fun j hj=>?_⟩⟩;rw [hlen] at hj;have:=hc (i+j) (by omega);rw [TI,this]
 simp [List.getD,Pd,hj]
theorem YO (h:Below B w w') (q:Nat):Below B w (w'.drewN q):=⟨h.os,h.tape,h.output,h.size,h.block⟩
theorem Qn (h:YL xs) (i m:Nat):YL ((xs.drop i).take m):=fun x hx=>h x (Wf (Vp hx))
theorem Ev (h:GJ w B v) (u:Value):GJ (w.setCell ⟨B,0,none⟩ u) B u:=⟨by have h1:=h.1;go_simp,by have h2:=h.2;go_simp⟩
theorem LE (h:GJ w B v) (o:Obj):GJ (w.alloc o) B v:=h.below (ZR.alloc ZW _)
theorem Up (w:World) (ao:Option Addr) (n cap:Nat) (a:List Int) (h:Rd .u8 w (.slice ao n cap) a) (hl:a.length=n) (hby:YL a) (hn:n≤8192) :
    Calls Tryz.prog 141 #[.slice ao n cap] w fun e w'=>(∃u s,e=.returned (.tuple #[.agg #[u],.int .i64 s])∧((Vs a=false∧s=0∧u=.slice none 0 0)∨(Vs a=true∧s=((2+YP a:Nat):Int)∧Own .u8 5 w' w.heap.size u (Zw a))))∧ZX w w':=by
 have B0:Hid (ZX w (w.alloc (.cells #[.slice none 0 0] 110))):=ZR.alloc ZW _;have HL:=Z8 hl
 by_cases h2:n<2
 · have tr:(n:Int)<2:=by omega
   have pA:decide ((n:Int)<2)=true:=by simpa using tr
   have HF:Hid (Vs a=false):=WB (fun hk=>by have:=hk.1;have:=HL.out;omega)
   go_enter Tryz.func141,Tryz.ntmps141
   go_wp2;refine ZT (v:=.tuple #[.agg #[.slice none 0 0],.int .i64 0]) (by simp [results,Tryz.results141,go_sem]) rfl ⟨⟨_,_,rfl,.inl ⟨HF.out,rfl,rfl⟩⟩,?_⟩
   repeat (first | exact B0.out | refine Zf ?_ (by simp;try omega) _)
 have tr:¬(n:Int)<2:=by omega
 have pA:decide ((n:Int)<2)=false:=by simpa using tr
 obtain ⟨blk,o,rfl,hb,hcap,hcm,hc⟩:=h.cut HL.out (by omega);obtain ⟨x0,hx0,hxe0⟩:=Wr hby 0;obtain ⟨x1,hx1,hxe1⟩:=Wr hby 1;have c0:=hc 0 (by omega);have c1:=hc 1 (by omega);rw [hxe0,Mg] at c0;rw [hxe1] at c1;have HC:=Z8 hc;have Xe:=Z8 hby
 have hn0:(0:Int)<(n:Int):=by omega
 have hn1:(1:Int)<(n:Int):=by omega
 have HM:Hid (YP a=x0 % 128*128+x1 % 128):=by show _=_;unfold YP;rw [hxe0,hxe1,XT,XT]
 have HCM:=Z8 hcm;unfold maxLen at hcm
 by_cases q0:(x0:Int)<128
 · have py:decide ((x0:Int)<128)=true:=by simpa using q0
   have HF:=Z8 (WB (fun hk=>by have:=hk.2.1;rw [hxe0] at this;omega))
   go_enter Tryz.func141,Tryz.ntmps141
   go_wp2;refine ZT (v:=.tuple #[.agg #[.slice none 0 0],.int .i64 0]) (by simp [results,Tryz.results141,go_sem]) rfl ⟨⟨_,_,rfl,.inl ⟨HF.out,rfl,rfl⟩⟩,?_⟩
   repeat (first | exact B0.out | refine Zf ?_ (by simp;try omega) _)
 have py:decide ((x0:Int)<128)=false:=by simpa using q0
 by_cases q1:(x1:Int)<128
 · have px:decide ((x1:Int)<128)=true:=by simpa using q1
   have HF:=Z8 (WB (fun hk=>by have:=hk.2.2.1;rw [hxe1] at this;omega))
   go_enter Tryz.func141,Tryz.ntmps141
   go_wp2;refine ZT (v:=.tuple #[.agg #[.slice none 0 0],.int .i64 0]) (by simp [results,Tryz.results141,go_sem]) rfl ⟨⟨_,_,rfl,.inl ⟨HF.out,rfl,rfl⟩⟩,?_⟩
   repeat (first | exact B0.out | refine Zf ?_ (by simp;try omega) _)
 have px:decide ((x1:Int)<128)=false:=by simpa using q1
 have hand0:=KL x0 hx0;have hand1:=KL x1 hx1;have WC:Hid (2+YP a≤n→Zw a≠[]→(Zw a).length≤2000→Vs a=true):=fun k1 k2 k3=>(Vr a).2 ⟨by rw [HL.out];omega,by rw [hxe0];omega,by rw [hxe1];omega,by rw [HL.out];exact k1,k2,k3⟩
 generalize hy0:x0 % 128=y0 at *;generalize hy1:x1 % 128=y1 at *;have hy0':y0<128:=by omega
 have pw:y1<128:=by omega
 go_enter Tryz.func141,Tryz.ntmps141
 go_wp2_with fail
 go_quiet (fail)
 by_cases hs:2+(y0*128+y1)≤n
 · have hsI:¬(n:Int)<2+(y0:Int)*128+(y1:Int):=by omega
   have hsd:decide ((n:Int)<2+(y0:Int)*128+(y1:Int))=false:=by simpa using hsI
   by_cases hcp:cap=2
   · have Z1:(cap=2)=True:=by simp [hcp]
     have RS:Hid (Rd .u8 w (.slice (some ⟨blk,o,none⟩) (2+y0*128+y1 - 2) 0) ((a.drop 2).take (YP a))):=by
      have hz:y0*128+y1=0:=by omega
      rw [HM.out,hz,show 2+y0*128+y1 - 2=0 by omega];exact ⟨_,0,rfl,ZW,ZQ _,.inl (by simp)⟩
     go_wp2_with fail
     refine (Ts _ _ _ (RS.out.below (YO B0.out nq)) (Qn Xe.out 2 (YP a)) (by rw [YC];have:=HM.out;omega)).mono ?_;rintro e w2 ⟨u,rfl,o2,b2⟩;have xY:Own .u8 5 w2 _ u (Zw a):=o2;obtain ⟨ua,uc,rfl⟩:=Own.slice xY;have B2:=Z8 ((YO B0.out nq).trans (b2.mono (by show w.heap.size≤(w.alloc _).heap.size;simp)));have O2:=Z8 (Own.mono xY (by show w.heap.size≤(w.alloc _).heap.size;simp));have BH:(Zw a).length≤maxLen:=by obtain ⟨_,_,e,h1,h2⟩:=O2.out.rd.len;simp only [Zc] at e;omega
     unfold maxLen at BH;have X2:=Z8 ((GJ.drewN (GJ.new w (.slice none 0 0) 110) nq).below b2);have F2:Hid (w2.frozen? ⟨w.heap.size,0,none⟩=false):=(b2.frozen (p:=⟨w.heap.size,0,none⟩) (by show w.heap.size<(w.alloc _).heap.size;simp)).trans (by simp);have NB:Hid (Value.ownBlock (.slice ua (Zw a).length uc)≠some w.heap.size):=fun e=>by have:=(Own.lt xY _ e).1;have h':(w.alloc (.cells #[.slice none 0 0] 110)).heap.size≤w.heap.size:=this;rw [XE] at h';omega
     have HP:Hid (Zw a≠[]↔(Zw a).length≠0):=by show _↔_;cases Zw a <;> simp
     have HS:Hid (((2+YP a:Nat):Int)=2+(y0:Int)*128+(y1:Int)):=by rw [HM.out];show _=_;omega
     have qZ:Hid (2+YP a≤n):=by rw [HM.out];show _≤_;omega
     have Su:Hid ((Zw a).length=0∨2000<(Zw a).length→Vs a=false):=fun hh=>WB (fun hk=>by have h5:=HP.out.1 hk.2.2.2.2.1;have h6:=hk.2.2.2.2.2;omega)
     have Ga:Hid ((Zw a).length≠0→(Zw a).length≤2000→Vs a=true):=fun h5 h6=>WC.out qZ.out (HP.out.2 h5) h6
     obtain ⟨z2,d0⟩:=X2.out;have f0:=F2.out;generalize hp:Zw a=p at *;have wG:=Z8 hp;have YY:∀(u:Value) (o:Obj),((w2.setCell ⟨w.heap.size,0,none⟩ u).alloc o).cell? ⟨w.heap.size,0,none⟩=some u:=fun u o=>(LE (Ev X2.out u) o).2
     by_cases l0:p.length=0
     · have Ab:(p.length:Int)=0:=by omega
       have qY:((p.length:Int) == 0)=true:=by simpa using Ab
       go_wp2;refine ZT (v:=.tuple #[.agg #[.slice none 0 0],.int .i64 0]) (by simp [results,Tryz.results141,go_sem,YY]) rfl ⟨⟨_,_,rfl,.inl ⟨Su.out (.inl l0),rfl,rfl⟩⟩,?_⟩
       repeat (first | exact B2.out | exact B2.out.alloc B2.out.size _ | refine Zf ?_ (by simp;try omega) _ | refine xO ?_ (by simp;try omega) _)
     have Ab:¬(p.length:Int)=0:=by omega
     have qY:((p.length:Int) == 0)=false:=by simpa using Ab
     by_cases l2:2000<p.length
     · have Aa:(2000:Int)<(p.length:Int):=by omega
       have qX:decide ((2000:Int)<(p.length:Int))=true:=by simpa using Aa
       go_wp2;refine ZT (v:=.tuple #[.agg #[.slice none 0 0],.int .i64 0]) (by simp [results,Tryz.results141,go_sem,YY]) rfl ⟨⟨_,_,rfl,.inl ⟨Su.out (.inr l2),rfl,rfl⟩⟩,?_⟩
       repeat (first | exact B2.out | exact B2.out.alloc B2.out.size _ | refine Zf ?_ (by simp;try omega) _ | refine xO ?_ (by simp;try omega) _)
     have Aa:¬(2000:Int)<(p.length:Int):=by omega
     have qX:decide ((2000:Int)<(p.length:Int))=false:=by simpa using Aa
     go_wp2;refine ZT (v:=.tuple #[.agg #[.slice ua p.length uc],.int .i64 (2+(y0:Int)*128+(y1:Int))]) (by simp [results,Tryz.results141,go_sem,YY]) rfl ⟨⟨_,_,rfl,.inr ⟨Ga.out l0 (by omega),HS.out.symm,?_⟩⟩,?_⟩
     · rw [wG.out]
       repeat (first | exact O2.out | refine Own.setAt ?_ (.inr NB.out) | refine Ud ?_ _)
     repeat (first | exact B2.out | exact B2.out.alloc B2.out.size _ | refine Zf ?_ (by simp;try omega) _ | refine xO ?_ (by simp;try omega) _)
   have RS:Hid (Rd .u8 w (.slice (some ⟨blk,o+2,none⟩) (2+y0*128+y1 - 2) (cap - 2)) ((a.drop 2).take (YP a))):=by
    rw [HM.out,show 2+y0*128+y1 - 2=y0*128+y1 by omega];exact Ip hb HC.out HL.out 2 (y0*128+y1) (by omega) hcap HCM.out
   go_wp2_with fail
   refine (Ts _ _ _ (RS.out.below (YO B0.out nq)) (Qn Xe.out 2 (YP a)) (by rw [YC];have:=HM.out;omega)).mono ?_;rintro e w2 ⟨u,rfl,o2,b2⟩;have xY:Own .u8 5 w2 _ u (Zw a):=o2;obtain ⟨ua,uc,rfl⟩:=Own.slice xY;have B2:=Z8 ((YO B0.out nq).trans (b2.mono (by show w.heap.size≤(w.alloc _).heap.size;simp)));have O2:=Z8 (Own.mono xY (by show w.heap.size≤(w.alloc _).heap.size;simp));have BH:(Zw a).length≤maxLen:=by obtain ⟨_,_,e,h1,h2⟩:=O2.out.rd.len;simp only [Zc] at e;omega
   unfold maxLen at BH;have X2:=Z8 ((GJ.drewN (GJ.new w (.slice none 0 0) 110) nq).below b2);have F2:Hid (w2.frozen? ⟨w.heap.size,0,none⟩=false):=(b2.frozen (p:=⟨w.heap.size,0,none⟩) (by show w.heap.size<(w.alloc _).heap.size;simp)).trans (by simp);have NB:Hid (Value.ownBlock (.slice ua (Zw a).length uc)≠some w.heap.size):=fun e=>by have:=(Own.lt xY _ e).1;have h':(w.alloc (.cells #[.slice none 0 0] 110)).heap.size≤w.heap.size:=this;rw [XE] at h';omega
   have HP:Hid (Zw a≠[]↔(Zw a).length≠0):=by show _↔_;cases Zw a <;> simp
   have HS:Hid (((2+YP a:Nat):Int)=2+(y0:Int)*128+(y1:Int)):=by rw [HM.out];show _=_;omega
   have qZ:Hid (2+YP a≤n):=by rw [HM.out];show _≤_;omega
   have Su:Hid ((Zw a).length=0∨2000<(Zw a).length→Vs a=false):=fun hh=>WB (fun hk=>by have h5:=HP.out.1 hk.2.2.2.2.1;have h6:=hk.2.2.2.2.2;omega)
   have Ga:Hid ((Zw a).length≠0→(Zw a).length≤2000→Vs a=true):=fun h5 h6=>WC.out qZ.out (HP.out.2 h5) h6
   obtain ⟨z2,d0⟩:=X2.out;have f0:=F2.out;generalize hp:Zw a=p at *;have wG:=Z8 hp;have YY:∀(u:Value) (o:Obj),((w2.setCell ⟨w.heap.size,0,none⟩ u).alloc o).cell? ⟨w.heap.size,0,none⟩=some u:=fun u o=>(LE (Ev X2.out u) o).2
   by_cases l0:p.length=0
   · have Ab:(p.length:Int)=0:=by omega
     have qY:((p.length:Int) == 0)=true:=by simpa using Ab
     go_wp2;refine ZT (v:=.tuple #[.agg #[.slice none 0 0],.int .i64 0]) (by simp [results,Tryz.results141,go_sem,YY]) rfl ⟨⟨_,_,rfl,.inl ⟨Su.out (.inl l0),rfl,rfl⟩⟩,?_⟩
     repeat (first | exact B2.out | exact B2.out.alloc B2.out.size _ | refine Zf ?_ (by simp;try omega) _ | refine xO ?_ (by simp;try omega) _)
   have Ab:¬(p.length:Int)=0:=by omega
   have qY:((p.length:Int) == 0)=false:=by simpa using Ab
   by_cases l2:2000<p.length
   · have Aa:(2000:Int)<(p.length:Int):=by omega
     have qX:decide ((2000:Int)<(p.length:Int))=true:=by simpa using Aa
     go_wp2;refine ZT (v:=.tuple #[.agg #[.slice none 0 0],.int .i64 0]) (by simp [results,Tryz.results141,go_sem,YY]) rfl ⟨⟨_,_,rfl,.inl ⟨Su.out (.inr l2),rfl,rfl⟩⟩,?_⟩
     repeat (first | exact B2.out | exact B2.out.alloc B2.out.size _ | refine Zf ?_ (by simp;try omega) _ | refine xO ?_ (by simp;try omega) _)
   have Aa:¬(2000:Int)<(p.length:Int):=by omega
   have qX:decide ((2000:Int)<(p.length:Int))=false:=by simpa using Aa
   go_wp2;refine ZT (v:=.tuple #[.agg #[.slice ua p.length uc],.int .i64 (2+(y0:Int)*128+(y1:Int))]) (by simp [results,Tryz.results141,go_sem,YY]) rfl ⟨⟨_,_,rfl,.inr ⟨Ga.out l0 (by omega),HS.out.symm,?_⟩⟩,?_⟩
   · rw [wG.out]
     repeat (first | exact O2.out | refine Own.setAt ?_ (.inr NB.out) | refine Ud ?_ _)
   repeat (first | exact B2.out | exact B2.out.alloc B2.out.size _ | refine Zf ?_ (by simp;try omega) _ | refine xO ?_ (by simp;try omega) _)
 have hsI:(n:Int)<2+(y0:Int)*128+(y1:Int):=by omega
 have hsd:decide ((n:Int)<2+(y0:Int)*128+(y1:Int))=true:=by simpa using hsI
 have HF:=Z8 (WB (fun hk=>by have:=hk.2.2.2.1;rw [HM.out,HL.out] at this;omega));go_wp2;refine ZT (v:=.tuple #[.agg #[.slice none 0 0],.int .i64 0]) (by simp [results,Tryz.results141,go_sem]) rfl ⟨⟨_,_,rfl,.inl ⟨HF.out,rfl,rfl⟩⟩,?_⟩
 repeat (first | exact B0.out | refine Zf ?_ (by simp;try omega) _ | exact YO B0.out _)
theorem Tryz.LD:(Tryz.prog.info? 91).map (fun i=>(i.zero,i.size,i.bytes))=some (some (.agg #[.int .i64 0,.slice none 0 0]),2,32):=by kernel_rfl
def Eu (ps:List (Int × List Int)) (k i:Nat):Int:=if i<k then pB ps i else 0
def FU (dv:Nat→Value) (k i:Nat):Value:=if i<k then dv i else .slice none 0 0
def Zb (dv:Nat→Value) (k:Nat) (v:Value) (i:Nat):Value:=if i=k then v else dv i
theorem Dv {k:Nat} (ps:List (Int × List Int)) (dv:Nat→Value) (v:Value) (hk:k<n) :
    ((Yt n (Eu ps k) (FU dv k)).set (k*2) (.int .i64 (pB ps k))).set (k*2+1) v=Yt n (Eu ps (k+1)) (FU (Zb dv k v) (k+1)):=by
 have h:=Ir (n:=n) (f:=Eu ps k) (f':=Eu ps (k+1)) (g:=FU dv k) (g':=FU (Zb dv k v) (k+1)) hk
  (by intro i hi;unfold Eu;by_cases h:i<k
      · rw [ZY h,ZY (by omega)]
      rw [Z3 h,Z3 (by omega)])
  (by intro i hi;unfold FU Zb;by_cases h:i<k
      · rw [ZY h,ZY (by omega),Z3 hi]
      rw [Z3 h,Z3 (by omega)])
 rw [show Eu ps (k+1) k=pB ps k from ZY (by omega),show FU (Zb dv k v) (k+1) k=v by unfold FU Zb;rw [ZY (by omega),ZY rfl]] at h;exact h
theorem MP {w2:World} {k:Nat} (ps:List (Int × List Int)) (dv:Nat→Value) (hk:k<n)
    (ho:w2.ownsRow lo 91 2 (.slice (some ⟨lo,0,none⟩) n n) n (Yt n (Eu ps k) (FU dv k))) (hB:lo<B)
    (h1:∀i,i<k→Own .u8 5 w2 (lo+1) (dv i) (pD ps i)) (h2:∀i j,i<k→j<k→i≠j→PL (dv i) (dv j)) (h3:∀i,i<k→∀g,(dv i).ownBlock=some g→g<B)
    (h4:Own .u8 5 w2 B v (pD ps k)) (hb:Below lo w w2) :
    ((w2.setCell ⟨lo,k*2,none⟩ (.int .i64 (pB ps k))).setCell ⟨lo,k*2+1,none⟩ v).ownsRow lo 91 2 (.slice (some ⟨lo,0,none⟩) n n) n (Yt n (Eu ps (k+1)) (FU (Zb dv k v) (k+1))) ∧
    ((∀i,i<k+1→Own .u8 5 ((w2.setCell ⟨lo,k*2,none⟩ (.int .i64 (pB ps k))).setCell ⟨lo,k*2+1,none⟩ v) (lo+1) (Zb dv k v i) (pD ps i)) ∧
     (∀i j,i<k+1→j<k+1→i≠j→PL (Zb dv k v i) (Zb dv k v j))) ∧
    Below lo w ((w2.setCell ⟨lo,k*2,none⟩ (.int .i64 (pB ps k))).setCell ⟨lo,k*2+1,none⟩ v):=by
 have ne:∀ {x:Value} {q:List Int},Own .u8 5 w2 (lo+1) x q→x.ownBlock=none∨x.ownBlock≠some lo:=by
  intro x q h
  cases hv:x.ownBlock with
  | none=>exact .inl rfl
  | some g=>exact .inr (fun e=>by have:=(h.lt g hv).1;simp at e;omega)
 refine ⟨?_,⟨fun i hi=>?_,fun i j hi hj hne=>?_⟩,(hb.setCell ZW _).setCell ZW _⟩
 · have s1:=(OV ho (k*2) (.int .i64 (pB ps k))).1
   have s2:=(OV s1 (k*2+1) v).1;rw [Dv ps dv v hk] at s2;exact s2
 · unfold Zb
   by_cases e:i=k
   · subst e
     rw [ZY rfl];have h5:=h4.mono (show lo+1≤B by omega);exact (h5.setAt (ne h5)).setAt (ne h5)
   rw [Z3 e];have h5:=h1 i (by omega);exact (h5.setAt (ne h5)).setAt (ne h5)
 unfold Zb PL
 by_cases ei:i=k
 · rw [ZY ei,Z3 (show ¬j=k by omega)]
   cases hv:v.ownBlock with
   | none=>exact .inl rfl
   | some g=>exact .inr (fun e=>by have a:=(h4.lt g hv).1;have b:=h3 j (by omega) g e.symm;omega)
 rw [Z3 ei]
 by_cases ej:j=k
 · rw [ZY ej]
   cases hv:(dv i).ownBlock with
   | none=>exact .inl rfl
   | some g=>exact .inr (fun e=>by have a:=(h4.lt g e.symm).1;have b:=h3 i (by omega) g hv;omega)
 rw [Z3 ej];exact h2 i j (by omega) (by omega) hne
theorem KG (w:World) (b o n cap:Nat) (ps:List (Int × List Int)) (hp:ps.length=n) (hb:b<w.heap.size)
    (hc:∀i,i<n→w.cell? ⟨b,o+i*2,none⟩=some (.int .i64 (pB ps i))∧∃da c,w.cell? ⟨b,o+i*2+1,none⟩=some (.slice da (pD ps i).length c)∧Rd .u8 w (.slice da (pD ps i).length c) (pD ps i))
    (hn:n≤1048576) (hd:∀i,(pD ps i).length≤1048576) :
    Calls Tryz.prog 29 #[.slice (some ⟨b,o,none⟩) n cap] w fun e w'=>∃v' dv,e=.returned v'∧VQ 91 w' w.heap.size v' ps dv∧ZX w w':=by
 obtain ⟨i0,hi,hz0,hz1,hz2⟩:=YH Tryz.LD;have HC:=Z8 hc;have HP:=Z8 hp;have HD:=Z8 hd
 go_enter Tryz.func29,Tryz.ntmps29
 go_wp2_with (at_make;go_must (refine EU _ rfl _ _ 34 rfl w.heap.size 91 i0 (.agg #[.int .i64 0,.slice none 0 0]) 2 Tryz.underlying34 hi hz0 hz1 _ _ _ _ n rfl rfl rfl rfl ?b2 ?b3 ?b4 ?_))
 case b2=>rw [hz2];omega
 case b3=>unfold maxLen;omega
 case b4=>exact ZW
 intro w1 hown hgrow;have HO:Hid (w1.ownsRow w.heap.size 91 2 (.slice (some ⟨w.heap.size,0,none⟩) n n) n (Yt n (Eu ps 0) (FU (fun _=>.slice none 0 0) 0))):=by
  have e:Yt n (Eu ps 0) (FU (fun _=>.slice none 0 0) 0)=Yt n (fun _=>0) (fun _=>.slice none 0 0):=WS (fun _ _=>rfl) (fun _ _=>rfl);show World.ownsRow _ _ _ _ _ _ _;rw [e,←LF];exact hown
 have HG:=Z8 (ZR.grown hgrow ZW (by simp));have z1:w.heap.size<w1.heap.size:=by have:=(ZO HO.out w.heap.size rfl).2;exact this
 go_wp2
 go_loopw [4] (fun i wr=>∃(k:Nat) (dv:Nat→Value),k≤n∧i=.int .i64 k∧wr.ownsRow w.heap.size 91 2 (.slice (some ⟨w.heap.size,0,none⟩) n n) n (Yt n (Eu ps k) (FU dv k)) ∧
     Hid ((∀i,i<k→Own .u8 5 wr (w.heap.size+1) (dv i) (pD ps i))∧(∀i j,i<k→j<k→i≠j→PL (dv i) (dv j)))∧ZX w wr) (fun i _=>n - (intOf i).toNat)
 case atStart=>exact ⟨0,fun _=>.slice none 0 0,ZQ _,rfl,HO.out,⟨fun i hi=>by omega,fun i j hi=>by omega⟩,HG.out⟩
 case round =>
  obtain ⟨k,dv,hk,rfl,ho,HI,hg⟩:=hrel
  by_cases hlt:k<n
  · obtain ⟨c1,da,dc,c2,r⟩:=HC.out k hlt
    have YN:(k:Int)<(n:Int):=by omega
    have c1':=(hg.cell (p:=⟨b,o+k*2,none⟩) hb).trans c1;have c2':=(hg.cell (p:=⟨b,o+k*2+1,none⟩) hb).trans c2;have HR:=Z8 (r.below hg);have K:=Z8 hg;have HOr:=Z8 ho;have zr:=(ZO ho w.heap.size rfl).2
    go_wp2_with fail
    refine (Iq _ _ _ (pD ps k) HR.out (by have:=HD.out k;omega)).mono ?_;rintro e w2 ⟨v2,rfl,o2,b2⟩;obtain ⟨a2,Z,rfl⟩:=o2.slice;have O2:=Z8 o2;have Sv:w2.ownsRow w.heap.size 91 2 (.slice (some ⟨w.heap.size,0,none⟩) n n) n (Yt n (Eu ps k) (FU dv k)) :=
     Yy HOr.out (row:=none) ⟨b2.os,b2.tape,b2.output,b2.size,fun k hk _=>b2.block k hk⟩ (.inr (by simp [Value.ownBlock]))
    have f0:=Rh Sv (k*2);have f1:=Rh Sv (k*2+1);have d0:=(U0 Sv (k*2) (by omega)).trans (WE n _ _ (k*2) (by omega));have d1:=(U0 Sv (k*2+1) (by omega)).trans (WE n _ _ (k*2+1) (by omega));obtain ⟨x0,d0⟩:∃x,w2.cell? ⟨w.heap.size,k*2,none⟩=some x:=⟨_,d0⟩;obtain ⟨x1,d1⟩:∃x,w2.cell? ⟨w.heap.size,k*2+1,none⟩=some x:=⟨_,d1⟩;have J:=Z8 Sv;have HI2:Hid ((∀i,i<k→Own .u8 5 w2 (w.heap.size+1) (dv i) (pD ps i))∧(∀i,i<k→∀g,(dv i).ownBlock=some g→g<wr.heap.size)) :=
     ⟨fun i hi=>(HI.out.1 i hi).below b2,fun i hi g hg=>((HI.out.1 i hi).lt g hg).2⟩
    have HG2:=Z8 (Ye K.out b2);have S:Hid (((w2.setCell ⟨w.heap.size,k*2,none⟩ (.int .i64 (pB ps k))).setCell ⟨w.heap.size,k*2+1,none⟩ (.slice a2 (pD ps k).length Z)).ownsRow w.heap.size 91 2 (.slice (some ⟨w.heap.size,0,none⟩) n n) n (Yt n (Eu ps (k+1)) (FU (Zb dv k (.slice a2 (pD ps k).length Z)) (k+1))) ∧
        ((∀i,i<k+1→Own .u8 5 ((w2.setCell ⟨w.heap.size,k*2,none⟩ (.int .i64 (pB ps k))).setCell ⟨w.heap.size,k*2+1,none⟩ (.slice a2 (pD ps k).length Z)) (w.heap.size+1) (Zb dv k (.slice a2 (pD ps k).length Z) i) (pD ps i)) ∧
         (∀i j,i<k+1→j<k+1→i≠j→PL (Zb dv k (.slice a2 (pD ps k).length Z) i) (Zb dv k (.slice a2 (pD ps k).length Z) j))) ∧
        ZX w ((w2.setCell ⟨w.heap.size,k*2,none⟩ (.int .i64 (pB ps k))).setCell ⟨w.heap.size,k*2+1,none⟩ (.slice a2 (pD ps k).length Z))) :=
     MP ps dv hlt J.out (by omega) HI2.out.1 HI.out.2 HI2.out.2 O2.out HG2.out
    go_wp2
    go_roundw
    case rel=>exact ⟨k+1,Zb dv k (.slice a2 (pD ps k).length Z),by omega,by go_num,S.out.1,S.out.2.1,S.out.2.2⟩
    case measure=>simp [intOf];omega
  have hkn:k=n:=by omega
  subst hkn;go_wp2;go_ret;refine ⟨_,dv,rfl,⟨?_,fun i hi=>((HI.out.1 i (by rw [HP.out] at hi;exact hi)).mono (by omega)).b,fun i j hi hj hne=>HI.out.2 i j (by rw [HP.out] at hi;exact hi) (by rw [HP.out] at hj;exact hj) hne,fun i hi=>?_⟩,hg⟩
  · rw [HP.out]
    have e:Yt k (Eu ps k) (FU dv k)=Yt k (pB ps) dv:=WS (fun i hi=>ZY hi) (fun i hi=>ZY hi);rw [←e];exact ho
  have h1:=HI.out.1 i (by rw [HP.out] at hi;exact hi);unfold PL
  cases hv:(dv i).ownBlock with
  | none=>exact .inl rfl
  | some q=>exact .inr (fun e=>by have:=(h1.lt q hv).1;simp [Value.ownBlock] at e;omega)
theorem KF (w:World) (ao:Option Addr) (cap:Nat) :
    Calls Tryz.prog 29 #[.slice ao 0 cap] w fun e w'=>∃v' dv,e=.returned v'∧VQ 91 w' w.heap.size v' [] dv∧ZX w w':=by
 obtain ⟨i0,hi,hz0,hz1,hz2⟩:=YH Tryz.LD
 go_enter Tryz.func29,Tryz.ntmps29
 go_wp2_with (at_make;go_must (refine EU _ rfl _ _ 34 rfl w.heap.size 91 i0 (.agg #[.int .i64 0,.slice none 0 0]) 2 Tryz.underlying34 hi hz0 hz1 _ _ _ _ 0 rfl rfl rfl rfl ?b2 ?b3 ?b4 ?_))
 case b2=>rw [hz2];omega
 case b3=>unfold maxLen;omega
 case b4=>exact ZW
 intro w1 hown hgrow;have HO:Hid (w1.ownsRow w.heap.size 91 2 (.slice (some ⟨w.heap.size,0,none⟩) 0 0) 0 []):=by
  have e:=LF 0;rw [E9] at e;rw [e] at hown;exact hown
 have HG:=Z8 (ZR.grown hgrow ZW (by simp));go_wp2
 go_rounds 1
 go_ret;exact ⟨_,fun _=>.slice none 0 0,rfl,⟨HO.out,fun i hi=>absurd hi (Jn _),fun i j hi=>absurd hi (Jn _),fun i hi=>absurd hi (Jn _)⟩,HG.out⟩
theorem KE (w:World) (v:Value) (ps:List (Int × List Int)) (h:XP w v ps) (hn:ps.length≤1048576) (hd:∀i,(pD ps i).length≤1048576) :
    Calls Tryz.prog 29 #[v] w fun e w'=>∃v' dv,e=.returned v'∧VQ 91 w' w.heap.size v' ps dv∧ZX w w':=by
 obtain ⟨ao,cap,rfl,k1,k2,k3⟩:=h
 rcases k3 with rfl | ⟨b,o,rfl,hb,hc⟩
 · exact KF w ao cap
 exact KG w b o ps.length cap ps rfl hb hc hn hd
theorem VQ.slice {dv:Nat→Value} (h:VQ e w lo v ps dv):∃a c,v=.slice a ps.length c:=by
 obtain ⟨a,c,h0,_⟩:=h.rd.len;exact ⟨a,c,h0⟩
theorem VQ.ZK {dv:Nat→Value} (h:VQ e w lo v ps dv) {a:Addr} (ha:a.block<lo) (u:Value):VQ e (w.setCell a u) lo v ps dv :=
 ⟨LY h.1 ha u,fun i hi=>(h.2.1 i hi).ZK ha u,h.2.2⟩
theorem FT (w:World) (vd vp:Value) (Z7:List Int) (ps:List (Int × List Int)) (h:Rd .u8 w vd Z7) (hp:XP w vp ps) (hl:Z7.length≤1048576) (hn:ps.length≤1048576) (hd:∀i,(pD ps i).length≤1048576) :
    Calls Tryz.prog 6 #[.agg #[vd,vp]] w fun e w'=>∃va ca vb cb dv mid,e=.returned (.agg #[.slice va Z7.length ca,.slice vb ps.length cb])∧Own .u8 5 w' w.heap.size (.slice va Z7.length ca) Z7 ∧
     (∀g,Value.ownBlock (.slice va Z7.length ca)=some g→g<mid)∧VQ 91 w' mid (.slice vb ps.length cb) ps dv∧w.heap.size≤mid∧ZX w w':=by
 obtain ⟨ao,cap,rfl,k1,k2⟩:=h.len;obtain ⟨bo,P,rfl,k3,k4⟩:=hp.len;have HB:Hid (∀o1 o2 o3,ZX w (((w.alloc o1).alloc o2).alloc o3)):=fun o1 o2 o3=>((ZR.alloc ZW _).alloc (by simp) _).alloc (by simp;omega) _
 have HR:=Z8 h;have HP:=Z8 hp
 go_enter Tryz.func6,Tryz.ntmps6
 go_wp2_with fail
 refine (PT _ _ Z7 (HR.out.below (HB.out _ _ _)) (by omega)).mono ?_;rintro e w1 ⟨v1,rfl,o1,b1⟩;obtain ⟨a1,c1,rfl⟩:=o1.slice;have Z0:w1.cell? ⟨w.heap.size,1,none⟩=some (.slice bo ps.length P):=(b1.cell (p:=⟨w.heap.size,1,none⟩) (by simp;omega)).trans (by go_simp);have ZZ:w1.cell? ⟨w.heap.size+1,0,none⟩=some (.slice none 0 0):=(b1.cell (p:=⟨w.heap.size+1,0,none⟩) (by simp)).trans (by go_simp);have ZV:w1.cell? ⟨w.heap.size+1,1,none⟩=some (.slice none 0 0):=(b1.cell (p:=⟨w.heap.size+1,1,none⟩) (by simp)).trans (by go_simp);have ZU:w1.frozen? ⟨w.heap.size+1,0,none⟩=false:=(b1.frozen (p:=⟨w.heap.size+1,0,none⟩) (by simp)).trans (by go_simp);have ZS:w1.frozen? ⟨w.heap.size+1,1,none⟩=false:=(b1.frozen (p:=⟨w.heap.size+1,1,none⟩) (by simp)).trans (by go_simp);have ZN:w1.cell? ⟨w.heap.size+2,0,none⟩=some (.slice none 0 0):=(b1.cell (p:=⟨w.heap.size+2,0,none⟩) (by simp)).trans (by go_simp);have ZM:w1.cell? ⟨w.heap.size+2,1,none⟩=some (.slice none 0 0):=(b1.cell (p:=⟨w.heap.size+2,1,none⟩) (by simp)).trans (by go_simp);have ZL:w1.frozen? ⟨w.heap.size+2,0,none⟩=false:=(b1.frozen (p:=⟨w.heap.size+2,0,none⟩) (by simp)).trans (by go_simp);have ZI:w1.frozen? ⟨w.heap.size+2,1,none⟩=false:=(b1.frozen (p:=⟨w.heap.size+2,1,none⟩) (by simp)).trans (by go_simp);have O1:Hid (Own .u8 5 w1 (w.heap.size+3) (.slice a1 Z7.length c1) Z7):=by have:=o1;simp at this;exact this
 have z1:w.heap.size+3≤w1.heap.size:=by have:=b1.size;simp at this;omega
 have B1:=Z8 ((HB.out _ _ _).trans (b1.mono (by simp;omega)))
 go_wp2_with fail
 have BS:Hid (ZX w (w1.setCell ⟨w.heap.size+2,0,none⟩ (.slice a1 Z7.length c1))):=B1.out.setCell (by simp) _;have OS:Hid (Own .u8 5 (w1.setCell ⟨w.heap.size+2,0,none⟩ (.slice a1 Z7.length c1)) (w.heap.size+3) (.slice a1 Z7.length c1) Z7):=O1.out.ZK (by simp) _;have zS:(w1.setCell ⟨w.heap.size+2,0,none⟩ (.slice a1 Z7.length c1)).heap.size=w1.heap.size:=by simp
 have I:(w1.setCell ⟨w.heap.size+2,0,none⟩ (.slice a1 Z7.length c1)).cell? ⟨w.heap.size+1,0,none⟩=some (.slice none 0 0):=by go_simp
 have H:(w1.setCell ⟨w.heap.size+2,0,none⟩ (.slice a1 Z7.length c1)).cell? ⟨w.heap.size+1,1,none⟩=some (.slice none 0 0):=by go_simp
 have G:(w1.setCell ⟨w.heap.size+2,0,none⟩ (.slice a1 Z7.length c1)).cell? ⟨w.heap.size+2,0,none⟩=some (.slice a1 Z7.length c1):=by go_simp
 have E:(w1.setCell ⟨w.heap.size+2,0,none⟩ (.slice a1 Z7.length c1)).cell? ⟨w.heap.size+2,1,none⟩=some (.slice none 0 0):=by go_simp
 have C:(w1.setCell ⟨w.heap.size+2,0,none⟩ (.slice a1 Z7.length c1)).frozen? ⟨w.heap.size+1,0,none⟩=false:=by go_simp
 have A:(w1.setCell ⟨w.heap.size+2,0,none⟩ (.slice a1 Z7.length c1)).frozen? ⟨w.heap.size+1,1,none⟩=false:=by go_simp
 have Z':(w1.setCell ⟨w.heap.size+2,0,none⟩ (.slice a1 Z7.length c1)).frozen? ⟨w.heap.size+2,1,none⟩=false:=by go_simp
 generalize w1.setCell _ _=ws at *;refine (KE _ _ ps (HP.out.below BS.out) hn hd).mono ?_;rintro e w2 ⟨v2,dv,rfl,o2,b2⟩;obtain ⟨a2,c2,rfl⟩:=o2.slice;have z2:=b2.size;have Z9:=(b2.cell (p:=⟨w.heap.size+1,0,none⟩) (by simp;omega)).trans I;have Z6:=(b2.cell (p:=⟨w.heap.size+1,1,none⟩) (by simp;omega)).trans H;have ZH:=(b2.cell (p:=⟨w.heap.size+2,0,none⟩) (by simp;omega)).trans G;have ZG:=(b2.cell (p:=⟨w.heap.size+2,1,none⟩) (by simp;omega)).trans E;have hR0:=(b2.frozen (p:=⟨w.heap.size+1,0,none⟩) (by simp;omega)).trans C;have ZF:=(b2.frozen (p:=⟨w.heap.size+1,1,none⟩) (by simp;omega)).trans A;have ZE:=(b2.frozen (p:=⟨w.heap.size+2,1,none⟩) (by simp;omega)).trans Z';have OD:=Z8 (OS.out.below b2);have LT:Hid (∀g,Value.ownBlock (.slice a1 Z7.length c1)=some g→g<ws.heap.size):=fun g hg=>(OS.out.lt g hg).2
 have OP:=Z8 o2;have B2:=Z8 (Ye BS.out b2);go_wp2;refine ZT (v:=.agg #[.slice a1 Z7.length c1,.slice a2 ps.length c2]) (by simp [results,Tryz.results6,go_sem,Z9,Z6]) rfl ⟨a1,c1,a2,c2,dv,ws.heap.size,rfl,?_,LT.out,?_,by omega,?_⟩
 · refine Own.mono ?_ (show w.heap.size≤w.heap.size+3 by omega)
   repeat (first | exact OD.out | refine Own.ZK ?_ (by simp;try omega) _)
 · repeat (first | exact OP.out | refine VQ.ZK ?_ (by simp;omega) _)
 repeat (first | exact B2.out | refine Zf ?_ (by simp;try omega) _)
def zZ (n:Nat) (ps:List (Int × List Int)) (i:Nat):Prop:=0≤pB ps i∧pB ps i<n∧(pD ps i).length=64
def wF (dl:Nat) (ps:List (Int × List Int)):Prop:=dl % 64=0∧1≤dl / 64∧dl / 64≤300∧ps.length≤2000∧∀i,i<ps.length→zZ (dl / 64) ps i
def tq (n:Nat) (ps:List (Int × List Int)) (i:Nat):Bool:=decide (0≤pB ps i) && decide (pB ps i<n) && decide ((pD ps i).length=64)
theorem zY (n:Nat) (ps:List (Int × List Int)) (i:Nat):tq n ps i=true↔zZ n ps i:=by unfold tq zZ;simp [and_assoc]
def XY (dl:Nat) (ps:List (Int × List Int)):Bool:=decide (dl % 64=0) && decide (1≤dl / 64) && decide (dl / 64≤300) && decide (ps.length≤2000) && (List.range ps.length).all (tq (dl / 64) ps)
theorem Yv (dl:Nat) (ps:List (Int × List Int)):XY dl ps=true↔wF dl ps:=by
 unfold XY wF
 simp only [Yg,Zg,Pz,RZ,zY,and_assoc]
theorem Io (h:wF dl ps):XY dl ps=true:=(Yv dl ps).2 h
theorem Pn (h:¬wF dl ps):XY dl ps=false:=by
 cases e:XY dl ps with
 | false=>rfl
 | true=>exact absurd ((Yv dl ps).1 e) h
theorem Xm (w:World) (ao:Option Addr) (n cap:Nat) (vp:Value) (hn:n≤1048576) :
    Calls Tryz.prog 50 #[.agg #[.slice ao n cap,vp]] w (Ze w (.int .i64 ((n / 64:Nat):Int))):=by
 go_enter Tryz.func50,Tryz.ntmps50
 go_wp2;go_ret;exact ⟨Xo (by omega),ZR.alloc ZW _⟩
theorem VX (w:World) (ao:Option Addr) (n cap:Nat) (vp:Value) (hn:n≤1048576) :
    Calls Tryz.prog 68 #[.agg #[.slice ao n cap,vp]] w (Ze w (.int .i64 ((n / 64:Nat):Int))):=by
 go_enter Tryz.func68,Tryz.ntmps68
 go_wp2;go_ret;exact ⟨Xo (by omega),ZR.alloc ZW _⟩
theorem KD (w:World) (ao:Option Addr) (n cap:Nat) (vp:Value) (x:Int) (hn:n≤1048576) :
    Calls Tryz.prog 96 #[.agg #[.slice ao n cap,vp],.int .i64 x] w (Ze w (.bool (decide (0≤x∧x<(n / 64:Nat))))):=by
 have B0:Hid (ZX w (w.alloc (.cells #[.slice ao n cap,vp] 36))):=ZR.alloc ZW _
 by_cases h0:0≤x
 · go_enter Tryz.func96,Tryz.ntmps96
   go_wp2_with fail
   refine (VX _ ao n cap vp hn).mono ?_;rintro e w1 ⟨rfl,b1⟩;have B1:=Z8 (B0.out.trans (b1.mono (by simp)));generalize hm:n / 64=m at *;have HM:=Z8 hm
   by_cases h1:x<(m:Int)
   · go_wp2
     go_ret;exact ⟨ZJ (by have:=HM.out;symm;rw [Zg];omega),B1.out⟩
   go_wp2;go_ret;exact ⟨ZJ (by have:=HM.out;symm;rw [A6];omega),B1.out⟩
 have hd:decide (0≤x)=false:=by simpa using h0
 go_enter Tryz.func96,Tryz.ntmps96
 go_wp2;go_ret;exact ⟨ZJ (by symm;first | rfl | (rw [Rc];omega)),B0.out⟩
def Kz (w:World) (b o n:Nat) (ps:List (Int × List Int)):Prop :=
 ∀i,i<n→w.cell? ⟨b,o+i*2,none⟩=some (.int .i64 (pB ps i))∧∃da c,w.cell? ⟨b,o+i*2+1,none⟩=some (.slice da (pD ps i).length c)
theorem XP.cells (h:XP w (.slice ao n cap) ps) (hn:0<n):∃b o,ao=some ⟨b,o,none⟩∧b<w.heap.size∧Kz w b o n ps∧ps.length=n:=by
 obtain ⟨BK,cap',e,h1,h2,h3⟩:=h
 simp only [Zc] at e
 obtain ⟨rfl,rfl,rfl⟩:=e
 rcases h3 with rfl | ⟨b,o,rfl,hb,hc⟩
 · simp at hn
 exact ⟨b,o,rfl,hb,fun i hi=>⟨(hc i hi).1,by obtain ⟨da,c,h,_⟩:=(hc i hi).2;exact ⟨da,c,h⟩⟩,rfl⟩
theorem Kz.below {b:Nat} (h:Kz w b o n ps) (hb:b<w.heap.size) (hB:ZX w w'):Kz w' b o n ps :=
 fun i hi=>⟨(hB.cell (p:=⟨b,_,none⟩) hb).trans (h i hi).1,by obtain ⟨da,c,e⟩:=(h i hi).2;exact ⟨da,c,(hB.cell (p:=⟨b,_,none⟩) hb).trans e⟩⟩
theorem Of (w:World) (va vb:Option Addr) (dl ca n cb:Nat) (ps:List (Int × List Int)) (hp:XP w (.slice vb n cb) ps) (hl:ps.length=n) (hd:dl≤1048576)
    (h1:dl % 64=0) (h2:1≤dl / 64) (h3:dl / 64≤300) (h4:n≤2000) (hdl:∀i,(pD ps i).length≤1048576) :
    Calls Tryz.prog 49 #[.agg #[.slice va dl ca,.slice vb n cb]] w (Ze w (.bool (XY dl ps))):=by
 have B0:Hid (ZX w (w.alloc (.cells #[.slice va dl ca,.slice vb n cb] 36))):=ZR.alloc ZW _;have HP:=Z8 hp;have HL:=Z8 hl;have Uo:=Z8 hdl
 go_enter Tryz.func49,Tryz.ntmps49
 go_wp2_with fail
 refine (Xm _ va dl ca _ hd).mono ?_;rintro e w1 ⟨rfl,b1⟩;obtain ⟨c0,c1,_,_,z1⟩:=RF b1;have B1:=Z8 (B0.out.trans (b1.mono (by simp)));have t1:(((dl:Int) % 64) != 0)=false:=by rw [L8];omega
 have H1:=Z8 h1;generalize hm:dl / 64=m at *;have HM:=Z8 hm;have t2:¬(m:Int)<1:=by omega
 have t3:¬(300:Int)<(m:Int):=by omega
 have t4:¬(2000:Int)<(n:Int):=by omega
 go_wp2
 go_loop [4] (fun i=>∃k:Nat,k≤n∧i=.int .i64 k∧Hid (∀i,i<k→zZ m ps i)) (fun i=>n - (intOf i).toNat)
 case atStart=>exact ⟨0,ZQ _,rfl,fun i hi=>by omega⟩
 case round =>
  obtain ⟨k,hk,rfl,WC⟩:=hrel
  by_cases hlt:k<n
  · obtain ⟨b,o,rfl,hb,hc,_⟩:=HP.out.cells (by omega)
    obtain ⟨e1,da,dc,e2⟩:=(hc.below hb B1.out) k hlt;have YN:(k:Int)<(n:Int):=by omega
    have hdk:=Uo.out k
    by_cases hok:zZ m ps k
    · have HK:Hid (zZ m ps k):=hok
      obtain ⟨q1,q2,q3⟩:=hok;have q4:(((pD ps k).length:Int) != 64)=false:=by rw [L8];omega
      have q5:¬pB ps k<0:=by omega
      have q6:¬(m:Int)≤pB ps k:=by omega
      go_wp2
      go_round
      case rel=>exact ⟨k+1,by omega,by go_num,fun i hi=>by by_cases e:i=k;(subst e;exact HK.out);exact WC.out i (by omega)⟩
      case measure=>simp [intOf];omega
    have HN:Hid (XY dl ps=false):=Pn (by rintro ⟨_,_,_,_,h5⟩;rw [HM.out] at h5;exact hok (h5 k (by rw [HL.out];exact hlt)))
    by_cases q1:pB ps k<0
    · go_wp2
      go_ret;exact ⟨ZJ HN.out.symm,B1.out⟩
    by_cases q2:(m:Int)≤pB ps k
    · go_wp2
      go_ret;exact ⟨ZJ HN.out.symm,B1.out⟩
    have q3:(((pD ps k).length:Int) != 64)=true:=by rw [Rg];intro e;exact hok ⟨by omega,by omega,by omega⟩
    go_wp2;go_ret;exact ⟨ZJ HN.out.symm,B1.out⟩
  have HY:Hid (XY dl ps=true):=Io ⟨H1.out,by rw [HM.out];omega,by rw [HM.out];omega,by rw [HL.out];omega,fun i hi=>by rw [HM.out];exact WC.out i (by rw [HL.out] at hi;omega)⟩;have YN:¬(k:Int)<(n:Int):=by omega
  go_wp2;go_ret;exact ⟨ZJ HY.out.symm,B1.out⟩
theorem Oe (w:World) (va vb:Option Addr) (dl ca n cb:Nat) (hd:dl≤1048576) (hn:n≤1048576) (h:¬(dl % 64=0∧1≤dl / 64∧dl / 64≤300∧n≤2000)) :
    Calls Tryz.prog 49 #[.agg #[.slice va dl ca,.slice vb n cb]] w (Ze w (.bool false)):=by
 have B0:Hid (ZX w (w.alloc (.cells #[.slice va dl ca,.slice vb n cb] 36))):=ZR.alloc ZW _
 go_enter Tryz.func49,Tryz.ntmps49
 go_wp2_with fail
 refine (Xm _ va dl ca _ hd).mono ?_;rintro e w1 ⟨rfl,b1⟩;obtain ⟨c0,c1,_,_,z1⟩:=RF b1;have B1:=Z8 (B0.out.trans (b1.mono (by simp)))
 by_cases h1:dl % 64=0
 · have t1:(((dl:Int) % 64) != 0)=false:=by rw [L8];omega
   generalize dl / 64=m at *;have H1:=Z8 h1
   by_cases h2:(m:Int)<1
   · go_wp2
     go_ret;exact ⟨rfl,B1.out⟩
   by_cases h3:(300:Int)<(m:Int)
   · go_wp2
     go_ret;exact ⟨rfl,B1.out⟩
   have h4:(2000:Int)<(n:Int):=by have:=H1.out;omega
   go_wp2;go_ret;exact ⟨rfl,B1.out⟩
 have t1:(((dl:Int) % 64) != 0)=true:=by rw [Rg];omega
 generalize dl / 64=m at *;go_wp2;go_ret;exact ⟨rfl,B1.out⟩
theorem XG (w:World) (va vb:Option Addr) (dl ca n cb:Nat) (ps:List (Int × List Int)) (hp:XP w (.slice vb n cb) ps) (hl:ps.length=n) (hd:dl≤1048576) (hn:n≤1048576) (hdl:∀i,(pD ps i).length≤1048576) :
    Calls Tryz.prog 49 #[.agg #[.slice va dl ca,.slice vb n cb]] w (Ze w (.bool (XY dl ps))):=by
 by_cases h:dl % 64=0∧1≤dl / 64∧dl / 64≤300∧n≤2000
 · exact Of w va vb dl ca n cb ps hp hl hd h.1 h.2.1 h.2.2.1 h.2.2.2 hdl
 rw [Pn (fun h5=>h ⟨h5.1,h5.2.1,h5.2.2.1,by have:=h5.2.2.2.1;omega⟩)];exact Oe w va vb dl ca n cb hd hn h
theorem Od (w:World) (va vb:Option Addr) (dl ca n cb:Nat) (hd:dl≤1048576) (hn:n≤1048576) (h:¬(dl % 64=0∧1≤dl / 64∧dl / 64≤300∧n≤2000)) :
    Calls Tryz.prog 67 #[.agg #[.slice va dl ca,.slice vb n cb]] w (Ze w (.bool false)):=by
 have B0:Hid (ZX w (w.alloc (.cells #[.slice va dl ca,.slice vb n cb] 36))):=ZR.alloc ZW _
 by_cases h1:dl % 64=0
 · have t1:(((dl:Int) % 64) != 0)=false:=by rw [L8];omega
   have HX:=Z8 h;have H1:=Z8 h1
   go_enter Tryz.func67,Tryz.ntmps67
   go_wp2_with fail
   refine (VX _ va dl ca _ hd).mono ?_;rintro e w1 ⟨rfl,b1⟩;obtain ⟨c0,c1,_,_,z1⟩:=RF b1;have B1:=Z8 (B0.out.trans (b1.mono (by simp)));have h:=HX.out;have h1:=H1.out;generalize dl / 64=m at *
   by_cases h2:(m:Int)<1
   · clear h h1
     go_wp2;go_ret;exact ⟨rfl,B1.out⟩
   by_cases h3:(300:Int)<(m:Int)
   · clear h h1
     go_wp2;go_ret;exact ⟨rfl,B1.out⟩
   have h4:(2000:Int)<(n:Int):=by omega
   go_wp2;go_ret;exact ⟨rfl,B1.out⟩
 have t1:(((dl:Int) % 64) != 0)=true:=by rw [Rg];omega
 go_enter Tryz.func67,Tryz.ntmps67
 go_wp2;go_ret;exact ⟨rfl,B0.out⟩
theorem Oc (w:World) (va vb:Option Addr) (dl ca n cb:Nat) (ps:List (Int × List Int)) (hp:XP w (.slice vb n cb) ps) (hl:ps.length=n) (hd:dl≤1048576)
    (h1:dl % 64=0) (h2:1≤dl / 64) (h3:dl / 64≤300) (h4:n≤2000) (hdl:∀i,(pD ps i).length≤1048576) :
    Calls Tryz.prog 67 #[.agg #[.slice va dl ca,.slice vb n cb]] w (Ze w (.bool (XY dl ps))):=by
 have B0:Hid (ZX w (w.alloc (.cells #[.slice va dl ca,.slice vb n cb] 36))):=ZR.alloc ZW _;have HP:=Z8 hp;have HL:=Z8 hl;have Uo:=Z8 hdl;have H1:=Z8 h1;have H2:Hid (1≤dl / 64∧dl / 64≤300):=⟨h2,h3⟩;have t1:(((dl:Int) % 64) != 0)=false:=by rw [L8];omega
 go_enter Tryz.func67,Tryz.ntmps67
 go_wp2_with fail
 refine (VX _ va dl ca _ hd).mono ?_;rintro e w1 ⟨rfl,b1⟩;have X1:=Z8 ((YK.new w _ _ _).below b1);have B1:=Z8 (B0.out.trans (b1.mono (by simp)));have h2:=H2.out;generalize hm:dl / 64=m at *;have HM:=Z8 hm;have t2:¬(m:Int)<1:=by omega
 have t3:¬(300:Int)<(m:Int):=by omega
 have t4:¬(2000:Int)<(n:Int):=by omega
 obtain ⟨z1,c0,c1⟩:=X1.out;go_wp2
 go_loopw [28] (fun i wr=>∃k:Nat,k≤n∧i=.int .i64 k∧Hid (∀i,i<k→zZ m ps i)∧Hid (YK wr w.heap.size (.slice va dl ca) (.slice vb n cb))∧ZX w wr) (fun i _=>n - (intOf i).toNat)
 case atStart=>exact ⟨0,ZQ _,rfl,fun i hi=>by omega,X1,B1.out⟩
 case round =>
  obtain ⟨k,hk,rfl,WC,HX,hg⟩:=hrel
  by_cases hlt:k<n
  · obtain ⟨b,o,rfl,hb,hc,_⟩:=HP.out.cells (by omega)
    obtain ⟨e1,da,dc,e2⟩:=(hc.below hb hg) k hlt;have YN:(k:Int)<(n:Int):=by omega
    have hdk:=Uo.out k;obtain ⟨z1,c0,c1⟩:=HX.out;have HG:=Z8 hg
    go_wp2_with fail
    have BA:Hid (ZX w (wr.alloc (.cells #[.int .i64 (pB ps k),.slice da (pD ps k).length dc] 91))):=HG.out.alloc HG.out.size _;have XA:Hid (YK (wr.alloc (.cells #[.int .i64 (pB ps k),.slice da (pD ps k).length dc] 91)) w.heap.size (.slice va dl ca) (.slice (some ⟨b,o,none⟩) n cb)):=HX.out.below (ZR.alloc ZW _);have XB:Hid (YK (wr.alloc (.cells #[.int .i64 (pB ps k),.slice da (pD ps k).length dc] 91)) wr.heap.size (.int .i64 (pB ps k)) (.slice da (pD ps k).length dc)):=YK.new _ _ _ _;generalize wr.alloc _=wa at *;refine (KD _ va dl ca _ (pB ps k) hd).mono ?_;rintro e w2 ⟨rfl,b2⟩;rw [HM.out];have X2:=Z8 (XA.out.below b2);have XC:=Z8 (XB.out.below b2);have B2:=Z8 (Ye BA.out b2);obtain ⟨_,d0,d1⟩:=XC.out
    by_cases hok:zZ m ps k
    · have HK:Hid (zZ m ps k):=hok
      obtain ⟨q1,q2,q3⟩:=hok;have q4:(((pD ps k).length:Int) != 64)=false:=by rw [L8];omega
      rw [show decide (0≤pB ps k∧pB ps k<(m:Int))=true by rw [Zg];omega];go_wp2
      go_roundw
      case rel=>exact ⟨k+1,by omega,by go_num,(fun i hi=>by by_cases e:i=k;(subst e;exact HK.out);exact WC.out i (by omega)),X2,B2.out⟩
      case measure=>simp [intOf];omega
    have HN:Hid (XY dl ps=false):=Pn (by rintro ⟨_,_,_,_,h5⟩;rw [HM.out] at h5;exact hok (h5 k (by rw [HL.out];exact hlt)))
    by_cases q1:0≤pB ps k∧pB ps k<(m:Int)
    · rw [show decide (0≤pB ps k∧pB ps k<(m:Int))=true by rw [Zg];exact q1]
      have q3:(((pD ps k).length:Int) != 64)=true:=by rw [Rg];intro e;exact hok ⟨q1.1,q1.2,by omega⟩
      go_wp2;go_ret;exact ⟨ZJ HN.out.symm,B2.out⟩
    rw [show decide (0≤pB ps k∧pB ps k<(m:Int))=false by rw [Rc];exact q1];go_wp2;go_ret;exact ⟨ZJ HN.out.symm,B2.out⟩
  have HY:Hid (XY dl ps=true):=Io ⟨H1.out,by rw [HM.out];exact H2.out.1,by rw [HM.out];exact H2.out.2,by rw [HL.out];omega,fun i hi=>by rw [HM.out];exact WC.out i (by rw [HL.out] at hi;omega)⟩;have YN:¬(k:Int)<(n:Int):=by omega
  have HG:=Z8 hg;go_wp2;go_ret;exact ⟨ZJ HY.out.symm,HG.out⟩
theorem UV (w:World) (va vb:Option Addr) (dl ca n cb:Nat) (ps:List (Int × List Int)) (hp:XP w (.slice vb n cb) ps) (hl:ps.length=n) (hd:dl≤1048576) (hn:n≤1048576) (hdl:∀i,(pD ps i).length≤1048576) :
    Calls Tryz.prog 67 #[.agg #[.slice va dl ca,.slice vb n cb]] w (Ze w (.bool (XY dl ps))):=by
 by_cases h:dl % 64=0∧1≤dl / 64∧dl / 64≤300∧n≤2000
 · exact Oc w va vb dl ca n cb ps hp hl hd h.1 h.2.1 h.2.2.1 h.2.2.2 hdl
 rw [Pn (fun h5=>h ⟨h5.1,h5.2.1,h5.2.2.1,by have:=h5.2.2.2.1;omega⟩)];exact Od w va vb dl ca n cb hd hn h
theorem In (w:World) (x y:Int) (va vb:Value) (xs ys:List Int) (ha:Rd .u8 w va xs) (hb:Rd .u8 w vb ys) :
    Calls Tryz.prog 81 #[.agg #[.int .i64 x,va],.agg #[.int .i64 y,vb]] w (Ze w (.bool (decide (x=y∧xs=ys)))):=by
 have B0:Hid (ZX w ((w.alloc (.cells #[.int .i64 x,va] 91)).alloc (.cells #[.int .i64 y,vb] 91))):=(ZR.alloc ZW _).alloc (by simp) _;have RA:=Z8 (ha.below B0.out);have RB:=Z8 (hb.below B0.out);obtain ⟨a1,c1,rfl,_,_⟩:=ha.len;obtain ⟨a2,c2,rfl,_,_⟩:=hb.len;clear ha hb
 by_cases he:x=y
 · subst he
   have t:(x != x)=false:=by simp
   go_enter Tryz.func81,Tryz.ntmps81
   go_wp2_with fail
   refine (PU _ _ _ xs ys RA.out RB.out).mono ?_;rintro e w1 ⟨rfl,q1,rfl⟩;have BE:=Z8 (B0.out.trans ((below_drewN' _ q1).mono (by simp;omega)))
   by_cases h:xs=ys
   · have hd:decide (xs=ys)=true:=by simp [h]
     have hd2:decide (x=x∧xs=ys)=true:=by simp [h]
     rw [hd];clear h;go_wp2;go_ret;exact ⟨ZJ hd2.symm,BE.out⟩
   have hd:decide (xs=ys)=false:=by simp [h]
   have hd2:decide (x=x∧xs=ys)=false:=by simp [h]
   rw [hd];clear h;go_wp2;go_ret;exact ⟨ZJ hd2.symm,BE.out⟩
 have t:(x != y)=true:=by simp [he]
 have hd2:decide (x=y∧xs=ys)=false:=by simp [he]
 clear he
 go_enter Tryz.func81,Tryz.ntmps81
 go_wp2;go_ret;exact ⟨ZJ hd2.symm,B0.out⟩
theorem zV {qs:List (Int × List Int)} (hl:ps.length=qs.length) (h:∀i,i<ps.length→pB ps i=pB qs i∧pD ps i=pD qs i):ps=qs:=by
 apply xJ hl;intro i h1 h2;have:=h i h1;unfold pB pD at this
 simp only [List.getD,VM h1,VM h2,OY] at this
 exact Prod.ext this.1 this.2
theorem Ky (w:World) (b o b2 o2 n ca cb:Nat) (ps qs:List (Int × List Int)) (hp:ps.length=n) (hq:qs.length=n) (hn:n≤1048576) (hb:b<w.heap.size) (hb2:b2<w.heap.size)
    (hc:∀i,i<n→w.cell? ⟨b,o+i*2,none⟩=some (.int .i64 (pB ps i))∧∃da c,w.cell? ⟨b,o+i*2+1,none⟩=some (.slice da (pD ps i).length c)∧Rd .u8 w (.slice da (pD ps i).length c) (pD ps i))
    (hc2:∀i,i<n→w.cell? ⟨b2,o2+i*2,none⟩=some (.int .i64 (pB qs i))∧∃da c,w.cell? ⟨b2,o2+i*2+1,none⟩=some (.slice da (pD qs i).length c)∧Rd .u8 w (.slice da (pD qs i).length c) (pD qs i)) :
    Calls Tryz.prog 41 #[.slice (some ⟨b,o,none⟩) n ca,.slice (some ⟨b2,o2,none⟩) n cb] w (Ze w (.bool (decide (ps=qs)))):=by
 have HC:=Z8 hc;have yi:=Z8 hc2;have HP:=Z8 hp;have HQ:=Z8 hq;clear hc hc2 hp hq;have h1:((n:Int) != (n:Int))=false:=by simp
 go_enter Tryz.func41,Tryz.ntmps41
 go_wp2
 go_loopw [5] (fun i wr=>∃k:Nat,k≤n∧i=.int .i64 k∧Hid (∀i,i<k→pB ps i=pB qs i∧pD ps i=pD qs i)∧ZX w wr) (fun i _=>n - (intOf i).toNat)
 case atStart=>exact ⟨0,ZQ _,rfl,fun i hi=>by omega,ZR⟩
 case round =>
  obtain ⟨k,hk,rfl,HT,hg⟩:=hrel
  by_cases hlt:k<n
  · obtain ⟨e1,da,dc,e2,r⟩:=HC.out k hlt
    obtain ⟨g1,Z5,Z4,g2,r2⟩:=yi.out k hlt;have uS:=(hg.cell (p:=⟨b,o+k*2,none⟩) hb).trans e1;have e2':=(hg.cell (p:=⟨b,o+k*2+1,none⟩) hb).trans e2;have g1':=(hg.cell (p:=⟨b2,o2+k*2,none⟩) hb2).trans g1;have g2':=(hg.cell (p:=⟨b2,o2+k*2+1,none⟩) hb2).trans g2;have YN:(k:Int)<(n:Int):=by omega
    have HE:Hid (∀q,Calls Tryz.prog 81 #[.agg #[.int .i64 (pB ps k),.slice da (pD ps k).length dc],.agg #[.int .i64 (pB qs k),.slice Z5 (pD qs k).length Z4]] (wr.drewN q) (Ze w (.bool (decide (pB ps k=pB qs k∧pD ps k=pD qs k))))):=by
     intro q;refine (In _ _ _ _ _ (pD ps k) (pD qs k) ((r.below hg).drewN q) ((r2.below hg).drewN q)).mono ?_;rintro e w' ⟨rfl,b'⟩;exact ⟨rfl,(hg.trans ((below_drewN' wr q).mono hg.size)).trans (b'.mono hg.size)⟩
    clear e1 e2 g1 g2 r r2 hg
    by_cases heq:pB ps k=pB qs k∧pD ps k=pD qs k
    · have Z2:Hid (pB ps k=pB qs k∧pD ps k=pD qs k):=heq
      have HD:Hid (decide (pB ps k=pB qs k∧pD ps k=pD qs k)=true):=by show _=_;rw [Zg];exact heq
      clear heq;go_wp2
      go_region_with (go_at_call 81;refine (HE.out 1).mono ?_;rintro e w' ⟨rfl,b'⟩;rw [HD.out])
      all_goals
       have HB:=Z8 b';clear b';go_wp2
       go_roundw
       case rel=>exact ⟨k+1,by omega,by go_num,(fun i hi=>by by_cases e:i=k;(subst e;exact Z2.out);exact HT.out i (by omega)),HB.out⟩
       case measure=>simp [intOf];omega
    have HD:Hid (decide (pB ps k=pB qs k∧pD ps k=pD qs k)=false):=by show _=_;rw [Rc];exact heq
    have HN:Hid (decide (ps=qs)=false):=by show _=_;rw [Rc];intro h;subst h;exact heq ⟨rfl,rfl⟩
    clear heq;go_wp2
    go_region_with (go_at_call 81;refine (HE.out 1).mono ?_;rintro e w' ⟨rfl,b'⟩;rw [HD.out])
    all_goals
     have HB:=Z8 b';clear b';go_wp2;go_ret;exact ⟨ZJ HN.out.symm,HB.out⟩
  have HY:Hid (decide (ps=qs)=true):=by show _=_;rw [Zg];exact zV (by rw [HP.out,HQ.out]) (fun i hi=>HT.out i (by rw [HP.out] at hi;omega))
  have HG:=Z8 hg;clear hg;go_wp2;go_ret;exact ⟨ZJ HY.out.symm,HG.out⟩
theorem Kx (w:World) (ao bo:Option Addr) (n m ca cb:Nat) (h:n≠m) :
    Calls Tryz.prog 41 #[.slice ao n ca,.slice bo m cb] w fun e w'=>e=.returned (.bool false)∧w'=w:=by
 have h1:((n:Int) != (m:Int))=true:=by rw [Rg];omega
 go_enter Tryz.func41,Tryz.ntmps41
 go_wp2;go_ret;exact ⟨rfl,rfl⟩
theorem Kw (w:World) (va vb:Value) (ps qs:List (Int × List Int)) (ha:XP w va ps) (hb:XP w vb qs) (hn:ps.length≤1048576) :
    Calls Tryz.prog 41 #[va,vb] w (Ze w (.bool (decide (ps=qs)))):=by
 obtain ⟨ao,ca,rfl,h1,h2,h3⟩:=ha;obtain ⟨bo,cb,rfl,k1,k2,k3⟩:=hb
 by_cases hne:ps.length=qs.length
 · rcases h3 with rfl | ⟨b,o,rfl,hb,hc⟩
   · have hy:=Vj hne.symm
     subst hy;refine (QW w ao bo ca cb).mono ?_;rintro e w' ⟨rfl,rfl⟩;exact ⟨ZJ (by simp),ZR⟩
   rcases k3 with rfl | ⟨b2,o2,rfl,hb2,hc2⟩
   · have hx:=Vj hne
     subst hx;refine (QW w _ bo ca cb).mono ?_;rintro e w' ⟨rfl,rfl⟩;exact ⟨ZJ (by simp),ZR⟩
   rw [←hne] at hc2 ⊢;exact Ky w b o b2 o2 ps.length ca cb ps qs rfl hne.symm hn hb hb2 hc hc2
 refine (Kx w ao bo _ _ ca cb hne).mono ?_;rintro e w' ⟨rfl,rfl⟩;exact ⟨ZJ (by symm;rw [Rc];intro h;exact hne (by rw [h])),ZR⟩
theorem Ob (w:World) (va vb pa pb:Value) (xs ys:List Int) (ps qs:List (Int × List Int)) (ha:Rd .u8 w va xs) (hb:Rd .u8 w vb ys) (hp:XP w pa ps) (hq:XP w pb qs) (hn:ps.length≤1048576) :
    Calls Tryz.prog 10 #[.agg #[va,pa],.agg #[vb,pb]] w (Ze w (.bool (decide (xs=ys∧ps=qs)))):=by
 have B0:Hid (ZX w ((w.alloc (.cells #[va,pa] 36)).alloc (.cells #[vb,pb] 36))):=(ZR.alloc ZW _).alloc (by simp) _;have RA:=Z8 (ha.below B0.out);have RB:=Z8 (hb.below B0.out);have PA:=Z8 (hp.below B0.out);have PB:=Z8 (hq.below B0.out);clear ha hb hp hq
 go_enter Tryz.func10,Tryz.ntmps10
 go_wp2_with fail
 refine (PU _ _ _ xs ys RA.out RB.out).mono ?_;rintro e w1 ⟨rfl,q1,rfl⟩
 by_cases h:xs=ys
 · have hd:decide (xs=ys)=true:=by simp [h]
   rw [hd];have HE:=Z8 h;clear h
   go_wp2_with fail
   refine (Kw _ _ _ ps qs (PA.out.below (below_drewN' _ q1)) (PB.out.below (below_drewN' _ q1)) hn).mono ?_;rintro e w2 ⟨rfl,b2⟩;have B2:=Z8 ((B0.out.trans ((below_drewN' _ q1).mono (by simp;omega))).trans (b2.mono (by simp;omega)));clear b2
   by_cases h2:ps=qs
   · have hd2:decide (ps=qs)=true:=by simp [h2]
     have hd3:decide (xs=ys∧ps=qs)=true:=by rw [Zg];exact ⟨HE.out,h2⟩
     rw [hd2];clear h2;go_wp2;go_ret;exact ⟨ZJ hd3.symm,B2.out⟩
   have hd2:decide (ps=qs)=false:=by simp [h2]
   have hd3:decide (xs=ys∧ps=qs)=false:=by simp [h2]
   rw [hd2];clear h2;go_wp2;go_ret;exact ⟨ZJ hd3.symm,B2.out⟩
 have hd:decide (xs=ys)=false:=by simp [h]
 have hd3:decide (xs=ys∧ps=qs)=false:=by simp [h]
 rw [hd];have BE:=Z8 (B0.out.trans ((below_drewN' _ q1).mono (by simp;omega)));clear h;go_wp2;go_ret;exact ⟨ZJ hd3.symm,BE.out⟩
theorem MO (w:World) (base g n cap:Nat) (xs:List Int) (k:Int) (hx:xs.length=n) (hown:Own .u8 te w base (.slice (some ⟨g,0,none⟩) n cap) xs) (hk0:0≤k) (hk1:k≤1099511627776) (hn:n≤1099511627776) :
    Calls Tryz.prog 42 #[.slice (some ⟨g,0,none⟩) n cap,.int .i64 k] w fun e w'=>e=.returned (.int .i64 (k+n))∧Own .u8 te w' base (.slice (some ⟨g,0,none⟩) n cap) (marks k n)∧w.grownBy w' (some g):=by
 have HX:=Z8 hx;clear hx
 go_enter Tryz.func42,Tryz.ntmps42
 go_wp2
 go_loopw [1,5] (fun kk i wr=>∃j:Nat,j≤n∧i=.int .i64 j∧kk=.int .i64 (k+j)∧Own .u8 te wr base (.slice (some ⟨g,0,none⟩) n cap) (mix (marks k n) xs j)∧w.grownBy wr (some g)) (fun _ i _=>n - (intOf i).toNat)
 case atStart=>exact ⟨0,ZQ _,rfl,by go_num,by rw [OJ];exact hown,YT _ _⟩
 case round =>
  obtain ⟨j,hj,rfl,rfl,ho,hg⟩:=hrel
  by_cases hlt:j<n
  · have ho':wr.ownsRow base te 1 (.slice (some ⟨g,0,none⟩) n cap) n ((mix (marks k n) xs j).map (Value.int .u8)):=by
     have:=ho;unfold Own at this;rw [Wt (by rw [YG,HX.out]),HX.out] at this;exact this
    have hf:=Rh ho' j;have hc:∃c,wr.cell? ⟨g,j,none⟩=some c:=⟨_,(U0 ho' j (by omega)).trans (VM (by simp [Wt (show (marks k n).length=xs.length by rw [YG,HX.out]),HX.out];exact hlt))⟩;obtain ⟨c,hc⟩:=hc;have HO:=Z8 ho;clear ho ho';have YN:(j:Int)<(n:Int):=by omega
    go_wp2
    go_roundw
    case rel=>exact ⟨j+1,by omega,by go_num,by go_num,Own.mixed (by rw [YG,HX.out]) HX.out (by rw [HX.out];exact hlt) HO.out (by rw [RY _ _ _ hlt]),grownBy_set _ _ _ _ _ hg⟩
    case measure=>simp [intOf];omega
  have hjn:j=n:=by omega
  subst hjn;go_wp2;go_ret;exact ⟨rfl,by rw [Lh (by rw [YG,HX.out]) (by rw [HX.out];exact ZW)] at ho;exact ho,hg⟩
theorem MN (w:World) (base:Nat) (v:Value) (xs:List Int) (k:Int) (hown:Own .u8 te w base v xs) (hk0:0≤k) (hk1:k≤1099511627776) (hn:xs.length≤1099511627776) :
    Calls Tryz.prog 42 #[v,.int .i64 k] w fun e w'=>e=.returned (.int .i64 (k+xs.length))∧Own .u8 te w' base v (marks k xs.length)∧w.grownBy w' v.ownBlock:=by
 rcases hown.row with ⟨rfl,rfl⟩ | ⟨g,cap,rfl,_⟩
 · refine (Sl w k).mono ?_
   rintro e w' ⟨rfl,rfl⟩;exact ⟨Xo (by simp),Yf _ _ _ _,YT _ _⟩
 exact MO w base g xs.length cap xs k rfl hown hk0 hk1 hn
theorem ML (w:World) (base:Nat) (v:Value) (xs:List Int) (k:Int) (hown:WK w base v xs) (hk0:0≤k) (hk1:k≤1099511627776) (hn:xs.length≤1099511627776) :
    Calls Tryz.prog 42 #[v,.int .i64 k] w fun e w'=>e=.returned (.int .i64 (k+xs.length))∧WK w' base v (marks k xs.length)∧w.grownBy w' v.ownBlock:=by
 obtain ⟨te,h⟩:=hown;refine (MN w base v xs k h hk0 hk1 hn).mono ?_;rintro e w' ⟨rfl,o,g⟩;exact ⟨rfl,⟨te,o⟩,g⟩
structure Within (lo hi:Nat) (w w':World):Prop where
 os:w'.os=w.os
 tape:w'.tape=w.tape
 output:w'.output=w.output
 size:w.heap.size≤w'.heap.size
 block:∀k,k<w.heap.size→(k<lo∨hi≤k)→w'.heap[k]?=w.heap[k]?
theorem Within.refl (lo hi:Nat) (w:World):Within lo hi w w:=⟨rfl,rfl,rfl,ZW,fun _ _ _=>rfl⟩
theorem Within.trans {b c:World} (h:Within lo hi a b) (k:Within lo hi b c):Within lo hi a c :=
 ⟨k.os.trans h.os,k.tape.trans h.tape,k.output.trans h.output,ZP h.size k.size,fun i hi hj=>(k.block i (ZB hi h.size) hj).trans (h.block i hi hj)⟩
theorem Within.QV {b:World} (h:a.grownBy b row) (hr:∀g,row=some g→lo≤g∧g<hi):Within lo hi a b :=
 ⟨h.os,h.tape,h.output,h.size,fun k hk hj=>h.block k hk (fun e=>by have:=hr k e.symm;omega)⟩
theorem Within.of_below {b:World} (h:ZX a b):Within lo hi a b:=⟨h.os,h.tape,h.output,h.size,fun k hk _=>h.block k hk⟩
theorem Within.setCell (w:World) (h1:lo≤g) (h2:g<hi) (j:Nat) (u:Value):Within lo hi w (w.setCell ⟨g,j,none⟩ u) :=
 Within.QV (grownBy_set w w g j u (YT _ _)) (fun q e=>by injection e with e;omega)
theorem Within.own {b:World} (h:Within lo hi a b) (ho:Own k e a B v xs) (hv:∀g,v.ownBlock=some g→g<lo∨hi≤g):Own k e b B v xs:=by
 refine ⟨ho.1,?_⟩
 rcases ho.2 with hn | ⟨g,cap,cur,rfl,hbg,hgg,rest⟩
 · exact .inl hn
 exact .inr ⟨g,cap,cur,rfl,hbg,by rw [h.block g (Array.getElem?_eq_some_iff.1 hgg).1 (hv g rfl)];exact hgg,rest⟩
theorem Within.pv {b:World} (h:Within lo hi a b) {dv:Nat→Value} (ho:VQ e a B v ps dv)
    (hv:∀g,v.ownBlock=some g→g<lo∨hi≤g) (hd:∀i,i<ps.length→∀g,(dv i).ownBlock=some g→g<lo∨hi≤g):VQ e b B v ps dv:=by
 refine ⟨⟨ho.1.1,?_⟩,fun i hi=>(ho.2.1 i hi).elim fun _ h'=>⟨_,h.own h' (hd i hi)⟩,ho.2.2⟩
 rcases ho.1.2 with hn | ⟨g,cap,cur,rfl,hbg,hgg,rest⟩
 · exact .inl hn
 exact .inr ⟨g,cap,cur,rfl,hbg,by rw [h.block g (Array.getElem?_eq_some_iff.1 hgg).1 (hv g rfl)];exact hgg,rest⟩
theorem Within.qW {b:World} (h:Within lo hi a b) {q:Nat} (hb:YK a q x y) (hq:q<lo∨hi≤q):YK b q x y :=
 ⟨ZB hb.1 h.size,(YI (w:=a) (a:=⟨q,0,none⟩) (h.block q hb.1 hq)).trans hb.2.1,(YI (w:=a) (a:=⟨q,1,none⟩) (h.block q hb.1 hq)).trans hb.2.2⟩
def ks (ps:List (Int × List Int)) (k:Int) (i:Nat):Int:=k+i+tot (ps.take i)
theorem Et (ps:List (Int × List Int)) (k:Int) (i:Nat) (h:i<ps.length):ks ps k (i+1)=ks ps k i+1+(pD ps i).length:=by
 unfold ks;rw [WG ps i h];omega
def Pv (ps:List (Int × List Int)) (k:Int):List (Int × List Int):=(List.range ps.length).map fun i=>(ks ps k i,marks (ks ps k i+1) (pD ps i).length)
theorem Wx (ps:List (Int × List Int)) (k:Int):(Pv ps k).length=ps.length:=by simp [Pv]
theorem uR (ps:List (Int × List Int)) (k:Int) (i:Nat) (h:i<ps.length):pB (Pv ps k) i=ks ps k i:=by unfold pB Pv;simp [List.getD,h]
theorem uQ (ps:List (Int × List Int)) (k:Int) (i:Nat) (h:i<ps.length):pD (Pv ps k) i=marks (ks ps k i+1) (pD ps i).length:=by show ((Pv ps k).getD i (0,[])).2=_;unfold Pv;simp [List.getD,h]
def mB (ps:List (Int × List Int)) (k0:Int) (k i:Nat):Int:=if i<k then ks ps k0 i else pB ps i
def mD (ps:List (Int × List Int)) (k0:Int) (k i:Nat):List Int:=if i<k then marks (ks ps k0 i+1) (pD ps i).length else pD ps i
theorem Kv (ps:List (Int × List Int)) (i:Nat):tot (ps.take i)≤tot ps:=by
 unfold tot
 conv=>rhs;rw [←DO i ps,WX,xE]
 omega
theorem Du {k:Nat} {f f':Nat→Int} {g:Nat→Value} (hk:k<n) (hf:∀i,i≠k→f i=f' i):(Yt n f g).set (k*2) (.int .i64 (f' k))=Yt n f' g:=by
 have h:=Ir (n:=n) (f:=f) (f':=f') (g:=g) (g':=g) hk hf (fun _ _=>rfl);rw [←h];apply Lr;intro j
 by_cases e:k*2+1=j
 · subst e
   rw [rL (by simp [Xp];omega),DR (by omega),WE _ _ _ _ (by omega),Z3 (by omega),show (k*2+1) / 2=k by omega]
 rw [DR (l:=(Yt n f g).set (k*2) (.int .i64 (f' k))) e]
theorem Oa (w:World) (lo hi g n cap:Nat) (ps:List (Int × List Int)) (dv:Nat→Value) (k0:Int) (hp:ps.length=n) (ho:VQ 91 w lo (.slice (some ⟨g,0,none⟩) n cap) ps dv)
    (hg:g<hi) (hd:∀i,i<n→∀q,(dv i).ownBlock=some q→q<hi) (hk0:0≤k0) (hk1:k0≤4194304) (hn:n≤1048576) (ht:tot ps≤1048576) :
    Calls Tryz.prog 43 #[.slice (some ⟨g,0,none⟩) n cap,.int .i64 k0] w fun e w'=>e=.returned (.int .i64 (ks ps k0 n))∧VQ 91 w' lo (.slice (some ⟨g,0,none⟩) n cap) (Pv ps k0) dv∧Within lo hi w w'∧(∀q,q<w.heap.size→some q≠Value.ownBlock (.slice (some ⟨g,0,none⟩) n cap)→(∀i,i<n→(dv i).ownBlock≠some q)→w'.heap[q]?=w.heap[q]?):=by
 have hlo:=(ZO ho.1 g rfl).1;have HP:=Z8 hp;have HD:=Z8 hd;have HO:=Z8 ho;clear hd ho hp
 go_enter Tryz.func43,Tryz.ntmps43
 go_wp2
 go_loopw [1,5] (fun kk i wr=>∃k:Nat,k≤n∧i=.int .i64 k∧kk=.int .i64 (ks ps k0 k)∧wr.ownsRow lo 91 2 (.slice (some ⟨g,0,none⟩) n cap) n (Yt n (mB ps k0 k) dv)∧Hid (∀i,i<n→WK wr lo (dv i) (mD ps k0 k i))∧Within lo hi w wr∧Hid (∀q,q<w.heap.size→some q≠Value.ownBlock (.slice (some ⟨g,0,none⟩) n cap)→(∀i,i<n→(dv i).ownBlock≠some q)→wr.heap[q]?=w.heap[q]?)) (fun _ i _=>n - (intOf i).toNat)
 case atStart=>exact ⟨0,ZQ _,rfl,(by unfold ks;simp [tot]),(by have:=HO.out.1;rw [HP.out] at this;exact this),(fun i hi=>HO.out.2.1 i (by rw [HP.out];exact hi)),Within.refl _ _ _,fun _ _ _ _=>rfl⟩
 case round =>
  obtain ⟨k,hk,rfl,rfl,hr,HI,hw,HF⟩:=hrel
  by_cases hlt:k<n
  · have YN:(k:Int)<(n:Int):=by omega
    have f0:=Rh hr (k*2);have d0:=(U0 hr (k*2) (by omega)).trans (WE n _ _ (k*2) (by omega));have d1:=(U0 hr (k*2+1) (by omega)).trans (WE n _ _ (k*2+1) (by omega));rw [Z3 (by omega),show (k*2+1) / 2=k by omega] at d1;obtain ⟨x0,d0⟩:∃x,wr.cell? ⟨g,k*2,none⟩=some x:=⟨_,d0⟩;have hb1:=Kv ps k;have hkk:0≤ks ps k0 k∧ks ps k0 k≤6291457:=by unfold ks;omega
    have T:=Z8 (Et ps k0 k (by rw [HP.out];exact hlt));have hlen:(pD ps k).length≤1048576:=by
     have h1:=WG ps k (by rw [HP.out];exact hlt);have h2:=Kv ps (k+1);omega
    have HR:=Z8 hr;have HW:=Z8 hw;have OK:Hid (WK wr lo (dv k) (pD ps k)):=by have:=HI.out k hlt;unfold mD at this;rw [Z3 (by omega)] at this;exact this
    have NE:Hid (∀i,i<n→(dv i).ownBlock=none∨(dv i).ownBlock≠some g):=fun i hi=>by have:=HO.out.2.2.2 i (by rw [HP.out];exact hi);exact this
    obtain ⟨da,dc,hdk⟩:=OK.out.slice;rw [hdk] at d1;clear hr hw hb1;generalize hkx:ks ps k0 k=kx at *;have Q:=Z8 hkx;clear hkx
    go_wp2_with fail
    have O:Hid (WK (wr.setCell ⟨g,k*2,none⟩ (.int .i64 kx)) lo (.slice da (pD ps k).length dc) (pD ps k)):=by
     have h1:=OK.out.setAt (j:=k*2) (u:=.int .i64 kx) (NE.out k hlt);rw [hdk] at h1;exact h1
    refine (ML _ lo _ (pD ps k) (kx+1) O.out (by omega) (by omega) (by omega)).mono ?_;rintro e w2 ⟨rfl,o2,g2⟩;have HDK:=Z8 hdk;have O2:=Z8 o2;have G2:=Z8 g2;clear o2 g2 OK O d0 d1 f0 hdk;have S:Hid (w2.ownsRow lo 91 2 (.slice (some ⟨g,0,none⟩) n cap) n (Yt n (mB ps k0 (k+1)) dv)∧(∀i,i<n→WK w2 lo (dv i) (mD ps k0 (k+1) i))∧Within lo hi w w2∧(∀q,q<w.heap.size→some q≠Value.ownBlock (.slice (some ⟨g,0,none⟩) n cap)→(∀i,i<n→(dv i).ownBlock≠some q)→w2.heap[q]?=w.heap[q]?)):=by
     have N:=NE.out k hlt;rw [HDK.out] at N;have r1:=(OV HR.out (k*2) (.int .i64 kx)).1;rw [show Value.int .i64 kx=.int .i64 (mB ps k0 (k+1) k) by unfold mB;rw [ZY (by omega),Q.out],Du hlt (by intro i hi;unfold mB;by_cases h:i<k;(rw [ZY h,ZY (by omega)]);(rw [Z3 h,Z3 (by omega)]))] at r1;refine ⟨Yy (by rw [show mB ps k0 (k+1) k=kx by unfold mB;rw [ZY (by omega),Q.out]] at r1;exact r1) G2.out ?_,fun i hi=>?_,(HW.out.trans (Within.setCell wr hlo hg _ _)).trans (Within.QV G2.out (fun q hq=>⟨(O2.out.lt q hq).1,HD.out k hlt q (by rw [HDK.out];exact hq)⟩)),fun q hq hn1 hn2=>?_⟩
     · right
       rcases N with h | h
       · rw [h];simp [Value.ownBlock]
       exact fun e=>h e.symm
     · by_cases e:i=k
       · subst e
         unfold mD;rw [ZY (by omega),HDK.out,Q.out];exact O2.out
       have h1:WK (wr.setCell ⟨g,k*2,none⟩ (.int .i64 kx)) lo (dv i) (mD ps k0 k i):=(HI.out i hi).setAt (NE.out i hi);have h2:mD ps k0 (k+1) i=mD ps k0 k i:=by unfold mD;by_cases h:i<k;(rw [ZY h,ZY (by omega)]);(rw [Z3 h,Z3 (by omega)])
       rw [h2];have ne:=HO.out.2.2.1 i k (by rw [HP.out];exact hi) (by rw [HP.out];exact hlt) e;unfold PL at ne;rw [HDK.out] at ne;exact h1.other G2.out ne
     have e1:(wr.setCell ⟨g,k*2,none⟩ (.int .i64 kx)).heap[q]?=wr.heap[q]?:=Mh _ _ _ _ (fun e=>hn1 (by simp [Value.ownBlock,e]));rw [G2.out.block q (by have:=HW.out.size;simp;omega) (fun e=>hn2 k hlt (by rw [HDK.out];exact e.symm)),e1];exact HF.out q hq hn1 hn2
    clear HI HR HW O2 G2;go_wp2
    go_roundw
    case rel=>exact ⟨k+1,by omega,by go_num,(by rw [T.out]),S.out.1,S.out.2.1,S.out.2.2.1,S.out.2.2.2⟩
    case measure=>simp [intOf];omega
  have hkn:k=n:=by omega
  subst hkn;have FIN:Hid (VQ 91 wr lo (.slice (some ⟨g,0,none⟩) k cap) (Pv ps k0) dv∧Within lo hi w wr):=by
   refine ⟨⟨?_,fun i hi=>?_,fun i j hi hj=>HO.out.2.2.1 i j (by rw [Wx] at hi;exact hi) (by rw [Wx] at hj;exact hj),fun i hi=>HO.out.2.2.2 i (by rw [Wx] at hi;exact hi)⟩,hw⟩
   · rw [Wx,HP.out,WS (f':=mB ps k0 k) (g':=dv) (fun i hi=>by rw [uR ps k0 i (by rw [HP.out];exact hi)];unfold mB;rw [ZY hi]) (fun _ _=>rfl)]
     exact hr
   rw [Wx,HP.out] at hi;have:=HI.out i hi;unfold mD at this;rw [ZY hi] at this;rw [uQ ps k0 i (by rw [HP.out];exact hi)];exact this
  clear hr hw HI;go_wp2;go_ret;exact ⟨rfl,FIN.out.1,FIN.out.2,HF.out⟩
theorem Tq (w:World) (lo hi:Nat) (v:Value) (ps:List (Int × List Int)) (dv:Nat→Value) (k0:Int) (ho:VQ 91 w lo v ps dv)
    (hg:∀g,v.ownBlock=some g→g<hi) (hd:∀i,i<ps.length→∀q,(dv i).ownBlock=some q→q<hi) (hk0:0≤k0) (hk1:k0≤4194304) (hn:ps.length≤1048576) (ht:tot ps≤1048576) :
    Calls Tryz.prog 43 #[v,.int .i64 k0] w fun e w'=>e=.returned (.int .i64 (ks ps k0 ps.length))∧VQ 91 w' lo v (Pv ps k0) dv∧Within lo hi w w'∧(∀q,q<w.heap.size→some q≠v.ownBlock→(∀i,i<ps.length→(dv i).ownBlock≠some q)→w'.heap[q]?=w.heap[q]?):=by
 rcases ho.1.2 with ⟨rfl,h0⟩ | ⟨g,cap,cur,rfl,_⟩
 · have:ps=[]:=Vj h0
   subst this;refine (Oh w none 0 k0).mono ?_;rintro e w' ⟨rfl,rfl⟩;exact ⟨Xo (by unfold ks;simp [tot]),ho,Within.refl _ _ _,fun _ _ _ _=>rfl⟩
 exact Oa w lo hi g ps.length cap ps dv k0 rfl ho (hg g rfl) hd hk0 hk1 hn ht
theorem N7 (w:World) (b o n cap:Nat) (ps:List (Int × List Int)) (k0:Int) (hp:ps.length=n)
    (hc:∀i,i<n→w.cell? ⟨b,o+i*2,none⟩=some (.int .i64 (pB (Pv ps k0) i))∧∃da c,w.cell? ⟨b,o+i*2+1,none⟩=some (.slice da (pD (Pv ps k0) i).length c)∧Rd .u8 w (.slice da (pD (Pv ps k0) i).length c) (pD (Pv ps k0) i))
    (hk0:0≤k0) (hk1:k0≤4194304) (hn:n≤1048576) (ht:tot ps≤1048576) :
    Calls Tryz.prog 85 #[.slice (some ⟨b,o,none⟩) n cap,.int .i64 k0] w fun e w'=>e=.returned (.int .i64 (ks ps k0 n))∧w'=w:=by
 have HC:Hid (∀i,i<n→w.cell? ⟨b,o+i*2,none⟩=some (.int .i64 (ks ps k0 i))∧∃da c,w.cell? ⟨b,o+i*2+1,none⟩=some (.slice da (pD ps i).length c)∧Rd .u8 w (.slice da (pD ps i).length c) (marks (ks ps k0 i+1) (pD ps i).length)):=by
  intro i hi;have:=hc i hi;rw [uR ps k0 i (by omega),uQ ps k0 i (by omega),YG] at this;exact this
 have HP:=Z8 hp;clear hc hp
 go_enter Tryz.func85,Tryz.ntmps85
 go_wp2
 go_loop [1,5] (fun kk i=>∃k:Nat,k≤n∧i=.int .i64 k∧kk=.int .i64 (ks ps k0 k)) (fun _ i=>n - (intOf i).toNat)
 case atStart=>exact ⟨0,ZQ _,rfl,by unfold ks;simp [tot]⟩
 case round =>
  obtain ⟨k,hk,rfl,rfl⟩:=hrel
  by_cases hlt:k<n
  · have YN:(k:Int)<(n:Int):=by omega
    obtain ⟨c1,da,dc,c2,r⟩:=HC.out k hlt;have hb1:=Kv ps k;have hkk:0≤ks ps k0 k∧ks ps k0 k≤6291457:=by unfold ks;omega
    have T:=Z8 (Et ps k0 k (by rw [HP.out];exact hlt));have hlen:(pD ps k).length≤1048576:=by
     have h1:=WG ps k (by rw [HP.out];exact hlt);have h2:=Kv ps (k+1);omega
    have RR:=Z8 r;clear r hb1;generalize ks ps k0 k=kx at *;have t:(kx != kx)=false:=by simp
    go_wp2_with fail
    refine (Sj _ _ (pD ps k).length (kx+1) RR.out (by omega) (by omega) (by omega)).mono ?_;rintro e w2 ⟨rfl,hw⟩;subst hw;have t2:¬kx+1+((pD ps k).length:Int)<0:=by omega
    go_wp2
    go_round
    case rel=>exact ⟨k+1,by omega,by go_num,(by rw [T.out])⟩
    case measure=>simp [intOf];omega
  have hkn:k=n:=by omega
  subst hkn;go_wp2;go_ret;exact ⟨rfl,rfl⟩
theorem NZ (w:World) (v:Value) (ps:List (Int × List Int)) (k0:Int) (h:XP w v (Pv ps k0)) (hk0:0≤k0) (hk1:k0≤4194304) (hn:ps.length≤1048576) (ht:tot ps≤1048576) :
    Calls Tryz.prog 85 #[v,.int .i64 k0] w fun e w'=>e=.returned (.int .i64 (ks ps k0 ps.length))∧w'=w:=by
 obtain ⟨ao,cap,rfl,k1,k2,k3⟩:=h;rw [Wx] at *
 rcases k3 with h0 | ⟨b,o,rfl,hb,hc⟩
 · have h1:ps.length=0:=by have:=Wd List.length h0;rw [Wx] at this;simpa using this
   rw [h1];refine (Og w ao cap k0).mono ?_;rintro e w' ⟨rfl,rfl⟩;exact ⟨Xo (by unfold ks;simp [tot]),rfl⟩
 exact N7 w b o ps.length cap ps k0 rfl hc hk0 hk1 hn ht
structure Zz (w:World) (lo hi:Nat) (vd vp:Value) (Z7:List Int) (ps:List (Int × List Int)) (dv:Nat→Value):Prop where
 d:Own .u8 5 w lo vd Z7
 p:VQ 91 w lo vp ps dv
 NY:∀g,vd.ownBlock=some g→g<hi
 Pm:∀g,vp.ownBlock=some g→g<hi
 MK:∀i,i<ps.length→∀g,(dv i).ownBlock=some g→g<hi
 dp:PL vp vd
 dq:∀i,i<ps.length→PL (dv i) vd
theorem Zz.within {l h:Nat} {dv:Nat→Value} (ho:Zz w lo hi vd vp Z7 ps dv) (hw:Within l h w w') (hd:hi≤l∨h≤lo):Zz w' lo hi vd vp Z7 ps dv :=
 ⟨hw.own ho.d (fun g hg=>by have:=(ho.d.lt g hg).1;have:=ho.NY g hg;omega),
  hw.pv ho.p (fun g hg=>by have:=(ZO ho.p.1 g hg).1;have:=ho.Pm g hg;omega) (fun i hi g hg=>by have:=((ho.p.2.1 i hi).lt g hg).1;have:=ho.MK i hi g hg;omega),
  ho.NY,ho.Pm,ho.MK,ho.dp,ho.dq⟩
theorem Zz.below {dv:Nat→Value} (ho:Zz w lo hi vd vp Z7 ps dv) (hb:ZX w w'):Zz w' lo hi vd vp Z7 ps dv :=
 ⟨ho.d.below hb,ho.p.below hb,ho.NY,ho.Pm,ho.MK,ho.dp,ho.dq⟩
theorem Ku (w:World) (lo hi:Nat) (vd vp:Value) (Z7:List Int) (ps:List (Int × List Int)) (dv:Nat→Value) (k:Int) (ho:Zz w lo hi vd vp Z7 ps dv) (hhi:hi≤w.heap.size) (hk0:0≤k) (hk1:k≤2097152) (hl:Z7.length≤1048576) (hn:ps.length≤1048576) (ht:tot ps≤1048576) :
    Calls Tryz.prog 11 #[.agg #[vd,vp],.int .i64 k] w fun e w'=>e=.returned (.int .i64 (ks ps (k+Z7.length) ps.length))∧Zz w' lo hi vd vp (marks k Z7.length) (Pv ps (k+Z7.length)) dv∧Within lo hi w w':=by
 have BA:Hid (ZX w (w.alloc (.cells #[vd,vp] 36))):=ZR.alloc ZW _;have HO:=Z8 (ho.below BA.out);have X0:Hid (YK (w.alloc (.cells #[vd,vp] 36)) w.heap.size vd vp):=YK.new _ _ _ _;clear ho
 go_enter Tryz.func11,Tryz.ntmps11
 go_wp2_with fail
 generalize w.alloc _=w0 at *;refine (Sk _ lo _ Z7 k HO.out.d hk0 (by omega) (by omega)).mono ?_;rintro e w1 ⟨rfl,o1,g1⟩;have W1:=Z8 (Within.QV g1 (fun q hq=>⟨(HO.out.d.lt q hq).1,HO.out.NY q hq⟩));have O1:=Z8 o1;have P1:Hid (VQ 91 w1 lo vp ps dv):=⟨Yy HO.out.p.1 g1 HO.out.dp,fun i hi=>(HO.out.p.2.1 i hi).other g1 (HO.out.dq i hi),HO.out.p.2.2⟩;have X1:=Z8 (W1.out.qW X0.out (.inr hhi));obtain ⟨z1,c0,c1⟩:=X1.out;clear o1 g1
 go_wp2_with fail
 refine (Tq _ lo hi _ ps dv (k+Z7.length) P1.out HO.out.Pm HO.out.MK (by omega) (by omega) hn ht).mono ?_;rintro e w2 ⟨rfl,o2,g2,f2⟩;have FIN:Hid (Zz w2 lo hi vd vp (marks k Z7.length) (Pv ps (k+Z7.length)) dv∧Within lo hi w w2):=by
  refine ⟨⟨?_,o2,HO.out.NY,HO.out.Pm,fun i hi=>HO.out.MK i (by rw [Wx] at hi;exact hi),HO.out.dp,fun i hi=>HO.out.dq i (by rw [Wx] at hi;exact hi)⟩,((Within.of_below BA.out).trans W1.out).trans g2⟩;refine ⟨O1.out.1,?_⟩
  rcases O1.out.2 with hn | ⟨g,cap,cur,hv,hbg,hgg,rest⟩
  · exact .inl hn
  refine .inr ⟨g,cap,cur,hv,hbg,?_,rest⟩;have hb:vd.ownBlock=some g:=by rw [hv];rfl
  rw [f2 g (Array.getElem?_eq_some_iff.1 hgg).1 ?_ ?_]
  · exact hgg
  · rcases HO.out.dp with h | h
    · rw [h];simp
    rw [←hb];exact fun e=>h e.symm
  intro i hi
  rcases HO.out.dq i hi with h | h
  · rw [h];simp
  rw [←hb];exact h
 clear o2 g2 f2;go_wp2;go_ret;exact ⟨rfl,FIN.out.1,FIN.out.2⟩
theorem Kt (w:World) (vd vp:Value) (dl:Nat) (ps:List (Int × List Int)) (k:Int) (h:Rd .u8 w vd (marks k dl)) (hp:XP w vp (Pv ps (k+dl))) (hk0:0≤k) (hk1:k≤2097152) (hl:dl≤1048576) (hn:ps.length≤1048576) (ht:tot ps≤1048576) :
    Calls Tryz.prog 46 #[.agg #[vd,vp],.int .i64 k] w (Ze w (.int .i64 (ks ps (k+dl) ps.length))):=by
 have BA:Hid (ZX w (w.alloc (.cells #[vd,vp] 36))):=ZR.alloc ZW _;have HR:=Z8 (h.below BA.out);have HP:=Z8 (hp.below BA.out);clear h hp
 go_enter Tryz.func46,Tryz.ntmps46
 go_wp2_with fail
 refine (Sj _ _ dl k HR.out hk0 (by omega) (by omega)).mono ?_;rintro e w1 ⟨rfl,hw⟩;subst hw;have h0:¬(k+(dl:Int))<0:=by omega
 go_wp2_with fail
 refine (NZ _ _ ps (k+dl) HP.out (by omega) (by omega) hn ht).mono ?_;rintro e w2 ⟨rfl,hw⟩;subst hw;have h1:¬ks ps (k+dl) ps.length<0:=by unfold ks;omega
 go_wp2;go_ret;exact ⟨rfl,BA.out⟩
def pR (rs:List (List Int)) (i:Nat):List Int:=rs.getD i []
def uV (us:List Value) (i:Nat):Value:=us.getD i (.slice none 0 0)
def pu (w:World) (v:Value) (rs:List (List Int)):Prop :=
 ∃ao cap,v=.slice ao rs.length cap∧rs.length≤cap∧cap≤maxLen ∧
  (rs=[]∨∃b off,ao=some ⟨b,off,none⟩∧b<w.heap.size∧∀i,i<rs.length →
   ∃da c,w.cell? ⟨b,off+i,none⟩=some (.slice da (pR rs i).length c)∧Rd .u8 w (.slice da (pR rs i).length c) (pR rs i))
theorem pu.len (h:pu w v rs):∃ao cap,v=.slice ao rs.length cap∧rs.length≤cap∧cap≤maxLen:=by
 obtain ⟨ao,cap,h0,h1,h2,_⟩:=h;exact ⟨ao,cap,h0,h1,h2⟩
def UH (w:World) (lo:Nat) (v:Value) (rs:List (List Int)) (us:List Value):Prop :=
 w.ownsRow lo 110 1 v rs.length us∧(∀i,i<rs.length→Own .u8 5 w lo (uV us i) (pR rs i)) ∧
 (∀i j,i<rs.length→j<rs.length→i≠j→PL (uV us i) (uV us j))∧∀i,i<rs.length→PL (uV us i) v
theorem UH.len (h:UH w lo v rs us):us.length=rs.length:=by have:=h.1.1;omega
theorem zU {i:Nat} (h:i<us.length):us[i]?=some (uV us i):=by unfold uV;simp [List.getD,h]
theorem UH.cell (h:UH w lo (.slice (some ⟨g,0,none⟩) n cap) rs us) (i:Nat) (hi:i<rs.length):w.cell? ⟨g,i,none⟩=some (uV us i):=by
 have e:n=rs.length:=by
  rcases h.1.2 with ⟨h',_⟩ | ⟨g',c',cur,h',_⟩
  · simp at h'
  simp only [Zc] at h';exact h'.2.1
 have h1:=h.1;subst e;exact (U0 h1 i (by omega)).trans (zU (by rw [h.len];exact hi))
theorem UH.rd (h:UH w lo v rs us):pu w v rs:=by
 rcases h.1.2 with ⟨rfl,h0⟩ | ⟨g,cap,cur,rfl,hb,hg,hn,hm,hs,ht⟩
 · have:rs=[]:=Vj h0
   subst this;exact ⟨none,0,rfl,ZW,ZQ _,.inl rfl⟩
 refine ⟨_,cap,rfl,hn,hm,.inr ⟨g,0,rfl,(Array.getElem?_eq_some_iff.1 hg).1,fun i hi=>?_⟩⟩;have c1:=h.cell i hi;have o1:=h.2.1 i hi;obtain ⟨da,c,e⟩:=Own.slice o1;rw [e] at c1 o1;exact ⟨da,c,by rw [Wn];exact c1,o1.rd⟩
theorem ownsRow_below {z:Nat} (ho:w.ownsRow lo e z v n us) (hb:ZX w w'):w'.ownsRow lo e z v n us:=by
 refine ⟨ho.1,?_⟩
 rcases ho.2 with hn | ⟨g,cap,cur,rfl,hbg,hgg,rest⟩
 · exact .inl hn
 exact .inr ⟨g,cap,cur,rfl,hbg,by rw [hb.block g (Array.getElem?_eq_some_iff.1 hgg).1];exact hgg,rest⟩
theorem UH.below (h:UH w lo v rs us) (hb:ZX w w'):UH w' lo v rs us :=
 ⟨ownsRow_below h.1 hb,fun i hi=>(h.2.1 i hi).below hb,h.2.2⟩
theorem UH.slice (h:UH w lo v rs us):∃a c,v=.slice a rs.length c:=by
 obtain ⟨a,c,h0,_⟩:=h.rd.len;exact ⟨a,c,h0⟩
attribute [local go_sem] Uf
theorem Dt (F:Fence) (n:Nat) (h87:F.fn 128) (hro:F.round=none) (ao:Option Addr) (m cap:Nat) (w:World) :
    CallsIn F n Tryz.prog 128 #[.slice ao m cap] w fun e w'=>e=.returned (.func (.func 140) #[] #[.pointer (some ⟨w.heap.size,0,none⟩)])∧w'=w.alloc (.cells #[.slice ao m cap] 22):=by
 refine Rf Tryz.func128 rfl h87 ?_ hro
 simp only [Tryz.ntmps128,WW,XQ,Wv,Nat.reduceAdd,Nat.reduceSub,DV,DU,Qv,Qz,TJ,Qy]
 gi_wp2;go_ret;exact ⟨rfl,rfl⟩
def qe (vs:Array Value):Value:=match (vs.getD 1 (.slice none 0 0):Value) with
 | Value.agg us=>us.getD 0 (.slice none 0 0)
 | _=>.slice none 0 0
def wD (R:List (List Int × Nat)) (St:List Value→World→Prop) (s:List Value) (vs:Array Value) (W:World):Prop :=
 ∃u W0,vs=#[.int .i64 ((pos R (s.length+1):Nat):Int),.agg #[u]]∧s.length<R.length∧St s W0∧ZX W0 W∧Own .u8 5 W W0.heap.size u (R.getD s.length ([],0)).1
theorem Es {a:List Int} (h:Rd .u8 w (.slice ao n cap) a) (hl:a.length=n) (blk o:Nat) (he:ao=some ⟨blk,o,none⟩) (p:Nat) (hp:p≤n):Rd .u8 w (.slice (some ⟨blk,o+p,none⟩) (n - p) (cap - p)) (a.drop p):=by
 obtain ⟨BK,cap',e,h1,h2,h3⟩:=h
 simp only [Zc] at e
 obtain ⟨rfl,hn,rfl⟩:=e;have hlen:(a.drop p).length=n - p:=by rw [Zv];omega
 refine ⟨_,cap - p,by rw [hlen],by omega,by omega,?_⟩
 rcases h3 with rfl | ⟨b,o',e2,hb,hc⟩
 · exact .inl (by simp)
 rw [he] at e2
 simp only [Xu,uC,and_true] at e2
 obtain ⟨rfl,rfl⟩:=e2;refine .inr ⟨blk,o+p,rfl,hb,fun j hj=>?_⟩;rw [hlen] at hj;have:=hc (p+j) (by omega);rw [TI,this]
 simp [List.getD,Pd]
theorem NX (w:World) (ao:Option Addr) (cap:Nat) (hc:cap≤maxLen):Rd .u8 w (.slice ao 0 cap) []:=⟨ao,cap,rfl,ZQ _,hc,.inl rfl⟩
end Go.Proofs.YtmmmffcbfepghaaGreatDoor


