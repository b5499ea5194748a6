import Derived.Test.YtpmjnbmkippaiaaGreatDoorJ01
import Derived.Test.YtpmjnbmkippaiaaGreatDoorRows
import Derived.Deep.RegionLaw
import Derived.Deep.AppendLies
import Derived.Laws.Cover3
import Derived.Deep.MidRow
import Derived.Laws.CopyOwn
import Derived.Great.BuildSlice
import Derived.Maps.OwnSet
import Derived.BigRegion
set_option maxRecDepth 100000
set_option maxHeartbeats 16000000
set_option linter.all false
namespace Go.Proofs.YtpmjnbmkippaiaaGreatDoor
section
open Go.RowKit Go.Shelf
variable {a:Act} {ops:Array Oper} {k:IntKind} {ps rs:List (Int × List Int)} {YL xs ys:List Int} {B base cap dl g hi i j lo lo' mb n o tb:Nat} {ao:Option Addr} {row:Option Nat} {P:Program} {E:Prop} {e t te:TypeId} {u v vd vp x y:Value} {w w' w1 w4:World}
theorem Dn (hx:Sn xs) (hy:Sn ys) (h:xs.map (fun n=>UInt8.ofNat n.toNat)=ys.map (fun n=>UInt8.ofNat n.toNat)):xs=ys:=by
 induction xs generalizing ys with
 | nil=>cases ys with
  | nil=>rfl
  | cons y ys=>simp at h
 | cons x xs ih=>cases ys with
  | nil=>simp at h
  | cons y ys =>
   simp only [Yl,SG] at h
   have bx:=hx x (by simp);have by':=hy y (by simp);have e:x=y:=by
    have h1:=ZM UInt8.toNat h.1
    simp only [UInt8.toNat_ofNat'] at h1
    omega
   rw [e,ih (fun z hz=>hx z (by simp [hz])) (fun z hz=>hy z (by simp [hz])) h.2]
theorem same_iff (hx:Sn xs) (hy:Sn ys):((strOfNums xs).toList == (strOfNums ys).toList)=decide (xs=ys):=by
 rw [YG,YG,strOfNums_data,strOfNums_data]
 by_cases h:xs=ys
 · subst h;simp
 rw [Zo h,YH];exact fun e=>h (Dn hx hy e)
theorem KU (w:World) (va vb:Value) (xs ys:List Int) (ha:Rd .u8 w va xs) (hb:Rd .u8 w vb ys) (hx:Sn xs) (hy:Sn ys) :
    Calls Tryz.prog 68 #[va,vb] w fun e w'=>e=.returned (.bool (decide (xs=ys)))∧w'=w:=by
 have h1:=To ha;have h2:=To hb;have HS:=ZU (same_iff hx hy);clear ha hb
 go_enter Tryz.func68,Tryz.ntmps68
 go_wp2;go_ret;exact ⟨Wt HS.out,rfl⟩
theorem ky {W:World} (hb:Zi W w1):(∀b o,b<W.heap.size→w1.cell? ⟨b,o,none⟩=W.cell? ⟨b,o,none⟩)∧(∀b o,b<W.heap.size→w1.frozen? ⟨b,o,none⟩=W.frozen? ⟨b,o,none⟩) :=
 ⟨fun b o h=>hb.cell (p:=⟨b,o,none⟩) h,fun b o h=>hb.frozen (p:=⟨b,o,none⟩) h⟩
theorem Own.Vz (h:Own k e w base v xs) {a:Addr} (ha:a.block<base) (u:Value):Own k e (w.setCell a u) base v xs:=ownsRow_setCell_below h ha u
def g8 (xs:List Int) (q t:Nat):Nat:=Qr 7 xs / 2 ^ (7*xs.length - (8*q+t)) % 2 ^ t
def zeros (n:Nat):List Int:=List.replicate n 0
theorem Xl (n:Nat):(zeros n).length=n:=by simp [zeros]
def od (k:Int):Nat:=if 1≤k∧k≤300 then k.toNat*64 else 0
theorem KS (hb:Below (w.alloc (.cells #[x,y] t)).heap.size (w.alloc (.cells #[x,y] t)) w1) :
    w1.cell? ⟨w.heap.size,0,none⟩=some x∧w1.cell? ⟨w.heap.size,1,none⟩=some y∧w1.frozen? ⟨w.heap.size,0,none⟩=false∧w1.frozen? ⟨w.heap.size,1,none⟩=false∧w.heap.size<w1.heap.size:=by
 obtain ⟨hc,hf⟩:=ky hb;have hs:=hb.size
 simp at hs
 refine ⟨?_,?_,?_,?_,by omega⟩
 · rw [hc _ _ (by simp)];simp
 · rw [hc _ _ (by simp)];simp
 · rw [hf _ _ (by simp)];simp
 rw [hf _ _ (by simp)];simp
theorem LT (w:World) (k:Int) :
    Calls Tryz.prog 44 #[.int .i64 k] w fun e w'=>∃v',e=.returned (.agg #[v',.slice none 0 0])∧Own .u8 5 w' w.heap.size v' (zeros (od k))∧Zi w w':=by
 obtain ⟨i0,hi,hz0,hz1,hz2⟩:=YN Tryz.QZ
 by_cases h1:k<1
 · have e:od k=0:=Z1 (by omega)
   rw [e]
   go_enter Tryz.func44,Tryz.ntmps44
   go_wp2;exact ZW (v:=.agg #[.slice none 0 0,.slice none 0 0]) (by simp [results,Tryz.results44,go_sem]) rfl ⟨_,rfl,ZH _ _ _ _,Yy.alloc YR _⟩
 by_cases h2:300<k
 · have e:od k=0:=Z1 (by omega)
   rw [e]
   go_enter Tryz.func44,Tryz.ntmps44
   go_wp2;exact ZW (v:=.agg #[.slice none 0 0,.slice none 0 0]) (by simp [results,Tryz.results44,go_sem]) rfl ⟨_,rfl,ZH _ _ _ _,Yy.alloc YR _⟩
 obtain ⟨n,rfl⟩:∃n:Nat,k=(n:Int):=⟨k.toNat,by omega⟩;have e:od (n:Int)=n*64:=by unfold od;rw [Z0 (by omega),Ze]
 rw [e];clear e
 go_enter Tryz.func44,Tryz.ntmps44
 go_wp2_with (at_make;go_must (refine wpList_make_full _ rfl _ _ 22 rfl (w.heap.size+1) 5 i0 (.int .u8 0) 1 Tryz.underlying22 hi hz0 hz1 _ _ _ _ (n*64) rfl rfl ?a1 ?a2 ?b2 ?b3 ?b4 ?_))
 case b2=>omega
 case b3=>unfold maxLen;omega
 intro w1 hown hgrow;have B1:Below (w.alloc (.cells #[.slice none 0 0,.slice none 0 0] 52)).heap.size (w.alloc (.cells #[.slice none 0 0,.slice none 0 0] 52)) w1:=Yy.grown hgrow YR (by simp);obtain ⟨c0,c1,f0,f1,z1⟩:=KS B1;have HB:Hid (Zi w w1):=(Yy.alloc YR _).trans (B1.mono (by simp));have HO:Hid (Own .u8 5 w1 (w.heap.size+1) (.slice (some ⟨w.heap.size+1,0,none⟩) (n*64) (n*64)) (List.replicate (n*64) 0)):=AS (by simpa using hown);clear hown hgrow B1;go_wp2;refine ZW (v:=.agg #[.slice (some ⟨w.heap.size+1,0,none⟩) (n*64) (n*64),.slice none 0 0]) (by simp [results,Tryz.results44,go_sem,c0,c1]) rfl ⟨_,rfl,?_,?_⟩
 · exact (Own.Vz (Own.Vz HO.out (a:=⟨w.heap.size,0,none⟩) (by simp) _) (a:=⟨w.heap.size,1,none⟩) (by simp) _).mono (by omega)
 exact (HB.out.setCell YR _).setCell YR _
def Vg (w:World) (b:Nat) (x y:Value):Prop:=b<w.heap.size∧w.cell? ⟨b,0,none⟩=some x∧w.cell? ⟨b,1,none⟩=some y
theorem Vg.below {b:Nat} (h:Vg w b x y) (hb:Zi w w'):Vg w' b x y :=
 ⟨ZY h.1 hb.size,(hb.cell (p:=⟨b,0,none⟩) h.1).trans h.2.1,(hb.cell (p:=⟨b,1,none⟩) h.1).trans h.2.2⟩
theorem Vg.other {b:Nat} (h:Vg w b x y) (hg:w.grownBy w' row) (hne:some b≠row):Vg w' b x y :=
 ⟨ZY h.1 hg.size,hg.cell h.2.1 hne,hg.cell h.2.2 hne⟩
theorem Vg.new (w:World) (x y:Value) (t:TypeId):Vg (w.alloc (.cells #[x,y] t)) w.heap.size x y:=⟨by simp,by simp,by simp⟩
def pB (ps:List (Int × List Int)) (i:Nat):Int:=(ps.getD i (0,[])).1
def pD (ps:List (Int × List Int)) (i:Nat):List Int:=(ps.getD i (0,[])).2
def J8 (w:World) (v:Value) (ps:List (Int × List Int)):Prop :=
 ∃ao cap,v=.slice ao ps.length cap∧ps.length≤cap∧cap≤maxLen ∧
  (ps=[]∨∃b off,ao=some ⟨b,off,none⟩∧b<w.heap.size∧∀i,i<ps.length →
   w.cell? ⟨b,off+i*2,none⟩=some (.int .i64 (pB ps i))∧∃da c,w.cell? ⟨b,off+i*2+1,none⟩=some (.slice da (pD ps i).length c)∧Rd .u8 w (.slice da (pD ps i).length c) (pD ps i))
theorem J8.len (h:J8 w v ps):∃ao cap,v=.slice ao ps.length cap∧ps.length≤cap∧cap≤maxLen:=by
 obtain ⟨ao,cap,h0,h1,h2,_⟩:=h;exact ⟨ao,cap,h0,h1,h2⟩
theorem J8.below (h:J8 w v ps) (hb:Zi w w'):J8 w' v ps:=by
 obtain ⟨ao,cap,rfl,h1,h2,h3⟩:=h;refine ⟨ao,cap,rfl,h1,h2,?_⟩
 rcases h3 with h3 | ⟨b,off,rfl,hlt,hc⟩
 · exact .inl h3
 refine .inr ⟨b,off,rfl,ZY hlt hb.size,fun i hi=>?_⟩;obtain ⟨c1,da,c,c2,r⟩:=hc i hi;exact ⟨(hb.cell (p:=⟨b,_,none⟩) hlt).trans c1,da,c,(hb.cell (p:=⟨b,_,none⟩) hlt).trans c2,r.below hb⟩
def tot (ps:List (Int × List Int)):Nat:=(ps.map fun p=>p.2.length).sum
def OL (n:Nat) (f:Nat→Int) (g:Nat→Value):List Value:=(List.range n).flatMap fun i=>[.int .i64 (f i),g i]
theorem MB (n:Nat) (f:Nat→Int) (g:Nat→Value):OL (n+1) f g=OL n f g++[.int .i64 (f n),g n]:=by
 unfold OL;rw [SD,XZ];simp
theorem Pp (n:Nat) (f:Nat→Int) (g:Nat→Value):(OL n f g).length=n*2:=by
 induction n with
 | zero=>rfl
 | succ n ih=>rw [MB,ZZ,ih];simp;omega
theorem Fi (n:Nat) (f:Nat→Int) (g:Nat→Value) (j:Nat) (h:j<n*2):(OL n f g)[j]?=some (if j % 2=0 then .int .i64 (f (j / 2)) else g (j / 2)):=by
 induction n with
 | zero=>omega
 | succ n ih =>
  rw [MB]
  by_cases hj:j<n*2
  · rw [Zy (by rw [Pp];exact hj),ih hj]
  rw [Zv (by rw [Pp];omega),Pp]
  by_cases e:j=n*2
  · subst e
    simp [show n*2 % 2=0 by omega]
  have e2:j=n*2+1:=by omega
  subst e2;rw [Z1 (by omega),show n*2+1 - n*2=1 by omega,show (n*2+1) / 2=n by omega]
  rfl
theorem Dm {f f':Nat→Int} {g g':Nat→Value} (hf:∀i,i<n→f i=f' i) (hg:∀i,i<n→g i=g' i):OL n f g=OL n f' g':=by
 unfold OL;rw [List.flatMap_def,List.flatMap_def]
 congr 1
 apply Vw;intro i hi;have hi:=Yb.1 hi;rw [hf i hi,hg i hi]
def tM (a b:Value):Prop:=a.ownBlock=none∨a.ownBlock≠b.ownBlock
theorem Own.slice (h:Own k e w lo v xs):∃a c,v=.slice a xs.length c:=by
 obtain ⟨a,c,h0,_⟩:=h.rd.len;exact ⟨a,c,h0⟩
theorem Own.setAt (h:Own k e w lo v xs) (hne:v.ownBlock=none∨v.ownBlock≠some g):Own k e (w.setCell ⟨g,j,none⟩ u) lo v xs :=
 h.other (grownBy_set w w g j u (Zz _ _)) hne
def QE (w:World) (lo:Nat) (v:Value) (xs:List Int):Prop:=∃te,Own .u8 te w lo v xs
theorem Own.b (h:Own .u8 te w lo v xs):QE w lo v xs:=⟨te,h⟩
theorem QE.rd (h:QE w lo v xs):Rd .u8 w v xs:=h.elim fun _ h=>h.rd
theorem QE.below (h:QE w lo v xs) (hb:Zi w w'):QE w' lo v xs:=h.elim fun _ h=>⟨_,h.below hb⟩
theorem QE.mono (h:QE w lo v xs) (hl:lo'≤lo):QE w lo' v xs:=h.elim fun _ h=>⟨_,h.mono hl⟩
theorem QE.other (h:QE w lo v xs) (hg:w.grownBy w' row) (hne:v.ownBlock=none∨v.ownBlock≠row):QE w' lo v xs:=h.elim fun _ h=>⟨_,h.other hg hne⟩
theorem QE.lt (h:QE w lo v xs):∀g,v.ownBlock=some g→lo≤g∧g<w.heap.size:=h.elim fun _ h=>h.lt
theorem QE.slice (h:QE w lo v xs):∃a c,v=.slice a xs.length c:=h.elim fun _ h=>h.slice
theorem QE.setAt (h:QE w lo v xs) (hne:v.ownBlock=none∨v.ownBlock≠some g):QE (w.setCell ⟨g,j,none⟩ u) lo v xs:=h.elim fun _ h=>⟨_,h.setAt hne⟩
def KQ (e:TypeId) (w:World) (lo:Nat) (v:Value) (ps:List (Int × List Int)) (dv:Nat→Value):Prop :=
 w.ownsRow lo e 2 v ps.length (OL ps.length (pB ps) dv)∧(∀i,i<ps.length→QE w lo (dv i) (pD ps i)) ∧
 (∀i j,i<ps.length→j<ps.length→i≠j→tM (dv i) (dv j))∧∀i,i<ps.length→tM (dv i) v
theorem KQ.rd {dv:Nat→Value} (h:KQ e w lo v ps dv):J8 w v ps:=by
 obtain ⟨ho,hd,_,_⟩:=h
 rcases ho.2 with ⟨rfl,h0⟩ | ⟨g,cap,cur,rfl,hb,hg,hn,hm,hs,ht⟩
 · have:ps=[]:=Zg h0
   subst this;exact ⟨none,0,rfl,YR,Zu _,.inl rfl⟩
 refine ⟨_,cap,rfl,hn,hm,.inr ⟨g,0,rfl,(Z3.1 hg).1,fun i hi=>?_⟩⟩;have c1:=Ys ho (g:=g) rfl (i*2) _ (Fi _ _ _ _ (by omega));have c2:=Ys ho (g:=g) rfl (i*2+1) _ (Fi _ _ _ _ (by omega));rw [YY] at c1 c2;rw [Z0 (by omega),show i*2 / 2=i by omega] at c1;rw [Z1 (by omega),show (i*2+1) / 2=i by omega] at c2;obtain ⟨a,c,e⟩:=(hd i hi).slice;refine ⟨c1,a,c,?_,?_⟩
 · rw [←e,Xu];exact c2
 rw [←e];exact (hd i hi).rd
theorem KQ.below {dv:Nat→Value} (h:KQ e w lo v ps dv) (hb:Zi w w'):KQ e w' lo v ps dv:=by
 obtain ⟨ho,hd,h3,h4⟩:=h;refine ⟨⟨ho.1,?_⟩,fun i hi=>(hd i hi).below hb,h3,h4⟩
 rcases ho.2 with hn | ⟨g,cap,cur,rfl,hbg,hgg,rest⟩
 · exact .inl hn
 exact .inr ⟨g,cap,cur,rfl,hbg,by rw [hb.block g (Z3.1 hgg).1];exact hgg,rest⟩
theorem KQ.mono {dv:Nat→Value} (h:KQ e w lo v ps dv) (hl:lo'≤lo):KQ e w lo' v ps dv:=by
 obtain ⟨ho,hd,h3,h4⟩:=h;refine ⟨⟨ho.1,?_⟩,fun i hi=>(hd i hi).mono hl,h3,h4⟩
 rcases ho.2 with hn | ⟨g,cap,cur,rfl,hbg,rest⟩
 · exact .inl hn
 exact .inr ⟨g,cap,cur,rfl,by omega,rest⟩
theorem Tryz.qk:(Tryz.prog.info? 132).map (fun i=>(i.zero,i.size,i.bytes))=some (some (.agg #[.int .i64 0,.slice none 0 0]),2,32):=by kernel_rfl
def QA (dv:Nat→Value) (k:Nat) (v:Value) (i:Nat):Value:=if i=k then v else dv i
theorem KQ.slice {dv:Nat→Value} (h:KQ e w lo v ps dv):∃a c,v=.slice a ps.length c:=by
 obtain ⟨a,c,h0,_⟩:=h.rd.len;exact ⟨a,c,h0⟩
def lI (n:Nat) (ps:List (Int × List Int)) (i:Nat):Prop:=0≤pB ps i∧pB ps i<n∧(pD ps i).length=64
def rQ (dl:Nat) (ps:List (Int × List Int)):Prop:=dl % 64=0∧1≤dl / 64∧dl / 64≤300∧ps.length≤2000∧∀i,i<ps.length→lI (dl / 64) ps i
def nZ (n:Nat) (ps:List (Int × List Int)) (i:Nat):Bool:=decide (0≤pB ps i) && decide (pB ps i<n) && decide ((pD ps i).length=64)
theorem wG (n:Nat) (ps:List (Int × List Int)) (i:Nat):nZ n ps i=true↔lI n ps i:=by unfold nZ lI;simp [and_assoc]
def QP (dl:Nat) (ps:List (Int × List Int)):Bool:=decide (dl % 64=0) && decide (1≤dl / 64) && decide (dl / 64≤300) && decide (ps.length≤2000) && (List.range ps.length).all (nZ (dl / 64) ps)
theorem Sq (dl:Nat) (ps:List (Int × List Int)):QP dl ps=true↔rQ dl ps:=by
 unfold QP rQ
 simp only [ZA,Zj,Yw,Yb,wG,and_assoc]
theorem wD (h:rQ dl ps):QP dl ps=true:=(Sq dl ps).2 h
theorem By (h:¬rQ dl ps):QP dl ps=false:=by
 cases e:QP dl ps with
 | false=>rfl
 | true=>exact absurd ((Sq dl ps).1 e) h
theorem Sp (w:World) (ao:Option Addr) (n cap:Nat) (vp:Value) (hn:n≤1048576) :
    Calls Tryz.prog 81 #[.agg #[.slice ao n cap,vp]] w (Wj w (.int .i64 ((n / 64:Nat):Int))):=by
 go_enter Tryz.func81,Tryz.ntmps81
 go_wp2;go_ret;exact ⟨Pd (by omega),Yy.alloc YR _⟩
theorem Ij (w:World) (ao:Option Addr) (n cap:Nat) (vp:Value) (x:Int) (hn:n≤1048576) :
    Calls Tryz.prog 130 #[.agg #[.slice ao n cap,vp],.int .i64 x] w (Wj w (.bool (decide (0≤x∧x<(n / 64:Nat))))):=by
 have B0:Hid (Zi w (w.alloc (.cells #[.slice ao n cap,vp] 52))):=Yy.alloc YR _
 by_cases h0:0≤x
 · go_enter Tryz.func130,Tryz.ntmps130
   go_wp2_with fail
   refine (Sp _ ao n cap vp hn).mono ?_;rintro e w1 ⟨rfl,b1⟩;have B1:=ZU (B0.out.trans (b1.mono (by simp)));generalize hm:n / 64=m at *;have HM:=ZU hm
   by_cases h1:x<(m:Int)
   · go_wp2
     go_ret;exact ⟨Wt (by have:=HM.out;symm;rw [Zj];omega),B1.out⟩
   go_wp2;go_ret;exact ⟨Wt (by have:=HM.out;symm;rw [UQ];omega),B1.out⟩
 have hd:decide (0≤x)=false:=by simpa using h0
 go_enter Tryz.func130,Tryz.ntmps130
 go_wp2;go_ret;exact ⟨Wt (by symm;first | rfl | (rw [Xq];omega)),B0.out⟩
def Ii (w:World) (b o n:Nat) (ps:List (Int × List Int)):Prop :=
 ∀i,i<n→w.cell? ⟨b,o+i*2,none⟩=some (.int .i64 (pB ps i))∧∃da c,w.cell? ⟨b,o+i*2+1,none⟩=some (.slice da (pD ps i).length c)
theorem J8.cells (h:J8 w (.slice ao n cap) ps) (hn:0<n):∃b o,ao=some ⟨b,o,none⟩∧b<w.heap.size∧Ii w b o n ps∧ps.length=n:=by
 obtain ⟨nY,cap',e,h1,h2,h3⟩:=h
 simp only [ZC] at e
 obtain ⟨rfl,rfl,rfl⟩:=e
 rcases h3 with rfl | ⟨b,o,rfl,hb,hc⟩
 · simp at hn
 exact ⟨b,o,rfl,hb,fun i hi=>⟨(hc i hi).1,by obtain ⟨da,c,h,_⟩:=(hc i hi).2;exact ⟨da,c,h⟩⟩,rfl⟩
theorem Ii.below {b:Nat} (h:Ii w b o n ps) (hb:b<w.heap.size) (hB:Zi w w'):Ii w' b o n ps :=
 fun i hi=>⟨(hB.cell (p:=⟨b,_,none⟩) hb).trans (h i hi).1,by obtain ⟨da,c,e⟩:=(h i hi).2;exact ⟨da,c,(hB.cell (p:=⟨b,_,none⟩) hb).trans e⟩⟩
theorem KP (w:World) (va vb:Option Addr) (dl ca n cb:Nat) (hd:dl≤1048576) (hn:n≤1048576) (h:¬(dl % 64=0∧1≤dl / 64∧dl / 64≤300∧n≤2000)) :
    Calls Tryz.prog 80 #[.agg #[.slice va dl ca,.slice vb n cb]] w (Wj w (.bool false)):=by
 have B0:Hid (Zi w (w.alloc (.cells #[.slice va dl ca,.slice vb n cb] 52))):=Yy.alloc YR _
 by_cases h1:dl % 64=0
 · have t1:(((dl:Int) % 64) != 0)=false:=by rw [Uo];omega
   have HX:=ZU h;have H1:=ZU h1
   go_enter Tryz.func80,Tryz.ntmps80
   go_wp2_with fail
   refine (Sp _ va dl ca _ hd).mono ?_;rintro e w1 ⟨rfl,b1⟩;obtain ⟨c0,c1,_,_,z1⟩:=KS b1;have B1:=ZU (B0.out.trans (b1.mono (by simp)));have h:=HX.out;have h1:=H1.out;generalize dl / 64=m at *
   by_cases h2:(m:Int)<1
   · clear h h1
     go_wp2;go_ret;exact ⟨rfl,B1.out⟩
   by_cases h3:(300:Int)<(m:Int)
   · clear h h1
     go_wp2;go_ret;exact ⟨rfl,B1.out⟩
   have h4:(2000:Int)<(n:Int):=by omega
   go_wp2;go_ret;exact ⟨rfl,B1.out⟩
 have t1:(((dl:Int) % 64) != 0)=true:=by rw [bne_iff_ne];omega
 go_enter Tryz.func80,Tryz.ntmps80
 go_wp2;go_ret;exact ⟨rfl,B0.out⟩
theorem KO (w:World) (va vb:Option Addr) (dl ca n cb:Nat) (ps:List (Int × List Int)) (hp:J8 w (.slice vb n cb) ps) (hl:ps.length=n) (hd:dl≤1048576)
    (h1:dl % 64=0) (h2:1≤dl / 64) (h3:dl / 64≤300) (h4:n≤2000) (hdl:∀i,(pD ps i).length≤1048576) :
    Calls Tryz.prog 80 #[.agg #[.slice va dl ca,.slice vb n cb]] w (Wj w (.bool (QP dl ps))):=by
 have B0:Hid (Zi w (w.alloc (.cells #[.slice va dl ca,.slice vb n cb] 52))):=Yy.alloc YR _;have HP:=ZU hp;have HL:=ZU hl;have OM:=ZU hdl;have H1:=ZU h1;have H2:Hid (1≤dl / 64∧dl / 64≤300):=⟨h2,h3⟩;have t1:(((dl:Int) % 64) != 0)=false:=by rw [Uo];omega
 go_enter Tryz.func80,Tryz.ntmps80
 go_wp2_with fail
 refine (Sp _ va dl ca _ hd).mono ?_;rintro e w1 ⟨rfl,b1⟩;have X1:=ZU ((Vg.new w _ _ _).below b1);have B1:=ZU (B0.out.trans (b1.mono (by simp)));have h2:=H2.out;generalize hm:dl / 64=m at *;have HM:=ZU hm;have t2:¬(m:Int)<1:=by omega
 have t3:¬(300:Int)<(m:Int):=by omega
 have t4:¬(2000:Int)<(n:Int):=by omega
 obtain ⟨z1,c0,c1⟩:=X1.out;go_wp2
 go_loopw [28] (fun i wr=>∃k:Nat,k≤n∧i=.int .i64 k∧Hid (∀i,i<k→lI m ps i)∧Hid (Vg wr w.heap.size (.slice va dl ca) (.slice vb n cb))∧Zi w wr) (fun i _=>n - (intOf i).toNat)
 case atStart=>exact ⟨0,Zu _,rfl,fun i hi=>by omega,X1,B1.out⟩
 case round =>
  obtain ⟨k,hk,rfl,PX,HX,hg⟩:=hrel
  by_cases hlt:k<n
  · obtain ⟨b,o,rfl,hb,hc,_⟩:=HP.out.cells (by omega)
    obtain ⟨e1,da,dc,e2⟩:=(hc.below hb hg) k hlt;have Rj:(k:Int)<(n:Int):=by omega
    have hdk:=OM.out k;obtain ⟨z1,c0,c1⟩:=HX.out;have HG:=ZU hg
    go_wp2_with fail
    have BA:Hid (Zi w (wr.alloc (.cells #[.int .i64 (pB ps k),.slice da (pD ps k).length dc] 132))):=HG.out.alloc HG.out.size _;have XA:Hid (Vg (wr.alloc (.cells #[.int .i64 (pB ps k),.slice da (pD ps k).length dc] 132)) w.heap.size (.slice va dl ca) (.slice (some ⟨b,o,none⟩) n cb)):=HX.out.below (Yy.alloc YR _);have XB:Hid (Vg (wr.alloc (.cells #[.int .i64 (pB ps k),.slice da (pD ps k).length dc] 132)) wr.heap.size (.int .i64 (pB ps k)) (.slice da (pD ps k).length dc)):=Vg.new _ _ _ _;generalize wr.alloc _=wa at *;refine (Ij _ va dl ca _ (pB ps k) hd).mono ?_;rintro e w2 ⟨rfl,b2⟩;rw [HM.out];have X2:=ZU (XA.out.below b2);have XC:=ZU (XB.out.below b2);have B2:=ZU (WD BA.out b2);obtain ⟨_,d0,d1⟩:=XC.out
    by_cases hok:lI m ps k
    · have HK:Hid (lI m ps k):=hok
      obtain ⟨q1,q2,q3⟩:=hok;have q4:(((pD ps k).length:Int) != 64)=false:=by rw [Uo];omega
      rw [show decide (0≤pB ps k∧pB ps k<(m:Int))=true by rw [Zj];omega];go_wp2
      go_roundw
      case rel=>exact ⟨k+1,by omega,by go_num,(fun i hi=>by by_cases e:i=k;(subst e;exact HK.out);exact PX.out i (by omega)),X2,B2.out⟩
      case measure=>simp [intOf];omega
    have HN:Hid (QP dl ps=false):=By (by rintro ⟨_,_,_,_,h5⟩;rw [HM.out] at h5;exact hok (h5 k (by rw [HL.out];exact hlt)))
    by_cases q1:0≤pB ps k∧pB ps k<(m:Int)
    · rw [show decide (0≤pB ps k∧pB ps k<(m:Int))=true by rw [Zj];exact q1]
      have q3:(((pD ps k).length:Int) != 64)=true:=by rw [bne_iff_ne];intro e;exact hok ⟨q1.1,q1.2,by omega⟩
      go_wp2;go_ret;exact ⟨Wt HN.out.symm,B2.out⟩
    rw [show decide (0≤pB ps k∧pB ps k<(m:Int))=false by rw [Xq];exact q1];go_wp2;go_ret;exact ⟨Wt HN.out.symm,B2.out⟩
  have HY:Hid (QP dl ps=true):=wD ⟨H1.out,by rw [HM.out];exact H2.out.1,by rw [HM.out];exact H2.out.2,by rw [HL.out];omega,fun i hi=>by rw [HM.out];exact PX.out i (by rw [HL.out] at hi;omega)⟩;have Rj:¬(k:Int)<(n:Int):=by omega
  have HG:=ZU hg;go_wp2;go_ret;exact ⟨Wt HY.out.symm,HG.out⟩
theorem Qx (w:World) (va vb:Option Addr) (dl ca n cb:Nat) (ps:List (Int × List Int)) (hp:J8 w (.slice vb n cb) ps) (hl:ps.length=n) (hd:dl≤1048576) (hn:n≤1048576) (hdl:∀i,(pD ps i).length≤1048576) :
    Calls Tryz.prog 80 #[.agg #[.slice va dl ca,.slice vb n cb]] w (Wj w (.bool (QP dl ps))):=by
 by_cases h:dl % 64=0∧1≤dl / 64∧dl / 64≤300∧n≤2000
 · exact KO w va vb dl ca n cb ps hp hl hd h.1 h.2.1 h.2.2.1 h.2.2.2 hdl
 rw [By (fun h5=>h ⟨h5.1,h5.2.1,h5.2.2.1,by have:=h5.2.2.2.1;omega⟩)];exact KP w va vb dl ca n cb hd hn h
def ks (ps:List (Int × List Int)) (k:Int) (i:Nat):Int:=k+i+tot (ps.take i)
def mB (ps:List (Int × List Int)) (k0:Int) (k i:Nat):Int:=if i<k then ks ps k0 i else pB ps i
structure RP (w:World) (lo hi:Nat) (vd vp:Value) (YL:List Int) (ps:List (Int × List Int)) (dv:Nat→Value):Prop where
 d:Own .u8 5 w lo vd YL
 p:KQ 132 w lo vp ps dv
 lH:∀g,vd.ownBlock=some g→g<hi
 nX:∀g,vp.ownBlock=some g→g<hi
 iY:∀i,i<ps.length→∀g,(dv i).ownBlock=some g→g<hi
 dp:tM vp vd
 dq:∀i,i<ps.length→tM (dv i) vd
theorem RP.below {dv:Nat→Value} (ho:RP w lo hi vd vp YL ps dv) (hb:Zi w w'):RP w' lo hi vd vp YL ps dv :=
 ⟨ho.d.below hb,ho.p.below hb,ho.lH,ho.nX,ho.iY,ho.dp,ho.dq⟩
theorem Dl {b:Nat} (hc:∀i,i<xs.length→w.cell? ⟨b,o+i,none⟩=some (.int k (xs.getD i 0))):∀j u,(xs.map (Value.int k))[j]?=some u→w.cell? ((⟨b,o,none⟩:Addr).add j)=some u:=by
 intro j u hu;have hj:j<xs.length:=by have:=(Zh.1 hu).1;simpa using this
 rw [YY,hc j hj]
 simp [ZF hj] at hu
 simp [List.getD,hj,hu]
theorem Je (w:World) (v:Value) (xs:List Int) (h:Rd .u8 w v xs) (hn:xs.length≤1099511627776) :
    Calls Tryz.prog 82 #[v] w fun e w'=>∃v',e=.returned v'∧Own .u8 5 w' w.heap.size v' xs∧Zi w w':=by
 obtain ⟨i0,hi,hz0,hz1,hz2⟩:=YN Tryz.QZ;obtain ⟨ao,cap,rfl,h1,h2,h3⟩:=h;have q22:∀(w:World) (a:Option Addr) (n c n' c':Nat),(binOp .eql 22 (.slice a n c) (.slice none n' c')).run Tryz.prog w=.ok (.bool a.isNone) w:=fun w a n c n' c'=>U7 w _ _ a n c n' c' Tryz.underlying22
 have HE:Hid ((w.alloc (.cells #[] 5)).ownsRow w.heap.size 5 1 (.slice (some ⟨w.heap.size,0,none⟩) 0 0) 0 []):=WX w #[] 0 YR (Zu _) rfl;have HB:Hid (Zi w (w.alloc (.cells #[] 5))):=Yy.alloc YR _
 cases ao with
 | none =>
  have hx:xs=[]:=by
   rcases h3 with h3 | ⟨b,o,e,_⟩
   · exact h3
   cases e
  subst hx;clear h3
  go_enter Tryz.func82,Tryz.ntmps82
  go_wp2;go_ret;exact ⟨_,rfl,ZH _ _ _ _,Yy⟩
 | some a =>
  have hcs:∀j u,(xs.map (Value.int .u8))[j]?=some u→(w.alloc (.cells #[] 5)).cell? (a.add j)=some u:=by
   rcases h3 with rfl | ⟨b,o,e,hb,hc⟩
   · intro j u hu;simp at hu
   injection e with e
   subst e;exact Dl (fun i hi=>(HB.out.cell (p:=⟨b,o+i,none⟩) hb).trans (hc i hi))
  have kx:=ZU hcs;clear h3 hcs
  go_enter Tryz.func82,Tryz.ntmps82
  go_wp2_with (at_builtin;go_must (refine Yn _ rfl _ _ 22 rfl w.heap.size 5 i0 (.int .u8 0) 1 1 Tryz.underlying22 hi hz0 hz1 hz2 rfl (by decide) _ _ _ rfl HE.out a xs.length cap (xs.map (Value.int .u8)) rfl ?c0 kx.out (Yi _ _) ?c3 ?c4 ?c5 ?_))
  case c0=>simp
  case c3=>unfold maxLen;omega
  case c4=>omega
  case c5=>simp
  intro v2 w2 ho2 hg2 _;have DT:Hid (Own .u8 5 w2 w.heap.size v2 xs):=by
   exact ho2
  have HG2:=ZU (HB.out.grown hg2 (by simp) (by intro q hq;simp [Value.ownBlock] at hq;omega));clear ho2 hg2;go_wp2;go_ret;exact ⟨_,rfl,DT.out,HG2.out⟩
def SQ (w:World) (b:Nat) (x y:Value):Prop:=Vg w b x y∧w.frozen? ⟨b,0,none⟩=false∧w.frozen? ⟨b,1,none⟩=false
theorem SQ.below {b:Nat} (h:SQ w b x y) (hb:Zi w w'):SQ w' b x y :=
 ⟨h.1.below hb,(hb.frozen (p:=⟨b,0,none⟩) h.1.1).trans h.2.1,(hb.frozen (p:=⟨b,1,none⟩) h.1.1).trans h.2.2⟩
theorem SQ.new (w:World) (x y:Value) (t:TypeId):SQ (w.alloc (.cells #[x,y] t)) w.heap.size x y:=⟨Vg.new _ _ _ _,by simp,by simp⟩
theorem J8.recAt {k:Nat} (h:J8 w (.slice ao n cap) ps) (hl:ps.length=n) (hk:k<n):∃b o,ao=some ⟨b,o,none⟩∧b<w.heap.size ∧
    w.cell? ⟨b,o+k*2,none⟩=some (.int .i64 (pB ps k))∧∃da c,w.cell? ⟨b,o+k*2+1,none⟩=some (.slice da (pD ps k).length c)∧Rd .u8 w (.slice da (pD ps k).length c) (pD ps k):=by
 obtain ⟨nY,cap',e,h1,h2,h3⟩:=h
 simp only [ZC] at e
 obtain ⟨rfl,_,rfl⟩:=e
 rcases h3 with rfl | ⟨b,o,rfl,hb,hc⟩
 · simp at hl;omega
 obtain ⟨c1,da,c,c2,r⟩:=hc k (by omega);exact ⟨b,o,rfl,hb,c1,da,c,c2,r⟩
theorem RP.mono {hi':Nat} {dv:Nat→Value} (ho:RP w lo hi vd vp YL ps dv) (hl:lo'≤lo) (hh:hi≤hi'):RP w lo' hi' vd vp YL ps dv :=
 ⟨ho.d.mono hl,ho.p.mono hl,fun g hg=>ZY (ho.lH g hg) hh,fun g hg=>ZY (ho.nX g hg) hh,fun i hi g hg=>ZY (ho.iY i hi g hg) hh,ho.dp,ho.dq⟩
theorem Tv (ps:List (Int × List Int)) (p:Int × List Int) (i:Nat) (h:i<ps.length):pB (ps++[p]) i=pB ps i:=by unfold pB;simp [List.getD,Zy h]
theorem Ih (ps:List (Int × List Int)) (p:Int × List Int) (i:Nat) (h:i<ps.length):pD (ps++[p]) i=pD ps i:=by unfold pD;simp [List.getD,Zy h]
theorem Tg (ps:List (Int × List Int)) (p:Int × List Int):pB (ps++[p]) ps.length=p.1:=by unfold pB;simp [List.getD]
theorem LI (ps:List (Int × List Int)) (p:Int × List Int):pD (ps++[p]) ps.length=p.2:=by unfold pD;simp [List.getD]
theorem Own.far (h:Own k e w base v xs) (hu:∀g,u.ownBlock=some g→g<base):v.ownBlock=none∨v.ownBlock≠u.ownBlock:=by
 cases hv:v.ownBlock with
 | none=>exact .inl rfl
 | some q =>
  right;intro e
  have:=(h.lt q hv).1;have:=hu q e.symm;omega
theorem zV {wr:World} {k:Nat} {vk:Value} {x:Int} {dv:Nat→Value} {ob:Obj} (ho:RP wr lo hi vd vk YL ps dv) (hhi:hi≤wr.heap.size) (hlo:lo≤wr.heap.size) (hk:ps.length=k) (bw:Zi wr w') (o':Own .u8 te w' wr.heap.size v xs)
    (GJ:w4.ownsRow lo 132 2 (.slice (some ⟨g,0,none⟩) (k+1) cap) (k+1) (OL k (pB ps) dv++[.int .i64 x,v])) (hg4:(w'.alloc ob).grownBy w4 vk.ownBlock) (hat:vk.ownBlock=some g∨g=w'.heap.size+1) :
    RP w4 lo w4.heap.size vd (.slice (some ⟨g,0,none⟩) (k+1) cap) YL (ps++[(x,xs)]) (QA dv k v):=by
 subst hk;have G:=WR (WQ w' ob _) hg4;have hsz:=bw.size;have hs4:=G.size;have hvk:∀q,vk.ownBlock=some q→q<wr.heap.size:=fun q hq=>ZY (ho.nX q hq) hhi
 have hnew:=(o'.other G (o'.far hvk)).b;have hold:∀i,i<ps.length→QE w4 lo (dv i) (pD ps i):=fun i hi=>((ho.p.2.1 i hi).below bw).other G (ho.p.2.2.2 i hi)
 have hlen:(ps++[(x,xs)]).length=ps.length+1:=by simp
 have hd4:Own .u8 5 w4 lo vd YL:=by
  refine (ho.d.below bw).other G ?_
  rcases ho.dp with h | h
  · rw [h];cases vd.ownBlock with
    | none=>exact .inl rfl
    | some q=>exact .inr (by simp)
  exact .inr (Ne.symm h)
 have hgv:∀u:Value,(∀q,u.ownBlock=some q→q<wr.heap.size)→tM u vk→tM u (.slice (some ⟨g,0,none⟩) (ps.length+1) cap):=by
  intro u hu hn;unfold tM
  cases e:u.ownBlock with
  | none=>exact .inl rfl
  | some q =>
   right
   simp only [Value.ownBlock,ne_eq,ZK]
   intro eq;have:=hu q e
   rcases hat with h | h
   · rcases hn with h' | h'
     · rw [h'] at e;cases e
     exact h' (by rw [e,h,eq])
   omega
 have hlast:tM v (.slice (some ⟨g,0,none⟩) (ps.length+1) cap):=by
  unfold tM
  cases e:v.ownBlock with
  | none=>exact .inl rfl
  | some q =>
   right
   simp only [Value.ownBlock,ne_eq,ZK]
   intro eq;have h1:=o'.lt q e
   rcases hat with h | h
   · have:=hvk g h;omega
   omega
 refine ⟨hd4,⟨?_,?_,?_,?_⟩,fun q hq=>(hd4.lt q hq).2,fun q hq=>(ZT GJ q hq).2,?_,?_,?_⟩
 · rw [hlen]
   have e:OL (ps.length+1) (pB (ps++[(x,xs)])) (QA dv ps.length v)=OL ps.length (pB ps) dv++[.int .i64 x,v]:=by
    rw [MB]
    congr 1
    · exact Dm (fun i hi=>Tv _ _ _ hi) (fun i hi=>by unfold QA;rw [Z1 (by omega)])
    rw [Tg];unfold QA;rw [Z0 rfl]
   rw [e];exact GJ
 · intro i hi
   rw [hlen] at hi;unfold QA
   by_cases e:i=ps.length
   · rw [Z0 e,e,LI];exact hnew.mono hlo
   rw [Z1 e,Ih _ _ _ (by omega)];exact hold i (by omega)
 · intro i j hi hj hne
   rw [hlen] at hi hj;unfold QA
   by_cases e:i=ps.length
   · rw [Z0 e,Z1 (by omega)]
     exact o'.far (fun q hq=>((ho.p.2.1 j (by omega)).lt q hq).2)
   by_cases e':j=ps.length
   · rw [Z1 e,Z0 e']
     unfold tM
     cases hv:(dv i).ownBlock with
     | none=>exact .inl rfl
     | some q =>
      right;intro hq
      have:=(o'.lt q hq.symm).1;have:=((ho.p.2.1 i (by omega)).lt q hv).2;omega
   rw [Z1 e,Z1 e'];exact ho.p.2.2.1 i j (by omega) (by omega) hne
 · intro i hi
   rw [hlen] at hi;unfold QA
   by_cases e:i=ps.length
   · rw [Z0 e];exact hlast
   rw [Z1 e];exact hgv _ (fun q hq=>((ho.p.2.1 i (by omega)).lt q hq).2) (ho.p.2.2.2 i (by omega))
 · intro i hi q hq
   rw [hlen] at hi;unfold QA at hq
   by_cases e:i=ps.length
   · rw [Z0 e] at hq;exact (hnew.lt q hq).2
   rw [Z1 e] at hq;exact ((hold i (by omega)).lt q hq).2
 · right
   simp only [Value.ownBlock,ne_eq]
   intro e;have h1:=ho.lH g e.symm
   rcases hat with h | h
   · rcases ho.dp with h' | h'
     · rw [h'] at h;cases h
     exact h' (h.trans e)
   omega
 intro i hi;rw [hlen] at hi;unfold QA
 by_cases e:i=ps.length
 · rw [Z0 e]
   exact o'.far (fun q hq=>by have:=ho.lH q hq;omega)
 rw [Z1 e];exact ho.dq i (by omega)
theorem zU {C:List Int} (hb:base≤w.heap.size) (hC:C.length=64):Own .u8 t (w.alloc (.cells (C.map (Value.int .u8)).toArray t)) base (.slice (some ⟨w.heap.size,0,none⟩) 64 64) C:=by
 have:=WX (size:=1) (e:=t) w (C.map (Value.int .u8)).toArray 64 hb (by unfold maxLen;omega) (by simp [hC]);unfold Own;rw [hC]
 simpa using this
theorem Ig (w:World) (pb off lo hi0:Nat) (vd vp:Value) (YL:List Int) (ps:List (Int × List Int)) (dv:Nat→Value) (x:Int) (C:List Int) (hD:RP w lo hi0 vd vp YL ps dv) (hhi:hi0≤w.heap.size) (hlo:lo≤w.heap.size) (hc:w.cell? ⟨pb,off+1,none⟩=some vp) (hf:w.frozen? ⟨pb,off+1,none⟩=false) (hpb:pb<w.heap.size) (hne:vp.ownBlock≠some pb) (hC:C.length=64) (hn:ps.length≤1000000) :
    Calls Tryz.prog 139 #[.pointer (some ⟨pb,off,none⟩),.int .i64 x,.agg (C.map (Value.int .u8)).toArray] w fun e w'=>e=.returned (.tuple #[])∧∃w5 g cap v,RP w5 lo w5.heap.size vd (.slice (some ⟨g,0,none⟩) (ps.length+1) cap) YL (ps++[(x,C)]) (QA dv ps.length v)∧w.grownBy w5 vp.ownBlock∧(vp.ownBlock=some g∨w.heap.size≤g)∧v.ownBlock=some w.heap.size∧w'=w5.setCell ⟨pb,off+1,none⟩ (.slice (some ⟨g,0,none⟩) (ps.length+1) cap):=by
 obtain ⟨i0,hi,hz0,hz1,hz2⟩:=YN Tryz.qk;obtain ⟨vk,ck,rfl⟩:=hD.p.slice;have GL:Hid (∀v ∈ (C.map (Value.int .u8)),v.oneCell'=true):=Yi _ _;have OC:Hid (Own .u8 117 (w.alloc (.cells (C.map (Value.int .u8)).toArray 117)) w.heap.size (.slice (some ⟨w.heap.size,0,none⟩) 64 64) C):=zU YR hC;have bA:Below w.heap.size w (w.alloc (.cells (C.map (Value.int .u8)).toArray 117)):=Yy.alloc YR _;obtain ⟨X,hX⟩:∃X,X=C.map (Value.int .u8):=⟨_,rfl⟩;rw [←hX] at OC bA GL ⊢;have HX:Hid (X.length=64):=by subst hX;show _=_;simpa using hC
 have Zd:=ZU bA;have HD:=ZU hD;have nW:Hid (w.cell? ⟨pb,off+1,none⟩=some (.slice vk ps.length ck)∧w.frozen? ⟨pb,off+1,none⟩=false):=⟨hc,hf⟩;obtain ⟨n0,hn0⟩:∃n,n=ps.length:=⟨_,rfl⟩;have rV:=ZU hn0.symm;have eU:n0≤1000000:=by omega
 rw [←hn0] at nW hne ⊢;have Y7:Hid (RP w lo hi0 vd (.slice vk n0 ck) YL ps dv):=by rw [hn0];exact HD.out
 clear hD hX bA hc hf HD hn0 hn
 go_enter Tryz.func139,Tryz.ntmps139
 go_wp2_with fail
 generalize hW0:w.alloc _=w0 at *;have hs0:w0.heap.size=w.heap.size+1:=by rw [←hW0];simp
 clear hW0;have bP:Below w.heap.size w w0.drew:=Zd.out.trans ((below_drewN' w0 1).mono Zd.out.size);have hS0:w0.drew.cell? ⟨pb,off+1,none⟩=some (.slice vk n0 ck)∧w0.drew.frozen? ⟨pb,off+1,none⟩=false:=⟨(bP.cell (p:=⟨pb,off+1,none⟩) hpb).trans nW.out.1,(bP.frozen (p:=⟨pb,off+1,none⟩) hpb).trans nW.out.2⟩;refine ZX (S:=fun _=>True) (by kernel_rfl) trivial (fun Z9=>?_);have iJ:=ZU hS0;clear hS0;have OP:Hid (Own .u8 117 w0.drew w.heap.size (.slice (some ⟨w.heap.size,0,none⟩) 64 64) C):=OC.out;have hsp:w0.drew.heap.size=w.heap.size+1:=hs0;have ZN:=ZU bP;have tL:=ZU hsp;clear bP OC Zd hs0 hsp;generalize w0.drew=wp at *;generalize Z6:w.heap.size=BX at *;have bW:∀ob,Below wp.heap.size wp (wp.alloc ob):=fun ob=>Yy.alloc YR _
 have lp:Hid ((wp.alloc (.cells #[.int .i64 x,.slice (some ⟨BX,0,none⟩) 64 64] 132)).cell? ⟨pb,off+1,none⟩=some (.slice vk n0 ck)∧(wp.alloc (.cells #[.int .i64 x,.slice (some ⟨BX,0,none⟩) 64 64] 132)).frozen? ⟨pb,off+1,none⟩=false) :=
  ⟨((bW _).cell (p:=⟨pb,off+1,none⟩) (show pb<wp.heap.size by have:=tL.out;omega)).trans ((ZN.out.cell (p:=⟨pb,off+1,none⟩) (by show pb<_;omega)).trans nW.out.1),((bW _).frozen (p:=⟨pb,off+1,none⟩) (show pb<wp.heap.size by have:=tL.out;omega)).trans ((ZN.out.frozen (p:=⟨pb,off+1,none⟩) (by show pb<_;omega)).trans nW.out.2)⟩
 have Y6:Hid (∀w4,(wp.alloc (.cells #[.int .i64 x,.slice (some ⟨BX,0,none⟩) 64 64] 132)).grownBy w4 (Value.ownBlock (.slice vk n0 ck))→w4.cell? ⟨pb,off+1,none⟩=some (.slice vk n0 ck)∧w4.frozen? ⟨pb,off+1,none⟩=false):=fun w4 hg =>
  ⟨(hg.cell_far ⟨pb,off+1,none⟩ (by have:=tL.out;simp;omega) (Ne.symm hne)).trans lp.out.1,(hg.frozen_far ⟨pb,off+1,none⟩ (by have:=tL.out;simp;omega) (Ne.symm hne)).trans lp.out.2⟩
 have HOW:Hid ((wp.alloc (.cells #[.int .i64 x,.slice (some ⟨BX,0,none⟩) 64 64] 132)).ownsRow lo 132 2 (.slice vk n0 ck) n0 (OL n0 (pB ps) dv)):=by
  have h1:=(Y7.out.below (by have h9:=ZN.out;rw [←Z6] at h9;exact h9)).p.1;rw [rV.out] at h1;exact h1.alloc _
 have Zx:Hid (lo≤(wp.alloc (.cells #[.int .i64 x,.slice (some ⟨BX,0,none⟩) 64 64] 132)).heap.size):=by show _≤_;have:=tL.out;simp;omega
 have PO:Hid (∀(g4 cap4:Nat) (w4:World),w4.ownsRow lo 132 2 (.slice (some ⟨g4,0,none⟩) (n0+1) cap4) (n0+1) (OL n0 (pB ps) dv++[.int .i64 x,.slice (some ⟨BX,0,none⟩) 64 64])→(wp.alloc (.cells #[.int .i64 x,.slice (some ⟨BX,0,none⟩) 64 64] 132)).grownBy w4 (Value.ownBlock (.slice vk n0 ck))→(Value.ownBlock (.slice vk n0 ck)=some g4∨g4=wp.heap.size+1) →
     ∃w5 g cap v,RP w5 lo w5.heap.size vd (.slice (some ⟨g,0,none⟩) (n0+1) cap) YL (ps++[(x,C)]) (QA dv n0 v)∧w.grownBy w5 (Value.ownBlock (.slice vk n0 ck))∧(Value.ownBlock (.slice vk n0 ck)=some g∨w.heap.size≤g)∧v.ownBlock=some w.heap.size∧w4.setCell ⟨pb,off+1,none⟩ (.slice (some ⟨g4,0,none⟩) (n0+1) cap4)=w5.setCell ⟨pb,off+1,none⟩ (.slice (some ⟨g,0,none⟩) (n0+1) cap)):=by
  intro g4 cap4 w4 GJ hg4 U;have Z5:Below w.heap.size w wp:=by rw [Z6];exact ZN.out
  refine ⟨w4,g4,cap4,.slice (some ⟨BX,0,none⟩) 64 64,?_,?_,?_,by rw [Z6];rfl,rfl⟩
  · exact zV (te:=117) Y7.out (by rw [Z6];exact hhi) (by rw [Z6];exact hlo) rV.out Z5 (by rw [Z6];exact OP.out) GJ hg4 U
  · refine WR ?_ (WR (WQ wp _ _) hg4)
    exact ⟨Z5.os,Z5.tape,Z5.output,Z5.size,fun q hq _=>Z5.block q hq⟩
  rcases U with h | h
  · exact .inl h
  right;have:=tL.out;omega
 clear bW
 iterate 4 (refine Zf ?_ (by kernel_rfl) (fun _=>id) Z9 ?_ ?_;rotate_left;· intro w9 ZQ;go_simp;try with_reducible rfl)
 refine Yp 5 (.int .i64 x) rfl (by kernel_rfl) (fun _=>id) Z9 ?DH ?_
 case DH=>intro w9 ZQ;go_simp
 refine Yp 6 (.slice (some ⟨BX,0,none⟩) 64 64) rfl (by kernel_rfl) (fun _=>id) Z9 ?rP ?_
 case rP=>intro w9 ZQ;go_simp
 refine Yp 7 (.agg #[.int .i64 x,.slice (some ⟨BX,0,none⟩) 64 64]) rfl (by kernel_rfl) (fun _=>id) Z9 ?rO ?_
 case rO=>intro w9 ZQ;go_simp
 refine QG 4 8 rfl rfl (by kernel_rfl) (fun K hK=>?_) (fun K hK=>?_)
 · have hcp:=iJ.out.1
   go_simp;refine hK.out _ _ trivial (fun YA=>?_);clear hK K YA;refine YS 8 rfl (by kernel_rfl) (fun K hK=>?_);go_simp;refine hK.out _ _ trivial (fun YA=>?_);clear hK K YA;refine YS 9 rfl (by kernel_rfl) (fun K hK=>?_);refine step_append_lies _ (by rfl) (.tmp 10) (.tmp 14) 50 (by rfl) lo 132 i0 (.agg #[.int .i64 0,.slice none 0 0]) 2 32 Tryz.underlying50 hi hz0 hz1 hz2 rfl (by omega) (.slice vk n0 ck) n0 (OL n0 (pB ps) dv) (by rfl) HOW.out ⟨wp.heap.size,0,none⟩ 1 1 [.int .i64 x,.slice (some ⟨BX,0,none⟩) 64 64] (by rfl) (by rfl) (cell_two_new _ _ _ _) (by intro u hu;simp at hu;rcases hu with rfl | rfl <;> rfl) (by omega) (by unfold maxLen;omega) (by omega) Zx.out (wp.heap.size+1) (by simp) ?_;intro g4 cap4 w4 GJ hg4 U If;obtain ⟨hq0,hq1⟩:=Y6.out w4 hg4;have FIN:=PO.out g4 cap4 w4 GJ hg4 U;have yt:Hid _:=FIN;clear FIN GJ hg4 U If;refine hK.out _ _ trivial (fun YA=>?_);clear hK K YA
   iterate 2 (refine Zf ?_ (by kernel_rfl) (fun _=>id) Z9 ?_ ?_;rotate_left;· intro w9 ZQ;go_simp;try with_reducible rfl)
   refine YS 12 rfl (by kernel_rfl) (fun K hK=>?_);go_simp;refine hK.out _ _ trivial (fun YA=>?_);clear hK K YA;refine ZR (by kernel_rfl) ?_ _
   try simp only [Act.put,WV,WU,WT]
   clear Z9;go_wp2
   go_end0
   exact ⟨rfl,yt.out⟩
 go_simp;refine hK.out _ _ trivial (fun YA=>?_);clear hK K YA;refine YS 4 rfl (by kernel_rfl) (fun K hK=>?_);have hcp:=lp.out.1;go_simp;refine hK.out _ _ trivial (fun YA=>?_);clear hK K YA;refine YS 9 rfl (by kernel_rfl) (fun K hK=>?_);refine step_append_lies _ (by rfl) (.tmp 10) (.tmp 14) 50 (by rfl) lo 132 i0 (.agg #[.int .i64 0,.slice none 0 0]) 2 32 Tryz.underlying50 hi hz0 hz1 hz2 rfl (by omega) (.slice vk n0 ck) n0 (OL n0 (pB ps) dv) (by rfl) HOW.out ⟨wp.heap.size,0,none⟩ 1 1 [.int .i64 x,.slice (some ⟨BX,0,none⟩) 64 64] (by rfl) (by rfl) (cell_two_new _ _ _ _) (by intro u hu;simp at hu;rcases hu with rfl | rfl <;> rfl) (by omega) (by unfold maxLen;omega) (by omega) Zx.out (wp.heap.size+1) (by simp) ?_;intro g4 cap4 w4 GJ hg4 U If;obtain ⟨hq0,hq1⟩:=Y6.out w4 hg4;have FIN:=PO.out g4 cap4 w4 GJ hg4 U;have yt:Hid _:=FIN;clear FIN GJ hg4 U If;refine hK.out _ _ trivial (fun YA=>?_);clear hK K YA
 iterate 2 (refine Zf ?_ (by kernel_rfl) (fun _=>id) Z9 ?_ ?_;rotate_left;· intro w9 ZQ;go_simp;try with_reducible rfl)
 refine YS 12 rfl (by kernel_rfl) (fun K hK=>?_);go_simp;refine hK.out _ _ trivial (fun YA=>?_);clear hK K YA;refine ZR (by kernel_rfl) ?_ _
 try simp only [Act.put,WV,WU,WT]
 clear Z9;go_wp2
 go_end0
 exact ⟨rfl,yt.out⟩
end
section
variable {a:Act} {ops:Array Oper} {k:IntKind} {ps rs:List (Int × List Int)} {YL xs ys:List Int} {B base cap dl g hi i j lo lo' mb n o tb:Nat} {ao:Option Addr} {row:Option Nat} {P:Program} {E:Prop} {e t te:TypeId} {u v vd vp x y:Value} {w w' w1 w4:World}
def cP:Nat:=2197175160
def cT (r:Nat):Nat:=(r / 2) ^^^ (if r % 2=1 then cP else 0)
theorem wC (a b:Nat):(a ^^^ b) / 2=a / 2 ^^^ b / 2:=by
 have:=Nat.xor_div_two (a:=a) (b:=b);exact this
theorem wz (a b:Nat):(a ^^^ b) % 2=(a+b) % 2:=by
 have:=Nat.xor_mod_two_eq_one (a:=a) (b:=b);omega
theorem nV (a b:Nat):cT (a ^^^ b)=cT a ^^^ cT b:=by
 unfold cT;rw [wC,wz]
 rcases UC a with ha | ha <;> rcases UC b with hb | hb
 · rw [Z1 (by omega),Z1 (by omega),Z1 (by omega)];simp
 · rw [Z0 (by omega),Z1 (by omega),Z0 (by omega)];simp [UB]
 · rw [Z0 (by omega),Z0 (by omega),Z1 (by omega),Q1,UB,Nat.xor_comm (b / 2),←UB]
 rw [Z1 (by omega),Z0 (by omega),Z0 (by omega)];rw [Q1,Nat.xor_comm (b / 2) cP,←UB,UB (a / 2) cP cP,Nat.xor_self,Q1]
def yK (r:Nat):Nat:=cT (cT (cT (cT r)))
theorem rN (a b:Nat):yK (a ^^^ b)=yK a ^^^ yK b:=by unfold yK;simp only [nV]
theorem LH (q:Nat):cT (2*q)=q:=by unfold cT;rw [Z1 (by omega)];simp
theorem nU (q:Nat):yK (16*q)=q:=by
 unfold yK;rw [show 16*q=2*(2*(2*(2*q))) by omega,LH,LH,LH,LH]
theorem rM (r:Nat):r=16*(r / 16) ^^^ r % 16:=by
 apply Nat.eq_of_testBit_eq;intro k;rw [Nat.testBit_xor,show 16*(r / 16)=r / 2 ^ 4*2 ^ 4 by simp only [Nat.reducePow];omega,Nat.testBit_mul_two_pow,show r % 16=r % 2 ^ 4 by rfl,Nat.testBit_mod_two_pow]
 by_cases h:4≤k
 · have h2:¬k<4:=by omega
   simp only [h,h2,decide_true,decide_false,Xz,Bool.false_and,Bool.xor_false,Nat.testBit_div_two_pow]
   congr 1;omega
 have h2:k<4:=by omega
 simp [h,h2]
def LS:List Nat:=[0,274646895,549293790,820201905,1098587580,1361435347,1640403810,1905808397,2197175160,2460548119,2722870694,2987750089,3280807620,3553878443,3811616794,4084100981]
theorem nT:∀i,i<16→LS.getD i 0=yK i:=by decide +kernel
theorem wy (r:Nat):yK r=r / 16 ^^^ LS.getD (r % 16) 0:=by
 rw [nT _ (Wg _ (by omega))]
 conv=>lhs;rw [rM r]
 rw [rN,nU]
def cB (r x:Nat):Nat:=yK (yK (r ^^^ x))
def cS (r x:Nat):Nat→Nat
 | 0=>r
 | j+1=>(cS r x j / 2) ^^^ (if (cS r x j+x / 2 ^ j) % 2=1 then cP else 0)
def No (r:Nat) (xs:List Int):Nat:=xs.foldl (fun a x=>cB a x.toNat) r
theorem zS (r:Nat) (xs:List Int) (x:Int):No r (xs++[x])=cB (No r xs) x.toNat:=by simp [No,VO]
theorem Fh {a b:Nat} (ha:a<4294967296) (hb:b<4294967296):a ^^^ b<4294967296:=by
 have:=Nat.xor_lt_two_pow (n:=32) (by simpa using ha) (by simpa using hb)
 simpa using this
end
section
open Go.RowKit Go.Shelf
variable {a:Act} {ops:Array Oper} {k:IntKind} {ps rs:List (Int × List Int)} {YL xs ys:List Int} {B base cap dl g hi i j lo lo' mb n o tb:Nat} {ao:Option Addr} {row:Option Nat} {P:Program} {E:Prop} {e t te:TypeId} {u v vd vp x y:Value} {w w' w1 w4:World}
theorem take_snoc' (xs:List Int) (k:Nat) (h:k<xs.length):xs.take (k+1)=xs.take k++[xs.getD k 0]:=by
 rw [YW h];simp [List.getD,h]
def Fg:Nat:=4294967296
theorem Ff (a b:Nat) (ha:a<Fg) (hb:b<Fg):∃z:Nat,z<Fg∧bits .xor .u32 (a:Int) (b:Int)=(z:Int)∧z=a ^^^ b :=
 ⟨a ^^^ b,Fh ha hb,u32_xor_nat a b ha hb,rfl⟩
theorem Fe (a:Nat) (ha:a<Fg):∃i:Nat,i<16∧bits .and .u32 (a:Int) 15=(i:Int)∧i=a % 16 :=
 ⟨a % 16,Wg _ (by omega),by rw [show (15:Int)=((15:Nat):Int) from rfl,u32_and_nat a 15 ha (by unfold Fg at *;omega),nat_mask4],rfl⟩
theorem Md (a b:Nat) (ha:a<Fg) (hb:b<Fg):∃z:Nat,z<Fg∧bits .xor .u32 ((a:Int) / 16) (b:Int)=(z:Int)∧z=a / 16 ^^^ b:=by
 refine ⟨a / 16 ^^^ b,Fh (by unfold Fg at *;omega) hb,?_,rfl⟩;have e:(a:Int) / 16=((a / 16:Nat):Int):=by omega
 rw [e,u32_xor_nat (a / 16) b (by unfold Fg at *;omega) hb]
theorem zR (R:Nat) (h:R<Fg):4294967295 ^^^ R=4294967295 - R:=by
 have e:=ZM BitVec.toNat (BitVec.allOnes_xor (x:=BitVec.ofNat 32 R));rw [BitVec.toNat_xor,BitVec.toNat_not,BitVec.toNat_allOnes,BitVec.toNat_ofNat,SV (show R<2 ^ 32 from h)] at e
 simpa using e
theorem qj (R:Nat) (h:R<Fg):wrap64 (bits .xor .u32 IntKind.u32.max (R:Int))=((4294967295 - R:Nat):Int):=by
 rw [show IntKind.u32.max=((4294967295:Nat):Int) from by decide,u32_xor_nat 4294967295 R (by decide) h,zR R h];have hz:4294967295 - R≤4294967295:=Nat.sub_le _ _;generalize 4294967295 - R=z at *;exact IntWalk.wrap64_in _ ⟨by omega,by omega⟩
def Po (w:World):Prop:=∀i,i<16→w.cell? ⟨0,i,none⟩=some (.int .u32 ((LS.getD i 0:Nat):Int))
theorem Po.below (h:Po w) (h0:0<w.heap.size) (hb:Zi w w'):Po w':=fun i hi=>(hb.cell (p:=⟨0,i,none⟩) h0).trans (h i hi)
theorem Bw (i:Nat):LS.getD i 0<Fg:=by
 by_cases h:i<16
 · exact (show ∀i,i<16→LS.getD i 0<Fg by decide +kernel) i h
 rw [show LS.getD i 0=0 by rw [List.getD,Yk (show LS.length≤i by simp [LS];omega)];rfl];decide
theorem Fc (w:World) (b o n cap:Nat) (xs:List Int) (hx:xs.length=n) (hc:∀i,i<n→w.cell? ⟨b,o+i,none⟩=some (.int .u8 (xs.getD i 0))) (hby:Sn xs) (hn:n≤1099511627776) (ht:Po w) :
    Calls Tryz.prog 48 #[.slice (some ⟨b,o,none⟩) n cap] w fun e w'=>e=.returned (.int .i64 ((4294967295 - No 4294967295 xs:Nat):Int))∧w'=w:=by
 have HC:=ZU hc;have HX:=ZU hx;have HT:=ZU ht;clear hc hx ht
 go_enter Tryz.func48,Tryz.ntmps48
 go_wp2
 go_loop [3,8] (fun r i=>∃k R:Nat,k≤n∧i=.int .i64 k∧Hid (R<Fg)∧r=.int .u32 R∧Hid (R=No 4294967295 (xs.take k))) (fun _ i=>n - (intOf i).toNat)
 case atStart=>exact ⟨0,4294967295,Zu _,rfl,(by show _<Fg;decide),rfl,rfl⟩
 case round =>
  obtain ⟨k,R,hk,rfl,HR,rfl,HE⟩:=hrel
  by_cases hlt:k<n
  · obtain ⟨x,hx,hxe⟩:=DV hby k
    have hsrc:w.cell? ⟨b,o+k,none⟩=some (.int .u8 (x:Int)):=by rw [←hxe];exact HC.out k hlt
    have Rj:(k:Int)<(n:Int):=by omega
    obtain ⟨Y,hY,e1,y1⟩:=Ff R x HR.out (by unfold Fg;omega);obtain ⟨I,hI,e2,y2⟩:=Fe Y hY;have c1:=HT.out I hI;obtain ⟨T1,hT1⟩:∃t,t=LS.getD I 0:=⟨_,rfl⟩;rw [←hT1] at c1;obtain ⟨Z,hZ,e3,y3⟩:=Md Y T1 hY (by rw [hT1];exact Bw _);obtain ⟨J,hJ,e4,y4⟩:=Fe Z hZ;have c2:=HT.out J hJ;obtain ⟨T2,ZL⟩:∃t,t=LS.getD J 0:=⟨_,rfl⟩;rw [←ZL] at c2;obtain ⟨V,hV,e5,y5⟩:=Md Z T2 hZ (by rw [ZL];exact Bw _);have HV:Hid (V=No 4294967295 (xs.take (k+1))):=by
     show _=_;rw [take_snoc' xs k (by rw [HX.out];exact hlt),zS,←HE.out,hxe,Ze];have z1:Z=yK Y:=by rw [wy,y3,hT1,y2]
     have v1:V=yK Z:=by rw [wy,y5,ZL,y4]
     rw [v1,z1,y1]
     rfl
    have QH:=ZU hV;clear hV y1 y2 y3 y4 y5 hT1 ZL hY hZ hxe HE HR;go_wp2
    go_round
    case rel=>exact ⟨k+1,V,by omega,by go_num,QH,rfl,HV⟩
    case measure=>simp [intOf];omega
  go_wp2;go_ret;exact ⟨Pd (by rw [qj R HR.out,HE.out,Y8 (by rw [HX.out];omega)]),rfl⟩
theorem Fb (w:World) (ao:Option Addr) (cap:Nat) :
    Calls Tryz.prog 48 #[.slice ao 0 cap] w fun e w'=>e=.returned (.int .i64 0)∧w'=w:=by
 go_enter Tryz.func48,Tryz.ntmps48
 go_wp2
 go_rounds 1
 go_ret;exact ⟨Pd (qj 4294967295 (by decide)),rfl⟩
theorem Pn (w:World) (v:Value) (xs:List Int) (h:Rd .u8 w v xs) (hby:Sn xs) (hn:xs.length≤1099511627776) (ht:Po w) :
    Calls Tryz.prog 48 #[v] w fun e w'=>e=.returned (.int .i64 ((4294967295 - No 4294967295 xs:Nat):Int))∧w'=w:=by
 obtain ⟨ao,cap,rfl,h1,h2,h3⟩:=h
 rcases h3 with rfl | ⟨b,o,rfl,hb,hc⟩
 · exact Fb w ao cap
 exact Fc w b o xs.length cap xs rfl hc hby hn ht
def pos (R:List (List Int × Nat)) (k:Nat):Nat:=((R.take k).map (·.2)).sum
theorem Fa (h:Below B w w') (q:Nat):Below B w (w'.drewN q):=⟨h.os,h.tape,h.output,h.size,h.block⟩
def Ov (lim made:Int):Int:=if lim<0 then -1 else lim - made
theorem ww (w:World) (b o:Nat) (lim made:Int) (c2:w.cell? ⟨b,o+2,none⟩=some (.int .i64 lim)) (c3:w.cell? ⟨b,o+3,none⟩=some (.int .i64 made)) (hl:-9223372036854775808≤lim∧lim≤9223372036854775807) (hm:0≤made∧made≤10000) :
    Calls Tryz.prog 70 #[.pointer (some ⟨b,o,none⟩)] w (Wj w (.int .i64 (Ov lim made))):=by
 by_cases h:lim<0
 · unfold Ov
   rw [Z0 h]
   go_enter Tryz.func70,Tryz.ntmps70
   go_wp2;go_ret;exact ⟨rfl,Yy⟩
 unfold Ov;rw [Z1 h]
 go_enter Tryz.func70,Tryz.ntmps70
 go_wp2_with fail
 go_quiet (fail)
 go_wp2;go_ret;exact ⟨Pd (by omega),Fa Yy _⟩
theorem Jd (w:World) (b o:Nat) (lim made:Int) (c2:w.cell? ⟨b,o+2,none⟩=some (.int .i64 lim)) (c3:w.cell? ⟨b,o+3,none⟩=some (.int .i64 made)) (f3:w.frozen? ⟨b,o+3,none⟩=false) (hlt:b<w.heap.size) (hl:-9223372036854775808≤lim∧lim≤9223372036854775807) (hm:0≤made∧made≤10000) (h:Ov lim made≠0) :
    Calls Tryz.prog 138 #[.pointer (some ⟨b,o,none⟩)] w fun e w'=>e=.returned (.bool true)∧∃w1,Zi w w1∧w'=w1.setCell ⟨b,o+3,none⟩ (.int .i64 (made+1)):=by
 have HL:=ZU (ww w b o lim made c2 c3 hl hm);have hq:(Ov lim made == 0)=false:=by simpa using h
 generalize Ov lim made=q at *;clear c2
 go_enter Tryz.func138,Tryz.ntmps138
 go_wp2_with fail
 refine (HL.out).mono ?_;rintro e w1 ⟨rfl,b1⟩;have d3:=(b1.cell (p:=⟨b,o+3,none⟩) hlt).trans c3;have g3:=(b1.frozen (p:=⟨b,o+3,none⟩) hlt).trans f3;have B1:=ZU b1;clear b1 c3 f3;have hw3:IntKind.i64.wrap (made+1)=made+1:=by rw [Zq];omega
 go_wp2;go_ret;exact ⟨rfl,_,B1.out,rfl⟩
def rdv (YL:List Int) (ps:List (Int × List Int)) (b:Nat):Nat→List Int
 | 0=>(YL.drop (b*64)).take 64
 | k+1=>if pB ps k=b then pD ps k else rdv YL ps b k
theorem Rd.part {blk:Nat} (h:Rd k w (.slice (some ⟨blk,o,none⟩) n cap) xs) (hn:xs.length=n) (i m:Nat) (hm:i+m≤n):Rd k w (.slice (some ⟨blk,o+i,none⟩) m (cap - i)) ((xs.drop i).take m):=by
 obtain ⟨ao,cap',e,h1,h2,h3⟩:=h
 simp only [ZC] at e
 obtain ⟨rfl,hl,rfl⟩:=e;have hlen:((xs.drop i).take m).length=m:=by rw [Zw,ZS];omega
 refine ⟨_,cap - i,by rw [hlen],by omega,by omega,?_⟩
 rcases h3 with rfl | ⟨b',o',e,hb,hc⟩
 · left;simp
 injection e with e
 injection e with e1 e2 _
 subst e1;subst e2;refine .inr ⟨blk,o+i,rfl,hb,fun j hj=>?_⟩;rw [hlen] at hj;have:=hc (i+j) (by omega);rw [Xu,this]
 simp [List.getD,Yt,hj]
theorem Vn (w:World) (cs:Array Value) (t:TypeId) (n:Nat) (hn:cs.size=n):(w.alloc (.cells cs t)).there w.heap.size 0 n:=by
 intro j hj;subst hn;rw [Za];have h:=Yz (w.alloc (.cells cs t)) w.heap.size j cs t (0,0) (Zs w _);refine ⟨by rw [h];simp [hj],by simp⟩
theorem below_setCells {b:Nat} (hB:B≤b):∀(vs:List Value) (o:Nat) (w':World),Below B w w'→Below B w (w'.setCells b o vs)
 | [],_,_,h=>h
 | v :: vs,o,w',h=>below_setCells hB vs (o+1) (w'.setCell ⟨b,o,none⟩ v) (h.setCell hB v)
theorem Mc (w:World) (blk o dl ca b:Nat) (YL:List Int) (hd:Rd .u8 w (.slice (some ⟨blk,o,none⟩) dl ca) YL) (hdl:YL.length=dl) (hb:(b+1)*64≤dl) (_hd1:dl≤1048576) :
    Calls Tryz.prog 108 #[.slice (some ⟨blk,o,none⟩) dl ca,.int .i64 b] w (Wj w (.agg (((YL.drop (b*64)).take 64).map (Value.int .u8)).toArray)):=by
 have HD:=ZU hd;have gz:dl≤ca∧ca≤maxLen:=by
  obtain ⟨ao,c',e,h1,h2⟩:=HD.out.len
  simp only [ZC] at e
  obtain ⟨_,e2,rfl⟩:=e;omega
 obtain ⟨YK,Y5⟩:=gz;unfold maxLen at Y5;have hge:64≤dl - b*64:=by omega
 have hlt:¬dl - b*64<64:=by omega
 have hat:∀W,(Instr.arrayAt 117 (.slice (some ⟨blk,o+b*64,none⟩) (dl - b*64) (ca - b*64))).run Tryz.prog W=.ok (.pointer (some ⟨blk,o+b*64,none⟩)) W:=fun W=>run_arrayAt W 117 _ 64 _ _ _ Tryz.underlying117 hge
 have hsz:(Tryz.prog.info? 117).map (·.size)=some (((YL.drop (b*64)).take 64).map (Value.int .u8)).length:=by
  rw [Zl,Zw,ZS,show min 64 (YL.length - b*64)=64 by omega]
  kernel_rfl
 have hrg:w.rangeAt blk (o+b*64) (((YL.drop (b*64)).take 64).map (Value.int .u8)):=by
  obtain ⟨ao,cap',e,h1,h2,h3⟩:=hd
  simp only [ZC] at e
  obtain ⟨rfl,hl,rfl⟩:=e
  rcases h3 with rfl | ⟨b',o',e,hb',hc⟩
  · simp at hdl;omega
  injection e with e
  injection e with e1 e2 _
  subst e1;subst e2;intro j u hu;have hj:j<64:=by have:=(Zh.1 hu).1;simp at this;omega
  have:=hc (b*64+j) (by omega);rw [Xu,this]
  simp [Yt,hj] at hu
  obtain ⟨y,hy,rfl⟩:=hu
  simp [List.getD,hy]
 have LY:=ZU hsz;have Y0:=ZU hrg;clear hsz hrg;clear hd
 go_enter Tryz.func108,Tryz.ntmps108
 go_wp2_with (first | (refine YM rfl 117 _ rfl blk (o+b*64) rfl (((YL.drop (b*64)).take 64).map (Value.int .u8)) _ (Wk Y0.out _) Tryz.underlying117 rfl LY.out ?_) | (refine UO rfl 117 _ _ rfl w.heap.size 0 (((YL.drop (b*64)).take 64).map (Value.int .u8)).toArray rfl rfl ?s1 ?s2 ?s3 ?_))
 case s1=>exact Vn _ _ _ _ (by have h:(((YL.drop (b*64)).take 64).map (Value.int .u8)).toArray.size=64:=by { rw [ZI,Zl,Zw,ZS];omega };rw [h];rfl)
 case s2=>rw [ZI];exact LY.out
 case s3=>exact XL (Yi _ _)
 have hlen:(((YL.drop (b*64)).take 64).map (Value.int .u8)).length=64:=by rw [Zl,Zw,ZS];omega
 refine ZW (v:=.agg (((YL.drop (b*64)).take 64).map (Value.int .u8)).toArray) ?_ rfl ⟨rfl,?_⟩
 · have LV:∀cs:Array Value,cs.size=64→(loadVar 117 ⟨w.heap.size,0,none⟩).run Tryz.prog ((w.alloc (.cells cs 117)).setCells w.heap.size 0 (((YL.drop (b*64)).take 64).map (Value.int .u8)))=.ok (.agg (((YL.drop (b*64)).take 64).map (Value.int .u8)).toArray) ((w.alloc (.cells cs 117)).setCells w.heap.size 0 (((YL.drop (b*64)).take 64).map (Value.int .u8))):=fun cs hcs =>
    run_loadVar_mid (P:=Tryz.prog) _ w.heap.size 0 117 _ _ (Yf _ _ _ _ (Vn _ _ _ _ (by rw [hlen,hcs]))) Tryz.underlying117 rfl LY.out
   simp [results,Tryz.results108,Act.put,asAddr,-List.map_take,-List.map_drop]
   exact LV _ rfl
 exact below_setCells YR _ _ _ (Yy.alloc YR _)
theorem UJ {α:Type} (L:List α) (off:Nat) (cs:List α) (h:off+cs.length≤L.length) (j:Nat) :
    (splice L off cs)[j]?=if j<off then L[j]? else if j<off+cs.length then cs[j - off]? else L[j]?:=by
 unfold splice;have hl:(L.take off).length=off:=by rw [Zw];omega
 by_cases h1:j<off
 · rw [Z0 h1,Zy (by omega),XP h1]
 rw [Z1 h1,Zv (by omega),hl]
 by_cases h2:j<off+cs.length
 · rw [Z0 h2,Zy (by omega)]
 rw [Z1 h2,Zv (by omega),Yt]
 congr 1
 omega
theorem Oe {α β:Type} (f:α→β) (L:List α) (off:Nat) (cs:List α):(splice L off cs).map f=splice (L.map f) off (cs.map f):=by
 simp [splice,UD,List.map_drop]
theorem KN {α:Type} (L:List α) (off:Nat):splice L off []=L:=by simp [splice]
def tK (YL:List Int) (ps:List (Int × List Int)) (c:Nat→Nat):Nat→List Int
 | 0=>YL
 | k+1=>splice (tK YL ps c k) ((pB ps k).toNat*64) ((pD ps k).take (c k))
theorem Dk (h:QP dl ps=true) (k:Nat) (hk:k<ps.length):∃b:Nat,pB ps k=b∧b*64+64≤dl∧b≤300∧(pD ps k).length=64:=by
 obtain ⟨h1,h2,h3,h4,h5⟩:=(Sq dl ps).1 h;obtain ⟨k1,k2,k3⟩:=h5 k hk;exact ⟨(pB ps k).toNat,by omega,by omega,by omega,k3⟩
theorem Nn (YL:List Int) (ps:List (Int × List Int)) (c:Nat→Nat) (h:QP YL.length ps=true):∀k,k≤ps.length→(tK YL ps c k).length=YL.length
 | 0,_=>rfl
 | k+1,hk=>by
  have ih:=Nn YL ps c h k (by omega);obtain ⟨b,hb,hb2,_,hd⟩:=Dk h k (by omega);rw [tK,length_splice,ih];rw [hb,Ze,Zw,ih,hd];omega
def MA (YL:List Int) (ps:List (Int × List Int)):List Int:=if QP YL.length ps then tK YL ps (fun _=>64) ps.length else []
theorem rL (YL:List Int) (ps:List (Int × List Int)):(MA YL ps).length≤YL.length:=by
 unfold MA;split
 · rename_i h
   rw [Nn YL ps _ h _ YR];exact YR
 simp
def Tj (rs:List (Int × List Int)):List Value:=rs.flatMap fun r=>.int .i64 r.1 :: r.2.map (Value.int .u8)
theorem KM (a b:List (Int × List Int)):Tj (a++b)=Tj a++Tj b:=by simp [Tj]
theorem E9 (x:Int) (V:List Int):Tj [(x,V)]=.int .i64 x :: V.map (Value.int .u8):=by simp [Tj]
theorem Nm:∀(rs:List (Int × List Int)),(∀i,i<rs.length→(pD rs i).length=64)→(Tj rs).length=rs.length*65
 | [],_=>rfl
 | r :: rs,h=>by
  have h0:r.2.length=64:=h 0 (by simp);have ih:=Nm rs (fun i hi=>h (i+1) (by simp;omega));have e:Tj (r :: rs)=Tj [(r.1,r.2)]++Tj rs:=by simp [Tj]
  rw [e,ZZ,ih,E9]
  simp [h0];omega
theorem rK (rs:List (Int × List Int)) (i k:Nat) (h:i<k):pD (rs.take k) i=pD rs i:=by unfold pD;simp [List.getD,XP h]
theorem wv (rs:List (Int × List Int)) (i:Nat) (hi:i<rs.length):rs=rs.take i++((pB rs i,pD rs i) :: rs.drop (i+1)):=by
 have e:(pB rs i,pD rs i)=rs[i]:=by unfold pB pD;simp [List.getD,hi]
 rw [e]
 conv=>lhs;rw [←YQ i rs]
 rw [Yg hi]
theorem Oc (rs:List (Int × List Int)) (i:Nat) (hi:i<rs.length):Tj rs=Tj (rs.take i)++(.int .i64 (pB rs i) :: ((pD rs i).map (Value.int .u8)++Tj (rs.drop (i+1)))):=by
 conv=>lhs;rw [wv rs i hi]
 rw [KM]
 congr 1
theorem Pm (rs:List (Int × List Int)) (i:Nat) (hi:i≤rs.length) (h:∀i,i<rs.length→(pD rs i).length=64):(Tj (rs.take i)).length=i*65:=by
 rw [Nm _ (fun j hj=>by rw [Zw] at hj;rw [rK _ _ _ (by omega)];exact h j (by omega)),Zw,YC hi]
theorem wu (rs:List (Int × List Int)) (i:Nat) (hi:i<rs.length) (h:∀i,i<rs.length→(pD rs i).length=64):(Tj rs)[i*65]?=some (.int .i64 (pB rs i)):=by
 rw [Oc rs i hi,Zv (by rw [Pm rs i (by omega) h];exact YR),Pm rs i (by omega) h]
 simp
theorem wt (rs:List (Int × List Int)) (i:Nat) (hi:i<rs.length) (h:∀i,i<rs.length→(pD rs i).length=64) (j:Nat) (u:Value) (hu:((pD rs i).map (Value.int .u8))[j]?=some u):(Tj rs)[i*65+1+j]?=some u:=by
 have hj:j<(pD rs i).length:=by have:=(Zh.1 hu).1;simpa using this
 rw [Oc rs i hi,Zv (by rw [Pm rs i (by omega) h];omega),Pm rs i (by omega) h,show i*65+1+j - i*65=j+1 by omega,Xr,Zy (by simpa using hj)];exact hu
theorem zQ (rs:List (Int × List Int)) (i:Nat) (hi:i<rs.length) (r:Int × List Int):rs.set i r=rs.take i++(r :: rs.drop (i+1)):=by
 rw [VI,Z0 hi]
theorem ws (rs:List (Int × List Int)) (i:Nat) (hi:i<rs.length) (h:∀i,i<rs.length→(pD rs i).length=64) (V:List Int) (hV:V.length=64) :
    Tj (rs.set i (pB rs i,V))=splice (Tj rs) (i*65+1) (V.map (Value.int .u8)):=by
 have hp:=Pm rs i (by omega) h;have hd:=h i hi;rw [zQ rs i hi,KM];have e1:Tj ((pB rs i,V) :: rs.drop (i+1))=.int .i64 (pB rs i) :: (V.map (Value.int .u8)++Tj (rs.drop (i+1))):=by simp [Tj]
 rw [e1,Oc rs i hi];generalize Tj (rs.take i)=A at *;generalize Tj (rs.drop (i+1))=B at *;have hO:((pD rs i).map (Value.int .u8)).length=64:=by simpa using hd
 have hV':(V.map (Value.int .u8)).length=64:=by simpa using hV
 generalize (pD rs i).map (Value.int .u8)=O at *;generalize V.map (Value.int .u8)=V' at *;generalize Value.int .i64 (pB rs i)=x at *;unfold splice;have t1:(A++x :: (O++B)).take (i*65+1)=A++[x]:=by
  rw [List.take_append,Y8 (by omega),show i*65+1 - A.length=1 by omega];rfl
 have t2:(A++x :: (O++B)).drop (i*65+1+V'.length)=B:=by
  rw [Tc,Xx (by omega),show i*65+1+V'.length - A.length=64+1 by omega,Ur,Tc,Xx (by omega),show 64 - O.length=0 by omega]
  simp
 rw [t1,t2]
 simp
theorem Pl (rs:List (Int × List Int)) (i j:Nat) (hi:i<rs.length) (V:List Int):pB (rs.set i (pB rs i,V)) j=pB rs j:=by
 unfold pB
 simp only [List.getD,TG]
 by_cases e:i=j
 · subst e;simp [hi]
 simp [e]
theorem wm (rs:List (Int × List Int)) (i j:Nat) (hi:i<rs.length) (V:List Int):pD (rs.set i (pB rs i,V)) j=if j=i then V else pD rs j:=by
 unfold pD
 simp only [List.getD,TG]
 by_cases e:i=j
 · subst e;simp [hi]
 rw [Z1 e,Z1 (fun h=>e h.symm)]
def Put (rs:List (Int × List Int)) (x:Int) (V:List Int) (rs':List (Int × List Int)):Prop :=
 (∃i,i<rs.length∧pB rs i=x∧rs'=rs.set i (pB rs i,V))∨((∀i,i<rs.length→pB rs i≠x)∧rs'=rs++[(x,V)])
def KJ (YL:List Int) (ps:List (Int × List Int)) (k:Nat) (rs:List (Int × List Int)):Prop :=
 (∀b:Nat,(∀i,i<rs.length→pB rs i=b→rdv YL ps b k=pD rs i)∧((∀i,i<rs.length→pB rs i≠b)→rdv YL ps b k=rdv YL ps b 0)) ∧
 (∀i,i<rs.length→∃b:Nat,pB rs i=b∧b*64+64≤YL.length∧b≤300)
theorem zP (YL:List Int) (ps:List (Int × List Int)):KJ YL ps 0 []:=⟨fun b=>⟨fun i hi=>by simp at hi,fun _=>rfl⟩,fun i hi=>by simp at hi⟩
theorem Dj (YL:List Int) (ps:List (Int × List Int)) (b k:Nat) (h:pB ps k=b):rdv YL ps b (k+1)=pD ps k:=by unfold rdv;rw [Z0 h]
theorem Nl (YL:List Int) (ps:List (Int × List Int)) (b k:Nat) (h:¬pB ps k=b):rdv YL ps b (k+1)=rdv YL ps b k:=by rw [rdv,Z1 h]
theorem zO (YL:List Int) (ps rs rs':List (Int × List Int)) (k:Nat) (ht:KJ YL ps k rs) (hk:∃b:Nat,pB ps k=b∧b*64+64≤YL.length∧b≤300)
    (hap:∀i j,i<rs.length→j<rs.length→pB rs i=pB rs j→i=j) (h:Put rs (pB ps k) (pD ps k) rs'):KJ YL ps (k+1) rs':=by
 obtain ⟨h1,h2⟩:=ht
 rcases h with ⟨i,hi,hx,rfl⟩ | ⟨hno,rfl⟩
 · have hl:(rs.set i (pB rs i,pD ps k)).length=rs.length:=Xt ..
   refine ⟨fun b=>⟨fun j hj hb=>?_,fun hb=>?_⟩,fun j hj=>?_⟩
   · rw [hl] at hj
     rw [Pl rs i j hi] at hb;rw [wm rs i j hi]
     by_cases e:j=i
     · subst e;rw [Z0 rfl];exact Dj YL ps b k (by rw [←hx];exact hb)
     rw [Z1 e,Nl YL ps b k (fun e'=>e (hap j i hj hi (by rw [hb,hx,e'])))];exact (h1 b).1 j hj hb
   · have hb':∀j,j<rs.length→pB rs j≠b:=fun j hj=>by have:=hb j (by rw [hl];exact hj);rw [Pl rs i j hi] at this;exact this
     rw [Nl YL ps b k (fun e=>hb' i hi (by rw [hx,e]))];exact (h1 b).2 hb'
   rw [hl] at hj;rw [Pl rs i j hi];exact h2 j hj
 have hl:(rs++[(pB ps k,pD ps k)]).length=rs.length+1:=by simp
 refine ⟨fun b=>⟨fun j hj hb=>?_,fun hb=>?_⟩,fun j hj=>?_⟩
 · rw [hl] at hj
   by_cases e:j=rs.length
   · subst e
     rw [Tg] at hb;rw [LI];exact Dj YL ps b k hb
   rw [Tv _ _ _ (by omega)] at hb;rw [Ih _ _ _ (by omega),Nl YL ps b k (fun e'=>hno j (by omega) (by rw [hb,e']))];exact (h1 b).1 j (by omega) hb
 · have hn:=hb rs.length (by rw [hl];omega)
   rw [Tg] at hn;rw [Nl YL ps b k hn];exact (h1 b).2 (fun j hj=>by have:=hb j (by rw [hl];omega);rw [Tv _ _ _ hj] at this;exact this)
 rw [hl] at hj
 by_cases e:j=rs.length
 · subst e;rw [Tg];exact hk
 rw [Tv _ _ _ (by omega)];exact h2 j (by omega)
def MF (D:DataW Unit) (rs:List (Int × List Int)):Prop :=
 (∀x:Int,Maps.has D (.int .i64 x)=true↔∃i,i<rs.length∧pB rs i=x)∧∀i,i<rs.length→∀z,D.atKey (.int .i64 (pB rs i)) z=.lit (.int .i64 i)
theorem MF.set {D:DataW Unit} (h:MF D rs) (i:Nat) (hi:i<rs.length) (V:List Int):MF D (rs.set i (pB rs i,V)):=by
 have hl:(rs.set i (pB rs i,V)).length=rs.length:=Xt ..;refine ⟨fun x=>?_,fun j hj z=>?_⟩
 · rw [h.1 x,hl]
   constructor
   · rintro ⟨j,hj,e⟩;exact ⟨j,hj,by rw [Pl rs i j hi];exact e⟩
   rintro ⟨j,hj,e⟩;rw [Pl rs i j hi] at e;exact ⟨j,hj,e⟩
 rw [hl] at hj;rw [Pl rs i j hi];exact h.2 j hj z
theorem MF.snoc {D:DataW Unit} (h:MF D rs) (hD:Maps.IsMap D) (x:Int) (V:List Int) (hno:∀i,i<rs.length→pB rs i≠x):MF (D.put (.int .i64 x) (.lit (.int .i64 (rs.length:Int)))) (rs++[(x,V)]):=by
 have hl:(rs++[(x,V)]).length=rs.length+1:=by simp
 refine ⟨fun y=>?_,fun j hj z=>?_⟩
 · by_cases e:y=x
   · subst e
     rw [Maps.has_put_same (k:=.int .i64 y) hD trivial];exact ⟨fun _=>⟨rs.length,by rw [hl];omega,Tg _ _⟩,fun _=>rfl⟩
   rw [Maps.has_put_other (by intro h;injection h;contradiction),h.1 y,hl]
   constructor
   · rintro ⟨j,hj,e'⟩;exact ⟨j,by omega,by rw [Tv _ _ _ hj];exact e'⟩
   rintro ⟨j,hj,e'⟩
   by_cases ej:j=rs.length
   · subst ej;rw [Tg] at e';exact absurd e'.symm e
   rw [Tv _ _ _ (by omega)] at e';exact ⟨j,by omega,e'⟩
 rw [hl] at hj
 by_cases ej:j=rs.length
 · subst ej;rw [Tg];exact Maps.atKey_put_same (k:=.int .i64 x) hD trivial _ _
 rw [Tv _ _ _ (by omega),Maps.atKey_put_other (by intro h';injection h' with _ h';exact hno j (by omega) h')];exact h.2 j (by omega) z
theorem Ru {o:Oper} {K:Act→World→Prop} {Q:Exit→Act→World→Prop} (hgd:o.guard=none) (d s:Operand) (dT sT:TypeId)
    (ho:o.op=.call { callee:=.builtin .copy,args:=#[d,s],argTypes:=#[dT,sT] }) (elem:TypeId) (hu:P.underlying dT=some (.slice elem)) (hsz:(P.info? elem).map (·.size)=some 1)
    (dp sp:Option Addr) (dLen dCap sLen sCap:Nat) (hd:a.eval d=.slice dp dLen dCap) (hs:a.eval s=.slice sp sLen sCap)
    (g off:Nat) (cur:List Value) (t:TypeId) (hg:w.heap[g]?=some (.cells cur.toArray t (0,0))) (cs:List Value) (hn:cs.length=Nat.min sLen dLen)
    (hpos:0<cs.length→dp=some ⟨g,off,none⟩∧∃ad,sp=some ad∧∀j v,cs[j]?=some v→w.cell? (ad.add j)=some v)
    (hfit:off+cs.length≤cur.length) (h1:∀v ∈ cs,v.oneCell'=true)
    (h:∀w',Hid (w'.heap[g]?=some (.cells (splice cur off cs).toArray t (0,0)))→Hid (w.grownBy w' (some g))→K (a.put o.dst (goInt cs.length)) w') :
    if Region.wanted o (yielded ops a.tmps)=true then Oper.wp P o a w K Q else E:=by
 have hw:Region.wanted o (yielded ops a.tmps)=true:=by simp [Region.wanted,hgd]
 rw [Z0 hw]
 by_cases h0:cs.length=0
 · obtain rfl:cs=[]:=Zg h0
   have hrun:=run_copy_none (P:=P) w dT sT o.type elem dp sp dLen dCap sLen sCap hu hsz (by simpa using hn.symm);unfold Oper.wp
   simp [execOp,ho,resolve,invoke,builtin,hd,hs,hrun,Result.andThen]
   exact h w (show _=_ by simpa [splice] using hg) (Zz _ _)
 obtain ⟨rfl,ad,rfl,hsrc⟩:=hpos (by omega);have hrun:=run_copy_row (P:=P) w dT sT o.type elem g off dLen dCap ad sLen sCap cur.toArray t cs hu hsz hg hn hsrc (by simpa using hfit) h1;unfold Oper.wp
 simp [execOp,ho,resolve,invoke,builtin,hd,hs,hrun,Result.andThen]
 exact h _ (show _=_ by simpa [splice] using WB w g _ _ t _ hg) (show World.grownBy _ _ _ from ⟨rfl,rfl,rfl,by simp [World.setRow],fun k _ hne=>Ua w g k _ (fun e=>hne (by rw [e]))⟩)
theorem Wh (n:Nat) (h:n=64):(Tryz.prog.info? 117).map (·.size)=some n:=by subst h;kernel_rfl
theorem wl:(Tryz.prog.info? 5).map (·.size)=some 1:=by kernel_rfl
theorem Nk (w:World) (base g dl cap b:Nat) (D C:List Int) (ho:Own .u8 5 w base (.slice (some ⟨g,0,none⟩) dl cap) D) (hD:D.length=dl) (hC:C.length=64) (hb:b*64+64≤dl) (hd1:dl≤1048576) :
    Calls Tryz.prog 51 #[.slice (some ⟨g,0,none⟩) dl cap,.int .i64 b,.agg (C.map (Value.int .u8)).toArray] w fun e w'=>e=.returned (.tuple #[])∧Own .u8 5 w' base (.slice (some ⟨g,0,none⟩) dl cap) (splice D (b*64) C)∧w.grownBy w' (some g):=by
 obtain ⟨X,hX⟩:∃X,X=C.map (Value.int .u8):=⟨_,rfl⟩;rw [←hX];have HX:Hid (X.length=64):=by subst hX;show _=_;simpa using hC
 have GL:Hid (∀v ∈ X,v.oneCell'=true):=by subst hX;exact Yi _ _
 have HO:=ZU ho;obtain ⟨cur,hgb,PP,hcap,hcm,htake⟩:∃cur:Array Value,w.heap[g]?=some (.cells cur 5 (0,0))∧cur.size=cap∧dl≤cap∧cap≤maxLen∧cur.toList.take dl=D.map (Value.int .u8):=by
  rcases ho.2 with ⟨h,-⟩ | ⟨g',cap',cur,e,-,h2,h3,h4,h5,h6⟩
  · simp at h
  simp only [ZC,ZK,Ym] at e
  obtain ⟨⟨rfl,-⟩,-,rfl⟩:=e;rw [hD] at h3 h6;rw [Yr] at h5 h6;exact ⟨cur,h2,h5,h3,h4,h6⟩
 have hgz:=(Z3.1 hgb).1;have kw:=ZU hgb;have Y4:=ZU PP;have Zc:=ZU ((ZT ho g rfl).1);have PO:Hid ((splice cur.toList (b*64) X).take dl=(splice D (b*64) C).map (Value.int .u8)∧(splice D (b*64) C).length=dl∧(splice cur.toList (b*64) X).length=cap):=by
  have hcl:cur.toList.length=cap:=by simpa using PP
  have hxl:=HX.out;refine ⟨?_,by rw [length_splice _ _ _ (by omega),hD],by rw [length_splice _ _ _ (by omega),hcl]⟩;rw [Oe,←htake,←hX];apply Wn;intro j;rw [UJ _ _ _ (by rw [Zw];omega),WJ]
  by_cases hj:j<dl
  · rw [Z0 hj,UJ _ _ _ (by omega),XP hj]
  rw [Z1 hj,Z1 (by omega),Z1 (by omega),WJ,Z1 hj]
 unfold maxLen at hcm;clear hX hC ho hgb htake PP
 go_enter Tryz.func51,Tryz.ntmps51
 go_wp2_with fail
 have GA:Hid ((w.alloc (.cells X.toArray 117)).heap[g]?=some (.cells cur.toList.toArray 5 (0,0))):=by
  show _=_;rw [Below.heap_alloc _ _ _ hgz,Array.toArray_toList];exact kw.out
 have CX:Hid (∀(j:Nat) (v:Value),X[j]?=some v→(w.alloc (.cells X.toArray 117)).cell? ((⟨w.heap.size,0,none⟩:Addr).add j)=some v):=by
  intro j v h;rw [YY,Za,Yz _ _ j _ _ _ (Zs w _)]
  simpa using h
 have ov:((b*64:Nat):Int)≤(dl:Int):=by omega
 have YI:(b:Int)*64≤(dl:Int):=by omega
 have hwr:IntKind.i64.wrap ((b:Int)*64)=((b*64:Nat):Int):=by rw [Zq];omega
 have hnc:¬cap=b*64:=by omega
 have hb0:(0:Int)≤(b:Int)*64:=by omega
 have htn:((b:Int)*64).toNat=b*64:=by omega
 have hgr:w.grownBy (w.alloc (.cells X.toArray 117)) (some g):=WQ _ _ _;have YZ:=ZU hgr;clear hgr;generalize w.alloc _=W0 at *
 go_region_law (refine Ru rfl (.tmp 9) (.tmp 10) 22 22 rfl 5 Tryz.underlying22 wl _ _ _ _ _ _ rfl rfl g (b*64) cur.toList 5 GA.out X (by rw [HX.out];exact (YC (show 64≤dl - b*64 by omega)).symm) (fun _=>⟨rfl,⟨w.heap.size,0,none⟩,rfl,CX.out⟩) (by rw [HX.out,YJ,Y4.out];omega) GL.out ?_;intro w4 hg4 hb4)
 go_wp2
 go_end0
 refine ⟨rfl,?_,?_⟩
 · refine ⟨by rw [PO.out.2.1];simpa using PO.out.2.1,.inr ⟨g,cap,(splice cur.toList (b*64) X).toArray,?_,Zc.out,hg4.out,by rw [PO.out.2.1];exact hcap,hcm,?_,?_⟩⟩
   · rw [PO.out.2.1]
   · simpa using PO.out.2.2
   rw [PO.out.2.1,Yr];exact PO.out.1
 exact YZ.out.trans (show W0.grownBy w4 (some g) from ⟨hb4.out.os,hb4.out.tape,hb4.out.output,hb4.out.size,hb4.out.block⟩)
structure Qw (w:World) (lo tb mb:Nat) (v:Value) (rs:List (Int × List Int)):Prop where
 box:SQ w tb v (.map (some mb))
 rows:w.ownsRow lo 210 65 v rs.length (Tj rs)
 map:∃D:DataW Unit,w.ownsMap Tryz.prog 2 (plainElem Tryz.prog 3) mb rs.length D∧MF D rs
 full:∀i,i<rs.length→(pD rs i).length=64
 apart:∀i j,i<rs.length→j<rs.length→pB rs i=pB rs j→i=j
 lot:lo≤tb
 kv:lo≤mb
 ne:tb≠mb
 vt:v.ownBlock≠some tb
 vm:v.ownBlock≠some mb
theorem Qw.below (h:Qw w lo tb mb v rs) (hb:Zi w w'):Qw w' lo tb mb v rs:=by
 have G:w.grownBy w' none:=⟨hb.os,hb.tape,hb.output,hb.size,fun q hq _=>hb.block q hq⟩;obtain ⟨D,hD,hM⟩:=h.map;refine ⟨h.box.below hb,Zn h.rows G ?_,⟨D,hD.kept G (by simp),hM⟩,h.full,h.apart,h.lot,h.kv,h.ne,h.vt,h.vm⟩
 cases v.ownBlock with
 | none=>exact .inl rfl
 | some q=>exact .inr (by simp)
theorem nR:Maps.Keyed Tryz.prog 2:=Maps.int_keyed Tryz.underlying2
theorem Bu (w:World):(zeroValue 3).run Tryz.prog w=.ok (.int .i64 0) w:=by kernel_rfl
theorem Nj (w:World):Calls Tryz.prog 135 #[] w fun e w'=>e=.returned (.pointer (some ⟨w.heap.size+1,0,none⟩))∧Qw w' w.heap.size (w.heap.size+1) w.heap.size (.slice none 0 0) []∧Zi w w':=by
 have hmm:=@run_makeMap Tryz.prog
 go_enter Tryz.func135,Tryz.ntmps135
 go_wp2;go_ret;have B1:Zi w (w.alloc (.map #[] 0)):=Yy.alloc YR _;have hbx:=SQ.new (w.alloc (.map #[] 0)) (.slice none 0 0) (.map (some w.heap.size)) 208;rw [YF] at hbx;refine ⟨rfl,⟨hbx,ZH _ _ _ _,⟨.map [],(World.ownsMap_made w Tryz.prog _ _).alloc _,⟨fun x=>⟨fun h=>by simp [Maps.has] at h,fun ⟨i,hi,_⟩=>by simp at hi⟩,fun i hi=>by simp at hi⟩⟩,fun i hi=>by simp at hi,fun i j hi=>by simp at hi,by omega,YR,by omega,by simp [Value.ownBlock],by simp [Value.ownBlock]⟩,B1.alloc B1.size _⟩
theorem OT (w:World) (cs:Array Value) (t:TypeId):(w.alloc (.cells cs t)).rangeAt w.heap.size 0 cs.toList:=by
 intro j v hv;rw [Za,Yz _ _ j cs t (0,0) (Zs w _)]
 simpa using hv
theorem Qw.form (h:Qw w lo tb mb v rs) (h0:0<rs.length):∃g cap,v=.slice (some ⟨g,0,none⟩) rs.length cap∧lo≤g∧g<w.heap.size∧rs.length≤cap∧cap≤maxLen:=by
 rcases h.rows.2 with ⟨-,h1⟩ | ⟨g,cap,cur,rfl,hb,hg,h2,h3,-⟩
 · omega
 exact ⟨g,cap,rfl,hb,(Z3.1 hg).1,h2,h3⟩
theorem Own.pos (h:Own .u8 5 w base v xs) (hn:xs.length=n) (h0:0<n):∃g cap,v=.slice (some ⟨g,0,none⟩) n cap∧base≤g∧g<w.heap.size:=by
 subst hn
 rcases h.2 with ⟨-,h1⟩ | ⟨g,cap,cur,rfl,hb,hg,-⟩
 · omega
 exact ⟨g,cap,rfl,hb,(Z3.1 hg).1⟩
theorem Rd.cellAt (h:Rd k w (.slice ao n cap) xs) (hl:xs.length=n) (hi:i<n):∃b o,ao=some ⟨b,o,none⟩∧b<w.heap.size∧w.cell? ⟨b,o+i,none⟩=some (.int k (xs.getD i 0)):=by
 obtain ⟨nY,cap',e,h1,h2,h3⟩:=h
 simp only [ZC] at e
 obtain ⟨rfl,_,rfl⟩:=e
 rcases h3 with rfl | ⟨b,o,rfl,hb,hc⟩
 · simp at hl;omega
 exact ⟨b,o,rfl,hb,hc i (by omega)⟩
theorem SQ.other {b:Nat} (h:SQ w b x y) (hg:w.grownBy w' row) (hne:some b≠row):SQ w' b x y :=
 ⟨h.1.other hg hne,(hg.frozen_far ⟨b,0,none⟩ h.1.1 hne).trans h.2.1,(hg.frozen_far ⟨b,1,none⟩ h.1.1 hne).trans h.2.2⟩
theorem KI (x:Int) (h0:0≤x) (h:x≤1048576):(Lit.int .i64 x).wf=true:=by
 have:=wrap64_wf x;rw [show wrap64 x=x by unfold wrap64;omega] at this;exact this
theorem Rd.span {b:Nat} (h:Rd k w (.slice (some ⟨b,o,none⟩) n cap) xs) (hl:xs.length=n) (h0:0<n):b<w.heap.size∧w.rangeAt b o (xs.map (Value.int k)):=by
 obtain ⟨b',o',e,hb,-⟩:=h.cellAt hl h0
 injection e with e
 injection e with e1 e2 _
 subst e1;subst e2;refine ⟨hb,fun j v hv=>?_⟩;have hj:j<xs.length:=by have:=(Zh.1 hv).1;simpa using this
 obtain ⟨b',o',e,-,hc⟩:=h.cellAt hl (show j<n by omega)
 injection e with e
 injection e with e1 e2 _
 subst e1;subst e2;rw [hc]
 simp [ZF hj] at hv
 simp [List.getD,hj,hv]
theorem Wb {b:Nat} {cs:List Value} (h:w.rangeAt b o cs) (hc:w'.heap[b]?=w.heap[b]?):w'.rangeAt b o cs:=fun j v hv=>(ZP (w:=w) (a:=⟨b,o+j,none⟩) hc).trans (h j v hv)
theorem Jc {place:Nat→Option (Nat × Nat)} {cells:Array Value} {off:Nat} {rest:List (Nat × Value)} (hp:place i=some (off,v.cells.size)) (hs:off+v.cells.size≤cells.size) :
    Instr.fill place cells ((i,v) :: rest)=Instr.fill place ((v.cells.toList.zipIdx 0).foldl (fun cs (x:Value × Nat)=>cs.setIfInBounds (off+x.2) x.1) cells) rest:=by
 conv=>lhs;unfold Instr.fill
 simp only [hp]
 rw [Z1 (by simp;omega)]
 congr 1
 rw [←Array.foldl_toList,Array.toList_zipIdx]
theorem wk (x:Int) (V:List Value) (hV:V.length=64) (z:Array Value) (hz:z.size=65) :
    Instr.fill (#[(0,1),(1,64)][·]?) z [(0,.int .i64 x),(1,.agg V.toArray)]=some (Value.int .i64 x :: V).toArray:=by
 have s1:(Value.int .i64 x).cells.size=1:=rfl;have s2:(Value.agg V.toArray).cells.size=64:=by show V.toArray.size=64;simpa using hV
 obtain ⟨g1,g2⟩:=Great.foldl_set 0 (Value.int .i64 x).cells.toList 0 z;rw [Jc (by rw [s1];rfl) (by rw [s1];omega),Jc (by rw [s2];rfl) (by rw [s2,g1];omega)];obtain ⟨k1,k2⟩:=Great.foldl_set 1 (Value.agg V.toArray).cells.toList 0 ((Value.int .i64 x).cells.toList.zipIdx 0 |>.foldl (fun cs (y:Value × Nat)=>cs.setIfInBounds (0+y.2) y.1) z);unfold Instr.fill
 congr 1
 apply Array.ext_getElem?;intro k;have hl:(Value.agg V.toArray).cells.toList.length=64:=by rw [YJ];exact s2
 have hl1:(Value.int .i64 x).cells.toList.length=1:=rfl;rw [k2 k,g1,hz,hl,g2 k,hl1,hz];have e:(Value.agg V.toArray).cells.toList=V:=by show V.toArray.toList=V;simp
 have eA:(Value.int .i64 x :: V).toArray[k]?=(Value.int .i64 x :: V)[k]?:=by simp
 rw [e,eA]
 by_cases h0:k=0
 · subst h0;rfl
 by_cases h1:k<65
 · rw [Z0 (by omega)]
   obtain ⟨j,rfl⟩:∃j,k=j+1:=⟨k - 1,by omega⟩;rw [Xr,show j+1 - (1+0)=j by omega]
 rw [Z1 (by omega),Z1 (by omega),Yk (by rw [ZE,hV];omega),Ts (by omega)]
theorem wj {z:Value} {places:List (Nat × Nat)} {parts:List (Nat × Value)} {cells:Array Value}
    (h:(match P.info? t,P.underlying t with
     | some it,some (.struct fields)=>(it.zero,fields.toList.mapM (fun f=>(P.info? f.type).map fun i=>(f.offset,i.size)))
     | _,_=>(none,none))=(some z,some places)) (hf:Instr.fill (places.toArray[·]?) z.cells parts=some cells):P.built t parts=some cells:=by
 unfold Program.built
 cases h1:P.info? t with
 | none=>simp [h1] at h
 | some it =>
  cases h2:P.underlying t with
  | none=>simp [h1,h2] at h
  | some d =>
   cases d <;> try (simp [h1,h2] at h;done)
   case struct fields =>
    simp only [h1,h2,Rv] at h
    simp only [h.1,h.2]
    exact hf
def zT:Value:=.agg (Value.int .i64 0 :: List.replicate 64 (.int .u8 0)).toArray
theorem Ie:zT.cells.size=65:=by decide +kernel
theorem wh:(Tryz.prog.info? 210).map (fun i=>(i.zero,i.size,i.bytes))=some (some zT,65,72):=by kernel_rfl
theorem zN (x:Int) (V:List Value) (hV:V.length=64):Tryz.prog.built 210 [(0,.int .i64 x),(1,.agg V.toArray)]=some (Value.int .i64 x :: V).toArray :=
 wj (z:=zT) (places:=[(0,1),(1,64)]) (by kernel_rfl) (wk x V hV _ Ie)
theorem Id (w:World) (x:Int) (V:List Value) (hV:V.length=64):(Instr.build 210 #[(0,.int .i64 x),(1,.agg V.toArray)]).run Tryz.prog w=.ok (.agg (Value.int .i64 x :: V).toArray) w :=
 run_build w _ _ _ (zN x V hV)
theorem Ic (w:World) (x:Int) (V:List Value) (hV:V.length=64):(Instr.buildSlice 205 1 #[(0,.agg (Value.int .i64 x :: V).toArray)]).run Tryz.prog w=.ok (.slice (some ⟨w.heap.size,0,none⟩) 1 1) (w.alloc (.cells (Value.int .i64 x :: V).toArray 210)):=by
 obtain ⟨i0,hi,hz0,hz1,hz2⟩:=YN wh;have hs:(Value.agg (Value.int .i64 x :: V).toArray).cells.size=65:=by show (Value.int .i64 x :: V).toArray.size=65;simp [hV]
 refine run_buildSlice w _ _ 1 _ _ i0 zT Tryz.underlying205 hi hz0 (by rw [hz1];omega) (by rw [hz1];omega) ?_;have:=Great.fill_whole (s:=65) (by omega) [.agg (Value.int .i64 x :: V).toArray] ((Array.range (1*65)).map (zT.cells[· % zT.cells.size]!)) (by intro v hv;simp at hv;subst hv;exact hs) (by simp);rw [hz1]
 simp at this
 simp
 exact this
theorem QO {o:Oper} {K:Act→World→Prop} {Q:Exit→Act→World→Prop} (hgd:o.guard=none) (ty:TypeId) (x y:Operand) (ho:o.op=.store ty x y)
    (b off:Nat) (cells:Array Value) (hx:a.eval x=.pointer (some ⟨b,off,none⟩)) (hy:a.eval y=.agg cells) (ht:w.there b off cells.size) (hi:(P.info? ty).map (·.size)=some cells.size) (h1:cells.all (·.oneCell')=true)
    (h:K (a.put o.dst undef) (w.setCells b off cells.toList)):if Region.wanted o (yielded ops a.tmps)=true then Oper.wp P o a w K Q else E:=by
 rw [Z0 (by simp [Region.wanted,hgd])];exact wp_store_mid ty x y ho b off cells hx hy ht hi h1 h
theorem Ob {H:Type} {o:Oper} {K':Act→World→Prop} {Q:Exit→Act→World→Prop} 
    (hg:o.guard=none) (m x v:Operand) (t:TypeId) (hop:o.op=Op.mapUpdate t m x v)
    (k e:TypeId) (K:Maps.Keyed P k) (ht:P.underlying t=some (.map k e)) (R:Value→Option (DataW H × List MemPlace)) (b n:Nat) (D:DataW H)
    (hm:a.eval m=.map (some b)) (hown:w.ownsMap P k R b n D) (hn:n<maxLen) (key val:Value) (kl:Lit) (hx:a.eval x=key) (hv:a.eval v=val) (hkey:keyOf P k key=some kl)
    (d:DataW H) (ps:List MemPlace) (hval:R val=some (d,ps))
    (hK:∀w',w'.ownsMap P k R b (n+1) (D.put kl d)→w.grownBy w' (some b)→K' (a.put o.dst undef) w') :
    if Region.wanted o (yielded ops a.tmps)=true then Oper.wp P o a w K' Q else E:=by
 rw [Z0 (by simp [Region.wanted,hg])];obtain ⟨w',hrun,r1,r2⟩:=hown.update K ht hn hkey hval;unfold Oper.wp
 simp [execOp,hop,hm,hx,hv,hrun,Result.andThen]
 exact hK w' r1 r2
theorem Mb {α:Type} (L:List α) (o:Nat) (v:α) (vs:List α) (h:o+(vs.length+1)≤L.length):splice (L.set o v) (o+1) vs=splice L o (v :: vs):=by
 apply Wn;intro j;rw [UJ _ _ _ (by simp;omega),UJ _ _ _ (by simp;omega)]
 simp only [ZE,TG]
 by_cases h1:j<o
 · rw [Z0 (by omega),Z0 h1,Z1 (by omega)]
 rw [Z1 h1]
 by_cases h2:j=o
 · subst h2;rw [Z0 (by omega),Z0 rfl,Z0 (by omega),Z0 (by omega)];simp
 rw [Z1 (by omega)]
 by_cases h3:j<o+1+vs.length
 · rw [Z0 h3,Z0 (by omega)]
   obtain ⟨i,rfl⟩:∃i,j=o+1+i:=⟨j - (o+1),by omega⟩;rw [show o+1+i - (o+1)=i by omega,show o+1+i - o=i+1 by omega,Xr]
 rw [Z1 h3,Z1 (by omega),Z1 (by omega)]
theorem Qk {size:Nat} :∀(vs:List Value) (o:Nat) (w:World) (xs:List Value),w.ownsRow base e size (.slice (some ⟨g,0,none⟩) n cap) n xs→o+vs.length≤xs.length →
    (w.setCells g o vs).ownsRow base e size (.slice (some ⟨g,0,none⟩) n cap) n (splice xs o vs)∧w.grownBy (w.setCells g o vs) (some g)
 | [],o,w,xs,h,_=>by rw [KN];exact ⟨h,Zz _ _⟩
 | v :: vs,o,w,xs,h,hl=>by
  have h1:=(World.ownsRow.stored h o v).1;obtain ⟨r1,r2⟩:=Qk vs (o+1) (w.setCell ⟨g,o,none⟩ v) (xs.set o v) h1 (by simp at hl ⊢;omega);rw [World.setCells,←Mb xs o v vs (by simpa using hl)];exact ⟨r1,WR (grownBy_set w w g o v (Zz _ _)) r2⟩
theorem Qw.set (h:Qw w lo tb mb (.slice (some ⟨g,0,none⟩) rs.length cap) rs) (hi:i<rs.length) (V:List Int) (hV:V.length=64) :
    Qw (w.setCells g (i*65+1) (V.map (Value.int .u8))) lo tb mb (.slice (some ⟨g,0,none⟩) rs.length cap) (rs.set i (pB rs i,V))∧w.grownBy (w.setCells g (i*65+1) (V.map (Value.int .u8))) (some g):=by
 have hlen:=Nm rs h.full;have hl:(rs.set i (pB rs i,V)).length=rs.length:=Xt ..;obtain ⟨r1,r2⟩:=Qk (V.map (Value.int .u8)) (i*65+1) w (Tj rs) h.rows (by rw [hlen,Zl,hV];omega);obtain ⟨D,hD,hM⟩:=h.map;refine ⟨⟨h.box.other r2 (fun e=>h.vt e.symm),by rw [hl,ws rs i hi h.full V hV];exact r1,⟨D,by rw [hl];exact hD.kept r2 (fun e=>h.vm e.symm),hM.set i hi V⟩,fun j hj=>?_,fun j k hj hk e=>?_,h.lot,h.kv,h.ne,h.vt,h.vm⟩,r2⟩
 · rw [hl] at hj
   rw [wm rs i j hi]
   split
   · exact hV
   exact h.full j hj
 rw [hl] at hj hk;rw [Pl rs i j hi,Pl rs i k hi] at e;exact h.apart j k hj hk e
theorem Rp {o:Oper} {K:Act→World→Prop} {Q:Exit→Act→World→Prop} (hgd:o.guard=none) (y:Operand) (ho:o.op=.buildSlice 205 1 #[(0,y)])
    (x:Int) (V:List Value) (hV:V.length=64) (hy:a.eval y=.agg (Value.int .i64 x :: V).toArray) (h:K (a.put o.dst (.slice (some ⟨w.heap.size,0,none⟩) 1 1)) (w.alloc (.cells (Value.int .i64 x :: V).toArray 210))) :
    if Region.wanted o (yielded ops a.tmps)=true then Oper.wp Tryz.prog o a w K Q else E:=by
 rw [Z0 (by simp [Region.wanted,hgd])];have hrun:=Ic w x V hV;unfold Oper.wp execOp
 simp only [ho,WL,Yl,WO,hy,XX,hrun,XH]
 exact h
theorem Qw.snoc {W0 W1:World} {PN:Nat} {va:Option Addr} {x:Int} {Vb:List Int} {D:DataW Unit} {ob:Obj} (hT:Qw W0 lo tb mb (.slice va rs.length PN) rs) (G1:W0.grownBy W1 (some mb))
    (M1:W1.ownsMap Tryz.prog 2 (plainElem Tryz.prog 3) mb (rs.length+1) D) (hM:MF D (rs++[(x,Vb)])) (ho:w4.ownsRow lo 210 65 (.slice (some ⟨g,0,none⟩) (rs.length+1) cap) (rs.length+1) (Tj rs++(.int .i64 x :: Vb.map (Value.int .u8))))
    (hg:(W1.alloc ob).grownBy w4 (Value.ownBlock (.slice va rs.length PN))) (hat:Value.ownBlock (.slice va rs.length PN)=some g∨g=W1.heap.size+1) (hno:∀i,i<rs.length→pB rs i≠x) (Ib:Vb.length=64) (hlo:lo≤W0.heap.size) :
    Qw (w4.setCell ⟨tb,0,none⟩ (.slice (some ⟨g,0,none⟩) (rs.length+1) cap)) lo tb mb (.slice (some ⟨g,0,none⟩) (rs.length+1) cap) (rs++[(x,Vb)])∧Below lo W0 (w4.setCell ⟨tb,0,none⟩ (.slice (some ⟨g,0,none⟩) (rs.length+1) cap))∧(∀q,q<W0.heap.size→q≠tb→q≠mb→Value.ownBlock (.slice va rs.length PN)≠some q→(w4.setCell ⟨tb,0,none⟩ (.slice (some ⟨g,0,none⟩) (rs.length+1) cap)).heap[q]?=W0.heap[q]?):=by
 have G:=WR (WQ W1 ob _) hg;have YX:=hT.box.1.1;have s1:=G1.size;have s4:=G.size;have hmt:=M1.lt;have hgt:g≠tb:=by
  rcases hat with e | e
  · intro h;exact hT.vt (by rw [e,h])
  omega
 have hgm:g≠mb:=by
  rcases hat with e | e
  · intro h;exact hT.vm (by rw [e,h])
  omega
 have hl:(rs++[(x,Vb)]).length=rs.length+1:=by simp
 have b1:=hT.box.other G1 (by simpa using hT.ne);have b4:=b1.other G (fun e=>hT.vt e.symm);obtain ⟨⟨z4,q0,q1⟩,f0,f1⟩:=b4;refine ⟨⟨⟨⟨by simpa using z4,Zk _ _ _ q0,?_⟩,by rw [Zb];exact f0,by rw [Zb];exact f1⟩,?_,⟨D,?_,hM⟩,fun i hi=>?_,fun i j hi hj e=>?_,hT.lot,hT.kv,hT.ne,by simpa [Value.ownBlock] using hgt,by simpa [Value.ownBlock] using hgm⟩,?_,fun q hq n1 n2 n3=>?_⟩
 · rw [ZV _ _ _ _ (by simp)];exact q1
 · rw [hl,KM,E9]
   exact Zn ho (grownBy_set w4 w4 tb 0 _ (Zz _ _)) (.inr (by simpa [Value.ownBlock] using hgt))
 · rw [hl]
   exact (M1.kept G (fun e=>hT.vm e.symm)).setCell (a:=⟨tb,0,none⟩) (fun e=>hT.ne e.symm) _
 · rw [hl] at hi
   by_cases e:i=rs.length
   · subst e;rw [LI];exact Ib
   rw [Ih _ _ _ (by omega)];exact hT.full i (by omega)
 · rw [hl] at hi hj
   by_cases ei:i=rs.length
   · by_cases ej:j=rs.length
     · omega
     subst ei;rw [Tg,Tv _ _ _ (by omega)] at e;exact absurd e.symm (hno j (by omega))
   by_cases ej:j=rs.length
   · subst ej;rw [Tg,Tv _ _ _ (by omega)] at e;exact absurd e (hno i (by omega))
   rw [Tv _ _ _ (by omega),Tv _ _ _ (by omega)] at e;exact hT.apart i j (by omega) (by omega) e
 · have h1:=Yy.grown G1 hlo (by intro q hq;simp at hq;subst hq;exact hT.kv)
   have h2:=h1.grown G (by omega) (fun q hq=>(ZT hT.rows q hq).1);exact h2.setCell (p:=⟨tb,0,none⟩) hT.lot _
 rw [Below.heap_setCell _ _ _ _ (show q≠(⟨tb,0,none⟩:Addr).block from n1),G.block q (by omega) (fun e=>n3 e.symm)];exact G1.block q hq (by simpa using n2)
theorem rJ (w:World) (lo tb mb:Nat) (v:Value) (rs:List (Int × List Int)) (x:Int) (Vb:List Int) (i:Nat) (ht:Qw w lo tb mb v rs) (hi:i<rs.length) (hx:pB rs i=x) (hwx:(Lit.int .i64 x).wf=true) (Ib:Vb.length=64) :
    Calls Tryz.prog 136 #[.pointer (some ⟨tb,0,none⟩),.int .i64 x,.agg (Vb.map (Value.int .u8)).toArray] w fun e w'=>e=.returned (.tuple #[])∧Qw w' lo tb mb v (rs.set i (pB rs i,Vb))∧Below lo w w'∧(∀q,q<w.heap.size→q≠tb→q≠mb→v.ownBlock≠some q→w'.heap[q]?=w.heap[q]?):=by
 obtain ⟨g,cap,rfl,hg1,hg2,hc1,hc2⟩:=ht.form (by omega);obtain ⟨D,hD,hM⟩:=ht.map;obtain ⟨⟨zt,c0,c1⟩,-⟩:=ht.box;have hhas:=(hM.1 x).2 ⟨i,hi,hx⟩;have HAT:Hid (∀z,D.atKey (.int .i64 x) z=.lit (.int .i64 i)):=by intro z;rw [←hx];exact hM.2 i hi z
 have hkey:=Maps.keyOf_int_mk (P:=Tryz.prog) Tryz.underlying2 hwx;obtain ⟨V,hV⟩:∃V,V=Vb.map (Value.int .u8):=⟨_,rfl⟩;have QH:Hid (V.length=64):=by rw [hV];show _=_;rw [Zl];exact Ib
 have rI:Hid (∀v ∈ V,v.oneCell'=true):=by rw [hV];exact Yi _ _
 rw [←hV];have YE:(i:Int)<(rs.length:Int):=by omega
 unfold maxLen at hc2;have BA:Hid (Zi w (w.alloc (.cells V.toArray 117))):=Yy.alloc YR _;have TA:=ZU (ht.below BA.out);have RB:Hid ((w.alloc (.cells V.toArray 117)).rangeAt w.heap.size 0 V):=by have:=OT w V.toArray 117;rw [Vu] at this;exact this
 have HD:Hid ((w.alloc (.cells V.toArray 117)).ownsMap Tryz.prog 2 (plainElem Tryz.prog 3) mb rs.length D):=hD.alloc _;have hlow:lo≤w.heap.size:=by omega
 have FIN:Hid (∀W,Qw W lo tb mb (.slice (some ⟨g,0,none⟩) rs.length cap) rs→Below lo w W→Qw (W.setCells g (i*65+1) V) lo tb mb (.slice (some ⟨g,0,none⟩) rs.length cap) (rs.set i (pB rs i,Vb))∧Below lo w (W.setCells g (i*65+1) V)∧W.grownBy (W.setCells g (i*65+1) V) (some g)):=by
  intro W hW hB;have:=hW.set hi Vb Ib;rw [←hV] at this;exact ⟨this.1,hB.grown this.2 (by have:=hB.size;omega) (by intro q hq;simp at hq;omega),this.2⟩
 generalize hn:rs.length=n at *;clear ht hD hM hx hV
 go_enter Tryz.func136,Tryz.ntmps136
 go_wp2_with (at_lookup;refine T0 _ rfl _ _ 206 rfl 2 3 .i64 nR Tryz.underlying206 Tryz.underlying3 (Bu _) mb n D rfl HD.out _ _ rfl hkey ?_)
 intro c hat hwc;obtain rfl:c=(i:Int):=by have:=HAT.out (.lit (.int .i64 0));rw [hat] at this;simpa using this
 clear c0 c1 zt;generalize w.alloc _=W0 at *
 go_wp2_with fail
 have TH:Hid (W0.there g (i*65+1) 64):=by
  intro j hj;have hr:=TA.out.rows;have hfl:=Nm rs TA.out.full;rw [hn] at hr hfl;exact ⟨by rw [Wv hr (i*65+1+j) (by omega),ZF (by omega)];rfl,Xm hr _⟩
 obtain ⟨⟨zt,c0,c1⟩,-⟩:=TA.out.box;refine ZX (S:=fun w'=>w'.cell? ⟨tb,0,none⟩=some (.slice (some ⟨g,0,none⟩) n cap)∧w'.rangeAt w.heap.size 0 V) (by kernel_rfl) ⟨c0,RB.out⟩ (fun Z9=>?_);refine Zf (.pointer (some ⟨tb,0,none⟩)) (by kernel_rfl) (fun _=>id) (by assumption) (fun w' hSw=>?_) ?_
 · (try dsimp only at hSw)
   go_simp
 simp only [Act.put,WV,WU,WT]
 refine Zf (.pointer (some ⟨tb,0,none⟩)) (by kernel_rfl) (fun _=>id) (by assumption) (fun w' hSw=>?_) ?_
 · (try dsimp only at hSw)
   go_simp
 simp only [Act.put,WV,WU,WT]
 refine Zf (.pointer (some ⟨tb,0,none⟩)) (by kernel_rfl) (fun _=>id) (by assumption) (fun w' hSw=>?_) ?_
 · (try dsimp only at hSw)
   go_simp
 simp only [Act.put,WV,WU,WT]
 refine Zf (.slice (some ⟨g,0,none⟩) n cap) (by kernel_rfl) (fun _=>id) (by assumption) (fun w' hSw=>?_) ?_
 · (try dsimp only at hSw)
   go_simp
 simp only [Act.put,WV,WU,WT]
 refine Zf (.int .i64 i) (by kernel_rfl) (fun _=>id) (by assumption) (fun w' hSw=>?_) ?_
 · (try dsimp only at hSw)
   go_simp
 simp only [Act.put,WV,WU,WT]
 refine PL (i:=5) (oi:=⟨some 23,_,_,_,_,_⟩) (v:=.agg (V).toArray) rfl (by kernel_rfl) (fun _ _ _ h=>h) (VN (by rfl) _ _ rfl _ _ rfl V _ (fun w' hSw=>hSw.2) Tryz.underlying117 rfl (Wh _ QH.out)) (by assumption) ?_
 simp only [Act.put,WV,WU,WT]
 refine Yp 6 (.pointer (some ⟨g,i*65,none⟩)) rfl (by kernel_rfl) (fun _=>id) (by assumption) (fun w' hSw=>?_) ?_
 · (try dsimp only at hSw)
   go_simp
 simp only [Act.put,WV,WU,WT]
 refine Yp 7 (.pointer (some ⟨g,i*65+1,none⟩)) rfl (by kernel_rfl) (fun _=>id) (by assumption) (fun w' hSw=>?_) ?_
 · (try dsimp only at hSw)
   go_simp
 simp only [Act.put,WV,WU,WT]
 refine YS 8 rfl (by kernel_rfl) (fun K hK=>?_);refine QO rfl 117 _ _ rfl g (i*65+1) V.toArray rfl rfl ?t1 ?t2 (XL rI.out) ?_
 case t1 =>
  have e:V.toArray.size=64:=by rw [ZI];exact QH.out
  rw [e];exact TH.out
 case t2=>rw [ZI];exact Wh _ QH.out
 have hgt:g≠tb:=fun e=>TA.out.vt (by rw [e];rfl)
 have FI:=FIN.out W0.drew (TA.out.below (below_drewN' W0 1)) ((BA.out.mono hlow).trans ((below_drewN' W0 1).mono (by have:=BA.out.size;omega)));rw [Vu];refine hK.out _ _ ⟨?_,?_⟩ (fun T=>?_)
 · rw [Ub _ _ _ _ _ (fun h=>absurd h (Ne.symm hgt))];exact c0
 · exact U3 (w:=W0.drew) ((Vi _ _ _ _).2 RB.out) _ _ _ (.inl (show w.heap.size≠g by omega))
 clear hK K Z9;refine ZR (by kernel_rfl) ?_ _;clear T c0 c1;go_wp2;refine ZW (Wu rfl _ _ _) rfl ⟨rfl,FI.1,FI.2.1,fun q hq n1 n2 n3=>(FI.2.2.block q (by have:=BA.out.size;show q<W0.heap.size;omega) (fun e=>n3 (by injection e with e;rw [e];rfl))).trans (BA.out.block q hq)⟩
theorem nQ (w:World) (lo tb mb:Nat) (v:Value) (rs:List (Int × List Int)) (x:Int) (Vb:List Int) (ht:Qw w lo tb mb v rs) (hno:∀i,i<rs.length→pB rs i≠x) (hwx:(Lit.int .i64 x).wf=true) (Ib:Vb.length=64) (hlen:rs.length≤1048576) (hlow:lo≤w.heap.size) :
    Calls Tryz.prog 136 #[.pointer (some ⟨tb,0,none⟩),.int .i64 x,.agg (Vb.map (Value.int .u8)).toArray] w fun e w'=>e=.returned (.tuple #[])∧(∃v',Qw w' lo tb mb v' (rs++[(x,Vb)]))∧Below lo w w'∧(∀q,q<w.heap.size→q≠tb→q≠mb→v.ownBlock≠some q→w'.heap[q]?=w.heap[q]?):=by
 obtain ⟨D,hD,hM⟩:=ht.map;obtain ⟨⟨zt,c0,c1⟩,-⟩:=ht.box;have hhas:Maps.has D (.int .i64 x)=false:=by
  cases h:Maps.has D (.int .i64 x) with
  | false=>rfl
  | true=>obtain ⟨i,hi,e⟩:=(hM.1 x).1 h;exact absurd e (hno i hi)
 have hkey:=Maps.keyOf_int_mk (P:=Tryz.prog) Tryz.underlying2 hwx;obtain ⟨i0,hi,hz0,hz1,hz2⟩:=YN wh;obtain ⟨V,hV⟩:∃V,V=Vb.map (Value.int .u8):=⟨_,rfl⟩;have QH:Hid (V.length=64):=by rw [hV];show _=_;rw [Zl];exact Ib
 have rI:Hid (∀v ∈ V,v.oneCell'=true):=by rw [hV];exact Yi _ _
 have YV:=ZU hV;have YU:=ZU (hM.snoc hD.isMap x Vb hno);have ST:=ZU hno;have YT:=ZU Ib;rw [←hV];have BA:Hid (Zi w (w.alloc (.cells V.toArray 117))):=Yy.alloc YR _;have TA:=ZU (ht.below BA.out);have RB:Hid ((w.alloc (.cells V.toArray 117)).rangeAt w.heap.size 0 V):=by have:=OT w V.toArray 117;rw [Vu] at this;exact this
 have HD:Hid ((w.alloc (.cells V.toArray 117)).ownsMap Tryz.prog 2 (plainElem Tryz.prog 3) mb rs.length D):=hD.alloc _;have sA:(w.alloc (.cells V.toArray 117)).heap.size=w.heap.size+1:=by simp
 obtain ⟨va,PN,rfl⟩:∃a c,v=.slice a rs.length c:=by
  rcases ht.rows.2 with ⟨rfl,h1⟩ | ⟨g,cap,cur,rfl,-⟩
  · exact ⟨none,0,by rw [h1]⟩
  exact ⟨_,_,rfl⟩
 have Z8:∀q,Value.ownBlock (.slice va rs.length PN)=some q→q<w.heap.size:=fun q hq=>(ZT ht.rows q hq).2
 have Y3:=ZU Z8;have zm:=hD.lt;clear ht hD hM hV hno Ib Z8;generalize hn:rs.length=n at *;have HN:=ZU hn;clear hn
 go_enter Tryz.func136,Tryz.ntmps136
 go_wp2_with (at_lookup;refine T0 _ rfl _ _ 206 rfl 2 3 .i64 nR Tryz.underlying206 Tryz.underlying3 (Bu _) mb n D rfl HD.out _ _ rfl hkey ?_)
 intro c hat hwc;clear c0 c1;generalize w.alloc _=W0 at *
 go_wp2_with fail
 obtain ⟨⟨Z4,c0,c1⟩,f0,f1⟩:=TA.out.box;refine ZX (S:=fun w'=>w'.cell? ⟨tb,0,none⟩=some (.slice va n PN)∧w'.cell? ⟨tb,1,none⟩=some (.map (some mb))) (by kernel_rfl) ⟨c0,c1⟩ (fun Z9=>?_);refine Zf (.pointer (some ⟨tb,0,none⟩)) (by kernel_rfl) (fun _=>id) (by assumption) (fun w' hSw=>?_) ?_
 · (try dsimp only at hSw)
   go_simp
 simp only [Act.put,WV,WU,WT]
 refine Zf (.pointer (some ⟨tb,0,none⟩)) (by kernel_rfl) (fun _=>id) (by assumption) (fun w' hSw=>?_) ?_
 · (try dsimp only at hSw)
   go_simp
 simp only [Act.put,WV,WU,WT]
 refine Zf (.pointer (some ⟨tb,1,none⟩)) (by kernel_rfl) (fun _=>id) (by assumption) (fun w' hSw=>?_) ?_
 · (try dsimp only at hSw)
   go_simp
 simp only [Act.put,WV,WU,WT]
 refine Zf (.map (some mb)) (by kernel_rfl) (fun _=>id) (by assumption) (fun w' hSw=>?_) ?_
 · (try dsimp only at hSw)
   go_simp
 simp only [Act.put,WV,WU,WT]
 refine Zf (.int .i64 x) (by kernel_rfl) (fun _=>id) (by assumption) (fun w' hSw=>?_) ?_
 · (try dsimp only at hSw)
   go_simp
 simp only [Act.put,WV,WU,WT]
 refine Zf (.pointer (some ⟨tb,0,none⟩)) (by kernel_rfl) (fun _=>id) (by assumption) (fun w' hSw=>?_) ?_
 · (try dsimp only at hSw)
   go_simp
 simp only [Act.put,WV,WU,WT]
 refine Zf (.pointer (some ⟨tb,0,none⟩)) (by kernel_rfl) (fun _=>id) (by assumption) (fun w' hSw=>?_) ?_
 · (try dsimp only at hSw)
   go_simp
 simp only [Act.put,WV,WU,WT]
 refine Zf (.pointer (some ⟨tb,0,none⟩)) (by kernel_rfl) (fun _=>id) (by assumption) (fun w' hSw=>?_) ?_
 · (try dsimp only at hSw)
   go_simp
 simp only [Act.put,WV,WU,WT]
 refine Zf (.slice va n PN) (by kernel_rfl) (fun _=>id) (by assumption) (fun w' hSw=>?_) ?_
 · (try dsimp only at hSw)
   go_simp
 simp only [Act.put,WV,WU,WT]
 refine Zf (.int .i64 n) (by kernel_rfl) (fun _=>id) (by assumption) (fun w' hSw=>?_) ?_
 · (try dsimp only at hSw)
   go_simp
 simp only [Act.put,WV,WU,WT]
 refine YS 10 rfl (by kernel_rfl) (fun K hK=>?_);refine Ob rfl _ _ _ 206 rfl 2 3 nR Tryz.underlying206 _ mb n D rfl HD.out.drew ?m1 _ _ _ rfl rfl hkey (.lit (.int .i64 n)) [] ?m2 ?_
 case m1=>unfold maxLen;omega
 case m2=>exact plainElem_int Tryz.underlying3 (KI _ (by omega) (by omega))
 intro W1 m1 g1;have Z7:=TA.out.ne;have d0:=(g1.cell_far ⟨tb,0,none⟩ Z4 (by simpa using Z7)).trans c0;have d1:=(g1.cell_far ⟨tb,1,none⟩ Z4 (by simpa using Z7)).trans c1;have e0:=(g1.frozen_far ⟨tb,0,none⟩ Z4 (by simpa using Z7)).trans f0;have e1:=(g1.frozen_far ⟨tb,1,none⟩ Z4 (by simpa using Z7)).trans f1;refine hK.out _ _ ⟨d0,d1⟩ (fun T=>?_);clear hK K Z9;refine ZR (by kernel_rfl) ?_ _;have G1:Hid (W0.grownBy W1 (some mb)):=⟨g1.os,g1.tape,g1.output,g1.size,g1.block⟩;have M1:=ZU m1;clear T c0 c1 f0 f1 m1 g1
 go_wp2_with fail
 go_frame
 have ZJ:=ZU (Wb RB.out (G1.out.block _ (by omega) (by simp;omega)));have hrow:∀W ob,Zi W1 W→(W.alloc ob).ownsRow lo 210 65 (.slice va n PN) n (Tj rs):=by
  intro W ob hW;have h0:=TA.out.rows;rw [HN.out] at h0;have h1:=Zn h0 G1.out (by
   cases e:Value.ownBlock (.slice va n PN) with
   | none=>exact .inl rfl
   | some q=>right;rw [←e];exact TA.out.vm)
  refine WP (Zn h1 (row:=none) ⟨hW.os,hW.tape,hW.output,hW.size,fun q hq _=>hW.block q hq⟩ ?_) ob
  cases Value.ownBlock (.slice va n PN) with
  | none=>exact .inl rfl
  | some q=>exact .inr (by simp)
 have Zt:=ZU hrow;have Zr:=ZY Z4 G1.out.size;have Y2:w.heap.size<W1.heap.size:=by have:=G1.out.size;omega
 have hwt:w.heap.size≠tb:=by omega
 have nP:Hid (∀u ∈ (Value.int .i64 x :: V),u.oneCell'=true):=by
  intro u hu
  rcases Y9.1 hu with rfl | hu
  · rfl
  exact rI.out u hu
 have wZ:Hid (∀W:World,∀j u,(Value.int .i64 x :: V)[j]?=some u→(W.alloc (.cells (Value.int .i64 x :: V).toArray 210)).cell? ((⟨W.heap.size,0,none⟩:Addr).add j)=some u):=by
  intro W j u hu;rw [YY,Za,Yz _ _ j _ _ _ (Zs W _)]
  simpa using hu
 have Zp:Hid (∀w4 ob,(W1.drew.alloc ob).grownBy w4 (Value.ownBlock (.slice va n PN))→(∀j,w4.cell? ⟨tb,j,none⟩=W1.cell? ⟨tb,j,none⟩∧w4.frozen? ⟨tb,j,none⟩=W1.frozen? ⟨tb,j,none⟩)∧∀u,(w4.setCell ⟨tb,0,none⟩ u).rangeAt w.heap.size 0 V∧w4.rangeAt w.heap.size 0 V):=by
  intro w4 ob hg;have hG:=WR (WQ W1 ob _) ⟨hg.os,hg.tape,hg.output,hg.size,hg.block⟩;have hr:=Wb ZJ.out (hG.block _ Y2 (fun e=>by have:=Y3.out _ e.symm;omega));refine ⟨fun j=>⟨hG.cell_far ⟨tb,j,none⟩ Zr (fun e=>TA.out.vt e.symm),hG.frozen_far ⟨tb,j,none⟩ Zr (fun e=>TA.out.vt e.symm)⟩,fun u=>⟨?_,hr⟩⟩;intro j y hy;rw [ZV _ _ _ _ (by intro e;injection e with e;exact hwt e.symm)];exact hr j y hy
 have FIN:Hid (∀g cap w4 ob,w4.ownsRow lo 210 65 (.slice (some ⟨g,0,none⟩) (n+1) cap) (n+1) (Tj rs++(.int .i64 x :: V))→(W1.drew.alloc ob).grownBy w4 (Value.ownBlock (.slice va n PN))→(Value.ownBlock (.slice va n PN)=some g∨g=W1.heap.size+1) →
     Qw (w4.setCell ⟨tb,0,none⟩ (.slice (some ⟨g,0,none⟩) (n+1) cap)) lo tb mb (.slice (some ⟨g,0,none⟩) (n+1) cap) (rs++[(x,Vb)])∧Below lo w (w4.setCell ⟨tb,0,none⟩ (.slice (some ⟨g,0,none⟩) (n+1) cap))∧(∀q,q<w.heap.size→q≠tb→q≠mb→Value.ownBlock (.slice va n PN)≠some q→(w4.setCell ⟨tb,0,none⟩ (.slice (some ⟨g,0,none⟩) (n+1) cap)).heap[q]?=w.heap[q]?)):=by
  intro g cap w4 ob h1 h2 h3;have hT:=TA.out;have hM:=YU.out;have hM1:=M1.out;rw [YV.out] at h1;rw [←HN.out] at h1 h2 h3 hT hM1 ⊢;rw [←HN.out] at hM;have:=Qw.snoc (W0:=W0) (W1:=W1) (ob:=ob) hT G1.out hM1 hM h1 ⟨h2.os,h2.tape,h2.output,h2.size,h2.block⟩ h3 (by rw [HN.out];exact ST.out) YT.out (by omega);exact ⟨this.1,(BA.out.mono hlow).trans this.2.1,fun q hq n1 n2 n3=>(this.2.2 q (by omega) n1 n2 n3).trans (BA.out.block q hq)⟩
 have Z2:n+1≤maxLen:=by unfold maxLen;omega
 have ZO:(n+1)*72≤140737488355328:=by omega
 have Zm:lo≤W1.heap.size:=by omega
 clear hrow;refine ZX (S:=fun w'=>w'.rangeAt w.heap.size 0 V) (by kernel_rfl) ((Vi _ _ _ _).2 ZJ.out) (fun Z9=>?_);refine Zf (.pointer (some ⟨tb,0,none⟩)) (by kernel_rfl) (fun _=>id) (by assumption) (fun w' hSw=>?_) ?_
 · (try dsimp only at hSw)
   go_simp
 simp only [Act.put,WV,WU,WT]
 refine Zf (.pointer (some ⟨tb,0,none⟩)) (by kernel_rfl) (fun _=>id) (by assumption) (fun w' hSw=>?_) ?_
 · (try dsimp only at hSw)
   go_simp
 simp only [Act.put,WV,WU,WT]
 refine Zf (.pointer (some ⟨tb,0,none⟩)) (by kernel_rfl) (fun _=>id) (by assumption) (fun w' hSw=>?_) ?_
 · (try dsimp only at hSw)
   go_simp
 simp only [Act.put,WV,WU,WT]
 refine Zf (.pointer (some ⟨tb,0,none⟩)) (by kernel_rfl) (fun _=>id) (by assumption) (fun w' hSw=>?_) ?_
 · (try dsimp only at hSw)
   go_simp
 simp only [Act.put,WV,WU,WT]
 refine Yp 5 (.int .i64 x) rfl (by kernel_rfl) (fun _=>id) (by assumption) (fun w' hSw=>?_) ?_
 · (try dsimp only at hSw)
   go_simp
 simp only [Act.put,WV,WU,WT]
 refine PL (i:=6) (oi:=⟨some 42,_,_,_,_,_⟩) (v:=.agg (V).toArray) rfl (by kernel_rfl) (fun _ _ _ h=>h) (VN (by rfl) _ _ rfl _ _ rfl V _ (fun w' hSw=>hSw) Tryz.underlying117 rfl (Wh _ QH.out)) (by assumption) ?_
 simp only [Act.put,WV,WU,WT]
 refine Yp 7 (.agg (Value.int .i64 x :: V).toArray) rfl (by kernel_rfl) (fun _=>id) (by assumption) (fun w' hSw=>?_) ?_
 · (try dsimp only at hSw)
   have hb:=Id w' x V QH.out
   simp [execOp]
   exact ZM (fun r=>Result.andThen r fun a w''=>Result.ok (Next.value a) w'') hb
 simp only [Act.put,WV,WU,WT]
 refine QG 4 8 rfl rfl (by kernel_rfl) (fun K hK=>?_) (fun K hK=>?_)
 · go_simp
   refine hK.out _ _ (by assumption) (fun ZG=>?_);clear hK K;refine YS 8 rfl (by kernel_rfl) (fun K hK=>?_);refine Rp rfl _ rfl x V QH.out rfl ?_;have hS2:(W1.drew.alloc (.cells (Value.int .i64 x :: V).toArray 210)).rangeAt w.heap.size 0 V:=Wk ((Vi _ _ _ _).2 ZJ.out) _;refine hK.out _ _ hS2 (fun ZD=>?_);clear hK K
   simp only [Act.put,WV,WU,WT]
   refine YS 9 rfl (by kernel_rfl) (fun K hK=>?_);refine step_append_lies _ rfl _ _ 205 rfl lo 210 i0 zT 65 72 Tryz.underlying205 hi hz0 hz1 hz2 Ie (by omega) (.slice va n PN) n (Tj rs) rfl (Zt.out W1.drew _ (below_drewN' W1 1)) ⟨W1.heap.size,0,none⟩ 1 1 (Value.int .i64 x :: V) rfl ?a1 (wZ.out W1.drew) nP.out (by omega) Z2 ZO ?a2 (W1.heap.size+1) ?a3 ?_
   case a1=>rw [ZE,QH.out]
   case a2=>exact (show lo≤(W1.alloc (.cells (Value.int .i64 x :: V).toArray 210)).heap.size by rw [YF];exact Nat.le_succ_of_le Zm)
   case a3=>exact (show (W1.alloc (.cells (Value.int .i64 x :: V).toArray 210)).heap.size=W1.heap.size+1 by rw [YF])
   intro g4 cap4 w4 GJ hg4 U If;obtain ⟨q1,q2⟩:=Zp.out _ _ hg4;have FI:=FIN.out _ _ _ _ GJ hg4 U;have wI:=ZU FI;have p0:=(q1 0).1.trans d0;have p1:=(q1 0).2.trans e0;refine hK.out _ _ (q2 (.int .i64 0)).2 (fun F=>?_);have mf:=ZU q2;clear hK K FI GJ hg4 U q1 q2
   simp only [Act.put,WV,WU,WT]
   refine Yp 10 (.pointer (some ⟨tb,0,none⟩)) rfl (by kernel_rfl) (fun _=>id) (by assumption) (fun w' hSw=>?_) ?_
   · (try dsimp only at hSw)
     go_simp
   simp only [Act.put,WV,WU,WT]
   refine Yp 11 (.pointer (some ⟨tb,0,none⟩)) rfl (by kernel_rfl) (fun _=>id) (by assumption) (fun w' hSw=>?_) ?_
   · (try dsimp only at hSw)
     go_simp
   simp only [Act.put,WV,WU,WT]
   refine YS 12 rfl (by kernel_rfl) (fun K hK=>?_);go_simp;refine hK.out _ _ (mf.out _).1 (fun Z'=>?_);clear hK K;refine ZR (by kernel_rfl) ?_ _;clear Z' F;go_wp2
   go_end0
   exact ⟨rfl,⟨_,wI.out.1⟩,wI.out.2.1,wI.out.2.2⟩
 refine Rp rfl _ rfl x V QH.out rfl ?_;have hS2:(W1.drew.alloc (.cells (Value.int .i64 x :: V).toArray 210)).rangeAt w.heap.size 0 V:=Wk ((Vi _ _ _ _).2 ZJ.out) _;refine hK.out _ _ hS2 (fun ZD=>?_);clear hK K
 simp only [Act.put,WV,WU,WT]
 refine YS 4 rfl (by kernel_rfl) (fun K hK=>?_);go_simp;refine hK.out _ _ (by assumption) (fun ZG=>?_);clear hK K;refine YS 9 rfl (by kernel_rfl) (fun K hK=>?_);refine step_append_lies _ rfl _ _ 205 rfl lo 210 i0 zT 65 72 Tryz.underlying205 hi hz0 hz1 hz2 Ie (by omega) (.slice va n PN) n (Tj rs) rfl (Zt.out W1.drew _ (below_drewN' W1 1)) ⟨W1.heap.size,0,none⟩ 1 1 (Value.int .i64 x :: V) rfl ?a1 (wZ.out W1.drew) nP.out (by omega) Z2 ZO ?a2 (W1.heap.size+1) ?a3 ?_
 case a1=>rw [ZE,QH.out]
 case a2=>exact (show lo≤(W1.alloc (.cells (Value.int .i64 x :: V).toArray 210)).heap.size by rw [YF];exact Nat.le_succ_of_le Zm)
 case a3=>exact (show (W1.alloc (.cells (Value.int .i64 x :: V).toArray 210)).heap.size=W1.heap.size+1 by rw [YF])
 intro g4 cap4 w4 GJ hg4 U If;obtain ⟨q1,q2⟩:=Zp.out _ _ hg4;have FI:=FIN.out _ _ _ _ GJ hg4 U;have wI:=ZU FI;have p0:=(q1 0).1.trans d0;have p1:=(q1 0).2.trans e0;refine hK.out _ _ (q2 (.int .i64 0)).2 (fun F=>?_);have mf:=ZU q2;clear hK K FI GJ hg4 U q1 q2
 simp only [Act.put,WV,WU,WT]
 refine Yp 10 (.pointer (some ⟨tb,0,none⟩)) rfl (by kernel_rfl) (fun _=>id) (by assumption) (fun w' hSw=>?_) ?_
 · (try dsimp only at hSw)
   go_simp
 simp only [Act.put,WV,WU,WT]
 refine Yp 11 (.pointer (some ⟨tb,0,none⟩)) rfl (by kernel_rfl) (fun _=>id) (by assumption) (fun w' hSw=>?_) ?_
 · (try dsimp only at hSw)
   go_simp
 simp only [Act.put,WV,WU,WT]
 refine YS 12 rfl (by kernel_rfl) (fun K hK=>?_);go_simp;refine hK.out _ _ (mf.out _).1 (fun Z'=>?_);clear hK K;refine ZR (by kernel_rfl) ?_ _;clear Z' F;go_wp2
 go_end0
 exact ⟨rfl,⟨_,wI.out.1⟩,wI.out.2.1,wI.out.2.2⟩
theorem Ni (w:World) (lo tb mb:Nat) (v:Value) (rs:List (Int × List Int)) (x:Int) (Vb:List Int) (ht:Qw w lo tb mb v rs) (hx0:0≤x) (hx1:x≤1048576) (Ib:Vb.length=64) (hlen:rs.length≤1048576) (hlow:lo≤w.heap.size) :
    Calls Tryz.prog 136 #[.pointer (some ⟨tb,0,none⟩),.int .i64 x,.agg (Vb.map (Value.int .u8)).toArray] w fun e w'=>e=.returned (.tuple #[])∧(∃v' rs',Put rs x Vb rs'∧Qw w' lo tb mb v' rs')∧Below lo w w'∧(∀q,q<w.heap.size→q≠tb→q≠mb→v.ownBlock≠some q→w'.heap[q]?=w.heap[q]?):=by
 by_cases h:∃i,i<rs.length∧pB rs i=x
 · obtain ⟨i,hi,e⟩:=h
   refine (rJ w lo tb mb v rs x Vb i ht hi e (KI x hx0 hx1) Ib).mono ?_;rintro e' w' ⟨rfl,h1,h2,h3⟩;exact ⟨rfl,⟨v,_,.inl ⟨i,hi,e,rfl⟩,h1⟩,h2,h3⟩
 have hno:∀i,i<rs.length→pB rs i≠x:=fun i hi e=>h ⟨i,hi,e⟩
 refine (nQ w lo tb mb v rs x Vb ht hno (KI x hx0 hx1) Ib hlen hlow).mono ?_;rintro e' w' ⟨rfl,⟨v',h1⟩,h2,h3⟩;exact ⟨rfl,⟨v',_,.inr ⟨hno,rfl⟩,h1⟩,h2,h3⟩
theorem rH {rs':List (Int × List Int)} {x:Int} {V:List Int} (h:Put rs x V rs'):rs'.length≤rs.length+1:=by
 rcases h with ⟨i,_,_,rfl⟩ | ⟨_,rfl⟩
 · simp
 simp
theorem Ia (w:World) (va vb:Option Addr) (dl ca n cb:Nat) (YL:List Int) (ps:List (Int × List Int)) (hdl:YL.length=dl) (hp:J8 w (.slice vb n cb) ps) (hl:ps.length=n) (hv:QP dl ps=true) :
    Calls Tryz.prog 131 #[.agg #[.slice va dl ca,.slice vb n cb]] w fun e w'=>e=.returned (.pointer (some ⟨w.heap.size+2,0,none⟩))∧(∃v rs,Qw w' (w.heap.size+1) (w.heap.size+2) (w.heap.size+1) v rs∧KJ YL ps n rs)∧Zi w w':=by
 have HP:=ZU hp;have HL:=ZU hl;have HV:=ZU hv;have OM:=ZU hdl;have hn2:n≤2000:=by have:=((Sq dl ps).1 hv).2.2.2.1;omega
 have B0:Hid (Zi w (w.alloc (.cells #[.slice va dl ca,.slice vb n cb] 52))):=Yy.alloc YR _;have X0:Hid (Vg (w.alloc (.cells #[.slice va dl ca,.slice vb n cb] 52)) w.heap.size (.slice va dl ca) (.slice vb n cb)):=Vg.new _ _ _ _;have s0:(w.alloc (.cells #[.slice va dl ca,.slice vb n cb] 52)).heap.size=w.heap.size+1:=by simp
 clear hp hl hv hdl
 go_enter Tryz.func131,Tryz.ntmps131
 go_wp2_with fail
 generalize w.alloc _=w0 at *;refine (Nj w0).mono ?_;rintro e w1 ⟨rfl,t1,b1⟩;rw [s0] at t1 ⊢;have T1:Hid (Qw w1 (w.heap.size+1) (w.heap.size+2) (w.heap.size+1) (.slice none 0 0) []):=t1;have B1:Hid (Below (w.heap.size+1) w0 w1):=by have:=b1;(try unfold Zi at this);rw [s0] at this;exact this
 have X1:=ZU (X0.out.below b1);have z1:=T1.out.box.1.1;clear t1 b1 X0;obtain ⟨zx,c0,c1⟩:=X1.out;go_wp2;clear c0 c1
 go_loopw [10] (fun i wr=>∃k:Nat,k≤n∧i=.int .i64 k∧Hid (∃v rs,Qw wr (w.heap.size+1) (w.heap.size+2) (w.heap.size+1) v rs∧KJ YL ps k rs∧rs.length≤k)∧Hid (Below (w.heap.size+1) w1 wr)) (fun i _=>n - (intOf i).toNat)
 case atStart=>exact ⟨0,Zu _,rfl,⟨_,_,T1.out,zP _ _,YR⟩,Yy⟩
 case round =>
  clear T1;obtain ⟨k,hk,rfl,⟨v,rs,ht,hof,hrl⟩,HG⟩:=hrel;have HT:=ZU ht;have yJ:=ZU hof;have Dr:=ZU hrl;have sg:=HG.out.size;have BW:=ZU (B0.out.trans (((B1.out.trans HG.out)).mono (by omega)));clear ht hof hrl
  by_cases hlt:k<n
  · obtain ⟨pb,po,rfl,hpb,e1,da,dc,e2,r⟩:=HP.out.recAt HL.out hlt
    obtain ⟨b,hb,hb2,hb3,M⟩:=Dk HV.out k (by rw [HL.out];exact hlt);have HB:=ZU hb;rw [hb] at e1;rw [M] at e2 r;have YP:=(BW.out.cell (p:=⟨pb,po+k*2,none⟩) hpb).trans e1;have e2':=(BW.out.cell (p:=⟨pb,po+k*2+1,none⟩) hpb).trans e2;obtain ⟨db,N,rfl,YO,-⟩:=r.cellAt M (show 0<64 by omega);obtain ⟨V,hV⟩:∃V,V=(pD ps k).map (Value.int .u8):=⟨_,rfl⟩;have RU:Hid (w.rangeAt db N V):=by rw [hV];exact (r.span M (by omega)).2
    have QH:Hid (V.length=64):=by rw [hV];show _=_;rw [Zl];exact M
    have Rj:(k:Int)<(n:Int):=by omega
    have tV:Hid (∀W,Qw W (w.heap.size+1) (w.heap.size+2) (w.heap.size+1) v rs→w.heap.size+1≤W.heap.size→Calls Tryz.prog 136 #[.pointer (some ⟨w.heap.size+2,0,none⟩),.int .i64 b,.agg V.toArray] W fun e w'=>e=.returned (.tuple #[])∧(∃v' rs',Put rs b (pD ps k) rs'∧Qw w' (w.heap.size+1) (w.heap.size+2) (w.heap.size+1) v' rs')∧Below (w.heap.size+1) W w'∧(∀q,q<W.heap.size→q≠w.heap.size+2→q≠w.heap.size+1→v.ownBlock≠some q→w'.heap[q]?=W.heap[q]?)):=by
     intro W hT hW;rw [hV];exact Ni W _ _ _ v rs b (pD ps k) hT (by omega) (by omega) M (by have:=Dr.out;omega) hW
    clear e1 e2 r hb M hV
    go_wp2_with fail
    have ZB:Hid (Zi wr (wr.alloc (.cells #[.int .i64 b,.slice (some ⟨db,N,none⟩) 64 dc] 132))):=Yy.alloc YR _;have XB:Hid (Vg (wr.alloc (.cells #[.int .i64 b,.slice (some ⟨db,N,none⟩) 64 dc] 132)) wr.heap.size (.int .i64 b) (.slice (some ⟨db,N,none⟩) 64 dc)):=Vg.new _ _ _ _;clear YP e2';generalize wr.alloc _=w3 at *;obtain ⟨z3,c0,c1⟩:=XB.out;have sB:=ZB.out.size;have Y':=Wb RU.out ((ZB.out.block db (by have:=BW.out.size;omega)).trans (BW.out.block db YO));have T3:=ZU (HT.out.below ZB.out);have YX:=HT.out.box.1.1;have Z8:∀q,v.ownBlock=some q→q<wr.heap.size:=fun q hq=>(ZT HT.out.rows q hq).2
    have hat:∀W,(Instr.arrayAt 117 (.slice (some ⟨db,N,none⟩) 64 dc)).run Tryz.prog W=.ok (.pointer (some ⟨db,N,none⟩)) W:=fun W=>run_arrayAt W 117 _ 64 _ _ _ Tryz.underlying117 YR
    have CP:Hid (Calls Tryz.prog 136 #[.pointer (some ⟨w.heap.size+2,0,none⟩),.int .i64 b,.agg V.toArray] w3.drew fun e w'=>e=.returned (.tuple #[])∧w'.cell? ⟨wr.heap.size,0,none⟩=some (.int .i64 b)∧w'.cell? ⟨wr.heap.size,1,none⟩=some (.slice (some ⟨db,N,none⟩) 64 dc)∧w'.rangeAt db N V∧Hid (∃v rs,Qw w' (w.heap.size+1) (w.heap.size+2) (w.heap.size+1) v rs∧KJ YL ps (k+1) rs∧rs.length≤k+1)∧Hid (Below (w.heap.size+1) w1 w')):=by
     refine (tV.out w3.drew (T3.out.below (below_drewN' w3 1)) (by show _≤w3.heap.size;omega)).mono ?_;rintro e w' ⟨rfl,⟨v',rs',hput,hT'⟩,hb',hfr⟩;have hc:∀j,w'.cell? ⟨wr.heap.size,j,none⟩=w3.cell? ⟨wr.heap.size,j,none⟩:=fun j=>ZP (w:=w3) (a:=⟨wr.heap.size,j,none⟩) (hfr wr.heap.size z3 (by omega) (by omega) (fun e=>by have:=Z8 _ e;omega))
     refine ⟨rfl,(hc 0).trans c0,(hc 1).trans c1,Wb Y' (hb'.block db (by omega)),⟨v',rs',hT',?_,?_⟩,?_⟩
     · refine zO YL ps rs rs' k yJ.out ⟨b,HB.out,by rw [OM.out];exact hb2,hb3⟩ HT.out.apart ?_
       rw [HB.out];exact hput
     · have:=rH hput;have:=Dr.out;omega
     exact ((HG.out.trans (ZB.out.mono (by omega))).trans ((below_drewN' w3 1).mono (by omega))).trans hb'
    clear tV XB T3 RU HG HT yJ;refine ZX (S:=fun w'=>w'.cell? ⟨wr.heap.size,0,none⟩=some (.int .i64 b)∧w'.cell? ⟨wr.heap.size,1,none⟩=some (.slice (some ⟨db,N,none⟩) 64 dc)∧w'.rangeAt db N V) (by kernel_rfl) ⟨c0,c1,Y'⟩ (fun Z9=>?_);refine Zf (.pointer (some ⟨w.heap.size+2,0,none⟩)) (by kernel_rfl) (fun _=>id) Z9 (fun w' hSw=>?_) ?_
    · (try dsimp only at hSw)
      go_simp
    simp only [Act.put,WV,WU,WT]
    refine Zf (.pointer (some ⟨wr.heap.size,0,none⟩)) (by kernel_rfl) (fun _=>id) Z9 (fun w' hSw=>?_) ?_
    · (try dsimp only at hSw)
      go_simp
    simp only [Act.put,WV,WU,WT]
    refine Zf (.int .i64 b) (by kernel_rfl) (fun _=>id) Z9 (fun w' hSw=>?_) ?_
    · (try dsimp only at hSw)
      go_simp
    simp only [Act.put,WV,WU,WT]
    refine Zf (.pointer (some ⟨wr.heap.size,1,none⟩)) (by kernel_rfl) (fun _=>id) Z9 (fun w' hSw=>?_) ?_
    · (try dsimp only at hSw)
      go_simp
    simp only [Act.put,WV,WU,WT]
    refine Zf (.slice (some ⟨db,N,none⟩) 64 dc) (by kernel_rfl) (fun _=>id) Z9 (fun w' hSw=>?_) ?_
    · (try dsimp only at hSw)
      go_simp
    simp only [Act.put,WV,WU,WT]
    refine Zf (.pointer (some ⟨db,N,none⟩)) (by kernel_rfl) (fun _=>id) Z9 (fun w' hSw=>?_) ?_
    · (try dsimp only at hSw)
      go_simp
    simp only [Act.put,WV,WU,WT]
    refine PL (i:=6) (oi:=⟨some 20,_,_,_,_,_⟩) (v:=.agg (V).toArray) rfl (by kernel_rfl) (fun _ _ _ h=>h) (VN (by rfl) _ _ rfl _ _ rfl V _ (fun w' hSw=>hSw.2.2) Tryz.underlying117 rfl (Wh _ QH.out)) (by assumption) ?_
    simp only [Act.put,WV,WU,WT]
    refine YS 7 rfl (by kernel_rfl) (fun K hK=>?_);go_simp
    go_at_call 136
    refine CP.out.mono ?_;rintro e w4 ⟨rfl,l0,l1,l2,R4,G4⟩;refine hK.out _ _ ⟨l0,l1,l2⟩ (fun T=>?_);clear hK K Z9;refine ZR (by kernel_rfl) ?_ _
    try simp only [Act.put,WV,WU,WT]
    clear l0 l1 l2 T c0 c1 hat CP Y';go_wp2
    go_roundw
    case rel=>exact ⟨k+1,by omega,by go_num,R4,G4⟩
    case measure=>simp [intOf];omega
  have hkn:k=n:=by omega
  subst hkn;go_wp2;go_ret;exact ⟨rfl,⟨v,rs,HT.out,yJ.out⟩,BW.out⟩
theorem Hz {α:Type} (L V:List α) (h:V.length=L.length):splice L 0 V=V:=by
 unfold splice;rw [WI,Za,Xx (by omega)]
 simp
def blk (D:List Int) (b:Nat):List Int:=(D.drop (b*64)).take 64
theorem Nh (D:List Int) (b j:Nat):(blk D b)[j]?=if j<64 then D[b*64+j]? else none:=by
 unfold blk;rw [WJ]
 split
 · rw [Yt]
 rfl
theorem rG {D E:List Int} (hl:D.length=E.length) (hm:D.length % 64=0) (h:∀b,b*64+64≤D.length→blk D b=blk E b):D=E:=by
 apply Wn;intro i
 by_cases hi:i<D.length
 · have h1:=h (i / 64) (by omega)
   have h2:(blk D (i / 64))[i % 64]?=(blk E (i / 64))[i % 64]?:=by rw [h1]
   rw [Nh,Nh,Z0 (by omega),Z0 (by omega),show i / 64*64+i % 64=i by omega] at h2;exact h2
 rw [Yk (by omega),Yk (by omega)]
theorem KG (D V:List Int) (c b:Nat) (hV:V.length=64) (hc:c*64+64≤D.length):blk (splice D (c*64) V) b=if b=c then V else blk D b:=by
 apply Wn;intro j;rw [Nh,UJ _ _ _ (by omega),hV]
 by_cases hj:j<64
 · rw [Z0 hj]
   by_cases e:b=c
   · subst e
     rw [Z0 rfl,Z1 (by omega),Z0 (by omega),show b*64+j - b*64=j by omega]
   rw [Z1 e,Nh,Z0 hj]
   by_cases h1:b*64+j<c*64
   · rw [Z0 h1]
   rw [Z1 h1,Z1 (by omega)]
 rw [Z1 hj]
 split
 · rw [Yk (by omega)]
 rw [Nh,Z1 hj]
def lays (YL:List Int) (rs:List (Int × List Int)):List Int:=rs.foldl (fun D r=>splice D (r.1.toNat*64) r.2) YL
theorem Mz (YL:List Int) (rs:List (Int × List Int)) (r:Int × List Int):lays YL (rs++[r])=splice (lays YL rs) (r.1.toNat*64) r.2:=by simp [lays]
def Fits (dl:Nat) (r:Int × List Int):Prop:=∃b:Nat,r.1=b∧b*64+64≤dl∧r.2.length=64
theorem E8 {α:Type} {p:List α→Prop} (h0:p []) (hs:∀l x,p l→p (l++[x])) (l:List α):p l:=by
 rw [←List.reverse_reverse l]
 induction l.reverse with
 | nil=>exact h0
 | cons x xs ih=>rw [List.reverse_cons];exact hs _ _ ih
theorem KF (YL:List Int) (rs:List (Int × List Int)):(∀r ∈ rs,Fits YL.length r)→(lays YL rs).length=YL.length:=by
 refine E8 (p:=fun rs=>(∀r ∈ rs,Fits YL.length r)→(lays YL rs).length=YL.length) (fun _=>rfl) (fun rs r ih h=>?_) rs;have ih':=ih (fun q hq=>h q (by simp [hq]));obtain ⟨b,hb,hb2,hl⟩:=h r (by simp);rw [Mz,length_splice,ih'];rw [ih',hb,Ze,hl];exact hb2
theorem Bt (YL:List Int) (ps:List (Int × List Int)) (hv:QP YL.length ps=true) (b:Nat):∀k,k≤ps.length→blk (tK YL ps (fun _=>64) k) b=rdv YL ps b k
 | 0,_=>rfl
 | k+1,hk=>by
  have ih:=Bt YL ps hv b k (by omega);obtain ⟨c,hc,hc2,_,hd⟩:=Dk hv k (by omega);have hl:=Nn YL ps (fun _=>64) hv k (by omega);rw [tK,hc,Ze,Y8 (by omega),KG _ _ _ _ hd (by omega)]
  by_cases e:b=c
  · rw [Z0 e,Dj YL ps b k (by rw [hc,e])]
  rw [Z1 e,Nl YL ps b k (by rw [hc];omega),ih]
theorem wg (YL:List Int) (rs:List (Int × List Int)) (b:Nat):(∀r ∈ rs,Fits YL.length r)→(∀i j,i<rs.length→j<rs.length→pB rs i=pB rs j→i=j) →
    (∀i,i<rs.length→pB rs i=b→blk (lays YL rs) b=pD rs i)∧((∀i,i<rs.length→pB rs i≠b)→blk (lays YL rs) b=blk YL b):=by
 refine E8 (p:=fun rs=>(∀r ∈ rs,Fits YL.length r)→(∀i j,i<rs.length→j<rs.length→pB rs i=pB rs j→i=j) →
  (∀i,i<rs.length→pB rs i=b→blk (lays YL rs) b=pD rs i)∧((∀i,i<rs.length→pB rs i≠b)→blk (lays YL rs) b=blk YL b)) (fun _ _=>⟨fun i hi=>by simp at hi,fun _=>rfl⟩) (fun rs r ih h hap=>?_) rs
 have hl:(rs++[r]).length=rs.length+1:=by simp
 have hrs:∀q ∈ rs,Fits YL.length q:=fun q hq=>h q (by simp [hq])
 have Y1:∀i j,i<rs.length→j<rs.length→pB rs i=pB rs j→i=j:=fun i j hi hj e=>hap i j (by omega) (by omega) (by rw [Tv _ _ _ hi,Tv _ _ _ hj];exact e)
 obtain ⟨i1,i2⟩:=ih hrs Y1;obtain ⟨c,hc,hc2,hd⟩:=h r (by simp);have hlen:=KF YL rs hrs;rw [Mz,hc,Ze,KG _ _ _ _ hd (by omega)];refine ⟨fun i hi e=>?_,fun hno=>?_⟩
 · rw [hl] at hi
   by_cases ei:i=rs.length
   · subst ei
     rw [Tg] at e;rw [LI,Z0 (by rw [hc] at e;omega)]
   rw [Tv _ _ _ (by omega)] at e;rw [Ih _ _ _ (by omega)]
   by_cases eb:b=c
   · have:=hap i rs.length (by omega) (by omega) (by rw [Tv _ _ _ (by omega),Tg,e,hc,eb])
     omega
   rw [Z1 eb];exact i1 i (by omega) e
 have hn:=hno rs.length (by omega);rw [Tg,hc] at hn;rw [Z1 (by omega)];exact i2 (fun i hi=>by have:=hno i (by omega);rw [Tv _ _ _ hi] at this;exact this)
theorem Br (dl:Nat) (rs:List (Int × List Int)) (h:∀i,i<rs.length→∃b:Nat,pB rs i=b∧b*64+64≤dl∧b≤300) (hf:∀i,i<rs.length→(pD rs i).length=64):∀r ∈ rs,Fits dl r:=by
 intro r hr;obtain ⟨i,hi,rfl⟩:=List.mem_iff_getElem.1 hr;obtain ⟨b,h1,h2,_⟩:=h i hi;have h3:=hf i hi;unfold pB at h1;unfold pD at h3
 simp [List.getD,hi] at h1 h3
 exact ⟨b,h1,h2,h3⟩
theorem we (YL:List Int) (ps rs:List (Int × List Int)) (hv:QP YL.length ps=true) (ht:KJ YL ps ps.length rs) (hf:∀i,i<rs.length→(pD rs i).length=64) (hap:∀i j,i<rs.length→j<rs.length→pB rs i=pB rs j→i=j) :
    lays YL rs=tK YL ps (fun _=>64) ps.length:=by
 have hfit:=Br YL.length rs ht.2 hf;have h1:=KF YL rs hfit;have h2:=Nn YL ps (fun _=>64) hv ps.length YR;refine rG (by rw [h1,h2]) (by rw [h1];exact ((Sq _ _).1 hv).1) (fun b hb=>?_);rw [Bt YL ps hv b _ YR];obtain ⟨k1,k2⟩:=wg YL rs b hfit hap
 by_cases hex:∃i,i<rs.length∧pB rs i=(b:Int)
 · obtain ⟨i,hi,e⟩:=hex
   rw [k1 i hi e,(ht.1 b).1 i hi e]
 have hno:∀i,i<rs.length→pB rs i≠(b:Int):=fun i hi e=>hex ⟨i,hi,e⟩
 rw [k2 hno,(ht.1 b).2 hno]
 rfl
end
end Go.Proofs.YtpmjnbmkippaiaaGreatDoor


