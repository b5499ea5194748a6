import Derived.Test.YtmmmffcbfepghaaGreatDoorJ05
import Derived.Deep.RegionLaw
import Derived.Laws.Cover3
import Derived.Deep.MidRow
import Derived.Laws.CopyOwn
import Derived.BigRegion
import Derived.Deep.AppendLies
set_option maxRecDepth 100000
set_option maxHeartbeats 16000000
set_option linter.unusedVariables false
set_option linter.unusedSimpArgs false
namespace Go.Proofs.YtmmmffcbfepghaaGreatDoor
open Go.RowKit Go.Shelf
variable {ops:Array Oper} {cs:Array Value} {last start z zx:Int} {ps:List (Int × List Int)} {R:List (List Int)} {es:List Ef} {a Z7 p xs ys:List Int} {ns:List Nd} {res:List Nd × Int × Nat} {us:List Value} {B Bo b base c cap f g i j k lo lo' n o:Nat} {ao:Option Addr} {row:Option Nat} {P:Program} {E:Prop} {e:TypeId} {u v vd vt x x0 x1 x2 x3 y:Value} {W W' X w w':World}
theorem FR (w:World) (b o n cap:Nat) (xs:List Int) (hx:xs.length=n) (hb:b<w.heap.size) (hc:∀i,i<n→w.cell? ⟨b,o+i,none⟩=some (.int .u8 (xs.getD i 0))) (hn:n≤1099511627776) :
    Calls Tryz.prog 53 #[.slice (some ⟨b,o,none⟩) n cap] w fun e w'=>∃v',e=.returned v'∧Own .u8 5 w' w.heap.size v' xs∧ZX w w':=by
 obtain ⟨i0,hi,hz0,hz1,hz2⟩:=YH Tryz.Vv;have HC:=Z8 hc;have HX:=Z8 hx;clear hc hx
 go_enter Tryz.func53,Tryz.ntmps53
 go_wp2
 go_loopw [3,4] (fun v i wr=>∃k:Nat,k≤n∧i=.int .i64 k∧wr.ownsRow w.heap.size 5 1 v k ((xs.take k).map (Value.int .u8))∧ZX w wr) (fun _ i _=>n - (intOf i).toNat)
 case atStart=>exact ⟨0,ZQ _,rfl,Xb w #[] 0 ZW (ZQ _) rfl,ZR.alloc ZW _⟩
 case round =>
  obtain ⟨k,hk,rfl,ho,hg⟩:=hrel
  by_cases hlt:k<n
  · have YN:(k:Int)<(n:Int):=by omega
    have hsrc:=(hg.cell (p:=⟨b,o+k,none⟩) hb).trans (HC.out k hlt);have rW:=Z8 (V6 xs k (by rw [HX.out];exact hlt));generalize xs.getD k 0=x at *
    go_wp2_with (at_builtin;go_must (refine XS _ rfl _ _ 22 rfl w.heap.size 5 i0 (.int .u8 0) 1 1 Tryz.underlying22 hi hz0 hz1 hz2 rfl (by decide) _ _ _ rfl (ho.alloc _) ⟨wr.heap.size,0,none⟩ 1 1 [.int .u8 x] rfl rfl (Vy _ _ _) (by intro u hu;simp at hu;subst hu;rfl) ?c3 ?c4 ?c5 ?_))
    case c3=>unfold maxLen;omega
    case c4=>omega
    case c5=>have:=hg.size;simp;omega
    intro v2 w2 ho2 hg2 _;have Sv:Hid (w2.ownsRow w.heap.size 5 1 v2 (k+1) ((xs.take (k+1)).map (Value.int .u8))):=by
     show World.ownsRow _ _ _ _ _ _ _;rw [rW.out,WX,DP];exact ho2
    have HG2:=Z8 ((hg.alloc (hg.size) _).grown hg2 (by have:=hg.size;simp;omega) (fun q hq=>(ho.lt q hq).1));clear ho2 hg2 ho hg;go_wp2
    go_roundw
    case rel=>exact ⟨k+1,by omega,by go_num,Sv.out,HG2.out⟩
    case measure=>simp [intOf];omega
  have hkn:k=n:=by omega
  subst hkn;go_wp2;go_ret;exact ⟨_,rfl,WI (ys:=xs) HX.out rfl (by rw [We (by rw [HX.out];exact ZW)] at ho;exact ho),hg⟩
theorem FQ (w:World) (ao:Option Addr) (cap:Nat) :
    Calls Tryz.prog 53 #[.slice ao 0 cap] w fun e w'=>∃v',e=.returned v'∧Own .u8 5 w' w.heap.size v' []∧ZX w w':=by
 go_enter Tryz.func53,Tryz.ntmps53
 go_wp2
 go_rounds 1
 go_ret;exact ⟨_,rfl,Xb w #[] 0 ZW (ZQ _) rfl,ZR.alloc ZW _⟩
theorem Wq (w:World) (v:Value) (xs:List Int) (h:Rd .u8 w v xs) (hn:xs.length≤1099511627776) :
    Calls Tryz.prog 53 #[v] w fun e w'=>∃v',e=.returned v'∧Own .u8 5 w' w.heap.size v' xs∧ZX w w':=by
 obtain ⟨ao,cap,rfl,h1,h2,h3⟩:=h
 rcases h3 with rfl | ⟨b,o,rfl,hb,hc⟩
 · exact FQ w ao cap
 exact FR w b o xs.length cap xs rfl hb hc hn
theorem FP {k:IntKind} (hc:∀i,i<xs.length→w.cell? ⟨b,o+i,none⟩=some (.int k (xs.getD i 0))):∀j u,(xs.map (Value.int k))[j]?=some u→w.cell? ((⟨b,o,none⟩:Addr).add j)=some u:=by
 intro j u hu;have hj:j<xs.length:=by have:=(List.getElem?_eq_some_iff.1 hu).1;simpa using this
 rw [GM,hc j hj]
 simp [VM hj] at hu
 simp [List.getD,hj,hu]
theorem Qm (w:World) (v:Value) (xs:List Int) (h:Rd .u8 w v xs) (hn:xs.length≤1099511627776) :
    Calls Tryz.prog 70 #[v] w fun e w'=>∃v',e=.returned v'∧Own .u8 5 w' w.heap.size v' xs∧ZX w w':=by
 obtain ⟨i0,hi,hz0,hz1,hz2⟩:=YH Tryz.Vv;obtain ⟨ao,cap,rfl,h1,h2,h3⟩:=h;have q22:∀(w:World) (a:Option Addr) (n c n' c':Nat),(binOp .eql 22 (.slice a n c) (.slice none n' c')).run Tryz.prog w=.ok (.bool a.isNone) w:=fun w a n c n' c'=>Lib.run_eql_slice_nil w _ _ a n c n' c' Tryz.underlying22
 have HE:Hid ((w.alloc (.cells #[] 5)).ownsRow w.heap.size 5 1 (.slice (some ⟨w.heap.size,0,none⟩) 0 0) 0 []):=Xb w #[] 0 ZW (ZQ _) rfl;have HB:Hid (ZX w (w.alloc (.cells #[] 5))):=ZR.alloc ZW _
 cases ao with
 | none =>
  have hx:xs=[]:=by
   rcases h3 with h3 | ⟨b,o,e,_⟩
   · exact h3
   cases e
  subst hx;clear h3
  go_enter Tryz.func70,Tryz.ntmps70
  go_wp2;go_ret;exact ⟨_,rfl,Yf _ _ _ _,ZR⟩
 | some a =>
  have hcs:∀j u,(xs.map (Value.int .u8))[j]?=some u→(w.alloc (.cells #[] 5)).cell? (a.add j)=some u:=by
   rcases h3 with rfl | ⟨b,o,e,hb,hc⟩
   · intro j u hu;simp at hu
   injection e with e
   subst e;exact FP (fun i hi=>(HB.out.cell (p:=⟨b,o+i,none⟩) hb).trans (hc i hi))
  have qV:=Z8 hcs;clear h3 hcs
  go_enter Tryz.func70,Tryz.ntmps70
  go_wp2_with (at_builtin;go_must (refine XS _ rfl _ _ 22 rfl w.heap.size 5 i0 (.int .u8 0) 1 1 Tryz.underlying22 hi hz0 hz1 hz2 rfl (by decide) _ _ _ rfl HE.out a xs.length cap (xs.map (Value.int .u8)) rfl ?c0 qV.out (Wc _ _) ?c3 ?c4 ?c5 ?_))
  case c0=>simp
  case c3=>unfold maxLen;omega
  case c4=>omega
  case c5=>simp
  intro v2 w2 ho2 hg2 _;have Sv:Hid (Own .u8 5 w2 w.heap.size v2 xs):=by
   exact ho2
  have HG2:=Z8 (HB.out.grown hg2 (by simp) (by intro q hq;simp [Value.ownBlock] at hq;omega));clear ho2 hg2;go_wp2;go_ret;exact ⟨_,rfl,Sv.out,HG2.out⟩
theorem Ds {o:Oper} {a:Act} {K:Act→World→Prop} {Q:Exit→Act→World→Prop} 
    (hg:o.guard=none) (s x:Operand) (t:TypeId) (hop:o.op=Op.call { callee:=Callee.builtin Builtin.append,args:=#[s,x],argTypes:=#[t,t] })
    (base:Nat) (e:TypeId) (i:TypeInfo) (size:Nat) (h1:P.underlying t=some (.slice e)) (h2:P.info? e=some i) (h4:i.size=size)
    (g k cap:Nat) (xs:List Value) (hs:a.eval s=.slice (some ⟨g,0,none⟩) k cap) (hown:w.ownsRow base e size (.slice (some ⟨g,0,none⟩) k cap) k xs) (ad:Addr) (m c:Nat) (news:List Value) (hx:a.eval x=.slice (some ad) m c) (hn:news.length=m*size)
    (hc:∀j u,news[j]?=some u→w.cell? (ad.add j)=some u) (h1c:∀u ∈ news,u.oneCell'=true) (b1:k+m≤cap)
    (hK:∀w',w'.ownsRow base e size (.slice (some ⟨g,0,none⟩) (k+m) cap) (k+m) (xs++news)→w.grownBy w' (some g)→K (a.put o.dst (.slice (some ⟨g,0,none⟩) (k+m) cap)) w') :
    if Region.wanted o (yielded ops a.tmps)=true then Oper.wp P o a w K Q else E:=by
 have hw:Region.wanted o (yielded ops a.tmps)=true:=by simp [Region.wanted,hg]
 rw [ZY hw];obtain ⟨w',hrun,r1,r2⟩:=run_append_fits (P:=P) w base t o.type e i size h1 h2 h4 g k cap xs hown ad m c news hn hc h1c b1;unfold Oper.wp
 simp [execOp,hop,resolve,invoke,builtin,hs,hx,hrun,Result.andThen]
 exact hK w' r1 r2
theorem zQ {o:Oper} {a:Act} {K:Act→World→Prop} {Q:Exit→Act→World→Prop} 
    (hg:o.guard=none) (s x:Operand) (t:TypeId) (hop:o.op=Op.call { callee:=Callee.builtin Builtin.append,args:=#[s,x],argTypes:=#[t,t] })
    (base:Nat) (e:TypeId) (i:TypeInfo) (z:Value) (size bytes:Nat) (h1:P.underlying t=some (.slice e)) (h2:P.info? e=some i) (h3:i.zero=some z) (h4:i.size=size) (h5:i.bytes=bytes) (h6:z.cells.size=size) (h7:0<size)
    (v:Value) (n:Nat) (xs:List Value) (hs:a.eval s=v) (hown:w.ownsRow base e size v n xs) (ad:Addr) (m c:Nat) (news:List Value) (hx:a.eval x=.slice (some ad) m c) (hn:news.length=m*size)
    (hc:∀j u,news[j]?=some u→w.cell? (ad.add j)=some u) (h1c:∀u ∈ news,u.oneCell'=true) (b1:n+m≤maxLen) (b2:(n+m)*bytes≤140737488355328) (hb:base≤w.heap.size)
    (hK:∀v' w',w'.ownsRow base e size v' (n+m) (xs++news)→w.grownBy w' v.ownBlock→K (a.put o.dst v') w') :
    if Region.wanted o (yielded ops a.tmps)=true then Oper.wp P o a w K Q else E:=by
 have hw:Region.wanted o (yielded ops a.tmps)=true:=by simp [Region.wanted,hg]
 rw [ZY hw];obtain ⟨v',w',hrun,r1,r2,_⟩:=run_append_own (P:=P) w base t o.type e i z size bytes h1 h2 h3 h4 h5 h6 h7 v n xs hown ad m c news hn hc h1c b1 b2 hb;unfold Oper.wp
 simp [execOp,hop,resolve,invoke,builtin,hs,hx,hrun,Result.andThen]
 exact hK v' w' r1 r2
theorem Dr (k:Nat) (ps:List (Int × List Int)) (dv:Nat→Value) (v:Value):Yt (k+1) (pB ps) (Zb dv k v)=Yt k (pB ps) dv++[.int .i64 (pB ps k),v]:=by
 rw [SU]
 congr 1
 · exact WS (fun _ _=>rfl) (fun i hi=>by unfold Zb;rw [Z3 (by omega)])
 unfold Zb;rw [ZY rfl]
def Zm (w:World) (b:Nat) (x y:Value):Prop:=YK w b x y∧w.frozen? ⟨b,0,none⟩=false∧w.frozen? ⟨b,1,none⟩=false
theorem Zm.below (h:Zm w b x y) (hb:ZX w w'):Zm w' b x y :=
 ⟨h.1.below hb,(hb.frozen (p:=⟨b,0,none⟩) h.1.1).trans h.2.1,(hb.frozen (p:=⟨b,1,none⟩) h.1.1).trans h.2.2⟩
theorem Zm.new (w:World) (x y:Value) (t:TypeId):Zm (w.alloc (.cells #[x,y] t)) w.heap.size x y:=⟨YK.new _ _ _ _,by simp,by simp⟩
theorem Zm.ZL (h:Zm w b x y) (hb:Below B w w') (hB:b<B):Zm w' b x y :=
 ⟨⟨ZB h.1.1 hb.size,(hb.cell (p:=⟨b,0,none⟩) hB).trans h.1.2.1,(hb.cell (p:=⟨b,1,none⟩) hB).trans h.1.2.2⟩,(hb.frozen (p:=⟨b,0,none⟩) hB).trans h.2.1,(hb.frozen (p:=⟨b,1,none⟩) hB).trans h.2.2⟩
theorem XP.recAt (h:XP w (.slice ao n cap) ps) (hl:ps.length=n) (hk:k<n):∃b o,ao=some ⟨b,o,none⟩∧b<w.heap.size ∧
    w.cell? ⟨b,o+k*2,none⟩=some (.int .i64 (pB ps k))∧∃da c,w.cell? ⟨b,o+k*2+1,none⟩=some (.slice da (pD ps k).length c)∧Rd .u8 w (.slice da (pD ps k).length c) (pD ps k):=by
 obtain ⟨BK,cap',e,h1,h2,h3⟩:=h
 simp only [Zc] at e
 obtain ⟨rfl,_,rfl⟩:=e
 rcases h3 with rfl | ⟨b,o,rfl,hb,hc⟩
 · simp at hl;omega
 obtain ⟨c1,da,c,c2,r⟩:=hc k (by omega);exact ⟨b,o,rfl,hb,c1,da,c,c2,r⟩
def Made (w:World) (lo g k cap:Nat) (ps:List (Int × List Int)) (dv:Nat→Value):Prop :=
 w.ownsRow lo 91 2 (.slice (some ⟨g,0,none⟩) k cap) k (Yt k (pB ps) dv)∧(∀i,i<k→Own .u8 5 w (g+1) (dv i) (pD ps i))∧(∀i j,i<k→j<k→i≠j→PL (dv i) (dv j))
theorem Own.none_or {k:IntKind} (h:Own k e w base v xs) (hB:B<base):v.ownBlock=none∨v.ownBlock≠some B:=by
 cases hv:v.ownBlock with
 | none=>exact .inl rfl
 | some q=>have:=(h.lt q hv).1;exact .inr (by simp;omega)
theorem Made.below {dv:Nat→Value} (h:Made w lo g k cap ps dv) (hb:ZX w w'):Made w' lo g k cap ps dv :=
 ⟨Yy h.1 (row:=none) ⟨hb.os,hb.tape,hb.output,hb.size,fun q hq _=>hb.block q hq⟩ (.inr (by simp [Value.ownBlock])),fun i hi=>(h.2.1 i hi).below hb,h.2.2⟩
theorem Dq {wr w4:World} {dv:Nat→Value} {ob:Obj} (hm:Made wr lo g k cap ps dv) (hgr:g<wr.heap.size) (bw:ZX wr w') (o':Own .u8 5 w' wr.heap.size v (pD ps k))
    (ST:w4.ownsRow lo 91 2 (.slice (some ⟨g,0,none⟩) (k+1) cap) (k+1) (Yt k (pB ps) dv++[.int .i64 (pB ps k),v])) (hg4:(w'.alloc ob).grownBy w4 (some g)):Made w4 lo g (k+1) cap ps (Zb dv k v):=by
 have G:=P4 (Ri w' ob (some g)) hg4;refine ⟨by rw [Dr];exact ST,fun i hi=>?_,fun i j hi hj hne=>?_⟩
 · unfold Zb
   by_cases e:i=k
   · subst e
     rw [ZY rfl];exact (o'.mono (by omega)).other G ((o'.mono (base':=g+1) (by omega)).none_or (by omega))
   rw [Z3 e];have h1:=hm.2.1 i (by omega);exact (h1.below bw).other G (h1.none_or (by omega))
 unfold Zb PL
 by_cases e:i=k
 · by_cases e':j=k
   · omega
   rw [ZY e,Z3 e']
   cases hv:v.ownBlock with
   | none=>exact .inl rfl
   | some q =>
    right;intro hq
    have:=(o'.lt q hv).1;have:=((hm.2.1 j (by omega)).lt q hq.symm).2;omega
 by_cases e':j=k
 · rw [Z3 e,ZY e']
   cases hv:(dv i).ownBlock with
   | none=>exact .inl rfl
   | some q =>
    right;intro hq
    have:=(o'.lt q hq.symm).1;have:=((hm.2.1 i (by omega)).lt q hv).2;omega
 rw [Z3 e,Z3 e'];exact hm.2.2 i j (by omega) (by omega) hne
theorem Zz.mono {hi hi':Nat} {vp:Value} {dv:Nat→Value} (ho:Zz w lo hi vd vp Z7 ps dv) (hl:lo'≤lo) (hh:hi≤hi'):Zz w lo' hi' vd vp Z7 ps dv :=
 ⟨ho.d.mono hl,ho.p.mono hl,fun g hg=>ZB (ho.NY g hg) hh,fun g hg=>ZB (ho.Pm g hg) hh,fun i hi g hg=>ZB (ho.MK i hi g hg) hh,ho.dp,ho.dq⟩
theorem Dp {w6 w7:World} {dv:Nat→Value} (hm:Made w6 lo g k cap ps dv) (hl:ps.length=k) (hb:ZX w6 w7) (hd:Own .u8 5 w7 w6.heap.size vd Z7) (hlo:lo≤g) :
    Zz w7 lo w7.heap.size vd (.slice (some ⟨g,0,none⟩) k cap) Z7 ps dv:=by
 subst hl;have m7:=hm.below hb;have Gd:=(ZO hm.1 g rfl).2;refine ⟨hd.mono (by omega),⟨m7.1,fun i hi=>((m7.2.1 i hi).mono (by omega)).b,m7.2.2,fun i hi=>?_⟩,fun g hg=>(hd.lt g hg).2,fun g' hg=>(ZO m7.1 g' hg).2,fun i hi g hg=>((m7.2.1 i hi).lt g hg).2,?_,fun i hi=>?_⟩
 · exact (hm.2.1 i hi).none_or (B:=g) (by omega)
 · right
   intro e;have:=(hd.lt g e.symm).1;omega
 cases hv:(dv i).ownBlock with
 | none=>exact .inl hv
 | some q =>
  right;intro e
  rw [hv] at e;have:=(hd.lt q e.symm).1;have:=((hm.2.1 i hi).lt q hv).2;omega
theorem Xc (ps:List (Int × List Int)) (p:Int × List Int) (i:Nat) (h:i<ps.length):pB (ps++[p]) i=pB ps i:=by unfold pB;simp [List.getD,Qw h]
theorem NW (ps:List (Int × List Int)) (p:Int × List Int) (i:Nat) (h:i<ps.length):pD (ps++[p]) i=pD ps i:=by unfold pD;simp [List.getD,Qw h]
theorem Xa (ps:List (Int × List Int)) (p:Int × List Int):pB (ps++[p]) ps.length=p.1:=by unfold pB;simp [List.getD]
theorem SR (ps:List (Int × List Int)) (p:Int × List Int):pD (ps++[p]) ps.length=p.2:=by unfold pD;simp [List.getD]
theorem zP (w:World) (lo hi:Nat):Zz w lo hi (.slice none 0 0) (.slice none 0 0) [] [] (fun _=>.slice none 0 0) :=
 ⟨Yf _ _ _ _,⟨Yf _ _ _ _,fun i hi=>by simp at hi,fun i j hi=>by simp at hi,fun i hi=>by simp at hi⟩,fun g hg=>by simp [Value.ownBlock] at hg,fun g hg=>by simp [Value.ownBlock] at hg,fun i hi=>by simp at hi,.inl rfl,fun i hi=>by simp at hi⟩
def Ql (dl:Nat) (ps:List (Int × List Int)) (x:Int) (m:Nat):Bool:=XY dl ps && decide (ps.length<2000) && decide (0≤x∧x<((dl / 64:Nat):Int)) && decide (m=64)
def zO (Z7:List Int) (ps:List (Int × List Int)) (x:Int) (xs:List Int):List Int:=if Ql Z7.length ps x xs.length then Z7 else []
def FN (Z7:List Int) (ps:List (Int × List Int)) (x:Int) (xs:List Int):List (Int × List Int):=if Ql Z7.length ps x xs.length then ps++[(x,xs)] else []
def rdv (Z7:List Int) (ps:List (Int × List Int)) (b:Nat):Nat→List Int
 | 0=>(Z7.drop (b*64)).take 64
 | k+1=>if pB ps k=b then pD ps k else rdv Z7 ps b k
theorem Rd.part {k:IntKind} {blk:Nat} (h:Rd k w (.slice (some ⟨blk,o,none⟩) n cap) xs) (hn:xs.length=n) (i m:Nat) (hm:i+m≤n):Rd k w (.slice (some ⟨blk,o+i,none⟩) m (cap - i)) ((xs.drop i).take m):=by
 obtain ⟨ao,cap',e,h1,h2,h3⟩:=h
 simp only [Zc] at e
 obtain ⟨rfl,hl,rfl⟩:=e;have hlen:((xs.drop i).take m).length=m:=by rw [YC,Zv];omega
 refine ⟨_,cap - i,by rw [hlen],by omega,by omega,?_⟩
 rcases h3 with rfl | ⟨b',o',e,hb,hc⟩
 · left;simp
 injection e with e
 injection e with e1 e2 _
 subst e1;subst e2;refine .inr ⟨blk,o+i,rfl,hb,fun j hj=>?_⟩;rw [hlen] at hj;have:=hc (i+j) (by omega);rw [TI,this]
 simp [List.getD,Pd,hj]
theorem Ks (w:World) (va vb:Option Addr) (dl ca n cb:Nat) (Z7:List Int) (ps:List (Int × List Int)) (b:Nat) (hd:Rd .u8 w (.slice va dl ca) Z7) (hdl:Z7.length=dl) (hp:XP w (.slice vb n cb) ps) (hl:ps.length=n)
    (hv:XY dl ps=true) (hb:b<dl / 64) (hd1:dl≤1048576) (hn:n≤2000) (XV:∀i,(pD ps i).length≤1048576) :
    Calls Tryz.prog 18 #[.agg #[.slice va dl ca,.slice vb n cb],.int .i64 b] w fun e w'=>∃v',e=.returned v'∧Own .u8 5 w' w.heap.size v' (rdv Z7 ps b n)∧ZX w w':=by
 have HD:=Z8 hd;have HP:=Z8 hp;have HL:=Z8 hl;have Uo:=Z8 hdl;have Xd:=Z8 XV;have HV:=Z8 hv;have B0:Hid (ZX w (w.alloc (.cells #[.slice va dl ca,.slice vb n cb] 36))):=ZR.alloc ZW _;have X0:Hid (YK (w.alloc (.cells #[.slice va dl ca,.slice vb n cb] 36)) w.heap.size (.slice va dl ca) (.slice vb n cb)):=YK.new _ _ _ _
 go_enter Tryz.func18,Tryz.ntmps18
 go_wp2_with fail
 generalize w.alloc _=w0 at *;refine (XG _ va vb dl ca n cb ps (HP.out.below B0.out) HL.out hd1 (by omega) Xd.out).mono ?_;rintro e w1 ⟨rfl,b1⟩;rw [HV.out];have B1:=Z8 (Ye B0.out b1);have X1:=Z8 (X0.out.below b1);have t2:¬(b:Int)<0:=by omega
 have rV:decide ((b:Int)<0)=false:=by simp
 obtain ⟨z1,c0,c1⟩:=X1.out
 go_wp2_with fail
 refine (Xm _ va dl ca _ hd1).mono ?_;rintro e w2 ⟨rfl,b2⟩;have B2:=Z8 (Ye B1.out b2);have X2:=Z8 (X1.out.below b2);have t3:¬((dl / 64:Nat):Int)≤(b:Int):=by omega
 have qU:decide (((dl / 64:Nat):Int)≤(b:Int))=false:=by simpa using t3
 have AX:Hid ((b+1)*64≤dl):=by show _≤_;have:=((Yv dl ps).1 HV.out).1;omega
 have hbb:=AX.out;obtain ⟨blk,o,rfl⟩:∃blk o,va=some ⟨blk,o,none⟩:=by
  obtain ⟨ao,c',e,_,_,h3⟩:=HD.out
  simp only [Zc] at e
  rcases h3 with rfl | ⟨b',o',rfl,_⟩
  · have:=Uo.out;simp at this;omega
  exact ⟨b',o',e.1⟩
 have Z2:dl≤ca∧ca≤maxLen:=by
  obtain ⟨ao,c',e,h1,h2⟩:=HD.out.len
  simp only [Zc] at e
  obtain ⟨_,e2,rfl⟩:=e;omega
 obtain ⟨ZA,F⟩:=Z2;unfold maxLen at F;obtain ⟨z1,c0,c1⟩:=X2.out;generalize ((dl / 64:Nat):Int)=q at *
 go_wp2_with fail
 rw [show (b+1)*64 - b*64=64 by omega];refine (Wq _ _ ((Z7.drop (b*64)).take 64) ((HD.out.part Uo.out (b*64) 64 (by omega)).below B2.out) (by rw [YC];omega)).mono ?_;rintro e w3 ⟨v3,rfl,o3,b3⟩;have B3:=Z8 (Ye B2.out b3);have X3:=Z8 (X2.out.below b3);have O3:Hid (Own .u8 5 w3 w.heap.size v3 (rdv Z7 ps b 0)):=o3.mono B2.out.size;have s3:=B3.out.size;obtain ⟨z1,c0,c1⟩:=X3.out;go_wp2
 go_loopw [5,6] (fun v i wr=>∃k:Nat,k≤n∧i=.int .i64 k∧Hid (Own .u8 5 wr w.heap.size v (rdv Z7 ps b k))∧Hid (ZX w3 wr)) (fun _ i _=>n - (intOf i).toNat)
 case atStart=>exact ⟨0,ZQ _,rfl,O3,ZR⟩
 case round =>
  obtain ⟨k,hk,rfl,HO,HG⟩:=hrel;have BW:=Z8 (B3.out.trans (HG.out.mono s3));have sg:=HG.out.size;obtain ⟨z2,c0,c1⟩:=X3.out.below HG.out
  by_cases hlt:k<n
  · obtain ⟨pb,po,rfl,hpb,e1,da,dc,e2,r⟩:=HP.out.recAt HL.out hlt
    have uS:=(BW.out.cell (p:=⟨pb,po+k*2,none⟩) hpb).trans e1;have e2':=(BW.out.cell (p:=⟨pb,po+k*2+1,none⟩) hpb).trans e2;have RK:=Z8 (r.below BW.out);have YN:(k:Int)<(n:Int):=by omega
    have hpk:=Xd.out k
    by_cases heq:pB ps k=(b:Int)
    · have Zx:=Vn.2 heq
      have HE:Hid (rdv Z7 ps b (k+1)=pD ps k):=by show rdv _ _ _ _=_;unfold rdv;rw [ZY heq]
      go_wp2_with fail
      refine (Wq _ _ (pD ps k) RK.out (by omega)).mono ?_;rintro e w4 ⟨v4,rfl,o4,b4⟩;have O4:Hid (Own .u8 5 w4 w.heap.size v4 (rdv Z7 ps b (k+1))):=by show Own _ _ _ _ _ _;rw [HE.out];exact o4.mono (by omega)
      have G4:=Z8 (HG.out.trans (b4.mono sg));go_wp2
      go_roundw
      case rel=>exact ⟨k+1,by omega,by go_num,O4,G4⟩
      case measure=>simp [intOf];omega
    have Zx:=EY heq;have HE:Hid (rdv Z7 ps b (k+1)=rdv Z7 ps b k):=by show rdv _ _ _ _=_;rw [rdv,Z3 heq]
    have O4:Hid (Own .u8 5 wr w.heap.size u5 (rdv Z7 ps b (k+1))):=by show Own _ _ _ _ _ _;rw [HE.out];exact HO.out
    go_wp2
    go_roundw
    case rel=>exact ⟨k+1,by omega,by go_num,O4,HG⟩
    case measure=>simp [intOf];omega
  have hkn:k=n:=by omega
  subst hkn;go_wp2;go_ret;exact ⟨_,rfl,HO.out,BW.out⟩
def FM (dl:Nat) (ps:List (Int × List Int)) (x:Int):Bool:=XY dl ps && decide (0≤x∧x<((dl / 64:Nat):Int))
def qd (Z7:List Int) (ps:List (Int × List Int)) (x:Int):List Int:=if FM Z7.length ps x then rdv Z7 ps x.toNat ps.length else []
theorem NV {w1:World} (b:ZX w w1):Own .u8 5 (w1.alloc (.cells #[] 5)) w.heap.size (.slice (some ⟨w1.heap.size,0,none⟩) 0 0) []:=Xb w1 #[] 0 b.size (ZQ _) rfl
theorem Im (w:World) (va vb:Option Addr) (dl ca n cb:Nat) (ps:List (Int × List Int)) (x:Int) (hp:XP w (.slice vb n cb) ps) (hl:ps.length=n)
    (hno:FM dl ps x=false) (hn:n≤1048576) (hd1:dl≤1048576) (XV:∀i,(pD ps i).length≤1048576) :
    Calls Tryz.prog 18 #[.agg #[.slice va dl ca,.slice vb n cb],.int .i64 x] w fun e w'=>∃v',e=.returned v'∧Own .u8 5 w' w.heap.size v' []∧ZX w w':=by
 have HP:=Z8 hp;have HL:=Z8 hl;have Xd:=Z8 XV;have Su:=Z8 hno;have B0:Hid (ZX w (w.alloc (.cells #[.slice va dl ca,.slice vb n cb] 36))):=ZR.alloc ZW _;have X0:Hid (YK (w.alloc (.cells #[.slice va dl ca,.slice vb n cb] 36)) w.heap.size (.slice va dl ca) (.slice vb n cb)):=YK.new _ _ _ _;clear hp hl XV hno
 go_enter Tryz.func18,Tryz.ntmps18
 go_wp2_with fail
 generalize w.alloc _=w0 at *;refine (XG _ va vb dl ca n cb ps (HP.out.below B0.out) HL.out hd1 hn Xd.out).mono ?_;rintro e w1 ⟨rfl,b1⟩;have B1:=Z8 (Ye B0.out b1);have X1:=Z8 (X0.out.below b1);clear b1 X0 B0;obtain ⟨z1,c0,c1⟩:=X1.out
 by_cases hv:XY dl ps=true
 · rw [hv]
   have HV:=Z8 hv;clear hv
   by_cases t2:x<0
   · have rV:decide (x<0)=true:=by simpa using t2
     go_wp2;go_ret;exact ⟨_,rfl,NV B1.out,B1.out.alloc B1.out.size _⟩
   have rV:decide (x<0)=false:=by simpa using t2
   go_wp2_with fail
   refine (Xm _ va dl ca _ hd1).mono ?_;rintro e w2 ⟨rfl,b2⟩;have B2:=Z8 (Ye B1.out b2);clear b2 X1 B1 z1 c0 c1;have t3:((dl / 64:Nat):Int)≤x:=by
    by_cases h:((dl / 64:Nat):Int)≤x
    · exact h
    have h':FM dl ps x=true:=by
     unfold FM
     simp only [Yg,Zg]
     exact ⟨HV.out,by omega,by omega⟩
    rw [Su.out] at h'
    cases h'
   have qU:decide (((dl / 64:Nat):Int)≤x)=true:=by simpa using t3
   generalize ((dl / 64:Nat):Int)=q at *;go_wp2;go_ret;exact ⟨_,rfl,NV B2.out,B2.out.alloc B2.out.size _⟩
 have hv':XY dl ps=false:=by simpa using hv
 rw [hv'];clear hv hv';go_wp2;go_ret;exact ⟨_,rfl,NV B1.out,B1.out.alloc B1.out.size _⟩
theorem QU (w:World) (v1 v2:Value) (Z7:List Int) (ps:List (Int × List Int)) (x:Int) (hd:Rd .u8 w v1 Z7) (hp:XP w v2 ps) (hdl:Z7.length≤1048576) (hn:ps.length≤1048576) (XV:∀i,(pD ps i).length≤1048576) :
    Calls Tryz.prog 18 #[.agg #[v1,v2],.int .i64 x] w fun e w'=>∃v',e=.returned v'∧Own .u8 5 w' w.heap.size v' (qd Z7 ps x)∧ZX w w':=by
 obtain ⟨va,ca,rfl,-⟩:=hd.len;obtain ⟨vb,cb,rfl,-⟩:=id hp;unfold qd
 cases h:FM Z7.length ps x with
 | true =>
  simp only [Rb]
  have h':=h;unfold FM at h'
  simp only [Yg,Zg] at h'
  obtain ⟨h1,h2,h3⟩:=h';obtain ⟨b,rfl⟩:∃b:Nat,x=b:=⟨x.toNat,by omega⟩;rw [XT];exact Ks w va vb Z7.length ca ps.length cb Z7 ps b hd rfl hp rfl h1 (by omega) hdl (by have:=((Yv _ _).1 h1).2.2.2.1;omega) XV
 | false =>
  simp only [Pe,Sm]
  exact Im w va vb Z7.length ca ps.length cb ps x hp rfl h hn hdl XV
theorem Xg (w:World) (cs:Array Value) (t:TypeId) (n:Nat) (hn:cs.size=n):(w.alloc (.cells cs t)).there w.heap.size 0 n:=by
 intro j hj;subst hn;rw [Wn];have h:=Re (w.alloc (.cells cs t)) w.heap.size j cs t (0,0) (WJ w _);refine ⟨by rw [h];simp [hj],by simp⟩
theorem below_setCells (hB:B≤b):∀(vs:List Value) (o:Nat) (w':World),Below B w w'→Below B w (w'.setCells b o vs)
 | [],_,_,h=>h
 | v :: vs,o,w',h=>below_setCells hB vs (o+1) (w'.setCell ⟨b,o,none⟩ v) (h.setCell hB v)
theorem PK (w:World) (blk o dl ca b:Nat) (Z7:List Int) (hd:Rd .u8 w (.slice (some ⟨blk,o,none⟩) dl ca) Z7) (hdl:Z7.length=dl) (hb:(b+1)*64≤dl) (_hd1:dl≤1048576) :
    Calls Tryz.prog 100 #[.slice (some ⟨blk,o,none⟩) dl ca,.int .i64 b] w (Ze w (.agg (((Z7.drop (b*64)).take 64).map (Value.int .u8)).toArray)):=by
 have HD:=Z8 hd;have Z2:dl≤ca∧ca≤maxLen:=by
  obtain ⟨ao,c',e,h1,h2⟩:=HD.out.len
  simp only [Zc] at e
  obtain ⟨_,e2,rfl⟩:=e;omega
 obtain ⟨ZA,F⟩:=Z2;unfold maxLen at F;have hge:64≤dl - b*64:=by omega
 have hlt:¬dl - b*64<64:=by omega
 have hat:∀W,(Instr.arrayAt 125 (.slice (some ⟨blk,o+b*64,none⟩) (dl - b*64) (ca - b*64))).run Tryz.prog W=.ok (.pointer (some ⟨blk,o+b*64,none⟩)) W:=fun W=>run_arrayAt W 125 _ 64 _ _ _ Tryz.underlying125 hge
 have hsz:(Tryz.prog.info? 125).map (·.size)=some (((Z7.drop (b*64)).take 64).map (Value.int .u8)).length:=by
  rw [Vi,YC,Zv,show min 64 (Z7.length - b*64)=64 by omega]
  kernel_rfl
 have hrg:w.rangeAt blk (o+b*64) (((Z7.drop (b*64)).take 64).map (Value.int .u8)):=by
  obtain ⟨ao,cap',e,h1,h2,h3⟩:=hd
  simp only [Zc] at e
  obtain ⟨rfl,hl,rfl⟩:=e
  rcases h3 with rfl | ⟨b',o',e,hb',hc⟩
  · simp at hdl;omega
  injection e with e
  injection e with e1 e2 _
  subst e1;subst e2;intro j u hu;have hj:j<64:=by have:=(List.getElem?_eq_some_iff.1 hu).1;simp at this;omega
  have:=hc (b*64+j) (by omega);rw [TI,this]
  simp [Pd,hj] at hu
  obtain ⟨y,hy,rfl⟩:=hu
  simp [List.getD,hy]
 have OO:=Z8 hsz;have Y':=Z8 hrg;clear hsz hrg;clear hd
 go_enter Tryz.func100,Tryz.ntmps100
 go_wp2_with (first | (refine Wb rfl 125 _ rfl blk (o+b*64) rfl (((Z7.drop (b*64)).take 64).map (Value.int .u8)) _ (Ma Y'.out _) Tryz.underlying125 rfl OO.out ?_) | (refine A4 rfl 125 _ _ rfl w.heap.size 0 (((Z7.drop (b*64)).take 64).map (Value.int .u8)).toArray rfl rfl ?s1 ?s2 ?s3 ?_))
 case s1=>exact Xg _ _ _ _ (by have h:(((Z7.drop (b*64)).take 64).map (Value.int .u8)).toArray.size=64:=by { rw [WW,Vi,YC,Zv];omega };rw [h];rfl)
 case s2=>rw [WW];exact OO.out
 case s3=>exact Sn (Wc _ _)
 have hlen:(((Z7.drop (b*64)).take 64).map (Value.int .u8)).length=64:=by rw [Vi,YC,Zv];omega
 refine ZT (v:=.agg (((Z7.drop (b*64)).take 64).map (Value.int .u8)).toArray) ?_ rfl ⟨rfl,?_⟩
 · have LV:∀cs:Array Value,cs.size=64→(loadVar 125 ⟨w.heap.size,0,none⟩).run Tryz.prog ((w.alloc (.cells cs 125)).setCells w.heap.size 0 (((Z7.drop (b*64)).take 64).map (Value.int .u8)))=.ok (.agg (((Z7.drop (b*64)).take 64).map (Value.int .u8)).toArray) ((w.alloc (.cells cs 125)).setCells w.heap.size 0 (((Z7.drop (b*64)).take 64).map (Value.int .u8))):=fun cs hcs =>
    run_loadVar_mid (P:=Tryz.prog) _ w.heap.size 0 125 _ _ (Jh _ _ _ _ (Xg _ _ _ _ (by rw [hlen,hcs]))) Tryz.underlying125 rfl OO.out
   simp [results,Tryz.results100,Act.put,asAddr,-List.map_take,-List.map_drop]
   exact LV _ rfl
 exact below_setCells ZW _ _ _ (ZR.alloc ZW _)
theorem Wp {α:Type} (L:List α) (off:Nat) (cs:List α) (h:off+cs.length≤L.length) (j:Nat) :
    (splice L off cs)[j]?=if j<off then L[j]? else if j<off+cs.length then cs[j - off]? else L[j]?:=by
 unfold splice;have hl:(L.take off).length=off:=by rw [YC];omega
 by_cases h1:j<off
 · rw [ZY h1,Qw (by omega),Sx h1]
 rw [Z3 h1,Nb (by omega),hl]
 by_cases h2:j<off+cs.length
 · rw [ZY h2,Qw (by omega)]
 rw [Z3 h2,Nb (by omega),Pd]
 congr 1
 omega
theorem FL {α β:Type} (f:α→β) (L:List α) (off:Nat) (cs:List α):(splice L off cs).map f=splice (L.map f) off (cs.map f):=by
 simp [splice,DP,List.map_drop]
theorem RE {α:Type} (L:List α) (off:Nat):splice L off []=L:=by simp [splice]
theorem Il (L:List Int) (off:Nat) (ys:List Int) (j:Nat) (hj:j<ys.length) (h:off+ys.length≤L.length) :
    (splice L off (ys.take j)).set (off+j) (ys.getD j 0)=splice L off (ys.take (j+1)):=by
 have hl1:(ys.take j).length=j:=by rw [YC];omega
 have hl2:(ys.take (j+1)).length=j+1:=by rw [YC];omega
 apply Lr;intro i;rw [Wp _ _ _ (by omega),Gz,length_splice _ _ _ (by omega),Wp _ _ _ (by omega),hl1,hl2]
 by_cases e:off+j=i
 · subst e
   rw [ZY rfl,ZY (by omega),Z3 (by omega),ZY (by omega),show off+j - off=j by omega,Sx (by omega)]
   simp [List.getD,hj]
 rw [Z3 e]
 by_cases h1:i<off
 · rw [ZY h1,ZY h1]
 rw [Z3 h1,Z3 h1]
 by_cases h2:i<off+j
 · rw [ZY h2,ZY (by omega),Sx (by omega),Sx (by omega)]
 rw [Z3 h2,Z3 (by omega)]
def Nj (Z7:List Int) (ps:List (Int × List Int)) (c:Nat→Nat):Nat→List Int
 | 0=>Z7
 | k+1=>splice (Nj Z7 ps c k) ((pB ps k).toNat*64) ((pD ps k).take (c k))
theorem Kr {dl:Nat} (h:XY dl ps=true) (k:Nat) (hk:k<ps.length):∃b:Nat,pB ps k=b∧b*64+64≤dl∧b≤300∧(pD ps k).length=64:=by
 obtain ⟨h1,h2,h3,h4,h5⟩:=(Yv dl ps).1 h;obtain ⟨k1,k2,k3⟩:=h5 k hk;exact ⟨(pB ps k).toNat,by omega,by omega,by omega,k3⟩
theorem SP (Z7:List Int) (ps:List (Int × List Int)) (c:Nat→Nat) (h:XY Z7.length ps=true):∀k,k≤ps.length→(Nj Z7 ps c k).length=Z7.length
 | 0,_=>rfl
 | k+1,hk=>by
  have ih:=SP Z7 ps c h k (by omega);obtain ⟨b,hb,hb2,_,hd⟩:=Kr h k (by omega);rw [Nj,length_splice,ih];rw [hb,XT,YC,ih,hd];omega
def ZC (Z7:List Int) (ps:List (Int × List Int)):List Int:=if XY Z7.length ps then Nj Z7 ps (fun _=>64) ps.length else []
theorem Er (Z7:List Int) (ps:List (Int × List Int)):(ZC Z7 ps).length≤Z7.length:=by
 unfold ZC;split
 · rename_i h
   rw [SP Z7 ps _ h _ ZW];exact ZW
 simp
theorem Own.spliced {off:Nat} {L:List Int} (hj:j<ys.length) (hf:off+ys.length≤L.length) (hn:L.length=n) {u:Int} (hu:u=ys.getD j 0)
    (h:Own .u8 5 w base (.slice (some ⟨g,0,none⟩) n cap) (splice L off (ys.take j))) :
    Own .u8 5 (w.setCell ⟨g,off+j,none⟩ (.int .u8 u)) base (.slice (some ⟨g,0,none⟩) n cap) (splice L off (ys.take (j+1))):=by
 subst hu;unfold Own at h ⊢;have hl1:(splice L off (ys.take j)).length=n:=by rw [length_splice _ _ _ (by rw [YC];omega),hn]
 have hl2:(splice L off (ys.take (j+1))).length=n:=by rw [length_splice _ _ _ (by rw [YC];omega),hn]
 rw [hl1] at h;rw [hl2];have:=(OV h (off+j) (.int .u8 (ys.getD j 0))).1;rw [←List.map_set,Il L off ys j hj hf] at this;exact this
theorem Own.spot (h:Own .u8 5 w base (.slice (some ⟨g,0,none⟩) n cap) xs) (hn:xs.length=n) (hj:j<n):(∃c,w.cell? ⟨g,j,none⟩=some c)∧w.frozen? ⟨g,j,none⟩=false:=by
 unfold Own at h;rw [hn] at h;exact ⟨⟨_,(U0 h j (by omega)).trans (VM (by simpa [hn] using hj))⟩,Rh h j⟩
theorem Own.pos (h:Own .u8 5 w base v xs) (hn:xs.length=n) (h0:0<n):∃g cap,v=.slice (some ⟨g,0,none⟩) n cap∧base≤g∧g<w.heap.size:=by
 subst hn
 rcases h.2 with ⟨-,h1⟩ | ⟨g,cap,cur,rfl,hb,hg,-⟩
 · omega
 exact ⟨g,cap,rfl,hb,(Array.getElem?_eq_some_iff.1 hg).1⟩
theorem Rd.cellAt {k:IntKind} (h:Rd k w (.slice ao n cap) xs) (hl:xs.length=n) (hi:i<n):∃b o,ao=some ⟨b,o,none⟩∧b<w.heap.size∧w.cell? ⟨b,o+i,none⟩=some (.int k (xs.getD i 0)):=by
 obtain ⟨BK,cap',e,h1,h2,h3⟩:=h
 simp only [Zc] at e
 obtain ⟨rfl,_,rfl⟩:=e
 rcases h3 with rfl | ⟨b,o,rfl,hb,hc⟩
 · simp at hl;omega
 exact ⟨b,o,rfl,hb,hc i (by omega)⟩
theorem MJ {a b:World} (h:a.grownBy b row):a.grownBy b.drew row:=⟨h.os,h.tape,h.output,h.size,h.block⟩
theorem Zm.other (h:Zm w b x y) (hg:w.grownBy w' row) (hne:some b≠row):Zm w' b x y :=
 ⟨h.1.other hg hne,(hg.frozen_far ⟨b,0,none⟩ h.1.1 hne).trans h.2.1,(hg.frozen_far ⟨b,1,none⟩ h.1.1 hne).trans h.2.2⟩
theorem Kq (w:World) (va vb vc:Option Addr) (dl ca n cb cc:Nat) (Z7:List Int) (ps:List (Int × List Int)) (cs:List Int) (c:Nat→Nat) (hd:Rd .u8 w (.slice va dl ca) Z7) (hdl:Z7.length=dl) (hp:XP w (.slice vb n cb) ps) (hl:ps.length=n)
    (hc:Rd .i64 w (.slice vc n cc) cs) (hcl:cs.length=n) (hcs:∀i,i<n→cs.getD i 0=(c i:Int)∧c i≤64) (hv:XY dl ps=true) (hd1:dl≤1048576) :
    Calls Tryz.prog 64 #[.agg #[.slice va dl ca,.slice vb n cb],.slice vc n cc] w fun e w'=>∃v1,e=.returned (.agg #[v1,.slice none 0 0])∧Own .u8 5 w' w.heap.size v1 (Nj Z7 ps c n)∧ZX w w':=by
 have HD:=Z8 hd;have HP:=Z8 hp;have HC:=Z8 hc;have HL:=Z8 hl;have Uo:=Z8 hdl;have Jw:=Z8 hcl;have qV:=Z8 hcs;have HV:=Z8 hv;have hdp:0<dl:=by have:=((Yv dl ps).1 hv).2.1;omega
 have hn2:n≤2000:=by have:=((Yv dl ps).1 hv).2.2.2.1;omega
 have BA:Hid (∀o1 o2,ZX w ((w.alloc o1).alloc o2)):=fun o1 o2=>(ZR.alloc ZW _).alloc (by simp) _
 go_enter Tryz.func64,Tryz.ntmps64
 go_wp2_with fail
 have GI:Hid (Zm ((w.alloc (.cells #[.slice va dl ca,.slice vb n cb] 36)).alloc (.cells #[.slice none 0 0,.slice none 0 0] 36)) w.heap.size (.slice va dl ca) (.slice vb n cb)):=(Zm.new w _ _ _).below (ZR.alloc ZW _);have Ni:Hid (Zm ((w.alloc (.cells #[.slice va dl ca,.slice vb n cb] 36)).alloc (.cells #[.slice none 0 0,.slice none 0 0] 36)) (w.heap.size+1) (.slice none 0 0) (.slice none 0 0)):=by
  have:=Zm.new (w.alloc (.cells #[.slice va dl ca,.slice vb n cb] 36)) (.slice none 0 0) (.slice none 0 0) 36;show Zm _ _ _ _
  simpa using this
 have B0:=BA.out (.cells #[.slice va dl ca,.slice vb n cb] 36) (.cells #[.slice none 0 0,.slice none 0 0] 36);have HB0:=Z8 B0;generalize (w.alloc _).alloc _=w0 at *;refine (Wq _ _ Z7 (HD.out.below HB0.out) (by have:=Uo.out;omega)).mono ?_;rintro e w1 ⟨v1,rfl,o1,b1⟩;obtain ⟨g,cap,rfl,hg0,hg1⟩:=o1.pos Uo.out hdp;have HB1:=Z8 (Ye HB0.out b1);have Ko:=Z8 (GI.out.below b1);have Nh:=Z8 (Ni.out.below b1);have O1:=Z8 o1;have zA:=GI.out.1.1;have zR:=Ni.out.1.1;have s0:=HB0.out.size;have oE:=b1.size;have hcap:dl≤cap∧cap≤maxLen:=by
  obtain ⟨ao,c',e,h1,h2⟩:=o1.rd.len
  simp only [Zc] at e
  obtain ⟨_,e2,rfl⟩:=e;omega
 obtain ⟨hcap1,hcap2⟩:=hcap;unfold maxLen at hcap2;have Z1:Hid (Zm (w1.alloc (.cells #[.slice (some ⟨g,0,none⟩) dl cap,.slice none 0 0] 36)) w1.heap.size (.slice (some ⟨g,0,none⟩) dl cap) (.slice none 0 0)):=Zm.new _ _ _ _;have O2:Hid (Own .u8 5 (w1.alloc (.cells #[.slice (some ⟨g,0,none⟩) dl cap,.slice none 0 0] 36)) w0.heap.size (.slice (some ⟨g,0,none⟩) dl cap) Z7):=O1.out.below (ZR.alloc ZW _);have HW:Hid (ZX w (w1.alloc (.cells #[.slice (some ⟨g,0,none⟩) dl cap,.slice none 0 0] 36))):=HB1.out.alloc HB1.out.size _;have GH:Hid (Zm (w1.alloc (.cells #[.slice (some ⟨g,0,none⟩) dl cap,.slice none 0 0] 36)) w.heap.size (.slice va dl ca) (.slice vb n cb)):=Ko.out.below (ZR.alloc ZW _);have GG:Hid (Zm (w1.alloc (.cells #[.slice (some ⟨g,0,none⟩) dl cap,.slice none 0 0] 36)) (w.heap.size+1) (.slice none 0 0) (.slice none 0 0)):=Nh.out.below (ZR.alloc ZW _)
 go_wp2_with fail
 generalize w1.alloc _=w2 at *;have sW:=HW.out.size;have YZ:=GH.out.1.1;have YX:=GG.out.1.1;have YW:=Z1.out.1.1;have nA:g≠w.heap.size:=by omega
 have nR:g≠w.heap.size+1:=by omega
 have nO:g≠w1.heap.size:=by omega
 have hgz:g<w2.heap.size:=by omega
 go_wp2
 go_loopw [6] (fun i wr=>∃k:Nat,k≤n∧i=.int .i64 k∧Hid (Own .u8 5 wr w0.heap.size (.slice (some ⟨g,0,none⟩) dl cap) (Nj Z7 ps c k))∧Hid (w2.grownBy wr (some g))) (fun i _=>n - (intOf i).toNat)
 case atStart=>exact ⟨0,ZQ _,rfl,O2,YT _ _⟩
 case round =>
  obtain ⟨k,hk,rfl,HO,HG⟩:=hrel;have hlen:(Nj Z7 ps c k).length=dl:=by rw [SP Z7 ps c (by rw [Uo.out];exact HV.out) k (by rw [HL.out];exact hk),Uo.out]
  have HLEN:=Z8 hlen
  by_cases hlt:k<n
  · obtain ⟨pb,po,rfl,hpb,e1,da,dc,e2,r⟩:=HP.out.recAt HL.out hlt
    obtain ⟨b,hb,hb2,hb3,Kn⟩:=Kr HV.out k (by rw [HL.out];exact hlt);rw [hb] at e1;rw [Kn] at e2 r;obtain ⟨qb,qo,rfl,Y9,e3⟩:=HC.out.cellAt Jw.out hlt;obtain ⟨hck,Y1⟩:=qV.out k hlt;rw [hck] at e3;have Zu:Hid (Nj Z7 ps c (k+1)=splice (Nj Z7 ps c k) (b*64) ((pD ps k).take (c k))):=by show Nj _ _ _ _=_;rw [Nj,hb,XT]
    have H:=Z8 Kn;have RK:=Z8 r;have E1:=Z8 e1;have E2:=Z8 e2;have E3:=Z8 e3;have YN:(k:Int)<(n:Int):=by omega
    generalize c k=ck at *;obtain ⟨⟨z3,x0,x1⟩,-⟩:=GH.out.other HG.out (by simp;omega);go_wp2
    go_loopw [7] (fun i wr=>∃j:Nat,j≤ck∧i=.int .i64 j∧Hid (Own .u8 5 wr w0.heap.size (.slice (some ⟨g,0,none⟩) dl cap) (splice (Nj Z7 ps c k) (b*64) ((pD ps k).take j)))∧Hid (w2.grownBy wr (some g))) (fun i _=>ck - (intOf i).toNat)
    case atStart=>exact ⟨0,ZQ _,rfl,(by rw [Rl,RE];exact HO),HG⟩
    case round =>
     obtain ⟨j,hj,rfl,HO,HG⟩:=hrel;have Do:∀p:Addr,p.block<w.heap.size→wr.cell? p=w.cell? p:=fun p hp=>(HG.out.cell_far p (by omega) (by simp;omega)).trans (HW.out.cell hp)
     have f3:=(Do ⟨qb,qo+k,none⟩ Y9).trans E3.out
     by_cases hjt:j<ck
     · obtain ⟨db,Eq,rfl,pt,e4⟩:=RK.out.cellAt H.out (show j<64 by omega)
       have f1:=(Do ⟨pb,po+k*2,none⟩ hpb).trans E1.out;have f2:=(Do ⟨pb,po+k*2+1,none⟩ hpb).trans E2.out;have f4:=(Do ⟨db,Eq+j,none⟩ pt).trans e4;obtain ⟨⟨u,hu⟩,hfz⟩:=HO.out.spot (j:=b*64+j) (by rw [length_splice _ _ _ (by rw [YC,HLEN.out];have:=H.out;omega),HLEN.out]) (by omega);obtain ⟨⟨z3,x0,x1⟩,-⟩:=GH.out.other HG.out (by simp;omega);obtain ⟨⟨z4,y0,y1⟩,-⟩:=Z1.out.other HG.out (by simp;omega);have vv:(j:Int)<(ck:Int):=by omega
       have Y0:(j:Int)<64:=by omega
       have qT:((b*64+j:Nat):Int)<(dl:Int):=by omega
       have LC:Hid ((pD ps k).getD j 0=(pD ps k).getD j 0):=rfl;have O3:Hid (∀x,x=(pD ps k).getD j 0→Own .u8 5 (wr.setCell ⟨g,b*64+j,none⟩ (.int .u8 x)) w0.heap.size (.slice (some ⟨g,0,none⟩) dl cap) (splice (Nj Z7 ps c k) (b*64) ((pD ps k).take (j+1)))):=fun x hx =>
        Own.spliced (by have:=H.out;omega) (by have:=H.out;have:=HLEN.out;omega) HLEN.out hx HO.out
       have O4:=O3.out _ rfl;have H4:=Z8 O4;generalize (pD ps k).getD j 0=x at *
       go_wp2_with fail
       go_region
       all_goals
        go_wp2
        go_roundw
        case rel=>exact ⟨j+1,by omega,by go_num,H4,MJ (grownBy_set _ _ _ _ _ HG.out)⟩
        case measure=>simp [intOf];omega
     have hjc:j=ck:=by omega
     subst hjc;have vv:¬(j:Int)<(j:Int):=by omega
     go_wp2
     go_roundw
     case rel=>exact ⟨k+1,by omega,by go_num,(by show Own _ _ _ _ _ _;rw [Zu.out];exact HO.out),HG⟩
     case measure=>simp [intOf];omega
  have hkn:k=n:=by omega
  subst hkn;obtain ⟨⟨z3,x0,x1⟩,-⟩:=GH.out.other HG.out (by simp;omega);obtain ⟨⟨z4,y0,y1⟩,-⟩:=Z1.out.other HG.out (by simp;omega);obtain ⟨⟨z5,d0,d1⟩,f0,f1⟩:=GG.out.other HG.out (by simp;omega);have HB:Hid (ZX w wr):=⟨HG.out.os.trans HW.out.os,HG.out.tape.trans HW.out.tape,HG.out.output.trans HW.out.output,ZP HW.out.size HG.out.size,fun q hq=>(HG.out.block q (by omega) (by simp;omega)).trans (HW.out.block q hq)⟩;go_wp2;refine ZT (v:=.agg #[.slice (some ⟨g,0,none⟩) dl cap,.slice none 0 0]) (by simp [results,Tryz.results64,go_sem,d0,d1]) rfl ⟨_,rfl,?_,?_⟩
  · refine Own.mono (base:=w0.heap.size) ?_ (by omega)
    repeat (first | exact HO.out | refine Own.setAt ?_ (.inr (by simp [Value.ownBlock];omega)))
  repeat (first | exact HB.out | refine Zf ?_ (by simp;try omega) _)
attribute [local go_sem] Uf
theorem Tryz.uP:(Tryz.prog.info? 110).map (fun i=>(i.zero,i.size,i.bytes))=some (some (.agg #[.slice none 0 0]),1,24):=by kernel_rfl
theorem XX {z:Nat} {xs:List Value} (h:W.ownsRow lo e z v n xs) (hg:W.grownBy W' row) (hr:∀r,row=some r→∃o:Obj,W.heap[r]?=some o∧o.isCells=false):W'.ownsRow lo e z v n xs:=by
 refine ⟨h.1,?_⟩
 rcases h.2 with hn | ⟨g,cap,cur,rfl,hbg,hgg,rest⟩
 · exact .inl hn
 refine .inr ⟨g,cap,cur,rfl,hbg,?_,rest⟩;rw [hg.block g (Array.getElem?_eq_some_iff.1 hgg).1 (fun e=>by obtain ⟨o,ho,hc⟩:=hr g e.symm;rw [hgg] at ho;injection ho with ho;rw [←ho] at hc;cases hc)];exact hgg
theorem UH.mono {rs:List (List Int)} (h:UH w lo v rs us) (hl:lo'≤lo):UH w lo' v rs us:=by
 refine ⟨⟨h.1.1,?_⟩,fun i hi=>(h.2.1 i hi).mono hl,h.2.2⟩
 rcases h.1.2 with hn | ⟨g,cap,cur,rfl,hbg,rest⟩
 · exact .inl hn
 exact .inr ⟨g,cap,cur,rfl,ZP hl hbg,rest⟩
theorem XJ {Y:World} (h:ZX X Y):KeepsFrom B X Y:=⟨h.size,fun k _ _ hk _=>(h.block k (Array.getElem?_eq_some_iff.1 hk).1).trans hk⟩
theorem NU (ho:Own .u8 5 w lo u xs) (hv:w.ownsRow lo' 110 1 v n us):PL u v:=by
 rcases ho.2 with ⟨rfl,-⟩ | ⟨g,cap,cur,rfl,-,hg,-⟩
 · exact .inl rfl
 refine .inr ?_
 rcases hv.2 with ⟨rfl,-⟩ | ⟨g',cap',cur',rfl,-,hg',-⟩
 · simp [Value.ownBlock]
 intro e
 simp only [Value.ownBlock,Xu] at e
 subst e;rw [hg] at hg'
 injection hg' with hg'
 injection hg' with h1 h2
 cases h2
theorem Km:∀(f:Nat) (a:List Int),(Yl f a).length≤f
 | 0,a=>by simp [Yl]
 | f+1,a=>by
  unfold Yl
  split
  · have:=Km f (a.drop (2+YP a));simp;omega
  simp
theorem wC (w:World) (B j:Nat) (u:Value):w.grownBy (w.setCell ⟨B,j,none⟩ u) (some B):=⟨rfl,rfl,rfl,by simp,fun k _ hne=>Mh _ _ _ _ (fun e=>hne (by rw [e]))⟩
theorem zN (h:Vs a=false) (f:Nat):Yl f a=[]:=by
 cases f with
 | zero=>rfl
 | succ f=>unfold Yl;rw [h];simp
theorem Kl (h:Vs a=true) (f:Nat):Yl (f+1) a=(Zw a,2+YP a) :: Yl f (a.drop (2+YP a)):=by
 conv=>lhs;unfold Yl
 rw [h];simp
def Xi (w:World) (f:Nat) (a:List Int) (e:Ending) (w':World):Prop:=∃v us,e=.returned (.agg #[v,.int .i64 ((pos (Yl f a) (Yl f a).length:Nat):Int)])∧UH w' w.heap.size v ((Yl f a).map (·.1)) us∧ZX w w'
theorem Qk:∀(f:Nat) (a:List Int),a.length≤f→(Yl f a).length≤a.length
 | 0,a,_=>by simp [Yl]
 | f+1,a,h=>by
  cases e:Vs a with
  | false=>rw [zN e];simp
  | true =>
   obtain ⟨k1,k2,k3,k4,-⟩:=(Vr a).1 e;have:=Qk f (a.drop (2+YP a)) (by rw [Zv];omega);rw [Zv] at this;rw [Kl e,XQ];omega
theorem VI (hno:Vs a=false) (hb:ZX w w'):Xi w f a (.returned (.agg #[.slice none 0 0,.int .i64 0])) w':=by
 unfold Xi;rw [zN hno f];exact ⟨_,[],rfl,⟨Yf _ _ _ _,fun i hi=>by simp at hi,fun i j hi=>by simp at hi,fun i hi=>by simp at hi⟩,hb⟩
theorem Xi.alloc {e:Ending} (h:Xi w f a e w') (o:Obj):Xi w f a e (w'.alloc o):=by
 obtain ⟨v,us,h1,h2,h3⟩:=h;exact ⟨v,us,h1,h2.below (ZR.alloc ZW _),h3.alloc h3.size _⟩
theorem MI (hv:W.ownsRow lo 110 1 v n us) (hc:W.heap[c]?=some (.cells cs 100 (0,0))):v.ownBlock≠some c:=by
 rcases hv.2 with ⟨rfl,-⟩ | ⟨g',cap',cur',rfl,-,hg',-⟩
 · simp [Value.ownBlock]
 intro e
 simp only [Value.ownBlock,Xu] at e
 subst e;rw [hg'] at hc
 injection hc with hc
 injection hc with h1 h2
 cases h2
theorem UG {s:List Value} :uV (u :: s) (i+1)=uV s i:=rfl
theorem zM {s:List (List Int)} {u:List Int} :pR (u :: s) (i+1)=pR s i:=rfl
theorem QT {m:Nat} {R':List (List Int × Nat)} {U:Value} (hRR:Yl f a=(p,m) :: R') (hr:W.ownsRow (w.heap.size+1) 110 1 v (1+R'.length) ([U]++us))
    (hu:Own .u8 5 W (w.heap.size+1) U p) (h4:∀i,i<R'.length→Own .u8 5 W (w.heap.size+1) (uV us i) (pR (R'.map (·.1)) i)) (hp:∀i j,i<R'.length→j<R'.length→i≠j→PL (uV us i) (uV us j))
    (hd:∀i,i<R'.length→PL U (uV us i)∧PL (uV us i) U) (Y8:U.ownBlock≠some c) (hc4:∀i,i<R'.length→(uV us i).ownBlock≠some c) (hcs:W.heap[c]?=some (.cells cs 100 (0,0))) (hcw:w.heap.size<c) (hb:ZX w W) :
    Xi w f a (.returned (.agg #[v,.int .i64 ((m+pos R' R'.length:Nat):Int)])) ((((W.setCell ⟨c,0,none⟩ x).setCell ⟨c,1,none⟩ y).setCell ⟨w.heap.size,0,none⟩ x).setCell ⟨w.heap.size,1,none⟩ y):=by
 have hcv:=MI hr hcs;refine ⟨v,U :: us,?_,?_,(((hb.setCell (by show _≤c;omega) _).setCell (by show _≤c;omega) _).setCell (by simp) _).setCell (by simp) _⟩
 · rw [hRR,XQ,QX]
 have hX:∀ {u:Value} {xs:List Int},Own .u8 5 W (w.heap.size+1) u xs→u.ownBlock≠some c→Own .u8 5 ((((W.setCell ⟨c,0,none⟩ x).setCell ⟨c,1,none⟩ y).setCell ⟨w.heap.size,0,none⟩ x).setCell ⟨w.heap.size,1,none⟩ y) (w.heap.size+1) u xs:=fun ho hne =>
  (((ho.setAt (.inr hne)).setAt (.inr hne)).ZK (by show w.heap.size<_;omega) _).ZK (by show w.heap.size<_;omega) _
 refine UH.mono (lo:=w.heap.size+1) ?_ (by omega);rw [hRR];refine ⟨?_,fun i hi=>?_,fun i j hi hj hne=>?_,fun i hi=>?_⟩
 · have h1:=Yy (Yy hr (wC W c 0 x) (.inr hcv)) (wC _ c 1 y) (.inr hcv)
   have h2:=LY (LY h1 (a:=⟨w.heap.size,0,none⟩) (by show w.heap.size<_;omega) x) (a:=⟨w.heap.size,1,none⟩) (by show w.heap.size<_;omega) y;rw [show (((p,m) :: R').map (·.1)).length=1+R'.length by simp;omega];exact h2
 · cases i with
   | zero=>exact hX hu Y8
   | succ i =>
    have hi':i<R'.length:=by simpa using hi
    rw [UG,Pc,zM];exact hX (h4 i hi') (hc4 i hi')
 · cases i with
   | zero =>
    cases j with
    | zero=>omega
    | succ j=>rw [UG];exact (hd j (by simpa using hj)).1
   | succ i =>
    cases j with
    | zero=>rw [UG];exact (hd i (by simpa using hi)).2
    | succ j=>rw [UG,UG];exact hp i j (by simpa using hi) (by simpa using hj) (by omega)
 cases i with
 | zero=>exact NU hu hr
 | succ i =>
  have hi':i<R'.length:=by simpa using hi
  rw [UG];exact NU (h4 i hi') hr
theorem Un {V E:Value} (hb:YK W b x y) (hne:b≠c):((((W.setCell ⟨c,0,none⟩ V).setCell ⟨c,1,none⟩ E).setCell ⟨b,0,none⟩ V).setCell ⟨b,1,none⟩ E).cell? ⟨b,0,none⟩=some V∧((((W.setCell ⟨c,0,none⟩ V).setCell ⟨c,1,none⟩ E).setCell ⟨b,0,none⟩ V).setCell ⟨b,1,none⟩ E).cell? ⟨b,1,none⟩=some E:=by
 obtain ⟨z,d0,d1⟩:=hb;have h0:((W.setCell ⟨c,0,none⟩ V).setCell ⟨c,1,none⟩ E).cell? ⟨b,0,none⟩=some x:=by
  rw [ZG _ _ _ _ (by simp;try omega),ZG _ _ _ _ (by simp;try omega)];exact d0
 have h1:((W.setCell ⟨c,0,none⟩ V).setCell ⟨c,1,none⟩ E).cell? ⟨b,1,none⟩=some y:=by
  rw [ZG _ _ _ _ (by simp;try omega),ZG _ _ _ _ (by simp;try omega)];exact d1
 constructor
 · rw [ZG _ _ _ _ (by simp)];exact Ys _ _ _ h0
 exact Ys _ _ _ (by rw [ZG _ _ _ _ (by simp)];exact h1)
theorem VH (hb:b<W.heap.size) (h:W.cell? ⟨b,j,none⟩=some v) (o:Obj):(W.alloc o).cell? ⟨b,j,none⟩=some v:=(((yj _ W).alloc ZW o).cell (p:=⟨b,j,none⟩) hb).trans h
def zL (f:Nat):Prop:=∀(w:World) (ao:Option Addr) (n cap:Nat) (a:List Int),Rd .u8 w (.slice ao n cap) a→a.length=n→YL a→n≤8192→n≤f →
    Calls Tryz.prog 59 #[.slice ao n cap] w (Xi w f a)
theorem MH (f:Nat) (IH:∀f',f'<f→zL f') (w:World) (ao:Option Addr) (n cap:Nat) (a:List Int) (h:Rd .u8 w (.slice ao n cap) a) (hl:a.length=n) (hby:YL a) (hn:n≤8192) (hnf:n≤f) :
    Calls Tryz.prog 59 #[.slice ao n cap] w (Xi w f a):=by
 have Zt:=Z8 IH;have B0:Hid (ZX w (w.alloc (.cells #[.slice none 0 0,.int .i64 0] 100))):=ZR.alloc ZW _;have HL:=Z8 hl;have h0:¬(8192:Int)<(n:Int):=by omega
 have YV:decide ((8192:Int)<(n:Int))=false:=by simpa using h0
 by_cases h2:n<2
 · have tr:(n:Int)<2:=by omega
   have pA:decide ((n:Int)<2)=true:=by simpa using tr
   have HF:Hid (Vs a=false):=WB (fun hk=>by have:=hk.1;have:=HL.out;omega)
   go_enter Tryz.func59,Tryz.ntmps59
   go_wp2;refine ZT (v:=.agg #[.slice none 0 0,.int .i64 0]) (by simp [results,Tryz.results59,go_sem]) rfl (VI (w:=w) (f:=f) HF.out ?_)
   repeat (first | exact B0.out | refine Zf ?_ (by simp;try omega) _)
 have tr:¬(n:Int)<2:=by omega
 have pA:decide ((n:Int)<2)=false:=by simpa using tr
 obtain ⟨blk,o,rfl,hb,hcap,hcm,hc⟩:=h.cut HL.out (by omega);have Zs:=Z8 h;obtain ⟨x0,hx0,hxe0⟩:=Wr hby 0;obtain ⟨x1,hx1,hxe1⟩:=Wr hby 1;have c0:=hc 0 (by omega);have c1:=hc 1 (by omega);rw [hxe0,Mg] at c0;rw [hxe1] at c1;have HC:=Z8 hc;have Xe:=Z8 hby
 have hn0:(0:Int)<(n:Int):=by omega
 have hn1:(1:Int)<(n:Int):=by omega
 have HM:Hid (YP a=x0 % 128*128+x1 % 128):=by show _=_;unfold YP;rw [hxe0,hxe1,XT,XT]
 have HCM:=Z8 hcm;unfold maxLen at hcm
 by_cases q0:(x0:Int)<128
 · have py:decide ((x0:Int)<128)=true:=by simpa using q0
   have HF:=Z8 (WB (fun hk=>by have:=hk.2.1;rw [hxe0] at this;omega))
   go_enter Tryz.func59,Tryz.ntmps59
   go_wp2;refine ZT (v:=.agg #[.slice none 0 0,.int .i64 0]) (by simp [results,Tryz.results59,go_sem]) rfl (VI (w:=w) (f:=f) HF.out ?_)
   repeat (first | exact B0.out | refine Zf ?_ (by simp;try omega) _)
 have py:decide ((x0:Int)<128)=false:=by simpa using q0
 by_cases q1:(x1:Int)<128
 · have px:decide ((x1:Int)<128)=true:=by simpa using q1
   have HF:=Z8 (WB (fun hk=>by have:=hk.2.2.1;rw [hxe1] at this;omega))
   go_enter Tryz.func59,Tryz.ntmps59
   go_wp2;refine ZT (v:=.agg #[.slice none 0 0,.int .i64 0]) (by simp [results,Tryz.results59,go_sem]) rfl (VI (w:=w) (f:=f) HF.out ?_)
   repeat (first | exact B0.out | refine Zf ?_ (by simp;try omega) _)
 have px:decide ((x1:Int)<128)=false:=by simpa using q1
 have WC:Hid (2+YP a≤n→Zw a≠[]→(Zw a).length≤2000→Vs a=true):=fun k1 k2 k3=>(Vr a).2 ⟨by rw [HL.out];omega,by rw [hxe0];omega,by rw [hxe1];omega,by rw [HL.out];exact k1,k2,k3⟩
 obtain ⟨y0,hy0⟩:∃y0:Nat,x0=128+y0:=⟨x0 - 128,by omega⟩;obtain ⟨y1,hy1⟩:∃y1:Nat,x1=128+y1:=⟨x1 - 128,by omega⟩;subst hy0 hy1;have M:Hid (YP a=y0*128+y1):=by rw [HM.out];show _=_;omega
 have hy0':y0<128:=by omega
 have pw:y1<128:=by omega
 have s0:(128:Int)+(y0:Int) - 128=(y0:Int):=by omega
 have s1:(128:Int)+(y1:Int) - 128=(y1:Int):=by omega
 go_enter Tryz.func59,Tryz.ntmps59
 go_wp2_with fail
 go_quiet (fail)
 by_cases hm1:y0*128+y1<1
 · have D:(y0:Int)*128+(y1:Int)<1:=by omega
   have Zr:decide ((y0:Int)*128+(y1:Int)<1)=true:=by simpa using D
   have HF:Hid (Vs a=false):=WB (fun hk=>by
    have h5:=hk.2.2.2.2.1;apply h5;unfold Zw;rw [show YP a=0 by rw [M.out];omega]
    simp [wJ])
   go_wp2;refine ZT (v:=.agg #[.slice none 0 0,.int .i64 0]) (by simp [results,Tryz.results59,go_sem]) rfl (VI (w:=w) (f:=f) HF.out ?_)
   repeat (first | exact B0.out | exact YO B0.out _ | refine Zf ?_ (by simp;try omega) _)
 have D:¬(y0:Int)*128+(y1:Int)<1:=by omega
 have Zr:decide ((y0:Int)*128+(y1:Int)<1)=false:=by simpa using D
 by_cases hs:2+(y0*128+y1)≤n
 · have hsI:¬(n:Int)<2+((y0:Int)*128+(y1:Int)):=by omega
   have hsd:decide ((n:Int)<2+((y0:Int)*128+(y1:Int)))=false:=by simpa using hsI
   have hcp:¬cap=2:=by omega
   have RS:Hid (Rd .u8 w (.slice (some ⟨blk,o+2,none⟩) (y0*128+y1) (cap - 2)) ((a.drop 2).take (YP a))):=by
    rw [M.out];exact Ip hb HC.out HL.out 2 (y0*128+y1) (by omega) hcap HCM.out
   go_wp2_with fail
   refine (Oj _ _ _ (RS.out.below (YO B0.out nq)) (Qn Xe.out 2 (YP a)) (by rw [YC];have:=M.out;omega)).mono ?_;rintro e w2 ⟨u,rfl,o2,b2⟩;have xY:Own .u8 5 w2 _ u (Zw a):=o2;obtain ⟨ua,uc,rfl⟩:=Own.slice xY;have B2:=Z8 ((YO B0.out nq).trans (b2.mono (by show w.heap.size≤(w.alloc _).heap.size;simp)));have O2:=Z8 (Own.mono xY (by show w.heap.size+1≤(w.alloc _).heap.size;simp));have BH:(Zw a).length≤maxLen:=by obtain ⟨_,_,e,h1,h2⟩:=O2.out.rd.len;simp only [Zc] at e;omega
   unfold maxLen at BH;have X2:Hid (Zm w2 w.heap.size (.slice none 0 0) (.int .i64 0)):=by
    have h1:Zm ((w.alloc (.cells #[.slice none 0 0,.int .i64 0] 100)).drewN nq) w.heap.size (.slice none 0 0) (.int .i64 0):=Zm.new w _ _ _;exact h1.below b2
   have HP:Hid (Zw a≠[]↔(Zw a).length≠0):=by show _↔_;cases Zw a <;> simp
   have qZ:Hid (2+YP a≤n):=by rw [M.out];exact hs
   have Su:Hid ((Zw a).length=0∨2000<(Zw a).length→Vs a=false):=fun hh=>WB (fun hk=>by have h5:=HP.out.1 hk.2.2.2.2.1;have h6:=hk.2.2.2.2.2;omega)
   have Ga:Hid ((Zw a).length≠0→(Zw a).length≤2000→Vs a=true):=fun h5 h6=>WC.out qZ.out (HP.out.2 h5) h6
   obtain ⟨⟨z2,d0,d1⟩,f0,f1⟩:=X2.out;generalize hp:Zw a=p at *;have wG:=Z8 hp;have YY:∀(u v:Value) (o:Obj),(((w2.setCell ⟨w.heap.size,0,none⟩ u).setCell ⟨w.heap.size,1,none⟩ v).alloc o).cell? ⟨w.heap.size,0,none⟩=some u∧(((w2.setCell ⟨w.heap.size,0,none⟩ u).setCell ⟨w.heap.size,1,none⟩ v).alloc o).cell? ⟨w.heap.size,1,none⟩=some v:=fun u v o=>by
    have k0:((w2.setCell ⟨w.heap.size,0,none⟩ u).setCell ⟨w.heap.size,1,none⟩ v).cell? ⟨w.heap.size,0,none⟩=some u:=by rw [ZG _ _ _ _ (by simp)];exact Ys _ _ _ d0
    have k1:((w2.setCell ⟨w.heap.size,0,none⟩ u).setCell ⟨w.heap.size,1,none⟩ v).cell? ⟨w.heap.size,1,none⟩=some v:=Ys _ _ _ (by rw [ZG _ _ _ _ (by simp)];exact d1);exact ⟨VH (by simpa using z2) k0 o,VH (by simpa using z2) k1 o⟩
   have Zq:=fun u v o=>(YY u v o).1
   have Zo:=fun u v o=>(YY u v o).2
   by_cases l0:p.length=0
   · have Ab:(p.length:Int)=0:=by omega
     have qY:((p.length:Int) == 0)=true:=by simpa using Ab
     go_wp2;refine ZT (v:=.agg #[.slice none 0 0,.int .i64 0]) (by simp [results,Tryz.results59,go_sem,Zq,Zo]) rfl (VI (w:=w) (f:=f) (Su.out (.inl l0)) ?_)
     repeat (first | exact B2.out | exact B2.out.alloc B2.out.size _ | refine Zf ?_ (by simp;try omega) _ | refine xO ?_ (by simp;try omega) _)
   have Ab:¬(p.length:Int)=0:=by omega
   have qY:((p.length:Int) == 0)=false:=by simpa using Ab
   by_cases l2:2000<p.length
   · have Aa:(2000:Int)<(p.length:Int):=by omega
     have qX:decide ((2000:Int)<(p.length:Int))=true:=by simpa using Aa
     go_wp2;refine ZT (v:=.agg #[.slice none 0 0,.int .i64 0]) (by simp [results,Tryz.results59,go_sem,Zq,Zo]) rfl (VI (w:=w) (f:=f) (Su.out (.inr l2)) ?_)
     repeat (first | exact B2.out | exact B2.out.alloc B2.out.size _ | refine Zf ?_ (by simp;try omega) _ | refine xO ?_ (by simp;try omega) _)
   have Aa:¬(2000:Int)<(p.length:Int):=by omega
   have qX:decide ((2000:Int)<(p.length:Int))=false:=by simpa using Aa
   have Zn:=Z8 (Ga.out l0 (by omega));have Zl:(((w2.alloc (.cells #[.slice ua p.length uc] 110)).alloc (.cells #[.slice ua p.length uc] 110)).alloc (.cells #[.slice (some ⟨w2.heap.size+1,0,none⟩) 1 1,.int .i64 (2+((y0:Int)*128+(y1:Int)))] 100)).heap.size=w2.heap.size+3:=by simp
   have b3:ZX w2 (((w2.alloc (.cells #[.slice ua p.length uc] 110)).alloc (.cells #[.slice ua p.length uc] 110)).alloc (.cells #[.slice (some ⟨w2.heap.size+1,0,none⟩) 1 1,.int .i64 (2+((y0:Int)*128+(y1:Int)))] 100)):=((ZR.alloc ZW _).alloc (by simp) _).alloc (by simp;omega) _;have Zk:Hid (Zm (((w2.alloc (.cells #[.slice ua p.length uc] 110)).alloc (.cells #[.slice ua p.length uc] 110)).alloc (.cells #[.slice (some ⟨w2.heap.size+1,0,none⟩) 1 1,.int .i64 (2+((y0:Int)*128+(y1:Int)))] 100)) (w2.heap.size+2) (.slice (some ⟨w2.heap.size+1,0,none⟩) 1 1) (.int .i64 (2+((y0:Int)*128+(y1:Int))))):=by
    have:=Zm.new ((w2.alloc (.cells #[.slice ua p.length uc] 110)).alloc (.cells #[.slice ua p.length uc] 110)) (.slice (some ⟨w2.heap.size+1,0,none⟩) 1 1) (.int .i64 (2+((y0:Int)*128+(y1:Int)))) 100;rw [XE,XE] at this;exact this
   have Zj:Hid ((((w2.alloc (.cells #[.slice ua p.length uc] 110)).alloc (.cells #[.slice ua p.length uc] 110)).alloc (.cells #[.slice (some ⟨w2.heap.size+1,0,none⟩) 1 1,.int .i64 (2+((y0:Int)*128+(y1:Int)))] 100)).ownsRow (w.heap.size+1) 110 1 (.slice (some ⟨w2.heap.size+1,0,none⟩) 1 1) 1 [.slice ua p.length uc]):=by
    refine Ud (w:=(w2.alloc (.cells #[.slice ua p.length uc] 110)).alloc (.cells #[.slice ua p.length uc] 110)) ⟨rfl,.inr ⟨w2.heap.size+1,1,#[.slice ua p.length uc],rfl,by omega,?_,ZW,by unfold maxLen;omega,rfl,rfl⟩⟩ _;have:=WJ (w2.alloc (.cells #[.slice ua p.length uc] 110)) (.cells #[.slice ua p.length uc] 110);rw [XE] at this;exact this
   have Zi:Hid ((((w2.alloc (.cells #[.slice ua p.length uc] 110)).alloc (.cells #[.slice ua p.length uc] 110)).alloc (.cells #[.slice (some ⟨w2.heap.size+1,0,none⟩) 1 1,.int .i64 (2+((y0:Int)*128+(y1:Int)))] 100)).heap[w2.heap.size+2]?=some (.cells #[.slice (some ⟨w2.heap.size+1,0,none⟩) 1 1,.int .i64 (2+((y0:Int)*128+(y1:Int)))] 100 (0,0))):=by
    have:=WJ ((w2.alloc (.cells #[.slice ua p.length uc] 110)).alloc (.cells #[.slice ua p.length uc] 110)) (.cells #[.slice (some ⟨w2.heap.size+1,0,none⟩) 1 1,.int .i64 (2+((y0:Int)*128+(y1:Int)))] 100);rw [XE,XE] at this;exact this
   have b3':=Z8 b3;have OO:=Z8 Zl;have T:Hid (∀g,Value.ownBlock (.slice ua p.length uc)=some g→g<w2.heap.size):=fun g e=>(O2.out.lt g e).2
   have Y7:=Z8 Zs.out
   by_cases hcz:cap=2+(y0*128+y1)
   · have RS:Hid (Rd .u8 w (.slice (some ⟨blk,o,none⟩) (n - (2+(y0*128+y1))) 0) (a.drop (2+(y0*128+y1)))):=by
      have e1:n - (2+(y0*128+y1))=0:=by omega
      have e2:=Vj (by rw [Zv,HL.out];exact e1);rw [e1,e2];exact NX _ _ _ (ZQ _)
     go_wp2_with fail
     generalize ((w2.alloc _).alloc _).alloc _=w3 at *;have B3:=Z8 (B2.out.trans (b3'.out.mono (by omega)));refine ((Zt.out (f - 1) (by omega)) w3 (some ⟨blk,o,none⟩) (n - (2+(y0*128+y1))) 0 (a.drop (2+(y0*128+y1))) (RS.out.below B3.out) (by rw [Zv,HL.out]) (fun x hx=>Xe.out x (Wf hx)) (by omega) (by omega)).mono ?_;rintro e w4 ⟨v4,Z,rfl,Z0,b4⟩;have HRR:Hid (Yl f a=(p,2+(y0*128+y1)) :: Yl (f - 1) (a.drop (2+(y0*128+y1)))):=by
      have:=Kl Zn.out (f - 1);rw [show f - 1+1=f by omega,wG.out,M.out] at this;exact this
     have hrl:(Yl (f - 1) (a.drop (2+(y0*128+y1)))).length≤8192:=by
      have h5:=VC (f - 1) (a.drop (2+(y0*128+y1))) (by rw [Zv,HL.out];omega);have h6:=Qk (f - 1) (a.drop (2+(y0*128+y1))) (by rw [Zv,HL.out];omega);rw [Zv,HL.out] at h6;omega
     have hpl:pos (Yl (f - 1) (a.drop (2+(y0*128+y1)))) (Yl (f - 1) (a.drop (2+(y0*128+y1)))).length≤8192:=by
      have h5:=(VC (f - 1) (a.drop (2+(y0*128+y1))) (by rw [Zv,HL.out];omega)).2.2 _ ZW;rw [Zv,HL.out] at h5;omega
     generalize Yl (f - 1) (a.drop (2+(y0*128+y1)))=R' at *;have S:=Z8 Z0;have C:=Z8 (Zk.out.below b4);have A:=Z8 (ownsRow_below Zj.out b4);have Z':=Z8 ((O2.out.below b3'.out).below b4);have X4:=Z8 ((X2.out.below b3'.out).below b4);have B4:=Z8 (Ye B3.out b4);have Z9:=Z8 ((b4.block _ (by have:=OO.out;omega)).trans Zi.out);have Y6:=b4.size;have Y5:=OO.out;obtain ⟨⟨zo,g0,g1⟩,h0',h1'⟩:=C.out;obtain ⟨⟨z4,d0,d1⟩,f0,f1⟩:=X4.out;obtain ⟨i0,hi0,hz0,hz1,hz2⟩:=YH Tryz.uP
     rcases S.out.1.2 with ⟨hv4,wx⟩ | ⟨g4,cap4,Zd,hv4,-⟩
     · subst hv4
       have hR0:R'=[]:=Vj (by simpa using wx);have SF:Hid (∀x y,Xi w f a (.returned (.agg #[.slice (some ⟨w2.heap.size+1,0,none⟩) 1 1,.int .i64 ((2+(y0*128+y1)+pos R' R'.length:Nat):Int)])) ((((w4.setCell ⟨w2.heap.size+2,0,none⟩ x).setCell ⟨w2.heap.size+2,1,none⟩ y).setCell ⟨w.heap.size,0,none⟩ x).setCell ⟨w.heap.size,1,none⟩ y)):=fun x y=>by
        subst hR0;refine QT (us:=[]) HRR.out A.out Z'.out (fun i hi=>by simp at hi) (fun i j hi=>by simp at hi) (fun i hi=>by simp at hi) (fun e=>by have:=T.out _ e;omega) (fun i hi=>by simp at hi) Z9.out (by have:=B2.out.size;omega) B4.out
       have zz:=z4;have F4:=fun V E=>Un (V:=V) (E:=E) (c:=w2.heap.size+2) X4.out.1 (by have:=B2.out.size;omega)
       have J:∀V E o,(((((w4.setCell ⟨w2.heap.size+2,0,none⟩ V).setCell ⟨w2.heap.size+2,1,none⟩ E).setCell ⟨w.heap.size,0,none⟩ V).setCell ⟨w.heap.size,1,none⟩ E).alloc o).cell? ⟨w.heap.size,0,none⟩=some V:=fun V E o=>VH (by simpa using zz) (F4 V E).1 o
       have I:∀V E o,(((((w4.setCell ⟨w2.heap.size+2,0,none⟩ V).setCell ⟨w2.heap.size+2,1,none⟩ E).setCell ⟨w.heap.size,0,none⟩ V).setCell ⟨w.heap.size,1,none⟩ E).alloc o).cell? ⟨w.heap.size,1,none⟩=some E:=fun V E o=>VH (by simpa using zz) (F4 V E).2 o
       have O:Hid (((2+(y0*128+y1)+pos R' R'.length:Nat):Int)=2+((y0:Int)*128+(y1:Int))+((pos R' R'.length:Nat):Int)):=by show _=_;omega
       generalize pos R' R'.length=pe at *;go_wp2;refine ZT (v:=.agg #[.slice (some ⟨w2.heap.size+1,0,none⟩) 1 1,.int .i64 (2+((y0:Int)*128+(y1:Int))+(pe:Int))]) (by simp [results,Tryz.results59,go_sem,J,I]) rfl ?_;rw [←O.out];exact (SF.out _ _).alloc _
     subst hv4;have Ik:(R'.map (·.1)).length=R'.length:=by simp
     have Z6:Hid (UH (w4.alloc (.cells #[.slice (some ⟨g4,0,none⟩) R'.length cap4,.int .i64 ((pos R' R'.length:Nat):Int)] 100)) w3.heap.size (.slice (some ⟨g4,0,none⟩) R'.length cap4) (R'.map (·.1)) Z):=by
      have:=S.out.below (ZR.alloc ZW (.cells #[.slice (some ⟨g4,0,none⟩) R'.length cap4,.int .i64 ((pos R' R'.length:Nat):Int)] 100));rw [Ik] at this;exact this
     have ZZ:Hid ((w4.alloc (.cells #[.slice (some ⟨g4,0,none⟩) R'.length cap4,.int .i64 ((pos R' R'.length:Nat):Int)] 100)).ownsRow (w.heap.size+1) 110 1 (.slice (some ⟨w2.heap.size+1,0,none⟩) 1 1) 1 [.slice ua p.length uc]):=Ud A.out _;have ZV:Hid (Own .u8 5 (w4.alloc (.cells #[.slice (some ⟨g4,0,none⟩) R'.length cap4,.int .i64 ((pos R' R'.length:Nat):Int)] 100)) (w.heap.size+1) (.slice ua p.length uc) p):=Ud Z'.out _;have Z5:Z.length=R'.length*1:=by have:=S.out.len;rw [Ik] at this;omega
     have ZS:Hid (∀j u,Z[j]?=some u→(w4.alloc (.cells #[.slice (some ⟨g4,0,none⟩) R'.length cap4,.int .i64 ((pos R' R'.length:Nat):Int)] 100)).cell? ((⟨g4,0,none⟩:Addr).add j)=some u):=fun j u hu=>Va Z6.out.1 (g:=g4) rfl j u hu
     have ZN:Hid (∀u ∈ Z,u.oneCell'=true):=fun u hu=>by
      obtain ⟨j,hj,rfl⟩:=List.mem_iff_getElem.1 hu;have h5:=S.out.2.1 j (by rw [Ik];omega);have h6:Z[j]=uV Z j:=by unfold uV;simp [List.getD,hj]
      rw [h6];obtain ⟨_,_,e⟩:=Own.slice h5;rw [e];rfl
     have tx:=Z8 Z5;have O:Hid (((2+(y0*128+y1)+pos R' R'.length:Nat):Int)=2+((y0:Int)*128+(y1:Int))+((pos R' R'.length:Nat):Int)):=by show _=_;omega
     generalize hpe:pos R' R'.length=pe at *;have Z4:=Z8 hpe
     go_wp2_with (at_builtin;go_must (refine XS _ rfl _ _ 98 rfl (w.heap.size+1) 110 i0 (.agg #[.slice none 0 0]) 1 24 Tryz.underlying98 hi0 hz0 hz1 hz2 rfl (by decide) _ 1 _ rfl ZZ.out ⟨g4,0,none⟩ R'.length cap4 Z rfl tx.out ZS.out ZN.out ?c3 ?c4 ?c5 ?_))
     case c3=>unfold maxLen;omega
     case c4=>omega
     case c5=>have:=B4.out.size;(try simp);omega
     intro v5 w5 GL hg5 _;have N:ZX w4 (w4.alloc (.cells #[.slice (some ⟨g4,0,none⟩) R'.length cap4,.int .i64 (pe:Int)] 100)):=ZR.alloc ZW _;have hsA:(w4.alloc (.cells #[.slice (some ⟨g4,0,none⟩) R'.length cap4,.int .i64 (pe:Int)] 100)).heap.size=w4.heap.size+1:=by simp
     have s20:=B2.out.size;have ZM:=B4.out.size;have ZJ:=ZV.out.other hg5 (.inr (fun e=>by have:=T.out (w2.heap.size+1) (by rw [e];rfl);omega));have zK:∀i,i<R'.length→∀g,(uV Z i).ownBlock=some g→w3.heap.size≤g:=fun i hi g e=>((S.out.2.1 i (by rw [Ik];exact hi)).lt g e).1
     have ZI:∀i,i<R'.length→Own .u8 5 w5 (w.heap.size+1) (uV Z i) (pR (R'.map (·.1)) i):=fun i hi=>Own.mono ((Z6.out.2.1 i (by rw [Ik];exact hi)).other hg5 (.inr (fun e=>by have:=zK i hi (w2.heap.size+1) (by rw [e];rfl);omega))) (by omega)
     have ZH:=(hg5.block _ (by rw [hsA];omega) (by simp [Value.ownBlock])).trans ((N.block _ (by omega)).trans Z9.out);have X6:=Z8 ((X4.out.below N).other hg5 (by simp [Value.ownBlock];omega));have ZF:=Z8 ((C.out.below N).other hg5 (by simp [Value.ownBlock]));have ZD:=Z8 ((Zm.new w4 _ _ _).other hg5 (by simp [Value.ownBlock];omega));have B6:=(B4.out.trans (N.mono ZM)).grown hg5 (by rw [hsA];omega) (fun q e=>by simp only [Value.ownBlock,Xu] at e;omega);obtain ⟨g5,c5,hv5⟩:∃g5 c5,v5=.slice (some ⟨g5,0,none⟩) (1+R'.length) c5:=by
      rcases GL.2 with ⟨-,h⟩ | ⟨g,gc,cur,rfl,-⟩
      · omega
      exact ⟨g,gc,rfl⟩
     subst hv5;have SF:Hid (∀x y,Xi w f a (.returned (.agg #[.slice (some ⟨g5,0,none⟩) (1+R'.length) c5,.int .i64 (2+((y0:Int)*128+(y1:Int))+(pe:Int))])) ((((w5.setCell ⟨w2.heap.size+2,0,none⟩ x).setCell ⟨w2.heap.size+2,1,none⟩ y).setCell ⟨w.heap.size,0,none⟩ x).setCell ⟨w.heap.size,1,none⟩ y)):=fun x y=>by
      have h7:=QT (x:=x) (y:=y) HRR.out GL ZJ ZI (fun i j hi hj hne=>S.out.2.2.1 i j (by rw [Ik];exact hi) (by rw [Ik];exact hj) hne) (fun i hi=>⟨by
       cases q:Value.ownBlock (.slice ua p.length uc) with
       | none=>exact .inl q
       | some g=>exact .inr (fun e3=>by have h1:=T.out g q;have h2:=zK i hi g (by rw [←e3];exact q);omega),by
       cases q:(uV Z i).ownBlock with
       | none=>exact .inl q
       | some g=>exact .inr (fun e3=>by have h1:=zK i hi g q;have h2:=T.out g (by rw [←e3];exact q);omega)⟩) (fun e=>by have:=T.out _ e;omega) (fun i hi e=>by have:=zK i hi _ e;omega) ZH (by omega) B6
      rw [Z4.out,O.out] at h7;exact h7
     have F4:=fun V E=>Un (V:=V) (E:=E) (c:=w2.heap.size+2) X6.out.1 (by omega)
     have J:∀V E,((((w5.setCell ⟨w2.heap.size+2,0,none⟩ V).setCell ⟨w2.heap.size+2,1,none⟩ E).setCell ⟨w.heap.size,0,none⟩ V).setCell ⟨w.heap.size,1,none⟩ E).cell? ⟨w.heap.size,0,none⟩=some V:=fun V E=>(F4 V E).1
     have I:∀V E,((((w5.setCell ⟨w2.heap.size+2,0,none⟩ V).setCell ⟨w2.heap.size+2,1,none⟩ E).setCell ⟨w.heap.size,0,none⟩ V).setCell ⟨w.heap.size,1,none⟩ E).cell? ⟨w.heap.size,1,none⟩=some E:=fun V E=>(F4 V E).2
     obtain ⟨⟨z6,d0,d1⟩,f0,f1⟩:=X6.out;obtain ⟨⟨zo,g0,g1⟩,h0',h1'⟩:=ZF.out;obtain ⟨⟨zt,t0,t1⟩,-⟩:=ZD.out;go_wp2;refine ZT (v:=.agg #[.slice (some ⟨g5,0,none⟩) (1+R'.length) c5,.int .i64 (2+((y0:Int)*128+(y1:Int))+(pe:Int))]) (by simp [results,Tryz.results59,go_sem,J,I]) rfl ?_;exact SF.out _ _
   have RS:Hid (Rd .u8 w (.slice (some ⟨blk,o+(2+(y0*128+y1)),none⟩) (n - (2+(y0*128+y1))) (cap - (2+(y0*128+y1)))) (a.drop (2+(y0*128+y1)))):=Es Y7.out HL.out blk o rfl (2+(y0*128+y1)) hs
   go_wp2_with fail
   generalize ((w2.alloc _).alloc _).alloc _=w3 at *;have B3:=Z8 (B2.out.trans (b3'.out.mono (by omega)));refine ((Zt.out (f - 1) (by omega)) w3 (some ⟨blk,o+(2+(y0*128+y1)),none⟩) (n - (2+(y0*128+y1))) (cap - (2+(y0*128+y1))) (a.drop (2+(y0*128+y1))) (RS.out.below B3.out) (by rw [Zv,HL.out]) (fun x hx=>Xe.out x (Wf hx)) (by omega) (by omega)).mono ?_;rintro e w4 ⟨v4,Z,rfl,Z0,b4⟩;have HRR:Hid (Yl f a=(p,2+(y0*128+y1)) :: Yl (f - 1) (a.drop (2+(y0*128+y1)))):=by
    have:=Kl Zn.out (f - 1);rw [show f - 1+1=f by omega,wG.out,M.out] at this;exact this
   have hrl:(Yl (f - 1) (a.drop (2+(y0*128+y1)))).length≤8192:=by
    have h5:=VC (f - 1) (a.drop (2+(y0*128+y1))) (by rw [Zv,HL.out];omega);have h6:=Qk (f - 1) (a.drop (2+(y0*128+y1))) (by rw [Zv,HL.out];omega);rw [Zv,HL.out] at h6;omega
   have hpl:pos (Yl (f - 1) (a.drop (2+(y0*128+y1)))) (Yl (f - 1) (a.drop (2+(y0*128+y1)))).length≤8192:=by
    have h5:=(VC (f - 1) (a.drop (2+(y0*128+y1))) (by rw [Zv,HL.out];omega)).2.2 _ ZW;rw [Zv,HL.out] at h5;omega
   generalize Yl (f - 1) (a.drop (2+(y0*128+y1)))=R' at *;have S:=Z8 Z0;have C:=Z8 (Zk.out.below b4);have A:=Z8 (ownsRow_below Zj.out b4);have Z':=Z8 ((O2.out.below b3'.out).below b4);have X4:=Z8 ((X2.out.below b3'.out).below b4);have B4:=Z8 (Ye B3.out b4);have Z9:=Z8 ((b4.block _ (by have:=OO.out;omega)).trans Zi.out);have Y6:=b4.size;have Y5:=OO.out;obtain ⟨⟨zo,g0,g1⟩,h0',h1'⟩:=C.out;obtain ⟨⟨z4,d0,d1⟩,f0,f1⟩:=X4.out;obtain ⟨i0,hi0,hz0,hz1,hz2⟩:=YH Tryz.uP
   rcases S.out.1.2 with ⟨hv4,wx⟩ | ⟨g4,cap4,Zd,hv4,-⟩
   · subst hv4
     have hR0:R'=[]:=Vj (by simpa using wx);have SF:Hid (∀x y,Xi w f a (.returned (.agg #[.slice (some ⟨w2.heap.size+1,0,none⟩) 1 1,.int .i64 ((2+(y0*128+y1)+pos R' R'.length:Nat):Int)])) ((((w4.setCell ⟨w2.heap.size+2,0,none⟩ x).setCell ⟨w2.heap.size+2,1,none⟩ y).setCell ⟨w.heap.size,0,none⟩ x).setCell ⟨w.heap.size,1,none⟩ y)):=fun x y=>by
      subst hR0;refine QT (us:=[]) HRR.out A.out Z'.out (fun i hi=>by simp at hi) (fun i j hi=>by simp at hi) (fun i hi=>by simp at hi) (fun e=>by have:=T.out _ e;omega) (fun i hi=>by simp at hi) Z9.out (by have:=B2.out.size;omega) B4.out
     have zz:=z4;have F4:=fun V E=>Un (V:=V) (E:=E) (c:=w2.heap.size+2) X4.out.1 (by have:=B2.out.size;omega)
     have J:∀V E o,(((((w4.setCell ⟨w2.heap.size+2,0,none⟩ V).setCell ⟨w2.heap.size+2,1,none⟩ E).setCell ⟨w.heap.size,0,none⟩ V).setCell ⟨w.heap.size,1,none⟩ E).alloc o).cell? ⟨w.heap.size,0,none⟩=some V:=fun V E o=>VH (by simpa using zz) (F4 V E).1 o
     have I:∀V E o,(((((w4.setCell ⟨w2.heap.size+2,0,none⟩ V).setCell ⟨w2.heap.size+2,1,none⟩ E).setCell ⟨w.heap.size,0,none⟩ V).setCell ⟨w.heap.size,1,none⟩ E).alloc o).cell? ⟨w.heap.size,1,none⟩=some E:=fun V E o=>VH (by simpa using zz) (F4 V E).2 o
     have O:Hid (((2+(y0*128+y1)+pos R' R'.length:Nat):Int)=2+((y0:Int)*128+(y1:Int))+((pos R' R'.length:Nat):Int)):=by show _=_;omega
     generalize pos R' R'.length=pe at *;go_wp2;refine ZT (v:=.agg #[.slice (some ⟨w2.heap.size+1,0,none⟩) 1 1,.int .i64 (2+((y0:Int)*128+(y1:Int))+(pe:Int))]) (by simp [results,Tryz.results59,go_sem,J,I]) rfl ?_;rw [←O.out];exact (SF.out _ _).alloc _
   subst hv4;have Ik:(R'.map (·.1)).length=R'.length:=by simp
   have Z6:Hid (UH (w4.alloc (.cells #[.slice (some ⟨g4,0,none⟩) R'.length cap4,.int .i64 ((pos R' R'.length:Nat):Int)] 100)) w3.heap.size (.slice (some ⟨g4,0,none⟩) R'.length cap4) (R'.map (·.1)) Z):=by
    have:=S.out.below (ZR.alloc ZW (.cells #[.slice (some ⟨g4,0,none⟩) R'.length cap4,.int .i64 ((pos R' R'.length:Nat):Int)] 100));rw [Ik] at this;exact this
   have ZZ:Hid ((w4.alloc (.cells #[.slice (some ⟨g4,0,none⟩) R'.length cap4,.int .i64 ((pos R' R'.length:Nat):Int)] 100)).ownsRow (w.heap.size+1) 110 1 (.slice (some ⟨w2.heap.size+1,0,none⟩) 1 1) 1 [.slice ua p.length uc]):=Ud A.out _;have ZV:Hid (Own .u8 5 (w4.alloc (.cells #[.slice (some ⟨g4,0,none⟩) R'.length cap4,.int .i64 ((pos R' R'.length:Nat):Int)] 100)) (w.heap.size+1) (.slice ua p.length uc) p):=Ud Z'.out _;have Z5:Z.length=R'.length*1:=by have:=S.out.len;rw [Ik] at this;omega
   have ZS:Hid (∀j u,Z[j]?=some u→(w4.alloc (.cells #[.slice (some ⟨g4,0,none⟩) R'.length cap4,.int .i64 ((pos R' R'.length:Nat):Int)] 100)).cell? ((⟨g4,0,none⟩:Addr).add j)=some u):=fun j u hu=>Va Z6.out.1 (g:=g4) rfl j u hu
   have ZN:Hid (∀u ∈ Z,u.oneCell'=true):=fun u hu=>by
    obtain ⟨j,hj,rfl⟩:=List.mem_iff_getElem.1 hu;have h5:=S.out.2.1 j (by rw [Ik];omega);have h6:Z[j]=uV Z j:=by unfold uV;simp [List.getD,hj]
    rw [h6];obtain ⟨_,_,e⟩:=Own.slice h5;rw [e];rfl
   have tx:=Z8 Z5;have O:Hid (((2+(y0*128+y1)+pos R' R'.length:Nat):Int)=2+((y0:Int)*128+(y1:Int))+((pos R' R'.length:Nat):Int)):=by show _=_;omega
   generalize hpe:pos R' R'.length=pe at *;have Z4:=Z8 hpe
   go_wp2_with (at_builtin;go_must (refine XS _ rfl _ _ 98 rfl (w.heap.size+1) 110 i0 (.agg #[.slice none 0 0]) 1 24 Tryz.underlying98 hi0 hz0 hz1 hz2 rfl (by decide) _ 1 _ rfl ZZ.out ⟨g4,0,none⟩ R'.length cap4 Z rfl tx.out ZS.out ZN.out ?c3 ?c4 ?c5 ?_))
   case c3=>unfold maxLen;omega
   case c4=>omega
   case c5=>have:=B4.out.size;(try simp);omega
   intro v5 w5 GL hg5 _;have N:ZX w4 (w4.alloc (.cells #[.slice (some ⟨g4,0,none⟩) R'.length cap4,.int .i64 (pe:Int)] 100)):=ZR.alloc ZW _;have hsA:(w4.alloc (.cells #[.slice (some ⟨g4,0,none⟩) R'.length cap4,.int .i64 (pe:Int)] 100)).heap.size=w4.heap.size+1:=by simp
   have s20:=B2.out.size;have ZM:=B4.out.size;have ZJ:=ZV.out.other hg5 (.inr (fun e=>by have:=T.out (w2.heap.size+1) (by rw [e];rfl);omega));have zK:∀i,i<R'.length→∀g,(uV Z i).ownBlock=some g→w3.heap.size≤g:=fun i hi g e=>((S.out.2.1 i (by rw [Ik];exact hi)).lt g e).1
   have ZI:∀i,i<R'.length→Own .u8 5 w5 (w.heap.size+1) (uV Z i) (pR (R'.map (·.1)) i):=fun i hi=>Own.mono ((Z6.out.2.1 i (by rw [Ik];exact hi)).other hg5 (.inr (fun e=>by have:=zK i hi (w2.heap.size+1) (by rw [e];rfl);omega))) (by omega)
   have ZH:=(hg5.block _ (by rw [hsA];omega) (by simp [Value.ownBlock])).trans ((N.block _ (by omega)).trans Z9.out);have X6:=Z8 ((X4.out.below N).other hg5 (by simp [Value.ownBlock];omega));have ZF:=Z8 ((C.out.below N).other hg5 (by simp [Value.ownBlock]));have ZD:=Z8 ((Zm.new w4 _ _ _).other hg5 (by simp [Value.ownBlock];omega));have B6:=(B4.out.trans (N.mono ZM)).grown hg5 (by rw [hsA];omega) (fun q e=>by simp only [Value.ownBlock,Xu] at e;omega);obtain ⟨g5,c5,hv5⟩:∃g5 c5,v5=.slice (some ⟨g5,0,none⟩) (1+R'.length) c5:=by
    rcases GL.2 with ⟨-,h⟩ | ⟨g,gc,cur,rfl,-⟩
    · omega
    exact ⟨g,gc,rfl⟩
   subst hv5;have SF:Hid (∀x y,Xi w f a (.returned (.agg #[.slice (some ⟨g5,0,none⟩) (1+R'.length) c5,.int .i64 (2+((y0:Int)*128+(y1:Int))+(pe:Int))])) ((((w5.setCell ⟨w2.heap.size+2,0,none⟩ x).setCell ⟨w2.heap.size+2,1,none⟩ y).setCell ⟨w.heap.size,0,none⟩ x).setCell ⟨w.heap.size,1,none⟩ y)):=fun x y=>by
    have h7:=QT (x:=x) (y:=y) HRR.out GL ZJ ZI (fun i j hi hj hne=>S.out.2.2.1 i j (by rw [Ik];exact hi) (by rw [Ik];exact hj) hne) (fun i hi=>⟨by
     cases q:Value.ownBlock (.slice ua p.length uc) with
     | none=>exact .inl q
     | some g=>exact .inr (fun e3=>by have h1:=T.out g q;have h2:=zK i hi g (by rw [←e3];exact q);omega),by
     cases q:(uV Z i).ownBlock with
     | none=>exact .inl q
     | some g=>exact .inr (fun e3=>by have h1:=zK i hi g q;have h2:=T.out g (by rw [←e3];exact q);omega)⟩) (fun e=>by have:=T.out _ e;omega) (fun i hi e=>by have:=zK i hi _ e;omega) ZH (by omega) B6
    rw [Z4.out,O.out] at h7;exact h7
   have F4:=fun V E=>Un (V:=V) (E:=E) (c:=w2.heap.size+2) X6.out.1 (by omega)
   have J:∀V E,((((w5.setCell ⟨w2.heap.size+2,0,none⟩ V).setCell ⟨w2.heap.size+2,1,none⟩ E).setCell ⟨w.heap.size,0,none⟩ V).setCell ⟨w.heap.size,1,none⟩ E).cell? ⟨w.heap.size,0,none⟩=some V:=fun V E=>(F4 V E).1
   have I:∀V E,((((w5.setCell ⟨w2.heap.size+2,0,none⟩ V).setCell ⟨w2.heap.size+2,1,none⟩ E).setCell ⟨w.heap.size,0,none⟩ V).setCell ⟨w.heap.size,1,none⟩ E).cell? ⟨w.heap.size,1,none⟩=some E:=fun V E=>(F4 V E).2
   obtain ⟨⟨z6,d0,d1⟩,f0,f1⟩:=X6.out;obtain ⟨⟨zo,g0,g1⟩,h0',h1'⟩:=ZF.out;obtain ⟨⟨zt,t0,t1⟩,-⟩:=ZD.out;go_wp2;refine ZT (v:=.agg #[.slice (some ⟨g5,0,none⟩) (1+R'.length) c5,.int .i64 (2+((y0:Int)*128+(y1:Int))+(pe:Int))]) (by simp [results,Tryz.results59,go_sem,J,I]) rfl ?_;exact SF.out _ _
 have hsI:(n:Int)<2+((y0:Int)*128+(y1:Int)):=by omega
 have hsd:decide ((n:Int)<2+((y0:Int)*128+(y1:Int)))=true:=by simpa using hsI
 have HF:=Z8 (WB (fun hk=>by have:=hk.2.2.2.1;rw [M.out,HL.out] at this;omega));go_wp2;refine ZT (v:=.agg #[.slice none 0 0,.int .i64 0]) (by simp [results,Tryz.results59,go_sem]) rfl (VI (w:=w) (f:=f) HF.out ?_)
 repeat (first | exact B0.out | exact YO B0.out _ | refine Zf ?_ (by simp;try omega) _)
theorem Kk (f:Nat):zL f:=by
 induction f using Nat.strongRecOn with
 | _ f IH=>exact fun w ao n cap a h hl hby hn hnf=>MH f IH w ao n cap a h hl hby hn hnf
def fr (xs:List Int):List Int :=
 if xs.length=0∨2000<xs.length then [] else [128+((pk xs).length:Int) / 128,128+((pk xs).length:Int) % 128]++pk xs
theorem qS (h:xs.length=0∨2000<xs.length):fr xs=[]:=ZY h
theorem zJ (h0:0<xs.length) (h1:xs.length≤2000):fr xs=[128+((pk xs).length:Int) / 128,128+((pk xs).length:Int) % 128]++pk xs:=Z3 (by omega)
theorem Kj (w:World) (ao:Option Addr) (n cap:Nat) (hn:n≤1099511627776) (h:n=0∨2000<n) :
    Calls Tryz.prog 63 #[.slice ao n cap] w fun e w'=>∃v',e=.returned v'∧Own .u8 5 w' w.heap.size v' []∧ZX w w':=by
 rcases h with rfl | h
 · go_enter Tryz.func63,Tryz.ntmps63
   go_wp2;go_ret;exact ⟨_,rfl,Xb w #[] 0 ZW (ZQ _) rfl,ZR.alloc ZW _⟩
 have h1:((n:Int) == 0)=false:=Xz.2 (by omega);have h2:(2000:Int)<(n:Int):=by omega
 go_enter Tryz.func63,Tryz.ntmps63
 go_wp2;go_ret;exact ⟨_,rfl,Xb w #[] 0 ZW (ZQ _) rfl,ZR.alloc ZW _⟩
theorem Dn {k:IntKind} (h:Own k e w base (.slice (some ⟨g,0,none⟩) n cap) xs):∀j u,(xs.map (Value.int k))[j]?=some u→w.cell? ((⟨g,0,none⟩:Addr).add j)=some u :=
 Va h rfl
theorem MG (w:World) (v:Value) (xs:List Int) (h:Rd .u8 w v xs) (hby:YL xs) (h0:0<xs.length) (h1:xs.length≤2000) :
    Calls Tryz.prog 63 #[v] w fun e w'=>∃v',e=.returned v'∧Own .u8 5 w' w.heap.size v' (fr xs)∧ZX w w':=by
 obtain ⟨i0,hi,hz0,hz1,hz2⟩:=YH Tryz.Vv;rw [zJ h0 h1];have HR:=Z8 h;obtain ⟨ao,cap,rfl,_,_⟩:=h.len;clear h;have t1:((xs.length:Int) == 0)=false:=Xz.2 (by omega);have t2:¬(2000:Int)<(xs.length:Int):=by omega
 go_enter Tryz.func63,Tryz.ntmps63
 go_wp2_with fail
 refine (QY _ _ xs HR.out hby (by omega)).mono ?_;rintro e w1 ⟨v1,rfl,o1,b1⟩;have hpl:=DH xs
 rcases o1.row with ⟨rfl,h3⟩ | ⟨g,cp,rfl,hbg,hmc,hcm⟩
 · have:=Wd List.length h3;rw [hpl] at this;simp at this;omega
 have hm0:(pk xs).length≤2286:=by omega
 have hm1:2≤(pk xs).length:=by omega
 have Y4:=Z8 o1;have HB1:=Z8 b1;have hsz:=b1.size;have hgl:=(o1.lt g rfl).2;generalize hm:(pk xs).length=m at *;have HM:=Z8 hm;clear hm hpl o1 b1 t1 t2 h0 h1;have HW2:Hid ((w1.alloc (.cells #[.int .u8 (128+(m:Int) / 128),.int .u8 (128+(m:Int) % 128)] 5)).ownsRow w1.heap.size 5 1 (.slice (some ⟨w1.heap.size,0,none⟩) 2 2) 2 [.int .u8 (128+(m:Int) / 128),.int .u8 (128+(m:Int) % 128)]) :=
  Xb w1 #[.int .u8 (128+(m:Int) / 128),.int .u8 (128+(m:Int) % 128)] 2 ZW (by unfold maxLen;omega) rfl
 have HB2:Hid (ZX w1 (w1.alloc (.cells #[.int .u8 (128+(m:Int) / 128),.int .u8 (128+(m:Int) % 128)] 5))):=ZR.alloc ZW _;have Za:=Z8 (Y4.out.below HB2.out)
 go_wp2_with (at_builtin;go_must (refine XS _ rfl _ _ 22 rfl w1.heap.size 5 i0 (.int .u8 0) 1 1 Tryz.underlying22 hi hz0 hz1 hz2 rfl (by decide) _ _ _ rfl HW2.out ⟨g,0,none⟩ m cp ((pk xs).map (Value.int .u8)) rfl ?c0 (Dn Za.out) (Wc _ _) ?c3 ?c4 ?c5 ?_))
 case c0=>rw [Vi,HM.out,Jo]
 case c3=>unfold maxLen;omega
 case c4=>omega
 case c5=>simp
 intro v4 w4 ST hg4 _;have Ng:=Z8 (HB2.out.grown hg4 (by simp) (by intro k hk;simp [Value.ownBlock] at hk;omega));clear hg4;have Y3:Hid (Own .u8 5 w4 w1.heap.size v4 ([128+((pk xs).length:Int) / 128,128+((pk xs).length:Int) % 128]++pk xs)):=by
  rw [HM.out];exact WI (q:=2+m) (by rw [YE,HM.out];rfl) rfl (by rw [WX];exact ST)
 clear ST;go_wp2;go_ret;exact ⟨_,rfl,Y3.out.mono hsz,HB1.out.trans (Ng.out.mono hsz)⟩
theorem VB (w:World) (v:Value) (xs:List Int) (h:Rd .u8 w v xs) (hby:YL xs) (hn:xs.length≤1099511627776) :
    Calls Tryz.prog 63 #[v] w fun e w'=>∃v',e=.returned v'∧Own .u8 5 w' w.heap.size v' (fr xs)∧ZX w w':=by
 by_cases hc:xs.length=0∨2000<xs.length
 · rw [qS hc]
   obtain ⟨ao,cap,rfl,_,_⟩:=h.len;exact Kj w ao _ cap hn hc
 exact MG w v xs h hby (by omega) (by omega)
theorem zI {n a y:Nd} {st:List Nd × Bool} (h:y ∈ (Rq n st a).1):y ∈ st.1∨y=n∨y=a:=by
 unfold Rq at h;dsimp only at h;generalize (!st.2 && !(Op.bytesLess a.path.toList n.path.toList))=c1 at h;generalize (a.path.toList == n.path.toList)=c2 at h
 cases c1 <;> cases c2 <;> simp at h <;> grind
theorem ww {n m:Nd} (h:m ∈ vg ns n):m ∈ ns∨m=n:=by
 have key:∀(l:List Nd) (st:List Nd × Bool),(∀x ∈ st.1,x ∈ ns∨x=n)→(∀x ∈ l,x ∈ ns)→∀x ∈ (l.foldl (Rq n) st).1,x ∈ ns∨x=n:=by
  intro l
  induction l with
  | nil=>intro st h1 _ x hx;exact h1 x hx
  | cons a l ih =>
   intro st h1 h2 x hx;refine ih (Rq n st a) ?_ (fun y hy=>h2 y (Jp _ hy)) x hx;intro y hy
   rcases zI hy with h3 | h3 | h3
   · exact h1 y h3
   · exact .inr h3
   exact .inl (h3 ▸ h2 a (uq ..))
 unfold vg MR at h
 split at h
 · exact key ns ([],false) (fun x hx=>by simp at hx) (fun x hx=>hx) m h
 rcases Sw.1 h with h | h
 · exact key ns ([],false) (fun x hx=>by simp at hx) (fun x hx=>hx) m h
 simp at h;exact .inr h
def Good (ns:List Nd):Prop:=∀n ∈ ns,Yz n=true
theorem SO (h:Zp ns=true):Good ns:=by
 unfold Zp XW at h
 simp only [Yg,Pz,RZ] at h
 intro n hn;obtain ⟨i,hi,rfl⟩:=List.mem_iff_getElem.1 hn;have:=h.2 i hi;unfold TD at this
 simp only [Yg] at this
 rw [WO hi] at this;exact this.1
theorem Ep (h:Good ns) (k:Nat) (hk:k<ns.length):Yz (Zy ns k)=true:=by rw [WO hk];exact h _ (Na hk)
theorem QS (h:Good ns) (i:Nat):(Zy ns i).path.size≤1048576∧(Zy ns i).data.size≤1048576:=by
 by_cases hi:i<ns.length
 · have:=Q3 (Ep h i hi)
   exact ⟨by omega,by omega⟩
 unfold Zy;rw [DT,Sy (by omega)];exact ⟨by simp [nd0],by simp [nd0]⟩
theorem Eo (h:XR z es=true):∀e ∈ es,Yz e.nd=true:=by
 unfold XR RM at h
 simp only [Yg,Pz,RZ] at h
 intro e he;obtain ⟨i,hi,rfl⟩:=List.mem_iff_getElem.1 he;have h1:=h.2 i hi;unfold VO UK Zh at h1
 simp only [Yg] at h1
 have h2:=h1.1.1
 simpa [List.getD,hi] using h2
theorem zH (h:XR z es=true) (i:Nat):(Zh es i).nd.path.size≤1048576∧(Zh es i).nd.data.size≤1048576:=by
 by_cases hi:i<es.length
 · have:=Q3 (Eo h _ (Na hi))
   unfold Zh
   simp only [List.getD,VM hi,OY]
   exact ⟨by omega,by omega⟩
 unfold Zh;rw [DT,Sy (by omega)];exact ⟨by decide,by decide⟩
theorem zG (he:∀e ∈ es,Yz e.nd=true):∀ {ns:List Nd},Good ns→Good (KU ns es):=by
 unfold KU
 induction es with
 | nil=>intro ns h;exact h
 | cons e es ih =>
  intro ns h;refine ih (fun x hx=>he x (Jp _ hx)) ?_;intro n hn;unfold tO at hn
  split at hn
  · exact h n (List.mem_filter.1 hn).1
  rcases ww hn with h1 | rfl
  · exact h n h1
  exact he e (uq ..)
theorem SN (h:Good ns) (hx:XR z es=true):Good (ZE ns z es):=by
 unfold ZE
 split
 · exact zG (Eo hx) h
 intro n hn;simp at hn
theorem Vf (h:Wh ys=some (z,es)):XR z es=true:=by
 unfold Wh at h
 split at h
 · cases h
 split at h
 · cases h
 split at h
 · rename_i hh
   simp only [Xu,Mc] at h
   obtain ⟨rfl,rfl⟩:=h;exact hh.2
 cases h
theorem En (h:XR z es=true):1≤z∧z≤2147483647:=by
 unfold XR at h
 simp only [Yg,Zg] at h
 exact ⟨h.1.1.1,h.1.1.2⟩
def TY (start:Int):Nat→List (List Int)→List Nd→Int→Int→List Nd × Int × Nat
 | k,[],ns,zx,_=>(ns,zx,k)
 | k,p :: R,ns,zx,last =>
  match Wh p with
  | none=>(ns,zx,k)
  | some (z,es) =>
   if (if k=0 then decide (start+1<z) else decide (z≠last+1)) then (ns,zx,k)
   else if zx<z then (if 1000<(ZE ns z es).length then (ns,zx,k) else TY start (k+1) R (ZE ns z es) z z)
   else TY start (k+1) R ns zx z
theorem Ij (h:Wh p=none):TY start k (p :: R) ns zx last=(ns,zx,k):=by rw [TY,h]
theorem Em (h:Wh p=some (z,es)) (hb:(if k=0 then decide (start+1<z) else decide (z≠last+1))=true):TY start k (p :: R) ns zx last=(ns,zx,k):=by
 rw [TY,h];simp only;rw [ZY hb]
theorem Ki (h:Wh p=some (z,es)) (hb:(if k=0 then decide (start+1<z) else decide (z≠last+1))=false) (hz:zx<z) (hl:1000<(ZE ns z es).length):TY start k (p :: R) ns zx last=(ns,zx,k):=by
 rw [TY,h];simp only;rw [Z3 (by rw [hb];simp),ZY hz,ZY hl]
theorem Kh (h:Wh p=some (z,es)) (hb:(if k=0 then decide (start+1<z) else decide (z≠last+1))=false) (hz:zx<z) (hl:¬1000<(ZE ns z es).length):TY start k (p :: R) ns zx last=TY start (k+1) R (ZE ns z es) z z:=by
 rw [TY,h];simp only;rw [Z3 (by rw [hb];simp),ZY hz,Z3 hl]
theorem NT (h:Wh p=some (z,es)) (hb:(if k=0 then decide (start+1<z) else decide (z≠last+1))=false) (hz:¬zx<z):TY start k (p :: R) ns zx last=TY start (k+1) R ns zx z:=by
 rw [TY,h];simp only;rw [Z3 (by rw [hb];simp),Z3 hz]
theorem FK (h:Vs a=true):(fr (Zw a)).length=2+YP a:=by
 obtain ⟨h1,h2,h3,h4,h5,h6⟩:=(Vr a).1 h;have hp:=List.length_pos_iff.2 h5;rw [zJ hp h6];have e:pk (Zw a)=(a.drop 2).take (YP a):=by
  unfold Zw xZ at h5 ⊢
  split at h5
  · rename_i hh
    rw [ZY hh];exact hh
  exact absurd rfl h5
 rw [e]
 simp only [YE,XQ,Wv,YC,Zv]
 omega
def UX (W:World) (b:Nat) (x0 x1 x2 x3:Value):Prop:=b<W.heap.size∧(W.cell? ⟨b,0,none⟩=some x0∧W.cell? ⟨b,1,none⟩=some x1∧W.cell? ⟨b,2,none⟩=some x2∧W.cell? ⟨b,3,none⟩=some x3)∧(W.frozen? ⟨b,0,none⟩=false∧W.frozen? ⟨b,1,none⟩=false∧W.frozen? ⟨b,2,none⟩=false∧W.frozen? ⟨b,3,none⟩=false)
theorem UX.ZL (h:UX W b x0 x1 x2 x3) (hb:Below B W W') (hB:b<B):UX W' b x0 x1 x2 x3 :=
 ⟨ZB h.1 hb.size,⟨(hb.cell (p:=⟨b,0,none⟩) hB).trans h.2.1.1,(hb.cell (p:=⟨b,1,none⟩) hB).trans h.2.1.2.1,(hb.cell (p:=⟨b,2,none⟩) hB).trans h.2.1.2.2.1,(hb.cell (p:=⟨b,3,none⟩) hB).trans h.2.1.2.2.2⟩,
  (hb.frozen (p:=⟨b,0,none⟩) hB).trans h.2.2.1,(hb.frozen (p:=⟨b,1,none⟩) hB).trans h.2.2.2.1,(hb.frozen (p:=⟨b,2,none⟩) hB).trans h.2.2.2.2.1,(hb.frozen (p:=⟨b,3,none⟩) hB).trans h.2.2.2.2.2⟩
theorem UX.below (h:UX W b x0 x1 x2 x3) (hb:ZX W W'):UX W' b x0 x1 x2 x3:=h.ZL hb h.1
theorem UX.new (W:World) (x0 x1 x2 x3:Value) (t:TypeId):UX (W.alloc (.cells #[x0,x1,x2,x3] t)) W.heap.size x0 x1 x2 x3:=⟨by simp,⟨by simp,by simp,by simp,by simp⟩,by simp,by simp,by simp,by simp⟩
def RD (w:World) (vt:Value) (W:World):Prop:=ZX w W∧w.heap.size+2≤W.heap.size∧W.cell? ⟨w.heap.size,0,none⟩=some vt∧UX W (w.heap.size+1) (.slice none 0 0) (.int .i64 0) (.int .i64 0) (.int .i64 0)
theorem RD.ZL (h:RD w vt W) (hb:Below B W W') (hB:w.heap.size+2≤B):RD w vt W' :=
 ⟨h.1.trans (hb.mono (by omega)),ZP h.2.1 hb.size,(hb.cell (p:=⟨w.heap.size,0,none⟩) (by show w.heap.size<_;omega)).trans h.2.2.1,h.2.2.2.ZL hb (by omega)⟩
theorem RD.below (h:RD w vt W) (hb:ZX W W'):RD w vt W':=h.ZL hb h.2.1
theorem RD.new (w:World) (vt:Value) (t1 t2:TypeId):RD w vt ((w.alloc (.cells #[vt] t1)).alloc (.cells #[.slice none 0 0,.int .i64 0,.int .i64 0,.int .i64 0] t2)):=by
 refine ⟨(ZR.alloc ZW _).alloc (by simp) _,by simp,?_,?_⟩
 · exact ((ZR.alloc ZW _).cell (p:=⟨w.heap.size,0,none⟩) (show w.heap.size<_ by simp)).trans (by simp)
 have:=UX.new (w.alloc (.cells #[vt] t1)) (.slice none 0 0) (.int .i64 0) (.int .i64 0) (.int .i64 0) t2
 simpa using this
theorem UX.set0 (h:UX W b x0 x1 x2 x3) (u:Value):UX (W.setCell ⟨b,0,none⟩ u) b u x1 x2 x3 :=
 ⟨by simpa using h.1,⟨Ys _ _ _ h.2.1.1,(ZG _ _ _ _ (by simp)).trans h.2.1.2.1,(ZG _ _ _ _ (by simp)).trans h.2.1.2.2.1,(ZG _ _ _ _ (by simp)).trans h.2.1.2.2.2⟩,by simpa using h.2.2.1,by simpa using h.2.2.2.1,by simpa using h.2.2.2.2.1,by simpa using h.2.2.2.2.2⟩
theorem UX.set1 (h:UX W b x0 x1 x2 x3) (u:Value):UX (W.setCell ⟨b,1,none⟩ u) b x0 u x2 x3 :=
 ⟨by simpa using h.1,⟨(ZG _ _ _ _ (by simp)).trans h.2.1.1,Ys _ _ _ h.2.1.2.1,(ZG _ _ _ _ (by simp)).trans h.2.1.2.2.1,(ZG _ _ _ _ (by simp)).trans h.2.1.2.2.2⟩,by simpa using h.2.2.1,by simpa using h.2.2.2.1,by simpa using h.2.2.2.2.1,by simpa using h.2.2.2.2.2⟩
theorem UX.set2 (h:UX W b x0 x1 x2 x3) (u:Value):UX (W.setCell ⟨b,2,none⟩ u) b x0 x1 u x3 :=
 ⟨by simpa using h.1,⟨(ZG _ _ _ _ (by simp)).trans h.2.1.1,(ZG _ _ _ _ (by simp)).trans h.2.1.2.1,Ys _ _ _ h.2.1.2.2.1,(ZG _ _ _ _ (by simp)).trans h.2.1.2.2.2⟩,by simpa using h.2.2.1,by simpa using h.2.2.2.1,by simpa using h.2.2.2.2.1,by simpa using h.2.2.2.2.2⟩
theorem UX.wv (h:UX W b x0 x1 x2 x3) (u:Value):UX (W.setCell ⟨b,3,none⟩ u) b x0 x1 x2 u :=
 ⟨by simpa using h.1,⟨(ZG _ _ _ _ (by simp)).trans h.2.1.1,(ZG _ _ _ _ (by simp)).trans h.2.1.2.1,(ZG _ _ _ _ (by simp)).trans h.2.1.2.2.1,Ys _ _ _ h.2.1.2.2.2⟩,by simpa using h.2.2.1,by simpa using h.2.2.2.1,by simpa using h.2.2.2.2.1,by simpa using h.2.2.2.2.2⟩
def FJ (w:World) (R:List (List Int × Nat)) (res:List Nd × Int × Nat) (e:Ending) (w':World):Prop :=
 ∃v,e=.returned (.agg #[v,.int .i64 res.2.1,.int .i64 (res.2.2:Int),.int .i64 ((pos R res.2.2:Nat):Int)])∧ZU 134 w' w.heap.size v res.1∧ZX w w'
theorem FH (x y:Value) (W:World):(Instr.field 100 (.agg #[x,y]) 0).run Tryz.prog W=.ok x W:=by kernel_rfl
structure Rp (w:World) (vt:Value) (Bo:Nat) (R:List (List Int × Nat)) (start:Int) (res:List Nd × Int × Nat) (k:Nat) (v:Value) (ns:List Nd) (zx last:Int) (W:World):Prop where
 head:RD w vt W
 out:UX W Bo v (.int .i64 zx) (.int .i64 (k:Int)) (.int .i64 ((pos R k:Nat):Int))
 own:ZU 134 W (w.heap.size+2) v ns
 ne:v.ownBlock≠some Bo
 good:Good ns
 len:ns.length≤1000
 wu:-1≤zx∧zx≤2147483647
 NS:0<k→1≤last∧last≤2147483647
 goes:TY start k ((R.drop k).map (·.1)) ns zx last=res
theorem Rp.below {R:List (List Int × Nat)} (h:Rp w vt Bo R start res k v ns zx last W) (hb:ZX W W'):Rp w vt Bo R start res k v ns zx last W' :=
 ⟨h.head.below hb,h.out.below hb,h.own.below hb,h.ne,h.good,h.len,h.wu,h.NS,h.goes⟩
theorem RD.Yu (h:RD w vt W) (hb:w.heap.size+2≤b) (u:Value):RD w vt (W.setCell ⟨b,j,none⟩ u):=h.ZL (B:=b) (by refine Zf ZR ?_ _;exact ZW) hb
theorem Rp.next {R:List (List Int × Nat)} (hb:w.heap.size+2≤Bo) (h1:RD w vt X) (h2:UX X Bo v (.int .i64 zx) (.int .i64 ((k:Int)+1)) (.int .i64 ((pos R k:Nat):Int))) (h3:ZU 134 X (w.heap.size+2) v ns) (h4:v.ownBlock≠some Bo) (h5:Good ns) (Y2:ns.length≤1000) (h6:-1≤zx∧zx≤2147483647) (h7:1≤z∧z≤2147483647) (h8:TY start (k+1) ((R.drop (k+1)).map (·.1)) ns zx z=res) (hw:ZX X w') (u:Value) (hu:u=.int .i64 ((pos R (k+1):Nat):Int)) :
    Rp w vt Bo R start res (k+1) v ns zx z (w'.setCell ⟨Bo,3,none⟩ u) :=
 ⟨(h1.below hw).Yu hb _,by subst hu;have:=(h2.below hw).wv (.int .i64 ((pos R (k+1):Nat):Int));rw [show ((k+1:Nat):Int)=(k:Int)+1 by omega];exact this,(h3.below hw).Yu h4 _,h4,h5,Y2,h6,fun _=>h7,h8⟩
theorem FF (R:List (List Int × Nat)) (k:Nat) (hk:k<R.length):pR (R.map (·.1)) k=(R.getD k ([],0)).1:=by
 unfold pR
 simp [List.getD,hk]
theorem El (hl:a.length=n) (k:Nat) (hk:k<(Yl n a).length):YL (pR ((Yl n a).map (·.1)) k)∧(pR ((Yl n a).map (·.1)) k).length≤2000∧(fr (pR ((Yl n a).map (·.1)) k)).length=((Yl n a).getD k ([],0)).2:=by
 obtain ⟨h1,h2⟩:=(VC n a (by rw [hl];exact ZW)).1 k hk;rw [FF _ _ hk,h2];exact ⟨(by unfold Zw xZ;split;exact FY _;exact fun x hx=>by simp at hx),((Vr _).1 h1).2.2.2.2.2,FK h1⟩
theorem Ii (R:List (List Int × Nat)) (k:Nat) (hk:k<R.length):(R.drop k).map (·.1)=pR (R.map (·.1)) k :: (R.drop (k+1)).map (·.1):=by
 rw [GE hk,Pc,FF _ _ hk]
 simp [List.getD,hk]
end Go.Proofs.YtmmmffcbfepghaaGreatDoor


