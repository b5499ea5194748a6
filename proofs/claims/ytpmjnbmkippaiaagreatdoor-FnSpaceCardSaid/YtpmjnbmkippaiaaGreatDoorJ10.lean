import Derived.Test.YtpmjnbmkippaiaaGreatDoorJ09
import Derived.Test.YtpmjnbmkippaiaaGreatDoorJ02
import Derived.Lib.AppendZeros
set_option maxRecDepth 100000
set_option maxHeartbeats 16000000
set_option linter.all false
namespace Go.Proofs.YtpmjnbmkippaiaaGreatDoor
open Go.RowKit Go.Shelf
variable {a:Act} {ops:Array Oper} {L S l z:Int} {k:IntKind} {ps:List (Int × List Int)} {es:List Ef} {YL xs:List Int} {R ns:List Nd} {rest:List Oper} {B M b c ca cap cb dl g gd j lo n nF s:Nat} {op:Oper} {ao bo:Option Addr} {row:Option Nat} {P:Program} {e t:TypeId} {u v v1 v2 vt vx x0 x1 x2 x3:Value} {A W W' X Y w w':World}
attribute [local go_sem] Yv
theorem Ui {F:Fence} {Q:Exit→Act→World→Prop} (hgd:op.guard=none) (ty:TypeId) (x:Operand) (ho:op.op=.load ty x)
    (b o:Nat) (hx:a.eval x=.pointer (some ⟨b,o,none⟩)) (cs:List Value) (d:TypeDesc) (hc:w.rangeAt b o cs) (hu:P.underlying ty=some d) (hd:d.isRow=true) (hi:(P.info? ty).map (·.size)=some cs.length)
    (h:wpListIn F nF P ops Q rest (a.put op.dst (.agg cs.toArray)) w):wpListIn F nF P ops Q (op :: rest) a w:=by
 refine Sf hgd fun K' hK'=>?_
 have hrun:=run_loadAt_mid (P:=P) w b o ty cs d hc hu hd hi;unfold Oper.wpIn;refine ⟨by simp [Oper.about,ho],?_⟩;rw [Oper.semAt_plain F _ _ (by rw [ho];intro c hc';cases hc')]
 simp only [execOp,ho,hx,XX,hrun,XH]
 exact hK' _ _ h
theorem Oa {F:Fence} {Q:Exit→Act→World→Prop} (hgd:op.guard=none) (ty:TypeId) (x y:Operand) (ho:op.op=.store ty x y)
    (b o:Nat) (cells:Array Value) (hx:a.eval x=.pointer (some ⟨b,o,none⟩)) (hy:a.eval y=.agg cells) (ht:w.there b o cells.size) (hi:(P.info? ty).map (·.size)=some cells.size) (h1:cells.all (·.oneCell')=true)
    (h:wpListIn F nF P ops Q rest (a.put op.dst undef) (w.setCells b o cells.toList)):wpListIn F nF P ops Q (op :: rest) a w:=by
 refine Sf hgd fun K' hK'=>?_
 have hrun:=run_storeAt_mid (P:=P) w b o ty cells ht hi h1;unfold Oper.wpIn;refine ⟨by simp [Oper.about,ho],?_⟩;rw [Oper.semAt_plain F _ _ (by rw [ho];intro c hc';cases hc')]
 simp only [execOp,ho,hx,hy,XX,hrun,XH]
 exact hK' _ _ h
theorem Ng (w:World) (t:TypeId):∀(vs:List Value) (o:Nat) (cs:Array Value),o+vs.length≤cs.size→(w.alloc (.cells cs t)).setCells w.heap.size o vs=w.alloc (.cells (splice cs.toList o vs).toArray t)
 | [],o,cs,_=>by rw [KN];simp [World.setCells]
 | v :: vs,o,cs,h=>by
  rw [World.setCells,World.setCell_alloc_at cs t _ o v rfl,Ng w t vs (o+1) _ (by simp at h ⊢;omega),Array.toList_setIfInBounds,Mb _ _ _ _ (by simpa using h)]
theorem vZ (w:World) (t:TypeId) (vs:List Value) (cs:Array Value) (h:vs.length=cs.size):(w.alloc (.cells cs t)).setCells w.heap.size 0 vs=w.alloc (.cells vs.toArray t):=by
 rw [Ng w t vs 0 cs (by omega),Hz _ _ (by simpa using h)]
theorem Ou {F:Fence} {w0:World} {cs:Array Value} {Q:Exit→Act→World→Prop} (hgd:op.guard=none) (ty:TypeId) (x y:Operand) (ho:op.op=.store ty x y)
    (cells:Array Value) (hx:a.eval x=.pointer (some ⟨w0.heap.size,0,none⟩)) (hy:a.eval y=.agg cells) (hcs:cells.size=cs.size) (hi:(P.info? ty).map (·.size)=some cells.size) (h1:cells.all (·.oneCell')=true)
    (h:wpListIn F nF P ops Q rest (a.put op.dst undef) (w0.alloc (.cells cells t))):wpListIn F nF P ops Q (op :: rest) a (w0.alloc (.cells cs t)):=by
 refine Oa hgd ty x y ho w0.heap.size 0 cells hx hy (Vn _ _ _ _ hcs.symm) hi h1 ?_;rw [vZ w0 t cells.toList cs (by simpa using hcs)]
 simpa using h
theorem vY (rs:List (Int × List Int)) (i:Nat) (hi:i<rs.length) (h:∀i,i<rs.length→(pD rs i).length=64) (j:Nat) (u:Value) (hu:(Value.int .i64 (pB rs i) :: (pD rs i).map (Value.int .u8))[j]?=some u):(Tj rs)[i*65+j]?=some u:=by
 cases j with
 | zero=>rw [Yj,wu rs i hi h];simpa using hu
 | succ j =>
  rw [Xr] at hu;rw [show i*65+(j+1)=i*65+1+j by omega];exact wt rs i hi h j u hu
def KB (M gd:Nat) (W W':World):Prop:=W.heap.size≤W'.heap.size∧∀q,q<M→q≠gd→W'.heap[q]?=W.heap[q]?
theorem KB.refl (M gd:Nat) (W:World):KB M gd W W:=⟨YR,fun _ _ _=>rfl⟩
theorem KB.trans {B C:World} (h:KB M gd A B) (k:KB M gd B C):KB M gd A C:=⟨ZJ h.1 k.1,fun q hq hn=>(k.2 q hq hn).trans (h.2 q hq hn)⟩
theorem KB.alloc {B:World} (h:KB M gd A B) (hM:M≤B.heap.size) (o:Obj):KB M gd A (B.alloc o):=⟨by have:=h.1;simp;omega,fun q hq hn=>(Below.heap_alloc B o q (by omega)).trans (h.2 q hq hn)⟩
abbrev rF (dl:Nat):={ r:Int × List Int // Fits dl r }
def encR {dl:Nat} (x:rF dl):Array Value:=#[.int .i64 x.1.1,.agg (x.1.2.map (Value.int .u8)).toArray]
def Qj {dl:Nat} (rs:List (Int × List Int)) (h:∀r ∈ rs,Fits dl r):List (rF dl):=rs.pmap (fun r hr=>⟨r,hr⟩) h
theorem Jb (rs:List (Int × List Int)) (h:∀r ∈ rs,Fits dl r):(Qj rs h).map (·.1)=rs:=by
 unfold Qj;rw [List.map_pmap]
 simp
theorem all_in (F:Fence) (n:Nat) (h87:F.fn 88) (hro:F.round=none) (p0:Option Addr) (w:World) :
    CallsIn F n Tryz.prog 88 #[.pointer p0] w fun e w'=>e=.returned (.func (.func 137) #[] #[.pointer (some ⟨w.heap.size,0,none⟩)])∧w'=w.alloc (.cells #[.pointer p0] 138):=by
 refine Xb Tryz.func88 rfl h87 ?_ hro
 simp only [Tryz.ntmps88,ZI,ZE,Y7,Nat.reduceAdd,Nat.reduceSub,YV,YU,YI,YT,Zd,Y3]
 gi_wp2;go_ret;exact ⟨rfl,rfl⟩
theorem Qw.len {tb mb:Nat} {rs:List (Int × List Int)} (h:Qw w lo tb mb v rs):rs.length≤9223372036854775807:=by
 rcases h.rows.2 with ⟨-,h1⟩ | ⟨g,cap,cur,-,-,-,h2,h3,-⟩
 · omega
 unfold maxLen at h3;omega
theorem vX (n:Nat) (h:n=65):(Tryz.prog.info? 210).map (·.size)=some n:=by subst h;kernel_rfl
theorem rE (F:Fence) (n:Nat) (h97:F.fn 137) (hro:F.round=none) (hn:1≤n) (l Ba M gd lo tb mb dl:Nat) (v:Value) (rs:List (Int × List Int)) (hf:∀r ∈ rs,Fits dl r) (J Jx:List (rF dl)→World→Prop)
    (hY:∀pre x W,J pre W→pre.length<rs.length→YieldAt F (n - 1) Tryz.prog l (encR x) W fun e W' =>
     (e=.returned (.bool true)∧J (pre++[x]) W'∧KB M gd W W')∨(e=.returned (.bool false)∧Jx (pre++[x]) W'))
    (W:World) (hJ:AbidesFrom W.heap.size J) (hM:M≤W.heap.size) (hvb:∀q,v.ownBlock=some q→q<M∧q≠gd) (hc:W.cell? ⟨Ba,0,none⟩=some (.pointer (some ⟨tb,0,none⟩))) (hT:Qw W lo tb mb v rs) (hlen:rs.length≤9223372036854775807) (h0:J [] W) :
    CallsIn F n Tryz.prog 137 #[.func (.yield l) #[] #[],.pointer (some ⟨Ba,0,none⟩)] W fun e W'=>(∃v,e=.returned v) ∧
     ((∃ys,ys=Qj rs hf∧J ys W')∨(∃pre,True∧Jx pre W')):=by
 obtain ⟨va,PN,rfl⟩:∃a c,v=.slice a rs.length c:=by
  rcases hT.rows.2 with ⟨rfl,h1⟩ | ⟨g,cap,cur,rfl,-⟩
  · exact ⟨none,0,by rw [h1]⟩
  exact ⟨_,_,rfl⟩
 have HT:=ZU hT;obtain ⟨⟨zt,c0,c1⟩,-⟩:=hT.box;have HY:Hid (∀pre x W,J pre W→pre.length<rs.length→YieldAt F (n - 1) Tryz.prog l (encR x) W fun e W' =>
     (e=.returned (.bool true)∧J (pre++[x]) W'∧KB M gd W W')∨(e=.returned (.bool false)∧Jx (pre++[x]) W')):=hY
 have HJ:=ZU hJ;have H0:=ZU h0;clear hT hY hJ h0;refine Xb Tryz.func137 rfl h97 ?_ hro
 simp only [Tryz.ntmps137,ZI,ZE,Y7,Nat.reduceAdd,Nat.reduceSub,YV,YU,YI,YT,Zd,Y3]
 gi_wp2;clear c0 c1 hc
 gi_loopw [10] (fun i wr=>∃k:Nat,k≤rs.length∧i=.int .i64 k∧Hid (J ((Qj rs hf).take k) wr)∧Hid (KB M gd W wr)) (fun i _=>rs.length - (intOf i).toNat)
 case atStart=>exact ⟨0,Zu _,rfl,(by rw [WI];exact H0.out),KB.refl _ _ _⟩
 case round =>
  obtain ⟨k,hk,rfl,Zr,HG⟩:=hrel;have Zp:(Qj rs hf).length=rs.length:=by unfold Qj;simp
  have ZN:=ZU Zp;have sg:=HG.out.1;clear Zp
  by_cases hlt:k<rs.length
  · obtain ⟨g,cap,e,hg1,hg2,hc1,hc2⟩:=HT.out.form (by omega)
    simp only [ZC,Q0] at e
    obtain ⟨rfl,rfl⟩:=e;obtain ⟨XY,hgd⟩:=hvb g rfl;obtain ⟨key,hkey⟩:∃key,key=pB rs k:=⟨_,rfl⟩;obtain ⟨V,hV⟩:∃V,V=(pD rs k).map (Value.int .u8):=⟨_,rfl⟩;obtain ⟨x,hx⟩:∃x,(Qj rs hf)[k]?=some x:=⟨_,ZF (by rw [ZN.out];exact hlt)⟩;have hx1:x.1=(pB rs k,pD rs k):=by
     have h1:((Qj rs hf).map (·.1))[k]?=some x.1:=by rw [Yo,hx];rfl
     rw [Jb,ZF hlt] at h1
     injection h1 with h1
     rw [←h1];unfold pB pD;simp [List.getD,hlt]
    have lQ:Hid ((Qj rs hf).take (k+1)=(Qj rs hf).take k++[x]):=by show _=_;rw [TF,hx];rfl
    have henc:encR x=#[.int .i64 key,.agg V.toArray]:=by unfold encR;rw [hx1,hkey,hV]
    have QH:Hid (V.length=64):=by rw [hV];show _=_;rw [Zl];exact HT.out.full k hlt
    have rI:Hid (∀v ∈ V,v.oneCell'=true):=by rw [hV];exact Yi _ _
    have RW:Hid (wr.rangeAt g (k*65) (Value.int .i64 key :: V)):=by
     intro j u hu;rw [hkey,hV] at hu;have hj:j<65:=by have:=(Zh.1 hu).1;simpa [HT.out.full k hlt] using this
     rw [ZP (w:=W) (a:=⟨g,k*65+j,none⟩) (HG.out.2 g XY hgd),Wv HT.out.rows (k*65+j) (by omega)];exact vY rs k hlt HT.out.full j u hu
    have nP:Hid ((Value.int .i64 key :: V).length=65):=by show _=_;rw [ZE,QH.out]
    have Zo:Hid (∀u ∈ (Value.int .i64 key :: V),u.oneCell'=true):=by
     intro u hu
     rcases Y9.1 hu with rfl | hu
     · rfl
     exact rI.out u hu
    have JA:J ((Qj rs hf).take k) (wr.alloc (.cells (Value.int .i64 key :: V).toArray 210)):=HJ.out _ wr _ none Zr.out (WQ _ _ _) (fun r e=>by cases e);have qw:=HY.out _ x _ JA (by rw [Zw,ZN.out];omega);rw [henc] at qw;have R2:Hid ((wr.alloc (.cells (Value.int .i64 key :: V).toArray 210)).rangeAt wr.heap.size 1 V):=by
     intro j u hu;rw [Yz _ _ (1+j) _ _ _ (Zs wr _)];rw [show 1+j=j+1 by omega]
     simpa using hu
    have Rj:(k:Int)<(rs.length:Int):=by omega
    unfold maxLen at hc2;obtain ⟨fn,tmps,assign,body,hy,hR⟩:=qw;clear hkey hV hx hx1 henc JA
    gi_wp2_with (first | (refine Ui rfl 210 _ rfl g (k*65) rfl (Value.int .i64 key :: V) _ (Wk RW.out _) Tryz.underlying210 rfl (vX _ nP.out) ?_) | (refine Ui rfl 210 _ rfl g (k*65) rfl (Value.int .i64 key :: V) _ RW.out Tryz.underlying210 rfl (vX _ nP.out) ?_) | (refine Ou rfl 210 _ _ rfl (Value.int .i64 key :: V).toArray rfl rfl ?s1 ?s2 ?s3 ?_) | (refine Ui rfl 117 _ rfl wr.heap.size 1 rfl V _ R2.out Tryz.underlying117 rfl (Wh _ QH.out) ?_))
    case s1=>rw [ZI,nP.out];rfl
    case s2=>rw [ZI];exact vX _ nP.out
    case s3=>exact XL Zo.out
    refine hR.mono ?_;rintro e W3 (⟨rfl,hJ3,hk3⟩ | ⟨rfl,hJx3⟩)
    · have XV:Hid (J ((Qj rs hf).take (k+1)) W3):=by show J _ _;rw [lQ.out];exact hJ3
      have oh:=ZU ((HG.out.alloc (by omega) _).trans hk3);clear hJ3 hk3 hy hR;gi_wp2
      go_roundw
      case rel=>exact ⟨k+1,by omega,by go_num,XV,oh⟩
      case measure=>simp [intOf];omega
    gi_wp2;refine ZW (Wu rfl _ _ _) rfl ?_;exact ⟨⟨_,rfl⟩,.inr ⟨_,trivial,hJx3⟩⟩
  have hkn:k=rs.length:=by omega
  subst hkn;gi_wp2
  go_end0
  exact ⟨⟨_,rfl⟩,.inl ⟨_,rfl,by have:=Zr.out;rw [Y8 (by rw [ZN.out];exact YR)] at this;exact this⟩⟩
theorem all_stops (F:Fence) (n:Nat) (h97:F.fn 137) (hro:F.round=none) (hn:1≤n) (Ba M gd lo tb mb dl:Nat) (v:Value) (rs:List (Int × List Int)) (hf:∀r ∈ rs,Fits dl r)
    (w:World) (hM:M≤w.heap.size) (hBa:Ba<w.heap.size) (hvb:∀q,v.ownBlock=some q→q<M∧q≠gd) (hc:w.cell? ⟨Ba,0,none⟩=some (.pointer (some ⟨tb,0,none⟩))) (hT:Qw w lo tb mb v rs) (hlen:rs.length≤9223372036854775807) :
    SeqStopsK F n Tryz.prog 137 #[.pointer (some ⟨Ba,0,none⟩)] (encR (dl:=dl)) (KB M gd) (fun ys=>ys=Qj rs hf) (fun _=>True) rs.length w:=fun l J Jx W hW hJ _ hY h0 =>
 rE F n h97 hro hn l Ba M gd lo tb mb dl v rs hf J Jx hY W hJ (ZJ hM hW.size) hvb ((hW.cell (p:=⟨Ba,0,none⟩) hBa).trans hc) (hT.below hW) hlen h0
attribute [local go_sem] Yv
theorem Hy (w:World) (va vb:Option Addr) (dl ca n cb:Nat) (YL:List Int) (ps:List (Int × List Int)) (hd:Rd .u8 w (.slice va dl ca) YL) (hdl:YL.length=dl) (hp:J8 w (.slice vb n cb) ps) (hl:ps.length=n)
    (hv:QP dl ps=true) (hd1:dl≤1048576) (KE:∀i,(pD ps i).length≤1048576) :
    Calls Tryz.prog 83 #[.agg #[.slice va dl ca,.slice vb n cb]] w fun e w'=>∃v1,e=.returned (.agg #[v1,.slice none 0 0])∧Own .u8 5 w' w.heap.size v1 (tK YL ps (fun _=>64) n)∧Zi w w':=by
 have HD:=ZU hd;have HP:=ZU hp;have HL:=ZU hl;have OM:=ZU hdl;have HV:=ZU hv;have AK:=ZU KE;have hdp:0<dl:=by have:=((Sq dl ps).1 hv).2.1;omega
 have hn2:n≤2000:=by have:=((Sq dl ps).1 hv).2.2.2.1;omega
 have BA:Hid (∀o1 o2,Zi w ((w.alloc o1).alloc o2)):=fun o1 o2=>(Yy.alloc YR _).alloc (by simp) _
 clear hd hp hl hdl hv KE;refine (YK (n:=6)).1 ?_;refine callsIn_of_wp_marks Tryz.func83 rfl trivial ?_ rfl
 simp only [Tryz.ntmps83,ZI,ZE,Y7,Nat.reduceAdd,Nat.reduceSub,YV,YU,YI,YT,Zd,Y3]
 gi_wp2_with fail
 refine ⟨trivial,?_⟩;have Zm:Hid (SQ ((w.alloc (.cells #[.slice va dl ca,.slice vb n cb] 52)).alloc (.cells #[.slice none 0 0,.slice none 0 0] 52)) w.heap.size (.slice va dl ca) (.slice vb n cb)):=(SQ.new w _ _ _).below (Yy.alloc YR _);have G:Hid (SQ ((w.alloc (.cells #[.slice va dl ca,.slice vb n cb] 52)).alloc (.cells #[.slice none 0 0,.slice none 0 0] 52)) (w.heap.size+1) (.slice none 0 0) (.slice none 0 0)):=by
  have:=SQ.new (w.alloc (.cells #[.slice va dl ca,.slice vb n cb] 52)) (.slice none 0 0) (.slice none 0 0) 52;show SQ _ _ _ _
  simpa using this
 have B0:=BA.out (.cells #[.slice va dl ca,.slice vb n cb] 52) (.cells #[.slice none 0 0,.slice none 0 0] 52);have HB0:=ZU B0;clear B0 BA;generalize (w.alloc _).alloc _=w0 at *;refine (YK.2 (Qx _ va vb dl ca n cb ps (HP.out.below HB0.out) HL.out hd1 (by omega) AK.out)).mono ?_;rintro e w1 ⟨rfl,b1⟩;rw [HV.out];have HB1:=ZU (WD HB0.out b1);have Z7:=ZU (Zm.out.below b1);have E:=ZU (G.out.below b1);have s1:=HB1.out.size;have XG:=Z7.out.1.1;have XF:=E.out.1.1;clear b1 Zm G HB0;obtain ⟨⟨z1,c0,c1⟩,-⟩:=Z7.out
 gi_wp2_with fail
 refine ⟨trivial,?_⟩;refine (YK.2 (Je _ _ YL (HD.out.below HB1.out) (by have:=OM.out;omega))).mono ?_;rintro e w2 ⟨v2,rfl,o2,b2⟩;obtain ⟨g,cap,rfl,hg0,hg1⟩:=o2.pos OM.out hdp;have O2:=ZU o2;have HB2:=ZU (HB1.out.trans (b2.mono s1));have Zg:=ZU (Z7.out.below b2);have Zb:=ZU (E.out.below b2);have s2:=HB2.out.size;clear o2 b2 Z7 E HB1 z1 c0 c1;obtain ⟨⟨z1,c0,c1⟩,-⟩:=Zg.out
 gi_wp2_with fail
 refine ⟨trivial,?_⟩;have Z6:Hid (Zi w2 (w2.alloc (.cells #[.slice (some ⟨g,0,none⟩) dl cap] 22))):=Yy.alloc YR _;have Y':Hid (Boxed (w2.alloc (.cells #[.slice (some ⟨g,0,none⟩) dl cap] 22)) w2.heap.size 22 (.slice (some ⟨g,0,none⟩) dl cap)):=Boxed.new _ _ _;have s3:(w2.alloc (.cells #[.slice (some ⟨g,0,none⟩) dl cap] 22)).heap.size=w2.heap.size+1:=by simp
 clear z1 c0 c1;generalize w2.alloc _=w3 at *;have O3:=ZU (O2.out.below Z6.out);have HB3:=ZU (HB2.out.trans (Z6.out.mono s2));have Y5:=ZU (Zb.out.below Z6.out);clear O2 HB2 Zg Zb Z6;refine (YK.2 (Ia w3 va vb dl ca n cb YL ps OM.out (HP.out.below HB3.out) HL.out HV.out)).mono ?_;rintro e w4 ⟨rfl,⟨tv,rs,ht,hof⟩,b4⟩;have O4:=ZU (O3.out.below b4);have nO:=ZU (HB3.out.trans (b4.mono (by omega)));have Y4:=ZU (Y5.out.below b4);have Y2:Hid (Boxed w4 w2.heap.size 22 (.slice (some ⟨g,0,none⟩) dl cap)):=(b4.block w2.heap.size (by omega)).trans Y'.out;have Y1:=ZU ht;have yJ:=ZU hof;have s4:=ht.box.1.1;clear b4 O3 HB3 Y5 Y' ht hof
 gi_wp2_with fail
 refine ⟨trivial,?_⟩;refine (all_in Fence.wide _ trivial rfl _ _).mono ?_;rintro e w5 ⟨rfl,NS⟩;have s5:w5.heap.size=w4.heap.size+1:=by rw [NS];simp
 have b5:Zi w4 w5:=by rw [NS];exact Yy.alloc YR _
 have Y0:Hid (w5.cell? ⟨w4.heap.size,0,none⟩=some (.pointer (some ⟨w3.heap.size+2,0,none⟩))):=by rw [NS];show _=_;simp
 have O5:=ZU (O4.out.below b5);have XS:=ZU (nO.out.trans (b5.mono (by omega)));have XR:=ZU (Y4.out.below b5);have XP:Hid (Boxed w5 w2.heap.size 22 (.slice (some ⟨g,0,none⟩) dl cap)):=(b5.block w2.heap.size (by omega)).trans Y2.out;have O:=ZU (Y1.out.below b5);clear NS b5 O4 nO Y4 Y2 Y1
 gi_wp2_with fail
 have hfit:=Br dl rs (fun i hi=>by have:=yJ.out.2 i hi;rw [OM.out] at this;exact this) O.out.full;have hvb:∀q,tv.ownBlock=some q→q<w5.heap.size∧q≠g:=fun q hq=>by have:=ZT O.out.rows q hq;omega
 have hrl:=O.out.len;have hfin:lays YL rs=tK YL ps (fun _=>64) n:=by
  have:=we YL ps rs (by rw [OM.out];exact HV.out) (by rw [HL.out];exact yJ.out) O.out.full O.out.apart;rw [HL.out] at this;exact this
 have PO:=ZU hfin;clear hfin;refine wpIn_rangeFunc_ownH (F:=Fence.wide) (n:=6) rfl (by omega) (gf:=137) (lb:=#[.pointer (some ⟨w4.heap.size,0,none⟩)]) rfl trivial (enters_of Tryz.func137 (by kernel_rfl) rfl)
  (all_stops Fence.wide (6 - 1) trivial rfl (by omega) w4.heap.size w5.heap.size g _ _ _ dl tv rs hfit w5 YR (by omega) hvb Y0.out O.out hrl)
  (fun h k=>KB.trans h k)
  (fun W l o o' hl h _ _=>⟨(grownBy_putObj' W l o').size,fun q hq _=>(grownBy_putObj' W l o').block q (by have:=(Z3.1 h).1;omega) (fun e=>by injection e with e;omega)⟩)
  Yy (fun _=>rfl)
  (fun pre W=>Boxed W w2.heap.size 22 (.slice (some ⟨g,0,none⟩) dl cap)∧Own .u8 5 W w1.heap.size (.slice (some ⟨g,0,none⟩) dl cap) (lays YL (pre.map (·.1)))∧SQ W (w.heap.size+1) (.slice none 0 0) (.slice none 0 0)∧Zi w W∧w5.heap.size≤W.heap.size)
  (fun _ _ _=>False)
  (fun s X Y row hs hg hr=>⟨(hg.block w2.heap.size (by have:=hs.2.2.2.2;omega) (fun e=>by have:=(hr _ e.symm).1;omega)).trans hs.1,hs.2.1.other hg (.inr (fun e=>by have:=(hr g (by rw [←e];rfl)).1;omega)),hs.2.2.1.other hg (fun e=>by have:=(hr _ e.symm).1;omega),hs.2.2.2.1.grown hg (by have:=hs.2.2.2.1.size;omega) (fun q e=>by have:=(hr q e).1;omega),ZJ hs.2.2.2.2 hg.size⟩)
  (fun _ _ _ _ _ hs _ _=>hs)
  ⟨XP.out,O5.out,XR.out,XS.out,YR⟩
  (fun x a' W=>∃Bx,w5.heap.size≤Bx∧W.heap[Bx]?=some (.cells (x.1.2.map (Value.int .u8)).toArray 117 (0,0))∧a'={ tmps:=#[.agg #[.slice va dl ca,.slice vb n cb],.pointer (some ⟨w.heap.size,0,none⟩),.pointer (some ⟨w.heap.size+1,0,none⟩),.pointer (some ⟨w2.heap.size,0,none⟩),.int .i64 x.1.1,.pointer (some ⟨Bx,0,none⟩),.agg #[.slice va dl ca,.slice vb n cb],.bool true,.bool false,undef,.pointer (some ⟨w.heap.size,0,none⟩),.slice va dl ca,.slice (some ⟨g,0,none⟩) dl cap,.agg #[.slice va dl ca,.slice vb n cb],.pointer (some ⟨w2.heap.size+1+2,0,none⟩),.func (.func 137) #[] #[.pointer (some ⟨w4.heap.size,0,none⟩)],.int .i64 x.1.1,.agg (x.1.2.map (Value.int .u8)).toArray,undef,undef,undef,undef,undef,undef],defers:=[] })
  (fun x a' _ X Y row hs hg hr=>by
   obtain ⟨Bx,h1,h2,h3⟩:=hs;exact ⟨Bx,h1,(hg.block Bx (Z3.1 h2).1 (fun e=>by obtain ⟨-,o,ho,hc⟩:=hr Bx e.symm;rw [h2] at ho;injection ho with ho;rw [←ho] at hc;cases hc)).trans h2,h3⟩)
  ?assign ?body ?done ?stop
 case assign =>
  rintro l pre ⟨⟨key,Vb⟩,b,hb1,hb2,Ib⟩ W K hi hK;unfold encR;dsimp only at hb1 Ib ⊢;subst hb1;have QH:Hid ((Vb.map (Value.int .u8)).length=64):=by show _=_;rw [Zl];exact Ib
  gi_wp2_with (refine Ou rfl 117 _ _ rfl (Vb.map (Value.int .u8)).toArray rfl rfl (by rw [ZI,QH.out];rfl) (by rw [ZI];exact Wh _ QH.out) (XL (Yi _ _)) ?_)
  have hs:=hi.2.2.2.2;refine hK _ _ ((KeepsOthers.alloc _ _).from _) ((KB.refl _ _ W).alloc hs _) ⟨hi.1.alloc _,hi.2.1.below (Yy.alloc YR _),hi.2.2.1.below (Yy.alloc YR _),hi.2.2.2.1.alloc hi.2.2.2.1.size _,by simp;omega⟩ ⟨W.heap.size,hs,Zs W _,rfl⟩
 case body =>
  rintro l pre ⟨⟨key,Vb⟩,b,hb1,hb2,Ib⟩ a' W hl ⟨r,hr⟩ ⟨bX,oW,xR,hB,hs⟩ ⟨Bx,hBx,hcell,rfl⟩ hlt;dsimp only at hb1 Ib hcell ⊢;subst hb1;have cX:=bX.cell;have hmem:∀q ∈ pre.map (·.1),Fits dl q:=by
   intro q hq;obtain ⟨y,-,rfl⟩:=List.mem_map.1 hq;exact y.2
  have hlen:(lays YL (pre.map (·.1))).length=dl:=by rw [KF YL _ (by rw [OM.out];exact hmem),OM.out]
  have QH:Hid ((Vb.map (Value.int .u8)).length=64):=by show _=_;rw [Zl];exact Ib
  have RG:Hid (W.rangeAt Bx 0 (Vb.map (Value.int .u8))):=by
   intro j u hu;rw [Za,Yz W Bx j _ _ _ hcell]
   simpa using hu
  gi_wp2_with (refine Ui rfl 117 _ rfl Bx 0 rfl (Vb.map (Value.int .u8)) _ RG.out Tryz.underlying117 rfl (Wh _ QH.out) ?_)
  refine ⟨trivial,?_⟩;refine (CallsIn.inRound l (YK.2 (Nk W w1.heap.size g dl cap b _ Vb oW hlen Ib hb2 hd1))).mono ?_;rintro e W' ⟨rfl,o',g'⟩;have hgz:=(ZT oW g rfl).2;have YX:Hid (lays YL ((pre++[(⟨((b:Int),Vb),⟨b,rfl,hb2,Ib⟩⟩:rF dl)]).map (·.1))=splice (lays YL (pre.map (·.1))) (b*64) Vb):=by
   show _=_;rw [Y6,Yl,WO,Mz,Ze]
  gi_wp2;refine ⟨KeepsFrom.of_grownBy g' (fun j e=>by injection e with e;omega),⟨g'.size,fun q hq hn=>g'.block q (by omega) (by simpa using hn)⟩,⟨(g'.block w2.heap.size (by omega) (by simp;omega)).trans bX,?_,xR.other g' (by simp;omega),hB.grown g' (by have:=hB.size;omega) (fun q e=>by injection e with e;omega),ZJ hs g'.size⟩⟩;rw [YX.out];exact o'
 case done =>
  rintro D xs W hD rfl ⟨bX,oW,xR,hB,hs⟩ hK;rw [Jb,PO.out] at oW;have cX:=bX.cell;obtain ⟨⟨zr,d0,d1⟩,f0,f1⟩:=xR;have HO:=ZU oW;gi_wp2;have hK2:((W.setCell ⟨w.heap.size+1,0,none⟩ (.slice (some ⟨g,0,none⟩) dl cap)).setCell ⟨w.heap.size+1,1,none⟩ (.slice none 0 0)).heap[D]?=some (.deferred (some [])):=(KeepsOthers.setCell _ _ _).same D _ ((KeepsOthers.setCell _ _ _).same D _ hK rfl) rfl;refine ⟨by simp,.inl ⟨_,_,rfl,run_takeDeferred hK2,?_⟩⟩;have x0:((W.setCell ⟨w.heap.size+1,0,none⟩ (.slice (some ⟨g,0,none⟩) dl cap)).setCell ⟨w.heap.size+1,1,none⟩ (.slice none 0 0)).cell? ⟨w.heap.size+1,0,none⟩=some (.slice (some ⟨g,0,none⟩) dl cap):=by
   rw [ZV _ _ _ _ (by simp)];exact Zk _ _ _ d0
  have x1:((W.setCell ⟨w.heap.size+1,0,none⟩ (.slice (some ⟨g,0,none⟩) dl cap)).setCell ⟨w.heap.size+1,1,none⟩ (.slice none 0 0)).cell? ⟨w.heap.size+1,1,none⟩=some (.slice none 0 0) :=
   Zk _ _ _ (by rw [ZV _ _ _ _ (by simp)];exact d1)
  have OX:Own .u8 5 ((W.setCell ⟨w.heap.size+1,0,none⟩ (.slice (some ⟨g,0,none⟩) dl cap)).setCell ⟨w.heap.size+1,1,none⟩ (.slice none 0 0)) w1.heap.size (.slice (some ⟨g,0,none⟩) dl cap) (tK YL ps (fun _=>64) n) :=
   (HO.out.setAt (.inr (by simp [Value.ownBlock];omega))).setAt (.inr (by simp [Value.ownBlock];omega))
  have BX:Zi w ((W.setCell ⟨w.heap.size+1,0,none⟩ (.slice (some ⟨g,0,none⟩) dl cap)).setCell ⟨w.heap.size+1,1,none⟩ (.slice none 0 0)):=(hB.setCell (by simp) _).setCell (by simp) _;have SX:((W.setCell ⟨w.heap.size+1,0,none⟩ (.slice (some ⟨g,0,none⟩) dl cap)).setCell ⟨w.heap.size+1,1,none⟩ (.slice none 0 0)).heap.size=W.heap.size:=by simp
  generalize (W.setCell _ _).setCell _ _=X at *;have GX:=grownBy_putObj' X D (.deferred none);have y0:=(ZP (w:=X) (a:=⟨w.heap.size+1,0,none⟩) (GX.block (w.heap.size+1) (by omega) (by simp;omega))).trans x0;have y1:=(ZP (w:=X) (a:=⟨w.heap.size+1,1,none⟩) (GX.block (w.heap.size+1) (by omega) (by simp;omega))).trans x1;have OF:=OX.other GX (.inr (by simp [Value.ownBlock];omega));have BF:=BX.grown GX (by omega) (fun q e=>by injection e with e;omega);generalize X.putObj D (.deferred none)=Z at *;refine ⟨.agg #[.slice (some ⟨g,0,none⟩) dl cap,.slice none 0 0],?_,_,rfl,OF.mono s1,BF⟩
  simp [results,Tryz.results83,go_sem,y0,y1]
 case stop =>
  rintro D c pre W _ _ h _;exact h.elim
theorem E2 (w:World) (va vb:Option Addr) (dl ca n cb:Nat) (ps:List (Int × List Int)) (hp:J8 w (.slice vb n cb) ps) (hl:ps.length=n)
    (hno:QP dl ps=false) (hn:n≤1048576) (hd1:dl≤1048576) (KE:∀i,(pD ps i).length≤1048576) :
    Calls Tryz.prog 83 #[.agg #[.slice va dl ca,.slice vb n cb]] w (Wj w (.agg #[.slice none 0 0,.slice none 0 0])):=by
 have HP:=ZU hp;have HL:=ZU hl;have AK:=ZU KE;have BA:Hid (∀o1 o2,Zi w ((w.alloc o1).alloc o2)):=fun o1 o2=>(Yy.alloc YR _).alloc (by simp) _
 clear hp hl KE
 go_enter Tryz.func83,Tryz.ntmps83
 go_wp2_with fail
 have G:Hid (SQ ((w.alloc (.cells #[.slice va dl ca,.slice vb n cb] 52)).alloc (.cells #[.slice none 0 0,.slice none 0 0] 52)) (w.heap.size+1) (.slice none 0 0) (.slice none 0 0)):=by
  have:=SQ.new (w.alloc (.cells #[.slice va dl ca,.slice vb n cb] 52)) (.slice none 0 0) (.slice none 0 0) 52;show SQ _ _ _ _
  simpa using this
 have B0:=BA.out (.cells #[.slice va dl ca,.slice vb n cb] 52) (.cells #[.slice none 0 0,.slice none 0 0] 52);have HB0:=ZU B0;clear B0 BA;generalize (w.alloc _).alloc _=w0 at *;refine (Qx _ va vb dl ca n cb ps (HP.out.below HB0.out) HL.out hd1 hn AK.out).mono ?_;rintro e w1 ⟨rfl,b1⟩;have HB1:=ZU (WD HB0.out b1);have E:=ZU (G.out.below b1);clear b1 G HB0;obtain ⟨⟨zr,d0,d1⟩,f0,f1⟩:=E.out;rw [hno];clear hno;go_wp2;refine ZW (v:=.agg #[.slice none 0 0,.slice none 0 0]) (by simp [results,Tryz.results83,go_sem,d0,d1]) rfl ⟨rfl,?_⟩
 repeat (first | exact HB1.out | refine Below.setCell ?_ (by simp;try omega) _)
theorem Nf (w:World) (v1 v2:Value) (YL:List Int) (ps:List (Int × List Int)) (hd:Rd .u8 w v1 YL) (hp:J8 w v2 ps) (hdl:YL.length≤1048576) (hn:ps.length≤1048576) (KE:∀i,(pD ps i).length≤1048576) :
    Calls Tryz.prog 83 #[.agg #[v1,v2]] w fun e w'=>∃u,e=.returned (.agg #[u,.slice none 0 0])∧Own .u8 5 w' w.heap.size u (MA YL ps)∧Zi w w':=by
 obtain ⟨va,ca,rfl,-⟩:=hd.len;obtain ⟨vb,cb,rfl,-⟩:=id hp;unfold MA
 cases h:QP YL.length ps with
 | true =>
  simp only [Vo]
  exact Hy w va vb YL.length ca ps.length cb YL ps hd rfl hp rfl h hdl KE
 | false =>
  simp only [Yu,WW]
  refine (E2 w va vb YL.length ca ps.length cb ps hp rfl h hn hdl KE).mono ?_;rintro e w' ⟨rfl,b⟩;exact ⟨_,rfl,ZH _ _ _ _,b⟩
theorem RP.Bq {hi:Nat} {vd vk:Value} {dv:Nat→Value} (ho:RP w lo hi vd vk YL ps dv) (h1:vd.ownBlock≠some B) (h2:vk.ownBlock≠some B) (h3:∀i,i<ps.length→(dv i).ownBlock≠some B):RP (w.setCell ⟨B,j,none⟩ u) lo hi vd vk YL ps dv :=
 ⟨ho.d.setAt (.inr h1),⟨Zn ho.p.1 (grownBy_set w w B j u (Zz _ _)) (.inr h2),fun i hi=>(ho.p.2.1 i hi).setAt (.inr (h3 i hi)),ho.p.2.2.1,ho.p.2.2.2⟩,ho.lH,ho.nX,ho.iY,ho.dp,ho.dq⟩
theorem Di (w:World) (b o lo:Nat) (vd vp:Value) (YL:List Int) (ps:List (Int × List Int)) (dv:Nat→Value) (lim made x:Int) (C:List Int) (L:List Value) (hC:C.length=64) (hS:St w b L) (l1:L[o+1]?=some vp) (l2:L[o+2]?=some (.int .i64 lim)) (l3:L[o+3]?=some (.int .i64 made)) (hD:RP w lo w.heap.size vd vp YL ps dv) (hlo:lo≤w.heap.size) (hne:vp.ownBlock≠some b) (hnd:vd.ownBlock≠some b) (hnq:∀i,i<ps.length→(dv i).ownBlock≠some b) (hl:-9223372036854775808≤lim∧lim≤9223372036854775807) (hm:0≤made∧made≤10000) (hn:ps.length≤1000000) (h:Ov lim made≠0) :
    Calls Tryz.prog 89 #[.pointer (some ⟨b,o,none⟩),.int .i64 x,.agg (C.map (Value.int .u8)).toArray] w fun e w'=>e=.returned (.bool true)∧∃vW nN,St w' b ((L.set (o+3) (.int .i64 (made+1))).set (o+1) vW)∧RP w' lo w'.heap.size vd vW YL (ps++[(x,C)]) nN∧vW.ownBlock≠some b∧(∀i,i<(ps++[(x,C)]).length→(nN i).ownBlock≠some b)∧Tw w b vp.ownBlock w' vW.ownBlock:=by
 have hlt:=hS.lt;have HC:Hid (∀W,Zi w W→Calls Tryz.prog 138 #[.pointer (some ⟨b,o,none⟩)] W fun e w'=>e=.returned (.bool true)∧∃w1,Zi W w1∧w'=w1.setCell ⟨b,o+3,none⟩ (.int .i64 (made+1))):=fun W hW =>
  have hS':=hS.Xe hW hlt
  Jd W b o lim made (hS'.cl _ _ l2) (hS'.cl _ _ l3) (hS'.fz _) hS'.lt hl hm h
 have BA:Hid (Zi w (w.alloc (.cells (C.map (Value.int .u8)).toArray 117))):=Yy.alloc YR _;have RA:Hid ((w.alloc (.cells (C.map (Value.int .u8)).toArray 117)).rangeAt w.heap.size 0 (C.map (Value.int .u8))):=by
  have h9:=OT w (C.map (Value.int .u8)).toArray 117;show World.rangeAt _ _ _ _
  simpa using h9
 have hsA:(w.alloc (.cells (C.map (Value.int .u8)).toArray 117)).heap.size=w.heap.size+1:=by simp
 have GL:Hid (∀v ∈ (C.map (Value.int .u8)),v.oneCell'=true):=Yi _ _;have HX:Hid ((C.map (Value.int .u8)).length=64):=by show _=_;simpa using hC
 have HS:=ZU hS;have HD:=ZU hD;have YO:Hid (∀W,RP W lo w.heap.size vd vp YL ps dv→w.heap.size≤W.heap.size→St W b (L.set (o+3) (.int .i64 (made+1)))→Calls Tryz.prog 139 #[.pointer (some ⟨b,o,none⟩),.int .i64 x,.agg (C.map (Value.int .u8)).toArray] W fun e w'=>e=.returned (.tuple #[])∧∃w5 g cap v,RP w5 lo w5.heap.size vd (.slice (some ⟨g,0,none⟩) (ps.length+1) cap) YL (ps++[(x,C)]) (QA dv ps.length v)∧W.grownBy w5 vp.ownBlock∧(vp.ownBlock=some g∨W.heap.size≤g)∧v.ownBlock=some W.heap.size∧w'=w5.setCell ⟨b,o+1,none⟩ (.slice (some ⟨g,0,none⟩) (ps.length+1) cap)):=fun W hW hs hst =>
  Ig W b o lo w.heap.size vd vp YL ps dv x C hW hs (by omega) (hst.cl _ _ (by rw [VK (by omega)];exact l1)) (hst.fz _) hst.lt hne hC hn
 generalize hX:C.map (Value.int .u8)=X at *;clear h l2 l3 hS hD
 go_enter Tryz.func89,Tryz.ntmps89
 go_wp2_with fail
 refine (HC.out _ BA.out).mono ?_;rintro e w2 ⟨rfl,w1,b1,rfl⟩;have B1:=ZU (WD BA.out b1);have S2:Hid (St (w1.setCell ⟨b,o+3,none⟩ (.int .i64 (made+1))) b (L.set (o+3) (.int .i64 (made+1)))):=(HS.out.Xe B1.out hlt).set _ _;have D2:Hid (RP (w1.setCell ⟨b,o+3,none⟩ (.int .i64 (made+1))) lo w.heap.size vd vp YL ps dv):=(HD.out.below B1.out).Bq hnd hne hnq;have T2:Hid (Tw w b vp.ownBlock (w1.setCell ⟨b,o+3,none⟩ (.int .i64 (made+1))) vp.ownBlock):=(Tw.YZ B1.out _ _).set;have R2:Hid ((w1.setCell ⟨b,o+3,none⟩ (.int .i64 (made+1))).rangeAt w.heap.size 0 X):=by
  have h8:w1.heap[w.heap.size]?=_:=b1.block w.heap.size (by omega);exact Wb RA.out ((Below.heap_setCell w1 ⟨b,o+3,none⟩ _ w.heap.size (by show w.heap.size≠b;omega)).trans h8)
 have z2:w.heap.size≤(w1.setCell ⟨b,o+3,none⟩ (.int .i64 (made+1))).heap.size:=by simpa using B1.out.size
 have z2b:w.heap.size<(w1.setCell ⟨b,o+3,none⟩ (.int .i64 (made+1))).heap.size:=by have:=b1.size;simp;omega
 clear b1 B1 BA RA HC HS HD hsA;generalize w1.setCell _ _=w2 at *
 go_wp2_with fail
 refine ZX (S:=fun W=>W.rangeAt w.heap.size 0 X) (by kernel_rfl) R2.out (fun Z9=>?_);have S3:Hid (St w2.drew b (L.set (o+3) (.int .i64 (made+1)))):=S2.out.below (below_drewN' w2 1);have D3:Hid (RP w2.drew lo w.heap.size vd vp YL ps dv):=D2.out.below (below_drewN' w2 1);have T3:Hid (Tw w b vp.ownBlock w2.drew vp.ownBlock):=T2.out.trans (Tw.YZ (below_drewN' w2 1) _ _);have z3:w.heap.size≤w2.drew.heap.size:=z2;have z4:w.heap.size<w2.drew.heap.size:=z2b;clear S2 D2 T2 R2 z2 z2b;generalize w2.drew=w3 at *
 iterate 4 (refine Zf ?_ (by kernel_rfl) (fun _=>id) Z9 ?_ ?_;rotate_left;· intro w9 ZQ;clear ZQ;go_simp;try with_reducible rfl)
 refine PL (i:=4) (oi:=⟨some 14,_,_,_,_,_⟩) (v:=.agg (X).toArray) rfl (by kernel_rfl) (fun _ _ _ h=>h) (VN (by rfl) _ _ rfl _ _ rfl (X) _ (fun w' hSw=>hSw) Tryz.underlying117 rfl (Wh _ HX.out)) (by assumption) ?_;refine YS 5 rfl (by kernel_rfl) (fun K hK=>?_);go_simp;refine (YO.out _ D3.out z3 S3.out).mono ?_;rintro e w6 ⟨rfl,w5,g,cap,v,D5,G5,hg,hv,rfl⟩;have hvb:vp.ownBlock≠some w.heap.size:=fun e=>by have:=D3.out.nX _ e;omega
 have R6:(w5.setCell ⟨b,o+1,none⟩ (.slice (some ⟨g,0,none⟩) (ps.length+1) cap)).rangeAt w.heap.size 0 X :=
  Wb Z9 ((Below.heap_setCell w5 ⟨b,o+1,none⟩ _ w.heap.size (by show w.heap.size≠b;omega)).trans (G5.block w.heap.size z4 (Ne.symm hvb)))
 refine hK.out _ _ R6 (fun YA=>?_);clear hK K YA;refine ZR (by kernel_rfl) ?_ _
 try simp only [Act.put,WV,WU,WT]
 have hgb:g≠b:=by
  rcases hg with h9 | h9
  · intro e;rw [e] at h9;exact hne h9
  have:=S3.out.lt;omega
 have ZL:∀i,i<(ps++[(x,C)]).length→(QA dv ps.length v i).ownBlock≠some b:=by
  intro i hi;unfold QA
  split
  · rw [hv];intro e;injection e with e;have:=S3.out.lt;omega
  rename_i hni;exact hnq i (by simp at hi;omega)
 have FIN:Hid (∃vW nN,St (w5.setCell ⟨b,o+1,none⟩ (.slice (some ⟨g,0,none⟩) (ps.length+1) cap)) b ((L.set (o+3) (.int .i64 (made+1))).set (o+1) vW)∧RP (w5.setCell ⟨b,o+1,none⟩ (.slice (some ⟨g,0,none⟩) (ps.length+1) cap)) lo (w5.setCell ⟨b,o+1,none⟩ (.slice (some ⟨g,0,none⟩) (ps.length+1) cap)).heap.size vd vW YL (ps++[(x,C)]) nN∧vW.ownBlock≠some b∧(∀i,i<(ps++[(x,C)]).length→(nN i).ownBlock≠some b)∧Tw w b vp.ownBlock (w5.setCell ⟨b,o+1,none⟩ (.slice (some ⟨g,0,none⟩) (ps.length+1) cap)) vW.ownBlock):=by
  have hl3:=S3.out.lt;have T5:Tw w3 b vp.ownBlock w5 (some g):=by
   refine ⟨G5.os,G5.tape,G5.output,G5.size,fun q hq _ ho=>G5.block q hq (Ne.symm ho),?_⟩
   rcases hg with h9 | h9
   · exact .inl h9.symm
   exact .inr (.inr ⟨g,rfl,h9⟩)
  have S5:St w5 b (L.set (o+3) (.int .i64 (made+1))):=by
   have e:=G5.block b hl3 (Ne.symm hne);refine ⟨ZY hl3 G5.size,fun j=>?_,fun j v hv=>(ZP (w:=w3) (a:=⟨b,j,none⟩) e).trans (S3.out.cl j v hv)⟩;have:=S3.out.fz j;unfold World.frozen? at this ⊢;rw [e];exact this
  refine ⟨_,_,S5.set (o+1) (.slice (some ⟨g,0,none⟩) (ps.length+1) cap),?_,by simp [Value.ownBlock];exact hgb,ZL,?_⟩
  · have h9:=D5.Bq (j:=o+1) (u:=.slice (some ⟨g,0,none⟩) (ps.length+1) cap) hnd (by simp [Value.ownBlock];exact hgb) ZL
    simpa using h9
  exact (T3.out.trans T5).set
 clear Z9 S3 D3 T3 D5 G5 hg hv YO ZL R6 hvb;generalize w5.setCell _ _=w6 at *;go_wp2;go_ret;exact ⟨rfl,FIN.out⟩
theorem zM (w:World) (b o:Nat) (vd vp:Value) (YL:List Int) (ps:List (Int × List Int)) (lim made:Int) (L:List Value) (hS:St w b L) (l0:L[o]?=some vd) (l1:L[o+1]?=some vp) (l2:L[o+2]?=some (.int .i64 lim)) (l3:L[o+3]?=some (.int .i64 made)) (hd:∀W,Tw w b none W none→Rd .u8 W vd YL∧J8 W vp ps) (hdl:YL.length≤1048576) (hpl:ps.length≤1048576) (KE:∀i,(pD ps i).length≤1048576) (hl:-9223372036854775808≤lim∧lim≤9223372036854775807) (hm:0≤made∧made≤10000) (h:Ov lim made≠0) :
    Calls Tryz.prog 91 #[.pointer (some ⟨b,o,none⟩)] w fun e w'=>e=.returned (.bool true)∧∃u,St w' b (((L.set (o+3) (.int .i64 (made+1))).set o u).set (o+1) (.slice none 0 0))∧Own .u8 5 w' w.heap.size u (MA YL ps)∧Tw w b vp.ownBlock w' vp.ownBlock:=by
 have hlt:=hS.lt;have HC:Hid (Calls Tryz.prog 138 #[.pointer (some ⟨b,o,none⟩)] w fun e w'=>e=.returned (.bool true)∧∃w1,Zi w w1∧w'=w1.setCell ⟨b,o+3,none⟩ (.int .i64 (made+1))) :=
  Jd w b o lim made (hS.cl _ _ l2) (hS.cl _ _ l3) (hS.fz _) hS.lt hl hm h
 have HS:=ZU hS;have ku:Hid (∀W,Tw w b none W none→Calls Tryz.prog 83 #[.agg #[vd,vp]] W fun e w'=>∃u,e=.returned (.agg #[u,.slice none 0 0])∧Own .u8 5 w' W.heap.size u (MA YL ps)∧Zi W w'):=fun W hW =>
  Nf W vd vp YL ps (hd W hW).1 (hd W hW).2 hdl hpl KE
 have L0:Hid ((L.set (o+3) (.int .i64 (made+1)))[o]?=some vd∧(L.set (o+3) (.int .i64 (made+1)))[o+1]?=some vp):=⟨by rw [VK (by omega)];exact l0,by rw [VK (by omega)];exact l1⟩;clear h l0 l1 l2 l3 hS hd
 go_enter Tryz.func91,Tryz.ntmps91
 go_wp2_with fail
 refine (HC.out).mono ?_;rintro e w2 ⟨rfl,w1,b1,rfl⟩;have S2:Hid (St (w1.setCell ⟨b,o+3,none⟩ (.int .i64 (made+1))) b (L.set (o+3) (.int .i64 (made+1)))):=(HS.out.Xe b1 hlt).set _ _;have T2:Hid (Tw w b vp.ownBlock (w1.setCell ⟨b,o+3,none⟩ (.int .i64 (made+1))) vp.ownBlock):=(Tw.YZ b1 _ _).set;have YM:Hid (Tw w b none (w1.setCell ⟨b,o+3,none⟩ (.int .i64 (made+1))) none):=(Tw.YZ b1 _ _).set;clear b1 HC HS;generalize w1.setCell _ _=w2 at *;have q0:=S2.out.cl _ _ L0.out.1;have q1:=S2.out.cl _ _ L0.out.2
 go_wp2_with fail
 refine (ku.out _ YM.out).mono ?_;rintro e w3 ⟨u,rfl,o3,b3⟩;obtain ⟨ua,uc,hu⟩:=o3.slice;subst hu;generalize XE:(MA YL ps).length=ul at *;have S3:=ZU (S2.out.below b3);have f0:=S3.out.fz o;have f1:=S3.out.fz (o+1);have z0:=S3.out.cl _ _ L0.out.1;have z1:=S3.out.cl _ _ L0.out.2;have hub:(Value.slice ua ul uc).ownBlock≠some b:=fun e=>by have:=(o3.lt b e).1;have:=S2.out.lt;omega
 have FIN:Hid (∃u',St ((w3.setCell ⟨b,o,none⟩ (.slice ua ul uc)).setCell ⟨b,o+1,none⟩ (.slice none 0 0)) b (((L.set (o+3) (.int .i64 (made+1))).set o u').set (o+1) (.slice none 0 0))∧Own .u8 5 ((w3.setCell ⟨b,o,none⟩ (.slice ua ul uc)).setCell ⟨b,o+1,none⟩ (.slice none 0 0)) w.heap.size u' (MA YL ps)∧Tw w b vp.ownBlock ((w3.setCell ⟨b,o,none⟩ (.slice ua ul uc)).setCell ⟨b,o+1,none⟩ (.slice none 0 0)) vp.ownBlock):=by
  refine ⟨_,(S3.out.set o (.slice ua ul uc)).set _ _,?_,((T2.out.trans (Tw.YZ b3 _ _)).set).set⟩;exact ((o3.mono T2.out.size).setAt (.inr hub)).setAt (.inr hub)
 clear S2 T2 YM q0 q1 o3 b3 hub L0 ku;go_wp2;go_ret;exact ⟨rfl,FIN.out⟩
def vV (w:World) (B:Nat) (t:TypeId) (z:Int) (v:Value):Prop:=w.heap[B]?=some (.cells #[.int .i64 z,v] t (0,0))
theorem vV.lt (h:vV w B t z v):B<w.heap.size:=(Z3.1 h).1
theorem vV.new (w:World) (t:TypeId) (z:Int) (v:Value):vV (w.alloc (.cells #[.int .i64 z,v] t)) w.heap.size t z v:=Zs w _
theorem vV.later (hb:Zi w w') (h:vV w B t z v):vV w' B t z v:=(hb.block _ h.lt).trans h
theorem vV.cells (h:vV w B t z v):w.cell? ⟨B,0,none⟩=some (.int .i64 z)∧w.cell? ⟨B,1,none⟩=some v:=⟨(cell_of h _).trans rfl,(cell_of h _).trans rfl⟩
structure tJ (s:Nat) (v:Value) (z:Int) (vx:Value) (W:World):Prop where
 t:Boxed W s 63 v
 x:vV W (s+1) 192 z vx
 r:Boxed W (s+2) 63 (.slice none 0 0)
theorem tJ.new (w:World) (v:Value) (z:Int) (vx:Value):tJ w.heap.size v z vx (((w.alloc (.cells #[v] 63)).alloc (.cells #[.int .i64 z,vx] 192)).alloc (.cells #[.slice none 0 0] 63)):=by
 have s1:(w.alloc (.cells #[v] 63)).heap.size=w.heap.size+1:=by simp
 have s2:((w.alloc (.cells #[v] 63)).alloc (.cells #[.int .i64 z,vx] 192)).heap.size=w.heap.size+2:=by simp
 have h2:=vV.new (w.alloc (.cells #[v] 63)) 192 z vx;rw [s1] at h2;have h3:=Boxed.new ((w.alloc (.cells #[v] 63)).alloc (.cells #[.int .i64 z,vx] 192)) 63 (.slice none 0 0);rw [s2] at h3;exact ⟨((Boxed.new w _ _).alloc _).alloc _,h2.later (Yy.alloc YR _),h3⟩
theorem tJ.below {m:Nat} (h:tJ s v z vx W) (hb:Below m W W') (hm:s+3≤m):tJ s v z vx W' :=
 ⟨(hb.block _ (by omega)).trans h.t,(hb.block _ (by omega)).trans h.x,(hb.block _ (by omega)).trans h.r⟩
theorem tJ.size (h:tJ s v z vx W):s+3≤W.heap.size:=by have:=h.r.lt;omega
theorem Lo.new (w:World) (o:Obj) (n:Nd):Lo ((w.alloc o).alloc (.cells #[.string n.path,.string n.data,.int .i64 n.XT,.int .i64 n.XQ,.int .i64 n.cz,.int .i64 n.mz,.int .i64 n.pz] 149)) (w.heap.size+1) n:=by
 have:=Zs (w.alloc o) (.cells #[.string n.path,.string n.data,.int .i64 n.XT,.int .i64 n.XQ,.int .i64 n.cz,.int .i64 n.mz,.int .i64 n.pz] 149);rw [show (w.alloc o).heap.size=w.heap.size+1 by simp] at this;exact ⟨⟨_,_,_,this,by decide⟩,(cell_of this _).trans rfl,(cell_of this _).trans rfl,(cell_of this _).trans rfl,(cell_of this _).trans rfl,(cell_of this _).trans rfl,(cell_of this _).trans rfl,(cell_of this _).trans rfl⟩
theorem E1 (w:World) (b o n cap:Nat) (ns:List Nd) (hp:ns.length=n) (hb:b<w.heap.size) (hc:∀i,i<n→Um w b (o+i*7) (Ye ns i)) (hR:SK w (.slice (some ⟨b,o,none⟩) n cap) ns)
    (hsz:∀i,(Ye ns i).path.size≤1048576∧(Ye ns i).data.size≤1048576) :
    Calls Tryz.prog 46 #[.agg #[.slice (some ⟨b,o,none⟩) n cap]] w fun e w'=>∃v',e=.returned v'∧Own .u8 5 w' w.heap.size v' (Mj ns)∧Zi w w':=by
 have HC:Hid (∀i,i<n→Um w b (o+i*7) (Ye ns i)):=hc;have HP:Hid (ns.length=n):=hp;have HR:Hid (SK w (.slice (some ⟨b,o,none⟩) n cap) ns):=hR;have HZ:Hid (∀i,(Ye ns i).path.size≤1048576∧(Ye ns i).data.size≤1048576):=hsz;have B0:Hid (Zi w (w.alloc (.cells #[.slice (some ⟨b,o,none⟩) n cap] 63))):=Yy.alloc YR _;have X0:Hid (Boxed (w.alloc (.cells #[.slice (some ⟨b,o,none⟩) n cap] 63)) w.heap.size 63 (.slice (some ⟨b,o,none⟩) n cap)):=Boxed.new _ _ _;clear hc hp hR hsz
 go_enter Tryz.func46,Tryz.ntmps46
 go_wp2_with fail
 generalize w.alloc _=w0 at *;refine (UM _ _ ns (HR.out.below B0.out) HZ.out).mono ?_;rintro e w1 ⟨rfl,b1⟩;have B1:=ZU (WD B0.out b1);have X1:Hid (Boxed w1 w.heap.size 63 (.slice (some ⟨b,o,none⟩) n cap)):=UX b1 X0.out;clear b1 X0 B0
 by_cases hok:WE ns=true
 rotate_left
 · have hok':WE ns=false:=by simpa using hok
   have HT:Hid (Mj ns=[]):=by show _=_;unfold Mj;rw [Z1 hok]
   rw [hok'];clear hok hok';go_wp2;go_ret;exact ⟨_,rfl,(by rw [HT.out];exact ZH _ _ _ _),B1.out⟩
 have hn:n≤1000:=by have:=Ok hok;rw [HP.out] at this;exact this
 have HT:Hid (Mj ns=Xn ns):=by show _=_;unfold Mj;rw [Z0 hok]
 have PX:Hid (∀k,k<n→Wl (Ye ns k)=true):=fun k hk=>MQ hok k (by rw [HP.out];exact hk)
 have Pu:Hid (∀k,k≤n→(Xn (ns.take k)).length≤k*188):=fun k hk=>Lr (MQ hok) k (by rw [HP.out];exact hk)
 rw [hok];clear hok;have c0:=X1.out.cell;go_wp2
 go_loopw [3,13] (fun vi vk wr=>∃k:Nat,k≤n∧vk=.int .i64 k∧Hid (Own .u8 5 wr w.heap.size vi (Xn (ns.take k)))∧Hid (Zi w wr)) (fun _ i _=>n - (intOf i).toNat)
 case atStart=>exact ⟨0,Zu _,rfl,ZH _ _ _ _,B1⟩
 case round =>
  clear c0;obtain ⟨k,hk,rfl,HW,HB⟩:=hrel;have sB:=HB.out.size
  by_cases hlt:k<n
  · have Rj:(k:Int)<(n:Int):=by omega
    obtain ⟨c0,c1,c2,c3,c4,c5,c6⟩:=(HC.out k hlt).below HB.out hb
    go_wp2_with fail
    clear c0 c1 c2 c3 c4 c5 c6;refine (PC _ w.heap.size u3 (Xn (ns.take k)) (wr.heap.size+1) (Ye ns k) ?e1 ?e2 ?e3 ?e4 (PX.out k hlt)).mono ?_
    case e1=>exact (HW.out.below (Yy.alloc YR _)).below (Yy.alloc YR _)
    case e2=>simp;omega
    case e3=>have:=Pu.out k hk;omega
    case e4=>exact Lo.new _ _ _
    rintro e w4 ⟨v4,rfl,o4,b4,-⟩;have O4:Hid (Own .u8 5 w4 w.heap.size v4 (Xn (ns.take (k+1)))):=by
     rw [Mk ns k (by rw [HP.out];exact hlt)] at o4;exact o4
    have B4:Hid (Zi w w4):=((HB.out.alloc sB _).alloc (by simp;omega) _).trans b4;clear o4 b4 HW HB;go_wp2;exact ⟨⟨k+1,by omega,by go_num,O4,B4⟩,by simp [intOf];omega⟩
  have hkn:k=n:=by omega
  subst hkn;go_wp2;go_ret;refine ⟨_,rfl,?_,HB.out⟩;rw [HT.out,←DO ns k (by rw [HP.out];exact YR)];exact HW.out
theorem E0 (w:World) (ao:Option Addr) (cap:Nat) (hc:cap≤maxLen) :
    Calls Tryz.prog 46 #[.agg #[.slice ao 0 cap]] w fun e w'=>∃v',e=.returned v'∧Own .u8 5 w' w.heap.size v' []∧Zi w w':=by
 have HR:Hid (SK w (.slice ao 0 cap) []):=⟨ao,cap,rfl,Zu _,hc,.inl rfl⟩;have B0:Hid (Zi w (w.alloc (.cells #[.slice ao 0 cap] 63))):=Yy.alloc YR _;have X0:Hid (Boxed (w.alloc (.cells #[.slice ao 0 cap] 63)) w.heap.size 63 (.slice ao 0 cap)):=Boxed.new _ _ _
 go_enter Tryz.func46,Tryz.ntmps46
 go_wp2_with fail
 generalize w.alloc _=w0 at *;refine (UM _ _ [] (HR.out.below B0.out) (fun i=>by simp [Ye,nd0])).mono ?_;rintro e w1 ⟨rfl,b1⟩;have B1:=ZU (WD B0.out b1);have X1:Hid (Boxed w1 w.heap.size 63 (.slice ao 0 cap)):=UX b1 X0.out;clear b1 X0 B0;rw [show WE []=true from rfl];have c0:=X1.out.cell;go_wp2
 go_rounds 1
 go_ret;exact ⟨_,rfl,ZH _ _ _ _,B1.out⟩
theorem EZ (w:World) (v:Value) (ns:List Nd) (h:SK w v ns) (hsz:∀i,(Ye ns i).path.size≤1048576∧(Ye ns i).data.size≤1048576) :
    Calls Tryz.prog 46 #[.agg #[v]] w fun e w'=>∃v',e=.returned v'∧Own .u8 5 w' w.heap.size v' (Mj ns)∧Zi w w':=by
 have h0:=h;obtain ⟨ao,cap,rfl,h1,h2,h3⟩:=h
 rcases h3 with rfl | ⟨b,o,rfl,hb,hc⟩
 · exact E0 w ao cap h2
 exact E1 w b o ns.length cap ns rfl hb hc h0 hsz
def Hx (e:Ef):Int:=if e.del then 2 else 1
def OK (e:Ef):List Int:=if e.del then [2]++J0 e.nd.path else [1]++Vy e.nd
def SL (es:List Ef):List Int:=es.flatMap OK
def Va (z:Int) (es:List Ef):List Int:=if Tm z es then Xo z.toNat 4++Xo es.length 2++SL es else []
theorem KD {e:Ef} (h:Sm e=true):Wl e.nd=true:=by
 unfold Sm at h
 simp only [ZA] at h
 exact h.1
theorem vU {e:Ef} (h:Sm e=true):(OK e).length≤189∧0<(OK e).length:=by
 have h1:=TX (KD h);unfold OK
 split
 · rw [ZZ,NO];simp;omega
 rw [ZZ,Se];simp;omega
theorem KC (es:List Ef) (k:Nat) (h:k<es.length):SL (es.take k)++OK (Vr es k)=SL (es.take (k+1)):=by
 unfold SL;rw [YW h,XZ,NP h]
 simp
theorem zL (es:List Ef) (k:Nat) (h:es.length≤k):SL (es.take k)=SL es:=by rw [Y8 h]
theorem Ja (h:∀k,k<es.length→Sm (Vr es k)=true):∀k,k≤es.length→(SL (es.take k)).length≤k*189
 | 0,_=>by simp [SL]
 | k+1,hk=>by
  have h1:=Ja h k (by omega);have h2:=vU (h k (by omega));rw [←KC es k (by omega),ZZ];omega
theorem My (h:Tm z es=true):1≤z∧z≤2147483647∧es.length≤1000∧∀k,k<es.length→Sm (Vr es k)=true:=by
 unfold Tm MN at h
 simp only [ZA,Zj] at h
 refine ⟨h.1.1.1,h.1.1.2,h.1.2,fun k hk=>?_⟩;have:=Yw.1 h.2 k (by simpa using hk);unfold PW at this
 simp only [ZA] at this
 exact this.1
def tI (w:World) (b:Nat) (e:Ef):Prop:=Lo w b e.nd∧w.cell? ⟨b,7,none⟩=some (.int .u8 (Hx e))
theorem tI.keep {e:Ef} (h:tI w b e) (hk:KT 5 w w'):tI w' b e:=by
 obtain ⟨A,t,f,h1,h2⟩:=h.1.1;exact ⟨h.1.keep hk,(hk.cell h1 h2 7).trans h.2⟩
theorem EY (w:World) (e:Ef) :
    Calls Tryz.prog 170 #[.agg #[.bool e.del,.string e.nd.path,.string e.nd.data,.int .i64 e.nd.XT,.int .i64 e.nd.XQ,.int .i64 e.nd.cz,.int .i64 e.nd.mz,.int .i64 e.nd.pz]] w fun r w' =>
     r=.returned (.agg #[.string e.nd.path,.string e.nd.data,.int .i64 e.nd.XT,.int .i64 e.nd.XQ,.int .i64 e.nd.cz,.int .i64 e.nd.mz,.int .i64 e.nd.pz,.int .u8 (Hx e)])∧Zi w w':=by
 have HB:Hid (∀o1 o2,Zi w ((w.alloc o1).alloc o2)):=fun o1 o2=>(Yy.alloc YR _).alloc (by simp) _
 go_enter Tryz.func170,Tryz.ntmps170
 obtain ⟨del,nd⟩:=e
 cases del with
 | true =>
  go_wp2;refine ZW (v:=.agg #[.string nd.path,.string nd.data,.int .i64 nd.XT,.int .i64 nd.XQ,.int .i64 nd.cz,.int .i64 nd.mz,.int .i64 nd.pz,.int .u8 2]) (by simp [results,Tryz.results170,go_sem]) rfl ⟨rfl,HB.out _ _⟩
 | false =>
  go_wp2;refine ZW (v:=.agg #[.string nd.path,.string nd.data,.int .i64 nd.XT,.int .i64 nd.XQ,.int .i64 nd.cz,.int .i64 nd.mz,.int .i64 nd.pz,.int .u8 1]) (by simp [results,Tryz.results170,go_sem]) rfl ⟨rfl,HB.out _ _⟩
theorem Dh (w:World) (base:Nat) (v:Value) (xs:List Int) (b:Nat) (n:Ef) (h:Own .u8 5 w base v xs) (hb:base≤w.heap.size) (hl:xs.length≤900000) (hx:tI w b n) (hn:Sm n=true) :
    Calls Tryz.prog 171 #[.pointer (some ⟨b,0,none⟩),v] w fun e w'=>∃v',e=.returned v'∧Own .u8 5 w' base v' (xs++OK n)∧Below base w w'∧KT 5 w w':=by
 obtain ⟨i0,hi,hz0,hz1,hz2⟩:=YN Tryz.QZ;have hnd:=KD hn;have hpz:=(TX hnd).1;have HN:Hid (Wl n.nd=true):=hnd;have HX:Hid (tI w b n):=hx;have HO:Hid (w.ownsRow base 5 1 v xs.length (xs.map (Value.int .u8))):=h;have HE:Hid ((n.del=true∧Hx n=2∧OK n=[2]++J0 n.nd.path)∨(n.del=false∧Hx n=1∧OK n=[1]++Vy n.nd)):=by
  show _∨_;unfold Hx OK
  cases n.del with
  | true=>exact .inl ⟨rfl,rfl,rfl⟩
  | false=>exact .inr ⟨rfl,rfl,rfl⟩
 clear h hx hn hnd;have c7:=HX.out.2
 rcases HE.out with ⟨-,e2,e3⟩ | ⟨-,e2,e3⟩
 · have ZG:Hid (OK n=[2]++J0 n.nd.path):=e3
   have HE2:Hid (Hx n=2):=e2;rw [e2] at c7;clear e2 e3 HE
   go_enter Tryz.func171,Tryz.ntmps171
   go_wp2_with (at_builtin;go_must (refine Yn _ rfl _ _ 22 rfl base 5 i0 (.int .u8 0) 1 1 Tryz.underlying22 hi hz0 hz1 hz2 rfl (by decide) _ _ _ rfl (WP HO.out _) ⟨w.heap.size,0,none⟩ 1 1 [.int .u8 2] rfl rfl (XW _ _ _) (by intro u hu;simp at hu;subst hu;rfl) ?c3 ?c4 ?c5 ?_))
   case c3=>unfold maxLen;omega
   case c4=>omega
   case c5=>simp;omega
   intro v2 w2 ho2 hg2 _;have O2:Hid (Own .u8 5 w2 base v2 (xs++[2])):=by
    refine QY (q:=xs.length+1) (ys:=xs++[2]) (by simp) rfl ?_;rw [Y6];exact ho2
   have B2:Hid (Below base w w2):=(Yy.alloc hb _).grown hg2 (by simp;omega) (fun q hq=>(ZT HO.out q hq).1);have K2:Hid (KT 5 w w2):=((KT.refl _ _).alloc _).grown (HO.out.alloc _) hg2;have X2:Hid (tI w2 b n):=HX.out.keep K2.out;have s2:=B2.out.size;clear ho2 hg2 c7;have c7:=X2.out.2;rw [HE2.out] at c7;obtain ⟨d0,-,-,-,-,-,-⟩:=X2.out.1.2
   go_wp2_with fail
   refine (Qa w2 base v2 _ n.nd.path O2.out (by omega) (by simp;omega) (by omega)).mono ?_;rintro e w3 ⟨v3,rfl,o3,b3,k3⟩;have O3:Hid (Own .u8 5 w3 base v3 (xs++OK n)):=by rw [ZG.out,←ZO];exact o3
   have B3:=ZU (B2.out.trans b3);have K3:=ZU (K2.out.trans k3);clear o3 b3 k3 O2 X2 d0 c7;go_wp2;go_ret;exact ⟨_,rfl,O3.out,B3.out,K3.out⟩
 have ZG:Hid (OK n=[1]++Vy n.nd):=e3;have HE2:Hid (Hx n=1):=e2;rw [e2] at c7;clear e2 e3 HE
 go_enter Tryz.func171,Tryz.ntmps171
 go_wp2_with (at_builtin;go_must (refine Yn _ rfl _ _ 22 rfl base 5 i0 (.int .u8 0) 1 1 Tryz.underlying22 hi hz0 hz1 hz2 rfl (by decide) _ _ _ rfl (WP HO.out _) ⟨w.heap.size,0,none⟩ 1 1 [.int .u8 1] rfl rfl (XW _ _ _) (by intro u hu;simp at hu;subst hu;rfl) ?f3 ?f4 ?f5 ?_))
 case f3=>unfold maxLen;omega
 case f4=>omega
 case f5=>simp;omega
 intro v2 w2 ho2 hg2 _;have O2:Hid (Own .u8 5 w2 base v2 (xs++[1])):=by
  refine QY (q:=xs.length+1) (ys:=xs++[1]) (by simp) rfl ?_;rw [Y6];exact ho2
 have B2:Hid (Below base w w2):=(Yy.alloc hb _).grown hg2 (by simp;omega) (fun q hq=>(ZT HO.out q hq).1);have K2:Hid (KT 5 w w2):=((KT.refl _ _).alloc _).grown (HO.out.alloc _) hg2;have X2:Hid (tI w2 b n):=HX.out.keep K2.out;have s2:=B2.out.size;clear ho2 hg2 c7;have c7:=X2.out.2;rw [HE2.out] at c7
 go_wp2_with fail
 refine (PC w2 base v2 _ b n.nd O2.out (by omega) (by simp;omega) X2.out.1 HN.out).mono ?_;rintro e w3 ⟨v3,rfl,o3,b3,k3⟩;have O3:Hid (Own .u8 5 w3 base v3 (xs++OK n)):=by rw [ZG.out,←ZO];exact o3
 have B3:=ZU (B2.out.trans b3);have K3:=ZU (K2.out.trans k3);clear o3 b3 k3 O2 X2 c7;go_wp2;go_ret;exact ⟨_,rfl,O3.out,B3.out,K3.out⟩
def eT (s:ByteArray):Nd:=⟨s,ByteArray.empty,0,0,0,0,0⟩
def eR:List Int→Option (Ef × List Int)
 | []=>none
 | y :: r=>if y=1 then (QF r).map (fun q=>(⟨false,q.1⟩,q.2)) else if y=2 then (DL r).map (fun q=>(⟨true,eT q.1⟩,q.2)) else none
def gy:Nat→List Int→Option (List Ef × List Int)
 | 0,ys=>some ([],ys)
 | c+1,ys =>
  match eR ys with
  | none=>none
  | some (e,r)=>(gy c r).map fun q=>(e :: q.1,q.2)
def gx (C:Nat) (ys:List Int) (es:List Ef) (r:List Int) (c:Nat):Prop:=gy C ys=(gy c r).map (fun q=>(es++q.1,q.2))∧es.length+r.length≤ys.length
def gv (ys:List Int):Nat:=Uh ((ys.drop 4).take 2)
def zX (ys:List Int):Nat:=Uh (ys.take 4)
def eQ (es:List Ef):Prop:=∀n ∈ es,n.nd.path.size<256∧n.nd.data.size<256
def Hw (w:World) (B:Nat) (z:Int) (v:Value):Prop:=B<w.heap.size∧w.cell? ⟨B,0,none⟩=some (.int .i64 z)∧w.cell? ⟨B,1,none⟩=some v
theorem Hw.below {x:Int} {y:Value} (h:Hw w b x y) (hb:Zi w w'):Hw w' b x y :=
 ⟨ZY h.1 hb.size,(hb.cell (p:=⟨b,0,none⟩) h.1).trans h.2.1,(hb.cell (p:=⟨b,1,none⟩) h.1).trans h.2.2⟩
theorem Hw.new (w:World) (x:Int) (y:Value) (t:TypeId):Hw (w.alloc (.cells #[.int .i64 x,y] t)) w.heap.size x y:=⟨by simp,by simp,by simp⟩
def Zx (W:World) (k:Nat):Prop:=k<W.heap.size∧W.cell? ⟨k,0,none⟩=some (.bool false)∧W.cell? ⟨k,1,none⟩=some (.int .i64 0)∧W.cell? ⟨k,2,none⟩=some (.slice none 0 0)∧∀j,W.frozen? ⟨k,j,none⟩=false
def B2 (W:World) (k:Nat) (z:Int) (v:Value):Prop:=k<W.heap.size∧W.cell? ⟨k,0,none⟩=some (.int .i64 z)∧W.cell? ⟨k,1,none⟩=some v∧∀j,W.frozen? ⟨k,j,none⟩=false
def SX (w:World) (ys:List Int) (W:World) (v:Value) (es:List Ef) (p c:Nat):Prop :=
 gx (gv ys) (ys.drop 6) es (ys.drop p) c∧eQ es∧Zi w W∧Zx W w.heap.size∧B2 W (w.heap.size+1) (zX ys) v∧UN 249 W (w.heap.size+2) v es
attribute [local go_sem] Yv
theorem zK (F:Fence) (n:Nat) (h87:F.fn 179) (hro:F.round=none) (ao:Option Addr) (m cap:Nat) (w:World) :
    CallsIn F n Tryz.prog 179 #[.slice ao m cap] w fun e w'=>e=.returned (.func (.func 206) #[] #[.pointer (some ⟨w.heap.size,0,none⟩)])∧w'=w.alloc (.cells #[.slice ao m cap] 22):=by
 refine Xb Tryz.func179 rfl h87 ?_ hro
 simp only [Tryz.ntmps179,ZI,ZE,Y7,Nat.reduceAdd,Nat.reduceSub,YV,YU,YI,YT,Zd,Y3]
 gi_wp2;go_ret;exact ⟨rfl,rfl⟩
theorem rD {a:List Int} (h:Rd .u8 w (.slice ao n cap) a) (hl:a.length=n) (blk o:Nat) (he:ao=some ⟨blk,o,none⟩) (p:Nat) (hp:p≤n):Rd .u8 w (.slice (some ⟨blk,o+p,none⟩) (n - p) (cap - p)) (a.drop p):=by
 obtain ⟨nY,cap',e,h1,h2,h3⟩:=h
 simp only [ZC] at e
 obtain ⟨rfl,hn,rfl⟩:=e;have hlen:(a.drop p).length=n - p:=by rw [ZS];omega
 refine ⟨_,cap - p,by rw [hlen],by omega,by omega,?_⟩
 rcases h3 with rfl | ⟨b,o',e2,hb,hc⟩
 · exact .inl (by simp)
 rw [he] at e2
 simp only [ZK,Ym,VB] at e2
 obtain ⟨rfl,rfl⟩:=e2;refine .inr ⟨blk,o+p,rfl,hb,fun j hj=>?_⟩;rw [hlen] at hj;have:=hc (p+j) (by omega);rw [Xu,this]
 simp [List.getD,Yt]
theorem vT (w:World) (ao:Option Addr) (cap:Nat) (hc:cap≤maxLen):Rd .u8 w (.slice ao 0 cap) []:=⟨ao,cap,rfl,Zu _,hc,.inl rfl⟩
attribute [local go_sem] Yv
theorem VD {z:Nat} {xs:List Value} (h:W.ownsRow lo e z v n xs) (hg:W.grownBy W' row) (hr:∀r,row=some r→∃o:Obj,W.heap[r]?=some o∧o.isCells=false):W'.ownsRow lo e z v n xs:=by
 refine ⟨h.1,?_⟩
 rcases h.2 with hn | ⟨g,cap,cur,rfl,hbg,hgg,rest⟩
 · exact .inl hn
 refine .inr ⟨g,cap,cur,rfl,hbg,?_,rest⟩;rw [hg.block g (Z3.1 hgg).1 (fun e=>by obtain ⟨o,ho,hc⟩:=hr g e.symm;rw [hgg] at ho;injection ho with ho;rw [←ho] at hc;cases hc)];exact hgg
theorem Vf (h:Zi X Y):KeepsFrom B X Y:=⟨h.size,fun k _ _ hk _=>(h.block k (Z3.1 hk).1).trans hk⟩
theorem zJ {z:Nat} {xs:List Value} (h:X.ownsRow lo e z v n xs) (hg:X.grownBy Y v.ownBlock):KeepsFrom B X Y:=by
 refine ⟨hg.size,fun k o _ hk ho=>(hg.block k (Z3.1 hk).1 (fun e=>?_)).trans hk⟩
 rcases h.2 with ⟨rfl,-⟩ | ⟨g,cap,cur,rfl,-,hgg,-⟩
 · cases e
 simp only [Value.ownBlock,ZK] at e
 subst e;rw [hgg] at hk
 injection hk with hk
 rw [←hk] at ho;cases ho
theorem kt (w:World) (B j:Nat) (u:Value):w.grownBy (w.setCell ⟨B,j,none⟩ u) (some B):=⟨rfl,rfl,rfl,by simp,fun k _ hne=>Below.heap_setCell _ _ _ _ (fun e=>hne (by rw [e]))⟩
def fr (xs:List Int):List Int :=
 if xs.length=0∨2000<xs.length then [] else [128+((pk xs).length:Int) / 128,128+((pk xs).length:Int) % 128]++pk xs
theorem kr (h:xs.length=0∨2000<xs.length):fr xs=[]:=Z0 h
theorem vS (h0:0<xs.length) (h1:xs.length≤2000):fr xs=[128+((pk xs).length:Int) / 128,128+((pk xs).length:Int) % 128]++pk xs:=Z1 (by omega)
theorem EW (w w':World) (k:IntKind) (e:TypeId):Own k e w' w.heap.size (.slice none 0 0) []:=ZH _ _ _ _
theorem Hv (w:World) (ao:Option Addr) (n cap:Nat) (hn:n≤1099511627776) (h:n=0∨2000<n) :
    Calls Tryz.prog 127 #[.slice ao n cap] w fun e w'=>∃v',e=.returned v'∧Own .u8 5 w' w.heap.size v' []∧Zi w w':=by
 rcases h with rfl | h
 · go_enter Tryz.func127,Tryz.ntmps127
   go_wp2;go_ret;exact ⟨_,rfl,EW _ _ _ _,Yy⟩
 have h1:((n:Int) == 0)=false:=YH.2 (by omega);have h2:(2000:Int)<(n:Int):=by omega
 go_enter Tryz.func127,Tryz.ntmps127
 go_wp2;go_ret;exact ⟨_,rfl,EW _ _ _ _,Yy⟩
theorem zI {base:Nat} (h:Own k e w base (.slice (some ⟨g,0,none⟩) n cap) xs):∀j u,(xs.map (Value.int k))[j]?=some u→w.cell? ((⟨g,0,none⟩:Addr).add j)=some u :=
 Ys h rfl
theorem JS (w:World) (v:Value) (xs:List Int) (h:Rd .u8 w v xs) (hby:Sn xs) (h0:0<xs.length) (h1:xs.length≤2000) :
    Calls Tryz.prog 127 #[v] w fun e w'=>∃v',e=.returned v'∧Own .u8 5 w' w.heap.size v' (fr xs)∧Zi w w':=by
 obtain ⟨i0,hi,hz0,hz1,hz2⟩:=YN Tryz.QZ;rw [vS h0 h1];have HR:Hid (Rd .u8 w v xs):=h;obtain ⟨ao,cap,rfl,_,_⟩:=h.len;clear h;have t1:((xs.length:Int) == 0)=false:=YH.2 (by omega);have t2:¬(2000:Int)<(xs.length:Int):=by omega
 go_enter Tryz.func127,Tryz.ntmps127
 go_wp2_with fail
 refine (IN _ _ xs HR.out hby (by omega)).mono ?_;rintro e w1 ⟨v1,rfl,o1,b1⟩;have hpl:=Jz xs
 rcases o1.row with ⟨rfl,h3⟩ | ⟨g,cp,rfl,hbg,hmc,hcm⟩
 · have:=ZM List.length h3;rw [hpl] at this;simp at this;omega
 have hm0:(pk xs).length≤2286:=by omega
 have hm1:2≤(pk xs).length:=by omega
 have XO:Hid (Own .u8 5 w1 w.heap.size (.slice (some ⟨g,0,none⟩) (pk xs).length cp) (pk xs)):=o1;have HB1:Hid (Zi w w1):=b1;have hsz:=b1.size;have hgl:g<w1.heap.size:=(o1.lt g rfl).2;generalize hm:(pk xs).length=m at *;have HM:Hid ((pk xs).length=m):=hm;clear hm hpl o1 b1 t1 t2 h0 h1
 go_wp2_with (at_make;go_must (refine Vh _ rfl _ _ 22 rfl w1.heap.size 5 i0 (.int .u8 0) 1 Tryz.underlying22 hi hz0 hz1 _ _ _ (2+m) rfl rfl ?b1 ?b2 ?b3 ?b4 ?_))
 case b1=>omega
 case b2=>rw [hz2];omega
 case b3=>unfold maxLen;omega
 case b4=>exact YR
 intro w2 ho2 hg2;have HB2:Hid (Zi w1 w2):=Yy.grown hg2 YR (by simp);have hsz2:=hg2.size;clear hg2;have e1:bits .or .u8 128 ((m:Int) / 128)=128+(m:Int) / 128:=IS _ (by omega) (by omega);have e2:bits .or .u8 128 ((m:Int) % 128)=128+(m:Int) % 128:=IS _ (by omega) (by omega);have e3:bits .and .i64 (m:Int) 127=(m:Int) % 128:=i64_and127 _
 go_wp2_with (at_builtin;go_must (refine WG _ rfl (.tmp 19) (.tmp 30) 22 rfl w1.heap.size 5 i0 1 Tryz.underlying22 hi hz1 w1.heap.size 0 (2+m) _ rfl (ho2.alloc _) ⟨w2.heap.size,0,none⟩ 2 2 [.int .u8 (128+(m:Int) / 128),.int .u8 (128+(m:Int) % 128)] rfl rfl (cell_two_new _ _ _ _) (by intro u hu;simp at hu;rcases hu with rfl | rfl <;> rfl) (by omega) ?_))
 intro w3 ho3 hg3;have HB3:Hid (Zi w1 w3):=(HB2.out.alloc hsz2 _).grown hg3 (by simp;omega) (by intro k hk;simp at hk;omega);have XI:=hg3.size;clear hg3 ho2 e1 e2 e3;have YG:=ZU (XO.out.below HB3.out)
 go_wp2_with (at_builtin;go_must (refine WG _ rfl (.tmp 32) (.tmp 33) 22 rfl w1.heap.size 5 i0 1 Tryz.underlying22 hi hz1 w1.heap.size 2 (2+m) _ rfl ho3 ⟨g,0,none⟩ m cp ((pk xs).map (Value.int .u8)) rfl ?c0 (zI YG.out) (Yi _ _) (by omega) ?_))
 case c0=>rw [Zl,HM.out,Yr]
 intro w4 GJ hg4;have nO:Hid (Zi w1 w4):=HB3.out.grown hg4 (by have:=HB3.out.size;omega) (by intro k hk;simp at hk;omega);clear hg4 ho3;go_wp2;go_ret;have Rb:Own .u8 5 w4 w1.heap.size (.slice (some ⟨w1.heap.size,0,none⟩) (2+m) (2+m)) ([128+((pk xs).length:Int) / 128,128+((pk xs).length:Int) % 128]++pk xs):=by
  rw [HM.out];exact QY (q:=2+m) (by rw [ZZ,HM.out];rfl) rfl (by rw [Y6];exact GJ)
 exact ⟨_,rfl,Rb.mono hsz,HB1.out.trans (nO.out.mono hsz)⟩
theorem JR (w:World) (v:Value) (xs:List Int) (h:Rd .u8 w v xs) (hby:Sn xs) (hn:xs.length≤1099511627776) :
    Calls Tryz.prog 127 #[v] w fun e w'=>∃v',e=.returned v'∧Own .u8 5 w' w.heap.size v' (fr xs)∧Zi w w':=by
 by_cases hc:xs.length=0∨2000<xs.length
 · rw [kr hc]
   obtain ⟨ao,cap,rfl,_,_⟩:=h.len;exact Hv w ao _ cap hn hc
 exact JS w v xs h hby (by omega) (by omega)
def Good (ns:List Nd):Prop:=∀n ∈ ns,Wl n=true
theorem zH (h:WE ns=true):Good ns:=by
 unfold WE TY at h
 simp only [ZA,Yw,Yb] at h
 intro n hn;obtain ⟨i,hi,rfl⟩:=List.mem_iff_getElem.1 hn;have:=h.2 i hi;unfold MS at this
 simp only [ZA] at this
 rw [WF hi] at this;exact this.1
theorem rC (h:Good ns) (k:Nat) (hk:k<ns.length):Wl (Ye ns k)=true:=by rw [WF hk];exact h _ (YP hk)
theorem rB (h:Good ns) (i:Nat):(Ye ns i).path.size≤1048576∧(Ye ns i).data.size≤1048576:=by
 by_cases hi:i<ns.length
 · have:=TX (rC h i hi)
   exact ⟨by omega,by omega⟩
 unfold Ye;rw [Xy,Yk (by omega)];exact ⟨by simp [nd0],by simp [nd0]⟩
def MV (W:World) (b:Nat) (x0 x1 x2 x3:Value):Prop:=b<W.heap.size∧(W.cell? ⟨b,0,none⟩=some x0∧W.cell? ⟨b,1,none⟩=some x1∧W.cell? ⟨b,2,none⟩=some x2∧W.cell? ⟨b,3,none⟩=some x3)∧(W.frozen? ⟨b,0,none⟩=false∧W.frozen? ⟨b,1,none⟩=false∧W.frozen? ⟨b,2,none⟩=false∧W.frozen? ⟨b,3,none⟩=false)
theorem MV.Xe (h:MV W b x0 x1 x2 x3) (hb:Below B W W') (hB:b<B):MV W' b x0 x1 x2 x3 :=
 ⟨ZY h.1 hb.size,⟨(hb.cell (p:=⟨b,0,none⟩) hB).trans h.2.1.1,(hb.cell (p:=⟨b,1,none⟩) hB).trans h.2.1.2.1,(hb.cell (p:=⟨b,2,none⟩) hB).trans h.2.1.2.2.1,(hb.cell (p:=⟨b,3,none⟩) hB).trans h.2.1.2.2.2⟩,
  (hb.frozen (p:=⟨b,0,none⟩) hB).trans h.2.2.1,(hb.frozen (p:=⟨b,1,none⟩) hB).trans h.2.2.2.1,(hb.frozen (p:=⟨b,2,none⟩) hB).trans h.2.2.2.2.1,(hb.frozen (p:=⟨b,3,none⟩) hB).trans h.2.2.2.2.2⟩
theorem MV.below (h:MV W b x0 x1 x2 x3) (hb:Zi W W'):MV W' b x0 x1 x2 x3:=h.Xe hb h.1
theorem MV.new (W:World) (x0 x1 x2 x3:Value) (t:TypeId):MV (W.alloc (.cells #[x0,x1,x2,x3] t)) W.heap.size x0 x1 x2 x3:=⟨by simp,⟨by simp,by simp,by simp,by simp⟩,by simp,by simp,by simp,by simp⟩
def Bp (w:World) (vt:Value) (W:World):Prop:=Zi w W∧w.heap.size+2≤W.heap.size∧W.cell? ⟨w.heap.size,0,none⟩=some vt∧MV W (w.heap.size+1) (.slice none 0 0) (.int .i64 0) (.int .i64 0) (.int .i64 0)
theorem Bp.Xe (h:Bp w vt W) (hb:Below B W W') (hB:w.heap.size+2≤B):Bp w vt W' :=
 ⟨h.1.trans (hb.mono (by omega)),ZJ h.2.1 hb.size,(hb.cell (p:=⟨w.heap.size,0,none⟩) (by show w.heap.size<_;omega)).trans h.2.2.1,h.2.2.2.Xe hb (by omega)⟩
theorem Bp.below (h:Bp w vt W) (hb:Zi W W'):Bp w vt W':=h.Xe hb h.2.1
theorem Bp.new (w:World) (vt:Value) (t1 t2:TypeId):Bp w vt ((w.alloc (.cells #[vt] t1)).alloc (.cells #[.slice none 0 0,.int .i64 0,.int .i64 0,.int .i64 0] t2)):=by
 refine ⟨(Yy.alloc YR _).alloc (by simp) _,by simp,?_,?_⟩
 · exact ((Yy.alloc YR _).cell (p:=⟨w.heap.size,0,none⟩) (show w.heap.size<_ by simp)).trans (by simp)
 have:=MV.new (w.alloc (.cells #[vt] t1)) (.slice none 0 0) (.int .i64 0) (.int .i64 0) (.int .i64 0) t2
 simpa using this
theorem MV.set0 (h:MV W b x0 x1 x2 x3) (u:Value):MV (W.setCell ⟨b,0,none⟩ u) b u x1 x2 x3 :=
 ⟨by simpa using h.1,⟨Zk _ _ _ h.2.1.1,(ZV _ _ _ _ (by simp)).trans h.2.1.2.1,(ZV _ _ _ _ (by simp)).trans h.2.1.2.2.1,(ZV _ _ _ _ (by simp)).trans h.2.1.2.2.2⟩,by simpa using h.2.2.1,by simpa using h.2.2.2.1,by simpa using h.2.2.2.2.1,by simpa using h.2.2.2.2.2⟩
theorem MV.set1 (h:MV W b x0 x1 x2 x3) (u:Value):MV (W.setCell ⟨b,1,none⟩ u) b x0 u x2 x3 :=
 ⟨by simpa using h.1,⟨(ZV _ _ _ _ (by simp)).trans h.2.1.1,Zk _ _ _ h.2.1.2.1,(ZV _ _ _ _ (by simp)).trans h.2.1.2.2.1,(ZV _ _ _ _ (by simp)).trans h.2.1.2.2.2⟩,by simpa using h.2.2.1,by simpa using h.2.2.2.1,by simpa using h.2.2.2.2.1,by simpa using h.2.2.2.2.2⟩
theorem MV.set2 (h:MV W b x0 x1 x2 x3) (u:Value):MV (W.setCell ⟨b,2,none⟩ u) b x0 x1 u x3 :=
 ⟨by simpa using h.1,⟨(ZV _ _ _ _ (by simp)).trans h.2.1.1,(ZV _ _ _ _ (by simp)).trans h.2.1.2.1,Zk _ _ _ h.2.1.2.2.1,(ZV _ _ _ _ (by simp)).trans h.2.1.2.2.2⟩,by simpa using h.2.2.1,by simpa using h.2.2.2.1,by simpa using h.2.2.2.2.1,by simpa using h.2.2.2.2.2⟩
theorem MV.gt (h:MV W b x0 x1 x2 x3) (u:Value):MV (W.setCell ⟨b,3,none⟩ u) b x0 x1 x2 u :=
 ⟨by simpa using h.1,⟨(ZV _ _ _ _ (by simp)).trans h.2.1.1,(ZV _ _ _ _ (by simp)).trans h.2.1.2.1,(ZV _ _ _ _ (by simp)).trans h.2.1.2.2.1,Zk _ _ _ h.2.1.2.2.2⟩,by simpa using h.2.2.1,by simpa using h.2.2.2.1,by simpa using h.2.2.2.2.1,by simpa using h.2.2.2.2.2⟩
def PU (v:Value):Prop:=∀n c,v=.slice none n c→n=0∧c=0
theorem XU.qi (h:XU e w lo v ns):PU v:=by
 intro n c hv
 rcases h.2 with ⟨rfl,_⟩ | ⟨g,cap,cur,rfl,_⟩
 · simp only [ZC,Q0] at hv
   exact ⟨hv.1.symm,hv.2.symm⟩
 simp at hv
theorem zG {L:Nat} (h:(YE (R.take L))[j]?=some u):(YE R)[j]?=some u:=by
 have e:YE R=YE (R.take L)++YE (R.drop L):=by rw [←Wd,YQ]
 rw [e,Zy (Zh.1 h).1];exact h
theorem SK.Kz (h:SK w (.slice ao R.length c) R):∀ad,ao=some ad→∀j u,(YE R)[j]?=some u→w.cell? (ad.add j)=some u:=by
 obtain ⟨nY,c',e,-,-,h3⟩:=h
 simp only [ZC] at e
 obtain ⟨rfl,-,rfl⟩:=e;intro ad had j u hu
 rcases h3 with rfl | ⟨b,o,rfl,hb,hc⟩
 · simp [YE] at hu
 obtain rfl:=Zc had;have hj:j<R.length*7:=by have:=(Zh.1 hu).1;rw [Xw] at this;exact this
 have h7:j % 7<7:=Wg _ (by decide);have hr:=NQ R (j / 7) (j % 7) (by omega) h7;rw [show j / 7*7+j % 7=j by omega,hu] at hr;have hcc:=hc (j / 7) (by omega);rw [YY];have e:o+j=o+j / 7*7+j % 7:=by omega
 rw [e];clear e hu hj;generalize j % 7=r at *
 match r,h7 with
 | 0,_=>rw [Yj,hcc.c0];exact hr.symm
 | 1,_=>rw [hcc.c1];exact hr.symm
 | 2,_=>rw [hcc.c2];exact hr.symm
 | 3,_=>rw [hcc.c3];exact hr.symm
 | 4,_=>rw [hcc.c4];exact hr.symm
 | 5,_=>rw [hcc.c5];exact hr.symm
 | 6,_=>rw [hcc.c6];exact hr.symm
theorem Ky (R:List Nd):∀u ∈ YE R,u.oneCell'=true:=by
 intro u hu;unfold YE at hu;obtain ⟨n,_,hn⟩:=List.mem_flatMap.1 hu;exact Pb n u hn
theorem vR (ao:Option Addr) (n c L:Nat) (h1:L≤n) (h2:n≤c) (W:World):(Instr.slice 61 (.slice ao n c) none (some (.int .i64 (L:Int))) none).run Tryz.prog W=.ok (.slice ao L c) W:=by
 have h:(0:Int)≤(L:Int):=by omega
 have h':(L:Int)≤(c:Int):=by omega
 have he:Tryz.prog.elem 61=147:=by kernel_rfl
 rw [run_slice_h W 61 ao n c (by rw [he];exact Tryz.underlying61) .i64 (L:Int) h h',he];go_simp
theorem vQ (ao:Option Addr) (n c L:Nat) (h1:L≤n) (W:World):(Instr.slice 61 (.slice ao n c) (some (.int .i64 (L:Int))) none none).run Tryz.prog W=.ok (.slice (if c=L then ao else ao.map (·.add (L*7))) (n - L) (c - L)) W:=by
 have h:(0:Int)≤(L:Int):=by omega
 have h':(L:Int)≤(n:Int):=by omega
 have he:Tryz.prog.elem 61=147:=by kernel_rfl
 rw [run_slice_l W 61 ao n c (by rw [he];exact Tryz.underlying61) .i64 (L:Int) h h',he];go_simp
theorem Kx (h:SK w (.slice ao R.length c) R) (hn:PU (.slice ao R.length c)) (L:Nat) (hL:L≤R.length) :
    ∃a2,(∀W,(Instr.slice 61 (.slice ao R.length c) (some (.int .i64 (L:Int))) none none).run Tryz.prog W=.ok (.slice a2 (R.length - L) (c - L)) W)∧SK w (.slice a2 (R.length - L) (c - L)) (R.drop L)∧PU (.slice a2 (R.length - L) (c - L)):=by
 obtain ⟨nY,c',e,h1,h2,h3⟩:=h
 simp only [ZC] at e
 obtain ⟨rfl,-,rfl⟩:=e;refine ⟨if c=L then ao else ao.map (·.add (L*7)),vQ ao _ c L hL,⟨_,_,by rw [ZS],by rw [ZS];omega,by omega,?_⟩,?_⟩
 · rcases h3 with rfl | ⟨b,o,rfl,hb,hc⟩
   · exact .inl (by simp)
   by_cases hcl:c=L
   · exact .inl (Xx (by omega))
   refine .inr ⟨b,o+L*7,by rw [Z1 hcl,Sy,YY],hb,fun i hi=>?_⟩;rw [ZS] at hi;have:=hc (L+i) (by omega);have e1:Ye (R.drop L) i=Ye R (L+i):=by unfold Ye;simp [List.getD]
   rw [e1,show o+L*7+i*7=o+(L+i)*7 by omega];exact this
 intro n' c2 hv
 simp only [ZC] at hv
 obtain ⟨ha,rfl,rfl⟩:=hv;have hao:ao=none:=by
  by_cases hcl:c=L
  · rw [Z0 hcl] at ha;exact ha
  rw [Z1 hcl] at ha;simpa using ha
 subst hao;have:=hn _ _ rfl;omega
theorem vP (ns:List Nd) (es:List Ef):(LL ns es).2.length≤ns.length:=by
 have:∀(es:List Ef) (st:List Nd × List Nd),(es.foldl Eb st).2.length≤st.2.length:=by
  intro es
  induction es with
  | nil=>exact fun st=>YR
  | cons e es ih =>
   intro st;rw [WS];refine ZJ (ih _) ?_;unfold Eb;rw [ZS];omega
 exact this es ([],ns)
theorem NH.grown {n:Ef} (h:NH w B n) (hg:w.grownBy w' (some g)) (hne:B≠g):NH w' B n:=by
 have e:=hg.block B h.lt (by simpa using hne);have cc:∀i,w'.cell? ⟨B,i,none⟩=w.cell? ⟨B,i,none⟩:=fun i=>by simp [World.cell?,e]
 have hs:=hg.size;exact ⟨ZY h.lt hs,(cc _).trans h.c0,(cc _).trans h.c1,(cc _).trans h.c2,(cc _).trans h.c3,(cc _).trans h.c4,(cc _).trans h.c5,(cc _).trans h.c6,(cc _).trans h.c7⟩
structure iX (w:World) (g C:Nat) (st:List Nd × List Nd) (v:Value) (z:Int) (vx:Value) (vo vr:Value) (W:World):Prop where
 own:W.ownsRow (w.heap.size+3) 147 7 vo st.1.length (YE st.1)
 head:vo=.slice (some ⟨g,0,none⟩) st.1.length C
 rest:SK w vr st.2
 nil:PU vr
 below:Below w.heap.size w W
 box:tJ w.heap.size v z vx W
theorem JQ (w:World) (v:Value) (ns:List Nd) (z:Int) (vx:Value) (es:List Ef) (h:SK w v ns) (hnil:PU v) (hx:Gu w vx es)
    (hsz:∀i,(Ye ns i).path.size≤1048576∧(Ye ns i).data.size≤1048576) (hsx:∀i,(Vr es i).nd.path.size≤1048576∧(Vr es i).nd.data.size≤1048576) :
    Calls Tryz.prog 128 #[.agg #[v],.agg #[.int .i64 z,vx]] w fun e w'=>∃v',e=.returned (.agg #[v'])∧XU 147 w' w.heap.size v' (PQ ns z es)∧Below w.heap.size w w':=by
 obtain ⟨i0,hi,hz0,hz1,hz2⟩:=YN Tryz.Ml;obtain ⟨ao,ca,rfl,_,_⟩:=h.len;obtain ⟨xo,cx,rfl,_,_⟩:=hx.len;have HR:=ZU h;have HX:=ZU hx;have HN:=ZU hnil;have HZ:=ZU hsz;have rA:=ZU hsx;have B0:Hid (Below w.heap.size w (((w.alloc (.cells #[.slice ao ns.length ca] 63)).alloc (.cells #[.int .i64 z,.slice xo es.length cx] 192)).alloc (.cells #[.slice none 0 0] 63))):=((Yy.alloc YR _).alloc (by simp) _).alloc (by simp;omega) _;have X0:Hid (tJ w.heap.size (.slice ao ns.length ca) z (.slice xo es.length cx) (((w.alloc (.cells #[.slice ao ns.length ca] 63)).alloc (.cells #[.int .i64 z,.slice xo es.length cx] 192)).alloc (.cells #[.slice none 0 0] 63))):=tJ.new _ _ _ _;clear h hx hsz hsx hnil
 go_enter Tryz.func128,Tryz.ntmps128
 go_wp2_with fail
 generalize ((w.alloc _).alloc _).alloc _=w0 at *;refine (UM _ _ ns (HR.out.below B0.out) HZ.out).mono ?_;rintro e w1 ⟨rfl,b1⟩;have B1:=ZU (WD B0.out b1);have X1:=ZU (X0.out.below b1 X0.out.size);clear b1 X0 B0
 by_cases hok:WE ns=true
 rotate_left
 · have hok':WE ns=false:=by simpa using hok
   have HT:Hid (PQ ns z es=[]):=by show _=_;unfold PQ;rw [hok'];rfl
   rw [hok'];clear hok hok';have c0:=X1.out.r.cell;have f0:=X1.out.r.frozen;go_wp2;refine ZW (v:=.agg #[.slice none 0 0]) (by simp [results,Tryz.results128,go_sem,c0]) rfl ⟨_,rfl,(by rw [HT.out];exact ZH _ _ _ _),?_⟩
   repeat (first | exact B1.out | refine Below.setCell ?_ (by simp;try omega) _)
 rw [hok];have XN:=X1.out.x.cells
 go_wp2_with fail
 clear XN;refine (Pz _ _ _ es (HX.out.below B1.out) rA.out).mono ?_;rintro e w2 ⟨rfl,b2⟩;have B2:=ZU (WD B1.out b2);have X2:=ZU (X1.out.below b2 X1.out.size);clear b2 X1 B1
 by_cases qs:Tm z es=true
 rotate_left
 · have Z':Tm z es=false:=by simpa using qs
   have HT:Hid (PQ ns z es=[]):=by show _=_;unfold PQ;rw [Z'];simp
   rw [Z'];clear qs Z' hok;have c0:=X2.out.r.cell;have f0:=X2.out.r.frozen;go_wp2;refine ZW (v:=.agg #[.slice none 0 0]) (by simp [results,Tryz.results128,go_sem,c0]) rfl ⟨_,rfl,(by rw [HT.out];exact ZH _ _ _ _),?_⟩
   repeat (first | exact B2.out | refine Below.setCell ?_ (by simp;try omega) _)
 have hn1:=Ok hok;have he1:=(Gc qs).2;have HT:Hid (PQ ns z es=BU ns es):=by show _=_;unfold PQ;rw [hok,qs];rfl
 have HA:=ZU (Lh hok);have HE:=ZU (xW (Gc qs).1);rw [qs];clear hok qs;have ct:=X2.out.t.cell;obtain ⟨y0,y1⟩:=X2.out.x.cells;have s2:=X2.out.size;generalize hen:es.length=n at *;have HP:=ZU hen;clear hen;generalize hnn:ns.length=m at *;have HM:=ZU hnn;clear hnn
 go_wp2_with (at_make;go_must (refine Vh _ rfl _ _ 61 rfl (w.heap.size+3) 147 i0 (.agg #[.string ByteArray.empty,.string ByteArray.empty,.int .i64 0,.int .i64 0,.int .i64 0,.int .i64 0,.int .i64 0]) 7 Tryz.underlying61 hi hz0 hz1 _ _ _ (m+n) rfl rfl ?c0 ?b2 ?b3 ?b4 ?_))
 case c0=>omega
 case b2=>rw [hz2];omega
 case b3=>unfold maxLen;omega
 case b4=>exact s2
 intro w3 ho3 hg3;have BG:=ZU (Yy.grown hg3 YR (fun q hq=>by simp at hq));have S3:Hid (iX w w2.heap.size (m+n) (LL ns (es.take 0)) (.slice ao m ca) z (.slice xo n cx) (.slice (some ⟨w2.heap.size,0,none⟩) 0 (m+n)) (.slice ao m ca) w3):=⟨ho3,rfl,HR.out,HN.out,WD B2.out BG.out,X2.out.below BG.out s2⟩;clear ho3 hg3 BG ct y0 y1;have ct:=S3.out.box.t.cell;obtain ⟨y0,y1⟩:=S3.out.box.x.cells;generalize hg:w2.heap.size=g at *;clear X2 B2 hg;go_wp2
 go_loopw [5,6,33] (fun vo vr vk wr=>∃k:Nat,k≤n∧vk=.int .i64 k∧Hid (iX w g (m+n) (LL ns (es.take k)) (.slice ao m ca) z (.slice xo n cx) vo vr wr)) (fun _ _ i _=>n - (intOf i).toNat)
 case atStart=>exact ⟨0,Zu _,rfl,S3⟩
 case round =>
  clear ct y0 y1 S3;obtain ⟨k,hk,rfl,HS⟩:=hrel;obtain ⟨A,R,I⟩:∃A R,LL ns (es.take k)=(A,R):=⟨_,_,rfl⟩;have hlen:A.length+R.length≤m+k:=by
   have:=BT ns es k;rw [I,HM.out] at this;exact this
  have hrl:R.length≤m:=by
   have:=vP ns (es.take k);rw [I,HM.out] at this;exact this
  have YF:Hid (Asc R):=by
   have:=sR HA.out (es.take k);rw [I] at this;exact this
  have zF:=ZU I;rw [I] at HS;clear I;obtain ⟨ZD,hd0,Z5,ZB,HB0,Z2⟩:=HS.out;obtain ⟨ro,rc,h6,hr1,hr2⟩:=Z5.len;have OW:Hid (XU 147 wr (w.heap.size+3) (.slice (some ⟨g,0,none⟩) A.length (m+n)) A):=by rw [hd0] at ZD;exact ZD
  have RR:Hid (SK w (.slice ro R.length rc) R):=by rw [h6] at Z5;exact Z5
  have NN:Hid (PU (.slice ro R.length rc)):=by rw [h6] at ZB;exact ZB
  have HB:=ZU HB0;have nM:=ZU Z2;have hr1':R.length≤rc:=hr1
  replace hd0:u5=.slice (some ⟨g,0,none⟩) A.length (m+n):=hd0
  replace h6:u6=.slice ro R.length rc:=h6
  subst hd0 h6;clear ZD Z5 ZB HB0 Z2 HS hr1 hr2;have sB:=HB.out.size;have hgl:=(ZT OW.out g rfl).2
  by_cases hlt:k<n
  · have Rj:(k:Int)<(n:Int):=by omega
    obtain ⟨b,o,hao,hb,hc⟩:∃b o,xo=some ⟨b,o,none⟩∧b<w.heap.size∧PI w b (o+k*8) (Vr es k):=by
     obtain ⟨nY,cap',e',-,-,h3⟩:=HX.out
     simp only [ZC] at e'
     obtain ⟨rfl,-,-⟩:=e'
     rcases h3 with h3 | ⟨b,o,rfl,hb,hc⟩
     · have:=HP.out;rw [h3] at this;simp at this;omega
     exact ⟨b,o,rfl,hb,hc k (by rw [HP.out];exact hlt)⟩
    subst hao;obtain ⟨c0,c1,c2,c3,c4,c5,c6,c7⟩:=hc.below HB.out hb;clear hc;have YB:Hid (LL ns (es.take (k+1))=Eb (A,R) (Vr es k)):=by
     show _=_;rw [←zF.out];exact Ga ns es k (by rw [HP.out];exact hlt)
    clear zF
    go_wp2_with fail
    clear c0 c1 c2 c3 c4 c5 c6 c7;generalize Vr es k=f at *;have BA:Hid (Below wr.heap.size wr (wr.alloc (.cells #[.bool f.del,.string f.nd.path,.string f.nd.data,.int .i64 f.nd.XT,.int .i64 f.nd.XQ,.int .i64 f.nd.cz,.int .i64 f.nd.mz,.int .i64 f.nd.pz] 249))):=Yy.alloc YR _;have EX:Hid (NH (wr.alloc (.cells #[.bool f.del,.string f.nd.path,.string f.nd.data,.int .i64 f.nd.XT,.int .i64 f.nd.XQ,.int .i64 f.nd.cz,.int .i64 f.nd.mz,.int .i64 f.nd.pz] 249)) wr.heap.size f):=NH.new _ _ _;generalize wr.alloc _=wA at *;generalize hB:wr.heap.size=B at *;have HG:Hid (B≠g):=by show _≠_;omega
    have Yx:=ZU (OW.out.below (hB ▸ BA.out));have B1:=ZU (HB.out.trans (BA.out.mono sB));have X1:=ZU (nM.out.below BA.out (by omega));clear OW HB nM BA hB;obtain ⟨L,hL⟩:∃L,L=Ty R f.nd.path:=⟨_,rfl⟩;have Z4:L≤R.length:=by rw [hL];exact Oi _ _
    have Yh:Hid (Low R f.nd.path L):=by rw [hL];exact BY R _ YF.out
    have HS2:Hid (LL ns (es.take (k+1))=(A++R.take L++(if f.del then [] else [f.nd]),R.drop (L+if NM R f.nd.path L then 1 else 0))):=by
     show _=_;rw [YB.out,hL]
     rfl
    have Yg:Hid (NM R f.nd.path L=true→L<R.length):=by
     intro hh;unfold NM at hh
     simp only [ZA,Zj] at hh
     exact hh.1
    clear YB hL;refine (P9 wA _ R f.nd.path L (RR.out.below B1.out) (by omega) Yh.out).mono ?_;rintro e w4 ⟨rfl,b4⟩;have Yf:=ZU (Yx.out.below b4);have B4:=ZU (WD B1.out b4);have X4:=ZU (X1.out.below b4 X1.out.size);have E4:=ZU (EX.out.below b4);clear b4 Yx B1 X1 EX;have hs1:=vR ro R.length rc L Z4 hr1'
    go_wp2_with (at_builtin;go_must (refine wpList_append_fits_any _ rfl _ _ 61 rfl (w.heap.size+3) 147 i0 7 Tryz.underlying61 hi hz1 g A.length (m+n) (YE A) rfl Yf.out ro L rc (YE (R.take L)) rfl ?n1 ?n2 ?n3 ?n4 ?n5 ?_))
    case n1=>rw [Xw,Zw];omega
    case n2=>exact fun e=>by have:=NN.out R.length rc (by rw [e]);omega
    case n3=>exact fun ad had j u hu=>(RR.out.below B4.out).Kz ad had j u (zG hu)
    case n4=>exact Ky _
    case n5=>omega
    intro w5 Rb hg5;have T:Hid (XU 147 w5 (w.heap.size+3) (.slice (some ⟨g,0,none⟩) (A.length+L) (m+n)) (A++R.take L)):=by
     show World.ownsRow _ _ _ _ _ _ _;rw [ZZ,Zw,YC Z4,Wd];exact Rb
    have B5:=ZU (B4.out.grown hg5 B4.out.size (fun q hq=>by simp only [ZK] at hq;omega));have X5:=ZU (X4.out.below ((Below.refl (w.heap.size+3) w4).grown hg5 X4.out.size (fun q hq=>by simp only [ZK] at hq;omega)) YR);have E5:=ZU (E4.out.grown hg5 HG.out);have G5:=(ZT T.out g rfl).2;clear Rb hg5 Yf B4 X4 E4 hs1;obtain ⟨a2,hs2,r2,n2⟩:=Kx RR.out NN.out L Z4;have R2:=ZU r2;have N2:=ZU n2;clear r2 n2;obtain ⟨e0,e1,e2,e3,e4,e5,e6,e7⟩:=E5.out.all;obtain ⟨vr,Rn,hw⟩:∃vr Rn,(Rn=R.drop (L+if NM R f.nd.path L then 1 else 0)∧Hid (SK w vr Rn)∧Hid (PU vr))∧((NM R f.nd.path L=false∧vr=.slice a2 (R.length - L) (rc - L))∨(NM R f.nd.path L=true∧∀W,(Instr.slice 61 (.slice a2 (R.length - L) (rc - L)) (some (.int .i64 1)) none none).run Tryz.prog W=.ok vr W)):=by
     cases hf:NM R f.nd.path L with
     | false=>exact ⟨_,_,⟨rfl,R2,N2⟩,.inl ⟨rfl,rfl⟩⟩
     | true =>
      have hl:=Yg.out hf;have XM:SK w (.slice a2 (R.drop L).length (rc - L)) (R.drop L):=by rw [ZS];exact R2.out
      have XK:PU (.slice a2 (R.drop L).length (rc - L)):=by rw [ZS];exact N2.out
      obtain ⟨a3,hs3,r3,n3⟩:=Kx XM XK 1 (by rw [ZS];omega);rw [ZS] at hs3 r3 n3;rw [Yc] at r3;exact ⟨_,_,⟨rfl,r3,n3⟩,.inr ⟨rfl,hs3⟩⟩
    obtain ⟨⟨lr,R3,N3⟩,hw⟩:=hw;have AO:Hid (LL ns (es.take (k+1))=(A++R.take L++(if f.del then [] else [f.nd]),Rn)):=by rw [lr];exact HS2.out
    have NR:Hid ((A++R.take L).length=A.length+L):=by show _=_;rw [ZZ,Zw,YC Z4]
    clear HS2 lr
    cases hdel:f.del with
    | true =>
     rw [hdel] at e0;have S9:Hid (iX w g (m+n) (LL ns (es.take (k+1))) (.slice ao m ca) z (.slice (some ⟨b,o,none⟩) n cx) (.slice (some ⟨g,0,none⟩) (A.length+L) (m+n)) vr w5):=by
      have e9:LL ns (es.take (k+1))=(A++R.take L,Rn):=by rw [AO.out,hdel];simp
      rw [e9];exact ⟨T.out,by rw [NR.out],R3.out,N3.out,B5.out,X5.out⟩
     clear AO NR T R3 N3 B5 X5 R2 N2
     rcases hw with ⟨hf,rfl⟩ | ⟨hf,hs3⟩
     · rw [hf]
       go_wp2;exact ⟨⟨k+1,by omega,by go_num,S9⟩,by simp [intOf];omega⟩
     rw [hf];go_wp2;exact ⟨⟨k+1,by omega,by go_num,S9⟩,by simp [intOf];omega⟩
    | false =>
     rw [hdel] at e0;have FIN:Hid (∀w',w'.ownsRow (w.heap.size+3) 147 7 (.slice (some ⟨g,0,none⟩) (A.length+L+1) (m+n)) (A.length+L+1) (YE (A++R.take L)++Uu f.nd)→∀t,(w5.alloc (.cells #[.string f.nd.path,.string f.nd.data,.int .i64 f.nd.XT,.int .i64 f.nd.XQ,.int .i64 f.nd.cz,.int .i64 f.nd.mz,.int .i64 f.nd.pz] t)).grownBy w' (some g)→Hid (iX w g (m+n) (LL ns (es.take (k+1))) (.slice ao m ca) z (.slice (some ⟨b,o,none⟩) n cx) (.slice (some ⟨g,0,none⟩) (A.length+L+1) (m+n)) vr w')):=by
      intro w' how t hgw;have e9:LL ns (es.take (k+1))=(A++R.take L++[f.nd],Rn):=by rw [AO.out,hdel];simp
      have el:(A++R.take L++[f.nd]).length=A.length+L+1:=by rw [ZZ,NR.out];rfl
      rw [e9];have hb3:=((Below.refl (w.heap.size+3) w5).alloc X5.out.size _).grown hgw (by have:=X5.out.size;simp;omega) (fun q hq=>by simp only [ZK] at hq;omega);refine ⟨?_,?_,R3.out,N3.out,B5.out.trans (hb3.mono (by omega)),X5.out.below hb3 YR⟩
      · show World.ownsRow _ _ _ _ _ (A++R.take L++[f.nd]).length (YE (A++R.take L++[f.nd]))
        rw [el,Gf];exact how
      show _=Value.slice _ (A++R.take L++[f.nd]).length _;rw [el]
     have OR:Hid (w5.ownsRow (w.heap.size+3) 147 7 (.slice (some ⟨g,0,none⟩) (A.length+L) (m+n)) (A.length+L) (YE (A++R.take L))):=by
      have:=T.out;unfold XU at this;rw [NR.out] at this;exact this
     clear AO NR T R3 N3 R2 N2
     rcases hw with ⟨hf,rfl⟩ | ⟨hf,hs3⟩
     · rw [hf]
       go_wp2_with (at_builtin;go_must (refine WG _ rfl _ _ 61 rfl (w.heap.size+3) 147 i0 7 Tryz.underlying61 hi hz1 g (A.length+L) (m+n) _ rfl (OR.out.alloc _) ⟨w5.heap.size,0,none⟩ 1 1 (Uu f.nd) rfl rfl (Qp w5 f.nd _) (Pb f.nd) ?q1 ?_))
       case q1=>omega
       intro w6 Z8 nK;have S9:=FIN.out w6 Z8 _ nK;clear FIN OR Z8 nK e0 e1 e2 e3 e4 e5 e6 e7;go_wp2;exact ⟨⟨k+1,by omega,by go_num,S9⟩,by simp [intOf];omega⟩
     rw [hf]
     go_wp2_with (at_builtin;go_must (refine WG _ rfl _ _ 61 rfl (w.heap.size+3) 147 i0 7 Tryz.underlying61 hi hz1 g (A.length+L) (m+n) _ rfl (OR.out.alloc _) ⟨w5.heap.size,0,none⟩ 1 1 (Uu f.nd) rfl rfl (Qp w5 f.nd _) (Pb f.nd) ?q2 ?_))
     case q2=>have:=Yg.out hf;omega
     intro w6 Z8 nK;have S9:=FIN.out w6 Z8 _ nK;clear FIN OR Z8 nK e0 e1 e2 e3 e4 e5 e6 e7;go_wp2;exact ⟨⟨k+1,by omega,by go_num,S9⟩,by simp [intOf];omega⟩
  have hkn:k=n:=by omega
  subst hkn;have HF:Hid (A++R=PQ ns z es):=by
   have:=sQ HA.out HE.out HP.out;rw [zF.out] at this;rw [HT.out];exact this
  clear zF
  go_wp2_with (at_builtin;go_must (refine wpList_append_fits_any _ rfl _ _ 61 rfl (w.heap.size+3) 147 i0 7 Tryz.underlying61 hi hz1 g A.length (m+k) (YE A) rfl OW.out ro R.length rc (YE R) rfl ?m1 ?m2 ?m3 ?m4 ?m5 ?_))
  case m1=>rw [Xw]
  case m2=>exact fun e=>NN.out R.length rc (by rw [e])
  case m3=>exact fun ad had j u hu=>(RR.out.below HB.out).Kz ad had j u hu
  case m4=>exact Ky _
  case m5=>omega
  intro w5 Rb hg5;have T:Hid (XU 147 w5 (w.heap.size+3) (.slice (some ⟨g,0,none⟩) (A.length+R.length) (m+k)) (PQ ns z es)):=by
   rw [←HF.out];show World.ownsRow _ _ _ _ _ _ _;rw [ZZ,Wd];exact Rb
  have B5:=ZU (HB.out.grown hg5 HB.out.size (fun q hq=>by simp only [ZK] at hq;omega));have X5:=ZU (nM.out.below ((Below.refl (w.heap.size+3) wr).grown hg5 nM.out.size (fun q hq=>by simp only [ZK] at hq;omega)) YR);clear Rb hg5 OW HB nM;have c0:=X5.out.r.cell;have f0:=X5.out.r.frozen;go_wp2;refine ZW (v:=.agg #[.slice (some ⟨g,0,none⟩) (A.length+R.length) (m+k)]) (by simp [results,Tryz.results128,go_sem,c0]) rfl ⟨_,rfl,?_,?_⟩
  · refine XU.mono ?_ (show w.heap.size≤w.heap.size+3 by omega)
    repeat (first | exact T.out | refine XU.Vz ?_ (by simp;try omega) _)
  repeat (first | exact B5.out | refine Below.setCell ?_ (by simp;try omega) _)
theorem Dg (w:World) (ao:Option Addr) (cap:Nat) (ns:List Nd) (h:SK w (.slice ao ns.length cap) ns) (hn:ns.length≤1000) :
    Calls Tryz.prog 166 #[.slice ao ns.length cap] w fun e w'=>∃v',e=.returned v'∧XU 147 w' w.heap.size v' ns∧Zi w w':=by
 obtain ⟨i0,hi,hz0,hz1,hz2⟩:=YN Tryz.Ml;have q22:∀(w:World) (a:Option Addr) (n c n' c':Nat),(binOp .eql 61 (.slice a n c) (.slice none n' c')).run Tryz.prog w=.ok (.bool a.isNone) w:=fun w a n c n' c'=>U7 w _ _ a n c n' c' Tryz.underlying61
 have HE:Hid ((w.alloc (.cells #[] 147)).ownsRow w.heap.size 147 7 (.slice (some ⟨w.heap.size,0,none⟩) 0 0) 0 []):=WX w #[] 0 YR (Zu _) rfl;have HB:Hid (Zi w (w.alloc (.cells #[] 147))):=Yy.alloc YR _;have HR:=ZU h
 cases ao with
 | none =>
  have hx:ns=[]:=by
   obtain ⟨a',c',e,-,-,h3⟩:=h
   simp only [ZC] at e
   rcases h3 with h3 | ⟨b,o,e2,_⟩
   · exact h3
   rw [←e.1] at e2;cases e2
  subst hx;clear h HR
  go_enter Tryz.func166,Tryz.ntmps166
  go_wp2;go_ret;exact ⟨_,rfl,ZH _ _ _ _,Yy⟩
 | some a =>
  have kx:Hid (∀j u,(YE ns)[j]?=some u→(w.alloc (.cells #[] 147)).cell? (a.add j)=some u):=fun j u hu=>(HR.out.below HB.out).Kz a rfl j u hu
  clear h;generalize hl:ns.length=m at *;have HL:=ZU hl;clear hl
  go_enter Tryz.func166,Tryz.ntmps166
  go_wp2_with (at_builtin;go_must (refine Yn _ rfl _ _ 61 rfl w.heap.size 147 i0 _ 7 72 Tryz.underlying61 hi hz0 hz1 hz2 rfl (by decide) _ _ _ rfl HE.out a m cap (YE ns) rfl ?c0 kx.out (Ky _) ?c3 ?c4 ?c5 ?_))
  case c0=>rw [Xw,HL.out]
  case c3=>unfold maxLen;omega
  case c4=>omega
  case c5=>simp
  intro v2 w2 ho2 hg2 _;have DT:Hid (XU 147 w2 w.heap.size v2 ns):=by
   show World.ownsRow _ _ _ _ _ _ _;rw [HL.out];exact ho2
  have HG2:=ZU (HB.out.grown hg2 (by simp) (by intro q hq;simp [Value.ownBlock] at hq;omega));clear ho2 hg2;go_wp2;go_ret;exact ⟨_,rfl,DT.out,HG2.out⟩
attribute [local go_sem] Yv
section
variable {P:Program} (w:World)
theorem De (m:Nat):(Builtin.zeroCells (Value.int .u8 0).cells m).toList=List.replicate m (Value.int .u8 0):=by
 apply Tb
 · simp [Builtin.zeroCells,Value.cells]
 intro j h1 h2
 simp [Builtin.zeroCells,Value.cells,Nat.mod_one]
theorem Pk (base:Nat) (t tn ty e:TypeId) (i:TypeInfo) (k kn:IntKind) (ht:P.underlying t=some (.slice e)) (htn:P.underlying tn=some (.int kn)) (hi:P.info? e=some i) (hz:i.zero=some (.int .u8 0))
    (hsize:i.size=1) (hby:i.bytes=1) (g n cap:Nat) (xs:List Value) (hown:w.ownsRow base e 1 (.slice (some ⟨g,0,none⟩) n cap) n xs) (m:Nat) (h0:0<m) (hm:n+m≤1048576) (hbase:base≤w.heap.size) :
    ∃v' w',(Builtin.append_ #[t,tn] ty #[.slice (some ⟨g,0,none⟩) n cap,.int k m]).run P w=.ok v' w'∧w'.ownsRow base e 1 v' (n+m) (xs++List.replicate m (Value.int .u8 0))∧w.grownBy w' (some g):=by
 have hxl:xs.length=n:=by simpa using hown.1
 have hlen:(xs++List.replicate m (Value.int .u8 0)).length=(n+m)*1:=by rw [ZZ,hxl,XJ,Yr]
 have hw:IntKind.i64.wrap (m:Int)=m:=by rw [Zq];omega
 have h63':¬(9223372036854775807<((n:Int)+(m:Int))):=by omega
 have h48i:¬(281474976710656<(m:Int)):=by omega
 have hneg:¬((m:Int)<0):=by omega
 have hns:¬(m=0):=by omega
 have hcells:=De m;have hone:∀u ∈ List.replicate m (Value.int .u8 0),u.oneCell'=true:=by intro u hu;rw [Ug hu];rfl
 rcases hown.2 with ⟨h1,-⟩ | ⟨g',cap',cur,h1,hbg,hg,hnc,hcm,hcs,htake⟩
 · simp at h1
 simp only [ZC,ZK,Ym,VB] at h1
 obtain ⟨rfl,-,rfl⟩:=h1
 by_cases hroom:n+m≤cap
 · have hcs':cur.size=cap:=by simpa using hcs
   have hst:=TB P g n e (List.replicate m (Value.int .u8 0)) 0 cur w hg (by simp;omega) hone
   simp only [Yj,XJ] at hst
   refine ⟨.slice (some ⟨g,0,none⟩) (n+m) cap,w.setRow g (cur.toList.take n++List.replicate m (Value.int .u8 0)++cur.toList.drop (n+m)).toArray,?_,⟨hlen,.inr ⟨g,cap,_,rfl,hbg,WB w g cur _ e _ hg,hroom,hcm,?_,?_⟩⟩,⟨rfl,rfl,rfl,by simp,fun k _ hk=>Ua w g k _ (fun e=>hk (by simp [e]))⟩⟩
   · simp [Builtin.append_,Ya ht,Ya htn,sizeOf,typeInfo,zeroValue,hi,hz,hsize,hby,asInt,asIntOf,hw,hneg,hns,h48i,hroom,hcells,YY,hst]
   · simp only [ZI,ZZ,Zw,ZS,YJ,XJ]
     omega
   have ht':cur.toList.take n=xs:=by simpa using htake
   rw [ht',←hlen];exact W8
 have holds:=hown.cells (g:=g) rfl;have hn:=hroom;have h48':¬(281474976710656<Builtin.nextslicecap (n+m) cap):=by
  have:=U2 (need:=n+m) (old:=cap) (bytes:=1) (by omega) (by omega);omega
 have hfo:=Vt (P:=P) w.drew 1 n ⟨g,0,none⟩ n cap xs (by omega) (by simpa using holds);have hge:=Tq w (n+m) cap e;have hcm2:=We w (n+m) cap e (by unfold maxLen;omega);refine ⟨.slice (some ⟨w.heap.size,0,none⟩) (n+m) (grownCap w (n+m) cap e),w.drew.alloc (.cells (xs.toArray++(Builtin.zeroCells (Value.int .u8 0).cells m)++Builtin.zeroCells (Value.int .u8 0).cells (grownCap w (n+m) cap e - (n+m))) e),?_,⟨hlen,.inr ⟨w.heap.size,_,_,rfl,hbase,Zs w.drew _,hge,hcm2,?_,?_⟩⟩,⟨rfl,rfl,rfl,by simp,fun k hk _=>Below.heap_alloc w.drew _ k hk⟩⟩
 · simp [Builtin.append_,Ya ht,Ya htn,sizeOf,typeInfo,zeroValue,hi,hz,hsize,hby,asInt,asIntOf,hw,hneg,hns,h48i,hn,h63',h48',Question.forced,hfo,newRow,grownCap]
 · have hz1:(Value.int IntKind.u8 0).cells.size=1:=rfl
   simp only [TJ,ZI,TO,hz1,hxl]
   omega
 simp only [Vx,ZO,hcells]
 rw [←ZO,←hlen];exact W8
theorem OJ {o:Oper} {Q:Exit→Act→World→Prop} (hgd:o.guard=none) (sl x:Operand) (t tn:TypeId)
    (ho:o.op=.call { callee:=.builtin .append,args:=#[sl,x],argTypes:=#[t,tn] })
    (base:Nat) (e:TypeId) (i:TypeInfo) (k kn:IntKind) (ht:P.underlying t=some (.slice e)) (htn:P.underlying tn=some (.int kn)) (hi:P.info? e=some i) (hz:i.zero=some (.int .u8 0))
    (hsize:i.size=1) (hby:i.bytes=1) (g n cap:Nat) (xs:List Value) (hs:a.eval sl=.slice (some ⟨g,0,none⟩) n cap) (hown:w.ownsRow base e 1 (.slice (some ⟨g,0,none⟩) n cap) n xs) (m:Nat) (hx:a.eval x=.int k m)
    (h0:0<m) (hm:n+m≤1048576) (hbase:base≤w.heap.size)
    (h:∀v' w',w'.ownsRow base e 1 v' (n+m) (xs++List.replicate m (Value.int .u8 0))→w.grownBy w' (some g)→wpList P ops Q rest (a.put o.dst v') w'):wpList P ops Q (o :: rest) a w:=by
 obtain ⟨v',w',hr,h2,h3⟩:=Pk (P:=P) w base t tn o.type e i k kn ht htn hi hz hsize hby g n cap xs hown m h0 hm hbase;exact Lib.wpList_append_run w hgd sl x t tn ho _ _ hs hx v' w' hr (h v' w' h2 h3)
end
theorem Hu (w:World) (s:Int) :
    Calls Tryz.prog 143 #[.int .i64 s] w fun e w'=>e=.returned (.bool (decide (0≤s∧s≤2147483647)))∧w'=w:=by
 by_cases h1:0≤s
 · by_cases h2:s≤2147483647
   · go_enter Tryz.func143,Tryz.ntmps143
     go_wp2;go_ret;exact ⟨Wt (by simp;omega),rfl⟩
   go_enter Tryz.func143,Tryz.ntmps143
   go_wp2;go_ret;exact ⟨Wt (by simp;omega),rfl⟩
 go_enter Tryz.func143,Tryz.ntmps143
 go_wp2;go_ret;exact ⟨Wt (by simp;omega),rfl⟩
theorem Vm (w:World) (base:Nat) (v:Value) (xs:List Int) (N n:Nat) (h:Own .u8 5 w base v xs) (hb:base≤w.heap.size) (hl:xs.length≤1048576) (hn:n≤8) :
    Calls Tryz.prog 96 #[v,.int .i64 N,.int .i64 n] w fun e w'=>∃v',e=.returned v'∧Own .u8 5 w' base v' (xs++Xo N n)∧Below base w w':=by
 obtain ⟨i0,hi,hz0,hz1,hz2⟩:=YN Tryz.QZ;have HO:=ZU h;clear h
 go_enter Tryz.func96,Tryz.ntmps96
 go_wp2
 go_loopw [0,7] (fun vi vl wr=>∃(k:Nat) (z:Int),k≤n∧vl=.int .i64 z∧z+1+(k:Int)=(n:Int)∧Hid (Own .u8 5 wr base vi (xs++Xo (N / 2 ^ (8*(n - k))) k))∧Hid (Below base w wr)) (fun _ i _=>((intOf i)+1).toNat)
 case atStart=>exact ⟨0,(n:Int) - 1,Zu _,rfl,by omega,by show Own _ _ _ _ _ _;unfold Xo;rw [YD];exact HO.out,Yy⟩
 case round =>
  obtain ⟨k,z,hk,rfl,hz,HW,HB⟩:=hrel;have sB:=HB.out.size
  by_cases hz0':0≤z
  · obtain ⟨l,rfl⟩:∃l:Nat,z=(l:Int):=⟨z.toNat,by omega⟩
    have fa:l≤7:=by omega
    have HST:Hid (Xo (N / 2 ^ (8*(n - k))) k++[((N / 2 ^ (8*l) % 256:Nat):Int)]=Xo (N / 2 ^ (8*(n - (k+1)))) (k+1)):=by
     show _=_;rw [show n - k=l+1 by omega,show n - (k+1)=l by omega];exact Js N l k
    obtain ⟨ys,hys⟩:∃ys,ys=xs++Xo (N / 2 ^ (8*(n - k))) k:=⟨_,rfl⟩;have tj:=ZU hys;have HW1:Hid (wr.ownsRow base 5 1 u0 ys.length (ys.map (Value.int .u8))):=by rw [hys];exact HW.out
    have hyl:ys.length≤1048600:=by rw [hys,ZZ,Xd];omega
    clear hys HW;have HV:Hid ((N:Int) / 2 ^ (8*l) % 256=((N / 2 ^ (8*l) % 256:Nat):Int)):=by show _=_;rw [NT];rfl
    go_wp2_with (at_builtin;go_must (refine Yn _ rfl _ _ 22 rfl base 5 i0 (.int .u8 0) 1 1 Tryz.underlying22 hi hz0 hz1 hz2 rfl (by decide) _ _ _ rfl (WP HW1.out _) ⟨wr.heap.size,0,none⟩ 1 1 [.int .u8 ((N:Int) / 2 ^ (8*l) % 256)] rfl rfl (XW _ _ _) (by intro u hu;simp at hu;subst hu;rfl) ?c3 ?c4 ?c5 ?_))
    case c3=>unfold maxLen;omega
    case c4=>omega
    case c5=>simp;omega
    intro v2 w2 ho2 hg2 _;have DT:Hid (Own .u8 5 w2 base v2 (xs++Xo (N / 2 ^ (8*(n - (k+1)))) (k+1))):=by
     rw [HV.out] at ho2;refine QY (q:=ys.length+1) (ys:=ys++[((N / 2 ^ (8*l) % 256:Nat):Int)]) (by simp) ?_ (by rw [Y6];exact ho2);rw [←HST.out,←ZO,←tj.out]
    have HB2:=ZU ((HB.out.alloc (by omega) _).grown hg2 (by simp;omega) (fun q hq=>(ZT HW1.out q hq).1));clear ho2 hg2 HW1 HB;go_wp2;exact ⟨⟨k+1,(l:Int) - 1,by omega,by go_num,by omega,DT,HB2⟩,by simp [intOf]⟩
  have hkn:k=n:=by omega
  subst hkn;have eZ:=hz0';go_wp2;go_ret;refine ⟨_,rfl,?_,HB.out⟩;have:=HW.out;rw [Wf,Q3,Nat.pow_zero,Nat.div_one] at this;exact this
theorem Kw (w:World) (g b s l c:Int) :
    Calls Tryz.prog 95 #[.agg #[.int .i64 g,.int .i64 b,.int .i64 s,.int .i64 l,.int .i64 c]] w (Wj w (.bool (PG g b s l c))):=by
 go_enter Tryz.func95,Tryz.ntmps95
 go_wp2
 all_goals
  go_ret;refine ⟨Wt ?_,Yy.alloc YR _⟩;unfold PG;rw [SJ]
  simp only [ZA,Vl,Zj,Yu,false_iff]
  omega
theorem vO (h:Own k e w lo v xs) (h0:0<xs.length):∃g c,v=.slice (some ⟨g,0,none⟩) xs.length c:=by
 rcases h.2 with ⟨rfl,h1⟩ | ⟨g,cap,cur,rfl,-⟩
 · omega
 exact ⟨g,cap,rfl⟩
def qh (w:World) (k:Nat) (g b s l c:Int):Prop :=
 k<w.heap.size∧w.cell? ⟨k,0,none⟩=some (.int .i64 g)∧w.cell? ⟨k,1,none⟩=some (.int .i64 b)∧w.cell? ⟨k,2,none⟩=some (.int .i64 s)∧w.cell? ⟨k,3,none⟩=some (.int .i64 l)∧w.cell? ⟨k,4,none⟩=some (.int .i64 c)
theorem qh.new (w:World) (g b s l c:Int) (t:TypeId):qh (w.alloc (.cells #[.int .i64 g,.int .i64 b,.int .i64 s,.int .i64 l,.int .i64 c] t)) w.heap.size g b s l c :=
 ⟨by simp,(by go_simp),(by go_simp),(by go_simp),(by go_simp),(by go_simp)⟩
theorem qh.below {k:Nat} {g b s c:Int} (h:qh w k g b s l c) (hb:Below B w w') (hk:k<B):qh w' k g b s l c:=by
 obtain ⟨h0,h1,h2,h3,h4,h5⟩:=h;exact ⟨ZY h0 hb.size,(hb.cell (p:=⟨k,0,none⟩) hk).trans h1,(hb.cell (p:=⟨k,1,none⟩) hk).trans h2,(hb.cell (p:=⟨k,2,none⟩) hk).trans h3,(hb.cell (p:=⟨k,3,none⟩) hk).trans h4,(hb.cell (p:=⟨k,4,none⟩) hk).trans h5⟩
theorem Ht (w:World) (g b s l c:Int) (h:PG g b s l c=false) :
    Calls Tryz.prog 53 #[.agg #[.int .i64 g,.int .i64 b,.int .i64 s,.int .i64 l,.int .i64 c]] w fun e w'=>∃v',e=.returned v'∧Own .u8 5 w' w.heap.size v' []∧Zi w w':=by
 have H:=ZU h;clear h
 go_enter Tryz.func53,Tryz.ntmps53
 go_wp2_with fail
 refine (Kw _ g b s l c).mono ?_;rintro e w1 ⟨rfl,b1⟩;rw [H.out];have B1:=ZU ((Yy.alloc YR _).trans (b1.mono (by simp)));clear b1;go_wp2;go_ret;exact ⟨_,rfl,ZH _ _ _ _,B1.out⟩
theorem JO (w:World) (g b s l c:Nat) (h:PG g b s l c=true) :
    Calls Tryz.prog 53 #[.agg #[.int .i64 g,.int .i64 b,.int .i64 s,.int .i64 l,.int .i64 c]] w fun e w'=>∃v',e=.returned v'∧Own .u8 5 w' w.heap.size v' (AM g b s l c)∧Zi w w':=by
 obtain ⟨i0,hi,hz0,hz1,hz2⟩:=YN Tryz.QZ;have H:=ZU h;clear h
 go_enter Tryz.func53,Tryz.ntmps53
 go_wp2_with fail
 refine (Kw _ g b s l c).mono ?_;rintro e w1 ⟨rfl,b1⟩;rw [H.out];have X1:=ZU ((qh.new w g b s l c _).below b1 (by simp));have B1:=ZU ((Yy.alloc YR _).trans (b1.mono (by simp)));have s1:w.heap.size+1≤w1.heap.size:=by have:=b1.size;simpa using this
 clear b1;have O1:Hid (Own .u8 5 w1 (w.heap.size+1) (.slice none 0 0) []):=ZH _ _ _ _;obtain ⟨-,x0,x1,x2,x3,x4⟩:=X1.out
 go_wp2_with fail
 refine (Vm _ (w.heap.size+1) _ ([]) g 8 O1.out s1 (by simp) (by omega)).mono ?_;rintro e w2 ⟨v2,rfl,o2,b2⟩;have X2:=ZU (X1.out.below b2 (by omega));have B2:=ZU (B1.out.trans (b2.mono (by omega)));have s2:=ZJ s1 b2.size;have O2:=ZU o2;clear x0 x1 x2 x3 x4 o2 b2 X1 B1 O1;obtain ⟨-,x0,x1,x2,x3,x4⟩:=X2.out
 go_wp2_with fail
 refine (Vm _ (w.heap.size+1) _ ([]++Xo g 8) b 1 O2.out s2 (by simp [Xd]) (by omega)).mono ?_;rintro e w3 ⟨v3,rfl,o3,b3⟩;have X3:=ZU (X2.out.below b3 (by omega));have B3:=ZU (B2.out.trans (b3.mono (by omega)));have s3:=ZJ s2 b3.size;have O3:=ZU o3;clear x0 x1 x2 x3 x4 o3 b3 X2 B2 O2;obtain ⟨-,x0,x1,x2,x3,x4⟩:=X3.out
 go_wp2_with fail
 refine (Vm _ (w.heap.size+1) _ ([]++Xo g 8++Xo b 1) s 4 O3.out s3 (by simp [Xd]) (by omega)).mono ?_;rintro e w4 ⟨v4,rfl,o4,b4⟩;have X4:=ZU (X3.out.below b4 (by omega));have B4:=ZU (B3.out.trans (b4.mono (by omega)));have s4:=ZJ s3 b4.size;have O4:=ZU o4;clear x0 x1 x2 x3 x4 o4 b4 X3 B3 O3;obtain ⟨-,x0,x1,x2,x3,x4⟩:=X4.out
 go_wp2_with fail
 refine (Vm _ (w.heap.size+1) _ ([]++Xo g 8++Xo b 1++Xo s 4) l 4 O4.out s4 (by simp [Xd]) (by omega)).mono ?_;rintro e w5 ⟨v5,rfl,o5,b5⟩;have X5:=ZU (X4.out.below b5 (by omega));have B5:=ZU (B4.out.trans (b5.mono (by omega)));have s5:=ZJ s4 b5.size;have O5:=ZU o5;clear x0 x1 x2 x3 x4 o5 b5 X4 B4 O4;obtain ⟨-,x0,x1,x2,x3,x4⟩:=X5.out
 go_wp2_with fail
 refine (Vm _ (w.heap.size+1) _ ([]++Xo g 8++Xo b 1++Xo s 4++Xo l 4) c 4 O5.out s5 (by simp [Xd]) (by omega)).mono ?_;rintro e w6 ⟨v6,rfl,o6,b6⟩;have X6:=ZU (X5.out.below b6 (by omega));have B6:=ZU (B5.out.trans (b6.mono (by omega)));have s6:=ZJ s5 b6.size;have O6:=ZU o6;clear x0 x1 x2 x3 x4 o6 b6 X5 B5 O5;have U:([]++Xo g 8++Xo b 1++Xo s 4++Xo l 4++Xo c 4).length=21:=by simp [Xd]
 obtain ⟨g6,c6,hv6⟩:=vO O6.out (by rw [U];omega);rw [U] at hv6;subst hv6;have Zv:Hid (w6.ownsRow (w.heap.size+1) 5 1 (.slice (some ⟨g6,0,none⟩) 21 c6) 21 (([]++Xo g 8++Xo b 1++Xo s 4++Xo l 4++Xo c 4).map (Value.int .u8))):=by have:=O6.out;unfold Own at this;rw [U] at this;exact this
 clear O6 U;generalize Yd:([]++Xo g 8++Xo b 1++Xo s 4++Xo l 4++Xo c 4)=L6 at *;have Zt:=ZU Yd;clear Yd;obtain ⟨-,x0,x1,x2,x3,x4⟩:=X6.out
 go_wp2_with (at_builtin;go_must (refine OJ _ rfl _ _ 22 3 rfl (w.heap.size+1) 5 i0 .i64 .i64 Tryz.underlying22 Tryz.underlying3 hi hz0 hz1 hz2 g6 21 c6 _ rfl Zv.out 35 rfl (by omega) (by omega) s6 ?_))
 intro v7 w7 X' X9;have b7:=Yy.grown X9 s6 (fun q hq=>by injection hq with hq;subst hq;exact (ZT Zv.out _ rfl).1);have O7:Hid (Own .u8 5 w7 (w.heap.size+1) v7 (L6++List.replicate 35 0)):=QY (q:=21+35) (by rw [←Zt.out];simp [Xd]) rfl (by rw [Y6,Uf];exact X');have X7:=ZU (X6.out.below b7 (by omega));have B7:=ZU (B6.out.trans (b7.mono (by omega)));have s7:=ZJ s6 b7.size;clear x0 x1 x2 x3 x4 X' X9 b7 X6 B6 Zv;obtain ⟨-,x0,x1,x2,x3,x4⟩:=X7.out
 go_wp2_with fail
 refine (Vm _ (w.heap.size+1) _ (L6++List.replicate 35 0) g 8 O7.out s7 (by rw [←Zt.out];simp [Xd]) (by omega)).mono ?_;rintro e w8 ⟨v8,rfl,o8,b8⟩;have B8:=ZU (B7.out.trans (b8.mono (by omega)));have O8:Hid (Own .u8 5 w8 w.heap.size v8 (AM g b s l c)):=by
  have h8:=o8.mono (show w.heap.size≤w.heap.size+1 by omega);rw [←Zt.out,Zd] at h8;exact h8
 clear o8 b8;go_wp2;go_ret;exact ⟨_,rfl,O8.out,B8.out⟩
theorem zE {g b s c:Int} (h:PG g b s l c=true):∃g' b' s' l' c':Nat,g=g'∧b=b'∧s=s'∧l=l'∧c=c':=by
 unfold PG at h
 simp only [ZA,Vl,Zj] at h
 exact ⟨g.toNat,b.toNat,s.toNat,l.toNat,c.toNat,by omega,by omega,by omega,by omega,by omega⟩
theorem Qv (w:World) (g b s l c:Int) :
    Calls Tryz.prog 53 #[.agg #[.int .i64 g,.int .i64 b,.int .i64 s,.int .i64 l,.int .i64 c]] w fun e w'=>∃v',e=.returned v'∧Own .u8 5 w' w.heap.size v' (sup g b s l c)∧Zi w w':=by
 unfold sup
 by_cases h:PG g b s l c=true
 · rw [Z0 h]
   obtain ⟨g,b,s,l,c,rfl,rfl,rfl,rfl,rfl⟩:=zE h;exact JO w g b s l c h
 rw [Z1 h];exact Ht w g b s l c (by simpa using h)
attribute [local go_sem] Yv
theorem MV.other (h:MV W b x0 x1 x2 x3) (hg:W.grownBy W' row) (hne:some b≠row):MV W' b x0 x1 x2 x3:=by
 have hbl:=hg.block b h.1 hne;exact ⟨ZY h.1 hg.size,⟨(ZP (a:=⟨b,0,none⟩) hbl).trans h.2.1.1,(ZP (a:=⟨b,1,none⟩) hbl).trans h.2.1.2.1,(ZP (a:=⟨b,2,none⟩) hbl).trans h.2.1.2.2.1,(ZP (a:=⟨b,3,none⟩) hbl).trans h.2.1.2.2.2⟩,
  (Yq (a:=⟨b,0,none⟩) hbl).trans h.2.2.1,(Yq (a:=⟨b,1,none⟩) hbl).trans h.2.2.2.1,(Yq (a:=⟨b,2,none⟩) hbl).trans h.2.2.2.2.1,(Yq (a:=⟨b,3,none⟩) hbl).trans h.2.2.2.2.2⟩
theorem Bp.other (h:Bp w vt W) (hg:W.grownBy W' row) (hr:∀r,row=some r→w.heap.size+2≤r):Bp w vt W' :=
 ⟨h.1.grown hg (by have:=h.2.1;omega) (fun q e=>by have:=hr q e;omega),ZJ h.2.1 hg.size,(ZP (a:=⟨w.heap.size,0,none⟩) (hg.block w.heap.size (by have:=h.2.1;omega) (fun e=>by have:=hr _ e.symm;omega))).trans h.2.2.1,h.2.2.2.other hg (fun e=>by have:=hr _ e.symm;omega)⟩
theorem XU.VA (h:XU 147 W lo v ns) (hg:W.grownBy W' row) (hr:∀r,row=some r→∃o:Obj,W.heap[r]?=some o∧o.isCells=false):XU 147 W' lo v ns:=VD h hg hr
def Wp (S L:Int):Bool:=decide (1≤S∧S≤64) && decide (1≤L∧L≤64)
def Kv (S L:Int) (dl:Nat) (ps:List (Int × List Int)):Bool:=Wp S L && (QP dl ps && decide (((dl / 64:Nat):Int)=2+2*(S+L)))
def Rx (S L Xc:Int) (log:Bool):Int:=2+Xc*(S+L)+if log then S else 0
def I9 (S L:Int) (log:Bool):Int:=if log then L else S
def EV (S L:Int) (dl:Nat) (ps:List (Int × List Int)) (Xc:Int):Bool:=Kv S L dl ps && decide (0≤Xc∧Xc≤1)
def Ma (D:List Int) (f l:Nat):List Int:=(D.drop (f*64)).take (l*64)
def gq (YL:List Int) (ps:List (Int × List Int)) (S L Xc:Int) (log:Bool):List Int :=
 if EV S L YL.length ps Xc then Ma (MA YL ps) (Rx S L Xc log).toNat (I9 S L log).toNat else []
theorem Xk (S L:Int):Wp S L=true↔(1≤S∧S≤64)∧1≤L∧L≤64:=by unfold Wp;simp only [ZA,Zj]
theorem RI (S L:Int) (dl:Nat) (ps:List (Int × List Int)):Kv S L dl ps=true↔Wp S L=true∧QP dl ps=true∧((dl / 64:Nat):Int)=2+2*(S+L):=by
 unfold Kv;simp only [ZA,Zj]
theorem Ku (h:QP YL.length ps=true):(MA YL ps).length=YL.length:=by
 unfold MA;rw [Z0 h];exact Nn _ _ _ h _ YR
theorem NZ (D:List Int) (f l:Nat) (h:(f+l)*64≤D.length):(Ma D f l).length=l*64:=by
 unfold Ma;rw [Zw,ZS];omega
theorem Ot (w:World) (S:Int) :
    Calls Tryz.prog 16 #[.int .i64 S] w fun e w'=>e=.returned (.bool (decide (1≤S∧S≤64)))∧w'=w:=by
 by_cases h1:1≤S
 · by_cases h2:S≤64
   · go_enter Tryz.func16,Tryz.ntmps16
     go_wp2;go_ret;exact ⟨Wt (by first | rfl | (symm;rw [Zj];exact ⟨h1,h2⟩)),rfl⟩
   have d2:decide (S≤64)=false:=by simpa using h2
   go_enter Tryz.func16,Tryz.ntmps16
   go_wp2;go_ret;exact ⟨Wt (by first | rfl | (symm;rw [Xq];omega)),rfl⟩
 have d1:decide (1≤S)=false:=by simpa using h1
 go_enter Tryz.func16,Tryz.ntmps16
 go_wp2;go_ret;exact ⟨Wt (by first | rfl | (symm;rw [Xq];omega)),rfl⟩
theorem Rs (w:World) (S L:Int) :
    Calls Tryz.prog 9 #[.agg #[.int .i64 S,.int .i64 L]] w (Wj w (.bool (Wp S L))):=by
 have B0:Hid (Zi w (w.alloc (.cells #[.int .i64 S,.int .i64 L] 25))):=Yy.alloc YR _;obtain ⟨t,ht⟩:∃t,t=decide (1≤S∧S≤64):=⟨_,rfl⟩;obtain ⟨u,hu⟩:∃u,u=decide (1≤L∧L≤64):=⟨_,rfl⟩;have H:Hid (Wp S L=(t && u)):=by show _=_;rw [ht,hu];rfl
 have V1:Hid (∀W,Calls Tryz.prog 16 #[.int .i64 S] W fun e w'=>e=.returned (.bool t)∧w'=W):=fun W=>by rw [ht];exact Ot W S
 have V2:Hid (∀W,Calls Tryz.prog 16 #[.int .i64 L] W fun e w'=>e=.returned (.bool u)∧w'=W):=fun W=>by rw [hu];exact Ot W L
 clear ht hu
 go_enter Tryz.func9,Tryz.ntmps9
 go_wp2_with fail
 cases t with
 | true =>
  refine (V1.out _).mono ?_;rintro e w1 ⟨rfl,rfl⟩
  go_wp2_with fail
  refine (V2.out _).mono ?_;rintro e w1 ⟨rfl,rfl⟩;go_wp2;go_ret;exact ⟨Wt (by rw [H.out];simp),B0.out⟩
 | false =>
  refine (V1.out _).mono ?_;rintro e w1 ⟨rfl,rfl⟩;go_wp2;go_ret;exact ⟨Wt (by rw [H.out];simp),B0.out⟩
theorem Pj (w:World) (S L:Int) (hS:1≤S) (hS2:S≤64) (hL:1≤L) (hL2:L≤64) :
    Calls Tryz.prog 92 #[.agg #[.int .i64 S,.int .i64 L]] w (Wj w (.int .i64 (S+L))):=by
 have B0:Hid (Zi w (w.alloc (.cells #[.int .i64 S,.int .i64 L] 25))):=Yy.alloc YR _
 go_enter Tryz.func92,Tryz.ntmps92
 go_wp2;go_ret;exact ⟨rfl,B0.out⟩
theorem Pi (w:World) (S L:Int) (hS:1≤S) (hS2:S≤64) (hL:1≤L) (hL2:L≤64) :
    Calls Tryz.prog 45 #[.agg #[.int .i64 S,.int .i64 L]] w (Wj w (.int .i64 (2+2*(S+L)))):=by
 have B0:Hid (Zi w (w.alloc (.cells #[.int .i64 S,.int .i64 L] 25))):=Yy.alloc YR _
 go_enter Tryz.func45,Tryz.ntmps45
 go_wp2_with fail
 refine (Pj _ S L hS hS2 hL hL2).mono ?_;rintro e w1 ⟨rfl,b1⟩;have B1:=ZU (WD B0.out b1);clear b1 B0;go_wp2;go_ret;exact ⟨rfl,B1.out⟩
def RH (w:World) (ao bo:Option Addr) (dl ca n cb:Nat) (S L:Int) (W:World):Prop :=
 Hid (Zi w W∧Vg W w.heap.size (.slice ao dl ca) (.slice bo n cb)∧Vg W (w.heap.size+1) (.int .i64 S) (.int .i64 L)) ∧
  W.cell? ⟨w.heap.size,0,none⟩=some (.slice ao dl ca)∧W.cell? ⟨w.heap.size,1,none⟩=some (.slice bo n cb)∧W.cell? ⟨w.heap.size+1,0,none⟩=some (.int .i64 S)∧W.cell? ⟨w.heap.size+1,1,none⟩=some (.int .i64 L)
theorem RH.mk (h1:Zi w W) (h2:Vg W w.heap.size (.slice ao dl ca) (.slice bo n cb)) (h3:Vg W (w.heap.size+1) (.int .i64 S) (.int .i64 L)):RH w ao bo dl ca n cb S L W :=
 ⟨⟨h1,h2,h3⟩,h2.2.1,h2.2.2,h3.2.1,h3.2.2⟩
theorem RH.below (h:RH w ao bo dl ca n cb S L W) (hb:Zi W W'):RH w ao bo dl ca n cb S L W' :=
 RH.mk (h.1.out.1.trans (hb.mono h.1.out.1.size)) (h.1.out.2.1.below hb) (h.1.out.2.2.below hb)
theorem Oq (w:World) (ao bo:Option Addr) (dl ca n cb:Nat) (ps:List (Int × List Int)) (S L:Int) (hp:J8 w (.slice bo n cb) ps) (hl:ps.length=n) (hd1:dl≤1048576) (hn:n≤1048576) (KE:∀i,(pD ps i).length≤1048576) :
    Calls Tryz.prog 36 #[.agg #[.slice ao dl ca,.slice bo n cb],.agg #[.int .i64 S,.int .i64 L]] w (Wj w (.bool (Kv S L dl ps))):=by
 have HP:=ZU hp;have HL:=ZU hl;have AK:=ZU KE;have B0:Hid (Zi w ((w.alloc (.cells #[.slice ao dl ca,.slice bo n cb] 52)).alloc (.cells #[.int .i64 S,.int .i64 L] 25))):=(Yy.alloc YR _).alloc (by simp) _;have XD:Hid (Vg ((w.alloc (.cells #[.slice ao dl ca,.slice bo n cb] 52)).alloc (.cells #[.int .i64 S,.int .i64 L] 25)) w.heap.size (.slice ao dl ca) (.slice bo n cb)):=(Vg.new w _ _ _).below (Yy.alloc YR _);have XC:Hid (Vg ((w.alloc (.cells #[.slice ao dl ca,.slice bo n cb] 52)).alloc (.cells #[.int .i64 S,.int .i64 L] 25)) (w.heap.size+1) (.int .i64 S) (.int .i64 L)):=by
  have:=Vg.new (w.alloc (.cells #[.slice ao dl ca,.slice bo n cb] 52)) (.int .i64 S) (.int .i64 L) 25;show Vg _ _ _ _
  simpa using this
 obtain ⟨t,ht⟩:∃t,t=Wp S L:=⟨_,rfl⟩;obtain ⟨u,hu⟩:∃u,u=QP dl ps:=⟨_,rfl⟩;have H:Hid (Kv S L dl ps=(t && (u && decide (((dl / 64:Nat):Int)=2+2*(S+L))))):=by show _=_;rw [ht,hu];rfl
 have HB:Hid (t=true→(1≤S∧S≤64)∧1≤L∧L≤64):=fun e=>(Xk S L).1 (ht ▸ e)
 have Q:Hid (∀W W',RH w ao bo dl ca n cb S L W→Zi W W'→RH w ao bo dl ca n cb S L W'):=fun W W' h1 h4=>h1.below h4
 have V1:Hid (∀W,Calls Tryz.prog 9 #[.agg #[.int .i64 S,.int .i64 L]] W (Wj W (.bool t))):=fun W=>by rw [ht];exact Rs W S L
 have V2:Hid (∀W,RH w ao bo dl ca n cb S L W→Calls Tryz.prog 80 #[.agg #[.slice ao dl ca,.slice bo n cb]] W (Wj W (.bool u))):=fun W hW=>by rw [hu];exact Qx W ao bo dl ca n cb ps (HP.out.below hW.1.out.1) HL.out hd1 hn AK.out
 clear ht hu hp hl KE
 go_enter Tryz.func36,Tryz.ntmps36
 go_wp2_with fail
 have S0:=ZU (RH.mk B0.out XD.out XC.out);clear B0 XD XC;generalize (w.alloc _).alloc _=w0 at *
 cases t with
 | false =>
  refine ZX (S:=RH w ao bo dl ca n cb S L) (by kernel_rfl) (S0.out.below (below_drewN' w0 1)) (fun Z9=>?_);refine Zf ?_ (by kernel_rfl) (fun _=>id) Z9 ?_ ?_
  rotate_left
  · intro w9 ZQ;obtain ⟨-,k0,k1,k2,k3⟩:=ZQ;go_simp;try with_reducible rfl
  refine YS 1 rfl (by kernel_rfl) (fun K hK=>?_);go_simp;refine (V1.out _).mono ?_;rintro e w1 ⟨rfl,b1⟩;have hN1:=Q.out _ _ Z9 b1;clear b1;clear Z9;refine hK.out _ _ (hN1) (fun Z9=>?_);clear hK K;refine Zf ?_ (by kernel_rfl) (fun _=>id) Z9 ?_ ?_
  rotate_left
  · intro w9 ZQ;obtain ⟨-,k0,k1,k2,k3⟩:=ZQ;go_simp;try with_reducible rfl
  iterate 2 (refine J7 (by kernel_rfl) (fun _=>id) Z9 ?_)
  iterate 2 (refine Zf ?_ (by kernel_rfl) (fun _=>id) Z9 ?_ ?_;rotate_left;· intro w9 ZQ;obtain ⟨-,k0,k1,k2,k3⟩:=ZQ;go_simp;try with_reducible rfl)
  iterate 5 (refine J7 (by kernel_rfl) (fun _=>id) Z9 ?_)
  iterate 2 (refine Zf ?_ (by kernel_rfl) (fun _=>id) Z9 ?_ ?_;rotate_left;· intro w9 ZQ;obtain ⟨-,k0,k1,k2,k3⟩:=ZQ;go_simp;try with_reducible rfl)
  refine ZR (by kernel_rfl) ?_ _
  try simp only [Act.put,WV,WU,WT]
  have BE:=Z9.1;clear Z9;go_wp2;go_ret;exact ⟨Wt (by rw [H.out];simp <;> rfl),BE.out.1⟩
 | true =>
  obtain ⟨⟨hS1,hS2⟩,hL1,hL2⟩:=HB.out rfl
  cases u with
  | false =>
   refine ZX (S:=RH w ao bo dl ca n cb S L) (by kernel_rfl) (S0.out.below (below_drewN' w0 1)) (fun Z9=>?_);refine Zf ?_ (by kernel_rfl) (fun _=>id) Z9 ?_ ?_
   rotate_left
   · intro w9 ZQ;obtain ⟨-,k0,k1,k2,k3⟩:=ZQ;go_simp;try with_reducible rfl
   refine YS 1 rfl (by kernel_rfl) (fun K hK=>?_);go_simp;refine (V1.out _).mono ?_;rintro e w1 ⟨rfl,b1⟩;have hN1:=Q.out _ _ Z9 b1;clear b1;clear Z9;refine hK.out _ _ (hN1) (fun Z9=>?_);clear hK K
   iterate 2 (refine Zf ?_ (by kernel_rfl) (fun _=>id) Z9 ?_ ?_;rotate_left;· intro w9 ZQ;obtain ⟨-,k0,k1,k2,k3⟩:=ZQ;go_simp;try with_reducible rfl)
   refine YS 4 rfl (by kernel_rfl) (fun K hK=>?_);go_simp;refine (V2.out _ Z9).mono ?_;rintro e w2 ⟨rfl,b2⟩;have tH:=Q.out _ _ Z9 b2;clear b2;clear Z9;refine hK.out _ _ (tH) (fun Z9=>?_);clear hK K
   iterate 2 (refine Zf ?_ (by kernel_rfl) (fun _=>id) Z9 ?_ ?_;rotate_left;· intro w9 ZQ;obtain ⟨-,k0,k1,k2,k3⟩:=ZQ;go_simp;try with_reducible rfl)
   iterate 5 (refine J7 (by kernel_rfl) (fun _=>id) Z9 ?_)
   iterate 2 (refine Zf ?_ (by kernel_rfl) (fun _=>id) Z9 ?_ ?_;rotate_left;· intro w9 ZQ;obtain ⟨-,k0,k1,k2,k3⟩:=ZQ;go_simp;try with_reducible rfl)
   refine ZR (by kernel_rfl) ?_ _
   try simp only [Act.put,WV,WU,WT]
   have BE:=Z9.1;clear Z9;go_wp2;go_ret;exact ⟨Wt (by rw [H.out];simp <;> rfl),BE.out.1⟩
  | true =>
   refine ZX (S:=RH w ao bo dl ca n cb S L) (by kernel_rfl) (S0.out.below (below_drewN' w0 1)) (fun Z9=>?_);refine Zf ?_ (by kernel_rfl) (fun _=>id) Z9 ?_ ?_
   rotate_left
   · intro w9 ZQ;obtain ⟨-,k0,k1,k2,k3⟩:=ZQ;go_simp;try with_reducible rfl
   refine YS 1 rfl (by kernel_rfl) (fun K hK=>?_);go_simp;refine (V1.out _).mono ?_;rintro e w1 ⟨rfl,b1⟩;have hN1:=Q.out _ _ Z9 b1;clear b1;clear Z9;refine hK.out _ _ (hN1) (fun Z9=>?_);clear hK K
   iterate 2 (refine Zf ?_ (by kernel_rfl) (fun _=>id) Z9 ?_ ?_;rotate_left;· intro w9 ZQ;obtain ⟨-,k0,k1,k2,k3⟩:=ZQ;go_simp;try with_reducible rfl)
   refine YS 4 rfl (by kernel_rfl) (fun K hK=>?_);go_simp;refine (V2.out _ Z9).mono ?_;rintro e w2 ⟨rfl,b2⟩;have tH:=Q.out _ _ Z9 b2;clear b2;clear Z9;refine hK.out _ _ (tH) (fun Z9=>?_);clear hK K
   iterate 3 (refine Zf ?_ (by kernel_rfl) (fun _=>id) Z9 ?_ ?_;rotate_left;· intro w9 ZQ;obtain ⟨-,k0,k1,k2,k3⟩:=ZQ;go_simp;try with_reducible rfl)
   refine Yp 9 ?v49 rfl (by kernel_rfl) (fun _=>id) Z9 ?X8 ?_
   case X8=>intro w9 ZQ;obtain ⟨-,k0,k1,k2,k3⟩:=ZQ;go_simp;try with_reducible rfl
   refine YS 8 rfl (by kernel_rfl) (fun K hK=>?_);go_simp;refine (Sp _ ao dl ca _ hd1).mono ?_;rintro e w3 ⟨rfl,b3⟩;have fw:=Q.out _ _ Z9 b3;clear b3;clear Z9;refine hK.out _ _ (fw) (fun Z9=>?_);clear hK K;refine YS 10 rfl (by kernel_rfl) (fun K hK=>?_);go_simp;refine (Pi _ S L hS1 hS2 hL1 hL2).mono ?_;rintro e w4 ⟨rfl,b4⟩;have I8:=Q.out _ _ Z9 b4;clear b4;clear Z9;refine hK.out _ _ (I8) (fun Z9=>?_);clear hK K
   iterate 3 (refine Zf ?_ (by kernel_rfl) (fun _=>id) Z9 ?_ ?_;rotate_left;· intro w9 ZQ;obtain ⟨-,k0,k1,k2,k3⟩:=ZQ;go_simp;try with_reducible rfl)
   refine ZR (by kernel_rfl) ?_ _
   try simp only [Act.put,WV,WU,WT]
   have BE:=Z9.1;clear Z9;go_wp2;go_ret;exact ⟨Wt (by rw [H.out];simp <;> rfl),BE.out.1⟩
theorem Nc (S L:Int) (dl:Nat) (ps:List (Int × List Int)) (Xc:Int):EV S L dl ps Xc=true↔Kv S L dl ps=true∧0≤Xc∧Xc≤1:=by
 unfold EV;simp only [ZA,Zj]
theorem kq {Xc:Int} {log:Bool} (h:EV S L dl ps Xc=true) :
    ∃f l:Nat,Rx S L Xc log=f∧I9 S L log=l∧2≤f∧1≤l∧l≤64∧f+l≤dl / 64∧(f+l)*64≤dl∧dl / 64≤258:=by
 obtain ⟨h1,h2,h3⟩:=(Nc ..).1 h;obtain ⟨hc,hv,hn⟩:=(RI ..).1 h1;obtain ⟨⟨hS1,hS2⟩,hL1,hL2⟩:=(Xk S L).1 hc;have hm:=((Sq _ _).1 hv).1;have hb:Xc=0∨Xc=1:=by omega
 refine ⟨(Rx S L Xc log).toNat,(I9 S L log).toNat,?_⟩;unfold Rx I9
 rcases hb with rfl | rfl <;> cases log <;> simp <;> omega
theorem RH.lt (h:RH w ao bo dl ca n cb S L W):w.heap.size+2≤W.heap.size:=h.1.out.2.2.1
theorem RH.new (w:World) (ao bo:Option Addr) (dl ca n cb:Nat) (S L:Int) (t1 t2:TypeId):RH w ao bo dl ca n cb S L ((w.alloc (.cells #[.slice ao dl ca,.slice bo n cb] t1)).alloc (.cells #[.int .i64 S,.int .i64 L] t2)):=by
 refine RH.mk ((Yy.alloc YR _).alloc (by simp) _) ((Vg.new w _ _ _).below (Yy.alloc YR _)) ?_;have:=Vg.new (w.alloc (.cells #[.slice ao dl ca,.slice bo n cb] t1)) (.int .i64 S) (.int .i64 L) t2
 simpa using this
structure Qi where
 g:Int
 b:Int
 s:Int
 l:Int
 c:Int
def rz (ys:List Int):Qi:=⟨nG ys,nB ys,nS ys,nL ys,nC ys⟩
def Hs (S:Int) (ys:List Int):Bool:=decide (OD ys) && decide (nL ys≤S*64)
structure zD where
 code:Int
 sp:Qi
 zx:Int
 ns:List Nd
 used:Int
 ops:Int
 YL:List Int
 ps:List (Int × List Int)
def nJ (code:Int):zD:=⟨code,⟨0,0,0,0,0⟩,0,[],0,0,[],[]⟩
def Nb (log:List Int) (e:Nat):List Int:=log.take e++zeros (log.length - (log.take e).length)
def QN (f:Int) (log want:List Int) (b:Nat):Nat→List (Int × List Int)
 | 0=>[]
 | n+1=>(if blk log b=blk want b then [] else [(f+b,blk want b)])++QN f log want (b+1) n
def qg (r:zD) (vt v1 v2:Value):Array Value:=#[.int .i64 r.code,.int .i64 r.sp.g,.int .i64 r.sp.b,.int .i64 r.sp.s,.int .i64 r.sp.l,.int .i64 r.sp.c,.int .i64 r.zx,vt,.int .i64 r.used,.int .i64 r.ops,v1,v2]
def DY (W:World) (b:Nat) (r:zD) (vt v1 v2:Value):Prop:=W.heap[b]?=some (.cells (qg r vt v1 v2) 65 (0,0))
theorem DY.lt {r:zD} (h:DY W b r vt v1 v2):b<W.heap.size:=(Z3.1 h).1
theorem DY.below {r:zD} (h:DY W b r vt v1 v2) (hb:Zi W W'):DY W' b r vt v1 v2:=(hb.block _ h.lt).trans h
theorem DY.new (W:World) (r:zD) (vt v1 v2:Value):DY (W.alloc (.cells (qg r vt v1 v2) 65)) W.heap.size r vt v1 v2:=Zs W _
theorem DY.cells {r:zD} (h:DY W b r vt v1 v2):W.cell? ⟨b,0,none⟩=some (.int .i64 r.code)∧W.cell? ⟨b,1,none⟩=some (.int .i64 r.sp.g)∧W.cell? ⟨b,2,none⟩=some (.int .i64 r.sp.b)∧W.cell? ⟨b,3,none⟩=some (.int .i64 r.sp.s)∧W.cell? ⟨b,4,none⟩=some (.int .i64 r.sp.l)∧W.cell? ⟨b,5,none⟩=some (.int .i64 r.sp.c)∧W.cell? ⟨b,6,none⟩=some (.int .i64 r.zx)∧W.cell? ⟨b,7,none⟩=some vt∧W.cell? ⟨b,8,none⟩=some (.int .i64 r.used)∧W.cell? ⟨b,9,none⟩=some (.int .i64 r.ops)∧W.cell? ⟨b,10,none⟩=some v1∧W.cell? ⟨b,11,none⟩=some v2:=by
 refine ⟨?_,?_,?_,?_,?_,?_,?_,?_,?_,?_,?_,?_⟩ <;> (rw [cell_of h];rfl)
theorem I4 {R:List Int} (h:Own .u8 5 w lo u R):RP w lo w.heap.size u (.slice none 0 0) R [] (fun _=>.slice none 0 0) :=
 ⟨h,⟨ZH _ _ _ _,fun i hi=>by simp at hi,fun i j hi=>by simp at hi,fun i hi=>by simp at hi⟩,fun g hg=>(h.lt g hg).2,fun g hg=>by simp [Value.ownBlock] at hg,fun i hi=>by simp at hi,.inl rfl,fun i hi=>by simp at hi⟩
theorem Qh (older:List PanicEntry) (w:World) :
    CallsD Tryz.prog 173 #[] (.panicking ({ v:=.iface 296 (.agg #[]),recovered:=false } :: older)) w fun e u' w' =>
     e=.returned (.tuple #[])∧u'=.panicking ({ v:=.iface 296 (.agg #[]),recovered:=true } :: older)∧Zi w w':=by
 refine UA Tryz.func173 rfl fun c₀ cs hu=>?_
 apply TN
 simp [wpOpsS,go_sem,recoverD,hu,Tryz.ntmps173]
 refine (Cb w).mono ?_;rintro e w' ⟨rfl,bw⟩
 simp_all [bodyPostS,results,Tryz.results173]
theorem Kt (w:World) :
    CallsD Tryz.prog 173 #[] .returning w fun e u' w'=>e=.returned (.tuple #[])∧u'=.returning∧w'=w:=by
 refine UA Tryz.func173 rfl fun c₀ cs hu=>?_
 apply TN
 simp [wpOpsS,go_sem,recoverD,hu,Tryz.ntmps173]
 refine (Cc w).mono ?_;rintro e w' ⟨rfl,rfl⟩
 cases c₀
 simp_all [bodyPostS,results,Tryz.results173]
end Go.Proofs.YtpmjnbmkippaiaaGreatDoor


