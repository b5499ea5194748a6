import Derived.OrdersIn
import Derived.WalkMore
import Derived.Test.YtpmjnbmkippaiaaGreatDoorJ16
import Derived.Conc.SmallLaws
set_option maxRecDepth 100000
set_option maxHeartbeats 16000000
set_option linter.unusedVariables false
set_option linter.unusedSimpArgs false
namespace Go.Proofs.YtpmjnbmkippaiaaGreatDoor
open Go.RowKit Go.Shelf
variable {ops:Array Oper} {L S:Int} {ns:List Nd} {Bo C N b blk cap g i j m n o sn:Nat} {r:Fi} {u v v1 v2 vt:Value} {W W' w:World}
theorem Ga.frozen (h:Ga W b r vt v1 v2) (j:Nat):W.frozen? ⟨b,j,none⟩=false:=by
 unfold Ga at h
 simp [World.frozen?,h]
def Us (w:World) (b:Nat) (r:Fi) (vt v1 v2:Value):World:=((((((((((((w).setCell ⟨b,0,none⟩ (.int .i64 r.code)).setCell ⟨b,1,none⟩ (.int .i64 r.sp.g)).setCell ⟨b,2,none⟩ (.int .i64 r.sp.b)).setCell ⟨b,3,none⟩ (.int .i64 r.sp.s)).setCell ⟨b,4,none⟩ (.int .i64 r.sp.l)).setCell ⟨b,5,none⟩ (.int .i64 r.sp.c)).setCell ⟨b,6,none⟩ (.int .i64 r.zx)).setCell ⟨b,7,none⟩ (vt)).setCell ⟨b,8,none⟩ (.int .i64 r.used)).setCell ⟨b,9,none⟩ (.int .i64 r.ops)).setCell ⟨b,10,none⟩ (v1)).setCell ⟨b,11,none⟩ (v2)
theorem Xt (h:w.cell? ⟨b,j,none⟩=some u):(w.setCell ⟨b,j,none⟩ v).cell? ⟨b,j,none⟩=some v:=Xo _ _ _ h
theorem ZY (h:w.cell? ⟨b,i,none⟩=some u) (hne:i≠j):(w.setCell ⟨b,j,none⟩ v).cell? ⟨b,i,none⟩=some u:=(Zs _ _ _ _ (by intro e;injection e with e1 e2;first | exact hne e2 | exact hne e2.symm)).trans h
theorem Ep {q:Fi} {ut u1 u2:Value} (h:Ga w b q ut u1 u2):(Us w b r vt v1 v2).cell? ⟨b,0,none⟩=some (.int .i64 r.code)∧(Us w b r vt v1 v2).cell? ⟨b,1,none⟩=some (.int .i64 r.sp.g)∧(Us w b r vt v1 v2).cell? ⟨b,2,none⟩=some (.int .i64 r.sp.b)∧(Us w b r vt v1 v2).cell? ⟨b,3,none⟩=some (.int .i64 r.sp.s)∧(Us w b r vt v1 v2).cell? ⟨b,4,none⟩=some (.int .i64 r.sp.l)∧(Us w b r vt v1 v2).cell? ⟨b,5,none⟩=some (.int .i64 r.sp.c)∧(Us w b r vt v1 v2).cell? ⟨b,6,none⟩=some (.int .i64 r.zx)∧(Us w b r vt v1 v2).cell? ⟨b,7,none⟩=some (vt)∧(Us w b r vt v1 v2).cell? ⟨b,8,none⟩=some (.int .i64 r.used)∧(Us w b r vt v1 v2).cell? ⟨b,9,none⟩=some (.int .i64 r.ops)∧(Us w b r vt v1 v2).cell? ⟨b,10,none⟩=some (v1)∧(Us w b r vt v1 v2).cell? ⟨b,11,none⟩=some (v2):=by
 obtain ⟨c0,c1,c2,c3,c4,c5,c6,c7,c8,c9,c10,c11⟩:=h.cells;unfold Us;exact ⟨(ZY (ZY (ZY (ZY (ZY (ZY (ZY (ZY (ZY (ZY (ZY (Xt c0) (by decide)) (by decide)) (by decide)) (by decide)) (by decide)) (by decide)) (by decide)) (by decide)) (by decide)) (by decide)) (by decide)),(ZY (ZY (ZY (ZY (ZY (ZY (ZY (ZY (ZY (ZY (Xt (ZY c1 (by decide))) (by decide)) (by decide)) (by decide)) (by decide)) (by decide)) (by decide)) (by decide)) (by decide)) (by decide)) (by decide)),(ZY (ZY (ZY (ZY (ZY (ZY (ZY (ZY (ZY (Xt (ZY (ZY c2 (by decide)) (by decide))) (by decide)) (by decide)) (by decide)) (by decide)) (by decide)) (by decide)) (by decide)) (by decide)) (by decide)),(ZY (ZY (ZY (ZY (ZY (ZY (ZY (ZY (Xt (ZY (ZY (ZY c3 (by decide)) (by decide)) (by decide))) (by decide)) (by decide)) (by decide)) (by decide)) (by decide)) (by decide)) (by decide)) (by decide)),(ZY (ZY (ZY (ZY (ZY (ZY (ZY (Xt (ZY (ZY (ZY (ZY c4 (by decide)) (by decide)) (by decide)) (by decide))) (by decide)) (by decide)) (by decide)) (by decide)) (by decide)) (by decide)) (by decide)),(ZY (ZY (ZY (ZY (ZY (ZY (Xt (ZY (ZY (ZY (ZY (ZY c5 (by decide)) (by decide)) (by decide)) (by decide)) (by decide))) (by decide)) (by decide)) (by decide)) (by decide)) (by decide)) (by decide)),(ZY (ZY (ZY (ZY (ZY (Xt (ZY (ZY (ZY (ZY (ZY (ZY c6 (by decide)) (by decide)) (by decide)) (by decide)) (by decide)) (by decide))) (by decide)) (by decide)) (by decide)) (by decide)) (by decide)),(ZY (ZY (ZY (ZY (Xt (ZY (ZY (ZY (ZY (ZY (ZY (ZY c7 (by decide)) (by decide)) (by decide)) (by decide)) (by decide)) (by decide)) (by decide))) (by decide)) (by decide)) (by decide)) (by decide)),(ZY (ZY (ZY (Xt (ZY (ZY (ZY (ZY (ZY (ZY (ZY (ZY c8 (by decide)) (by decide)) (by decide)) (by decide)) (by decide)) (by decide)) (by decide)) (by decide))) (by decide)) (by decide)) (by decide)),(ZY (ZY (Xt (ZY (ZY (ZY (ZY (ZY (ZY (ZY (ZY (ZY c9 (by decide)) (by decide)) (by decide)) (by decide)) (by decide)) (by decide)) (by decide)) (by decide)) (by decide))) (by decide)) (by decide)),(ZY (Xt (ZY (ZY (ZY (ZY (ZY (ZY (ZY (ZY (ZY (ZY c10 (by decide)) (by decide)) (by decide)) (by decide)) (by decide)) (by decide)) (by decide)) (by decide)) (by decide)) (by decide))) (by decide)),(Xt (ZY (ZY (ZY (ZY (ZY (ZY (ZY (ZY (ZY (ZY (ZY c11 (by decide)) (by decide)) (by decide)) (by decide)) (by decide)) (by decide)) (by decide)) (by decide)) (by decide)) (by decide)) (by decide)))⟩
structure Af (w:World) (v1 v2:Value) (S L:Int) (W:World):Prop where
 YU:ZX w W
 lt:w.heap.size+3≤W.heap.size
 d0:W.cell? ⟨w.heap.size,0,none⟩=some v1
 d1:W.cell? ⟨w.heap.size,1,none⟩=some v2
 c0:W.cell? ⟨w.heap.size+1,0,none⟩=some (.int .i64 S)
 c1:W.cell? ⟨w.heap.size+1,1,none⟩=some (.int .i64 L)
 rx:Ga W (w.heap.size+1+1) (oC 0) (.slice none 0 0) (.slice none 0 0) (.slice none 0 0)
 fd:∀j,W.frozen? ⟨w.heap.size,j,none⟩=false
 fc:∀j,W.frozen? ⟨w.heap.size+1,j,none⟩=false
theorem Af.Zc (h:Af w v1 v2 S L W) (hb:Below m W W') (hm:w.heap.size+3≤m):Af w v1 v2 S L W':=by
 have hl:=h.lt;have q:∀b j,b<w.heap.size+3→W'.cell? ⟨b,j,none⟩=W.cell? ⟨b,j,none⟩:=fun b j h9=>hb.cell (p:=⟨b,j,none⟩) (show b<_ by omega)
 exact ⟨h.YU.trans (hb.mono (by omega)),ZF hl hb.size,(q _ _ (by omega)).trans h.d0,(q _ _ (by omega)).trans h.d1,(q _ _ (by omega)).trans h.c0,(q _ _ (by omega)).trans h.c1,(hb.block _ (by omega)).trans h.rx,fun j=>(hb.frozen (p:=⟨w.heap.size,j,none⟩) (show w.heap.size<_ by omega)).trans (h.fd j),fun j=>(hb.frozen (p:=⟨w.heap.size+1,j,none⟩) (show w.heap.size+1<_ by omega)).trans (h.fc j)⟩
theorem Af.below (h:Af w v1 v2 S L W) (hb:ZX W W'):Af w v1 v2 S L W':=h.Zc hb h.lt
theorem Af.new (w:World) (v1 v2:Value) (S L:Int):Af w v1 v2 S L (((w.alloc (.cells #[v1,v2] 52)).alloc (.cells #[.int .i64 S,.int .i64 L] 25)).alloc (.cells #[.int .i64 0,.int .i64 0,.int .i64 0,.int .i64 0,.int .i64 0,.int .i64 0,.int .i64 0,.slice none 0 0,.int .i64 0,.int .i64 0,.slice none 0 0,.slice none 0 0] 65)):=by
 have b:ZX w (((w.alloc (.cells #[v1,v2] 52)).alloc (.cells #[.int .i64 S,.int .i64 L] 25)).alloc (.cells #[.int .i64 0,.int .i64 0,.int .i64 0,.int .i64 0,.int .i64 0,.int .i64 0,.int .i64 0,.slice none 0 0,.int .i64 0,.int .i64 0,.slice none 0 0,.slice none 0 0] 65)):=((ZJ.alloc ZT _).alloc (by simp) _).alloc (by simp;omega) _;refine ⟨b,by simp,by go_simp,by go_simp,by go_simp,by go_simp,?_,fun j=>by go_simp,fun j=>by go_simp⟩;have h9:=Ga.new ((w.alloc (.cells #[v1,v2] 52)).alloc (.cells #[.int .i64 S,.int .i64 L] 25)) (oC 0) (.slice none 0 0) (.slice none 0 0) (.slice none 0 0)
 simp only [Wg] at h9
 exact h9
theorem Eo {B:Nat} (r:Fi) (vt v1 v2:Value) (h:g≠B):(Us W B r vt v1 v2).heap[g]?=W.heap[g]?:=by
 unfold Us
 iterate 12 refine (Below.heap_setCell _ _ _ g h).trans ?_
 rfl
structure Kp (a b:Nat) (W W':World):Prop where
 os:W'.os=W.os
 tape:W'.tape=W.tape
 output:W'.output=W.output
 size:W.heap.size≤W'.heap.size
 block:∀q,q<W.heap.size→q≠a→q≠b→W'.heap[q]?=W.heap[q]?
structure eX (ZQ:List Int) (ps:List (Int × List Int)) (S:Int) (sn N:Nat) (lim:Int):Prop where
 fit:NM S (sn:Int) ZQ.length ps=true
 n:ps.length≤1936
 Zv:Wm (Qq ZQ ps)
 len:(Qq ZQ ps).length=N
 n9:N≤1048576
 lim:-9223372036854775808≤lim∧lim≤9223372036854775807
theorem eX.facts {ZQ:List Int} {ps:List (Int × List Int)} {lim:Int} (h:eX ZQ ps S sn N lim):YO S (sn:Int)=true∧2+2*(S+(sn:Int))≤((N / 64:Nat):Int)∧128≤N∧(1≤S∧S≤64)∧1≤sn∧sn≤64:=by
 obtain ⟨hc,hv,hd⟩:=(VQ S sn ZQ.length ps).1 h.fit;obtain ⟨⟨hS1,hS2⟩,hL1,hL2⟩:=(Zg S sn).1 hc;have hl:=h.len;rw [NK hv] at hl;rw [hl] at hd;exact ⟨hc,by omega,by omega,⟨hS1,hS2⟩,by omega,by omega⟩
def uZ (ops:Array Oper):Bool:=ops.all fun o=>match o.op with | .defer _=>false | _=>true
theorem En (h:uZ ops=true) {o:Oper} (hi:ops[i]?=some o):∀c,o.op≠.defer c:=by
 intro c hc;unfold uZ at h;obtain ⟨hlt,rfl⟩:=Yh.1 hi;have h2:=Array.all_eq_true.1 h i hlt;rw [hc] at h2
 cases h2
theorem Gq {F:Fence} {P:Program} {md:Region.Mode} {Q:Exit→Act→World→Prop} (l:Nat) (hro:F.round=none) (hd:uZ ops=true) :
    ∀(fuel:Nat) (listed:Array Bool) (a:Act) (w:World),wpAnyIn F n P md ops Q fuel listed a w→wpAnyIn (F.inRound l) n P md ops Q fuel listed a w:=by
 intro fuel
 induction fuel with
 | zero=>intro listed a w h;exact h
 | succ fuel ih =>
  intro listed a w h;refine ⟨h.1,fun i hi=>?_⟩;have h2:=wpOpIn_mono (fun a w h=>ih _ a w h) (h.2 i hi);unfold wpOpIn at h2 ⊢
  cases ho:ops[i]? with
  | none=>rw [ho] at h2;exact h2
  | some o =>
   rw [ho] at h2;dsimp only at h2 ⊢
   split
   · rename_i hw
     rw [ZZ hw] at h2;refine ⟨h2.1,?_⟩;have h3:=h2.2;rw [hro,Oper.semAt_none] at h3;rw [Fence.inRound_round,VA _ _ _ (En hd ho)];exact h3
   rename_i hw;rw [Z1 hw] at h2;exact h2
attribute [local go_sem] VA
attribute [local go_sem] VA
theorem Gp (w:World) (blk o n cap:Nat) (h0:w.cell? ⟨blk,o,none⟩=some (.int .u8 0)) (hn:2≤n) (hc:n≤cap) (hc2:cap≤maxLen) :
    Calls Tryz.prog 207 #[.slice (some ⟨blk,o,none⟩) n cap] w (YI w (.tuple #[.agg #[.slice none 0 0],.int .i64 0])):=by
 have h1:=YJ w _ h0;unfold maxLen at hc2;have e1:¬((n:Int)<2):=by omega
 have e2:(0:Int)<(n:Int):=by omega
 go_enter Tryz.func207,Tryz.ntmps207
 go_wp2;refine ZS (v:=.tuple #[.agg #[.slice none 0 0],.int .i64 0]) (by simp [results,Tryz.results207,go_sem]) rfl ⟨rfl,?_⟩;exact ZJ.alloc ZT _
structure ru (w:World) (vt:Value) (Bo blk o n cap:Nat) (v:Value) (ns:List Nd) (W:World):Prop where
 head:Ds w vt W
 out:Qy W Bo v (.int .i64 0) (.int .i64 0) (.int .i64 0)
 own:Zz 147 W (w.heap.size+2) v ns
 ne:v.ownBlock≠some Bo
 I:Boxed W (Bo+2) 22 (.slice (some ⟨blk,o,none⟩) n cap)
 size:Bo+3≤W.heap.size
 low:w.heap.size+2≤Bo
theorem ru.later (h:ru w vt Bo blk o n cap v ns W) (hb:ZX W W'):ru w vt Bo blk o n cap v ns W' :=
 ⟨h.head.below hb,h.out.below hb,h.own.below hb,h.ne,(hb.block _ (by have:=h.size;omega)).trans h.I,ZF h.size hb.size,h.low⟩
theorem ru.Yj {row:Option Nat} (h:ru w vt Bo blk o n cap v ns W) (hg:W.grownBy W' row) (hr:∀r,row=some r→Bo+3≤r∧∃o:Obj,W.heap[r]?=some o∧o.isCells=false):ru w vt Bo blk o n cap v ns W':=by
 have hz:=h.size;have hl:=h.low;refine ⟨h.head.other hg (fun r e=>by have:=(hr r e).1;omega),h.out.other hg (fun e=>by have:=(hr _ e.symm).1;omega),Yn h.own hg (fun r e=>(hr r e).2),h.ne,(hg.block _ (by omega) (fun e=>by have:=(hr _ e.symm).1;omega)).trans h.I,ZF hz hg.size,hl⟩
theorem JY (nn:Nat) (hn1:1≤nn) (l Ba blk o n cap:Nat) (P:World→Prop) (hP:∀X Y,ZX X Y→P X→P Y) (W:World) (hW:P W) (hB:W.cell? ⟨Ba,0,none⟩=some (.slice (some ⟨blk,o,none⟩) n cap)) (h0:W.cell? ⟨blk,o,none⟩=some (.int .u8 0)) (hn:2≤n) (hc:n≤cap) (hc2:cap≤maxLen) :
    CallsIn Fence.wide nn Tryz.prog 206 #[.func (.yield l) #[] #[],.pointer (some ⟨Ba,0,none⟩)] W fun e W'=>(∃v,e=.returned v)∧P W':=by
 have HP:=Z3 hP;have H0:=Z3 hW;have HN:Hid (2≤n∧n≤cap∧cap≤maxLen):=⟨hn,hc,hc2⟩;have hcp:¬cap=0:=by omega
 have HZ:=Z3 h0;clear hP hW h0;unfold maxLen at hc2;refine SC Tryz.func206 rfl trivial ?_ rfl
 simp only [Tryz.ntmps206,Zm,Yr,Wo,Nat.reduceAdd,Nat.reduceSub,JQ,JO,Wj,Ur,Yw,Vq]
 gi_wp2
 gi_loopw [3] (fun i wr=>i=.int .i64 0∧wr=W) (fun _ _=>0)
 case atStart=>exact ⟨rfl,rfl⟩
 case round =>
  obtain ⟨rfl,rfl⟩:=hrel
  gi_wp2_with fail
  refine ⟨trivial,?_⟩;refine (XM.2 (Gp wr blk o n cap HZ.out HN.out.1 HN.out.2.1 HN.out.2.2)).mono ?_;rintro e w2 ⟨rfl,b2⟩;have H2:=Z3 (HP.out _ _ ((b2.alloc b2.size (.cells #[.slice none 0 0] 263))) H0.out);clear b2;gi_wp2;refine ZS (Rs rfl _ _ _) rfl ?_;exact ⟨⟨_,rfl⟩,H2.out⟩
theorem Gn (w:World) (ta:Option Addr) (tc:Nat) (ns:List Nd) (blk o n cap:Nat) (ht:Wx w (.slice ta ns.length tc) ns) (hok:YY ns=true) (h0:w.cell? ⟨blk,o,none⟩=some (.int .u8 0)) (hn1:2≤n) (hc:n≤cap) (hc2:cap≤maxLen) (hn:n≤8192) :
    Calls Tryz.prog 134 #[.agg #[.slice ta ns.length tc],.int .i64 0,.slice (some ⟨blk,o,none⟩) n cap] w fun e w'=>∃va vc,e=.returned (.agg #[.slice va ns.length vc,.int .i64 0,.int .i64 0,.int .i64 0])∧Zz 147 w' w.heap.size (.slice va ns.length vc) ns∧ZX w w':=by
 have HN:=Z3 ht;have Ub:=Z3 hok;have H0:=Z3 h0;have HC:Hid (2≤n∧n≤cap∧cap≤maxLen):=⟨hn1,hc,hc2⟩;have hnl:ns.length≤1000:=by unfold YY at hok;simp only [Yg,Yt] at hok;exact hok.1
 have HG:=Z3 (Ce hok);have hn2:¬(8192:Int)<(n:Int):=by omega
 have Yl:decide ((8192:Int)<(n:Int))=false:=by simpa using hn2
 have hb0:=YJ w _ h0;clear ht hok h0 hc2;refine (XM (n:=6)).1 ?_;refine callsIn_of_wp_marks Tryz.func134 rfl trivial ?_ rfl
 simp only [Tryz.ntmps134,Zm,Yr,Wo,Nat.reduceAdd,Nat.reduceSub,JQ,JO,Wj,Ur,Yw,Vq]
 gi_wp2_with fail
 have F0:Hid (Ds w (.slice ta ns.length tc) ((w.alloc (.cells #[.slice ta ns.length tc] 63)).alloc (.cells #[.slice none 0 0,.int .i64 0,.int .i64 0,.int .i64 0] 99))):=Ds.new _ _ _ _;generalize (w.alloc _).alloc _=w0 at *;refine ⟨trivial,?_⟩;refine (XM.2 (XE _ _ ns (HN.out.below F0.out.1) (tk HG.out))).mono ?_;rintro e w1 ⟨rfl,b1⟩;rw [Ub.out];have F1:=Z3 (F0.out.below b1);clear b1 F0
 gi_wp2_with fail
 refine ⟨trivial,?_⟩;refine (XM.2 (Kz _ 0)).mono ?_;rintro e wq ⟨rfl,hwq⟩;rw [show decide ((0:Int)≤0∧(0:Int)≤2147483647)=true by decide,hwq];clear hwq;obtain ⟨-,-,x0,-⟩:=F1.out
 gi_wp2_with fail
 clear x0;refine ⟨trivial,?_⟩;refine (XM.2 (Fk _ ta tc ns (HN.out.below F1.out.1) hnl)).mono ?_;rintro e w2 ⟨v2,rfl,o2,b2⟩;obtain ⟨na,nc,rfl⟩:=Zz.Vc o2;have F2:=Z3 (F1.out.below b2);have O2:=Z3 o2;have s1:=F1.out.2.1;clear o2 b2 F1
 gi_wp2_with fail
 refine ⟨trivial,?_⟩;refine (Ch Fence.wide _ trivial rfl _ _ _ _).mono ?_;rintro e w5 ⟨rfl,Rc⟩
 gi_wp2_with fail
 have s2:=F2.out.2.1;have Fw:Hid (ru w (.slice ta ns.length tc) w2.heap.size blk o n cap (.slice na ns.length nc) ns w5):=by
  rw [Rc];have bA:ZX w2 (w2.alloc (.cells #[.slice na ns.length nc,.int .i64 0,.int .i64 0,.int .i64 0] 99)):=ZJ.alloc ZT _;have hO:=O2.out.below bA;have hF:=F2.out.below bA;have hX:=Qy.new w2 (.slice na ns.length nc) (.int .i64 0) (.int .i64 0) (.int .i64 0) 99;have sA:(w2.alloc (.cells #[.slice na ns.length nc,.int .i64 0,.int .i64 0,.int .i64 0] 99)).heap.size=w2.heap.size+1:=by simp
  have hlt:=fun q hq=>ZD O2.out q hq
  generalize w2.alloc _=wA at *;have bB:ZX wA (wA.alloc (.cells #[.int .i64 0] 2)):=ZJ.alloc ZT _;have sB:(wA.alloc (.cells #[.int .i64 0] 2)).heap.size=w2.heap.size+2:=by simp [sA]
  generalize wA.alloc _=wB at *;have d:ZX wB (wB.alloc (.cells #[.slice (some ⟨blk,o,none⟩) n cap] 22)):=ZJ.alloc ZT _;refine ⟨(hF.below bB).below d,(hX.below bB).below d,((hO.below bB).below d).mono (by omega),fun e=>by have:=hlt _ e;omega,?_,by simp [sB],s2⟩;have:=Boxed.new wB 22 (.slice (some ⟨blk,o,none⟩) n cap);rw [sB] at this;exact this
 have s5:w5.heap.size=w2.heap.size+3:=by rw [Rc];simp
 rw [←Rc];clear Rc O2 F2;refine Ty (F:=Fence.wide) (n:=6) rfl (by omega) (gf:=206) (lb:=#[.pointer (some ⟨w2.heap.size+2,0,none⟩)]) rfl trivial (enters_of Tryz.func206 (by kernel_rfl) rfl)
  (fun (_:Unit) W=>ru w (.slice ta ns.length tc) w2.heap.size blk o n cap (.slice na ns.length nc) ns W) (fun _ _ _=>False) (fun s _=>s) (fun _ _=>True) (fun _=>True) ()
  (fun s X Y row hs hg hr=>hs.Yj hg (fun r e=>by have:=hr r e;rw [s5] at this;exact this)) (fun _ _=>trivial) (fun _ _ _ _ _ _ _ _=>trivial)
  (fun s vs W hp=>hp.elim) Fw.out (fun _ _ _ _=>False) (fun _ _ _ _ _ _ _ h=>h.elim) (fun _ _ _ _ _ _ h=>h.elim) (fun _ _ _ _ _ h=>h.elim) ?call ?done
 case call =>
  intro Bk W1 tI hY hb1 _ hs0 G;have hbw:=hs0.head.1;refine (JY _ (by omega) _ _ blk o n cap (fun W=>ru w (.slice ta ns.length tc) w2.heap.size blk o n cap (.slice na ns.length nc) ns W∧Bk W) (fun X Y hb h=>⟨h.1.later hb,tI X Y (XZ hb) h.2⟩) W1 ⟨hs0,G⟩ hs0.I.cell ((hbw.cell (p:=⟨blk,o,none⟩) hb0).trans H0.out) HC.out.1 HC.out.2.1 HC.out.2.2).mono ?_;rintro e W' ⟨h1,h2,h3⟩;exact ⟨h1,(),trivial,h2,h3⟩
 case done =>
  rintro D s W hD hfin hS hK;obtain ⟨hH,hX,hO,hlow,hsz⟩:=(⟨hS.head,hS.out,hS.own,hS.low,hS.size⟩:_∧_∧_∧_∧_);clear hS hfin;have HO:=Z3 hO;have HH:=Z3 hH;have YH:=Z3 hK;have hB:=hH.1;obtain ⟨zo,⟨e0,e1,e2,e3⟩,-⟩:=hX;obtain ⟨zr,⟨d0,d1,d2,d3⟩,f0,f1,f2,f3⟩:=hH.2.2.2;clear hO hH hK;gi_wp2;have hK2:((((W.setCell ⟨w.heap.size+1,0,none⟩ (.slice na ns.length nc)).setCell ⟨w.heap.size+1,1,none⟩ (.int .i64 0)).setCell ⟨w.heap.size+1,2,none⟩ (.int .i64 0)).setCell ⟨w.heap.size+1,3,none⟩ (.int .i64 0)).heap[D]?=some (.deferred (some [])):=(KeepsOthers.setCell _ _ _).same D _ ((KeepsOthers.setCell _ _ _).same D _ ((KeepsOthers.setCell _ _ _).same D _ ((KeepsOthers.setCell _ _ _).same D _ YH.out rfl) rfl) rfl) rfl;refine ⟨by simp,.inl ⟨_,_,rfl,run_takeDeferred hK2,?_⟩⟩;have XB:Qy ((((W.setCell ⟨w.heap.size+1,0,none⟩ (.slice na ns.length nc)).setCell ⟨w.heap.size+1,1,none⟩ (.int .i64 0)).setCell ⟨w.heap.size+1,2,none⟩ (.int .i64 0)).setCell ⟨w.heap.size+1,3,none⟩ (.int .i64 0)) (w.heap.size+1) (.slice na ns.length nc) (.int .i64 0) (.int .i64 0) (.int .i64 0):=(((HH.out.2.2.2.set0 _).set1 _).set2 _).gW _;have OX:Zz 147 ((((W.setCell ⟨w.heap.size+1,0,none⟩ (.slice na ns.length nc)).setCell ⟨w.heap.size+1,1,none⟩ (.int .i64 0)).setCell ⟨w.heap.size+1,2,none⟩ (.int .i64 0)).setCell ⟨w.heap.size+1,3,none⟩ (.int .i64 0)) (w.heap.size+2) (.slice na ns.length nc) ns:=(((HO.out.Yk (show w.heap.size+1<w.heap.size+2 by omega) _).Yk (show w.heap.size+1<w.heap.size+2 by omega) _).Yk (show w.heap.size+1<w.heap.size+2 by omega) _).Yk (show w.heap.size+1<w.heap.size+2 by omega) _;have BX:ZX w ((((W.setCell ⟨w.heap.size+1,0,none⟩ (.slice na ns.length nc)).setCell ⟨w.heap.size+1,1,none⟩ (.int .i64 0)).setCell ⟨w.heap.size+1,2,none⟩ (.int .i64 0)).setCell ⟨w.heap.size+1,3,none⟩ (.int .i64 0)):=(((hB.setCell (by simp) _).setCell (by simp) _).setCell (by simp) _).setCell (by simp) _;have SX:((((W.setCell ⟨w.heap.size+1,0,none⟩ (.slice na ns.length nc)).setCell ⟨w.heap.size+1,1,none⟩ (.int .i64 0)).setCell ⟨w.heap.size+1,2,none⟩ (.int .i64 0)).setCell ⟨w.heap.size+1,3,none⟩ (.int .i64 0)).heap.size=W.heap.size:=by simp
  generalize ((((W.setCell _ _).setCell _ _).setCell _ _).setCell _ _)=X at *;have GX:=grownBy_putObj' X D (.deferred none);have Yi:w.heap.size+1<D:=by omega
  have YB:=XB.other GX (by simp;omega);have OF:=OX.Yj GX (fun r e=>by injection e with e;subst e;exact ⟨_,hK2,rfl⟩);have BF:=BX.grown GX (by omega) (fun q e=>by injection e with e;omega);generalize X.putObj D (.deferred none)=Z at *;obtain ⟨-,⟨y0,y1,y2,y3⟩,-⟩:=YB;refine ⟨.agg #[.slice na ns.length nc,.int .i64 0,.int .i64 0,.int .i64 0],?_,na,nc,rfl,OF.mono (by omega),BF⟩
  simp [results,Tryz.results134,go_sem,y0,y1,y2,y3]
def M6 (w:World) (ms:List Nd) (z2:Int) (z3:Nat) (z4:Int) (e:Ending) (w':World):Prop :=
 ∃va vc,e=.returned (.agg #[.slice va ms.length vc,.int .i64 z2,.int .i64 ((z3:Nat):Int),.int .i64 z4])∧Zz 147 w' w.heap.size (.slice va ms.length vc) ms∧ZX w w'
theorem JX (w:World) (b g N C:Nat) (S L start xb:Int) (ta:Option Addr) (tc:Nat) (ns:List Nd) (cont:List Int) (ms:List Nd) (z2:Int) (z3:Nat) (z4:Int) (Z':∀W,ZX w W→Calls Tryz.prog 134 #[.agg #[.slice ta ns.length tc],.int .i64 start,.slice (some ⟨g,(VJ S L xb true).toNat*64,none⟩) (L.toNat*64) (C - (VJ S L xb true).toNat*64)] W (M6 W ms z2 z3 z4)) (c0:w.cell? ⟨b,0,none⟩=some (.int .i64 S)) (c1:w.cell? ⟨b,1,none⟩=some (.int .i64 L)) (c6:w.cell? ⟨b,6,none⟩=some (.slice (some ⟨g,0,none⟩) N C)) (hlt:b<w.heap.size) (hr:Rd .u8 w (.slice (some ⟨g,0,none⟩) N C) cont) (hby:Wm cont) (hN:cont.length=N) (Dr:N≤1048576) (hc:YO S L=true) (xU:2+2*(S+L)≤((N / 64:Nat):Int)) (hb:0≤xb∧xb≤1) :
    Calls Tryz.prog 86 #[.pointer (some ⟨b,0,none⟩),.agg #[.slice ta ns.length tc],.int .i64 start,.int .i64 xb] w (M6 w ms z2 z3 z4):=by
 obtain ⟨⟨hS1,hS2⟩,hL1,hL2⟩:=(Zg S L).1 hc;obtain ⟨sn,rfl⟩:∃sn:Nat,L=(sn:Int):=⟨L.toNat,by omega⟩;rw [Ww] at Z';obtain ⟨f,hf⟩:∃f:Nat,VJ S (sn:Int) xb true=(f:Int):=⟨(VJ S (sn:Int) xb true).toNat,by
  have hk:xb=0∨xb=1:=by omega
  unfold VJ
  rcases hk with rfl | rfl <;> simp <;> omega⟩
 have kE:(f+sn)*64≤N:=by
  have hk:xb=0∨xb=1:=by omega
  unfold VJ at hf;have h2:N / 64*64≤N:=Nat.div_mul_le_self _ _
  rcases hk with rfl | rfl <;> simp at hf <;> omega
 have lV:N≤C:=by
  obtain ⟨a8,c8,h8,h7,h6⟩:=hr.len
  simp only [Y4] at h8
  obtain ⟨-,h5,rfl⟩:=h8;omega
 rw [hf,Ww] at Z';have hal:(PC cont f sn).length=sn*64:=RN _ _ _ (by omega);have S0:Hid (uF w (.slice ta ns.length tc) ((w.alloc (.cells #[.slice ta ns.length tc] 63)).alloc (.cells #[.slice none 0 0,.int .i64 0,.int .i64 0,.int .i64 0] 99))):=(uF.new _ _).1;have R0:Hid (St ((w.alloc (.cells #[.slice ta ns.length tc] 63)).alloc (.cells #[.slice none 0 0,.int .i64 0,.int .i64 0,.int .i64 0] 99)) (w.heap.size+1) [.slice none 0 0,.int .i64 0,.int .i64 0,.int .i64 0]):=(uF.new _ _).2;have uG:Hid (∀W,Calls Tryz.prog 79 #[.agg #[.int .i64 S,.int .i64 (sn:Int)],.int .i64 xb] W (YI W (.agg #[.int .i64 (f:Int),.int .i64 (sn:Int)]))):=by
  intro W;have h9:=VO W S (sn:Int) xb hc hb;rw [hf,show LO S (sn:Int) true=(sn:Int) from rfl] at h9;exact h9
 have Ar:Hid (∀W,Calls Tryz.prog 50 #[.agg #[.int .i64 (f:Int),.int .i64 (sn:Int)],.slice (some ⟨g,0,none⟩) N C] W (YI W (.slice (some ⟨g,f*64,none⟩) (PC cont f sn).length (C - f*64)))):=by
  intro W;rw [hal];exact U8 W g N C f sn kE (by omega) lV Dr
 have Zt:Hid (∀W,ZX w W→Calls Tryz.prog 134 #[.agg #[.slice ta ns.length tc],.int .i64 start,.slice (some ⟨g,f*64,none⟩) (PC cont f sn).length (C - f*64)] W (M6 W ms z2 z3 z4)):=fun W hW=>by
  rw [hal];exact Z' W hW
 have WE:Hid (w.cell? ⟨b,0,none⟩=some (.int .i64 S)∧w.cell? ⟨b,1,none⟩=some (.int .i64 (sn:Int))∧w.cell? ⟨b,6,none⟩=some (.slice (some ⟨g,0,none⟩) N C)):=⟨c0,c1,c6⟩;clear hr c0 c1 c6 hc hf hby Z' hal;generalize PC cont f sn=IM at *;generalize IM.length=il at *;generalize C - f*64=c9 at *;generalize f*64=fo at *;clear kE lV xU hN Dr
 go_enter Tryz.func86,Tryz.ntmps86
 go_wp2_with fail
 generalize (w.alloc _).alloc _=w0 at *;have Sd:=Z3 (S0.out.below (below_drewN' w0 1));have Zr:=Z3 (R0.out.below (below_drewN' w0 1));refine ZH (S:=uF w (.slice ta ns.length tc)) (by kernel_rfl) (Sd.out) (fun Z9=>?_);refine ZW (.agg #[.slice ta ns.length tc]) Z9 ?_ ?_
 · intro w9 Z0;have k0:=(Z0.YU.cell (p:=⟨b,0,none⟩) hlt).trans WE.out.1;have k1:=(Z0.YU.cell (p:=⟨b,1,none⟩) hlt).trans WE.out.2.1;have k6:=(Z0.YU.cell (p:=⟨b,6,none⟩) hlt).trans WE.out.2.2;have x0:=Z0.sx.cl 0 _ rfl;clear Z0;go_simp
 iterate 4 (refine ZW ?_ Z9 ?_ ?_;rotate_left;· intro w9 Z0;have k0:=(Z0.YU.cell (p:=⟨b,0,none⟩) hlt).trans WE.out.1;have k1:=(Z0.YU.cell (p:=⟨b,1,none⟩) hlt).trans WE.out.2.1;have k6:=(Z0.YU.cell (p:=⟨b,6,none⟩) hlt).trans WE.out.2.2;have x0:=Z0.sx.cl 0 _ rfl;clear Z0;go_simp;try with_reducible rfl)
 refine ZW (.agg #[.int .i64 S,.int .i64 (sn:Int)]) Z9 ?_ ?_
 · intro w9 Z0;have k0:=(Z0.YU.cell (p:=⟨b,0,none⟩) hlt).trans WE.out.1;have k1:=(Z0.YU.cell (p:=⟨b,1,none⟩) hlt).trans WE.out.2.1;have k6:=(Z0.YU.cell (p:=⟨b,6,none⟩) hlt).trans WE.out.2.2;have x0:=Z0.sx.cl 0 _ rfl;clear Z0;go_simp
 refine ZW ?_ Z9 ?_ ?_
 rotate_left
 · intro w9 Z0;have k0:=(Z0.YU.cell (p:=⟨b,0,none⟩) hlt).trans WE.out.1;have k1:=(Z0.YU.cell (p:=⟨b,1,none⟩) hlt).trans WE.out.2.1;have k6:=(Z0.YU.cell (p:=⟨b,6,none⟩) hlt).trans WE.out.2.2;have x0:=Z0.sx.cl 0 _ rfl;clear Z0;go_simp;try with_reducible rfl
 refine ZG 8 ?v8 rfl Z9 ?s8 ?_
 case s8 =>
  intro w9 Z0;have k0:=(Z0.YU.cell (p:=⟨b,0,none⟩) hlt).trans WE.out.1;have k1:=(Z0.YU.cell (p:=⟨b,1,none⟩) hlt).trans WE.out.2.1;have k6:=(Z0.YU.cell (p:=⟨b,6,none⟩) hlt).trans WE.out.2.2;have x0:=Z0.sx.cl 0 _ rfl;clear Z0;go_simp
  try with_reducible rfl
 refine ZG 9 ?v9 rfl Z9 ?ov ?_
 case ov =>
  intro w9 Z0;have k0:=(Z0.YU.cell (p:=⟨b,0,none⟩) hlt).trans WE.out.1;have k1:=(Z0.YU.cell (p:=⟨b,1,none⟩) hlt).trans WE.out.2.1;have k6:=(Z0.YU.cell (p:=⟨b,6,none⟩) hlt).trans WE.out.2.2;have x0:=Z0.sx.cl 0 _ rfl;clear Z0;go_simp
  try with_reducible rfl
 refine ZG 10 ?v10 rfl Z9 ?Fg ?_
 case Fg =>
  intro w9 Z0;have k0:=(Z0.YU.cell (p:=⟨b,0,none⟩) hlt).trans WE.out.1;have k1:=(Z0.YU.cell (p:=⟨b,1,none⟩) hlt).trans WE.out.2.1;have k6:=(Z0.YU.cell (p:=⟨b,6,none⟩) hlt).trans WE.out.2.2;have x0:=Z0.sx.cl 0 _ rfl;clear Z0;go_simp
  try with_reducible rfl
 refine ZG 11 (.slice (some ⟨g,0,none⟩) N C) rfl Z9 ?NH ?_
 case NH =>
  intro w9 Z0;have k0:=(Z0.YU.cell (p:=⟨b,0,none⟩) hlt).trans WE.out.1;have k1:=(Z0.YU.cell (p:=⟨b,1,none⟩) hlt).trans WE.out.2.1;have k6:=(Z0.YU.cell (p:=⟨b,6,none⟩) hlt).trans WE.out.2.2;have x0:=Z0.sx.cl 0 _ rfl;clear Z0;go_simp
 refine ZU 7 rfl (fun K hK=>?_);go_simp;refine (uG.out _).mono ?_;rintro e w1 ⟨rfl,b1⟩;have N1:=Z9.below b1;have R1:=Zr.out.below b1;clear b1;refine hK.out _ _ N1 (fun ZM=>?_);clear hK K Z9;have Z9:=ZM;clear ZM;refine ZU 12 rfl (fun K hK=>?_);go_simp;refine (Ar.out _).mono ?_;rintro e w2 ⟨rfl,b2⟩;have N2:=Z9.below b2;have R2:=R1.below b2;clear b2;refine hK.out _ _ N2 (fun ZM=>?_);clear hK K Z9;have Z9:=ZM;clear ZM;refine ZU 13 rfl (fun K hK=>?_);go_simp;refine (Zt.out _ Z9.YU).mono ?_;rintro e w3 ⟨va,vc,rfl,o3,b3⟩;have N3:=Z9.below b3;have R3:=R2.below b3;have O3:=Z3 o3;clear b3 o3;refine hK.out _ _ N3 (fun ZM=>?_);clear hK K Z9;have Z9:=ZM;clear ZM;have t0:=R3.cl 0 _ rfl;have t1:=R3.cl 1 _ rfl;have t2:=R3.cl 2 _ rfl;have t3:=R3.cl 3 _ rfl;have f0:=R3.fz 0;have f1:=R3.fz 1;have f2:=R3.fz 2;have f3:=R3.fz 3;have SE:Hid (St ((((w3.setCell ⟨w.heap.size+1,0,none⟩ (.slice va ms.length vc)).setCell ⟨w.heap.size+1,1,none⟩ (.int .i64 z2)).setCell ⟨w.heap.size+1,2,none⟩ (.int .i64 ((z3:Nat):Int))).setCell ⟨w.heap.size+1,3,none⟩ (.int .i64 (z4))) (w.heap.size+1) [(.slice va ms.length vc),(.int .i64 z2),(.int .i64 ((z3:Nat):Int)),(.int .i64 (z4))]):=((((R3.set 0 (.slice va ms.length vc)).set 1 (.int .i64 z2)).set 2 (.int .i64 ((z3:Nat):Int))).set 3 (.int .i64 (z4)));have BE:Hid (ZX w ((((w3.setCell ⟨w.heap.size+1,0,none⟩ (.slice va ms.length vc)).setCell ⟨w.heap.size+1,1,none⟩ (.int .i64 z2)).setCell ⟨w.heap.size+1,2,none⟩ (.int .i64 ((z3:Nat):Int))).setCell ⟨w.heap.size+1,3,none⟩ (.int .i64 (z4)))):=by
  iterate 4 refine Below.setCell ?_ (by show w.heap.size≤w.heap.size+1;omega) _
  exact N3.YU
 have OE:Hid (Zz 147 ((((w3.setCell ⟨w.heap.size+1,0,none⟩ (.slice va ms.length vc)).setCell ⟨w.heap.size+1,1,none⟩ (.int .i64 z2)).setCell ⟨w.heap.size+1,2,none⟩ (.int .i64 ((z3:Nat):Int))).setCell ⟨w.heap.size+1,3,none⟩ (.int .i64 (z4))) w.heap.size (.slice va ms.length vc) ms):=by
  have hne:(Value.slice va ms.length vc).ownBlock=none∨(Value.slice va ms.length vc).ownBlock≠some (w.heap.size+1):=.inr (fun e=>by have:=(ZD O3.out _ e).1;have:=R2.lt;omega);have o5:=Zz.mono O3.out N2.YU.size;exact Yu (Yu (Yu (Yu o5 (grownBy_set _ _ (w.heap.size+1) 0 _ (YT _ _)) hne) (grownBy_set _ _ (w.heap.size+1) 1 _ (YT _ _)) hne) (grownBy_set _ _ (w.heap.size+1) 2 _ (YT _ _)) hne) (grownBy_set _ _ (w.heap.size+1) 3 _ (YT _ _)) hne
 refine ZU 14 rfl (fun K hK=>?_);clear uG Ar Zt S0 Sd WE;have TW:Hid (∀wE va vc,Zz 147 wE w.heap.size (.slice va ms.length vc) ms→ZX w wE→M6 w ms z2 z3 z4 (.returned (.agg #[.slice va ms.length vc,.int .i64 z2,.int .i64 ((z3:Nat):Int),.int .i64 (z4)])) wE):=fun wE va vc ho hb=>⟨va,vc,rfl,ho,hb⟩
 clear O3;generalize hr1:ms.length=rl at *;go_simp;have NE:uF w (.slice ta ns.length tc) ((((w3.setCell ⟨w.heap.size+1,0,none⟩ (.slice va rl vc)).setCell ⟨w.heap.size+1,1,none⟩ (.int .i64 z2)).setCell ⟨w.heap.size+1,2,none⟩ (.int .i64 (z3:Int))).setCell ⟨w.heap.size+1,3,none⟩ (.int .i64 z4)):=⟨BE.out,(((N3.sx.other (by omega)).other (by omega)).other (by omega)).other (by omega)⟩;refine hK.out _ _ NE (fun ZM=>?_);clear hK K ZM;refine ZP (by kernel_rfl) ?_ _
 try simp only [Act.put,Y8,Y7,Y6]
 clear t0 t1 t2 t3 f0 f1 f2 f3 NE N1 N2 N3 R1 R2 R3 Z9 R0 Zr;generalize (((w3.setCell _ _).setCell _ _).setCell _ _).setCell _ _=wE at *;go_wp2;have e0:=SE.out.cl 0 _ rfl;have e1:=SE.out.cl 1 _ rfl;have e2:=SE.out.cl 2 _ rfl;have e3:=SE.out.cl 3 _ rfl;refine ZS (v:=.agg #[.slice va rl vc,.int .i64 z2,.int .i64 (z3:Int),.int .i64 z4]) (by simp [results,Tryz.results86,go_sem,e0,e1,e2,e3]) rfl ?_;exact TW.out wE va vc OE.out BE.out
def CO (w:World) (b:Nat) (S L:Int) (vd vp:Value) (lim made:Int) (vc:Value) (cg:Bool) (c:Uz) (og:Bool) (o:Uz) (ms:List Nd) (z2:Int) (z3:Nat) (z4:Int) (e:Ending) (w':World):Prop :=
 Tw w b none w' none∧∃va U,e=.returned (.int .i64 3)∧St w' b (So S L vd vp lim made vc cg c og o 0 (.slice va ms.length U) z2 ((z3:Nat):Int) z4)∧Zz 147 w' w.heap.size (.slice va ms.length U) ms
theorem Gm (w:World) (b g N C:Nat) (S L:Int) (vd vp:Value) (lim made:Int) (vc:Value) (cg:Bool) (c:Uz) (og:Bool) (o:Uz) (code:Int) (vt:Value) (zx cnt en:Int) (cont:List Int) (hs:St w b (So S L vd vp lim made vc cg c og o code vt zx cnt en)) (oq:vc=.slice (some ⟨g,0,none⟩) N C) (hr:∀W,Tw w b none W none→Rd .u8 W (.slice (some ⟨g,0,none⟩) N C) cont) (hby:Wm cont) (hN:cont.length=N) (Dr:N≤1048576) (hc:YO S L=true) (xU:2+2*(S+L)≤((N / 64:Nat):Int)) (ht:TF w) (hb0:0<b) (ns:List Nd) (hSD:qH ((PC cont (VJ S L c.b false).toNat S.toNat).take c.l.toNat) c.c=some ns) (ms:List Nd) (z2:Int) (z3:Nat) (z4:Int) (YG:∀W ta tc,Tw w b none W none→Wx W (.slice ta ns.length tc) ns→St W b (So S L vd vp lim made vc cg c og o 0 vt zx cnt en)→Calls Tryz.prog 86 #[.pointer (some ⟨b,0,none⟩),.agg #[.slice ta ns.length tc],.int .i64 c.s,.int .i64 c.b] W (M6 W ms z2 z3 z4)) (hcb:0≤c.b∧c.b≤1) (hcl:0≤c.l∧c.l≤S*64) :
    Calls Tryz.prog 40 #[.pointer (some ⟨b,0,none⟩)] w (CO w b S L vd vp lim made vc cg c og o ms z2 z3 z4):=by
 have hlt:=hs.lt;obtain ⟨ln,hln⟩:∃n:Nat,c.l=(n:Int):=⟨c.l.toNat,by omega⟩;have xT:Hid (∀W,ZX w W→Calls Tryz.prog 85 #[.pointer (some ⟨b,0,none⟩),.agg #[.int .i64 c.g,.int .i64 c.b,.int .i64 c.s,.int .i64 c.l,.int .i64 c.c]] W (xV W (qH ((PC cont (VJ S L c.b false).toNat S.toNat).take c.l.toNat) c.c))):=by
  intro W hW;have hs':=hs.Zc hW hlt;have h9:=BY W b g N C ln S L c.g c.b c.s c.l c.c cont (hs'.cl 0 _ rfl) (hs'.cl 1 _ rfl) (by rw [←oq];exact hs'.cl 6 _ rfl) hs'.lt (hr W (Tw.ZV hW _ _)) hby hN Dr hc xU hcb hln hcl.2 (ht.below (by omega) hW) (by have:=hs'.lt;omega);rw [show ln=c.l.toNat by omega] at h9;exact h9
 have FB:=Z3 YG;have HS:=Z3 hs;clear hs hr ht hc hby hN xU hln oq;rw [hSD] at xT;clear hSD;have q8:=HS.out.cl 8 _ rfl;have q9:=HS.out.cl 9 _ rfl;have iJ:=HS.out.cl 10 _ rfl;have iI:=HS.out.cl 11 _ rfl;have gT:=HS.out.cl 12 _ rfl;have BA:Hid (ZX w (w.alloc (.cells #[.int .i64 c.g,.int .i64 c.b,.int .i64 c.s,.int .i64 c.l,.int .i64 c.c] 60))):=ZJ.alloc ZT _;have XA:Hid (St (w.alloc (.cells #[.int .i64 c.g,.int .i64 c.b,.int .i64 c.s,.int .i64 c.l,.int .i64 c.c] 60)) w.heap.size [.int .i64 c.g,.int .i64 c.b,.int .i64 c.s,.int .i64 c.l,.int .i64 c.c]):=St.new _ _ _
 go_enter Tryz.func40,Tryz.ntmps40
 go_wp2_with fail
 clear q8 q9 iJ iI gT;generalize w.alloc _=w0 at *;refine (xT.out _ BA.out).mono ?_;rintro e w1 ⟨b1,h1⟩;have B1:=Z3 (YV BA.out b1);have X1:=Z3 (XA.out.below b1);have Yf:=b1.size;clear b1 BA xT
 rcases h1 with ⟨hn,rfl⟩ | ⟨YF,v,hsm,rfl,o1⟩
 · cases hn
 obtain rfl:ns=YF:=Yv hsm;clear hsm;obtain ⟨va,U,YE⟩:=Zz.Vc o1;subst YE;have O1:=Z3 o1;have BA:ZX w1 (w1.alloc (.cells #[.bool true,.slice va ns.length U] 135)):=ZJ.alloc ZT _;have B2:Hid (ZX w (w1.alloc (.cells #[.bool true,.slice va ns.length U] 135))):=B1.out.alloc B1.out.size _;have S2:=Z3 (HS.out.Zc B2.out hlt);have X2:=Z3 (X1.out.below BA);have Y2:Hid (St (w1.alloc (.cells #[.bool true,.slice va ns.length U] 135)) w1.heap.size [.bool true,.slice va ns.length U]):=St.new _ _ _;have O2:=Z3 (Zz.below O1.out BA);have hw1:=B1.out.size;have hw0:b<w0.heap.size:=by have:=XA.out.lt;omega
 clear HS B1 X1 XA O1 o1 BA;have YD:=S2.out.cl 19 _ rfl;have f19:=S2.out.fz 19;have hx1:=X2.out.cl 1 _ rfl;have hx2:=X2.out.cl 2 _ rfl;have hy0:=Y2.out.cl 0 _ rfl;have hy1:=Y2.out.cl 1 _ rfl;have SA:Hid (St ((w1.alloc (.cells #[.bool true,.slice va ns.length U] 135)).setCell ⟨b,19,none⟩ (.int .i64 0)) b (So S L vd vp lim made vc cg c og o 0 vt zx cnt en)):=S2.out.set 19 _;have YC:((w1.alloc (.cells #[.bool true,.slice va ns.length U] 135)).setCell ⟨b,19,none⟩ (.int .i64 0)).cell? ⟨w.heap.size,1,none⟩=some (.int .i64 c.b):=(X2.out.other (by omega)).cl 1 _ rfl;have YA:((w1.alloc (.cells #[.bool true,.slice va ns.length U] 135)).setCell ⟨b,19,none⟩ (.int .i64 0)).cell? ⟨w.heap.size,2,none⟩=some (.int .i64 c.s):=(X2.out.other (by omega)).cl 2 _ rfl;have Yz:((w1.alloc (.cells #[.bool true,.slice va ns.length U] 135)).setCell ⟨b,19,none⟩ (.int .i64 0)).cell? ⟨w1.heap.size,1,none⟩=some (.slice va ns.length U):=(Y2.out.other (by omega)).cl 1 _ rfl;have TA:Hid (Tw w b none ((w1.alloc (.cells #[.bool true,.slice va ns.length U] 135)).setCell ⟨b,19,none⟩ (.int .i64 0)) none):=(Tw.ZV B2.out b none).set;have OA:Hid (Zz 147 ((w1.alloc (.cells #[.bool true,.slice va ns.length U] 135)).setCell ⟨b,19,none⟩ (.int .i64 0)) w0.heap.size (.slice va ns.length U) ns):=Yu O2.out (grownBy_set _ _ b 19 _ (YT _ _)) (.inr (fun e=>by have:=(ZD O2.out _ e).1;omega));clear S2 X2 Y2 O2 B2
 go_wp2_with fail
 clear YD f19 hx1 hx2 hy0 hy1 YC YA Yz;generalize (w1.alloc _).setCell _ _=w3 at *;refine (FB.out w3 va U TA.out OA.out.rd SA.out).mono ?_;rintro e w4 ⟨ra,rc,rfl,o4,b4⟩;have S4:=Z3 (SA.out.below b4);have T4:=Z3 (TA.out.trans (Tw.ZV b4 b none));have O4:=Z3 (Zz.mono o4 TA.out.size);have hnb:(Value.slice ra ms.length rc).ownBlock≠some b:=fun e=>by have:=(ZD o4 _ e).1;have:=SA.out.lt;omega
 have TW:Hid (∀wE,St wE b (So S L vd vp lim made vc cg c og o 0 (.slice ra ms.length rc) z2 ((z3:Nat):Int) z4)→Zz 147 wE w.heap.size (.slice ra ms.length rc) ms→Tw w b none wE none→CO w b S L vd vp lim made vc cg c og o ms z2 z3 z4 (.returned (.int .i64 3)) wE):=fun wE h1 h2 h3=>⟨h3,ra,rc,rfl,h1,h2⟩
 clear o4 b4 SA TA OA FB;generalize hrl:ms.length=rl at *;have g20:=S4.out.fz 20;have g21:=S4.out.fz 21;have g22:=S4.out.fz 22;have g23:=S4.out.fz 23;have k21:=S4.out.cl 21 _ rfl;have k22:=S4.out.cl 22 _ rfl;have k23:=S4.out.cl 23 _ rfl;have k20:=S4.out.cl 20 _ rfl;have SE:Hid (St ((((w4.setCell ⟨b,20,none⟩ (.slice ra rl rc)).setCell ⟨b,21,none⟩ (.int .i64 z2)).setCell ⟨b,22,none⟩ (.int .i64 ((z3:Nat):Int))).setCell ⟨b,23,none⟩ (.int .i64 z4)) b (So S L vd vp lim made vc cg c og o 0 (.slice ra rl rc) z2 ((z3:Nat):Int) z4)):=(((S4.out.set 20 _).set 21 _).set 22 _).set 23 _;have TE:Hid (Tw w b none ((((w4.setCell ⟨b,20,none⟩ (.slice ra rl rc)).setCell ⟨b,21,none⟩ (.int .i64 z2)).setCell ⟨b,22,none⟩ (.int .i64 ((z3:Nat):Int))).setCell ⟨b,23,none⟩ (.int .i64 z4)) none):=T4.out.set.set.set.set;have OE:Hid (Zz 147 ((((w4.setCell ⟨b,20,none⟩ (.slice ra rl rc)).setCell ⟨b,21,none⟩ (.int .i64 z2)).setCell ⟨b,22,none⟩ (.int .i64 ((z3:Nat):Int))).setCell ⟨b,23,none⟩ (.int .i64 z4)) w.heap.size (.slice ra rl rc) ms):=Yu (Yu (Yu (Yu O4.out (grownBy_set _ _ b 20 _ (YT _ _)) (.inr hnb)) (grownBy_set _ _ b 21 _ (YT _ _)) (.inr hnb)) (grownBy_set _ _ b 22 _ (YT _ _)) (.inr hnb)) (grownBy_set _ _ b 23 _ (YT _ _)) (.inr hnb);clear S4 T4 O4;go_wp2;go_ret;exact TW.out _ SE.out OE.out TE.out
attribute [local go_sem] VA
theorem AD (nn:Nat) (hn1:1≤nn) (l Ba tb c:Nat) (a:Option Addr) (P:World→Prop) (hP:∀X Y,ZX X Y→P X→P Y) (W:World) (hW:P W) (h0:W.cell? ⟨Ba,0,none⟩=some (.pointer (some ⟨tb,0,none⟩))) (h1:W.cell? ⟨tb,0,none⟩=some (.slice a 0 c)) :
    CallsIn Fence.wide nn Tryz.prog 137 #[.func (.yield l) #[] #[],.pointer (some ⟨Ba,0,none⟩)] W fun e W'=>(∃v,e=.returned v)∧P W':=by
 have H0:=Z3 hW;clear hP hW;refine SC Tryz.func137 rfl trivial ?_ rfl
 simp only [Tryz.ntmps137,Zm,Yr,Wo,Nat.reduceAdd,Nat.reduceSub,JQ,JO,Wj,Ur,Yw,Vq]
 gi_wp2
 gi_loopw [10] (fun i wr=>i=.int .i64 0∧wr=W) (fun _ _=>0)
 case atStart=>exact ⟨rfl,rfl⟩
 case round =>
  obtain ⟨rfl,rfl⟩:=hrel;gi_wp2;exact ⟨rfl,_,Rs rfl _ _ _,⟨_,rfl⟩,H0.out⟩
structure Cz (w w1 w2:World) (tb c:Nat) (a:Option Addr) (W:World):Prop where
 YU:ZX w W
 res:St W (w.heap.size+1) [.int .i64 0]
 bx:W.cell? ⟨w1.heap.size,0,none⟩=some (.pointer (some ⟨tb,0,none⟩))
 rows:W.cell? ⟨tb,0,none⟩=some (.slice a 0 c)
 sz:w2.heap.size≤W.heap.size
theorem MA (w:World) (b:Nat) (ox:∀W,ZX w W→Calls Tryz.prog 87 #[.pointer (some ⟨b,0,none⟩)] W (xN W [])) :
    Calls Tryz.prog 42 #[.pointer (some ⟨b,0,none⟩)] w (YI w (.int .i64 6)):=by
 have ox:=Z3 ox;have BA:Hid (ZX w ((w.alloc (.cells #[.pointer (some ⟨b,0,none⟩)] 93)).alloc (.cells #[.int .i64 0] 102))):=(ZJ.alloc ZT _).alloc (by simp) _;have Y0:Hid (St ((w.alloc (.cells #[.pointer (some ⟨b,0,none⟩)] 93)).alloc (.cells #[.int .i64 0] 102)) (w.heap.size+1) [.int .i64 0]):=by
  have h9:=St.new (w.alloc (.cells #[.pointer (some ⟨b,0,none⟩)] 93)) #[.int .i64 0] 102;rw [Wg] at h9;exact h9
 refine (XM (n:=6)).1 ?_;refine callsIn_of_wp_marks Tryz.func42 rfl trivial ?_ rfl
 simp only [Tryz.ntmps42,Zm,Yr,Wo,Nat.reduceAdd,Nat.reduceSub,JQ,JO,Wj,Ur,Yw,Vq]
 gi_wp2_with fail
 refine ⟨trivial,?_⟩;generalize (w.alloc _).alloc _=w0 at *;refine (XM.2 (ox.out _ BA.out)).mono ?_;rintro e w1 ⟨tb,mb,v,rfl,t1,b1⟩;have s0:=Y0.out.lt;have B1:=Z3 (YV BA.out b1);have Y1:=Z3 (Y0.out.below b1);obtain ⟨⟨tz,td,-⟩,-⟩:=t1.box;obtain ⟨a,c,rfl⟩:∃a c,v=.slice a 0 c:=by
  rcases t1.rows.2 with ⟨rfl,-⟩ | ⟨g,cap,cur,rfl,-⟩
  · exact ⟨_,_,rfl⟩
  exact ⟨_,_,rfl⟩
 have TD:=Z3 td;have s1:=b1.size;clear b1 t1 BA Y0 ox td
 gi_wp2_with fail
 refine ⟨trivial,?_⟩;refine (all_in Fence.wide _ trivial rfl _ _).mono ?_;rintro e w2 ⟨rfl,hw2⟩;have s2:w2.heap.size=w1.heap.size+1:=by rw [hw2];simp
 have b2:ZX w1 w2:=by rw [hw2];exact ZJ.alloc ZT _
 have Z2:Hid (Cz w w1 w2 tb c a w2):=⟨YV B1.out b2,Y1.out.below b2,by rw [hw2];simp,(b2.cell (p:=⟨tb,0,none⟩) tz).trans TD.out,ZT⟩;have s3:=B1.out.size;clear hw2 b2 B1 Y1 TD;have ZB:∀X Y,ZX X Y→Cz w w1 w2 tb c a X→Cz w w1 w2 tb c a Y:=fun X Y hb h =>
  ⟨h.YU.trans (hb.mono h.YU.size),h.res.below hb,(hb.cell (p:=⟨w1.heap.size,0,none⟩) (by have:=h.sz;show w1.heap.size<_;omega)).trans h.bx,(hb.cell (p:=⟨tb,0,none⟩) (by have:=h.sz;show tb<_;omega)).trans h.rows,ZF h.sz hb.size⟩
 have ZN:∀X Y row,Cz w w1 w2 tb c a X→X.grownBy Y row→(∀r,row=some r→w2.heap.size≤r)→Cz w w1 w2 tb c a Y:=fun X Y row h hg hr =>
  have hb:∀q,q<w2.heap.size→Y.heap[q]?=X.heap[q]?:=fun q hq=>hg.block q (ZL hq h.sz) (fun e=>by have:=hr q e.symm;omega)
  ⟨h.YU.grown hg (by have:=h.YU.size;omega) (fun q e=>by have:=hr q e;omega),h.res.xM hg (fun e=>by have:=hr _ e.symm;omega),(Zj (w:=X) (a:=⟨w1.heap.size,0,none⟩) (hb _ (by show w1.heap.size<_;omega))).trans h.bx,(Zj (w:=X) (a:=⟨tb,0,none⟩) (hb _ (by show tb<_;omega))).trans h.rows,ZF h.sz hg.size⟩
 have Zq:=Z3 ZB;have Yy:=Z3 ZN;clear ZB ZN
 gi_wp2_with fail
 refine Ty (F:=Fence.wide) (n:=6) rfl (by omega) (gf:=137) (lb:=#[.pointer (some ⟨w1.heap.size,0,none⟩)]) rfl trivial (enters_of Tryz.func137 (by kernel_rfl) rfl)
  (fun (_:Unit) W=>Cz w w1 w2 tb c a W) (fun _ _ _=>False) (fun s _=>s) (fun _ _=>True) (fun _=>True) ()
  (fun s X Y row hs hg hr=>Yy.out X Y row hs hg (fun r e=>(hr r e).1)) (fun _ _=>trivial) (fun _ _ _ _ _ _ _ _=>trivial)
  (fun s vs W hp=>hp.elim) Z2.out (fun _ _ _ _=>False) (fun _ _ _ _ _ _ _ h=>h.elim) (fun _ _ _ _ _ _ h=>h.elim) (fun _ _ _ _ _ h=>h.elim) ?call ?done
 case call =>
  intro Bk W1 tI hY hb1 _ hs0 G;refine (AD _ (by omega) _ _ tb c a (fun W=>Cz w w1 w2 tb c a W∧Bk W) (fun X Y hb h=>⟨Zq.out X Y hb h.1,tI X Y (XZ hb) h.2⟩) W1 ⟨hs0,G⟩ hs0.bx hs0.rows).mono ?_;rintro e W' ⟨h1,h2,h3⟩;exact ⟨h1,(),trivial,h2,h3⟩
 case done =>
  rintro D s W hD hfin hS hK;have HS:=Z3 hS;have HK:=Z3 hK;clear hS hK hfin
  gi_wp2_with fail
  refine ⟨trivial,?_⟩;refine (XM.2 (BR W tb _ [] HS.out.rows ⟨a,c,rfl⟩)).mono ?_;rintro e Wy ⟨rfl,ZC⟩;have E:=Z3 (Zq.out _ _ ZC HS.out);have Yx:Hid (Wy.heap[D]?=some (.deferred (some []))):=(ZC.block D (Yh.mp HK.out).1).trans HK.out;clear ZC HS HK;have y0:=E.out.res.cl 0 _ rfl;have yf:=E.out.res.fz 0;gi_wp2;refine ⟨trivial,?_⟩;gi_wp2;have Ys:(Wy.setCell ⟨w.heap.size+1,0,none⟩ (.int .i64 6)).heap[D]?=some (.deferred (some [])):=(KeepsOthers.setCell _ _ _).same D _ Yx.out rfl;refine ⟨by simp,.inl ⟨_,_,rfl,run_takeDeferred Ys,?_⟩⟩;have GX:=grownBy_putObj' (Wy.setCell ⟨w.heap.size+1,0,none⟩ (.int .i64 6)) D (.deferred none);have YX:=(E.out.res.set 0 (.int .i64 6)).xM GX (by simp;omega);have hsy:=E.out.sz;have BX:ZX w ((Wy.setCell ⟨w.heap.size+1,0,none⟩ (.int .i64 6)).putObj D (.deferred none)):=(E.out.YU.setCell (by simp) _).grown GX (by simp;omega) (fun q e=>by injection e with e;omega);generalize (Wy.setCell _ _).putObj D (.deferred none)=Z at *;have z0:=YX.cl 0 _ rfl;exact ⟨.int .i64 6,by simp [results,Tryz.results42,go_sem,z0],rfl,BX⟩
theorem JW (w:World) (va:Option Addr) (dl ca:Nat) (ZQ:List Int) (hd:Rd .u8 w (.slice va dl ca) ZQ) (hdl:ZQ.length=dl) (hd1:dl≤1048576) :
    Calls Tryz.prog 37 #[.agg #[.slice va dl ca,.slice none 0 0]] w fun e w'=>∃a c g,e=.returned (.agg #[.slice a dl c,.slice (some ⟨g,0,none⟩) 0 1])∧Own .u8 5 w' w.heap.size (.slice a dl c) ZQ∧w.heap.size≤g∧w'.heap[g]?=some (.cells #[.int .i64 0,.slice none 0 0] 132 (0,0))∧ZX w w':=by
 obtain ⟨i0,hi,hz0,hz1,hz2⟩:=Yq Tryz.qU;have hmk:=run_make (P:=Tryz.prog) ((w.alloc (.cells #[.slice va dl ca,.slice none 0 0] 52)).alloc (.cells #[.slice none 0 0,.slice none 0 0] 52)) 50 132 i0 (.agg #[.int .i64 0,.slice none 0 0]) Tryz.underlying50 hi hz0 .i64 .i64 0 1 (by decide) (by decide) (by rw [hz2];decide) (by decide);have hmc:madeCells (Value.agg #[.int .i64 0,.slice none 0 0]).cells ((1:Int).toNat*i0.size)=#[.int .i64 0,.slice none 0 0]:=by rw [hz1];kernel_rfl
 rw [hmc] at hmk;have HD:=Z3 hd;have SM:=Z3 hdl;clear hd hdl hmc
 go_enter Tryz.func37,Tryz.ntmps37
 go_wp2;clear hmk;have B3:Hid (ZX w (((w.alloc (.cells #[.slice va dl ca,.slice none 0 0] 52)).alloc (.cells #[.slice none 0 0,.slice none 0 0] 52)).alloc (.cells #[.int .i64 0,.slice none 0 0] 132))):=((ZJ.alloc ZT _).alloc (by simp) _).alloc (by simp;omega) _;have X0:Hid (St (((w.alloc (.cells #[.slice va dl ca,.slice none 0 0] 52)).alloc (.cells #[.slice none 0 0,.slice none 0 0] 52)).alloc (.cells #[.int .i64 0,.slice none 0 0] 132)) w.heap.size [.slice va dl ca,.slice none 0 0]):=((St.new w _ _).below (ZJ.alloc ZT _)).below (ZJ.alloc ZT _);have oZ:Hid ((((w.alloc (.cells #[.slice va dl ca,.slice none 0 0] 52)).alloc (.cells #[.slice none 0 0,.slice none 0 0] 52)).alloc (.cells #[.int .i64 0,.slice none 0 0] 132)).heap[w.heap.size+2]?=some (.cells #[.int .i64 0,.slice none 0 0] 132 (0,0))):=by
  have:=Y9 ((w.alloc (.cells #[.slice va dl ca,.slice none 0 0] 52)).alloc (.cells #[.slice none 0 0,.slice none 0 0] 52)) (.cells #[.int .i64 0,.slice none 0 0] 132);show _=_
  simpa using this
 have X1:Hid (WI (((w.alloc (.cells #[.slice va dl ca,.slice none 0 0] 52)).alloc (.cells #[.slice none 0 0,.slice none 0 0] 52)).alloc (.cells #[.int .i64 0,.slice none 0 0] 132)) (w.heap.size+1) (.slice none 0 0) (.slice none 0 0)):=by
  have:=(WI.new (w.alloc (.cells #[.slice va dl ca,.slice none 0 0] 52)) (.slice none 0 0) (.slice none 0 0) 52).below (ZJ.alloc ZT (.cells #[.int .i64 0,.slice none 0 0] 132));show WI _ _ _ _
  simpa using this
 generalize ((w.alloc _).alloc _).alloc _=w3 at *
 go_loopw [3,14] (fun v i wr=>v=.slice (some ⟨w.heap.size+1+1,0,none⟩) 0 1∧i=.int .i64 0∧wr=w3) (fun _ _ _=>0)
 case atStart=>exact ⟨rfl,rfl,rfl⟩
 case round =>
  obtain ⟨rfl,rfl,rfl⟩:=hrel;have c0:=X0.out.cl 0 _ rfl
  go_wp2_with fail
  refine (Ma _ _ ZQ (HD.out.below B3.out) (by have:=SM.out;omega)).mono ?_;rintro e w7 ⟨v7,rfl,o7,b7⟩;obtain ⟨a7,c7,rfl⟩:=o7.slice;rw [SM.out];have B7:=Z3 (YV B3.out b7);have O7:Hid (Own .u8 5 w7 wr.heap.size (.slice a7 dl c7) ZQ):=by rw [←SM.out];exact o7
  have g3:=oZ.out;have l3:=(Yh.mp g3).1;have G7:Hid (w7.heap[w.heap.size+2]?=some (.cells #[.int .i64 0,.slice none 0 0] 132 (0,0))):=(b7.block _ l3).trans g3;have Yp:=Z3 (X1.out.below b7);have hb3:=B3.out.size;clear o7 b7 g3 c0;obtain ⟨⟨z7,d0,d1⟩,f0,f1⟩:=Yp.out;go_wp2;refine ZS (v:=.agg #[.slice a7 dl c7,.slice (some ⟨w.heap.size+1+1,0,none⟩) 0 1]) (by simp [results,Tryz.results37,go_sem,d0,d1]) rfl ⟨_,_,w.heap.size+1+1,rfl,?_,by omega,?_,?_⟩
  · have hl:∀j (u:Value) (W:World),Own .u8 5 W wr.heap.size (.slice a7 dl c7) ZQ→Own .u8 5 (W.setCell ⟨w.heap.size+1,j,none⟩ u) wr.heap.size (.slice a7 dl c7) ZQ:=fun j u W h=>Own.Yk h (by show w.heap.size+1<wr.heap.size;omega) u
    exact Own.mono (hl _ _ _ (hl _ _ _ O7.out)) (by omega)
  · rw [Below.heap_setCell _ _ _ _ (by simp),Below.heap_setCell _ _ _ _ (by simp)]
    exact G7.out
  repeat (first | exact B7.out | refine Below.setCell ?_ (by simp;try omega) _)
def X0:Uz:=⟨1,0,0,23,(C0:Int)⟩
def Z5:Uz:=⟨0,0,0,0,0⟩
def UP (S:Int) (sn:Nat):List Int:=Ly (Lx S (sn:Int))
def jm (S:Int) (sn:Nat):Fi:=⟨0,X0,0,[ZI],0,0,UP S sn,[]⟩
theorem jl (n:Nat):blk (Ly n) 0=zeros 64:=by
 unfold blk Ly;rw [TK,Qu,YM,YM,zN (Zh 64)]
theorem jk (n:Nat):blk (Ly n) 1=Pu:=by
 unfold blk Ly;rw [Mp,YM,YM,List.drop_left' (Zh 64),zN Xx]
theorem rq (n a:Nat) (ha:151≤a):(Ly n).drop a=zeros (n*64 - a):=by
 unfold Ly;have e:(zeros 64++Pu++I0).length=151:=by simp only [ZA,Zh,Xx,WX]
 rw [pQ,JB (by rw [e];exact ha),e];unfold zeros;rw [List.drop_replicate,Yw,show n*64 - 151 - (a - 151)=n*64 - a by omega]
theorem CM (n a m:Nat) (ha:151≤a) (hm:a+m≤n*64):((Ly n).drop a).take m=zeros m:=by
 rw [rq n a ha];unfold zeros;rw [List.take_replicate,Wh (by omega)]
theorem mC (n m:Nat) (h:23≤m):(((Ly n).drop 128).take m).take 23=I0:=by
 unfold Ly;have e:(zeros 64++Pu).length=128:=by simp only [ZA,Zh,Xx]
 rw [YM (zeros 64++Pu),List.drop_left' e,Jv,Wh h,zN WX]
theorem my (n:Nat):Wm (Ly n):=by
 intro x hx;unfold Ly zeros at hx
 simp only [XP,List.mem_replicate] at hx
 have hs:∀x ∈ Pu,0≤x∧x<256:=by
  have:Pu.all (fun x=>decide (0≤x∧x<256))=true:=by decide +kernel
  intro x hx
  simpa using Se.1 this x hx
 rcases hx with ((⟨-,rfl⟩ | hx) | hx) | ⟨-,rfl⟩
 · decide
 · exact hs x hx
 · exact wv x hx
 decide
theorem jj (S:Int):Kx S (zeros 64)=false:=by
 have:decide (Ss (zeros 64))=false:=by decide +kernel
 unfold Kx;rw [this];rfl
theorem ji (hS:1≤S):Kx S Pu=true:=by
 have h:decide (Ss Pu)=true:=by decide +kernel
 have hl:nL Pu=23:=by decide +kernel
 unfold Kx;rw [h,hl];simp;omega
theorem jh:ti Pu=X0:=by
 have h1:nG Pu=1:=by decide +kernel
 have h2:nB Pu=0:=by decide +kernel
 have h3:nS Pu=0:=by decide +kernel
 have h4:nL Pu=23:=by decide +kernel
 have h5:nC Pu=(C0:Int):=by decide +kernel
 unfold ti X0;rw [h1,h2,h3,h4,h5]
theorem jg:IB I0=some [ZI]:=by kernel_rfl
theorem eW:qH I0 (C0:Int)=some [ZI]:=by
 unfold qH;rw [ZZ (by rfl),jg]
theorem RC (hc:YO S (sn:Int)=true):NM S (sn:Int) (UP S sn).length []=true:=by
 obtain ⟨h1,h2,h3⟩:=P8 hc;unfold UP;rw [OS _ (by omega)];refine (VQ _ _ _ _).2 ⟨hc,(Wu _ _).2 ⟨by omega,by omega,by omega,by simp,fun i hi=>by simp at hi⟩,by omega⟩
theorem QB (hc:YO S (sn:Int)=true):Qq (UP S sn) []=UP S sn:=by
 obtain ⟨-,hv,-⟩:=(VQ _ _ _ _).1 (RC hc);unfold Qq;rw [ZZ hv];rfl
theorem AC (hc:YO S (sn:Int)=true):eX (UP S sn) [] S sn (UP S sn).length (-1):=by
 obtain ⟨h1,h2,h3⟩:=P8 hc;refine ⟨RC hc,by simp,by rw [QB hc];exact my _,by rw [QB hc],?_,by decide⟩;unfold UP;rw [OS _ (by omega)];omega
theorem mw (hc:YO S (sn:Int)=true):gV (UP S sn) [] S (sn:Int) 0 true=zeros (sn*64):=by
 obtain ⟨h1,h2,h3⟩:=P8 hc;obtain ⟨⟨hS1,hS2⟩,hL1,hL2⟩:=(Zg S sn).1 hc;rw [Dq (RC hc) (by decide),QB hc,Ww];unfold PC UP;refine CM _ _ _ ?_ ?_ <;> unfold VJ <;> simp <;> omega
theorem Gk (f:Int) (l:List Int):∀(n b:Nat),U9 f l l b n=[]
 | 0,b=>rfl
 | n+1,b=>by rw [U9,ZZ rfl,Gk f l n (b+1)];rfl
structure Rf (w W:World) (b g N C V:Nat) (vd:Value) (D:List Int):Prop where
 YU:ZX w W
 dk:Own .u8 5 W w.heap.size vd D
 pw:W.heap[V]?=some (.cells #[.int .i64 0,.slice none 0 0] 132 (0,0))
 Zp:w.heap.size≤V
 ct:Own .u8 5 W w.heap.size (.slice (some ⟨g,0,none⟩) N C) D
 tab:TF W
 lo:w.heap.size≤b
 b0:0<b
 ne1:vd.ownBlock≠some b
 Zn:V≠b
 Zl:g≠b
theorem Rf.tw {V:Nat} {vd:Value} {D:List Int} (h:Rf w W b g N C V vd D) (t:Tw W b none W' none) (hz:0<W.heap.size):Rf w W' b g N C V vd D:=by
 refine ⟨h.YU.trans (t.below h.YU.size (by have:=h.lo;omega) (fun g e=>by cases e)),?_,?_,h.Zp,?_,?_,h.lo,h.b0,h.ne1,h.Zn,h.Zl⟩
 · exact h.dk.Pj t.Pj (fun q e=>by cases e;exact h.ne1)
 · exact (t.block V (Yh.mp h.pw).1 h.Zn (by simp)).trans h.pw
 · exact h.ct.Pj t.Pj (fun q e=>by cases e;simpa [Value.ownBlock] using h.Zl)
 intro i hi;have hb:=h.b0;exact (Zj (w:=W) (a:=⟨0,i,none⟩) (t.block 0 hz (by omega) (by simp))).trans (h.tab i hi)
def iz (w:World) (b g N C V:Nat) (vd:Value) (S:Int) (sn:Nat) (n:Int) (W:World):Prop :=
 Rf w W b g N C V vd (UP S sn) ∧
 ((n=0∧St W b (So S (sn:Int) vd (.slice (some ⟨V,0,none⟩) 0 1) (-1) 0 (.slice (some ⟨g,0,none⟩) N C) false Z5 false Z5 0 (.slice none 0 0) 0 0 0)) ∨
 (n=1∧St W b (So S (sn:Int) vd (.slice (some ⟨V,0,none⟩) 0 1) (-1) 0 (.slice (some ⟨g,0,none⟩) N C) true X0 false Z5 0 (.slice none 0 0) 0 0 0)) ∨
 ((n=3∨n=6)∧∃ta tc,St W b (So S (sn:Int) vd (.slice (some ⟨V,0,none⟩) 0 1) (-1) 0 (.slice (some ⟨g,0,none⟩) N C) true X0 false Z5 0 (.slice ta 1 tc) 0 0 0)∧Zz 147 W w.heap.size (.slice ta 1 tc) [ZI]∧Value.ownBlock (.slice ta 1 tc)≠some b))
def El (w:World) (b g N C V:Nat) (vd:Value) (S:Int) (sn:Nat) (n:Int) (e:Ending) (w':World):Prop :=
 ∃n',e=.returned (.int .i64 n')∧n<n'∧n'≤6∧iz w b g N C V vd S sn n' w'
def Ek (w:World) (S:Int) (sn:Nat) (e:Ending) (w':World):Prop :=
 ∃vt v1 V,e=.returned (.agg (qI (jm S sn) vt v1 (.slice (some ⟨V,0,none⟩) 0 1)))∧Zz 147 w' w.heap.size vt [ZI]∧Own .u8 5 w' w.heap.size v1 (UP S sn)∧w.heap.size≤V∧w'.heap[V]?=some (.cells #[.int .i64 0,.slice none 0 0] 132 (0,0))∧ZX w w'
section
variable {w W:World} {b g N C V:Nat} {vd:Value} {S:Int} {sn:Nat}
theorem rp (hc:YO S (sn:Int)=true) (hN:(UP S sn).length=N) (h:Rf w W b g N C V vd (UP S sn))
    (hs:St W b (So S (sn:Int) vd (.slice (some ⟨V,0,none⟩) 0 1) (-1) 0 (.slice (some ⟨g,0,none⟩) N C) false Z5 false Z5 0 (.slice none 0 0) 0 0 0)) :
    Calls Tryz.prog 39 #[.pointer (some ⟨b,0,none⟩)] W (El w b g N C V vd S sn 0):=by
 have H:=AC hc;rw [hN] at H;obtain ⟨-,xU,uI,hS,hs1,hs2⟩:=H.facts;have hr:=h.ct.rd;have hl:=H.len;have hb:=H.Zv;rw [QB hc] at hl hb;refine (xQ W b g N C S sn vd _ (-1) 0 _ false _ false _ 0 _ 0 0 0 (UP S sn) rfl hs hr hb hl H.n9 uI hS).mono ?_;have e0:blk (UP S sn) 0=zeros 64:=jl _;have e1:blk (UP S sn) 1=Pu:=jk _;rw [e0,e1,jj,ji hS.1,ol (jj S),sU (ji hS.1),jh];rintro e w' ⟨xg,x,yg,y,rfl,s',t',⟨h1,-⟩ | ⟨-,rfl,rfl,rfl,rfl⟩⟩
 · exact absurd (show (0:Int)<1 by decide) h1
 exact ⟨1,by simp,by omega,by omega,h.tw t' (zL (Zu _) hs.lt),.inr (.inl ⟨rfl,s'⟩)⟩
theorem mv (hc:YO S (sn:Int)=true) (hN:(UP S sn).length=N) (h:Rf w W b g N C V vd (UP S sn))
    (hs:St W b (So S (sn:Int) vd (.slice (some ⟨V,0,none⟩) 0 1) (-1) 0 (.slice (some ⟨g,0,none⟩) N C) true X0 false Z5 0 (.slice none 0 0) 0 0 0)) :
    Calls Tryz.prog 40 #[.pointer (some ⟨b,0,none⟩)] W (El w b g N C V vd S sn 1):=by
 have H:=AC hc;rw [hN] at H;obtain ⟨-,xU,uI,hS,hs1,hs2⟩:=H.facts;have hl:=H.len;have hb:=H.Zv;have hK:=P8 hc;rw [QB hc] at hl hb;have hz:=zL (Zu _) hs.lt;have hct:∀W',Tw W b none W' none→Rd .u8 W' (.slice (some ⟨g,0,none⟩) N C) (UP S sn):=fun W' t=>by
  exact (h.tw t hz).ct.rd
 have lV:N≤C∧C≤maxLen:=by
  obtain ⟨a8,c8,h8,h7,h6⟩:=(hct W (Tw.refl W b none)).len
  simp only [Y4] at h8
  obtain ⟨-,h5,rfl⟩:=h8;omega
 have Zk:N=Lx S (sn:Int)*64:=by rw [←hN];exact OS _ (by omega)
 have ef:(VJ S (sn:Int) 0 true).toNat=2+S.toNat:=by unfold VJ;simp;omega
 refine (Gm W b g N C S sn vd _ (-1) 0 _ true X0 false Z5 0 _ 0 0 0 (UP S sn) hs rfl hct hb hl H.n9 hc xU h.tab h.b0 [ZI] ?_ [ZI] 0 0 0 ?_ (by decide) (by show (0:Int)≤23∧(23:Int)≤S*64;omega)).mono ?_
 · have e:(VJ S (sn:Int) X0.b false).toNat=2:=by show (VJ S (sn:Int) 0 false).toNat=2;unfold VJ;simp
   rw [e];show qH ((((Ly (Lx S (sn:Int))).drop 128).take (S.toNat*64)).take 23) (C0:Int)=_;rw [mC _ _ (by omega)];exact eW
 · intro W' ta tc hT hR hs'
   refine JX W' b g N C S sn 0 0 ta tc [ZI] (UP S sn) [ZI] 0 0 0 (fun W2 hb2=>?_) (hs'.cl 0 _ rfl) (hs'.cl 1 _ rfl) (hs'.cl 6 _ rfl) hs'.lt (hct W' hT) hb hl H.n9 hc xU (by decide);have hr2:=(hct W' hT).below hb2;have hcell:=Rd.part hr2 hl ((VJ S (sn:Int) 0 true).toNat*64) ((sn:Int).toNat*64) (by rw [ef,Ww];omega);refine Gn W2 ta tc [ZI] g _ _ _ (hR.below hb2) QK ?_ (by rw [Ww];omega) (by rw [ef,Ww];omega) (by omega) (by rw [Ww];omega);obtain ⟨a8,c8,e8,-,-,h3⟩:=hcell
   simp only [Y4] at e8
   have hz0:(((UP S sn).drop ((VJ S (sn:Int) 0 true).toNat*64)).take ((sn:Int).toNat*64))=zeros ((sn:Int).toNat*64):=by
    unfold UP;exact CM _ _ _ (by rw [ef];omega) (by rw [ef,Ww];omega)
   rw [hz0] at h3
   rcases h3 with h3 | ⟨b9,o9,e9,-,h3⟩
   · have:=ZR List.length h3
     rw [Zh,Ww] at this
     simp at this;omega
   rw [←e8.1] at e9;have h4:=h3 0 (by rw [Zh,Ww];omega)
   simp only [Zo,JD,TJ] at e9
   rw [←e9.1,←e9.2] at h4
   simp only [Wi,YK] at h4
   rw [h4];have:0<sn*64:=by omega
   simp [zeros,List.getD,this]
 rintro e w' ⟨t',va,U,rfl,s',o'⟩;refine ⟨3,rfl,by omega,by omega,h.tw t' hz,.inr (.inr ⟨.inl rfl,va,U,s',Zz.mono o' (by have:=h.lo;have:=hs.lt;omega),?_⟩)⟩;intro e;have:=(ZD o' b e).1;have:=hs.lt;omega
theorem mt (hc:YO S (sn:Int)=true) (hN:(UP S sn).length=N) (h:Rf w W b g N C V vd (UP S sn)) {ta:Option Addr} {tc:Nat}
    (hs:St W b (So S (sn:Int) vd (.slice (some ⟨V,0,none⟩) 0 1) (-1) 0 (.slice (some ⟨g,0,none⟩) N C) true X0 false Z5 0 (.slice ta 1 tc) 0 0 0)) (hn:Zz 147 W w.heap.size (.slice ta 1 tc) [ZI]) (hne:Value.ownBlock (.slice ta 1 tc)≠some b) :
    Calls Tryz.prog 42 #[.pointer (some ⟨b,0,none⟩)] W (El w b g N C V vd S sn 3):=by
 have H:=AC hc;rw [hN] at H;obtain ⟨-,xU,uI,hS,hs1,hs2⟩:=H.facts;have hl:=H.len;rw [QB hc] at hl;have hK:=P8 hc;have Zk:N=Lx S (sn:Int)*64:=by rw [←hN];exact OS _ (by omega)
 have ef:VJ S (sn:Int) 0 true=((2+S.toNat:Nat):Int):=by unfold VJ;simp;omega
 have ZK:=mw hc;rw [Dq (RC hc) (by decide),QB hc,Ww,ef,Ww] at ZK;refine (MA W b (fun W2 hb2=>?_)).mono ?_
 · have Zi:=hs.below hb2
   have h9:=Ii W2 b g N C (2+S.toNat) S sn vd _ (-1) 0 _ true X0 false Z5 0 _ 0 0 0 (UP S sn) Zi rfl (h.ct.below hb2).rd hl H.n9 hc (by decide) ef (by omega) (by omega) hs2 (by omega);rw [ZK] at h9;have e9:QW (zeros (sn*64)) 0=zeros (sn*64):=by unfold QW;simp [Zh]
   rw [e9,Gk] at h9;exact h9
 rintro e w' ⟨rfl,b'⟩;have t':Tw W b none w' none:=Tw.ZV b' _ _;exact ⟨6,rfl,by omega,by omega,h.tw t' (zL (Zu _) hs.lt),.inr (.inr ⟨.inr rfl,ta,tc,hs.below b',hn.below b',hne⟩)⟩
theorem mr {n:Int} (h:iz w b g N C V vd S sn n W) (h4:4≤n) :
    n=6∧Calls Tryz.prog 43 #[.pointer (some ⟨b,0,none⟩),.int .i64 6] W (Ek w S sn):=by
 obtain ⟨hr,h⟩:=h
 rcases h with ⟨rfl,-⟩ | ⟨rfl,-⟩ | ⟨hn,ta,tc,hs,ho,hne⟩
 iterate 2 omega
 refine ⟨by omega,?_⟩;obtain ⟨a,c,rfl⟩:=hr.dk.slice;refine (BV _ _ _ _ _ _ _ _ _ _ _ _ _ _ _ _ _ _ _ _ _ _ _ _ hs).mono ?_;rintro e w' ⟨rfl,b'⟩;exact ⟨_,_,V,rfl,ho.below b',hr.dk.below b',hr.Zp,(b'.block V (Yh.mp hr.pw).1).trans hr.pw,hr.YU.trans (b'.mono hr.YU.size)⟩
end
theorem Gj (w:World) (v1:Value) (S:Int) (sn:Nat) (ZQ:List Int) (RES:Fi) (O:ZQ=UP S sn) (ZE:RES=jm S sn) (hcf:YO S (sn:Int)=true) (hd:Rd .u8 w v1 ZQ) (htab:TF w) (h0:0<w.heap.size) :
    Calls Tryz.prog 19 #[.agg #[v1,.slice none 0 0],.agg #[.int .i64 S,.int .i64 (sn:Int)],.int .i64 (-1)] w (Ek w S sn):=by
 obtain ⟨ao,ca,rfl,-⟩:=hd.len;have hp:MZ w (.slice none 0 0) []:=⟨none,0,rfl,ZT,by decide,.inl rfl⟩;have hfit:NM S (sn:Int) ZQ.length []=true:=by rw [O];exact RC hcf
 have hdl:ZQ.length≤1048576:=by rw [O];exact (AC hcf).n9
 have Ot:∀i,(pD ([]:List (Int × List Int)) i).length≤1048576:=fun i=>by simp [pD]
 obtain ⟨-,hv,hdz⟩:=(VQ S sn ZQ.length []).1 hfit;have lN:=Z3 hcf;have S0:Hid (Af w (.slice ao ZQ.length ca) (.slice none 0 0) S (sn:Int) (((w.alloc (.cells #[.slice ao ZQ.length ca,.slice none 0 0] 52)).alloc (.cells #[.int .i64 S,.int .i64 (sn:Int)] 25)).alloc (.cells #[.int .i64 0,.int .i64 0,.int .i64 0,.int .i64 0,.int .i64 0,.int .i64 0,.int .i64 0,.slice none 0 0,.int .i64 0,.int .i64 0,.slice none 0 0,.slice none 0 0] 65))):=Af.new _ _ _ _ _;have HF:Hid (∀W,ZX w W→Calls Tryz.prog 36 #[.agg #[.slice ao ZQ.length ca,.slice none 0 0],.agg #[.int .i64 S,.int .i64 (sn:Int)]] W (YI W (.bool true))):=by
  intro W hW;have h9:=Sp W ao none ZQ.length ca 0 0 [] S sn (hp.below hW) rfl hdl (Zu _) Ot;rw [hfit] at h9;exact h9
 have hsy:Qq ZQ []=ZQ:=by rw [O];exact QB hcf
 have Zf:Hid (∀W,ZX w W→Calls Tryz.prog 37 #[.agg #[.slice ao ZQ.length ca,.slice none 0 0]] W fun e w'=>∃a c g,e=.returned (.agg #[.slice a ZQ.length c,.slice (some ⟨g,0,none⟩) 0 1])∧Own .u8 5 w' W.heap.size (.slice a ZQ.length c) ZQ∧W.heap.size≤g∧w'.heap[g]?=some (.cells #[.int .i64 0,.slice none 0 0] 132 (0,0))∧ZX W w'):=fun W hW=>JW W ao ZQ.length ca ZQ (hd.below hW) rfl hdl
 have A:Hid (∀W,ZX w W→Calls Tryz.prog 38 #[.agg #[.slice ao ZQ.length ca,.slice none 0 0]] W fun e w'=>∃u,e=.returned u∧Own .u8 5 w' W.heap.size u ZQ∧ZX W w'):=fun W hW=>by
  have h9:=PB W _ _ ZQ [] (hd.below hW) (hp.below hW) hdl (by simp) Ot;rw [hsy] at h9;exact h9
 have eQ:¬(1936:Int)<(0:Int):=by omega
 obtain ⟨⟨hS1,hS2⟩,hL1,hL2⟩:=(Zg S sn).1 hcf;have hpos:0<ZQ.length:=by omega
 have xh:=Z3 ZE;have Ze:=Z3 htab;have T:=Z3 O;clear ZE hd hp Ot htab hv hfit hdz hcf O
 go_enter Tryz.func19,Tryz.ntmps19
 go_wp2_with fail
 refine wp_scope_straight ?_
 go_wp2_with fail
 generalize ((w.alloc _).alloc _).alloc _=w0 at *;refine (HF.out _ S0.out.YU).mono ?_;rintro e w1 ⟨rfl,b1⟩;have S1:=Z3 (S0.out.below b1);clear b1 S0 HF;have q1:=S1.out.d1
 go_wp2_with fail
 clear q1;have Zd:=Z3 (S1.out.below (below_drewN' w1 1));refine ZH (S:=Af w (.slice ao ZQ.length ca) (.slice none 0 0) S (sn:Int)) (by kernel_rfl) (Zd.out) (fun Z9=>?_);refine ZW (.agg #[.int .i64 S,.int .i64 (sn:Int)]) Z9 ?_ ?_
 · intro w9 Z0;obtain ⟨-,-,d0,d1,c0,c1,-⟩:=Z0;go_simp
 refine ZW (.agg #[.slice ao ZQ.length ca,.slice none 0 0]) Z9 ?_ ?_
 · intro w9 Z0;obtain ⟨-,-,d0,d1,c0,c1,-⟩:=Z0;go_simp
 refine ZG 3 (.int .i64 (-1)) rfl Z9 ?hy3 ?_
 case hy3=>intro w9 Z0;obtain ⟨-,-,d0,d1,c0,c1,-⟩:=Z0;go_simp
 refine ZG 5 (.agg #[.slice ao ZQ.length ca,.slice none 0 0]) rfl Z9 ?hy4 ?_
 case hy4=>intro w9 Z0;obtain ⟨-,-,d0,d1,c0,c1,-⟩:=Z0;go_simp
 refine ZU 2 rfl (fun K hK=>?_);go_simp;refine (Zf.out _ Z9.YU).mono ?_;rintro e w3 ⟨da,dc,V,rfl,o3,Zb,Y',b3⟩;have hN:=Z9.below b3;have B3:=Z3 ((below_drewN' w1 1).trans (b3.mono ZT));have D3:Hid (Own .u8 5 w3 w1.heap.size (.slice da ZQ.length dc) ZQ):=o3;have ZO:Hid (w3.heap[V]?=some (.cells #[.int .i64 0,.slice none 0 0] 132 (0,0))∧w1.heap.size≤V):=⟨Y',Zb⟩;clear o3 b3 Zb Y';refine hK.out _ _ hN (fun ZM=>?_);clear hK K Z9;have Z9:=ZM;clear ZM;refine ZG 4 (.agg #[.slice da ZQ.length dc,.slice (some ⟨V,0,none⟩) 0 1,.int .i64 (-1),.int .i64 0]) rfl Z9 ?FF ?_
 case FF=>intro w9 Z0;obtain ⟨-,-,d0,d1,c0,c1,-⟩:=Z0;go_simp
 refine ZU 6 rfl (fun K hK=>?_);go_simp;refine (A.out _ Z9.YU).mono ?_;rintro e w4 ⟨u4,rfl,o4,b4⟩;obtain ⟨cg,C,rfl,Y5,Y3⟩:=o4.pos rfl hpos;have hN:=Z9.below b4;have s3:=B3.out.size;have B4:=Z3 (B3.out.trans (b4.mono s3));have C4:=Z3 (o4.mono s3);have D4:=Z3 (Own.below D3.out b4);have z:Hid (w4.heap[V]?=some (.cells #[.int .i64 0,.slice none 0 0] 132 (0,0))∧w1.heap.size≤V∧V<w4.heap.size):=by
  have l9:=(Yh.mp ZO.out.1).1;exact ⟨(b4.block V l9).trans ZO.out.1,ZO.out.2,ZL l9 b4.size⟩
 clear o4 b4 B3 D3 ZO;refine hK.out _ _ hN (fun ZM=>?_);clear hK K Z9;have Z9:=ZM;clear ZM;refine ZW (.agg #[.int .i64 S,.int .i64 (sn:Int),.slice da ZQ.length dc,.slice (some ⟨V,0,none⟩) 0 1,.int .i64 (-1),.int .i64 0,.slice (some ⟨cg,0,none⟩) ZQ.length C,.bool false,.int .i64 0,.int .i64 0,.int .i64 0,.int .i64 0,.int .i64 0,.bool false,.int .i64 0,.int .i64 0,.int .i64 0,.int .i64 0,.int .i64 0,.int .i64 0,.slice none 0 0,.int .i64 0,.int .i64 0,.int .i64 0]) Z9 ?_ ?_
 · intro w9 Z0;obtain ⟨-,-,d0,d1,c0,c1,-⟩:=Z0;go_simp
 refine ZU 8 rfl (fun K hK=>?_);have bA:ZX w4 (w4.alloc (.cells #[.int .i64 S,.int .i64 (sn:Int),.slice da ZQ.length dc,.slice (some ⟨V,0,none⟩) 0 1,.int .i64 (-1),.int .i64 0,.slice (some ⟨cg,0,none⟩) ZQ.length C,.bool false,.int .i64 0,.int .i64 0,.int .i64 0,.int .i64 0,.int .i64 0,.bool false,.int .i64 0,.int .i64 0,.int .i64 0,.int .i64 0,.int .i64 0,.int .i64 0,.slice none 0 0,.int .i64 0,.int .i64 0,.int .i64 0] 101)):=ZJ.alloc ZT _;have hN:=Z9.below bA;have s4:=B4.out.size;have s5:w4.heap.size<(w4.alloc (.cells #[.int .i64 S,.int .i64 (sn:Int),.slice da ZQ.length dc,.slice (some ⟨V,0,none⟩) 0 1,.int .i64 (-1),.int .i64 0,.slice (some ⟨cg,0,none⟩) ZQ.length C,.bool false,.int .i64 0,.int .i64 0,.int .i64 0,.int .i64 0,.int .i64 0,.bool false,.int .i64 0,.int .i64 0,.int .i64 0,.int .i64 0,.int .i64 0,.int .i64 0,.slice none 0 0,.int .i64 0,.int .i64 0,.int .i64 0] 101)).heap.size:=by simp
 have YZ:Hid (iz w1 w4.heap.size cg ZQ.length C V (.slice da ZQ.length dc) S sn 0 (w4.alloc (.cells #[.int .i64 S,.int .i64 (sn:Int),.slice da ZQ.length dc,.slice (some ⟨V,0,none⟩) 0 1,.int .i64 (-1),.int .i64 0,.slice (some ⟨cg,0,none⟩) ZQ.length C,.bool false,.int .i64 0,.int .i64 0,.int .i64 0,.int .i64 0,.int .i64 0,.bool false,.int .i64 0,.int .i64 0,.int .i64 0,.int .i64 0,.int .i64 0,.int .i64 0,.slice none 0 0,.int .i64 0,.int .i64 0,.int .i64 0] 101))):=by
  have hs:St (w4.alloc (.cells #[.int .i64 S,.int .i64 (sn:Int),.slice da ZQ.length dc,.slice (some ⟨V,0,none⟩) 0 1,.int .i64 (-1),.int .i64 0,.slice (some ⟨cg,0,none⟩) ZQ.length C,.bool false,.int .i64 0,.int .i64 0,.int .i64 0,.int .i64 0,.int .i64 0,.bool false,.int .i64 0,.int .i64 0,.int .i64 0,.int .i64 0,.int .i64 0,.int .i64 0,.slice none 0 0,.int .i64 0,.int .i64 0,.int .i64 0] 101)) w4.heap.size (So S (sn:Int) (.slice da ZQ.length dc) (.slice (some ⟨V,0,none⟩) 0 1) (-1) 0 (.slice (some ⟨cg,0,none⟩) ZQ.length C) false Z5 false Z5 0 (.slice none 0 0) 0 0 0):=St.new w4 _ _;have bW:=B4.out.trans (bA.mono s4);have hz1:=S1.out.lt;have YW:=Ze.out.below h0 (S1.out.YU.trans (bW.mono S1.out.YU.size));have Ld:∀v:Value,(∀g,v.ownBlock=some g→g<w4.heap.size)→v.ownBlock≠some w4.heap.size:=fun v h e=>by have:=h _ e;omega
  refine ⟨?_,.inl ⟨rfl,hs⟩⟩;rw [←T.out];exact ⟨bW,Own.below D4.out bA,(bA.block V z.out.2.2).trans z.out.1,z.out.2.1,Own.below C4.out bA,YW,s4,by omega,Ld _ (fun g hg=>(ZD D4.out g hg).2),by have:=z.out.2.2;omega,by omega⟩
 clear bA;go_simp;refine hK.out _ _ hN (fun ZM=>?_);clear hK K Z9;have Z9:=ZM;clear ZM;refine ZW (.pointer (some ⟨w4.heap.size,0,none⟩)) Z9 ?Yo ?_
 case Yo =>
  intro w9 Z0;clear Z0;go_simp
 refine ZP (by kernel_rfl) ?_ _
 try simp only [Act.put,Y8,Y7,Y6]
 have S5:Hid (Af w (.slice ao ZQ.length ca) (.slice none 0 0) S (sn:Int) (w4.alloc (.cells #[.int .i64 S,.int .i64 (sn:Int),.slice da ZQ.length dc,.slice (some ⟨V,0,none⟩) 0 1,.int .i64 (-1),.int .i64 0,.slice (some ⟨cg,0,none⟩) ZQ.length C,.bool false,.int .i64 0,.int .i64 0,.int .i64 0,.int .i64 0,.int .i64 0,.bool false,.int .i64 0,.int .i64 0,.int .i64 0,.int .i64 0,.int .i64 0,.int .i64 0,.slice none 0 0,.int .i64 0,.int .i64 0,.int .i64 0] 101))):=Z9;clear Z9 hN Zf A Zd B4 C4 D4 z Ze Y5 Y3;generalize w4.alloc _=w5 at *;generalize hrb:w4.heap.size=rb at *;clear hrb;have hz1:=S1.out.lt;go_wp2;refine wp_label ?_;go_wp2
 go_loopw [8] (fun vn wr=>∃n:Int,vn=.int .i64 n∧0≤n∧n≤6∧Hid (iz w1 rb cg ZQ.length C V (.slice da ZQ.length dc) S sn n wr)) (fun vn _=>(7 - intOf vn).toNat)
 case atStart=>exact ⟨0,rfl,by omega,by omega,YZ⟩
 case round =>
  clear YZ S5;obtain ⟨n,rfl,hn0,Ye,RV⟩:=hrel
  by_cases h4:n<4
  · rcases RV.out with ⟨p1,⟨rfl,p2⟩ | ⟨rfl,p2⟩ | ⟨rfl | rfl,ta,tc,p2,p3,p4⟩⟩
    · have HC:=Z3 (rp lN.out (by rw [T.out]) p1 p2)
      clear RV
      go_wp2_with fail
      refine HC.out.mono ?_;rintro e w7 ⟨n',rfl,q1,q2,r7⟩;have R7:=Z3 r7;clear HC r7;go_wp2
      go_roundw
      case rel=>exact ⟨n',rfl,by omega,q2,R7⟩
      case measure=>simp [intOf];omega
    · have HC:=Z3 (mv lN.out (by rw [T.out]) p1 p2)
      clear RV
      go_wp2_with fail
      refine HC.out.mono ?_;rintro e w7 ⟨n',rfl,q1,q2,r7⟩;have R7:=Z3 r7;clear HC r7;go_wp2
      go_roundw
      case rel=>exact ⟨n',rfl,by omega,q2,R7⟩
      case measure=>simp [intOf];omega
    · have HC:=Z3 (mt lN.out (by rw [T.out]) p1 p2 p3 p4)
      clear RV
      go_wp2_with fail
      refine HC.out.mono ?_;rintro e w7 ⟨n',rfl,q1,q2,r7⟩;have R7:=Z3 r7;clear HC r7;go_wp2
      go_roundw
      case rel=>exact ⟨n',rfl,by omega,q2,R7⟩
      case measure=>simp [intOf];omega
    omega
  have e0:(n == 0)=false:=by rw [Vy];omega
  have e1:(n == 1)=false:=by rw [Vy];omega
  have e2:(n == 2)=false:=by rw [Vy];omega
  have e3:(n == 3)=false:=by rw [Vy];omega
  obtain ⟨h6,hE⟩:=mr RV.out (by omega);have HE:=Z3 hE;clear hE RV;subst h6
  go_wp2_with fail
  clear e0 e1 e2 e3;refine HE.out.mono ?_;rintro e w7 ⟨vt,x1,J,rfl,o7,d7,Yd,Ym,b7⟩;obtain ⟨xa,xc,rfl⟩:=d7.slice;obtain ⟨ta,tc,YS⟩:=Zz.Vc o7;have YR:vt=.slice ta 1 tc:=YS;clear YS;subst YR;rw [←xh.out];rw [←T.out] at d7 ⊢;have X7:=Ga.below S1.out.rx b7;have FIN:Hid (Ek w S sn (.returned (.agg (qI RES (.slice ta 1 tc) (.slice xa ZQ.length xc) (.slice (some ⟨J,0,none⟩) 0 1)))) (Us w7 (w.heap.size+1+1) RES (.slice ta 1 tc) (.slice xa ZQ.length xc) (.slice (some ⟨J,0,none⟩) 0 1))):=by
   have gR:w7.grownBy (Us w7 (w.heap.size+1+1) RES (.slice ta 1 tc) (.slice xa ZQ.length xc) (.slice (some ⟨J,0,none⟩) 0 1)) (some (w.heap.size+1+1)):=by
    unfold Us;exact (grownBy_set _ _ (w.heap.size+1+1) 11 (.slice (some ⟨J,0,none⟩) 0 1) (grownBy_set _ _ (w.heap.size+1+1) 10 (.slice xa ZQ.length xc) (grownBy_set _ _ (w.heap.size+1+1) 9 (.int .i64 RES.ops) (grownBy_set _ _ (w.heap.size+1+1) 8 (.int .i64 RES.used) (grownBy_set _ _ (w.heap.size+1+1) 7 (.slice ta 1 tc) (grownBy_set _ _ (w.heap.size+1+1) 6 (.int .i64 RES.zx) (grownBy_set _ _ (w.heap.size+1+1) 5 (.int .i64 RES.sp.c) (grownBy_set _ _ (w.heap.size+1+1) 4 (.int .i64 RES.sp.l) (grownBy_set _ _ (w.heap.size+1+1) 3 (.int .i64 RES.sp.s) (grownBy_set _ _ (w.heap.size+1+1) 2 (.int .i64 RES.sp.b) (grownBy_set _ _ (w.heap.size+1+1) 1 (.int .i64 RES.sp.g) (grownBy_set _ _ (w.heap.size+1+1) 0 (.int .i64 RES.code) (YT _ _)))))))))))))
   have hB:=S1.out.YU.trans (b7.mono S1.out.YU.size);refine ⟨_,_,J,by rw [xh.out],Zz.mono (Yu o7 gR (.inr (fun e=>by have:=(ZD o7 _ e).1;omega))) (by omega),?_,by omega,(Eo RES _ _ _ (by omega)).trans Ym,hB.grown gR (by have:=hB.size;omega) (fun q e=>by injection e with e;omega)⟩;rw [←T.out];exact Own.mono (Yu d7 gR (.inr (fun e=>by have:=(ZD d7 _ e).1;omega))) (by omega)
  obtain ⟨c0,c1,c2,c3,c4,c5,c6,c7,c8,c9,c10,c11⟩:=X7.cells;dsimp only [oC] at c0 c1 c2 c3 c4 c5 c6 c7 c8 c9 c10 c11;have fz:=X7.frozen;have f0:=fz 0;have f1:=fz 1;have f2:=fz 2;have f3:=fz 3;have f4:=fz 4;have f5:=fz 5;have f6:=fz 6;have f7:=fz 7;have f8:=fz 8;have f9:=fz 9;have f10:=fz 10;have f11:=fz 11;obtain ⟨e0,e1,e2,e3,e4,e5,e6,e7,e8,e9,e10,e11⟩:=Ep (r:=RES) (vt:=.slice ta 1 tc) (v1:=.slice xa ZQ.length xc) (v2:=.slice (some ⟨J,0,none⟩) 0 1) X7;unfold Us qI at FIN;unfold Us at e0 e1 e2 e3 e4 e5 e6 e7 e8 e9 e10 e11;unfold qI;clear fz X7 HE o7 d7 b7;go_wp2;generalize ((((((((((((w7).setCell _ _).setCell _ _).setCell _ _).setCell _ _).setCell _ _).setCell _ _).setCell _ _).setCell _ _).setCell _ _).setCell _ _).setCell _ _).setCell _ _=wE at *;unfold Exit.noGoto;dsimp only;exact ZS (v:=.agg #[.int .i64 RES.code,.int .i64 RES.sp.g,.int .i64 RES.sp.b,.int .i64 RES.sp.s,.int .i64 RES.sp.l,.int .i64 RES.sp.c,.int .i64 RES.zx,.slice ta 1 tc,.int .i64 RES.used,.int .i64 RES.ops,.slice xa ZQ.length xc,.slice (some ⟨J,0,none⟩) 0 1]) (by simp [results,Tryz.results19,go_sem,e0,e1,e2,e3,e4,e5,e6,e7,e8,e9,e10,e11]) rfl FIN.out
def mq (w:World) (base:Nat) (v:Value) (D:List Int) (f l:Nat):Prop:=∃g C,v=.slice (some ⟨g,f*64,none⟩) (l*64) (C - f*64)∧Own .u8 5 w base (.slice (some ⟨g,0,none⟩) D.length C) D∧D.length≤C
theorem Gi (w:World) (ao bo:Option Addr) (dl ca n cb:Nat) (ZQ:List Int) (ps:List (Int × List Int)) (S L Za:Int) (log:Bool) (hd:Rd .u8 w (.slice ao dl ca) ZQ) (hdl:ZQ.length=dl) (hp:MZ w (.slice bo n cb) ps) (hl:ps.length=n) (hd1:dl≤1048576) (hn:n≤1048576) (Ot:∀i,(pD ps i).length≤1048576)
    (hok:Im S L dl ps Za=true) :
    Calls Tryz.prog 35 #[.agg #[.slice ao dl ca,.slice bo n cb],.agg #[.int .i64 S,.int .i64 L],.int .i64 Za,.bool log] w fun e w'=>∃v',e=.returned v'∧mq w' w.heap.size v' (Qq ZQ ps) (VJ S L Za log).toNat (LO S L log).toNat∧ZX w w':=by
 have HD:Hid (Rd .u8 w (.slice ao dl ca) ZQ):=hd;have SM:Hid (ZQ.length=dl):=hdl;have HP:Hid (MZ w (.slice bo n cb) ps):=hp;have HL:Hid (ps.length=n):=hl;have Ct:Hid (∀i,(pD ps i).length≤1048576):=Ot;obtain ⟨f,l,hf,hl',hf2,hl1,hl2,hfl,vH,Yc⟩:=kI (log:=log) hok;have h1:=((QX ..).1 hok).1;have hb0:=((QX ..).1 hok).2.1;have hb1:=((QX ..).1 hok).2.2;have HF:Hid (NM S L dl ps=true):=h1;have HC:Hid (YO S L=true):=((VQ ..).1 h1).1;have HV:Hid (Vf dl ps=true):=((VQ ..).1 h1).2.1;rw [hf,hl',Ww,Ww];have rP:Hid ((Qq ZQ ps).length=dl):=by show _=_;rw [NK (by rw [SM.out];exact HV.out),SM.out]
 have To:Hid ((PC (Qq ZQ ps) f l).length=l*64):=RN _ _ _ (by rw [rP.out];exact vH);have A:Hid (∀(W:World),VP w ao bo dl ca n cb S L W→Calls Tryz.prog 38 #[.agg #[.slice ao dl ca,.slice bo n cb]] W fun e w'=>∃g c,e=.returned (.slice (some ⟨g,0,none⟩) dl c)∧Hid (Own .u8 5 w' w.heap.size (.slice (some ⟨g,0,none⟩) dl c) (Qq ZQ ps))∧(dl≤c∧c≤maxLen)∧ZX W w'):=by
  intro W hF;refine (PB W _ _ ZQ ps (HD.out.below hF.1.out.1) (HP.out.below hF.1.out.1) (by rw [SM.out];exact hd1) (by rw [HL.out];exact hn) Ct.out).mono ?_;rintro e w' ⟨u,rfl,o,b⟩;have hlt:=hF.lt
  rcases o.row with ⟨rfl,h0⟩ | ⟨g,c,rfl,hg,h1,h2⟩
  · have:=rP.out;rw [h0] at this;simp at this;omega
  rw [rP.out] at o h1 ⊢;exact ⟨g,c,rfl,o.mono (by omega),⟨h1,h2⟩,b⟩
 have YQ:Hid (∀(W:World) (g c:Nat),Own .u8 5 W w.heap.size (.slice (some ⟨g,0,none⟩) dl c) (Qq ZQ ps)→dl≤c→c≤maxLen→mq W w.heap.size (.slice (some ⟨g,f*64,none⟩) (l*64) (c - f*64)) (Qq ZQ ps) f l):=by
  intro W g c h h1 h2;exact ⟨g,c,rfl,by rw [rP.out];exact h,by rw [rP.out];exact h1⟩
 have Cc:Hid (∀W,(log=true→Calls Tryz.prog 79 #[.agg #[.int .i64 S,.int .i64 L],.int .i64 Za] W (YI W (.agg #[.int .i64 (f:Int),.int .i64 (l:Int)]))) ∧
     (log=false→Calls Tryz.prog 49 #[.agg #[.int .i64 S,.int .i64 L],.int .i64 Za] W (YI W (.agg #[.int .i64 (f:Int),.int .i64 (l:Int)])))):=by
  intro W;rw [←hf,←hl'];exact ⟨fun e=>by subst e;exact VO W S L Za HC.out ⟨hb0,hb1⟩,fun e=>by subst e;exact Ws W S L Za HC.out ⟨hb0,hb1⟩⟩
 clear hd hdl hp hl Ot hok h1 hf hl'
 go_enter Tryz.func35,Tryz.ntmps35
 go_wp2_with fail
 have F1:Hid (VP w ao bo dl ca n cb S L ((w.alloc (.cells #[.slice ao dl ca,.slice bo n cb] 52)).alloc (.cells #[.int .i64 S,.int .i64 L] 25))):=VP.new _ _ _ _ _ _ _ _ _ _ _;generalize (w.alloc _).alloc _=w1 at *;refine (Sp _ ao bo dl ca n cb ps S L (HP.out.below F1.out.1.out.1) HL.out hd1 hn Ct.out).mono ?_;rintro e w2 ⟨rfl,b2⟩;rw [HF.out];have F2:=Z3 (F1.out.below b2);clear F1 b2;have t0:¬Za<0:=by omega
 have Yb:decide (Za<0)=false:=by simpa using t0
 have t1:¬2≤Za:=by omega
 have t1d:decide (2≤Za)=false:=by simpa using t1
 have eK:Hid (∀W,VP w ao bo dl ca n cb S L W→True):=fun _ _=>trivial
 cases log with
 | true =>
  replace Cc:Hid (∀W,Calls Tryz.prog 79 #[.agg #[.int .i64 S,.int .i64 L],.int .i64 Za] W (YI W (.agg #[.int .i64 (f:Int),.int .i64 (l:Int)]))):=fun W=>(Cc.out W).1 rfl
  go_wp2_with fail
  refine ZH (S:=VP w ao bo dl ca n cb S L) (by kernel_rfl) (F2.out.below (below_drewN' w2 1)) (fun Z9=>?_)
  iterate 2 (refine ZW ?_ Z9 ?_ ?_;rotate_left;· intro w9 Z0;obtain ⟨-,k0,k1,k2,k3⟩:=Z0;go_simp;try with_reducible rfl)
  refine ZG 3 ?v27 rfl Z9 ?hy27 ?_
  case hy27=>intro w9 Z0;obtain ⟨-,k0,k1,k2,k3⟩:=Z0;go_simp;try with_reducible rfl
  refine ZU 2 rfl (fun K hK=>?_);go_simp;refine (Cc.out _).mono ?_;rintro e w3 ⟨rfl,b3⟩;have F3:Hid (VP w ao bo dl ca n cb S L w3):=Z9.below b3;clear b3;clear Z9;refine hK.out _ _ (F3.out) (fun Z9=>?_);clear hK K;refine ZU 4 rfl (fun K hK=>?_);go_simp;refine (A.out _ F3.out).mono ?_;rintro e w4 ⟨g4,c4,rfl,O4,hc4,b4⟩;have F4:=Z3 (F3.out.below b4);clear b4 F3;clear Z9;refine hK.out _ _ (F4.out) (fun Z9=>?_);clear hK K;refine ZU 5 rfl (fun K hK=>?_);go_simp;refine (U8 _ g4 dl c4 f l vH hl1 hc4.1 hd1).mono ?_;rintro e w5 ⟨rfl,b5⟩;have F5:=Z3 (F4.out.below b5);have O5:=Z3 (O4.out.below b5);clear b5 F4 O4;clear Z9;refine hK.out _ _ (F5.out) (fun Z9=>?_);clear hK K;refine ZW ?_ Z9 ?_ ?_
  rotate_left
  · intro w9 Z0;obtain ⟨-,k0,k1,k2,k3⟩:=Z0;go_simp;try with_reducible rfl
  refine ZP (by kernel_rfl) ?_ _
  try simp only [Act.put,Y8,Y7,Y6]
  clear Z9;go_wp2;go_ret;exact ⟨_,rfl,YQ.out _ _ _ O5.out hc4.1 hc4.2,F5.out.1.out.1⟩
 | false =>
  replace Cc:Hid (∀W,Calls Tryz.prog 49 #[.agg #[.int .i64 S,.int .i64 L],.int .i64 Za] W (YI W (.agg #[.int .i64 (f:Int),.int .i64 (l:Int)]))):=fun W=>(Cc.out W).2 rfl
  go_wp2_with fail
  refine ZH (S:=VP w ao bo dl ca n cb S L) (by kernel_rfl) (F2.out.below (below_drewN' w2 1)) (fun Z9=>?_)
  iterate 2 (refine ZW ?_ Z9 ?_ ?_;rotate_left;· intro w9 Z0;obtain ⟨-,k0,k1,k2,k3⟩:=Z0;go_simp;try with_reducible rfl)
  refine ZG 3 ?v31 rfl Z9 ?hy31 ?_
  case hy31=>intro w9 Z0;obtain ⟨-,k0,k1,k2,k3⟩:=Z0;go_simp;try with_reducible rfl
  refine ZU 2 rfl (fun K hK=>?_);go_simp;refine (Cc.out _).mono ?_;rintro e w3 ⟨rfl,b3⟩;have F3:Hid (VP w ao bo dl ca n cb S L w3):=Z9.below b3;clear b3;clear Z9;refine hK.out _ _ (F3.out) (fun Z9=>?_);clear hK K;refine ZU 4 rfl (fun K hK=>?_);go_simp;refine (A.out _ F3.out).mono ?_;rintro e w4 ⟨g4,c4,rfl,O4,hc4,b4⟩;have F4:=Z3 (F3.out.below b4);clear b4 F3;clear Z9;refine hK.out _ _ (F4.out) (fun Z9=>?_);clear hK K;refine ZU 5 rfl (fun K hK=>?_);go_simp;refine (U8 _ g4 dl c4 f l vH hl1 hc4.1 hd1).mono ?_;rintro e w5 ⟨rfl,b5⟩;have F5:=Z3 (F4.out.below b5);have O5:=Z3 (O4.out.below b5);clear b5 F4 O4;clear Z9;refine hK.out _ _ (F5.out) (fun Z9=>?_);clear hK K;refine ZW ?_ Z9 ?_ ?_
  rotate_left
  · intro w9 Z0;obtain ⟨-,k0,k1,k2,k3⟩:=Z0;go_simp;try with_reducible rfl
  refine ZP (by kernel_rfl) ?_ _
  try simp only [Act.put,Y8,Y7,Y6]
  clear Z9;go_wp2;go_ret;exact ⟨_,rfl,YQ.out _ _ _ O5.out hc4.1 hc4.2,F5.out.1.out.1⟩
--@FI
--@IF impl.Zy
end Go.Proofs.YtpmjnbmkippaiaaGreatDoor
namespace Go.Proofs.YtpmjnbmkippaiaaGreatDoor
open Go.RowKit Go.Conc
variable {ops:Array Oper} {L S:Int} {ns:List Nd} {Bo C N b blk cap g i j m n o sn:Nat} {r:Fi} {u v v1 v2 vt:Value} {W W' w:World}
theorem Own.Hp {lo:Nat} {xs:List Int} (h:Own .u8 5 w lo (.slice (some ⟨g,0,none⟩) n C) xs) (hm:m≤xs.length):Own .u8 5 w 0 (.slice (some ⟨g,0,none⟩) m C) (xs.take m):=by
 refine ⟨by simp,.inr ?_⟩
 rcases h.2 with ⟨h1,-⟩ | ⟨q,cap,cur,e,h1,h2,h3,h4,h5,h6⟩
 · cases h1
 injection e with e1 e2 e3
 injection e1 with e1;injection e1 with e1
 subst e1;subst e3;refine ⟨_,_,cur,by simp [Wh hm],Zu _,h2,?_,h4,h5,?_⟩
 · simp only [XU];omega
 rw [XU,Wh hm,WV,zY,←h6,Jv,WV,Wh hm]
structure Ns (w:World) (sB:Nat) (L R:List Value) (W:World):Prop where
 tw:Tw w sB none W none
 sv:St W sB L
 bx:St W w.heap.size R
theorem Ns.below {sB:Nat} {L R:List Value} (h:Ns w sB L R W) (hb:ZX W W'):Ns w sB L R W' :=
 ⟨h.tw.trans (Tw.ZV hb _ _),h.sv.below hb,h.bx.below hb⟩
structure uY (κ:Sc) (σ:Sx) (sB:Nat) (S:Int) (sn:Nat):Prop where
 sB:κ.sB=sB
 S:κ.S=S
 L:κ.L=(sn:Int)
 cap:κ.cap=sn*64 / 9
 X:κ.X=[]
 rt:Rt σ
 dS:eD σ
 k:σ.k=0
 sn:σ.sn=none
 em:σ.em=false
theorem AB (w:World) (sB V:Nat) (S:Int) (sn:Nat) (ta:Option Addr) (tc xl:Nat) (xa:Option Addr) (xc:Nat) (hc:YO S (sn:Int)=true) (hs:St w sB (Ku (.pointer none) S (sn:Int) (.slice none 0 0) (.slice none 0 0) 0)) (hx:xl=(UP S sn).length) (hd:Own .u8 5 w (sB+1) (.slice xa xl xc) (UP S sn)) (ht:Zz 147 w (sB+1) (.slice ta 1 tc) [ZI]) (hp:w.heap[V]?=some (.cells #[.int .i64 0,.slice none 0 0] 132 (0,0))) (hpl:sB<V) :
    Calls Tryz.prog 18 #[.pointer (some ⟨sB,0,none⟩),.agg #[.int .i64 0,.int .i64 1,.int .i64 0,.int .i64 0,.int .i64 23,.int .i64 (C0:Int),.int .i64 0,.slice ta 1 tc,.int .i64 0,.int .i64 0,.slice xa xl xc,.slice (some ⟨V,0,none⟩) 0 1]] w fun e w'=>e=.returned (.tuple #[])∧Tw w sB none w' none∧∃ κ σ,Sv κ σ w'∧uY κ σ sB S sn:=by
 have c3:=hs.cl 3 _ rfl;have c4:=hs.cl 4 _ rfl;have f3:=hs.fz 3;have f4:=hs.fz 4;have hlt:=hs.lt;have N1:Hid (Ns w sB (Ku (.pointer none) S (sn:Int) (.slice xa xl xc) (.slice (some ⟨V,0,none⟩) 0 1) 0) [.int .i64 0,.int .i64 1,.int .i64 0,.int .i64 0,.int .i64 23,.int .i64 (C0:Int),.int .i64 0,.slice ta 1 tc,.int .i64 0,.int .i64 0,.slice xa xl xc,.slice (some ⟨V,0,none⟩) 0 1] (((w.setCell ⟨sB,3,none⟩ (.slice xa xl xc)).setCell ⟨sB,4,none⟩ (.slice (some ⟨V,0,none⟩) 0 1)).alloc (.cells #[.int .i64 0,.int .i64 1,.int .i64 0,.int .i64 0,.int .i64 23,.int .i64 (C0:Int),.int .i64 0,.slice ta 1 tc,.int .i64 0,.int .i64 0,.slice xa xl xc,.slice (some ⟨V,0,none⟩) 0 1] 65))):=by
  have bA:=(Below.refl ((w.setCell ⟨sB,3,none⟩ (.slice xa xl xc)).setCell ⟨sB,4,none⟩ (.slice (some ⟨V,0,none⟩) 0 1)).heap.size _).alloc ZT (.cells #[.int .i64 0,.int .i64 1,.int .i64 0,.int .i64 0,.int .i64 23,.int .i64 (C0:Int),.int .i64 0,.slice ta 1 tc,.int .i64 0,.int .i64 0,.slice xa xl xc,.slice (some ⟨V,0,none⟩) 0 1] 65);have s9:=St.new ((w.setCell ⟨sB,3,none⟩ (.slice xa xl xc)).setCell ⟨sB,4,none⟩ (.slice (some ⟨V,0,none⟩) 0 1)) #[.int .i64 0,.int .i64 1,.int .i64 0,.int .i64 0,.int .i64 23,.int .i64 (C0:Int),.int .i64 0,.slice ta 1 tc,.int .i64 0,.int .i64 0,.slice xa xl xc,.slice (some ⟨V,0,none⟩) 0 1] 65;have z9:((w.setCell ⟨sB,3,none⟩ (.slice xa xl xc)).setCell ⟨sB,4,none⟩ (.slice (some ⟨V,0,none⟩) 0 1)).heap.size=w.heap.size:=by simp
  rw [z9] at s9;exact ⟨(Tw.refl w sB none).set.set.trans (Tw.ZV bA sB none),((hs.set 3 _).set 4 _).below bA,s9⟩
 have HX:=Z3 hx;clear hx
 go_enter Tryz.func18,Tryz.ntmps18
 go_wp2_with fail
 clear c3 c4 f3 f4;generalize ((w.setCell _ _).setCell _ _).alloc _=w1 at *;have N2:Hid (Ns w sB (Ku (.pointer none) S (sn:Int) (.slice xa xl xc) (.slice (some ⟨V,0,none⟩) 0 1) 0) [.int .i64 0,.int .i64 1,.int .i64 0,.int .i64 0,.int .i64 23,.int .i64 (C0:Int),.int .i64 0,.slice ta 1 tc,.int .i64 0,.int .i64 0,.slice xa xl xc,.slice (some ⟨V,0,none⟩) 0 1] w1.drew):=N1.out.below (below_drewN' w1 1);clear N1;refine ZH (S:=Ns w sB (Ku (.pointer none) S (sn:Int) (.slice xa xl xc) (.slice (some ⟨V,0,none⟩) 0 1) 0) [.int .i64 0,.int .i64 1,.int .i64 0,.int .i64 0,.int .i64 23,.int .i64 (C0:Int),.int .i64 0,.slice ta 1 tc,.int .i64 0,.int .i64 0,.slice xa xl xc,.slice (some ⟨V,0,none⟩) 0 1]) (by kernel_rfl) N2.out (fun Z9=>?_);clear N2;generalize w1.drew=w2 at *
 iterate 7 (refine ZW ?_ Z9 ?_ ?_;rotate_left;· intro w9 Z0;have k0:=Z0.sv.cl 6 _ rfl;have k1:=Z0.bx.cl 9 _ rfl;clear Z0;go_simp;try with_reducible rfl)
 refine ZW (.int .i64 0) Z9 ?_ ?_
 · intro w9 Z0;have k0:=Z0.sv.cl 6 _ rfl;have k1:=Z0.bx.cl 9 _ rfl;clear Z0;go_simp;rfl
 iterate 3 (refine ZW ?_ Z9 ?_ ?_;rotate_left;· intro w9 Z0;have k0:=Z0.sv.cl 6 _ rfl;have k1:=Z0.bx.cl 9 _ rfl;clear Z0;go_simp;try with_reducible rfl)
 refine ZU 11 rfl (fun K hK=>?_);have k6:=Z9.sv.cl 6 _ rfl;have f6:=Z9.sv.fz 6;go_simp;have hN:Ns w sB (Ku (.pointer none) S (sn:Int) (.slice xa xl xc) (.slice (some ⟨V,0,none⟩) 0 1) 0) [.int .i64 0,.int .i64 1,.int .i64 0,.int .i64 0,.int .i64 23,.int .i64 (C0:Int),.int .i64 0,.slice ta 1 tc,.int .i64 0,.int .i64 0,.slice xa xl xc,.slice (some ⟨V,0,none⟩) 0 1] (w2.setCell ⟨sB,6,none⟩ (.int .i64 0)):=⟨Z9.tw.set,Z9.sv.set 6 (.int .i64 0),Z9.bx.other (by omega)⟩;refine hK.out _ _ hN (fun ZM=>?_);clear hK K ZM Z9 k6 f6;have N3:=Z3 hN;clear hN;refine ZP (by kernel_rfl) ?_ _
 try simp only [Act.put,Y8,Y7,Y6]
 generalize w2.setCell _ _=w3 at *;have Cc:Hid (∀W,Ns w sB (Ku (.pointer none) S (sn:Int) (.slice xa xl xc) (.slice (some ⟨V,0,none⟩) 0 1) 0) [.int .i64 0,.int .i64 1,.int .i64 0,.int .i64 0,.int .i64 23,.int .i64 (C0:Int),.int .i64 0,.slice ta 1 tc,.int .i64 0,.int .i64 0,.slice xa xl xc,.slice (some ⟨V,0,none⟩) 0 1] W→Calls Tryz.prog 35 #[.agg #[.slice xa xl xc,.slice (some ⟨V,0,none⟩) 0 1],.agg #[.int .i64 S,.int .i64 (sn:Int)],.int .i64 0,.bool true] W fun e w'=>∃v',e=.returned v'∧mq w' W.heap.size v' (UP S sn) (2+S.toNat) sn∧ZX W w'):=fun W hW=>by
  have o9:=hd.Pj hW.tw.Pj (fun q e=>by cases e;exact fun e9=>by have:=(ZD hd _ e9).1;omega);have uE:=(AC hc).n9;have h9:=Gi W xa (some ⟨V,0,none⟩) xl xc 0 1 (UP S sn) [] S (sn:Int) 0 true o9.rd HX.out.symm ⟨_,1,rfl,by decide,by decide,.inl rfl⟩ rfl (by rw [HX.out];exact uE) (by decide) (fun i=>by simp [pD]) (by unfold Im;rw [HX.out,RC hc];rfl);have e1:(VJ S (sn:Int) 0 true).toNat=2+S.toNat:=by
   obtain ⟨⟨hS1,hS2⟩,hL1,hL2⟩:=(Zg S sn).1 hc;unfold VJ;simp;omega
  have e2:(LO S (sn:Int) true).toNat=sn:=by unfold LO;simp
  rw [e1,e2,QB hc] at h9;exact h9
 have N4:Hid (Ns w sB (Ku (.pointer none) S (sn:Int) (.slice xa xl xc) (.slice (some ⟨V,0,none⟩) 0 1) 0) [.int .i64 0,.int .i64 1,.int .i64 0,.int .i64 0,.int .i64 23,.int .i64 (C0:Int),.int .i64 0,.slice ta 1 tc,.int .i64 0,.int .i64 0,.slice xa xl xc,.slice (some ⟨V,0,none⟩) 0 1] w3.drew):=N3.out.below (below_drewN' w3 1);clear N3
 go_wp2_with fail
 refine ZH (S:=Ns w sB (Ku (.pointer none) S (sn:Int) (.slice xa xl xc) (.slice (some ⟨V,0,none⟩) 0 1) 0) [.int .i64 0,.int .i64 1,.int .i64 0,.int .i64 0,.int .i64 23,.int .i64 (C0:Int),.int .i64 0,.slice ta 1 tc,.int .i64 0,.int .i64 0,.slice xa xl xc,.slice (some ⟨V,0,none⟩) 0 1]) (by kernel_rfl) N4.out (fun Z9=>?_);clear N4;generalize w3.drew=w4 at *
 iterate 9 (refine ZW ?_ Z9 ?_ ?_;rotate_left;· intro w9 Z0;have k0:=Z0.sv.cl 1 _ rfl;have k1:=Z0.sv.cl 2 _ rfl;have k2:=Z0.bx.cl 10 _ rfl;have k3:=Z0.bx.cl 11 _ rfl;have k4:=Z0.bx.cl 2 _ rfl;clear Z0;go_simp;try with_reducible rfl)
 refine ZU 9 rfl (fun K hK=>?_);go_simp;refine (Cc.out _ Z9).mono ?_;rintro e w5 ⟨v5,rfl,⟨lg,M,rfl,o5,hlc⟩,b5⟩;have hw4:w.heap.size≤w4.heap.size:=Z9.tw.size;have N5:=Z9.below b5;have O5:=Z3 o5;refine hK.out _ _ N5 (fun ZM=>?_);clear hK K ZM Z9 o5;have Z9:=N5;clear N5;refine ZW ?_ Z9 ?_ ?_
 rotate_left
 · intro w9 Z0;clear Z0;go_simp;try with_reducible rfl
 refine ZP (by kernel_rfl) ?_ _
 try simp only [Act.put,Y8,Y7,Y6]
 have N5:=Z3 Z9;have t7:=Z9.bx.cl 7 _ rfl;have t6:=Z9.bx.cl 6 _ rfl;clear Z9
 go_wp2_with fail
 have N6:Hid (Ns w sB (Ku (.pointer none) S (sn:Int) (.slice xa xl xc) (.slice (some ⟨V,0,none⟩) 0 1) 0) [.int .i64 0,.int .i64 1,.int .i64 0,.int .i64 0,.int .i64 23,.int .i64 (C0:Int),.int .i64 0,.slice ta 1 tc,.int .i64 0,.int .i64 0,.slice xa xl xc,.slice (some ⟨V,0,none⟩) 0 1] (w5.alloc (.cells #[.slice ta 1 tc,.int .i64 0] 87)).drew):=(N5.out.below (ZJ.alloc ZT _)).below (below_drewN' _ 1);have T6:Hid (St (w5.alloc (.cells #[.slice ta 1 tc,.int .i64 0] 87)).drew w5.heap.size [.slice ta 1 tc,.int .i64 0]):=(St.new w5 #[.slice ta 1 tc,.int .i64 0] 87).below (below_drewN' _ 1);have O6:Hid (Own .u8 5 (w5.alloc (.cells #[.slice ta 1 tc,.int .i64 0] 87)).drew w4.heap.size (.slice (some ⟨lg,0,none⟩) (UP S sn).length M) (UP S sn)):=Own.below (Own.below O5.out (ZJ.alloc ZT _)) (below_drewN' _ 1);have z6:Hid (w5.heap.size<(w5.alloc (.cells #[.slice ta 1 tc,.int .i64 0] 87)).drew.heap.size):=by show _<_;simp
 have z5:=Z3 (b5.size);have Am:Hid (w.heap.size≤w4.heap.size):=hw4;clear hw4;have HQ:Hid (IntKind.i64.wrap (((sn:Int)*64).tdiv 9)=(sn:Int)*64 / 9):=by
  show _=_;obtain ⟨-,hL1,hL2⟩:=(Zg S sn).1 hc;rw [lq (by omega)];rw [XK] <;> omega
 clear N5 O5 t7 t6;refine ZH (S:=fun W=>St W w.heap.size [.int .i64 0,.int .i64 1,.int .i64 0,.int .i64 0,.int .i64 23,.int .i64 (C0:Int),.int .i64 0,.slice ta 1 tc,.int .i64 0,.int .i64 0,.slice xa xl xc,.slice (some ⟨V,0,none⟩) 0 1]∧St W w5.heap.size [.slice ta 1 tc,.int .i64 0]) (by kernel_rfl) ⟨N6.out.bx,T6.out⟩ (fun Z9=>?_);generalize (w5.alloc _).drew=w6 at *
 iterate 5 (refine ZW ?_ Z9 ?_ ?_;rotate_left;· intro w9 Z0;have k0:=Z0.2.cl 0 _ rfl;have k1:=Z0.2.cl 1 _ rfl;have k2:=Z0.1.cl 1 _ rfl;have k3:=Z0.1.cl 2 _ rfl;have k4:=Z0.1.cl 3 _ rfl;have k5:=Z0.1.cl 4 _ rfl;have k6:=Z0.1.cl 5 _ rfl;have k7:=Z0.1.cl 8 _ rfl;have k8:=Z0.1.cl 0 _ rfl;clear Z0;go_simp;try with_reducible rfl)
 refine ZW (.int .i64 ((sn*64 / 9:Nat):Int)) Z9 ?_ ?_
 · intro w9 Z0;clear Z0;go_simp;exact HQ.out
 refine ZG 7 ?v28 rfl Z9 ?hy28 ?_
 case hy28 =>
  intro w9 Z0;have k0:=Z0.2.cl 0 _ rfl;have k1:=Z0.2.cl 1 _ rfl;have k2:=Z0.1.cl 1 _ rfl;have k3:=Z0.1.cl 2 _ rfl;have k4:=Z0.1.cl 3 _ rfl;have k5:=Z0.1.cl 4 _ rfl;have k6:=Z0.1.cl 5 _ rfl;have k7:=Z0.1.cl 8 _ rfl;have k8:=Z0.1.cl 0 _ rfl;clear Z0;go_simp
  try with_reducible rfl
 refine ZG 8 ?v29 rfl Z9 ?hy29 ?_
 case hy29 =>
  intro w9 Z0;have k0:=Z0.2.cl 0 _ rfl;have k1:=Z0.2.cl 1 _ rfl;have k2:=Z0.1.cl 1 _ rfl;have k3:=Z0.1.cl 2 _ rfl;have k4:=Z0.1.cl 3 _ rfl;have k5:=Z0.1.cl 4 _ rfl;have k6:=Z0.1.cl 5 _ rfl;have k7:=Z0.1.cl 8 _ rfl;have k8:=Z0.1.cl 0 _ rfl;clear Z0;go_simp
  try with_reducible rfl
 refine ZG 9 ?v30 rfl Z9 ?wG ?_
 case wG =>
  intro w9 Z0;have k0:=Z0.2.cl 0 _ rfl;have k1:=Z0.2.cl 1 _ rfl;have k2:=Z0.1.cl 1 _ rfl;have k3:=Z0.1.cl 2 _ rfl;have k4:=Z0.1.cl 3 _ rfl;have k5:=Z0.1.cl 4 _ rfl;have k6:=Z0.1.cl 5 _ rfl;have k7:=Z0.1.cl 8 _ rfl;have k8:=Z0.1.cl 0 _ rfl;clear Z0;go_simp
  try with_reducible rfl
 refine ZG 10 ?v31 rfl Z9 ?hy31 ?_
 case hy31 =>
  intro w9 Z0;have k0:=Z0.2.cl 0 _ rfl;have k1:=Z0.2.cl 1 _ rfl;have k2:=Z0.1.cl 1 _ rfl;have k3:=Z0.1.cl 2 _ rfl;have k4:=Z0.1.cl 3 _ rfl;have k5:=Z0.1.cl 4 _ rfl;have k6:=Z0.1.cl 5 _ rfl;have k7:=Z0.1.cl 8 _ rfl;have k8:=Z0.1.cl 0 _ rfl;clear Z0;go_simp
  try with_reducible rfl
 refine ZG 11 ?v32 rfl Z9 ?hy32 ?_
 case hy32 =>
  intro w9 Z0;have k0:=Z0.2.cl 0 _ rfl;have k1:=Z0.2.cl 1 _ rfl;have k2:=Z0.1.cl 1 _ rfl;have k3:=Z0.1.cl 2 _ rfl;have k4:=Z0.1.cl 3 _ rfl;have k5:=Z0.1.cl 4 _ rfl;have k6:=Z0.1.cl 5 _ rfl;have k7:=Z0.1.cl 8 _ rfl;have k8:=Z0.1.cl 0 _ rfl;clear Z0;go_simp
  try with_reducible rfl
 refine ZG 12 ?v33 rfl Z9 ?wD ?_
 case wD =>
  intro w9 Z0;have k0:=Z0.2.cl 0 _ rfl;have k1:=Z0.2.cl 1 _ rfl;have k2:=Z0.1.cl 1 _ rfl;have k3:=Z0.1.cl 2 _ rfl;have k4:=Z0.1.cl 3 _ rfl;have k5:=Z0.1.cl 4 _ rfl;have k6:=Z0.1.cl 5 _ rfl;have k7:=Z0.1.cl 8 _ rfl;have k8:=Z0.1.cl 0 _ rfl;clear Z0;go_simp
  try with_reducible rfl
 refine ZG 13 ?v34 rfl Z9 ?hy34 ?_
 case hy34 =>
  intro w9 Z0;have k0:=Z0.2.cl 0 _ rfl;have k1:=Z0.2.cl 1 _ rfl;have k2:=Z0.1.cl 1 _ rfl;have k3:=Z0.1.cl 2 _ rfl;have k4:=Z0.1.cl 3 _ rfl;have k5:=Z0.1.cl 4 _ rfl;have k6:=Z0.1.cl 5 _ rfl;have k7:=Z0.1.cl 8 _ rfl;have k8:=Z0.1.cl 0 _ rfl;clear Z0;go_simp
  try with_reducible rfl
 refine ZG 14 ?v35 rfl Z9 ?YP ?_
 case YP =>
  intro w9 Z0;have k0:=Z0.2.cl 0 _ rfl;have k1:=Z0.2.cl 1 _ rfl;have k2:=Z0.1.cl 1 _ rfl;have k3:=Z0.1.cl 2 _ rfl;have k4:=Z0.1.cl 3 _ rfl;have k5:=Z0.1.cl 4 _ rfl;have k6:=Z0.1.cl 5 _ rfl;have k7:=Z0.1.cl 8 _ rfl;have k8:=Z0.1.cl 0 _ rfl;clear Z0;go_simp
  try with_reducible rfl
 refine ZG 15 ?v36 rfl Z9 ?YN ?_
 case YN =>
  intro w9 Z0;have k0:=Z0.2.cl 0 _ rfl;have k1:=Z0.2.cl 1 _ rfl;have k2:=Z0.1.cl 1 _ rfl;have k3:=Z0.1.cl 2 _ rfl;have k4:=Z0.1.cl 3 _ rfl;have k5:=Z0.1.cl 4 _ rfl;have k6:=Z0.1.cl 5 _ rfl;have k7:=Z0.1.cl 8 _ rfl;have k8:=Z0.1.cl 0 _ rfl;clear Z0;go_simp
  try with_reducible rfl
 refine ZU 6 rfl (fun K hK=>?_);go_simp;have MC:Sem.run Tryz.prog (Instr.makeChan 88 (.int .i64 ((sn:Int)*64 / 9))) w6=.ok (.chan (some w6.heap.size)) (w6.alloc (.chan (sn*64 / 9) #[] false 0 0 false)):=by
  obtain ⟨-,hL1,hL2⟩:=(Zg S sn).1 hc;have fq:(Tryz.prog.info? 22).map (·.bytes)=some 24:=by kernel_rfl
  obtain ⟨i9,hi9,ST⟩:=Option.map_eq_some_iff.1 fq;have h9:=run_makeChan (w:=w6) (P:=Tryz.prog) (t:=88) Tryz.underlying88 hi9 .i64 (sn*64 / 9) (by omega) (by rw [ST];omega);have e9:((sn*64 / 9:Nat):Int)=(sn:Int)*64 / 9:=by omega
  rw [e9] at h9;exact h9
 rw [MC];clear MC;go_simp;have d:=(Below.refl w6.heap.size w6).alloc ZT (.chan (sn*64 / 9) #[] false 0 0 false);refine hK.out _ _ ⟨Z9.1.below d,Z9.2.below d⟩ (fun ZM=>?_);clear hK K ZM;have hH7:St (w6.alloc (.chan (sn*64 / 9) #[] false 0 0 false)) w.heap.size [.int .i64 0,.int .i64 1,.int .i64 0,.int .i64 0,.int .i64 23,.int .i64 (C0:Int),.int .i64 0,.slice ta 1 tc,.int .i64 0,.int .i64 0,.slice xa xl xc,.slice (some ⟨V,0,none⟩) 0 1]∧St (w6.alloc (.chan (sn*64 / 9) #[] false 0 0 false)) w5.heap.size [.slice ta 1 tc,.int .i64 0]:=⟨Z9.1.below d,Z9.2.below d⟩;clear Z9;refine ZW ?_ Z9 ?_ ?_
 rotate_left
 · intro w9 Z0;clear Z0;go_simp;try with_reducible rfl
 refine ZU 17 rfl (fun K hK=>?_);go_simp;have C7:Hid ((w6.alloc (.chan (sn*64 / 9) #[] false 0 0 false)).heap[w6.heap.size]?=some (.chan (sn*64 / 9) #[] false 0 0 false)):=Array.getElem?_push_size;have N7:=Z3 (N6.out.below d);have O7:Hid (Own .u8 5 (w6.alloc (.chan (sn*64 / 9) #[] false 0 0 false)) w4.heap.size (.slice (some ⟨lg,0,none⟩) (UP S sn).length M) (UP S sn)):=Own.below O6.out d;have E7:Hid ((w6.alloc (.chan (sn*64 / 9) #[] false 0 0 false)).heap.size=w6.heap.size+1):=by show _=_;simp
 have z7:Hid (w6.heap.size<(w6.alloc (.chan (sn*64 / 9) #[] false 0 0 false)).heap.size∧lg<w6.heap.size∧w4.heap.size≤lg):=⟨by simp,(ZD O6.out lg rfl).2,(ZD O6.out lg rfl).1⟩;clear N6 O6 d;generalize w6.alloc _=w7 at *;have bD:=(Below.refl w7.heap.size w7).alloc ZT (.cells #[.slice ta 1 tc,.int .i64 0,.slice ta 1 tc,.int .i64 0,.chan (some w6.heap.size),.int .i64 0,.int .i64 1,.int .i64 0,.int .i64 0,.int .i64 23,.int .i64 (C0:Int),.slice (some ⟨lg,(2+S.toNat)*64,none⟩) 0 (M - (2+S.toNat)*64),.pointer none,.bool false] 91);refine hK.out _ _ ⟨hH7.1.below bD,hH7.2.below bD⟩ (fun ZM=>?_);clear hK K ZM;have Z9:St (w7.alloc (.cells #[.slice ta 1 tc,.int .i64 0,.slice ta 1 tc,.int .i64 0,.chan (some w6.heap.size),.int .i64 0,.int .i64 1,.int .i64 0,.int .i64 0,.int .i64 23,.int .i64 (C0:Int),.slice (some ⟨lg,(2+S.toNat)*64,none⟩) 0 (M - (2+S.toNat)*64),.pointer none,.bool false] 91)) w.heap.size [.int .i64 0,.int .i64 1,.int .i64 0,.int .i64 0,.int .i64 23,.int .i64 (C0:Int),.int .i64 0,.slice ta 1 tc,.int .i64 0,.int .i64 0,.slice xa xl xc,.slice (some ⟨V,0,none⟩) 0 1]∧St (w7.alloc (.cells #[.slice ta 1 tc,.int .i64 0,.slice ta 1 tc,.int .i64 0,.chan (some w6.heap.size),.int .i64 0,.int .i64 1,.int .i64 0,.int .i64 0,.int .i64 23,.int .i64 (C0:Int),.slice (some ⟨lg,(2+S.toNat)*64,none⟩) 0 (M - (2+S.toNat)*64),.pointer none,.bool false] 91)) w5.heap.size [.slice ta 1 tc,.int .i64 0]:=⟨hH7.1.below bD,hH7.2.below bD⟩;clear hH7;have M8:Hid (St (w7.alloc (.cells #[.slice ta 1 tc,.int .i64 0,.slice ta 1 tc,.int .i64 0,.chan (some w6.heap.size),.int .i64 0,.int .i64 1,.int .i64 0,.int .i64 0,.int .i64 23,.int .i64 (C0:Int),.slice (some ⟨lg,(2+S.toNat)*64,none⟩) 0 (M - (2+S.toNat)*64),.pointer none,.bool false] 91)) (w6.heap.size+1) [.slice ta 1 tc,.int .i64 0,.slice ta 1 tc,.int .i64 0,.chan (some w6.heap.size),.int .i64 0,.int .i64 1,.int .i64 0,.int .i64 0,.int .i64 23,.int .i64 (C0:Int),.slice (some ⟨lg,(2+S.toNat)*64,none⟩) 0 (M - (2+S.toNat)*64),.pointer none,.bool false]):=by
  rw [←E7.out];exact St.new w7 #[.slice ta 1 tc,.int .i64 0,.slice ta 1 tc,.int .i64 0,.chan (some w6.heap.size),.int .i64 0,.int .i64 1,.int .i64 0,.int .i64 0,.int .i64 23,.int .i64 (C0:Int),.slice (some ⟨lg,(2+S.toNat)*64,none⟩) 0 (M - (2+S.toNat)*64),.pointer none,.bool false] 91
 have C8:Hid ((w7.alloc (.cells #[.slice ta 1 tc,.int .i64 0,.slice ta 1 tc,.int .i64 0,.chan (some w6.heap.size),.int .i64 0,.int .i64 1,.int .i64 0,.int .i64 0,.int .i64 23,.int .i64 (C0:Int),.slice (some ⟨lg,(2+S.toNat)*64,none⟩) 0 (M - (2+S.toNat)*64),.pointer none,.bool false] 91)).heap[w6.heap.size]?=some (.chan (sn*64 / 9) #[] false 0 0 false)):=(bD.block _ (by have:=z7.out;omega)).trans C7.out;have N8:=Z3 (N7.out.below bD);have O8:Hid (Own .u8 5 (w7.alloc (.cells #[.slice ta 1 tc,.int .i64 0,.slice ta 1 tc,.int .i64 0,.chan (some w6.heap.size),.int .i64 0,.int .i64 1,.int .i64 0,.int .i64 0,.int .i64 23,.int .i64 (C0:Int),.slice (some ⟨lg,(2+S.toNat)*64,none⟩) 0 (M - (2+S.toNat)*64),.pointer none,.bool false] 91)) w4.heap.size (.slice (some ⟨lg,0,none⟩) (UP S sn).length M) (UP S sn)):=Own.below O7.out bD;have z8:Hid (w7.heap.size<(w7.alloc (.cells #[.slice ta 1 tc,.int .i64 0,.slice ta 1 tc,.int .i64 0,.chan (some w6.heap.size),.int .i64 0,.int .i64 1,.int .i64 0,.int .i64 0,.int .i64 23,.int .i64 (C0:Int),.slice (some ⟨lg,(2+S.toNat)*64,none⟩) 0 (M - (2+S.toNat)*64),.pointer none,.bool false] 91)).heap.size):=by show _<_;simp
 clear C7 N7 O7 bD;generalize w7.alloc _=w8 at *
 iterate 2 (refine ZW ?_ Z9 ?_ ?_;rotate_left;· intro w9 Z0;clear Z0;go_simp;try with_reducible rfl)
 refine ZU 20 rfl (fun K hK=>?_);have k0:=N8.out.sv.cl 0 _ rfl;have f0:=N8.out.sv.fz 0;go_simp;clear k0 f0;refine hK.out _ _ ⟨Z9.1.other (by omega),Z9.2.other (by have:=z5.out;have:=Am.out;omega)⟩ (fun ZM=>?_);clear hK K ZM Z9;refine ZP (by kernel_rfl) ?_ _
 try simp only [Act.put,Y8,Y7,Y6]
 have FIN:Hid (Tw w sB none (w8.setCell ⟨sB,0,none⟩ (.pointer (some ⟨w6.heap.size+1,0,none⟩))) none∧∃ κ σ,Sv κ σ (w8.setCell ⟨sB,0,none⟩ (.pointer (some ⟨w6.heap.size+1,0,none⟩)))∧uY κ σ sB S sn):=by
  have Z7:=z7.out;have Z8:=z8.out;have e7:=E7.out;have Z6:=z6.out;have Z5:=z5.out;have Ya:=Am.out;have T9:=(N8.out.tw).set (j:=0) (x:=.pointer (some ⟨w6.heap.size+1,0,none⟩));have uE:=(AC hc).n9;obtain ⟨⟨hS1,hS2⟩,hL1,hL2⟩:=(Zg S sn).1 hc;have hDl:(2+S.toNat+sn)*64≤(UP S sn).length:=by
   have:=((VQ ..).1 (RC hc)).2.2;omega
  have eV:=hd.Pj T9.Pj (fun q e=>by cases e;exact fun e9=>by have:=(ZD hd _ e9).1;omega);have Zx:=T9.gS ht (fun e9=>by have:=(ZD ht _ e9).1;omega);have fx:∀q,xa.map (·.block)=some q→sB<q∧q<w.heap.size:=fun q e=>by
   cases xa with
   | none=>cases e
   | some a=>cases e;exact ZD hd _ rfl
  have ft:∀q,(Value.slice ta 1 tc).ownBlock=some q→sB<q∧q<w.heap.size:=fun q e=>ZD ht _ e
  have fd:∀q,(Value.slice xa xl xc).ownBlock=some q→sB<q∧q<w.heap.size:=fun q e=>ZD hd _ e
  have Zw:V<w.heap.size:=(Yh.mp hp).1;have hup:sB<w6.heap.size+1∧sB<w6.heap.size∧sB<lg:=by omega
  have far:∀v:Value,(∀q,v.ownBlock=some q→sB<q∧q<w.heap.size)→Tk ⟨sB,w6.heap.size+1,w6.heap.size,lg,(2+S.toNat)*64,sn*64 / 9,S,sn,[],hup⟩ v:=fun v hv q hq=>by
   have:=hv q hq;exact ⟨by show q≠sB;omega,by show q≠w6.heap.size+1;omega,by show q≠w6.heap.size;omega,by show q≠lg;omega,by simp⟩
  refine ⟨T9,⟨sB,w6.heap.size+1,w6.heap.size,lg,(2+S.toNat)*64,sn*64 / 9,S,sn,[],hup⟩,⟨[ZI],0,[ZI],0,[],0,1,0,0,23,C0,[],0,none,0,false,some V⟩,?_,⟨rfl,rfl,rfl,rfl,rfl,⟨rfl,rfl,rfl,rfl,rfl,rfl,rfl⟩,⟨rfl,rfl,rfl⟩,rfl,rfl,rfl⟩⟩;refine ⟨⟨?_,?_,?_,?_,?_,?_⟩,fun x hx=>by simp at hx,⟨_,0,_,N8.out.sv.set 0 _,eV,uE,⟨Int.le_refl _,Int.le_refl _⟩,far _ fd⟩,⟨.slice ta 1 tc,.slice ta 1 tc,M - (2+S.toNat)*64,?_,Zx.rd,Zx.rd,Zx.qK,far _ ft,far _ ft,?_,?_⟩,⟨[],0,0,?_,⟨rfl,fun i hi=>by simp at hi⟩,fun i hi=>by simp at hi⟩,fun p hp=>by simp at hp,?_⟩
  · show sB≠w6.heap.size+1;omega
  · show sB≠w6.heap.size;omega
  · show sB≠lg;omega
  · show w6.heap.size+1≠w6.heap.size;omega
  · show w6.heap.size+1≠lg;omega
  · show w6.heap.size≠lg;omega
  · have h9:=M8.out.other (c:=sB) (j:=0) (x:=.pointer (some ⟨w6.heap.size+1,0,none⟩)) (by omega)
    simpa [Ai] using h9
  · have h9:=(Own.setAt (u:=.pointer (some ⟨w6.heap.size+1,0,none⟩)) (g:=sB) (j:=0) O8.out (.inr (fun e=>by simp only [Value.ownBlock,Zo] at e;omega)))
    refine ⟨lg,(2+S.toNat)*64,M - (2+S.toNat)*64,(UP S sn).take ((2+S.toNat)*64),rfl,by simp;omega,?_⟩;have h8:=h9.Hp (m:=(2+S.toNat)*64) (by omega);rw [TX,show (2+S.toNat)*64+([]:List Int).length=(2+S.toNat)*64 from rfl,show (2+S.toNat)*64+(M - (2+S.toNat)*64)=M by omega];exact h8
  · show (sn:Int)*64≤((M - (2+S.toNat)*64:Nat):Int);omega
  · exact (Below.heap_setCell w8 ⟨sB,0,none⟩ _ w6.heap.size (by show w6.heap.size≠sB;omega)).trans C8.out
  intro g hg
  injection hg with hg;subst hg
  exact ⟨(T9.block V Zw (by omega) (by simp)).trans hp,hpl,by show V≠w6.heap.size+1;omega,by show V≠w6.heap.size;omega,by show V≠lg;omega,by simp⟩
 generalize w8.setCell _ _=w9 at *;go_wp2
 go_end0
 exact ⟨rfl,FIN.out⟩
 end Go.Proofs.YtpmjnbmkippaiaaGreatDoor
namespace Go.Proofs.YtpmjnbmkippaiaaGreatDoor
open Go.RowKit Go.Conc
variable {ops:Array Oper} {L S:Int} {ns:List Nd} {Bo C N b blk cap g i j m n o sn:Nat} {r:Fi} {u v v1 v2 vt:Value} {W W' w:World}
structure Nw (w:World) (C L:List Value) (W:World):Prop where
 YU:ZX w W
 cf:St W w.heap.size C
 sv:St W (w.heap.size+1) L
theorem Nw.below {C L:List Value} (h:Nw w C L W) (hb:ZX W W'):Nw w C L W' :=
 ⟨h.YU.trans (hb.mono h.YU.size),h.cf.below hb,h.sv.below hb⟩
def eC (w:World) (S:Int) (sn:Nat) (e:Ending) (w':World):Prop :=
 ∃ κ σ,e=.returned (.pointer (some ⟨κ.sB,0,none⟩))∧Sv κ σ w'∧uY κ σ (w.heap.size+1) S sn∧ZX w w'
theorem Mz (w:World) (S:Int) (sn:Nat) (hc:YO S (sn:Int)=true) (htab:TF w) (h0:0<w.heap.size) :
    Calls Tryz.prog 10 #[.agg #[.int .i64 S,.int .i64 (sn:Int)]] w (eC w S sn):=by
 have N1:Hid (Nw w [.int .i64 S,.int .i64 (sn:Int)] [.pointer none,.int .i64 S,.int .i64 (sn:Int),.slice none 0 0,.slice none 0 0,.int .i64 0,.int .i64 0,.slice none 0 0] ((w.alloc (.cells #[.int .i64 S,.int .i64 (sn:Int)] 25)).alloc (.cells #[.pointer none,.int .i64 S,.int .i64 (sn:Int),.slice none 0 0,.slice none 0 0,.int .i64 0,.int .i64 0,.slice none 0 0] 56))):=by
  have b1:=(Below.refl w.heap.size w).alloc ZT (.cells #[.int .i64 S,.int .i64 (sn:Int)] 25);have b2:=(Below.refl (w.alloc (.cells #[.int .i64 S,.int .i64 (sn:Int)] 25)).heap.size (w.alloc (.cells #[.int .i64 S,.int .i64 (sn:Int)] 25))).alloc ZT (.cells #[.pointer none,.int .i64 S,.int .i64 (sn:Int),.slice none 0 0,.slice none 0 0,.int .i64 0,.int .i64 0,.slice none 0 0] 56);have e1:(w.alloc (.cells #[.int .i64 S,.int .i64 (sn:Int)] 25)).heap.size=w.heap.size+1:=by simp
  have s2:=St.new (w.alloc (.cells #[.int .i64 S,.int .i64 (sn:Int)] 25)) #[.pointer none,.int .i64 S,.int .i64 (sn:Int),.slice none 0 0,.slice none 0 0,.int .i64 0,.int .i64 0,.slice none 0 0] 56;rw [e1] at s2;exact ⟨YV b1 b2,(St.new w #[.int .i64 S,.int .i64 (sn:Int)] 25).below b2,s2⟩
 have HT:Hid (∀W,ZX w W→TF W):=fun W hW=>htab.below h0 hW
 have H0:=Z3 h0;have HC:=Z3 hc;clear htab h0 hc
 go_enter Tryz.func10,Tryz.ntmps10
 go_wp2_with fail
 generalize ((w.alloc _).alloc _)=w1 at *;refine (AU w1 (w.heap.size+1) _ _ _ _ _ _ _ _ N1.out.sv).mono ?_;rintro e w2 ⟨rfl,s2,g2⟩;have N2:Hid (Nw w [.int .i64 S,.int .i64 (sn:Int)] (Ku (.pointer none) S (sn:Int) (.slice none 0 0) (.slice none 0 0) 0) w2.drew):=by
  have n1:=N1.out;have hb:=n1.YU.trans (show Below w.heap.size w1 w2 from ⟨g2.os,g2.tape,g2.output,g2.size,fun q hq=>g2.block q (ZL hq n1.YU.size) (fun e=>by injection e with e;omega)⟩);exact Nw.below ⟨hb,n1.cf.grown g2 (by simp),s2⟩ (below_drewN' w2 1)
 clear N1 s2 g2
 go_wp2_with fail
 refine ZH (S:=fun W=>∃L,Nw w [.int .i64 S,.int .i64 (sn:Int)] L W) (by kernel_rfl) ⟨_,N2.out⟩ (fun Z9=>?_);generalize w2.drew=w3 at *
 iterate 2 (refine ZW ?_ Z9 ?_ ?_;rotate_left;· intro w9 Z0;obtain ⟨L9,Z0⟩:=Z0;have k0:=Z0.cf.cl 0 _ rfl;have k1:=Z0.cf.cl 1 _ rfl;clear Z0;go_simp;try with_reducible rfl)
 refine ZG 3 ?v3 rfl Z9 ?hy3 ?_
 case hy3 =>
  intro w9 Z0;obtain ⟨L9,Z0⟩:=Z0;have k0:=Z0.cf.cl 0 _ rfl;have k1:=Z0.cf.cl 1 _ rfl;clear Z0;go_simp
  try with_reducible rfl
 refine ZU 2 rfl (fun K hK=>?_);go_simp;have h9:=Np w3 S (sn:Int) HC.out (HT.out _ N2.out.YU) (ZL H0.out N2.out.YU.size);refine h9.mono ?_;clear h9;rintro e w4 ⟨v4,rfl,o4,b4⟩;have N4:=N2.out.below b4;refine hK.out _ _ ⟨_,N4⟩ (fun ZM=>?_);have O4:=Z3 o4;clear hK K ZM Z9 N2 o4 b4;have Z9:∃L,Nw w [.int .i64 S,.int .i64 (sn:Int)] L w4:=⟨_,N4⟩;refine ZU 4 rfl (fun K hK=>?_);go_simp;have h9:=Gj w4 v4 S sn (UP S sn) (jm S sn) rfl rfl HC.out O4.out.rd (HT.out _ N4.YU) (ZL H0.out N4.YU.size);refine h9.mono ?_;clear h9;rintro e w5 ⟨vt,v5,V,rfl,t5,o5,Zw,p5,b5⟩;have N5:=N4.below b5;have Z4:w.heap.size+1<w4.heap.size:=N4.sv.lt;refine hK.out _ _ ⟨_,N5⟩ (fun ZM=>?_);clear hK K ZM N4 b5 O4 Z9;obtain ⟨ta,tc,rfl⟩:=t5.slice;obtain ⟨xa,xc,rfl,-⟩:=o5.rd.len;have HS:Hid (Calls Tryz.prog 18 #[.pointer (some ⟨w.heap.size+1,0,none⟩),.agg (qI (jm S sn) (.slice ta [ZI].length tc) (.slice xa (UP S sn).length xc) (.slice (some ⟨V,0,none⟩) 0 1))] w5 fun e w'=>e=.returned (.tuple #[])∧Tw w5 (w.heap.size+1) none w' none∧∃ κ σ,Sv κ σ w'∧uY κ σ (w.heap.size+1) S sn) :=
  AB w5 (w.heap.size+1) V S sn ta tc (UP S sn).length xa xc HC.out N5.sv rfl (o5.mono (by omega)) (t5.mono (by omega)) p5 (by omega)
 clear t5 o5 Zw p5;generalize qI (jm S sn) (.slice ta [ZI].length tc) (.slice xa (UP S sn).length xc) (.slice (some ⟨V,0,none⟩) 0 1)=RR at *;refine ZU 5 rfl (fun K hK=>?_);go_simp;refine HS.out.mono ?_;rintro e w6 ⟨rfl,t6,κ,σ,v6,n6⟩;have FIN:Hid (eC w S sn (.returned (.pointer (some ⟨w.heap.size+1,0,none⟩))) w6):=⟨κ,σ,by rw [n6.sB],v6,n6,N5.YU.trans (t6.below (B:=w.heap.size) N5.YU.size (by omega) (by simp))⟩;have YL:∃L,Nw w [.int .i64 S,.int .i64 (sn:Int)] L w6:=⟨(Ku (.pointer none) S (sn:Int) (.slice none 0 0) (.slice none 0 0) 0).take 0,N5.YU.trans (t6.below (B:=w.heap.size) N5.YU.size (by omega) (by simp)),t6.st N5.cf (by omega) (by simp),?sv⟩
 case sv =>
  refine ⟨ZL N5.sv.lt t6.size,fun j=>?_,fun j v hv=>by simp at hv⟩;obtain ⟨vd,made,ZQ,a1,-⟩:=v6.dk;rw [n6.sB] at a1;exact a1.fz j
 refine hK.out _ _ YL (fun ZM=>?_);clear hK K ZM t6 v6 n6 N5 Z4 YL;refine ZP (by kernel_rfl) ?_ _
 try simp only [Act.put,Y8,Y7,Y6]
 go_wp2;go_ret;exact FIN.out
 end Go.Proofs.YtpmjnbmkippaiaaGreatDoor


