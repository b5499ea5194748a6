import Derived.Test.YtpmjnbmkippaiaaGreatDoorJ06
import Derived.Shelf.Strconv.AppendIntPublic10
import Derived.Shelf.LaysM
import Derived.Shelf.Strings.Builder2
import Derived.Shelf.Bytes.Small
import Derived.Shelf.Bytes.IndexByte
import Derived.Shelf.Strconv.AppendUint10
import Derived.Laws.CopyRow
import Derived.Laws.AppendOwn
set_option maxRecDepth 100000
set_option maxHeartbeats 16000000
set_option linter.unusedVariables false
set_option linter.unusedSimpArgs false
namespace Go.Proofs.YtpmjnbmkippaiaaGreatDoor
section
open Go.RowKit Go.Conc
variable {a:Act} {ops:Array Oper} {em:Bool} {p s:ByteArray} {z:Int} {xs ys:List Int} {ns:List Nd} {rest:List Oper} {A L:List UInt8} {I b base c g j k lo:Nat} {m n:Nd} {o:Oper} {o':Option Nat} {u v:Value} {W w w' w1 w2:World}
structure Sc where
 sB:Nat
 mB:Nat
 c:Nat
 lb:Nat
 lo:Nat
 cap:Nat
 S:Int
 L:Int
 X:List Nat
 up:sB<mB∧sB<c∧sB<lb
structure Sx where
 T:List Nd
 zf:Nat
 Q:List Nd
 zq:Nat
 fs:List (List Int)
 ql:Nat
 g:Int
 b:Int
 s:Int
 l:Int
 r:Int
 full:List Int
 off:Nat
 sn:Option (Nat × Nat × Nat)
 k:Nat
 em:Bool
 pw:Option Nat
def Pp (κ:Sc) (v:Value):Prop:=∀q,v.ownBlock=some q→q≠κ.sB∧q≠κ.mB∧q≠κ.c∧q≠κ.lb∧q ∉ κ.X
structure Gs (κ:Sc) (w w':World):Prop where
 os:w'.os=w.os
 tape:w'.tape=w.tape
 output:w'.output=w.output
 size:w.heap.size≤w'.heap.size
 block:∀q,q<w.heap.size→q≠κ.sB→q≠κ.mB→q≠κ.c→q≠κ.lb→w'.heap[q]?=w.heap[q]?
theorem Gs.YZ {κ:Sc} (h:Zi w w'):Gs κ w w':=⟨h.os,h.tape,h.output,h.size,fun q hq _ _ _ _=>h.block q hq⟩
theorem Gs.trans {κ:Sc} (h:Gs κ w w1) (h':Gs κ w1 w2):Gs κ w w2 :=
 ⟨h'.os.trans h.os,h'.tape.trans h.tape,h'.output.trans h.output,ZJ h.size h'.size,fun q hq a b c d=>(h'.block q (ZY hq h.size) a b c d).trans (h.block q hq a b c d)⟩
theorem Gs.Jb {κ:Sc} {q:Nat} (h:w.grownBy w' (some q)) (hq:q=κ.sB∨q=κ.mB∨q=κ.c∨q=κ.lb):Gs κ w w' :=
 ⟨h.os,h.tape,h.output,h.size,fun p hp a b c d=>h.block p hp (fun e=>by injection e with e;subst e;rcases hq with e | e | e | e <;> contradiction)⟩
theorem Ri {k:IntKind} (h:Rd k w v xs) (hs:w.heap.size≤w'.heap.size) (hb:∀q,v.ownBlock=some q→q<w.heap.size→w'.heap[q]?=w.heap[q]?):Rd k w' v xs:=by
 obtain ⟨ao,cp,rfl,h1,h2,h3⟩:=h;refine ⟨ao,cp,rfl,h1,h2,h3.imp id ?_⟩;rintro ⟨b,off,rfl,hlt,hcl⟩;exact ⟨b,off,rfl,ZY hlt hs,fun i hi=>(ZP (w:=w) (a:=⟨b,off+i,none⟩) (hb b rfl hlt)).trans (hcl i hi)⟩
theorem VM (h:SK w v ns) (hs:w.heap.size≤w'.heap.size) (hb:∀q,v.ownBlock=some q→q<w.heap.size→w'.heap[q]?=w.heap[q]?):SK w' v ns:=by
 obtain ⟨ao,cp,rfl,h1,h2,h3⟩:=h;refine ⟨ao,cp,rfl,h1,h2,h3.imp id ?_⟩;rintro ⟨b,off,rfl,hlt,hcl⟩;refine ⟨b,off,rfl,ZY hlt hs,fun i hi=>?_⟩;have e:∀j,w'.cell? ⟨b,j,none⟩=w.cell? ⟨b,j,none⟩:=fun j=>ZP (w:=w) (a:=⟨b,j,none⟩) (hb b rfl hlt)
 have h9:=hcl i hi;exact ⟨(e _).trans h9.c0,(e _).trans h9.c1,(e _).trans h9.c2,(e _).trans h9.c3,(e _).trans h9.c4,(e _).trans h9.c5,(e _).trans h9.c6⟩
theorem Wo {L:List Value} (h:St w b L) (hs:w.heap.size≤w'.heap.size) (e:w'.heap[b]?=w.heap[b]?):St w' b L:=by
 refine ⟨ZY h.lt hs,fun j=>?_,fun j v hv=>(ZP (w:=w) (a:=⟨b,j,none⟩) e).trans (h.cl j v hv)⟩;have:=h.fz j;unfold World.frozen? at this ⊢;rw [e];exact this
def UJ (w:World) (v:Value) (xs:List Int):Prop:=∃g lo cp pre,v=.slice (some ⟨g,lo,none⟩) xs.length cp∧pre.length=lo∧Own .u8 5 w 0 (.slice (some ⟨g,0,none⟩) (lo+xs.length) (lo+cp)) (pre++xs)
theorem UJ.below (h:UJ w v xs) (hb:Zi w w'):UJ w' v xs:=by
 obtain ⟨g,lo,cp,pre,h1,h2,h3⟩:=h;exact ⟨g,lo,cp,pre,h1,h2,Own.below h3 hb⟩
theorem UJ.kept {row:Option Nat} (h:UJ w v xs) (hg:w.grownBy w' row) (hne:v.ownBlock=none∨v.ownBlock≠row):UJ w' v xs:=by
 obtain ⟨g,lo,cp,pre,rfl,h2,h3⟩:=h;exact ⟨g,lo,cp,pre,rfl,h2,Zn h3 hg (.inr (hne.resolve_left (by simp [Value.ownBlock])))⟩
theorem UJ.setAt (h:UJ w v xs) (hne:v.ownBlock=none∨v.ownBlock≠some g):UJ (w.setCell ⟨g,j,none⟩ u) v xs:=by
 obtain ⟨q,lo,cp,pre,rfl,h2,h3⟩:=h;exact ⟨q,lo,cp,pre,rfl,h2,Own.setAt h3 (.inr (hne.resolve_left (by simp [Value.ownBlock])))⟩
theorem UJ.lt (h:UJ w v xs) (k:Nat) (e:v.ownBlock=some k):0≤k∧k<w.heap.size:=by
 obtain ⟨g,lo,cp,pre,rfl,h2,h3⟩:=h;exact ZT h3 k e
theorem UJ.rd (h:UJ w v xs):Rd .u8 w v xs:=by
 obtain ⟨g,lo,cp,pre,rfl,h2,h3⟩:=h;obtain ⟨ao,c,e,r1,r2,r3⟩:=h3.rd
 simp only [ZZ,ZC] at e r1
 obtain ⟨rfl,-,rfl⟩:=e;refine ⟨_,cp,rfl,by omega,by omega,?_⟩
 rcases r3 with r3 | ⟨b,o',e2,hb,hc⟩
 · exact .inl (List.append_eq_nil_iff.1 r3).2
 simp only [ZK,Ym,VB] at e2
 obtain ⟨rfl,rfl⟩:=e2;refine .inr ⟨_,_,rfl,hb,fun i hi=>?_⟩;have:=hc (lo+i) (by simp only [ZZ];omega);rw [Za] at this;rw [this]
 simp [List.getD,Zv (show pre.length≤lo+i by omega),h2]
def yB (κ:Sc) (σ:Sx) (vt vq:Value) (cp:Nat):List Value :=
 [vt,.int .i64 (σ.zf:Int),vq,.int .i64 (σ.zq:Int),.chan (some κ.c),.int .i64 (σ.ql:Int),.int .i64 σ.g,.int .i64 σ.b,.int .i64 σ.s,.int .i64 σ.l,.int .i64 σ.r,.slice (some ⟨κ.lb,κ.lo+(if σ.off=cp then 0 else σ.off),none⟩) (σ.full.length - σ.off) (cp - σ.off),
  .pointer (σ.sn.map fun p=>⟨p.1,0,none⟩),.bool false]
def tA (w:World) (p:Nat × Nat × Nat) (em:Bool):Prop:=p.1<w.heap.size∧(em=false→w.heap[p.1]?=some (.cells #[.int .i64 (p.2.1:Int),.int .i64 (p.2.2:Int),.string ⟨#[]⟩,.slice none 0 0] 186 (0,0)))
theorem tA.lt {p:Nat × Nat × Nat} (h:tA w p em):p.1<w.heap.size:=h.1
theorem tA.same {p:Nat × Nat × Nat} (h:tA w p em) (e:w'.heap[p.1]?=w.heap[p.1]?):tA w' p em:=by
 refine ⟨?_,fun h9=>e.trans (h.2 h9)⟩;rw [Xj h.1] at e;exact (Z3.mp e).1
def nP:Option Nat→Value
 | none=>.slice none 0 0
 | some g=>.slice (some ⟨g,0,none⟩) 0 1
def nO (κ:Sc) (pw:Option Nat) (w:World):Prop:=∀g,pw=some g→w.heap[g]?=some (.cells #[.int .i64 0,.slice none 0 0] 132 (0,0))∧κ.sB<g∧g≠κ.mB∧g≠κ.c∧g≠κ.lb∧g ∉ κ.X
theorem nO.keep {κ:Sc} {pw:Option Nat} (h:nO κ pw w) (hb:∀g,g<w.heap.size→κ.sB<g→g≠κ.mB→g≠κ.c→g≠κ.lb→g ∉ κ.X→w.heap[g]?=some (.cells #[.int .i64 0,.slice none 0 0] 132 (0,0))→w'.heap[g]?=w.heap[g]?):nO κ pw w':=fun g hg =>
 let ⟨h1,h2,h3,h4,h5,h6⟩:=h g hg
 ⟨(hb g (Z3.mp h1).1 h2 h3 h4 h5 h6 h1).trans h1,h2,h3,h4,h5,h6⟩
theorem nO.none {κ:Sc} :nO κ none w:=fun g hg=>by cases hg
structure Sv (κ:Sc) (σ:Sx) (w:World):Prop where
 ne:κ.sB≠κ.mB∧κ.sB≠κ.c∧κ.sB≠κ.lb∧κ.mB≠κ.c∧κ.mB≠κ.lb∧κ.c≠κ.lb
 fx:∀x ∈ κ.X,x<w.heap.size∧x≠κ.sB∧x≠κ.mB∧x≠κ.c∧x≠κ.lb
 dk:∃vd made YN,St w κ.sB (Ia (.pointer (some ⟨κ.mB,0,none⟩)) κ.S κ.L vd (nP σ.pw) made)∧Own .u8 5 w (κ.sB+1) vd YN∧YN.length≤1048576∧(0≤made∧made≤(σ.k:Int))∧Pp κ vd
 mm:∃vt vq cp,St w κ.mB (yB κ σ vt vq cp)∧SK w vt σ.T∧SK w vq σ.Q∧PV vq∧Pp κ vt∧Pp κ vq∧UJ w (.slice (some ⟨κ.lb,κ.lo,none⟩) σ.full.length cp) σ.full∧κ.L*64≤(cp:Int)
 ch:∃Lv s r,w.heap[κ.c]?=some (.chan κ.cap Lv.toArray false s r false)∧kw w Lv σ.fs∧∀i,i<Lv.length→Pp κ (Lv.getD i undef)
 sn:∀p,σ.sn=some p→tA w p σ.em∧κ.sB<p.1∧p.1≠κ.mB∧p.1≠κ.c∧p.1≠κ.lb∧p.1 ∉ κ.X
 pw:nO κ σ.pw w
theorem Sv.below {κ:Sc} {σ:Sx} (h:Sv κ σ w) (hb:Zi w w'):Sv κ σ w':=by
 obtain ⟨vd,made,YN,a1,a2,a3,a4,a5⟩:=h.dk;obtain ⟨vt,vq,cp,b1,b2,b3,b4,b5,b6,b7,b8⟩:=h.mm;obtain ⟨Lv,s,r,c1,c2,c3⟩:=h.ch;refine ⟨h.ne,fun x hx=>⟨ZY (h.fx x hx).1 hb.size,(h.fx x hx).2⟩,⟨vd,made,YN,a1.below hb,a2.below hb,a3,a4,a5⟩,⟨vt,vq,cp,b1.below hb,b2.below hb,b3.below hb,b4,b5,b6,b7.below hb,b8⟩,⟨Lv,s,r,(hb.block _ (Z3.mp c1).1).trans c1,⟨c2.1,fun i hi=>⟨(c2.2 i hi).1.below hb,(c2.2 i hi).2⟩⟩,c3⟩,fun p hp=>⟨(h.sn p hp).1.same (hb.block _ (h.sn p hp).1.lt),(h.sn p hp).2⟩,h.pw.keep (fun g hl _ _ _ _ _ _=>hb.block g hl)⟩
theorem Sv.re {κ:Sc} {σ σ':Sx} (h:Sv κ σ w) (hg:Gs κ w w') (hk:σ.k=σ'.k) (hS:w'.heap[κ.sB]?=w.heap[κ.sB]?) (hn:σ'.sn=σ.sn)
    (hm:∀vt vq cp,St w κ.mB (yB κ σ vt vq cp)→SK w' vt σ.T→SK w' vq σ.Q→PV vq→Pp κ vt→Pp κ vq→UJ w (.slice (some ⟨κ.lb,κ.lo,none⟩) σ.full.length cp) σ.full→κ.L*64≤(cp:Int) →
     ∃iG kv cp',St w' κ.mB (yB κ σ' iG kv cp')∧SK w' iG σ'.T∧SK w' kv σ'.Q∧PV kv∧Pp κ iG∧Pp κ kv∧UJ w' (.slice (some ⟨κ.lb,κ.lo,none⟩) σ'.full.length cp') σ'.full∧κ.L*64≤(cp':Int))
    (hc:∀Lv s r,w.heap[κ.c]?=some (.chan κ.cap Lv.toArray false s r false)→kw w' Lv σ.fs→(∀i,i<Lv.length→Pp κ (Lv.getD i undef))→∃lG s' r',w'.heap[κ.c]?=some (.chan κ.cap lG.toArray false s' r' false)∧kw w' lG σ'.fs∧∀i,i<lG.length→Pp κ (lG.getD i undef)) (he:σ'.em=σ.em:=by rfl) (hpw:σ'.pw=σ.pw:=by rfl):Sv κ σ' w':=by
 obtain ⟨vd,made,YN,a1,a2,a3,a4,a5⟩:=h.dk;obtain ⟨vt,vq,cp,b1,b2,b3,b4,b5,b6,b7,b8⟩:=h.mm;obtain ⟨Lv,s,r,c1,c2,c3⟩:=h.ch;have ME:∀v,Pp κ v→∀q,v.ownBlock=some q→q<w.heap.size→w'.heap[q]?=w.heap[q]?:=fun v hv q hq hl=>hg.block q hl (hv q hq).1 (hv q hq).2.1 (hv q hq).2.2.1 (hv q hq).2.2.2.1
 refine ⟨h.ne,fun x hx=>⟨ZY (h.fx x hx).1 hg.size,(h.fx x hx).2⟩,⟨vd,made,YN,by rw [hpw];exact Wo a1 hg.size hS,?_,a3,by rw [←hk];exact a4,a5⟩,hm vt vq cp b1 (VM b2 hg.size (ME vt b5)) (VM b3 hg.size (ME vq b6)) b4 b5 b6 b7 b8,hc Lv s r c1 ⟨c2.1,fun i hi=>⟨Ri (c2.2 i hi).1 hg.size (ME _ (c3 i hi)),(c2.2 i hi).2⟩⟩ c3,fun p hp=>?_,by rw [hpw];exact h.pw.keep (fun g hl h1 h2 h3 h4 _ _=>hg.block g hl (by omega) h2 h3 h4)⟩
 · refine ⟨a2.1,a2.2.imp id ?_⟩
   rintro ⟨q,cap,cur,rfl,e1,e2,e3⟩;exact ⟨q,cap,cur,rfl,e1,(ME _ a5 q rfl (Z3.1 e2).1).trans e2,e3⟩
 rw [hn] at hp;obtain ⟨p1,p2,p3,p4,p5⟩:=h.sn p hp;rw [he];exact ⟨p1.same (hg.block _ p1.lt (Q2 p2) p3 p4 p5.1),p2,p3,p4,p5⟩
structure Gw (κ:Sc) (w w':World):Prop where
 os:w'.os=w.os
 tape:w'.tape=w.tape
 output:w'.output=w.output
 size:w.heap.size≤w'.heap.size
 block:∀q,q<w.heap.size→q≠κ.sB→q≠κ.mB→q≠κ.c→q≠κ.lb→(κ.sB<q→w.cell? ⟨q,3,none⟩≠some (.slice none 0 0))→(κ.sB<q→w.cell? ⟨q,1,none⟩≠some (.slice none 0 0))→w'.heap[q]?=w.heap[q]?
theorem Gs.gw {κ:Sc} (h:Gs κ w w'):Gw κ w w':=⟨h.os,h.tape,h.output,h.size,fun q hq a b c d _ _=>h.block q hq a b c d⟩
theorem Gw.trans {κ:Sc} (h:Gw κ w w1) (h':Gw κ w1 w2):Gw κ w w2 :=
 ⟨h'.os.trans h.os,h'.tape.trans h.tape,h'.output.trans h.output,ZJ h.size h'.size,fun q hq a b c d e e2 =>
  have e1:=h.block q hq a b c d e e2
  (h'.block q (ZY hq h.size) a b c d (by rw [ZP (w:=w) (a:=⟨q,3,none⟩) e1];exact e) (by rw [ZP (w:=w) (a:=⟨q,1,none⟩) e1];exact e2)).trans e1⟩
theorem Gw.low {κ:Sc} (h:Gw κ w w') {n:Nat} (hn:n≤κ.sB) (hw:n≤w.heap.size):Below n w w':=by
 obtain ⟨u1,u2,u3⟩:=κ.up;exact ⟨h.os,h.tape,h.output,h.size,fun q hq=>h.block q (by omega) (by omega) (by omega) (by omega) (by omega) (fun e=>absurd e (by omega)) (fun e=>absurd e (by omega))⟩
end
section
open Go.RowKit Go.Shelf
variable {a:Act} {ops:Array Oper} {em:Bool} {p s:ByteArray} {z:Int} {xs ys:List Int} {ns:List Nd} {rest:List Oper} {A L:List UInt8} {I b base c g j k lo:Nat} {m n:Nd} {o:Oper} {o':Option Nat} {u v:Value} {W w w' w1 w2:World}
def Ul (w:World) (base:Nat) (v:Value) (xs:List Int):Prop :=
 ∃g cap,v=.slice (some ⟨g,0,none⟩) xs.length cap∧base≤g∧g<w.heap.size∧xs.length≤cap∧cap≤maxLen∧w.rangeAt g 0 (xs.map (Value.int .u8))∧w.there g 0 cap
theorem Qv :∀(vs:List Value) (o:Nat) (W:World),w.grownBy W (some g)→w.grownBy (W.setCells g o vs) (some g)
 | [],_,_,h=>h
 | v :: r,o,W,h=>Qv r (o+1) _ (grownBy_set w W g o v h)
theorem zV {A B:List Value} (h1:W.rangeAt g 0 A) (h2:W.rangeAt g A.length B):W.rangeAt g 0 (A++B):=by
 intro j v hj
 rcases Sz j A.length with h | h
 · rw [Zy h] at hj;exact h1 j v hj
 rw [Zv h] at hj;have:=h2 (j - A.length) v hj;rw [Za]
 rwa [show A.length+(j - A.length)=j by omega] at this
theorem Fx {cap:Nat} {T:Array Value} (hb:base≤w.heap.size) (hc:xs.length≤cap) (hm:cap≤maxLen) (hT:(((xs.map (Value.int .u8)).toArray++T).size=cap)) :
    Ul (w.alloc (.cells ((xs.map (Value.int .u8)).toArray++T) 5)) base (.slice (some ⟨w.heap.size,0,none⟩) xs.length cap) xs:=by
 refine ⟨_,cap,rfl,hb,by simp,hc,hm,?_,Vn w _ _ _ hT⟩;intro j v hj;rw [Za,Yz _ w.heap.size j _ _ _ (Zs w _),Array.getElem?_append];have:=(Zh.1 hj).1;rw [Z0 (by simpa using this)]
 simpa using hj
section
variable (w:World)
theorem ku (h:Ul w base v xs) (hb:base≤w.heap.size) (x:Value) (u ty:TypeId) (hl:xs.length+ys.length≤1048576)
    (room:∀g cap,v=.slice (some ⟨g,0,none⟩) xs.length cap→xs.length+ys.length≤cap→∀W',(storeCells ⟨g,xs.length,none⟩ (ys.map (Value.int .u8)) 0).run Tryz.prog w=.ok () W'→(Builtin.append_ #[22,u] ty #[v,x]).run Tryz.prog w=.ok (.slice (some ⟨g,0,none⟩) (xs.length+ys.length) cap) W')
    (grow:∀g cap,v=.slice (some ⟨g,0,none⟩) xs.length cap→cap<xs.length+ys.length→(∀j c,(xs.map (Value.int .u8))[j]?=some c→w.cell? ((⟨g,0,none⟩:Addr).add j)=some c)→(Builtin.append_ #[22,u] ty #[v,x]).run Tryz.prog w=.ok (.slice (some ⟨w.heap.size,0,none⟩) (xs.length+ys.length) (grownCap w (xs.length+ys.length) cap 5)) (w.drew.alloc (.cells ((xs.map (Value.int .u8)).toArray++(ys.map (Value.int .u8)).toArray++Builtin.zeroCells (Value.int .u8 0).cells (grownCap w (xs.length+ys.length) cap 5 - (xs.length+ys.length))) 5))) :
    ∃v' w',(Builtin.append_ #[22,u] ty #[v,x]).run Tryz.prog w=.ok v' w'∧Ul w' base v' (xs++ys)∧w.grownBy w' v.ownBlock:=by
 obtain ⟨g,cap,rfl,hbg,hg,hc,hm,hr,ht⟩:=h
 by_cases hroom:xs.length+ys.length≤cap
 · have h1:=run_storeCells_cells (P:=Tryz.prog) g xs.length (ys.map (Value.int .u8)) 0 w (fun j hj=>by have:=(ht (xs.length+j) (by simp at hj;omega)).1;simpa using this) (fun j hj=>by have:=(ht (xs.length+j) (by simp at hj;omega)).2;simpa using this) (Yi _ _)
   refine ⟨_,_,room g cap rfl hroom _ h1,?_,Qv _ _ _ (Zz _ _)⟩;refine ⟨g,cap,by rw [ZZ],hbg,ZY hg (Qv _ _ _ (Zz w (some g))).size,by rw [ZZ];exact hroom,hm,?_,World.there_setCells ht _ _ _⟩;rw [Y6];refine zV (U3 hr _ _ _ (.inr (.inl (by simp)))) ?_;rw [Zl];exact Yf _ _ _ _ (fun j hj=>by have:=ht (xs.length+j) (by simp at hj;omega);simpa using this)
 have hge:=Tq w (xs.length+ys.length) cap 5;have hcm:grownCap w (xs.length+ys.length) cap 5≤maxLen:=We w _ _ _ (by unfold maxLen;omega);refine ⟨_,_,grow g cap rfl (by omega) (fun j c hj=>by have:=hr j c hj;rw [YY];exact this),?_,⟨rfl,rfl,rfl,by simp,fun k hk _=>Below.heap_alloc w.drew _ k hk⟩⟩;have e:=Fx (w:=w.drew) (base:=base) (cap:=grownCap w (xs.length+ys.length) cap 5) (xs:=xs++ys) (T:=Builtin.zeroCells (Value.int .u8 0).cells (grownCap w (xs.length+ys.length) cap 5 - (xs.length+ys.length))) hb (by rw [ZZ];exact hge) hcm (by simp [TN,Value.cells];omega);rw [Y6,ZZ] at e
 simpa using e
theorem wt (s:ByteArray) (ty:TypeId) (h:Ul w base v xs) (hb:base≤w.heap.size) (hl:xs.length+s.size≤1048576) :
    ∃v' w',(Builtin.append_ #[22,9] ty #[v,.string s]).run Tryz.prog w=.ok v' w'∧Ul w' base v' (xs++U0 s)∧w.grownBy w' v.ownBlock:=by
 obtain ⟨i0,hi,hz0,hz1,hz2⟩:=YM Tryz.QZ;have hn:(U0 s).length=s.size:=Wq s;refine ku w h hb (.string s) 9 ty (by omega) ?_ ?_
 · rintro g cap rfl hroom W' hst
   have hf:=Lib.run_firstCells_string (P:=Tryz.prog) w 1 s;rw [←Qb] at hst;rw [hn] at hroom ⊢
   simp [Builtin.append_,Ya Tryz.underlying22,Ya Tryz.underlying9,sizeOf,typeInfo,hi,hz1,Builtin.lenOf,hroom,hf,YY,hst]
 rintro g cap rfl hg ho;rw [hn] at hg ⊢;rw [←Qb];exact UE (P:=Tryz.prog) w 22 9 ty 5 i0 (.int .u8 0) Tryz.underlying22 Tryz.underlying9 hi hz0 ⟨g,0,none⟩ xs.length cap (xs.map (Value.int .u8)) (by rw [hz1,Zl,Yr]) ho s hg (by omega) (by rw [hz2];exact U2 (by omega) (by omega))
theorem ws (a:Addr) (c:Nat) (ty:TypeId) (h:Ul w base v xs) (hb:base≤w.heap.size) (hl:xs.length+ys.length≤1048576) (hy:∀j u,(ys.map (Value.int .u8))[j]?=some u→w.cell? (a.add j)=some u) :
    ∃v' w',(Builtin.append_ #[22,22] ty #[v,.slice (some a) ys.length c]).run Tryz.prog w=.ok v' w'∧Ul w' base v' (xs++ys)∧w.grownBy w' v.ownBlock:=by
 obtain ⟨i0,hi,hz0,hz1,hz2⟩:=YM Tryz.QZ;refine ku w h hb (.slice (some a) ys.length c) 22 ty hl ?_ ?_
 · rintro g cap rfl hroom W' hst
   have hf:=Vt (P:=Tryz.prog) w 1 ys.length a ys.length c (ys.map (Value.int .u8)) (by simp) hy
   simp [Builtin.append_,Ya Tryz.underlying22,sizeOf,typeInfo,hi,hz1,Builtin.lenOf,hroom,hf,YY,hst]
 rintro g cap rfl hg ho;exact run_append_grow (P:=Tryz.prog) w 22 ty 5 i0 (.int .u8 0) Tryz.underlying22 hi hz0 ⟨g,0,none⟩ xs.length cap (xs.map (Value.int .u8)) (by rw [hz1,Zl,Yr]) ho a ys.length c (ys.map (Value.int .u8)) (by rw [hz1,Zl,Yr]) hy hg (by omega) (by rw [hz2];exact U2 (by omega) (by omega))
end
end
section
open Go.Shelf
variable {a:Act} {ops:Array Oper} {em:Bool} {p s:ByteArray} {z:Int} {xs ys:List Int} {ns:List Nd} {rest:List Oper} {A L:List UInt8} {I b base c g j k lo:Nat} {m n:Nd} {o:Oper} {o':Option Nat} {u v:Value} {W w w' w1 w2:World}
def Tryz.Mb:Go.Shelf.Ren:=⟨fun | 169=>120 | n=>n,fun | 70=>178 | 9=>9 | 0=>0 | 72=>180 | 37=>22 | 127=>236 | 3=>3 | 5=>5 | n=>n,fun | n=>n⟩
theorem Tryz.rL:Go.Proofs.Lays.n169 Tryz.prog Tryz.Mb:={
 mixed:=by kernel_rfl
 f169:=Tryz.func120.trans (ZM some (by kernel_rfl))
 t0:=Tryz.underlying0
 a0:=Tryz.isAgg0
 z0:=Tryz.sizeOf0
 v0:=Tryz.zeroValue0
 t3:=Tryz.underlying3
 a3:=Tryz.isAgg3
 z3:=Tryz.sizeOf3
 v3:=Tryz.zeroValue3
 t9:=Tryz.underlying9
 a9:=Tryz.isAgg9
 z9:=Tryz.sizeOf9
 v9:=Tryz.zeroValue9
 t37:=Tryz.underlying22
 a37:=Tryz.isAgg22
 z37:=Tryz.sizeOf22
 v37:=Tryz.zeroValue22
 t70:=Tryz.underlying178
 a70:=Tryz.isAgg178
 z70:=Tryz.sizeOf178
 v70:=Tryz.zeroValue178
 t72:=Tryz.underlying180
 a72:=Tryz.isAgg180
 z72:=Tryz.sizeOf180
 v72:=Tryz.zeroValue180
 t127:=Tryz.underlying236
 a127:=Tryz.isAgg236
 z127:=Tryz.sizeOf236
 v127:=Tryz.zeroValue236 }
theorem Tryz.Nm:Builder.Extra Tryz.prog Tryz.Mb:={
 sizeBuilder:=by kernel_rfl
 liesBuilder:=by kernel_rfl
 t5:=Tryz.underlying5
 a5:=Tryz.isAgg5
 z5:=Tryz.sizeOf5
 v5:=Tryz.zeroValue5
 infoByte:=by kernel_rfl
 cellsByte:=by kernel_rfl
 sizeByte:=by kernel_rfl
 neB5:=by decide }
open Go.RowKit in
theorem Tryz.Builder_String_empty (B b:Nat) (w:World) (h:Lib.IsBuilder 180 5 B b [] w) (hBw:B≤w.heap.size) :
    Calls Tryz.prog 120 #[.pointer (some ⟨b,0,none⟩)] w fun e w'=>e=.returned (.string ⟨#[]⟩)∧Below B w w':=Any.Builder_String_empty Tryz.rL Tryz.Nm B b w h hBw
def Tryz.Hv:Go.Shelf.Ren:=⟨fun | 176=>111 | 249=>153 | 288=>190 | 283=>216 | 284=>217 | 285=>218 | 286=>219 | 129=>241 | 317=>240 | 318=>242 | 319=>243 | 320=>244 | 337=>263 | 338=>264 | n=>n,fun | 37=>22 | 2=>2 | 3=>3 | 53=>273 | 4=>4 | 9=>9 | 171=>313 | 0=>0 | 173=>316 | 212=>340 | 51=>150 | 5=>5 | 20=>20 | 213=>341 | 46=>151 | 232=>377 | 233=>116 | n=>n,fun | 17=>6 | 18=>9 | 19=>10 | n=>n⟩
theorem Tryz.KD:Go.Proofs.LaysM.n176 Tryz.prog Tryz.Hv:={
 mixed:=by kernel_rfl
 f129:=Tryz.func241.trans (ZM some (by kernel_rfl))
 f176:=Tryz.func111.trans (ZM some (by kernel_rfl))
 f249:=Tryz.func153.trans (ZM some (by kernel_rfl))
 f283:=Tryz.func216.trans (ZM some (by kernel_rfl))
 f284:=Tryz.func217.trans (ZM some (by kernel_rfl))
 f285:=Tryz.func218.trans (ZM some (by kernel_rfl))
 f286:=Tryz.func219.trans (ZM some (by kernel_rfl))
 f288:=Tryz.func190.trans (ZM some (by kernel_rfl))
 f317:=Tryz.func240.trans (ZM some (by kernel_rfl))
 f318:=Tryz.func242.trans (ZM some (by kernel_rfl))
 f319:=Tryz.func243.trans (ZM some (by kernel_rfl))
 f320:=Tryz.func244.trans (ZM some (by kernel_rfl))
 f337:=Tryz.func263.trans (ZM some (by kernel_rfl))
 f338:=Tryz.func264.trans (ZM some (by kernel_rfl))
 t0:=Tryz.underlying0
 a0:=Tryz.isAgg0
 z0:=Tryz.sizeOf0
 v0:=Tryz.zeroValue0
 t2:=Tryz.underlying2
 a2:=Tryz.isAgg2
 z2:=Tryz.sizeOf2
 v2:=Tryz.zeroValue2
 t3:=Tryz.underlying3
 a3:=Tryz.isAgg3
 z3:=Tryz.sizeOf3
 v3:=Tryz.zeroValue3
 t4:=Tryz.underlying4
 a4:=Tryz.isAgg4
 z4:=Tryz.sizeOf4
 v4:=Tryz.zeroValue4
 t5:=Tryz.underlying5
 a5:=Tryz.isAgg5
 z5:=Tryz.sizeOf5
 v5:=Tryz.zeroValue5
 t9:=Tryz.underlying9
 a9:=Tryz.isAgg9
 z9:=Tryz.sizeOf9
 v9:=Tryz.zeroValue9
 t20:=Tryz.underlying20
 a20:=Tryz.isAgg20
 z20:=Tryz.sizeOf20
 v20:=Tryz.zeroValue20
 t37:=Tryz.underlying22
 a37:=Tryz.isAgg22
 z37:=Tryz.sizeOf22
 v37:=Tryz.zeroValue22
 t46:=Tryz.underlying151
 a46:=Tryz.isAgg151
 z46:=Tryz.sizeOf151
 v46:=Tryz.zeroValue151
 t51:=Tryz.underlying150
 a51:=Tryz.isAgg150
 z51:=Tryz.sizeOf150
 v51:=Tryz.zeroValue150
 t53:=Tryz.underlying273
 a53:=Tryz.isAgg273
 z53:=Tryz.sizeOf273
 v53:=Tryz.zeroValue273
 t171:=Tryz.underlying313
 a171:=Tryz.isAgg313
 z171:=Tryz.sizeOf313
 v171:=Tryz.zeroValue313
 t173:=Tryz.underlying316
 a173:=Tryz.isAgg316
 z173:=Tryz.sizeOf316
 v173:=Tryz.zeroValue316
 t212:=Tryz.underlying340
 a212:=Tryz.isAgg340
 z212:=Tryz.sizeOf340
 v212:=Tryz.zeroValue340
 t213:=Tryz.underlying341
 a213:=Tryz.isAgg341
 z213:=Tryz.sizeOf341
 t232:=Tryz.underlying377
 a232:=Tryz.isAgg377
 z232:=Tryz.sizeOf377
 v232:=Tryz.zeroValue377
 t233:=Tryz.underlying116
 a233:=Tryz.isAgg116
 z233:=Tryz.sizeOf116
 v233:=Tryz.zeroValue116
 g17:=by kernel_rfl
 g18:=by kernel_rfl
 g19:=by kernel_rfl
 i0:=by kernel_rfl
 i2:=by kernel_rfl
 i3:=by kernel_rfl
 i4:=by kernel_rfl
 i5:=by kernel_rfl
 i9:=by kernel_rfl
 i20:=by kernel_rfl
 i37:=by kernel_rfl
 i46:=by kernel_rfl
 i51:=by kernel_rfl
 i53:=by kernel_rfl
 i171:=by kernel_rfl
 i173:=by kernel_rfl
 i212:=by kernel_rfl
 i232:=by kernel_rfl
 i233:=by kernel_rfl
 m17:=by kernel_rfl
 m18:=by kernel_rfl
 m19:=by kernel_rfl }
def Tryz.JU:Go.Shelf.Ren:=⟨fun | 140=>13 | 117=>27 | 115=>68 | n=>n,fun | 37=>22 | 4=>4 | 3=>3 | 9=>9 | 5=>5 | n=>n,fun | n=>n⟩
theorem Tryz.zU:Go.Proofs.Lays.nb140 Tryz.prog Tryz.JU:={
 mixed:=by kernel_rfl
 f115:=Tryz.func68.trans (ZM some (by kernel_rfl))
 f117:=Tryz.func27.trans (ZM some (by kernel_rfl))
 f140:=Tryz.func13.trans (ZM some (by kernel_rfl))
 t3:=Tryz.underlying3
 a3:=Tryz.isAgg3
 z3:=Tryz.sizeOf3
 v3:=Tryz.zeroValue3
 t4:=Tryz.underlying4
 a4:=Tryz.isAgg4
 z4:=Tryz.sizeOf4
 v4:=Tryz.zeroValue4
 t9:=Tryz.underlying9
 a9:=Tryz.isAgg9
 z9:=Tryz.sizeOf9
 v9:=Tryz.zeroValue9
 t37:=Tryz.underlying22
 a37:=Tryz.isAgg22
 z37:=Tryz.sizeOf22
 v37:=Tryz.zeroValue22
 t5:=Tryz.underlying5
 a5:=Tryz.isAgg5
 z5:=Tryz.sizeOf5
 v5:=Tryz.zeroValue5 }
theorem Tryz.bytes_TrimSuffix (b1 o1 n c b2 o2 m d:Nat) (xs ys:List Int) (w:World) (hx:xs.length=n) (hy:ys.length=m) (hnc:n≤c) (hbig:n≤9223372036854775807) (hc1:∀i,i<n→w.cell? ⟨b1,o1+i,none⟩=some (.int .u8 (xs.getD i 0))) (hc2:∀i,i<m→w.cell? ⟨b2,o2+i,none⟩=some (.int .u8 (ys.getD i 0))) :
    Calls Tryz.prog 13 #[.slice (some ⟨b1,o1,none⟩) n c,.slice (some ⟨b2,o2,none⟩) m d] w fun e w'=>e=.returned (Lib.bytesTrimSuffix b1 o1 n c xs ys)∧w'=w:=Any.bytes_TrimSuffix Tryz.zU b1 o1 n c b2 o2 m d xs ys w hx hy hnc hbig hc1 hc2
def Tryz.Fw:Go.Shelf.Ren:=⟨fun | 187=>22 | 255=>54 | n=>n,fun | 37=>22 | 5=>5 | 3=>3 | n=>n,fun | n=>n⟩
theorem Tryz.rK:Go.Proofs.Lays.n187 Tryz.prog Tryz.Fw:={
 mixed:=by kernel_rfl
 f187:=Tryz.func22.trans (ZM some (by kernel_rfl))
 f255:=Tryz.func54.trans (ZM some (by kernel_rfl))
 t3:=Tryz.underlying3
 a3:=Tryz.isAgg3
 z3:=Tryz.sizeOf3
 v3:=Tryz.zeroValue3
 t5:=Tryz.underlying5
 a5:=Tryz.isAgg5
 z5:=Tryz.sizeOf5
 v5:=Tryz.zeroValue5
 t37:=Tryz.underlying22
 a37:=Tryz.isAgg22
 z37:=Tryz.sizeOf22
 v37:=Tryz.zeroValue22 }
theorem Tryz.bytes_IndexByte (b o n c:Nat) (xs:List Int) (cv:Int) (w:World) (hx:xs.length=n) (hc:∀i,i<n→w.cell? ⟨b,o+i,none⟩=some (.int .u8 (xs.getD i 0))) :
    Calls Tryz.prog 22 #[.slice (some ⟨b,o,none⟩) n c,.int .u8 cv] w fun e w'=>e=.returned (.int .i64 (Lib.indexByte (Lib.bytesOf xs) cv.toNat.toUInt8))∧w'=w:=Any.bytes_IndexByte Tryz.rK b o n c xs cv w hx hc
end
section
open Go.RowKit Go.Shelf
variable {a:Act} {ops:Array Oper} {em:Bool} {p s:ByteArray} {z:Int} {xs ys:List Int} {ns:List Nd} {rest:List Oper} {A L:List UInt8} {I b base c g j k lo:Nat} {m n:Nd} {o:Oper} {o':Option Nat} {u v:Value} {W w w' w1 w2:World}
section
variable {P:Program} {w:World} {ops:Array Oper} {rest:List Oper} {o:Oper} {a:Act} {Q:Exit→Act→World→Prop}
theorem Rr (hgd:o.guard=none) (sl x:Operand) (ho:o.op=.call { callee:=.builtin .append,args:=#[sl,x],argTypes:=#[22,9] }) (base:Nat) (v:Value) (xs:List Int) (s:ByteArray) (hs:a.eval sl=v) (hx:a.eval x=.string s) (h:Ul w base v xs) (hb:base≤w.heap.size) (hl:xs.length+s.size≤1048576)
    (hk:∀v' w',Ul w' base v' (xs++U0 s)→w.grownBy w' v.ownBlock→wpList Tryz.prog ops Q rest (a.put o.dst v') w'):wpList Tryz.prog ops Q (o :: rest) a w:=by
 refine TZ hgd fun K hK=>?_
 obtain ⟨v',w',hr,h2,h3⟩:=wt w s o.type h hb hl;unfold Oper.wp execOp
 simp only [ho,resolve,invoke,builtin,XX,Ww,XH,WL,Yl,WO,hs,hx,hr]
 exact hK _ _ (hk v' w' h2 h3)
theorem PU (hgd:o.guard=none) (sl x:Operand) (ho:o.op=.call { callee:=.builtin .append,args:=#[sl,x],argTypes:=#[22,22] }) (base:Nat) (v:Value) (xs ys:List Int) (ad:Addr) (n c:Nat) (hn:ys.length=n) (hs:a.eval sl=v) (hx:a.eval x=.slice (some ad) n c) (h:Ul w base v xs) (hb:base≤w.heap.size) (hl:xs.length+ys.length≤1048576) (hy:∀j u,(ys.map (Value.int .u8))[j]?=some u→w.cell? (ad.add j)=some u)
    (hk:∀v' w',Ul w' base v' (xs++ys)→w.grownBy w' v.ownBlock→wpList Tryz.prog ops Q rest (a.put o.dst v') w'):wpList Tryz.prog ops Q (o :: rest) a w:=by
 refine TZ hgd fun K hK=>?_
 subst hn;obtain ⟨v',w',hr,h2,h3⟩:=ws w ad c o.type h hb hl hy;unfold Oper.wp execOp
 simp only [ho,resolve,invoke,builtin,XX,Ww,XH,WL,Yl,WO,hs,hx,hr]
 exact hK _ _ (hk v' w' h2 h3)
end
theorem Ul.below (h:Ul w base v xs) (hb:Zi w w'):Ul w' base v xs:=by
 obtain ⟨g,cap,h1,h2,h3,h4,h5,h6,h7⟩:=h;refine ⟨g,cap,h1,h2,ZY h3 hb.size,h4,h5,fun j v hj=>(hb.cell (p:=⟨g,0+j,none⟩) h3).trans (h6 j v hj),fun j hj=>⟨?_,(hb.frozen (p:=⟨g,0+j,none⟩) h3).trans (h7 j hj).2⟩⟩;rw [hb.cell (p:=⟨g,0+j,none⟩) h3];exact (h7 j hj).1
theorem Ul.lt (h:Ul w base v xs):∀g,v.ownBlock=some g→base≤g:=by
 obtain ⟨g,cap,rfl,h2,h3,h4,h5,h6,h7⟩:=h;intro q hq
 simp only [Value.ownBlock,ZK] at hq
 omega
def QC (u:Nat):List Int:=(Lib.decDigits u).map fun b=>(b.toNat:Int)
theorem KC (u:Nat):(QC u).length=Lib.nDigits u:=by unfold QC;rw [Zl,Lib.decDigits_length]
theorem JT (w:World) (base:Nat) (v:Value) (xs:List Int) (u:Nat) (hu:u<100) (h:Ul w base v xs) (hb:base≤w.heap.size) (hl:xs.length≤1000000) :
    Calls Tryz.prog 190 #[v,.int .u64 u,.int .i64 10] w fun e w'=>∃v',e=.returned v'∧Ul w' base v' (xs++QC u)∧Below base w w':=by
 have hd:Lib.nDigits u≤2:=by
  rcases Sz u 10 with h10 | h10
  · rw [Lib.nDigits_small h10];omega
  rw [Lib.nDigits_big (by omega),Lib.nDigits_small (show u / 10<10 by omega)];omega
 have hsz:(⟨(Lib.decDigits u).toArray⟩:ByteArray).size≤2:=by
  show (Lib.decDigits u).toArray.size≤2;rw [ZI,Lib.decDigits_length];exact hd
 have es:U0 ⟨(Lib.decDigits u).toArray⟩=QC u:=by unfold U0 QC;simp
 have Z':(u:Int)<100:=by omega
 have HO:=ZU h;have HS:=ZU (Any.internal_strconv_small { Tryz.KD with } u hu w);clear h
 go_enter Tryz.func190,Tryz.ntmps190
 go_wp2_with fail
 refine HS.out.mono ?_;rintro e w' ⟨rfl,rfl⟩
 go_wp2_with (at_builtin;go_must (refine Rr rfl _ _ rfl base v xs ⟨(Lib.decDigits u).toArray⟩ rfl rfl HO.out hb (by omega) ?_))
 intro v2 w2 o2 g2;have O2:=ZU o2;have B2:=ZU ((Below.refl base w').grown g2 hb (HO.out.lt));clear o2 g2;go_wp2;go_ret;refine ⟨v2,rfl,?_,B2.out⟩;rw [←es];exact O2.out
theorem Fv (w : World) (base : Nat) (v : Value) (xs : List Int) (u : Nat) (hu : 100 ≤ u) (hu2 : u < 1000000) (h : Ul w base v xs) (hb : base ≤ w.heap.size) (hl : xs.length ≤ 1000000) (htab : Lib.TabIs Tryz.prog w "internal/strconv.uint64pow10" .u64 Lib.pow10Tab) :
    Calls Tryz.prog 190 #[v,.int .u64 u,.int .i64 10] w fun e w'=>∃v',e=.returned v'∧Ul w' base v' (xs++QC u)∧Below base w w':=by
 have hnd:Lib.nDigits u≤20:=by have:=Lib.numDigits_eq u (by omega) (by omega);split at this <;> omega
 have hH0:=Lib.holds_zero0 w 313 (Lib.nDigits u) (by omega);have hfmt:=Any.internal_strconv_formatBase10 { Tryz.KD with } w.heap.size 0 24 u (Array.replicate (Lib.nDigits u) 0) (w.alloc (.cells Lib.zeros24 313)) hH0 (by rw [Wz];exact Lib.lt_pow_nDigits u) (by omega) (by rw [Wz];omega);rw [Wz] at hfmt;have HF:=ZU hfmt;have HN:=ZU (Any.internal_strconv_numDigits { Tryz.KD with } u (by omega) (by omega) _ (Lib.tabIs_alloc htab (.cells Lib.zeros24 313)));have HO:=ZU h;have iu:(100:Int)≤(u:Int):=by omega
 have E:(Lib.nDigits u:Int)≤24:=by omega
 clear hfmt h
 go_enter Tryz.func190,Tryz.ntmps190
 go_wp2_with fail
 refine HN.out.mono ?_;rintro e w' ⟨rfl,rfl⟩;have C:Lib.nDigits u≤24:=by omega
 go_wp2_with fail
 refine HF.out.mono ?_;rintro e w' ⟨rfl,k,v',dk,rfl,hF⟩;have HC:Hid (∀j c,((QC u).map (Value.int .u8))[j]?=some c→((Sort.putRow (fun (b:UInt8)=>Value.int .u8 (b.toNat:Int)) (w.alloc (.cells Lib.zeros24 313)) w.heap.size 0 dk).drewN k).cell? ((⟨w.heap.size,0,none⟩:Addr).add j)=some c):=by
  intro j c hj;have hjl:j<(Lib.decDigits u).length:=by
   have h5:=(Zh.1 hj).1;rw [Zl] at h5;unfold QC at h5
   rwa [Zl] at h5
  have e5:((QC u).map (Value.int .u8))[j]?=some (Value.int .u8 ((Lib.decDigits u)[j].toNat:Int)):=by unfold QC;simp [hjl]
  rw [e5] at hj
  cases hj
  rw [Lib.row_is_numeral hF j hjl,YY,World.cell?_drewN];exact Sort.cell?_putRow (fun (b:UInt8)=>Value.int .u8 (b.toNat:Int)) _ w.heap.size 0 _ dk hH0 (by rw [hF.size,Wz]) j (by rw [hF.size];rw [Lib.decDigits_length] at hjl;exact hjl)
 obtain ⟨os,eo⟩:=Lib.fin_at w (.cells Lib.zeros24 313) dk k 0;have hb2:Zi w ((Sort.putRow (fun (b:UInt8)=>Value.int .u8 (b.toNat:Int)) (w.alloc (.cells Lib.zeros24 313)) w.heap.size 0 dk).drewN k):=by rw [eo];exact Lib.below_grow w.heap.size w YR k os
 have O2:=ZU (HO.out.below hb2);have B2:=ZU hb2;clear eo hF HF HN htab hH0 hb2;generalize (Sort.putRow (fun (b:UInt8)=>Value.int .u8 (b.toNat:Int)) (w.alloc _) w.heap.size 0 dk).drewN k=W2 at *;have s2:=B2.out.size
 go_wp2_with (at_builtin;go_must (refine PU rfl _ _ rfl base v xs (QC u) ⟨w.heap.size,0,none⟩ (Lib.nDigits u) 24 (KC u) rfl rfl O2.out (by omega) (by rw [KC];omega) HC.out ?_))
 intro v3 w3 o3 g3;have O3:=ZU o3;have B3:=ZU ((B2.out.mono hb).trans ((Below.refl base W2).grown g3 (by omega) O2.out.lt));clear o3 g3;go_wp2;go_ret;exact ⟨v3,rfl,O3.out,B3.out⟩
theorem Do (w : World) (base : Nat) (v : Value) (xs : List Int) (u : Nat) (hu2 : u < 1000000) (h : Ul w base v xs) (hb : base ≤ w.heap.size) (hl : xs.length ≤ 1000000) (htab : Lib.TabIs Tryz.prog w "internal/strconv.uint64pow10" .u64 Lib.pow10Tab) :
    Calls Tryz.prog 111 #[v,.int .i64 u,.int .i64 10] w fun e w'=>∃v',e=.returned v'∧Ul w' base v' (xs++QC u)∧Below base w w':=by
 have HU:Hid (Calls Tryz.prog 190 #[v,.int .u64 u,.int .i64 10] w fun e w'=>∃v',e=.returned v'∧Ul w' base v' (xs++QC u)∧Below base w w'):=by
  by_cases h1:u<100
  · exact JT w base v xs u h1 h hb hl
  exact Fv w base v xs u (by omega) hu2 h hb hl htab
 have HI:Hid (Calls Tryz.prog 153 #[v,.int .i64 u,.int .i64 10] w fun e w'=>∃v',e=.returned v'∧Ul w' base v' (xs++QC u)∧Below base w w'):=by
  clear h htab;show Calls _ _ _ _ _
  go_enter Tryz.func153,Tryz.ntmps153
  go_wp2_with fail
  refine HU.out.mono ?_;rintro e w' ⟨v',rfl,h9⟩;have H9:=ZU h9;clear h9;go_wp2;go_ret;exact ⟨v',rfl,H9.out⟩
 clear h htab HU
 go_enter Tryz.func111,Tryz.ntmps111
 go_wp2_with fail
 refine HI.out.mono ?_;rintro e w' ⟨v',rfl,h9⟩;have H9:=ZU h9;clear h9;go_wp2;go_ret;exact ⟨v',rfl,H9.out⟩
theorem kt (hs:s.data.toList=A++47 :: L) (hL:(47:UInt8) ∉ L) (j:Nat) (hj:A.length<j) (hj2:j<s.size):bN s j≠47:=by
 intro h;have hl:j<s.data.toList.length:=by rw [YJ];exact hj2
 unfold bN at h
 simp only [List.getD,ZF hl,Xf] at h
 have he:s.data.toList[j]=47:=Uj (by simpa using h);have hm:s.data.toList[j] ∈ L:=by
  refine UT (i:=j - A.length - 1) ?_;have h1:s.data.toList[j]?=some s.data.toList[j]:=ZF hl;rw [←h1]
  conv=>rhs;rw [hs]
  rw [Zv (by omega)]
  conv=>rhs;rw [show j - A.length=(j - A.length - 1)+1 by omega,Xr]
 rw [he] at hm;exact hL hm
theorem pU (hs:s.data.toList=A++47 :: L):bN s A.length=47∧A.length<s.size:=by
 have hz:s.data.toList.length=s.size:=by rw [YJ];rfl
 constructor
 · unfold bN
   rw [hs]
   simp [List.getD]
 rw [←hz,hs];simp
theorem Fu (w:World) (s:ByteArray) (A L:List UInt8) (hs:s.data.toList=A++47 :: L) (hL:(47:UInt8) ∉ L) (hz:s.size≤1048576) :
    Calls Tryz.prog 223 #[.string s,.int .u8 47] w fun e w'=>e=.returned (.int .i64 (A.length:Int))∧w'=w:=by
 have HS:Hid (s.data.toList=A++47 :: L):=hs;have HL:Hid ((47:UInt8) ∉ L):=hL;obtain ⟨h47,hlt⟩:=pU hs;clear hs hL
 go_enter Tryz.func223,Tryz.ntmps223
 go_wp2
 go_loop [5] (fun i=>∃j:Nat,A.length≤j∧j<s.size∧i=.int .i64 j) (fun i=>(intOf i).toNat)
 case atStart=>exact ⟨s.size - 1,by omega,by omega,by go_num⟩
 case round =>
  obtain ⟨j,hj,hj2,rfl⟩:=hrel;have ik:(0:Int)≤(j:Int):=by omega
  have hb:=xM s j hj2
  by_cases he:j=A.length
  · subst he
    have hx:s[A.length].toNat=47:=by rw [←hb];exact h47
    go_wp2;go_ret;exact ⟨rfl,rfl⟩
  have hx:s[j].toNat≠47:=by rw [←hb];exact kt HS.out HL.out j (by omega) hj2
  go_wp2;exact ⟨⟨j - 1,by omega,by omega,by go_num⟩,by simp [intOf];omega⟩
theorem Dn (w:World) (s:ByteArray) (A L:List UInt8) (hs:s.data.toList=A++47 :: L) (hL:(47:UInt8) ∉ L) (hz:s.size≤1048576) :
    Calls Tryz.prog 196 #[.string s,.int .u8 47] w fun e w'=>e=.returned (.int .i64 (A.length:Int))∧w'=w:=by
 have H:Hid (Calls Tryz.prog 223 #[.string s,.int .u8 47] w fun e w'=>e=.returned (.int .i64 (A.length:Int))∧w'=w):=Fu w s A L hs hL hz;clear hs hL
 go_enter Tryz.func196,Tryz.ntmps196
 go_wp2_with fail
 refine H.out.mono ?_;rintro e w1 ⟨rfl,rfl⟩;go_wp2;go_ret;exact ⟨rfl,rfl⟩
theorem Sq (w:World) (s:ByteArray) (h:Xi s=true) :
    Calls Tryz.prog 195 #[.string s] w fun e w'=>e=.returned (sV (Is s))∧w'=w:=by
 obtain ⟨h1,h0⟩:=Pz h;have hz:=PB h;have hs:=Og h1 h0;have hal:=(pU hs).2;have H:Hid (Calls Tryz.prog 196 #[.string s,.int .u8 47] w fun e w'=>e=.returned (.int .i64 ((Qo s).length:Int))∧w'=w):=Dn w s _ _ hs (It s) (by omega)
 by_cases hm:Qo s=[]
 · have lO:Hid (Value.string (s.extract 0 1)=sV (Is s)):=by
    show _=_;rw [RN];unfold sV yH Is;rw [Z0 hm,hs,hm]
    simp
   have V:(Qo s).length=0:=by rw [hm];rfl
   rw [V] at H;clear hs h h0 hm V hal
   go_enter Tryz.func195,Tryz.ntmps195
   go_wp2_with fail
   refine H.out.mono ?_;rintro e w1 ⟨rfl,rfl⟩;go_wp2;go_ret;exact ⟨ZM Ending.returned lO.out,rfl⟩
 have V:1≤(Qo s).length:=by
  cases hh:Qo s with
  | nil=>exact absurd hh hm
  | cons a l=>simp
 have lO:Hid (Value.string (s.extract 0 (Qo s).length)=sV (Is s)):=by
  show _=_;rw [RN];unfold sV yH Is;rw [Z1 hm,hs]
  simp
 clear hs h h0 hm;generalize (Qo s).length=m at *
 go_enter Tryz.func195,Tryz.ntmps195
 go_wp2_with fail
 refine H.out.mono ?_;rintro e w1 ⟨rfl,rfl⟩;go_wp2
 · go_ret
   exact ⟨ZM Ending.returned lO.out,rfl⟩
 have hm1:m=1:=by omega
 subst hm1;go_ret;exact ⟨ZM Ending.returned lO.out,rfl⟩
def GK (s p:ByteArray):Bool:=!(s.toList == [47]) && (Is s == p.toList)
theorem Ft (w:World) (s p:ByteArray) (h:Xi s=true) :
    Calls Tryz.prog 160 #[.string s,.string p] w fun e w'=>e=.returned (.bool (GK s p))∧w'=w:=by
 have H:Hid (Calls Tryz.prog 195 #[.string s] w fun e w'=>e=.returned (sV (Is s))∧w'=w):=Sq w s h;clear h;unfold GK
 cases hA:(s.toList == [47]) with
 | true =>
  go_enter Tryz.func160,Tryz.ntmps160
  go_wp2;go_ret;exact ⟨rfl,rfl⟩
 | false =>
  go_enter Tryz.func160,Tryz.ntmps160
  go_wp2_with fail
  refine H.out.mono ?_;rintro e w1 ⟨rfl,rfl⟩;unfold sV;go_wp2;go_ret;exact ⟨rfl,rfl⟩
def six:Nat→Nat→Nat→List UInt8
 | 0,_,_=>[]
 | f+1,v,d=>if v=0∧d=0 then [] else six f (v / 10) (d - 1)++[UInt8.ofNat (48+v % 10)]
theorem Bp:∀f v d,(six f v d).length≤f
 | 0,_,_=>YR
 | f+1,v,d=>by
  unfold six
  split
  · simp
  have:=Bp f (v / 10) (d - 1)
  simp;omega
def U9 (p:ByteArray) (n:Nd):Bool:=n.path.toList == p.toList
def LF (v:Int):Int:=if v=2147483647 then v else v+1
def toN (ns:List Nd) (p:ByteArray) (z:Int):List Nd :=
 if ns.findIdx (U9 p)<ns.length then LU ns { Ye ns (ns.findIdx (U9 p)) with XQ:=LF (Ye ns (ns.findIdx (U9 p))).XQ,pz:=z } else ns
structure TO where
 kind:Int
 path:ByteArray
 data:ByteArray
 XT:Int
 seq:Bool
def MV (o:TO):Value:=.agg #[.int .i64 o.kind,.string o.path,.string o.data,.int .i64 o.XT,.bool o.seq]
def OK (o:TO):Bool :=
 decide (1≤o.kind) && decide (o.kind≤4) && Xi o.path && decide (o.data.size≤64) && (decide (o.kind=1) || decide (o.kind=3) || decide (o.data.size=0)) &&
  (if o.kind=1 then decide (o.XT=0) && !(o.path.toList == [47]) else decide (-1≤o.XT) && decide (o.XT≤2147483647) && !o.seq && (!decide (o.kind=2) || !(o.path.toList == [47])))
def gN (ns:List Nd) (p:ByteArray):List Nd:=ns.filter fun n=>GK n.path p
theorem zS (h:Wl n=true):Xi n.path=true:=by
 unfold Wl at h
 simp only [ZA] at h
 exact h.1.1.1.1.1.1
def gM (w:World) (lo:Nat) (v:Value) (L:List (List UInt8)):Prop:=w.ownsRow lo 9 1 v L.length (L.map sV)
def UZ (s:ByteArray):ByteArray:=⟨(Is s).toArray⟩
def Uz (ns:List Nd) (o:TO):ByteArray:=if o.seq then ⟨(o.path.data.toList++six 12 (Ye ns (ns.findIdx (U9 (UZ o.path)))).XQ.toNat 6).toArray⟩ else o.path
def Rx (ns:List Nd) (o:TO) (z:Int):Int × List Nd × ByteArray :=
 if !OK o then (1,ns,⟨#[]⟩)
 else if o.kind=1 then
  if ¬ns.findIdx (U9 (UZ o.path))<ns.length then (2,ns,⟨#[]⟩)
  else if !Xi (Uz ns o) then (1,ns,⟨#[]⟩)
  else if ns.findIdx (U9 (Uz ns o))<ns.length then (3,ns,⟨#[]⟩)
  else if ns.length=1000 then (6,ns,⟨#[]⟩)
  else (0,toN (LU ns ⟨Uz ns o,o.data,0,0,z,z,z⟩) (UZ o.path) z,Uz ns o)
 else if ¬ns.findIdx (U9 o.path)<ns.length then (2,ns,⟨#[]⟩)
 else if o.XT≠-1∧o.XT≠(Ye ns (ns.findIdx (U9 o.path))).XT then (4,ns,⟨#[]⟩)
 else if o.kind=2 then
  if 0<(gN ns o.path).length then (5,ns,⟨#[]⟩) else (0,toN (Nu ns o.path) (UZ o.path) z,o.path)
 else if o.kind=3 then (0,LU ns { Ye ns (ns.findIdx (U9 o.path)) with data:=o.data,XT:=LF (Ye ns (ns.findIdx (U9 o.path))).XT,mz:=z },o.path)
 else (0,ns,o.path)
theorem rJ {a y:Nd} {st:List Nd × Bool} (h:y ∈ (GM n st a).1):y ∈ st.1∨y=n∨y=a:=by
 unfold GM at h;dsimp only at h;generalize (!st.2 && !(Op.bytesLess a.path.toList n.path.toList))=c1 at h;generalize (a.path.toList == n.path.toList)=c2 at h
 cases c1 <;> cases c2 <;> simp at h <;> grind
theorem nN (h:m ∈ LU ns n):m ∈ ns∨m=n:=by
 have key:∀(l:List Nd) (st:List Nd × Bool),(∀x ∈ st.1,x ∈ ns∨x=n)→(∀x ∈ l,x ∈ ns)→∀x ∈ (l.foldl (GM n) st).1,x ∈ ns∨x=n:=by
  intro l
  induction l with
  | nil=>intro st h1 _ x hx;exact h1 x hx
  | cons a l ih =>
   intro st h1 h2 x hx;refine ih (GM n st a) ?_ (fun y hy=>h2 y (Zp _ hy)) x hx;intro y hy
   rcases rJ hy with h3 | h3 | h3
   · exact h1 y h3
   · exact .inr h3
   exact .inl (h3 ▸ h2 a (YO ..))
 unfold LU qi at h
 split at h
 · exact key ns ([],false) (fun x hx=>by simp at hx) (fun x hx=>hx) m h
 rcases Y4.1 h with h | h
 · exact key ns ([],false) (fun x hx=>by simp at hx) (fun x hx=>hx) m h
 simp at h;exact .inr h
theorem nM (h:Asc ns) (p:ByteArray):Asc (Nu ns p):=VW List.filter_sublist h
theorem rI (p:ByteArray):Ty p p=false:=by
 cases h:Ty p p with
 | false=>rfl
 | true=>have:=K5 h;simp at this
theorem LE (n:Nd) (h:Asc ns):LU ns n=ns.take (Tx ns n.path)++n :: ns.drop (Tx ns n.path+Im ns n.path):=by
 have:=KX [] ns n (fun a ha=>by simp at ha) h
 simpa using this
theorem wm (h:Asc ns) (p:ByteArray):∀a ∈ ns.drop (Tx ns p+Im ns p),Ty p a.path=true∧(a.path.toList == p.toList)=false:=by
 intro a ha;rw [←Ij ns p h] at ha;obtain ⟨h1,h2⟩:=List.mem_filter.1 ha;have h3:(a.path.toList == p.toList)=false:=by simpa using h2
 exact ⟨Ji (Il ns p h a h1) h3,h3⟩
theorem nK (h:Asc ns) (n:Nd):Asc (LU ns n):=by
 rw [LE n h];unfold Asc;rw [List.pairwise_append,List.pairwise_cons];refine ⟨VW (List.take_sublist _ _) h,⟨fun a ha=>(wm h n.path a ha).1,VW (List.drop_sublist _ _) h⟩,?_⟩;intro a ha b hb;have h1:=KZ ns n.path a ha
 rcases Y9.1 hb with rfl | hb
 · exact h1
 exact R9 h1 (wm h n.path b hb).1
theorem rH (h:Asc ns) (n:Nd):(LU ns n).length=ns.length+1 - Im ns n.path:=by
 have:=xj ns n.path;rw [LE n h]
 simp only [ZZ,ZE,Zw,ZS]
 have:=Of ns n.path;omega
theorem Bn (h:Asc ns) (hf:∃a ∈ ns,(a.path.toList == p.toList)=true):Im ns p=1:=by
 obtain ⟨a,ha,he⟩:=hf;have h1:=xj ns p
 by_cases h0:Im ns p=0
 · exfalso
   rw [←YQ (Tx ns p) ns] at ha
   rcases Y4.1 ha with ha | ha
   · have:=K5 (KZ ns p a ha)
     rw [this] at he;cases he
   have:=(wm h p a (by rw [h0];exact ha)).2;rw [this] at he;cases he
 omega
theorem Qj (h:ns.findIdx (U9 p)<ns.length):Ye ns (ns.findIdx (U9 p)) ∈ ns∧((Ye ns (ns.findIdx (U9 p))).path.toList == p.toList)=true:=by
 rw [WF h];exact ⟨YP h,List.findIdx_getElem (w:=h)⟩
def Kz (ns:List Nd):Prop:=Asc ns∧(∀n ∈ ns,Wl n=true)∧ns.length≤1000
theorem P4 :WE ns=true↔Kz ns:=by
 constructor
 · intro h
   refine ⟨K0 h,?_,Oh h⟩;intro n hn;obtain ⟨i,hi,rfl⟩:=List.mem_iff_getElem.1 hn;have:=MN h i hi
   rwa [WF hi] at this
 rintro ⟨h1,h2,h3⟩;unfold WE;rw [Zm h3,Xz];refine Lh fun k hk=>?_
 cases k with
 | zero=>rw [Jp,WF hk];exact h2 _ (YP hk)
 | succ k =>
  rw [Pc,WF hk,WF (show k<ns.length by omega),h2 _ (YP hk),Xz];exact List.pairwise_iff_getElem.1 h1 k (k+1) (by omega) hk (by omega)
theorem Kz.wo (h:Kz ns) (p:ByteArray):Kz (Nu ns p) :=
 ⟨nM h.1 p,fun n hn=>h.2.1 n (List.mem_filter.1 hn).1,ZJ (List.length_filter_le ..) h.2.2⟩
theorem Kz.wi (h:Kz ns) (hn:Wl n=true) (hl:ns.length<1000∨∃a ∈ ns,(a.path.toList == n.path.toList)=true):Kz (LU ns n):=by
 refine ⟨nK h.1 n,fun m hm=>?_,?_⟩
 · rcases nN hm with h1 | rfl
   · exact h.2.1 m h1
   exact hn
 rw [rH h.1 n];have:=h.2.2
 rcases hl with hl | hl
 · omega
 rw [Bn h.1 hl];omega
theorem Bm {v:Int} (h:PP v=true):PP (LF v)=true:=by
 unfold PP LF at *
 simp only [ZA,Zj] at *
 split <;> omega
theorem Kz.touch (h:Kz ns) (p:ByteArray) (hz:PP z=true):Kz (toN ns p z):=by
 unfold toN
 split
 · rename_i hf
   obtain ⟨h1,h2⟩:=Qj hf;refine h.wi ?_ (.inr ⟨_,h1,by simp⟩);have h3:=h.2.1 _ h1;unfold Wl at h3 ⊢
   simp only [ZA] at h3 ⊢
   obtain ⟨⟨⟨⟨⟨⟨a1,a2⟩,a3⟩,a4⟩,a5⟩,a6⟩,a7⟩:=h3;exact ⟨⟨⟨⟨⟨⟨a1,a2⟩,a3⟩,Bm a4⟩,a5⟩,a6⟩,hz⟩
 exact h
theorem rG (h:Kz ns) (o:TO) (hz:PP z=true):Kz (Rx ns o z).2.1:=by
 unfold Rx
 split
 · exact h
 rename_i hw;have hw':OK o=true:=by simpa using hw
 have hd:o.data.size≤64:=by
  unfold OK at hw'
  simp only [ZA,Zj] at hw'
  exact hw'.1.1.2
 split
 · split
   · exact h
   split
   · exact h
   rename_i hp
   split
   · exact h
   split
   · exact h
   rename_i hl;refine Kz.touch (h.wi ?_ (.inl (by have:=h.2.2;omega))) _ hz;have hp':Xi (Uz ns o)=true:=by simpa using hp
   unfold Wl
   simp only [ZA,Zj]
   exact ⟨⟨⟨⟨⟨⟨hp',hd⟩,by decide⟩,by decide⟩,hz⟩,hz⟩,hz⟩
 split
 · exact h
 rename_i hf
 split
 · exact h
 split
 · split
   · exact h
   exact (h.wo _).touch _ hz
 split
 · obtain ⟨h1,h2⟩:=Qj (show ns.findIdx (U9 o.path)<ns.length by omega)
   refine h.wi ?_ (.inr ⟨_,h1,by simp⟩);have h3:=h.2.1 _ h1;unfold Wl at h3 ⊢
   simp only [ZA,Zj] at h3 ⊢
   obtain ⟨⟨⟨⟨⟨⟨a1,a2⟩,a3⟩,a4⟩,a5⟩,a6⟩,a7⟩:=h3;exact ⟨⟨⟨⟨⟨⟨a1,hd⟩,Bm a3⟩,a4⟩,a5⟩,hz⟩,a7⟩
 exact h
theorem Ma (w:World) (v:Int) (h:0≤v∧v≤2147483647) :
    Calls Tryz.prog 256 #[.int .i64 v] w fun e w'=>e=.returned (.int .i64 (LF v))∧w'=w:=by
 have hw:IntKind.i64.wrap (v+1)=v+1:=by rw [Zq];omega
 go_enter Tryz.func256,Tryz.ntmps256
 go_wp2
 · obtain rfl:v=2147483647:=by omega
   go_ret;exact ⟨rfl,rfl⟩
 go_ret;rw [show LF v=v+1 by unfold LF;rw [Z1 (by omega)]];exact ⟨rfl,rfl⟩
theorem Nl (hf:Nx ns p (Tx ns p)=true):ns.findIdx (U9 p)=Tx ns p∧Tx ns p<ns.length:=by
 unfold Nx at hf
 simp only [ZA,Zj] at hf
 obtain ⟨hl,he⟩:=hf;rw [BO] at he;refine ⟨?_,hl⟩;rw [List.findIdx_eq hl];refine ⟨by unfold U9;rw [←WF hl];exact he,fun j hj=>?_⟩;have hm:ns[j]'(by omega) ∈ ns.take (Tx ns p):=by
  rw [List.mem_take_iff_getElem];exact ⟨j,by omega,rfl⟩
 exact K5 (KZ ns p _ hm)
theorem Fs (h:Asc ns) (hf:Nx ns p (Tx ns p)=false):¬ns.findIdx (U9 p)<ns.length:=by
 intro hl;obtain ⟨h1,h2⟩:=Qj hl;have:=Bn h ⟨_,h1,h2⟩;unfold Im at this;rw [hf] at this
 simp at this
theorem Po (h:Asc ns) (hl:ns.findIdx (U9 p)<ns.length):Nx ns p (Tx ns p)=true∧Tx ns p=ns.findIdx (U9 p):=by
 cases hf:Nx ns p (Tx ns p) with
 | false=>exact absurd hl (Fs h hf)
 | true=>exact ⟨rfl,(Nl hf).1.symm⟩
theorem Fr (w:World) (v:Value) (ns:List Nd) (p:ByteArray) (h:SK w v ns) (hs:Kz ns) :
    Calls Tryz.prog 115 #[v,.string p] w (Wj w (.tuple #[.int .i64 (Tx ns p:Int),.bool (decide (ns.findIdx (U9 p)<ns.length))])):=by
 have h9:=P9 w v ns p (Tx ns p) h hs.2.2 (BM ns p hs.1);have e:Nx ns p (Tx ns p)=decide (ns.findIdx (U9 p)<ns.length):=by
  cases hf:Nx ns p (Tx ns p) with
  | false=>rw [Zo (Fs hs.1 hf)]
  | true=>rw [Zm];rw [(Nl hf).1];exact (Nl hf).2
 rw [e] at h9;exact h9
theorem Fq:∀(ns:List Nd) (k f:Nat) (u:Value) (m:Nd),k<ns.length→f<7→Uu m=(Uu (Ye ns k)).set f u→(YE ns).set (k*7+f) u=YE (ns.set k m)
 | [],k,f,u,m,h,_,_=>by simp at h
 | a :: ns,0,f,u,m,_,hf,hm=>by
  rw [Ut,List.set_cons_zero,Ut,List.set_append_left _ _ (by show 0*7+f<(Uu a).length;rw [show (Uu a).length=7 from rfl];omega),hm]
  simp [Ye]
 | a :: ns,k+1,f,u,m,h,hf,hm=>by
  rw [Ut,List.set_cons_succ,Ut,List.set_append_right _ _ (by show (Uu a).length≤_;rw [show (Uu a).length=7 from rfl];omega),show (k+1)*7+f - (Uu a).length=k*7+f by rw [show (Uu a).length=7 from rfl];omega,Fq ns k f u m (by simpa using h) hf (by rw [hm];simp [Ye])]
theorem XU.put (h:XU 147 w lo (.slice (some ⟨g,0,none⟩) ns.length c) ns) {f:Nat} (hk:k<ns.length) (hf:f<7) (hm:Uu m=(Uu (Ye ns k)).set f u) :
    XU 147 (w.setCell ⟨g,k*7+f,none⟩ u) lo (.slice (some ⟨g,0,none⟩) (ns.set k m).length c) (ns.set k m)∧w.grownBy (w.setCell ⟨g,k*7+f,none⟩ u) (some g):=by
 have h9:=World.ownsRow.stored h (k*7+f) u;rw [Fq ns k f u m hk hf hm] at h9;unfold XU;rw [Xt];exact h9
structure Df (W:World) (D lo:Nat) (z:Int) (v:Value) (ns:List Nd):Prop where
 s:St W D [v,.int .i64 z]
 o:XU 147 W lo v ns
 ne:v.ownBlock≠some D
 n:Kz ns
theorem Df.below {W':World} {D:Nat} (h:Df W D lo z v ns) (hb:Zi W W'):Df W' D lo z v ns:=⟨h.s.below hb,h.o.below hb,h.ne,h.n⟩
theorem XU.at {e:TypeId} (h:XU e w lo v ns) (hk:k<ns.length):∃g c,v=.slice (some ⟨g,0,none⟩) ns.length c∧lo≤g∧g<w.heap.size∧∀i,i<ns.length→Um w g (i*7) (Ye ns i):=by
 have hr:=h.rd
 rcases h.2 with ⟨rfl,h0⟩ | ⟨g,cap,cur,rfl,hb,hg,hn,hm,hs,ht⟩
 · omega
 refine ⟨g,cap,rfl,hb,(Z3.1 hg).1,fun i hi=>?_⟩;obtain ⟨ao,c9,e9,-,-,h3⟩:=hr
 simp only [ZC] at e9
 rcases h3 with h3 | ⟨b,off,e8,hlt,hc⟩
 · rw [h3] at hk;simp at hk
 rw [e8] at e9
 simp only [ZK,Ym] at e9
 obtain ⟨⟨rfl,rfl,-⟩,-⟩:=e9;have:=hc i hi
 rwa [Za] at this
def Sp (c:Int):Value:=.iface 240 (.agg #[.int .i64 c])
def SQ (ns:List Nd) (o:TO):Array Value :=
 if ¬ns.findIdx (U9 o.path)<ns.length then #[.int .i64 0,Sp 2]
 else if o.XT≠-1∧o.XT≠(Ye ns (ns.findIdx (U9 o.path))).XT then #[.int .i64 0,Sp 4]
 else #[.int .i64 (ns.findIdx (U9 o.path):Int),.nilIface]
theorem Ob (w:World) (D lo:Nat) (z:Int) (v:Value) (ns:List Nd) (o:TO) (h:Df w D lo z v ns) :
    Calls Tryz.prog 252 #[.pointer (some ⟨D,0,none⟩),.agg #[.int .i64 o.kind,.string o.path,.string o.data,.int .i64 o.XT,.bool o.seq]] w (Wj w (.tuple (SQ ns o))):=by
 obtain ⟨kind,path,data,XT,seq⟩:=o
 simp only at *
 have hlt:=h.s.lt;obtain ⟨FD,nJ⟩:∃b,b=decide (ns.findIdx (U9 path)<ns.length):=⟨_,rfl⟩;have HF:Hid (∀W,Zi w W→Calls Tryz.prog 115 #[v,.string path] W (Wj W (.tuple #[.int .i64 (Tx ns path:Int),.bool FD]))):=fun W hW=>by
  rw [nJ];exact Fr W v ns path (h.o.below hW).rd h.n
 have rF:=ZU nJ;clear nJ;have B0:Hid (Zi w (w.alloc (.cells #[.int .i64 kind,.string path,.string data,.int .i64 XT,.bool seq] 159))):=Yy.alloc YR _;have XO:Hid (St (w.alloc (.cells #[.int .i64 kind,.string path,.string data,.int .i64 XT,.bool seq] 159)) w.heap.size [.int .i64 kind,.string path,.string data,.int .i64 XT,.bool seq]):=St.new _ _ _;have XD:Hid (Df (w.alloc (.cells #[.int .i64 kind,.string path,.string data,.int .i64 XT,.bool seq] 159)) D lo z v ns):=h.below B0.out;clear h
 go_enter Tryz.func252,Tryz.ntmps252
 go_wp2_with fail
 generalize w.alloc _=w0 at *;refine ZX (S:=fun W=>W.cell? ⟨D,0,none⟩=some v∧W.cell? ⟨w.heap.size,1,none⟩=some (.string path)) (by kernel_rfl) ⟨(XD.out.below (below_drewN' w0 1)).s.cl 0 _ rfl,(XO.out.below (below_drewN' w0 1)).cl 1 _ rfl⟩ (fun Z9=>?_);have B1:Hid (Zi w w0.drew):=B0.out.trans ((below_drewN' w0 1).mono B0.out.size);have X1:Hid (St w0.drew w.heap.size [.int .i64 kind,.string path,.string data,.int .i64 XT,.bool seq]):=XO.out.below (below_drewN' w0 1);have D1:Hid (Df w0.drew D lo z v ns):=XD.out.below (below_drewN' w0 1);clear B0 XO XD;generalize w0.drew=w1 at *
 iterate 6 (refine Zf ?_ (by kernel_rfl) (fun _=>id) Z9 ?_ ?_;rotate_left;· intro w9 ZQ;obtain ⟨k0,k1⟩:=ZQ;go_simp;try with_reducible rfl)
 refine YS 6 rfl (by kernel_rfl) (fun K hK=>?_);go_simp;refine (HF.out _ B1.out).mono ?_;rintro e w2 ⟨rfl,b2⟩;have B2:=ZU (WD B1.out b2);have X2:=ZU (X1.out.below b2);have D2:=ZU (D1.out.below b2);clear Z9 b2 B1 X1 D1;refine hK.out _ _ ⟨D2.out.s.cl 0 _ rfl,X2.out.cl 1 _ rfl⟩ (fun Z9=>?_);clear hK K
 iterate 5 (refine Zf ?_ (by kernel_rfl) (fun _=>id) Z9 ?_ ?_;rotate_left;· intro w9 ZQ;clear ZQ;go_simp;try with_reducible rfl)
 refine ZR (by kernel_rfl) ?_ _
 simp only [Act.put,WV,WU,WT]
 clear Z9 HF
 cases FD with
 | true =>
  have hf:ns.findIdx (U9 path)<ns.length:=Wm rF.out.symm;have hpl:=(Po D2.out.n.1 hf).2;rw [hpl];clear hpl rF;obtain ⟨I,hI⟩:∃I,I=ns.findIdx (U9 path):=⟨_,rfl⟩;rw [←hI] at hf ⊢;have hL:(I:Int)<(ns.length:Int):=by omega
  obtain ⟨g,gc,hv,hlo,hgl,hce⟩:=D2.out.o.at hf;subst hv;have HI:=ZU hI;have kr:=ZU hce;clear hI hce;have hg0:(0:Int)≤(I:Int):=by omega
  have Y:Hid (SQ ns ⟨kind,path,data,XT,seq⟩=(if XT≠-1∧XT≠(Ye ns I).XT then #[.int .i64 0,Sp 4] else #[.int .i64 (I:Int),.nilIface])):=by
   show _=_;unfold SQ
   simp only
   rw [Z1 (by rw [←HI.out];omega),←HI.out]
  clear HI
  go_wp2_with fail
  have X3:Hid (St w2.drew w.heap.size [.int .i64 kind,.string path,.string data,.int .i64 XT,.bool seq]):=X2.out.below (below_drewN' w2 1);have D3:Hid (Df w2.drew D lo z (.slice (some ⟨g,0,none⟩) ns.length gc) ns):=D2.out.below (below_drewN' w2 1);have B3:Hid (Zi w w2.drew):=B2.out.trans ((below_drewN' w2 1).mono B2.out.size);refine ZX (S:=fun W=>W.cell? ⟨w.heap.size,3,none⟩=some (.int .i64 XT)∧W.cell? ⟨D,0,none⟩=some (.slice (some ⟨g,0,none⟩) ns.length gc)∧W.cell? ⟨g,I*7+2,none⟩=some (.int .i64 (Ye ns I).XT)) (by kernel_rfl) ⟨X3.out.cl 3 _ rfl,D3.out.s.cl 0 _ rfl,((kr.out I hf).below (below_drewN' w2 1) hgl).all.2.2.1⟩ (fun Z9=>?_);generalize w2.drew=w3 at *
  by_cases hv1:XT=-1
  · subst hv1
    iterate 4 (refine Zf ?_ (by kernel_rfl) (fun _=>id) Z9 ?_ ?_;rotate_left;· intro w9 ZQ;obtain ⟨k0,k1,k2⟩:=ZQ;go_simp;try with_reducible rfl)
    iterate 11 (refine J7 (by kernel_rfl) (fun _=>id) Z9 ?_)
    iterate 1 (refine Zf ?_ (by kernel_rfl) (fun _=>id) Z9 ?_ ?_;rotate_left;· intro w9 ZQ;clear ZQ;go_simp;try with_reducible rfl)
    refine ZR (by kernel_rfl) ?_ _
    simp only [Act.put,WV,WU,WT]
    clear Z9;have HV:Hid (SQ ns ⟨kind,path,data,-1,seq⟩=#[.int .i64 (I:Int),.nilIface]):=by show _=_;rw [Y.out];simp
    go_wp2_with fail
    rw [HV.out];exact ZW (v:=.tuple #[.int .i64 (I:Int),.nilIface]) (by simp [results,Tryz.results252,go_sem]) rfl ⟨rfl,B3.out⟩
  have hne:(XT != -1)=true:=by simp [hv1]
  by_cases hv2:XT=(Ye ns I).XT
  · have hn2:(XT != (Ye ns I).XT)=false:=by simp [hv2]
    have HV:Hid (SQ ns ⟨kind,path,data,XT,seq⟩=#[.int .i64 (I:Int),.nilIface]):=by show _=_;rw [Y.out,Z1 (by simp [hv2])]
    clear Y
    iterate 2 (refine Zf ?_ (by kernel_rfl) (fun _=>id) Z9 ?_ ?_;rotate_left;· intro w9 ZQ;obtain ⟨k0,k1,k2⟩:=ZQ;go_simp;try with_reducible rfl)
    refine Zf (.bool true) (by kernel_rfl) (fun _=>id) Z9 ?_ ?_
    · intro w9 ZQ;clear ZQ;go_simp;try (first | exact hv1 | simp_all)
    iterate 11 (refine Zf ?_ (by kernel_rfl) (fun _=>id) Z9 ?_ ?_;rotate_left;· intro w9 ZQ;obtain ⟨k0,k1,k2⟩:=ZQ;go_simp;try with_reducible rfl)
    refine Zf (.bool false) (by kernel_rfl) (fun _=>id) Z9 ?_ ?_
    · intro w9 ZQ;clear ZQ;go_simp;try (first | exact hv1 | simp_all)
    iterate 1 (refine Zf ?_ (by kernel_rfl) (fun _=>id) Z9 ?_ ?_;rotate_left;· intro w9 ZQ;clear ZQ;go_simp;try with_reducible rfl)
    refine ZR (by kernel_rfl) ?_ _
    simp only [Act.put,WV,WU,WT]
    clear Z9 hv1 hne hn2
    go_wp2_with fail
    rw [HV.out];exact ZW (v:=.tuple #[.int .i64 (I:Int),.nilIface]) (by simp [results,Tryz.results252,go_sem,Sp]) rfl ⟨rfl,B3.out⟩
  have hn2:(XT != (Ye ns I).XT)=true:=by simp [hv2]
  have HV:Hid (SQ ns ⟨kind,path,data,XT,seq⟩=#[.int .i64 0,Sp 4]):=by show _=_;rw [Y.out,Z0 ⟨hv1,hv2⟩]
  clear Y
  iterate 2 (refine Zf ?_ (by kernel_rfl) (fun _=>id) Z9 ?_ ?_;rotate_left;· intro w9 ZQ;obtain ⟨k0,k1,k2⟩:=ZQ;go_simp;try with_reducible rfl)
  refine Zf (.bool true) (by kernel_rfl) (fun _=>id) Z9 ?_ ?_
  · intro w9 ZQ;clear ZQ;go_simp;try (first | exact hv1 | simp_all)
  iterate 11 (refine Zf ?_ (by kernel_rfl) (fun _=>id) Z9 ?_ ?_;rotate_left;· intro w9 ZQ;obtain ⟨k0,k1,k2⟩:=ZQ;go_simp;try with_reducible rfl)
  refine Zf (.bool true) (by kernel_rfl) (fun _=>id) Z9 ?_ ?_
  · intro w9 ZQ;clear ZQ;go_simp;try (first | exact hv1 | simp_all)
  iterate 1 (refine Zf ?_ (by kernel_rfl) (fun _=>id) Z9 ?_ ?_;rotate_left;· intro w9 ZQ;clear ZQ;go_simp;try with_reducible rfl)
  refine ZR (by kernel_rfl) ?_ _
  simp only [Act.put,WV,WU,WT]
  clear Z9 hv1 hne hn2
  go_wp2_with fail
  rw [HV.out];exact ZW (v:=.tuple #[.int .i64 0,Sp 4]) (by simp [results,Tryz.results252,go_sem,Sp]) rfl ⟨rfl,B3.out⟩
 | false =>
  have hf:¬ns.findIdx (U9 path)<ns.length:=of_decide_eq_false rF.out.symm;have HV:Hid (SQ ns ⟨kind,path,data,XT,seq⟩=#[.int .i64 0,Sp 2]):=by show _=_;unfold SQ;rw [Z0 hf]
  clear hf rF
  go_wp2_with fail
  rw [HV.out];exact ZW (v:=.tuple #[.int .i64 0,Sp 2]) (by simp [results,Tryz.results252,go_sem,Sp]) rfl ⟨rfl,B2.out⟩
def Dm (ns:List Nd) (o:TO):Array Value :=
 if ¬ns.findIdx (U9 o.path)<ns.length then #[.string ByteArray.empty,Sp 2]
 else if o.XT≠-1∧o.XT≠(Ye ns (ns.findIdx (U9 o.path))).XT then #[.string ByteArray.empty,Sp 4]
 else #[.string o.path,.nilIface]
theorem zR (w:World) (D lo:Nat) (z:Int) (v:Value) (ns:List Nd) (o:TO) (h:Df w D lo z v ns) :
    Calls Tryz.prog 232 #[.pointer (some ⟨D,0,none⟩),.agg #[.int .i64 o.kind,.string o.path,.string o.data,.int .i64 o.XT,.bool o.seq]] w (Wj w (.tuple (Dm ns o))):=by
 have B0:Hid (Zi w (w.alloc (.cells #[.int .i64 o.kind,.string o.path,.string o.data,.int .i64 o.XT,.bool o.seq] 159))):=Yy.alloc YR _;have XO:Hid (St (w.alloc (.cells #[.int .i64 o.kind,.string o.path,.string o.data,.int .i64 o.XT,.bool o.seq] 159)) w.heap.size [.int .i64 o.kind,.string o.path,.string o.data,.int .i64 o.XT,.bool o.seq]):=St.new _ _ _;have HW:Hid (∀W,Zi w W→Calls Tryz.prog 252 #[.pointer (some ⟨D,0,none⟩),.agg #[.int .i64 o.kind,.string o.path,.string o.data,.int .i64 o.XT,.bool o.seq]] W (Wj W (.tuple (SQ ns o)))):=fun W hW=>Ob W D lo z v ns o (h.below hW)
 have HV:Hid ((SQ ns o=#[.int .i64 0,Sp 2]∧Dm ns o=#[.string ByteArray.empty,Sp 2])∨(SQ ns o=#[.int .i64 0,Sp 4]∧Dm ns o=#[.string ByteArray.empty,Sp 4])∨∃I:Nat,SQ ns o=#[.int .i64 (I:Int),.nilIface]∧Dm ns o=#[.string o.path,.nilIface]):=by
  unfold SQ Dm
  split
  · exact .inl ⟨rfl,rfl⟩
  split
  · exact .inr (.inl ⟨rfl,rfl⟩)
  exact .inr (.inr ⟨_,rfl,rfl⟩)
 clear h
 go_enter Tryz.func232,Tryz.ntmps232
 go_wp2_with fail
 refine (HW.out _ B0.out).mono ?_;rintro e w1 ⟨rfl,b1⟩;have B1:=ZU (WD B0.out b1);have c1:=(XO.out.below b1).cl 1 _ rfl;clear b1 B0 XO HW
 rcases HV.out with ⟨e1,e2⟩ | ⟨e1,e2⟩ | ⟨I,e1,e2⟩
 · have HE:=ZU e2
   rw [e1];clear e1 e2 HV;unfold Sp
   go_wp2_with fail
   rw [HE.out];exact ZW (v:=.tuple #[.string ByteArray.empty,Sp 2]) (by simp [results,Tryz.results232,go_sem,Sp];try rfl) rfl ⟨rfl,B1.out⟩
 · have HE:=ZU e2
   rw [e1];clear e1 e2 HV;unfold Sp
   go_wp2_with fail
   rw [HE.out];exact ZW (v:=.tuple #[.string ByteArray.empty,Sp 4]) (by simp [results,Tryz.results232,go_sem,Sp];try rfl) rfl ⟨rfl,B1.out⟩
 have HE:=ZU e2;rw [e1];clear e1 e2 HV
 go_wp2_with fail
 rw [HE.out];exact ZW (v:=.tuple #[.string o.path,.nilIface]) (by simp [results,Tryz.results232,go_sem]) rfl ⟨rfl,B1.out⟩
theorem wl {q:ByteArray} (h:(q.toList == p.toList)=true):U9 q=U9 p:=by
 funext n
 unfold U9;rw [eq_of_beq h]
theorem wk (h:Asc ns) (hl:ns.findIdx (U9 n.path)<ns.length):LU ns n=ns.set (ns.findIdx (U9 n.path)) n:=by
 obtain ⟨h1,h2⟩:=Po h hl;rw [LE n h,VI,Z0 hl];unfold Im;rw [h1,Z0 rfl,h2]
theorem nI (h:Asc ns) (hl:ns.findIdx (U9 p)<ns.length):toN ns p z=ns.set (ns.findIdx (U9 p)) { Ye ns (ns.findIdx (U9 p)) with XQ:=LF (Ye ns (ns.findIdx (U9 p))).XQ,pz:=z }:=by
 have hp:=wl (Qj hl).2;unfold toN;rw [Z0 hl,wk h (by show ns.findIdx (U9 (Ye ns (ns.findIdx (U9 p))).path)<_;rw [hp];exact hl)];show ns.set (ns.findIdx (U9 (Ye ns (ns.findIdx (U9 p))).path)) _=_;rw [hp]
theorem rE (hl:¬ns.findIdx (U9 p)<ns.length):toN ns p z=ns:=by unfold toN;rw [Z1 hl]
theorem Dl (w:World) (D lo:Nat) (z:Int) (v:Value) (ns:List Nd) (s:ByteArray) (h:Df w D lo z v ns) (hs:Xi s=true) (hl:¬ns.findIdx (U9 (UZ s))<ns.length) :
    Calls Tryz.prog 251 #[.pointer (some ⟨D,0,none⟩),.string s] w (Wj w (.tuple #[])):=by
 have hlt:=h.s.lt;have HP:Hid (∀W,Calls Tryz.prog 195 #[.string s] W fun e w'=>e=.returned (.string (UZ s))∧w'=W):=fun W=>Sq W s hs
 have HF:Hid (∀W,Zi w W→Calls Tryz.prog 115 #[v,.string (UZ s)] W (Wj W (.tuple #[.int .i64 (Tx ns (UZ s):Int),.bool false]))):=fun W hW=>by
  have h9:=Fr W v ns (UZ s) (h.o.below hW).rd h.n;rw [Zo hl] at h9;exact h9
 have D1:Hid (Df w.drew D lo z v ns):=h.below (below_drewN' w 1);have B1:Hid (Zi w w.drew):=below_drewN' w 1;clear h hs hl;generalize UZ s=p at *
 go_enter Tryz.func251,Tryz.ntmps251
 go_wp2_with fail
 refine ZX (S:=fun W=>W.cell? ⟨D,0,none⟩=some v) (by kernel_rfl) (D1.out.s.cl 0 _ rfl) (fun Z9=>?_);generalize w.drew=w1 at *
 iterate 5 (refine Zf ?_ (by kernel_rfl) (fun _=>id) Z9 ?_ ?_;rotate_left;· intro w9 ZQ;go_simp;try with_reducible rfl)
 refine YS 5 rfl (by kernel_rfl) (fun K hK=>?_);go_simp;refine (HP.out _).mono ?_;rintro e w2 ⟨rfl,rfl⟩;clear Z9;refine hK.out _ _ (D1.out.s.cl 0 _ rfl) (fun Z9=>?_);clear hK K;refine YS 6 rfl (by kernel_rfl) (fun K hK=>?_);go_simp;refine (HF.out _ B1.out).mono ?_;rintro e w2 ⟨rfl,b2⟩;have B2:=ZU (WD B1.out b2);have D2:=ZU (D1.out.below b2);clear Z9 b2;refine hK.out _ _ (D2.out.s.cl 0 _ rfl) (fun Z9=>?_);clear hK K
 iterate 5 (refine Zf ?_ (by kernel_rfl) (fun _=>id) Z9 ?_ ?_;rotate_left;· intro w9 ZQ;clear ZQ;go_simp;try with_reducible rfl)
 refine ZR (by kernel_rfl) ?_ _
 simp only [Act.put,WV,WU,WT]
 clear Z9 HF HP
 go_wp2_with fail
 exact ZW (v:=.tuple #[]) (by simp [results,Tryz.results251,go_sem]) rfl ⟨rfl,B2.out⟩
theorem Tw.setRow {x:Value} (h:Tw w b (some g) w' o'):Tw w b (some g) (w'.setCell ⟨g,j,none⟩ x) o':=by
 refine ⟨h.os,h.tape,h.output,by simpa using h.size,fun q hq hb ho=>?_,h.own⟩;rw [Below.heap_setCell w' ⟨g,j,none⟩ x q (fun e=>ho (by rw [e]))];exact h.block q hq hb ho
theorem Hu (h:k<ns.length):Ye (ns.set k m) k=m:=by
 rw [WF (by rw [Xt];exact h)]
 simp
def Ht (w:World) (D lo:Nat) (z:Int) (v:Value) (ns:List Nd) (p:ByteArray) (e:Ending) (w':World):Prop :=
 e=.returned (.tuple #[])∧Df w' D lo z v (toN ns p z)∧Tw w D v.ownBlock w' v.ownBlock
theorem Dk (w:World) (D lo:Nat) (z:Int) (v:Value) (ns:List Nd) (s:ByteArray) (h:Df w D lo z v ns) (hs:Xi s=true) (hz:PP z=true) (hl:ns.findIdx (U9 (UZ s))<ns.length) :
    Calls Tryz.prog 251 #[.pointer (some ⟨D,0,none⟩),.string s] w (Ht w D lo z v ns (UZ s)):=by
 have hlt:=h.s.lt;have HP:Hid (∀W,Calls Tryz.prog 195 #[.string s] W fun e w'=>e=.returned (.string (UZ s))∧w'=W):=fun W=>Sq W s hs
 have HF:Hid (∀W,Zi w W→Calls Tryz.prog 115 #[v,.string (UZ s)] W (Wj W (.tuple #[.int .i64 (ns.findIdx (U9 (UZ s)):Int),.bool true]))):=fun W hW=>by
  have h9:=Fr W v ns (UZ s) (h.o.below hW).rd h.n;rw [Zm hl,(Po h.n.1 hl).2] at h9;exact h9
 have D1:Hid (Df w.drew D lo z v ns):=h.below (below_drewN' w 1);have B1:Hid (Zi w w.drew):=below_drewN' w 1;have J:=ZU (nI (z:=z) h.n.1 hl);have HZ:=ZU hz;clear h hs hz;generalize UZ s=p at *;obtain ⟨I,hI⟩:∃I,I=ns.findIdx (U9 p):=⟨_,rfl⟩;rw [←hI] at HF hl J;clear hI;have hL:(I:Int)<(ns.length:Int):=by omega
 have hg0:(0:Int)≤(I:Int):=by omega
 go_enter Tryz.func251,Tryz.ntmps251
 go_wp2_with fail
 refine ZX (S:=fun W=>W.cell? ⟨D,0,none⟩=some v) (by kernel_rfl) (D1.out.s.cl 0 _ rfl) (fun Z9=>?_);generalize w.drew=w1 at *
 iterate 5 (refine Zf ?_ (by kernel_rfl) (fun _=>id) Z9 ?_ ?_;rotate_left;· intro w9 ZQ;go_simp;try with_reducible rfl)
 refine YS 5 rfl (by kernel_rfl) (fun K hK=>?_);go_simp;refine (HP.out _).mono ?_;rintro e w2 ⟨rfl,rfl⟩;clear Z9;refine hK.out _ _ (D1.out.s.cl 0 _ rfl) (fun Z9=>?_);clear hK K;refine YS 6 rfl (by kernel_rfl) (fun K hK=>?_);go_simp;refine (HF.out _ B1.out).mono ?_;rintro e w2 ⟨rfl,b2⟩;have B2:=ZU (WD B1.out b2);have D2:=ZU (D1.out.below b2);clear Z9 b2;refine hK.out _ _ (D2.out.s.cl 0 _ rfl) (fun Z9=>?_);clear hK K
 iterate 5 (refine Zf ?_ (by kernel_rfl) (fun _=>id) Z9 ?_ ?_;rotate_left;· intro w9 ZQ;clear ZQ;go_simp;try with_reducible rfl)
 refine ZR (by kernel_rfl) ?_ _
 simp only [Act.put,WV,WU,WT]
 clear Z9 HF HP;obtain ⟨g,gc,hv,hlo,hgl,hce⟩:=D2.out.o.at hl;subst hv;have c0:=D2.out.s.cl 0 _ rfl;have c1:=D2.out.s.cl 1 _ rfl;have k3:=(hce I hl).all.2.2.2.1;have k6:=(hce I hl).all.2.2.2.2.2.2;have f3:w2.frozen? ⟨g,I*7+3,none⟩=false:=Xm D2.out.o _;have f6:w2.frozen? ⟨g,I*7+6,none⟩=false:=Xm D2.out.o _;have Dj:g≠D:=fun e=>D2.out.ne (by rw [e];rfl)
 have hcv:0≤(Ye ns I).XQ∧(Ye ns I).XQ≤2147483647:=by
  have:=D2.out.n.2.1 (Ye ns I) (by rw [WF hl];exact YP hl);have:=TX this;omega
 have U:Hid (∀W,Calls Tryz.prog 256 #[.int .i64 (Ye ns I).XQ] W fun e w'=>e=.returned (.int .i64 (LF (Ye ns I).XQ))∧w'=W):=fun W=>Ma W _ hcv
 clear hce hcv
 go_wp2_with (go_at_call 256;refine (U.out _).mono ?_;rintro e w' ⟨rfl,rfl⟩)
 have p1:=(D2.out.o.put (k:=I) (f:=3) (u:=.int .i64 (LF (Ye ns I).XQ)) (m:={ Ye ns I with XQ:=LF (Ye ns I).XQ }) hl (by omega) rfl).1;have p2:=(p1.put (k:=I) (f:=6) (u:=.int .i64 z) (m:={ Ye ns I with XQ:=LF (Ye ns I).XQ,pz:=z }) (by rw [Xt];exact hl) (by omega) (by rw [Hu hl];rfl)).1;rw [Q8] at p2
 simp only [Xt] at p2
 have T2:=((Tw.YZ B2.out D (some g)).setRow (j:=I*7+3) (x:=.int .i64 (LF (Ye ns I).XQ))).setRow (j:=I*7+6) (x:=.int .i64 z);have S2:=(D2.out.s.other (c:=g) (j:=I*7+3) (x:=.int .i64 (LF (Ye ns I).XQ)) Dj.symm).other (c:=g) (j:=I*7+6) (x:=.int .i64 z) Dj.symm;refine ZW (v:=.tuple #[]) (by simp [results,Tryz.results251,go_sem]) rfl ⟨rfl,⟨S2,?_,D2.out.ne,D2.out.n.touch p HZ.out⟩,T2⟩;rw [J.out];exact p2
def JV (d:Int × List Nd × ByteArray):Array Value:=if d.1=0 then #[.string d.2.2,.nilIface] else #[.string ByteArray.empty,Sp d.1]
def JP (w:World) (D lo:Nat) (z:Int) (v:Value) (d:Int × List Nd × ByteArray) (e:Ending) (w':World):Prop :=
 ∃v',e=.returned (.tuple (JV d))∧Df w' D lo z v' d.2.1∧Tw w D v.ownBlock w' v'.ownBlock
theorem nH {o:TO} (hw:OK o=true) (hk:o.kind=4):JV (Rx ns o z)=Dm ns o∧(Rx ns o z).2.1=ns:=by
 have e:Rx ns o z=if ¬ns.findIdx (U9 o.path)<ns.length then (2,ns,⟨#[]⟩) else if o.XT≠-1∧o.XT≠(Ye ns (ns.findIdx (U9 o.path))).XT then (4,ns,⟨#[]⟩) else (0,ns,o.path):=by
  unfold Rx;rw [hw,Z1 (show ¬(!true)=true by decide),Z1 (show ¬o.kind=1 by omega),Z1 (show ¬o.kind=2 by omega),Z1 (show ¬o.kind=3 by omega)]
 rw [e];unfold Dm
 split
 · exact ⟨rfl,rfl⟩
 split
 · exact ⟨rfl,rfl⟩
 exact ⟨rfl,rfl⟩
theorem Fp (w:World) (D lo:Nat) (z:Int) (v:Value) (ns:List Nd) (o:TO) (h:Df w D lo z v ns) (hw:OK o=true) (hk:o.kind=4) :
    Calls Tryz.prog 232 #[.pointer (some ⟨D,0,none⟩),.agg #[.int .i64 o.kind,.string o.path,.string o.data,.int .i64 o.XT,.bool o.seq]] w (JP w D lo z v (Rx ns o z)):=by
 refine (zR w D lo z v ns o h).mono ?_;rintro e w' ⟨rfl,b⟩;obtain ⟨e1,e2⟩:=nH (z:=z) hw hk (ns:=ns);exact ⟨v,by rw [e1],by rw [e2];exact h.below b,Tw.YZ b _ _⟩
theorem nE (h:Asc ns) (hl:ns.findIdx (U9 p)<ns.length) (d:ByteArray) (u z:Int):LU ns { Ye ns (ns.findIdx (U9 p)) with data:=d,XT:=u,mz:=z }=ns.set (ns.findIdx (U9 p)) { Ye ns (ns.findIdx (U9 p)) with data:=d,XT:=u,mz:=z }:=by
 have hp:=wl (Qj hl).2;rw [wk h (by show ns.findIdx (U9 (Ye ns (ns.findIdx (U9 p))).path)<_;rw [hp];exact hl)];show ns.set (ns.findIdx (U9 (Ye ns (ns.findIdx (U9 p))).path)) _=_;rw [hp]
theorem Bj {o:TO} (hw:OK o=true) (hk:o.kind=3∨o.kind=2) {c:Int} (hc:c≠0) (hv:SQ ns o=#[.int .i64 0,Sp c]):Rx ns o z=(c,ns,⟨#[]⟩):=by
 unfold SQ at hv;unfold Rx;rw [hw,Z1 (by simp),Z1 (by omega)]
 split at hv
 · rename_i h1
   rw [Z0 h1]
   simp [Sp] at hv
   rw [hv]
 rename_i h1;rw [Z1 h1]
 split at hv
 · rename_i h2
   rw [Z0 h2]
   simp [Sp] at hv
   rw [hv]
 simp [Sp] at hv
theorem wj {o:TO} (hw:OK o=true) (hk:o.kind=3) (hs:Asc ns) (hv:SQ ns o=#[.int .i64 (I:Int),.nilIface]):I<ns.length∧Rx ns o z=(0,ns.set I { Ye ns I with data:=o.data,XT:=LF (Ye ns I).XT,mz:=z },o.path):=by
 unfold SQ at hv;unfold Rx;rw [hw,Z1 (by simp),Z1 (by omega)]
 split at hv
 · simp [Sp] at hv
 rename_i h1;rw [Z1 h1]
 split at hv
 · simp [Sp] at hv
 rename_i h2;rw [Z1 h2,Z1 (by omega),Z0 hk];have hI:ns.findIdx (U9 o.path)=I:=by simp at hv;omega
 have hl:ns.findIdx (U9 o.path)<ns.length:=by omega
 rw [nE hs hl,hI];exact ⟨by omega,rfl⟩
theorem zQ (w:World) (D lo:Nat) (z:Int) (v:Value) (ns:List Nd) (o:TO) (h:Df w D lo z v ns) (hw:OK o=true) (hk:o.kind=3) (hz:PP z=true) :
    Calls Tryz.prog 231 #[.pointer (some ⟨D,0,none⟩),.agg #[.int .i64 o.kind,.string o.path,.string o.data,.int .i64 o.XT,.bool o.seq]] w (JP w D lo z v (Rx ns o z)):=by
 have B0:Hid (Zi w (w.alloc (.cells #[.int .i64 o.kind,.string o.path,.string o.data,.int .i64 o.XT,.bool o.seq] 159))):=Yy.alloc YR _;have XO:Hid (St (w.alloc (.cells #[.int .i64 o.kind,.string o.path,.string o.data,.int .i64 o.XT,.bool o.seq] 159)) w.heap.size [.int .i64 o.kind,.string o.path,.string o.data,.int .i64 o.XT,.bool o.seq]):=St.new _ _ _;have XD:=ZU (h.below B0.out);have hlt:=h.s.lt;have HS:=ZU (rG h.n o hz);have ND:Hid (∀q,v.ownBlock=some q→lo≤q∧q<w.heap.size):=ZT h.o;have HW:Hid (∀W,Zi w W→Calls Tryz.prog 252 #[.pointer (some ⟨D,0,none⟩),.agg #[.int .i64 o.kind,.string o.path,.string o.data,.int .i64 o.XT,.bool o.seq]] W (Wj W (.tuple (SQ ns o)))):=fun W hW=>Ob W D lo z v ns o (h.below hW)
 have HV:Hid ((∃c:Int,c≠0∧SQ ns o=#[.int .i64 0,Sp c])∨∃I:Nat,SQ ns o=#[.int .i64 (I:Int),.nilIface]):=by
  unfold SQ
  split
  · exact .inl ⟨2,by omega,rfl⟩
  split
  · exact .inl ⟨4,by omega,rfl⟩
  exact .inr ⟨_,rfl⟩
 have HB:Hid (∀c:Int,c≠0→SQ ns o=#[.int .i64 0,Sp c]→Rx ns o z=(c,ns,⟨#[]⟩)):=fun c hc hv=>Bj hw (.inl hk) hc hv
 have HG:Hid (∀I:Nat,SQ ns o=#[.int .i64 (I:Int),.nilIface]→I<ns.length∧Rx ns o z=(0,ns.set I { Ye ns I with data:=o.data,XT:=LF (Ye ns I).XT,mz:=z },o.path)):=fun I hv=>wj hw hk h.n.1 hv
 clear h hw hk hz
 go_enter Tryz.func231,Tryz.ntmps231
 go_wp2_with fail
 generalize w.alloc _=w0 at *;refine (HW.out _ B0.out).mono ?_;rintro e w1 ⟨rfl,b1⟩;have B1:=ZU (WD B0.out b1);have X1:=ZU (XO.out.below b1);have D1:=ZU (XD.out.below b1);clear b1 B0 XO HW XD
 rcases HV.out with ⟨c,hc,e1⟩ | ⟨I,e1⟩
 · have HE:=ZU (HB.out c hc e1)
   rw [e1];clear e1 HV HB HG HS;unfold Sp
   go_wp2_with fail
   rw [HE.out];refine ZW (v:=.tuple #[.string ByteArray.empty,Sp c]) (by simp [results,Tryz.results231,go_sem,Sp];try rfl) rfl ⟨v,?_,D1.out,Tw.YZ B1.out _ _⟩;unfold JV;rw [Z1 hc]
 obtain ⟨hl,e2⟩:=HG.out I e1;have HE:=ZU e2;rw [e1];clear e1 e2 HV HB HG;have hL:(I:Int)<(ns.length:Int):=by omega
 have hg0:(0:Int)≤(I:Int):=by omega
 obtain ⟨g,gc,hv,hlo,hgl,hce⟩:=D1.out.o.at hl;subst hv;have c0:=D1.out.s.cl 0 _ rfl;have c1:=D1.out.s.cl 1 _ rfl;have x1:=X1.out.cl 1 _ rfl;have x2:=X1.out.cl 2 _ rfl;have k1:=(hce I hl).all.2.1;have k2:=(hce I hl).all.2.2.1;have k5:=(hce I hl).all.2.2.2.2.2.1;have f1:w1.frozen? ⟨g,I*7+1,none⟩=false:=Xm D1.out.o _;have f2:w1.frozen? ⟨g,I*7+2,none⟩=false:=Xm D1.out.o _;have f5:w1.frozen? ⟨g,I*7+5,none⟩=false:=Xm D1.out.o _;have Dj:g≠D:=fun e=>D1.out.ne (by rw [e];rfl)
 have hgw:g<w.heap.size:=(ND.out g rfl).2;have G:0≤(Ye ns I).XT∧(Ye ns I).XT≤2147483647:=by
  have:=D1.out.n.2.1 (Ye ns I) (by rw [WF hl];exact YP hl);have:=TX this;omega
 have U:Hid (∀W,Calls Tryz.prog 256 #[.int .i64 (Ye ns I).XT] W fun e w'=>e=.returned (.int .i64 (LF (Ye ns I).XT))∧w'=W):=fun W=>Ma W _ G
 clear hce G
 go_wp2_with (go_at_call 256;refine (U.out _).mono ?_;rintro e w' ⟨rfl,rfl⟩)
 have p1:=(D1.out.o.put (k:=I) (f:=1) (u:=.string o.data) (m:={ Ye ns I with data:=o.data }) hl (by omega) rfl).1;have p2:=(p1.put (k:=I) (f:=2) (u:=.int .i64 (LF (Ye ns I).XT)) (m:={ Ye ns I with data:=o.data,XT:=LF (Ye ns I).XT }) (by rw [Xt];exact hl) (by omega) (by rw [Hu hl];rfl)).1;rw [Q8] at p2;have p3:=(p2.put (k:=I) (f:=5) (u:=.int .i64 z) (m:={ Ye ns I with data:=o.data,XT:=LF (Ye ns I).XT,mz:=z }) (by rw [Xt];exact hl) (by omega) (by rw [Hu hl];rfl)).1;rw [Q8] at p3
 simp only [Xt] at p3
 have T2:=(((Tw.YZ B1.out D (some g)).setRow (j:=I*7+1) (x:=.string o.data)).setRow (j:=I*7+2) (x:=.int .i64 (LF (Ye ns I).XT))).setRow (j:=I*7+5) (x:=.int .i64 z);have S2:=((D1.out.s.other (c:=g) (j:=I*7+1) (x:=.string o.data) Dj.symm).other (c:=g) (j:=I*7+2) (x:=.int .i64 (LF (Ye ns I).XT)) Dj.symm).other (c:=g) (j:=I*7+5) (x:=.int .i64 z) Dj.symm;have HN:=HS.out;rw [HE.out] at HN ⊢;exact ZW (v:=.tuple #[.string o.path,.nilIface]) (by simp [results,Tryz.results231,go_sem]) rfl ⟨_,rfl,⟨S2,p3,D1.out.ne,HN⟩,T2⟩
theorem wh (w:World) (c:Nat) (m:Nd) (p:ByteArray) (hs:Xi m.path=true) (hc:c<w.heap.size) (ho:w.cell? ⟨c,1,none⟩=some (.string p)) :
    Calls Tryz.prog 254 #[.agg #[.string m.path,.string m.data,.int .i64 m.XT,.int .i64 m.XQ,.int .i64 m.cz,.int .i64 m.mz,.int .i64 m.pz],.pointer (some ⟨c,0,none⟩)] w (Wj w (.bool (GK m.path p))):=by
 have B0:Hid (∀ob,Zi w (w.alloc ob)):=fun ob=>Yy.alloc YR _
 have F:Hid (∀W,Calls Tryz.prog 160 #[.string m.path,.string p] W fun e w'=>e=.returned (.bool (GK m.path p))∧w'=W):=fun W=>Ft W _ _ hs
 have c1:=(World.cell?_alloc_lt w (.cells #[.string m.path,.string m.data,.int .i64 m.XT,.int .i64 m.XQ,.int .i64 m.cz,.int .i64 m.mz,.int .i64 m.pz] 147) ⟨c,1,none⟩ hc).trans ho;clear hs ho
 go_enter Tryz.func254,Tryz.ntmps254
 go_wp2_with fail
 refine (F.out _).mono ?_;rintro e w1 ⟨rfl,rfl⟩
 go_wp2_with fail
 exact ZW (v:=.bool (GK m.path p)) (by simp [results,Tryz.results254,go_sem]) rfl ⟨rfl,B0.out _⟩
theorem wg (w:World) (b n cap c:Nat) (ns:List Nd) (p:ByteArray) (hp:ns.length=n) (hn:n≤1000) (hb:b<w.heap.size) (hc:∀i,i<n→Um w b (i*7) (Ye ns i)) (hok:∀m ∈ ns,Xi m.path=true) (hcl:c<w.heap.size) (ho:w.cell? ⟨c,1,none⟩=some (.string p)) :
    Calls Tryz.prog 269 #[.slice (some ⟨b,0,none⟩) n cap,.func (.func 254) #[] #[.pointer (some ⟨c,0,none⟩)]] w fun e w'=>(∃r:Int,e=.returned (.int .i64 r)∧decide (r≥0)=ns.any (fun m=>GK m.path p))∧Zi w w':=by
 have HC:=ZU hc;have HP:=ZU hp;have HO:=ZU ho;have PX:Hid (∀i,i<n→Xi (Ye ns i).path=true):=fun i hi=>hok _ (by rw [WF (by omega)];exact YP _)
 clear hc hp ho hok
 go_enter Tryz.func269,Tryz.ntmps269
 go_wp2
 go_loopw [8] (fun vi wr=>∃i:Nat,i≤n∧vi=.int .i64 i∧Hid (∀k,k<i→GK (Ye ns k).path p=false)∧Hid (Zi w wr)) (fun i _=>n - (intOf i).toNat)
 case atStart=>exact ⟨0,Zu _,rfl,fun k hk=>by omega,Yy⟩
 case round =>
  obtain ⟨i,hi,rfl,HK,HB⟩:=hrel
  by_cases hlt:i<n
  · have Rj:(i:Int)<(n:Int):=by omega
    obtain ⟨c0,c1,c2,c3,c4,c5,c6⟩:=(HC.out i hlt).below HB.out hb;have HR:=ZU (wh wr c (Ye ns i) p (PX.out i hlt) (ZY hcl HB.out.size) ((HB.out.cell (p:=⟨c,1,none⟩) hcl).trans HO.out))
    go_wp2_with fail
    refine HR.out.mono ?_;rintro e w1 ⟨rfl,b1⟩;have B1:=ZU (WD HB.out b1);clear b1 c0 c1 c2 c3 c4 c5 c6 HB HR
    cases hx:GK (Ye ns i).path p with
    | true =>
     have HX:Hid (ns.any (fun m=>GK m.path p)=true):=by
      show _=_;rw [Td];exact ⟨Ye ns i,by rw [WF (by rw [HP.out];exact hlt)];exact YP _,hx⟩
     clear hx;go_wp2;refine ZW (v:=.int .i64 (i:Int)) (by simp [results,Tryz.results269,go_sem]) rfl ⟨⟨_,rfl,by rw [HX.out];simp⟩,B1.out⟩
    | false =>
     have HX:=ZU hx;clear hx;go_wp2;exact ⟨⟨i+1,by omega,by go_num,fun k hk=>if e:k=i then e ▸ HX.out else HK.out k (by omega),B1⟩,by simp [intOf];omega⟩
  have hin:i=n:=by omega
  subst hin;have HX:Hid (ns.any (fun m=>GK m.path p)=false):=by
   show _=_;rw [List.any_eq_false];intro m hm;obtain ⟨k,hk,rfl⟩:=List.mem_iff_getElem.1 hm;have:=HK.out k (by rw [←HP.out];exact hk);rw [WF hk] at this
   simp [this]
  go_wp2;refine ZW (v:=.int .i64 (-1)) (by simp [results,Tryz.results269,go_sem]) rfl ⟨⟨_,rfl,by rw [HX.out];rfl⟩,HB.out⟩
theorem we (w:World) (b n cap c:Nat) (ns:List Nd) (p:ByteArray) (hp:ns.length=n) (hn:n≤1000) (hb:b<w.heap.size) (hc:∀i,i<n→Um w b (i*7) (Ye ns i)) (hok:∀m ∈ ns,Xi m.path=true) (hcl:c<w.heap.size) (ho:w.cell? ⟨c,1,none⟩=some (.string p)) :
    Calls Tryz.prog 253 #[.slice (some ⟨b,0,none⟩) n cap,.func (.func 254) #[] #[.pointer (some ⟨c,0,none⟩)]] w (Wj w (.bool (ns.any (fun m=>GK m.path p)))):=by
 have H:=ZU (wg w b n cap c ns p hp hn hb hc hok hcl ho);clear hc ho hok hp
 go_enter Tryz.func253,Tryz.ntmps253
 go_wp2_with fail
 refine H.out.mono ?_;rintro e w1 ⟨⟨r,rfl,hr⟩,b1⟩;have B1:=ZU b1;have HR:=ZU hr;clear b1 hr H
 go_wp2_with fail
 exact ZW (v:=.bool (decide (r≥0))) (by simp [results,Tryz.results253,go_sem]) rfl ⟨by rw [HR.out],B1.out⟩
section
variable {P:Program} {w:World}
theorem OV (dT sT ty elem:TypeId) (i:TypeInfo) (g o dLen dCap:Nat) (a:Addr) (sLen sCap:Nat) (cur:Array Value) (t:TypeId) (cs:List Value) (hu:P.underlying dT=some (.slice elem)) (hi:P.info? elem=some i) (hg:w.heap[g]?=some (.cells cur t (0,0))) (hn:cs.length=Nat.min sLen dLen*i.size)
    (hsrc:∀j v,cs[j]?=some v→w.cell? (a.add j)=some v) (hfit:o+cs.length≤cur.size) (h1:∀v ∈ cs,v.oneCell'=true) :
    (Builtin.copy_ #[dT,sT] ty #[.slice (some ⟨g,o,none⟩) dLen dCap,.slice (some a) sLen sCap]).run P w=.ok (goInt (Nat.min sLen dLen)) (w.setRow g (cur.toList.take o++cs++cur.toList.drop (o+cs.length)).toArray):=by
 have hf:=Vt (P:=P) w i.size (Nat.min sLen dLen) a sLen sCap cs hn hsrc;have hst:=TB P g o t cs 0 cur w hg (by simpa using hfit) h1
 simp only [Yj] at hst
 simp [Builtin.copy_,Ya hu,sizeOf,typeInfo,hi,Builtin.lenOf,hf,hst]
theorem Di {K:Act→World→Prop} {Q:Exit→Act→World→Prop} (s x:Operand) (t tn:TypeId) (ho:o.op=.call { callee:=.builtin .append,args:=#[s,x],argTypes:=#[t,tn] }) (vs vx:Value) (hs:a.eval s=vs) (hx:a.eval x=vx)
    (v':Value) (w':World) (hr:(Builtin.append_ #[t,tn] o.type #[vs,vx]).run P w=.ok v' w') (h:K (a.put o.dst v') w'):o.wp P a w K Q:=by
 unfold Oper.wp execOp
 simp only [ho,resolve,invoke,builtin,XX,Ww,XH,WL,Yl,WO,hs,hx,hr]
 exact h
theorem Nk (t tn ty e:TypeId) (i:TypeInfo) (z:Value) (k kn:IntKind) (ht:P.underlying t=some (.slice e)) (htn:P.underlying tn=some (.int kn)) (hi:P.info? e=some i) (hz:i.zero=some z)
    (g n cap m:Nat) (xs:List Value) (hl:xs.length=n*i.size) (hxs:∀j u,xs[j]?=some u→w.cell? ((⟨g,0,none⟩:Addr).add j)=some u) (h0:0<m) (hs:0<i.size) (hroom:cap<n+m) (h63:n+m≤1000000) (hb:i.bytes≤1000) :
    (Builtin.append_ #[t,tn] ty #[.slice (some ⟨g,0,none⟩) n cap,.int k m]).run P w =
     .ok (.slice (some ⟨w.heap.size,0,none⟩) (n+m) (grownCap w (n+m) cap e)) (w.drew.alloc (.cells (xs.toArray++Builtin.zeroCells z.cells m++Builtin.zeroCells z.cells (grownCap w (n+m) cap e - (n+m))) e)):=by
 have hw:IntKind.i64.wrap (m:Int)=m:=by rw [Zq];omega
 have hm:m≠0:=by omega
 have hneg:¬((m:Int)<0):=by omega
 have hmb:m*i.bytes≤1000000*1000:=Nat.mul_le_mul (by omega) hb;have h48i:¬(281474976710656<(m:Int)*(i.bytes:Int)):=by rw [←Int.natCast_mul];omega
 have hcap:¬n+m≤cap:=by omega
 have hfit:Builtin.nextslicecap (n+m) cap*i.bytes≤281474976710656:=U2 (by omega) (ZJ (Nat.mul_le_mul h63 hb) (by omega));have h48:¬(281474976710656<Builtin.nextslicecap (n+m) cap*i.bytes):=by omega
 have O:¬(9223372036854775807<(n:Int)+(m:Int)):=by omega
 have hns:¬(m*i.size=0):=Nat.mul_ne_zero hm (by omega);have hf:=Vt (P:=P) w.drew i.size n ⟨g,0,none⟩ n cap xs hl hxs
 simp [Builtin.append_,Ya ht,Ya htn,sizeOf,typeInfo,zeroValue,hi,hz,asInt,asIntOf,hw,hneg,hns,O,h48,h48i,hcap,Question.forced,hf,newRow,grownCap]
theorem Dh (t ty e:TypeId) (i:TypeInfo) (z:Value) (ht:P.underlying t=some (.slice e)) (hi:P.info? e=some i) (hz:i.zero=some z) (g of n c:Nat) (h0:0<n) (cur:Array Value) (tt:TypeId) (hg:w.heap[g]?=some (.cells cur tt (0,0))) (cs:List Value) (hcs:(Builtin.zeroCells z.cells n).toList=cs) (hfit:of+cs.length≤cur.size) (h1:∀v ∈ cs,v.oneCell'=true) :
    (Builtin.clear_ #[t] ty #[.slice (some ⟨g,of,none⟩) n c]).run P w=.ok (.tuple #[]) (w.setRow g (cur.toList.take of++cs++cur.toList.drop (of+cs.length)).toArray):=by
 have hst:=TB P g of tt cs 0 cur w hg (by simpa using hfit) h1
 simp only [Yj] at hst
 obtain ⟨k,rfl⟩:∃k,n=k+1:=⟨n - 1,by omega⟩
 simp [Builtin.clear_,Ya ht,zeroValue,typeInfo,hi,hz,hcs,hst]
theorem Ky {K:Act→World→Prop} {Q:Exit→Act→World→Prop} (d s:Operand) (dT sT:TypeId) (ho:o.op=.call { callee:=.builtin .copy,args:=#[d,s],argTypes:=#[dT,sT] }) (vd vs:Value) (hd:a.eval d=vd) (hs:a.eval s=vs)
    (v':Value) (w':World) (hr:(Builtin.copy_ #[dT,sT] o.type #[vd,vs]).run P w=.ok v' w') (h:K (a.put o.dst v') w'):o.wp P a w K Q:=by
 unfold Oper.wp execOp
 simp only [ho,resolve,invoke,builtin,XX,Ww,XH,WL,Yl,WO,hd,hs,hr]
 exact h
theorem Nj {Q:Exit→Act→World→Prop} (hgd:o.guard=none) (d s:Operand) (dT sT:TypeId) (ho:o.op=.call { callee:=.builtin .copy,args:=#[d,s],argTypes:=#[dT,sT] }) (vd vs:Value) (hd:a.eval d=vd) (hs:a.eval s=vs)
    (v':Value) (w':World) (hr:(Builtin.copy_ #[dT,sT] o.type #[vd,vs]).run P w=.ok v' w') (h:wpList P ops Q rest (a.put o.dst v') w'):wpList P ops Q (o :: rest) a w :=
 TZ hgd fun _ hK=>Ky d s dT sT ho vd vs hd hs v' w' hr (hK _ _ h)
theorem JS {Q:Exit→Act→World→Prop} (hgd:o.guard=none) (x:Operand) (t:TypeId) (ho:o.op=.call { callee:=.builtin .clear,args:=#[x],argTypes:=#[t] }) (vx:Value) (hx:a.eval x=vx)
    (v':Value) (w':World) (hr:(Builtin.clear_ #[t] o.type #[vx]).run P w=.ok v' w') (h:wpList P ops Q rest (a.put o.dst v') w'):wpList P ops Q (o :: rest) a w :=
 TZ hgd fun _ hK=>by
  unfold Oper.wp execOp
  simp only [ho,resolve,invoke,builtin,XX,Ww,XH,WL,Yl,WO,hx,hr]
  exact hK _ _ h
end
theorem kq:(Builtin.zeroCells (Value.agg #[.string ByteArray.empty,.string ByteArray.empty,.int .i64 0,.int .i64 0,.int .i64 0,.int .i64 0,.int .i64 0]).cells 1).toList=Uu nd0:=by kernel_rfl
theorem Pn (m:Nd):∀u ∈ Uu m,u.oneCell'=true:=by
 intro u hu
 simp [Uu] at hu
 rcases hu with rfl | rfl | rfl | rfl | rfl | rfl | rfl <;> rfl
theorem OU (R:List Nd):∀u ∈ YE R,u.oneCell'=true:=by
 intro u hu;obtain ⟨m,-,hm⟩:=List.mem_flatMap.1 hu;exact Pn m u hm
theorem Ou {B:Nat} {w0:World} (hb:Below B w0 w) (hBg:B≤g) (cs:Array Value):Below B w0 (w.setRow g cs) :=
 hb.trans ⟨rfl,rfl,rfl,by simp [World.setRow],fun k hk=>Ua w g k cs (by omega)⟩
theorem Tw.row {cs:Array Value} (h:Tw w b (some g) w' o'):Tw w b (some g) (w'.setRow g cs) o':=by
 refine ⟨h.os,h.tape,h.output,by simpa [World.setRow] using h.size,fun q hq hb ho=>?_,h.own⟩;rw [Ua w' g q cs (fun e=>ho (by rw [e]))];exact h.block q hq hb ho
theorem XU.rD (h:XU 147 w lo (.slice (some ⟨g,0,none⟩) ns.length c) ns):lo≤g∧ns.length≤c∧c≤maxLen∧∃X:List Value,w.heap[g]?=some (.cells (YE ns++X).toArray 147 (0,0))∧(YE ns++X).length=c*7:=by
 rcases h.2 with ⟨h',_⟩ | ⟨g',cap',cur,h',hbg,hg,hnc,hcm,hcs,htake⟩
 · simp at h'
 simp only [ZC,ZK,Ym,VB,Q0] at h'
 obtain ⟨rfl,rfl⟩:=h';have e:YE ns++cur.toList.drop (ns.length*7)=cur.toList:=by rw [←htake];exact YQ _ _
 refine ⟨hbg,hnc,hcm,cur.toList.drop (ns.length*7),?_,?_⟩
 · rw [e,Array.toArray_toList];exact hg
 rw [e,YJ];exact hcs
theorem XU.gK {X:List Value} (hlo:lo≤g) (hc:ns.length≤c) (hm:c≤maxLen) (hg:w.heap[g]?=some (.cells (YE ns++X).toArray 147 (0,0))) (hl:(YE ns++X).length=c*7):XU 147 w lo (.slice (some ⟨g,0,none⟩) ns.length c) ns:=by
 refine ⟨Xw ns,.inr ⟨g,c,_,rfl,hlo,hg,hc,hm,by simpa using hl,?_⟩⟩;rw [←Xw ns]
 simp
theorem Dg (w:World) (lo g c:Nat) (ns:List Nd) (I:Nat) (h:XU 147 w lo (.slice (some ⟨g,0,none⟩) ns.length c) ns) (hI:I<ns.length) (hn:ns.length≤1000) :
    Calls Tryz.prog 255 #[.slice (some ⟨g,0,none⟩) ns.length c,.int .i64 (I:Int),.int .i64 ((I:Int)+1)] w fun e w'=>e=.returned (.slice (some ⟨g,0,none⟩) (ns.eraseIdx I).length c)∧XU 147 w' lo (.slice (some ⟨g,0,none⟩) (ns.eraseIdx I).length c) (ns.eraseIdx I)∧∀b,Tw w b (some g) w' (some g):=by
 obtain ⟨i0,hi,hz0,hz1,hz2⟩:=YM Tryz.Mi;obtain ⟨hlo,hnc,hcm,X,hg,hX⟩:=h.rD;have hI0:(0:Int)≤(I:Int):=by omega
 have hI1:(I:Int)≤(I:Int)+1:=by omega
 have hI2:(I:Int)+1≤(ns.length:Int):=by omega
 have gJ:(ns.length:Int)≤(c:Int):=by omega
 have hne:¬(I:Int)=(I:Int)+1:=by omega
 go_enter Tryz.func255,Tryz.ntmps255
 go_wp2_with fail
 have HG:=ZU hg;have HX:=ZU hX;clear hg hX h;refine ZX (S:=fun W=>True) (by kernel_rfl) trivial (fun Z9=>?_);have D1:Hid (Zi w w.drew):=below_drewN' w 1;generalize w.drew=w1 at *;have eJ:I≤c:=by omega
 have h01:(0:Int)≤(I:Int)+1:=by omega
 obtain ⟨ad,had⟩:∃ad:Addr,(if c=I+1 then some (⟨g,0,none⟩:Addr) else some ⟨g,(I+1)*7,none⟩)=some ad:=by split <;> exact ⟨_,rfl⟩
 iterate 5 (refine Zf ?_ (by kernel_rfl) (fun _=>id) Z9 ?_ ?_;rotate_left;· intro w9 ZQ;clear ZQ;go_simp;try with_reducible rfl)
 refine Zf (.slice (some ad) (ns.length - (I+1)) (c - (I+1))) (by kernel_rfl) (fun _=>id) Z9 ?_ ?_
 · intro w9 ZQ;clear ZQ;go_simp
 refine YS 6 rfl (by kernel_rfl) (fun K hK=>?_);rw [Z0 (by kernel_rfl)];have pT:Hid (YE ns=YE (ns.take I)++(Uu (Ye ns I)++YE (ns.drop (I+1)))):=by
  show _=_;rw [←Ut,←Wc,WF hI,←Yg hI,YQ]
 have Ov:Hid ((YE (ns.take I)).length=I*7):=by show _=_;rw [Xw,Zw];omega
 have De:Hid ((YE (ns.drop (I+1))).length=(ns.length - (I+1))*7):=by show _=_;rw [Xw,ZS]
 have hr:=run_append_room (P:=Tryz.prog) w1 61 61 147 i0 Tryz.underlying61 hi g I c _ (D1.out.block g (Z3.1 HG.out).1 ▸ HG.out) ad (ns.length - (I+1)) (c - (I+1)) (YE (ns.drop (I+1))) (by rw [hz1];exact De.out) ?h1 ?h2 (by omega) ?h3
 case h1 =>
  intro j u hu;have hg1:=(D1.out.block g (Z3.1 HG.out).1).trans HG.out
  by_cases hc:c=I+1
  · have:=(Zh.1 hu).1
    rw [De.out] at this;omega
  rw [Z1 hc] at had;obtain rfl:=Zc had;rw [YY,Yz w1 g _ _ _ (0,0) hg1,XK,pT.out,ZO,Zv (by rw [Ov.out];omega),Ov.out,ZO,Zv (by show (Uu _).length≤_;rw [show (Uu (Ye ns I)).length=7 from rfl];omega),show (Uu (Ye ns I)).length=7 from rfl,show (I+1)*7+j - I*7 - 7=j by omega,Zy (Zh.1 hu).1];exact hu
 case h2=>exact OU _
 case h3 =>
  have:=HX.out;rw [De.out,hz1,ZI];omega
 refine Di (.tmp 22) (.tmp 25) _ _ (by kernel_rfl) _ _ (by kernel_rfl) (by kernel_rfl) _ _ hr ?_;refine hK.out _ _ trivial (fun Z9=>?_);clear hK K;have wG:=WB w1 g _ (List.toArray (YE (ns.take I)++YE (ns.drop (I+1))++(YE ns++X).drop ((ns.length - 1)*7))) 147 (0,0) (D1.out.block g (Z3.1 HG.out).1 ▸ HG.out);have T1:Hid (∀b,Tw w b (some g) (w1.setRow g (List.toArray (YE (ns.take I)++YE (ns.drop (I+1))++(YE ns++X).drop ((ns.length - 1)*7)))) (some g)):=fun b=>(Tw.YZ D1.out b (some g)).row
 have PQ:(List.take (I*i0.size) (YE ns++X).toArray.toList++YE (List.drop (I+1) ns)++List.drop (I*i0.size+(YE (List.drop (I+1) ns)).length) (YE ns++X).toArray.toList)=YE (ns.take I)++YE (ns.drop (I+1))++(YE ns++X).drop ((ns.length - 1)*7):=by
  rw [hz1,De.out,show I*7+(ns.length - (I+1))*7=(ns.length - 1)*7 by omega]
  congr 2
  rw [pT.out,ZO,List.take_append_of_le_length (by rw [Ov.out];omega),←Ov.out,Xp]
 rw [PQ];clear PQ hr;generalize w1.setRow g _=w2 at *;have hle:I+(ns.length - (I+1))=ns.length - 1:=by omega
 rw [hle]
 iterate 1 (refine Zf ?_ (by kernel_rfl) (fun _=>id) Z9 ?_ ?_;rotate_left;· intro w9 ZQ;clear ZQ;go_simp;try with_reducible rfl)
 refine ZR (by kernel_rfl) ?_ _
 simp only [Act.put,WV,WU,WT]
 clear Z9;obtain ⟨L,hL⟩:∃L,ns.length=L+1:=⟨ns.length - 1,by omega⟩;have nD:=ZU hL;rw [hL] at hn hnc gJ wG De ⊢;have hL1:(L+1 - 1)=L:=by omega
 rw [hL1] at wG ⊢;have h02:(0:Int)≤(L:Int):=by omega
 have Z8:(L:Int)≤(L:Int)+1:=by omega
 have Z7:¬c=L:=by omega
 have N:Hid ((YE (ns.take I)++YE (ns.drop (I+1))).length=L*7):=by show _=_;rw [ZZ,Ov.out,De.out];omega
 have hcl:=Dh (P:=Tryz.prog) (w:=w2) 61 0 147 i0 _ Tryz.underlying61 hi hz0 g (L*7) 1 (c - L) (by omega) _ 147 wG _ kq ?h4 (Pn _)
 case h4 =>
  have:=HX.out;rw [ZI,ZZ,N.out,ZS];show L*7+7≤_;omega
 clear hL hL1;have HR3:Hid (∀R:List Value,List.take (L*7) (YE (ns.take I)++(YE (ns.drop (I+1))++R))=YE (ns.eraseIdx I)):=fun R=>by
  rw [←ZO,←N.out,W8,←Wc,Vs]
 have M:Hid ((ns.eraseIdx I).length=L):=by show _=_;rw [List.length_eraseIdx,Z0 hI,nD.out];omega
 have HG2:=ZU wG;clear wG
 go_wp2_with (at_builtin;go_must (refine JS _ rfl _ _ rfl _ _ hcl ?_))
 refine ZW (v:=.slice (some ⟨g,0,none⟩) L c) (by simp [results,Tryz.results255,go_sem]) rfl ⟨by rw [M.out],?_,fun b=>(T1.out b).row⟩;refine XU.gK (X:=Uu nd0++List.drop (L*7+(Uu nd0).length) (YE (ns.take I)++(YE (ns.drop (I+1))++List.drop (L*7) (YE ns++X)))) hlo (by rw [M.out];omega) hcm ?_ ?_
 · rw [←HR3.out]
   exact WB w2 g _ _ _ _ HG2.out
 have:=HX.out;have h9:=N.out;rw [ZZ] at this h9;rw [ZZ,Xw,M.out,ZZ,ZS,ZZ,ZZ,ZS,ZZ,show (Uu nd0).length=7 from rfl];omega
theorem Fo {o:TO} (h:OK o=true):Xi o.path=true∧o.data.size≤64:=by
 unfold OK at h
 simp only [ZA,Zj] at h
 exact ⟨h.1.1.1.2,h.1.1.2⟩
theorem vZ {o:TO} (h:OK o=true):o.kind=1∨o.kind=2∨o.kind=3∨o.kind=4:=by
 unfold OK at h
 simp only [ZA,Zj] at h
 omega
theorem vY (h:Asc ns) (hl:ns.findIdx (U9 p)<ns.length):Nu ns p=ns.eraseIdx (ns.findIdx (U9 p)):=by
 obtain ⟨h1,h2⟩:=Po h hl;have e:=Dw [] ns p (fun a ha=>by simp at ha) h;rw [Zd,Zd] at e;rw [e,Vs,h2];unfold Im;rw [h1,Z0 rfl]
theorem vX (ns:List Nd) (p:ByteArray):(0<(gN ns p).length)↔ns.any (fun m=>GK m.path p)=true:=by
 unfold gN;rw [List.length_pos_iff_exists_mem,Td]
 constructor
 · rintro ⟨a,ha⟩
   obtain ⟨h1,h2⟩:=List.mem_filter.1 ha;exact ⟨a,h1,h2⟩
 rintro ⟨a,h1,h2⟩;exact ⟨a,List.mem_filter.2 ⟨h1,h2⟩⟩
theorem vW {o:TO} (hw:OK o=true) (hk:o.kind=2) (hs:Asc ns) (hv:SQ ns o=#[.int .i64 (I:Int),.nilIface]):I<ns.length∧(ns.any (fun m=>GK m.path o.path)=true→Rx ns o z=(5,ns,⟨#[]⟩))∧(ns.any (fun m=>GK m.path o.path)=false→Nu ns o.path=ns.eraseIdx I∧Rx ns o z=(0,toN (ns.eraseIdx I) (UZ o.path) z,o.path)):=by
 unfold SQ at hv;unfold Rx;rw [hw,Z1 (by simp),Z1 (by omega)]
 split at hv
 · simp [Sp] at hv
 rename_i h1;rw [Z1 h1]
 split at hv
 · simp [Sp] at hv
 rename_i h2;rw [Z1 h2,Z0 hk];have hI:ns.findIdx (U9 o.path)=I:=by simp at hv;omega
 have hl:ns.findIdx (U9 o.path)<ns.length:=by omega
 refine ⟨by omega,fun ha=>?_,fun ha=>?_⟩
 · rw [Z0 ((vX ns o.path).2 ha)]
 have e:=vY hs hl;rw [hI] at e;rw [Z1 (fun h=>by have:=(vX ns o.path).1 h;rw [ha] at this;cases this),e];exact ⟨rfl,rfl⟩
theorem Ja (w:World) (D lo:Nat) (z:Int) (v:Value) (ns:List Nd) (s:ByteArray) (h:Df w D lo z v ns) (hs:Xi s=true) (hz:PP z=true) :
    Calls Tryz.prog 251 #[.pointer (some ⟨D,0,none⟩),.string s] w (Ht w D lo z v ns (UZ s)):=by
 by_cases hl:ns.findIdx (U9 (UZ s))<ns.length
 · exact Dk w D lo z v ns s h hs hz hl
 refine (Dl w D lo z v ns s h hs hl).mono ?_;rintro e w' ⟨rfl,b⟩;refine ⟨rfl,?_,Tw.YZ b _ _⟩;rw [rE hl];exact h.below b
theorem Hs (w:World) (D lo:Nat) (z:Int) (v:Value) (ns:List Nd) (o:TO) (h:Df w D lo z v ns) (hw:OK o=true) (hk:o.kind=2) (hz:PP z=true) :
    Calls Tryz.prog 230 #[.pointer (some ⟨D,0,none⟩),.agg #[.int .i64 o.kind,.string o.path,.string o.data,.int .i64 o.XT,.bool o.seq]] w (JP w D lo z v (Rx ns o z)):=by
 have B0:Hid (Zi w (w.alloc (.cells #[.int .i64 o.kind,.string o.path,.string o.data,.int .i64 o.XT,.bool o.seq] 159))):=Yy.alloc YR _;have XO:Hid (St (w.alloc (.cells #[.int .i64 o.kind,.string o.path,.string o.data,.int .i64 o.XT,.bool o.seq] 159)) w.heap.size [.int .i64 o.kind,.string o.path,.string o.data,.int .i64 o.XT,.bool o.seq]):=St.new _ _ _;have XD:=ZU (h.below B0.out);have hlt:=h.s.lt;have ND:Hid (∀q,v.ownBlock=some q→lo≤q∧q<w.heap.size):=ZT h.o;have lF:=ZU (Fo hw).1;have HZ:=ZU hz;have HW:Hid (∀W,Zi w W→Calls Tryz.prog 252 #[.pointer (some ⟨D,0,none⟩),.agg #[.int .i64 o.kind,.string o.path,.string o.data,.int .i64 o.XT,.bool o.seq]] W (Wj W (.tuple (SQ ns o)))):=fun W hW=>Ob W D lo z v ns o (h.below hW)
 have HV:Hid ((∃c:Int,c≠0∧SQ ns o=#[.int .i64 0,Sp c])∨∃I:Nat,SQ ns o=#[.int .i64 (I:Int),.nilIface]):=by
  unfold SQ
  split
  · exact .inl ⟨2,by omega,rfl⟩
  split
  · exact .inl ⟨4,by omega,rfl⟩
  exact .inr ⟨_,rfl⟩
 have HB:Hid (∀c:Int,c≠0→SQ ns o=#[.int .i64 0,Sp c]→Rx ns o z=(c,ns,⟨#[]⟩)):=fun c hc hv=>Bj hw (.inr hk) hc hv
 have HG:Hid (∀I:Nat,SQ ns o=#[.int .i64 (I:Int),.nilIface]→I<ns.length∧(ns.any (fun m=>GK m.path o.path)=true→Rx ns o z=(5,ns,⟨#[]⟩))∧(ns.any (fun m=>GK m.path o.path)=false→Nu ns o.path=ns.eraseIdx I∧Rx ns o z=(0,toN (ns.eraseIdx I) (UZ o.path) z,o.path))):=fun I hv=>vW hw hk h.n.1 hv
 clear h hw hk hz
 go_enter Tryz.func230,Tryz.ntmps230
 go_wp2_with fail
 generalize w.alloc _=w0 at *;refine (HW.out _ B0.out).mono ?_;rintro e w1 ⟨rfl,b1⟩;have B1:=ZU (WD B0.out b1);have X1:=ZU (XO.out.below b1);have D1:=ZU (XD.out.below b1);clear b1 B0 XO HW XD
 rcases HV.out with ⟨c,hc,e1⟩ | ⟨I,e1⟩
 · have HE:=ZU (HB.out c hc e1)
   rw [e1];clear e1 HV HB HG;unfold Sp
   go_wp2_with fail
   rw [HE.out];refine ZW (v:=.tuple #[.string ByteArray.empty,Sp c]) (by simp [results,Tryz.results230,go_sem,Sp];try rfl) rfl ⟨v,?_,D1.out,Tw.YZ B1.out _ _⟩;unfold JV;rw [Z1 hc]
 obtain ⟨hl,e2⟩:=HG.out I e1;have HE:=ZU e2;rw [e1];clear e1 e2 HV HB HG;have hL:(I:Int)<(ns.length:Int):=by omega
 have hg0:(0:Int)≤(I:Int):=by omega
 obtain ⟨g,gc,hv,hlo,hgl,hce⟩:=D1.out.o.at hl;subst hv;have c0:=D1.out.s.cl 0 _ rfl;have lE:=ZU (we w1 g ns.length gc w.heap.size ns o.path rfl D1.out.n.2.2 hgl hce (fun m hm=>zS (D1.out.n.2.1 m hm)) X1.out.lt (X1.out.cl 1 _ rfl));clear hce
 go_wp2_with fail
 refine lE.out.mono ?_;rintro e w2 ⟨rfl,b2⟩;have B2:=ZU (WD B1.out b2);have X2:=ZU (X1.out.below b2);have D2:=ZU (D1.out.below b2);clear b2 lE B1 X1 D1 c0
 cases Z:ns.any (fun m=>GK m.path o.path) with
 | true =>
  have HE2:=ZU (HE.out.1 Z);clear Z HE
  go_wp2_with fail
  rw [HE2.out];exact ZW (v:=.tuple #[.string ByteArray.empty,Sp 5]) (by simp [results,Tryz.results230,go_sem,Sp];try rfl) rfl ⟨_,rfl,D2.out,Tw.YZ B2.out _ _⟩
 | false =>
  have HE2:=ZU (HE.out.2 Z);clear Z HE;have c0:=D2.out.s.cl 0 _ rfl;have OO:=ZU (Dg w2 lo g gc ns I D2.out.o hl D2.out.n.2.2);have Dj:g≠D:=fun e=>D2.out.ne (by rw [e];rfl)
  have hgw:g<w.heap.size:=(ND.out g rfl).2;have hw1:IntKind.i64.wrap ((I:Int)+1)=(I:Int)+1:=by have:=D2.out.n.2.2;rw [Zq];omega
  go_wp2_with fail
  refine OO.out.mono ?_;rintro e w3 ⟨rfl,o3,t3⟩;have S3:=ZU ((t3 g).st D2.out.s Dj.symm (fun e=>Dj (Zc e)));have X3:=ZU ((t3 g).st X2.out (by omega) (fun e=>by have:=Zc e;omega));have O3:=ZU o3;have T3:=ZU ((Tw.YZ B2.out D (some g)).trans (t3 D));clear o3 t3 c0 OO;have c3:=S3.out.cl 0 _ rfl;have f3:=S3.out.fz 0;have x3:=X3.out.cl 1 _ rfl;have iF:¬w.heap.size=D:=by omega
  have xV:Hid (∀W,W=w3.setCell ⟨D,0,none⟩ (.slice (some ⟨g,0,none⟩) (ns.eraseIdx I).length gc)→Calls Tryz.prog 251 #[.pointer (some ⟨D,0,none⟩),.string o.path] W (Ht W D lo z (.slice (some ⟨g,0,none⟩) (ns.eraseIdx I).length gc) (ns.eraseIdx I) (UZ o.path))):=by
   intro W hW;subst hW;refine Ja _ D lo z _ _ o.path ⟨?_,O3.out.kT (fun e=>Dj (Zc e)) _,fun e=>Dj (Zc e),?_⟩ lF.out HZ.out
   · exact S3.out.set 0 _
   rw [←HE2.out.1];exact D2.out.n.wo o.path
  go_wp2_with (go_at_call 251;refine (xV.out _ rfl).mono ?_)
  rintro e w5 ⟨rfl,d5,t5⟩;have D5:=ZU d5;have T5:=ZU ((T3.out.set (j:=0) (x:=.slice (some ⟨g,0,none⟩) (ns.eraseIdx I).length gc)).trans t5);have x5:=(t5.st (X3.out.other (c:=D) (j:=0) (x:=.slice (some ⟨g,0,none⟩) (ns.eraseIdx I).length gc) iF) iF (fun e=>by have:g=w.heap.size:=Zc e;omega)).cl 1 _ rfl;clear d5 t5 xV
  go_wp2_with fail
  rw [HE2.out.2];exact ZW (v:=.tuple #[.string o.path,.nilIface]) (by simp [results,Tryz.results230,go_sem]) rfl ⟨_,rfl,D5.out,T5.out⟩
end
end Go.Proofs.YtpmjnbmkippaiaaGreatDoor


