import Derived.Test.YtpmjnbmkippaiaaGreatDoorJ01
import Derived.RangeFuncNested
import Derived.RangeFuncLeaves
import Derived.OwnWalkIn
import Derived.TacticsInMore
import Derived.LoopNIn
import Derived.LoopIn
import Derived.Lib.Bytealg
import Derived.Laws.Externs
import Derived.Lib.IndexLaws
set_option maxRecDepth 100000
set_option maxHeartbeats 16000000
set_option linter.unusedVariables false
set_option linter.unusedSimpArgs false
namespace Go.Proofs.YtpmjnbmkippaiaaGreatDoor
open Go.RowKit Go.Shelf
variable {a:Act} {ops:Array Oper} {cells lb:Array Value} {s:ByteArray} {x:Int} {rs:List (Int × List Int)} {rest:List Oper} {M b cap g gd gf i j lo mb n nF tb:Nat} {o op:Oper} {P:Program} {E:Prop} {t:TypeId} {v:Value} {A B w:World}
theorem Lq (x:Int) (h0:0≤x) (h:x≤1048576):(Lit.int .i64 x).wf=true:=by
 have:=wrap64_wf x;rw [show wrap64 x=x by unfold wrap64;omega] at this;exact this
theorem Rd.span {k:IntKind} {o:Nat} {xs:List Int} (h:Rd k w (.slice (some ⟨b,o,none⟩) n cap) xs) (hl:xs.length=n) (h0:0<n):b<w.heap.size∧w.rangeAt b o (xs.map (Value.int k)):=by
 obtain ⟨b',o',e,hb,-⟩:=h.cellAt hl h0
 injection e with e
 injection e with e1 e2 _
 subst e1;subst e2;refine ⟨hb,fun j v hv=>?_⟩;have hj:j<xs.length:=by have:=(Zh.1 hv).1;simpa using this
 obtain ⟨b',o',e,-,hc⟩:=h.cellAt hl (show j<n by omega)
 injection e with e
 injection e with e1 e2 _
 subst e1;subst e2;rw [hc]
 simp [ZF hj] at hv
 simp [List.getD,hj,hv]
theorem Wd {w':World} {o:Nat} {cs:List Value} (h:w.rangeAt b o cs) (hc:w'.heap[b]?=w.heap[b]?):w'.rangeAt b o cs:=fun j v hv=>(ZP (w:=w) (a:=⟨b,o+j,none⟩) hc).trans (h j v hv)
theorem Jv {place:Nat→Option (Nat × Nat)} {off:Nat} {rest:List (Nat × Value)} (hp:place i=some (off,v.cells.size)) (hs:off+v.cells.size≤cells.size) :
    Instr.fill place cells ((i,v) :: rest)=Instr.fill place ((v.cells.toList.zipIdx 0).foldl (fun cs (x:Value × Nat)=>cs.setIfInBounds (off+x.2) x.1) cells) rest:=by
 conv=>lhs;unfold Instr.fill
 simp only [hp]
 rw [Z1 (by simp;omega)]
 congr 1
 rw [←Array.foldl_toList,Array.toList_zipIdx]
theorem xY (x:Int) (V:List Value) (hV:V.length=64) (z:Array Value) (hz:z.size=65) :
    Instr.fill (#[(0,1),(1,64)][·]?) z [(0,.int .i64 x),(1,.agg V.toArray)]=some (Value.int .i64 x :: V).toArray:=by
 have s1:(Value.int .i64 x).cells.size=1:=rfl;have s2:(Value.agg V.toArray).cells.size=64:=by show V.toArray.size=64;simpa using hV
 obtain ⟨g1,g2⟩:=Great.foldl_set 0 (Value.int .i64 x).cells.toList 0 z;rw [Jv (by rw [s1];rfl) (by rw [s1];omega),Jv (by rw [s2];rfl) (by rw [s2,g1];omega)];obtain ⟨k1,k2⟩:=Great.foldl_set 1 (Value.agg V.toArray).cells.toList 0 ((Value.int .i64 x).cells.toList.zipIdx 0 |>.foldl (fun cs (y:Value × Nat)=>cs.setIfInBounds (0+y.2) y.1) z);unfold Instr.fill
 congr 1
 apply Array.ext_getElem?;intro k;have hl:(Value.agg V.toArray).cells.toList.length=64:=by rw [YJ];exact s2
 have hl1:(Value.int .i64 x).cells.toList.length=1:=rfl;rw [k2 k,g1,hz,hl,g2 k,hl1,hz];have e:(Value.agg V.toArray).cells.toList=V:=by show V.toArray.toList=V;simp
 have eA:(Value.int .i64 x :: V).toArray[k]?=(Value.int .i64 x :: V)[k]?:=by simp
 rw [e,eA]
 by_cases h0:k=0
 · subst h0;rfl
 by_cases h1:k<65
 · rw [Z0 (by omega)]
   obtain ⟨j,rfl⟩:∃j,k=j+1:=⟨k - 1,by omega⟩;rw [Xr,show j+1 - (1+0)=j by omega]
 rw [Z1 (by omega),Z1 (by omega),Yk (by rw [ZE,hV];omega),Ts (by omega)]
theorem xX {z:Value} {places:List (Nat × Nat)} {parts:List (Nat × Value)} 
    (h:(match P.info? t,P.underlying t with
     | some it,some (.struct fields)=>(it.zero,fields.toList.mapM (fun f=>(P.info? f.type).map fun i=>(f.offset,i.size)))
     | _,_=>(none,none))=(some z,some places)) (hf:Instr.fill (places.toArray[·]?) z.cells parts=some cells):P.built t parts=some cells:=by
 unfold Program.built
 cases h1:P.info? t with
 | none=>simp [h1] at h
 | some it =>
  cases h2:P.underlying t with
  | none=>simp [h1,h2] at h
  | some d =>
   cases d <;> try (simp [h1,h2] at h;done)
   case struct fields =>
    simp only [h1,h2,Rv] at h
    simp only [h.1,h.2]
    exact hf
def zT:Value:=.agg (Value.int .i64 0 :: List.replicate 64 (.int .u8 0)).toArray
theorem IG:zT.cells.size=65:=by decide +kernel
theorem xW:(Tryz.prog.info? 210).map (fun i=>(i.zero,i.size,i.bytes))=some (some zT,65,72):=by kernel_rfl
theorem AF (x:Int) (V:List Value) (hV:V.length=64):Tryz.prog.built 210 [(0,.int .i64 x),(1,.agg V.toArray)]=some (Value.int .i64 x :: V).toArray :=
 xX (z:=zT) (places:=[(0,1),(1,64)]) (by kernel_rfl) (xY x V hV _ IG)
theorem IE (w:World) (x:Int) (V:List Value) (hV:V.length=64):(Instr.build 210 #[(0,.int .i64 x),(1,.agg V.toArray)]).run Tryz.prog w=.ok (.agg (Value.int .i64 x :: V).toArray) w :=
 run_build w _ _ _ (AF x V hV)
theorem ID (w:World) (x:Int) (V:List Value) (hV:V.length=64):(Instr.buildSlice 205 1 #[(0,.agg (Value.int .i64 x :: V).toArray)]).run Tryz.prog w=.ok (.slice (some ⟨w.heap.size,0,none⟩) 1 1) (w.alloc (.cells (Value.int .i64 x :: V).toArray 210)):=by
 obtain ⟨i0,hi,hz0,hz1,hz2⟩:=YM xW;have hs:(Value.agg (Value.int .i64 x :: V).toArray).cells.size=65:=by show (Value.int .i64 x :: V).toArray.size=65;simp [hV]
 refine run_buildSlice w _ _ 1 _ _ i0 zT Tryz.underlying205 hi hz0 (by rw [hz1];omega) (by rw [hz1];omega) ?_;have:=Great.fill_whole (s:=65) (by omega) [.agg (Value.int .i64 x :: V).toArray] ((Array.range (1*65)).map (zT.cells[· % zT.cells.size]!)) (by intro v hv;simp at hv;subst hv;exact hs) (by simp);rw [hz1]
 simp at this
 simp
 exact this
theorem QW {K:Act→World→Prop} {Q:Exit→Act→World→Prop} (hgd:o.guard=none) (ty:TypeId) (x y:Operand) (ho:o.op=.store ty x y)
    (b off:Nat) (cells:Array Value) (hx:a.eval x=.pointer (some ⟨b,off,none⟩)) (hy:a.eval y=.agg cells) (ht:w.there b off cells.size) (hi:(P.info? ty).map (·.size)=some cells.size) (h1:cells.all (·.oneCell')=true)
    (h:K (a.put o.dst undef) (w.setCells b off cells.toList)):if Region.wanted o (yielded ops a.tmps)=true then Oper.wp P o a w K Q else E:=by
 rw [Z0 (by simp [Region.wanted,hgd])];exact wp_store_mid ty x y ho b off cells hx hy ht hi h1 h
theorem Ok {H:Type} {K':Act→World→Prop} {Q:Exit→Act→World→Prop} 
    (hg:o.guard=none) (m x v:Operand) (t:TypeId) (hop:o.op=Op.mapUpdate t m x v)
    (k e:TypeId) (K:Maps.Keyed P k) (ht:P.underlying t=some (.map k e)) (R:Value→Option (DataW H × List MemPlace)) (b n:Nat) (D:DataW H)
    (hm:a.eval m=.map (some b)) (hown:w.ownsMap P k R b n D) (hn:n<maxLen) (key val:Value) (kl:Lit) (hx:a.eval x=key) (hv:a.eval v=val) (hkey:keyOf P k key=some kl)
    (d:DataW H) (ps:List MemPlace) (hval:R val=some (d,ps))
    (hK:∀w',w'.ownsMap P k R b (n+1) (D.put kl d)→w.grownBy w' (some b)→K' (a.put o.dst undef) w') :
    if Region.wanted o (yielded ops a.tmps)=true then Oper.wp P o a w K' Q else E:=by
 rw [Z0 (by simp [Region.wanted,hg])];obtain ⟨w',hrun,r1,r2⟩:=hown.update K ht hn hkey hval;unfold Oper.wp
 simp [execOp,hop,hm,hx,hv,hrun,Result.andThen]
 exact hK w' r1 r2
theorem Mj {α:Type} (L:List α) (o:Nat) (v:α) (vs:List α) (h:o+(vs.length+1)≤L.length):splice (L.set o v) (o+1) vs=splice L o (v :: vs):=by
 apply Wn;intro j;rw [UN _ _ _ (by simp;omega),UN _ _ _ (by simp;omega)]
 simp only [ZE,TG]
 by_cases h1:j<o
 · rw [Z0 (by omega),Z0 h1,Z1 (by omega)]
 rw [Z1 h1]
 by_cases h2:j=o
 · subst h2;rw [Z0 (by omega),Z0 rfl,Z0 (by omega),Z0 (by omega)];simp
 rw [Z1 (by omega)]
 by_cases h3:j<o+1+vs.length
 · rw [Z0 h3,Z0 (by omega)]
   obtain ⟨i,rfl⟩:∃i,j=o+1+i:=⟨j - (o+1),by omega⟩;rw [show o+1+i - (o+1)=i by omega,show o+1+i - o=i+1 by omega,Xr]
 rw [Z1 h3,Z1 (by omega),Z1 (by omega)]
theorem Qq {base size:Nat} {e:TypeId}:∀(vs:List Value) (o:Nat) (w:World) (xs:List Value),w.ownsRow base e size (.slice (some ⟨g,0,none⟩) n cap) n xs→o+vs.length≤xs.length →
    (w.setCells g o vs).ownsRow base e size (.slice (some ⟨g,0,none⟩) n cap) n (splice xs o vs)∧w.grownBy (w.setCells g o vs) (some g)
 | [],o,w,xs,h,_=>by rw [Lt];exact ⟨h,Zz _ _⟩
 | v :: vs,o,w,xs,h,hl=>by
  have h1:=(World.ownsRow.stored h o v).1;obtain ⟨r1,r2⟩:=Qq vs (o+1) (w.setCell ⟨g,o,none⟩ v) (xs.set o v) h1 (by simp at hl ⊢;omega);rw [World.setCells,←Mj xs o v vs (by simpa using hl)];exact ⟨r1,WR (grownBy_set w w g o v (Zz _ _)) r2⟩
theorem Qx.set (h:Qx w lo tb mb (.slice (some ⟨g,0,none⟩) rs.length cap) rs) (hi:i<rs.length) (V:List Int) (hV:V.length=64) :
    Qx (w.setCells g (i*65+1) (V.map (Value.int .u8))) lo tb mb (.slice (some ⟨g,0,none⟩) rs.length cap) (rs.set i (pB rs i,V))∧w.grownBy (w.setCells g (i*65+1) (V.map (Value.int .u8))) (some g):=by
 have hlen:=NQ rs h.full;have hl:(rs.set i (pB rs i,V)).length=rs.length:=Xt ..;obtain ⟨r1,r2⟩:=Qq (V.map (Value.int .u8)) (i*65+1) w (Tn rs) h.rows (by rw [hlen,Zl,hV];omega);obtain ⟨D,hD,hM⟩:=h.map;refine ⟨⟨h.box.other r2 (fun e=>h.vt e.symm),by rw [hl,yb rs i hi h.full V hV];exact r1,⟨D,by rw [hl];exact hD.kept r2 (fun e=>h.vm e.symm),hM.set i hi V⟩,fun j hj=>?_,fun j k hj hk e=>?_,h.lot,h.kY,h.ne,h.vt,h.vm⟩,r2⟩
 · rw [hl] at hj
   rw [x8 rs i j hi]
   split
   · exact hV
   exact h.full j hj
 rw [hl] at hj hk;rw [PF rs i j hi,PF rs i k hi] at e;exact h.apart j k hj hk e
theorem Rq {K:Act→World→Prop} {Q:Exit→Act→World→Prop} (hgd:o.guard=none) (y:Operand) (ho:o.op=.buildSlice 205 1 #[(0,y)])
    (x:Int) (V:List Value) (hV:V.length=64) (hy:a.eval y=.agg (Value.int .i64 x :: V).toArray) (h:K (a.put o.dst (.slice (some ⟨w.heap.size,0,none⟩) 1 1)) (w.alloc (.cells (Value.int .i64 x :: V).toArray 210))) :
    if Region.wanted o (yielded ops a.tmps)=true then Oper.wp Tryz.prog o a w K Q else E:=by
 rw [Z0 (by simp [Region.wanted,hgd])];have hrun:=ID w x V hV;unfold Oper.wp execOp
 simp only [ho,WL,Yl,WO,hy,XX,hrun,XH]
 exact h
theorem Qx.snoc {W0 W1 w4:World} {U:Nat} {va:Option Addr} {O:List Int} {D:DataW Unit} {ob:Obj} (hT:Qx W0 lo tb mb (.slice va rs.length U) rs) (G1:W0.grownBy W1 (some mb))
    (M1:W1.ownsMap Tryz.prog 2 (plainElem Tryz.prog 3) mb (rs.length+1) D) (hM:MF D (rs++[(x,O)])) (ho:w4.ownsRow lo 210 65 (.slice (some ⟨g,0,none⟩) (rs.length+1) cap) (rs.length+1) (Tn rs++(.int .i64 x :: O.map (Value.int .u8))))
    (hg:(W1.alloc ob).grownBy w4 (Value.ownBlock (.slice va rs.length U))) (hat:Value.ownBlock (.slice va rs.length U)=some g∨g=W1.heap.size+1) (hno:∀i,i<rs.length→pB rs i≠x) (T:O.length=64) (hlo:lo≤W0.heap.size) :
    Qx (w4.setCell ⟨tb,0,none⟩ (.slice (some ⟨g,0,none⟩) (rs.length+1) cap)) lo tb mb (.slice (some ⟨g,0,none⟩) (rs.length+1) cap) (rs++[(x,O)])∧Below lo W0 (w4.setCell ⟨tb,0,none⟩ (.slice (some ⟨g,0,none⟩) (rs.length+1) cap))∧(∀q,q<W0.heap.size→q≠tb→q≠mb→Value.ownBlock (.slice va rs.length U)≠some q→(w4.setCell ⟨tb,0,none⟩ (.slice (some ⟨g,0,none⟩) (rs.length+1) cap)).heap[q]?=W0.heap[q]?):=by
 have G:=WR (WQ W1 ob _) hg;have Yg:=hT.box.1.1;have s1:=G1.size;have s4:=G.size;have hmt:=M1.lt;have hgt:g≠tb:=by
  rcases hat with e | e
  · intro h;exact hT.vt (by rw [e,h])
  omega
 have hgm:g≠mb:=by
  rcases hat with e | e
  · intro h;exact hT.vm (by rw [e,h])
  omega
 have hl:(rs++[(x,O)]).length=rs.length+1:=by simp
 have b1:=hT.box.other G1 (by simpa using hT.ne);have b4:=b1.other G (fun e=>hT.vt e.symm);obtain ⟨⟨z4,q0,q1⟩,f0,f1⟩:=b4;refine ⟨⟨⟨⟨by simpa using z4,Zk _ _ _ q0,?_⟩,by rw [Zb];exact f0,by rw [Zb];exact f1⟩,?_,⟨D,?_,hM⟩,fun i hi=>?_,fun i j hi hj e=>?_,hT.lot,hT.kY,hT.ne,by simpa [Value.ownBlock] using hgt,by simpa [Value.ownBlock] using hgm⟩,?_,fun q hq n1 n2 n3=>?_⟩
 · rw [ZV _ _ _ _ (by simp)];exact q1
 · rw [hl,Ls,Gv]
   exact Zn ho (grownBy_set w4 w4 tb 0 _ (Zz _ _)) (.inr (by simpa [Value.ownBlock] using hgt))
 · rw [hl]
   exact (M1.kept G (fun e=>hT.vm e.symm)).setCell (a:=⟨tb,0,none⟩) (fun e=>hT.ne e.symm) _
 · rw [hl] at hi
   by_cases e:i=rs.length
   · subst e;rw [LM];exact T
   rw [IJ _ _ _ (by omega)];exact hT.full i (by omega)
 · rw [hl] at hi hj
   by_cases ei:i=rs.length
   · by_cases ej:j=rs.length
     · omega
     subst ei;rw [Th,Tz _ _ _ (by omega)] at e;exact absurd e.symm (hno j (by omega))
   by_cases ej:j=rs.length
   · subst ej;rw [Th,Tz _ _ _ (by omega)] at e;exact absurd e (hno i (by omega))
   rw [Tz _ _ _ (by omega),Tz _ _ _ (by omega)] at e;exact hT.apart i j (by omega) (by omega) e
 · have h1:=Yy.grown G1 hlo (by intro q hq;simp at hq;subst hq;exact hT.kY)
   have h2:=h1.grown G (by omega) (fun q hq=>(ZT hT.rows q hq).1);exact h2.setCell (p:=⟨tb,0,none⟩) hT.lot _
 rw [Below.heap_setCell _ _ _ _ (show q≠(⟨tb,0,none⟩:Addr).block from n1),G.block q (by omega) (fun e=>n3 e.symm)];exact G1.block q hq (by simpa using n2)
theorem sM (w:World) (lo tb mb:Nat) (v:Value) (rs:List (Int × List Int)) (x:Int) (O:List Int) (i:Nat) (ht:Qx w lo tb mb v rs) (hi:i<rs.length) (hx:pB rs i=x) (hwx:(Lit.int .i64 x).wf=true) (T:O.length=64) :
    Calls Tryz.prog 136 #[.pointer (some ⟨tb,0,none⟩),.int .i64 x,.agg (O.map (Value.int .u8)).toArray] w fun e w'=>e=.returned (.tuple #[])∧Qx w' lo tb mb v (rs.set i (pB rs i,O))∧Below lo w w'∧(∀q,q<w.heap.size→q≠tb→q≠mb→v.ownBlock≠some q→w'.heap[q]?=w.heap[q]?):=by
 obtain ⟨g,cap,rfl,hg1,hg2,hc1,hc2⟩:=ht.form (by omega);obtain ⟨D,hD,hM⟩:=ht.map;obtain ⟨⟨zt,c0,c1⟩,-⟩:=ht.box;have hhas:=(hM.1 x).2 ⟨i,hi,hx⟩;have HAT:Hid (∀z,D.atKey (.int .i64 x) z=.lit (.int .i64 i)):=by intro z;rw [←hx];exact hM.2 i hi z
 have hkey:=Maps.keyOf_int_mk (P:=Tryz.prog) Tryz.underlying2 hwx;obtain ⟨V,hV⟩:∃V,V=O.map (Value.int .u8):=⟨_,rfl⟩;have QH:Hid (V.length=64):=by rw [hV];show _=_;rw [Zl];exact T
 have sL:Hid (∀v ∈ V,v.oneCell'=true):=by rw [hV];exact Yi _ _
 rw [←hV];have X4:(i:Int)<(rs.length:Int):=by omega
 unfold maxLen at hc2;have BA:Hid (Zi w (w.alloc (.cells V.toArray 117))):=Yy.alloc YR _;have TA:=ZU (ht.below BA.out);have RB:Hid ((w.alloc (.cells V.toArray 117)).rangeAt w.heap.size 0 V):=by have:=Pd w V.toArray 117;rw [Vu] at this;exact this
 have HD:Hid ((w.alloc (.cells V.toArray 117)).ownsMap Tryz.prog 2 (plainElem Tryz.prog 3) mb rs.length D):=hD.alloc _;have hlow:lo≤w.heap.size:=by omega
 have FIN:Hid (∀W,Qx W lo tb mb (.slice (some ⟨g,0,none⟩) rs.length cap) rs→Below lo w W→Qx (W.setCells g (i*65+1) V) lo tb mb (.slice (some ⟨g,0,none⟩) rs.length cap) (rs.set i (pB rs i,O))∧Below lo w (W.setCells g (i*65+1) V)∧W.grownBy (W.setCells g (i*65+1) V) (some g)):=by
  intro W hW hB;have:=hW.set hi O T;rw [←hV] at this;exact ⟨this.1,hB.grown this.2 (by have:=hB.size;omega) (by intro q hq;simp at hq;omega),this.2⟩
 generalize hn:rs.length=n at *;clear ht hD hM hx hV
 go_enter Tryz.func136,Tryz.ntmps136
 go_wp2_with (at_lookup;refine T0 _ rfl _ _ 206 rfl 2 3 .i64 oQ Tryz.underlying206 Tryz.underlying3 (Ce _) mb n D rfl HD.out _ _ rfl hkey ?_)
 intro c hat hwc;obtain rfl:c=(i:Int):=by have:=HAT.out (.lit (.int .i64 0));rw [hat] at this;simpa using this
 clear c0 c1 zt;generalize w.alloc _=W0 at *
 go_wp2_with fail
 have TH:Hid (W0.there g (i*65+1) 64):=by
  intro j hj;have hr:=TA.out.rows;have hfl:=NQ rs TA.out.full;rw [hn] at hr hfl;exact ⟨by rw [Wv hr (i*65+1+j) (by omega),ZF (by omega)];rfl,Xm hr _⟩
 obtain ⟨⟨zt,c0,c1⟩,-⟩:=TA.out.box;refine ZX (S:=fun w'=>w'.cell? ⟨tb,0,none⟩=some (.slice (some ⟨g,0,none⟩) n cap)∧w'.rangeAt w.heap.size 0 V) (by kernel_rfl) ⟨c0,RB.out⟩ (fun Z9=>?_);refine Zf (.pointer (some ⟨tb,0,none⟩)) (by kernel_rfl) (fun _=>id) (by assumption) (fun w' hSw=>?_) ?_
 · (try dsimp only at hSw)
   go_simp
 simp only [Act.put,WV,WU,WT]
 refine Zf (.pointer (some ⟨tb,0,none⟩)) (by kernel_rfl) (fun _=>id) (by assumption) (fun w' hSw=>?_) ?_
 · (try dsimp only at hSw)
   go_simp
 simp only [Act.put,WV,WU,WT]
 refine Zf (.pointer (some ⟨tb,0,none⟩)) (by kernel_rfl) (fun _=>id) (by assumption) (fun w' hSw=>?_) ?_
 · (try dsimp only at hSw)
   go_simp
 simp only [Act.put,WV,WU,WT]
 refine Zf (.slice (some ⟨g,0,none⟩) n cap) (by kernel_rfl) (fun _=>id) (by assumption) (fun w' hSw=>?_) ?_
 · (try dsimp only at hSw)
   go_simp
 simp only [Act.put,WV,WU,WT]
 refine Zf (.int .i64 i) (by kernel_rfl) (fun _=>id) (by assumption) (fun w' hSw=>?_) ?_
 · (try dsimp only at hSw)
   go_simp
 simp only [Act.put,WV,WU,WT]
 refine PM (i:=5) (oi:=⟨some 23,_,_,_,_,_⟩) (v:=.agg (V).toArray) rfl (by kernel_rfl) (fun _ _ _ h=>h) (VN (by rfl) _ _ rfl _ _ rfl V _ (fun w' hSw=>hSw.2) Tryz.underlying117 rfl (Wi _ QH.out)) (by assumption) ?_
 simp only [Act.put,WV,WU,WT]
 refine Yp 6 (.pointer (some ⟨g,i*65,none⟩)) rfl (by kernel_rfl) (fun _=>id) (by assumption) (fun w' hSw=>?_) ?_
 · (try dsimp only at hSw)
   go_simp
 simp only [Act.put,WV,WU,WT]
 refine Yp 7 (.pointer (some ⟨g,i*65+1,none⟩)) rfl (by kernel_rfl) (fun _=>id) (by assumption) (fun w' hSw=>?_) ?_
 · (try dsimp only at hSw)
   go_simp
 simp only [Act.put,WV,WU,WT]
 refine YS 8 rfl (by kernel_rfl) (fun K hK=>?_);refine QW rfl 117 _ _ rfl g (i*65+1) V.toArray rfl rfl ?t1 ?t2 (XL sL.out) ?_
 case t1 =>
  have e:V.toArray.size=64:=by rw [ZI];exact QH.out
  rw [e];exact TH.out
 case t2=>rw [ZI];exact Wi _ QH.out
 have hgt:g≠tb:=fun e=>TA.out.vt (by rw [e];rfl)
 have FI:=FIN.out W0.drew (TA.out.below (below_drewN' W0 1)) ((BA.out.mono hlow).trans ((below_drewN' W0 1).mono (by have:=BA.out.size;omega)));rw [Vu];refine hK.out _ _ ⟨?_,?_⟩ (fun N=>?_)
 · rw [Ub _ _ _ _ _ (fun h=>absurd h (Ne.symm hgt))];exact c0
 · exact U3 (w:=W0.drew) ((Vi _ _ _ _).2 RB.out) _ _ _ (.inl (show w.heap.size≠g by omega))
 clear hK K Z9;refine ZR (by kernel_rfl) ?_ _;clear N c0 c1;go_wp2;refine ZW (Wu rfl _ _ _) rfl ⟨rfl,FI.1,FI.2.1,fun q hq n1 n2 n3=>(FI.2.2.block q (by have:=BA.out.size;show q<W0.heap.size;omega) (fun e=>n3 (by injection e with e;rw [e];rfl))).trans (BA.out.block q hq)⟩
theorem oP (w:World) (lo tb mb:Nat) (v:Value) (rs:List (Int × List Int)) (x:Int) (O:List Int) (ht:Qx w lo tb mb v rs) (hno:∀i,i<rs.length→pB rs i≠x) (hwx:(Lit.int .i64 x).wf=true) (T:O.length=64) (hlen:rs.length≤1048576) (hlow:lo≤w.heap.size) :
    Calls Tryz.prog 136 #[.pointer (some ⟨tb,0,none⟩),.int .i64 x,.agg (O.map (Value.int .u8)).toArray] w fun e w'=>e=.returned (.tuple #[])∧(∃v',Qx w' lo tb mb v' (rs++[(x,O)]))∧Below lo w w'∧(∀q,q<w.heap.size→q≠tb→q≠mb→v.ownBlock≠some q→w'.heap[q]?=w.heap[q]?):=by
 obtain ⟨D,hD,hM⟩:=ht.map;obtain ⟨⟨zt,c0,c1⟩,-⟩:=ht.box;have hhas:Maps.has D (.int .i64 x)=false:=by
  cases h:Maps.has D (.int .i64 x) with
  | false=>rfl
  | true=>obtain ⟨i,hi,e⟩:=(hM.1 x).1 h;exact absurd e (hno i hi)
 have hkey:=Maps.keyOf_int_mk (P:=Tryz.prog) Tryz.underlying2 hwx;obtain ⟨i0,hi,hz0,hz1,hz2⟩:=YM xW;obtain ⟨V,hV⟩:∃V,V=O.map (Value.int .u8):=⟨_,rfl⟩;have QH:Hid (V.length=64):=by rw [hV];show _=_;rw [Zl];exact T
 have sL:Hid (∀v ∈ V,v.oneCell'=true):=by rw [hV];exact Yi _ _
 have Yf:=ZU hV;have Ye:=ZU (hM.snoc hD.isMap x O hno);have ST:=ZU hno;have Yd:=ZU T;rw [←hV];have BA:Hid (Zi w (w.alloc (.cells V.toArray 117))):=Yy.alloc YR _;have TA:=ZU (ht.below BA.out);have RB:Hid ((w.alloc (.cells V.toArray 117)).rangeAt w.heap.size 0 V):=by have:=Pd w V.toArray 117;rw [Vu] at this;exact this
 have HD:Hid ((w.alloc (.cells V.toArray 117)).ownsMap Tryz.prog 2 (plainElem Tryz.prog 3) mb rs.length D):=hD.alloc _;have sA:(w.alloc (.cells V.toArray 117)).heap.size=w.heap.size+1:=by simp
 obtain ⟨va,U,rfl⟩:∃a c,v=.slice a rs.length c:=by
  rcases ht.rows.2 with ⟨rfl,h1⟩ | ⟨g,cap,cur,rfl,-⟩
  · exact ⟨none,0,by rw [h1]⟩
  exact ⟨_,_,rfl⟩
 have Z4:∀q,Value.ownBlock (.slice va rs.length U)=some q→q<w.heap.size:=fun q hq=>(ZT ht.rows q hq).2
 have Y2:=ZU Z4;have zm:=hD.lt;clear ht hD hM hV hno T Z4;generalize hn:rs.length=n at *;have HN:=ZU hn;clear hn
 go_enter Tryz.func136,Tryz.ntmps136
 go_wp2_with (at_lookup;refine T0 _ rfl _ _ 206 rfl 2 3 .i64 oQ Tryz.underlying206 Tryz.underlying3 (Ce _) mb n D rfl HD.out _ _ rfl hkey ?_)
 intro c hat hwc;clear c0 c1;generalize w.alloc _=W0 at *
 go_wp2_with fail
 obtain ⟨⟨ZO,c0,c1⟩,f0,f1⟩:=TA.out.box;refine ZX (S:=fun w'=>w'.cell? ⟨tb,0,none⟩=some (.slice va n U)∧w'.cell? ⟨tb,1,none⟩=some (.map (some mb))) (by kernel_rfl) ⟨c0,c1⟩ (fun Z9=>?_);refine Zf (.pointer (some ⟨tb,0,none⟩)) (by kernel_rfl) (fun _=>id) (by assumption) (fun w' hSw=>?_) ?_
 · (try dsimp only at hSw)
   go_simp
 simp only [Act.put,WV,WU,WT]
 refine Zf (.pointer (some ⟨tb,0,none⟩)) (by kernel_rfl) (fun _=>id) (by assumption) (fun w' hSw=>?_) ?_
 · (try dsimp only at hSw)
   go_simp
 simp only [Act.put,WV,WU,WT]
 refine Zf (.pointer (some ⟨tb,1,none⟩)) (by kernel_rfl) (fun _=>id) (by assumption) (fun w' hSw=>?_) ?_
 · (try dsimp only at hSw)
   go_simp
 simp only [Act.put,WV,WU,WT]
 refine Zf (.map (some mb)) (by kernel_rfl) (fun _=>id) (by assumption) (fun w' hSw=>?_) ?_
 · (try dsimp only at hSw)
   go_simp
 simp only [Act.put,WV,WU,WT]
 refine Zf (.int .i64 x) (by kernel_rfl) (fun _=>id) (by assumption) (fun w' hSw=>?_) ?_
 · (try dsimp only at hSw)
   go_simp
 simp only [Act.put,WV,WU,WT]
 refine Zf (.pointer (some ⟨tb,0,none⟩)) (by kernel_rfl) (fun _=>id) (by assumption) (fun w' hSw=>?_) ?_
 · (try dsimp only at hSw)
   go_simp
 simp only [Act.put,WV,WU,WT]
 refine Zf (.pointer (some ⟨tb,0,none⟩)) (by kernel_rfl) (fun _=>id) (by assumption) (fun w' hSw=>?_) ?_
 · (try dsimp only at hSw)
   go_simp
 simp only [Act.put,WV,WU,WT]
 refine Zf (.pointer (some ⟨tb,0,none⟩)) (by kernel_rfl) (fun _=>id) (by assumption) (fun w' hSw=>?_) ?_
 · (try dsimp only at hSw)
   go_simp
 simp only [Act.put,WV,WU,WT]
 refine Zf (.slice va n U) (by kernel_rfl) (fun _=>id) (by assumption) (fun w' hSw=>?_) ?_
 · (try dsimp only at hSw)
   go_simp
 simp only [Act.put,WV,WU,WT]
 refine Zf (.int .i64 n) (by kernel_rfl) (fun _=>id) (by assumption) (fun w' hSw=>?_) ?_
 · (try dsimp only at hSw)
   go_simp
 simp only [Act.put,WV,WU,WT]
 refine YS 10 rfl (by kernel_rfl) (fun K hK=>?_);refine Ok rfl _ _ _ 206 rfl 2 3 oQ Tryz.underlying206 _ mb n D rfl HD.out.drew ?m1 _ _ _ rfl rfl hkey (.lit (.int .i64 n)) [] ?m2 ?_
 case m1=>unfold maxLen;omega
 case m2=>exact plainElem_int Tryz.underlying3 (Lq _ (by omega) (by omega))
 intro W1 m1 g1;have Z2:=TA.out.ne;have d0:=(g1.cell_far ⟨tb,0,none⟩ ZO (by simpa using Z2)).trans c0;have d1:=(g1.cell_far ⟨tb,1,none⟩ ZO (by simpa using Z2)).trans c1;have e0:=(g1.frozen_far ⟨tb,0,none⟩ ZO (by simpa using Z2)).trans f0;have e1:=(g1.frozen_far ⟨tb,1,none⟩ ZO (by simpa using Z2)).trans f1;refine hK.out _ _ ⟨d0,d1⟩ (fun N=>?_);clear hK K Z9;refine ZR (by kernel_rfl) ?_ _;have G1:Hid (W0.grownBy W1 (some mb)):=⟨g1.os,g1.tape,g1.output,g1.size,g1.block⟩;have M1:=ZU m1;clear N c0 c1 f0 f1 m1 g1
 go_wp2_with fail
 go_frame
 have ZA:=ZU (Wd RB.out (G1.out.block _ (by omega) (by simp;omega)));have hrow:∀W ob,Zi W1 W→(W.alloc ob).ownsRow lo 210 65 (.slice va n U) n (Tn rs):=by
  intro W ob hW;have h0:=TA.out.rows;rw [HN.out] at h0;have h1:=Zn h0 G1.out (by
   cases e:Value.ownBlock (.slice va n U) with
   | none=>exact .inl rfl
   | some q=>right;rw [←e];exact TA.out.vm)
  refine WP (Zn h1 (row:=none) ⟨hW.os,hW.tape,hW.output,hW.size,fun q hq _=>hW.block q hq⟩ ?_) ob
  cases Value.ownBlock (.slice va n U) with
  | none=>exact .inl rfl
  | some q=>exact .inr (by simp)
 have Zq:=ZU hrow;have Zp:=ZY ZO G1.out.size;have Y1:w.heap.size<W1.heap.size:=by have:=G1.out.size;omega
 have hwt:w.heap.size≠tb:=by omega
 have Z6:Hid (∀u ∈ (Value.int .i64 x :: V),u.oneCell'=true):=by
  intro u hu
  rcases Y9.1 hu with rfl | hu
  · rfl
  exact sL.out u hu
 have xV:Hid (∀W:World,∀j u,(Value.int .i64 x :: V)[j]?=some u→(W.alloc (.cells (Value.int .i64 x :: V).toArray 210)).cell? ((⟨W.heap.size,0,none⟩:Addr).add j)=some u):=by
  intro W j u hu;rw [YY,Za,Yz _ _ j _ _ _ (Zs W _)]
  simpa using hu
 have Zj:Hid (∀w4 ob,(W1.drew.alloc ob).grownBy w4 (Value.ownBlock (.slice va n U))→(∀j,w4.cell? ⟨tb,j,none⟩=W1.cell? ⟨tb,j,none⟩∧w4.frozen? ⟨tb,j,none⟩=W1.frozen? ⟨tb,j,none⟩)∧∀u,(w4.setCell ⟨tb,0,none⟩ u).rangeAt w.heap.size 0 V∧w4.rangeAt w.heap.size 0 V):=by
  intro w4 ob hg;have hG:=WR (WQ W1 ob _) ⟨hg.os,hg.tape,hg.output,hg.size,hg.block⟩;have hr:=Wd ZA.out (hG.block _ Y1 (fun e=>by have:=Y2.out _ e.symm;omega));refine ⟨fun j=>⟨hG.cell_far ⟨tb,j,none⟩ Zp (fun e=>TA.out.vt e.symm),hG.frozen_far ⟨tb,j,none⟩ Zp (fun e=>TA.out.vt e.symm)⟩,fun u=>⟨?_,hr⟩⟩;intro j y hy;rw [ZV _ _ _ _ (by intro e;injection e with e;exact hwt e.symm)];exact hr j y hy
 have FIN:Hid (∀g cap w4 ob,w4.ownsRow lo 210 65 (.slice (some ⟨g,0,none⟩) (n+1) cap) (n+1) (Tn rs++(.int .i64 x :: V))→(W1.drew.alloc ob).grownBy w4 (Value.ownBlock (.slice va n U))→(Value.ownBlock (.slice va n U)=some g∨g=W1.heap.size+1) →
     Qx (w4.setCell ⟨tb,0,none⟩ (.slice (some ⟨g,0,none⟩) (n+1) cap)) lo tb mb (.slice (some ⟨g,0,none⟩) (n+1) cap) (rs++[(x,O)])∧Below lo w (w4.setCell ⟨tb,0,none⟩ (.slice (some ⟨g,0,none⟩) (n+1) cap))∧(∀q,q<w.heap.size→q≠tb→q≠mb→Value.ownBlock (.slice va n U)≠some q→(w4.setCell ⟨tb,0,none⟩ (.slice (some ⟨g,0,none⟩) (n+1) cap)).heap[q]?=w.heap[q]?)):=by
  intro g cap w4 ob h1 h2 h3;have hT:=TA.out;have hM:=Ye.out;have hM1:=M1.out;rw [Yf.out] at h1;rw [←HN.out] at h1 h2 h3 hT hM1 ⊢;rw [←HN.out] at hM;have:=Qx.snoc (W0:=W0) (W1:=W1) (ob:=ob) hT G1.out hM1 hM h1 ⟨h2.os,h2.tape,h2.output,h2.size,h2.block⟩ h3 (by rw [HN.out];exact ST.out) Yd.out (by omega);exact ⟨this.1,(BA.out.mono hlow).trans this.2.1,fun q hq n1 n2 n3=>(this.2.2 q (by omega) n1 n2 n3).trans (BA.out.block q hq)⟩
 have ZN:n+1≤maxLen:=by unfold maxLen;omega
 have ZL:(n+1)*72≤140737488355328:=by omega
 have Zg:lo≤W1.heap.size:=by omega
 clear hrow;refine ZX (S:=fun w'=>w'.rangeAt w.heap.size 0 V) (by kernel_rfl) ((Vi _ _ _ _).2 ZA.out) (fun Z9=>?_);refine Zf (.pointer (some ⟨tb,0,none⟩)) (by kernel_rfl) (fun _=>id) (by assumption) (fun w' hSw=>?_) ?_
 · (try dsimp only at hSw)
   go_simp
 simp only [Act.put,WV,WU,WT]
 refine Zf (.pointer (some ⟨tb,0,none⟩)) (by kernel_rfl) (fun _=>id) (by assumption) (fun w' hSw=>?_) ?_
 · (try dsimp only at hSw)
   go_simp
 simp only [Act.put,WV,WU,WT]
 refine Zf (.pointer (some ⟨tb,0,none⟩)) (by kernel_rfl) (fun _=>id) (by assumption) (fun w' hSw=>?_) ?_
 · (try dsimp only at hSw)
   go_simp
 simp only [Act.put,WV,WU,WT]
 refine Zf (.pointer (some ⟨tb,0,none⟩)) (by kernel_rfl) (fun _=>id) (by assumption) (fun w' hSw=>?_) ?_
 · (try dsimp only at hSw)
   go_simp
 simp only [Act.put,WV,WU,WT]
 refine Yp 5 (.int .i64 x) rfl (by kernel_rfl) (fun _=>id) (by assumption) (fun w' hSw=>?_) ?_
 · (try dsimp only at hSw)
   go_simp
 simp only [Act.put,WV,WU,WT]
 refine PM (i:=6) (oi:=⟨some 42,_,_,_,_,_⟩) (v:=.agg (V).toArray) rfl (by kernel_rfl) (fun _ _ _ h=>h) (VN (by rfl) _ _ rfl _ _ rfl V _ (fun w' hSw=>hSw) Tryz.underlying117 rfl (Wi _ QH.out)) (by assumption) ?_
 simp only [Act.put,WV,WU,WT]
 refine Yp 7 (.agg (Value.int .i64 x :: V).toArray) rfl (by kernel_rfl) (fun _=>id) (by assumption) (fun w' hSw=>?_) ?_
 · (try dsimp only at hSw)
   have hb:=IE w' x V QH.out
   simp [execOp]
   exact ZM (fun r=>Result.andThen r fun a w''=>Result.ok (Next.value a) w'') hb
 simp only [Act.put,WV,WU,WT]
 refine QG 4 8 rfl rfl (by kernel_rfl) (fun K hK=>?_) (fun K hK=>?_)
 · go_simp
   refine hK.out _ _ (by assumption) (fun Zy=>?_);clear hK K;refine YS 8 rfl (by kernel_rfl) (fun K hK=>?_);refine Rq rfl _ rfl x V QH.out rfl ?_;have hS2:(W1.drew.alloc (.cells (Value.int .i64 x :: V).toArray 210)).rangeAt w.heap.size 0 V:=Wk ((Vi _ _ _ _).2 ZA.out) _;refine hK.out _ _ hS2 (fun Zx=>?_);clear hK K
   simp only [Act.put,WV,WU,WT]
   refine YS 9 rfl (by kernel_rfl) (fun K hK=>?_);refine step_append_lies _ rfl _ _ 205 rfl lo 210 i0 zT 65 72 Tryz.underlying205 hi hz0 hz1 hz2 IG (by omega) (.slice va n U) n (Tn rs) rfl (Zq.out W1.drew _ (below_drewN' W1 1)) ⟨W1.heap.size,0,none⟩ 1 1 (Value.int .i64 x :: V) rfl ?a1 (xV.out W1.drew) Z6.out (by omega) ZN ZL ?a2 (W1.heap.size+1) ?a3 ?_
   case a1=>rw [ZE,QH.out]
   case a2=>exact (show lo≤(W1.alloc (.cells (Value.int .i64 x :: V).toArray 210)).heap.size by rw [YF];exact Nat.le_succ_of_le Zg)
   case a3=>exact (show (W1.alloc (.cells (Value.int .i64 x :: V).toArray 210)).heap.size=W1.heap.size+1 by rw [YF])
   intro g4 cap4 w4 GR hg4 NT IH;obtain ⟨q1,q2⟩:=Zj.out _ _ hg4;have FI:=FIN.out _ _ _ _ GR hg4 NT;have xU:=ZU FI;have p0:=(q1 0).1.trans d0;have p1:=(q1 0).2.trans e0;refine hK.out _ _ (q2 (.int .i64 0)).2 (fun Z8=>?_);have lW:=ZU q2;clear hK K FI GR hg4 NT q1 q2
   simp only [Act.put,WV,WU,WT]
   refine Yp 10 (.pointer (some ⟨tb,0,none⟩)) rfl (by kernel_rfl) (fun _=>id) (by assumption) (fun w' hSw=>?_) ?_
   · (try dsimp only at hSw)
     go_simp
   simp only [Act.put,WV,WU,WT]
   refine Yp 11 (.pointer (some ⟨tb,0,none⟩)) rfl (by kernel_rfl) (fun _=>id) (by assumption) (fun w' hSw=>?_) ?_
   · (try dsimp only at hSw)
     go_simp
   simp only [Act.put,WV,WU,WT]
   refine YS 12 rfl (by kernel_rfl) (fun K hK=>?_);go_simp;refine hK.out _ _ (lW.out _).1 (fun Z7=>?_);clear hK K;refine ZR (by kernel_rfl) ?_ _;clear Z7 Z8;go_wp2
   go_end0
   exact ⟨rfl,⟨_,xU.out.1⟩,xU.out.2.1,xU.out.2.2⟩
 refine Rq rfl _ rfl x V QH.out rfl ?_;have hS2:(W1.drew.alloc (.cells (Value.int .i64 x :: V).toArray 210)).rangeAt w.heap.size 0 V:=Wk ((Vi _ _ _ _).2 ZA.out) _;refine hK.out _ _ hS2 (fun Zx=>?_);clear hK K
 simp only [Act.put,WV,WU,WT]
 refine YS 4 rfl (by kernel_rfl) (fun K hK=>?_);go_simp;refine hK.out _ _ (by assumption) (fun Zy=>?_);clear hK K;refine YS 9 rfl (by kernel_rfl) (fun K hK=>?_);refine step_append_lies _ rfl _ _ 205 rfl lo 210 i0 zT 65 72 Tryz.underlying205 hi hz0 hz1 hz2 IG (by omega) (.slice va n U) n (Tn rs) rfl (Zq.out W1.drew _ (below_drewN' W1 1)) ⟨W1.heap.size,0,none⟩ 1 1 (Value.int .i64 x :: V) rfl ?a1 (xV.out W1.drew) Z6.out (by omega) ZN ZL ?a2 (W1.heap.size+1) ?a3 ?_
 case a1=>rw [ZE,QH.out]
 case a2=>exact (show lo≤(W1.alloc (.cells (Value.int .i64 x :: V).toArray 210)).heap.size by rw [YF];exact Nat.le_succ_of_le Zg)
 case a3=>exact (show (W1.alloc (.cells (Value.int .i64 x :: V).toArray 210)).heap.size=W1.heap.size+1 by rw [YF])
 intro g4 cap4 w4 GR hg4 NT IH;obtain ⟨q1,q2⟩:=Zj.out _ _ hg4;have FI:=FIN.out _ _ _ _ GR hg4 NT;have xU:=ZU FI;have p0:=(q1 0).1.trans d0;have p1:=(q1 0).2.trans e0;refine hK.out _ _ (q2 (.int .i64 0)).2 (fun Z8=>?_);have lW:=ZU q2;clear hK K FI GR hg4 NT q1 q2
 simp only [Act.put,WV,WU,WT]
 refine Yp 10 (.pointer (some ⟨tb,0,none⟩)) rfl (by kernel_rfl) (fun _=>id) (by assumption) (fun w' hSw=>?_) ?_
 · (try dsimp only at hSw)
   go_simp
 simp only [Act.put,WV,WU,WT]
 refine Yp 11 (.pointer (some ⟨tb,0,none⟩)) rfl (by kernel_rfl) (fun _=>id) (by assumption) (fun w' hSw=>?_) ?_
 · (try dsimp only at hSw)
   go_simp
 simp only [Act.put,WV,WU,WT]
 refine YS 12 rfl (by kernel_rfl) (fun K hK=>?_);go_simp;refine hK.out _ _ (lW.out _).1 (fun Z7=>?_);clear hK K;refine ZR (by kernel_rfl) ?_ _;clear Z7 Z8;go_wp2
 go_end0
 exact ⟨rfl,⟨_,xU.out.1⟩,xU.out.2.1,xU.out.2.2⟩
theorem NK (w:World) (lo tb mb:Nat) (v:Value) (rs:List (Int × List Int)) (x:Int) (O:List Int) (ht:Qx w lo tb mb v rs) (hx0:0≤x) (hx1:x≤1048576) (T:O.length=64) (hlen:rs.length≤1048576) (hlow:lo≤w.heap.size) :
    Calls Tryz.prog 136 #[.pointer (some ⟨tb,0,none⟩),.int .i64 x,.agg (O.map (Value.int .u8)).toArray] w fun e w'=>e=.returned (.tuple #[])∧(∃v' rs',Put rs x O rs'∧Qx w' lo tb mb v' rs')∧Below lo w w'∧(∀q,q<w.heap.size→q≠tb→q≠mb→v.ownBlock≠some q→w'.heap[q]?=w.heap[q]?):=by
 by_cases h:∃i,i<rs.length∧pB rs i=x
 · obtain ⟨i,hi,e⟩:=h
   refine (sM w lo tb mb v rs x O i ht hi e (Lq x hx0 hx1) T).mono ?_;rintro e' w' ⟨rfl,h1,h2,h3⟩;exact ⟨rfl,⟨v,_,.inl ⟨i,hi,e,rfl⟩,h1⟩,h2,h3⟩
 have hno:∀i,i<rs.length→pB rs i≠x:=fun i hi e=>h ⟨i,hi,e⟩
 refine (oP w lo tb mb v rs x O ht hno (Lq x hx0 hx1) T hlen hlow).mono ?_;rintro e' w' ⟨rfl,⟨v',h1⟩,h2,h3⟩;exact ⟨rfl,⟨v',_,.inr ⟨hno,rfl⟩,h1⟩,h2,h3⟩
theorem sK {rs':List (Int × List Int)} {V:List Int} (h:Put rs x V rs'):rs'.length≤rs.length+1:=by
 rcases h with ⟨i,_,_,rfl⟩ | ⟨_,rfl⟩
 · simp
 simp
theorem IC (w:World) (va vb:Option Addr) (dl ca n cb:Nat) (YN:List Int) (ps:List (Int × List Int)) (hdl:YN.length=dl) (hp:J8 w (.slice vb n cb) ps) (hl:ps.length=n) (hv:QX dl ps=true) :
    Calls Tryz.prog 131 #[.agg #[.slice va dl ca,.slice vb n cb]] w fun e w'=>e=.returned (.pointer (some ⟨w.heap.size+2,0,none⟩))∧(∃v rs,Qx w' (w.heap.size+1) (w.heap.size+2) (w.heap.size+1) v rs∧Lr YN ps n rs)∧Zi w w':=by
 have HP:=ZU hp;have HL:=ZU hl;have HV:=ZU hv;have OO:=ZU hdl;have hn2:n≤2000:=by have:=((Su dl ps).1 hv).2.2.2.1;omega
 have B0:Hid (Zi w (w.alloc (.cells #[.slice va dl ca,.slice vb n cb] 52))):=Yy.alloc YR _;have X0:Hid (Vg (w.alloc (.cells #[.slice va dl ca,.slice vb n cb] 52)) w.heap.size (.slice va dl ca) (.slice vb n cb)):=Vg.new _ _ _ _;have s0:(w.alloc (.cells #[.slice va dl ca,.slice vb n cb] 52)).heap.size=w.heap.size+1:=by simp
 clear hp hl hv hdl
 go_enter Tryz.func131,Tryz.ntmps131
 go_wp2_with fail
 generalize w.alloc _=w0 at *;refine (NM w0).mono ?_;rintro e w1 ⟨rfl,t1,b1⟩;rw [s0] at t1 ⊢;have T1:Hid (Qx w1 (w.heap.size+1) (w.heap.size+2) (w.heap.size+1) (.slice none 0 0) []):=t1;have B1:Hid (Below (w.heap.size+1) w0 w1):=by have:=b1;(try unfold Zi at this);rw [s0] at this;exact this
 have X1:=ZU (X0.out.below b1);have z1:=T1.out.box.1.1;clear t1 b1 X0;obtain ⟨zx,c0,c1⟩:=X1.out;go_wp2;clear c0 c1
 go_loopw [10] (fun i wr=>∃k:Nat,k≤n∧i=.int .i64 k∧Hid (∃v rs,Qx wr (w.heap.size+1) (w.heap.size+2) (w.heap.size+1) v rs∧Lr YN ps k rs∧rs.length≤k)∧Hid (Below (w.heap.size+1) w1 wr)) (fun i _=>n - (intOf i).toNat)
 case atStart=>exact ⟨0,Zu _,rfl,⟨_,_,T1.out,AH _ _,YR⟩,Yy⟩
 case round =>
  clear T1;obtain ⟨k,hk,rfl,⟨v,rs,ht,hof,hrl⟩,HG⟩:=hrel;have HT:=ZU ht;have yI:=ZU hof;have DJ:=ZU hrl;have sg:=HG.out.size;have BW:=ZU (B0.out.trans (((B1.out.trans HG.out)).mono (by omega)));clear ht hof hrl
  by_cases hlt:k<n
  · obtain ⟨pb,po,rfl,hpb,e1,da,dc,e2,r⟩:=HP.out.recAt HL.out hlt
    obtain ⟨b,hb,hb2,hb3,Z'⟩:=DM HV.out k (by rw [HL.out];exact hlt);have HB:=ZU hb;rw [hb] at e1;rw [Z'] at e2 r;have Yc:=(BW.out.cell (p:=⟨pb,po+k*2,none⟩) hpb).trans e1;have e2':=(BW.out.cell (p:=⟨pb,po+k*2+1,none⟩) hpb).trans e2;obtain ⟨db,I,rfl,Ya,-⟩:=r.cellAt Z' (show 0<64 by omega);obtain ⟨V,hV⟩:∃V,V=(pD ps k).map (Value.int .u8):=⟨_,rfl⟩;have RU:Hid (w.rangeAt db I V):=by rw [hV];exact (r.span Z' (by omega)).2
    have QH:Hid (V.length=64):=by rw [hV];show _=_;rw [Zl];exact Z'
    have Rj:(k:Int)<(n:Int):=by omega
    have tK:Hid (∀W,Qx W (w.heap.size+1) (w.heap.size+2) (w.heap.size+1) v rs→w.heap.size+1≤W.heap.size→Calls Tryz.prog 136 #[.pointer (some ⟨w.heap.size+2,0,none⟩),.int .i64 b,.agg V.toArray] W fun e w'=>e=.returned (.tuple #[])∧(∃v' rs',Put rs b (pD ps k) rs'∧Qx w' (w.heap.size+1) (w.heap.size+2) (w.heap.size+1) v' rs')∧Below (w.heap.size+1) W w'∧(∀q,q<W.heap.size→q≠w.heap.size+2→q≠w.heap.size+1→v.ownBlock≠some q→w'.heap[q]?=W.heap[q]?)):=by
     intro W hT hW;rw [hV];exact NK W _ _ _ v rs b (pD ps k) hT (by omega) (by omega) Z' (by have:=DJ.out;omega) hW
    clear e1 e2 r hb Z' hV
    go_wp2_with fail
    have Zv:Hid (Zi wr (wr.alloc (.cells #[.int .i64 b,.slice (some ⟨db,I,none⟩) 64 dc] 132))):=Yy.alloc YR _;have XB:Hid (Vg (wr.alloc (.cells #[.int .i64 b,.slice (some ⟨db,I,none⟩) 64 dc] 132)) wr.heap.size (.int .i64 b) (.slice (some ⟨db,I,none⟩) 64 dc)):=Vg.new _ _ _ _;clear Yc e2';generalize wr.alloc _=w3 at *;obtain ⟨z3,c0,c1⟩:=XB.out;have sB:=Zv.out.size;have Y':=Wd RU.out ((Zv.out.block db (by have:=BW.out.size;omega)).trans (BW.out.block db Ya));have T3:=ZU (HT.out.below Zv.out);have Yg:=HT.out.box.1.1;have Z4:∀q,v.ownBlock=some q→q<wr.heap.size:=fun q hq=>(ZT HT.out.rows q hq).2
    have hat:∀W,(Instr.arrayAt 117 (.slice (some ⟨db,I,none⟩) 64 dc)).run Tryz.prog W=.ok (.pointer (some ⟨db,I,none⟩)) W:=fun W=>run_arrayAt W 117 _ 64 _ _ _ Tryz.underlying117 YR
    have CP:Hid (Calls Tryz.prog 136 #[.pointer (some ⟨w.heap.size+2,0,none⟩),.int .i64 b,.agg V.toArray] w3.drew fun e w'=>e=.returned (.tuple #[])∧w'.cell? ⟨wr.heap.size,0,none⟩=some (.int .i64 b)∧w'.cell? ⟨wr.heap.size,1,none⟩=some (.slice (some ⟨db,I,none⟩) 64 dc)∧w'.rangeAt db I V∧Hid (∃v rs,Qx w' (w.heap.size+1) (w.heap.size+2) (w.heap.size+1) v rs∧Lr YN ps (k+1) rs∧rs.length≤k+1)∧Hid (Below (w.heap.size+1) w1 w')):=by
     refine (tK.out w3.drew (T3.out.below (below_drewN' w3 1)) (by show _≤w3.heap.size;omega)).mono ?_;rintro e w' ⟨rfl,⟨v',rs',hput,hT'⟩,hb',hfr⟩;have hc:∀j,w'.cell? ⟨wr.heap.size,j,none⟩=w3.cell? ⟨wr.heap.size,j,none⟩:=fun j=>ZP (w:=w3) (a:=⟨wr.heap.size,j,none⟩) (hfr wr.heap.size z3 (by omega) (by omega) (fun e=>by have:=Z4 _ e;omega))
     refine ⟨rfl,(hc 0).trans c0,(hc 1).trans c1,Wd Y' (hb'.block db (by omega)),⟨v',rs',hT',?_,?_⟩,?_⟩
     · refine AG YN ps rs rs' k yI.out ⟨b,HB.out,by rw [OO.out];exact hb2,hb3⟩ HT.out.apart ?_
       rw [HB.out];exact hput
     · have:=sK hput;have:=DJ.out;omega
     exact ((HG.out.trans (Zv.out.mono (by omega))).trans ((below_drewN' w3 1).mono (by omega))).trans hb'
    clear tK XB T3 RU HG HT yI;refine ZX (S:=fun w'=>w'.cell? ⟨wr.heap.size,0,none⟩=some (.int .i64 b)∧w'.cell? ⟨wr.heap.size,1,none⟩=some (.slice (some ⟨db,I,none⟩) 64 dc)∧w'.rangeAt db I V) (by kernel_rfl) ⟨c0,c1,Y'⟩ (fun Z9=>?_);refine Zf (.pointer (some ⟨w.heap.size+2,0,none⟩)) (by kernel_rfl) (fun _=>id) Z9 (fun w' hSw=>?_) ?_
    · (try dsimp only at hSw)
      go_simp
    simp only [Act.put,WV,WU,WT]
    refine Zf (.pointer (some ⟨wr.heap.size,0,none⟩)) (by kernel_rfl) (fun _=>id) Z9 (fun w' hSw=>?_) ?_
    · (try dsimp only at hSw)
      go_simp
    simp only [Act.put,WV,WU,WT]
    refine Zf (.int .i64 b) (by kernel_rfl) (fun _=>id) Z9 (fun w' hSw=>?_) ?_
    · (try dsimp only at hSw)
      go_simp
    simp only [Act.put,WV,WU,WT]
    refine Zf (.pointer (some ⟨wr.heap.size,1,none⟩)) (by kernel_rfl) (fun _=>id) Z9 (fun w' hSw=>?_) ?_
    · (try dsimp only at hSw)
      go_simp
    simp only [Act.put,WV,WU,WT]
    refine Zf (.slice (some ⟨db,I,none⟩) 64 dc) (by kernel_rfl) (fun _=>id) Z9 (fun w' hSw=>?_) ?_
    · (try dsimp only at hSw)
      go_simp
    simp only [Act.put,WV,WU,WT]
    refine Zf (.pointer (some ⟨db,I,none⟩)) (by kernel_rfl) (fun _=>id) Z9 (fun w' hSw=>?_) ?_
    · (try dsimp only at hSw)
      go_simp
    simp only [Act.put,WV,WU,WT]
    refine PM (i:=6) (oi:=⟨some 20,_,_,_,_,_⟩) (v:=.agg (V).toArray) rfl (by kernel_rfl) (fun _ _ _ h=>h) (VN (by rfl) _ _ rfl _ _ rfl V _ (fun w' hSw=>hSw.2.2) Tryz.underlying117 rfl (Wi _ QH.out)) (by assumption) ?_
    simp only [Act.put,WV,WU,WT]
    refine YS 7 rfl (by kernel_rfl) (fun K hK=>?_);go_simp
    go_at_call 136
    refine CP.out.mono ?_;rintro e w4 ⟨rfl,l0,l1,l2,R4,G4⟩;refine hK.out _ _ ⟨l0,l1,l2⟩ (fun N=>?_);clear hK K Z9;refine ZR (by kernel_rfl) ?_ _
    try simp only [Act.put,WV,WU,WT]
    clear l0 l1 l2 N c0 c1 hat CP Y';go_wp2
    go_roundw
    case rel=>exact ⟨k+1,by omega,by go_num,R4,G4⟩
    case measure=>simp [intOf];omega
  have hkn:k=n:=by omega
  subst hkn;go_wp2;go_ret;exact ⟨rfl,⟨v,rs,HT.out,yI.out⟩,BW.out⟩
theorem IB {α:Type} (L V:List α) (h:V.length=L.length):splice L 0 V=V:=by
 unfold splice;rw [WI,Za,Xx (by omega)]
 simp
def blk (D:List Int) (b:Nat):List Int:=(D.drop (b*64)).take 64
theorem NI (D:List Int) (b j:Nat):(blk D b)[j]?=if j<64 then D[b*64+j]? else none:=by
 unfold blk;rw [WJ]
 split
 · rw [Yt]
 rfl
theorem sJ {D E:List Int} (hl:D.length=E.length) (hm:D.length % 64=0) (h:∀b,b*64+64≤D.length→blk D b=blk E b):D=E:=by
 apply Wn;intro i
 by_cases hi:i<D.length
 · have h1:=h (i / 64) (by omega)
   have h2:(blk D (i / 64))[i % 64]?=(blk E (i / 64))[i % 64]?:=by rw [h1]
   rw [NI,NI,Z0 (by omega),Z0 (by omega),show i / 64*64+i % 64=i by omega] at h2;exact h2
 rw [Yk (by omega),Yk (by omega)]
theorem Lp (D V:List Int) (c b:Nat) (hV:V.length=64) (hc:c*64+64≤D.length):blk (splice D (c*64) V) b=if b=c then V else blk D b:=by
 apply Wn;intro j;rw [NI,UN _ _ _ (by omega),hV]
 by_cases hj:j<64
 · rw [Z0 hj]
   by_cases e:b=c
   · subst e
     rw [Z0 rfl,Z1 (by omega),Z0 (by omega),show b*64+j - b*64=j by omega]
   rw [Z1 e,NI,Z0 hj]
   by_cases h1:b*64+j<c*64
   · rw [Z0 h1]
   rw [Z1 h1,Z1 (by omega)]
 rw [Z1 hj]
 split
 · rw [Yk (by omega)]
 rw [NI,Z1 hj]
def lays (YN:List Int) (rs:List (Int × List Int)):List Int:=rs.foldl (fun D r=>splice D (r.1.toNat*64) r.2) YN
theorem MS (YN:List Int) (rs:List (Int × List Int)) (r:Int × List Int):lays YN (rs++[r])=splice (lays YN rs) (r.1.toNat*64) r.2:=by simp [lays]
def Fits (dl:Nat) (r:Int × List Int):Prop:=∃b:Nat,r.1=b∧b*64+64≤dl∧r.2.length=64
theorem Gu {α:Type} {p:List α→Prop} (h0:p []) (hs:∀l x,p l→p (l++[x])) (l:List α):p l:=by
 rw [←List.reverse_reverse l]
 induction l.reverse with
 | nil=>exact h0
 | cons x xs ih=>rw [List.reverse_cons];exact hs _ _ ih
theorem Lo (YN:List Int) (rs:List (Int × List Int)):(∀r ∈ rs,Fits YN.length r)→(lays YN rs).length=YN.length:=by
 refine Gu (p:=fun rs=>(∀r ∈ rs,Fits YN.length r)→(lays YN rs).length=YN.length) (fun _=>rfl) (fun rs r ih h=>?_) rs;have ih':=ih (fun q hq=>h q (by simp [hq]));obtain ⟨b,hb,hb2,hl⟩:=h r (by simp);rw [MS,length_splice,ih'];rw [ih',hb,Ze,hl];exact hb2
theorem Cd (YN:List Int) (ps:List (Int × List Int)) (hv:QX YN.length ps=true) (b:Nat):∀k,k≤ps.length→blk (tL YN ps (fun _=>64) k) b=rdv YN ps b k
 | 0,_=>rfl
 | k+1,hk=>by
  have ih:=Cd YN ps hv b k (by omega);obtain ⟨c,hc,hc2,_,hd⟩:=DM hv k (by omega);have hl:=NR YN ps (fun _=>64) hv k (by omega);rw [tL,hc,Ze,Y8 (by omega),Lp _ _ _ _ hd (by omega)]
  by_cases e:b=c
  · rw [Z0 e,DL YN ps b k (by rw [hc,e])]
  rw [Z1 e,NP YN ps b k (by rw [hc];omega),ih]
theorem xT (YN:List Int) (rs:List (Int × List Int)) (b:Nat):(∀r ∈ rs,Fits YN.length r)→(∀i j,i<rs.length→j<rs.length→pB rs i=pB rs j→i=j) →
    (∀i,i<rs.length→pB rs i=b→blk (lays YN rs) b=pD rs i)∧((∀i,i<rs.length→pB rs i≠b)→blk (lays YN rs) b=blk YN b):=by
 refine Gu (p:=fun rs=>(∀r ∈ rs,Fits YN.length r)→(∀i j,i<rs.length→j<rs.length→pB rs i=pB rs j→i=j) →
  (∀i,i<rs.length→pB rs i=b→blk (lays YN rs) b=pD rs i)∧((∀i,i<rs.length→pB rs i≠b)→blk (lays YN rs) b=blk YN b)) (fun _ _=>⟨fun i hi=>by simp at hi,fun _=>rfl⟩) (fun rs r ih h hap=>?_) rs
 have hl:(rs++[r]).length=rs.length+1:=by simp
 have hrs:∀q ∈ rs,Fits YN.length q:=fun q hq=>h q (by simp [hq])
 have Y0:∀i j,i<rs.length→j<rs.length→pB rs i=pB rs j→i=j:=fun i j hi hj e=>hap i j (by omega) (by omega) (by rw [Tz _ _ _ hi,Tz _ _ _ hj];exact e)
 obtain ⟨i1,i2⟩:=ih hrs Y0;obtain ⟨c,hc,hc2,hd⟩:=h r (by simp);have hlen:=Lo YN rs hrs;rw [MS,hc,Ze,Lp _ _ _ _ hd (by omega)];refine ⟨fun i hi e=>?_,fun hno=>?_⟩
 · rw [hl] at hi
   by_cases ei:i=rs.length
   · subst ei
     rw [Th] at e;rw [LM,Z0 (by rw [hc] at e;omega)]
   rw [Tz _ _ _ (by omega)] at e;rw [IJ _ _ _ (by omega)]
   by_cases eb:b=c
   · have:=hap i rs.length (by omega) (by omega) (by rw [Tz _ _ _ (by omega),Th,e,hc,eb])
     omega
   rw [Z1 eb];exact i1 i (by omega) e
 have hn:=hno rs.length (by omega);rw [Th,hc] at hn;rw [Z1 (by omega)];exact i2 (fun i hi=>by have:=hno i (by omega);rw [Tz _ _ _ hi] at this;exact this)
theorem Cc (dl:Nat) (rs:List (Int × List Int)) (h:∀i,i<rs.length→∃b:Nat,pB rs i=b∧b*64+64≤dl∧b≤300) (hf:∀i,i<rs.length→(pD rs i).length=64):∀r ∈ rs,Fits dl r:=by
 intro r hr;obtain ⟨i,hi,rfl⟩:=List.mem_iff_getElem.1 hr;obtain ⟨b,h1,h2,_⟩:=h i hi;have h3:=hf i hi;unfold pB at h1;unfold pD at h3
 simp [List.getD,hi] at h1 h3
 exact ⟨b,h1,h2,h3⟩
theorem xS (YN:List Int) (ps rs:List (Int × List Int)) (hv:QX YN.length ps=true) (ht:Lr YN ps ps.length rs) (hf:∀i,i<rs.length→(pD rs i).length=64) (hap:∀i j,i<rs.length→j<rs.length→pB rs i=pB rs j→i=j) :
    lays YN rs=tL YN ps (fun _=>64) ps.length:=by
 have hfit:=Cc YN.length rs ht.2 hf;have h1:=Lo YN rs hfit;have h2:=NR YN ps (fun _=>64) hv ps.length YR;refine sJ (by rw [h1,h2]) (by rw [h1];exact ((Su _ _).1 hv).1) (fun b hb=>?_);rw [Cd YN ps hv b _ YR];obtain ⟨k1,k2⟩:=xT YN rs b hfit hap
 by_cases hex:∃i,i<rs.length∧pB rs i=(b:Int)
 · obtain ⟨i,hi,e⟩:=hex
   rw [k1 i hi e,(ht.1 b).1 i hi e]
 have hno:∀i,i<rs.length→pB rs i≠(b:Int):=fun i hi e=>hex ⟨i,hi,e⟩
 rw [k2 hno,(ht.1 b).2 hno]
 rfl
attribute [local go_sem] Yv
theorem Ui {F:Fence} {Q:Exit→Act→World→Prop} (hgd:op.guard=none) (ty:TypeId) (x:Operand) (ho:op.op=.load ty x)
    (b o:Nat) (hx:a.eval x=.pointer (some ⟨b,o,none⟩)) (cs:List Value) (d:TypeDesc) (hc:w.rangeAt b o cs) (hu:P.underlying ty=some d) (hd:d.isRow=true) (hi:(P.info? ty).map (·.size)=some cs.length)
    (h:wpListIn F nF P ops Q rest (a.put op.dst (.agg cs.toArray)) w):wpListIn F nF P ops Q (op :: rest) a w:=by
 refine Sf hgd fun K' hK'=>?_
 have hrun:=run_loadAt_mid (P:=P) w b o ty cs d hc hu hd hi;unfold Oper.wpIn;refine ⟨by simp [Oper.about,ho],?_⟩;rw [Oper.semAt_plain F _ _ (by rw [ho];intro c hc';cases hc')]
 simp only [execOp,ho,hx,XX,hrun,XH]
 exact hK' _ _ h
theorem Oj {F:Fence} {Q:Exit→Act→World→Prop} (hgd:op.guard=none) (ty:TypeId) (x y:Operand) (ho:op.op=.store ty x y)
    (b o:Nat) (cells:Array Value) (hx:a.eval x=.pointer (some ⟨b,o,none⟩)) (hy:a.eval y=.agg cells) (ht:w.there b o cells.size) (hi:(P.info? ty).map (·.size)=some cells.size) (h1:cells.all (·.oneCell')=true)
    (h:wpListIn F nF P ops Q rest (a.put op.dst undef) (w.setCells b o cells.toList)):wpListIn F nF P ops Q (op :: rest) a w:=by
 refine Sf hgd fun K' hK'=>?_
 have hrun:=run_storeAt_mid (P:=P) w b o ty cells ht hi h1;unfold Oper.wpIn;refine ⟨by simp [Oper.about,ho],?_⟩;rw [Oper.semAt_plain F _ _ (by rw [ho];intro c hc';cases hc')]
 simp only [execOp,ho,hx,hy,XX,hrun,XH]
 exact hK' _ _ h
theorem NH (w:World) (t:TypeId):∀(vs:List Value) (o:Nat) (cs:Array Value),o+vs.length≤cs.size→(w.alloc (.cells cs t)).setCells w.heap.size o vs=w.alloc (.cells (splice cs.toList o vs).toArray t)
 | [],o,cs,_=>by rw [Lt];simp [World.setCells]
 | v :: vs,o,cs,h=>by
  rw [World.setCells,World.setCell_alloc_at cs t _ o v rfl,NH w t vs (o+1) _ (by simp at h ⊢;omega),Array.toList_setIfInBounds,Mj _ _ _ _ (by simpa using h)]
theorem xQ (w:World) (t:TypeId) (vs:List Value) (cs:Array Value) (h:vs.length=cs.size):(w.alloc (.cells cs t)).setCells w.heap.size 0 vs=w.alloc (.cells vs.toArray t):=by
 rw [NH w t vs 0 cs (by omega),IB _ _ (by simpa using h)]
theorem OD {F:Fence} {w0:World} {cs:Array Value} {Q:Exit→Act→World→Prop} (hgd:op.guard=none) (ty:TypeId) (x y:Operand) (ho:op.op=.store ty x y)
    (cells:Array Value) (hx:a.eval x=.pointer (some ⟨w0.heap.size,0,none⟩)) (hy:a.eval y=.agg cells) (hcs:cells.size=cs.size) (hi:(P.info? ty).map (·.size)=some cells.size) (h1:cells.all (·.oneCell')=true)
    (h:wpListIn F nF P ops Q rest (a.put op.dst undef) (w0.alloc (.cells cells t))):wpListIn F nF P ops Q (op :: rest) a (w0.alloc (.cells cs t)):=by
 refine Oj hgd ty x y ho w0.heap.size 0 cells hx hy (Vn _ _ _ _ hcs.symm) hi h1 ?_;rw [xQ w0 t cells.toList cs (by simpa using hcs)]
 simpa using h
theorem xP (rs:List (Int × List Int)) (i:Nat) (hi:i<rs.length) (h:∀i,i<rs.length→(pD rs i).length=64) (j:Nat) (u:Value) (hu:(Value.int .i64 (pB rs i) :: (pD rs i).map (Value.int .u8))[j]?=some u):(Tn rs)[i*65+j]?=some u:=by
 cases j with
 | zero=>rw [Yj,ye rs i hi h];simpa using hu
 | succ j =>
  rw [Xr] at hu;rw [show i*65+(j+1)=i*65+1+j by omega];exact yd rs i hi h j u hu
def KB (M gd:Nat) (W W':World):Prop:=W.heap.size≤W'.heap.size∧∀q,q<M→q≠gd→W'.heap[q]?=W.heap[q]?
theorem KB.refl (M gd:Nat) (W:World):KB M gd W W:=⟨YR,fun _ _ _=>rfl⟩
theorem KB.trans {C:World} (h:KB M gd A B) (k:KB M gd B C):KB M gd A C:=⟨ZJ h.1 k.1,fun q hq hn=>(k.2 q hq hn).trans (h.2 q hq hn)⟩
theorem KB.alloc (h:KB M gd A B) (hM:M≤B.heap.size) (o:Obj):KB M gd A (B.alloc o):=⟨by have:=h.1;simp;omega,fun q hq hn=>(Below.heap_alloc B o q (by omega)).trans (h.2 q hq hn)⟩
abbrev sI (dl:Nat):={ r:Int × List Int // Fits dl r }
def encR {dl:Nat} (x:sI dl):Array Value:=#[.int .i64 x.1.1,.agg (x.1.2.map (Value.int .u8)).toArray]
def Qp {dl:Nat} (rs:List (Int × List Int)) (h:∀r ∈ rs,Fits dl r):List (sI dl):=rs.pmap (fun r hr=>⟨r,hr⟩) h
theorem Ju {dl:Nat} (rs:List (Int × List Int)) (h:∀r ∈ rs,Fits dl r):(Qp rs h).map (·.1)=rs:=by
 unfold Qp;rw [List.map_pmap]
 simp
theorem all_in (F:Fence) (n:Nat) (h87:F.fn 88) (hro:F.round=none) (p0:Option Addr) (w:World) :
    CallsIn F n Tryz.prog 88 #[.pointer p0] w fun e w'=>e=.returned (.func (.func 137) #[] #[.pointer (some ⟨w.heap.size,0,none⟩)])∧w'=w.alloc (.cells #[.pointer p0] 138):=by
 refine Xb Tryz.func88 rfl h87 ?_ hro
 simp only [Tryz.ntmps88,ZI,ZE,Y7,Nat.reduceAdd,Nat.reduceSub,YV,YU,YI,YT,Zd,Y3]
 gi_wp2;go_ret;exact ⟨rfl,rfl⟩
theorem Qx.len (h:Qx w lo tb mb v rs):rs.length≤9223372036854775807:=by
 rcases h.rows.2 with ⟨-,h1⟩ | ⟨g,cap,cur,-,-,-,h2,h3,-⟩
 · omega
 unfold maxLen at h3;omega
theorem xO (n:Nat) (h:n=65):(Tryz.prog.info? 210).map (·.size)=some n:=by subst h;kernel_rfl
theorem sH (F:Fence) (n:Nat) (h97:F.fn 137) (hro:F.round=none) (hn:1≤n) (l Ba M gd lo tb mb dl:Nat) (v:Value) (rs:List (Int × List Int)) (hf:∀r ∈ rs,Fits dl r) (J Jx:List (sI dl)→World→Prop)
    (hY:∀pre x W,J pre W→pre.length<rs.length→YieldAt F (n - 1) Tryz.prog l (encR x) W fun e W' =>
     (e=.returned (.bool true)∧J (pre++[x]) W'∧KB M gd W W')∨(e=.returned (.bool false)∧Jx (pre++[x]) W'))
    (W:World) (hJ:AbidesFrom W.heap.size J) (hM:M≤W.heap.size) (hvb:∀q,v.ownBlock=some q→q<M∧q≠gd) (hc:W.cell? ⟨Ba,0,none⟩=some (.pointer (some ⟨tb,0,none⟩))) (hT:Qx W lo tb mb v rs) (hlen:rs.length≤9223372036854775807) (h0:J [] W) :
    CallsIn F n Tryz.prog 137 #[.func (.yield l) #[] #[],.pointer (some ⟨Ba,0,none⟩)] W fun e W'=>(∃v,e=.returned v) ∧
     ((∃ys,ys=Qp rs hf∧J ys W')∨(∃pre,True∧Jx pre W')):=by
 obtain ⟨va,U,rfl⟩:∃a c,v=.slice a rs.length c:=by
  rcases hT.rows.2 with ⟨rfl,h1⟩ | ⟨g,cap,cur,rfl,-⟩
  · exact ⟨none,0,by rw [h1]⟩
  exact ⟨_,_,rfl⟩
 have HT:=ZU hT;obtain ⟨⟨zt,c0,c1⟩,-⟩:=hT.box;have HY:Hid (∀pre x W,J pre W→pre.length<rs.length→YieldAt F (n - 1) Tryz.prog l (encR x) W fun e W' =>
     (e=.returned (.bool true)∧J (pre++[x]) W'∧KB M gd W W')∨(e=.returned (.bool false)∧Jx (pre++[x]) W')):=hY
 have HJ:=ZU hJ;have H0:=ZU h0;clear hT hY hJ h0;refine Xb Tryz.func137 rfl h97 ?_ hro
 simp only [Tryz.ntmps137,ZI,ZE,Y7,Nat.reduceAdd,Nat.reduceSub,YV,YU,YI,YT,Zd,Y3]
 gi_wp2;clear c0 c1 hc
 gi_loopw [10] (fun i wr=>∃k:Nat,k≤rs.length∧i=.int .i64 k∧Hid (J ((Qp rs hf).take k) wr)∧Hid (KB M gd W wr)) (fun i _=>rs.length - (intOf i).toNat)
 case atStart=>exact ⟨0,Zu _,rfl,(by rw [WI];exact H0.out),KB.refl _ _ _⟩
 case round =>
  obtain ⟨k,hk,rfl,YX,HG⟩:=hrel;have YW:(Qp rs hf).length=rs.length:=by unfold Qp;simp
  have Y5:=ZU YW;have sg:=HG.out.1;clear YW
  by_cases hlt:k<rs.length
  · obtain ⟨g,cap,e,hg1,hg2,hc1,hc2⟩:=HT.out.form (by omega)
    simp only [ZC,Q0] at e
    obtain ⟨rfl,rfl⟩:=e;obtain ⟨X',hgd⟩:=hvb g rfl;obtain ⟨key,hkey⟩:∃key,key=pB rs k:=⟨_,rfl⟩;obtain ⟨V,hV⟩:∃V,V=(pD rs k).map (Value.int .u8):=⟨_,rfl⟩;obtain ⟨x,hx⟩:∃x,(Qp rs hf)[k]?=some x:=⟨_,ZF (by rw [Y5.out];exact hlt)⟩;have hx1:x.1=(pB rs k,pD rs k):=by
     have h1:((Qp rs hf).map (·.1))[k]?=some x.1:=by rw [Yo,hx];rfl
     rw [Ju,ZF hlt] at h1
     injection h1 with h1
     rw [←h1];unfold pB pD;simp [List.getD,hlt]
    have lT:Hid ((Qp rs hf).take (k+1)=(Qp rs hf).take k++[x]):=by show _=_;rw [TF,hx];rfl
    have henc:encR x=#[.int .i64 key,.agg V.toArray]:=by unfold encR;rw [hx1,hkey,hV]
    have QH:Hid (V.length=64):=by rw [hV];show _=_;rw [Zl];exact HT.out.full k hlt
    have sL:Hid (∀v ∈ V,v.oneCell'=true):=by rw [hV];exact Yi _ _
    have RW:Hid (wr.rangeAt g (k*65) (Value.int .i64 key :: V)):=by
     intro j u hu;rw [hkey,hV] at hu;have hj:j<65:=by have:=(Zh.1 hu).1;simpa [HT.out.full k hlt] using this
     rw [ZP (w:=W) (a:=⟨g,k*65+j,none⟩) (HG.out.2 g X' hgd),Wv HT.out.rows (k*65+j) (by omega)];exact xP rs k hlt HT.out.full j u hu
    have Z6:Hid ((Value.int .i64 key :: V).length=65):=by show _=_;rw [ZE,QH.out]
    have YQ:Hid (∀u ∈ (Value.int .i64 key :: V),u.oneCell'=true):=by
     intro u hu
     rcases Y9.1 hu with rfl | hu
     · rfl
     exact sL.out u hu
    have JA:J ((Qp rs hf).take k) (wr.alloc (.cells (Value.int .i64 key :: V).toArray 210)):=HJ.out _ wr _ none YX.out (WQ _ _ _) (fun r e=>by cases e);have qn:=HY.out _ x _ JA (by rw [Zw,Y5.out];omega);rw [henc] at qn;have R2:Hid ((wr.alloc (.cells (Value.int .i64 key :: V).toArray 210)).rangeAt wr.heap.size 1 V):=by
     intro j u hu;rw [Yz _ _ (1+j) _ _ _ (Zs wr _)];rw [show 1+j=j+1 by omega]
     simpa using hu
    have Rj:(k:Int)<(rs.length:Int):=by omega
    unfold maxLen at hc2;obtain ⟨fn,tmps,assign,body,hy,hR⟩:=qn;clear hkey hV hx hx1 henc JA
    gi_wp2_with (first | (refine Ui rfl 210 _ rfl g (k*65) rfl (Value.int .i64 key :: V) _ (Wk RW.out _) Tryz.underlying210 rfl (xO _ Z6.out) ?_) | (refine Ui rfl 210 _ rfl g (k*65) rfl (Value.int .i64 key :: V) _ RW.out Tryz.underlying210 rfl (xO _ Z6.out) ?_) | (refine OD rfl 210 _ _ rfl (Value.int .i64 key :: V).toArray rfl rfl ?s1 ?s2 ?s3 ?_) | (refine Ui rfl 117 _ rfl wr.heap.size 1 rfl V _ R2.out Tryz.underlying117 rfl (Wi _ QH.out) ?_))
    case s1=>rw [ZI,Z6.out];rfl
    case s2=>rw [ZI];exact xO _ Z6.out
    case s3=>exact XL YQ.out
    refine hR.mono ?_;rintro e W3 (⟨rfl,hJ3,hk3⟩ | ⟨rfl,hJx3⟩)
    · have X9:Hid (J ((Qp rs hf).take (k+1)) W3):=by show J _ _;rw [lT.out];exact hJ3
      have oO:=ZU ((HG.out.alloc (by omega) _).trans hk3);clear hJ3 hk3 hy hR;gi_wp2
      go_roundw
      case rel=>exact ⟨k+1,by omega,by go_num,X9,oO⟩
      case measure=>simp [intOf];omega
    gi_wp2;refine ZW (Wu rfl _ _ _) rfl ?_;exact ⟨⟨_,rfl⟩,.inr ⟨_,trivial,hJx3⟩⟩
  have hkn:k=rs.length:=by omega
  subst hkn;gi_wp2
  go_end0
  exact ⟨⟨_,rfl⟩,.inl ⟨_,rfl,by have:=YX.out;rw [Y8 (by rw [Y5.out];exact YR)] at this;exact this⟩⟩
theorem all_stops (F:Fence) (n:Nat) (h97:F.fn 137) (hro:F.round=none) (hn:1≤n) (Ba M gd lo tb mb dl:Nat) (v:Value) (rs:List (Int × List Int)) (hf:∀r ∈ rs,Fits dl r)
    (w:World) (hM:M≤w.heap.size) (hBa:Ba<w.heap.size) (hvb:∀q,v.ownBlock=some q→q<M∧q≠gd) (hc:w.cell? ⟨Ba,0,none⟩=some (.pointer (some ⟨tb,0,none⟩))) (hT:Qx w lo tb mb v rs) (hlen:rs.length≤9223372036854775807) :
    SeqStopsK F n Tryz.prog 137 #[.pointer (some ⟨Ba,0,none⟩)] (encR (dl:=dl)) (KB M gd) (fun ys=>ys=Qp rs hf) (fun _=>True) rs.length w:=fun l J Jx W hW hJ _ hY h0 =>
 sH F n h97 hro hn l Ba M gd lo tb mb dl v rs hf J Jx hY W hJ (ZJ hM hW.size) hvb ((hW.cell (p:=⟨Ba,0,none⟩) hBa).trans hc) (hT.below hW) hlen h0
attribute [local go_sem] Yv
theorem IA (w:World) (va vb:Option Addr) (dl ca n cb:Nat) (YN:List Int) (ps:List (Int × List Int)) (hd:Rd .u8 w (.slice va dl ca) YN) (hdl:YN.length=dl) (hp:J8 w (.slice vb n cb) ps) (hl:ps.length=n)
    (hv:QX dl ps=true) (hd1:dl≤1048576) (Lm:∀i,(pD ps i).length≤1048576) :
    Calls Tryz.prog 83 #[.agg #[.slice va dl ca,.slice vb n cb]] w fun e w'=>∃v1,e=.returned (.agg #[v1,.slice none 0 0])∧Own .u8 5 w' w.heap.size v1 (tL YN ps (fun _=>64) n)∧Zi w w':=by
 have HD:=ZU hd;have HP:=ZU hp;have HL:=ZU hl;have OO:=ZU hdl;have HV:=ZU hv;have AE:=ZU Lm;have hdp:0<dl:=by have:=((Su dl ps).1 hv).2.1;omega
 have hn2:n≤2000:=by have:=((Su dl ps).1 hv).2.2.2.1;omega
 have BA:Hid (∀o1 o2,Zi w ((w.alloc o1).alloc o2)):=fun o1 o2=>(Yy.alloc YR _).alloc (by simp) _
 clear hd hp hl hdl hv Lm;refine (YK (n:=6)).1 ?_;refine callsIn_of_wp_marks Tryz.func83 rfl trivial ?_ rfl
 simp only [Tryz.ntmps83,ZI,ZE,Y7,Nat.reduceAdd,Nat.reduceSub,YV,YU,YI,YT,Zd,Y3]
 gi_wp2_with fail
 refine ⟨trivial,?_⟩;have YO:Hid (SU ((w.alloc (.cells #[.slice va dl ca,.slice vb n cb] 52)).alloc (.cells #[.slice none 0 0,.slice none 0 0] 52)) w.heap.size (.slice va dl ca) (.slice vb n cb)):=(SU.new w _ _ _).below (Yy.alloc YR _);have ZK:Hid (SU ((w.alloc (.cells #[.slice va dl ca,.slice vb n cb] 52)).alloc (.cells #[.slice none 0 0,.slice none 0 0] 52)) (w.heap.size+1) (.slice none 0 0) (.slice none 0 0)):=by
  have:=SU.new (w.alloc (.cells #[.slice va dl ca,.slice vb n cb] 52)) (.slice none 0 0) (.slice none 0 0) 52;show SU _ _ _ _
  simpa using this
 have B0:=BA.out (.cells #[.slice va dl ca,.slice vb n cb] 52) (.cells #[.slice none 0 0,.slice none 0 0] 52);have HB0:=ZU B0;clear B0 BA;generalize (w.alloc _).alloc _=w0 at *;refine (YK.2 (Qy _ va vb dl ca n cb ps (HP.out.below HB0.out) HL.out hd1 (by omega) AE.out)).mono ?_;rintro e w1 ⟨rfl,b1⟩;rw [HV.out];have HB1:=ZU (WD HB0.out b1);have Zt:=ZU (YO.out.below b1);have ZG:=ZU (ZK.out.below b1);have s1:=HB1.out.size;have X3:=Zt.out.1.1;have X2:=ZG.out.1.1;clear b1 YO ZK HB0;obtain ⟨⟨z1,c0,c1⟩,-⟩:=Zt.out
 gi_wp2_with fail
 refine ⟨trivial,?_⟩;refine (YK.2 (Jy _ _ YN (HD.out.below HB1.out) (by have:=OO.out;omega))).mono ?_;rintro e w2 ⟨v2,rfl,o2,b2⟩;obtain ⟨g,cap,rfl,hg0,hg1⟩:=o2.pos OO.out hdp;have O2:=ZU o2;have HB2:=ZU (HB1.out.trans (b2.mono s1));have YL:=ZU (Zt.out.below b2);have YE:=ZU (ZG.out.below b2);have s2:=HB2.out.size;clear o2 b2 Zt ZG HB1 z1 c0 c1;obtain ⟨⟨z1,c0,c1⟩,-⟩:=YL.out
 gi_wp2_with fail
 refine ⟨trivial,?_⟩;have Zr:Hid (Zi w2 (w2.alloc (.cells #[.slice (some ⟨g,0,none⟩) dl cap] 22))):=Yy.alloc YR _;have YD:Hid (Boxed (w2.alloc (.cells #[.slice (some ⟨g,0,none⟩) dl cap] 22)) w2.heap.size 22 (.slice (some ⟨g,0,none⟩) dl cap)):=Boxed.new _ _ _;have s3:(w2.alloc (.cells #[.slice (some ⟨g,0,none⟩) dl cap] 22)).heap.size=w2.heap.size+1:=by simp
 clear z1 c0 c1;generalize w2.alloc _=w3 at *;have O3:=ZU (O2.out.below Zr.out);have HB3:=ZU (HB2.out.trans (Zr.out.mono s2));have YC:=ZU (YE.out.below Zr.out);clear O2 HB2 YL YE Zr;refine (YK.2 (IC w3 va vb dl ca n cb YN ps OO.out (HP.out.below HB3.out) HL.out HV.out)).mono ?_;rintro e w4 ⟨rfl,⟨tv,rs,ht,hof⟩,b4⟩;have O4:=ZU (O3.out.below b4);have oN:=ZU (HB3.out.trans (b4.mono (by omega)));have YB:=ZU (YC.out.below b4);have Yx:Hid (Boxed w4 w2.heap.size 22 (.slice (some ⟨g,0,none⟩) dl cap)):=(b4.block w2.heap.size (by omega)).trans YD.out;have Ys:=ZU ht;have yI:=ZU hof;have s4:=ht.box.1.1;clear b4 O3 HB3 YC YD ht hof
 gi_wp2_with fail
 refine ⟨trivial,?_⟩;refine (all_in Fence.wide _ trivial rfl _ _).mono ?_;rintro e w5 ⟨rfl,NG⟩;have s5:w5.heap.size=w4.heap.size+1:=by rw [NG];simp
 have b5:Zi w4 w5:=by rw [NG];exact Yy.alloc YR _
 have Yr:Hid (w5.cell? ⟨w4.heap.size,0,none⟩=some (.pointer (some ⟨w3.heap.size+2,0,none⟩))):=by rw [NG];show _=_;simp
 have O5:=ZU (O4.out.below b5);have X8:=ZU (oN.out.trans (b5.mono (by omega)));have X7:=ZU (YB.out.below b5);have X6:Hid (Boxed w5 w2.heap.size 22 (.slice (some ⟨g,0,none⟩) dl cap)):=(b5.block w2.heap.size (by omega)).trans Yx.out;have ZZ:=ZU (Ys.out.below b5);clear NG b5 O4 oN YB Yx Ys
 gi_wp2_with fail
 have hfit:=Cc dl rs (fun i hi=>by have:=yI.out.2 i hi;rw [OO.out] at this;exact this) ZZ.out.full;have hvb:∀q,tv.ownBlock=some q→q<w5.heap.size∧q≠g:=fun q hq=>by have:=ZT ZZ.out.rows q hq;omega
 have hrl:=ZZ.out.len;have hfin:lays YN rs=tL YN ps (fun _=>64) n:=by
  have:=xS YN ps rs (by rw [OO.out];exact HV.out) (by rw [HL.out];exact yI.out) ZZ.out.full ZZ.out.apart;rw [HL.out] at this;exact this
 have PR:=ZU hfin;clear hfin;refine wpIn_rangeFunc_ownH (F:=Fence.wide) (n:=6) rfl (by omega) (gf:=137) (lb:=#[.pointer (some ⟨w4.heap.size,0,none⟩)]) rfl trivial (enters_of Tryz.func137 (by kernel_rfl) rfl)
  (all_stops Fence.wide (6 - 1) trivial rfl (by omega) w4.heap.size w5.heap.size g _ _ _ dl tv rs hfit w5 YR (by omega) hvb Yr.out ZZ.out hrl)
  (fun h k=>KB.trans h k)
  (fun W l o o' hl h _ _=>⟨(grownBy_putObj' W l o').size,fun q hq _=>(grownBy_putObj' W l o').block q (by have:=(Z3.1 h).1;omega) (fun e=>by injection e with e;omega)⟩)
  Yy (fun _=>rfl)
  (fun pre W=>Boxed W w2.heap.size 22 (.slice (some ⟨g,0,none⟩) dl cap)∧Own .u8 5 W w1.heap.size (.slice (some ⟨g,0,none⟩) dl cap) (lays YN (pre.map (·.1)))∧SU W (w.heap.size+1) (.slice none 0 0) (.slice none 0 0)∧Zi w W∧w5.heap.size≤W.heap.size)
  (fun _ _ _=>False)
  (fun s X Y row hs hg hr=>⟨(hg.block w2.heap.size (by have:=hs.2.2.2.2;omega) (fun e=>by have:=(hr _ e.symm).1;omega)).trans hs.1,hs.2.1.other hg (.inr (fun e=>by have:=(hr g (by rw [←e];rfl)).1;omega)),hs.2.2.1.other hg (fun e=>by have:=(hr _ e.symm).1;omega),hs.2.2.2.1.grown hg (by have:=hs.2.2.2.1.size;omega) (fun q e=>by have:=(hr q e).1;omega),ZJ hs.2.2.2.2 hg.size⟩)
  (fun _ _ _ _ _ hs _ _=>hs)
  ⟨X6.out,O5.out,X7.out,X8.out,YR⟩
  (fun x a' W=>∃Bx,w5.heap.size≤Bx∧W.heap[Bx]?=some (.cells (x.1.2.map (Value.int .u8)).toArray 117 (0,0))∧a'={ tmps:=#[.agg #[.slice va dl ca,.slice vb n cb],.pointer (some ⟨w.heap.size,0,none⟩),.pointer (some ⟨w.heap.size+1,0,none⟩),.pointer (some ⟨w2.heap.size,0,none⟩),.int .i64 x.1.1,.pointer (some ⟨Bx,0,none⟩),.agg #[.slice va dl ca,.slice vb n cb],.bool true,.bool false,undef,.pointer (some ⟨w.heap.size,0,none⟩),.slice va dl ca,.slice (some ⟨g,0,none⟩) dl cap,.agg #[.slice va dl ca,.slice vb n cb],.pointer (some ⟨w2.heap.size+1+2,0,none⟩),.func (.func 137) #[] #[.pointer (some ⟨w4.heap.size,0,none⟩)],.int .i64 x.1.1,.agg (x.1.2.map (Value.int .u8)).toArray,undef,undef,undef,undef,undef,undef],defers:=[] })
  (fun x a' _ X Y row hs hg hr=>by
   obtain ⟨Bx,h1,h2,h3⟩:=hs;exact ⟨Bx,h1,(hg.block Bx (Z3.1 h2).1 (fun e=>by obtain ⟨-,o,ho,hc⟩:=hr Bx e.symm;rw [h2] at ho;injection ho with ho;rw [←ho] at hc;cases hc)).trans h2,h3⟩)
  ?assign ?body ?done ?stop
 case assign =>
  rintro l pre ⟨⟨key,O⟩,b,hb1,hb2,T⟩ W K hi hK;unfold encR;dsimp only at hb1 T ⊢;subst hb1;have QH:Hid ((O.map (Value.int .u8)).length=64):=by show _=_;rw [Zl];exact T
  gi_wp2_with (refine OD rfl 117 _ _ rfl (O.map (Value.int .u8)).toArray rfl rfl (by rw [ZI,QH.out];rfl) (by rw [ZI];exact Wi _ QH.out) (XL (Yi _ _)) ?_)
  have hs:=hi.2.2.2.2;refine hK _ _ ((KeepsOthers.alloc _ _).from _) ((KB.refl _ _ W).alloc hs _) ⟨hi.1.alloc _,hi.2.1.below (Yy.alloc YR _),hi.2.2.1.below (Yy.alloc YR _),hi.2.2.2.1.alloc hi.2.2.2.1.size _,by simp;omega⟩ ⟨W.heap.size,hs,Zs W _,rfl⟩
 case body =>
  rintro l pre ⟨⟨key,O⟩,b,hb1,hb2,T⟩ a' W hl ⟨r,hr⟩ ⟨bX,oW,xR,hB,hs⟩ ⟨Bx,hBx,hcell,rfl⟩ hlt;dsimp only at hb1 T hcell ⊢;subst hb1;have cX:=bX.cell;have hmem:∀q ∈ pre.map (·.1),Fits dl q:=by
   intro q hq;obtain ⟨y,-,rfl⟩:=List.mem_map.1 hq;exact y.2
  have hlen:(lays YN (pre.map (·.1))).length=dl:=by rw [Lo YN _ (by rw [OO.out];exact hmem),OO.out]
  have QH:Hid ((O.map (Value.int .u8)).length=64):=by show _=_;rw [Zl];exact T
  have RG:Hid (W.rangeAt Bx 0 (O.map (Value.int .u8))):=by
   intro j u hu;rw [Za,Yz W Bx j _ _ _ hcell]
   simpa using hu
  gi_wp2_with (refine Ui rfl 117 _ rfl Bx 0 rfl (O.map (Value.int .u8)) _ RG.out Tryz.underlying117 rfl (Wi _ QH.out) ?_)
  refine ⟨trivial,?_⟩;refine (CallsIn.inRound l (YK.2 (NO W w1.heap.size g dl cap b _ O oW hlen T hb2 hd1))).mono ?_;rintro e W' ⟨rfl,o',g'⟩;have hgz:=(ZT oW g rfl).2;have Yq:Hid (lays YN ((pre++[(⟨((b:Int),O),⟨b,rfl,hb2,T⟩⟩:sI dl)]).map (·.1))=splice (lays YN (pre.map (·.1))) (b*64) O):=by
   show _=_;rw [Y6,Yl,WO,MS,Ze]
  gi_wp2;refine ⟨KeepsFrom.of_grownBy g' (fun j e=>by injection e with e;omega),⟨g'.size,fun q hq hn=>g'.block q (by omega) (by simpa using hn)⟩,⟨(g'.block w2.heap.size (by omega) (by simp;omega)).trans bX,?_,xR.other g' (by simp;omega),hB.grown g' (by have:=hB.size;omega) (fun q e=>by injection e with e;omega),ZJ hs g'.size⟩⟩;rw [Yq.out];exact o'
 case done =>
  rintro D xs W hD rfl ⟨bX,oW,xR,hB,hs⟩ hK;rw [Ju,PR.out] at oW;have cX:=bX.cell;obtain ⟨⟨zr,d0,d1⟩,f0,f1⟩:=xR;have HO:=ZU oW;gi_wp2;have hK2:((W.setCell ⟨w.heap.size+1,0,none⟩ (.slice (some ⟨g,0,none⟩) dl cap)).setCell ⟨w.heap.size+1,1,none⟩ (.slice none 0 0)).heap[D]?=some (.deferred (some [])):=(KeepsOthers.setCell _ _ _).same D _ ((KeepsOthers.setCell _ _ _).same D _ hK rfl) rfl;refine ⟨by simp,.inl ⟨_,_,rfl,run_takeDeferred hK2,?_⟩⟩;have x0:((W.setCell ⟨w.heap.size+1,0,none⟩ (.slice (some ⟨g,0,none⟩) dl cap)).setCell ⟨w.heap.size+1,1,none⟩ (.slice none 0 0)).cell? ⟨w.heap.size+1,0,none⟩=some (.slice (some ⟨g,0,none⟩) dl cap):=by
   rw [ZV _ _ _ _ (by simp)];exact Zk _ _ _ d0
  have x1:((W.setCell ⟨w.heap.size+1,0,none⟩ (.slice (some ⟨g,0,none⟩) dl cap)).setCell ⟨w.heap.size+1,1,none⟩ (.slice none 0 0)).cell? ⟨w.heap.size+1,1,none⟩=some (.slice none 0 0) :=
   Zk _ _ _ (by rw [ZV _ _ _ _ (by simp)];exact d1)
  have OX:Own .u8 5 ((W.setCell ⟨w.heap.size+1,0,none⟩ (.slice (some ⟨g,0,none⟩) dl cap)).setCell ⟨w.heap.size+1,1,none⟩ (.slice none 0 0)) w1.heap.size (.slice (some ⟨g,0,none⟩) dl cap) (tL YN ps (fun _=>64) n) :=
   (HO.out.setAt (.inr (by simp [Value.ownBlock];omega))).setAt (.inr (by simp [Value.ownBlock];omega))
  have BX:Zi w ((W.setCell ⟨w.heap.size+1,0,none⟩ (.slice (some ⟨g,0,none⟩) dl cap)).setCell ⟨w.heap.size+1,1,none⟩ (.slice none 0 0)):=(hB.setCell (by simp) _).setCell (by simp) _;have SX:((W.setCell ⟨w.heap.size+1,0,none⟩ (.slice (some ⟨g,0,none⟩) dl cap)).setCell ⟨w.heap.size+1,1,none⟩ (.slice none 0 0)).heap.size=W.heap.size:=by simp
  generalize (W.setCell _ _).setCell _ _=X at *;have GX:=grownBy_putObj' X D (.deferred none);have y0:=(ZP (w:=X) (a:=⟨w.heap.size+1,0,none⟩) (GX.block (w.heap.size+1) (by omega) (by simp;omega))).trans x0;have y1:=(ZP (w:=X) (a:=⟨w.heap.size+1,1,none⟩) (GX.block (w.heap.size+1) (by omega) (by simp;omega))).trans x1;have OF:=OX.other GX (.inr (by simp [Value.ownBlock];omega));have BF:=BX.grown GX (by omega) (fun q e=>by injection e with e;omega);generalize X.putObj D (.deferred none)=Z at *;refine ⟨.agg #[.slice (some ⟨g,0,none⟩) dl cap,.slice none 0 0],?_,_,rfl,OF.mono s1,BF⟩
  simp [results,Tryz.results83,go_sem,y0,y1]
 case stop =>
  rintro D c pre W _ _ h _;exact h.elim
theorem Gt (w:World) (va vb:Option Addr) (dl ca n cb:Nat) (ps:List (Int × List Int)) (hp:J8 w (.slice vb n cb) ps) (hl:ps.length=n)
    (hno:QX dl ps=false) (hn:n≤1048576) (hd1:dl≤1048576) (Lm:∀i,(pD ps i).length≤1048576) :
    Calls Tryz.prog 83 #[.agg #[.slice va dl ca,.slice vb n cb]] w (Wj w (.agg #[.slice none 0 0,.slice none 0 0])):=by
 have HP:=ZU hp;have HL:=ZU hl;have AE:=ZU Lm;have BA:Hid (∀o1 o2,Zi w ((w.alloc o1).alloc o2)):=fun o1 o2=>(Yy.alloc YR _).alloc (by simp) _
 clear hp hl Lm
 go_enter Tryz.func83,Tryz.ntmps83
 go_wp2_with fail
 have ZK:Hid (SU ((w.alloc (.cells #[.slice va dl ca,.slice vb n cb] 52)).alloc (.cells #[.slice none 0 0,.slice none 0 0] 52)) (w.heap.size+1) (.slice none 0 0) (.slice none 0 0)):=by
  have:=SU.new (w.alloc (.cells #[.slice va dl ca,.slice vb n cb] 52)) (.slice none 0 0) (.slice none 0 0) 52;show SU _ _ _ _
  simpa using this
 have B0:=BA.out (.cells #[.slice va dl ca,.slice vb n cb] 52) (.cells #[.slice none 0 0,.slice none 0 0] 52);have HB0:=ZU B0;clear B0 BA;generalize (w.alloc _).alloc _=w0 at *;refine (Qy _ va vb dl ca n cb ps (HP.out.below HB0.out) HL.out hd1 hn AE.out).mono ?_;rintro e w1 ⟨rfl,b1⟩;have HB1:=ZU (WD HB0.out b1);have ZG:=ZU (ZK.out.below b1);clear b1 ZK HB0;obtain ⟨⟨zr,d0,d1⟩,f0,f1⟩:=ZG.out;rw [hno];clear hno;go_wp2;refine ZW (v:=.agg #[.slice none 0 0,.slice none 0 0]) (by simp [results,Tryz.results83,go_sem,d0,d1]) rfl ⟨rfl,?_⟩
 repeat (first | exact HB1.out | refine Below.setCell ?_ (by simp;try omega) _)
theorem NF (w:World) (v1 v2:Value) (YN:List Int) (ps:List (Int × List Int)) (hd:Rd .u8 w v1 YN) (hp:J8 w v2 ps) (hdl:YN.length≤1048576) (hn:ps.length≤1048576) (Lm:∀i,(pD ps i).length≤1048576) :
    Calls Tryz.prog 83 #[.agg #[v1,v2]] w fun e w'=>∃u,e=.returned (.agg #[u,.slice none 0 0])∧Own .u8 5 w' w.heap.size u (MT YN ps)∧Zi w w':=by
 obtain ⟨va,ca,rfl,-⟩:=hd.len;obtain ⟨vb,cb,rfl,-⟩:=id hp;unfold MT
 cases h:QX YN.length ps with
 | true =>
  simp only [Vo]
  exact IA w va vb YN.length ca ps.length cb YN ps hd rfl hp rfl h hdl Lm
 | false =>
  simp only [Yu,WW]
  refine (Gt w va vb YN.length ca ps.length cb ps hp rfl h hn hdl Lm).mono ?_;rintro e w' ⟨rfl,b⟩;exact ⟨_,rfl,ZH _ _ _ _,b⟩
theorem Se.Cb {hi B:Nat} {vd vk u:Value} {YN:List Int} {ps:List (Int × List Int)} {dv:Nat→Value} (ho:Se w lo hi vd vk YN ps dv) (h1:vd.ownBlock≠some B) (h2:vk.ownBlock≠some B) (h3:∀i,i<ps.length→(dv i).ownBlock≠some B):Se (w.setCell ⟨B,j,none⟩ u) lo hi vd vk YN ps dv :=
 ⟨ho.d.setAt (.inr h1),⟨Zn ho.p.1 (grownBy_set w w B j u (Zz _ _)) (.inr h2),fun i hi=>(ho.p.2.1 i hi).setAt (.inr (h3 i hi)),ho.p.2.2.1,ho.p.2.2.2⟩,ho.lU,ho.oX,ho.iS,ho.dp,ho.dq⟩
theorem DI (w:World) (b o lo:Nat) (vd vp:Value) (YN:List Int) (ps:List (Int × List Int)) (dv:Nat→Value) (lim made x:Int) (C:List Int) (L:List Value) (hC:C.length=64) (hS:St w b L) (l1:L[o+1]?=some vp) (l2:L[o+2]?=some (.int .i64 lim)) (l3:L[o+3]?=some (.int .i64 made)) (hD:Se w lo w.heap.size vd vp YN ps dv) (hlo:lo≤w.heap.size) (hne:vp.ownBlock≠some b) (hnd:vd.ownBlock≠some b) (hnq:∀i,i<ps.length→(dv i).ownBlock≠some b) (hl:-9223372036854775808≤lim∧lim≤9223372036854775807) (hm:0≤made∧made≤10000) (hn:ps.length≤1000000) (h:OG lim made≠0) :
    Calls Tryz.prog 89 #[.pointer (some ⟨b,o,none⟩),.int .i64 x,.agg (C.map (Value.int .u8)).toArray] w fun e w'=>e=.returned (.bool true)∧∃xN oM,St w' b ((L.set (o+3) (.int .i64 (made+1))).set (o+1) xN)∧Se w' lo w'.heap.size vd xN YN (ps++[(x,C)]) oM∧xN.ownBlock≠some b∧(∀i,i<(ps++[(x,C)]).length→(oM i).ownBlock≠some b)∧Tw w b vp.ownBlock w' xN.ownBlock:=by
 have hlt:=hS.lt;have HC:Hid (∀W,Zi w W→Calls Tryz.prog 138 #[.pointer (some ⟨b,o,none⟩)] W fun e w'=>e=.returned (.bool true)∧∃w1,Zi W w1∧w'=w1.setCell ⟨b,o+3,none⟩ (.int .i64 (made+1))):=fun W hW =>
  have hS':=hS.Xe hW hlt
  Jw W b o lim made (hS'.cl _ _ l2) (hS'.cl _ _ l3) (hS'.fz _) hS'.lt hl hm h
 have BA:Hid (Zi w (w.alloc (.cells (C.map (Value.int .u8)).toArray 117))):=Yy.alloc YR _;have RA:Hid ((w.alloc (.cells (C.map (Value.int .u8)).toArray 117)).rangeAt w.heap.size 0 (C.map (Value.int .u8))):=by
  have h9:=Pd w (C.map (Value.int .u8)).toArray 117;show World.rangeAt _ _ _ _
  simpa using h9
 have hsA:(w.alloc (.cells (C.map (Value.int .u8)).toArray 117)).heap.size=w.heap.size+1:=by simp
 have GQ:Hid (∀v ∈ (C.map (Value.int .u8)),v.oneCell'=true):=Yi _ _;have HX:Hid ((C.map (Value.int .u8)).length=64):=by show _=_;simpa using hC
 have HS:=ZU hS;have HD:=ZU hD;have Yn:Hid (∀W,Se W lo w.heap.size vd vp YN ps dv→w.heap.size≤W.heap.size→St W b (L.set (o+3) (.int .i64 (made+1)))→Calls Tryz.prog 139 #[.pointer (some ⟨b,o,none⟩),.int .i64 x,.agg (C.map (Value.int .u8)).toArray] W fun e w'=>e=.returned (.tuple #[])∧∃w5 g cap v,Se w5 lo w5.heap.size vd (.slice (some ⟨g,0,none⟩) (ps.length+1) cap) YN (ps++[(x,C)]) (QB dv ps.length v)∧W.grownBy w5 vp.ownBlock∧(vp.ownBlock=some g∨W.heap.size≤g)∧v.ownBlock=some W.heap.size∧w'=w5.setCell ⟨b,o+1,none⟩ (.slice (some ⟨g,0,none⟩) (ps.length+1) cap)):=fun W hW hs hst =>
  II W b o lo w.heap.size vd vp YN ps dv x C hW hs (by omega) (hst.cl _ _ (by rw [VK (by omega)];exact l1)) (hst.fz _) hst.lt hne hC hn
 generalize hX:C.map (Value.int .u8)=X at *;clear h l2 l3 hS hD
 go_enter Tryz.func89,Tryz.ntmps89
 go_wp2_with fail
 refine (HC.out _ BA.out).mono ?_;rintro e w2 ⟨rfl,w1,b1,rfl⟩;have B1:=ZU (WD BA.out b1);have S2:Hid (St (w1.setCell ⟨b,o+3,none⟩ (.int .i64 (made+1))) b (L.set (o+3) (.int .i64 (made+1)))):=(HS.out.Xe B1.out hlt).set _ _;have D2:Hid (Se (w1.setCell ⟨b,o+3,none⟩ (.int .i64 (made+1))) lo w.heap.size vd vp YN ps dv):=(HD.out.below B1.out).Cb hnd hne hnq;have T2:Hid (Tw w b vp.ownBlock (w1.setCell ⟨b,o+3,none⟩ (.int .i64 (made+1))) vp.ownBlock):=(Tw.YZ B1.out _ _).set;have R2:Hid ((w1.setCell ⟨b,o+3,none⟩ (.int .i64 (made+1))).rangeAt w.heap.size 0 X):=by
  have h8:w1.heap[w.heap.size]?=_:=b1.block w.heap.size (by omega);exact Wd RA.out ((Below.heap_setCell w1 ⟨b,o+3,none⟩ _ w.heap.size (by show w.heap.size≠b;omega)).trans h8)
 have z2:w.heap.size≤(w1.setCell ⟨b,o+3,none⟩ (.int .i64 (made+1))).heap.size:=by simpa using B1.out.size
 have z2b:w.heap.size<(w1.setCell ⟨b,o+3,none⟩ (.int .i64 (made+1))).heap.size:=by have:=b1.size;simp;omega
 clear b1 B1 BA RA HC HS HD hsA;generalize w1.setCell _ _=w2 at *
 go_wp2_with fail
 refine ZX (S:=fun W=>W.rangeAt w.heap.size 0 X) (by kernel_rfl) R2.out (fun Z9=>?_);have S3:Hid (St w2.drew b (L.set (o+3) (.int .i64 (made+1)))):=S2.out.below (below_drewN' w2 1);have D3:Hid (Se w2.drew lo w.heap.size vd vp YN ps dv):=D2.out.below (below_drewN' w2 1);have T3:Hid (Tw w b vp.ownBlock w2.drew vp.ownBlock):=T2.out.trans (Tw.YZ (below_drewN' w2 1) _ _);have z3:w.heap.size≤w2.drew.heap.size:=z2;have z4:w.heap.size<w2.drew.heap.size:=z2b;clear S2 D2 T2 R2 z2 z2b;generalize w2.drew=w3 at *
 iterate 4 (refine Zf ?_ (by kernel_rfl) (fun _=>id) Z9 ?_ ?_;rotate_left;· intro w9 ZQ;clear ZQ;go_simp;try with_reducible rfl)
 refine PM (i:=4) (oi:=⟨some 14,_,_,_,_,_⟩) (v:=.agg (X).toArray) rfl (by kernel_rfl) (fun _ _ _ h=>h) (VN (by rfl) _ _ rfl _ _ rfl (X) _ (fun w' hSw=>hSw) Tryz.underlying117 rfl (Wi _ HX.out)) (by assumption) ?_;refine YS 5 rfl (by kernel_rfl) (fun K hK=>?_);go_simp;refine (Yn.out _ D3.out z3 S3.out).mono ?_;rintro e w6 ⟨rfl,w5,g,cap,v,D5,G5,hg,hv,rfl⟩;have hvb:vp.ownBlock≠some w.heap.size:=fun e=>by have:=D3.out.oX _ e;omega
 have R6:(w5.setCell ⟨b,o+1,none⟩ (.slice (some ⟨g,0,none⟩) (ps.length+1) cap)).rangeAt w.heap.size 0 X :=
  Wd Z9 ((Below.heap_setCell w5 ⟨b,o+1,none⟩ _ w.heap.size (by show w.heap.size≠b;omega)).trans (G5.block w.heap.size z4 (Ne.symm hvb)))
 refine hK.out _ _ R6 (fun YA=>?_);clear hK K YA;refine ZR (by kernel_rfl) ?_ _
 try simp only [Act.put,WV,WU,WT]
 have hgb:g≠b:=by
  rcases hg with h9 | h9
  · intro e;rw [e] at h9;exact hne h9
  have:=S3.out.lt;omega
 have Y4:∀i,i<(ps++[(x,C)]).length→(QB dv ps.length v i).ownBlock≠some b:=by
  intro i hi;unfold QB
  split
  · rw [hv];intro e;injection e with e;have:=S3.out.lt;omega
  rename_i hni;exact hnq i (by simp at hi;omega)
 have FIN:Hid (∃xN oM,St (w5.setCell ⟨b,o+1,none⟩ (.slice (some ⟨g,0,none⟩) (ps.length+1) cap)) b ((L.set (o+3) (.int .i64 (made+1))).set (o+1) xN)∧Se (w5.setCell ⟨b,o+1,none⟩ (.slice (some ⟨g,0,none⟩) (ps.length+1) cap)) lo (w5.setCell ⟨b,o+1,none⟩ (.slice (some ⟨g,0,none⟩) (ps.length+1) cap)).heap.size vd xN YN (ps++[(x,C)]) oM∧xN.ownBlock≠some b∧(∀i,i<(ps++[(x,C)]).length→(oM i).ownBlock≠some b)∧Tw w b vp.ownBlock (w5.setCell ⟨b,o+1,none⟩ (.slice (some ⟨g,0,none⟩) (ps.length+1) cap)) xN.ownBlock):=by
  have hl3:=S3.out.lt;have T5:Tw w3 b vp.ownBlock w5 (some g):=by
   refine ⟨G5.os,G5.tape,G5.output,G5.size,fun q hq _ ho=>G5.block q hq (Ne.symm ho),?_⟩
   rcases hg with h9 | h9
   · exact .inl h9.symm
   exact .inr (.inr ⟨g,rfl,h9⟩)
  have S5:St w5 b (L.set (o+3) (.int .i64 (made+1))):=by
   have e:=G5.block b hl3 (Ne.symm hne);refine ⟨ZY hl3 G5.size,fun j=>?_,fun j v hv=>(ZP (w:=w3) (a:=⟨b,j,none⟩) e).trans (S3.out.cl j v hv)⟩;have:=S3.out.fz j;unfold World.frozen? at this ⊢;rw [e];exact this
  refine ⟨_,_,S5.set (o+1) (.slice (some ⟨g,0,none⟩) (ps.length+1) cap),?_,by simp [Value.ownBlock];exact hgb,Y4,?_⟩
  · have h9:=D5.Cb (j:=o+1) (u:=.slice (some ⟨g,0,none⟩) (ps.length+1) cap) hnd (by simp [Value.ownBlock];exact hgb) Y4
    simpa using h9
  exact (T3.out.trans T5).set
 clear Z9 S3 D3 T3 D5 G5 hg hv Yn Y4 R6 hvb;generalize w5.setCell _ _=w6 at *;go_wp2;go_ret;exact ⟨rfl,FIN.out⟩
theorem AD (w:World) (b o:Nat) (vd vp:Value) (YN:List Int) (ps:List (Int × List Int)) (lim made:Int) (L:List Value) (hS:St w b L) (l0:L[o]?=some vd) (l1:L[o+1]?=some vp) (l2:L[o+2]?=some (.int .i64 lim)) (l3:L[o+3]?=some (.int .i64 made)) (hd:∀W,Tw w b none W none→Rd .u8 W vd YN∧J8 W vp ps) (hdl:YN.length≤1048576) (hpl:ps.length≤1048576) (Lm:∀i,(pD ps i).length≤1048576) (hl:-9223372036854775808≤lim∧lim≤9223372036854775807) (hm:0≤made∧made≤10000) (h:OG lim made≠0) :
    Calls Tryz.prog 91 #[.pointer (some ⟨b,o,none⟩)] w fun e w'=>e=.returned (.bool true)∧∃u,St w' b (((L.set (o+3) (.int .i64 (made+1))).set o u).set (o+1) (.slice none 0 0))∧Own .u8 5 w' w.heap.size u (MT YN ps)∧Tw w b vp.ownBlock w' vp.ownBlock:=by
 have hlt:=hS.lt;have HC:Hid (Calls Tryz.prog 138 #[.pointer (some ⟨b,o,none⟩)] w fun e w'=>e=.returned (.bool true)∧∃w1,Zi w w1∧w'=w1.setCell ⟨b,o+3,none⟩ (.int .i64 (made+1))) :=
  Jw w b o lim made (hS.cl _ _ l2) (hS.cl _ _ l3) (hS.fz _) hS.lt hl hm h
 have HS:=ZU hS;have kX:Hid (∀W,Tw w b none W none→Calls Tryz.prog 83 #[.agg #[vd,vp]] W fun e w'=>∃u,e=.returned (.agg #[u,.slice none 0 0])∧Own .u8 5 w' W.heap.size u (MT YN ps)∧Zi W w'):=fun W hW =>
  NF W vd vp YN ps (hd W hW).1 (hd W hW).2 hdl hpl Lm
 have L0:Hid ((L.set (o+3) (.int .i64 (made+1)))[o]?=some vd∧(L.set (o+3) (.int .i64 (made+1)))[o+1]?=some vp):=⟨by rw [VK (by omega)];exact l0,by rw [VK (by omega)];exact l1⟩;clear h l0 l1 l2 l3 hS hd
 go_enter Tryz.func91,Tryz.ntmps91
 go_wp2_with fail
 refine (HC.out).mono ?_;rintro e w2 ⟨rfl,w1,b1,rfl⟩;have S2:Hid (St (w1.setCell ⟨b,o+3,none⟩ (.int .i64 (made+1))) b (L.set (o+3) (.int .i64 (made+1)))):=(HS.out.Xe b1 hlt).set _ _;have T2:Hid (Tw w b vp.ownBlock (w1.setCell ⟨b,o+3,none⟩ (.int .i64 (made+1))) vp.ownBlock):=(Tw.YZ b1 _ _).set;have Ym:Hid (Tw w b none (w1.setCell ⟨b,o+3,none⟩ (.int .i64 (made+1))) none):=(Tw.YZ b1 _ _).set;clear b1 HC HS;generalize w1.setCell _ _=w2 at *;have q0:=S2.out.cl _ _ L0.out.1;have q1:=S2.out.cl _ _ L0.out.2
 go_wp2_with fail
 refine (kX.out _ Ym.out).mono ?_;rintro e w3 ⟨u,rfl,o3,b3⟩;obtain ⟨ua,uc,hu⟩:=o3.slice;subst hu;generalize XZ:(MT YN ps).length=ul at *;have S3:=ZU (S2.out.below b3);have f0:=S3.out.fz o;have f1:=S3.out.fz (o+1);have z0:=S3.out.cl _ _ L0.out.1;have z1:=S3.out.cl _ _ L0.out.2;have hub:(Value.slice ua ul uc).ownBlock≠some b:=fun e=>by have:=(o3.lt b e).1;have:=S2.out.lt;omega
 have FIN:Hid (∃u',St ((w3.setCell ⟨b,o,none⟩ (.slice ua ul uc)).setCell ⟨b,o+1,none⟩ (.slice none 0 0)) b (((L.set (o+3) (.int .i64 (made+1))).set o u').set (o+1) (.slice none 0 0))∧Own .u8 5 ((w3.setCell ⟨b,o,none⟩ (.slice ua ul uc)).setCell ⟨b,o+1,none⟩ (.slice none 0 0)) w.heap.size u' (MT YN ps)∧Tw w b vp.ownBlock ((w3.setCell ⟨b,o,none⟩ (.slice ua ul uc)).setCell ⟨b,o+1,none⟩ (.slice none 0 0)) vp.ownBlock):=by
  refine ⟨_,(S3.out.set o (.slice ua ul uc)).set _ _,?_,((T2.out.trans (Tw.YZ b3 _ _)).set).set⟩;exact ((o3.mono T2.out.size).setAt (.inr hub)).setAt (.inr hub)
 clear S2 T2 Ym q0 q1 o3 b3 hub L0 kX;go_wp2;go_ret;exact ⟨rfl,FIN.out⟩
theorem Ws {a b:Bool} (h:a=b):Ending.returned (.bool a)=.returned (.bool b):=by rw [h]
def okB (x:Nat):Bool:=(decide (97≤x) && decide (x≤122)) || (decide (48≤x) && decide (x≤57))
def bN (s:ByteArray) (j:Nat):Nat:=(s.data.toList.getD j 0).toNat
def Gq (s:ByteArray):Bool:=decide (1≤s.size) && decide (s.size≤16) && (List.range s.size).all (fun j=>okB (bN s j))
theorem xM (s:ByteArray) (j:Nat) (h:j<s.size):bN s j=s[j].toNat:=by
 have h':j<s.data.toList.length:=h;unfold bN
 simp only [List.getD,ZF h',Xf]
 rfl
theorem DH (h:j<s.size) (hb:okB (bN s j)=false):Gq s=false:=by
 unfold Gq;have:(List.range s.size).all (fun j=>okB (bN s j))=false:=by
  rw [VQ];exact ⟨j,Yb.2 h,by rw [hb];simp⟩
 rw [this,VE]
theorem sE (h1:1≤s.size) (h2:s.size≤16) (h:∀j,j<s.size→okB (bN s j)=true):Gq s=true:=by
 unfold Gq;rw [Zm h1,Zm h2]
 simp only [Xz,Yw,Yb]
 exact h
def SS:List UInt8→List UInt8→List (List UInt8)
 | cur,[]=>[cur]
 | cur,x :: l=>if x=47 then cur :: SS [] l else SS (cur++[x]) l
theorem Qe (cur l:List UInt8):SS cur (47 :: l)=cur :: SS [] l:=by simp [SS]
theorem QA {x:UInt8} (h:¬x=47) (cur l:List UInt8):SS cur (x :: l)=SS (cur++[x]) l:=by simp [SS,h]
def nm (s:ByteArray):List (List UInt8):=SS [] (s.data.toList.drop 1)
def yH (s:ByteArray) (a b:Nat):List UInt8:=(s.data.toList.drop a).take (b - a)
def sV (l:List UInt8):Value:=.string ⟨l.toArray⟩
theorem RN (s:ByteArray) (a b:Nat):s.extract a b=⟨(yH s a b).toArray⟩:=by
 apply WM;rw [Ve];apply UW;unfold yH;rw [UV,VL]
def Ca (l:List UInt8):Bool:=Gq ⟨l.toArray⟩
def Xi (s:ByteArray):Bool:=decide (s.data.toList=[47]) || (decide (2≤s.size) && decide (bN s 0=47) && decide ((nm s).length≤6) && (nm s).all Ca)
theorem Gp:∀(l cur:List UInt8),0<(SS cur l).length
 | [],cur=>by simp [SS]
 | x :: l,cur=>by
  by_cases h:x=47
  · subst h;rw [Qe];simp
  rw [QA h];exact Gp l _
theorem Ll:∀(l cur:List UInt8),(SS cur l).length≤l.length+1
 | [],cur=>by simp [SS]
 | x :: l,cur=>by
  by_cases h:x=47
  · subst h;rw [Qe];have:=Ll l [];simp only [ZE];omega
  rw [QA h];have:=Ll l (cur++[x]);simp only [ZE];omega
theorem oL (s:ByteArray):(nm s).length≤s.size+1:=by
 have:=Ll (s.data.toList.drop 1) [];have h2:(s.data.toList.drop 1).length≤s.size:=by rw [ZS];show s.size - 1≤_;omega
 unfold nm;omega
theorem Gn (h:s.data.toList=[47]):Xi s=true:=by unfold Xi;rw [Zm h];rfl
theorem Lk (h:¬s.data.toList=[47]):Xi s=(decide (2≤s.size) && decide (bN s 0=47) && decide ((nm s).length≤6) && (nm s).all Ca):=by unfold Xi;rw [Zo h];rfl
def pN (rs:List (List UInt8)) (i:Nat):ByteArray:=⟨(rs.getD i []).toArray⟩
theorem oK {rs:List (List UInt8)} (h:i<rs.length) (hn:Gq (pN rs i)=false):rs.all Ca=false:=by
 rw [VQ];refine ⟨rs[i],YP h,?_⟩;unfold Ca;have:pN rs i=⟨rs[i].toArray⟩:=by unfold pN;simp [List.getD,h]
 rw [←this,hn];simp
theorem Gm (w:World) (s:ByteArray) (c:Int) :
    Calls Tryz.prog 184 #[.string s,.int .u8 c] w fun e w'=>e=.returned (.int .i64 (Lib.indexByte s.data.toList c.toNat.toUInt8))∧w'=w:=by
 go_enter Tryz.func184,Tryz.ntmps184
 go_wp2;rw [Un Tryz.func211 (by kernel_rfl) (by kernel_rfl) (by kernel_rfl) (e:=Extern.BytealgIndexByte.indexByte) (by kernel_rfl),Lib.run_indexByteString]
 simp only [Result.andThen]
 rw [Oper.upon_value];go_wp2;go_ret;exact ⟨rfl,rfl⟩
theorem Gk (w:World) (s:ByteArray) :
    Calls Tryz.prog 147 #[.string s,.string ⟨#[47]⟩] w fun e w'=>e=.returned (.int .i64 (Lib.indexByte s.data.toList 47))∧w'=w:=by
 by_cases he:s.data.toList=[47]
 · have hb:([47] == s.toList)=true:=by rw [YG,he];rfl
   have HX:Hid (Lib.indexByte s.data.toList 47=0):=by show _=_;rw [he];rfl
   clear he
   go_enter Tryz.func147,Tryz.ntmps147
   go_wp2;go_ret;exact ⟨by rw [HX.out];rfl,rfl⟩
 have hb:([47] == s.toList)=false:=by rw [YG,YH];exact fun h=>he h.symm
 clear he
 go_enter Tryz.func147,Tryz.ntmps147
 go_wp2_with fail
 refine (Gm w s 47).mono ?_;rintro e w2 ⟨rfl,rfl⟩;go_wp2;go_ret;exact ⟨rfl,rfl⟩
theorem sC (w:World) (s:ByteArray) :
    Calls Tryz.prog 99 #[.string s,.string ⟨#[47]⟩] w fun e w'=>e=.returned (.int .i64 (Lib.indexByte s.data.toList 47))∧w'=w:=by
 go_enter Tryz.func99,Tryz.ntmps99
 go_wp2_with fail
 refine (Gk w s).mono ?_;rintro e w2 ⟨rfl,rfl⟩;go_wp2;go_ret;exact ⟨rfl,rfl⟩
theorem pre_eq (s:ByteArray) (h:1≤s.size):((s.extract 0 1).toList == [47])=decide (bN s 0=47):=by
 have h0:0<s.data.toList.length:=h;rw [YG,Ve,UV,VL];unfold bN
 cases e:s.data.toList with
 | nil=>rw [e] at h0;simp at h0
 | cons x l =>
  simp only [XR,XY,List.take_succ_cons,WI,XM]
  by_cases hx:x=47
  · subst hx;rfl
  have h1:¬x.toNat=47:=fun hh=>hx (UInt8.toNat_inj.1 hh)
  rw [Zo h1,YH]
  simpa using hx
theorem Gj (w:World) (s:ByteArray) (hs:1≤s.size) :
    Calls Tryz.prog 221 #[.string s,.string ⟨#[47]⟩] w fun e w'=>e=.returned (.bool (decide (bN s 0=47)))∧w'=w:=by
 have HE:=ZU (pre_eq s hs);have h1:(1:Int)≤(s.size:Int):=by omega
 go_enter Tryz.func221,Tryz.ntmps221
 go_wp2;go_ret;exact ⟨by rw [←HE.out];rfl,rfl⟩
theorem BZ (w:World) (s:ByteArray) (hs:1≤s.size) :
    Calls Tryz.prog 192 #[.string s,.string ⟨#[47]⟩] w fun e w'=>e=.returned (.bool (decide (bN s 0=47)))∧w'=w:=by
 go_enter Tryz.func192,Tryz.ntmps192
 go_wp2_with fail
 refine (Gj w s hs).mono ?_;rintro e w2 ⟨rfl,rfl⟩;go_wp2;go_ret;exact ⟨rfl,rfl⟩
theorem pre_none (w:World) (s:ByteArray) (hs:s.size=0) :
    Calls Tryz.prog 192 #[.string s,.string ⟨#[47]⟩] w fun e w'=>e=.returned (.bool false)∧w'=w:=by
 have h1:¬(1:Int)≤(s.size:Int):=by omega
 clear hs
 go_enter Tryz.func192,Tryz.ntmps192
 go_wp2_with fail
 refine (show Calls Tryz.prog 221 #[.string s,.string ⟨#[47]⟩] w (fun e w'=>e=.returned (.bool false)∧w'=w) from ?_).mono ?_
 · go_enter Tryz.func221,Tryz.ntmps221
   go_wp2;go_ret;exact ⟨rfl,rfl⟩
 rintro e w2 ⟨rfl,rfl⟩;go_wp2;go_ret;exact ⟨rfl,rfl⟩
theorem J6 (w:World) (p:ByteArray) :
    Calls Tryz.prog 194 #[.string p] w fun e w'=>e=.returned (.bool (Gq p))∧∃q,w'=w.drewN q:=by
 by_cases hp1:p.size<1
 · have X5:(p.size:Int)<1:=by omega
   have HF:Hid (Gq p=false):=by show _=_;unfold Gq;rw [Zo (by omega)];rfl
   go_enter Tryz.func194,Tryz.ntmps194
   go_wp2;go_ret;exact ⟨Ws HF.out.symm,0,rfl⟩
 have X5:¬(p.size:Int)<1:=by omega
 by_cases hp2:16<p.size
 · have Yh:(16:Int)<(p.size:Int):=by omega
   have HF:Hid (Gq p=false):=by show _=_;unfold Gq;rw [Zo (show ¬p.size≤16 by omega)];simp
   go_enter Tryz.func194,Tryz.ntmps194
   go_wp2;go_ret;exact ⟨Ws HF.out.symm,0,rfl⟩
 have Yh:¬(16:Int)<(p.size:Int):=by omega
 go_enter Tryz.func194,Tryz.ntmps194
 go_wp2
 go_loopw [16] (fun vj wr=>∃j:Nat,j≤p.size∧vj=.int .i64 j∧Hid (∀t,t<j→okB (bN p t)=true)∧∃q,wr=w.drewN q) (fun j _=>p.size - (intOf j).toNat)
 case atStart=>exact ⟨0,Zu _,rfl,(fun t ht=>by omega),0,rfl⟩
 case round =>
  obtain ⟨j,hj,rfl,HJ,q,rfl⟩:=hrel
  by_cases hjl:j<p.size
  · have ik:(j:Int)<(p.size:Int):=by omega
    have hbn:=xM p j hjl;have lS:p[j].toNat<256:=p[j].toNat_lt;obtain ⟨x,hx⟩:∃x,x=p[j].toNat:=⟨_,rfl⟩;have HX:=ZU hx;have ZD:Hid (bN p j=x):=by show _=_;rw [hbn,hx]
    clear hx hbn
    by_cases c1:x<48
    · have k1:¬(97:Int)≤(p[j].toNat:Int):=by have:=HX.out;omega
      have k2:¬(48:Int)≤(p[j].toNat:Int):=by have:=HX.out;omega
      have HF:=ZU (DH hjl (by rw [ZD.out];unfold okB;rw [Zo (show ¬97≤x by omega),Zo (show ¬48≤x by omega)];rfl));go_wp2;go_ret;exact ⟨Ws HF.out.symm,_,rfl⟩
    by_cases c2:x≤57
    · have k1:¬(97:Int)≤(p[j].toNat:Int):=by have:=HX.out;omega
      have k2:(48:Int)≤(p[j].toNat:Int):=by have:=HX.out;omega
      have k3:(p[j].toNat:Int)≤57:=by have:=HX.out;omega
      have PX:Hid (okB (bN p j)=true):=by show _=_;rw [ZD.out];unfold okB;rw [Zm (show 48≤x by omega),Zm (show x≤57 by omega)];simp
      go_wp2;exact ⟨⟨j+1,by omega,by go_num,(fun t ht=>by by_cases e:t=j;(subst e;exact PX.out);exact HJ.out t (by omega)),q,rfl⟩,by simp [intOf];omega⟩
    by_cases c3:x<97
    · have k1:¬(97:Int)≤(p[j].toNat:Int):=by have:=HX.out;omega
      have k2:(48:Int)≤(p[j].toNat:Int):=by have:=HX.out;omega
      have k3:¬(p[j].toNat:Int)≤57:=by have:=HX.out;omega
      have HF:=ZU (DH hjl (by rw [ZD.out];unfold okB;rw [Zo (show ¬97≤x by omega),Zo (show ¬x≤57 by omega)];simp));go_wp2;go_ret;exact ⟨Ws HF.out.symm,_,rfl⟩
    by_cases c4:x≤122
    · have k1:(97:Int)≤(p[j].toNat:Int):=by have:=HX.out;omega
      have k2:(p[j].toNat:Int)≤122:=by have:=HX.out;omega
      have k3:(48:Int)≤(p[j].toNat:Int):=by omega
      have k4:¬(p[j].toNat:Int)≤57:=by omega
      have PX:Hid (okB (bN p j)=true):=by show _=_;rw [ZD.out];unfold okB;rw [Zm (show 97≤x by omega),Zm (show x≤122 by omega)];simp
      go_wp2;exact ⟨⟨j+1,by omega,by go_num,(fun t ht=>by by_cases e:t=j;(subst e;exact PX.out);exact HJ.out t (by omega)),q,rfl⟩,by simp [intOf];omega⟩
    have k1:(97:Int)≤(p[j].toNat:Int):=by have:=HX.out;omega
    have k2:¬(p[j].toNat:Int)≤122:=by have:=HX.out;omega
    have k3:(48:Int)≤(p[j].toNat:Int):=by omega
    have k4:¬(p[j].toNat:Int)≤57:=by omega
    have HF:=ZU (DH hjl (by rw [ZD.out];unfold okB;rw [Zo (show ¬x≤122 by omega),Zo (show ¬x≤57 by omega)];simp));go_wp2;go_ret;exact ⟨Ws HF.out.symm,_,rfl⟩
  have ik:¬(j:Int)<(p.size:Int):=by omega
  have PX:=ZU (sE (by omega) (by omega) (fun t ht=>HJ.out t (by omega)));go_wp2;go_ret;exact ⟨Ws PX.out.symm,_,rfl⟩
def Book (r:Loop) (M:Nat) (W:World):Prop:=W.heap[M+1]?=some (.loop r)∧W.heap[M]?=some (.deferred (some []))
theorem Book.keep {r:Loop} {X Y:World} (h:Book r M X) (hk:KeepsFrom M X Y):Book r M Y:=⟨hk.same _ _ (by omega) h.1 rfl,hk.same _ _ YR h.2 rfl⟩
theorem PE {F:Fence} {β:Type} {g:Operand} {ps:Array Tmp} {assign body:Code} {Q:Exit→Act→World→Prop} 
    (hro:F.round=none) (h1:1≤n) (hg:a.eval g=.func (.func gf) #[] lb) (hFg:F.fn gf) (eg:∀args w,(callFunc gf args).run P w=.ok (.enter gf args) w)
    (St:β→World→Prop) (Pre:β→Array Value→World→Prop) (step:β→Array Value→β) (Kp:World→World→Prop) (Fin:β→Prop) (s0:β)
    (hSt:OwnFrom w.heap.size St) (hKt:∀ {A B C:World},Kp A B→Kp B C→Kp A C)
    (hKb:∀(W:World) (l:Nat) (o o':Obj),w.heap.size≤l→W.heap[l]?=some o→o.isCells=false→o.isWalk=false→Kp W (W.putObj l o'))
    (hps:∀s vs W,Pre s vs W→vs.size=ps.size) (h0:St s0 w)
    (Ax:β→Array Value→Act→World→Prop) (hAx:∀s vs a',OwnFrom w.heap.size (fun (_:Unit) W=>Ax s vs a' W))
    (hassign:∀(l:Nat) (s:β) (vs:Array Value) (W:World) (K:Act→World→Prop),St s W→Pre s vs W→(∀a' W',KeepsFrom w.heap.size W W'→Kp W W'→Ax s vs a' W'→K a' W') →
     assign.wpIn (F.inRound l) (n - 1 - 1) P (Exit.then K (fun _ _ _=>False)) { tmps:=(ps.zip vs).foldl (fun t (p,v)=>t.setIfInBounds p v) a.tmps,defers:=[] } W)
    (hbody:∀(l:Nat) (s:β) (vs:Array Value) (a':Act) (W:World),Ax s vs a' W→body.wpIn (F.inRound l) (n - 1 - 1) P (fun e _ W'=>e=.normal∧KeepsFrom w.heap.size W W'∧Kp W W'∧St (step s vs) W') a' W)
    (hcall:∀(Bk:World→Prop) (W1:World),(∀X Y,KeepsFrom w.heap.size X Y→Bk X→Bk Y) →
     (∀s vs W,St s W→Bk W→Pre s vs W→YieldAt F (n - 1 - 1) P (w.heap.size+1) vs W fun e W'=>e=.returned (.bool true)∧St (step s vs) W'∧Bk W'∧Kp W W') →
     Zi w W1→w.heap.size+2≤W1.heap.size→St s0 W1→Bk W1 →
     CallsIn F (n - 1) P gf (#[.func (.yield (w.heap.size+1)) #[] #[]]++lb) W1 fun e W'=>(∃v,e=.returned v)∧∃s,Fin s∧St s W'∧Bk W')
    (hdone:∀(D:Nat) (s:β) (W:World),w.heap.size≤D→Fin s→St s W→W.heap[D]?=some (.deferred (some []))→Q .normal { a with defers:={ target:=.collected D,args:=#[] } :: a.defers } W) :
    (Code.rangeFunc g ps assign body).wpIn F n P Q a w:=by
 refine wpIn_rangeFunc ?_;intro fn hfn;rw [hro];obtain ⟨r0,hr0⟩:∃r:Loop,r={ state:=.ready,pending:=none,fn,tmps:=a.tmps,params:=ps,assign,body,defers:=w.heap.size }:=⟨_,rfl⟩;have hst:r0.state=.ready:=by rw [hr0]
 have hpe:r0.pending=none:=by rw [hr0]
 have hgrow:Zi w ((w.alloc (.deferred (some []))).alloc (.loop r0)):=((Below.refl _ w).alloc YR _).alloc (by simp) _;have Z5:Book r0 w.heap.size ((w.alloc (.deferred (some []))).alloc (.loop r0)):=by
  constructor
  · have:=Zs (w.alloc (.deferred (some []))) (.loop r0)
    rwa [YF] at this
  exact (Below.heap_alloc _ _ _ (by simp)).trans (Zs w _)
 have ZB:St s0 ((w.alloc (.deferred (some []))).alloc (.loop r0)):=hSt.alloc _ (hSt.alloc _ h0);have hsz:w.heap.size+2≤((w.alloc (.deferred (some []))).alloc (.loop r0)).heap.size:=by simp
 have henter:(Instr.enterLoop fn a.tmps ps assign body none).run P w=.ok (w.heap.size+1,[{ target:=.collected w.heap.size,args:=#[] }]) ((w.alloc (.deferred (some []))).alloc (.loop r0)):=by
  rw [hr0];exact run_enterLoop_outer _ _ _ _ _
 generalize (w.alloc _).alloc _=W1 at *;refine ⟨_,_,W1,{ target:=.fn (.func gf) lb,args:=#[.func (.yield (w.heap.size+1)) #[] #[]] },W1,gf,#[.func (.yield (w.heap.size+1)) #[] #[]]++lb,W1,henter,?_,?_,?_,fun _=>h1,?_⟩
 · simp only [resolve,hg]
   simp [go_sem]
 · intro f' hf'
   simp [Target.leads] at hf'
   subst hf';exact hFg
 · simp [invoke,go_sem,eg]
 refine (hcall (Book r0 w.heap.size) W1 (fun X Y hk hb=>hb.keep hk) ?_ hgrow hsz ZB Z5).mono ?_
 · intro s vs W hs hb hp
   have hy:=run_yield (P:=P) (args:=vs) hb.1 (by rw [hr0];exact hps s vs W hp);rw [hr0] at hy;refine ⟨fn,_,assign,body,hy,roundIn_of_wpIn hfn (hassign _ s vs W _ hs hp ?_)⟩;clear hy;intro a' Wa hka hkp hax;have AC:=hb.keep hka;have hlt:=(Z3.1 AC.1).1;refine ⟨_,run_beginRound AC.1 hst,?_⟩;have hl2:(Wa.putObj (w.heap.size+1) (.loop { r0 with state:=.busy })).heap[w.heap.size+1]?=some (.loop { r0 with state:=.busy }):=World.putObj_heap_same hlt;have hk2:(Wa.putObj (w.heap.size+1) (.loop { r0 with state:=.busy })).heap[w.heap.size]?=some (.deferred (some [])):=(World.putObj_heap_other (by omega)).trans AC.2;have hkb:Kp Wa (Wa.putObj (w.heap.size+1) (.loop { r0 with state:=.busy })):=hKb _ _ _ _ (by omega) AC.1 rfl rfl;refine wpIn_mono (hbody _ s vs a' _ ((hAx s vs a').putObj (s:=()) _ hax (by omega) AC.1 rfl)) ?_;rintro e a3 W3 ⟨rfl,hk3,hp3,hs3⟩;have hl3:=hk3.same _ _ (by omega) hl2 rfl;have hd3:=hk3.same _ _ YR hk2 rfl;have hend:=run_endRound (P:=P) none hl3;have hr1:({ { r0 with state:=.busy } with state:=if (none:Option Code).isNone then .ready else .done,pending:=none }:Loop)=r0:=by rw [hr0];rfl
   rw [hr1] at hend;refine ⟨_,_,hend,rfl,hSt.putObj _ hs3 (by omega) hl3 rfl,⟨World.putObj_heap_same (Z3.1 hl3).1,(World.putObj_heap_other (by omega)).trans hd3⟩,hKt hkp (hKt (hKt hkb hp3) (hKb _ _ _ _ (by omega) hl3 rfl rfl))⟩
 rintro e W2 ⟨⟨v,rfl⟩,s,hF,hs,hb⟩;have hend:=run_endLoop (P:=P) hb.1 (by rw [hst];simp);rw [hpe] at hend;exact ⟨none,_,hend,hdone _ s _ YR hF (hSt.putObj _ hs (by omega) hb.1 rfl) ((World.putObj_heap_other (by omega)).trans hb.2)⟩
theorem Iz {F:Fence} {β:Type} {g:Operand} {ps:Array Tmp} {assign body:Code} {Q:Exit→Act→World→Prop} 
    (hro:F.round=none) (h1:1≤n) (hg:a.eval g=.func (.func gf) #[] lb) (hFg:F.fn gf) (eg:∀args w,(callFunc gf args).run P w=.ok (.enter gf args) w)
    (St:β→World→Prop) (Pre:β→Array Value→World→Prop) (step:β→Array Value→β) (Kp:World→World→Prop) (Fin:β→Prop) (yG:World→Prop) (Zc:OwnFrom w.heap.size (fun (_:Unit) W=>yG W)) (s0:β)
    (hSt:OwnFrom w.heap.size St) (hKt:∀ {A B C:World},Kp A B→Kp B C→Kp A C)
    (hKb:∀(W:World) (l:Nat) (o o':Obj),w.heap.size≤l→W.heap[l]?=some o→o.isCells=false→o.isWalk=false→Kp W (W.putObj l o'))
    (hps:∀s vs W,Pre s vs W→vs.size=ps.size) (h0:St s0 w)
    (Ax:β→Array Value→Act→World→Prop) (hAx:∀s vs a',OwnFrom w.heap.size (fun (_:Unit) W=>Ax s vs a' W))
    (hassign:∀(l:Nat) (s:β) (vs:Array Value) (W:World) (K:Act→World→Prop),St s W→Pre s vs W→(∀a' W',KeepsFrom w.heap.size W W'→Kp W W'→Ax s vs a' W'→K a' W') →
     assign.wpIn (F.inRound l) (n - 1 - 1) P (Exit.then K (fun _ _ _=>False)) { tmps:=(ps.zip vs).foldl (fun t (p,v)=>t.setIfInBounds p v) a.tmps,defers:=[] } W)
    (hbody:∀(l:Nat) (s:β) (vs:Array Value) (a':Act) (W:World),Ax s vs a' W→body.wpIn (F.inRound l) (n - 1 - 1) P (fun e _ W'=>(e=.normal∧KeepsFrom w.heap.size W W'∧Kp W W'∧St (step s vs) W')∨(e=.ret∧KeepsFrom w.heap.size W W'∧yG W')) a' W)
    (hcall:∀(Bk xK:World→Prop) (W1:World),(∀X Y,KeepsFrom w.heap.size X Y→Bk X→Bk Y)→(∀X Y,KeepsFrom w.heap.size X Y→xK X→xK Y) →
     (∀s vs W,St s W→Bk W→Pre s vs W→YieldAt F (n - 1 - 1) P (w.heap.size+1) vs W fun e W'=>(e=.returned (.bool true)∧St (step s vs) W'∧Bk W'∧Kp W W')∨(e=.returned (.bool false)∧yG W'∧xK W')) →
     Zi w W1→w.heap.size+2≤W1.heap.size→St s0 W1→Bk W1 →
     CallsIn F (n - 1) P gf (#[.func (.yield (w.heap.size+1)) #[] #[]]++lb) W1 fun e W'=>(∃v,e=.returned v)∧((∃s,Fin s∧St s W'∧Bk W')∨(yG W'∧xK W')))
    (hdone:∀(D:Nat) (s:β) (W:World),w.heap.size≤D→Fin s→St s W→W.heap[D]?=some (.deferred (some []))→Q .normal { a with defers:={ target:=.collected D,args:=#[] } :: a.defers } W)
    (hstop:∀(D:Nat) (W:World),w.heap.size≤D→yG W→W.heap[D]?=some (.deferred (some []))→Code.ret.wpIn F n P Q { a with defers:={ target:=.collected D,args:=#[] } :: a.defers } W) :
    (Code.rangeFunc g ps assign body).wpIn F n P Q a w:=by
 refine wpIn_rangeFunc ?_;intro fn hfn;rw [hro];obtain ⟨r0,hr0⟩:∃r:Loop,r={ state:=.ready,pending:=none,fn,tmps:=a.tmps,params:=ps,assign,body,defers:=w.heap.size }:=⟨_,rfl⟩;have hst:r0.state=.ready:=by rw [hr0]
 have hpe:r0.pending=none:=by rw [hr0]
 have hgrow:Zi w ((w.alloc (.deferred (some []))).alloc (.loop r0)):=((Below.refl _ w).alloc YR _).alloc (by simp) _;have Z5:Book r0 w.heap.size ((w.alloc (.deferred (some []))).alloc (.loop r0)):=by
  constructor
  · have:=Zs (w.alloc (.deferred (some []))) (.loop r0)
    rwa [YF] at this
  exact (Below.heap_alloc _ _ _ (by simp)).trans (Zs w _)
 have ZB:St s0 ((w.alloc (.deferred (some []))).alloc (.loop r0)):=hSt.alloc _ (hSt.alloc _ h0);have hsz:w.heap.size+2≤((w.alloc (.deferred (some []))).alloc (.loop r0)).heap.size:=by simp
 have henter:(Instr.enterLoop fn a.tmps ps assign body none).run P w=.ok (w.heap.size+1,[{ target:=.collected w.heap.size,args:=#[] }]) ((w.alloc (.deferred (some []))).alloc (.loop r0)):=by
  rw [hr0];exact run_enterLoop_outer _ _ _ _ _
 generalize (w.alloc _).alloc _=W1 at *;refine ⟨_,_,W1,{ target:=.fn (.func gf) lb,args:=#[.func (.yield (w.heap.size+1)) #[] #[]] },W1,gf,#[.func (.yield (w.heap.size+1)) #[] #[]]++lb,W1,henter,?_,?_,?_,fun _=>h1,?_⟩
 · simp only [resolve,hg]
   simp [go_sem]
 · intro f' hf'
   simp [Target.leads] at hf'
   subst hf';exact hFg
 · simp [invoke,go_sem,eg]
 refine (hcall (Book r0 w.heap.size) (Book { r0 with state:=.done,pending:=some .ret } w.heap.size) W1 (fun X Y hk hb=>hb.keep hk) (fun X Y hk hb=>hb.keep hk) ?_ hgrow hsz ZB Z5).mono ?_
 · intro s vs W hs hb hp
   have hy:=run_yield (P:=P) (args:=vs) hb.1 (by rw [hr0];exact hps s vs W hp);rw [hr0] at hy;refine ⟨fn,_,assign,body,hy,roundIn_of_wpIn hfn (hassign _ s vs W _ hs hp ?_)⟩;clear hy;intro a' Wa hka hkp hax;have AC:=hb.keep hka;have hlt:=(Z3.1 AC.1).1;refine ⟨_,run_beginRound AC.1 hst,?_⟩;have hl2:(Wa.putObj (w.heap.size+1) (.loop { r0 with state:=.busy })).heap[w.heap.size+1]?=some (.loop { r0 with state:=.busy }):=World.putObj_heap_same hlt;have hk2:(Wa.putObj (w.heap.size+1) (.loop { r0 with state:=.busy })).heap[w.heap.size]?=some (.deferred (some [])):=(World.putObj_heap_other (by omega)).trans AC.2;have hkb:Kp Wa (Wa.putObj (w.heap.size+1) (.loop { r0 with state:=.busy })):=hKb _ _ _ _ (by omega) AC.1 rfl rfl;refine wpIn_mono (hbody _ s vs a' _ ((hAx s vs a').putObj (s:=()) _ hax (by omega) AC.1 rfl)) ?_;rintro e a3 W3 (⟨rfl,hk3,hp3,hs3⟩ | ⟨rfl,hk3,hs3⟩)
   · have hl3:=hk3.same _ _ (by omega) hl2 rfl
     have hd3:=hk3.same _ _ YR hk2 rfl;have hend:=run_endRound (P:=P) none hl3;have hr1:({ { r0 with state:=.busy } with state:=if (none:Option Code).isNone then .ready else .done,pending:=none }:Loop)=r0:=by rw [hr0];rfl
     rw [hr1] at hend;exact ⟨_,_,hend,.inl ⟨rfl,hSt.putObj _ hs3 (by omega) hl3 rfl,⟨World.putObj_heap_same (Z3.1 hl3).1,(World.putObj_heap_other (by omega)).trans hd3⟩,hKt hkp (hKt (hKt hkb hp3) (hKb _ _ _ _ (by omega) hl3 rfl rfl))⟩⟩
   have hl3:=hk3.same _ _ (by omega) hl2 rfl;have hd3:=hk3.same _ _ YR hk2 rfl;have hend:=run_endRound (P:=P) (some .ret) hl3;have hr1:({ { r0 with state:=.busy } with state:=if (some Code.ret:Option Code).isNone then .ready else .done,pending:=some .ret }:Loop)={ r0 with state:=.done,pending:=some .ret }:=by rw [hr0];rfl
   rw [hr1] at hend;exact ⟨_,_,hend,.inr ⟨rfl,Zc.putObj (s:=()) _ hs3 (by omega) hl3 rfl,⟨World.putObj_heap_same (Z3.1 hl3).1,(World.putObj_heap_other (by omega)).trans hd3⟩⟩⟩
 rintro e W2 ⟨⟨v,rfl⟩,(⟨s,hF,hs,hb⟩ | ⟨hs,hb⟩)⟩
 · have hend:=run_endLoop (P:=P) hb.1 (by rw [hst];simp)
   rw [hpe] at hend;exact ⟨none,_,hend,hdone _ s _ YR hF (hSt.putObj _ hs (by omega) hb.1 rfl) ((World.putObj_heap_other (by omega)).trans hb.2)⟩
 have hend:=run_endLoop (P:=P) hb.1 (by simp);exact ⟨some .ret,_,hend,hstop _ _ YR (Zc.putObj (s:=()) _ hs (by omega) hb.1 rfl) ((World.putObj_heap_other (by omega)).trans hb.2)⟩
end Go.Proofs.YtpmjnbmkippaiaaGreatDoor


