import Derived.Test.YtpmjnbmkippaiaaGreatDoorJ01
import Derived.RangeFuncNested
import Derived.RangeFuncLeaves
import Derived.OwnWalkIn
import Derived.TacticsInMore
import Derived.LoopNIn
import Derived.LoopIn
import Derived.Lib.Bytealg
import Derived.Laws.Externs
import Derived.Lib.IndexLaws
set_option maxRecDepth 100000
set_option maxHeartbeats 16000000
set_option linter.unusedVariables false
set_option linter.unusedSimpArgs false
namespace Go.Proofs.YtpmjnbmkippaiaaGreatDoor
open Go.RowKit Go.Shelf
variable {a:Act} {ops:Array Oper} {cells lb:Array Value} {s:ByteArray} {x:Int} {rs:List (Int × List Int)} {rest:List Oper} {M b cap g gd gf i j lo mb n nF tb:Nat} {o op:Oper} {P:Program} {E:Prop} {t:TypeId} {v:Value} {A B w:World}
theorem Ow (x:Int) (h0:0≤x) (h:x≤1048576):(Lit.int .i64 x).wf=true:=by
 have:=wrap64_wf x;rw [show wrap64 x=x by unfold wrap64;omega] at this;exact this
theorem Rd.span {k:IntKind} {o:Nat} {xs:List Int} (h:Rd k w (.slice (some ⟨b,o,none⟩) n cap) xs) (hl:xs.length=n) (h0:0<n):b<w.heap.size∧w.rangeAt b o (xs.map (Value.int k)):=by
 obtain ⟨b',o',e,hb,-⟩:=h.cellAt hl h0
 injection e with e
 injection e with e1 e2 _
 subst e1;subst e2;refine ⟨hb,fun j v hv=>?_⟩;have hj:j<xs.length:=by have:=(UG.1 hv).1;simpa using this
 obtain ⟨b',o',e,-,hc⟩:=h.cellAt hl (show j<n by omega)
 injection e with e
 injection e with e1 e2 _
 subst e1;subst e2;rw [hc]
 simp [Xc hj] at hv
 simp [List.getD,hj,hv]
theorem YF {w':World} {o:Nat} {cs:List Value} (h:w.rangeAt b o cs) (hc:w'.heap[b]?=w.heap[b]?):w'.rangeAt b o cs:=fun j v hv=>(Zj (w:=w) (a:=⟨b,o+j,none⟩) hc).trans (h j v hv)
theorem L5 {place:Nat→Option (Nat × Nat)} {off:Nat} {rest:List (Nat × Value)} (hp:place i=some (off,v.cells.size)) (hs:off+v.cells.size≤cells.size) :
    Instr.fill place cells ((i,v) :: rest)=Instr.fill place ((v.cells.toList.zipIdx 0).foldl (fun cs (x:Value × Nat)=>cs.setIfInBounds (off+x.2) x.1) cells) rest:=by
 conv=>lhs;unfold Instr.fill
 simp only [hp]
 rw [Z1 (by simp;omega)]
 congr 1
 rw [←Array.foldl_toList,Array.toList_zipIdx]
theorem yR (x:Int) (V:List Value) (hV:V.length=64) (z:Array Value) (hz:z.size=65) :
    Instr.fill (#[(0,1),(1,64)][·]?) z [(0,.int .i64 x),(1,.agg V.toArray)]=some (Value.int .i64 x :: V).toArray:=by
 have s1:(Value.int .i64 x).cells.size=1:=rfl;have s2:(Value.agg V.toArray).cells.size=64:=by show V.toArray.size=64;simpa using hV
 obtain ⟨g1,g2⟩:=Great.foldl_set 0 (Value.int .i64 x).cells.toList 0 z;rw [L5 (by rw [s1];rfl) (by rw [s1];omega),L5 (by rw [s2];rfl) (by rw [s2,g1];omega)];obtain ⟨k1,k2⟩:=Great.foldl_set 1 (Value.agg V.toArray).cells.toList 0 ((Value.int .i64 x).cells.toList.zipIdx 0 |>.foldl (fun cs (y:Value × Nat)=>cs.setIfInBounds (0+y.2) y.1) z);unfold Instr.fill
 congr 1
 apply Array.ext_getElem?;intro k;have hl:(Value.agg V.toArray).cells.toList.length=64:=by rw [Gc];exact s2
 have hl1:(Value.int .i64 x).cells.toList.length=1:=rfl;rw [k2 k,g1,hz,hl,g2 k,hl1,hz];have e:(Value.agg V.toArray).cells.toList=V:=by show V.toArray.toList=V;simp
 have eA:(Value.int .i64 x :: V).toArray[k]?=(Value.int .i64 x :: V)[k]?:=by simp
 rw [e,eA]
 by_cases h0:k=0
 · subst h0;rfl
 by_cases h1:k<65
 · rw [ZZ (by omega)]
   obtain ⟨j,rfl⟩:∃j,k=j+1:=⟨k - 1,by omega⟩;rw [CF,show j+1 - (1+0)=j by omega]
 rw [Z1 (by omega),Z1 (by omega),MX (by rw [Yr,hV];omega),eR (by omega)]
theorem yQ {z:Value} {places:List (Nat × Nat)} {parts:List (Nat × Value)} 
    (h:(match P.info? t,P.underlying t with
     | some it,some (.struct fields)=>(it.zero,fields.toList.mapM (fun f=>(P.info? f.type).map fun i=>(f.offset,i.size)))
     | _,_=>(none,none))=(some z,some places)) (hf:Instr.fill (places.toArray[·]?) z.cells parts=some cells):P.built t parts=some cells:=by
 unfold Program.built
 cases h1:P.info? t with
 | none=>simp [h1] at h
 | some it =>
  cases h2:P.underlying t with
  | none=>simp [h1,h2] at h
  | some d =>
   cases d <;> try (simp [h1,h2] at h;done)
   case struct fields =>
    simp only [h1,h2,zB] at h
    simp only [h.1,h.2]
    exact hf
def zT:Value:=.agg (Value.int .i64 0 :: List.replicate 64 (.int .u8 0)).toArray
theorem Lb:zT.cells.size=65:=by decide +kernel
theorem yP:(Tryz.prog.info? 210).map (fun i=>(i.zero,i.size,i.bytes))=some (some zT,65,72):=by kernel_rfl
theorem Cs (x:Int) (V:List Value) (hV:V.length=64):Tryz.prog.built 210 [(0,.int .i64 x),(1,.agg V.toArray)]=some (Value.int .i64 x :: V).toArray :=
 yQ (z:=zT) (places:=[(0,1),(1,64)]) (by kernel_rfl) (yR x V hV _ Lb)
theorem La (w:World) (x:Int) (V:List Value) (hV:V.length=64):(Instr.build 210 #[(0,.int .i64 x),(1,.agg V.toArray)]).run Tryz.prog w=.ok (.agg (Value.int .i64 x :: V).toArray) w :=
 run_build w _ _ _ (Cs x V hV)
theorem K8 (w:World) (x:Int) (V:List Value) (hV:V.length=64):(Instr.buildSlice 205 1 #[(0,.agg (Value.int .i64 x :: V).toArray)]).run Tryz.prog w=.ok (.slice (some ⟨w.heap.size,0,none⟩) 1 1) (w.alloc (.cells (Value.int .i64 x :: V).toArray 210)):=by
 obtain ⟨i0,hi,hz0,hz1,hz2⟩:=Yq yP;have hs:(Value.agg (Value.int .i64 x :: V).toArray).cells.size=65:=by show (Value.int .i64 x :: V).toArray.size=65;simp [hV]
 refine run_buildSlice w _ _ 1 _ _ i0 zT Tryz.underlying205 hi hz0 (by rw [hz1];omega) (by rw [hz1];omega) ?_;have:=Great.fill_whole (s:=65) (by omega) [.agg (Value.int .i64 x :: V).toArray] ((Array.range (1*65)).map (zT.cells[· % zT.cells.size]!)) (by intro v hv;simp at hv;subst hv;exact hs) (by simp);rw [hz1]
 simp at this
 simp
 exact this
theorem Ve {K:Act→World→Prop} {Q:Exit→Act→World→Prop} (hgd:o.guard=none) (ty:TypeId) (x y:Operand) (ho:o.op=.store ty x y)
    (b off:Nat) (cells:Array Value) (hx:a.eval x=.pointer (some ⟨b,off,none⟩)) (hy:a.eval y=.agg cells) (ht:w.there b off cells.size) (hi:(P.info? ty).map (·.size)=some cells.size) (h1:cells.all (·.oneCell')=true)
    (h:K (a.put o.dst undef) (w.setCells b off cells.toList)):if Region.wanted o (yielded ops a.tmps)=true then Oper.wp P o a w K Q else E:=by
 rw [ZZ (by simp [Region.wanted,hgd])];exact wp_store_mid ty x y ho b off cells hx hy ht hi h1 h
theorem R9 {H:Type} {K':Act→World→Prop} {Q:Exit→Act→World→Prop} 
    (hg:o.guard=none) (m x v:Operand) (t:TypeId) (hop:o.op=Op.mapUpdate t m x v)
    (k e:TypeId) (K:Maps.Keyed P k) (ht:P.underlying t=some (.map k e)) (R:Value→Option (DataW H × List MemPlace)) (b n:Nat) (D:DataW H)
    (hm:a.eval m=.map (some b)) (hown:w.ownsMap P k R b n D) (hn:n<maxLen) (key val:Value) (kl:Lit) (hx:a.eval x=key) (hv:a.eval v=val) (hkey:keyOf P k key=some kl)
    (d:DataW H) (ps:List MemPlace) (hval:R val=some (d,ps))
    (hK:∀w',w'.ownsMap P k R b (n+1) (D.put kl d)→w.grownBy w' (some b)→K' (a.put o.dst undef) w') :
    if Region.wanted o (yielded ops a.tmps)=true then Oper.wp P o a w K' Q else E:=by
 rw [ZZ (by simp [Region.wanted,hg])];obtain ⟨w',hrun,r1,r2⟩:=hown.update K ht hn hkey hval;unfold Oper.wp
 simp [execOp,hop,hm,hx,hv,hrun,Result.andThen]
 exact hK w' r1 r2
theorem PI {α:Type} (L:List α) (o:Nat) (v:α) (vs:List α) (h:o+(vs.length+1)≤L.length):splice (L.set o v) (o+1) vs=splice L o (v :: vs):=by
 apply CH;intro j;rw [XI _ _ _ (by simp;omega),XI _ _ _ (by simp;omega)]
 simp only [Yr,pG]
 by_cases h1:j<o
 · rw [ZZ (by omega),ZZ h1,Z1 (by omega)]
 rw [Z1 h1]
 by_cases h2:j=o
 · subst h2;rw [ZZ (by omega),ZZ rfl,ZZ (by omega),ZZ (by omega)];simp
 rw [Z1 (by omega)]
 by_cases h3:j<o+1+vs.length
 · rw [ZZ h3,ZZ (by omega)]
   obtain ⟨i,rfl⟩:∃i,j=o+1+i:=⟨j - (o+1),by omega⟩;rw [show o+1+i - (o+1)=i by omega,show o+1+i - o=i+1 by omega,CF]
 rw [Z1 h3,Z1 (by omega),Z1 (by omega)]
theorem UD {base size:Nat} {e:TypeId}:∀(vs:List Value) (o:Nat) (w:World) (xs:List Value),w.ownsRow base e size (.slice (some ⟨g,0,none⟩) n cap) n xs→o+vs.length≤xs.length →
    (w.setCells g o vs).ownsRow base e size (.slice (some ⟨g,0,none⟩) n cap) n (splice xs o vs)∧w.grownBy (w.setCells g o vs) (some g)
 | [],o,w,xs,h,_=>by rw [Oz];exact ⟨h,YT _ _⟩
 | v :: vs,o,w,xs,h,hl=>by
  have h1:=(World.ownsRow.stored h o v).1;obtain ⟨r1,r2⟩:=UD vs (o+1) (w.setCell ⟨g,o,none⟩ v) (xs.set o v) h1 (by simp at hl ⊢;omega);rw [World.setCells,←PI xs o v vs (by simpa using hl)];exact ⟨r1,Mm (grownBy_set w w g o v (YT _ _)) r2⟩
theorem UM.set (h:UM w lo tb mb (.slice (some ⟨g,0,none⟩) rs.length cap) rs) (hi:i<rs.length) (V:List Int) (hV:V.length=64) :
    UM (w.setCells g (i*65+1) (V.map (Value.int .u8))) lo tb mb (.slice (some ⟨g,0,none⟩) rs.length cap) (rs.set i (pB rs i,V))∧w.grownBy (w.setCells g (i*65+1) (V.map (Value.int .u8))) (some g):=by
 have hlen:=Rm rs h.full;have hl:(rs.set i (pB rs i,V)).length=rs.length:=MW ..;obtain ⟨r1,r2⟩:=UD (V.map (Value.int .u8)) (i*65+1) w (WR rs) h.rows (by rw [hlen,XJ,hV];omega);obtain ⟨D,hD,hM⟩:=h.map;refine ⟨⟨h.box.other r2 (fun e=>h.vt e.symm),by rw [hl,yU rs i hi h.full V hV];exact r1,⟨D,by rw [hl];exact hD.kept r2 (fun e=>h.vm e.symm),hM.set i hi V⟩,fun j hj=>?_,fun j k hj hk e=>?_,h.lot,h.ld,h.ne,h.vt,h.vm⟩,r2⟩
 · rw [hl] at hj
   rw [yT rs i j hi]
   split
   · exact hV
   exact h.full j hj
 rw [hl] at hj hk;rw [Tz rs i j hi,Tz rs i k hi] at e;exact h.apart j k hj hk e
theorem Vu {K:Act→World→Prop} {Q:Exit→Act→World→Prop} (hgd:o.guard=none) (y:Operand) (ho:o.op=.buildSlice 205 1 #[(0,y)])
    (x:Int) (V:List Value) (hV:V.length=64) (hy:a.eval y=.agg (Value.int .i64 x :: V).toArray) (h:K (a.put o.dst (.slice (some ⟨w.heap.size,0,none⟩) 1 1)) (w.alloc (.cells (Value.int .i64 x :: V).toArray 210))) :
    if Region.wanted o (yielded ops a.tmps)=true then Oper.wp Tryz.prog o a w K Q else E:=by
 rw [ZZ (by simp [Region.wanted,hgd])];have hrun:=K8 w x V hV;unfold Oper.wp execOp
 simp only [ho,FN,TM,MV,hy,Vz,hrun,SF]
 exact h
theorem UM.snoc {W0 W1 w4:World} {U:Nat} {va:Option Addr} {O:List Int} {D:DataW Unit} {ob:Obj} (hT:UM W0 lo tb mb (.slice va rs.length U) rs) (G1:W0.grownBy W1 (some mb))
    (M1:W1.ownsMap Tryz.prog 2 (plainElem Tryz.prog 3) mb (rs.length+1) D) (hM:MF D (rs++[(x,O)])) (ho:w4.ownsRow lo 210 65 (.slice (some ⟨g,0,none⟩) (rs.length+1) cap) (rs.length+1) (WR rs++(.int .i64 x :: O.map (Value.int .u8))))
    (hg:(W1.alloc ob).grownBy w4 (Value.ownBlock (.slice va rs.length U))) (hat:Value.ownBlock (.slice va rs.length U)=some g∨g=W1.heap.size+1) (hno:∀i,i<rs.length→pB rs i≠x) (T:O.length=64) (hlo:lo≤W0.heap.size) :
    UM (w4.setCell ⟨tb,0,none⟩ (.slice (some ⟨g,0,none⟩) (rs.length+1) cap)) lo tb mb (.slice (some ⟨g,0,none⟩) (rs.length+1) cap) (rs++[(x,O)])∧Below lo W0 (w4.setCell ⟨tb,0,none⟩ (.slice (some ⟨g,0,none⟩) (rs.length+1) cap))∧(∀q,q<W0.heap.size→q≠tb→q≠mb→Value.ownBlock (.slice va rs.length U)≠some q→(w4.setCell ⟨tb,0,none⟩ (.slice (some ⟨g,0,none⟩) (rs.length+1) cap)).heap[q]?=W0.heap[q]?):=by
 have G:=Mm (Ml W1 ob _) hg;have YM:=hT.box.1.1;have s1:=G1.size;have s4:=G.size;have hmt:=M1.lt;have hgt:g≠tb:=by
  rcases hat with e | e
  · intro h;exact hT.vt (by rw [e,h])
  omega
 have hgm:g≠mb:=by
  rcases hat with e | e
  · intro h;exact hT.vm (by rw [e,h])
  omega
 have hl:(rs++[(x,O)]).length=rs.length+1:=by simp
 have b1:=hT.box.other G1 (by simpa using hT.ne);have b4:=b1.other G (fun e=>hT.vt e.symm);obtain ⟨⟨z4,q0,q1⟩,f0,f1⟩:=b4;refine ⟨⟨⟨⟨by simpa using z4,Xo _ _ _ q0,?_⟩,by rw [WU];exact f0,by rw [WU];exact f1⟩,?_,⟨D,?_,hM⟩,fun i hi=>?_,fun i j hi hj e=>?_,hT.lot,hT.ld,hT.ne,by simpa [Value.ownBlock] using hgt,by simpa [Value.ownBlock] using hgm⟩,?_,fun q hq n1 n2 n3=>?_⟩
 · rw [Zs _ _ _ _ (by simp)];exact q1
 · rw [hl,Oy,IY]
   exact Yu ho (grownBy_set w4 w4 tb 0 _ (YT _ _)) (.inr (by simpa [Value.ownBlock] using hgt))
 · rw [hl]
   exact (M1.kept G (fun e=>hT.vm e.symm)).setCell (a:=⟨tb,0,none⟩) (fun e=>hT.ne e.symm) _
 · rw [hl] at hi
   by_cases e:i=rs.length
   · subst e;rw [Pd];exact T
   rw [Le _ _ _ (by omega)];exact hT.full i (by omega)
 · rw [hl] at hi hj
   by_cases ei:i=rs.length
   · by_cases ej:j=rs.length
     · omega
     subst ei;rw [WL,Xa _ _ _ (by omega)] at e;exact absurd e.symm (hno j (by omega))
   by_cases ej:j=rs.length
   · subst ej;rw [WL,Xa _ _ _ (by omega)] at e;exact absurd e (hno i (by omega))
   rw [Xa _ _ _ (by omega),Xa _ _ _ (by omega)] at e;exact hT.apart i j (by omega) (by omega) e
 · have h1:=ZJ.grown G1 hlo (by intro q hq;simp at hq;subst hq;exact hT.ld)
   have h2:=h1.grown G (by omega) (fun q hq=>(ZD hT.rows q hq).1);exact h2.setCell (p:=⟨tb,0,none⟩) hT.lot _
 rw [Below.heap_setCell _ _ _ _ (show q≠(⟨tb,0,none⟩:Addr).block from n1),G.block q (by omega) (fun e=>n3 e.symm)];exact G1.block q hq (by simpa using n2)
theorem tP (w:World) (lo tb mb:Nat) (v:Value) (rs:List (Int × List Int)) (x:Int) (O:List Int) (i:Nat) (ht:UM w lo tb mb v rs) (hi:i<rs.length) (hx:pB rs i=x) (hwx:(Lit.int .i64 x).wf=true) (T:O.length=64) :
    Calls Tryz.prog 136 #[.pointer (some ⟨tb,0,none⟩),.int .i64 x,.agg (O.map (Value.int .u8)).toArray] w fun e w'=>e=.returned (.tuple #[])∧UM w' lo tb mb v (rs.set i (pB rs i,O))∧Below lo w w'∧(∀q,q<w.heap.size→q≠tb→q≠mb→v.ownBlock≠some q→w'.heap[q]?=w.heap[q]?):=by
 obtain ⟨g,cap,rfl,hg1,hg2,hc1,hc2⟩:=ht.form (by omega);obtain ⟨D,hD,hM⟩:=ht.map;obtain ⟨⟨zt,c0,c1⟩,-⟩:=ht.box;have hhas:=(hM.1 x).2 ⟨i,hi,hx⟩;have HAT:Hid (∀z,D.atKey (.int .i64 x) z=.lit (.int .i64 i)):=by intro z;rw [←hx];exact hM.2 i hi z
 have hkey:=Maps.keyOf_int_mk (P:=Tryz.prog) Tryz.underlying2 hwx;obtain ⟨V,hV⟩:∃V,V=O.map (Value.int .u8):=⟨_,rfl⟩;have UZ:Hid (V.length=64):=by rw [hV];show _=_;rw [XJ];exact T
 have tN:Hid (∀v ∈ V,v.oneCell'=true):=by rw [hV];exact Wf _ _
 rw [←hV];have Yt:(i:Int)<(rs.length:Int):=by omega
 unfold maxLen at hc2;have BA:Hid (ZX w (w.alloc (.cells V.toArray 117))):=ZJ.alloc ZT _;have TA:=Z3 (ht.below BA.out);have RB:Hid ((w.alloc (.cells V.toArray 117)).rangeAt w.heap.size 0 V):=by have:=SZ w V.toArray 117;rw [Ea] at this;exact this
 have HD:Hid ((w.alloc (.cells V.toArray 117)).ownsMap Tryz.prog 2 (plainElem Tryz.prog 3) mb rs.length D):=hD.alloc _;have hlow:lo≤w.heap.size:=by omega
 have FIN:Hid (∀W,UM W lo tb mb (.slice (some ⟨g,0,none⟩) rs.length cap) rs→Below lo w W→UM (W.setCells g (i*65+1) V) lo tb mb (.slice (some ⟨g,0,none⟩) rs.length cap) (rs.set i (pB rs i,O))∧Below lo w (W.setCells g (i*65+1) V)∧W.grownBy (W.setCells g (i*65+1) V) (some g)):=by
  intro W hW hB;have:=hW.set hi O T;rw [←hV] at this;exact ⟨this.1,hB.grown this.2 (by have:=hB.size;omega) (by intro q hq;simp at hq;omega),this.2⟩
 generalize hn:rs.length=n at *;clear ht hD hM hx hV
 go_enter Tryz.func136,Tryz.ntmps136
 go_wp2_with (at_lookup;refine qT _ rfl _ _ 206 rfl 2 3 .i64 oZ Tryz.underlying206 Tryz.underlying3 (DL _) mb n D rfl HD.out _ _ rfl hkey ?_)
 intro c hat hwc;obtain rfl:c=(i:Int):=by have:=HAT.out (.lit (.int .i64 0));rw [hat] at this;simpa using this
 clear c0 c1 zt;generalize w.alloc _=W0 at *
 go_wp2_with fail
 have TH:Hid (W0.there g (i*65+1) 64):=by
  intro j hj;have hr:=TA.out.rows;have hfl:=Rm rs TA.out.full;rw [hn] at hr hfl;exact ⟨by rw [Jn hr (i*65+1+j) (by omega),Xc (by omega)];rfl,Mj hr _⟩
 obtain ⟨⟨zt,c0,c1⟩,-⟩:=TA.out.box;refine ZH (S:=fun w'=>w'.cell? ⟨tb,0,none⟩=some (.slice (some ⟨g,0,none⟩) n cap)∧w'.rangeAt w.heap.size 0 V) (by kernel_rfl) ⟨c0,RB.out⟩ (fun Z9=>?_);refine ZW (.pointer (some ⟨tb,0,none⟩)) (by kernel_rfl) (fun _=>id) (by assumption) (fun w' hSw=>?_) ?_
 · (try dsimp only at hSw)
   go_simp
 simp only [Act.put,Y8,Y7,Y6]
 refine ZW (.pointer (some ⟨tb,0,none⟩)) (by kernel_rfl) (fun _=>id) (by assumption) (fun w' hSw=>?_) ?_
 · (try dsimp only at hSw)
   go_simp
 simp only [Act.put,Y8,Y7,Y6]
 refine ZW (.pointer (some ⟨tb,0,none⟩)) (by kernel_rfl) (fun _=>id) (by assumption) (fun w' hSw=>?_) ?_
 · (try dsimp only at hSw)
   go_simp
 simp only [Act.put,Y8,Y7,Y6]
 refine ZW (.slice (some ⟨g,0,none⟩) n cap) (by kernel_rfl) (fun _=>id) (by assumption) (fun w' hSw=>?_) ?_
 · (try dsimp only at hSw)
   go_simp
 simp only [Act.put,Y8,Y7,Y6]
 refine ZW (.int .i64 i) (by kernel_rfl) (fun _=>id) (by assumption) (fun w' hSw=>?_) ?_
 · (try dsimp only at hSw)
   go_simp
 simp only [Act.put,Y8,Y7,Y6]
 refine TO (i:=5) (oi:=⟨some 23,_,_,_,_,_⟩) (v:=.agg (V).toArray) rfl (by kernel_rfl) (fun _ _ _ h=>h) (Jc (by rfl) _ _ rfl _ _ rfl V _ (fun w' hSw=>hSw.2) Tryz.underlying117 rfl (YH _ UZ.out)) (by assumption) ?_
 simp only [Act.put,Y8,Y7,Y6]
 refine ZG 6 (.pointer (some ⟨g,i*65,none⟩)) rfl (by kernel_rfl) (fun _=>id) (by assumption) (fun w' hSw=>?_) ?_
 · (try dsimp only at hSw)
   go_simp
 simp only [Act.put,Y8,Y7,Y6]
 refine ZG 7 (.pointer (some ⟨g,i*65+1,none⟩)) rfl (by kernel_rfl) (fun _=>id) (by assumption) (fun w' hSw=>?_) ?_
 · (try dsimp only at hSw)
   go_simp
 simp only [Act.put,Y8,Y7,Y6]
 refine ZU 8 rfl (by kernel_rfl) (fun K hK=>?_);refine Ve rfl 117 _ _ rfl g (i*65+1) V.toArray rfl rfl ?t1 ?t2 (Ru tN.out) ?_
 case t1 =>
  have e:V.toArray.size=64:=by rw [Zm];exact UZ.out
  rw [e];exact TH.out
 case t2=>rw [Zm];exact YH _ UZ.out
 have hgt:g≠tb:=fun e=>TA.out.vt (by rw [e];rfl)
 have FI:=FIN.out W0.drew (TA.out.below (below_drewN' W0 1)) ((BA.out.mono hlow).trans ((below_drewN' W0 1).mono (by have:=BA.out.size;omega)));rw [Ea];refine hK.out _ _ ⟨?_,?_⟩ (fun N=>?_)
 · rw [qV _ _ _ _ _ (fun h=>absurd h (Ne.symm hgt))];exact c0
 · exact qU (w:=W0.drew) ((DV _ _ _ _).2 RB.out) _ _ _ (.inl (show w.heap.size≠g by omega))
 clear hK K Z9;refine ZP (by kernel_rfl) ?_ _;clear N c0 c1;go_wp2;refine ZS (Rs rfl _ _ _) rfl ⟨rfl,FI.1,FI.2.1,fun q hq n1 n2 n3=>(FI.2.2.block q (by have:=BA.out.size;show q<W0.heap.size;omega) (fun e=>n3 (by injection e with e;rw [e];rfl))).trans (BA.out.block q hq)⟩
theorem oY (w:World) (lo tb mb:Nat) (v:Value) (rs:List (Int × List Int)) (x:Int) (O:List Int) (ht:UM w lo tb mb v rs) (hno:∀i,i<rs.length→pB rs i≠x) (hwx:(Lit.int .i64 x).wf=true) (T:O.length=64) (hlen:rs.length≤1048576) (hlow:lo≤w.heap.size) :
    Calls Tryz.prog 136 #[.pointer (some ⟨tb,0,none⟩),.int .i64 x,.agg (O.map (Value.int .u8)).toArray] w fun e w'=>e=.returned (.tuple #[])∧(∃v',UM w' lo tb mb v' (rs++[(x,O)]))∧Below lo w w'∧(∀q,q<w.heap.size→q≠tb→q≠mb→v.ownBlock≠some q→w'.heap[q]?=w.heap[q]?):=by
 obtain ⟨D,hD,hM⟩:=ht.map;obtain ⟨⟨zt,c0,c1⟩,-⟩:=ht.box;have hhas:Maps.has D (.int .i64 x)=false:=by
  cases h:Maps.has D (.int .i64 x) with
  | false=>rfl
  | true=>obtain ⟨i,hi,e⟩:=(hM.1 x).1 h;exact absurd e (hno i hi)
 have hkey:=Maps.keyOf_int_mk (P:=Tryz.prog) Tryz.underlying2 hwx;obtain ⟨i0,hi,hz0,hz1,hz2⟩:=Yq yP;obtain ⟨V,hV⟩:∃V,V=O.map (Value.int .u8):=⟨_,rfl⟩;have UZ:Hid (V.length=64):=by rw [hV];show _=_;rw [XJ];exact T
 have tN:Hid (∀v ∈ V,v.oneCell'=true):=by rw [hV];exact Wf _ _
 have YL:=Z3 hV;have YJ:=Z3 (hM.snoc hD.isMap x O hno);have WG:=Z3 hno;have YG:=Z3 T;rw [←hV];have BA:Hid (ZX w (w.alloc (.cells V.toArray 117))):=ZJ.alloc ZT _;have TA:=Z3 (ht.below BA.out);have RB:Hid ((w.alloc (.cells V.toArray 117)).rangeAt w.heap.size 0 V):=by have:=SZ w V.toArray 117;rw [Ea] at this;exact this
 have HD:Hid ((w.alloc (.cells V.toArray 117)).ownsMap Tryz.prog 2 (plainElem Tryz.prog 3) mb rs.length D):=hD.alloc _;have sA:(w.alloc (.cells V.toArray 117)).heap.size=w.heap.size+1:=by simp
 obtain ⟨va,U,rfl⟩:∃a c,v=.slice a rs.length c:=by
  rcases ht.rows.2 with ⟨rfl,h1⟩ | ⟨g,cap,cur,rfl,-⟩
  · exact ⟨none,0,by rw [h1]⟩
  exact ⟨_,_,rfl⟩
 have Z4:∀q,Value.ownBlock (.slice va rs.length U)=some q→q<w.heap.size:=fun q hq=>(ZD ht.rows q hq).2
 have Zh:=Z3 Z4;have zm:=hD.lt;clear ht hD hM hV hno T Z4;generalize hn:rs.length=n at *;have HN:=Z3 hn;clear hn
 go_enter Tryz.func136,Tryz.ntmps136
 go_wp2_with (at_lookup;refine qT _ rfl _ _ 206 rfl 2 3 .i64 oZ Tryz.underlying206 Tryz.underlying3 (DL _) mb n D rfl HD.out _ _ rfl hkey ?_)
 intro c hat hwc;clear c0 c1;generalize w.alloc _=W0 at *
 go_wp2_with fail
 obtain ⟨⟨ZO,c0,c1⟩,f0,f1⟩:=TA.out.box;refine ZH (S:=fun w'=>w'.cell? ⟨tb,0,none⟩=some (.slice va n U)∧w'.cell? ⟨tb,1,none⟩=some (.map (some mb))) (by kernel_rfl) ⟨c0,c1⟩ (fun Z9=>?_);refine ZW (.pointer (some ⟨tb,0,none⟩)) (by kernel_rfl) (fun _=>id) (by assumption) (fun w' hSw=>?_) ?_
 · (try dsimp only at hSw)
   go_simp
 simp only [Act.put,Y8,Y7,Y6]
 refine ZW (.pointer (some ⟨tb,0,none⟩)) (by kernel_rfl) (fun _=>id) (by assumption) (fun w' hSw=>?_) ?_
 · (try dsimp only at hSw)
   go_simp
 simp only [Act.put,Y8,Y7,Y6]
 refine ZW (.pointer (some ⟨tb,1,none⟩)) (by kernel_rfl) (fun _=>id) (by assumption) (fun w' hSw=>?_) ?_
 · (try dsimp only at hSw)
   go_simp
 simp only [Act.put,Y8,Y7,Y6]
 refine ZW (.map (some mb)) (by kernel_rfl) (fun _=>id) (by assumption) (fun w' hSw=>?_) ?_
 · (try dsimp only at hSw)
   go_simp
 simp only [Act.put,Y8,Y7,Y6]
 refine ZW (.int .i64 x) (by kernel_rfl) (fun _=>id) (by assumption) (fun w' hSw=>?_) ?_
 · (try dsimp only at hSw)
   go_simp
 simp only [Act.put,Y8,Y7,Y6]
 refine ZW (.pointer (some ⟨tb,0,none⟩)) (by kernel_rfl) (fun _=>id) (by assumption) (fun w' hSw=>?_) ?_
 · (try dsimp only at hSw)
   go_simp
 simp only [Act.put,Y8,Y7,Y6]
 refine ZW (.pointer (some ⟨tb,0,none⟩)) (by kernel_rfl) (fun _=>id) (by assumption) (fun w' hSw=>?_) ?_
 · (try dsimp only at hSw)
   go_simp
 simp only [Act.put,Y8,Y7,Y6]
 refine ZW (.pointer (some ⟨tb,0,none⟩)) (by kernel_rfl) (fun _=>id) (by assumption) (fun w' hSw=>?_) ?_
 · (try dsimp only at hSw)
   go_simp
 simp only [Act.put,Y8,Y7,Y6]
 refine ZW (.slice va n U) (by kernel_rfl) (fun _=>id) (by assumption) (fun w' hSw=>?_) ?_
 · (try dsimp only at hSw)
   go_simp
 simp only [Act.put,Y8,Y7,Y6]
 refine ZW (.int .i64 n) (by kernel_rfl) (fun _=>id) (by assumption) (fun w' hSw=>?_) ?_
 · (try dsimp only at hSw)
   go_simp
 simp only [Act.put,Y8,Y7,Y6]
 refine ZU 10 rfl (by kernel_rfl) (fun K hK=>?_);refine R9 rfl _ _ _ 206 rfl 2 3 oZ Tryz.underlying206 _ mb n D rfl HD.out.drew ?m1 _ _ _ rfl rfl hkey (.lit (.int .i64 n)) [] ?m2 ?_
 case m1=>unfold maxLen;omega
 case m2=>exact plainElem_int Tryz.underlying3 (Ow _ (by omega) (by omega))
 intro W1 m1 g1;have Z2:=TA.out.ne;have d0:=(g1.cell_far ⟨tb,0,none⟩ ZO (by simpa using Z2)).trans c0;have d1:=(g1.cell_far ⟨tb,1,none⟩ ZO (by simpa using Z2)).trans c1;have e0:=(g1.frozen_far ⟨tb,0,none⟩ ZO (by simpa using Z2)).trans f0;have e1:=(g1.frozen_far ⟨tb,1,none⟩ ZO (by simpa using Z2)).trans f1;refine hK.out _ _ ⟨d0,d1⟩ (fun N=>?_);clear hK K Z9;refine ZP (by kernel_rfl) ?_ _;have G1:Hid (W0.grownBy W1 (some mb)):=⟨g1.os,g1.tape,g1.output,g1.size,g1.block⟩;have M1:=Z3 m1;clear N c0 c1 f0 f1 m1 g1
 go_wp2_with fail
 go_frame
 have ZA:=Z3 (YF RB.out (G1.out.block _ (by omega) (by simp;omega)));have hrow:∀W ob,ZX W1 W→(W.alloc ob).ownsRow lo 210 65 (.slice va n U) n (WR rs):=by
  intro W ob hW;have h0:=TA.out.rows;rw [HN.out] at h0;have h1:=Yu h0 G1.out (by
   cases e:Value.ownBlock (.slice va n U) with
   | none=>exact .inl rfl
   | some q=>right;rw [←e];exact TA.out.vm)
  refine Mk (Yu h1 (row:=none) ⟨hW.os,hW.tape,hW.output,hW.size,fun q hq _=>hW.block q hq⟩ ?_) ob
  cases Value.ownBlock (.slice va n U) with
  | none=>exact .inl rfl
  | some q=>exact .inr (by simp)
 have Zt:=Z3 hrow;have Zr:=ZL ZO G1.out.size;have Zg:w.heap.size<W1.heap.size:=by have:=G1.out.size;omega
 have hwt:w.heap.size≠tb:=by omega
 have Z6:Hid (∀u ∈ (Value.int .i64 x :: V),u.oneCell'=true):=by
  intro u hu
  rcases Yz.1 hu with rfl | hu
  · rfl
  exact tN.out u hu
 have yO:Hid (∀W:World,∀j u,(Value.int .i64 x :: V)[j]?=some u→(W.alloc (.cells (Value.int .i64 x :: V).toArray 210)).cell? ((⟨W.heap.size,0,none⟩:Addr).add j)=some u):=by
  intro W j u hu;rw [Sg,YK,Xn _ _ j _ _ _ (Y9 W _)]
  simpa using hu
 have Zq:Hid (∀w4 ob,(W1.drew.alloc ob).grownBy w4 (Value.ownBlock (.slice va n U))→(∀j,w4.cell? ⟨tb,j,none⟩=W1.cell? ⟨tb,j,none⟩∧w4.frozen? ⟨tb,j,none⟩=W1.frozen? ⟨tb,j,none⟩)∧∀u,(w4.setCell ⟨tb,0,none⟩ u).rangeAt w.heap.size 0 V∧w4.rangeAt w.heap.size 0 V):=by
  intro w4 ob hg;have hG:=Mm (Ml W1 ob _) ⟨hg.os,hg.tape,hg.output,hg.size,hg.block⟩;have hr:=YF ZA.out (hG.block _ Zg (fun e=>by have:=Zh.out _ e.symm;omega));refine ⟨fun j=>⟨hG.cell_far ⟨tb,j,none⟩ Zr (fun e=>TA.out.vt e.symm),hG.frozen_far ⟨tb,j,none⟩ Zr (fun e=>TA.out.vt e.symm)⟩,fun u=>⟨?_,hr⟩⟩;intro j y hy;rw [Zs _ _ _ _ (by intro e;injection e with e;exact hwt e.symm)];exact hr j y hy
 have FIN:Hid (∀g cap w4 ob,w4.ownsRow lo 210 65 (.slice (some ⟨g,0,none⟩) (n+1) cap) (n+1) (WR rs++(.int .i64 x :: V))→(W1.drew.alloc ob).grownBy w4 (Value.ownBlock (.slice va n U))→(Value.ownBlock (.slice va n U)=some g∨g=W1.heap.size+1) →
     UM (w4.setCell ⟨tb,0,none⟩ (.slice (some ⟨g,0,none⟩) (n+1) cap)) lo tb mb (.slice (some ⟨g,0,none⟩) (n+1) cap) (rs++[(x,O)])∧Below lo w (w4.setCell ⟨tb,0,none⟩ (.slice (some ⟨g,0,none⟩) (n+1) cap))∧(∀q,q<w.heap.size→q≠tb→q≠mb→Value.ownBlock (.slice va n U)≠some q→(w4.setCell ⟨tb,0,none⟩ (.slice (some ⟨g,0,none⟩) (n+1) cap)).heap[q]?=w.heap[q]?)):=by
  intro g cap w4 ob h1 h2 h3;have hT:=TA.out;have hM:=YJ.out;have hM1:=M1.out;rw [YL.out] at h1;rw [←HN.out] at h1 h2 h3 hT hM1 ⊢;rw [←HN.out] at hM;have:=UM.snoc (W0:=W0) (W1:=W1) (ob:=ob) hT G1.out hM1 hM h1 ⟨h2.os,h2.tape,h2.output,h2.size,h2.block⟩ h3 (by rw [HN.out];exact WG.out) YG.out (by omega);exact ⟨this.1,(BA.out.mono hlow).trans this.2.1,fun q hq n1 n2 n3=>(this.2.2 q (by omega) n1 n2 n3).trans (BA.out.block q hq)⟩
 have ZN:n+1≤maxLen:=by unfold maxLen;omega
 have ZK:(n+1)*72≤140737488355328:=by omega
 have Zp:lo≤W1.heap.size:=by omega
 clear hrow;refine ZH (S:=fun w'=>w'.rangeAt w.heap.size 0 V) (by kernel_rfl) ((DV _ _ _ _).2 ZA.out) (fun Z9=>?_);refine ZW (.pointer (some ⟨tb,0,none⟩)) (by kernel_rfl) (fun _=>id) (by assumption) (fun w' hSw=>?_) ?_
 · (try dsimp only at hSw)
   go_simp
 simp only [Act.put,Y8,Y7,Y6]
 refine ZW (.pointer (some ⟨tb,0,none⟩)) (by kernel_rfl) (fun _=>id) (by assumption) (fun w' hSw=>?_) ?_
 · (try dsimp only at hSw)
   go_simp
 simp only [Act.put,Y8,Y7,Y6]
 refine ZW (.pointer (some ⟨tb,0,none⟩)) (by kernel_rfl) (fun _=>id) (by assumption) (fun w' hSw=>?_) ?_
 · (try dsimp only at hSw)
   go_simp
 simp only [Act.put,Y8,Y7,Y6]
 refine ZW (.pointer (some ⟨tb,0,none⟩)) (by kernel_rfl) (fun _=>id) (by assumption) (fun w' hSw=>?_) ?_
 · (try dsimp only at hSw)
   go_simp
 simp only [Act.put,Y8,Y7,Y6]
 refine ZG 5 (.int .i64 x) rfl (by kernel_rfl) (fun _=>id) (by assumption) (fun w' hSw=>?_) ?_
 · (try dsimp only at hSw)
   go_simp
 simp only [Act.put,Y8,Y7,Y6]
 refine TO (i:=6) (oi:=⟨some 42,_,_,_,_,_⟩) (v:=.agg (V).toArray) rfl (by kernel_rfl) (fun _ _ _ h=>h) (Jc (by rfl) _ _ rfl _ _ rfl V _ (fun w' hSw=>hSw) Tryz.underlying117 rfl (YH _ UZ.out)) (by assumption) ?_
 simp only [Act.put,Y8,Y7,Y6]
 refine ZG 7 (.agg (Value.int .i64 x :: V).toArray) rfl (by kernel_rfl) (fun _=>id) (by assumption) (fun w' hSw=>?_) ?_
 · (try dsimp only at hSw)
   have hb:=La w' x V UZ.out
   simp [execOp]
   exact ZR (fun r=>Result.andThen r fun a w''=>Result.ok (Next.value a) w'') hb
 simp only [Act.put,Y8,Y7,Y6]
 refine UY 4 8 rfl rfl (by kernel_rfl) (fun K hK=>?_) (fun K hK=>?_)
 · go_simp
   refine hK.out _ _ (by assumption) (fun Zz=>?_);clear hK K;refine ZU 8 rfl (by kernel_rfl) (fun K hK=>?_);refine Vu rfl _ rfl x V UZ.out rfl ?_;have hS2:(W1.drew.alloc (.cells (Value.int .i64 x :: V).toArray 210)).rangeAt w.heap.size 0 V:=Jm ((DV _ _ _ _).2 ZA.out) _;refine hK.out _ _ hS2 (fun Zy=>?_);clear hK K
   simp only [Act.put,Y8,Y7,Y6]
   refine ZU 9 rfl (by kernel_rfl) (fun K hK=>?_);refine step_append_lies _ rfl _ _ 205 rfl lo 210 i0 zT 65 72 Tryz.underlying205 hi hz0 hz1 hz2 Lb (by omega) (.slice va n U) n (WR rs) rfl (Zt.out W1.drew _ (below_drewN' W1 1)) ⟨W1.heap.size,0,none⟩ 1 1 (Value.int .i64 x :: V) rfl ?a1 (yO.out W1.drew) Z6.out (by omega) ZN ZK ?a2 (W1.heap.size+1) ?a3 ?_
   case a1=>rw [Yr,UZ.out]
   case a2=>exact (show lo≤(W1.alloc (.cells (Value.int .i64 x :: V).toArray 210)).heap.size by rw [Wg];exact Nat.le_succ_of_le Zp)
   case a3=>exact (show (W1.alloc (.cells (Value.int .i64 x :: V).toArray 210)).heap.size=W1.heap.size+1 by rw [Wg])
   intro g4 cap4 w4 JM hg4 Rq Lc;obtain ⟨q1,q2⟩:=Zq.out _ _ hg4;have FI:=FIN.out _ _ _ _ JM hg4 Rq;have yN:=Z3 FI;have p0:=(q1 0).1.trans d0;have p1:=(q1 0).2.trans e0;refine hK.out _ _ (q2 (.int .i64 0)).2 (fun Z8=>?_);have mg:=Z3 q2;clear hK K FI JM hg4 Rq q1 q2
   simp only [Act.put,Y8,Y7,Y6]
   refine ZG 10 (.pointer (some ⟨tb,0,none⟩)) rfl (by kernel_rfl) (fun _=>id) (by assumption) (fun w' hSw=>?_) ?_
   · (try dsimp only at hSw)
     go_simp
   simp only [Act.put,Y8,Y7,Y6]
   refine ZG 11 (.pointer (some ⟨tb,0,none⟩)) rfl (by kernel_rfl) (fun _=>id) (by assumption) (fun w' hSw=>?_) ?_
   · (try dsimp only at hSw)
     go_simp
   simp only [Act.put,Y8,Y7,Y6]
   refine ZU 12 rfl (by kernel_rfl) (fun K hK=>?_);go_simp;refine hK.out _ _ (mg.out _).1 (fun Z7=>?_);clear hK K;refine ZP (by kernel_rfl) ?_ _;clear Z7 Z8;go_wp2
   go_end0
   exact ⟨rfl,⟨_,yN.out.1⟩,yN.out.2.1,yN.out.2.2⟩
 refine Vu rfl _ rfl x V UZ.out rfl ?_;have hS2:(W1.drew.alloc (.cells (Value.int .i64 x :: V).toArray 210)).rangeAt w.heap.size 0 V:=Jm ((DV _ _ _ _).2 ZA.out) _;refine hK.out _ _ hS2 (fun Zy=>?_);clear hK K
 simp only [Act.put,Y8,Y7,Y6]
 refine ZU 4 rfl (by kernel_rfl) (fun K hK=>?_);go_simp;refine hK.out _ _ (by assumption) (fun Zz=>?_);clear hK K;refine ZU 9 rfl (by kernel_rfl) (fun K hK=>?_);refine step_append_lies _ rfl _ _ 205 rfl lo 210 i0 zT 65 72 Tryz.underlying205 hi hz0 hz1 hz2 Lb (by omega) (.slice va n U) n (WR rs) rfl (Zt.out W1.drew _ (below_drewN' W1 1)) ⟨W1.heap.size,0,none⟩ 1 1 (Value.int .i64 x :: V) rfl ?a1 (yO.out W1.drew) Z6.out (by omega) ZN ZK ?a2 (W1.heap.size+1) ?a3 ?_
 case a1=>rw [Yr,UZ.out]
 case a2=>exact (show lo≤(W1.alloc (.cells (Value.int .i64 x :: V).toArray 210)).heap.size by rw [Wg];exact Nat.le_succ_of_le Zp)
 case a3=>exact (show (W1.alloc (.cells (Value.int .i64 x :: V).toArray 210)).heap.size=W1.heap.size+1 by rw [Wg])
 intro g4 cap4 w4 JM hg4 Rq Lc;obtain ⟨q1,q2⟩:=Zq.out _ _ hg4;have FI:=FIN.out _ _ _ _ JM hg4 Rq;have yN:=Z3 FI;have p0:=(q1 0).1.trans d0;have p1:=(q1 0).2.trans e0;refine hK.out _ _ (q2 (.int .i64 0)).2 (fun Z8=>?_);have mg:=Z3 q2;clear hK K FI JM hg4 Rq q1 q2
 simp only [Act.put,Y8,Y7,Y6]
 refine ZG 10 (.pointer (some ⟨tb,0,none⟩)) rfl (by kernel_rfl) (fun _=>id) (by assumption) (fun w' hSw=>?_) ?_
 · (try dsimp only at hSw)
   go_simp
 simp only [Act.put,Y8,Y7,Y6]
 refine ZG 11 (.pointer (some ⟨tb,0,none⟩)) rfl (by kernel_rfl) (fun _=>id) (by assumption) (fun w' hSw=>?_) ?_
 · (try dsimp only at hSw)
   go_simp
 simp only [Act.put,Y8,Y7,Y6]
 refine ZU 12 rfl (by kernel_rfl) (fun K hK=>?_);go_simp;refine hK.out _ _ (mg.out _).1 (fun Z7=>?_);clear hK K;refine ZP (by kernel_rfl) ?_ _;clear Z7 Z8;go_wp2
 go_end0
 exact ⟨rfl,⟨_,yN.out.1⟩,yN.out.2.1,yN.out.2.2⟩
theorem Rh (w:World) (lo tb mb:Nat) (v:Value) (rs:List (Int × List Int)) (x:Int) (O:List Int) (ht:UM w lo tb mb v rs) (hx0:0≤x) (hx1:x≤1048576) (T:O.length=64) (hlen:rs.length≤1048576) (hlow:lo≤w.heap.size) :
    Calls Tryz.prog 136 #[.pointer (some ⟨tb,0,none⟩),.int .i64 x,.agg (O.map (Value.int .u8)).toArray] w fun e w'=>e=.returned (.tuple #[])∧(∃v' rs',Put rs x O rs'∧UM w' lo tb mb v' rs')∧Below lo w w'∧(∀q,q<w.heap.size→q≠tb→q≠mb→v.ownBlock≠some q→w'.heap[q]?=w.heap[q]?):=by
 by_cases h:∃i,i<rs.length∧pB rs i=x
 · obtain ⟨i,hi,e⟩:=h
   refine (tP w lo tb mb v rs x O i ht hi e (Ow x hx0 hx1) T).mono ?_;rintro e' w' ⟨rfl,h1,h2,h3⟩;exact ⟨rfl,⟨v,_,.inl ⟨i,hi,e,rfl⟩,h1⟩,h2,h3⟩
 have hno:∀i,i<rs.length→pB rs i≠x:=fun i hi e=>h ⟨i,hi,e⟩
 refine (oY w lo tb mb v rs x O ht hno (Ow x hx0 hx1) T hlen hlow).mono ?_;rintro e' w' ⟨rfl,⟨v',h1⟩,h2,h3⟩;exact ⟨rfl,⟨v',_,.inr ⟨hno,rfl⟩,h1⟩,h2,h3⟩
theorem tM {rs':List (Int × List Int)} {V:List Int} (h:Put rs x V rs'):rs'.length≤rs.length+1:=by
 rcases h with ⟨i,_,_,rfl⟩ | ⟨_,rfl⟩
 · simp
 simp
theorem K7 (w:World) (va vb:Option Addr) (dl ca n cb:Nat) (ZQ:List Int) (ps:List (Int × List Int)) (hdl:ZQ.length=dl) (hp:MZ w (.slice vb n cb) ps) (hl:ps.length=n) (hv:Vf dl ps=true) :
    Calls Tryz.prog 131 #[.agg #[.slice va dl ca,.slice vb n cb]] w fun e w'=>e=.returned (.pointer (some ⟨w.heap.size+2,0,none⟩))∧(∃v rs,UM w' (w.heap.size+1) (w.heap.size+2) (w.heap.size+1) v rs∧Ox ZQ ps n rs)∧ZX w w':=by
 have HP:=Z3 hp;have HL:=Z3 hl;have HV:=Z3 hv;have SM:=Z3 hdl;have hn2:n≤2000:=by have:=((Wu dl ps).1 hv).2.2.2.1;omega
 have B0:Hid (ZX w (w.alloc (.cells #[.slice va dl ca,.slice vb n cb] 52))):=ZJ.alloc ZT _;have X0:Hid (Ya (w.alloc (.cells #[.slice va dl ca,.slice vb n cb] 52)) w.heap.size (.slice va dl ca) (.slice vb n cb)):=Ya.new _ _ _ _;have s0:(w.alloc (.cells #[.slice va dl ca,.slice vb n cb] 52)).heap.size=w.heap.size+1:=by simp
 clear hp hl hv hdl
 go_enter Tryz.func131,Tryz.ntmps131
 go_wp2_with fail
 generalize w.alloc _=w0 at *;refine (Ri w0).mono ?_;rintro e w1 ⟨rfl,t1,b1⟩;rw [s0] at t1 ⊢;have T1:Hid (UM w1 (w.heap.size+1) (w.heap.size+2) (w.heap.size+1) (.slice none 0 0) []):=t1;have B1:Hid (Below (w.heap.size+1) w0 w1):=by have:=b1;(try unfold ZX at this);rw [s0] at this;exact this
 have X1:=Z3 (X0.out.below b1);have z1:=T1.out.box.1.1;clear t1 b1 X0;obtain ⟨zx,c0,c1⟩:=X1.out;go_wp2;clear c0 c1
 go_loopw [10] (fun i wr=>∃k:Nat,k≤n∧i=.int .i64 k∧Hid (∃v rs,UM wr (w.heap.size+1) (w.heap.size+2) (w.heap.size+1) v rs∧Ox ZQ ps k rs∧rs.length≤k)∧Hid (Below (w.heap.size+1) w1 wr)) (fun i _=>n - (intOf i).toNat)
 case atStart=>exact ⟨0,Zu _,rfl,⟨_,_,T1.out,Cu _ _,ZT⟩,ZJ⟩
 case round =>
  clear T1;obtain ⟨k,hk,rfl,⟨v,rs,ht,hof,hrl⟩,HG⟩:=hrel;have HT:=Z3 ht;have Aq:=Z3 hof;have Fz:=Z3 hrl;have sg:=HG.out.size;have BW:=Z3 (B0.out.trans (((B1.out.trans HG.out)).mono (by omega)));clear ht hof hrl
  by_cases hlt:k<n
  · obtain ⟨pb,po,rfl,hpb,e1,da,dc,e2,r⟩:=HP.out.recAt HL.out hlt
    obtain ⟨b,hb,hb2,hb3,Z'⟩:=FC HV.out k (by rw [HL.out];exact hlt);have HB:=Z3 hb;rw [hb] at e1;rw [Z'] at e2 r;have YE:=(BW.out.cell (p:=⟨pb,po+k*2,none⟩) hpb).trans e1;have e2':=(BW.out.cell (p:=⟨pb,po+k*2+1,none⟩) hpb).trans e2;obtain ⟨db,I,rfl,YD,-⟩:=r.cellAt Z' (show 0<64 by omega);obtain ⟨V,hV⟩:∃V,V=(pD ps k).map (Value.int .u8):=⟨_,rfl⟩;have RU:Hid (w.rangeAt db I V):=by rw [hV];exact (r.span Z' (by omega)).2
    have UZ:Hid (V.length=64):=by rw [hV];show _=_;rw [XJ];exact Z'
    have Vp:(k:Int)<(n:Int):=by omega
    have uK:Hid (∀W,UM W (w.heap.size+1) (w.heap.size+2) (w.heap.size+1) v rs→w.heap.size+1≤W.heap.size→Calls Tryz.prog 136 #[.pointer (some ⟨w.heap.size+2,0,none⟩),.int .i64 b,.agg V.toArray] W fun e w'=>e=.returned (.tuple #[])∧(∃v' rs',Put rs b (pD ps k) rs'∧UM w' (w.heap.size+1) (w.heap.size+2) (w.heap.size+1) v' rs')∧Below (w.heap.size+1) W w'∧(∀q,q<W.heap.size→q≠w.heap.size+2→q≠w.heap.size+1→v.ownBlock≠some q→w'.heap[q]?=W.heap[q]?)):=by
     intro W hT hW;rw [hV];exact Rh W _ _ _ v rs b (pD ps k) hT (by omega) (by omega) Z' (by have:=Fz.out;omega) hW
    clear e1 e2 r hb Z' hV
    go_wp2_with fail
    have Zx:Hid (ZX wr (wr.alloc (.cells #[.int .i64 b,.slice (some ⟨db,I,none⟩) 64 dc] 132))):=ZJ.alloc ZT _;have XB:Hid (Ya (wr.alloc (.cells #[.int .i64 b,.slice (some ⟨db,I,none⟩) 64 dc] 132)) wr.heap.size (.int .i64 b) (.slice (some ⟨db,I,none⟩) 64 dc)):=Ya.new _ _ _ _;clear YE e2';generalize wr.alloc _=w3 at *;obtain ⟨z3,c0,c1⟩:=XB.out;have sB:=Zx.out.size;have Zn:=YF RU.out ((Zx.out.block db (by have:=BW.out.size;omega)).trans (BW.out.block db YD));have T3:=Z3 (HT.out.below Zx.out);have YM:=HT.out.box.1.1;have Z4:∀q,v.ownBlock=some q→q<wr.heap.size:=fun q hq=>(ZD HT.out.rows q hq).2
    have hat:∀W,(Instr.arrayAt 117 (.slice (some ⟨db,I,none⟩) 64 dc)).run Tryz.prog W=.ok (.pointer (some ⟨db,I,none⟩)) W:=fun W=>run_arrayAt W 117 _ 64 _ _ _ Tryz.underlying117 ZT
    have CP:Hid (Calls Tryz.prog 136 #[.pointer (some ⟨w.heap.size+2,0,none⟩),.int .i64 b,.agg V.toArray] w3.drew fun e w'=>e=.returned (.tuple #[])∧w'.cell? ⟨wr.heap.size,0,none⟩=some (.int .i64 b)∧w'.cell? ⟨wr.heap.size,1,none⟩=some (.slice (some ⟨db,I,none⟩) 64 dc)∧w'.rangeAt db I V∧Hid (∃v rs,UM w' (w.heap.size+1) (w.heap.size+2) (w.heap.size+1) v rs∧Ox ZQ ps (k+1) rs∧rs.length≤k+1)∧Hid (Below (w.heap.size+1) w1 w')):=by
     refine (uK.out w3.drew (T3.out.below (below_drewN' w3 1)) (by show _≤w3.heap.size;omega)).mono ?_;rintro e w' ⟨rfl,⟨v',rs',hput,hT'⟩,hb',hfr⟩;have hc:∀j,w'.cell? ⟨wr.heap.size,j,none⟩=w3.cell? ⟨wr.heap.size,j,none⟩:=fun j=>Zj (w:=w3) (a:=⟨wr.heap.size,j,none⟩) (hfr wr.heap.size z3 (by omega) (by omega) (fun e=>by have:=Z4 _ e;omega))
     refine ⟨rfl,(hc 0).trans c0,(hc 1).trans c1,YF Zn (hb'.block db (by omega)),⟨v',rs',hT',?_,?_⟩,?_⟩
     · refine Ct ZQ ps rs rs' k Aq.out ⟨b,HB.out,by rw [SM.out];exact hb2,hb3⟩ HT.out.apart ?_
       rw [HB.out];exact hput
     · have:=tM hput;have:=Fz.out;omega
     exact ((HG.out.trans (Zx.out.mono (by omega))).trans ((below_drewN' w3 1).mono (by omega))).trans hb'
    clear uK XB T3 RU HG HT Aq;refine ZH (S:=fun w'=>w'.cell? ⟨wr.heap.size,0,none⟩=some (.int .i64 b)∧w'.cell? ⟨wr.heap.size,1,none⟩=some (.slice (some ⟨db,I,none⟩) 64 dc)∧w'.rangeAt db I V) (by kernel_rfl) ⟨c0,c1,Zn⟩ (fun Z9=>?_);refine ZW (.pointer (some ⟨w.heap.size+2,0,none⟩)) (by kernel_rfl) (fun _=>id) Z9 (fun w' hSw=>?_) ?_
    · (try dsimp only at hSw)
      go_simp
    simp only [Act.put,Y8,Y7,Y6]
    refine ZW (.pointer (some ⟨wr.heap.size,0,none⟩)) (by kernel_rfl) (fun _=>id) Z9 (fun w' hSw=>?_) ?_
    · (try dsimp only at hSw)
      go_simp
    simp only [Act.put,Y8,Y7,Y6]
    refine ZW (.int .i64 b) (by kernel_rfl) (fun _=>id) Z9 (fun w' hSw=>?_) ?_
    · (try dsimp only at hSw)
      go_simp
    simp only [Act.put,Y8,Y7,Y6]
    refine ZW (.pointer (some ⟨wr.heap.size,1,none⟩)) (by kernel_rfl) (fun _=>id) Z9 (fun w' hSw=>?_) ?_
    · (try dsimp only at hSw)
      go_simp
    simp only [Act.put,Y8,Y7,Y6]
    refine ZW (.slice (some ⟨db,I,none⟩) 64 dc) (by kernel_rfl) (fun _=>id) Z9 (fun w' hSw=>?_) ?_
    · (try dsimp only at hSw)
      go_simp
    simp only [Act.put,Y8,Y7,Y6]
    refine ZW (.pointer (some ⟨db,I,none⟩)) (by kernel_rfl) (fun _=>id) Z9 (fun w' hSw=>?_) ?_
    · (try dsimp only at hSw)
      go_simp
    simp only [Act.put,Y8,Y7,Y6]
    refine TO (i:=6) (oi:=⟨some 20,_,_,_,_,_⟩) (v:=.agg (V).toArray) rfl (by kernel_rfl) (fun _ _ _ h=>h) (Jc (by rfl) _ _ rfl _ _ rfl V _ (fun w' hSw=>hSw.2.2) Tryz.underlying117 rfl (YH _ UZ.out)) (by assumption) ?_
    simp only [Act.put,Y8,Y7,Y6]
    refine ZU 7 rfl (by kernel_rfl) (fun K hK=>?_);go_simp
    go_at_call 136
    refine CP.out.mono ?_;rintro e w4 ⟨rfl,l0,l1,l2,R4,G4⟩;refine hK.out _ _ ⟨l0,l1,l2⟩ (fun N=>?_);clear hK K Z9;refine ZP (by kernel_rfl) ?_ _
    try simp only [Act.put,Y8,Y7,Y6]
    clear l0 l1 l2 N c0 c1 hat CP Zn;go_wp2
    go_roundw
    case rel=>exact ⟨k+1,by omega,by go_num,R4,G4⟩
    case measure=>simp [intOf];omega
  have hkn:k=n:=by omega
  subst hkn;go_wp2;go_ret;exact ⟨rfl,⟨v,rs,HT.out,Aq.out⟩,BW.out⟩
theorem K6 {α:Type} (L V:List α) (h:V.length=L.length):splice L 0 V=V:=by
 unfold splice;rw [PO,YK,FR (by omega)]
 simp
def blk (D:List Int) (b:Nat):List Int:=(D.drop (b*64)).take 64
theorem Rg (D:List Int) (b j:Nat):(blk D b)[j]?=if j<64 then D[b*64+j]? else none:=by
 unfold blk;rw [CE]
 split
 · rw [Qt]
 rfl
theorem tL {D E:List Int} (hl:D.length=E.length) (hm:D.length % 64=0) (h:∀b,b*64+64≤D.length→blk D b=blk E b):D=E:=by
 apply CH;intro i
 by_cases hi:i<D.length
 · have h1:=h (i / 64) (by omega)
   have h2:(blk D (i / 64))[i % 64]?=(blk E (i / 64))[i % 64]?:=by rw [h1]
   rw [Rg,Rg,ZZ (by omega),ZZ (by omega),show i / 64*64+i % 64=i by omega] at h2;exact h2
 rw [MX (by omega),MX (by omega)]
theorem Ov (D V:List Int) (c b:Nat) (hV:V.length=64) (hc:c*64+64≤D.length):blk (splice D (c*64) V) b=if b=c then V else blk D b:=by
 apply CH;intro j;rw [Rg,XI _ _ _ (by omega),hV]
 by_cases hj:j<64
 · rw [ZZ hj]
   by_cases e:b=c
   · subst e
     rw [ZZ rfl,Z1 (by omega),ZZ (by omega),show b*64+j - b*64=j by omega]
   rw [Z1 e,Rg,ZZ hj]
   by_cases h1:b*64+j<c*64
   · rw [ZZ h1]
   rw [Z1 h1,Z1 (by omega)]
 rw [Z1 hj]
 split
 · rw [MX (by omega)]
 rw [Rg,Z1 hj]
def lays (ZQ:List Int) (rs:List (Int × List Int)):List Int:=rs.foldl (fun D r=>splice D (r.1.toNat*64) r.2) ZQ
theorem Qp (ZQ:List Int) (rs:List (Int × List Int)) (r:Int × List Int):lays ZQ (rs++[r])=splice (lays ZQ rs) (r.1.toNat*64) r.2:=by simp [lays]
def Fits (dl:Nat) (r:Int × List Int):Prop:=∃b:Nat,r.1=b∧b*64+64≤dl∧r.2.length=64
theorem IX {α:Type} {p:List α→Prop} (h0:p []) (hs:∀l x,p l→p (l++[x])) (l:List α):p l:=by
 rw [←List.reverse_reverse l]
 induction l.reverse with
 | nil=>exact h0
 | cons x xs ih=>rw [List.reverse_cons];exact hs _ _ ih
theorem Ou (ZQ:List Int) (rs:List (Int × List Int)):(∀r ∈ rs,Fits ZQ.length r)→(lays ZQ rs).length=ZQ.length:=by
 refine IX (p:=fun rs=>(∀r ∈ rs,Fits ZQ.length r)→(lays ZQ rs).length=ZQ.length) (fun _=>rfl) (fun rs r ih h=>?_) rs;have ih':=ih (fun q hq=>h q (by simp [hq]));obtain ⟨b,hb,hb2,hl⟩:=h r (by simp);rw [Qp,length_splice,ih'];rw [ih',hb,Ww,hl];exact hb2
theorem DJ (ZQ:List Int) (ps:List (Int × List Int)) (hv:Vf ZQ.length ps=true) (b:Nat):∀k,k≤ps.length→blk (uL ZQ ps (fun _=>64) k) b=rdv ZQ ps b k
 | 0,_=>rfl
 | k+1,hk=>by
  have ih:=DJ ZQ ps hv b k (by omega);obtain ⟨c,hc,hc2,_,hd⟩:=FC hv k (by omega);have hl:=Ro ZQ ps (fun _=>64) hv k (by omega);rw [uL,hc,Ww,Wv (by omega),Ov _ _ _ _ hd (by omega)]
  by_cases e:b=c
  · rw [ZZ e,FB ZQ ps b k (by rw [hc,e])]
  rw [Z1 e,Rl ZQ ps b k (by rw [hc];omega),ih]
theorem yM (ZQ:List Int) (rs:List (Int × List Int)) (b:Nat):(∀r ∈ rs,Fits ZQ.length r)→(∀i j,i<rs.length→j<rs.length→pB rs i=pB rs j→i=j) →
    (∀i,i<rs.length→pB rs i=b→blk (lays ZQ rs) b=pD rs i)∧((∀i,i<rs.length→pB rs i≠b)→blk (lays ZQ rs) b=blk ZQ b):=by
 refine IX (p:=fun rs=>(∀r ∈ rs,Fits ZQ.length r)→(∀i j,i<rs.length→j<rs.length→pB rs i=pB rs j→i=j) →
  (∀i,i<rs.length→pB rs i=b→blk (lays ZQ rs) b=pD rs i)∧((∀i,i<rs.length→pB rs i≠b)→blk (lays ZQ rs) b=blk ZQ b)) (fun _ _=>⟨fun i hi=>by simp at hi,fun _=>rfl⟩) (fun rs r ih h hap=>?_) rs
 have hl:(rs++[r]).length=rs.length+1:=by simp
 have hrs:∀q ∈ rs,Fits ZQ.length q:=fun q hq=>h q (by simp [hq])
 have Ze:∀i j,i<rs.length→j<rs.length→pB rs i=pB rs j→i=j:=fun i j hi hj e=>hap i j (by omega) (by omega) (by rw [Xa _ _ _ hi,Xa _ _ _ hj];exact e)
 obtain ⟨i1,i2⟩:=ih hrs Ze;obtain ⟨c,hc,hc2,hd⟩:=h r (by simp);have hlen:=Ou ZQ rs hrs;rw [Qp,hc,Ww,Ov _ _ _ _ hd (by omega)];refine ⟨fun i hi e=>?_,fun hno=>?_⟩
 · rw [hl] at hi
   by_cases ei:i=rs.length
   · subst ei
     rw [WL] at e;rw [Pd,ZZ (by rw [hc] at e;omega)]
   rw [Xa _ _ _ (by omega)] at e;rw [Le _ _ _ (by omega)]
   by_cases eb:b=c
   · have:=hap i rs.length (by omega) (by omega) (by rw [Xa _ _ _ (by omega),WL,e,hc,eb])
     omega
   rw [Z1 eb];exact i1 i (by omega) e
 have hn:=hno rs.length (by omega);rw [WL,hc] at hn;rw [Z1 (by omega)];exact i2 (fun i hi=>by have:=hno i (by omega);rw [Xa _ _ _ hi] at this;exact this)
theorem DI (dl:Nat) (rs:List (Int × List Int)) (h:∀i,i<rs.length→∃b:Nat,pB rs i=b∧b*64+64≤dl∧b≤300) (hf:∀i,i<rs.length→(pD rs i).length=64):∀r ∈ rs,Fits dl r:=by
 intro r hr;obtain ⟨i,hi,rfl⟩:=List.mem_iff_getElem.1 hr;obtain ⟨b,h1,h2,_⟩:=h i hi;have h3:=hf i hi;unfold pB at h1;unfold pD at h3
 simp [List.getD,hi] at h1 h3
 exact ⟨b,h1,h2,h3⟩
theorem yL (ZQ:List Int) (ps rs:List (Int × List Int)) (hv:Vf ZQ.length ps=true) (ht:Ox ZQ ps ps.length rs) (hf:∀i,i<rs.length→(pD rs i).length=64) (hap:∀i j,i<rs.length→j<rs.length→pB rs i=pB rs j→i=j) :
    lays ZQ rs=uL ZQ ps (fun _=>64) ps.length:=by
 have hfit:=DI ZQ.length rs ht.2 hf;have h1:=Ou ZQ rs hfit;have h2:=Ro ZQ ps (fun _=>64) hv ps.length ZT;refine tL (by rw [h1,h2]) (by rw [h1];exact ((Wu _ _).1 hv).1) (fun b hb=>?_);rw [DJ ZQ ps hv b _ ZT];obtain ⟨k1,k2⟩:=yM ZQ rs b hfit hap
 by_cases hex:∃i,i<rs.length∧pB rs i=(b:Int)
 · obtain ⟨i,hi,e⟩:=hex
   rw [k1 i hi e,(ht.1 b).1 i hi e]
 have hno:∀i,i<rs.length→pB rs i≠(b:Int):=fun i hi e=>hex ⟨i,hi,e⟩
 rw [k2 hno,(ht.1 b).2 hno]
 rfl
attribute [local go_sem] VA
theorem Xm {F:Fence} {Q:Exit→Act→World→Prop} (hgd:op.guard=none) (ty:TypeId) (x:Operand) (ho:op.op=.load ty x)
    (b o:Nat) (hx:a.eval x=.pointer (some ⟨b,o,none⟩)) (cs:List Value) (d:TypeDesc) (hc:w.rangeAt b o cs) (hu:P.underlying ty=some d) (hd:d.isRow=true) (hi:(P.info? ty).map (·.size)=some cs.length)
    (h:wpListIn F nF P ops Q rest (a.put op.dst (.agg cs.toArray)) w):wpListIn F nF P ops Q (op :: rest) a w:=by
 refine zl hgd fun K' hK'=>?_
 have hrun:=run_loadAt_mid (P:=P) w b o ty cs d hc hu hd hi;unfold Oper.wpIn;refine ⟨by simp [Oper.about,ho],?_⟩;rw [Oper.semAt_plain F _ _ (by rw [ho];intro c hc';cases hc')]
 simp only [execOp,ho,hx,Vz,hrun,SF]
 exact hK' _ _ h
theorem RZ {F:Fence} {Q:Exit→Act→World→Prop} (hgd:op.guard=none) (ty:TypeId) (x y:Operand) (ho:op.op=.store ty x y)
    (b o:Nat) (cells:Array Value) (hx:a.eval x=.pointer (some ⟨b,o,none⟩)) (hy:a.eval y=.agg cells) (ht:w.there b o cells.size) (hi:(P.info? ty).map (·.size)=some cells.size) (h1:cells.all (·.oneCell')=true)
    (h:wpListIn F nF P ops Q rest (a.put op.dst undef) (w.setCells b o cells.toList)):wpListIn F nF P ops Q (op :: rest) a w:=by
 refine zl hgd fun K' hK'=>?_
 have hrun:=run_storeAt_mid (P:=P) w b o ty cells ht hi h1;unfold Oper.wpIn;refine ⟨by simp [Oper.about,ho],?_⟩;rw [Oper.semAt_plain F _ _ (by rw [ho];intro c hc';cases hc')]
 simp only [execOp,ho,hx,hy,Vz,hrun,SF]
 exact hK' _ _ h
theorem Re (w:World) (t:TypeId):∀(vs:List Value) (o:Nat) (cs:Array Value),o+vs.length≤cs.size→(w.alloc (.cells cs t)).setCells w.heap.size o vs=w.alloc (.cells (splice cs.toList o vs).toArray t)
 | [],o,cs,_=>by rw [Oz];simp [World.setCells]
 | v :: vs,o,cs,h=>by
  rw [World.setCells,World.setCell_alloc_at cs t _ o v rfl,Re w t vs (o+1) _ (by simp at h ⊢;omega),Array.toList_setIfInBounds,PI _ _ _ _ (by simpa using h)]
theorem yK (w:World) (t:TypeId) (vs:List Value) (cs:Array Value) (h:vs.length=cs.size):(w.alloc (.cells cs t)).setCells w.heap.size 0 vs=w.alloc (.cells vs.toArray t):=by
 rw [Re w t vs 0 cs (by omega),K6 _ _ (by simpa using h)]
theorem Su {F:Fence} {w0:World} {cs:Array Value} {Q:Exit→Act→World→Prop} (hgd:op.guard=none) (ty:TypeId) (x y:Operand) (ho:op.op=.store ty x y)
    (cells:Array Value) (hx:a.eval x=.pointer (some ⟨w0.heap.size,0,none⟩)) (hy:a.eval y=.agg cells) (hcs:cells.size=cs.size) (hi:(P.info? ty).map (·.size)=some cells.size) (h1:cells.all (·.oneCell')=true)
    (h:wpListIn F nF P ops Q rest (a.put op.dst undef) (w0.alloc (.cells cells t))):wpListIn F nF P ops Q (op :: rest) a (w0.alloc (.cells cs t)):=by
 refine RZ hgd ty x y ho w0.heap.size 0 cells hx hy (Yc _ _ _ _ hcs.symm) hi h1 ?_;rw [yK w0 t cells.toList cs (by simpa using hcs)]
 simpa using h
theorem yJ (rs:List (Int × List Int)) (i:Nat) (hi:i<rs.length) (h:∀i,i<rs.length→(pD rs i).length=64) (j:Nat) (u:Value) (hu:(Value.int .i64 (pB rs i) :: (pD rs i).map (Value.int .u8))[j]?=some u):(WR rs)[i*65+j]?=some u:=by
 cases j with
 | zero=>rw [Wi,yW rs i hi h];simpa using hu
 | succ j =>
  rw [CF] at hu;rw [show i*65+(j+1)=i*65+1+j by omega];exact yV rs i hi h j u hu
def KB (M gd:Nat) (W W':World):Prop:=W.heap.size≤W'.heap.size∧∀q,q<M→q≠gd→W'.heap[q]?=W.heap[q]?
theorem KB.refl (M gd:Nat) (W:World):KB M gd W W:=⟨ZT,fun _ _ _=>rfl⟩
theorem KB.trans {C:World} (h:KB M gd A B) (k:KB M gd B C):KB M gd A C:=⟨ZF h.1 k.1,fun q hq hn=>(k.2 q hq hn).trans (h.2 q hq hn)⟩
theorem KB.alloc (h:KB M gd A B) (hM:M≤B.heap.size) (o:Obj):KB M gd A (B.alloc o):=⟨by have:=h.1;simp;omega,fun q hq hn=>(Below.heap_alloc B o q (by omega)).trans (h.2 q hq hn)⟩
abbrev tK (dl:Nat):={ r:Int × List Int // Fits dl r }
def encR {dl:Nat} (x:tK dl):Array Value:=#[.int .i64 x.1.1,.agg (x.1.2.map (Value.int .u8)).toArray]
def UC {dl:Nat} (rs:List (Int × List Int)) (h:∀r ∈ rs,Fits dl r):List (tK dl):=rs.pmap (fun r hr=>⟨r,hr⟩) h
theorem L4 {dl:Nat} (rs:List (Int × List Int)) (h:∀r ∈ rs,Fits dl r):(UC rs h).map (·.1)=rs:=by
 unfold UC;rw [List.map_pmap]
 simp
theorem all_in (F:Fence) (n:Nat) (h87:F.fn 88) (hro:F.round=none) (p0:Option Addr) (w:World) :
    CallsIn F n Tryz.prog 88 #[.pointer p0] w fun e w'=>e=.returned (.func (.func 137) #[] #[.pointer (some ⟨w.heap.size,0,none⟩)])∧w'=w.alloc (.cells #[.pointer p0] 138):=by
 refine SC Tryz.func88 rfl h87 ?_ hro
 simp only [Tryz.ntmps88,Zm,Yr,Wo,Nat.reduceAdd,Nat.reduceSub,JO,JN,Wj,Ur,Yw,Vq]
 gi_wp2;go_ret;exact ⟨rfl,rfl⟩
theorem UM.len (h:UM w lo tb mb v rs):rs.length≤9223372036854775807:=by
 rcases h.rows.2 with ⟨-,h1⟩ | ⟨g,cap,cur,-,-,-,h2,h3,-⟩
 · omega
 unfold maxLen at h3;omega
theorem yI (n:Nat) (h:n=65):(Tryz.prog.info? 210).map (·.size)=some n:=by subst h;kernel_rfl
theorem tJ (F:Fence) (n:Nat) (h97:F.fn 137) (hro:F.round=none) (hn:1≤n) (l Ba M gd lo tb mb dl:Nat) (v:Value) (rs:List (Int × List Int)) (hf:∀r ∈ rs,Fits dl r) (J Jx:List (tK dl)→World→Prop)
    (hY:∀pre x W,J pre W→pre.length<rs.length→YieldAt F (n - 1) Tryz.prog l (encR x) W fun e W' =>
     (e=.returned (.bool true)∧J (pre++[x]) W'∧KB M gd W W')∨(e=.returned (.bool false)∧Jx (pre++[x]) W'))
    (W:World) (hJ:AbidesFrom W.heap.size J) (hM:M≤W.heap.size) (hvb:∀q,v.ownBlock=some q→q<M∧q≠gd) (hc:W.cell? ⟨Ba,0,none⟩=some (.pointer (some ⟨tb,0,none⟩))) (hT:UM W lo tb mb v rs) (hlen:rs.length≤9223372036854775807) (h0:J [] W) :
    CallsIn F n Tryz.prog 137 #[.func (.yield l) #[] #[],.pointer (some ⟨Ba,0,none⟩)] W fun e W'=>(∃v,e=.returned v) ∧
     ((∃ys,ys=UC rs hf∧J ys W')∨(∃pre,True∧Jx pre W')):=by
 obtain ⟨va,U,rfl⟩:∃a c,v=.slice a rs.length c:=by
  rcases hT.rows.2 with ⟨rfl,h1⟩ | ⟨g,cap,cur,rfl,-⟩
  · exact ⟨none,0,by rw [h1]⟩
  exact ⟨_,_,rfl⟩
 have HT:=Z3 hT;obtain ⟨⟨zt,c0,c1⟩,-⟩:=hT.box;have HY:Hid (∀pre x W,J pre W→pre.length<rs.length→YieldAt F (n - 1) Tryz.prog l (encR x) W fun e W' =>
     (e=.returned (.bool true)∧J (pre++[x]) W'∧KB M gd W W')∨(e=.returned (.bool false)∧Jx (pre++[x]) W')):=hY
 have HJ:=Z3 hJ;have H0:=Z3 h0;clear hT hY hJ h0;refine SC Tryz.func137 rfl h97 ?_ hro
 simp only [Tryz.ntmps137,Zm,Yr,Wo,Nat.reduceAdd,Nat.reduceSub,JO,JN,Wj,Ur,Yw,Vq]
 gi_wp2;clear c0 c1 hc
 gi_loopw [10] (fun i wr=>∃k:Nat,k≤rs.length∧i=.int .i64 k∧Hid (J ((UC rs hf).take k) wr)∧Hid (KB M gd W wr)) (fun i _=>rs.length - (intOf i).toNat)
 case atStart=>exact ⟨0,Zu _,rfl,(by rw [PO];exact H0.out),KB.refl _ _ _⟩
 case round =>
  obtain ⟨k,hk,rfl,Zb,HG⟩:=hrel;have Za:(UC rs hf).length=rs.length:=by unfold UC;simp
  have Zk:=Z3 Za;have sg:=HG.out.1;clear Za
  by_cases hlt:k<rs.length
  · obtain ⟨g,cap,e,hg1,hg2,hc1,hc2⟩:=HT.out.form (by omega)
    simp only [Y4,Jf] at e
    obtain ⟨rfl,rfl⟩:=e;obtain ⟨YC,hgd⟩:=hvb g rfl;obtain ⟨key,hkey⟩:∃key,key=pB rs k:=⟨_,rfl⟩;obtain ⟨V,hV⟩:∃V,V=(pD rs k).map (Value.int .u8):=⟨_,rfl⟩;obtain ⟨x,hx⟩:∃x,(UC rs hf)[k]?=some x:=⟨_,Xc (by rw [Zk.out];exact hlt)⟩;have hx1:x.1=(pB rs k,pD rs k):=by
     have h1:((UC rs hf).map (·.1))[k]?=some x.1:=by rw [Qs,hx];rfl
     rw [L4,Xc hlt] at h1
     injection h1 with h1
     rw [←h1];unfold pB pD;simp [List.getD,hlt]
    have ma:Hid ((UC rs hf).take (k+1)=(UC rs hf).take k++[x]):=by show _=_;rw [zM,hx];rfl
    have henc:encR x=#[.int .i64 key,.agg V.toArray]:=by unfold encR;rw [hx1,hkey,hV]
    have UZ:Hid (V.length=64):=by rw [hV];show _=_;rw [XJ];exact HT.out.full k hlt
    have tN:Hid (∀v ∈ V,v.oneCell'=true):=by rw [hV];exact Wf _ _
    have RW:Hid (wr.rangeAt g (k*65) (Value.int .i64 key :: V)):=by
     intro j u hu;rw [hkey,hV] at hu;have hj:j<65:=by have:=(UG.1 hu).1;simpa [HT.out.full k hlt] using this
     rw [Zj (w:=W) (a:=⟨g,k*65+j,none⟩) (HG.out.2 g YC hgd),Jn HT.out.rows (k*65+j) (by omega)];exact yJ rs k hlt HT.out.full j u hu
    have Z6:Hid ((Value.int .i64 key :: V).length=65):=by show _=_;rw [Yr,UZ.out]
    have Y':Hid (∀u ∈ (Value.int .i64 key :: V),u.oneCell'=true):=by
     intro u hu
     rcases Yz.1 hu with rfl | hu
     · rfl
     exact tN.out u hu
    have JA:J ((UC rs hf).take k) (wr.alloc (.cells (Value.int .i64 key :: V).toArray 210)):=HJ.out _ wr _ none Zb.out (Ml _ _ _) (fun r e=>by cases e);have qQ:=HY.out _ x _ JA (by rw [XU,Zk.out];omega);rw [henc] at qQ;have R2:Hid ((wr.alloc (.cells (Value.int .i64 key :: V).toArray 210)).rangeAt wr.heap.size 1 V):=by
     intro j u hu;rw [Xn _ _ (1+j) _ _ _ (Y9 wr _)];rw [show 1+j=j+1 by omega]
     simpa using hu
    have Vp:(k:Int)<(rs.length:Int):=by omega
    unfold maxLen at hc2;obtain ⟨fn,tmps,assign,body,hy,hR⟩:=qQ;clear hkey hV hx hx1 henc JA
    gi_wp2_with (first | (refine Xm rfl 210 _ rfl g (k*65) rfl (Value.int .i64 key :: V) _ (Jm RW.out _) Tryz.underlying210 rfl (yI _ Z6.out) ?_) | (refine Xm rfl 210 _ rfl g (k*65) rfl (Value.int .i64 key :: V) _ RW.out Tryz.underlying210 rfl (yI _ Z6.out) ?_) | (refine Su rfl 210 _ _ rfl (Value.int .i64 key :: V).toArray rfl rfl ?s1 ?s2 ?s3 ?_) | (refine Xm rfl 117 _ rfl wr.heap.size 1 rfl V _ R2.out Tryz.underlying117 rfl (YH _ UZ.out) ?_))
    case s1=>rw [Zm,Z6.out];rfl
    case s2=>rw [Zm];exact yI _ Z6.out
    case s3=>exact Ru Y'.out
    refine hR.mono ?_;rintro e W3 (⟨rfl,hJ3,hk3⟩ | ⟨rfl,hJx3⟩)
    · have YB:Hid (J ((UC rs hf).take (k+1)) W3):=by show J _ _;rw [ma.out];exact hJ3
      have oX:=Z3 ((HG.out.alloc (by omega) _).trans hk3);clear hJ3 hk3 hy hR;gi_wp2
      go_roundw
      case rel=>exact ⟨k+1,by omega,by go_num,YB,oX⟩
      case measure=>simp [intOf];omega
    gi_wp2;refine ZS (Rs rfl _ _ _) rfl ?_;exact ⟨⟨_,rfl⟩,.inr ⟨_,trivial,hJx3⟩⟩
  have hkn:k=rs.length:=by omega
  subst hkn;gi_wp2
  go_end0
  exact ⟨⟨_,rfl⟩,.inl ⟨_,rfl,by have:=Zb.out;rw [Wv (by rw [Zk.out];exact ZT)] at this;exact this⟩⟩
theorem all_stops (F:Fence) (n:Nat) (h97:F.fn 137) (hro:F.round=none) (hn:1≤n) (Ba M gd lo tb mb dl:Nat) (v:Value) (rs:List (Int × List Int)) (hf:∀r ∈ rs,Fits dl r)
    (w:World) (hM:M≤w.heap.size) (hBa:Ba<w.heap.size) (hvb:∀q,v.ownBlock=some q→q<M∧q≠gd) (hc:w.cell? ⟨Ba,0,none⟩=some (.pointer (some ⟨tb,0,none⟩))) (hT:UM w lo tb mb v rs) (hlen:rs.length≤9223372036854775807) :
    SeqStopsK F n Tryz.prog 137 #[.pointer (some ⟨Ba,0,none⟩)] (encR (dl:=dl)) (KB M gd) (fun ys=>ys=UC rs hf) (fun _=>True) rs.length w:=fun l J Jx W hW hJ _ hY h0 =>
 tJ F n h97 hro hn l Ba M gd lo tb mb dl v rs hf J Jx hY W hJ (ZF hM hW.size) hvb ((hW.cell (p:=⟨Ba,0,none⟩) hBa).trans hc) (hT.below hW) hlen h0
attribute [local go_sem] VA
theorem K5 (w:World) (va vb:Option Addr) (dl ca n cb:Nat) (ZQ:List Int) (ps:List (Int × List Int)) (hd:Rd .u8 w (.slice va dl ca) ZQ) (hdl:ZQ.length=dl) (hp:MZ w (.slice vb n cb) ps) (hl:ps.length=n)
    (hv:Vf dl ps=true) (hd1:dl≤1048576) (Ot:∀i,(pD ps i).length≤1048576) :
    Calls Tryz.prog 83 #[.agg #[.slice va dl ca,.slice vb n cb]] w fun e w'=>∃v1,e=.returned (.agg #[v1,.slice none 0 0])∧Own .u8 5 w' w.heap.size v1 (uL ZQ ps (fun _=>64) n)∧ZX w w':=by
 have HD:=Z3 hd;have HP:=Z3 hp;have HL:=Z3 hl;have SM:=Z3 hdl;have HV:=Z3 hv;have Cq:=Z3 Ot;have hdp:0<dl:=by have:=((Wu dl ps).1 hv).2.1;omega
 have hn2:n≤2000:=by have:=((Wu dl ps).1 hv).2.2.2.1;omega
 have BA:Hid (∀o1 o2,ZX w ((w.alloc o1).alloc o2)):=fun o1 o2=>(ZJ.alloc ZT _).alloc (by simp) _
 clear hd hp hl hdl hv Ot;refine (XM (n:=6)).1 ?_;refine callsIn_of_wp_marks Tryz.func83 rfl trivial ?_ rfl
 simp only [Tryz.ntmps83,Zm,Yr,Wo,Nat.reduceAdd,Nat.reduceSub,JO,JN,Wj,Ur,Yw,Vq]
 gi_wp2_with fail
 refine ⟨trivial,?_⟩;have Y5:Hid (WI ((w.alloc (.cells #[.slice va dl ca,.slice vb n cb] 52)).alloc (.cells #[.slice none 0 0,.slice none 0 0] 52)) w.heap.size (.slice va dl ca) (.slice vb n cb)):=(WI.new w _ _ _).below (ZJ.alloc ZT _);have ZI:Hid (WI ((w.alloc (.cells #[.slice va dl ca,.slice vb n cb] 52)).alloc (.cells #[.slice none 0 0,.slice none 0 0] 52)) (w.heap.size+1) (.slice none 0 0) (.slice none 0 0)):=by
  have:=WI.new (w.alloc (.cells #[.slice va dl ca,.slice vb n cb] 52)) (.slice none 0 0) (.slice none 0 0) 52;show WI _ _ _ _
  simpa using this
 have B0:=BA.out (.cells #[.slice va dl ca,.slice vb n cb] 52) (.cells #[.slice none 0 0,.slice none 0 0] 52);have HB0:=Z3 B0;clear B0 BA;generalize (w.alloc _).alloc _=w0 at *;refine (XM.2 (UN _ va vb dl ca n cb ps (HP.out.below HB0.out) HL.out hd1 (by omega) Cq.out)).mono ?_;rintro e w1 ⟨rfl,b1⟩;rw [HV.out];have HB1:=Z3 (YV HB0.out b1);have Zw:=Z3 (Y5.out.below b1);have ZE:=Z3 (ZI.out.below b1);have s1:=HB1.out.size;have Ys:=Zw.out.1.1;have Yp:=ZE.out.1.1;clear b1 Y5 ZI HB0;obtain ⟨⟨z1,c0,c1⟩,-⟩:=Zw.out
 gi_wp2_with fail
 refine ⟨trivial,?_⟩;refine (XM.2 (L8 _ _ ZQ (HD.out.below HB1.out) (by have:=SM.out;omega))).mono ?_;rintro e w2 ⟨v2,rfl,o2,b2⟩;obtain ⟨g,cap,rfl,hg0,hg1⟩:=o2.pos SM.out hdp;have O2:=Z3 o2;have HB2:=Z3 (HB1.out.trans (b2.mono s1));have Y2:=Z3 (Zw.out.below b2);have Y1:=Z3 (ZE.out.below b2);have s2:=HB2.out.size;clear o2 b2 Zw ZE HB1 z1 c0 c1;obtain ⟨⟨z1,c0,c1⟩,-⟩:=Y2.out
 gi_wp2_with fail
 refine ⟨trivial,?_⟩;have Zv:Hid (ZX w2 (w2.alloc (.cells #[.slice (some ⟨g,0,none⟩) dl cap] 22))):=ZJ.alloc ZT _;have Y0:Hid (Boxed (w2.alloc (.cells #[.slice (some ⟨g,0,none⟩) dl cap] 22)) w2.heap.size 22 (.slice (some ⟨g,0,none⟩) dl cap)):=Boxed.new _ _ _;have s3:(w2.alloc (.cells #[.slice (some ⟨g,0,none⟩) dl cap] 22)).heap.size=w2.heap.size+1:=by simp
 clear z1 c0 c1;generalize w2.alloc _=w3 at *;have O3:=Z3 (O2.out.below Zv.out);have HB3:=Z3 (HB2.out.trans (Zv.out.mono s2));have YZ:=Z3 (Y1.out.below Zv.out);clear O2 HB2 Y2 Y1 Zv;refine (XM.2 (K7 w3 va vb dl ca n cb ZQ ps SM.out (HP.out.below HB3.out) HL.out HV.out)).mono ?_;rintro e w4 ⟨rfl,⟨tv,rs,ht,hof⟩,b4⟩;have O4:=Z3 (O3.out.below b4);have oV:=Z3 (HB3.out.trans (b4.mono (by omega)));have YY:=Z3 (YZ.out.below b4);have YX:Hid (Boxed w4 w2.heap.size 22 (.slice (some ⟨g,0,none⟩) dl cap)):=(b4.block w2.heap.size (by omega)).trans Y0.out;have YU:=Z3 ht;have Aq:=Z3 hof;have s4:=ht.box.1.1;clear b4 O3 HB3 YZ Y0 ht hof
 gi_wp2_with fail
 refine ⟨trivial,?_⟩;refine (all_in Fence.wide _ trivial rfl _ _).mono ?_;rintro e w5 ⟨rfl,Rc⟩;have s5:w5.heap.size=w4.heap.size+1:=by rw [Rc];simp
 have b5:ZX w4 w5:=by rw [Rc];exact ZJ.alloc ZT _
 have YS:Hid (w5.cell? ⟨w4.heap.size,0,none⟩=some (.pointer (some ⟨w3.heap.size+2,0,none⟩))):=by rw [Rc];show _=_;simp
 have O5:=Z3 (O4.out.below b5);have YA:=Z3 (oV.out.trans (b5.mono (by omega)));have Yy:=Z3 (YY.out.below b5);have Yx:Hid (Boxed w5 w2.heap.size 22 (.slice (some ⟨g,0,none⟩) dl cap)):=(b5.block w2.heap.size (by omega)).trans YX.out;have ZY:=Z3 (YU.out.below b5);clear Rc b5 O4 oV YY YX YU
 gi_wp2_with fail
 have hfit:=DI dl rs (fun i hi=>by have:=Aq.out.2 i hi;rw [SM.out] at this;exact this) ZY.out.full;have hvb:∀q,tv.ownBlock=some q→q<w5.heap.size∧q≠g:=fun q hq=>by have:=ZD ZY.out.rows q hq;omega
 have hrl:=ZY.out.len;have hfin:lays ZQ rs=uL ZQ ps (fun _=>64) n:=by
  have:=yL ZQ ps rs (by rw [SM.out];exact HV.out) (by rw [HL.out];exact Aq.out) ZY.out.full ZY.out.apart;rw [HL.out] at this;exact this
 have TW:=Z3 hfin;clear hfin;refine wpIn_rangeFunc_ownH (F:=Fence.wide) (n:=6) rfl (by omega) (gf:=137) (lb:=#[.pointer (some ⟨w4.heap.size,0,none⟩)]) rfl trivial (enters_of Tryz.func137 (by kernel_rfl) rfl)
  (all_stops Fence.wide (6 - 1) trivial rfl (by omega) w4.heap.size w5.heap.size g _ _ _ dl tv rs hfit w5 ZT (by omega) hvb YS.out ZY.out hrl)
  (fun h k=>KB.trans h k)
  (fun W l o o' hl h _ _=>⟨(grownBy_putObj' W l o').size,fun q hq _=>(grownBy_putObj' W l o').block q (by have:=(Yh.1 h).1;omega) (fun e=>by injection e with e;omega)⟩)
  ZJ (fun _=>rfl)
  (fun pre W=>Boxed W w2.heap.size 22 (.slice (some ⟨g,0,none⟩) dl cap)∧Own .u8 5 W w1.heap.size (.slice (some ⟨g,0,none⟩) dl cap) (lays ZQ (pre.map (·.1)))∧WI W (w.heap.size+1) (.slice none 0 0) (.slice none 0 0)∧ZX w W∧w5.heap.size≤W.heap.size)
  (fun _ _ _=>False)
  (fun s X Y row hs hg hr=>⟨(hg.block w2.heap.size (by have:=hs.2.2.2.2;omega) (fun e=>by have:=(hr _ e.symm).1;omega)).trans hs.1,hs.2.1.other hg (.inr (fun e=>by have:=(hr g (by rw [←e];rfl)).1;omega)),hs.2.2.1.other hg (fun e=>by have:=(hr _ e.symm).1;omega),hs.2.2.2.1.grown hg (by have:=hs.2.2.2.1.size;omega) (fun q e=>by have:=(hr q e).1;omega),ZF hs.2.2.2.2 hg.size⟩)
  (fun _ _ _ _ _ hs _ _=>hs)
  ⟨Yx.out,O5.out,Yy.out,YA.out,ZT⟩
  (fun x a' W=>∃Bx,w5.heap.size≤Bx∧W.heap[Bx]?=some (.cells (x.1.2.map (Value.int .u8)).toArray 117 (0,0))∧a'={ tmps:=#[.agg #[.slice va dl ca,.slice vb n cb],.pointer (some ⟨w.heap.size,0,none⟩),.pointer (some ⟨w.heap.size+1,0,none⟩),.pointer (some ⟨w2.heap.size,0,none⟩),.int .i64 x.1.1,.pointer (some ⟨Bx,0,none⟩),.agg #[.slice va dl ca,.slice vb n cb],.bool true,.bool false,undef,.pointer (some ⟨w.heap.size,0,none⟩),.slice va dl ca,.slice (some ⟨g,0,none⟩) dl cap,.agg #[.slice va dl ca,.slice vb n cb],.pointer (some ⟨w2.heap.size+1+2,0,none⟩),.func (.func 137) #[] #[.pointer (some ⟨w4.heap.size,0,none⟩)],.int .i64 x.1.1,.agg (x.1.2.map (Value.int .u8)).toArray,undef,undef,undef,undef,undef,undef],defers:=[] })
  (fun x a' _ X Y row hs hg hr=>by
   obtain ⟨Bx,h1,h2,h3⟩:=hs;exact ⟨Bx,h1,(hg.block Bx (Yh.1 h2).1 (fun e=>by obtain ⟨-,o,ho,hc⟩:=hr Bx e.symm;rw [h2] at ho;injection ho with ho;rw [←ho] at hc;cases hc)).trans h2,h3⟩)
  ?assign ?body ?done ?stop
 case assign =>
  rintro l pre ⟨⟨key,O⟩,b,hb1,hb2,T⟩ W K hi hK;unfold encR;dsimp only at hb1 T ⊢;subst hb1;have UZ:Hid ((O.map (Value.int .u8)).length=64):=by show _=_;rw [XJ];exact T
  gi_wp2_with (refine Su rfl 117 _ _ rfl (O.map (Value.int .u8)).toArray rfl rfl (by rw [Zm,UZ.out];rfl) (by rw [Zm];exact YH _ UZ.out) (Ru (Wf _ _)) ?_)
  have hs:=hi.2.2.2.2;refine hK _ _ ((KeepsOthers.alloc _ _).from _) ((KB.refl _ _ W).alloc hs _) ⟨hi.1.alloc _,hi.2.1.below (ZJ.alloc ZT _),hi.2.2.1.below (ZJ.alloc ZT _),hi.2.2.2.1.alloc hi.2.2.2.1.size _,by simp;omega⟩ ⟨W.heap.size,hs,Y9 W _,rfl⟩
 case body =>
  rintro l pre ⟨⟨key,O⟩,b,hb1,hb2,T⟩ a' W hl ⟨r,hr⟩ ⟨bX,oW,xR,hB,hs⟩ ⟨Bx,hBx,hcell,rfl⟩ hlt;dsimp only at hb1 T hcell ⊢;subst hb1;have cX:=bX.cell;have hmem:∀q ∈ pre.map (·.1),Fits dl q:=by
   intro q hq;obtain ⟨y,-,rfl⟩:=List.mem_map.1 hq;exact y.2
  have hlen:(lays ZQ (pre.map (·.1))).length=dl:=by rw [Ou ZQ _ (by rw [SM.out];exact hmem),SM.out]
  have UZ:Hid ((O.map (Value.int .u8)).length=64):=by show _=_;rw [XJ];exact T
  have RG:Hid (W.rangeAt Bx 0 (O.map (Value.int .u8))):=by
   intro j u hu;rw [YK,Xn W Bx j _ _ _ hcell]
   simpa using hu
  gi_wp2_with (refine Xm rfl 117 _ rfl Bx 0 rfl (O.map (Value.int .u8)) _ RG.out Tryz.underlying117 rfl (YH _ UZ.out) ?_)
  refine ⟨trivial,?_⟩;refine (CallsIn.inRound l (XM.2 (Rj W w1.heap.size g dl cap b _ O oW hlen T hb2 hd1))).mono ?_;rintro e W' ⟨rfl,o',g'⟩;have hgz:=(ZD oW g rfl).2;have YQ:Hid (lays ZQ ((pre++[(⟨((b:Int),O),⟨b,rfl,hb2,T⟩⟩:tK dl)]).map (·.1))=splice (lays ZQ (pre.map (·.1))) (b*64) O):=by
   show _=_;rw [Wn,TM,MV,Qp,Ww]
  gi_wp2;refine ⟨KeepsFrom.of_grownBy g' (fun j e=>by injection e with e;omega),⟨g'.size,fun q hq hn=>g'.block q (by omega) (by simpa using hn)⟩,⟨(g'.block w2.heap.size (by omega) (by simp;omega)).trans bX,?_,xR.other g' (by simp;omega),hB.grown g' (by have:=hB.size;omega) (fun q e=>by injection e with e;omega),ZF hs g'.size⟩⟩;rw [YQ.out];exact o'
 case done =>
  rintro D xs W hD rfl ⟨bX,oW,xR,hB,hs⟩ hK;rw [L4,TW.out] at oW;have cX:=bX.cell;obtain ⟨⟨zr,d0,d1⟩,f0,f1⟩:=xR;have HO:=Z3 oW;gi_wp2;have hK2:((W.setCell ⟨w.heap.size+1,0,none⟩ (.slice (some ⟨g,0,none⟩) dl cap)).setCell ⟨w.heap.size+1,1,none⟩ (.slice none 0 0)).heap[D]?=some (.deferred (some [])):=(KeepsOthers.setCell _ _ _).same D _ ((KeepsOthers.setCell _ _ _).same D _ hK rfl) rfl;refine ⟨by simp,.inl ⟨_,_,rfl,run_takeDeferred hK2,?_⟩⟩;have x0:((W.setCell ⟨w.heap.size+1,0,none⟩ (.slice (some ⟨g,0,none⟩) dl cap)).setCell ⟨w.heap.size+1,1,none⟩ (.slice none 0 0)).cell? ⟨w.heap.size+1,0,none⟩=some (.slice (some ⟨g,0,none⟩) dl cap):=by
   rw [Zs _ _ _ _ (by simp)];exact Xo _ _ _ d0
  have x1:((W.setCell ⟨w.heap.size+1,0,none⟩ (.slice (some ⟨g,0,none⟩) dl cap)).setCell ⟨w.heap.size+1,1,none⟩ (.slice none 0 0)).cell? ⟨w.heap.size+1,1,none⟩=some (.slice none 0 0) :=
   Xo _ _ _ (by rw [Zs _ _ _ _ (by simp)];exact d1)
  have OX:Own .u8 5 ((W.setCell ⟨w.heap.size+1,0,none⟩ (.slice (some ⟨g,0,none⟩) dl cap)).setCell ⟨w.heap.size+1,1,none⟩ (.slice none 0 0)) w1.heap.size (.slice (some ⟨g,0,none⟩) dl cap) (uL ZQ ps (fun _=>64) n) :=
   (HO.out.setAt (.inr (by simp [Value.ownBlock];omega))).setAt (.inr (by simp [Value.ownBlock];omega))
  have BX:ZX w ((W.setCell ⟨w.heap.size+1,0,none⟩ (.slice (some ⟨g,0,none⟩) dl cap)).setCell ⟨w.heap.size+1,1,none⟩ (.slice none 0 0)):=(hB.setCell (by simp) _).setCell (by simp) _;have SX:((W.setCell ⟨w.heap.size+1,0,none⟩ (.slice (some ⟨g,0,none⟩) dl cap)).setCell ⟨w.heap.size+1,1,none⟩ (.slice none 0 0)).heap.size=W.heap.size:=by simp
  generalize (W.setCell _ _).setCell _ _=X at *;have GX:=grownBy_putObj' X D (.deferred none);have y0:=(Zj (w:=X) (a:=⟨w.heap.size+1,0,none⟩) (GX.block (w.heap.size+1) (by omega) (by simp;omega))).trans x0;have y1:=(Zj (w:=X) (a:=⟨w.heap.size+1,1,none⟩) (GX.block (w.heap.size+1) (by omega) (by simp;omega))).trans x1;have OF:=OX.other GX (.inr (by simp [Value.ownBlock];omega));have BF:=BX.grown GX (by omega) (fun q e=>by injection e with e;omega);generalize X.putObj D (.deferred none)=Z at *;refine ⟨.agg #[.slice (some ⟨g,0,none⟩) dl cap,.slice none 0 0],?_,_,rfl,OF.mono s1,BF⟩
  simp [results,Tryz.results83,go_sem,y0,y1]
 case stop =>
  rintro D c pre W _ _ h _;exact h.elim
theorem IW (w:World) (va vb:Option Addr) (dl ca n cb:Nat) (ps:List (Int × List Int)) (hp:MZ w (.slice vb n cb) ps) (hl:ps.length=n)
    (hno:Vf dl ps=false) (hn:n≤1048576) (hd1:dl≤1048576) (Ot:∀i,(pD ps i).length≤1048576) :
    Calls Tryz.prog 83 #[.agg #[.slice va dl ca,.slice vb n cb]] w (YI w (.agg #[.slice none 0 0,.slice none 0 0])):=by
 have HP:=Z3 hp;have HL:=Z3 hl;have Cq:=Z3 Ot;have BA:Hid (∀o1 o2,ZX w ((w.alloc o1).alloc o2)):=fun o1 o2=>(ZJ.alloc ZT _).alloc (by simp) _
 clear hp hl Ot
 go_enter Tryz.func83,Tryz.ntmps83
 go_wp2_with fail
 have ZI:Hid (WI ((w.alloc (.cells #[.slice va dl ca,.slice vb n cb] 52)).alloc (.cells #[.slice none 0 0,.slice none 0 0] 52)) (w.heap.size+1) (.slice none 0 0) (.slice none 0 0)):=by
  have:=WI.new (w.alloc (.cells #[.slice va dl ca,.slice vb n cb] 52)) (.slice none 0 0) (.slice none 0 0) 52;show WI _ _ _ _
  simpa using this
 have B0:=BA.out (.cells #[.slice va dl ca,.slice vb n cb] 52) (.cells #[.slice none 0 0,.slice none 0 0] 52);have HB0:=Z3 B0;clear B0 BA;generalize (w.alloc _).alloc _=w0 at *;refine (UN _ va vb dl ca n cb ps (HP.out.below HB0.out) HL.out hd1 hn Cq.out).mono ?_;rintro e w1 ⟨rfl,b1⟩;have HB1:=Z3 (YV HB0.out b1);have ZE:=Z3 (ZI.out.below b1);clear b1 ZI HB0;obtain ⟨⟨zr,d0,d1⟩,f0,f1⟩:=ZE.out;rw [hno];clear hno;go_wp2;refine ZS (v:=.agg #[.slice none 0 0,.slice none 0 0]) (by simp [results,Tryz.results83,go_sem,d0,d1]) rfl ⟨rfl,?_⟩
 repeat (first | exact HB1.out | refine Below.setCell ?_ (by simp;try omega) _)
theorem Rb (w:World) (v1 v2:Value) (ZQ:List Int) (ps:List (Int × List Int)) (hd:Rd .u8 w v1 ZQ) (hp:MZ w v2 ps) (hdl:ZQ.length≤1048576) (hn:ps.length≤1048576) (Ot:∀i,(pD ps i).length≤1048576) :
    Calls Tryz.prog 83 #[.agg #[v1,v2]] w fun e w'=>∃u,e=.returned (.agg #[u,.slice none 0 0])∧Own .u8 5 w' w.heap.size u (Qq ZQ ps)∧ZX w w':=by
 obtain ⟨va,ca,rfl,-⟩:=hd.len;obtain ⟨vb,cb,rfl,-⟩:=id hp;unfold Qq
 cases h:Vf ZQ.length ps with
 | true =>
  simp only [Uc]
  exact K5 w va vb ZQ.length ca ps.length cb ZQ ps hd rfl hp rfl h hdl Ot
 | false =>
  simp only [Qw,Vw]
  refine (IW w va vb ZQ.length ca ps.length cb ps hp rfl h hn hdl Ot).mono ?_;rintro e w' ⟨rfl,b⟩;exact ⟨_,rfl,Zl _ _ _ _,b⟩
theorem Wc.DH {hi B:Nat} {vd vk u:Value} {ZQ:List Int} {ps:List (Int × List Int)} {dv:Nat→Value} (ho:Wc w lo hi vd vk ZQ ps dv) (h1:vd.ownBlock≠some B) (h2:vk.ownBlock≠some B) (h3:∀i,i<ps.length→(dv i).ownBlock≠some B):Wc (w.setCell ⟨B,j,none⟩ u) lo hi vd vk ZQ ps dv :=
 ⟨ho.d.setAt (.inr h1),⟨Yu ho.p.1 (grownBy_set w w B j u (YT _ _)) (.inr h2),fun i hi=>(ho.p.2.1 i hi).setAt (.inr (h3 i hi)),ho.p.2.2.1,ho.p.2.2.2⟩,ho.me,ho.pn,ho.iU,ho.dp,ho.dq⟩
theorem Fy (w:World) (b o lo:Nat) (vd vp:Value) (ZQ:List Int) (ps:List (Int × List Int)) (dv:Nat→Value) (lim made x:Int) (C:List Int) (L:List Value) (hC:C.length=64) (hS:St w b L) (l1:L[o+1]?=some vp) (l2:L[o+2]?=some (.int .i64 lim)) (l3:L[o+3]?=some (.int .i64 made)) (hD:Wc w lo w.heap.size vd vp ZQ ps dv) (hlo:lo≤w.heap.size) (hne:vp.ownBlock≠some b) (hnd:vd.ownBlock≠some b) (hnq:∀i,i<ps.length→(dv i).ownBlock≠some b) (hl:-9223372036854775808≤lim∧lim≤9223372036854775807) (hm:0≤made∧made≤10000) (hn:ps.length≤1000000) (h:Sw lim made≠0) :
    Calls Tryz.prog 89 #[.pointer (some ⟨b,o,none⟩),.int .i64 x,.agg (C.map (Value.int .u8)).toArray] w fun e w'=>e=.returned (.bool true)∧∃yH oU,St w' b ((L.set (o+3) (.int .i64 (made+1))).set (o+1) yH)∧Wc w' lo w'.heap.size vd yH ZQ (ps++[(x,C)]) oU∧yH.ownBlock≠some b∧(∀i,i<(ps++[(x,C)]).length→(oU i).ownBlock≠some b)∧Tw w b vp.ownBlock w' yH.ownBlock:=by
 have hlt:=hS.lt;have HC:Hid (∀W,ZX w W→Calls Tryz.prog 138 #[.pointer (some ⟨b,o,none⟩)] W fun e w'=>e=.returned (.bool true)∧∃w1,ZX W w1∧w'=w1.setCell ⟨b,o+3,none⟩ (.int .i64 (made+1))):=fun W hW =>
  have hS':=hS.Zc hW hlt
  L7 W b o lim made (hS'.cl _ _ l2) (hS'.cl _ _ l3) (hS'.fz _) hS'.lt hl hm h
 have BA:Hid (ZX w (w.alloc (.cells (C.map (Value.int .u8)).toArray 117))):=ZJ.alloc ZT _;have RA:Hid ((w.alloc (.cells (C.map (Value.int .u8)).toArray 117)).rangeAt w.heap.size 0 (C.map (Value.int .u8))):=by
  have h9:=SZ w (C.map (Value.int .u8)).toArray 117;show World.rangeAt _ _ _ _
  simpa using h9
 have hsA:(w.alloc (.cells (C.map (Value.int .u8)).toArray 117)).heap.size=w.heap.size+1:=by simp
 have JL:Hid (∀v ∈ (C.map (Value.int .u8)),v.oneCell'=true):=Wf _ _;have HX:Hid ((C.map (Value.int .u8)).length=64):=by show _=_;simpa using hC
 have HS:=Z3 hS;have HD:=Z3 hD;have YP:Hid (∀W,Wc W lo w.heap.size vd vp ZQ ps dv→w.heap.size≤W.heap.size→St W b (L.set (o+3) (.int .i64 (made+1)))→Calls Tryz.prog 139 #[.pointer (some ⟨b,o,none⟩),.int .i64 x,.agg (C.map (Value.int .u8)).toArray] W fun e w'=>e=.returned (.tuple #[])∧∃w5 g cap v,Wc w5 lo w5.heap.size vd (.slice (some ⟨g,0,none⟩) (ps.length+1) cap) ZQ (ps++[(x,C)]) (UR dv ps.length v)∧W.grownBy w5 vp.ownBlock∧(vp.ownBlock=some g∨W.heap.size≤g)∧v.ownBlock=some W.heap.size∧w'=w5.setCell ⟨b,o+1,none⟩ (.slice (some ⟨g,0,none⟩) (ps.length+1) cap)):=fun W hW hs hst =>
  Ld W b o lo w.heap.size vd vp ZQ ps dv x C hW hs (by omega) (hst.cl _ _ (by rw [uj (by omega)];exact l1)) (hst.fz _) hst.lt hne hC hn
 generalize hX:C.map (Value.int .u8)=X at *;clear h l2 l3 hS hD
 go_enter Tryz.func89,Tryz.ntmps89
 go_wp2_with fail
 refine (HC.out _ BA.out).mono ?_;rintro e w2 ⟨rfl,w1,b1,rfl⟩;have B1:=Z3 (YV BA.out b1);have S2:Hid (St (w1.setCell ⟨b,o+3,none⟩ (.int .i64 (made+1))) b (L.set (o+3) (.int .i64 (made+1)))):=(HS.out.Zc B1.out hlt).set _ _;have D2:Hid (Wc (w1.setCell ⟨b,o+3,none⟩ (.int .i64 (made+1))) lo w.heap.size vd vp ZQ ps dv):=(HD.out.below B1.out).DH hnd hne hnq;have T2:Hid (Tw w b vp.ownBlock (w1.setCell ⟨b,o+3,none⟩ (.int .i64 (made+1))) vp.ownBlock):=(Tw.ZV B1.out _ _).set;have R2:Hid ((w1.setCell ⟨b,o+3,none⟩ (.int .i64 (made+1))).rangeAt w.heap.size 0 X):=by
  have h8:w1.heap[w.heap.size]?=_:=b1.block w.heap.size (by omega);exact YF RA.out ((Below.heap_setCell w1 ⟨b,o+3,none⟩ _ w.heap.size (by show w.heap.size≠b;omega)).trans h8)
 have z2:w.heap.size≤(w1.setCell ⟨b,o+3,none⟩ (.int .i64 (made+1))).heap.size:=by simpa using B1.out.size
 have z2b:w.heap.size<(w1.setCell ⟨b,o+3,none⟩ (.int .i64 (made+1))).heap.size:=by have:=b1.size;simp;omega
 clear b1 B1 BA RA HC HS HD hsA;generalize w1.setCell _ _=w2 at *
 go_wp2_with fail
 refine ZH (S:=fun W=>W.rangeAt w.heap.size 0 X) (by kernel_rfl) R2.out (fun Z9=>?_);have S3:Hid (St w2.drew b (L.set (o+3) (.int .i64 (made+1)))):=S2.out.below (below_drewN' w2 1);have D3:Hid (Wc w2.drew lo w.heap.size vd vp ZQ ps dv):=D2.out.below (below_drewN' w2 1);have T3:Hid (Tw w b vp.ownBlock w2.drew vp.ownBlock):=T2.out.trans (Tw.ZV (below_drewN' w2 1) _ _);have z3:w.heap.size≤w2.drew.heap.size:=z2;have z4:w.heap.size<w2.drew.heap.size:=z2b;clear S2 D2 T2 R2 z2 z2b;generalize w2.drew=w3 at *
 iterate 4 (refine ZW ?_ (by kernel_rfl) (fun _=>id) Z9 ?_ ?_;rotate_left;· intro w9 Z0;clear Z0;go_simp;try with_reducible rfl)
 refine TO (i:=4) (oi:=⟨some 14,_,_,_,_,_⟩) (v:=.agg (X).toArray) rfl (by kernel_rfl) (fun _ _ _ h=>h) (Jc (by rfl) _ _ rfl _ _ rfl (X) _ (fun w' hSw=>hSw) Tryz.underlying117 rfl (YH _ HX.out)) (by assumption) ?_;refine ZU 5 rfl (by kernel_rfl) (fun K hK=>?_);go_simp;refine (YP.out _ D3.out z3 S3.out).mono ?_;rintro e w6 ⟨rfl,w5,g,cap,v,D5,G5,hg,hv,rfl⟩;have hvb:vp.ownBlock≠some w.heap.size:=fun e=>by have:=D3.out.pn _ e;omega
 have R6:(w5.setCell ⟨b,o+1,none⟩ (.slice (some ⟨g,0,none⟩) (ps.length+1) cap)).rangeAt w.heap.size 0 X :=
  YF Z9 ((Below.heap_setCell w5 ⟨b,o+1,none⟩ _ w.heap.size (by show w.heap.size≠b;omega)).trans (G5.block w.heap.size z4 (Ne.symm hvb)))
 refine hK.out _ _ R6 (fun ZM=>?_);clear hK K ZM;refine ZP (by kernel_rfl) ?_ _
 try simp only [Act.put,Y8,Y7,Y6]
 have hgb:g≠b:=by
  rcases hg with h9 | h9
  · intro e;rw [e] at h9;exact hne h9
  have:=S3.out.lt;omega
 have Zi:∀i,i<(ps++[(x,C)]).length→(UR dv ps.length v i).ownBlock≠some b:=by
  intro i hi;unfold UR
  split
  · rw [hv];intro e;injection e with e;have:=S3.out.lt;omega
  rename_i hni;exact hnq i (by simp at hi;omega)
 have FIN:Hid (∃yH oU,St (w5.setCell ⟨b,o+1,none⟩ (.slice (some ⟨g,0,none⟩) (ps.length+1) cap)) b ((L.set (o+3) (.int .i64 (made+1))).set (o+1) yH)∧Wc (w5.setCell ⟨b,o+1,none⟩ (.slice (some ⟨g,0,none⟩) (ps.length+1) cap)) lo (w5.setCell ⟨b,o+1,none⟩ (.slice (some ⟨g,0,none⟩) (ps.length+1) cap)).heap.size vd yH ZQ (ps++[(x,C)]) oU∧yH.ownBlock≠some b∧(∀i,i<(ps++[(x,C)]).length→(oU i).ownBlock≠some b)∧Tw w b vp.ownBlock (w5.setCell ⟨b,o+1,none⟩ (.slice (some ⟨g,0,none⟩) (ps.length+1) cap)) yH.ownBlock):=by
  have hl3:=S3.out.lt;have T5:Tw w3 b vp.ownBlock w5 (some g):=by
   refine ⟨G5.os,G5.tape,G5.output,G5.size,fun q hq _ ho=>G5.block q hq (Ne.symm ho),?_⟩
   rcases hg with h9 | h9
   · exact .inl h9.symm
   exact .inr (.inr ⟨g,rfl,h9⟩)
  have S5:St w5 b (L.set (o+3) (.int .i64 (made+1))):=by
   have e:=G5.block b hl3 (Ne.symm hne);refine ⟨ZL hl3 G5.size,fun j=>?_,fun j v hv=>(Zj (w:=w3) (a:=⟨b,j,none⟩) e).trans (S3.out.cl j v hv)⟩;have:=S3.out.fz j;unfold World.frozen? at this ⊢;rw [e];exact this
  refine ⟨_,_,S5.set (o+1) (.slice (some ⟨g,0,none⟩) (ps.length+1) cap),?_,by simp [Value.ownBlock];exact hgb,Zi,?_⟩
  · have h9:=D5.DH (j:=o+1) (u:=.slice (some ⟨g,0,none⟩) (ps.length+1) cap) hnd (by simp [Value.ownBlock];exact hgb) Zi
    simpa using h9
  exact (T3.out.trans T5).set
 clear Z9 S3 D3 T3 D5 G5 hg hv YP Zi R6 hvb;generalize w5.setCell _ _=w6 at *;go_wp2;go_ret;exact ⟨rfl,FIN.out⟩
theorem Cp (w:World) (b o:Nat) (vd vp:Value) (ZQ:List Int) (ps:List (Int × List Int)) (lim made:Int) (L:List Value) (hS:St w b L) (l0:L[o]?=some vd) (l1:L[o+1]?=some vp) (l2:L[o+2]?=some (.int .i64 lim)) (l3:L[o+3]?=some (.int .i64 made)) (hd:∀W,Tw w b none W none→Rd .u8 W vd ZQ∧MZ W vp ps) (hdl:ZQ.length≤1048576) (hpl:ps.length≤1048576) (Ot:∀i,(pD ps i).length≤1048576) (hl:-9223372036854775808≤lim∧lim≤9223372036854775807) (hm:0≤made∧made≤10000) (h:Sw lim made≠0) :
    Calls Tryz.prog 91 #[.pointer (some ⟨b,o,none⟩)] w fun e w'=>e=.returned (.bool true)∧∃u,St w' b (((L.set (o+3) (.int .i64 (made+1))).set o u).set (o+1) (.slice none 0 0))∧Own .u8 5 w' w.heap.size u (Qq ZQ ps)∧Tw w b vp.ownBlock w' vp.ownBlock:=by
 have hlt:=hS.lt;have HC:Hid (Calls Tryz.prog 138 #[.pointer (some ⟨b,o,none⟩)] w fun e w'=>e=.returned (.bool true)∧∃w1,ZX w w1∧w'=w1.setCell ⟨b,o+3,none⟩ (.int .i64 (made+1))) :=
  L7 w b o lim made (hS.cl _ _ l2) (hS.cl _ _ l3) (hS.fz _) hS.lt hl hm h
 have HS:=Z3 hS;have kZ:Hid (∀W,Tw w b none W none→Calls Tryz.prog 83 #[.agg #[vd,vp]] W fun e w'=>∃u,e=.returned (.agg #[u,.slice none 0 0])∧Own .u8 5 w' W.heap.size u (Qq ZQ ps)∧ZX W w'):=fun W hW =>
  Rb W vd vp ZQ ps (hd W hW).1 (hd W hW).2 hdl hpl Ot
 have L0:Hid ((L.set (o+3) (.int .i64 (made+1)))[o]?=some vd∧(L.set (o+3) (.int .i64 (made+1)))[o+1]?=some vp):=⟨by rw [uj (by omega)];exact l0,by rw [uj (by omega)];exact l1⟩;clear h l0 l1 l2 l3 hS hd
 go_enter Tryz.func91,Tryz.ntmps91
 go_wp2_with fail
 refine (HC.out).mono ?_;rintro e w2 ⟨rfl,w1,b1,rfl⟩;have S2:Hid (St (w1.setCell ⟨b,o+3,none⟩ (.int .i64 (made+1))) b (L.set (o+3) (.int .i64 (made+1)))):=(HS.out.Zc b1 hlt).set _ _;have T2:Hid (Tw w b vp.ownBlock (w1.setCell ⟨b,o+3,none⟩ (.int .i64 (made+1))) vp.ownBlock):=(Tw.ZV b1 _ _).set;have YO:Hid (Tw w b none (w1.setCell ⟨b,o+3,none⟩ (.int .i64 (made+1))) none):=(Tw.ZV b1 _ _).set;clear b1 HC HS;generalize w1.setCell _ _=w2 at *;have q0:=S2.out.cl _ _ L0.out.1;have q1:=S2.out.cl _ _ L0.out.2
 go_wp2_with fail
 refine (kZ.out _ YO.out).mono ?_;rintro e w3 ⟨u,rfl,o3,b3⟩;obtain ⟨ua,uc,hu⟩:=o3.slice;subst hu;generalize Yo:(Qq ZQ ps).length=ul at *;have S3:=Z3 (S2.out.below b3);have f0:=S3.out.fz o;have f1:=S3.out.fz (o+1);have z0:=S3.out.cl _ _ L0.out.1;have z1:=S3.out.cl _ _ L0.out.2;have hub:(Value.slice ua ul uc).ownBlock≠some b:=fun e=>by have:=(o3.lt b e).1;have:=S2.out.lt;omega
 have FIN:Hid (∃u',St ((w3.setCell ⟨b,o,none⟩ (.slice ua ul uc)).setCell ⟨b,o+1,none⟩ (.slice none 0 0)) b (((L.set (o+3) (.int .i64 (made+1))).set o u').set (o+1) (.slice none 0 0))∧Own .u8 5 ((w3.setCell ⟨b,o,none⟩ (.slice ua ul uc)).setCell ⟨b,o+1,none⟩ (.slice none 0 0)) w.heap.size u' (Qq ZQ ps)∧Tw w b vp.ownBlock ((w3.setCell ⟨b,o,none⟩ (.slice ua ul uc)).setCell ⟨b,o+1,none⟩ (.slice none 0 0)) vp.ownBlock):=by
  refine ⟨_,(S3.out.set o (.slice ua ul uc)).set _ _,?_,((T2.out.trans (Tw.ZV b3 _ _)).set).set⟩;exact ((o3.mono T2.out.size).setAt (.inr hub)).setAt (.inr hub)
 clear S2 T2 YO q0 q1 o3 b3 hub L0 kZ;go_wp2;go_ret;exact ⟨rfl,FIN.out⟩
theorem YR {a b:Bool} (h:a=b):Ending.returned (.bool a)=.returned (.bool b):=by rw [h]
def okB (x:Nat):Bool:=(decide (97≤x) && decide (x≤122)) || (decide (48≤x) && decide (x≤57))
def bN (s:ByteArray) (j:Nat):Nat:=(s.data.toList.getD j 0).toNat
def IV (s:ByteArray):Bool:=decide (1≤s.size) && decide (s.size≤16) && (List.range s.size).all (fun j=>okB (bN s j))
theorem yG (s:ByteArray) (j:Nat) (h:j<s.size):bN s j=s[j].toNat:=by
 have h':j<s.data.toList.length:=h;unfold bN
 simp only [List.getD,Xc h',PM]
 rfl
theorem Fx (h:j<s.size) (hb:okB (bN s j)=false):IV s=false:=by
 unfold IV;have:(List.range s.size).all (fun j=>okB (bN s j))=false:=by
  rw [Aa];exact ⟨j,UT.2 h,by rw [hb];simp⟩
 rw [this,CI]
theorem tI (h1:1≤s.size) (h2:s.size≤16) (h:∀j,j<s.size→okB (bN s j)=true):IV s=true:=by
 unfold IV;rw [Y3 h1,Y3 h2]
 simp only [Qv,Se,UT]
 exact h
def WF:List UInt8→List UInt8→List (List UInt8)
 | cur,[]=>[cur]
 | cur,x :: l=>if x=47 then cur :: WF [] l else WF (cur++[x]) l
theorem Uq (cur l:List UInt8):WF cur (47 :: l)=cur :: WF [] l:=by simp [WF]
theorem UQ {x:UInt8} (h:¬x=47) (cur l:List UInt8):WF cur (x :: l)=WF (cur++[x]) l:=by simp [WF,h]
def nm (s:ByteArray):List (List UInt8):=WF [] (s.data.toList.drop 1)
def Ap (s:ByteArray) (a b:Nat):List UInt8:=(s.data.toList.drop a).take (b - a)
def sV (l:List UInt8):Value:=.string ⟨l.toArray⟩
theorem VS (s:ByteArray) (a b:Nat):s.extract a b=⟨(Ap s a b).toArray⟩:=by
 apply Lm;rw [pV];apply pZ;unfold Ap;rw [pX,pK]
def DG (l:List UInt8):Bool:=IV ⟨l.toArray⟩
def Zf (s:ByteArray):Bool:=decide (s.data.toList=[47]) || (decide (2≤s.size) && decide (bN s 0=47) && decide ((nm s).length≤6) && (nm s).all DG)
theorem IU:∀(l cur:List UInt8),0<(WF cur l).length
 | [],cur=>by simp [WF]
 | x :: l,cur=>by
  by_cases h:x=47
  · subst h;rw [Uq];simp
  rw [UQ h];exact IU l _
theorem Oq:∀(l cur:List UInt8),(WF cur l).length≤l.length+1
 | [],cur=>by simp [WF]
 | x :: l,cur=>by
  by_cases h:x=47
  · subst h;rw [Uq];have:=Oq l [];simp only [Yr];omega
  rw [UQ h];have:=Oq l (cur++[x]);simp only [Yr];omega
theorem oT (s:ByteArray):(nm s).length≤s.size+1:=by
 have:=Oq (s.data.toList.drop 1) [];have h2:(s.data.toList.drop 1).length≤s.size:=by rw [Zd];show s.size - 1≤_;omega
 unfold nm;omega
theorem IT (h:s.data.toList=[47]):Zf s=true:=by unfold Zf;rw [Y3 h];rfl
theorem Oo (h:¬s.data.toList=[47]):Zf s=(decide (2≤s.size) && decide (bN s 0=47) && decide ((nm s).length≤6) && (nm s).all DG):=by unfold Zf;rw [YW h];rfl
def pN (rs:List (List UInt8)) (i:Nat):ByteArray:=⟨(rs.getD i []).toArray⟩
theorem oS {rs:List (List UInt8)} (h:i<rs.length) (hn:IV (pN rs i)=false):rs.all DG=false:=by
 rw [Aa];refine ⟨rs[i],UO h,?_⟩;unfold DG;have:pN rs i=⟨rs[i].toArray⟩:=by unfold pN;simp [List.getD,h]
 rw [←this,hn];simp
theorem IS (w:World) (s:ByteArray) (c:Int) :
    Calls Tryz.prog 184 #[.string s,.int .u8 c] w fun e w'=>e=.returned (.int .i64 (Lib.indexByte s.data.toList c.toNat.toUInt8))∧w'=w:=by
 go_enter Tryz.func184,Tryz.ntmps184
 go_wp2;rw [zu Tryz.func211 (by kernel_rfl) (by kernel_rfl) (by kernel_rfl) (e:=Extern.BytealgIndexByte.indexByte) (by kernel_rfl),Lib.run_indexByteString]
 simp only [Result.andThen]
 rw [Oper.upon_value];go_wp2;go_ret;exact ⟨rfl,rfl⟩
theorem IR (w:World) (s:ByteArray) :
    Calls Tryz.prog 147 #[.string s,.string ⟨#[47]⟩] w fun e w'=>e=.returned (.int .i64 (Lib.indexByte s.data.toList 47))∧w'=w:=by
 by_cases he:s.data.toList=[47]
 · have hb:([47] == s.toList)=true:=by rw [Sf,he];rfl
   have HX:Hid (Lib.indexByte s.data.toList 47=0):=by show _=_;rw [he];rfl
   clear he
   go_enter Tryz.func147,Tryz.ntmps147
   go_wp2;go_ret;exact ⟨by rw [HX.out];rfl,rfl⟩
 have hb:([47] == s.toList)=false:=by rw [Sf,Vy];exact fun h=>he h.symm
 clear he
 go_enter Tryz.func147,Tryz.ntmps147
 go_wp2_with fail
 refine (IS w s 47).mono ?_;rintro e w2 ⟨rfl,rfl⟩;go_wp2;go_ret;exact ⟨rfl,rfl⟩
theorem tH (w:World) (s:ByteArray) :
    Calls Tryz.prog 99 #[.string s,.string ⟨#[47]⟩] w fun e w'=>e=.returned (.int .i64 (Lib.indexByte s.data.toList 47))∧w'=w:=by
 go_enter Tryz.func99,Tryz.ntmps99
 go_wp2_with fail
 refine (IR w s).mono ?_;rintro e w2 ⟨rfl,rfl⟩;go_wp2;go_ret;exact ⟨rfl,rfl⟩
theorem pre_eq (s:ByteArray) (h:1≤s.size):((s.extract 0 1).toList == [47])=decide (bN s 0=47):=by
 have h0:0<s.data.toList.length:=h;rw [Sf,pV,pX,pK];unfold bN
 cases e:s.data.toList with
 | nil=>rw [e] at h0;simp at h0
 | cons x l =>
  simp only [Qu,VB,List.take_succ_cons,PO,Ll]
  by_cases hx:x=47
  · subst hx;rfl
  have h1:¬x.toNat=47:=fun hh=>hx (UInt8.toNat_inj.1 hh)
  rw [YW h1,Vy]
  simpa using hx
theorem IQ (w:World) (s:ByteArray) (hs:1≤s.size) :
    Calls Tryz.prog 221 #[.string s,.string ⟨#[47]⟩] w fun e w'=>e=.returned (.bool (decide (bN s 0=47)))∧w'=w:=by
 have HE:=Z3 (pre_eq s hs);have h1:(1:Int)≤(s.size:Int):=by omega
 go_enter Tryz.func221,Tryz.ntmps221
 go_wp2;go_ret;exact ⟨by rw [←HE.out];rfl,rfl⟩
theorem DF (w:World) (s:ByteArray) (hs:1≤s.size) :
    Calls Tryz.prog 192 #[.string s,.string ⟨#[47]⟩] w fun e w'=>e=.returned (.bool (decide (bN s 0=47)))∧w'=w:=by
 go_enter Tryz.func192,Tryz.ntmps192
 go_wp2_with fail
 refine (IQ w s hs).mono ?_;rintro e w2 ⟨rfl,rfl⟩;go_wp2;go_ret;exact ⟨rfl,rfl⟩
theorem pre_none (w:World) (s:ByteArray) (hs:s.size=0) :
    Calls Tryz.prog 192 #[.string s,.string ⟨#[47]⟩] w fun e w'=>e=.returned (.bool false)∧w'=w:=by
 have h1:¬(1:Int)≤(s.size:Int):=by omega
 clear hs
 go_enter Tryz.func192,Tryz.ntmps192
 go_wp2_with fail
 refine (show Calls Tryz.prog 221 #[.string s,.string ⟨#[47]⟩] w (fun e w'=>e=.returned (.bool false)∧w'=w) from ?_).mono ?_
 · go_enter Tryz.func221,Tryz.ntmps221
   go_wp2;go_ret;exact ⟨rfl,rfl⟩
 rintro e w2 ⟨rfl,rfl⟩;go_wp2;go_ret;exact ⟨rfl,rfl⟩
theorem MT (w:World) (p:ByteArray) :
    Calls Tryz.prog 194 #[.string p] w fun e w'=>e=.returned (.bool (IV p))∧∃q,w'=w.drewN q:=by
 by_cases hp1:p.size<1
 · have Yv:(p.size:Int)<1:=by omega
   have HF:Hid (IV p=false):=by show _=_;unfold IV;rw [YW (by omega)];rfl
   go_enter Tryz.func194,Tryz.ntmps194
   go_wp2;go_ret;exact ⟨YR HF.out.symm,0,rfl⟩
 have Yv:¬(p.size:Int)<1:=by omega
 by_cases hp2:16<p.size
 · have YN:(16:Int)<(p.size:Int):=by omega
   have HF:Hid (IV p=false):=by show _=_;unfold IV;rw [YW (show ¬p.size≤16 by omega)];simp
   go_enter Tryz.func194,Tryz.ntmps194
   go_wp2;go_ret;exact ⟨YR HF.out.symm,0,rfl⟩
 have YN:¬(16:Int)<(p.size:Int):=by omega
 go_enter Tryz.func194,Tryz.ntmps194
 go_wp2
 go_loopw [16] (fun vj wr=>∃j:Nat,j≤p.size∧vj=.int .i64 j∧Hid (∀t,t<j→okB (bN p t)=true)∧∃q,wr=w.drewN q) (fun j _=>p.size - (intOf j).toNat)
 case atStart=>exact ⟨0,Zu _,rfl,(fun t ht=>by omega),0,rfl⟩
 case round =>
  obtain ⟨j,hj,rfl,HJ,q,rfl⟩:=hrel
  by_cases hjl:j<p.size
  · have io:(j:Int)<(p.size:Int):=by omega
    have hbn:=yG p j hjl;have l8:p[j].toNat<256:=p[j].toNat_lt;obtain ⟨x,hx⟩:∃x,x=p[j].toNat:=⟨_,rfl⟩;have HX:=Z3 hx;have ZC:Hid (bN p j=x):=by show _=_;rw [hbn,hx]
    clear hx hbn
    by_cases c1:x<48
    · have k1:¬(97:Int)≤(p[j].toNat:Int):=by have:=HX.out;omega
      have k2:¬(48:Int)≤(p[j].toNat:Int):=by have:=HX.out;omega
      have HF:=Z3 (Fx hjl (by rw [ZC.out];unfold okB;rw [YW (show ¬97≤x by omega),YW (show ¬48≤x by omega)];rfl));go_wp2;go_ret;exact ⟨YR HF.out.symm,_,rfl⟩
    by_cases c2:x≤57
    · have k1:¬(97:Int)≤(p[j].toNat:Int):=by have:=HX.out;omega
      have k2:(48:Int)≤(p[j].toNat:Int):=by have:=HX.out;omega
      have k3:(p[j].toNat:Int)≤57:=by have:=HX.out;omega
      have Ub:Hid (okB (bN p j)=true):=by show _=_;rw [ZC.out];unfold okB;rw [Y3 (show 48≤x by omega),Y3 (show x≤57 by omega)];simp
      go_wp2;exact ⟨⟨j+1,by omega,by go_num,(fun t ht=>by by_cases e:t=j;(subst e;exact Ub.out);exact HJ.out t (by omega)),q,rfl⟩,by simp [intOf];omega⟩
    by_cases c3:x<97
    · have k1:¬(97:Int)≤(p[j].toNat:Int):=by have:=HX.out;omega
      have k2:(48:Int)≤(p[j].toNat:Int):=by have:=HX.out;omega
      have k3:¬(p[j].toNat:Int)≤57:=by have:=HX.out;omega
      have HF:=Z3 (Fx hjl (by rw [ZC.out];unfold okB;rw [YW (show ¬97≤x by omega),YW (show ¬x≤57 by omega)];simp));go_wp2;go_ret;exact ⟨YR HF.out.symm,_,rfl⟩
    by_cases c4:x≤122
    · have k1:(97:Int)≤(p[j].toNat:Int):=by have:=HX.out;omega
      have k2:(p[j].toNat:Int)≤122:=by have:=HX.out;omega
      have k3:(48:Int)≤(p[j].toNat:Int):=by omega
      have k4:¬(p[j].toNat:Int)≤57:=by omega
      have Ub:Hid (okB (bN p j)=true):=by show _=_;rw [ZC.out];unfold okB;rw [Y3 (show 97≤x by omega),Y3 (show x≤122 by omega)];simp
      go_wp2;exact ⟨⟨j+1,by omega,by go_num,(fun t ht=>by by_cases e:t=j;(subst e;exact Ub.out);exact HJ.out t (by omega)),q,rfl⟩,by simp [intOf];omega⟩
    have k1:(97:Int)≤(p[j].toNat:Int):=by have:=HX.out;omega
    have k2:¬(p[j].toNat:Int)≤122:=by have:=HX.out;omega
    have k3:(48:Int)≤(p[j].toNat:Int):=by omega
    have k4:¬(p[j].toNat:Int)≤57:=by omega
    have HF:=Z3 (Fx hjl (by rw [ZC.out];unfold okB;rw [YW (show ¬x≤122 by omega),YW (show ¬x≤57 by omega)];simp));go_wp2;go_ret;exact ⟨YR HF.out.symm,_,rfl⟩
  have io:¬(j:Int)<(p.size:Int):=by omega
  have Ub:=Z3 (tI (by omega) (by omega) (fun t ht=>HJ.out t (by omega)));go_wp2;go_ret;exact ⟨YR Ub.out.symm,_,rfl⟩
def Book (r:Loop) (M:Nat) (W:World):Prop:=W.heap[M+1]?=some (.loop r)∧W.heap[M]?=some (.deferred (some []))
theorem Book.keep {r:Loop} {X Y:World} (h:Book r M X) (hk:KeepsFrom M X Y):Book r M Y:=⟨hk.same _ _ (by omega) h.1 rfl,hk.same _ _ ZT h.2 rfl⟩
theorem Ty {F:Fence} {β:Type} {g:Operand} {ps:Array Tmp} {assign body:Code} {Q:Exit→Act→World→Prop} 
    (hro:F.round=none) (h1:1≤n) (hg:a.eval g=.func (.func gf) #[] lb) (hFg:F.fn gf) (eg:∀args w,(callFunc gf args).run P w=.ok (.enter gf args) w)
    (St:β→World→Prop) (Pre:β→Array Value→World→Prop) (step:β→Array Value→β) (Kp:World→World→Prop) (Fin:β→Prop) (s0:β)
    (hSt:OwnFrom w.heap.size St) (hKt:∀ {A B C:World},Kp A B→Kp B C→Kp A C)
    (hKb:∀(W:World) (l:Nat) (o o':Obj),w.heap.size≤l→W.heap[l]?=some o→o.isCells=false→o.isWalk=false→Kp W (W.putObj l o'))
    (hps:∀s vs W,Pre s vs W→vs.size=ps.size) (h0:St s0 w)
    (Ax:β→Array Value→Act→World→Prop) (hAx:∀s vs a',OwnFrom w.heap.size (fun (_:Unit) W=>Ax s vs a' W))
    (hassign:∀(l:Nat) (s:β) (vs:Array Value) (W:World) (K:Act→World→Prop),St s W→Pre s vs W→(∀a' W',KeepsFrom w.heap.size W W'→Kp W W'→Ax s vs a' W'→K a' W') →
     assign.wpIn (F.inRound l) (n - 1 - 1) P (Exit.then K (fun _ _ _=>False)) { tmps:=(ps.zip vs).foldl (fun t (p,v)=>t.setIfInBounds p v) a.tmps,defers:=[] } W)
    (hbody:∀(l:Nat) (s:β) (vs:Array Value) (a':Act) (W:World),Ax s vs a' W→body.wpIn (F.inRound l) (n - 1 - 1) P (fun e _ W'=>e=.normal∧KeepsFrom w.heap.size W W'∧Kp W W'∧St (step s vs) W') a' W)
    (hcall:∀(Bk:World→Prop) (W1:World),(∀X Y,KeepsFrom w.heap.size X Y→Bk X→Bk Y) →
     (∀s vs W,St s W→Bk W→Pre s vs W→YieldAt F (n - 1 - 1) P (w.heap.size+1) vs W fun e W'=>e=.returned (.bool true)∧St (step s vs) W'∧Bk W'∧Kp W W') →
     ZX w W1→w.heap.size+2≤W1.heap.size→St s0 W1→Bk W1 →
     CallsIn F (n - 1) P gf (#[.func (.yield (w.heap.size+1)) #[] #[]]++lb) W1 fun e W'=>(∃v,e=.returned v)∧∃s,Fin s∧St s W'∧Bk W')
    (hdone:∀(D:Nat) (s:β) (W:World),w.heap.size≤D→Fin s→St s W→W.heap[D]?=some (.deferred (some []))→Q .normal { a with defers:={ target:=.collected D,args:=#[] } :: a.defers } W) :
    (Code.rangeFunc g ps assign body).wpIn F n P Q a w:=by
 refine wpIn_rangeFunc ?_;intro fn hfn;rw [hro];obtain ⟨r0,hr0⟩:∃r:Loop,r={ state:=.ready,pending:=none,fn,tmps:=a.tmps,params:=ps,assign,body,defers:=w.heap.size }:=⟨_,rfl⟩;have hst:r0.state=.ready:=by rw [hr0]
 have hpe:r0.pending=none:=by rw [hr0]
 have hgrow:ZX w ((w.alloc (.deferred (some []))).alloc (.loop r0)):=((Below.refl _ w).alloc ZT _).alloc (by simp) _;have Z5:Book r0 w.heap.size ((w.alloc (.deferred (some []))).alloc (.loop r0)):=by
  constructor
  · have:=Y9 (w.alloc (.deferred (some []))) (.loop r0)
    rwa [Wg] at this
  exact (Below.heap_alloc _ _ _ (by simp)).trans (Y9 w _)
 have ZB:St s0 ((w.alloc (.deferred (some []))).alloc (.loop r0)):=hSt.alloc _ (hSt.alloc _ h0);have hsz:w.heap.size+2≤((w.alloc (.deferred (some []))).alloc (.loop r0)).heap.size:=by simp
 have henter:(Instr.enterLoop fn a.tmps ps assign body none).run P w=.ok (w.heap.size+1,[{ target:=.collected w.heap.size,args:=#[] }]) ((w.alloc (.deferred (some []))).alloc (.loop r0)):=by
  rw [hr0];exact run_enterLoop_outer _ _ _ _ _
 generalize (w.alloc _).alloc _=W1 at *;refine ⟨_,_,W1,{ target:=.fn (.func gf) lb,args:=#[.func (.yield (w.heap.size+1)) #[] #[]] },W1,gf,#[.func (.yield (w.heap.size+1)) #[] #[]]++lb,W1,henter,?_,?_,?_,fun _=>h1,?_⟩
 · simp only [resolve,hg]
   simp [go_sem]
 · intro f' hf'
   simp [Target.leads] at hf'
   subst hf';exact hFg
 · simp [invoke,go_sem,eg]
 refine (hcall (Book r0 w.heap.size) W1 (fun X Y hk hb=>hb.keep hk) ?_ hgrow hsz ZB Z5).mono ?_
 · intro s vs W hs hb hp
   have hy:=run_yield (P:=P) (args:=vs) hb.1 (by rw [hr0];exact hps s vs W hp);rw [hr0] at hy;refine ⟨fn,_,assign,body,hy,roundIn_of_wpIn hfn (hassign _ s vs W _ hs hp ?_)⟩;clear hy;intro a' Wa hka hkp hax;have Co:=hb.keep hka;have hlt:=(Yh.1 Co.1).1;refine ⟨_,run_beginRound Co.1 hst,?_⟩;have hl2:(Wa.putObj (w.heap.size+1) (.loop { r0 with state:=.busy })).heap[w.heap.size+1]?=some (.loop { r0 with state:=.busy }):=World.putObj_heap_same hlt;have hk2:(Wa.putObj (w.heap.size+1) (.loop { r0 with state:=.busy })).heap[w.heap.size]?=some (.deferred (some [])):=(World.putObj_heap_other (by omega)).trans Co.2;have hkb:Kp Wa (Wa.putObj (w.heap.size+1) (.loop { r0 with state:=.busy })):=hKb _ _ _ _ (by omega) Co.1 rfl rfl;refine wpIn_mono (hbody _ s vs a' _ ((hAx s vs a').putObj (s:=()) _ hax (by omega) Co.1 rfl)) ?_;rintro e a3 W3 ⟨rfl,hk3,hp3,hs3⟩;have hl3:=hk3.same _ _ (by omega) hl2 rfl;have hd3:=hk3.same _ _ ZT hk2 rfl;have hend:=run_endRound (P:=P) none hl3;have hr1:({ { r0 with state:=.busy } with state:=if (none:Option Code).isNone then .ready else .done,pending:=none }:Loop)=r0:=by rw [hr0];rfl
   rw [hr1] at hend;refine ⟨_,_,hend,rfl,hSt.putObj _ hs3 (by omega) hl3 rfl,⟨World.putObj_heap_same (Yh.1 hl3).1,(World.putObj_heap_other (by omega)).trans hd3⟩,hKt hkp (hKt (hKt hkb hp3) (hKb _ _ _ _ (by omega) hl3 rfl rfl))⟩
 rintro e W2 ⟨⟨v,rfl⟩,s,hF,hs,hb⟩;have hend:=run_endLoop (P:=P) hb.1 (by rw [hst];simp);rw [hpe] at hend;exact ⟨none,_,hend,hdone _ s _ ZT hF (hSt.putObj _ hs (by omega) hb.1 rfl) ((World.putObj_heap_other (by omega)).trans hb.2)⟩
theorem K0 {F:Fence} {β:Type} {g:Operand} {ps:Array Tmp} {assign body:Code} {Q:Exit→Act→World→Prop} 
    (hro:F.round=none) (h1:1≤n) (hg:a.eval g=.func (.func gf) #[] lb) (hFg:F.fn gf) (eg:∀args w,(callFunc gf args).run P w=.ok (.enter gf args) w)
    (St:β→World→Prop) (Pre:β→Array Value→World→Prop) (step:β→Array Value→β) (Kp:World→World→Prop) (Fin:β→Prop) (Ao:World→Prop) (Zo:OwnFrom w.heap.size (fun (_:Unit) W=>Ao W)) (s0:β)
    (hSt:OwnFrom w.heap.size St) (hKt:∀ {A B C:World},Kp A B→Kp B C→Kp A C)
    (hKb:∀(W:World) (l:Nat) (o o':Obj),w.heap.size≤l→W.heap[l]?=some o→o.isCells=false→o.isWalk=false→Kp W (W.putObj l o'))
    (hps:∀s vs W,Pre s vs W→vs.size=ps.size) (h0:St s0 w)
    (Ax:β→Array Value→Act→World→Prop) (hAx:∀s vs a',OwnFrom w.heap.size (fun (_:Unit) W=>Ax s vs a' W))
    (hassign:∀(l:Nat) (s:β) (vs:Array Value) (W:World) (K:Act→World→Prop),St s W→Pre s vs W→(∀a' W',KeepsFrom w.heap.size W W'→Kp W W'→Ax s vs a' W'→K a' W') →
     assign.wpIn (F.inRound l) (n - 1 - 1) P (Exit.then K (fun _ _ _=>False)) { tmps:=(ps.zip vs).foldl (fun t (p,v)=>t.setIfInBounds p v) a.tmps,defers:=[] } W)
    (hbody:∀(l:Nat) (s:β) (vs:Array Value) (a':Act) (W:World),Ax s vs a' W→body.wpIn (F.inRound l) (n - 1 - 1) P (fun e _ W'=>(e=.normal∧KeepsFrom w.heap.size W W'∧Kp W W'∧St (step s vs) W')∨(e=.ret∧KeepsFrom w.heap.size W W'∧Ao W')) a' W)
    (hcall:∀(Bk yF:World→Prop) (W1:World),(∀X Y,KeepsFrom w.heap.size X Y→Bk X→Bk Y)→(∀X Y,KeepsFrom w.heap.size X Y→yF X→yF Y) →
     (∀s vs W,St s W→Bk W→Pre s vs W→YieldAt F (n - 1 - 1) P (w.heap.size+1) vs W fun e W'=>(e=.returned (.bool true)∧St (step s vs) W'∧Bk W'∧Kp W W')∨(e=.returned (.bool false)∧Ao W'∧yF W')) →
     ZX w W1→w.heap.size+2≤W1.heap.size→St s0 W1→Bk W1 →
     CallsIn F (n - 1) P gf (#[.func (.yield (w.heap.size+1)) #[] #[]]++lb) W1 fun e W'=>(∃v,e=.returned v)∧((∃s,Fin s∧St s W'∧Bk W')∨(Ao W'∧yF W')))
    (hdone:∀(D:Nat) (s:β) (W:World),w.heap.size≤D→Fin s→St s W→W.heap[D]?=some (.deferred (some []))→Q .normal { a with defers:={ target:=.collected D,args:=#[] } :: a.defers } W)
    (hstop:∀(D:Nat) (W:World),w.heap.size≤D→Ao W→W.heap[D]?=some (.deferred (some []))→Code.ret.wpIn F n P Q { a with defers:={ target:=.collected D,args:=#[] } :: a.defers } W) :
    (Code.rangeFunc g ps assign body).wpIn F n P Q a w:=by
 refine wpIn_rangeFunc ?_;intro fn hfn;rw [hro];obtain ⟨r0,hr0⟩:∃r:Loop,r={ state:=.ready,pending:=none,fn,tmps:=a.tmps,params:=ps,assign,body,defers:=w.heap.size }:=⟨_,rfl⟩;have hst:r0.state=.ready:=by rw [hr0]
 have hpe:r0.pending=none:=by rw [hr0]
 have hgrow:ZX w ((w.alloc (.deferred (some []))).alloc (.loop r0)):=((Below.refl _ w).alloc ZT _).alloc (by simp) _;have Z5:Book r0 w.heap.size ((w.alloc (.deferred (some []))).alloc (.loop r0)):=by
  constructor
  · have:=Y9 (w.alloc (.deferred (some []))) (.loop r0)
    rwa [Wg] at this
  exact (Below.heap_alloc _ _ _ (by simp)).trans (Y9 w _)
 have ZB:St s0 ((w.alloc (.deferred (some []))).alloc (.loop r0)):=hSt.alloc _ (hSt.alloc _ h0);have hsz:w.heap.size+2≤((w.alloc (.deferred (some []))).alloc (.loop r0)).heap.size:=by simp
 have henter:(Instr.enterLoop fn a.tmps ps assign body none).run P w=.ok (w.heap.size+1,[{ target:=.collected w.heap.size,args:=#[] }]) ((w.alloc (.deferred (some []))).alloc (.loop r0)):=by
  rw [hr0];exact run_enterLoop_outer _ _ _ _ _
 generalize (w.alloc _).alloc _=W1 at *;refine ⟨_,_,W1,{ target:=.fn (.func gf) lb,args:=#[.func (.yield (w.heap.size+1)) #[] #[]] },W1,gf,#[.func (.yield (w.heap.size+1)) #[] #[]]++lb,W1,henter,?_,?_,?_,fun _=>h1,?_⟩
 · simp only [resolve,hg]
   simp [go_sem]
 · intro f' hf'
   simp [Target.leads] at hf'
   subst hf';exact hFg
 · simp [invoke,go_sem,eg]
 refine (hcall (Book r0 w.heap.size) (Book { r0 with state:=.done,pending:=some .ret } w.heap.size) W1 (fun X Y hk hb=>hb.keep hk) (fun X Y hk hb=>hb.keep hk) ?_ hgrow hsz ZB Z5).mono ?_
 · intro s vs W hs hb hp
   have hy:=run_yield (P:=P) (args:=vs) hb.1 (by rw [hr0];exact hps s vs W hp);rw [hr0] at hy;refine ⟨fn,_,assign,body,hy,roundIn_of_wpIn hfn (hassign _ s vs W _ hs hp ?_)⟩;clear hy;intro a' Wa hka hkp hax;have Co:=hb.keep hka;have hlt:=(Yh.1 Co.1).1;refine ⟨_,run_beginRound Co.1 hst,?_⟩;have hl2:(Wa.putObj (w.heap.size+1) (.loop { r0 with state:=.busy })).heap[w.heap.size+1]?=some (.loop { r0 with state:=.busy }):=World.putObj_heap_same hlt;have hk2:(Wa.putObj (w.heap.size+1) (.loop { r0 with state:=.busy })).heap[w.heap.size]?=some (.deferred (some [])):=(World.putObj_heap_other (by omega)).trans Co.2;have hkb:Kp Wa (Wa.putObj (w.heap.size+1) (.loop { r0 with state:=.busy })):=hKb _ _ _ _ (by omega) Co.1 rfl rfl;refine wpIn_mono (hbody _ s vs a' _ ((hAx s vs a').putObj (s:=()) _ hax (by omega) Co.1 rfl)) ?_;rintro e a3 W3 (⟨rfl,hk3,hp3,hs3⟩ | ⟨rfl,hk3,hs3⟩)
   · have hl3:=hk3.same _ _ (by omega) hl2 rfl
     have hd3:=hk3.same _ _ ZT hk2 rfl;have hend:=run_endRound (P:=P) none hl3;have hr1:({ { r0 with state:=.busy } with state:=if (none:Option Code).isNone then .ready else .done,pending:=none }:Loop)=r0:=by rw [hr0];rfl
     rw [hr1] at hend;exact ⟨_,_,hend,.inl ⟨rfl,hSt.putObj _ hs3 (by omega) hl3 rfl,⟨World.putObj_heap_same (Yh.1 hl3).1,(World.putObj_heap_other (by omega)).trans hd3⟩,hKt hkp (hKt (hKt hkb hp3) (hKb _ _ _ _ (by omega) hl3 rfl rfl))⟩⟩
   have hl3:=hk3.same _ _ (by omega) hl2 rfl;have hd3:=hk3.same _ _ ZT hk2 rfl;have hend:=run_endRound (P:=P) (some .ret) hl3;have hr1:({ { r0 with state:=.busy } with state:=if (some Code.ret:Option Code).isNone then .ready else .done,pending:=some .ret }:Loop)={ r0 with state:=.done,pending:=some .ret }:=by rw [hr0];rfl
   rw [hr1] at hend;exact ⟨_,_,hend,.inr ⟨rfl,Zo.putObj (s:=()) _ hs3 (by omega) hl3 rfl,⟨World.putObj_heap_same (Yh.1 hl3).1,(World.putObj_heap_other (by omega)).trans hd3⟩⟩⟩
 rintro e W2 ⟨⟨v,rfl⟩,(⟨s,hF,hs,hb⟩ | ⟨hs,hb⟩)⟩
 · have hend:=run_endLoop (P:=P) hb.1 (by rw [hst];simp)
   rw [hpe] at hend;exact ⟨none,_,hend,hdone _ s _ ZT hF (hSt.putObj _ hs (by omega) hb.1 rfl) ((World.putObj_heap_other (by omega)).trans hb.2)⟩
 have hend:=run_endLoop (P:=P) hb.1 (by simp);exact ⟨some .ret,_,hend,hstop _ _ ZT (Zo.putObj (s:=()) _ hs (by omega) hb.1 rfl) ((World.putObj_heap_other (by omega)).trans hb.2)⟩
end Go.Proofs.YtpmjnbmkippaiaaGreatDoor


