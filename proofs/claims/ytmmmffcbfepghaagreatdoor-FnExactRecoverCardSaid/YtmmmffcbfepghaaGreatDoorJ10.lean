import Derived.Test.YtmmmffcbfepghaaGreatDoorJ06
import Derived.Great.BuildSlice
import Derived.Maps.OwnSet
set_option maxRecDepth 100000
set_option maxHeartbeats 16000000
set_option linter.unusedVariables false
set_option linter.unusedSimpArgs false
namespace Go.Proofs.YtmmmffcbfepghaaGreatDoor
open Go.RowKit Go.Shelf
variable {a:Act} {ops:Array Oper} {cells:Array Value} {x:Int} {ps rs:List (Int × List Int)} {Z7:List Int} {rest:List Oper} {M b cap g gd i lo mb n nF tb:Nat} {o op:Oper} {P:Program} {E:Prop} {t:TypeId} {v:Value} {A B w w':World}
def WD (rs:List (Int × List Int)):List Value:=rs.flatMap fun r=>.int .i64 r.1 :: r.2.map (Value.int .u8)
theorem NJ (a b:List (Int × List Int)):WD (a++b)=WD a++WD b:=by simp [WD]
theorem Ie (x:Int) (V:List Int):WD [(x,V)]=.int .i64 x :: V.map (Value.int .u8):=by simp [WD]
theorem QN:∀(rs:List (Int × List Int)),(∀i,i<rs.length→(pD rs i).length=64)→(WD rs).length=rs.length*65
 | [],_=>rfl
 | r :: rs,h=>by
  have h0:r.2.length=64:=h 0 (by simp);have ih:=QN rs (fun i hi=>h (i+1) (by simp;omega));have e:WD (r :: rs)=WD [(r.1,r.2)]++WD rs:=by simp [WD]
  rw [e,YE,ih,Ie]
  simp [h0];omega
theorem wt (rs:List (Int × List Int)) (i k:Nat) (h:i<k):pD (rs.take k) i=pD rs i:=by unfold pD;simp [List.getD,Sx h]
theorem zu (rs:List (Int × List Int)) (i:Nat) (hi:i<rs.length):rs=rs.take i++((pB rs i,pD rs i) :: rs.drop (i+1)):=by
 have e:(pB rs i,pD rs i)=rs[i]:=by unfold pB pD;simp [List.getD,hi]
 rw [e]
 conv=>lhs;rw [←DO i rs]
 rw [GE hi]
theorem RC (rs:List (Int × List Int)) (i:Nat) (hi:i<rs.length):WD rs=WD (rs.take i)++(.int .i64 (pB rs i) :: ((pD rs i).map (Value.int .u8)++WD (rs.drop (i+1)))):=by
 conv=>lhs;rw [zu rs i hi]
 rw [NJ]
 congr 1
theorem Tn (rs:List (Int × List Int)) (i:Nat) (hi:i≤rs.length) (h:∀i,i<rs.length→(pD rs i).length=64):(WD (rs.take i)).length=i*65:=by
 rw [QN _ (fun j hj=>by rw [YC] at hj;rw [wt _ _ _ (by omega)];exact h j (by omega)),YC,So hi]
theorem zq (rs:List (Int × List Int)) (i:Nat) (hi:i<rs.length) (h:∀i,i<rs.length→(pD rs i).length=64):(WD rs)[i*65]?=some (.int .i64 (pB rs i)):=by
 rw [RC rs i hi,Nb (by rw [Tn rs i (by omega) h];exact ZW),Tn rs i (by omega) h]
 simp
theorem zp (rs:List (Int × List Int)) (i:Nat) (hi:i<rs.length) (h:∀i,i<rs.length→(pD rs i).length=64) (j:Nat) (u:Value) (hu:((pD rs i).map (Value.int .u8))[j]?=some u):(WD rs)[i*65+1+j]?=some u:=by
 have hj:j<(pD rs i).length:=by have:=(List.getElem?_eq_some_iff.1 hu).1;simpa using this
 rw [RC rs i hi,Nb (by rw [Tn rs i (by omega) h];omega),Tn rs i (by omega) h,show i*65+1+j - i*65=j+1 by omega,xI,Qw (by simpa using hj)];exact hu
theorem Dh (rs:List (Int × List Int)) (i:Nat) (hi:i<rs.length) (r:Int × List Int):rs.set i r=rs.take i++(r :: rs.drop (i+1)):=by
 rw [List.set_eq_take_append_cons_drop,ZY hi]
theorem zn (rs:List (Int × List Int)) (i:Nat) (hi:i<rs.length) (h:∀i,i<rs.length→(pD rs i).length=64) (V:List Int) (hV:V.length=64) :
    WD (rs.set i (pB rs i,V))=splice (WD rs) (i*65+1) (V.map (Value.int .u8)):=by
 have hp:=Tn rs i (by omega) h;have hd:=h i hi;rw [Dh rs i hi,NJ];have e1:WD ((pB rs i,V) :: rs.drop (i+1))=.int .i64 (pB rs i) :: (V.map (Value.int .u8)++WD (rs.drop (i+1))):=by simp [WD]
 rw [e1,RC rs i hi];generalize WD (rs.take i)=A at *;generalize WD (rs.drop (i+1))=B at *;have hO:((pD rs i).map (Value.int .u8)).length=64:=by simpa using hd
 have hV':(V.map (Value.int .u8)).length=64:=by simpa using hV
 generalize (pD rs i).map (Value.int .u8)=O at *;generalize V.map (Value.int .u8)=V' at *;generalize Value.int .i64 (pB rs i)=x at *;unfold splice;have t1:(A++x :: (O++B)).take (i*65+1)=A++[x]:=by
  rw [List.take_append,We (by omega),show i*65+1 - A.length=1 by omega];rfl
 have t2:(A++x :: (O++B)).drop (i*65+1+V'.length)=B:=by
  rw [List.drop_append,Qx (by omega),show i*65+1+V'.length - A.length=64+1 by omega,List.drop_succ_cons,List.drop_append,Qx (by omega),show 64 - O.length=0 by omega]
  simp
 rw [t1,t2]
 simp
theorem Tm (rs:List (Int × List Int)) (i j:Nat) (hi:i<rs.length) (V:List Int):pB (rs.set i (pB rs i,V)) j=pB rs j:=by
 unfold pB
 simp only [List.getD,Gz]
 by_cases e:i=j
 · subst e;simp [hi]
 simp [e]
theorem zj (rs:List (Int × List Int)) (i j:Nat) (hi:i<rs.length) (V:List Int):pD (rs.set i (pB rs i,V)) j=if j=i then V else pD rs j:=by
 unfold pD
 simp only [List.getD,Gz]
 by_cases e:i=j
 · subst e;simp [hi]
 rw [Z3 e,Z3 (fun h=>e h.symm)]
def Put (rs:List (Int × List Int)) (x:Int) (V:List Int) (rs':List (Int × List Int)):Prop :=
 (∃i,i<rs.length∧pB rs i=x∧rs'=rs.set i (pB rs i,V))∨((∀i,i<rs.length→pB rs i≠x)∧rs'=rs++[(x,V)])
def NI (Z7:List Int) (ps:List (Int × List Int)) (k:Nat) (rs:List (Int × List Int)):Prop :=
 (∀b:Nat,(∀i,i<rs.length→pB rs i=b→rdv Z7 ps b k=pD rs i)∧((∀i,i<rs.length→pB rs i≠b)→rdv Z7 ps b k=rdv Z7 ps b 0)) ∧
 (∀i,i<rs.length→∃b:Nat,pB rs i=b∧b*64+64≤Z7.length∧b≤300)
theorem Dg (Z7:List Int) (ps:List (Int × List Int)):NI Z7 ps 0 []:=⟨fun b=>⟨fun i hi=>by simp at hi,fun _=>rfl⟩,fun i hi=>by simp at hi⟩
theorem FA (Z7:List Int) (ps:List (Int × List Int)) (b k:Nat) (h:pB ps k=b):rdv Z7 ps b (k+1)=pD ps k:=by unfold rdv;rw [ZY h]
theorem QM (Z7:List Int) (ps:List (Int × List Int)) (b k:Nat) (h:¬pB ps k=b):rdv Z7 ps b (k+1)=rdv Z7 ps b k:=by rw [rdv,Z3 h]
theorem Df (Z7:List Int) (ps rs rs':List (Int × List Int)) (k:Nat) (ht:NI Z7 ps k rs) (hk:∃b:Nat,pB ps k=b∧b*64+64≤Z7.length∧b≤300)
    (hap:∀i j,i<rs.length→j<rs.length→pB rs i=pB rs j→i=j) (h:Put rs (pB ps k) (pD ps k) rs'):NI Z7 ps (k+1) rs':=by
 obtain ⟨h1,h2⟩:=ht
 rcases h with ⟨i,hi,hx,rfl⟩ | ⟨hno,rfl⟩
 · have hl:(rs.set i (pB rs i,pD ps k)).length=rs.length:=xH ..
   refine ⟨fun b=>⟨fun j hj hb=>?_,fun hb=>?_⟩,fun j hj=>?_⟩
   · rw [hl] at hj
     rw [Tm rs i j hi] at hb;rw [zj rs i j hi]
     by_cases e:j=i
     · subst e;rw [ZY rfl];exact FA Z7 ps b k (by rw [←hx];exact hb)
     rw [Z3 e,QM Z7 ps b k (fun e'=>e (hap j i hj hi (by rw [hb,hx,e'])))];exact (h1 b).1 j hj hb
   · have hb':∀j,j<rs.length→pB rs j≠b:=fun j hj=>by have:=hb j (by rw [hl];exact hj);rw [Tm rs i j hi] at this;exact this
     rw [QM Z7 ps b k (fun e=>hb' i hi (by rw [hx,e]))];exact (h1 b).2 hb'
   rw [hl] at hj;rw [Tm rs i j hi];exact h2 j hj
 have hl:(rs++[(pB ps k,pD ps k)]).length=rs.length+1:=by simp
 refine ⟨fun b=>⟨fun j hj hb=>?_,fun hb=>?_⟩,fun j hj=>?_⟩
 · rw [hl] at hj
   by_cases e:j=rs.length
   · subst e
     rw [Xa] at hb;rw [SR];exact FA Z7 ps b k hb
   rw [Xc _ _ _ (by omega)] at hb;rw [NW _ _ _ (by omega),QM Z7 ps b k (fun e'=>hno j (by omega) (by rw [hb,e']))];exact (h1 b).1 j (by omega) hb
 · have hn:=hb rs.length (by rw [hl];omega)
   rw [Xa] at hn;rw [QM Z7 ps b k hn];exact (h1 b).2 (fun j hj=>by have:=hb j (by rw [hl];omega);rw [Xc _ _ _ hj] at this;exact this)
 rw [hl] at hj
 by_cases e:j=rs.length
 · subst e;rw [Xa];exact hk
 rw [Xc _ _ _ (by omega)];exact h2 j (by omega)
def MF (D:DataW Unit) (rs:List (Int × List Int)):Prop :=
 (∀x:Int,Maps.has D (.int .i64 x)=true↔∃i,i<rs.length∧pB rs i=x)∧∀i,i<rs.length→∀z,D.atKey (.int .i64 (pB rs i)) z=.lit (.int .i64 i)
theorem MF.set {D:DataW Unit} (h:MF D rs) (i:Nat) (hi:i<rs.length) (V:List Int):MF D (rs.set i (pB rs i,V)):=by
 have hl:(rs.set i (pB rs i,V)).length=rs.length:=xH ..;refine ⟨fun x=>?_,fun j hj z=>?_⟩
 · rw [h.1 x,hl]
   constructor
   · rintro ⟨j,hj,e⟩;exact ⟨j,hj,by rw [Tm rs i j hi];exact e⟩
   rintro ⟨j,hj,e⟩;rw [Tm rs i j hi] at e;exact ⟨j,hj,e⟩
 rw [hl] at hj;rw [Tm rs i j hi];exact h.2 j hj z
theorem MF.snoc {D:DataW Unit} (h:MF D rs) (hD:Maps.IsMap D) (x:Int) (V:List Int) (hno:∀i,i<rs.length→pB rs i≠x):MF (D.put (.int .i64 x) (.lit (.int .i64 (rs.length:Int)))) (rs++[(x,V)]):=by
 have hl:(rs++[(x,V)]).length=rs.length+1:=by simp
 refine ⟨fun y=>?_,fun j hj z=>?_⟩
 · by_cases e:y=x
   · subst e
     rw [Maps.has_put_same (k:=.int .i64 y) hD trivial];exact ⟨fun _=>⟨rs.length,by rw [hl];omega,Xa _ _⟩,fun _=>rfl⟩
   rw [Maps.has_put_other (by intro h;injection h;contradiction),h.1 y,hl]
   constructor
   · rintro ⟨j,hj,e'⟩;exact ⟨j,by omega,by rw [Xc _ _ _ hj];exact e'⟩
   rintro ⟨j,hj,e'⟩
   by_cases ej:j=rs.length
   · subst ej;rw [Xa] at e';exact absurd e'.symm e
   rw [Xc _ _ _ (by omega)] at e';exact ⟨j,by omega,e'⟩
 rw [hl] at hj
 by_cases ej:j=rs.length
 · subst ej;rw [Xa];exact Maps.atKey_put_same (k:=.int .i64 x) hD trivial _ _
 rw [Xc _ _ _ (by omega),Maps.atKey_put_other (by intro h';injection h' with _ h';exact hno j (by omega) h')];exact h.2 j (by omega) z
theorem Pu {K:Act→World→Prop} {Q:Exit→Act→World→Prop} (hgd:o.guard=none) (d s:Operand) (dT sT:TypeId)
    (ho:o.op=.call { callee:=.builtin .copy,args:=#[d,s],argTypes:=#[dT,sT] }) (elem:TypeId) (hu:P.underlying dT=some (.slice elem)) (hsz:(P.info? elem).map (·.size)=some 1)
    (dp sp:Option Addr) (dLen dCap sLen sCap:Nat) (hd:a.eval d=.slice dp dLen dCap) (hs:a.eval s=.slice sp sLen sCap)
    (g off:Nat) (cur:List Value) (t:TypeId) (hg:w.heap[g]?=some (.cells cur.toArray t (0,0))) (cs:List Value) (hn:cs.length=Nat.min sLen dLen)
    (hpos:0<cs.length→dp=some ⟨g,off,none⟩∧∃ad,sp=some ad∧∀j v,cs[j]?=some v→w.cell? (ad.add j)=some v)
    (hfit:off+cs.length≤cur.length) (h1:∀v ∈ cs,v.oneCell'=true)
    (h:∀w',Hid (w'.heap[g]?=some (.cells (splice cur off cs).toArray t (0,0)))→Hid (w.grownBy w' (some g))→K (a.put o.dst (goInt cs.length)) w') :
    if Region.wanted o (yielded ops a.tmps)=true then Oper.wp P o a w K Q else E:=by
 have hw:Region.wanted o (yielded ops a.tmps)=true:=by simp [Region.wanted,hgd]
 rw [ZY hw]
 by_cases h0:cs.length=0
 · obtain rfl:cs=[]:=Vj h0
   have hrun:=run_copy_none (P:=P) w dT sT o.type elem dp sp dLen dCap sLen sCap hu hsz (by simpa using hn.symm);unfold Oper.wp
   simp [execOp,ho,resolve,invoke,builtin,hd,hs,hrun,Result.andThen]
   exact h w (show _=_ by simpa [splice] using hg) (YT _ _)
 obtain ⟨rfl,ad,rfl,hsrc⟩:=hpos (by omega);have hrun:=run_copy_row (P:=P) w dT sT o.type elem g off dLen dCap ad sLen sCap cur.toArray t cs hu hsz hg hn hsrc (by simpa using hfit) h1;unfold Oper.wp
 simp [execOp,ho,resolve,invoke,builtin,hd,hs,hrun,Result.andThen]
 exact h _ (show _=_ by simpa [splice] using setRow_heap w g _ _ t _ hg) (show World.grownBy _ _ _ from ⟨rfl,rfl,rfl,by simp [World.setRow],fun k _ hne=>setRow_other w g k _ (fun e=>hne (by rw [e]))⟩)
theorem Yk (n:Nat) (h:n=64):(Tryz.prog.info? 125).map (·.size)=some n:=by subst h;kernel_rfl
theorem qO:(Tryz.prog.info? 5).map (·.size)=some 1:=by kernel_rfl
theorem Kc (w:World) (base g dl cap b:Nat) (D C:List Int) (ho:Own .u8 5 w base (.slice (some ⟨g,0,none⟩) dl cap) D) (hD:D.length=dl) (hC:C.length=64) (hb:b*64+64≤dl) (hd1:dl≤1048576) :
    Calls Tryz.prog 99 #[.slice (some ⟨g,0,none⟩) dl cap,.int .i64 b,.agg (C.map (Value.int .u8)).toArray] w fun e w'=>e=.returned (.tuple #[])∧Own .u8 5 w' base (.slice (some ⟨g,0,none⟩) dl cap) (splice D (b*64) C)∧w.grownBy w' (some g):=by
 obtain ⟨X,hX⟩:∃X,X=C.map (Value.int .u8):=⟨_,rfl⟩;rw [←hX];have HX:Hid (X.length=64):=by subst hX;show _=_;simpa using hC
 have Fz:Hid (∀v ∈ X,v.oneCell'=true):=by subst hX;exact Wc _ _
 have HO:=Z8 ho;obtain ⟨cur,hgb,Z6,hcap,hcm,htake⟩:∃cur:Array Value,w.heap[g]?=some (.cells cur 5 (0,0))∧cur.size=cap∧dl≤cap∧cap≤maxLen∧cur.toList.take dl=D.map (Value.int .u8):=by
  rcases ho.2 with ⟨h,-⟩ | ⟨g',cap',cur,e,-,h2,h3,h4,h5,h6⟩
  · simp at h
  simp only [Zc,Xu,uC] at e
  obtain ⟨⟨rfl,-⟩,-,rfl⟩:=e;rw [hD] at h3 h6;rw [Jo] at h5 h6;exact ⟨cur,h2,h5,h3,h4,h6⟩
 have hgz:=(Array.getElem?_eq_some_iff.1 hgb).1;have Zp:=Z8 hgb;have ZH:=Z8 Z6;have ZJ:=Z8 ((ZO ho g rfl).1);have TT:Hid ((splice cur.toList (b*64) X).take dl=(splice D (b*64) C).map (Value.int .u8)∧(splice D (b*64) C).length=dl∧(splice cur.toList (b*64) X).length=cap):=by
  have hcl:cur.toList.length=cap:=by simpa using Z6
  have hxl:=HX.out;refine ⟨?_,by rw [length_splice _ _ _ (by omega),hD],by rw [length_splice _ _ _ (by omega),hcl]⟩;rw [FL,←htake,←hX];apply Lr;intro j;rw [Wp _ _ _ (by rw [YC];omega),uu]
  by_cases hj:j<dl
  · rw [ZY hj,Wp _ _ _ (by omega),Sx hj]
  rw [Z3 hj,Z3 (by omega),Z3 (by omega),uu,Z3 hj]
 unfold maxLen at hcm;clear hX hC ho hgb htake Z6
 go_enter Tryz.func99,Tryz.ntmps99
 go_wp2_with fail
 have GA:Hid ((w.alloc (.cells X.toArray 125)).heap[g]?=some (.cells cur.toList.toArray 5 (0,0))):=by
  show _=_;rw [sj _ _ _ hgz,Array.toArray_toList];exact Zp.out
 have CX:Hid (∀(j:Nat) (v:Value),X[j]?=some v→(w.alloc (.cells X.toArray 125)).cell? ((⟨w.heap.size,0,none⟩:Addr).add j)=some v):=by
  intro j v h;rw [GM,Wn,Re _ _ j _ _ _ (WJ w _)]
  simpa using h
 have qT:((b*64:Nat):Int)≤(dl:Int):=by omega
 have Za:(b:Int)*64≤(dl:Int):=by omega
 have hwr:IntKind.i64.wrap ((b:Int)*64)=((b*64:Nat):Int):=by rw [Xf];omega
 have hnc:¬cap=b*64:=by omega
 have hb0:(0:Int)≤(b:Int)*64:=by omega
 have htn:((b:Int)*64).toNat=b*64:=by omega
 have hgr:w.grownBy (w.alloc (.cells X.toArray 125)) (some g):=Ri _ _ _;have Zo:=Z8 hgr;clear hgr;generalize w.alloc _=W0 at *
 go_region_law (refine Pu rfl (.tmp 9) (.tmp 10) 22 22 rfl 5 Tryz.underlying22 qO _ _ _ _ _ _ rfl rfl g (b*64) cur.toList 5 GA.out X (by rw [HX.out];exact (So (show 64≤dl - b*64 by omega)).symm) (fun _=>⟨rfl,⟨w.heap.size,0,none⟩,rfl,CX.out⟩) (by rw [HX.out,qg,ZH.out];omega) Fz.out ?_;intro w4 hg4 hb4)
 go_wp2
 go_end0
 refine ⟨rfl,?_,?_⟩
 · refine ⟨by rw [TT.out.2.1];simpa using TT.out.2.1,.inr ⟨g,cap,(splice cur.toList (b*64) X).toArray,?_,ZJ.out,hg4.out,by rw [TT.out.2.1];exact hcap,hcm,?_,?_⟩⟩
   · rw [TT.out.2.1]
   · simpa using TT.out.2.2
   rw [TT.out.2.1,Jo];exact TT.out.1
 exact Zo.out.trans (show W0.grownBy w4 (some g) from ⟨hb4.out.os,hb4.out.tape,hb4.out.output,hb4.out.size,hb4.out.block⟩)
structure U2 (w:World) (lo tb mb:Nat) (v:Value) (rs:List (Int × List Int)):Prop where
 box:Zm w tb v (.map (some mb))
 rows:w.ownsRow lo 159 65 v rs.length (WD rs)
 map:∃D:DataW Unit,w.ownsMap Tryz.prog 2 (plainElem Tryz.prog 3) mb rs.length D∧MF D rs
 full:∀i,i<rs.length→(pD rs i).length=64
 apart:∀i j,i<rs.length→j<rs.length→pB rs i=pB rs j→i=j
 lot:lo≤tb
 qN:lo≤mb
 ne:tb≠mb
 vt:v.ownBlock≠some tb
 vm:v.ownBlock≠some mb
theorem U2.below (h:U2 w lo tb mb v rs) (hb:ZX w w'):U2 w' lo tb mb v rs:=by
 have G:w.grownBy w' none:=⟨hb.os,hb.tape,hb.output,hb.size,fun q hq _=>hb.block q hq⟩;obtain ⟨D,hD,hM⟩:=h.map;refine ⟨h.box.below hb,Yy h.rows G ?_,⟨D,hD.kept G (by simp),hM⟩,h.full,h.apart,h.lot,h.qN,h.ne,h.vt,h.vm⟩
 cases v.ownBlock with
 | none=>exact .inl rfl
 | some q=>exact .inr (by simp)
theorem ti:Maps.Keyed Tryz.prog 2:=Maps.int_keyed Tryz.underlying2
theorem Ek (w:World):(zeroValue 3).run Tryz.prog w=.ok (.int .i64 0) w:=by kernel_rfl
theorem QL (w:World):Calls Tryz.prog 108 #[] w fun e w'=>e=.returned (.pointer (some ⟨w.heap.size+1,0,none⟩))∧U2 w' w.heap.size (w.heap.size+1) w.heap.size (.slice none 0 0) []∧ZX w w':=by
 have hmm:=@run_makeMap Tryz.prog
 go_enter Tryz.func108,Tryz.ntmps108
 go_wp2;go_ret;have B1:ZX w (w.alloc (.map #[] 0)):=ZR.alloc ZW _;have hbx:=Zm.new (w.alloc (.map #[] 0)) (.slice none 0 0) (.map (some w.heap.size)) 157;rw [XE] at hbx;refine ⟨rfl,⟨hbx,Yf _ _ _ _,⟨.map [],(World.ownsMap_made w Tryz.prog _ _).alloc _,⟨fun x=>⟨fun h=>by simp [Maps.has] at h,fun ⟨i,hi,_⟩=>by simp at hi⟩,fun i hi=>by simp at hi⟩⟩,fun i hi=>by simp at hi,fun i j hi=>by simp at hi,by omega,ZW,by omega,by simp [Value.ownBlock],by simp [Value.ownBlock]⟩,B1.alloc B1.size _⟩
theorem Qi (w:World) (cs:Array Value) (t:TypeId):(w.alloc (.cells cs t)).rangeAt w.heap.size 0 cs.toList:=by
 intro j v hv;rw [Wn,Re _ _ j cs t (0,0) (WJ w _)]
 simpa using hv
theorem U2.form (h:U2 w lo tb mb v rs) (h0:0<rs.length):∃g cap,v=.slice (some ⟨g,0,none⟩) rs.length cap∧lo≤g∧g<w.heap.size∧rs.length≤cap∧cap≤maxLen:=by
 rcases h.rows.2 with ⟨-,h1⟩ | ⟨g,cap,cur,rfl,hb,hg,h2,h3,-⟩
 · omega
 exact ⟨g,cap,rfl,hb,(Array.getElem?_eq_some_iff.1 hg).1,h2,h3⟩
theorem NH (x:Int) (h0:0≤x) (h:x≤1048576):(Lit.int .i64 x).wf=true:=by
 have:=wrap64_wf x;rw [show wrap64 x=x by unfold wrap64;omega] at this;exact this
theorem Rd.span {k:IntKind} {o:Nat} {xs:List Int} (h:Rd k w (.slice (some ⟨b,o,none⟩) n cap) xs) (hl:xs.length=n) (h0:0<n):b<w.heap.size∧w.rangeAt b o (xs.map (Value.int k)):=by
 obtain ⟨b',o',e,hb,-⟩:=h.cellAt hl h0
 injection e with e
 injection e with e1 e2 _
 subst e1;subst e2;refine ⟨hb,fun j v hv=>?_⟩;have hj:j<xs.length:=by have:=(List.getElem?_eq_some_iff.1 hv).1;simpa using this
 obtain ⟨b',o',e,-,hc⟩:=h.cellAt hl (show j<n by omega)
 injection e with e
 injection e with e1 e2 _
 subst e1;subst e2;rw [hc]
 simp [VM hj] at hv
 simp [List.getD,hj,hv]
theorem Ya {o:Nat} {cs:List Value} (h:w.rangeAt b o cs) (hc:w'.heap[b]?=w.heap[b]?):w'.rangeAt b o cs:=fun j v hv=>(YI (w:=w) (a:=⟨b,o+j,none⟩) hc).trans (h j v hv)
theorem LA {place:Nat→Option (Nat × Nat)} {off:Nat} {rest:List (Nat × Value)} (hp:place i=some (off,v.cells.size)) (hs:off+v.cells.size≤cells.size) :
    Instr.fill place cells ((i,v) :: rest)=Instr.fill place ((v.cells.toList.zipIdx 0).foldl (fun cs (x:Value × Nat)=>cs.setIfInBounds (off+x.2) x.1) cells) rest:=by
 conv=>lhs;unfold Instr.fill
 simp only [hp]
 rw [Z3 (by simp;omega)]
 congr 1
 rw [←Array.foldl_toList,Array.toList_zipIdx]
theorem zi (x:Int) (V:List Value) (hV:V.length=64) (z:Array Value) (hz:z.size=65) :
    Instr.fill (#[(0,1),(1,64)][·]?) z [(0,.int .i64 x),(1,.agg V.toArray)]=some (Value.int .i64 x :: V).toArray:=by
 have s1:(Value.int .i64 x).cells.size=1:=rfl;have s2:(Value.agg V.toArray).cells.size=64:=by show V.toArray.size=64;simpa using hV
 obtain ⟨g1,g2⟩:=Great.foldl_set 0 (Value.int .i64 x).cells.toList 0 z;rw [LA (by rw [s1];rfl) (by rw [s1];omega),LA (by rw [s2];rfl) (by rw [s2,g1];omega)];obtain ⟨k1,k2⟩:=Great.foldl_set 1 (Value.agg V.toArray).cells.toList 0 ((Value.int .i64 x).cells.toList.zipIdx 0 |>.foldl (fun cs (y:Value × Nat)=>cs.setIfInBounds (0+y.2) y.1) z);unfold Instr.fill
 congr 1
 apply Array.ext_getElem?;intro k;have hl:(Value.agg V.toArray).cells.toList.length=64:=by rw [qg];exact s2
 have hl1:(Value.int .i64 x).cells.toList.length=1:=rfl;rw [k2 k,g1,hz,hl,g2 k,hl1,hz];have e:(Value.agg V.toArray).cells.toList=V:=by show V.toArray.toList=V;simp
 have eA:(Value.int .i64 x :: V).toArray[k]?=(Value.int .i64 x :: V)[k]?:=by simp
 rw [e,eA]
 by_cases h0:k=0
 · subst h0;rfl
 by_cases h1:k<65
 · rw [ZY (by omega)]
   obtain ⟨j,rfl⟩:∃j,k=j+1:=⟨k - 1,by omega⟩;rw [xI,show j+1 - (1+0)=j by omega]
 rw [Z3 (by omega),Z3 (by omega),Sy (by rw [XQ,hV];omega),Array.getElem?_eq_none (by omega)]
theorem zh {z:Value} {places:List (Nat × Nat)} {parts:List (Nat × Value)} 
    (h:(match P.info? t,P.underlying t with
     | some it,some (.struct fields)=>(it.zero,fields.toList.mapM (fun f=>(P.info? f.type).map fun i=>(f.offset,i.size)))
     | _,_=>(none,none))=(some z,some places)) (hf:Instr.fill (places.toArray[·]?) z.cells parts=some cells):P.built t parts=some cells:=by
 unfold Program.built
 cases h1:P.info? t with
 | none=>simp [h1] at h
 | some it =>
  cases h2:P.underlying t with
  | none=>simp [h1,h2] at h
  | some d =>
   cases d <;> try (simp [h1,h2] at h;done)
   case struct fields =>
    simp only [h1,h2,Mc] at h
    simp only [h.1,h.2]
    exact hf
def zT:Value:=.agg (Value.int .i64 0 :: List.replicate 64 (.int .u8 0)).toArray
theorem Kb:zT.cells.size=65:=by decide +kernel
theorem zg:(Tryz.prog.info? 159).map (fun i=>(i.zero,i.size,i.bytes))=some (some zT,65,72):=by kernel_rfl
theorem De (x:Int) (V:List Value) (hV:V.length=64):Tryz.prog.built 159 [(0,.int .i64 x),(1,.agg V.toArray)]=some (Value.int .i64 x :: V).toArray :=
 zh (z:=zT) (places:=[(0,1),(1,64)]) (by kernel_rfl) (zi x V hV _ Kb)
theorem Ka (w:World) (x:Int) (V:List Value) (hV:V.length=64):(Instr.build 159 #[(0,.int .i64 x),(1,.agg V.toArray)]).run Tryz.prog w=.ok (.agg (Value.int .i64 x :: V).toArray) w :=
 run_build w _ _ _ (De x V hV)
theorem J9 (w:World) (x:Int) (V:List Value) (hV:V.length=64):(Instr.buildSlice 154 1 #[(0,.agg (Value.int .i64 x :: V).toArray)]).run Tryz.prog w=.ok (.slice (some ⟨w.heap.size,0,none⟩) 1 1) (w.alloc (.cells (Value.int .i64 x :: V).toArray 159)):=by
 obtain ⟨i0,hi,hz0,hz1,hz2⟩:=YH zg;have hs:(Value.agg (Value.int .i64 x :: V).toArray).cells.size=65:=by show (Value.int .i64 x :: V).toArray.size=65;simp [hV]
 refine run_buildSlice w _ _ 1 _ _ i0 zT Tryz.underlying154 hi hz0 (by rw [hz1];omega) (by rw [hz1];omega) ?_;have:=Great.fill_whole (s:=65) (by omega) [.agg (Value.int .i64 x :: V).toArray] ((Array.range (1*65)).map (zT.cells[· % zT.cells.size]!)) (by intro v hv;simp at hv;subst hv;exact hs) (by simp);rw [hz1]
 simp at this
 simp
 exact this
theorem U4 {K:Act→World→Prop} {Q:Exit→Act→World→Prop} (hgd:o.guard=none) (ty:TypeId) (x y:Operand) (ho:o.op=.store ty x y)
    (b off:Nat) (cells:Array Value) (hx:a.eval x=.pointer (some ⟨b,off,none⟩)) (hy:a.eval y=.agg cells) (ht:w.there b off cells.size) (hi:(P.info? ty).map (·.size)=some cells.size) (h1:cells.all (·.oneCell')=true)
    (h:K (a.put o.dst undef) (w.setCells b off cells.toList)):if Region.wanted o (yielded ops a.tmps)=true then Oper.wp P o a w K Q else E:=by
 rw [ZY (by simp [Region.wanted,hgd])];exact wp_store_mid ty x y ho b off cells hx hy ht hi h1 h
theorem Rz {H:Type} {K':Act→World→Prop} {Q:Exit→Act→World→Prop} 
    (hg:o.guard=none) (m x v:Operand) (t:TypeId) (hop:o.op=Op.mapUpdate t m x v)
    (k e:TypeId) (K:Maps.Keyed P k) (ht:P.underlying t=some (.map k e)) (R:Value→Option (DataW H × List MemPlace)) (b n:Nat) (D:DataW H)
    (hm:a.eval m=.map (some b)) (hown:w.ownsMap P k R b n D) (hn:n<maxLen) (key val:Value) (kl:Lit) (hx:a.eval x=key) (hv:a.eval v=val) (hkey:keyOf P k key=some kl)
    (d:DataW H) (ps:List MemPlace) (hval:R val=some (d,ps))
    (hK:∀w',w'.ownsMap P k R b (n+1) (D.put kl d)→w.grownBy w' (some b)→K' (a.put o.dst undef) w') :
    if Region.wanted o (yielded ops a.tmps)=true then Oper.wp P o a w K' Q else E:=by
 rw [ZY (by simp [Region.wanted,hg])];obtain ⟨w',hrun,r1,r2⟩:=hown.update K ht hn hkey hval;unfold Oper.wp
 simp [execOp,hop,hm,hx,hv,hrun,Result.andThen]
 exact hK w' r1 r2
theorem PJ {α:Type} (L:List α) (o:Nat) (v:α) (vs:List α) (h:o+(vs.length+1)≤L.length):splice (L.set o v) (o+1) vs=splice L o (v :: vs):=by
 apply Lr;intro j;rw [Wp _ _ _ (by simp;omega),Wp _ _ _ (by simp;omega)]
 simp only [XQ,Gz]
 by_cases h1:j<o
 · rw [ZY (by omega),ZY h1,Z3 (by omega)]
 rw [Z3 h1]
 by_cases h2:j=o
 · subst h2;rw [ZY (by omega),ZY rfl,ZY (by omega),ZY (by omega)];simp
 rw [Z3 (by omega)]
 by_cases h3:j<o+1+vs.length
 · rw [ZY h3,ZY (by omega)]
   obtain ⟨i,rfl⟩:∃i,j=o+1+i:=⟨j - (o+1),by omega⟩;rw [show o+1+i - (o+1)=i by omega,show o+1+i - o=i+1 by omega,xI]
 rw [Z3 h3,Z3 (by omega),Z3 (by omega)]
theorem UF {base size:Nat} {e:TypeId}:∀(vs:List Value) (o:Nat) (w:World) (xs:List Value),w.ownsRow base e size (.slice (some ⟨g,0,none⟩) n cap) n xs→o+vs.length≤xs.length →
    (w.setCells g o vs).ownsRow base e size (.slice (some ⟨g,0,none⟩) n cap) n (splice xs o vs)∧w.grownBy (w.setCells g o vs) (some g)
 | [],o,w,xs,h,_=>by rw [RE];exact ⟨h,YT _ _⟩
 | v :: vs,o,w,xs,h,hl=>by
  have h1:=(OV h o v).1;obtain ⟨r1,r2⟩:=UF vs (o+1) (w.setCell ⟨g,o,none⟩ v) (xs.set o v) h1 (by simp at hl ⊢;omega);rw [World.setCells,←PJ xs o v vs (by simpa using hl)];exact ⟨r1,P4 (grownBy_set w w g o v (YT _ _)) r2⟩
theorem U2.set (h:U2 w lo tb mb (.slice (some ⟨g,0,none⟩) rs.length cap) rs) (hi:i<rs.length) (V:List Int) (hV:V.length=64) :
    U2 (w.setCells g (i*65+1) (V.map (Value.int .u8))) lo tb mb (.slice (some ⟨g,0,none⟩) rs.length cap) (rs.set i (pB rs i,V))∧w.grownBy (w.setCells g (i*65+1) (V.map (Value.int .u8))) (some g):=by
 have hlen:=QN rs h.full;have hl:(rs.set i (pB rs i,V)).length=rs.length:=xH ..;obtain ⟨r1,r2⟩:=UF (V.map (Value.int .u8)) (i*65+1) w (WD rs) h.rows (by rw [hlen,Vi,hV];omega);obtain ⟨D,hD,hM⟩:=h.map;refine ⟨⟨h.box.other r2 (fun e=>h.vt e.symm),by rw [hl,zn rs i hi h.full V hV];exact r1,⟨D,by rw [hl];exact hD.kept r2 (fun e=>h.vm e.symm),hM.set i hi V⟩,fun j hj=>?_,fun j k hj hk e=>?_,h.lot,h.qN,h.ne,h.vt,h.vm⟩,r2⟩
 · rw [hl] at hj
   rw [zj rs i j hi]
   split
   · exact hV
   exact h.full j hj
 rw [hl] at hj hk;rw [Tm rs i j hi,Tm rs i k hi] at e;exact h.apart j k hj hk e
theorem Vk {K:Act→World→Prop} {Q:Exit→Act→World→Prop} (hgd:o.guard=none) (y:Operand) (ho:o.op=.buildSlice 154 1 #[(0,y)])
    (x:Int) (V:List Value) (hV:V.length=64) (hy:a.eval y=.agg (Value.int .i64 x :: V).toArray) (h:K (a.put o.dst (.slice (some ⟨w.heap.size,0,none⟩) 1 1)) (w.alloc (.cells (Value.int .i64 x :: V).toArray 159))) :
    if Region.wanted o (yielded ops a.tmps)=true then Oper.wp Tryz.prog o a w K Q else E:=by
 rw [ZY (by simp [Region.wanted,hgd])];have hrun:=J9 w x V hV;unfold Oper.wp execOp
 simp only [ho,List.map_toArray,Pc,DQ,hy,Jj,hrun,Jk]
 exact h
theorem U2.snoc {W0 W1 w4:World} {Ul:Nat} {va:Option Addr} {Vb:List Int} {D:DataW Unit} {ob:Obj} (hT:U2 W0 lo tb mb (.slice va rs.length Ul) rs) (G1:W0.grownBy W1 (some mb))
    (M1:W1.ownsMap Tryz.prog 2 (plainElem Tryz.prog 3) mb (rs.length+1) D) (hM:MF D (rs++[(x,Vb)])) (ho:w4.ownsRow lo 159 65 (.slice (some ⟨g,0,none⟩) (rs.length+1) cap) (rs.length+1) (WD rs++(.int .i64 x :: Vb.map (Value.int .u8))))
    (hg:(W1.alloc ob).grownBy w4 (Value.ownBlock (.slice va rs.length Ul))) (hat:Value.ownBlock (.slice va rs.length Ul)=some g∨g=W1.heap.size+1) (hno:∀i,i<rs.length→pB rs i≠x) (QK:Vb.length=64) (hlo:lo≤W0.heap.size) :
    U2 (w4.setCell ⟨tb,0,none⟩ (.slice (some ⟨g,0,none⟩) (rs.length+1) cap)) lo tb mb (.slice (some ⟨g,0,none⟩) (rs.length+1) cap) (rs++[(x,Vb)])∧Below lo W0 (w4.setCell ⟨tb,0,none⟩ (.slice (some ⟨g,0,none⟩) (rs.length+1) cap))∧(∀q,q<W0.heap.size→q≠tb→q≠mb→Value.ownBlock (.slice va rs.length Ul)≠some q→(w4.setCell ⟨tb,0,none⟩ (.slice (some ⟨g,0,none⟩) (rs.length+1) cap)).heap[q]?=W0.heap[q]?):=by
 have G:=P4 (Ri W1 ob _) hg;have Zn:=hT.box.1.1;have s1:=G1.size;have s4:=G.size;have hmt:=M1.lt;have hgt:g≠tb:=by
  rcases hat with e | e
  · intro h;exact hT.vt (by rw [e,h])
  omega
 have hgm:g≠mb:=by
  rcases hat with e | e
  · intro h;exact hT.vm (by rw [e,h])
  omega
 have hl:(rs++[(x,Vb)]).length=rs.length+1:=by simp
 have b1:=hT.box.other G1 (by simpa using hT.ne);have b4:=b1.other G (fun e=>hT.vt e.symm);obtain ⟨⟨z4,q0,q1⟩,f0,f1⟩:=b4;refine ⟨⟨⟨⟨by simpa using z4,Ys _ _ _ q0,?_⟩,by rw [Yb];exact f0,by rw [Yb];exact f1⟩,?_,⟨D,?_,hM⟩,fun i hi=>?_,fun i j hi hj e=>?_,hT.lot,hT.qN,hT.ne,by simpa [Value.ownBlock] using hgt,by simpa [Value.ownBlock] using hgm⟩,?_,fun q hq n1 n2 n3=>?_⟩
 · rw [ZG _ _ _ _ (by simp)];exact q1
 · rw [hl,NJ,Ie]
   exact Yy ho (grownBy_set w4 w4 tb 0 _ (YT _ _)) (.inr (by simpa [Value.ownBlock] using hgt))
 · rw [hl]
   exact (M1.kept G (fun e=>hT.vm e.symm)).setCell (a:=⟨tb,0,none⟩) (fun e=>hT.ne e.symm) _
 · rw [hl] at hi
   by_cases e:i=rs.length
   · subst e;rw [SR];exact QK
   rw [NW _ _ _ (by omega)];exact hT.full i (by omega)
 · rw [hl] at hi hj
   by_cases ei:i=rs.length
   · by_cases ej:j=rs.length
     · omega
     subst ei;rw [Xa,Xc _ _ _ (by omega)] at e;exact absurd e.symm (hno j (by omega))
   by_cases ej:j=rs.length
   · subst ej;rw [Xa,Xc _ _ _ (by omega)] at e;exact absurd e (hno i (by omega))
   rw [Xc _ _ _ (by omega),Xc _ _ _ (by omega)] at e;exact hT.apart i j (by omega) (by omega) e
 · have h1:=ZR.grown G1 hlo (by intro q hq;simp at hq;subst hq;exact hT.qN)
   have h2:=h1.grown G (by omega) (fun q hq=>(ZO hT.rows q hq).1);exact h2.setCell (p:=⟨tb,0,none⟩) hT.lot _
 rw [Mh _ _ _ _ (show q≠(⟨tb,0,none⟩:Addr).block from n1),G.block q (by omega) (fun e=>n3 e.symm)];exact G1.block q hq (by simpa using n2)
theorem wo (w:World) (lo tb mb:Nat) (v:Value) (rs:List (Int × List Int)) (x:Int) (Vb:List Int) (i:Nat) (ht:U2 w lo tb mb v rs) (hi:i<rs.length) (hx:pB rs i=x) (hwx:(Lit.int .i64 x).wf=true) (QK:Vb.length=64) :
    Calls Tryz.prog 109 #[.pointer (some ⟨tb,0,none⟩),.int .i64 x,.agg (Vb.map (Value.int .u8)).toArray] w fun e w'=>e=.returned (.tuple #[])∧U2 w' lo tb mb v (rs.set i (pB rs i,Vb))∧Below lo w w'∧(∀q,q<w.heap.size→q≠tb→q≠mb→v.ownBlock≠some q→w'.heap[q]?=w.heap[q]?):=by
 obtain ⟨g,cap,rfl,hg1,hg2,hc1,hc2⟩:=ht.form (by omega);obtain ⟨D,hD,hM⟩:=ht.map;obtain ⟨⟨zt,c0,c1⟩,-⟩:=ht.box;have hhas:=(hM.1 x).2 ⟨i,hi,hx⟩;have HAT:Hid (∀z,D.atKey (.int .i64 x) z=.lit (.int .i64 i)):=by intro z;rw [←hx];exact hM.2 i hi z
 have hkey:=Maps.keyOf_int_mk (P:=Tryz.prog) Tryz.underlying2 hwx;obtain ⟨V,hV⟩:∃V,V=Vb.map (Value.int .u8):=⟨_,rfl⟩;have VR:Hid (V.length=64):=by rw [hV];show _=_;rw [Vi];exact QK
 have ze:Hid (∀v ∈ V,v.oneCell'=true):=by rw [hV];exact Wc _ _
 rw [←hV];have Y':(i:Int)<(rs.length:Int):=by omega
 unfold maxLen at hc2;have BA:Hid (ZX w (w.alloc (.cells V.toArray 125))):=ZR.alloc ZW _;have TA:=Z8 (ht.below BA.out);have RB:Hid ((w.alloc (.cells V.toArray 125)).rangeAt w.heap.size 0 V):=by have:=Qi w V.toArray 125;rw [Bn] at this;exact this
 have HD:Hid ((w.alloc (.cells V.toArray 125)).ownsMap Tryz.prog 2 (plainElem Tryz.prog 3) mb rs.length D):=hD.alloc _;have hlow:lo≤w.heap.size:=by omega
 have FIN:Hid (∀W,U2 W lo tb mb (.slice (some ⟨g,0,none⟩) rs.length cap) rs→Below lo w W→U2 (W.setCells g (i*65+1) V) lo tb mb (.slice (some ⟨g,0,none⟩) rs.length cap) (rs.set i (pB rs i,Vb))∧Below lo w (W.setCells g (i*65+1) V)∧W.grownBy (W.setCells g (i*65+1) V) (some g)):=by
  intro W hW hB;have:=hW.set hi Vb QK;rw [←hV] at this;exact ⟨this.1,hB.grown this.2 (by have:=hB.size;omega) (by intro q hq;simp at hq;omega),this.2⟩
 generalize hn:rs.length=n at *;clear ht hD hM hx hV
 go_enter Tryz.func109,Tryz.ntmps109
 go_wp2_with (at_lookup;refine vz _ rfl _ _ 155 rfl 2 3 .i64 ti Tryz.underlying155 Tryz.underlying3 (Ek _) mb n D rfl HD.out _ _ rfl hkey ?_)
 intro c hat hwc;obtain rfl:c=(i:Int):=by have:=HAT.out (.lit (.int .i64 0));rw [hat] at this;simpa using this
 clear c0 c1 zt;generalize w.alloc _=W0 at *
 go_wp2_with fail
 have TH:Hid (W0.there g (i*65+1) 64):=by
  intro j hj;have hr:=TA.out.rows;have hfl:=QN rs TA.out.full;rw [hn] at hr hfl;exact ⟨by rw [U0 hr (i*65+1+j) (by omega),VM (by omega)];rfl,Rh hr _⟩
 obtain ⟨⟨zt,c0,c1⟩,-⟩:=TA.out.box;refine ZF (S:=fun w'=>w'.cell? ⟨tb,0,none⟩=some (.slice (some ⟨g,0,none⟩) n cap)∧w'.rangeAt w.heap.size 0 V) (by kernel_rfl) ⟨c0,RB.out⟩ (fun Z9=>?_);refine ZV (.pointer (some ⟨tb,0,none⟩)) (by kernel_rfl) (fun _=>id) (by assumption) (fun w' hSw=>?_) ?_
 · (try dsimp only at hSw)
   go_simp
 simp only [Act.put,Zk,Zj,Zi]
 refine ZV (.pointer (some ⟨tb,0,none⟩)) (by kernel_rfl) (fun _=>id) (by assumption) (fun w' hSw=>?_) ?_
 · (try dsimp only at hSw)
   go_simp
 simp only [Act.put,Zk,Zj,Zi]
 refine ZV (.pointer (some ⟨tb,0,none⟩)) (by kernel_rfl) (fun _=>id) (by assumption) (fun w' hSw=>?_) ?_
 · (try dsimp only at hSw)
   go_simp
 simp only [Act.put,Zk,Zj,Zi]
 refine ZV (.slice (some ⟨g,0,none⟩) n cap) (by kernel_rfl) (fun _=>id) (by assumption) (fun w' hSw=>?_) ?_
 · (try dsimp only at hSw)
   go_simp
 simp only [Act.put,Zk,Zj,Zi]
 refine ZV (.int .i64 i) (by kernel_rfl) (fun _=>id) (by assumption) (fun w' hSw=>?_) ?_
 · (try dsimp only at hSw)
   go_simp
 simp only [Act.put,Zk,Zj,Zi]
 refine si (i:=5) (oi:=⟨some 23,_,_,_,_,_⟩) (v:=.agg (V).toArray) rfl (by kernel_rfl) (fun _ _ _ h=>h) (ET (by rfl) _ _ rfl _ _ rfl V _ (fun w' hSw=>hSw.2) Tryz.underlying125 rfl (Yk _ VR.out)) (by assumption) ?_
 simp only [Act.put,Zk,Zj,Zi]
 refine ZA 6 (.pointer (some ⟨g,i*65,none⟩)) rfl (by kernel_rfl) (fun _=>id) (by assumption) (fun w' hSw=>?_) ?_
 · (try dsimp only at hSw)
   go_simp
 simp only [Act.put,Zk,Zj,Zi]
 refine ZA 7 (.pointer (some ⟨g,i*65+1,none⟩)) rfl (by kernel_rfl) (fun _=>id) (by assumption) (fun w' hSw=>?_) ?_
 · (try dsimp only at hSw)
   go_simp
 simp only [Act.put,Zk,Zj,Zi]
 refine ZS 8 rfl (by kernel_rfl) (fun K hK=>?_);refine U4 rfl 125 _ _ rfl g (i*65+1) V.toArray rfl rfl ?t1 ?t2 (Sn ze.out) ?_
 case t1 =>
  have e:V.toArray.size=64:=by rw [WW];exact VR.out
  rw [e];exact TH.out
 case t2=>rw [WW];exact Yk _ VR.out
 have hgt:g≠tb:=fun e=>TA.out.vt (by rw [e];rfl)
 have FI:=FIN.out W0.drew (TA.out.below (below_drewN' W0 1)) ((BA.out.mono hlow).trans ((below_drewN' W0 1).mono (by have:=BA.out.size;omega)));rw [Bn];refine hK.out _ _ ⟨?_,?_⟩ (fun U=>?_)
 · rw [vA _ _ _ _ _ (fun h=>absurd h (Ne.symm hgt))];exact c0
 · exact World.rangeAt_setCells_apart (w:=W0.drew) ((E7 _ _ _ _).2 RB.out) _ _ _ (.inl (show w.heap.size≠g by omega))
 clear hK K Z9;refine ZM (by kernel_rfl) ?_ _;clear U c0 c1;go_wp2;refine ZT (TG rfl _ _ _) rfl ⟨rfl,FI.1,FI.2.1,fun q hq n1 n2 n3=>(FI.2.2.block q (by have:=BA.out.size;show q<W0.heap.size;omega) (fun e=>n3 (by injection e with e;rw [e];rfl))).trans (BA.out.block q hq)⟩
theorem th (w:World) (lo tb mb:Nat) (v:Value) (rs:List (Int × List Int)) (x:Int) (Vb:List Int) (ht:U2 w lo tb mb v rs) (hno:∀i,i<rs.length→pB rs i≠x) (hwx:(Lit.int .i64 x).wf=true) (QK:Vb.length=64) (hlen:rs.length≤1048576) (hlow:lo≤w.heap.size) :
    Calls Tryz.prog 109 #[.pointer (some ⟨tb,0,none⟩),.int .i64 x,.agg (Vb.map (Value.int .u8)).toArray] w fun e w'=>e=.returned (.tuple #[])∧(∃v',U2 w' lo tb mb v' (rs++[(x,Vb)]))∧Below lo w w'∧(∀q,q<w.heap.size→q≠tb→q≠mb→v.ownBlock≠some q→w'.heap[q]?=w.heap[q]?):=by
 obtain ⟨D,hD,hM⟩:=ht.map;obtain ⟨⟨zt,c0,c1⟩,-⟩:=ht.box;have hhas:Maps.has D (.int .i64 x)=false:=by
  cases h:Maps.has D (.int .i64 x) with
  | false=>rfl
  | true=>obtain ⟨i,hi,e⟩:=(hM.1 x).1 h;exact absurd e (hno i hi)
 have hkey:=Maps.keyOf_int_mk (P:=Tryz.prog) Tryz.underlying2 hwx;obtain ⟨i0,hi,hz0,hz1,hz2⟩:=YH zg;obtain ⟨V,hV⟩:∃V,V=Vb.map (Value.int .u8):=⟨_,rfl⟩;have VR:Hid (V.length=64):=by rw [hV];show _=_;rw [Vi];exact QK
 have ze:Hid (∀v ∈ V,v.oneCell'=true):=by rw [hV];exact Wc _ _
 have pG:=Z8 hV;have Zl:=Z8 (hM.snoc hD.isMap x Vb hno);have Su:=Z8 hno;have Zh:=Z8 QK;rw [←hV];have BA:Hid (ZX w (w.alloc (.cells V.toArray 125))):=ZR.alloc ZW _;have TA:=Z8 (ht.below BA.out);have RB:Hid ((w.alloc (.cells V.toArray 125)).rangeAt w.heap.size 0 V):=by have:=Qi w V.toArray 125;rw [Bn] at this;exact this
 have HD:Hid ((w.alloc (.cells V.toArray 125)).ownsMap Tryz.prog 2 (plainElem Tryz.prog 3) mb rs.length D):=hD.alloc _;have sA:(w.alloc (.cells V.toArray 125)).heap.size=w.heap.size+1:=by simp
 obtain ⟨va,Ul,rfl⟩:∃a c,v=.slice a rs.length c:=by
  rcases ht.rows.2 with ⟨rfl,h1⟩ | ⟨g,cap,cur,rfl,-⟩
  · exact ⟨none,0,by rw [h1]⟩
  exact ⟨_,_,rfl⟩
 have I:∀q,Value.ownBlock (.slice va rs.length Ul)=some q→q<w.heap.size:=fun q hq=>(ZO ht.rows q hq).2
 have ZE:=Z8 I;have zm:=hD.lt;clear ht hD hM hV hno QK I;generalize hn:rs.length=n at *;have HN:=Z8 hn;clear hn
 go_enter Tryz.func109,Tryz.ntmps109
 go_wp2_with (at_lookup;refine vz _ rfl _ _ 155 rfl 2 3 .i64 ti Tryz.underlying155 Tryz.underlying3 (Ek _) mb n D rfl HD.out _ _ rfl hkey ?_)
 intro c hat hwc;clear c0 c1;generalize w.alloc _=W0 at *
 go_wp2_with fail
 obtain ⟨⟨Z5,c0,c1⟩,f0,f1⟩:=TA.out.box;refine ZF (S:=fun w'=>w'.cell? ⟨tb,0,none⟩=some (.slice va n Ul)∧w'.cell? ⟨tb,1,none⟩=some (.map (some mb))) (by kernel_rfl) ⟨c0,c1⟩ (fun Z9=>?_);refine ZV (.pointer (some ⟨tb,0,none⟩)) (by kernel_rfl) (fun _=>id) (by assumption) (fun w' hSw=>?_) ?_
 · (try dsimp only at hSw)
   go_simp
 simp only [Act.put,Zk,Zj,Zi]
 refine ZV (.pointer (some ⟨tb,0,none⟩)) (by kernel_rfl) (fun _=>id) (by assumption) (fun w' hSw=>?_) ?_
 · (try dsimp only at hSw)
   go_simp
 simp only [Act.put,Zk,Zj,Zi]
 refine ZV (.pointer (some ⟨tb,1,none⟩)) (by kernel_rfl) (fun _=>id) (by assumption) (fun w' hSw=>?_) ?_
 · (try dsimp only at hSw)
   go_simp
 simp only [Act.put,Zk,Zj,Zi]
 refine ZV (.map (some mb)) (by kernel_rfl) (fun _=>id) (by assumption) (fun w' hSw=>?_) ?_
 · (try dsimp only at hSw)
   go_simp
 simp only [Act.put,Zk,Zj,Zi]
 refine ZV (.int .i64 x) (by kernel_rfl) (fun _=>id) (by assumption) (fun w' hSw=>?_) ?_
 · (try dsimp only at hSw)
   go_simp
 simp only [Act.put,Zk,Zj,Zi]
 refine ZV (.pointer (some ⟨tb,0,none⟩)) (by kernel_rfl) (fun _=>id) (by assumption) (fun w' hSw=>?_) ?_
 · (try dsimp only at hSw)
   go_simp
 simp only [Act.put,Zk,Zj,Zi]
 refine ZV (.pointer (some ⟨tb,0,none⟩)) (by kernel_rfl) (fun _=>id) (by assumption) (fun w' hSw=>?_) ?_
 · (try dsimp only at hSw)
   go_simp
 simp only [Act.put,Zk,Zj,Zi]
 refine ZV (.pointer (some ⟨tb,0,none⟩)) (by kernel_rfl) (fun _=>id) (by assumption) (fun w' hSw=>?_) ?_
 · (try dsimp only at hSw)
   go_simp
 simp only [Act.put,Zk,Zj,Zi]
 refine ZV (.slice va n Ul) (by kernel_rfl) (fun _=>id) (by assumption) (fun w' hSw=>?_) ?_
 · (try dsimp only at hSw)
   go_simp
 simp only [Act.put,Zk,Zj,Zi]
 refine ZV (.int .i64 n) (by kernel_rfl) (fun _=>id) (by assumption) (fun w' hSw=>?_) ?_
 · (try dsimp only at hSw)
   go_simp
 simp only [Act.put,Zk,Zj,Zi]
 refine ZS 10 rfl (by kernel_rfl) (fun K hK=>?_);refine Rz rfl _ _ _ 155 rfl 2 3 ti Tryz.underlying155 _ mb n D rfl HD.out.drew ?m1 _ _ _ rfl rfl hkey (.lit (.int .i64 n)) [] ?m2 ?_
 case m1=>unfold maxLen;omega
 case m2=>exact plainElem_int Tryz.underlying3 (NH _ (by omega) (by omega))
 intro W1 m1 g1;have Z':=TA.out.ne;have d0:=(g1.cell_far ⟨tb,0,none⟩ Z5 (by simpa using Z')).trans c0;have d1:=(g1.cell_far ⟨tb,1,none⟩ Z5 (by simpa using Z')).trans c1;have e0:=(g1.frozen_far ⟨tb,0,none⟩ Z5 (by simpa using Z')).trans f0;have e1:=(g1.frozen_far ⟨tb,1,none⟩ Z5 (by simpa using Z')).trans f1;refine hK.out _ _ ⟨d0,d1⟩ (fun U=>?_);clear hK K Z9;refine ZM (by kernel_rfl) ?_ _;have G1:Hid (W0.grownBy W1 (some mb)):=⟨g1.os,g1.tape,g1.output,g1.size,g1.block⟩;have M1:=Z8 m1;clear U c0 c1 f0 f1 m1 g1
 go_wp2_with fail
 go_frame
 have Z4:=Z8 (Ya RB.out (G1.out.block _ (by omega) (by simp;omega)));have hrow:∀W ob,ZX W1 W→(W.alloc ob).ownsRow lo 159 65 (.slice va n Ul) n (WD rs):=by
  intro W ob hW;have h0:=TA.out.rows;rw [HN.out] at h0;have h1:=Yy h0 G1.out (by
   cases e:Value.ownBlock (.slice va n Ul) with
   | none=>exact .inl rfl
   | some q=>right;rw [←e];exact TA.out.vm)
  refine Ud (Yy h1 (row:=none) ⟨hW.os,hW.tape,hW.output,hW.size,fun q hq _=>hW.block q hq⟩ ?_) ob
  cases Value.ownBlock (.slice va n Ul) with
  | none=>exact .inl rfl
  | some q=>exact .inr (by simp)
 have Z0:=Z8 hrow;have ZZ:=ZB Z5 G1.out.size;have ZD:w.heap.size<W1.heap.size:=by have:=G1.out.size;omega
 have hwt:w.heap.size≠tb:=by omega
 have BC:Hid (∀u ∈ (Value.int .i64 x :: V),u.oneCell'=true):=by
  intro u hu
  rcases MZ.1 hu with rfl | hu
  · rfl
  exact ze.out u hu
 have Zz:Hid (∀W:World,∀j u,(Value.int .i64 x :: V)[j]?=some u→(W.alloc (.cells (Value.int .i64 x :: V).toArray 159)).cell? ((⟨W.heap.size,0,none⟩:Addr).add j)=some u):=by
  intro W j u hu;rw [GM,Wn,Re _ _ j _ _ _ (WJ W _)]
  simpa using hu
 have ZU:Hid (∀w4 ob,(W1.drew.alloc ob).grownBy w4 (Value.ownBlock (.slice va n Ul))→(∀j,w4.cell? ⟨tb,j,none⟩=W1.cell? ⟨tb,j,none⟩∧w4.frozen? ⟨tb,j,none⟩=W1.frozen? ⟨tb,j,none⟩)∧∀u,(w4.setCell ⟨tb,0,none⟩ u).rangeAt w.heap.size 0 V∧w4.rangeAt w.heap.size 0 V):=by
  intro w4 ob hg;have hG:=P4 (Ri W1 ob _) ⟨hg.os,hg.tape,hg.output,hg.size,hg.block⟩;have hr:=Ya Z4.out (hG.block _ ZD (fun e=>by have:=ZE.out _ e.symm;omega));refine ⟨fun j=>⟨hG.cell_far ⟨tb,j,none⟩ ZZ (fun e=>TA.out.vt e.symm),hG.frozen_far ⟨tb,j,none⟩ ZZ (fun e=>TA.out.vt e.symm)⟩,fun u=>⟨?_,hr⟩⟩;intro j y hy;rw [ZG _ _ _ _ (by intro e;injection e with e;exact hwt e.symm)];exact hr j y hy
 have FIN:Hid (∀g cap w4 ob,w4.ownsRow lo 159 65 (.slice (some ⟨g,0,none⟩) (n+1) cap) (n+1) (WD rs++(.int .i64 x :: V))→(W1.drew.alloc ob).grownBy w4 (Value.ownBlock (.slice va n Ul))→(Value.ownBlock (.slice va n Ul)=some g∨g=W1.heap.size+1) →
     U2 (w4.setCell ⟨tb,0,none⟩ (.slice (some ⟨g,0,none⟩) (n+1) cap)) lo tb mb (.slice (some ⟨g,0,none⟩) (n+1) cap) (rs++[(x,Vb)])∧Below lo w (w4.setCell ⟨tb,0,none⟩ (.slice (some ⟨g,0,none⟩) (n+1) cap))∧(∀q,q<w.heap.size→q≠tb→q≠mb→Value.ownBlock (.slice va n Ul)≠some q→(w4.setCell ⟨tb,0,none⟩ (.slice (some ⟨g,0,none⟩) (n+1) cap)).heap[q]?=w.heap[q]?)):=by
  intro g cap w4 ob h1 h2 h3;have hT:=TA.out;have hM:=Zl.out;have hM1:=M1.out;rw [pG.out] at h1;rw [←HN.out] at h1 h2 h3 hT hM1 ⊢;rw [←HN.out] at hM;have:=U2.snoc (W0:=W0) (W1:=W1) (ob:=ob) hT G1.out hM1 hM h1 ⟨h2.os,h2.tape,h2.output,h2.size,h2.block⟩ h3 (by rw [HN.out];exact Su.out) Zh.out (by omega);exact ⟨this.1,(BA.out.mono hlow).trans this.2.1,fun q hq n1 n2 n3=>(this.2.2 q (by omega) n1 n2 n3).trans (BA.out.block q hq)⟩
 have Lz:n+1≤maxLen:=by unfold maxLen;omega
 have Ly:(n+1)*72≤140737488355328:=by omega
 have ZK:lo≤W1.heap.size:=by omega
 clear hrow;refine ZF (S:=fun w'=>w'.rangeAt w.heap.size 0 V) (by kernel_rfl) ((E7 _ _ _ _).2 Z4.out) (fun Z9=>?_);refine ZV (.pointer (some ⟨tb,0,none⟩)) (by kernel_rfl) (fun _=>id) (by assumption) (fun w' hSw=>?_) ?_
 · (try dsimp only at hSw)
   go_simp
 simp only [Act.put,Zk,Zj,Zi]
 refine ZV (.pointer (some ⟨tb,0,none⟩)) (by kernel_rfl) (fun _=>id) (by assumption) (fun w' hSw=>?_) ?_
 · (try dsimp only at hSw)
   go_simp
 simp only [Act.put,Zk,Zj,Zi]
 refine ZV (.pointer (some ⟨tb,0,none⟩)) (by kernel_rfl) (fun _=>id) (by assumption) (fun w' hSw=>?_) ?_
 · (try dsimp only at hSw)
   go_simp
 simp only [Act.put,Zk,Zj,Zi]
 refine ZV (.pointer (some ⟨tb,0,none⟩)) (by kernel_rfl) (fun _=>id) (by assumption) (fun w' hSw=>?_) ?_
 · (try dsimp only at hSw)
   go_simp
 simp only [Act.put,Zk,Zj,Zi]
 refine ZA 5 (.int .i64 x) rfl (by kernel_rfl) (fun _=>id) (by assumption) (fun w' hSw=>?_) ?_
 · (try dsimp only at hSw)
   go_simp
 simp only [Act.put,Zk,Zj,Zi]
 refine si (i:=6) (oi:=⟨some 42,_,_,_,_,_⟩) (v:=.agg (V).toArray) rfl (by kernel_rfl) (fun _ _ _ h=>h) (ET (by rfl) _ _ rfl _ _ rfl V _ (fun w' hSw=>hSw) Tryz.underlying125 rfl (Yk _ VR.out)) (by assumption) ?_
 simp only [Act.put,Zk,Zj,Zi]
 refine ZA 7 (.agg (Value.int .i64 x :: V).toArray) rfl (by kernel_rfl) (fun _=>id) (by assumption) (fun w' hSw=>?_) ?_
 · (try dsimp only at hSw)
   have hb:=Ka w' x V VR.out
   simp [execOp]
   exact Wd (fun r=>Result.andThen r fun a w''=>Result.ok (Next.value a) w'') hb
 simp only [Act.put,Zk,Zj,Zi]
 refine Wu 4 8 rfl rfl (by kernel_rfl) (fun K hK=>?_) (fun K hK=>?_)
 · go_simp
   refine hK.out _ _ (by assumption) (fun Z2=>?_);clear hK K;refine ZS 8 rfl (by kernel_rfl) (fun K hK=>?_);refine Vk rfl _ rfl x V VR.out rfl ?_;have hS2:(W1.drew.alloc (.cells (Value.int .i64 x :: V).toArray 159)).rangeAt w.heap.size 0 V:=Ma ((E7 _ _ _ _).2 Z4.out) _;refine hK.out _ _ hS2 (fun Fy=>?_);clear hK K
   simp only [Act.put,Zk,Zj,Zi]
   refine ZS 9 rfl (by kernel_rfl) (fun K hK=>?_);refine step_append_lies _ rfl _ _ 154 rfl lo 159 i0 zT 65 72 Tryz.underlying154 hi hz0 hz1 hz2 Kb (by omega) (.slice va n Ul) n (WD rs) rfl (Z0.out W1.drew _ (below_drewN' W1 1)) ⟨W1.heap.size,0,none⟩ 1 1 (Value.int .i64 x :: V) rfl ?a1 (Zz.out W1.drew) BC.out (by omega) Lz Ly ?a2 (W1.heap.size+1) ?a3 ?_
   case a1=>rw [XQ,VR.out]
   case a2=>exact (show lo≤(W1.alloc (.cells (Value.int .i64 x :: V).toArray 159)).heap.size by rw [XE];exact Nat.le_succ_of_le ZK)
   case a3=>exact (show (W1.alloc (.cells (Value.int .i64 x :: V).toArray 159)).heap.size=W1.heap.size+1 by rw [XE])
   intro g4 cap4 w4 ST hg4 UE Qh;obtain ⟨q1,q2⟩:=ZU.out _ _ hg4;have FI:=FIN.out _ _ _ _ ST hg4 UE;have Dd:=Z8 FI;have p0:=(q1 0).1.trans d0;have p1:=(q1 0).2.trans e0;refine hK.out _ _ (q2 (.int .i64 0)).2 (fun T=>?_);have AG:=Z8 q2;clear hK K FI ST hg4 UE q1 q2
   simp only [Act.put,Zk,Zj,Zi]
   refine ZA 10 (.pointer (some ⟨tb,0,none⟩)) rfl (by kernel_rfl) (fun _=>id) (by assumption) (fun w' hSw=>?_) ?_
   · (try dsimp only at hSw)
     go_simp
   simp only [Act.put,Zk,Zj,Zi]
   refine ZA 11 (.pointer (some ⟨tb,0,none⟩)) rfl (by kernel_rfl) (fun _=>id) (by assumption) (fun w' hSw=>?_) ?_
   · (try dsimp only at hSw)
     go_simp
   simp only [Act.put,Zk,Zj,Zi]
   refine ZS 12 rfl (by kernel_rfl) (fun K hK=>?_);go_simp;refine hK.out _ _ (AG.out _).1 (fun N=>?_);clear hK K;refine ZM (by kernel_rfl) ?_ _;clear N T;go_wp2
   go_end0
   exact ⟨rfl,⟨_,Dd.out.1⟩,Dd.out.2.1,Dd.out.2.2⟩
 refine Vk rfl _ rfl x V VR.out rfl ?_;have hS2:(W1.drew.alloc (.cells (Value.int .i64 x :: V).toArray 159)).rangeAt w.heap.size 0 V:=Ma ((E7 _ _ _ _).2 Z4.out) _;refine hK.out _ _ hS2 (fun Fy=>?_);clear hK K
 simp only [Act.put,Zk,Zj,Zi]
 refine ZS 4 rfl (by kernel_rfl) (fun K hK=>?_);go_simp;refine hK.out _ _ (by assumption) (fun Z2=>?_);clear hK K;refine ZS 9 rfl (by kernel_rfl) (fun K hK=>?_);refine step_append_lies _ rfl _ _ 154 rfl lo 159 i0 zT 65 72 Tryz.underlying154 hi hz0 hz1 hz2 Kb (by omega) (.slice va n Ul) n (WD rs) rfl (Z0.out W1.drew _ (below_drewN' W1 1)) ⟨W1.heap.size,0,none⟩ 1 1 (Value.int .i64 x :: V) rfl ?a1 (Zz.out W1.drew) BC.out (by omega) Lz Ly ?a2 (W1.heap.size+1) ?a3 ?_
 case a1=>rw [XQ,VR.out]
 case a2=>exact (show lo≤(W1.alloc (.cells (Value.int .i64 x :: V).toArray 159)).heap.size by rw [XE];exact Nat.le_succ_of_le ZK)
 case a3=>exact (show (W1.alloc (.cells (Value.int .i64 x :: V).toArray 159)).heap.size=W1.heap.size+1 by rw [XE])
 intro g4 cap4 w4 ST hg4 UE Qh;obtain ⟨q1,q2⟩:=ZU.out _ _ hg4;have FI:=FIN.out _ _ _ _ ST hg4 UE;have Dd:=Z8 FI;have p0:=(q1 0).1.trans d0;have p1:=(q1 0).2.trans e0;refine hK.out _ _ (q2 (.int .i64 0)).2 (fun T=>?_);have AG:=Z8 q2;clear hK K FI ST hg4 UE q1 q2
 simp only [Act.put,Zk,Zj,Zi]
 refine ZA 10 (.pointer (some ⟨tb,0,none⟩)) rfl (by kernel_rfl) (fun _=>id) (by assumption) (fun w' hSw=>?_) ?_
 · (try dsimp only at hSw)
   go_simp
 simp only [Act.put,Zk,Zj,Zi]
 refine ZA 11 (.pointer (some ⟨tb,0,none⟩)) rfl (by kernel_rfl) (fun _=>id) (by assumption) (fun w' hSw=>?_) ?_
 · (try dsimp only at hSw)
   go_simp
 simp only [Act.put,Zk,Zj,Zi]
 refine ZS 12 rfl (by kernel_rfl) (fun K hK=>?_);go_simp;refine hK.out _ _ (AG.out _).1 (fun N=>?_);clear hK K;refine ZM (by kernel_rfl) ?_ _;clear N T;go_wp2
 go_end0
 exact ⟨rfl,⟨_,Dd.out.1⟩,Dd.out.2.1,Dd.out.2.2⟩
theorem QJ (w:World) (lo tb mb:Nat) (v:Value) (rs:List (Int × List Int)) (x:Int) (Vb:List Int) (ht:U2 w lo tb mb v rs) (hx0:0≤x) (hx1:x≤1048576) (QK:Vb.length=64) (hlen:rs.length≤1048576) (hlow:lo≤w.heap.size) :
    Calls Tryz.prog 109 #[.pointer (some ⟨tb,0,none⟩),.int .i64 x,.agg (Vb.map (Value.int .u8)).toArray] w fun e w'=>e=.returned (.tuple #[])∧(∃v' rs',Put rs x Vb rs'∧U2 w' lo tb mb v' rs')∧Below lo w w'∧(∀q,q<w.heap.size→q≠tb→q≠mb→v.ownBlock≠some q→w'.heap[q]?=w.heap[q]?):=by
 by_cases h:∃i,i<rs.length∧pB rs i=x
 · obtain ⟨i,hi,e⟩:=h
   refine (wo w lo tb mb v rs x Vb i ht hi e (NH x hx0 hx1) QK).mono ?_;rintro e' w' ⟨rfl,h1,h2,h3⟩;exact ⟨rfl,⟨v,_,.inl ⟨i,hi,e,rfl⟩,h1⟩,h2,h3⟩
 have hno:∀i,i<rs.length→pB rs i≠x:=fun i hi e=>h ⟨i,hi,e⟩
 refine (th w lo tb mb v rs x Vb ht hno (NH x hx0 hx1) QK hlen hlow).mono ?_;rintro e' w' ⟨rfl,⟨v',h1⟩,h2,h3⟩;exact ⟨rfl,⟨v',_,.inr ⟨hno,rfl⟩,h1⟩,h2,h3⟩
theorem wl {rs':List (Int × List Int)} {V:List Int} (h:Put rs x V rs'):rs'.length≤rs.length+1:=by
 rcases h with ⟨i,_,_,rfl⟩ | ⟨_,rfl⟩
 · simp
 simp
theorem J8 (w:World) (va vb:Option Addr) (dl ca n cb:Nat) (Z7:List Int) (ps:List (Int × List Int)) (hdl:Z7.length=dl) (hp:XP w (.slice vb n cb) ps) (hl:ps.length=n) (hv:XY dl ps=true) :
    Calls Tryz.prog 98 #[.agg #[.slice va dl ca,.slice vb n cb]] w fun e w'=>e=.returned (.pointer (some ⟨w.heap.size+2,0,none⟩))∧(∃v rs,U2 w' (w.heap.size+1) (w.heap.size+2) (w.heap.size+1) v rs∧NI Z7 ps n rs)∧ZX w w':=by
 have HP:=Z8 hp;have HL:=Z8 hl;have HV:=Z8 hv;have Uo:=Z8 hdl;have hn2:n≤2000:=by have:=((Yv dl ps).1 hv).2.2.2.1;omega
 have B0:Hid (ZX w (w.alloc (.cells #[.slice va dl ca,.slice vb n cb] 36))):=ZR.alloc ZW _;have X0:Hid (YK (w.alloc (.cells #[.slice va dl ca,.slice vb n cb] 36)) w.heap.size (.slice va dl ca) (.slice vb n cb)):=YK.new _ _ _ _;have s0:(w.alloc (.cells #[.slice va dl ca,.slice vb n cb] 36)).heap.size=w.heap.size+1:=by simp
 clear hp hl hv hdl
 go_enter Tryz.func98,Tryz.ntmps98
 go_wp2_with fail
 generalize w.alloc _=w0 at *;refine (QL w0).mono ?_;rintro e w1 ⟨rfl,t1,b1⟩;rw [s0] at t1 ⊢;have T1:Hid (U2 w1 (w.heap.size+1) (w.heap.size+2) (w.heap.size+1) (.slice none 0 0) []):=t1;have B1:Hid (Below (w.heap.size+1) w0 w1):=by have:=b1;unfold ZX at this;rw [s0] at this;exact this
 have X1:=Z8 (X0.out.below b1);have z1:=T1.out.box.1.1;clear t1 b1 X0;obtain ⟨zx,c0,c1⟩:=X1.out;go_wp2;clear c0 c1
 go_loopw [10] (fun i wr=>∃k:Nat,k≤n∧i=.int .i64 k∧Hid (∃v rs,U2 wr (w.heap.size+1) (w.heap.size+2) (w.heap.size+1) v rs∧NI Z7 ps k rs∧rs.length≤k)∧Hid (Below (w.heap.size+1) w1 wr)) (fun i _=>n - (intOf i).toNat)
 case atStart=>exact ⟨0,ZQ _,rfl,⟨_,_,T1.out,Dg _ _,ZW⟩,ZR⟩
 case round =>
  clear T1;obtain ⟨k,hk,rfl,⟨v,rs,ht,hof,hrl⟩,HG⟩:=hrel;have HT:=Z8 ht;have Bz:=Z8 hof;have Di:=Z8 hrl;have sg:=HG.out.size;have BW:=Z8 (B0.out.trans (((B1.out.trans HG.out)).mono (by omega)));clear ht hof hrl
  by_cases hlt:k<n
  · obtain ⟨pb,po,rfl,hpb,e1,da,dc,e2,r⟩:=HP.out.recAt HL.out hlt
    obtain ⟨b,hb,hb2,hb3,Kn⟩:=Kr HV.out k (by rw [HL.out];exact hlt);have HB:=Z8 hb;rw [hb] at e1;rw [Kn] at e2 r;have uS:=(BW.out.cell (p:=⟨pb,po+k*2,none⟩) hpb).trans e1;have e2':=(BW.out.cell (p:=⟨pb,po+k*2+1,none⟩) hpb).trans e2;obtain ⟨db,Eq,rfl,pt,-⟩:=r.cellAt Kn (show 0<64 by omega);obtain ⟨V,hV⟩:∃V,V=(pD ps k).map (Value.int .u8):=⟨_,rfl⟩;have RU:Hid (w.rangeAt db Eq V):=by rw [hV];exact (r.span Kn (by omega)).2
    have VR:Hid (V.length=64):=by rw [hV];show _=_;rw [Vi];exact Kn
    have YN:(k:Int)<(n:Int):=by omega
    have EG:Hid (∀W,U2 W (w.heap.size+1) (w.heap.size+2) (w.heap.size+1) v rs→w.heap.size+1≤W.heap.size→Calls Tryz.prog 109 #[.pointer (some ⟨w.heap.size+2,0,none⟩),.int .i64 b,.agg V.toArray] W fun e w'=>e=.returned (.tuple #[])∧(∃v' rs',Put rs b (pD ps k) rs'∧U2 w' (w.heap.size+1) (w.heap.size+2) (w.heap.size+1) v' rs')∧Below (w.heap.size+1) W w'∧(∀q,q<W.heap.size→q≠w.heap.size+2→q≠w.heap.size+1→v.ownBlock≠some q→w'.heap[q]?=W.heap[q]?)):=by
     intro W hT hW;rw [hV];exact QJ W _ _ _ v rs b (pD ps k) hT (by omega) (by omega) Kn (by have:=Di.out;omega) hW
    clear e1 e2 r hb Kn hV
    go_wp2_with fail
    have uL:Hid (ZX wr (wr.alloc (.cells #[.int .i64 b,.slice (some ⟨db,Eq,none⟩) 64 dc] 91))):=ZR.alloc ZW _;have XB:Hid (YK (wr.alloc (.cells #[.int .i64 b,.slice (some ⟨db,Eq,none⟩) 64 dc] 91)) wr.heap.size (.int .i64 b) (.slice (some ⟨db,Eq,none⟩) 64 dc)):=YK.new _ _ _ _;clear uS e2';generalize wr.alloc _=w3 at *;obtain ⟨z3,c0,c1⟩:=XB.out;have sB:=uL.out.size;have ZI:=Ya RU.out ((uL.out.block db (by have:=BW.out.size;omega)).trans (BW.out.block db pt));have T3:=Z8 (HT.out.below uL.out);have Zn:=HT.out.box.1.1;have I:∀q,v.ownBlock=some q→q<wr.heap.size:=fun q hq=>(ZO HT.out.rows q hq).2
    have hat:∀W,(Instr.arrayAt 125 (.slice (some ⟨db,Eq,none⟩) 64 dc)).run Tryz.prog W=.ok (.pointer (some ⟨db,Eq,none⟩)) W:=fun W=>run_arrayAt W 125 _ 64 _ _ _ Tryz.underlying125 ZW
    have CP:Hid (Calls Tryz.prog 109 #[.pointer (some ⟨w.heap.size+2,0,none⟩),.int .i64 b,.agg V.toArray] w3.drew fun e w'=>e=.returned (.tuple #[])∧w'.cell? ⟨wr.heap.size,0,none⟩=some (.int .i64 b)∧w'.cell? ⟨wr.heap.size,1,none⟩=some (.slice (some ⟨db,Eq,none⟩) 64 dc)∧w'.rangeAt db Eq V∧Hid (∃v rs,U2 w' (w.heap.size+1) (w.heap.size+2) (w.heap.size+1) v rs∧NI Z7 ps (k+1) rs∧rs.length≤k+1)∧Hid (Below (w.heap.size+1) w1 w')):=by
     refine (EG.out w3.drew (T3.out.below (below_drewN' w3 1)) (by show _≤w3.heap.size;omega)).mono ?_;rintro e w' ⟨rfl,⟨v',rs',hput,hT'⟩,hb',hfr⟩;have hc:∀j,w'.cell? ⟨wr.heap.size,j,none⟩=w3.cell? ⟨wr.heap.size,j,none⟩:=fun j=>YI (w:=w3) (a:=⟨wr.heap.size,j,none⟩) (hfr wr.heap.size z3 (by omega) (by omega) (fun e=>by have:=I _ e;omega))
     refine ⟨rfl,(hc 0).trans c0,(hc 1).trans c1,Ya ZI (hb'.block db (by omega)),⟨v',rs',hT',?_,?_⟩,?_⟩
     · refine Df Z7 ps rs rs' k Bz.out ⟨b,HB.out,by rw [Uo.out];exact hb2,hb3⟩ HT.out.apart ?_
       rw [HB.out];exact hput
     · have:=wl hput;have:=Di.out;omega
     exact ((HG.out.trans (uL.out.mono (by omega))).trans ((below_drewN' w3 1).mono (by omega))).trans hb'
    clear EG XB T3 RU HG HT Bz;refine ZF (S:=fun w'=>w'.cell? ⟨wr.heap.size,0,none⟩=some (.int .i64 b)∧w'.cell? ⟨wr.heap.size,1,none⟩=some (.slice (some ⟨db,Eq,none⟩) 64 dc)∧w'.rangeAt db Eq V) (by kernel_rfl) ⟨c0,c1,ZI⟩ (fun Z9=>?_);refine ZV (.pointer (some ⟨w.heap.size+2,0,none⟩)) (by kernel_rfl) (fun _=>id) Z9 (fun w' hSw=>?_) ?_
    · (try dsimp only at hSw)
      go_simp
    simp only [Act.put,Zk,Zj,Zi]
    refine ZV (.pointer (some ⟨wr.heap.size,0,none⟩)) (by kernel_rfl) (fun _=>id) Z9 (fun w' hSw=>?_) ?_
    · (try dsimp only at hSw)
      go_simp
    simp only [Act.put,Zk,Zj,Zi]
    refine ZV (.int .i64 b) (by kernel_rfl) (fun _=>id) Z9 (fun w' hSw=>?_) ?_
    · (try dsimp only at hSw)
      go_simp
    simp only [Act.put,Zk,Zj,Zi]
    refine ZV (.pointer (some ⟨wr.heap.size,1,none⟩)) (by kernel_rfl) (fun _=>id) Z9 (fun w' hSw=>?_) ?_
    · (try dsimp only at hSw)
      go_simp
    simp only [Act.put,Zk,Zj,Zi]
    refine ZV (.slice (some ⟨db,Eq,none⟩) 64 dc) (by kernel_rfl) (fun _=>id) Z9 (fun w' hSw=>?_) ?_
    · (try dsimp only at hSw)
      go_simp
    simp only [Act.put,Zk,Zj,Zi]
    refine ZV (.pointer (some ⟨db,Eq,none⟩)) (by kernel_rfl) (fun _=>id) Z9 (fun w' hSw=>?_) ?_
    · (try dsimp only at hSw)
      go_simp
    simp only [Act.put,Zk,Zj,Zi]
    refine si (i:=6) (oi:=⟨some 20,_,_,_,_,_⟩) (v:=.agg (V).toArray) rfl (by kernel_rfl) (fun _ _ _ h=>h) (ET (by rfl) _ _ rfl _ _ rfl V _ (fun w' hSw=>hSw.2.2) Tryz.underlying125 rfl (Yk _ VR.out)) (by assumption) ?_
    simp only [Act.put,Zk,Zj,Zi]
    refine ZS 7 rfl (by kernel_rfl) (fun K hK=>?_);go_simp
    go_at_call 109
    refine CP.out.mono ?_;rintro e w4 ⟨rfl,l0,l1,l2,R4,G4⟩;refine hK.out _ _ ⟨l0,l1,l2⟩ (fun U=>?_);clear hK K Z9;refine ZM (by kernel_rfl) ?_ _
    try simp only [Act.put,Zk,Zj,Zi]
    clear l0 l1 l2 U c0 c1 hat CP ZI;go_wp2
    go_roundw
    case rel=>exact ⟨k+1,by omega,by go_num,R4,G4⟩
    case measure=>simp [intOf];omega
  have hkn:k=n:=by omega
  subst hkn;go_wp2;go_ret;exact ⟨rfl,⟨v,rs,HT.out,Bz.out⟩,BW.out⟩
theorem J7 {α:Type} (L V:List α) (h:V.length=L.length):splice L 0 V=V:=by
 unfold splice;rw [Rl,Wn,Qx (by omega)]
 simp
def blk (D:List Int) (b:Nat):List Int:=(D.drop (b*64)).take 64
theorem QI (D:List Int) (b j:Nat):(blk D b)[j]?=if j<64 then D[b*64+j]? else none:=by
 unfold blk;rw [uu]
 split
 · rw [Pd]
 rfl
theorem wk {D E:List Int} (hl:D.length=E.length) (hm:D.length % 64=0) (h:∀b,b*64+64≤D.length→blk D b=blk E b):D=E:=by
 apply Lr;intro i
 by_cases hi:i<D.length
 · have h1:=h (i / 64) (by omega)
   have h2:(blk D (i / 64))[i % 64]?=(blk E (i / 64))[i % 64]?:=by rw [h1]
   rw [QI,QI,ZY (by omega),ZY (by omega),show i / 64*64+i % 64=i by omega] at h2;exact h2
 rw [Sy (by omega),Sy (by omega)]
theorem NG (D V:List Int) (c b:Nat) (hV:V.length=64) (hc:c*64+64≤D.length):blk (splice D (c*64) V) b=if b=c then V else blk D b:=by
 apply Lr;intro j;rw [QI,Wp _ _ _ (by omega),hV]
 by_cases hj:j<64
 · rw [ZY hj]
   by_cases e:b=c
   · subst e
     rw [ZY rfl,Z3 (by omega),ZY (by omega),show b*64+j - b*64=j by omega]
   rw [Z3 e,QI,ZY hj]
   by_cases h1:b*64+j<c*64
   · rw [ZY h1]
   rw [Z3 h1,Z3 (by omega)]
 rw [Z3 hj]
 split
 · rw [Sy (by omega)]
 rw [QI,Z3 hj]
def lays (Z7:List Int) (rs:List (Int × List Int)):List Int:=rs.foldl (fun D r=>splice D (r.1.toNat*64) r.2) Z7
theorem Qg (Z7:List Int) (rs:List (Int × List Int)) (r:Int × List Int):lays Z7 (rs++[r])=splice (lays Z7 rs) (r.1.toNat*64) r.2:=by simp [lays]
def Fits (dl:Nat) (r:Int × List Int):Prop:=∃b:Nat,r.1=b∧b*64+64≤dl∧r.2.length=64
theorem Id {α:Type} {p:List α→Prop} (h0:p []) (hs:∀l x,p l→p (l++[x])) (l:List α):p l:=by
 rw [←List.reverse_reverse l]
 induction l.reverse with
 | nil=>exact h0
 | cons x xs ih=>rw [List.reverse_cons];exact hs _ _ ih
theorem NF (Z7:List Int) (rs:List (Int × List Int)):(∀r ∈ rs,Fits Z7.length r)→(lays Z7 rs).length=Z7.length:=by
 refine Id (p:=fun rs=>(∀r ∈ rs,Fits Z7.length r)→(lays Z7 rs).length=Z7.length) (fun _=>rfl) (fun rs r ih h=>?_) rs;have ih':=ih (fun q hq=>h q (by simp [hq]));obtain ⟨b,hb,hb2,hl⟩:=h r (by simp);rw [Qg,length_splice,ih'];rw [ih',hb,XT,hl];exact hb2
theorem J6 (Z7:List Int) (ps:List (Int × List Int)) (hv:XY Z7.length ps=true) (b:Nat):∀k,k≤ps.length→blk (Nj Z7 ps (fun _=>64) k) b=rdv Z7 ps b k
 | 0,_=>rfl
 | k+1,hk=>by
  have ih:=J6 Z7 ps hv b k (by omega);obtain ⟨c,hc,hc2,_,hd⟩:=Kr hv k (by omega);have hl:=SP Z7 ps (fun _=>64) hv k (by omega);rw [Nj,hc,XT,We (by omega),NG _ _ _ _ hd (by omega)]
  by_cases e:b=c
  · rw [ZY e,FA Z7 ps b k (by rw [hc,e])]
  rw [Z3 e,QM Z7 ps b k (by rw [hc];omega),ih]
theorem zd (Z7:List Int) (rs:List (Int × List Int)) (b:Nat):(∀r ∈ rs,Fits Z7.length r)→(∀i j,i<rs.length→j<rs.length→pB rs i=pB rs j→i=j) →
    (∀i,i<rs.length→pB rs i=b→blk (lays Z7 rs) b=pD rs i)∧((∀i,i<rs.length→pB rs i≠b)→blk (lays Z7 rs) b=blk Z7 b):=by
 refine Id (p:=fun rs=>(∀r ∈ rs,Fits Z7.length r)→(∀i j,i<rs.length→j<rs.length→pB rs i=pB rs j→i=j) →
  (∀i,i<rs.length→pB rs i=b→blk (lays Z7 rs) b=pD rs i)∧((∀i,i<rs.length→pB rs i≠b)→blk (lays Z7 rs) b=blk Z7 b)) (fun _ _=>⟨fun i hi=>by simp at hi,fun _=>rfl⟩) (fun rs r ih h hap=>?_) rs
 have hl:(rs++[r]).length=rs.length+1:=by simp
 have hrs:∀q ∈ rs,Fits Z7.length q:=fun q hq=>h q (by simp [hq])
 have Zy:∀i j,i<rs.length→j<rs.length→pB rs i=pB rs j→i=j:=fun i j hi hj e=>hap i j (by omega) (by omega) (by rw [Xc _ _ _ hi,Xc _ _ _ hj];exact e)
 obtain ⟨i1,i2⟩:=ih hrs Zy;obtain ⟨c,hc,hc2,hd⟩:=h r (by simp);have hlen:=NF Z7 rs hrs;rw [Qg,hc,XT,NG _ _ _ _ hd (by omega)];refine ⟨fun i hi e=>?_,fun hno=>?_⟩
 · rw [hl] at hi
   by_cases ei:i=rs.length
   · subst ei
     rw [Xa] at e;rw [SR,ZY (by rw [hc] at e;omega)]
   rw [Xc _ _ _ (by omega)] at e;rw [NW _ _ _ (by omega)]
   by_cases eb:b=c
   · have:=hap i rs.length (by omega) (by omega) (by rw [Xc _ _ _ (by omega),Xa,e,hc,eb])
     omega
   rw [Z3 eb];exact i1 i (by omega) e
 have hn:=hno rs.length (by omega);rw [Xa,hc] at hn;rw [Z3 (by omega)];exact i2 (fun i hi=>by have:=hno i (by omega);rw [Xc _ _ _ hi] at this;exact this)
theorem Ej (dl:Nat) (rs:List (Int × List Int)) (h:∀i,i<rs.length→∃b:Nat,pB rs i=b∧b*64+64≤dl∧b≤300) (hf:∀i,i<rs.length→(pD rs i).length=64):∀r ∈ rs,Fits dl r:=by
 intro r hr;obtain ⟨i,hi,rfl⟩:=List.mem_iff_getElem.1 hr;obtain ⟨b,h1,h2,_⟩:=h i hi;have h3:=hf i hi;unfold pB at h1;unfold pD at h3
 simp [List.getD,hi] at h1 h3
 exact ⟨b,h1,h2,h3⟩
theorem za (Z7:List Int) (ps rs:List (Int × List Int)) (hv:XY Z7.length ps=true) (ht:NI Z7 ps ps.length rs) (hf:∀i,i<rs.length→(pD rs i).length=64) (hap:∀i j,i<rs.length→j<rs.length→pB rs i=pB rs j→i=j) :
    lays Z7 rs=Nj Z7 ps (fun _=>64) ps.length:=by
 have hfit:=Ej Z7.length rs ht.2 hf;have h1:=NF Z7 rs hfit;have h2:=SP Z7 ps (fun _=>64) hv ps.length ZW;refine wk (by rw [h1,h2]) (by rw [h1];exact ((Yv _ _).1 hv).1) (fun b hb=>?_);rw [J6 Z7 ps hv b _ ZW];obtain ⟨k1,k2⟩:=zd Z7 rs b hfit hap
 by_cases hex:∃i,i<rs.length∧pB rs i=(b:Int)
 · obtain ⟨i,hi,e⟩:=hex
   rw [k1 i hi e,(ht.1 b).1 i hi e]
 have hno:∀i,i<rs.length→pB rs i≠(b:Int):=fun i hi e=>hex ⟨i,hi,e⟩
 rw [k2 hno,(ht.1 b).2 hno]
 rfl
attribute [local go_sem] Uf
theorem YF {F:Fence} {Q:Exit→Act→World→Prop} (hgd:op.guard=none) (ty:TypeId) (x:Operand) (ho:op.op=.load ty x)
    (b o:Nat) (hx:a.eval x=.pointer (some ⟨b,o,none⟩)) (cs:List Value) (d:TypeDesc) (hc:w.rangeAt b o cs) (hu:P.underlying ty=some d) (hd:d.isRow=true) (hi:(P.info? ty).map (·.size)=some cs.length)
    (h:wpListIn F nF P ops Q rest (a.put op.dst (.agg cs.toArray)) w):wpListIn F nF P ops Q (op :: rest) a w:=by
 refine wpListIn_plain hgd fun K' hK'=>?_
 have hrun:=run_loadAt_mid (P:=P) w b o ty cs d hc hu hd hi;unfold Oper.wpIn;refine ⟨by simp [Oper.about,ho],?_⟩;rw [Oper.semAt_plain F _ _ (by rw [ho];intro c hc';cases hc')]
 simp only [execOp,ho,hx,Jj,hrun,Jk]
 exact hK' _ _ h
theorem Ry {F:Fence} {Q:Exit→Act→World→Prop} (hgd:op.guard=none) (ty:TypeId) (x y:Operand) (ho:op.op=.store ty x y)
    (b o:Nat) (cells:Array Value) (hx:a.eval x=.pointer (some ⟨b,o,none⟩)) (hy:a.eval y=.agg cells) (ht:w.there b o cells.size) (hi:(P.info? ty).map (·.size)=some cells.size) (h1:cells.all (·.oneCell')=true)
    (h:wpListIn F nF P ops Q rest (a.put op.dst undef) (w.setCells b o cells.toList)):wpListIn F nF P ops Q (op :: rest) a w:=by
 refine wpListIn_plain hgd fun K' hK'=>?_
 have hrun:=run_storeAt_mid (P:=P) w b o ty cells ht hi h1;unfold Oper.wpIn;refine ⟨by simp [Oper.about,ho],?_⟩;rw [Oper.semAt_plain F _ _ (by rw [ho];intro c hc';cases hc')]
 simp only [execOp,ho,hx,hy,Jj,hrun,Jk]
 exact hK' _ _ h
theorem QH (w:World) (t:TypeId):∀(vs:List Value) (o:Nat) (cs:Array Value),o+vs.length≤cs.size→(w.alloc (.cells cs t)).setCells w.heap.size o vs=w.alloc (.cells (splice cs.toList o vs).toArray t)
 | [],o,cs,_=>by rw [RE];simp [World.setCells]
 | v :: vs,o,cs,h=>by
  rw [World.setCells,World.setCell_alloc_at cs t _ o v rfl,QH w t vs (o+1) _ (by simp at h ⊢;omega),Array.toList_setIfInBounds,PJ _ _ _ _ (by simpa using h)]
theorem yZ (w:World) (t:TypeId) (vs:List Value) (cs:Array Value) (h:vs.length=cs.size):(w.alloc (.cells cs t)).setCells w.heap.size 0 vs=w.alloc (.cells vs.toArray t):=by
 rw [QH w t vs 0 cs (by omega),J7 _ _ (by simpa using h)]
theorem VA {F:Fence} {w0:World} {cs:Array Value} {Q:Exit→Act→World→Prop} (hgd:op.guard=none) (ty:TypeId) (x y:Operand) (ho:op.op=.store ty x y)
    (cells:Array Value) (hx:a.eval x=.pointer (some ⟨w0.heap.size,0,none⟩)) (hy:a.eval y=.agg cells) (hcs:cells.size=cs.size) (hi:(P.info? ty).map (·.size)=some cells.size) (h1:cells.all (·.oneCell')=true)
    (h:wpListIn F nF P ops Q rest (a.put op.dst undef) (w0.alloc (.cells cells t))):wpListIn F nF P ops Q (op :: rest) a (w0.alloc (.cells cs t)):=by
 refine Ry hgd ty x y ho w0.heap.size 0 cells hx hy (Xg _ _ _ _ hcs.symm) hi h1 ?_;rw [yZ w0 t cells.toList cs (by simpa using hcs)]
 simpa using h
theorem Ic (rs:List (Int × List Int)) (i:Nat) (hi:i<rs.length) (h:∀i,i<rs.length→(pD rs i).length=64) (j:Nat) (u:Value) (hu:(Value.int .i64 (pB rs i) :: (pD rs i).map (Value.int .u8))[j]?=some u):(WD rs)[i*65+j]?=some u:=by
 cases j with
 | zero=>rw [Mg,zq rs i hi h];simpa using hu
 | succ j =>
  rw [xI] at hu;rw [show i*65+(j+1)=i*65+1+j by omega];exact zp rs i hi h j u hu
def KB (M gd:Nat) (W W':World):Prop:=W.heap.size≤W'.heap.size∧∀q,q<M→q≠gd→W'.heap[q]?=W.heap[q]?
theorem KB.refl (M gd:Nat) (W:World):KB M gd W W:=⟨ZW,fun _ _ _=>rfl⟩
theorem KB.trans {C:World} (h:KB M gd A B) (k:KB M gd B C):KB M gd A C:=⟨ZP h.1 k.1,fun q hq hn=>(k.2 q hq hn).trans (h.2 q hq hn)⟩
theorem KB.alloc (h:KB M gd A B) (hM:M≤B.heap.size) (o:Obj):KB M gd A (B.alloc o):=⟨by have:=h.1;simp;omega,fun q hq hn=>(sj B o q (by omega)).trans (h.2 q hq hn)⟩
abbrev J5 (dl:Nat):={ r:Int × List Int // Fits dl r }
def encR {dl:Nat} (x:J5 dl):Array Value:=#[.int .i64 x.1.1,.agg (x.1.2.map (Value.int .u8)).toArray]
def Xy {dl:Nat} (rs:List (Int × List Int)) (h:∀r ∈ rs,Fits dl r):List (J5 dl):=rs.pmap (fun r hr=>⟨r,hr⟩) h
theorem Vc {dl:Nat} (rs:List (Int × List Int)) (h:∀r ∈ rs,Fits dl r):(Xy rs h).map (·.1)=rs:=by
 unfold Xy;rw [List.map_pmap]
 simp
theorem all_in (F:Fence) (n:Nat) (h87:F.fn 76) (hro:F.round=none) (p0:Option Addr) (w:World) :
    CallsIn F n Tryz.prog 76 #[.pointer p0] w fun e w'=>e=.returned (.func (.func 110) #[] #[.pointer (some ⟨w.heap.size,0,none⟩)])∧w'=w.alloc (.cells #[.pointer p0] 119):=by
 refine Rf Tryz.func76 rfl h87 ?_ hro
 simp only [Tryz.ntmps76,WW,XQ,Wv,Nat.reduceAdd,Nat.reduceSub,DV,DU,Qv,Qz,TJ,Qy]
 gi_wp2;go_ret;exact ⟨rfl,rfl⟩
theorem U2.len (h:U2 w lo tb mb v rs):rs.length≤9223372036854775807:=by
 rcases h.rows.2 with ⟨-,h1⟩ | ⟨g,cap,cur,-,-,-,h2,h3,-⟩
 · omega
 unfold maxLen at h3;omega
theorem Lx (n:Nat) (h:n=65):(Tryz.prog.info? 159).map (·.size)=some n:=by subst h;kernel_rfl
theorem wj (F:Fence) (n:Nat) (h97:F.fn 110) (hro:F.round=none) (hn:1≤n) (l Ba M gd lo tb mb dl:Nat) (v:Value) (rs:List (Int × List Int)) (hf:∀r ∈ rs,Fits dl r) (J Jx:List (J5 dl)→World→Prop)
    (hY:∀pre x W,J pre W→pre.length<rs.length→YieldAt F (n - 1) Tryz.prog l (encR x) W fun e W' =>
     (e=.returned (.bool true)∧J (pre++[x]) W'∧KB M gd W W')∨(e=.returned (.bool false)∧Jx (pre++[x]) W'))
    (W:World) (hJ:AbidesFrom W.heap.size J) (hM:M≤W.heap.size) (hvb:∀q,v.ownBlock=some q→q<M∧q≠gd) (hc:W.cell? ⟨Ba,0,none⟩=some (.pointer (some ⟨tb,0,none⟩))) (hT:U2 W lo tb mb v rs) (hlen:rs.length≤9223372036854775807) (h0:J [] W) :
    CallsIn F n Tryz.prog 110 #[.func (.yield l) #[] #[],.pointer (some ⟨Ba,0,none⟩)] W fun e W'=>(∃v,e=.returned v) ∧
     ((∃ys,ys=Xy rs hf∧J ys W')∨(∃pre,True∧Jx pre W')):=by
 obtain ⟨va,Ul,rfl⟩:∃a c,v=.slice a rs.length c:=by
  rcases hT.rows.2 with ⟨rfl,h1⟩ | ⟨g,cap,cur,rfl,-⟩
  · exact ⟨none,0,by rw [h1]⟩
  exact ⟨_,_,rfl⟩
 have HT:=Z8 hT;obtain ⟨⟨zt,c0,c1⟩,-⟩:=hT.box;have HY:Hid (∀pre x W,J pre W→pre.length<rs.length→YieldAt F (n - 1) Tryz.prog l (encR x) W fun e W' =>
     (e=.returned (.bool true)∧J (pre++[x]) W'∧KB M gd W W')∨(e=.returned (.bool false)∧Jx (pre++[x]) W')):=hY
 have HJ:=Z8 hJ;have H0:=Z8 h0;clear hT hY hJ h0;refine Rf Tryz.func110 rfl h97 ?_ hro
 simp only [Tryz.ntmps110,WW,XQ,Wv,Nat.reduceAdd,Nat.reduceSub,DV,DU,Qv,Qz,TJ,Qy]
 gi_wp2;clear c0 c1 hc
 gi_loopw [10] (fun i wr=>∃k:Nat,k≤rs.length∧i=.int .i64 k∧Hid (J ((Xy rs hf).take k) wr)∧Hid (KB M gd W wr)) (fun i _=>rs.length - (intOf i).toNat)
 case atStart=>exact ⟨0,ZQ _,rfl,(by rw [Rl];exact H0.out),KB.refl _ _ _⟩
 case round =>
  obtain ⟨k,hk,rfl,qM,HG⟩:=hrel;have qL:(Xy rs hf).length=rs.length:=by unfold Xy;simp
  have tg:=Z8 qL;have sg:=HG.out.1;clear qL
  by_cases hlt:k<rs.length
  · obtain ⟨g,cap,e,hg1,hg2,hc1,hc2⟩:=HT.out.form (by omega)
    simp only [Zc,true_and] at e
    obtain ⟨rfl,rfl⟩:=e;obtain ⟨pm,hgd⟩:=hvb g rfl;obtain ⟨key,hkey⟩:∃key,key=pB rs k:=⟨_,rfl⟩;obtain ⟨V,hV⟩:∃V,V=(pD rs k).map (Value.int .u8):=⟨_,rfl⟩;obtain ⟨x,hx⟩:∃x,(Xy rs hf)[k]?=some x:=⟨_,VM (by rw [tg.out];exact hlt)⟩;have hx1:x.1=(pB rs k,pD rs k):=by
     have h1:((Xy rs hf).map (·.1))[k]?=some x.1:=by rw [uv,hx];rfl
     rw [Vc,VM hlt] at h1
     injection h1 with h1
     rw [←h1];unfold pB pD;simp [List.getD,hlt]
    have rW:Hid ((Xy rs hf).take (k+1)=(Xy rs hf).take k++[x]):=by show _=_;rw [uj,hx];rfl
    have henc:encR x=#[.int .i64 key,.agg V.toArray]:=by unfold encR;rw [hx1,hkey,hV]
    have VR:Hid (V.length=64):=by rw [hV];show _=_;rw [Vi];exact HT.out.full k hlt
    have ze:Hid (∀v ∈ V,v.oneCell'=true):=by rw [hV];exact Wc _ _
    have RW:Hid (wr.rangeAt g (k*65) (Value.int .i64 key :: V)):=by
     intro j u hu;rw [hkey,hV] at hu;have hj:j<65:=by have:=(List.getElem?_eq_some_iff.1 hu).1;simpa [HT.out.full k hlt] using this
     rw [YI (w:=W) (a:=⟨g,k*65+j,none⟩) (HG.out.2 g pm hgd),U0 HT.out.rows (k*65+j) (by omega)];exact Ic rs k hlt HT.out.full j u hu
    have BC:Hid ((Value.int .i64 key :: V).length=65):=by show _=_;rw [XQ,VR.out]
    have tf:Hid (∀u ∈ (Value.int .i64 key :: V),u.oneCell'=true):=by
     intro u hu
     rcases MZ.1 hu with rfl | hu
     · rfl
     exact ze.out u hu
    have JA:J ((Xy rs hf).take k) (wr.alloc (.cells (Value.int .i64 key :: V).toArray 159)):=HJ.out _ wr _ none qM.out (Ri _ _ _) (fun r e=>by cases e);have AW:=HY.out _ x _ JA (by rw [YC,tg.out];omega);rw [henc] at AW;have R2:Hid ((wr.alloc (.cells (Value.int .i64 key :: V).toArray 159)).rangeAt wr.heap.size 1 V):=by
     intro j u hu;rw [Re _ _ (1+j) _ _ _ (WJ wr _)];rw [show 1+j=j+1 by omega]
     simpa using hu
    have YN:(k:Int)<(rs.length:Int):=by omega
    unfold maxLen at hc2;obtain ⟨fn,tmps,assign,body,hy,hR⟩:=AW;clear hkey hV hx hx1 henc JA
    gi_wp2_with (first | (refine YF rfl 159 _ rfl g (k*65) rfl (Value.int .i64 key :: V) _ (Ma RW.out _) Tryz.underlying159 rfl (Lx _ BC.out) ?_) | (refine YF rfl 159 _ rfl g (k*65) rfl (Value.int .i64 key :: V) _ RW.out Tryz.underlying159 rfl (Lx _ BC.out) ?_) | (refine VA rfl 159 _ _ rfl (Value.int .i64 key :: V).toArray rfl rfl ?s1 ?s2 ?s3 ?_) | (refine YF rfl 125 _ rfl wr.heap.size 1 rfl V _ R2.out Tryz.underlying125 rfl (Yk _ VR.out) ?_))
    case s1=>rw [WW,BC.out];rfl
    case s2=>rw [WW];exact Lx _ BC.out
    case s3=>exact Sn tf.out
    refine hR.mono ?_;rintro e W3 (⟨rfl,hJ3,hk3⟩ | ⟨rfl,hJx3⟩)
    · have pj:Hid (J ((Xy rs hf).take (k+1)) W3):=by show J _ _;rw [rW.out];exact hJ3
      have pi:=Z8 ((HG.out.alloc (by omega) _).trans hk3);clear hJ3 hk3 hy hR;gi_wp2
      go_roundw
      case rel=>exact ⟨k+1,by omega,by go_num,pj,pi⟩
      case measure=>simp [intOf];omega
    gi_wp2;refine ZT (TG rfl _ _ _) rfl ?_;exact ⟨⟨_,rfl⟩,.inr ⟨_,trivial,hJx3⟩⟩
  have hkn:k=rs.length:=by omega
  subst hkn;gi_wp2
  go_end0
  exact ⟨⟨_,rfl⟩,.inl ⟨_,rfl,by have:=qM.out;rw [We (by rw [tg.out];exact ZW)] at this;exact this⟩⟩
theorem all_stops (F:Fence) (n:Nat) (h97:F.fn 110) (hro:F.round=none) (hn:1≤n) (Ba M gd lo tb mb dl:Nat) (v:Value) (rs:List (Int × List Int)) (hf:∀r ∈ rs,Fits dl r)
    (w:World) (hM:M≤w.heap.size) (hBa:Ba<w.heap.size) (hvb:∀q,v.ownBlock=some q→q<M∧q≠gd) (hc:w.cell? ⟨Ba,0,none⟩=some (.pointer (some ⟨tb,0,none⟩))) (hT:U2 w lo tb mb v rs) (hlen:rs.length≤9223372036854775807) :
    SeqStopsK F n Tryz.prog 110 #[.pointer (some ⟨Ba,0,none⟩)] (encR (dl:=dl)) (KB M gd) (fun ys=>ys=Xy rs hf) (fun _=>True) rs.length w:=fun l J Jx W hW hJ _ hY h0 =>
 wj F n h97 hro hn l Ba M gd lo tb mb dl v rs hf J Jx hY W hJ (ZP hM hW.size) hvb ((hW.cell (p:=⟨Ba,0,none⟩) hBa).trans hc) (hT.below hW) hlen h0
attribute [local go_sem] Uf
theorem J4 (w:World) (va vb:Option Addr) (dl ca n cb:Nat) (Z7:List Int) (ps:List (Int × List Int)) (hd:Rd .u8 w (.slice va dl ca) Z7) (hdl:Z7.length=dl) (hp:XP w (.slice vb n cb) ps) (hl:ps.length=n)
    (hv:XY dl ps=true) (hd1:dl≤1048576) (XV:∀i,(pD ps i).length≤1048576) :
    Calls Tryz.prog 71 #[.agg #[.slice va dl ca,.slice vb n cb]] w fun e w'=>∃v1,e=.returned (.agg #[v1,.slice none 0 0])∧Own .u8 5 w' w.heap.size v1 (Nj Z7 ps (fun _=>64) n)∧ZX w w':=by
 have HD:=Z8 hd;have HP:=Z8 hp;have HL:=Z8 hl;have Uo:=Z8 hdl;have HV:=Z8 hv;have Xd:=Z8 XV;have hdp:0<dl:=by have:=((Yv dl ps).1 hv).2.1;omega
 have hn2:n≤2000:=by have:=((Yv dl ps).1 hv).2.2.2.1;omega
 have BA:Hid (∀o1 o2,ZX w ((w.alloc o1).alloc o2)):=fun o1 o2=>(ZR.alloc ZW _).alloc (by simp) _
 clear hd hp hl hdl hv XV;refine (Xq (n:=6)).1 ?_;refine callsIn_of_wp_marks Tryz.func71 rfl trivial ?_ rfl
 simp only [Tryz.ntmps71,WW,XQ,Wv,Nat.reduceAdd,Nat.reduceSub,DV,DU,Qv,Qz,TJ,Qy]
 gi_wp2_with fail
 refine ⟨trivial,?_⟩;have GI:Hid (Zm ((w.alloc (.cells #[.slice va dl ca,.slice vb n cb] 36)).alloc (.cells #[.slice none 0 0,.slice none 0 0] 36)) w.heap.size (.slice va dl ca) (.slice vb n cb)):=(Zm.new w _ _ _).below (ZR.alloc ZW _);have Ni:Hid (Zm ((w.alloc (.cells #[.slice va dl ca,.slice vb n cb] 36)).alloc (.cells #[.slice none 0 0,.slice none 0 0] 36)) (w.heap.size+1) (.slice none 0 0) (.slice none 0 0)):=by
  have:=Zm.new (w.alloc (.cells #[.slice va dl ca,.slice vb n cb] 36)) (.slice none 0 0) (.slice none 0 0) 36;show Zm _ _ _ _
  simpa using this
 have B0:=BA.out (.cells #[.slice va dl ca,.slice vb n cb] 36) (.cells #[.slice none 0 0,.slice none 0 0] 36);have HB0:=Z8 B0;clear B0 BA;generalize (w.alloc _).alloc _=w0 at *;refine (Xq.2 (UV _ va vb dl ca n cb ps (HP.out.below HB0.out) HL.out hd1 (by omega) Xd.out)).mono ?_;rintro e w1 ⟨rfl,b1⟩;rw [HV.out];have HB1:=Z8 (Ye HB0.out b1);have Ko:=Z8 (GI.out.below b1);have Nh:=Z8 (Ni.out.below b1);have s1:=HB1.out.size;have Y9:=Ko.out.1.1;have Y8:=Nh.out.1.1;clear b1 GI Ni HB0;obtain ⟨⟨z1,c0,c1⟩,-⟩:=Ko.out
 gi_wp2_with fail
 refine ⟨trivial,?_⟩;refine (Xq.2 (Qm _ _ Z7 (HD.out.below HB1.out) (by have:=Uo.out;omega))).mono ?_;rintro e w2 ⟨v2,rfl,o2,b2⟩;obtain ⟨g,cap,rfl,hg0,hg1⟩:=o2.pos Uo.out hdp;have O2:=Z8 o2;have HB2:=Z8 (HB1.out.trans (b2.mono s1));have GH:=Z8 (Ko.out.below b2);have GG:=Z8 (Nh.out.below b2);have s2:=HB2.out.size;clear o2 b2 Ko Nh HB1 z1 c0 c1;obtain ⟨⟨z1,c0,c1⟩,-⟩:=GH.out
 gi_wp2_with fail
 refine ⟨trivial,?_⟩;have Z1:Hid (ZX w2 (w2.alloc (.cells #[.slice (some ⟨g,0,none⟩) dl cap] 22))):=ZR.alloc ZW _;have Zx:Hid (Boxed (w2.alloc (.cells #[.slice (some ⟨g,0,none⟩) dl cap] 22)) w2.heap.size 22 (.slice (some ⟨g,0,none⟩) dl cap)):=Boxed.new _ _ _;have s3:(w2.alloc (.cells #[.slice (some ⟨g,0,none⟩) dl cap] 22)).heap.size=w2.heap.size+1:=by simp
 clear z1 c0 c1;generalize w2.alloc _=w3 at *;have O3:=Z8 (O2.out.below Z1.out);have HB3:=Z8 (HB2.out.trans (Z1.out.mono s2));have qK:=Z8 (GG.out.below Z1.out);clear O2 HB2 GH GG Z1;refine (Xq.2 (J8 w3 va vb dl ca n cb Z7 ps Uo.out (HP.out.below HB3.out) HL.out HV.out)).mono ?_;rintro e w4 ⟨rfl,⟨tv,rs,ht,hof⟩,b4⟩;have O4:=Z8 (O3.out.below b4);have Ng:=Z8 (HB3.out.trans (b4.mono (by omega)));have Zw:=Z8 (qK.out.below b4);have Zu:Hid (Boxed w4 w2.heap.size 22 (.slice (some ⟨g,0,none⟩) dl cap)):=(b4.block w2.heap.size (by omega)).trans Zx.out;have Zt:=Z8 ht;have Bz:=Z8 hof;have s4:=ht.box.1.1;clear b4 O3 HB3 qK Zx ht hof
 gi_wp2_with fail
 refine ⟨trivial,?_⟩;refine (all_in Fence.wide _ trivial rfl _ _).mono ?_;rintro e w5 ⟨rfl,PY⟩;have s5:w5.heap.size=w4.heap.size+1:=by rw [PY];simp
 have b5:ZX w4 w5:=by rw [PY];exact ZR.alloc ZW _
 have Zr:Hid (w5.cell? ⟨w4.heap.size,0,none⟩=some (.pointer (some ⟨w3.heap.size+2,0,none⟩))):=by rw [PY];show _=_;simp
 have O5:=Z8 (O4.out.below b5);have uK:=Z8 (Ng.out.trans (b5.mono (by omega)));have Zd:=Z8 (Zw.out.below b5);have Zb:Hid (Boxed w5 w2.heap.size 22 (.slice (some ⟨g,0,none⟩) dl cap)):=(b5.block w2.heap.size (by omega)).trans Zu.out;have xW:=Z8 (Zt.out.below b5);clear PY b5 O4 Ng Zw Zu Zt
 gi_wp2_with fail
 have hfit:=Ej dl rs (fun i hi=>by have:=Bz.out.2 i hi;rw [Uo.out] at this;exact this) xW.out.full;have hvb:∀q,tv.ownBlock=some q→q<w5.heap.size∧q≠g:=fun q hq=>by have:=ZO xW.out.rows q hq;omega
 have hrl:=xW.out.len;have hfin:lays Z7 rs=Nj Z7 ps (fun _=>64) n:=by
  have:=za Z7 ps rs (by rw [Uo.out];exact HV.out) (by rw [HL.out];exact Bz.out) xW.out.full xW.out.apart;rw [HL.out] at this;exact this
 have TT:=Z8 hfin;clear hfin;refine wpIn_rangeFunc_ownH (F:=Fence.wide) (n:=6) rfl (by omega) (gf:=110) (lb:=#[.pointer (some ⟨w4.heap.size,0,none⟩)]) rfl trivial (enters_of Tryz.func110 (by kernel_rfl) rfl)
  (all_stops Fence.wide (6 - 1) trivial rfl (by omega) w4.heap.size w5.heap.size g _ _ _ dl tv rs hfit w5 ZW (by omega) hvb Zr.out xW.out hrl)
  (fun h k=>KB.trans h k)
  (fun W l o o' hl h _ _=>⟨(grownBy_putObj' W l o').size,fun q hq _=>(grownBy_putObj' W l o').block q (by have:=(Array.getElem?_eq_some_iff.1 h).1;omega) (fun e=>by injection e with e;omega)⟩)
  ZR (fun _=>rfl)
  (fun pre W=>Boxed W w2.heap.size 22 (.slice (some ⟨g,0,none⟩) dl cap)∧Own .u8 5 W w1.heap.size (.slice (some ⟨g,0,none⟩) dl cap) (lays Z7 (pre.map (·.1)))∧Zm W (w.heap.size+1) (.slice none 0 0) (.slice none 0 0)∧ZX w W∧w5.heap.size≤W.heap.size)
  (fun _ _ _=>False)
  (fun s X Y row hs hg hr=>⟨(hg.block w2.heap.size (by have:=hs.2.2.2.2;omega) (fun e=>by have:=(hr _ e.symm).1;omega)).trans hs.1,hs.2.1.other hg (.inr (fun e=>by have:=(hr g (by rw [←e];rfl)).1;omega)),hs.2.2.1.other hg (fun e=>by have:=(hr _ e.symm).1;omega),hs.2.2.2.1.grown hg (by have:=hs.2.2.2.1.size;omega) (fun q e=>by have:=(hr q e).1;omega),ZP hs.2.2.2.2 hg.size⟩)
  (fun _ _ _ _ _ hs _ _=>hs)
  ⟨Zb.out,O5.out,Zd.out,uK.out,ZW⟩
  (fun x a' W=>∃Bx,w5.heap.size≤Bx∧W.heap[Bx]?=some (.cells (x.1.2.map (Value.int .u8)).toArray 125 (0,0))∧a'={ tmps:=#[.agg #[.slice va dl ca,.slice vb n cb],.pointer (some ⟨w.heap.size,0,none⟩),.pointer (some ⟨w.heap.size+1,0,none⟩),.pointer (some ⟨w2.heap.size,0,none⟩),.int .i64 x.1.1,.pointer (some ⟨Bx,0,none⟩),.agg #[.slice va dl ca,.slice vb n cb],.bool true,.bool false,undef,.pointer (some ⟨w.heap.size,0,none⟩),.slice va dl ca,.slice (some ⟨g,0,none⟩) dl cap,.agg #[.slice va dl ca,.slice vb n cb],.pointer (some ⟨w2.heap.size+1+2,0,none⟩),.func (.func 110) #[] #[.pointer (some ⟨w4.heap.size,0,none⟩)],.int .i64 x.1.1,.agg (x.1.2.map (Value.int .u8)).toArray,undef,undef,undef,undef,undef,undef],defers:=[] })
  (fun x a' _ X Y row hs hg hr=>by
   obtain ⟨Bx,h1,h2,h3⟩:=hs;exact ⟨Bx,h1,(hg.block Bx (Array.getElem?_eq_some_iff.1 h2).1 (fun e=>by obtain ⟨-,o,ho,hc⟩:=hr Bx e.symm;rw [h2] at ho;injection ho with ho;rw [←ho] at hc;cases hc)).trans h2,h3⟩)
  ?assign ?body ?done ?stop
 case assign =>
  rintro l pre ⟨⟨key,Vb⟩,b,hb1,hb2,QK⟩ W K hi hK;unfold encR;dsimp only at hb1 QK ⊢;subst hb1;have VR:Hid ((Vb.map (Value.int .u8)).length=64):=by show _=_;rw [Vi];exact QK
  gi_wp2_with (refine VA rfl 125 _ _ rfl (Vb.map (Value.int .u8)).toArray rfl rfl (by rw [WW,VR.out];rfl) (by rw [WW];exact Yk _ VR.out) (Sn (Wc _ _)) ?_)
  have hs:=hi.2.2.2.2;refine hK _ _ ((KeepsOthers.alloc _ _).from _) ((KB.refl _ _ W).alloc hs _) ⟨hi.1.alloc _,hi.2.1.below (ZR.alloc ZW _),hi.2.2.1.below (ZR.alloc ZW _),hi.2.2.2.1.alloc hi.2.2.2.1.size _,by simp;omega⟩ ⟨W.heap.size,hs,WJ W _,rfl⟩
 case body =>
  rintro l pre ⟨⟨key,Vb⟩,b,hb1,hb2,QK⟩ a' W hl ⟨r,hr⟩ ⟨bX,oW,xR,hB,hs⟩ ⟨Bx,hBx,hcell,rfl⟩ hlt;dsimp only at hb1 QK hcell ⊢;subst hb1;have cX:=bX.cell;have hmem:∀q ∈ pre.map (·.1),Fits dl q:=by
   intro q hq;obtain ⟨y,-,rfl⟩:=List.mem_map.1 hq;exact y.2
  have hlen:(lays Z7 (pre.map (·.1))).length=dl:=by rw [NF Z7 _ (by rw [Uo.out];exact hmem),Uo.out]
  have VR:Hid ((Vb.map (Value.int .u8)).length=64):=by show _=_;rw [Vi];exact QK
  have RG:Hid (W.rangeAt Bx 0 (Vb.map (Value.int .u8))):=by
   intro j u hu;rw [Wn,Re W Bx j _ _ _ hcell]
   simpa using hu
  gi_wp2_with (refine YF rfl 125 _ rfl Bx 0 rfl (Vb.map (Value.int .u8)) _ RG.out Tryz.underlying125 rfl (Yk _ VR.out) ?_)
  refine ⟨trivial,?_⟩;refine (CallsIn.inRound l (Xq.2 (Kc W w1.heap.size g dl cap b _ Vb oW hlen QK hb2 hd1))).mono ?_;rintro e W' ⟨rfl,o',g'⟩;have hgz:=(ZO oW g rfl).2;have Zq:Hid (lays Z7 ((pre++[(⟨((b:Int),Vb),⟨b,rfl,hb2,QK⟩⟩:J5 dl)]).map (·.1))=splice (lays Z7 (pre.map (·.1))) (b*64) Vb):=by
   show _=_;rw [WX,Pc,DQ,Qg,XT]
  gi_wp2;refine ⟨KeepsFrom.of_grownBy g' (fun j e=>by injection e with e;omega),⟨g'.size,fun q hq hn=>g'.block q (by omega) (by simpa using hn)⟩,⟨(g'.block w2.heap.size (by omega) (by simp;omega)).trans bX,?_,xR.other g' (by simp;omega),hB.grown g' (by have:=hB.size;omega) (fun q e=>by injection e with e;omega),ZP hs g'.size⟩⟩;rw [Zq.out];exact o'
 case done =>
  rintro D xs W hD rfl ⟨bX,oW,xR,hB,hs⟩ hK;rw [Vc,TT.out] at oW;have cX:=bX.cell;obtain ⟨⟨zr,d0,d1⟩,f0,f1⟩:=xR;have HO:=Z8 oW;gi_wp2;have hK2:((W.setCell ⟨w.heap.size+1,0,none⟩ (.slice (some ⟨g,0,none⟩) dl cap)).setCell ⟨w.heap.size+1,1,none⟩ (.slice none 0 0)).heap[D]?=some (.deferred (some [])):=(KeepsOthers.setCell _ _ _).same D _ ((KeepsOthers.setCell _ _ _).same D _ hK rfl) rfl;refine ⟨by simp,.inl ⟨_,_,rfl,run_takeDeferred hK2,?_⟩⟩;have x0:((W.setCell ⟨w.heap.size+1,0,none⟩ (.slice (some ⟨g,0,none⟩) dl cap)).setCell ⟨w.heap.size+1,1,none⟩ (.slice none 0 0)).cell? ⟨w.heap.size+1,0,none⟩=some (.slice (some ⟨g,0,none⟩) dl cap):=by
   rw [ZG _ _ _ _ (by simp)];exact Ys _ _ _ d0
  have x1:((W.setCell ⟨w.heap.size+1,0,none⟩ (.slice (some ⟨g,0,none⟩) dl cap)).setCell ⟨w.heap.size+1,1,none⟩ (.slice none 0 0)).cell? ⟨w.heap.size+1,1,none⟩=some (.slice none 0 0) :=
   Ys _ _ _ (by rw [ZG _ _ _ _ (by simp)];exact d1)
  have OX:Own .u8 5 ((W.setCell ⟨w.heap.size+1,0,none⟩ (.slice (some ⟨g,0,none⟩) dl cap)).setCell ⟨w.heap.size+1,1,none⟩ (.slice none 0 0)) w1.heap.size (.slice (some ⟨g,0,none⟩) dl cap) (Nj Z7 ps (fun _=>64) n) :=
   (HO.out.setAt (.inr (by simp [Value.ownBlock];omega))).setAt (.inr (by simp [Value.ownBlock];omega))
  have BX:ZX w ((W.setCell ⟨w.heap.size+1,0,none⟩ (.slice (some ⟨g,0,none⟩) dl cap)).setCell ⟨w.heap.size+1,1,none⟩ (.slice none 0 0)):=(hB.setCell (by simp) _).setCell (by simp) _;have SX:((W.setCell ⟨w.heap.size+1,0,none⟩ (.slice (some ⟨g,0,none⟩) dl cap)).setCell ⟨w.heap.size+1,1,none⟩ (.slice none 0 0)).heap.size=W.heap.size:=by simp
  generalize (W.setCell _ _).setCell _ _=X at *;have GX:=grownBy_putObj' X D (.deferred none);have y0:=(YI (w:=X) (a:=⟨w.heap.size+1,0,none⟩) (GX.block (w.heap.size+1) (by omega) (by simp;omega))).trans x0;have y1:=(YI (w:=X) (a:=⟨w.heap.size+1,1,none⟩) (GX.block (w.heap.size+1) (by omega) (by simp;omega))).trans x1;have OF:=OX.other GX (.inr (by simp [Value.ownBlock];omega));have BF:=BX.grown GX (by omega) (fun q e=>by injection e with e;omega);generalize X.putObj D (.deferred none)=Z at *;refine ⟨.agg #[.slice (some ⟨g,0,none⟩) dl cap,.slice none 0 0],?_,_,rfl,OF.mono s1,BF⟩
  simp [results,Tryz.results71,go_sem,y0,y1]
 case stop =>
  rintro D c pre W _ _ h _;exact h.elim
theorem J3 (w:World) (va vb:Option Addr) (dl ca n cb:Nat) (Z7:List Int) (ps:List (Int × List Int)) (hd:Rd .u8 w (.slice va dl ca) Z7) (hdl:Z7.length=dl) (hp:XP w (.slice vb n cb) ps) (hl:ps.length=n)
    (hv:XY dl ps=true) (hd1:dl≤1048576) (XV:∀i,(pD ps i).length≤1048576) :
    Calls Tryz.prog 27 #[.agg #[.slice va dl ca,.slice vb n cb]] w fun e w'=>∃v1,e=.returned (.agg #[v1,.slice none 0 0])∧Own .u8 5 w' w.heap.size v1 (Nj Z7 ps (fun _=>64) n)∧ZX w w':=by
 obtain ⟨i0,hi,hz0,hz1,hz2⟩:=YH Tryz.uX;have HD:=Z8 hd;have HP:=Z8 hp;have HL:=Z8 hl;have Uo:=Z8 hdl;have HV:=Z8 hv;have Xd:=Z8 XV;have hn2:n≤2000:=by have:=((Yv dl ps).1 hv).2.2.2.1;omega
 have BA:Hid (∀o1 o2,ZX w ((w.alloc o1).alloc o2)):=fun o1 o2=>(ZR.alloc ZW _).alloc (by simp) _
 go_enter Tryz.func27,Tryz.ntmps27
 go_wp2_with fail
 have GI:Hid (Zm ((w.alloc (.cells #[.slice va dl ca,.slice vb n cb] 36)).alloc (.cells #[.slice none 0 0,.slice none 0 0] 36)) w.heap.size (.slice va dl ca) (.slice vb n cb)):=(Zm.new w _ _ _).below (ZR.alloc ZW _);have Ni:Hid (Zm ((w.alloc (.cells #[.slice va dl ca,.slice vb n cb] 36)).alloc (.cells #[.slice none 0 0,.slice none 0 0] 36)) (w.heap.size+1) (.slice none 0 0) (.slice none 0 0)):=by
  have:=Zm.new (w.alloc (.cells #[.slice va dl ca,.slice vb n cb] 36)) (.slice none 0 0) (.slice none 0 0) 36;show Zm _ _ _ _
  simpa using this
 have B0:=BA.out (.cells #[.slice va dl ca,.slice vb n cb] 36) (.cells #[.slice none 0 0,.slice none 0 0] 36);have HB0:=Z8 B0;generalize (w.alloc _).alloc _=w0 at *;refine (XG _ va vb dl ca n cb ps (HP.out.below HB0.out) HL.out hd1 (by omega) Xd.out).mono ?_;rintro e w1 ⟨rfl,b1⟩;rw [HV.out];have HB1:=Z8 (Ye HB0.out b1);have Ko:=Z8 (GI.out.below b1);have Nh:=Z8 (Ni.out.below b1);have s1:=HB1.out.size;have zA:=Ko.out.1.1;have zR:=Nh.out.1.1;go_wp2
 go_loopw [3,4] (fun v i wr=>∃k:Nat,k≤n∧i=.int .i64 k∧wr.ownsRow w1.heap.size 2 1 v k ((List.replicate k (64:Int)).map (Value.int .i64))∧ZX w1 wr) (fun _ i _=>n - (intOf i).toNat)
 case atStart=>exact ⟨0,ZQ _,rfl,Xb w1 #[] 0 ZW (ZQ _) rfl,ZR.alloc ZW _⟩
 case round =>
  obtain ⟨k,hk,rfl,ho,hg⟩:=hrel;obtain ⟨⟨z2,c0,c1⟩,-⟩:=Ko.out.ZL hg zA;have BW:=Z8 (HB1.out.trans (hg.mono s1))
  by_cases hlt:k<n
  · have YN:(k:Int)<(n:Int):=by omega
    go_wp2_with (at_builtin;go_must (refine XS _ rfl _ _ 112 rfl w1.heap.size 2 i0 (.int .i64 0) 1 8 Tryz.underlying112 hi hz0 hz1 hz2 rfl (by decide) _ _ _ rfl (ho.alloc _) ⟨wr.heap.size,0,none⟩ 1 1 [.int .i64 64] rfl rfl (Vy _ _ _) (by intro u hu;simp at hu;subst hu;rfl) ?c3 ?c4 ?c5 ?_))
    case c3=>unfold maxLen;omega
    case c4=>omega
    case c5=>have:=hg.size;simp;omega
    intro v2 w2 ho2 hg2 _;have Sv:Hid (w2.ownsRow w1.heap.size 2 1 v2 (k+1) ((List.replicate (k+1) (64:Int)).map (Value.int .i64))):=by
     show World.ownsRow _ _ _ _ _ _ _;rw [show List.replicate (k+1) (64:Int)=List.replicate k 64++[64] from um,WX,xG];exact ho2
    have HG2:=Z8 ((hg.alloc hg.size _).grown hg2 (by have:=hg.size;simp;omega) (fun q hq=>(ho.lt q hq).1));go_wp2
    go_roundw
    case rel=>exact ⟨k+1,by omega,by go_num,Sv.out,HG2.out⟩
    case measure=>simp [intOf];omega
  have hkn:k=n:=by omega
  subst hkn;have qJ:=Z8 (Nh.out.ZL hg zR);have OS:=Z8 (WI (ys:=List.replicate k (64:Int)) (by simp) rfl ho);obtain ⟨sa,sc,rfl,-⟩:=OS.out.rd.len;have hsl:(List.replicate k (64:Int)).length=k:=by simp
  rw [hsl] at OS ⊢
  go_wp2_with fail
  refine (Kq _ va vb sa dl ca k cb sc Z7 ps (List.replicate k (64:Int)) (fun _=>64) (HD.out.below BW.out) Uo.out (HP.out.below BW.out) HL.out OS.out.rd (by simp) (fun i hi=>⟨by simp [List.getD,hi],ZW⟩) HV.out hd1).mono ?_;rintro e w3 ⟨v3,rfl,o3,b3⟩;obtain ⟨a3,c3,rfl⟩:=o3.slice;have O3:=Z8 o3;have B3:=Z8 (Ye BW.out b3);obtain ⟨⟨z5,d0,d1⟩,f0,f1⟩:=qJ.out.below b3;have zr:=qJ.out.1.1;go_wp2;refine ZT (v:=.agg #[.slice a3 (Nj Z7 ps (fun _=>64) k).length c3,.slice none 0 0]) (by simp [results,Tryz.results27,go_sem,d0,d1]) rfl ⟨_,rfl,?_,?_⟩
  · refine Own.mono (base:=wr.heap.size) ?_ (by have:=BW.out.size;omega)
    repeat (first | exact O3.out | refine Own.setAt ?_ (O3.out.none_or (by omega)))
  repeat (first | exact B3.out | refine Zf ?_ (by simp;try omega) _)
theorem Ib (w:World) (va vb:Option Addr) (dl ca n cb:Nat) (ps:List (Int × List Int)) (hp:XP w (.slice vb n cb) ps) (hl:ps.length=n)
    (hno:XY dl ps=false) (hn:n≤1048576) (hd1:dl≤1048576) (XV:∀i,(pD ps i).length≤1048576) :
    Calls Tryz.prog 71 #[.agg #[.slice va dl ca,.slice vb n cb]] w (Ze w (.agg #[.slice none 0 0,.slice none 0 0])):=by
 have HP:=Z8 hp;have HL:=Z8 hl;have Xd:=Z8 XV;have BA:Hid (∀o1 o2,ZX w ((w.alloc o1).alloc o2)):=fun o1 o2=>(ZR.alloc ZW _).alloc (by simp) _
 clear hp hl XV
 go_enter Tryz.func71,Tryz.ntmps71
 go_wp2_with fail
 have Ni:Hid (Zm ((w.alloc (.cells #[.slice va dl ca,.slice vb n cb] 36)).alloc (.cells #[.slice none 0 0,.slice none 0 0] 36)) (w.heap.size+1) (.slice none 0 0) (.slice none 0 0)):=by
  have:=Zm.new (w.alloc (.cells #[.slice va dl ca,.slice vb n cb] 36)) (.slice none 0 0) (.slice none 0 0) 36;show Zm _ _ _ _
  simpa using this
 have B0:=BA.out (.cells #[.slice va dl ca,.slice vb n cb] 36) (.cells #[.slice none 0 0,.slice none 0 0] 36);have HB0:=Z8 B0;clear B0 BA;generalize (w.alloc _).alloc _=w0 at *;refine (UV _ va vb dl ca n cb ps (HP.out.below HB0.out) HL.out hd1 hn Xd.out).mono ?_;rintro e w1 ⟨rfl,b1⟩;have HB1:=Z8 (Ye HB0.out b1);have Nh:=Z8 (Ni.out.below b1);clear b1 Ni HB0;obtain ⟨⟨zr,d0,d1⟩,f0,f1⟩:=Nh.out;rw [hno];clear hno;go_wp2;refine ZT (v:=.agg #[.slice none 0 0,.slice none 0 0]) (by simp [results,Tryz.results71,go_sem,d0,d1]) rfl ⟨rfl,?_⟩
 repeat (first | exact HB1.out | refine Zf ?_ (by simp;try omega) _)
theorem QG (w:World) (v1 v2:Value) (Z7:List Int) (ps:List (Int × List Int)) (hd:Rd .u8 w v1 Z7) (hp:XP w v2 ps) (hdl:Z7.length≤1048576) (hn:ps.length≤1048576) (XV:∀i,(pD ps i).length≤1048576) :
    Calls Tryz.prog 71 #[.agg #[v1,v2]] w fun e w'=>∃u,e=.returned (.agg #[u,.slice none 0 0])∧Own .u8 5 w' w.heap.size u (ZC Z7 ps)∧ZX w w':=by
 obtain ⟨va,ca,rfl,-⟩:=hd.len;obtain ⟨vb,cb,rfl,-⟩:=id hp;unfold ZC
 cases h:XY Z7.length ps with
 | true =>
  simp only [Rb]
  exact J4 w va vb Z7.length ca ps.length cb Z7 ps hd rfl hp rfl h hdl XV
 | false =>
  simp only [Pe,Sm]
  refine (Ib w va vb Z7.length ca ps.length cb ps hp rfl h hn hdl XV).mono ?_;rintro e w' ⟨rfl,b⟩;exact ⟨_,rfl,Yf _ _ _ _,b⟩
theorem Ia (w:World) (va vb:Option Addr) (dl ca n cb:Nat) (ps:List (Int × List Int)) (hp:XP w (.slice vb n cb) ps) (hl:ps.length=n)
    (hno:XY dl ps=false) (hn:n≤1048576) (hd1:dl≤1048576) (XV:∀i,(pD ps i).length≤1048576) :
    Calls Tryz.prog 27 #[.agg #[.slice va dl ca,.slice vb n cb]] w (Ze w (.agg #[.slice none 0 0,.slice none 0 0])):=by
 have HP:=Z8 hp;have HL:=Z8 hl;have Xd:=Z8 XV;have BA:Hid (∀o1 o2,ZX w ((w.alloc o1).alloc o2)):=fun o1 o2=>(ZR.alloc ZW _).alloc (by simp) _
 clear hp hl XV
 go_enter Tryz.func27,Tryz.ntmps27
 go_wp2_with fail
 have Ni:Hid (Zm ((w.alloc (.cells #[.slice va dl ca,.slice vb n cb] 36)).alloc (.cells #[.slice none 0 0,.slice none 0 0] 36)) (w.heap.size+1) (.slice none 0 0) (.slice none 0 0)):=by
  have:=Zm.new (w.alloc (.cells #[.slice va dl ca,.slice vb n cb] 36)) (.slice none 0 0) (.slice none 0 0) 36;show Zm _ _ _ _
  simpa using this
 have B0:=BA.out (.cells #[.slice va dl ca,.slice vb n cb] 36) (.cells #[.slice none 0 0,.slice none 0 0] 36);have HB0:=Z8 B0;clear B0 BA;generalize (w.alloc _).alloc _=w0 at *;refine (XG _ va vb dl ca n cb ps (HP.out.below HB0.out) HL.out hd1 hn Xd.out).mono ?_;rintro e w1 ⟨rfl,b1⟩;have HB1:=Z8 (Ye HB0.out b1);have Nh:=Z8 (Ni.out.below b1);clear b1 Ni HB0;obtain ⟨⟨zr,d0,d1⟩,f0,f1⟩:=Nh.out;rw [hno];clear hno;go_wp2;refine ZT (v:=.agg #[.slice none 0 0,.slice none 0 0]) (by simp [results,Tryz.results27,go_sem,d0,d1]) rfl ⟨rfl,?_⟩
 repeat (first | exact HB1.out | refine Zf ?_ (by simp;try omega) _)
theorem J2 (w:World) (v1 v2:Value) (Z7:List Int) (ps:List (Int × List Int)) (hd:Rd .u8 w v1 Z7) (hp:XP w v2 ps) (hdl:Z7.length≤1048576) (hn:ps.length≤1048576) (XV:∀i,(pD ps i).length≤1048576) :
    Calls Tryz.prog 27 #[.agg #[v1,v2]] w fun e w'=>∃u,e=.returned (.agg #[u,.slice none 0 0])∧Own .u8 5 w' w.heap.size u (ZC Z7 ps)∧ZX w w':=by
 obtain ⟨va,ca,rfl,-⟩:=hd.len;obtain ⟨vb,cb,rfl,-⟩:=id hp;unfold ZC
 cases h:XY Z7.length ps with
 | true =>
  simp only [Rb]
  exact J3 w va vb Z7.length ca ps.length cb Z7 ps hd rfl hp rfl h hdl XV
 | false =>
  simp only [Pe,Sm]
  refine (Ia w va vb Z7.length ca ps.length cb ps hp rfl h hn hdl XV).mono ?_;rintro e w' ⟨rfl,b⟩;exact ⟨_,rfl,Yf _ _ _ _,b⟩
def Xh (S L:Int):Bool:=decide (1≤S∧S≤64) && decide (1≤L∧L≤64)
def WR (S L:Int) (dl:Nat) (ps:List (Int × List Int)):Bool:=Xh S L && (XY dl ps && decide (((dl / 64:Nat):Int)=2+2*(S+L)))
def YM (S L ZN:Int) (log:Bool):Int:=2+ZN*(S+L)+if log then S else 0
def Rx (S L:Int) (log:Bool):Int:=if log then L else S
def Qf (S L:Int) (dl:Nat) (ps:List (Int × List Int)) (ZN:Int):Bool:=WR S L dl ps && decide (0≤ZN∧ZN≤1)
def YR (D:List Int) (f l:Nat):List Int:=(D.drop (f*64)).take (l*64)
def Yo (Z7:List Int) (ps:List (Int × List Int)) (S L ZN:Int) (log:Bool):List Int :=
 if Qf S L Z7.length ps ZN then YR (ZC Z7 ps) (YM S L ZN log).toNat (Rx S L log).toNat else []
theorem Zs (S L:Int):Xh S L=true↔(1≤S∧S≤64)∧1≤L∧L≤64:=by unfold Xh;simp only [Yg,Zg]
theorem XU (S L:Int) (dl:Nat) (ps:List (Int × List Int)):WR S L dl ps=true↔Xh S L=true∧XY dl ps=true∧((dl / 64:Nat):Int)=2+2*(S+L):=by
 unfold WR;simp only [Yg,Zg]
theorem H9 (D:List Int) (f i:Nat):YR D f (i+1)=YR D f i++blk D (f+i):=by
 unfold YR blk;rw [show (i+1)*64=i*64+64 by omega,show (f+i)*64=f*64+i*64 by omega,List.take_add,US]
theorem yY (D:List Int) (f:Nat):YR D f 0=[]:=by unfold YR;simp
theorem VF (h:XY Z7.length ps=true):(ZC Z7 ps).length=Z7.length:=by
 unfold ZC;rw [ZY h];exact SP _ _ _ h _ ZW
theorem VE (D:List Int) (f l:Nat) (h:(f+l)*64≤D.length):(YR D f l).length=l*64:=by
 unfold YR;rw [YC,Zv];omega
theorem Ei (hv:XY Z7.length ps=true) (hb:b<Z7.length / 64):qd Z7 ps (b:Int)=blk (ZC Z7 ps) b:=by
 unfold qd FM ZC;have hb':((b:Int))<((Z7.length / 64:Nat):Int):=by omega
 rw [ZY (by simp only [hv,Bq,Zg];exact ⟨by omega,hb'⟩),ZY hv,XT];exact (J6 Z7 ps hv b _ ZW).symm
end Go.Proofs.YtmmmffcbfepghaaGreatDoor


