import Derived.Test.YtpmjnbmkippaiaaGreatDoorJ17
import Derived.Lib.SlBytesConst
import Derived.Deep.DeepHandedRow
import Derived.ShutString
import Derived.ChangeOld
import Derived.ChangeMaps5
set_option maxRecDepth 100000
set_option maxHeartbeats 16000000
set_option linter.unusedVariables false
set_option linter.unusedSimpArgs false
namespace Go.Proofs.YtpmjnbmkippaiaaGreatDoor
section
open Go.RowKit Go.Conc
theorem rD.later {m:Int} {te:TypeId} {pe:Value} {w W:World} (h:rD m te pe w) (hb:ZX w W):rD m te pe W :=
 ⟨h.tc.below (YJ w _ (h.tc 0 (by omega))) hb,Vi h.qu hb,(hb.cell (YJ w _ h.er)).trans h.er,h.pl.later hb,h.fm.later hb⟩
theorem jf {m:Int} {te:TypeId} {pe:Value} {κ:Sc} {w W:World} (h:rD m te pe w) (hb:ZX w W) (hs:w.heap.size≤κ.sB):Gl m te pe κ W:=fun W2 hg=>h.later (hb.trans (hg.low hs hb.size))
structure je (w:World) (κ:Sc) (Bs S L:Nat):Prop where
 ln:Ag κ S L
 lt:κ.sB<Bs∧κ.mB<Bs∧κ.c<Bs∧κ.lb<Bs
 wb:w.heap.size≤κ.sB
structure My (w:World) (κ:Sc) (Bs S L n k:Nat) (xs:List Int) (va:Value) (X:List Nat) (W:World):Prop where
 sv:∃ σ,Rk S L n k σ∧Sv { κ with X:=X } σ W
 xa:Bs+1 ∈ X
 xi:Bs+2 ∈ X
 xv:∀g,va.ownBlock=some g→g ∈ X
 bx:Boxed W (Bs+1) 22 va
 bi:∃v,Boxed W (Bs+2) 22 v
 ow:Own .u8 5 W (Bs+3) va xs
 sb:Boxed W Bs 34 (.pointer (some ⟨κ.sB,0,none⟩))
 low:ZX w W
 sz:Bs+3≤W.heap.size
def mn (w:World) (κ:Sc) (Bs S L n k:Nat) (W:World):Prop:=∃va X,(k=0→va.ownBlock=none)∧My w κ Bs S L n k (Zv (PR S L n k)) va X W
section
variable {w:World} {κ:Sc} {Bs S L n k:Nat} {xs:List Int} {va:Value} {X:List Nat} {W W':World}
theorem My.below (h:My w κ Bs S L n k xs va X W) (hb:ZX W W'):My w κ Bs S L n k xs va X W':=by
 obtain ⟨σ,r,v⟩:=h.sv;obtain ⟨vi,bi⟩:=h.bi;exact ⟨⟨σ,r,v.below hb⟩,h.xa,h.xi,h.xv,(hb.block _ h.bx.lt).trans h.bx,⟨vi,(hb.block _ bi.lt).trans bi⟩,h.ow.below hb,(hb.block _ h.sb.lt).trans h.sb,h.low.trans (hb.mono h.low.size),ZF h.sz hb.size⟩
theorem mn.below (h:mn w κ Bs S L n k W) (hb:ZX W W'):mn w κ Bs S L n k W':=let ⟨va,X,h0,h⟩:=h;⟨va,X,h0,h.below hb⟩
theorem My.Yj (hf:je w κ Bs S L) {row:Option Nat} (h:My w κ Bs S L n k xs va X W) (hg:W.grownBy W' row) (hr:∀r,row=some r→Bs+3≤r∧∃o:Obj,W.heap[r]?=some o∧o.isCells=false):My w κ Bs S L n k xs va X W':=by
 obtain ⟨σ,r,v⟩:=h.sv;have hlt:=hf.lt;have hz:=hf.wb;refine ⟨⟨σ,r,v.Yj hg (fun r e=>⟨by show r≠κ.c;have:=(hr r e).1;omega,(hr r e).2⟩)⟩,h.xa,h.xi,h.xv,h.bx.kept hg (fun e=>by have:=(hr _ e.symm).1;omega),(let ⟨vi,bi⟩:=h.bi;⟨vi,bi.kept hg (fun e=>by have:=(hr _ e.symm).1;omega)⟩),Yn h.ow hg (fun r e=>(hr r e).2),h.sb.kept hg (fun e=>by have:=(hr _ e.symm).1;omega),h.low.grown hg h.low.size (fun q e=>by have:=(hr q e).1;omega),ZF h.sz hg.size⟩
theorem My.jd (hf:je w κ Bs S L) (h:My w κ Bs S L n k xs va X W) (x:Value):My w κ Bs S L n k xs va X (W.setCell ⟨Bs+2,0,none⟩ x):=by
 obtain ⟨σ,r,v⟩:=h.sv;have hlt:=hf.lt;have hz:=hf.wb;have hg:=kK W (Bs+2) 0 x;exact ⟨⟨σ,r,v.other h.xi hg⟩,h.xa,h.xi,h.xv,h.bx.kept hg (by simp),(let ⟨vi,bi⟩:=h.bi;⟨x,bi.set x⟩),Own.Yk h.ow (show Bs+2<Bs+3 by omega) x,h.sb.kept hg (by simp),h.low.setCell (by show w.heap.size≤Bs+2;omega) x,by simpa using h.sz⟩
theorem My.line (hf:je w κ Bs S L) (h:My w κ Bs S L n k xs va X W) (hx:va.ownBlock=none∨4≤xs.length) (hg:Gw { κ with X:=X } W W') (hs:∃ σ,Rk S L n (k+1) σ∧Sv { κ with X:=X } σ W') :
    My w κ Bs S L n (k+1) xs va X W'∧KeepsFrom (Bs+3) W W'∧W'.heap[Bs+2]?=W.heap[Bs+2]?:=by
 have hlt:=hf.lt;have hsz:=h.sz;have blk:∀q,Bs≤q→q<W.heap.size→W.cell? ⟨q,3,none⟩≠some (.slice none 0 0)→W.cell? ⟨q,1,none⟩≠some (.slice none 0 0)→W'.heap[q]?=W.heap[q]?:=fun q h1 h2 h3 h4=>hg.block q h2 (by show q≠κ.sB;omega) (by show q≠κ.mB;omega) (by show q≠κ.c;omega) (by show q≠κ.lb;omega) (fun _=>h3) (fun _=>h4)
 have box:∀ {q t v},Bs≤q→Boxed W q t v→W'.heap[q]?=W.heap[q]?:=fun {q t v} h1 hb=>blk q h1 hb.lt (by simp [World.cell?,show W.heap[q]?=_ from hb]) (by simp [World.cell?,show W.heap[q]?=_ from hb])
 obtain ⟨vi,bi⟩:=h.bi;have ei:=box (by omega) bi;refine ⟨⟨hs,h.xa,h.xi,h.xv,(box (by omega) h.bx).trans h.bx,⟨vi,ei.trans bi⟩,?_,(box ZT h.sb).trans h.sb,h.low.trans (hg.low hf.wb h.low.size),ZF hsz hg.size⟩,⟨hg.size,fun q o hq ho hc=>?_⟩,ei⟩
 · have h9:=h.ow
   refine ⟨h9.1,h9.2.imp id ?_⟩;rintro ⟨g,cap,cur,rfl,e1,e2,e3⟩;refine ⟨g,cap,cur,rfl,e1,?_,e3⟩
   rcases hx with hx | hx
   · simp [Value.ownBlock] at hx
   obtain ⟨ao,cp,e,-,-,r3⟩:=h9.rd
   rcases r3 with r3 | ⟨b,off,eb,hb,hc⟩
   · rw [r3] at hx;simp at hx
   simp only [Y4] at e
   rw [eb] at e
   simp only [Zo,JD,TJ] at e
   obtain ⟨⟨rfl,rfl⟩,-,-⟩:=e;have c3:=hc 3 (by omega);have c1:=hc 1 (by omega);rw [YK] at c3 c1;exact (blk g (by omega) hb (by rw [c3];simp) (by rw [c1];simp)).trans e2
 have hl:=(Yh.1 ho).1;have nc:∀j,W.cell? ⟨q,j,none⟩=none:=fun j=>by
  unfold World.cell?;rw [ho]
  cases o <;> first | rfl | (cases hc)
 exact (blk q (by omega) hl (by rw [nc];simp) (by rw [nc];simp)).trans ho
theorem My.app (hf:je w κ Bs S L) (h:My w κ Bs S L n k xs va X W) {ys:List Int} {v2:Value} {W2:World} (ho:Own .u8 5 W2 (Bs+3) v2 ys)
    (hc:(v2.ownBlock=va.ownBlock∧W.grownBy W2 va.ownBlock)∨(ZX W W2∧∀g,v2.ownBlock=some g→W.heap.size≤g)) :
    ∃X',My w κ Bs S L n k ys v2 X' (W2.setCell ⟨Bs+1,0,none⟩ v2)∧KeepsFrom (Bs+3) W (W2.setCell ⟨Bs+1,0,none⟩ v2)∧(W2.setCell ⟨Bs+1,0,none⟩ v2).heap[Bs+2]?=W.heap[Bs+2]?∧W2.cell? ⟨Bs+1,0,none⟩=some va∧W2.frozen? ⟨Bs+1,0,none⟩=false:=by
 have hlt:=hf.lt;have hz:=hf.wb;have hsz:=h.sz;obtain ⟨vi,bi⟩:=h.bi;obtain ⟨σ,r,v⟩:=h.sv;have hne:=r.ne;have main:∀X',(∃ σ,Rk S L n k σ∧Sv { κ with X:=X' } σ W2)→Bs+1 ∈ X'→Bs+2 ∈ X'→(∀g,v2.ownBlock=some g→g ∈ X')→(∀q,q<Bs+3→W2.heap[q]?=W.heap[q]?)→ZX w W2→KeepsFrom (Bs+3) W W2→W.heap.size≤W2.heap.size →
     ∃X',My w κ Bs S L n k ys v2 X' (W2.setCell ⟨Bs+1,0,none⟩ v2)∧KeepsFrom (Bs+3) W (W2.setCell ⟨Bs+1,0,none⟩ v2)∧(W2.setCell ⟨Bs+1,0,none⟩ v2).heap[Bs+2]?=W.heap[Bs+2]?∧W2.cell? ⟨Bs+1,0,none⟩=some va∧W2.frozen? ⟨Bs+1,0,none⟩=false:=by
  intro X' hs a1 a2 a3 a4 a5 a6 a7;obtain ⟨σ',r',v'⟩:=hs;have hg:=kK W2 (Bs+1) 0 v2;have b2:Boxed W2 (Bs+1) 22 va:=(a4 _ (by omega)).trans h.bx;have i2:Boxed W2 (Bs+2) 22 vi:=(a4 _ (by omega)).trans bi;have s2:Boxed W2 Bs 34 (.pointer (some ⟨κ.sB,0,none⟩)):=(a4 _ (by omega)).trans h.sb;exact ⟨X',⟨⟨σ',r',v'.other a1 hg⟩,a1,a2,a3,b2.set _,⟨vi,i2.kept hg (by simp)⟩,Own.Yk ho (show Bs+1<Bs+3 by omega) v2,s2.kept hg (by simp),a5.setCell (by show w.heap.size≤Bs+1;omega) v2,by simp;omega⟩,a6.trans ((KeepsOthers.setCell _ _ _).from _),((i2.kept hg (by simp)).trans bi.symm),b2.cell,b2.frozen⟩
 rcases hc with ⟨e,hg⟩ | ⟨hb,hfr⟩
 · cases ev:va.ownBlock with
   | none =>
    rw [ev] at hg;have hb:ZX W W2:=⟨hg.os,hg.tape,hg.output,hg.size,fun q hq=>hg.block q hq (by simp)⟩;exact main X ⟨σ,r,v.below hb⟩ h.xa h.xi (fun g eg=>by rw [e,ev] at eg;cases eg) (fun q hq=>hb.block q (by omega)) (h.low.trans (hb.mono h.low.size)) (XZ hb) hb.size
   | some g =>
    have hge:=(ZD h.ow g ev).1;rw [ev] at hg;exact main X ⟨σ,r,v.other (h.xv g ev) hg⟩ h.xa h.xi (fun q eq=>h.xv q (by rw [←e];exact eq)) (fun q hq=>hg.block q (by omega) (fun e9=>by injection e9 with e9;omega)) (h.low.grown hg h.low.size (fun q e9=>by injection e9 with e9;omega)) (Cg h.ow (by rw [ev];exact hg)) hg.size
 cases ev:v2.ownBlock with
 | none=>exact main X ⟨σ,r,v.below hb⟩ h.xa h.xi (fun g eg=>by rw [ev] at eg;cases eg) (fun q hq=>hb.block q (by omega)) (h.low.trans (hb.mono h.low.size)) (XZ hb) hb.size
 | some g =>
  have h1:=hfr g ev;have h2:=(ZD ho g ev).2;have v9:Sv { κ with X:=g :: X } σ W2:=v.boxed hb h1 h2 hne.1 hne.2;exact main (g :: X) ⟨σ,r,v9⟩ (Yl _ h.xa) (Yl _ h.xi) (fun q eq=>by rw [ev] at eq;injection eq with eq;rw [←eq];exact Wk ..) (fun q hq=>hb.block q (by omega)) (h.low.trans (hb.mono h.low.size)) (XZ hb) hb.size
theorem AA (s:ByteArray) (B O:Nat):Lib.bytesTrimSuffix B O (s.size+1) (s.size+1) (XS s++[10]) [10]=.slice (some ⟨B,O,none⟩) s.size (s.size+1):=by
 have h:Lib.hasSuffix (Lib.bytesOf (XS s++[10])) (Lib.bytesOf [10])=true:=by
  unfold Lib.hasSuffix;rw [List.isSuffixOf_iff_suffix];unfold Lib.bytesOf;rw [Wn];exact List.suffix_append _ _
 unfold Lib.bytesTrimSuffix;rw [ZZ h]
 rfl
end
end
section
open Go.RowKit Go.Shelf
theorem jc {α β:Type}:∀ {l:List (α × β)},(l.map Prod.fst).Nodup→∀ {k:α} {v u:β},(k,v) ∈ l→(k,u) ∈ l→u=v
 | [],_,_,_,_,h,_=>by cases h
 | (a,b) :: l,hn,k,v,u,h1,h2=>by
  rw [TM,List.nodup_cons] at hn;have hx:∀x,(k,x) ∈ l→k≠a:=fun x hx e=>hn.1 (by rw [←e];exact List.mem_map.2 ⟨_,hx,rfl⟩)
  rcases Yz.1 h1 with e1 | m1
  · rcases Yz.1 h2 with e2 | m2
    · rw [(PL e1).2,(PL e2).2]
    exact absurd (PL e1).1 (hx _ m2)
  rcases Yz.1 h2 with e2 | m2
  · exact absurd (PL e2).1 (hx _ m1)
  exact jc hn.2 m1 m2
theorem uX (B:Nat):((uw B).map Prod.fst).Nodup:=by
 unfold uw
 simp only [TM,MV]
 decide +kernel
def five (f:ByteArray):Prop:=(f.toList == [99,114,101,97,116,101])=true∨(f.toList == [115,101,116])=true∨(f.toList == [102,108,117,115,104])=true∨(f.toList == [115,110,97,112])=true∨(f.toList == [115,116,101,112])=true
def dR (W:World) (s:Value) (l:Ln) (v:Value):Prop :=
 (v=.func (.func 59) #[] #[]∧Calls Tryz.prog 59 #[s] W fun e w'=>mZ W l e w') ∨
 (∃k,v=.func (.func 103) #[] #[.pointer (some ⟨k,0,none⟩)]∧Calls Tryz.prog 103 #[s,.pointer (some ⟨k,0,none⟩)] W fun e w'=>mZ W l e w') ∨
 (∃f k,v=.func (.func 105) #[] #[.pointer (some ⟨f,0,none⟩),.pointer (some ⟨k,0,none⟩)]∧Calls Tryz.prog 105 #[s,.pointer (some ⟨f,0,none⟩),.pointer (some ⟨k,0,none⟩)] W fun e w'=>mZ W l e w')
theorem Az (w W:World) (N g c:Nat) (L:List ByteArray) (hp:PS w W N (uw w.heap.size) (mY w.heap.size)) (hL:0<L.length) (hL1:L.length≤1048577) (qv:L.length≤c) (hc:c≤maxLen) (hcl:∀i,i<L.length→W.cell? ⟨g,i,none⟩=some (.string (ZE L i))) (hgb:g<W.heap.size) (hsz:m9 L) {m:Int} {te:TypeId} {pe:Value} (hg:AR W m te pe) (hf:ux W) (h5:five (ZE L 0)) :
    ∃v,(Instr.lookup 75 (.map (some w.heap.size)) (.string (ZE L 0)) true).run Tryz.prog W=.ok (.tuple #[v,.bool true]) W∧dR W (.slice (some ⟨g,0,none⟩) L.length c) (AN L) v:=by
 have hR:uz W (.slice (some ⟨g,0,none⟩) L.length c) L:=⟨_,c,rfl,qv,hc,.inr ⟨g,0,rfl,hgb,fun i hi=>by rw [YK];exact hcl i hi⟩⟩;have hop:∀V,ZX W V→Calls Tryz.prog 101 #[.slice (some ⟨g,0,none⟩) L.length c] V fun e w'=>ME V L e w':=fun V hV=>GI V _ L (hR.below hV) hsz (hg.later hV) (hf.later hV)
 have hcx:∀p ∈ mY w.heap.size,w.heap.size<p.1∧p.1<N∧W.cell? ⟨p.1,0,none⟩=some p.2:=hp.c;have hN:=hp.z;have hit:∀ {l:List UInt8} {v:Value},((ZE L 0).toList == l)=true→(Xv l,v) ∈ uw w.heap.size→(Instr.lookup 75 (.map (some w.heap.size)) (.string (ZE L 0)) true).run Tryz.prog W=.ok (.tuple #[v,.bool true]) W:=fun {l v} q hm=>by
  rw [jO q];exact hp.m.hit (P:=Tryz.prog) Tryz.underlying75 Tryz.underlying9 hm (fun v9 h9=>jc (uX _) hm h9)
 have k2:=hcx (w.heap.size+1,.int .i64 2) (by simp [mY]);have k6:=hcx (w.heap.size+5,.int .i64 6) (by simp [mY])
 rcases h5 with q | q | q | q | q
 · exact ⟨.func (.func 59) #[] #[],hit q (by simp [uw,Xv]),.inl ⟨rfl,Ls W _ c L hop _ (Ni q)⟩⟩
 · exact ⟨.func (.func 59) #[] #[],hit q (by simp [uw,Xv]),.inl ⟨rfl,Ls W _ c L hop _ (Db q)⟩⟩
 · exact ⟨.func (.func 103) #[] #[.pointer (some ⟨w.heap.size+1,0,none⟩)],hit q (by simp [uw,Xv]),.inr (.inl ⟨_,rfl,Lu W _ _ c (w.heap.size+1) 2 k2.2.2 (by rw [hN];exact k2.2.1) _ (Lt q)⟩)⟩
 · exact ⟨.func (.func 103) #[] #[.pointer (some ⟨w.heap.size+5,0,none⟩)],hit q (by simp [uw,Xv]),.inr (.inl ⟨_,rfl,Lu W _ _ c (w.heap.size+5) 6 k6.2.2 (by rw [hN];exact k6.2.1) _ (GL q)⟩)⟩
 exact ⟨.func (.func 105) #[] #[.pointer (some ⟨w.heap.size+7,0,none⟩),.pointer (some ⟨w.heap.size+6,0,none⟩)],hit q (by simp [uw,Xv]),.inr (.inr ⟨_,_,rfl,Ka W g c (w.heap.size+6) (w.heap.size+7) L 7 (hcx (w.heap.size+6,.int .i64 7) (by simp [mY])).2.2 (hcx (w.heap.size+7,.func (.func 64) #[] #[]) (by simp [mY])).2.2 hL hL1 qv hc hR hsz hg _ (GK q)⟩)⟩
theorem Mx (w:World) (v:Value) (b:ByteArray) (h:Rd .u8 w v (bI b)) (hs:b.size≤1048576) {m:Int} {te:TypeId} {pe:Value} (hg:AR w m te pe) (hf:ux w) (hbig:¬60000<b.size) (hall:(Xw b).all YG=true) (h5:five (ZE (Xw b) 0)) :
    Calls Tryz.prog 12 #[v] w fun e w'=>mZ w (Xf b) e w':=by
 have hA:ZX w (w.alloc (.cells #[.int .i64 0,.slice none 0 0,.bool false,.string ⟨#[]⟩,.slice none 0 0] 43)):=ZJ.alloc ZT _;have BA:=Z3 hA;have X:=Z3 (St.new w #[.int .i64 0,.slice none 0 0,.bool false,.string ⟨#[]⟩,.slice none 0 0] 43);have hcv:=WS (h.below hA);rw [GF] at hcv;have s1:(w.alloc (.cells #[.int .i64 0,.slice none 0 0,.bool false,.string ⟨#[]⟩,.slice none 0 0] 43)).heap.size=w.heap.size+1:=by simp
 have HG:=Z3 (hg.later hA);have HF:=Z3 (hf.later hA);have HS:=Z3 (AJ (w.alloc (.cells #[.int .i64 0,.slice none 0 0,.bool false,.string ⟨#[]⟩,.slice none 0 0] 43)) b hs HG.out.mx);obtain ⟨ao,cap,rfl,-⟩:=h;rw [U6] at hcv ⊢;clear hA hg hf;have pi:¬(60000:Int)<((b.size:Nat):Int):=by omega
 have H5:=Z3 h5;have iP:=Z3 hall;have To:Hid (Xf b=if (Xw b).all YG=true then AN (Xw b) else Si):=by show _=_;unfold Xf;rw [Z1 hbig]
 obtain ⟨hl0,hl1,hsz⟩:=vQ b hs;have Pm:=Z3 hsz;generalize Xf b=l at *;generalize Xw b=L at *;clear hbig hs hsz h5 hall
 go_enter Tryz.func12,Tryz.ntmps12
 go_wp2_with fail
 generalize w.alloc _=w1 at *;refine HS.out.mono ?_;rintro e w2 ⟨rfl,rfl⟩;have b2:ZX w1 (w1.alloc (.cells (L.map Value.string).toArray 9)):=ZJ.alloc ZT _;have UH:=Z3 (AI w1 L);have s2:(w1.alloc (.cells (L.map Value.string).toArray 9)).heap.size=w1.heap.size+1:=by simp
 replace X:=Z3 (X.out.below b2)
 replace BA:=Z3 (YV BA.out b2)
 replace HG:=Z3 (HG.out.later b2)
 replace HF:=Z3 (HF.out.later b2)
 clear HS hcv b2;generalize w1.alloc _=w3 at *;generalize hgg:w1.heap.size=g at *;have hgw:g<w3.heap.size:=by omega
 have sw:w.heap.size+1≤w3.heap.size:=by omega
 clear hgg s2 s1
 go_wp2_with fail
 refine (AO w3 g L.length L hl0 ZT (by unfold maxLen;omega) UH.out hgw).mono ?_;rintro e w4 ⟨rfl,b4⟩
 replace X:=Z3 (X.out.below b4)
 replace BA:=Z3 (YV BA.out b4)
 replace HG:=Z3 (HG.out.later b4)
 replace HF:=Z3 (HF.out.later b4)
 replace UH:Hid (∀i,i<L.length→w4.cell? ⟨g,i,none⟩=some (.string (ZE L i))):=fun i hi=>(b4.cell (p:=⟨g,i,none⟩) hgw).trans (UH.out i hi)
 have s4:=b4.size;clear b4;rw [iP.out];have Zs:=Z3 (To.out.trans (ZZ iP.out));clear To
 go_wp2_with fail
 have hpz:(0:Int)<((L.length:Nat):Int):=by omega
 have bD:ZX w4 w4.drew:=below_drewN' w4 1;refine ZH (S:=fun W=>W.cell? ⟨g,0,none⟩=some (.string (ZE L 0))) (by kernel_rfl) ((bD.cell (p:=⟨g,0,none⟩) (by show g<_;omega)).trans (UH.out 0 hl0)) (fun Z9=>?_)
 replace X:=Z3 (X.out.below bD)
 replace BA:=Z3 (YV BA.out bD)
 replace HG:=Z3 (HG.out.later bD)
 replace HF:=Z3 (HF.out.later bD)
 replace UH:Hid (∀i,i<L.length→w4.drew.cell? ⟨g,i,none⟩=some (.string (ZE L i))):=fun i hi=>(bD.cell (p:=⟨g,i,none⟩) (by show g<_;omega)).trans (UH.out i hi)
 have s5:=bD.size;clear bD;generalize w4.drew=w5 at *;refine ZG 1 (.slice (some ⟨g,0,none⟩) L.length L.length) rfl Z9 ?_ ?_
 · intro w9 Z0;clear Z0;go_simp;try with_reducible rfl
 refine ZG 2 (.pointer (some ⟨g,0,none⟩)) rfl Z9 ?_ ?_
 · intro w9 Z0;clear Z0;go_simp;try with_reducible rfl
 refine ZG 3 (.string (ZE L 0)) rfl Z9 ?_ ?_
 · intro w9 Z0;go_simp;try with_reducible rfl
 refine ZU 0 rfl (fun K hK=>?_);go_simp;refine (GG w5).mono ?_;rintro e w6 ⟨rfl,P6⟩;have b6:=P6.b;obtain ⟨fv,hlk,rI⟩:=Az w5 w6 _ g L.length L P6 hl0 hl1 ZT (by unfold maxLen;omega) (fun i hi=>(b6.cell (p:=⟨g,i,none⟩) (by show g<_;omega)).trans (UH.out i hi)) (by have:=b6.size;omega) Pm.out (HG.out.later b6) (HF.out.later b6) H5.out
 replace X:=Z3 (X.out.below b6)
 replace BA:=Z3 (YV BA.out b6)
 have s6:=b6.size;have HY:=Z3 rI;refine hK.out _ _ ((b6.cell (p:=⟨g,0,none⟩) (by show g<_;omega)).trans Z9) (fun PW=>?_);clear hK K Z9 P6 b6 rI UH HG HF;refine ZU 4 rfl (fun K hK=>?_);go_simp;refine hK.out _ _ PW (fun Z9=>?_);clear hK K PW hlk
 iterate 5 (refine ZW ?_ Z9 ?_ ?_;rotate_left;· intro w9 Z0;clear Z0;go_simp;try with_reducible rfl)
 refine ZP (by kernel_rfl) ?_ _
 try simp only [Act.put,Y8,Y7,Y6]
 clear Z9;have hP:=HY.out;rw [←Zs.out] at hP;clear HY Zs
 rcases hP with ⟨rfl,hc⟩ | ⟨k9,rfl,hc⟩ | ⟨f9,k9,rfl,hc⟩
 all_goals
  have HC:=Z3 hc;clear hc
  go_wp2_with fail
  refine HC.out.mono ?_;rintro e w7 ⟨vo,vn,rfl,o7,n7,b7⟩;obtain ⟨Zr,Zq,rfl⟩:=o7.slice;obtain ⟨Zn,Zk,rfl⟩:∃a c,vn=.slice a l.nums.length c:=by
   obtain ⟨a,c,e9,-⟩:=Uh n7;exact ⟨a,c,e9⟩
  replace X:=Z3 (X.out.below b7)
  replace BA:=Z3 (YV BA.out b7)
  have O7:=Z3 (VU.mono o7 (show w.heap.size+1≤w6.heap.size by omega));have N7:=Z3 (Own.mono n7 (show w.heap.size+1≤w6.heap.size by omega));clear HC o7 n7 b7;have x0:=X.out.fz;have y0:=X.out.cl 0 _ rfl;have y1:=X.out.cl 1 _ rfl;have y2:=X.out.cl 2 _ rfl;have y3:=X.out.cl 3 _ rfl;have y4:=X.out.cl 4 _ rfl
  go_wp2_with fail
  obtain ⟨b9,x9,o9,n9⟩:=U4 BA.out X.out (l.kind) (l.VK) (l.path) (vo:=.slice Zr l.ops.length Zq) (vn:=.slice Zn l.nums.length Zk) (show VU _ _ _ _ l.ops from O7.out) (show Own _ _ _ _ _ l.nums from N7.out);have d0:=x9.cl 0 _ rfl;have d1:=x9.cl 1 _ rfl;have d2:=x9.cl 2 _ rfl;have d3:=x9.cl 3 _ rfl;have d4:=x9.cl 4 _ rfl;exact ZS (v:=.agg #[.int .i64 (l.kind),.slice Zr l.ops.length Zq,.bool (l.VK),.string (l.path),.slice Zn l.nums.length Zk]) (by simp [results,Tryz.results12,go_sem,d0,d1,d2,d3,d4]) rfl (by rw [show l=l from rfl];exact ⟨_,_,rfl,o9,n9,b9⟩)
theorem rn {n:Nat} (h:1≤n) (hn:n≤64) (k:Nat) (hk:k<116):(Xw ((UI n).getD k ⟨#[]⟩)).all YG=true∧five (ZE (Xw ((UI n).getD k ⟨#[]⟩)) 0):=by
 have g2:YG pA=true:=by decide +kernel
 have c1:(Xw (Gz n)).all YG=true∧five (ZE (Xw (Gz n)) 0):=by
  have g1:YG (Xv [99,114,101,97,116,101])=true:=by decide +kernel
  rw [vN];exact ⟨by simp [g1,g2,J7 h],.inl (by show ((Xv [99,114,101,97,116,101]).toList == _)=true;decide +kernel)⟩
 have c2:(Xw (J8 n)).all YG=true∧five (ZE (Xw (J8 n)) 0):=by
  have g1:YG (Xv [115,101,116])=true:=by decide +kernel
  have g3:YG (Xv [45,49])=true:=by decide +kernel
  rw [vM];exact ⟨by simp [g1,g2,g3,J7 h],.inr (.inl (by show ((Xv [115,101,116]).toList == _)=true;decide +kernel))⟩
 have c3:(Xw RF).all YG=true∧five (ZE (Xw RF) 0):=by rw [vL];exact ⟨by decide +kernel,.inr (.inr (.inl (by decide +kernel)))⟩
 have c4:(Xw FV).all YG=true∧five (ZE (Xw FV) 0):=by rw [vK];exact ⟨by decide +kernel,.inr (.inr (.inr (.inl (by decide +kernel))))⟩
 have c5:(Xw C3).all YG=true∧five (ZE (Xw C3) 0):=by rw [vJ];exact ⟨by decide +kernel,.inr (.inr (.inr (.inr (by decide +kernel))))⟩
 rw [vI n k hk]
 repeat' split
 all_goals assumption
end
section
open Go.RowKit Go.Conc Go.Shelf
attribute [local go_sem] VA
theorem Gh {F:Fence} {n fuel:Nat} {P:Program} {md:Region.Mode} {ops:Array Oper} {Q:Exit→Act→World→Prop} {listed:Array Bool} {a:Act} {w:World} (R:Array Oper→(Exit→Act→World→Prop)→Prop) (h1:R ops Q) (h2:R ops Q→wpAnyIn F n P md ops Q fuel listed a w):wpAnyIn F n P md ops Q fuel listed a w:=h2 h1
theorem Rk.zero {κ:Sc} {σ:Sx} {sB:Nat} {S:Int} {sn n S9:Nat} (h:uY κ σ sB S sn):Rk S9 sn n 0 σ:=by
 refine ⟨fun _=>h.k,fun _=>by rw [h.k];omega,fun _=>by rw [h.k];omega,fun _=>⟨by rw [h.k];omega,h.dS⟩,fun _=>h.sn,fun _=>h.em,fun e=>by omega,fun _=>by rw [h.rt.2.2.2.2.2.2];simp,?_⟩
 by_cases h9:Zp n≤sn*64
 · rw [ZZ h9,ZZ rfl];exact h.rt
 rw [Z1 h9,Z1 (by omega),Z1 (by omega),ZZ (by omega)];exact h.rt
theorem Ay {m:Int} {te:TypeId} {pe:Value} (w:World) (B o N cap S L n:Nat) (hn:n≤64) (hn1:1≤n) (hc:YO (S:Int) (L:Int)=true) (hG:rD m te pe w) (hN:(Zv (UI n)).length=N) (hr:Rd .u8 w (.slice (some ⟨B,o,none⟩) N cap) (Zv (UI n))) :
    Calls Tryz.prog 6 #[.slice (some ⟨B,o,none⟩) N cap,.agg #[.int .i64 (S:Int),.int .i64 (L:Int)]] w fun e w'=>∃v',e=.returned v'∧Own .u8 5 w' w.heap.size v' (Zv (PR S L n 116))∧ZX w w':=by
 have hsz:N≤9396:=by
  have:=JZ (UI n) (fun s hs=>(CQ n hn s hs).2);rw [Vl,hN] at this;omega
 have HG:=Z3 hG;have HR:=Z3 hr;have HN:=Z3 hN;have HC:=Z3 hc;have hNb:¬(60000:Int)<(N:Int):=by omega
 have Yi:decide ((60000:Int)<(N:Int))=false:=by simpa using hNb
 have B0:Hid (ZX w (w.alloc (.cells #[.int .i64 (S:Int),.int .i64 (L:Int)] 25))):=ZJ.alloc ZT _;have C0:=Z3 (St.new w #[.int .i64 (S:Int),.int .i64 (L:Int)] 25);clear hG hr hN hc;refine (XM (n:=6)).1 ?_;refine callsIn_of_wp_marks Tryz.func6 rfl trivial ?_ rfl
 simp only [Tryz.ntmps6,Zm,Yr,Wo,Nat.reduceAdd,Nat.reduceSub,JQ,JO,Wj,Ur,Yw,Vq]
 gi_wp2_with fail
 refine ⟨trivial,?_⟩;refine (XM.2 (VE _ (S:Int) (L:Int))).mono ?_;rintro e w1 ⟨rfl,b1⟩;rw [HC.out];have B1:=Z3 (YV B0.out b1);have C1:=Z3 (C0.out.below b1);have c0:=C1.out.cl 0 _ rfl;have c1:=C1.out.cl 1 _ rfl;clear B0 C0 b1
 gi_wp2_with fail
 clear c0 c1;refine ⟨trivial,?_⟩;refine (XM.2 (Mz w1 (S:Int) L HC.out (HG.out.later B1.out).tc (ZL (by omega) (Nat.succ_le_of_lt (C1.out.lt))))).mono ?_;rintro e w2 ⟨κ,σ,rfl,v2,n2,b2⟩
 gi_wp2_with fail
 refine ⟨trivial,?_⟩;refine (vu _ _ _ _ _).mono ?_;rintro e w5 ⟨rfl,Rc⟩
 gi_wp2_with fail
 have B2:ZX w w2:=YV B1.out b2;have hkB:w.heap.size≤κ.sB:=by rw [n2.sB];have:=B1.out.size;omega
 have hF:je w κ w2.heap.size S L:=by
  obtain ⟨vd,made,ZQ,a1,-⟩:=v2.dk;obtain ⟨vt,vq,cp,b1,-,-,-,-,-,b7,-⟩:=v2.mm;obtain ⟨Lv,s,r,c1,-⟩:=v2.ch;refine ⟨⟨n2.S,n2.L,n2.cap,by rw [n2.S,n2.L];exact HC.out⟩,⟨a1.lt,b1.lt,(Yh.1 c1).1,(b7.lt κ.lb rfl).2⟩,hkB⟩
 have s5:w5.heap.size=w2.heap.size+3:=by rw [Rc];simp
 have Fw:Hid (mn w κ w2.heap.size S L n 0 w5∧Boxed w5 (w2.heap.size+2) 22 (.slice (some ⟨B,o,none⟩) N cap)):=by
  have bA:ZX w2 ((w2.alloc (.cells #[.pointer (some ⟨κ.sB,0,none⟩)] 34)).alloc (.cells #[.slice none 0 0] 22)):=(ZJ.alloc ZT _).alloc (by simp) _;have zA:((w2.alloc (.cells #[.pointer (some ⟨κ.sB,0,none⟩)] 34)).alloc (.cells #[.slice none 0 0] 22)).heap.size=w2.heap.size+2:=by simp
  have x1:=(Boxed.new w2 34 (.pointer (some ⟨κ.sB,0,none⟩))).alloc (.cells #[.slice none 0 0] 22);have x2:=Boxed.new (w2.alloc (.cells #[.pointer (some ⟨κ.sB,0,none⟩)] 34)) 22 (.slice none 0 0);rw [Wg] at x2;rw [Rc];generalize (w2.alloc _).alloc _=wA at *;have hT:σ.T≠[]:=by rw [n2.rt.1];exact U3
  have hQ:σ.Q≠[]:=by rw [n2.rt.2.2.1];exact U3
  have vA:Sv { κ with X:=(w2.heap.size+1) :: κ.X } σ wA:=v2.boxed bA (by omega) (by omega) hT hQ;have bB:ZX wA (wA.alloc (.cells #[.slice (some ⟨B,o,none⟩) N cap] 22)):=ZJ.alloc ZT _;have vB:Sv { κ with X:=(w2.heap.size+2) :: (w2.heap.size+1) :: κ.X } σ (wA.alloc (.cells #[.slice (some ⟨B,o,none⟩) N cap] 22)):=vA.boxed bB (by omega) (by simp;omega) hT hQ;have x3:=Boxed.new wA 22 (.slice (some ⟨B,o,none⟩) N cap);rw [zA] at x3;exact ⟨⟨.slice none 0 0,_,fun _=>rfl,⟨σ,Rk.zero n2,vB⟩,by simp,by simp,fun g e=>by simp [Value.ownBlock] at e,x2.alloc _,⟨_,x3⟩,Zl _ _ _ _,x1.alloc _,B2.trans ((YV bA bB).mono B2.size),by simp;omega⟩,x3⟩
 have Fr:Hid (∀W,ZX w W→∀i,i<N→W.cell? ⟨B,o+i,none⟩=some (.int .u8 ((Zv (UI n)).getD i 0))):=fun W hW i hi=>by
  obtain ⟨ao,cp,e,r1,r2,r3⟩:=HR.out.below hW
  rcases r3 with r3 | ⟨b9,off,eb,ST,jP⟩
  · have:=HN.out;rw [r3] at this;simp at this;omega
  simp only [Y4] at e
  rw [eb] at e
  simp only [Zo,JD,TJ] at e
  obtain ⟨⟨rfl,rfl⟩,-,-⟩:=e;exact jP i (by rw [HN.out];exact hi)
 have hBl:B<w.heap.size:=by
  obtain ⟨ao,cp,e,r1,r2,r3⟩:=HR.out
  rcases r3 with r3 | ⟨b9,off,eb,ST,-⟩
  · have h9:=HN.out
    have:=J6 (ls:=UI n) (k:=0) (by rw [Vl];omega);rw [r3] at this;simp at this
  simp only [Y4] at e
  rw [eb] at e
  simp only [Zo,JD,TJ] at e
  omega
 obtain ⟨YF,hcm⟩:N≤cap∧cap≤maxLen:=by
  obtain ⟨ao,cp,e,r1,r2,-⟩:=HR.out
  simp only [Y4] at e
  rw [HN.out] at r1;omega
 have HF:=Z3 hF;rw [←Rc];clear Rc v2 n2 b2 B1 C1 B2 hkB hF HR;refine Ty (F:=Fence.wide) (n:=6) rfl (by omega) (gf:=21) (lb:=#[.pointer (some ⟨w2.heap.size+2,0,none⟩)]) rfl trivial (enters_of Tryz.func21 (by kernel_rfl) rfl)
  (fun k W=>mn w κ w2.heap.size S L n k W) (fun k vs _=>k<116∧vs=#[.slice (some ⟨B,o+VH (UI n) k,none⟩) (((UI n).getD k ⟨#[]⟩).size+1) (((UI n).getD k ⟨#[]⟩).size+1)]) (fun k _=>k+1) (fun X Y=>Y.heap[w2.heap.size+2]?=X.heap[w2.heap.size+2]?) (fun k=>k=116) 0
  (fun k X Y row hs hg hr=>by obtain ⟨va,X9,h0,hs⟩:=hs;exact ⟨va,X9,h0,hs.Yj HF.out hg (fun r e=>by have:=hr r e;rw [s5] at this;exact this)⟩) (fun h1 h2=>h2.trans h1) (fun W l o o' hl _ _ _=>World.putObj_heap_other (by omega))
  (fun k vs W hp=>by rw [hp.2];rfl) Fw.out.1
  (fun k vs a' W=>k<116∧mn w κ w2.heap.size S L n k W∧a'={ tmps:=(fun T=>#[.slice (some ⟨B,o,none⟩) N cap,.agg #[.int .i64 (S:Int),.int .i64 (L:Int)],undef,.pointer (some ⟨w.heap.size,0,none⟩),.slice none 0 0,.pointer (some ⟨w2.heap.size,0,none⟩),.pointer (some ⟨w2.heap.size+1,0,none⟩),T,undef,.agg #[.int .i64 (S:Int),.int .i64 (L:Int)],.bool true,.bool false,undef,undef,.slice (some ⟨B,o,none⟩) N cap,.int .i64 (N:Int),.bool false,undef,undef,.agg #[.int .i64 (S:Int),.int .i64 (L:Int)],.pointer (some ⟨κ.sB,0,none⟩),.slice (some ⟨B,o,none⟩) N cap,.func (.func 21) #[] #[.pointer (some ⟨w2.heap.size+2,0,none⟩)],T,undef,undef,undef,undef,undef,undef,undef,undef,undef,undef,undef,undef,undef]) (.slice (some ⟨B,o+VH (UI n) k,none⟩) (((UI n).getD k ⟨#[]⟩).size+1) (((UI n).getD k ⟨#[]⟩).size+1)),defers:=[] })
  ?ax ?assign ?body ?call ?done
 case ax =>
  rintro k vs a' _ X Y row ⟨h1,⟨va,X9,h0,h2⟩,h3⟩ hg hr;exact ⟨h1,⟨va,X9,h0,h2.Yj HF.out hg (fun r e=>by have:=hr r e;rw [s5] at this;exact this)⟩,h3⟩
 case assign =>
  rintro l k vs W K hS ⟨hk,rfl⟩ hK;have HK:=Z3 hK;have HS:=Z3 hS;clear hK hS;gi_wp2;exact HK.out _ _ ⟨ZT,fun _ _ _ h _=>h⟩ rfl ⟨hk,HS.out,rfl⟩
 case call =>
  intro Bk W1 tI hY hb1 _ hs0 hb0;have hx1:Boxed W1 (w2.heap.size+2) 22 (.slice (some ⟨B,o,none⟩) N cap):=(hb1.block _ (by omega)).trans Fw.out.2;refine (Er 5 (by omega) (w5.heap.size+1) (w2.heap.size+2) B o N cap (UI n) (fun s hs=>(CQ n hn s hs).1) HN.out (by omega) YF hcm (fun k W=>mn w κ w2.heap.size S L n k W) Bk (fun k X Y hb h=>h.below hb) (fun X Y hb h=>tI X Y (XZ hb) h) (fun k X v h=>let ⟨va,X9,h0,h⟩:=h;⟨va,X9,h0,h.jd HF.out v⟩) (fun X v h=>tI _ _ ((KeepsOthers.setCell _ _ _).from _) h) (fun k W h=>let ⟨va,X9,h0,h⟩:=h;Fr.out W h.low) (fun k vs W a b c=>hY k vs W a b (by rw [Vl] at c;exact c)) W1 hs0 hb0 hx1 (by rw [Vl];omega)).mono ?_;rintro e W' ⟨h1,h2,h3⟩;rw [Vl] at h2;exact ⟨h1,116,rfl,h2,h3⟩
 case done =>
  rintro D k W hD rfl ⟨va,X9,-,hJ⟩ hK;have c0:=hJ.bx.cell;have HJ:=Z3 hJ;have HK:=Z3 hK;clear hJ hK;gi_wp2;refine ⟨by simp,.inl ⟨_,_,rfl,run_takeDeferred HK.out,?_⟩⟩;have GX:=grownBy_putObj' W D (.deferred none);have OF:Own .u8 5 (W.putObj D (.deferred none)) (w2.heap.size+3) va (Zv (PR S L n 116)):=Yn HJ.out.ow GX (fun r e=>by injection e with e;subst e;exact ⟨_,HK.out,rfl⟩);have hz:=HF.out.wb;have hlt:=HF.out.lt;have BF:=HJ.out.low.grown GX HJ.out.low.size (fun q e=>by injection e with e;omega);exact ⟨va,by simp [results,Tryz.results6,go_sem],va,rfl,OF.mono (by omega),BF⟩
 case body =>
  rintro l k vs a' W ⟨hk,⟨va,X,Zj,hJ⟩,rfl⟩;have YE:=Z3 Zj;have HJ:=Z3 hJ;have hkl:k<(UI n).length:=by rw [Vl];exact hk
  have kv:Hid (∀W',ZX w W'→∀i,i<((UI n).getD k ⟨#[]⟩).size+1→W'.cell? ⟨B,o+VH (UI n) k+i,none⟩=some (.int .u8 ((XS ((UI n).getD k ⟨#[]⟩)++[10]).getD i 0))):=fun W' hW' i hi=>by
   have h1:=J6 hkl;rw [HN.out] at h1;have h2:=Fr.out W' hW' (VH (UI n) k+i) (by omega);rw [←Ue] at h2;rw [h2];have h3:(Zv (UI n)).getD (VH (UI n) k+i) 0=((Zv (UI n)).drop (VH (UI n) k)).getD i 0:=by simp [List.getD,Qt]
   rw [h3,PT hkl,show (10:Int) :: Zv ((UI n).drop (k+1))=[10]++Zv ((UI n).drop (k+1)) from rfl,←YM]
   congr 2
   rw [List.getD,List.getD,Wd (by rw [ZA,YP];exact hi)]
   rfl
  have F5:=Z3 (rn hn1 hn k hk);have Zi:((UI n).getD k ⟨#[]⟩).size≤80:=by
   rw [List.getD,Xc hkl];exact (CQ n hn _ (UO hkl)).2
  obtain ⟨s,hs⟩:∃s,s=(UI n).getD k ⟨#[]⟩:=⟨_,rfl⟩;have HS:=Z3 hs;rw [←hs] at kv Zi F5 ⊢;generalize o+VH (UI n) k=O at *;have kc:=Lib.run_convert_bytes_const (P:=Tryz.prog) W 22 5 #[.int .u8 10] 1 1 Tryz.underlying22 Tryz.underlying5;have bA:ZX W (W.alloc (.cells #[.int .u8 10] 5 (1,2))):=ZJ.alloc ZT _;clear hJ hs Zj
  gi_wp2_with fail
  have zW:(W.alloc (.cells #[.int .u8 10] 5 (1,2))).heap.size=W.heap.size+1:=by simp
  have cN:∀i,i<1→(W.alloc (.cells #[.int .u8 10] 5 (1,2))).cell? ⟨W.heap.size,0+i,none⟩=some (.int .u8 (([10]:List Int).getD i 0)):=fun i hi=>by
   have:i=0:=by omega
   subst this;rw [Xn _ W.heap.size (0+0) _ _ _ (Y9 W _)]
   rfl
  have JA:=Z3 (HJ.out.below bA);have KA:Hid (KeepsFrom (w2.heap.size+3) W (W.alloc (.cells #[.int .u8 10] 5 (1,2)))∧(W.alloc (.cells #[.int .u8 10] 5 (1,2))).heap[w2.heap.size+2]?=W.heap[w2.heap.size+2]?):=⟨XZ bA,bA.block _ (by have:=HJ.out.sz;omega)⟩;have CN:=Z3 cN;clear kc bA zW cN HJ;generalize W.alloc _=WA at *;refine ⟨trivial,?_⟩;refine (CallsIn.inRound l (XM.2 (Tryz.bytes_TrimSuffix B O (s.size+1) (s.size+1) W.heap.size 0 1 1 (XS s++[10]) [10] WA (by rw [ZA,YP];rfl) rfl ZT (by omega) (kv.out WA JA.out.low) CN.out))).mono ?_;rintro e w7 ⟨rfl,rfl⟩;rw [AA]
  gi_wp2_with fail
  refine ⟨trivial,?_⟩;have GA:=Z3 (HG.out.later JA.out.low);have RA:Rd .u8 w7 (.slice (some ⟨B,O,none⟩) s.size (s.size+1)) (bI s):=by
   refine ⟨_,s.size+1,by rw [U6],by rw [U6];omega,by unfold maxLen;omega,.inr ⟨B,O,rfl,ZL hBl JA.out.low.size,fun i hi=>?_⟩⟩;rw [U6] at hi;rw [kv.out w7 JA.out.low i (by omega),List.getD,Wd (by rw [YP];exact hi)]
   rfl
  refine (CallsIn.inRound l (XM.2 (Mx w7 _ s RA (by omega) GA.out.pl GA.out.fm (by omega) F5.out.1 F5.out.2))).mono ?_;rintro e w8 ⟨vo,vn,rfl,o8,n8,b8⟩;obtain ⟨oa,oc,rfl⟩:=o8.slice;obtain ⟨na,nc,rfl⟩:=Own.slice n8;obtain ⟨ln,hln⟩:∃ln,ln=Xf s:=⟨_,rfl⟩;have HL:Hid (Xf ((UI n).getD k ⟨#[]⟩)=ln):=by show _=_;rw [hln,HS.out]
  rw [←hln] at o8 n8 ⊢;clear hln RA GA;have O8:=Z3 o8;have N8:=Z3 n8;have B8:=Z3 b8;clear o8 n8 b8
  gi_wp2_with fail
  rename_i KK Kv;have bB:ZX w8 (w8.alloc (.cells #[.int .i64 ln.kind,.slice oa ln.ops.length oc,.bool ln.VK,.string ln.path,.slice na ln.nums.length nc] 43)).drew:=(ZJ.alloc ZT _).trans ((below_drewN' _ 1).mono (by simp));have XB:Hid (St (w8.alloc (.cells #[.int .i64 ln.kind,.slice oa ln.ops.length oc,.bool ln.VK,.string ln.path,.slice na ln.nums.length nc] 43)).drew w8.heap.size [.int .i64 ln.kind,.slice oa ln.ops.length oc,.bool ln.VK,.string ln.path,.slice na ln.nums.length nc]):=(St.new w8 #[.int .i64 ln.kind,.slice oa ln.ops.length oc,.bool ln.VK,.string ln.path,.slice na ln.nums.length nc] 43).below (below_drewN' _ 1);have REST:Hid (∀(W3:World) (Zh:Option Addr) (Zf Zd:Nat) (X3:List Nat) (u29 u30 u31 u32 u33:Value) (y3:List Int),Hid (y3=Zv (PR S L n k)++XS (YA S L n k))→My w κ w2.heap.size S L n (k+1) y3 (.slice Zh Zf Zd) X3 W3→KeepsFrom (w2.heap.size+3) W W3→W3.heap[w2.heap.size+2]?=W.heap[w2.heap.size+2]?→KK { tmps:=#[.slice (some ⟨B,o,none⟩) N cap,.agg #[.int .i64 (S:Int),.int .i64 (L:Int)],undef,.pointer (some ⟨w.heap.size,0,none⟩),.slice none 0 0,.pointer (some ⟨w2.heap.size,0,none⟩),.pointer (some ⟨w2.heap.size+1,0,none⟩),.slice (some ⟨B,O,none⟩) (s.size+1) (s.size+1),.pointer (some ⟨w8.heap.size,0,none⟩),.agg #[.int .i64 (S:Int),.int .i64 (L:Int)],.bool true,.bool false,undef,undef,.slice (some ⟨B,o,none⟩) N cap,.int .i64 (N:Int),.bool false,undef,undef,.agg #[.int .i64 (S:Int),.int .i64 (L:Int)],.pointer (some ⟨κ.sB,0,none⟩),.slice (some ⟨B,o,none⟩) N cap,.func (.func 21) #[] #[.pointer (some ⟨w2.heap.size+2,0,none⟩)],.slice (some ⟨B,O,none⟩) (s.size+1) (s.size+1),.slice (some ⟨B,O,none⟩) (s.size+1) (s.size+1),.slice (some ⟨W.heap.size,0,none⟩) 1 1,.slice (some ⟨W.heap.size,0,none⟩) 1 1,.slice (some ⟨B,O,none⟩) s.size (s.size+1),.agg #[.int .i64 ln.kind,.slice oa ln.ops.length oc,.bool ln.VK,.string ln.path,.slice na ln.nums.length nc],u29,u30,u31,u32,u33,undef,undef,undef],defers:=[] } W3):=by
   intro W3 Zh Zf Zd X3 u29 u30 u31 u32 u33 y3 H3 j3 k3 i3;have J3:=Z3 j3;have K3:Hid (KeepsFrom (w2.heap.size+3) W W3∧W3.heap[w2.heap.size+2]?=W.heap[w2.heap.size+2]?):=⟨k3,i3⟩;have c3:=j3.bx.cell;have hxl:y3.length+(⟨#[10]⟩:ByteArray).size≤1048576:=by
    rw [H3.out];obtain ⟨-,h2⟩:=M9 S L n k;obtain ⟨-,h4,-⟩:=J1 S L n k;rw [ZA,YP];have:(⟨#[10]⟩:ByteArray).size=1:=rfl;omega
   have gU:=Z3 hxl;clear hxl j3 k3 i3 XB bB JA KA O8 N8 B8;refine Kv _ _ ?_;clear Kv
   gi_wp2_with (gi_at_builtin;go_must (refine SI rfl _ _ rfl (w2.heap.size+3) _ y3 ⟨#[10]⟩ rfl rfl J3.out.ow (by decide) gU.out J3.out.sz ?_))
   intro v4 w4 o4 c4;obtain ⟨y4,hy4⟩:∃y,y=y3++XS ⟨#[10]⟩:=⟨_,rfl⟩;have H4:=Z3 hy4;rw [←hy4] at o4;clear hy4;obtain ⟨a4,l4,rfl⟩:=Own.slice o4;obtain ⟨X4,j4,k4,i4,cc,ff⟩:=J3.out.app HF.out o4 c4;have J4:=Z3 j4;have K4:Hid (KeepsFrom (w2.heap.size+3) W3 _∧_=W3.heap[w2.heap.size+2]?):=⟨k4,i4⟩;clear o4 c4 j4 k4 i4 c3;gi_wp2;refine ⟨K3.out.1.trans K4.out.1,K4.out.2.trans K3.out.2,.slice a4 y4.length l4,X4,fun e=>by omega,?_⟩;rw [Gt,←H3.out,←H4.out];exact J4.out
  have I:=Z3 ((JA.out.below B8.out).below bB);have Zz:Hid (KeepsFrom (w2.heap.size+3) W _∧(w8.alloc (.cells #[.int .i64 ln.kind,.slice oa ln.ops.length oc,.bool ln.VK,.string ln.path,.slice na ln.nums.length nc] 43)).drew.heap[w2.heap.size+2]?=W.heap[w2.heap.size+2]?):=⟨KA.out.1.trans ((XZ B8.out).trans (XZ bB)),(bB.block _ (by have:=(JA.out.below B8.out).sz;omega)).trans ((B8.out.block _ (by have:=JA.out.sz;omega)).trans KA.out.2)⟩;have CALL:Hid (Calls Tryz.prog 14 #[.pointer (some ⟨κ.sB,0,none⟩),.agg #[.int .i64 ln.kind,.slice oa ln.ops.length oc,.bool ln.VK,.string ln.path,.slice na ln.nums.length nc]] (w8.alloc (.cells #[.int .i64 ln.kind,.slice oa ln.ops.length oc,.bool ln.VK,.string ln.path,.slice na ln.nums.length nc] 43)).drew fun e W'=>e=.returned (.string (YA S L n k))∧My w κ w2.heap.size S L n (k+1) (Zv (PR S L n k)) va X W'∧KeepsFrom (w2.heap.size+3) W W'∧W'.heap[w2.heap.size+2]?=W.heap[w2.heap.size+2]?):=by
   obtain ⟨σ1,r1,v1⟩:=JA.out.sv;have b10:=YV B8.out bB;have uE:=HF.out.ln;refine (AF (κ:={ κ with X:=X }) (σ:=σ1) ⟨uE.eS,uE.eL,uE.cap,uE.c⟩ (v1.below b10) (jf HG.out I.out.low HF.out.wb) hn r1 hn1 hk (.slice oa ln.ops.length oc) (.slice na ln.nums.length nc) w7 ln HL.out b10 v1 (O8.out.below bB) (N8.out.below bB)).mono ?_;rintro e W' ⟨rfl,g',h'⟩;obtain ⟨j',k',i'⟩:=I.out.line HF.out (by
    by_cases e0:k=0
    · exact .inl (YE.out e0)
    exact .inr (by have:=(M9 S L n k).1;omega)) g' h'
   exact ⟨rfl,j',Zz.out.1.trans k',i'.trans Zz.out.2⟩
  clear B8 O8 N8 JA KA Kv Zz;have YD:Hid (∀W',My w κ w2.heap.size S L n (k+1) (Zv (PR S L n k)) va X W'→0<(YA S L n k).size∧(Zv (PR S L n k)).length+(YA S L n k).size≤1048576):=fun W' _=>by
   obtain ⟨-,h2⟩:=M9 S L n k;obtain ⟨h3,h4,-⟩:=J1 S L n k;omega
  have a0:=I.out.bx.cell;have a1:=I.out.sb.cell;have x0:=XB.out.cl 0 _ rfl;have x1:=XB.out.cl 1 _ rfl;have x2:=XB.out.cl 2 _ rfl;have x3:=XB.out.cl 3 _ rfl;have x4:=XB.out.cl 4 _ rfl;clear XB bB I;refine wpIn_region_any (by kernel_rfl) ?_;refine Gq l rfl (by kernel_rfl) _ _ _ _ ?_
  change wpAnyIn _ _ _ _ _ _ _ _ _ (w8.alloc (.cells #[.int .i64 ln.kind,.slice oa ln.ops.length oc,.bool ln.VK,.string ln.path,.slice na ln.nums.length nc] 43)).drew
  generalize (w8.alloc _).drew=LF at *;refine Gh (R:=fun Zy Q=>∀W',My w κ w2.heap.size S L n (k+1) (Zv (PR S L n k)) va X W'→KeepsFrom (w2.heap.size+3) W W'→W'.heap[w2.heap.size+2]?=W.heap[w2.heap.size+2]?→wpAnyIn Fence.wide 4 Tryz.prog .any Zy Q 2 #[true,true,true,true,false,false] { tmps:=#[.slice (some ⟨B,o,none⟩) N cap,.agg #[.int .i64 (S:Int),.int .i64 (L:Int)],undef,.pointer (some ⟨w.heap.size,0,none⟩),.slice none 0 0,.pointer (some ⟨w2.heap.size,0,none⟩),.pointer (some ⟨w2.heap.size+1,0,none⟩),.slice (some ⟨B,O,none⟩) (s.size+1) (s.size+1),.pointer (some ⟨w8.heap.size,0,none⟩),.agg #[.int .i64 (S:Int),.int .i64 (L:Int)],.bool true,.bool false,undef,undef,.slice (some ⟨B,o,none⟩) N cap,.int .i64 (N:Int),.bool false,undef,undef,.agg #[.int .i64 (S:Int),.int .i64 (L:Int)],.pointer (some ⟨κ.sB,0,none⟩),.slice (some ⟨B,o,none⟩) N cap,.func (.func 21) #[] #[.pointer (some ⟨w2.heap.size+2,0,none⟩)],.slice (some ⟨B,O,none⟩) (s.size+1) (s.size+1),.slice (some ⟨B,O,none⟩) (s.size+1) (s.size+1),.slice (some ⟨W.heap.size,0,none⟩) 1 1,.slice (some ⟨W.heap.size,0,none⟩) 1 1,.slice (some ⟨B,O,none⟩) s.size (s.size+1),.agg #[.int .i64 ln.kind,.slice oa ln.ops.length oc,.bool ln.VK,.string ln.path,.slice na ln.nums.length nc],va,.pointer (some ⟨κ.sB,0,none⟩),.agg #[.int .i64 ln.kind,.slice oa ln.ops.length oc,.bool ln.VK,.string ln.path,.slice na ln.nums.length nc],.string (YA S L n k),undef,undef,undef,undef],defers:=[] } W') ?_ (fun HT=>?_)
  · intro W' j1 k1 i1
    have p1:=YD.out _ j1;refine wpAnyIn_ready (rs:=[4]) (by kernel_rfl) (by simp) ?_;refine AllReadyIn.cons (o:=⟨some 33,_,_,_,_,_⟩) rfl (fun K9 UV=>?_) AllReadyIn.nil;rw [ZZ (by rfl)];refine Pg rfl _ _ rfl (w2.heap.size+3) va (Zv (PR S L n k)) (YA S L n k) rfl rfl j1.ow p1.1 p1.2 j1.sz ?_;intro v2 W2 o2 c2;obtain ⟨y2,hy2⟩:∃y,y=Zv (PR S L n k)++XS (YA S L n k):=⟨_,rfl⟩;have H2:=Z3 hy2;rw [←hy2] at o2;clear hy2;obtain ⟨a2,l2,rfl⟩:=Own.slice o2;obtain ⟨X2,j2,k2,i2,cc,ff⟩:=j1.app HF.out o2 c2;refine UV _ _ ?_;refine wpAnyIn_ready (rs:=[5]) (by kernel_rfl) (by simp) ?_;refine AllReadyIn.cons (o:=⟨none,_,_,_,_,_⟩) rfl (fun K9 UV=>?_) AllReadyIn.nil;rw [ZZ (by rfl)];go_simp;refine UV _ _ ?_;exact wpAnyIn_done (by kernel_rfl) (REST.out _ _ _ _ _ _ _ _ _ _ _ H2 j2 (k1.trans k2) (i2.trans i1)) _
  refine Gh (R:=fun Zy Q=>wpAnyIn Fence.wide 4 Tryz.prog .any Zy Q 3 #[true,true,true,false,false,false] { tmps:=#[.slice (some ⟨B,o,none⟩) N cap,.agg #[.int .i64 (S:Int),.int .i64 (L:Int)],undef,.pointer (some ⟨w.heap.size,0,none⟩),.slice none 0 0,.pointer (some ⟨w2.heap.size,0,none⟩),.pointer (some ⟨w2.heap.size+1,0,none⟩),.slice (some ⟨B,O,none⟩) (s.size+1) (s.size+1),.pointer (some ⟨w8.heap.size,0,none⟩),.agg #[.int .i64 (S:Int),.int .i64 (L:Int)],.bool true,.bool false,undef,undef,.slice (some ⟨B,o,none⟩) N cap,.int .i64 (N:Int),.bool false,undef,undef,.agg #[.int .i64 (S:Int),.int .i64 (L:Int)],.pointer (some ⟨κ.sB,0,none⟩),.slice (some ⟨B,o,none⟩) N cap,.func (.func 21) #[] #[.pointer (some ⟨w2.heap.size+2,0,none⟩)],.slice (some ⟨B,O,none⟩) (s.size+1) (s.size+1),.slice (some ⟨B,O,none⟩) (s.size+1) (s.size+1),.slice (some ⟨W.heap.size,0,none⟩) 1 1,.slice (some ⟨W.heap.size,0,none⟩) 1 1,.slice (some ⟨B,O,none⟩) s.size (s.size+1),.agg #[.int .i64 ln.kind,.slice oa ln.ops.length oc,.bool ln.VK,.string ln.path,.slice na ln.nums.length nc],va,.pointer (some ⟨κ.sB,0,none⟩),.agg #[.int .i64 ln.kind,.slice oa ln.ops.length oc,.bool ln.VK,.string ln.path,.slice na ln.nums.length nc],undef,undef,undef,undef,undef],defers:=[] } LF) ?_ (fun HA=>?_)
  · refine wpAnyIn_ready (rs:=[3]) (by kernel_rfl) (by simp) ?_
    refine AllReadyIn.cons (o:=⟨some 32,_,_,_,_,_⟩) rfl (fun K9 UV=>?_) AllReadyIn.nil;rw [ZZ (by rfl)];go_simp;refine ⟨trivial,(XM.2 CALL.out).mono ?_⟩;rintro e W' ⟨rfl,j1,k1,i1⟩;refine UV _ _ ?_;exact HT _ j1 k1 i1
  refine wpAnyIn_ready (rs:=[0,1,2]) (by kernel_rfl) (by simp) ?_;refine AllReadyIn.cons (o:=⟨some 29,_,_,_,_,_⟩) rfl (fun K9 UV=>?_) (AllReadyIn.cons (o:=⟨some 30,_,_,_,_,_⟩) rfl (fun K9 UV=>?_) (AllReadyIn.cons (o:=⟨some 31,_,_,_,_,_⟩) rfl (fun K9 UV=>?_) AllReadyIn.nil))
  · rw [ZZ (by rfl)]
    go_simp;refine UV _ _ ?_;refine wpAnyIn_ready (rs:=[1,2]) (by kernel_rfl) (by simp) ?_;refine AllReadyIn.cons (o:=⟨some 30,_,_,_,_,_⟩) rfl (fun K9 UV=>?_) (AllReadyIn.cons (o:=⟨some 31,_,_,_,_,_⟩) rfl (fun K9 UV=>?_) AllReadyIn.nil)
    · rw [ZZ (by rfl)]
      go_simp;refine UV _ _ ?_;refine wpAnyIn_ready (rs:=[2]) (by kernel_rfl) (by simp) ?_;refine AllReadyIn.cons (o:=⟨some 31,_,_,_,_,_⟩) rfl (fun K9 UV=>?_) AllReadyIn.nil;rw [ZZ (by rfl)];go_simp;refine UV _ _ ?_;exact HA
    rw [ZZ (by rfl)];go_simp;refine UV _ _ ?_;refine wpAnyIn_ready (rs:=[1]) (by kernel_rfl) (by simp) ?_;refine AllReadyIn.cons (o:=⟨some 30,_,_,_,_,_⟩) rfl (fun K9 UV=>?_) AllReadyIn.nil;rw [ZZ (by rfl)];go_simp;refine UV _ _ ?_;exact HA
  · rw [ZZ (by rfl)]
    go_simp;refine UV _ _ ?_;refine wpAnyIn_ready (rs:=[0,2]) (by kernel_rfl) (by simp) ?_;refine AllReadyIn.cons (o:=⟨some 29,_,_,_,_,_⟩) rfl (fun K9 UV=>?_) (AllReadyIn.cons (o:=⟨some 31,_,_,_,_,_⟩) rfl (fun K9 UV=>?_) AllReadyIn.nil)
    · rw [ZZ (by rfl)]
      go_simp;refine UV _ _ ?_;refine wpAnyIn_ready (rs:=[2]) (by kernel_rfl) (by simp) ?_;refine AllReadyIn.cons (o:=⟨some 31,_,_,_,_,_⟩) rfl (fun K9 UV=>?_) AllReadyIn.nil;rw [ZZ (by rfl)];go_simp;refine UV _ _ ?_;exact HA
    rw [ZZ (by rfl)];go_simp;refine UV _ _ ?_;refine wpAnyIn_ready (rs:=[0,3]) (by kernel_rfl) (by simp) ?_;refine AllReadyIn.cons (o:=⟨some 29,_,_,_,_,_⟩) rfl (fun K9 UV=>?_) (AllReadyIn.cons (o:=⟨some 32,_,_,_,_,_⟩) rfl (fun K9 UV=>?_) AllReadyIn.nil)
    · rw [ZZ (by rfl)]
      go_simp;refine UV _ _ ?_;exact HA
    rw [ZZ (by rfl)];go_simp;refine ⟨trivial,(XM.2 CALL.out).mono ?_⟩;rintro e W' ⟨rfl,j1,k1,i1⟩;refine UV _ _ ?_;have a9:=j1.bx.cell;refine wpAnyIn_ready (rs:=[0]) (by kernel_rfl) (by simp) ?_;refine AllReadyIn.cons (o:=⟨some 29,_,_,_,_,_⟩) rfl (fun K9 UV=>?_) AllReadyIn.nil;rw [ZZ (by rfl)];go_simp;refine UV _ _ ?_;exact HT _ j1 k1 i1
  rw [ZZ (by rfl)];go_simp;refine UV _ _ ?_;refine wpAnyIn_ready (rs:=[0,1]) (by kernel_rfl) (by simp) ?_;refine AllReadyIn.cons (o:=⟨some 29,_,_,_,_,_⟩) rfl (fun K9 UV=>?_) (AllReadyIn.cons (o:=⟨some 30,_,_,_,_,_⟩) rfl (fun K9 UV=>?_) AllReadyIn.nil)
  · rw [ZZ (by rfl)]
    go_simp;refine UV _ _ ?_;refine wpAnyIn_ready (rs:=[1]) (by kernel_rfl) (by simp) ?_;refine AllReadyIn.cons (o:=⟨some 30,_,_,_,_,_⟩) rfl (fun K9 UV=>?_) AllReadyIn.nil;rw [ZZ (by rfl)];go_simp;refine UV _ _ ?_;exact HA
  rw [ZZ (by rfl)];go_simp;refine UV _ _ ?_;refine wpAnyIn_ready (rs:=[0,3]) (by kernel_rfl) (by simp) ?_;refine AllReadyIn.cons (o:=⟨some 29,_,_,_,_,_⟩) rfl (fun K9 UV=>?_) (AllReadyIn.cons (o:=⟨some 32,_,_,_,_,_⟩) rfl (fun K9 UV=>?_) AllReadyIn.nil)
  · rw [ZZ (by rfl)]
    go_simp;refine UV _ _ ?_;exact HA
  rw [ZZ (by rfl)];go_simp;refine ⟨trivial,(XM.2 CALL.out).mono ?_⟩;rintro e W' ⟨rfl,j1,k1,i1⟩;refine UV _ _ ?_;have a9:=j1.bx.cell;refine wpAnyIn_ready (rs:=[0]) (by kernel_rfl) (by simp) ?_;refine AllReadyIn.cons (o:=⟨some 29,_,_,_,_,_⟩) rfl (fun K9 UV=>?_) AllReadyIn.nil;rw [ZZ (by rfl)];go_simp;refine UV _ _ ?_;exact HT _ j1 k1 i1
end
section
open Go.RowKit Go.Shelf
def lw (xs:List Int) (i n:Nat):Nat:=if n≤1 then 0 else if xs.length=0 then i*7 % n else ((xs.getD (i % xs.length) 0).toNat+i / xs.length) % n
theorem jb (xs:List Int) (i n:Nat) (h:1≤n):lw xs i n<n:=by
 unfold lw
 by_cases h1:n≤1
 · rw [ZZ h1];omega
 rw [Z1 h1]
 split
 · exact SG _ (by omega)
 exact SG _ (by omega)
theorem uW (w:World) (b o m cap:Nat) (i n x:Nat) (hm:0<m) (hm1:m≤1099511627776) (hx:x<256) (hc:w.cell? ⟨b,o+i % m,none⟩=some (.int .u8 (x:Int))) (hi:i≤1099511627776) (hn:1<n) (hn1:n≤1099511627776) :
    Calls Tryz.prog 4 #[.slice (some ⟨b,o,none⟩) m cap,.int .i64 i,.int .i64 n] w fun e w'=>e=.returned (.int .i64 (((x+i / m) % n:Nat):Int))∧∃q,w'=w.drewN q:=by
 have h1:¬(n:Int)≤1:=by omega
 have h2:((m:Int) == 0)=false:=Vy.2 (by omega);have h3:i % m<m:=SG _ hm;have h4:(i:Int) % (m:Int)=((i % m:Nat):Int):=by omega
 have h5:(i:Int) / (m:Int)=((i / m:Nat):Int):=by omega
 have h6:i / m≤i:=Ea _ _;generalize i % m=a at *;generalize i / m=d at *;have h7:((m:Int) == 0)=false:=h2;have h8:((n:Int) == 0)=false:=Vy.2 (by omega)
 go_enter Tryz.func4,Tryz.ntmps4
 go_wp2
 go_quiet (fail)
 go_wp2;go_ret;exact ⟨Ta (by rw [Int.natCast_emod,Int.natCast_add]),_,rfl⟩
theorem uV (w:World) (v:Value) (i n:Nat) (hn:n≤1) :
    Calls Tryz.prog 4 #[v,.int .i64 i,.int .i64 n] w fun e w'=>e=.returned (.int .i64 0)∧w'=w:=by
 have h1:(n:Int)≤1:=by omega
 go_enter Tryz.func4,Tryz.ntmps4
 go_wp2;go_ret;exact ⟨rfl,rfl⟩
theorem Gg (w:World) (ao:Option Addr) (cap i n:Nat) (hn:1<n) (hn1:n≤1099511627776) (hi:i≤1099511627776) :
    Calls Tryz.prog 4 #[.slice ao 0 cap,.int .i64 i,.int .i64 n] w fun e w'=>e=.returned (.int .i64 ((i*7 % n:Nat):Int))∧w'=w:=by
 have h1:¬(n:Int)≤1:=by omega
 have h8:((n:Int) == 0)=false:=Vy.2 (by omega)
 go_enter Tryz.func4,Tryz.ntmps4
 go_wp2;go_ret;exact ⟨rfl,rfl⟩
theorem uU (w:World) (v:Value) (xs:List Int) (i n:Nat) (h:Rd .u8 w v xs) (hby:∀x ∈ xs,0≤x∧x<256) (hl:xs.length≤1099511627776) (hi:i≤1099511627776) (hn1:n≤1099511627776) :
    Calls Tryz.prog 4 #[v,.int .i64 i,.int .i64 n] w fun e w'=>e=.returned (.int .i64 ((lw xs i n:Nat):Int))∧∃q,w'=w.drewN q:=by
 unfold lw
 by_cases h1:n≤1
 · rw [ZZ h1]
   refine (uV w v i n h1).mono ?_;rintro e w' ⟨rfl,rfl⟩;exact ⟨rfl,0,rfl⟩
 rw [Z1 h1];obtain ⟨ao,cap,rfl,k1,k2,k3⟩:=h
 rcases k3 with rfl | ⟨b,o,rfl,hb,hc⟩
 · rw [ZZ (show ([]:List Int).length=0 from rfl)]
   refine (Gg w ao cap i n (by omega) hn1 hi).mono ?_;rintro e w' ⟨rfl,rfl⟩;exact ⟨rfl,0,rfl⟩
 by_cases h0:xs.length=0
 · rw [ZZ h0,h0]
   refine (Gg w _ cap i n (by omega) hn1 hi).mono ?_;rintro e w' ⟨rfl,rfl⟩;exact ⟨rfl,0,rfl⟩
 rw [Z1 h0];have hlt:i % xs.length<xs.length:=SG _ (by omega);have hx:=hby _ (UO hlt);have e:xs.getD (i % xs.length) 0=(((xs.getD (i % xs.length) 0).toNat:Nat):Int):=by
  simp only [List.getD,Xc hlt,PM];omega
 have hc':=hc _ hlt;rw [e] at hc';exact uW w b o xs.length cap i n _ (by omega) hl (by simp only [List.getD,Xc hlt,PM];omega) hc' hi (by omega) hn1
def U1 (n:Nat):Nat→Code→Code
 | 0,c=>c
 | k+1,.seq (.region i o d) b=>match i == n with
  | true=>.seq (.region i o d) b
  | false=>U1 n k b
 | k+1,.seq (.seq (.region i o d) a) b=>match i == n with
  | true=>.seq (.seq (.region i o d) a) b
  | false=>U1 n k b
 | k+1,.seq _ b=>U1 n k b
 | _,c=>c
def PQ (f:Func):Code:=match f.body with
 | some c=>c
 | none=>.skip
def Ej:Code→Code
 | .seq a _=>a
 | c=>c
theorem qf {w W:World} {ZN:Act→World→Prop} {g gc f:Nat} {t0 t1 t2 t3 t4 t5 t6 t7 t8 t9 t11 t12 t13 t15 t16 t18 t19 t20 t21 t22 t23 t24 t25 t26 t27 t28 t29 t30 t31 t32 t33 t34 t35 t36 t37 t38 t39 t40 t41 t42 t43 t44 t45 t46 t47 t48 t49 t50 t51 t52 t53 t54 t55 t56 t57 t58 t59 t60 t61 t62 t63 t64 t65 t66 t67 t68 t69 t70 t71 t72 t73 t74 t75 t76 t77 t78 t79 t80 t81 t82 t83 t84 t85 t86 t87 t88 t89 t90 t91 t92 t93 t94 t95 t96 t97 t98 t99 t100 t101 t102 t103 t104 t105 t106 t107 t108 t109 t110 t111 t112 t113 t114 t115 t116 t117 t118 t119 t120 t121 t122 t123 t124 t125 t126 t127 t128 t129 t130 t131 t132 t133 t134 t135 t136 t137 t138 t139 t140 t141 t142 t143 t144 t145 t146 t147 t148 t149 t150 t151 t152 t153 t154 t155 t156 t157 t158 t159 t160 t161 t162 t163 t164 t165 t166 t167 t168 t169 t170 t171 t172 t173 t174 t175 t176 t177 t178 t179 t180 t181 t182:Value} (M:∀a w',Code.ret.wp Tryz.prog (bodyPost Tryz.prog Tryz.f3 (YI w (.bool true))) a w'→ZN a w') (hf:f≤110) (h4:W.cell? ⟨g,114,none⟩=some (.string (tl wL [f+1]))) (hb:ZX w W) :
    (Ej (U1 44 80 (PQ Tryz.f3))).wp Tryz.prog (Exit.then ZN (bodyPost Tryz.prog Tryz.f3 (YI w (.bool true)))) { tmps:=#[t0,t1,t2,t3,t4,t5,t6,t7,t8,t9,.slice (some ⟨g,0,none⟩) 116 gc,t11,t12,t13,.int .i64 (f:Int),t15,t16,.string (tl wQ [f+2]),t18,t19,t20,t21,t22,t23,t24,t25,t26,t27,t28,t29,t30,t31,t32,t33,t34,t35,t36,t37,t38,t39,t40,t41,t42,t43,t44,t45,t46,t47,t48,t49,t50,t51,t52,t53,t54,t55,t56,t57,t58,t59,t60,t61,t62,t63,t64,t65,t66,t67,t68,t69,t70,t71,t72,t73,t74,t75,t76,t77,t78,t79,t80,t81,t82,t83,t84,t85,t86,t87,t88,t89,t90,t91,t92,t93,t94,t95,t96,t97,t98,t99,t100,t101,t102,t103,t104,t105,t106,t107,t108,t109,t110,t111,t112,t113,t114,t115,t116,t117,t118,t119,t120,t121,t122,t123,t124,t125,t126,t127,t128,t129,t130,t131,t132,t133,t134,t135,t136,t137,t138,t139,t140,t141,t142,t143,t144,t145,t146,t147,t148,t149,t150,t151,t152,t153,t154,t155,t156,t157,t158,t159,t160,t161,t162,t163,t164,t165,t166,t167,t168,t169,t170,t171,t172,t173,t174,t175,t176,t177,t178,t179,t180,t181,t182],defers:=[] } W:=by
 have hk4:=YJ W _ h4;obtain ⟨a4,Zx⟩:∃a,a=tl wL [f+1]:=⟨_,rfl⟩;obtain ⟨a5,Zw⟩:∃a,a=tl wQ [f+2]:=⟨_,rfl⟩;rw [←Zx] at h4;rw [←Zw];have A4:=Z3 Zx;have A5:=Z3 Zw;have B0:ZX w W.drew:=hb.trans ((below_drewN' W 1).mono hb.size);have h4':W.drew.cell? ⟨g,114,none⟩=some (.string a4):=h4;have ZI:=Z3 M;have hw0:IntKind.i64.wrap 114=114:=by rw [XK];rfl
 have hw1:IntKind.i64.wrap (1+(f:Int))=1+(f:Int):=by rw [XK];omega
 have hw2:IntKind.i64.wrap (2+(f:Int))=2+(f:Int):=by rw [XK];omega
 clear Zx Zw hb h4 M
 conv in (Ej _)=>simp only [PQ,Tryz.f3,U1,Ej,Nat.reduceBEq]
 refine ZH (S:=fun W'=>W'.cell? ⟨g,114,none⟩=some (.string a4)∧ZX w W') (by kernel_rfl) ⟨h4',B0⟩ (fun Z9=>?_);generalize W.drew=w1 at *;refine TO (i:=0) (oi:=⟨some 164,_,_,_,_,_⟩) (v:=?v1) rfl (by kernel_rfl) (fun _ _ _ h=>h) (Or.inl ⟨by rfl,?hy1⟩) Z9 ?ju
 case hy1 =>
  intro w9 Z0;have e9:=Z0.1;clear Z0;go_simp
  try with_reducible rfl
 refine TO (i:=1) (oi:=⟨some 165,_,_,_,_,_⟩) (v:=?v2) rfl (by kernel_rfl) (fun _ _ _ h=>h) (Or.inl ⟨by rfl,?hy2⟩) Z9 ?qj
 case hy2 =>
  intro w9 Z0;have e9:=Z0.1;clear Z0;go_simp
  try with_reducible rfl
 refine TO (i:=2) (oi:=⟨some 166,_,_,_,_,_⟩) (v:=?v3) rfl (by kernel_rfl) (fun _ _ _ h=>h) (Or.inl ⟨by rfl,?hy3⟩) Z9 ?jt
 case hy3 =>
  intro w9 Z0;have e9:=Z0.1;clear Z0;go_simp
  try with_reducible rfl
 refine TO (i:=3) (oi:=⟨some 167,_,_,_,_,_⟩) (v:=?v4) rfl (by kernel_rfl) (fun _ _ _ h=>h) (Or.inl ⟨by rfl,?hy4⟩) Z9 ?js
 case hy4 =>
  intro w9 Z0;have e9:=Z0.1;clear Z0;go_simp
  try with_reducible rfl
 refine TO (i:=4) (oi:=⟨some 168,_,_,_,_,_⟩) (v:=?v5) rfl (by kernel_rfl) (fun _ _ _ h=>h) (Or.inl ⟨by rfl,?FF⟩) Z9 ?qi
 case FF =>
  intro w9 Z0;have e9:=Z0.1;clear Z0;go_simp
  try with_reducible rfl
 refine TO (i:=5) (oi:=⟨some 169,_,_,_,_,_⟩) (v:=?v6) rfl (by kernel_rfl) (fun _ _ _ h=>h) (Or.inl ⟨by rfl,?tX⟩) Z9 ?jr
 case tX =>
  intro w9 Z0;have e9:=Z0.1;clear Z0;go_simp
  try with_reducible rfl
 refine TO (i:=6) (oi:=⟨some 170,_,_,_,_,_⟩) (v:=?v7) rfl (by kernel_rfl) (fun _ _ _ h=>h) (Or.inl ⟨by rfl,?tW⟩) Z9 ?jq
 case tW =>
  intro w9 Z0;have e9:=Z0.1;clear Z0;go_simp
  try with_reducible rfl
 refine TO (i:=7) (oi:=⟨some 171,_,_,_,_,_⟩) (v:=?v8) rfl (by kernel_rfl) (fun _ _ _ h=>h) (Or.inl ⟨by rfl,?s8⟩) Z9 ?jp
 case s8 =>
  intro w9 Z0;have e9:=Z0.1;clear Z0;go_simp
  try with_reducible rfl
 refine ZU 8 rfl (fun K hK=>?_);have N9:ZX w1 (w1.alloc (.cells #[.int .i64 (1+(f:Int))] 2)):=ZJ.alloc ZT _;have C9:Hid ((w1.alloc (.cells #[.int .i64 (1+(f:Int))] 2)).cell? ⟨w1.heap.size,0,none⟩=some (.int .i64 ((f+1:Nat):Int))):=by
  show _=_;rw [Xn _ w1.heap.size 0 _ _ _ (Y9 w1 _),show ((f+1:Nat):Int)=1+(f:Int) by omega]
  rfl
 go_simp;have hH2:(w1.alloc (.cells #[.int .i64 (1+(f:Int))] 2)).cell? ⟨g,114,none⟩=some (.string a4)∧ZX w (w1.alloc (.cells #[.int .i64 (1+(f:Int))] 2)):=⟨(N9.cell (YJ w1 _ Z9.1)).trans Z9.1,Z9.2.trans (N9.mono Z9.2.size)⟩;refine hK.out _ _ hH2 (fun ZM=>?_);clear hK K ZM N9 Z9;have Z9:=hH2;clear hH2;have S9:=Z3 (PV _ wL _ 0 1 (f+1) C9.out (by omega) (by decide));clear C9;generalize w1.alloc _=w2 at *;refine ZU 9 rfl (fun K hK=>?_);go_simp;refine S9.out.mono ?_;rintro e w3 ⟨rfl,b3⟩;rw [show tl wL [f+1]=a4 from A4.out.symm];have hH2:w3.cell? ⟨g,114,none⟩=some (.string a4)∧ZX w w3:=⟨(b3.cell (YJ w2 _ Z9.1)).trans Z9.1,Z9.2.trans (b3.mono Z9.2.size)⟩;refine hK.out _ _ hH2 (fun ZM=>?_);clear hK K ZM b3 Z9 S9;have Z9:=hH2;clear hH2;generalize w3=w1 at *;refine TO (i:=10) (oi:=⟨some 174,_,_,_,_,_⟩) (v:=?v9) rfl (by kernel_rfl) (fun _ _ _ h=>h) (Or.inl ⟨by rfl,?ov⟩) Z9 ?jo
 case ov =>
  intro w9 Z0;have e9:=Z0.1;clear Z0;go_simp
  try with_reducible rfl
 refine TO (i:=11) (oi:=⟨some 175,_,_,_,_,_⟩) (v:=?v10) rfl (by kernel_rfl) (fun _ _ _ h=>h) (Or.inl ⟨by rfl,?Fg⟩) Z9 ?mJ
 case Fg =>
  intro w9 Z0;have e9:=Z0.1;clear Z0;go_simp
  try with_reducible rfl
 refine TO (i:=12) (oi:=⟨some 176,_,_,_,_,_⟩) (v:=?v11) rfl (by kernel_rfl) (fun _ _ _ h=>h) (Or.inl ⟨by rfl,?NH⟩) Z9 ?YS
 case NH =>
  intro w9 Z0;have e9:=Z0.1;clear Z0;go_simp
  try with_reducible rfl
 refine TO (i:=13) (oi:=⟨some 177,_,_,_,_,_⟩) (v:=?v12) rfl (by kernel_rfl) (fun _ _ _ h=>h) (Or.inl ⟨by rfl,?Fh⟩) Z9 ?YR
 case Fh =>
  intro w9 Z0;have e9:=Z0.1;clear Z0;go_simp
  try with_reducible rfl
 refine TO (i:=14) (oi:=⟨some 178,_,_,_,_,_⟩) (v:=?v13) rfl (by kernel_rfl) (fun _ _ _ h=>h) (Or.inl ⟨by rfl,?oA⟩) Z9 ?YQ
 case oA =>
  intro w9 Z0;have e9:=Z0.1;clear Z0;go_simp
  try with_reducible rfl
 refine ZU 15 rfl (fun K hK=>?_);have N9:ZX w1 (w1.alloc (.cells #[.int .i64 (2+(f:Int))] 2)):=ZJ.alloc ZT _;have C9:Hid ((w1.alloc (.cells #[.int .i64 (2+(f:Int))] 2)).cell? ⟨w1.heap.size,0,none⟩=some (.int .i64 ((f+2:Nat):Int))):=by
  show _=_;rw [Xn _ w1.heap.size 0 _ _ _ (Y9 w1 _),show ((f+2:Nat):Int)=2+(f:Int) by omega]
  rfl
 go_simp;have hH2:(w1.alloc (.cells #[.int .i64 (2+(f:Int))] 2)).cell? ⟨g,114,none⟩=some (.string a4)∧ZX w (w1.alloc (.cells #[.int .i64 (2+(f:Int))] 2)):=⟨(N9.cell (YJ w1 _ Z9.1)).trans Z9.1,Z9.2.trans (N9.mono Z9.2.size)⟩;refine hK.out _ _ hH2 (fun ZM=>?_);clear hK K ZM N9 Z9;have Z9:=hH2;clear hH2;have S9:=Z3 (PV _ wQ _ 0 1 (f+2) C9.out (by omega) (by decide));clear C9;generalize w1.alloc _=w2 at *;refine ZU 16 rfl (fun K hK=>?_);go_simp;refine S9.out.mono ?_;rintro e w3 ⟨rfl,b3⟩;rw [show tl wQ [f+2]=a5 from A5.out.symm];have hH2:w3.cell? ⟨g,114,none⟩=some (.string a4)∧ZX w w3:=⟨(b3.cell (YJ w2 _ Z9.1)).trans Z9.1,Z9.2.trans (b3.mono Z9.2.size)⟩;refine hK.out _ _ hH2 (fun ZM=>?_);clear hK K ZM b3 Z9 S9;have Z9:=hH2;clear hH2;generalize w3=w1 at *;refine TO (i:=17) (oi:=⟨some 181,_,_,_,_,_⟩) (v:=?v14) rfl (by kernel_rfl) (fun _ _ _ h=>h) (Or.inl ⟨by rfl,?oz⟩) Z9 ?YN
 case oz =>
  intro w9 Z0;have e9:=Z0.1;clear Z0;go_simp
  try with_reducible rfl
 refine TO (i:=18) (oi:=⟨some 182,_,_,_,_,_⟩) (v:=?v15) rfl (by kernel_rfl) (fun _ _ _ h=>h) (Or.inl ⟨by rfl,?Zc⟩) Z9 ?YL
 case Zc =>
  intro w9 Z0;have e9:=Z0.1;clear Z0;go_simp
  try with_reducible rfl
 refine TO (i:=19) (oi:=⟨some 2,_,_,_,_,_⟩) (v:=?v16) rfl (by kernel_rfl) (fun _ _ _ h=>h) (Or.inl ⟨by rfl,?ou⟩) Z9 ?YH
 case ou =>
  intro w9 Z0;have e9:=Z0.1;clear Z0;go_simp
  try with_reducible rfl
 refine ZP (by kernel_rfl) (ZI.out _ _ ?_) _
 try simp only [Act.put,Y8,Y7,Y6]
 have FIN:=Z3 Z9.2;clear Z9 ZI;go_wp2;go_ret;exact ⟨rfl,FIN.out⟩
theorem uT {S L n:Nat} (h:Zp n≤L*64) :
    (47+n≤S*64→YA S L n 114=tl wL [YC L n+1]∧YA S L n 115=tl wQ [YC L n+2]) ∧
    (¬47+n≤S*64→YA S L n 114=wU∧YA S L n 115=if 110<Ym L n then tl wQ [YC L n+2] else tl wE [8]):=by
 constructor
 · intro h1
   constructor
   · unfold YA;rw [ZZ h];show (if 47+n≤S*64 then _ else _)=_;rw [ZZ h1]
   unfold YA;rw [ZZ h];show (if 47+n≤S*64∨110<Ym L n then _ else _)=_;rw [ZZ (.inl h1)]
 intro h1
 constructor
 · unfold YA;rw [ZZ h];show (if 47+n≤S*64 then _ else _)=_;rw [Z1 h1]
 unfold YA;rw [ZZ h];show (if 47+n≤S*64∨110<Ym L n then _ else _)=_
 by_cases h2:110<Ym L n
 · rw [ZZ (.inr h2),ZZ h2]
 rw [Z1 (by omega),Z1 h2]
theorem qe:tl wE [8]=⟨#[101,114,114,111,114,32,56]⟩:=by decide +kernel
theorem ja:tl wE [2]=⟨#[101,114,114,111,114,32,50]⟩:=by decide +kernel
theorem i8:tl wQ [1]=⟨#[113,117,101,117,101,100,32,49]⟩:=by decide +kernel
theorem i7:tl wF [1,1]=⟨#[102,108,117,115,104,101,100,32,49,32,49]⟩:=by decide +kernel
theorem i6:∀z,z<200→((tl wQ [z]).toList == [101,114,114,111,114,32,56])=false:=by decide +kernel
theorem iZ {w W:World} {J g gc S L n:Nat} {t0 t1 t2 t5 t6 t7 t8 t9 t11 t12 t13 t15 t16 t17 t18 t19 t20 t21 t22 t23 t24 t25 t26 t27 t28 t29 t30 t31 t32 t33 t34 t35 t36 t37 t38 t39 t40 t41 t42 t43 t44 t45 t46 t47 t48 t49 t50 t51 t52 t53 t54 t55 t56 t57 t58 t59 t60 t61 t62 t63 t64 t65 t66 t67 t68 t69 t70 t71 t72 t73 t74 t75 t76 t77 t78 t79 t80 t81 t82 t83 t84 t85 t86 t87 t88 t89 t90 t91 t92 t93 t94 t95 t96 t97 t98 t99 t100 t101 t102 t103 t104 t105 t106 t107 t108 t109 t110 t111 t112 t113 t114 t115 t116 t117 t118 t119 t120 t121 t122 t123 t124 t125 t126 t127 t128 t129 t130 t131 t132 t133 t134 t135 t136 t137 t138 t139 t140 t141 t142 t143 t144 t145 t146 t147 t148 t149 t150 t151 t152 t153 t154 t155 t156 t157 t158 t159 t160 t161 t162 t163 t164 t165 t166 t167 t168 t169 t170 t171 t172 t173 t174 t175 t176 t177 t178 t179 t180 t181 t182:Value} (hn:n≤64) (hS:1≤S∧S≤64) (hL:1≤L∧L≤64) (hm:Zp n≤L*64) (cS:W.cell? ⟨J,0,none⟩=some (.int .i64 (S:Int))) (h4:W.cell? ⟨g,114,none⟩=some (.string (YA S L n 114))) (h5:W.cell? ⟨g,115,none⟩=some (.string (YA S L n 115))) (hb:ZX w W) :
    (U1 39 80 (PQ Tryz.f3)).wp Tryz.prog (bodyPost Tryz.prog Tryz.f3 (YI w (.bool true))) { tmps:=#[t0,t1,t2,.pointer (some ⟨J,0,none⟩),.int .i64 (n:Int),t5,t6,t7,t8,t9,.slice (some ⟨g,0,none⟩) 116 gc,t11,t12,t13,.int .i64 (Ym L n:Int),t15,t16,t17,t18,t19,t20,t21,t22,t23,t24,t25,t26,t27,t28,t29,t30,t31,t32,t33,t34,t35,t36,t37,t38,t39,t40,t41,t42,t43,t44,t45,t46,t47,t48,t49,t50,t51,t52,t53,t54,t55,t56,t57,t58,t59,t60,t61,t62,t63,t64,t65,t66,t67,t68,t69,t70,t71,t72,t73,t74,t75,t76,t77,t78,t79,t80,t81,t82,t83,t84,t85,t86,t87,t88,t89,t90,t91,t92,t93,t94,t95,t96,t97,t98,t99,t100,t101,t102,t103,t104,t105,t106,t107,t108,t109,t110,t111,t112,t113,t114,t115,t116,t117,t118,t119,t120,t121,t122,t123,t124,t125,t126,t127,t128,t129,t130,t131,t132,t133,t134,t135,t136,t137,t138,t139,t140,t141,t142,t143,t144,t145,t146,t147,t148,t149,t150,t151,t152,t153,t154,t155,t156,t157,t158,t159,t160,t161,t162,t163,t164,t165,t166,t167,t168,t169,t170,t171,t172,t173,t174,t175,t176,t177,t178,t179,t180,t181,t182],defers:=[] } W:=by
 obtain ⟨l1,l2⟩:=uT (S:=S) hm;have ht:YC L n≤110:=Mq _ _;have hft:YC L n=min 110 (Ym L n):=rfl;have YB:Ym L n≤4096:=by unfold Ym;exact ZF (Ea _ _) (by omega)
 have hk4:=YJ W _ h4;have HB:=Z3 hb;have Yg:IntKind.i64.wrap ((S:Int)*64)=(S:Int)*64:=by rw [XK];omega
 clear hb
 conv in (U1 _ _ _)=>simp only [PQ,Tryz.f3,U1,Nat.reduceBEq]
 by_cases hc:47+n≤S*64
 · obtain ⟨e4,e5⟩:=l1 hc
   rw [e4] at h4;rw [e5] at h5;have hcI:¬(S:Int)*64<47+(n:Int):=by omega
   clear l1 l2 e4 e5 hm
   by_cases hf:110<Ym L n
   · have nz:(110:Int)<(Ym L n:Int):=by omega
     have e9:YC L n=110:=by omega
     rw [e9] at h4 h5;clear hft ht e9;have H4:=Z3 h4;clear h4
     go_wp2_with fail
     rename_i ZN M;exact qf (f:=110) M (by omega) H4.out HB.out
   have nz:¬(110:Int)<(Ym L n:Int):=by omega
   have e9:YC L n=Ym L n:=by omega
   rw [e9] at h4 h5;clear hft ht e9;have H4:=Z3 h4;clear h4
   go_wp2_with fail
   rename_i ZN M;exact qf (f:=Ym L n) M (by omega) H4.out HB.out
 obtain ⟨e4,e5⟩:=l2 hc;rw [e4] at h4;rw [e5] at h5;have hcI:(S:Int)*64<47+(n:Int):=by omega
 have hU:(wU.toList == [115,110,97,112,102,117,108,108])=true:=by decide +kernel
 clear l1 l2 e4 e5 hm hft;generalize wU=u at *
 by_cases hf:110<Ym L n
 · rw [ZZ hf] at h5
   have nz:¬(Ym L n:Int)≤110:=by omega
   have hE:=i6 (YC L n+2) (by omega);generalize tl wQ [YC L n+2]=a5 at *;go_wp2;go_ret;exact ⟨rfl,HB.out⟩
 rw [Z1 hf] at h5;have nz:(Ym L n:Int)≤110:=by omega
 have hE:((tl wE [8]).toList == [101,114,114,111,114,32,56])=true:=by decide +kernel
 generalize tl wE [8]=a5 at *;go_wp2;go_ret;exact ⟨rfl,HB.out⟩
theorem iY {w W:World} {J g gc lc S L n:Nat} {la:Option Addr} {t0 t1 t2 t5 t6 t7 t9 t11 t12 t13 t14 t15 t16 t17 t18 t19 t20 t21 t22 t23 t24 t25 t26 t27 t28 t29 t30 t31 t32 t33 t34 t35 t36 t37 t38 t39 t40 t41 t42 t43 t44 t45 t46 t47 t48 t49 t50 t51 t52 t53 t54 t55 t56 t57 t58 t59 t60 t61 t62 t63 t64 t65 t66 t67 t68 t69 t70 t71 t72 t73 t74 t75 t76 t77 t78 t79 t80 t81 t82 t83 t84 t85 t86 t87 t88 t89 t90 t91 t92 t93 t94 t95 t96 t97 t98 t99 t100 t101 t102 t103 t104 t105 t106 t107 t108 t109 t110 t111 t112 t113 t114 t115 t116 t117 t118 t119 t120 t121 t122 t123 t124 t125 t126 t127 t128 t129 t130 t131 t132 t133 t134 t135 t136 t137 t138 t139 t140 t141 t142 t143 t144 t145 t146 t147 t148 t149 t150 t151 t152 t153 t154 t155 t156 t157 t158 t159 t160 t161 t162 t163 t164 t165 t166 t167 t168 t169 t170 t171 t172 t173 t174 t175 t176 t177 t178 t179 t180 t181 t182:Value} (hn:n≤64) (hS:1≤S∧S≤64) (hL:1≤L∧L≤64) (cS:W.cell? ⟨J,0,none⟩=some (.int .i64 (S:Int))) (cL:W.cell? ⟨J,1,none⟩=some (.int .i64 (L:Int))) (hg:∀i,i<116→W.cell? ⟨g,i,none⟩=some (.string (YA S L n i))) (hb:ZX w W) :
    (U1 21 80 (PQ Tryz.f3)).wp Tryz.prog (bodyPost Tryz.prog Tryz.f3 (YI w (.bool true))) { tmps:=#[t0,t1,t2,.pointer (some ⟨J,0,none⟩),.int .i64 (n:Int),t5,t6,t7,.slice la 116 lc,t9,.slice (some ⟨g,0,none⟩) 116 gc,t11,t12,t13,t14,t15,t16,t17,t18,t19,t20,t21,t22,t23,t24,t25,t26,t27,t28,t29,t30,t31,t32,t33,t34,t35,t36,t37,t38,t39,t40,t41,t42,t43,t44,t45,t46,t47,t48,t49,t50,t51,t52,t53,t54,t55,t56,t57,t58,t59,t60,t61,t62,t63,t64,t65,t66,t67,t68,t69,t70,t71,t72,t73,t74,t75,t76,t77,t78,t79,t80,t81,t82,t83,t84,t85,t86,t87,t88,t89,t90,t91,t92,t93,t94,t95,t96,t97,t98,t99,t100,t101,t102,t103,t104,t105,t106,t107,t108,t109,t110,t111,t112,t113,t114,t115,t116,t117,t118,t119,t120,t121,t122,t123,t124,t125,t126,t127,t128,t129,t130,t131,t132,t133,t134,t135,t136,t137,t138,t139,t140,t141,t142,t143,t144,t145,t146,t147,t148,t149,t150,t151,t152,t153,t154,t155,t156,t157,t158,t159,t160,t161,t162,t163,t164,t165,t166,t167,t168,t169,t170,t171,t172,t173,t174,t175,t176,t177,t178,t179,t180,t181,t182],defers:=[] } W:=by
 have Yf:IntKind.i64.wrap ((L:Int)*64)=(L:Int)*64:=by rw [XK];omega
 have HG:=Z3 hg;have HB:=Z3 hb;have CS:=Z3 cS;have h0:=hg 0 (by omega);have h1:=hg 1 (by omega);have h2:=hg 2 (by omega);clear hg hb cS
 conv in (U1 _ _ _)=>simp only [PQ,Tryz.f3,U1,Nat.reduceBEq]
 go_upto_region 26 with fail
 have e1:(2+(8*(55+(n:Int))+6) / 7)=(Zp n:Int):=by unfold Zp;omega
 have e2:(2+(8*(31+(n:Int))+6) / 7)=(Ze n:Int):=by unfold Ze;omega
 rw [e1,e2];clear e1 e2;have hmb:Zp n≤139:=by unfold Zp;omega
 have Yy:2≤Ze n∧Ze n≤111:=by unfold Ze;omega
 by_cases hm:Zp n≤L*64
 · have ii:¬(L:Int)*64<(Zp n:Int):=by omega
   have a0:YA S L n 0=tl wQ [1]:=by unfold YA;rw [ZZ hm];rfl
   have a1:YA S L n 1=tl wF [1,1]:=by unfold YA;rw [ZZ hm];rfl
   rw [a0,i8] at h0;rw [a1,i7] at h1;have HM:=Z3 hm;have hq:((L:Int)*64 - (Zp n:Int)) / (Ze n:Int)=(Ym L n:Int):=by
    unfold Ym;rw [show (L:Int)*64 - (Zp n:Int)=((L*64 - Zp n:Nat):Int) by omega,←Int.natCast_ediv]
   have HQ:=Z3 hq;have hd0:0≤(L:Int)*64 - (Zp n:Int):=by omega
   have hws:IntKind.i64.wrap ((L:Int)*64 - (Zp n:Int))=(L:Int)*64 - (Zp n:Int):=by rw [XK];omega
   have Zb:((Ze n:Int) == 0)=false:=Mj (by omega);clear a0 a1 hm h2 hq;obtain ⟨md,hmd⟩:∃x,x=Zp n:=⟨_,rfl⟩;obtain ⟨ea,iy⟩:∃x,x=Ze n:=⟨_,rfl⟩;rw [←hmd] at hmb ii hd0 hws HQ ⊢;rw [←iy] at Yy Zb HQ ⊢;clear hmd iy
   go_upto_region 31 with fail
   rw [HQ.out];rename_i KR G KL Ye;have ZK:=Z3 G;have YB:Ym L n≤4096:=by unfold Ym;exact ZF (Ea _ _) (by omega)
   have Yx:Hid (∀i,i<110→YA S L n (i+2)=if i<Ym L n then tl wQ [i+2] else ⟨#[101,114,114,111,114,32,56]⟩):=fun i hi=>by
    unfold YA;rw [ZZ HM.out,Z1 (by omega),Z1 (by omega),ZZ (by omega),←qe]
    rfl
   clear G HQ h0 h1 cL hws Zb hd0
   go_wp2_with fail
   go_loopw [15,16] (fun v15 v16 wr=>∃i:Nat,v15=.int .i64 (i:Int)∧i≤110∧Hid (ZX W wr)) (fun v _ _=>110 - (intOf v).toNat)
   case atStart=>exact ⟨0,rfl,by omega,ZJ⟩
   case round =>
    obtain ⟨i,rfl,hi,HR⟩:=hrel
    by_cases hlt:i<110
    · have Vp:(i:Int)<110:=by omega
      have hc:=(HR.out.cell (YJ W _ (HG.out (i+2) (by omega)))).trans (HG.out (i+2) (by omega));rw [Yx.out i hlt] at hc;have hw2:IntKind.i64.wrap (2+(i:Int))=2+(i:Int):=by rw [XK];omega
      have hix:0≤2+(i:Int):=by omega
      have Ys:2+(i:Int)<116:=by omega
      have hto:(2+(i:Int)).toNat=i+2:=by omega
      by_cases hf:i<Ym L n
      · have nz:(i:Int)<(Ym L n:Int):=by omega
        rw [ZZ hf] at hc;have S9:Hid (Calls Tryz.prog 8 #[.string wQ,.slice (some ⟨wr.heap.size,0,none⟩) 1 1] (wr.alloc (.cells #[.int .i64 (2+(i:Int))] 2)) (YI wr (.string (tl wQ [i+2])))):=by
         have N9:ZX wr (wr.alloc (.cells #[.int .i64 (2+(i:Int))] 2)):=ZJ.alloc ZT _;refine (PV _ wQ _ 0 1 (i+2) ?_ (by omega) (by decide)).mono (fun e w' h=>⟨h.1,YV N9 h.2⟩);rw [Xn _ wr.heap.size 0 _ _ _ (Y9 wr _),show ((i+2:Nat):Int)=2+(i:Int) by omega]
         rfl
        generalize tl wQ [i+2]=a9 at *;have HC:=Z3 hc;clear hc
        go_wp2_with fail
        refine S9.out.mono ?_;rintro e w3 ⟨rfl,b3⟩;have hc:=(b3.cell (YJ wr _ HC.out)).trans HC.out;have R3:=Z3 (YV HR.out b3);clear b3 S9 HC
        go_wp2_with fail
        exact ⟨⟨i+1,by go_num,by omega,R3⟩,by simp [intOf];omega⟩
      have nz:¬(i:Int)<(Ym L n:Int):=by omega
      rw [Z1 hf] at hc
      go_wp2_with fail
      exact ⟨⟨i+1,by go_num,by omega,HR⟩,by simp [intOf];omega⟩
    have hie:i=110:=by omega
    subst hie
    go_wp2_with fail
    refine ZK.out _ _ ?_;have b9:=HR.out;exact iZ hn hS hL HM.out ((b9.cell (YJ W _ CS.out)).trans CS.out) ((b9.cell (YJ W _ (HG.out 114 (by omega)))).trans (HG.out 114 (by omega))) ((b9.cell (YJ W _ (HG.out 115 (by omega)))).trans (HG.out 115 (by omega))) (YV HB.out b9)
 have ii:(L:Int)*64<(Zp n:Int):=by omega
 have a0:YA S L n 0=tl wE [8]:=by unfold YA;rw [Z1 hm];rfl
 have a2:YA S L n 2=tl wE [2]:=by unfold YA;rw [Z1 hm];rfl
 rw [a0,qe] at h0;rw [a2,ja] at h2;clear a0 a2 hm h1;generalize Zp n=md at *;generalize Ze n=ea at *;go_wp2;go_ret;exact ⟨rfl,HB.out⟩
theorem rm (i:Nat):xB i++⟨#[120]⟩=xB (i+1):=by
 apply Lo;rw [Lp];unfold xB;rw [zQ,←Ur]
theorem rk (n:Nat):((⟨#[115,101,116,32,47,97,32]⟩++xB n)++⟨#[32,45,49]⟩:ByteArray)=J8 n:=by
 apply Lo;rw [Lp,Lp];unfold xB J8 Xv xL;apply qb
 simp
theorem rj (n:Nat):(⟨#[99,114,101,97,116,101,32,47,97,32]⟩++xB n:ByteArray)=Gz n:=by
 apply Lo;rw [Lp];unfold xB Gz Xv xL;apply qb
 simp
theorem Xp.eV {w:World} {base:Nat} {v:Value} {xs:List Int} (h:Xp w base v xs):∃g c,v=.slice (some ⟨g,0,none⟩) xs.length c∧Rd .u8 w (.slice (some ⟨g,0,none⟩) xs.length c) xs:=by
 obtain ⟨g,cap,rfl,h1,h2,h3,h4,h5,h6⟩:=h;refine ⟨g,cap,rfl,_,cap,rfl,h3,h4,.inr ⟨g,0,rfl,h2,fun i hi=>?_⟩⟩;refine h5 i _ ?_;rw [Qs,Xc hi,List.getD,Xc hi]
 rfl
theorem uS {m:Int} {te:TypeId} {pe:Value} (w:World) (v:Value) (S L n:Nat) (hn:n≤64) (hn1:1≤n) (hc:YO (S:Int) (L:Int)=true) (hG:rD m te pe w) (h:jv w v (UI n)) :
    Calls Tryz.prog 7 #[v] w fun e w1=>∃v1,e=.returned v1∧ZX w w1∧∀W1,ZX w1 W1 →
     Calls Tryz.prog 6 #[v1,.agg #[.int .i64 (S:Int),.int .i64 (L:Int)]] W1 fun e w2=>∃v2,e=.returned v2∧ZX W1 w2∧∀W2,ZX w2 W2 →
      Calls Tryz.prog 5 #[v2] W2 fun e w3=>∃g c,e=.returned (.slice (some ⟨g,0,none⟩) 116 c)∧ZX W2 w3∧∀i,i<116→w3.cell? ⟨g,i,none⟩=some (.string (YA S L n i)):=by
 have hj:(Zv (UI n)).length≤9396:=by
  have:=JZ (UI n) (fun s hs=>(CQ n hn s hs).2);rw [Vl] at this;omega
 refine (Es w v (UI n) h (by rw [Vl];omega) (by omega)).mono ?_;rintro e w1 ⟨v1,rfl,o1,b1⟩;refine ⟨v1,rfl,b1,fun W1 hW1=>?_⟩;obtain ⟨g1,c1,rfl,r1⟩:=o1.eV;refine (Ay W1 g1 0 _ c1 S L n hn hn1 hc (hG.later (YV b1 hW1)) rfl (r1.below hW1)).mono ?_;rintro e w2 ⟨v2,rfl,o2,b2⟩;refine ⟨v2,rfl,b2,fun W2 hW2=>?_⟩;have hs:=M9 S L n 116;have hz:(qm (PR S L n 116)).size=(Zv (PR S L n 116)).length:=by rw [←U6,vC]
 refine (Gy W2 v2 (qm (PR S L n 116)) (PR S L n 116) (by rw [vC];exact (Own.rd o2).below hW2) (by omega) (by omega) (CV _ (mD S L n 116))).mono ?_;rintro e w3 ⟨v3,rfl,o3,b3⟩;obtain ⟨g,c,rfl,-,-,-,-,hcl⟩:=o3.cells (by rw [J0];omega);rw [J0] at hcl;refine ⟨g,c,by rw [J0],b3,fun i hi=>?_⟩;rw [hcl i hi];unfold ZE;rw [mF S L n 116 i hi]
theorem Aw {m:Int} {te:TypeId} {pe:Value} (w:World) (v:Value) (xs:List Int) (h:Rd .u8 w v xs) (hby:Wm xs) (hG:rD m te pe w) :
    Calls Tryz.prog 3 #[v] w (YI w (.bool true)):=by
 have HR:=Z3 h;have HG:=Z3 hG;have Og:=Z3 hby
 obtain ⟨ao,cap,rfl,-,-⟩:=h;clear hby hG
 by_cases hbig:1048576<xs.length
 · have pi:(1048576:Int)<(xs.length:Int):=by omega
   go_enter Tryz.func3,Tryz.ntmps3
   go_wp2;go_ret;exact ⟨rfl,ZJ⟩
 have pi:¬(1048576:Int)<(xs.length:Int):=by omega
 have HX:Hid (xs.length≤1048576):=by show _≤_;omega
 have HAT:Hid (∀(W:World) (i:Nat),ZX w W→i≤2→Calls Tryz.prog 4 #[.slice ao xs.length cap,.int .i64 (i:Int),.int .i64 64] W fun e w'=>∃r:Nat,e=.returned (.int .i64 (r:Int))∧r<64∧ZX W w'):=fun W i hW hi =>
  (uU W _ xs i 64 (HR.out.below hW) Og.out (by have:=HX.out;omega) (by omega) (by omega)).mono (fun e w' ⟨h1,q,h3⟩=>⟨_,h1,jb xs i 64 (by omega),by rw [h3];exact below_drewN' W q⟩)
 clear hbig HX HR Og;generalize xs.length=xl at *;obtain ⟨iq,rG,hq0,rF,rE⟩:=Yq Tryz.wg
 go_enter Tryz.func3,Tryz.ntmps3
 go_wp2_with fail
 refine (HAT.out w 0 ZJ (by omega)).mono ?_;rintro e w1 ⟨r0,rfl,hr0,b1⟩;obtain ⟨S,hS0⟩:∃S:Nat,(S:Int)=1+(r0:Int):=⟨1+r0,by omega⟩;have hw0:IntKind.i64.wrap (1+(r0:Int))=1+(r0:Int):=by rw [XK];omega
 have B1:=Z3 b1;have oT:=Z3 hS0;clear b1 hS0
 go_wp2_with fail
 refine (HAT.out w1 1 B1.out (by omega)).mono ?_;rintro e w2 ⟨r1,rfl,hr1,b2⟩;obtain ⟨L,hL0⟩:∃L:Nat,(L:Int)=1+(r1:Int):=⟨1+r1,by omega⟩;have hw1:IntKind.i64.wrap (1+(r1:Int))=1+(r1:Int):=by rw [XK];omega
 have B2:=Z3 (YV B1.out b2);have Zt:=Z3 hL0;clear b2 B1 hL0
 go_wp2_with fail
 rw [←oT.out,←Zt.out];have bA:ZX w2 (w2.alloc (.cells #[.int .i64 (S:Int),.int .i64 (L:Int)] 25)):=ZJ.alloc ZT _;have XA:=St.new w2 #[.int .i64 (S:Int),.int .i64 (L:Int)] 25;refine (HAT.out _ 2 (YV B2.out bA) (by omega)).mono ?_;rintro e w3 ⟨r2,rfl,hr2,b3⟩;obtain ⟨n,hn0⟩:∃n:Nat,(n:Int)=1+(r2:Int):=⟨1+r2,by omega⟩;have hw2:IntKind.i64.wrap (1+(r2:Int))=(n:Int):=by rw [XK];omega
 have B3:Hid (ZX w w3):=(YV B2.out bA).trans (b3.mono (YV B2.out bA).size);have X3:=Z3 (XA.below b3);have hS:1≤S∧S≤64:=by have:=oT.out;omega
 have hL:1≤L∧L≤64:=by have:=Zt.out;omega
 have hn:1≤n∧n≤64:=by omega
 have Za:Hid (YO (S:Int) (L:Int)=true):=(Zg _ _).2 ⟨by omega,by omega⟩;clear b3 bA XA B2 hn0 HAT oT Zt hw0 hw1 hr0 hr1;generalize w2.heap.size=J at *
 go_wp2_with fail
 clear hw2 hr2;rename_i KR G;have ZK:=Z3 G;clear G;have X0:Hid (xB 0=⟨#[]⟩):=rfl
 go_loopw [5,6] (fun v5 v6 wr=>∃(i:Nat) (d:ByteArray),v6=.int .i64 (i:Int)∧v5=.string d∧i≤n∧Hid (d=xB i)∧wr=w3) (fun _ v _=>n - (intOf v).toNat)
 case atStart=>exact ⟨0,_,rfl,rfl,Zu _,rfl,rfl⟩
 case round =>
  obtain ⟨i,d,rfl,rfl,hi,HD,hwr⟩:=hrel
  replace hwr:=hwr.symm
  subst hwr;have hds:d.size=i:=by rw [HD.out,WJ]
  have ld:Hid (d.size≤64):=by show _≤_;omega
  by_cases hlt:i<n
  · have Vp:(i:Int)<(n:Int):=by omega
    have HD2:Hid (d++⟨#[120]⟩=xB (i+1)):=by show _=_;rw [HD.out,rm]
    have hdz:d.size≤64:=ld.out;clear hds
    go_wp2_with fail
    exact ⟨⟨i+1,_,by go_num,rfl,by omega,HD2,trivial⟩,by simp [intOf];omega⟩
  have hin:i=n:=by omega
  subst hin;have Vp:¬(i:Int)<(i:Int):=by omega
  clear hds;have hdz:d.size≤64:=ld.out
  go_wp2_with fail
  refine ZK.out _ _ ?_
  go_upto_region 12 with fail
  have est:(⟨#[115,101,116,32,47,97,32]⟩++d++⟨#[32,45,49]⟩:ByteArray)=J8 i:=by rw [HD.out];exact rk i
  have Y':(⟨#[99,114,101,97,116,101,32,47,97,32]⟩++d:ByteArray)=Gz i:=by rw [HD.out];exact rj i
  rw [est,Y'];clear est Y';rename_i Yd ZC Yc Yp;have ZB:=Z3 ZC;clear ZC ZK;obtain ⟨sl,hsl⟩:∃s,s=J8 i:=⟨_,rfl⟩;obtain ⟨cl,hcl⟩:∃s,s=Gz i:=⟨_,rfl⟩;rw [←hsl,←hcl];have nQ:Hid (UI i=cl :: RF :: (List.replicate 110 sl++[RF,FV,C3,sl])):=by show _=_;rw [hsl,hcl];rfl
  clear hsl hcl;have O0:Hid (Vs (w3.alloc (.cells #[.string cl,.string ⟨#[102,108,117,115,104]⟩] 9)) w3.heap.size (.slice (some ⟨w3.heap.size,0,none⟩) 2 2) (cl :: RF :: List.replicate 0 sl)):=OO (base:=w3.heap.size) (e:=9) (size:=1) w3 #[.string cl,.string ⟨#[102,108,117,115,104]⟩] 2 ZT (by decide) rfl;have B0:Hid (ZX w3 (w3.alloc (.cells #[.string cl,.string ⟨#[102,108,117,115,104]⟩] 9))):=ZJ.alloc ZT _;generalize w3.alloc _=w4 at *
  go_wp2_with fail
  go_loopw [8,9] (fun v8 v9 wr=>∃(j g co:Nat),v9=.int .i64 (j:Int)∧v8=.slice (some ⟨g,0,none⟩) (j+2) co∧j≤110∧Hid (Vs wr w3.heap.size (.slice (some ⟨g,0,none⟩) (j+2) co) (cl :: RF :: List.replicate j sl))∧Hid (ZX w3 wr)) (fun _ v _=>110 - (intOf v).toNat)
  case atStart=>exact ⟨0,w3.heap.size,2,rfl,rfl,by omega,O0,B0⟩
  case round =>
   obtain ⟨j,g,co,rfl,rfl,hj,HO,HB⟩:=hrel;clear O0 B0;have sB:=HB.out.size;have OR:Hid (wr.ownsRow w3.heap.size 9 1 (.slice (some ⟨g,0,none⟩) (j+2) co) (j+2) ((cl :: RF :: List.replicate j sl).map Value.string)):=by
    have h9:=HO.out;unfold Vs at h9
    rwa [show (cl :: RF :: List.replicate j sl).length=j+2 by simp] at h9
   by_cases hlt2:j<110
   · have Yo:(j:Int)<110:=by omega
     generalize hD:(cl :: RF :: List.replicate j sl).map Value.string=D at OR;have oS:=Z3 hD;clear hD HO
     go_wp2_with (at_builtin;go_must (refine wpList_append_lies _ rfl _ _ 26 rfl w3.heap.size 9 iq (.string ByteArray.empty) 1 16 Tryz.underlying26 rG hq0 rF rE rfl (by decide) _ _ _ rfl (OR.out.alloc _) ⟨wr.heap.size,0,none⟩ 1 1 [.string sl] rfl rfl (Vx _ _ _) (by intro u hu;simp at hu;subst hu;rfl) (by decide) ?c3 ?c4 ?c5 _ rfl ?_))
     case c3=>unfold maxLen;omega
     case c4=>omega
     case c5=>first | omega | (simp;omega)
     intro g5 k5 w5 Vj hg5 P1 QL;have O5:Hid (Vs w5 w3.heap.size (.slice (some ⟨g5,0,none⟩) (j+1+2) k5) (cl :: RF :: List.replicate (j+1) sl)):=by
      have e9:(cl :: RF :: List.replicate (j+1) sl).map Value.string=D++[.string sl]:=by rw [←oS.out,zQ];simp
      show World.ownsRow _ _ _ _ _ _ _;rw [e9,show (cl :: RF :: List.replicate (j+1) sl).length=j+2+1 by simp,show j+1+2=j+2+1 by omega];exact Vj
     have B5:Hid (ZX w3 w5):=(HB.out.alloc sB _).grown hg5 (by simp;omega) (fun q hq=>(ZD OR.out q hq).1);clear Vj hg5 P1 QL OR HB
     go_wp2_with fail
     exact ⟨⟨j+1,g5,k5,by go_num,rfl,by omega,O5,B5⟩,by simp [intOf];omega⟩
   have Yv:j=110:=by omega
   subst Yv;clear HO;have oS:Hid ((cl :: RF :: (List.replicate 110 sl++[RF,FV,C3,sl])).map Value.string=(cl :: RF :: List.replicate 110 sl).map Value.string++[.string RF,.string FV,.string C3,.string sl]):=by show _=_;simp
   generalize (cl :: RF :: List.replicate 110 sl).map Value.string=D at OR oS
   go_wp2_with fail
   refine ZB.out _ _ ?_;clear ZB
   go_wp2_with (at_builtin;go_must (refine wpList_append_lies _ rfl _ _ 26 rfl w3.heap.size 9 iq (.string ByteArray.empty) 1 16 Tryz.underlying26 rG hq0 rF rE rfl (by decide) _ _ _ rfl (OR.out.alloc _) ⟨wr.heap.size,0,none⟩ 1 1 [.string ⟨#[102,108,117,115,104]⟩] rfl rfl (Vx _ _ _) (by intro u hu;simp at hu;subst hu;rfl) (by decide) ?c3 ?c4 ?c5 _ rfl ?_))
   case c3=>unfold maxLen;omega
   case c4=>omega
   case c5=>first | omega | (simp;omega)
   intro Y5 Y3 E Vj hg5 P1 QL;have C:Hid (ZX w3 E):=(HB.out.alloc sB _).grown hg5 (by simp;omega) (fun q hq=>(ZD OR.out q hq).1);have A:Hid (E.ownsRow w3.heap.size 9 1 (.slice (some ⟨Y5,0,none⟩) 113 Y3) 113 (D++[.string RF])):=Vj;clear Vj hg5 P1 QL OR HB sB;have HB:=C;have OR:=A;have sB:=HB.out.size;clear C A
   go_wp2_with (at_builtin;go_must (refine wpList_append_lies _ rfl _ _ 26 rfl w3.heap.size 9 iq (.string ByteArray.empty) 1 16 Tryz.underlying26 rG hq0 rF rE rfl (by decide) _ _ _ rfl (OR.out.alloc _) ⟨E.heap.size,0,none⟩ 1 1 [.string ⟨#[115,110,97,112]⟩] rfl rfl (Vx _ _ _) (by intro u hu;simp at hu;subst hu;rfl) (by decide) ?c3 ?c4 ?c5 _ rfl ?_))
   case c3=>unfold maxLen;omega
   case c4=>omega
   case c5=>first | omega | (simp;omega)
   intro Y2 Y1 Z' Vj hg5 P1 QL;have Z8:Hid (ZX w3 Z'):=(HB.out.alloc sB _).grown hg5 (by simp;omega) (fun q hq=>(ZD OR.out q hq).1);have Z7:Hid (Z'.ownsRow w3.heap.size 9 1 (.slice (some ⟨Y2,0,none⟩) 114 Y1) 114 (D++[.string RF,.string FV])):=Vj;clear Vj hg5 P1 QL OR HB sB;have HB:=Z8;have OR:=Z7;have sB:=HB.out.size;clear Z8 Z7
   go_wp2_with (at_builtin;go_must (refine wpList_append_lies _ rfl _ _ 26 rfl w3.heap.size 9 iq (.string ByteArray.empty) 1 16 Tryz.underlying26 rG hq0 rF rE rfl (by decide) _ _ _ rfl (OR.out.alloc _) ⟨Z'.heap.size,0,none⟩ 1 1 [.string ⟨#[115,116,101,112,32,49,48,48,48]⟩] rfl rfl (Vx _ _ _) (by intro u hu;simp at hu;subst hu;rfl) (by decide) ?c3 ?c4 ?c5 _ rfl ?_))
   case c3=>unfold maxLen;omega
   case c4=>omega
   case c5=>first | omega | (simp;omega)
   intro Y0 YZ Z6 Vj hg5 P1 QL;have Z5:Hid (ZX w3 Z6):=(HB.out.alloc sB _).grown hg5 (by simp;omega) (fun q hq=>(ZD OR.out q hq).1);have Z4:Hid (Z6.ownsRow w3.heap.size 9 1 (.slice (some ⟨Y0,0,none⟩) 115 YZ) 115 (D++[.string RF,.string FV,.string C3])):=Vj;clear Vj hg5 P1 QL OR HB sB;have HB:=Z5;have OR:=Z4;have sB:=HB.out.size;clear Z5 Z4
   go_wp2_with (at_builtin;go_must (refine wpList_append_lies _ rfl _ _ 26 rfl w3.heap.size 9 iq (.string ByteArray.empty) 1 16 Tryz.underlying26 rG hq0 rF rE rfl (by decide) _ _ _ rfl (OR.out.alloc _) ⟨Z6.heap.size,0,none⟩ 1 1 [.string sl] rfl rfl (Vx _ _ _) (by intro u hu;simp at hu;subst hu;rfl) (by decide) ?c3 ?c4 ?c5 _ rfl ?_))
   case c3=>unfold maxLen;omega
   case c4=>omega
   case c5=>first | omega | (simp;omega)
   intro Z2 ZY Z Vj hg5 P1 QL;have ZV:Hid (ZX w3 Z):=(HB.out.alloc sB _).grown hg5 (by simp;omega) (fun q hq=>(ZD OR.out q hq).1);have ZR:Hid (Z.ownsRow w3.heap.size 9 1 (.slice (some ⟨Z2,0,none⟩) 116 ZY) 116 (D++[.string RF,.string FV,.string C3,.string sl])):=Vj;clear Vj hg5 P1 QL OR HB sB;have HB:=ZV;have OR:=ZR;have sB:=HB.out.size;clear ZV ZR
   go_wp2_with fail
   rename_i KK Kv;have YY:jv Z (.slice (some ⟨Z2,0,none⟩) 116 ZY) (UI i):=by
    refine Vs.Fs (lo:=w3.heap.size) ?_;show World.ownsRow _ _ _ _ _ _ _;rw [Vl,nQ.out,oS.out];exact OR.out
   have bD:ZX Z Z.drew:=below_drewN' Z 1;have BW:Hid (ZX w Z.drew):=(YV B3.out HB.out).trans (bD.mono (YV B3.out HB.out).size);have ZO:=X3.out.lt;have c0:Z.drew.cell? ⟨J,0,none⟩=some (.int .i64 (S:Int)):=(bD.cell (ZL ZO sB)).trans ((HB.out.cell ZO).trans (X3.out.cl 0 _ rfl));have c1:Z.drew.cell? ⟨J,1,none⟩=some (.int .i64 (L:Int)):=(bD.cell (ZL ZO sB)).trans ((HB.out.cell ZO).trans (X3.out.cl 1 _ rfl));have To:=Z3 (uS Z.drew _ S L i hn.2 hn.1 Za.out (HG.out.later BW.out) (show jv Z.drew (.slice (some ⟨Z2,0,none⟩) 116 ZY) (UI i) by
    obtain ⟨a1,a2,a3,a4,a5,a6⟩:=YY;exact ⟨a1,a2,a3,a4,a5,a6⟩))
   have HKK:=Z3 Kv;clear Kv YY bD HB OR sB ZO X3 B3 oS nQ hlt2;refine ZH (S:=fun W'=>W'.cell? ⟨J,0,none⟩=some (.int .i64 (S:Int))∧W'.cell? ⟨J,1,none⟩=some (.int .i64 (L:Int))) (by kernel_rfl) ⟨c0,c1⟩ (fun Z9=>?_);generalize Z.drew=u1 at *;clear c0 c1;refine TO (i:=0) (oi:=⟨some 65,_,_,_,_,_⟩) (v:=?v0) rfl (by kernel_rfl) (fun _ _ _ h=>h) (Or.inl ⟨by rfl,?hy0⟩) Z9 ?Yu
   case hy0=>intro w9 Z0;obtain ⟨e0,e1⟩:=Z0;go_simp;try with_reducible rfl
   refine TO (i:=2) (oi:=⟨some 67,_,_,_,_,_⟩) (v:=?v2) rfl (by kernel_rfl) (fun _ _ _ h=>h) (Or.inl ⟨by rfl,?hy2⟩) Z9 ?qj
   case hy2=>intro w9 Z0;obtain ⟨e0,e1⟩:=Z0;go_simp;try with_reducible rfl
   refine ZU 1 rfl (fun K hK=>?_);go_simp;refine To.out.mono ?_;rintro e u2 ⟨v1,rfl,b2,h2⟩;have U:u2.cell? ⟨J,0,none⟩=some (.int .i64 (S:Int))∧u2.cell? ⟨J,1,none⟩=some (.int .i64 (L:Int)):=⟨(b2.cell (YJ u1 _ Z9.1)).trans Z9.1,(b2.cell (YJ u1 _ Z9.2)).trans Z9.2⟩;refine hK.out _ _ U (fun ZM=>?_);have YX:=Z3 (YV BW.out b2);have YW:=Z3 (h2 u2 ZJ);clear hK K ZM To b2 h2 Z9 BW;have Z9:=U;clear U;refine ZU 3 rfl (fun K hK=>?_);go_simp;refine YW.out.mono ?_;rintro e u3 ⟨v2,rfl,b3,h3⟩;have U:u3.cell? ⟨J,0,none⟩=some (.int .i64 (S:Int))∧u3.cell? ⟨J,1,none⟩=some (.int .i64 (L:Int)):=⟨(b3.cell (YJ u2 _ Z9.1)).trans Z9.1,(b3.cell (YJ u2 _ Z9.2)).trans Z9.2⟩;refine hK.out _ _ U (fun ZM=>?_);have YU:=Z3 (YV YX.out b3);have YT:=Z3 (h3 u3 ZJ);clear hK K ZM YW b3 h3 Z9 YX;have Z9:=U;clear U;refine ZU 4 rfl (fun K hK=>?_);go_simp;refine YT.out.mono ?_;rintro e u4 ⟨gg,gc,rfl,b4,h4⟩;have U:u4.cell? ⟨J,0,none⟩=some (.int .i64 (S:Int))∧u4.cell? ⟨J,1,none⟩=some (.int .i64 (L:Int)):=⟨(b4.cell (YJ u3 _ Z9.1)).trans Z9.1,(b4.cell (YJ u3 _ Z9.2)).trans Z9.2⟩;refine hK.out _ _ U (fun ZM=>?_);have Yt:=Z3 (YV YU.out b4);have H4:=Z3 h4;clear hK K ZM YT b4 h4 Z9 YU;have Z9:=U;clear U;refine TO (i:=5) (oi:=⟨some 10,_,_,_,_,_⟩) (v:=?v5) rfl (by kernel_rfl) (fun _ _ _ h=>h) (Or.inl ⟨by rfl,?FF⟩) Z9 ?qi
   case FF =>
    intro w9 Z0;clear Z0;go_simp
    try with_reducible rfl
   refine ZP (by kernel_rfl) (HKK.out _ _ ?_) _
   try simp only [Act.put,Y8,Y7,Y6]
   exact iY hn.2 hS hL Z9.1 Z9.2 H4.out Yt.out
end
section
open Go.ChangeShapes Go.WideShapes Go.ChangeAt Go.RowKit
theorem Mw (b o i:Nat):(⟨b,o,none⟩:Addr).add i=⟨b,o+i,none⟩:=Sg ..
theorem iX {k:IntKind} {w:World} {x:Addr} {len cap:Nat} {zs:List Int} (hl:len≤cap) (hm:cap≤maxLen) (hz:zs.length=cap)
    (hcell:∀i,i<zs.length→w.cell? (x.add i)=some (.int k (zs.getD i 0))):Rd k w (.slice (some x) len cap) (zs.take len):=by
 have hlen:(zs.take len).length=len:=by simp;omega
 refine ⟨some x,cap,by rw [hlen],by rw [hlen];exact hl,hm,?_⟩
 by_cases h0:len=0
 · subst h0;exact .inl rfl
 right
 obtain ⟨b,off,spot⟩:=x;have hc:=hcell 0 (by omega);have hspot:spot=none:=by simpa [Addr.add] using World.cell?_spot hc
 subst hspot;refine ⟨b,off,rfl,?_,fun i hi=>?_⟩
 · have:=YJ w _ hc
   simpa [Addr.add] using this
 rw [hlen] at hi;have:=hcell i (by omega);rw [Mw] at this;rw [this]
 simp [List.getD,FQ hi]
theorem ml {zs:List Int} {len:Nat} (h:∀n ∈ zs,(Lit.int .u8 n).wf=true):Wm (zs.take len):=by
 intro x hx;have:=h x (Ms hx);have b:=bounds_u8 this;omega
theorem Ei {H:Type} {enc:TypeId × Value→H} {W:World} {a0:Option Addr} {ri cap0:Nat} {d0:DataW H} {p0:List MemPlace} {base:Nat} {b:Bool}
    (h0:DataW.Trod enc Tryz.prog W base (fun _=>true) b 22 (.slice a0 ri cap0) d0 p0):∃xs,Rd .u8 W (.slice a0 ri cap0) xs∧Wm xs:=by
 obtain ⟨fuel,hf⟩:=h0
 rcases open_ints Tryz.underlying22 Tryz.underlying5 (by kernel_rfl) hf with ⟨hcs,_⟩ | ⟨x,l,c,zs,hcs,_,hl,hm,hz,_,hcell,hwz⟩
 · simp [Value.cells] at hcs
   obtain ⟨rfl,rfl,rfl⟩:=hcs;exact ⟨[],⟨none,0,rfl,ZT,Zu _,.inl rfl⟩,fun x hx=>by cases hx⟩
 simp [Value.cells] at hcs
 obtain ⟨rfl,rfl,rfl⟩:=hcs;exact ⟨zs.take ri,iX hl hm (by simpa using hz) hcell,ml hwz⟩
end
end Go.Proofs.YtpmjnbmkippaiaaGreatDoor


