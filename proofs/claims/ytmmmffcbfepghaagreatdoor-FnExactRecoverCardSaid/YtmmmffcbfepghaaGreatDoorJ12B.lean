import Derived.Test.YtmmmffcbfepghaaGreatDoorJ12T
import Derived.Test.YtmmmffcbfepghaaGreatDoorJ11B
set_option maxRecDepth 100000
set_option maxHeartbeats 16000000
set_option linter.unusedVariables false
set_option linter.unusedSimpArgs false
namespace Go.Proofs.YtmmmffcbfepghaaGreatDoor
open Go.RowKit Go.Shelf
variable {S:Int} {ps:List (Int × List Int)} {Z7 xs ys:List Int} {L us:List Value} {B b base c hi j k lo n:Nat} {o o':Option Nat} {e:TypeId} {u v vd vk x:Value} {W W' w w':World}
structure St (W:World) (b:Nat) (L:List Value):Prop where
 lt:b<W.heap.size
 fz:∀j,W.frozen? ⟨b,j,none⟩=false
 cl:∀(j:Nat) (v:Value),L[j]?=some v→W.cell? ⟨b,j,none⟩=some v
theorem St.ZL {m:Nat} (h:St W b L) (hb:Below m W W') (hm:b<m):St W' b L :=
 ⟨ZB h.lt hb.size,fun j=>(hb.frozen (p:=⟨b,j,none⟩) hm).trans (h.fz j),fun j v hv=>(hb.cell (p:=⟨b,j,none⟩) hm).trans (h.cl j v hv)⟩
theorem St.below (h:St W b L) (hb:ZX W W'):St W' b L:=h.ZL hb h.lt
theorem St.set (h:St W b L) (j:Nat) (x:Value):St (W.setCell ⟨b,j,none⟩ x) b (L.set j x):=by
 refine ⟨by simpa using h.lt,fun i=>by rw [Yb];exact h.fz i,fun i v hv=>?_⟩
 by_cases e:j=i
 · subst e
   have hj:j<L.length:=by
    have:=(List.getElem?_eq_some_iff.1 hv).1
    simpa using this
   rw [rL hj] at hv;obtain rfl:=UR hv;exact Ys _ _ _ (h.cl j _ (VM hj))
 rw [DR e] at hv;exact (ZG _ _ _ _ (by intro e9;injection e9 with e1 e2;first | exact e e2 | exact e e2.symm)).trans (h.cl i v hv)
theorem St.other (h:St W b L) (hne:b≠c):St (W.setCell ⟨c,j,none⟩ x) b L :=
 ⟨by simpa using h.lt,fun i=>by rw [Yb];exact h.fz i,fun i v hv=>(ZG _ _ _ _ (by intro e9;injection e9 with e1 e2;first | exact hne e1 | exact hne e1.symm)).trans (h.cl i v hv)⟩
theorem St.new (W:World) (cs:Array Value) (t:TypeId):St (W.alloc (.cells cs t)) W.heap.size cs.toList:=by
 refine ⟨by simp,fun j=>by simp,fun j v hv=>?_⟩;rw [Re _ _ j cs t (0,0) (WJ W _)]
 simpa using hv
def Vq (lim made:Int):Int:=if lim<0 then -1 else lim - made
theorem Hj (w:World) (b o:Nat) (lim made:Int) (c2:w.cell? ⟨b,o+2,none⟩=some (.int .i64 lim)) (c3:w.cell? ⟨b,o+3,none⟩=some (.int .i64 made)) (hl:-9223372036854775808≤lim∧lim≤9223372036854775807) (hm:0≤made∧made≤10000) :
    Calls Tryz.prog 132 #[.pointer (some ⟨b,o,none⟩)] w (Ze w (.int .i64 (Vq lim made))):=by
 by_cases h:lim<0
 · unfold Vq
   rw [ZY h]
   go_enter Tryz.func132,Tryz.ntmps132
   go_wp2;go_ret;exact ⟨rfl,ZR⟩
 unfold Vq;rw [Z3 h]
 go_enter Tryz.func132,Tryz.ntmps132
 go_wp2_with fail
 go_quiet (fail)
 go_wp2;go_ret;exact ⟨Xo (by omega),YO ZR _⟩
theorem Hi (w:World) (b o:Nat) (lim made:Int) (c2:w.cell? ⟨b,o+2,none⟩=some (.int .i64 lim)) (c3:w.cell? ⟨b,o+3,none⟩=some (.int .i64 made)) (hl:-9223372036854775808≤lim∧lim≤9223372036854775807) (hm:0≤made∧made≤10000) (h:Vq lim made=0) :
    Calls Tryz.prog 111 #[.pointer (some ⟨b,o,none⟩)] w (Ze w (.bool false)):=by
 have HL:Hid (Calls Tryz.prog 132 #[.pointer (some ⟨b,o,none⟩)] w (Ze w (.int .i64 0))):=by
  have h9:=Hj w b o lim made c2 c3 hl hm;rw [h] at h9;exact h9
 clear h c2 c3
 go_enter Tryz.func111,Tryz.ntmps111
 go_wp2_with fail
 refine (HL.out).mono ?_;rintro e w1 ⟨rfl,b1⟩;go_wp2;go_ret;exact ⟨rfl,b1⟩
theorem Lu (w:World) (b o:Nat) (lim made:Int) (c2:w.cell? ⟨b,o+2,none⟩=some (.int .i64 lim)) (c3:w.cell? ⟨b,o+3,none⟩=some (.int .i64 made)) (f3:w.frozen? ⟨b,o+3,none⟩=false) (hlt:b<w.heap.size) (hl:-9223372036854775808≤lim∧lim≤9223372036854775807) (hm:0≤made∧made≤10000) (h:Vq lim made≠0) :
    Calls Tryz.prog 111 #[.pointer (some ⟨b,o,none⟩)] w fun e w'=>e=.returned (.bool true)∧∃w1,ZX w w1∧w'=w1.setCell ⟨b,o+3,none⟩ (.int .i64 (made+1)):=by
 have HL:=Z8 (Hj w b o lim made c2 c3 hl hm);have hq:(Vq lim made == 0)=false:=by simpa using h
 generalize Vq lim made=q at *;clear c2
 go_enter Tryz.func111,Tryz.ntmps111
 go_wp2_with fail
 refine (HL.out).mono ?_;rintro e w1 ⟨rfl,b1⟩;have d3:=(b1.cell (p:=⟨b,o+3,none⟩) hlt).trans c3;have g3:=(b1.frozen (p:=⟨b,o+3,none⟩) hlt).trans f3;have B1:=Z8 b1;clear b1 c3 f3;have hw3:IntKind.i64.wrap (made+1)=made+1:=by rw [Xf];omega
 go_wp2;go_ret;exact ⟨rfl,_,B1.out,rfl⟩
structure Tw (w:World) (b:Nat) (o:Option Nat) (w':World) (o':Option Nat):Prop where
 os:w'.os=w.os
 tape:w'.tape=w.tape
 output:w'.output=w.output
 size:w.heap.size≤w'.heap.size
 block:∀q,q<w.heap.size→q≠b→o≠some q→w'.heap[q]?=w.heap[q]?
 own:o'=o∨o'=none∨∃g,o'=some g∧w.heap.size≤g
theorem Tw.Za (h:ZX w w') (b:Nat) (o:Option Nat):Tw w b o w' o:=⟨h.os,h.tape,h.output,h.size,fun q hq _ _=>h.block q hq,.inl rfl⟩
theorem Tw.refl (w:World) (b:Nat) (o:Option Nat):Tw w b o w o:=Tw.Za ZR b o
theorem Tw.trans {w1 w2:World} {o1 o2:Option Nat} (h:Tw w b o w1 o1) (h':Tw w1 b o1 w2 o2):Tw w b o w2 o2:=by
 refine ⟨h'.os.trans h.os,h'.tape.trans h.tape,h'.output.trans h.output,ZP h.size h'.size,fun q hq hb ho=>?_,?_⟩
 · refine (h'.block q (ZB hq h.size) hb ?_).trans (h.block q hq hb ho)
   rcases h.own with e | e | ⟨g,e,hg⟩
   · rw [e];exact ho
   · rw [e];simp
   rw [e];intro e2;injection e2 with e2;omega
 rcases h'.own with e | e | ⟨g,e,hg⟩
 · rw [e];exact h.own
 · exact .inr (.inl e)
 exact .inr (.inr ⟨g,e,ZP h.size hg⟩)
theorem Tw.below (h:Tw w b o w' o') (hB:B≤w.heap.size) (hb:B≤b) (ho:∀g,o=some g→B≤g):Below B w w' :=
 ⟨h.os,h.tape,h.output,h.size,fun q hq=>h.block q (by omega) (by omega) (fun e=>by have:=ho q e;omega)⟩
theorem Tw.st (h:Tw w b o w' o') (hs:St w c L) (hne:c≠b) (ho:o≠some c):St w' c L:=by
 have e:=h.block c hs.lt hne ho;refine ⟨ZB hs.lt h.size,fun j=>?_,fun j v hv=>(YI (w:=w) (a:=⟨c,j,none⟩) e).trans (hs.cl j v hv)⟩;have:=hs.fz j;unfold World.frozen? at this ⊢;rw [e];exact this
theorem Tw.set (h:Tw w b o w' o'):Tw w b o (w'.setCell ⟨b,j,none⟩ x) o':=by
 refine ⟨h.os,h.tape,h.output,by simpa using h.size,fun q hq hb ho=>?_,h.own⟩;rw [Mh w' ⟨b,j,none⟩ x q hb];exact h.block q hq hb ho
theorem Zz.Xj {dv:Nat→Value} (ho:Zz w lo hi vd vk Z7 ps dv) (h1:vd.ownBlock≠some B) (h2:vk.ownBlock≠some B) (h3:∀i,i<ps.length→(dv i).ownBlock≠some B):Zz (w.setCell ⟨B,j,none⟩ u) lo hi vd vk Z7 ps dv :=
 ⟨ho.d.setAt (.inr h1),⟨Yy ho.p.1 (grownBy_set w w B j u (YT _ _)) (.inr h2),fun i hi=>(ho.p.2.1 i hi).setAt (.inr (h3 i hi)),ho.p.2.2.1,ho.p.2.2.2⟩,ho.NY,ho.Pm,ho.MK,ho.dp,ho.dq⟩
theorem C5 (w:World) (b o:Nat) (lim made x:Int) (C:List Int) (hC:C.length=64) (c2:w.cell? ⟨b,o+2,none⟩=some (.int .i64 lim)) (c3:w.cell? ⟨b,o+3,none⟩=some (.int .i64 made)) (hlt:b<w.heap.size) (hl:-9223372036854775808≤lim∧lim≤9223372036854775807) (hm:0≤made∧made≤10000) (h:Vq lim made=0) :
    Calls Tryz.prog 77 #[.pointer (some ⟨b,o,none⟩),.int .i64 x,.agg (C.map (Value.int .u8)).toArray] w (Ze w (.bool false)):=by
 have HC:Hid (∀W,ZX w W→Calls Tryz.prog 111 #[.pointer (some ⟨b,o,none⟩)] W (Ze W (.bool false))):=fun W hW =>
  Hi W b o lim made ((hW.cell (p:=⟨b,o+2,none⟩) hlt).trans c2) ((hW.cell (p:=⟨b,o+3,none⟩) hlt).trans c3) hl hm h
 have BA:Hid (ZX w (w.alloc (.cells (C.map (Value.int .u8)).toArray 125))):=ZR.alloc ZW _;have Fz:Hid (∀v ∈ (C.map (Value.int .u8)),v.oneCell'=true):=Wc _ _;have HX:Hid ((C.map (Value.int .u8)).length=64):=by show _=_;simpa using hC
 generalize C.map (Value.int .u8)=X at *;clear h c2 c3
 go_enter Tryz.func77,Tryz.ntmps77
 go_wp2_with fail
 refine (HC.out _ BA.out).mono ?_;rintro e w1 ⟨rfl,b1⟩;have HB:=Z8 (Ye BA.out b1);clear b1 BA HC;go_wp2;go_ret;exact ⟨rfl,HB.out⟩
theorem Fs (w:World) (b o lo:Nat) (vd vp:Value) (Z7:List Int) (ps:List (Int × List Int)) (dv:Nat→Value) (lim made x:Int) (C:List Int) (L:List Value) (hC:C.length=64) (hS:St w b L) (l1:L[o+1]?=some vp) (l2:L[o+2]?=some (.int .i64 lim)) (l3:L[o+3]?=some (.int .i64 made)) (hD:Zz w lo w.heap.size vd vp Z7 ps dv) (hlo:lo≤w.heap.size) (hne:vp.ownBlock≠some b) (hnd:vd.ownBlock≠some b) (hnq:∀i,i<ps.length→(dv i).ownBlock≠some b) (hl:-9223372036854775808≤lim∧lim≤9223372036854775807) (hm:0≤made∧made≤10000) (hn:ps.length≤1000000) (h:Vq lim made≠0) :
    Calls Tryz.prog 77 #[.pointer (some ⟨b,o,none⟩),.int .i64 x,.agg (C.map (Value.int .u8)).toArray] w fun e w'=>e=.returned (.bool true)∧∃TW QE,St w' b ((L.set (o+3) (.int .i64 (made+1))).set (o+1) TW)∧Zz w' lo w'.heap.size vd TW Z7 (ps++[(x,C)]) QE∧TW.ownBlock≠some b∧(∀i,i<(ps++[(x,C)]).length→(QE i).ownBlock≠some b)∧Tw w b vp.ownBlock w' TW.ownBlock:=by
 have hlt:=hS.lt;have HC:Hid (∀W,ZX w W→Calls Tryz.prog 111 #[.pointer (some ⟨b,o,none⟩)] W fun e w'=>e=.returned (.bool true)∧∃w1,ZX W w1∧w'=w1.setCell ⟨b,o+3,none⟩ (.int .i64 (made+1))):=fun W hW =>
  have hS':=hS.ZL hW hlt
  Lu W b o lim made (hS'.cl _ _ l2) (hS'.cl _ _ l3) (hS'.fz _) hS'.lt hl hm h
 have BA:Hid (ZX w (w.alloc (.cells (C.map (Value.int .u8)).toArray 125))):=ZR.alloc ZW _;have RA:Hid ((w.alloc (.cells (C.map (Value.int .u8)).toArray 125)).rangeAt w.heap.size 0 (C.map (Value.int .u8))):=by
  have h9:=Qi w (C.map (Value.int .u8)).toArray 125;show World.rangeAt _ _ _ _
  simpa using h9
 have hsA:(w.alloc (.cells (C.map (Value.int .u8)).toArray 125)).heap.size=w.heap.size+1:=by simp
 have Fz:Hid (∀v ∈ (C.map (Value.int .u8)),v.oneCell'=true):=Wc _ _;have HX:Hid ((C.map (Value.int .u8)).length=64):=by show _=_;simpa using hC
 have HS:=Z8 hS;have HD:=Z8 hD;have Y6:Hid (∀W,Zz W lo w.heap.size vd vp Z7 ps dv→w.heap.size≤W.heap.size→St W b (L.set (o+3) (.int .i64 (made+1)))→Calls Tryz.prog 112 #[.pointer (some ⟨b,o,none⟩),.int .i64 x,.agg (C.map (Value.int .u8)).toArray] W fun e w'=>e=.returned (.tuple #[])∧∃w5 g cap v,Zz w5 lo w5.heap.size vd (.slice (some ⟨g,0,none⟩) (ps.length+1) cap) Z7 (ps++[(x,C)]) (Zb dv ps.length v)∧W.grownBy w5 vp.ownBlock∧(vp.ownBlock=some g∨W.heap.size≤g)∧v.ownBlock=some W.heap.size∧w'=w5.setCell ⟨b,o+1,none⟩ (.slice (some ⟨g,0,none⟩) (ps.length+1) cap)):=fun W hW hs hst =>
  JU W b o lo w.heap.size vd vp Z7 ps dv x C hW hs (by omega) (hst.cl _ _ (by rw [DR (by omega)];exact l1)) (hst.fz _) hst.lt hne hC hn
 generalize hX:C.map (Value.int .u8)=X at *;clear h l2 l3 hS hD
 go_enter Tryz.func77,Tryz.ntmps77
 go_wp2_with fail
 refine (HC.out _ BA.out).mono ?_;rintro e w2 ⟨rfl,w1,b1,rfl⟩;have B1:=Z8 (Ye BA.out b1);have S2:Hid (St (w1.setCell ⟨b,o+3,none⟩ (.int .i64 (made+1))) b (L.set (o+3) (.int .i64 (made+1)))):=(HS.out.ZL B1.out hlt).set _ _;have D2:Hid (Zz (w1.setCell ⟨b,o+3,none⟩ (.int .i64 (made+1))) lo w.heap.size vd vp Z7 ps dv):=(HD.out.below B1.out).Xj hnd hne hnq;have T2:Hid (Tw w b vp.ownBlock (w1.setCell ⟨b,o+3,none⟩ (.int .i64 (made+1))) vp.ownBlock):=(Tw.Za B1.out _ _).set;have R2:Hid ((w1.setCell ⟨b,o+3,none⟩ (.int .i64 (made+1))).rangeAt w.heap.size 0 X):=by
  have h8:w1.heap[w.heap.size]?=_:=b1.block w.heap.size (by omega);exact Ya RA.out ((Mh w1 ⟨b,o+3,none⟩ _ w.heap.size (by show w.heap.size≠b;omega)).trans h8)
 have z2:w.heap.size≤(w1.setCell ⟨b,o+3,none⟩ (.int .i64 (made+1))).heap.size:=by simpa using B1.out.size
 have z2b:w.heap.size<(w1.setCell ⟨b,o+3,none⟩ (.int .i64 (made+1))).heap.size:=by have:=b1.size;simp;omega
 clear b1 B1 BA RA HC HS HD hsA;generalize w1.setCell _ _=w2 at *
 go_wp2_with fail
 refine ZF (S:=fun W=>W.rangeAt w.heap.size 0 X) (by kernel_rfl) R2.out (fun Z9=>?_);have S3:Hid (St w2.drew b (L.set (o+3) (.int .i64 (made+1)))):=S2.out.below (below_drewN' w2 1);have D3:Hid (Zz w2.drew lo w.heap.size vd vp Z7 ps dv):=D2.out.below (below_drewN' w2 1);have T3:Hid (Tw w b vp.ownBlock w2.drew vp.ownBlock):=T2.out.trans (Tw.Za (below_drewN' w2 1) _ _);have z3:w.heap.size≤w2.drew.heap.size:=z2;have z4:w.heap.size<w2.drew.heap.size:=z2b;clear S2 D2 T2 R2 z2 z2b;generalize w2.drew=w3 at *
 iterate 4 (refine ZV ?_ (by kernel_rfl) (fun _=>id) Z9 ?_ ?_;rotate_left;· intro w9 Z4;clear Z4;go_simp;try with_reducible rfl)
 refine si (i:=4) (oi:=⟨some 14,_,_,_,_,_⟩) (v:=.agg (X).toArray) rfl (by kernel_rfl) (fun _ _ _ h=>h) (ET (by rfl) _ _ rfl _ _ rfl (X) _ (fun w' hSw=>hSw) Tryz.underlying125 rfl (Yk _ HX.out)) (by assumption) ?_;refine ZS 5 rfl (by kernel_rfl) (fun K hK=>?_);go_simp;refine (Y6.out _ D3.out z3 S3.out).mono ?_;rintro e w6 ⟨rfl,w5,g,cap,v,D5,G5,hg,hv,rfl⟩;have hvb:vp.ownBlock≠some w.heap.size:=fun e=>by have:=D3.out.Pm _ e;omega
 have R6:(w5.setCell ⟨b,o+1,none⟩ (.slice (some ⟨g,0,none⟩) (ps.length+1) cap)).rangeAt w.heap.size 0 X :=
  Ya Z9 ((Mh w5 ⟨b,o+1,none⟩ _ w.heap.size (by show w.heap.size≠b;omega)).trans (G5.block w.heap.size z4 (Ne.symm hvb)))
 refine hK.out _ _ R6 (fun ZI=>?_);clear hK K ZI;refine ZM (by kernel_rfl) ?_ _
 try simp only [Act.put,Zk,Zj,Zi]
 have hgb:g≠b:=by
  rcases hg with h9 | h9
  · intro e;rw [e] at h9;exact hne h9
  have:=S3.out.lt;omega
 have Z0:∀i,i<(ps++[(x,C)]).length→(Zb dv ps.length v i).ownBlock≠some b:=by
  intro i hi;unfold Zb
  split
  · rw [hv];intro e;injection e with e;have:=S3.out.lt;omega
  rename_i hni;exact hnq i (by simp at hi;omega)
 have FIN:Hid (∃TW QE,St (w5.setCell ⟨b,o+1,none⟩ (.slice (some ⟨g,0,none⟩) (ps.length+1) cap)) b ((L.set (o+3) (.int .i64 (made+1))).set (o+1) TW)∧Zz (w5.setCell ⟨b,o+1,none⟩ (.slice (some ⟨g,0,none⟩) (ps.length+1) cap)) lo (w5.setCell ⟨b,o+1,none⟩ (.slice (some ⟨g,0,none⟩) (ps.length+1) cap)).heap.size vd TW Z7 (ps++[(x,C)]) QE∧TW.ownBlock≠some b∧(∀i,i<(ps++[(x,C)]).length→(QE i).ownBlock≠some b)∧Tw w b vp.ownBlock (w5.setCell ⟨b,o+1,none⟩ (.slice (some ⟨g,0,none⟩) (ps.length+1) cap)) TW.ownBlock):=by
  have hl3:=S3.out.lt;have T5:Tw w3 b vp.ownBlock w5 (some g):=by
   refine ⟨G5.os,G5.tape,G5.output,G5.size,fun q hq _ ho=>G5.block q hq (Ne.symm ho),?_⟩
   rcases hg with h9 | h9
   · exact .inl h9.symm
   exact .inr (.inr ⟨g,rfl,h9⟩)
  have S5:St w5 b (L.set (o+3) (.int .i64 (made+1))):=by
   have e:=G5.block b hl3 (Ne.symm hne);refine ⟨ZB hl3 G5.size,fun j=>?_,fun j v hv=>(YI (w:=w3) (a:=⟨b,j,none⟩) e).trans (S3.out.cl j v hv)⟩;have:=S3.out.fz j;unfold World.frozen? at this ⊢;rw [e];exact this
  refine ⟨_,_,S5.set (o+1) (.slice (some ⟨g,0,none⟩) (ps.length+1) cap),?_,by simp [Value.ownBlock];exact hgb,Z0,?_⟩
  · have h9:=D5.Xj (j:=o+1) (u:=.slice (some ⟨g,0,none⟩) (ps.length+1) cap) hnd (by simp [Value.ownBlock];exact hgb) Z0
    simpa using h9
  exact (T3.out.trans T5).set
 clear Z9 S3 D3 T3 D5 G5 hg hv Y6 Z0 R6 hvb;generalize w5.setCell _ _=w6 at *;go_wp2;go_ret;exact ⟨rfl,FIN.out⟩
theorem yN (w:World) (b o:Nat) (lim made:Int) (c2:w.cell? ⟨b,o+2,none⟩=some (.int .i64 lim)) (c3:w.cell? ⟨b,o+3,none⟩=some (.int .i64 made)) (hl:-9223372036854775808≤lim∧lim≤9223372036854775807) (hm:0≤made∧made≤10000) (h:Vq lim made=0) :
    Calls Tryz.prog 79 #[.pointer (some ⟨b,o,none⟩)] w (Ze w (.bool false)):=by
 have HC:=Z8 (Hi w b o lim made c2 c3 hl hm h);clear h c2 c3
 go_enter Tryz.func79,Tryz.ntmps79
 go_wp2_with fail
 refine (HC.out).mono ?_;rintro e w1 ⟨rfl,b1⟩;go_wp2;go_ret;exact ⟨rfl,b1⟩
theorem CZ (w:World) (b o:Nat) (vd vp:Value) (Z7:List Int) (ps:List (Int × List Int)) (lim made:Int) (L:List Value) (hS:St w b L) (l0:L[o]?=some vd) (l1:L[o+1]?=some vp) (l2:L[o+2]?=some (.int .i64 lim)) (l3:L[o+3]?=some (.int .i64 made)) (hd:∀W,Tw w b none W none→Rd .u8 W vd Z7∧XP W vp ps) (hdl:Z7.length≤1048576) (hpl:ps.length≤1048576) (XV:∀i,(pD ps i).length≤1048576) (hl:-9223372036854775808≤lim∧lim≤9223372036854775807) (hm:0≤made∧made≤10000) (h:Vq lim made≠0) :
    Calls Tryz.prog 79 #[.pointer (some ⟨b,o,none⟩)] w fun e w'=>e=.returned (.bool true)∧∃u,St w' b (((L.set (o+3) (.int .i64 (made+1))).set o u).set (o+1) (.slice none 0 0))∧Own .u8 5 w' w.heap.size u (ZC Z7 ps)∧Tw w b vp.ownBlock w' vp.ownBlock:=by
 have hlt:=hS.lt;have HC:Hid (Calls Tryz.prog 111 #[.pointer (some ⟨b,o,none⟩)] w fun e w'=>e=.returned (.bool true)∧∃w1,ZX w w1∧w'=w1.setCell ⟨b,o+3,none⟩ (.int .i64 (made+1))) :=
  Lu w b o lim made (hS.cl _ _ l2) (hS.cl _ _ l3) (hS.fz _) hS.lt hl hm h
 have HS:=Z8 hS;have qE:Hid (∀W,Tw w b none W none→Calls Tryz.prog 71 #[.agg #[vd,vp]] W fun e w'=>∃u,e=.returned (.agg #[u,.slice none 0 0])∧Own .u8 5 w' W.heap.size u (ZC Z7 ps)∧ZX W w'):=fun W hW =>
  QG W vd vp Z7 ps (hd W hW).1 (hd W hW).2 hdl hpl XV
 have L0:Hid ((L.set (o+3) (.int .i64 (made+1)))[o]?=some vd∧(L.set (o+3) (.int .i64 (made+1)))[o+1]?=some vp):=⟨by rw [DR (by omega)];exact l0,by rw [DR (by omega)];exact l1⟩;clear h l0 l1 l2 l3 hS hd
 go_enter Tryz.func79,Tryz.ntmps79
 go_wp2_with fail
 refine (HC.out).mono ?_;rintro e w2 ⟨rfl,w1,b1,rfl⟩;have S2:Hid (St (w1.setCell ⟨b,o+3,none⟩ (.int .i64 (made+1))) b (L.set (o+3) (.int .i64 (made+1)))):=(HS.out.ZL b1 hlt).set _ _;have T2:Hid (Tw w b vp.ownBlock (w1.setCell ⟨b,o+3,none⟩ (.int .i64 (made+1))) vp.ownBlock):=(Tw.Za b1 _ _).set;have Y5:Hid (Tw w b none (w1.setCell ⟨b,o+3,none⟩ (.int .i64 (made+1))) none):=(Tw.Za b1 _ _).set;clear b1 HC HS;generalize w1.setCell _ _=w2 at *;have q0:=S2.out.cl _ _ L0.out.1;have q1:=S2.out.cl _ _ L0.out.2
 go_wp2_with fail
 refine (qE.out _ Y5.out).mono ?_;rintro e w3 ⟨u,rfl,o3,b3⟩;obtain ⟨ua,uc,hu⟩:=o3.slice;subst hu;generalize BH:(ZC Z7 ps).length=ul at *;have S3:=Z8 (S2.out.below b3);have f0:=S3.out.fz o;have f1:=S3.out.fz (o+1);have z0:=S3.out.cl _ _ L0.out.1;have z1:=S3.out.cl _ _ L0.out.2;have hub:(Value.slice ua ul uc).ownBlock≠some b:=fun e=>by have:=(o3.lt b e).1;have:=S2.out.lt;omega
 have FIN:Hid (∃u',St ((w3.setCell ⟨b,o,none⟩ (.slice ua ul uc)).setCell ⟨b,o+1,none⟩ (.slice none 0 0)) b (((L.set (o+3) (.int .i64 (made+1))).set o u').set (o+1) (.slice none 0 0))∧Own .u8 5 ((w3.setCell ⟨b,o,none⟩ (.slice ua ul uc)).setCell ⟨b,o+1,none⟩ (.slice none 0 0)) w.heap.size u' (ZC Z7 ps)∧Tw w b vp.ownBlock ((w3.setCell ⟨b,o,none⟩ (.slice ua ul uc)).setCell ⟨b,o+1,none⟩ (.slice none 0 0)) vp.ownBlock):=by
  refine ⟨_,(S3.out.set o (.slice ua ul uc)).set _ _,?_,((T2.out.trans (Tw.Za b3 _ _)).set).set⟩;exact ((o3.mono T2.out.size).setAt (.inr hub)).setAt (.inr hub)
 clear S2 T2 Y5 q0 q1 o3 b3 hub L0 qE;go_wp2;go_ret;exact ⟨rfl,FIN.out⟩
def TO (w:World) (S L:Int) (W:World):Prop :=
 Hid (ZX w W∧YK W w.heap.size (.int .i64 S) (.int .i64 L)∧∃x y,Zm W (w.heap.size+1) x y)∧W.cell? ⟨w.heap.size,0,none⟩=some (.int .i64 S)∧W.cell? ⟨w.heap.size,1,none⟩=some (.int .i64 L)
theorem TO.below {L:Int} (h:TO w S L W) (hb:ZX W W'):TO w S L W':=by
 obtain ⟨x,y,hx⟩:=h.1.out.2.2;exact ⟨⟨h.1.out.1.trans (hb.mono h.1.out.1.size),h.1.out.2.1.below hb,x,y,hx.below hb⟩,(h.1.out.2.1.below hb).2.1,(h.1.out.2.1.below hb).2.2⟩
theorem TO.new (w:World) (S L:Int) (t1 t2:TypeId):TO w S L ((w.alloc (.cells #[.int .i64 S,.int .i64 L] t1)).alloc (.cells #[.int .i64 0,.int .i64 0] t2)):=by
 have h1:=(YK.new w (.int .i64 S) (.int .i64 L) t1).below (ZR.alloc ZW (.cells #[.int .i64 0,.int .i64 0] t2));have h2:=Zm.new (w.alloc (.cells #[.int .i64 S,.int .i64 L] t1)) (.int .i64 0) (.int .i64 0) t2;exact ⟨⟨(ZR.alloc ZW _).alloc (by simp) _,h1,_,_,by simpa using h2⟩,h1.2.1,h1.2.2⟩
theorem Zm.stored {y:Value} (h:Zm W b x y) (u v:Value):Zm ((W.setCell ⟨b,0,none⟩ u).setCell ⟨b,1,none⟩ v) b u v:=by
 obtain ⟨⟨z,c0,c1⟩,f0,f1⟩:=h;exact ⟨⟨by simpa using z,by go_simp,by go_simp⟩,by simpa using f0,by simpa using f1⟩
theorem TO.stored {L:Int} (h:TO w S L W) (u v:Value):YK ((W.setCell ⟨w.heap.size+1,0,none⟩ u).setCell ⟨w.heap.size+1,1,none⟩ v) (w.heap.size+1) u v:=by
 obtain ⟨x,y,hx⟩:=h.1.out.2.2;exact (hx.stored u v).1
theorem TO.store {L:Int} (h:TO w S L W) (u v:Value):TO w S L ((W.setCell ⟨w.heap.size+1,0,none⟩ u).setCell ⟨w.heap.size+1,1,none⟩ v):=by
 obtain ⟨x,y,hx⟩:=h.1.out.2.2;have hb:Below (w.heap.size+1) W ((W.setCell ⟨w.heap.size+1,0,none⟩ u).setCell ⟨w.heap.size+1,1,none⟩ v):=by
  refine Zf (Zf ZR ?_ _) ?_ _ <;> exact ZW
 have b1:=h.1.out.2.1;have b2:YK ((W.setCell ⟨w.heap.size+1,0,none⟩ u).setCell ⟨w.heap.size+1,1,none⟩ v) w.heap.size (.int .i64 S) (.int .i64 L):=⟨ZB b1.1 hb.size,(hb.cell (p:=⟨w.heap.size,0,none⟩) (by show w.heap.size<_;omega)).trans b1.2.1,(hb.cell (p:=⟨w.heap.size,1,none⟩) (by show w.heap.size<_;omega)).trans b1.2.2⟩;exact ⟨⟨h.1.out.1.trans (hb.mono (by omega)),b2,u,v,hx.stored u v⟩,b2.2.1,b2.2.2⟩
theorem QD (w:World) (S L ZN:Int) (hc:Xh S L=true) (hb:0≤ZN∧ZN≤1) :
    Calls Tryz.prog 102 #[.agg #[.int .i64 S,.int .i64 L],.int .i64 ZN] w (Ze w (.agg #[.int .i64 (YM S L ZN false),.int .i64 (Rx S L false)])):=by
 obtain ⟨⟨hS1,hS2⟩,hL1,hL2⟩:=(Zs S L).1 hc;clear hc;have hb':ZN=0∨ZN=1:=by omega
 have HA:Hid (YM S L ZN false=2+ZN*(S+L)∧Rx S L false=S):=by unfold YM Rx;exact ⟨by simp,rfl⟩
 have hm:0≤ZN*(S+L)∧ZN*(S+L)≤128:=by rcases hb' with rfl | rfl <;> omega
 rw [HA.out.1,HA.out.2]
 go_enter Tryz.func102,Tryz.ntmps102
 go_wp2_with fail
 have F0:Hid (TO w S L ((w.alloc (.cells #[.int .i64 S,.int .i64 L] 41)).alloc (.cells #[.int .i64 0,.int .i64 0] 151))):=TO.new _ _ _ _ _;generalize (w.alloc _).alloc _=w0 at *;refine ZF (S:=TO w S L) (by kernel_rfl) (F0.out.below (below_drewN' w0 1)) (fun Z9=>?_)
 iterate 2 (refine ZV ?_ (by kernel_rfl) (fun _=>id) Z9 ?_ ?_;rotate_left;· intro w9 Z4;obtain ⟨-,k0,k1⟩:=Z4;go_simp;try with_reducible rfl)
 refine ZA 5 ?v11 rfl (by kernel_rfl) (fun _=>id) Z9 ?yM ?_
 case yM=>intro w9 Z4;obtain ⟨-,k0,k1⟩:=Z4;go_simp;try with_reducible rfl
 refine ZA 6 ?v12 rfl (by kernel_rfl) (fun _=>id) Z9 ?F ?_
 case F=>intro w9 Z4;obtain ⟨-,k0,k1⟩:=Z4;go_simp;try with_reducible rfl
 refine ZS 2 rfl (by kernel_rfl) (fun K hK=>?_);go_simp;refine (Tl _ S L hS1 hS2 hL1 hL2).mono ?_;rintro e w2 ⟨rfl,b2⟩;have F2:=Z8 (Z9.below b2);clear b2;clear Z9;refine hK.out _ _ (F2.out) (fun Z9=>?_);clear hK K;refine ZA 3 (.int .i64 (ZN*(S+L))) rfl (by kernel_rfl) (fun _=>id) Z9 ?Y4 ?_
 case Y4 =>
  intro w9 Z4;go_simp
  try (rw [Xf];omega)
 refine ZA 4 (.int .i64 (2+ZN*(S+L))) rfl (by kernel_rfl) (fun _=>id) Z9 ?Y3 ?_
 case Y3 =>
  intro w9 Z4;go_simp
  try (rw [Xf];omega)
 refine ZV ?_ (by kernel_rfl) (fun _=>id) Z9 ?_ ?_
 rotate_left
 · intro w9 Z4;obtain ⟨-,k0,k1⟩:=Z4;go_simp;try with_reducible rfl
 refine ZS 8 rfl (by kernel_rfl) (fun K hK=>?_);obtain ⟨x9,y9,ZZ⟩:=F2.out.1.out.2.2;obtain ⟨⟨z9,d0,d1⟩,f0,f1⟩:=ZZ;go_simp;have F3:Hid (TO w S L ((w2.setCell ⟨w.heap.size+1,0,none⟩ (.int .i64 (2+ZN*(S+L)))).setCell ⟨w.heap.size+1,1,none⟩ (.int .i64 S))):=F2.out.store _ _;have X3:Hid (YK ((w2.setCell ⟨w.heap.size+1,0,none⟩ (.int .i64 (2+ZN*(S+L)))).setCell ⟨w.heap.size+1,1,none⟩ (.int .i64 S)) (w.heap.size+1) (.int .i64 (2+ZN*(S+L))) (.int .i64 S)):=F2.out.stored _ _;clear d0 d1 f0 f1 z9 F2;generalize ((w2.setCell _ _).setCell _ _)=w3 at *;clear Z9;refine hK.out _ _ (F3.out) (fun Z9=>?_);clear hK K;refine ZM (by kernel_rfl) ?_ _
 try simp only [Act.put,Zk,Zj,Zi]
 clear Z9;obtain ⟨-,d0,d1⟩:=X3.out;go_wp2;refine ZT (v:=.agg #[.int .i64 (2+ZN*(S+L)),.int .i64 S]) (by simp [results,Tryz.results102,go_sem,d0,d1]) rfl ⟨rfl,F3.out.1.out.1⟩
theorem Hh (x y:Value) (W:World):(Instr.field 36 (.agg #[x,y]) 0).run Tryz.prog W=.ok x W:=by kernel_rfl
theorem CV (x y:Value) (W:World):(Instr.field 151 (.agg #[x,y]) 0).run Tryz.prog W=.ok x W:=by kernel_rfl
theorem PF (w:World) (S L ZN:Int) (hc:Xh S L=true) (hb:0≤ZN∧ZN≤1) :
    Calls Tryz.prog 107 #[.agg #[.int .i64 S,.int .i64 L],.int .i64 ZN] w (Ze w (.agg #[.int .i64 (YM S L ZN true),.int .i64 (Rx S L true)])):=by
 obtain ⟨⟨hS1,hS2⟩,hL1,hL2⟩:=(Zs S L).1 hc;have HC:Hid (Xh S L=true∧0≤ZN∧ZN≤1):=⟨hc,hb⟩;clear hc;have hb':ZN=0∨ZN=1:=by omega
 have HA:Hid (YM S L ZN true=YM S L ZN false+S∧Rx S L true=L):=by unfold YM Rx;exact ⟨by simp,rfl⟩
 have hm:2≤YM S L ZN false∧YM S L ZN false≤130:=by unfold YM;rcases hb' with rfl | rfl <;> simp <;> omega
 rw [HA.out.1,HA.out.2];have Yx:Hid (∀W,Calls Tryz.prog 102 #[.agg #[.int .i64 S,.int .i64 L],.int .i64 ZN] W (Ze W (.agg #[.int .i64 (YM S L ZN false),.int .i64 (Rx S L false)]))):=fun W=>QD W S L ZN HC.out.1 HC.out.2
 generalize YM S L ZN false=q at *;generalize Rx S L false=q2 at *;clear hb hb'
 go_enter Tryz.func107,Tryz.ntmps107
 go_wp2_with fail
 have F0:Hid (TO w S L ((w.alloc (.cells #[.int .i64 S,.int .i64 L] 41)).alloc (.cells #[.int .i64 0,.int .i64 0] 151))):=TO.new _ _ _ _ _;generalize (w.alloc _).alloc _=w0 at *;refine ZF (S:=TO w S L) (by kernel_rfl) (F0.out.below (below_drewN' w0 1)) (fun Z9=>?_)
 iterate 2 (refine ZV ?_ (by kernel_rfl) (fun _=>id) Z9 ?_ ?_;rotate_left;· intro w9 Z4;obtain ⟨-,k0,k1⟩:=Z4;go_simp;try with_reducible rfl)
 refine ZA 4 ?v18 rfl (by kernel_rfl) (fun _=>id) Z9 ?Y2 ?_
 case Y2=>intro w9 Z4;obtain ⟨-,k0,k1⟩:=Z4;go_simp;try with_reducible rfl
 refine ZA 5 ?v19 rfl (by kernel_rfl) (fun _=>id) Z9 ?Y1 ?_
 case Y1=>intro w9 Z4;obtain ⟨-,k0,k1⟩:=Z4;go_simp;try with_reducible rfl
 refine ZA 7 ?v20 rfl (by kernel_rfl) (fun _=>id) Z9 ?sZ ?_
 case sZ=>intro w9 Z4;obtain ⟨-,k0,k1⟩:=Z4;go_simp;try with_reducible rfl
 refine ZA 8 ?v21 rfl (by kernel_rfl) (fun _=>id) Z9 ?sY ?_
 case sY=>intro w9 Z4;obtain ⟨-,k0,k1⟩:=Z4;go_simp;try with_reducible rfl
 refine ZS 2 rfl (by kernel_rfl) (fun K hK=>?_);go_simp;refine (Yx.out _).mono ?_;rintro e w2 ⟨rfl,b2⟩;have F2:=Z8 (Z9.below b2);clear b2;clear Z9;refine hK.out _ _ (F2.out) (fun Z9=>?_);clear hK K;refine ZA 3 (.int .i64 q) rfl (by kernel_rfl) (fun _=>id) Z9 ?yX ?_
 case yX =>
  intro w9 Z4;have tj:=CV (.int .i64 q) (.int .i64 q2) w9;go_simp
 refine ZA 6 (.int .i64 (q+S)) rfl (by kernel_rfl) (fun _=>id) Z9 ?yW ?_
 case yW =>
  intro w9 Z4;go_simp
  try (rw [Xf];omega)
 refine ZV ?_ (by kernel_rfl) (fun _=>id) Z9 ?_ ?_
 rotate_left
 · intro w9 Z4;obtain ⟨-,k0,k1⟩:=Z4;go_simp;try with_reducible rfl
 refine ZS 10 rfl (by kernel_rfl) (fun K hK=>?_);obtain ⟨x9,y9,ZZ⟩:=F2.out.1.out.2.2;obtain ⟨⟨z9,d0,d1⟩,f0,f1⟩:=ZZ;go_simp;have F3:Hid (TO w S L ((w2.setCell ⟨w.heap.size+1,0,none⟩ (.int .i64 (q+S))).setCell ⟨w.heap.size+1,1,none⟩ (.int .i64 L))):=F2.out.store _ _;have X3:Hid (YK ((w2.setCell ⟨w.heap.size+1,0,none⟩ (.int .i64 (q+S))).setCell ⟨w.heap.size+1,1,none⟩ (.int .i64 L)) (w.heap.size+1) (.int .i64 (q+S)) (.int .i64 L)):=F2.out.stored _ _;clear d0 d1 f0 f1 z9 F2;generalize ((w2.setCell _ _).setCell _ _)=w3 at *;clear Z9;refine hK.out _ _ (F3.out) (fun Z9=>?_);clear hK K;refine ZM (by kernel_rfl) ?_ _
 try simp only [Act.put,Zk,Zj,Zi]
 clear Z9;obtain ⟨-,d0,d1⟩:=X3.out;go_wp2;refine ZT (v:=.agg #[.int .i64 (q+S),.int .i64 L]) (by simp [results,Tryz.results107,go_sem,d0,d1]) rfl ⟨rfl,F3.out.1.out.1⟩
theorem Nw (w:World) (g N C f l:Nat) (hfl:(f+l)*64≤N) (hl1:1≤l) (hN:N≤C) (p7:N≤1048576) :
    Calls Tryz.prog 103 #[.agg #[.int .i64 (f:Int),.int .i64 (l:Int)],.slice (some ⟨g,0,none⟩) N C] w (Ze w (.slice (some ⟨g,f*64,none⟩) (l*64) (C - f*64))):=by
 have B0:Hid (ZX w (w.alloc (.cells #[.int .i64 (f:Int),.int .i64 (l:Int)] 151))):=ZR.alloc ZW _;have hne:¬C=f*64:=by omega
 have HE:Hid ((f+l)*64 - f*64=l*64):=by show _=_;omega
 go_enter Tryz.func103,Tryz.ntmps103
 go_wp2;go_ret;rw [HE.out];exact ⟨rfl,B0.out⟩
theorem Hg (w:World) (v1 v2:Value) (Z7:List Int) (ps:List (Int × List Int)) (hd:Rd .u8 w v1 Z7) (hp:XP w v2 ps) (hdl:Z7.length≤1048576) (hn:ps.length≤1048576) (XV:∀i,(pD ps i).length≤1048576) :
    Calls Tryz.prog 32 #[.agg #[v1,v2]] w fun e w'=>∃u,e=.returned u∧Own .u8 5 w' w.heap.size u (ZC Z7 ps)∧ZX w w':=by
 obtain ⟨va,ca,rfl,-⟩:=hd.len;obtain ⟨vb,cb,rfl,-⟩:=id hp;have HD:=Z8 hd;have HP:=Z8 hp;have Xd:=Z8 XV;have B0:Hid (ZX w (w.alloc (.cells #[.slice va Z7.length ca,.slice vb ps.length cb] 36))):=ZR.alloc ZW _;clear hd hp XV
 go_enter Tryz.func32,Tryz.ntmps32
 go_wp2_with fail
 generalize w.alloc _=w0 at *;refine (QG _ _ _ Z7 ps (HD.out.below B0.out) (HP.out.below B0.out) hdl hn Xd.out).mono ?_;rintro e w1 ⟨u,rfl,o1,b1⟩;have O1:=Z8 (o1.mono B0.out.size);have B1:=Z8 (Ye B0.out b1);clear o1 b1 B0;have tj:=Hh u (.slice none 0 0) w1;go_wp2;go_ret;exact ⟨_,rfl,O1.out,B1.out⟩
def qD (S:Int) (ys:List Int):Value:=if Ub ys∧nL ys≤S*64 then .agg #[.bool true,.int .i64 (nG ys),.int .i64 (nB ys),.int .i64 (nS ys),.int .i64 (nL ys),.int .i64 (nC ys)] else .agg #[.bool false,.int .i64 0,.int .i64 0,.int .i64 0,.int .i64 0,.int .i64 0]
theorem vT (S:Int) (hS:1≤S) (ys:List Int):∃(gg:Bool) (x0 x1 x2 x3 x4:Int),UM ys=.agg #[.bool gg,.int .i64 x0,.int .i64 x1,.int .i64 x2,.int .i64 x3,.int .i64 x4]∧qD S ys=if S*64<x3 then .agg #[.bool false,.int .i64 0,.int .i64 0,.int .i64 0,.int .i64 0,.int .i64 0] else .agg #[.bool gg,.int .i64 x0,.int .i64 x1,.int .i64 x2,.int .i64 x3,.int .i64 x4]:=by
 unfold UM qD
 by_cases h:Ub ys
 · rw [ZY h]
   refine ⟨_,_,_,_,_,_,rfl,?_⟩
   by_cases h2:nL ys≤S*64
   · rw [ZY ⟨h,h2⟩,Z3 (by omega)]
   rw [Z3 (fun hh=>h2 hh.2),ZY (by omega)]
 rw [Z3 h];refine ⟨_,_,_,_,_,_,rfl,?_⟩;rw [Z3 (fun hh=>h hh.1),Z3 (by omega)]
theorem Xs (b:Nat):∀(vs:List Value) (o:Nat) (w:World),(w.setCells b o vs).heap.size=w.heap.size
 | [],_,_=>rfl
 | v :: r,o,w=>by rw [World.setCells,Xs b r];simp
theorem yL {V:List Int} (hV:V.length=64) (h:W.rangeAt b 0 (V.map (Value.int .u8))) (hb:b<W.heap.size):Rd .u8 W (.slice (some ⟨b,0,none⟩) 64 64) V:=by
 refine ⟨_,_,by rw [hV],by omega,by unfold maxLen;omega,.inr ⟨b,0,rfl,hb,fun i hi=>?_⟩⟩;exact (show W.cell? ⟨b,0+i,none⟩=_ from h i (.int .u8 (V.getD i 0)) (by rw [uv,List.getD,VM hi];rfl))
theorem JT (w:World) (b i g co N C:Nat) (S:Int) (cont:List Int) (c0:w.cell? ⟨b,0,none⟩=some (.int .i64 S)) (c6:w.cell? ⟨b,6,none⟩=some (.slice (some ⟨g,co,none⟩) N C)) (hlt:b<w.heap.size) (hr:Rd .u8 w (.slice (some ⟨g,co,none⟩) N C) cont) (hby:YL cont) (hN:cont.length=N) (hi:(i+1)*64≤N) (NA:N≤1048576) (hS:1≤S∧S≤64) :
    Calls Tryz.prog 72 #[.pointer (some ⟨b,0,none⟩),.int .i64 (i:Int)] w (Ze w (qD S (blk cont i))):=by
 have vZ:Hid (∀W,ZX w W→Calls Tryz.prog 100 #[.slice (some ⟨g,co,none⟩) N C,.int .i64 (i:Int)] W (Ze W (.agg ((blk cont i).map (Value.int .u8)).toArray))):=fun W hW=>PK W g co N C i cont (hr.below hW) hN hi NA
 have Xe:Hid (YL (blk cont i)):=fun y hy=>hby y (Wf (Vp hy))
 have qG:Hid ((blk cont i).length=64):=by show _=_;unfold blk;simp;omega
 have B0:Hid (ZX w (w.alloc (.cells #[.bool false,.int .i64 0,.int .i64 0,.int .i64 0,.int .i64 0,.int .i64 0] 52))):=ZR.alloc ZW _;have R0:Hid (St (w.alloc (.cells #[.bool false,.int .i64 0,.int .i64 0,.int .i64 0,.int .i64 0,.int .i64 0] 52)) w.heap.size [.bool false,.int .i64 0,.int .i64 0,.int .i64 0,.int .i64 0,.int .i64 0]):=St.new w _ _;have k6:=(B0.out.cell (p:=⟨b,6,none⟩) hlt).trans c6;have yh:=Z8 c0;have Z4:IntKind.i64.wrap (S*64)=S*64:=by rw [Xf];omega
 generalize blk cont i=ys at *;clear hr c0 c6
 go_enter Tryz.func72,Tryz.ntmps72
 go_wp2_with fail
 generalize w.alloc _=w0 at *;refine (vZ.out _ B0.out).mono ?_;rintro e w1 ⟨rfl,b1⟩;have Fz:Hid (∀v ∈ (ys.map (Value.int .u8)),v.oneCell'=true):=Wc _ _;have HX:Hid ((ys.map (Value.int .u8)).length=64):=by show _=_;rw [Vi];exact qG.out
 have B1:=Z8 (Ye B0.out b1);have R1:=Z8 (R0.out.below b1);clear b1 B0 R0 k6 vZ;obtain ⟨V,hV⟩:∃V,V=ys.map (Value.int .u8):=⟨_,rfl⟩;rw [←hV] at HX Fz ⊢;have HV:=Z8 hV;clear hV
 go_wp2_with (refine A4 rfl 125 _ _ rfl w1.heap.size 0 V.toArray rfl rfl ?s1 ?s2 ?s3 ?_)
 case s1 =>
  have e:V.toArray.size=64:=by rw [WW];exact HX.out
  rw [e];exact Xg _ _ _ _ rfl
 case s2=>rw [WW];exact Yk _ HX.out
 case s3=>exact Sn Fz.out
 generalize hW2:World.setCells _ _ _ _=w2;have B2:Hid (ZX w1 w2):=by subst hW2;exact below_setCells ZW _ _ _ (ZR.alloc ZW _)
 have Y0:Hid (w2.rangeAt w1.heap.size 0 V):=by
  subst hW2;exact Jh _ _ _ _ (Xg _ _ _ _ (by rw [HX.out];rfl))
 have hs2:w1.heap.size<w2.heap.size:=by subst hW2;rw [Xs,XE];omega
 clear hW2 Fz;refine (Hn w2 _ ys (yL qG.out (by rw [←HV.out];exact Y0.out) hs2) Xe.out).mono ?_;rintro e w3 ⟨rfl,b3⟩;obtain ⟨gg,x0,x1,x2,x3,x4,hdec,hgs⟩:=vT S hS.1 ys;rw [hdec];have uU:=Z8 hgs;have B3:=Z8 ((Ye B1.out B2.out).trans (b3.mono (by have:=B1.out.size;have:=B2.out.size;omega)));have R3:=Z8 ((R1.out.below B2.out).below b3);have hs3:=R3.out.lt;clear b3 B1 B2 Y0 HX HV R1 hs2 hdec hgs qG Xe
 go_wp2_with fail
 have X4:Hid (St (w3.alloc (.cells #[.bool gg,.int .i64 x0,.int .i64 x1,.int .i64 x2,.int .i64 x3,.int .i64 x4] 52)) w3.heap.size [.bool gg,.int .i64 x0,.int .i64 x1,.int .i64 x2,.int .i64 x3,.int .i64 x4]):=St.new _ _ _;have ZK:Hid (ZX w3 (w3.alloc (.cells #[.bool gg,.int .i64 x0,.int .i64 x1,.int .i64 x2,.int .i64 x3,.int .i64 x4] 52))):=ZR.alloc ZW _;generalize w3.alloc _=w4 at *;have B4:=Z8 (Ye B3.out ZK.out);have R4:=Z8 (R3.out.below ZK.out);have k0:=(B4.out.cell (p:=⟨b,0,none⟩) hlt).trans yh.out;have y4:=X4.out.cl 4 _ rfl;clear B3 ZK R3
 go_quiet (fail)
 clear k0 y4;have y0:=X4.out.cl 0 _ rfl;have y1:=X4.out.cl 1 _ rfl;have y2:=X4.out.cl 2 _ rfl;have y3:=X4.out.cl 3 _ rfl;have y4:=X4.out.cl 4 _ rfl;have y5:=X4.out.cl 5 _ rfl;have t0:=R4.out.cl 0 _ rfl;have t1:=R4.out.cl 1 _ rfl;have t2:=R4.out.cl 2 _ rfl;have t3:=R4.out.cl 3 _ rfl;have t4:=R4.out.cl 4 _ rfl;have t5:=R4.out.cl 5 _ rfl;have f0:=R4.out.fz 0;have f1:=R4.out.fz 1;have f2:=R4.out.fz 2;have f3:=R4.out.fz 3;have f4:=R4.out.fz 4;have f5:=R4.out.fz 5
 by_cases hx:S*64<x3
 · go_wp2
   have SE:Hid (St (((((((w4.drewN nq).setCell ⟨w.heap.size,0,none⟩ (.bool false)).setCell ⟨w.heap.size,1,none⟩ (.int .i64 0)).setCell ⟨w.heap.size,2,none⟩ (.int .i64 0)).setCell ⟨w.heap.size,3,none⟩ (.int .i64 0)).setCell ⟨w.heap.size,4,none⟩ (.int .i64 0)).setCell ⟨w.heap.size,5,none⟩ (.int .i64 0)) w.heap.size [.bool false,.int .i64 0,.int .i64 0,.int .i64 0,.int .i64 0,.int .i64 0]):=(((((((R4.out.below (below_drewN' w4 nq)).set 0 (.bool false)).set 1 (.int .i64 0)).set 2 (.int .i64 0)).set 3 (.int .i64 0)).set 4 (.int .i64 0)).set 5 (.int .i64 0));have BE:Hid (ZX w (((((((w4.drewN nq).setCell ⟨w.heap.size,0,none⟩ (.bool false)).setCell ⟨w.heap.size,1,none⟩ (.int .i64 0)).setCell ⟨w.heap.size,2,none⟩ (.int .i64 0)).setCell ⟨w.heap.size,3,none⟩ (.int .i64 0)).setCell ⟨w.heap.size,4,none⟩ (.int .i64 0)).setCell ⟨w.heap.size,5,none⟩ (.int .i64 0))):=by
    iterate 6 refine Zf ?_ (by show w.heap.size≤w.heap.size;exact ZW) _
    exact B4.out.trans ((below_drewN' w4 nq).mono B4.out.size)
   clear y0 t0 f0 y1 t1 f1 y2 t2 f2 y3 t3 f3 y4 t4 f4 y5 t5 f5;generalize (((((((w4.drewN nq).setCell _ _).setCell _ _).setCell _ _).setCell _ _).setCell _ _).setCell _ _)=wE at *;have e0:=SE.out.cl 0 _ rfl;have e1:=SE.out.cl 1 _ rfl;have e2:=SE.out.cl 2 _ rfl;have e3:=SE.out.cl 3 _ rfl;have e4:=SE.out.cl 4 _ rfl;have e5:=SE.out.cl 5 _ rfl;exact ZT (v:=.agg #[.bool false,.int .i64 0,.int .i64 0,.int .i64 0,.int .i64 0,.int .i64 0]) (by simp [results,Tryz.results72,go_sem,e0,e1,e2,e3,e4,e5]) rfl ⟨by rw [uU.out,ZY hx],BE.out⟩
 go_wp2;have SE:Hid (St (((((((w4.drewN nq).setCell ⟨w.heap.size,0,none⟩ (.bool gg)).setCell ⟨w.heap.size,1,none⟩ (.int .i64 x0)).setCell ⟨w.heap.size,2,none⟩ (.int .i64 x1)).setCell ⟨w.heap.size,3,none⟩ (.int .i64 x2)).setCell ⟨w.heap.size,4,none⟩ (.int .i64 x3)).setCell ⟨w.heap.size,5,none⟩ (.int .i64 x4)) w.heap.size [.bool gg,.int .i64 x0,.int .i64 x1,.int .i64 x2,.int .i64 x3,.int .i64 x4]):=(((((((R4.out.below (below_drewN' w4 nq)).set 0 (.bool gg)).set 1 (.int .i64 x0)).set 2 (.int .i64 x1)).set 3 (.int .i64 x2)).set 4 (.int .i64 x3)).set 5 (.int .i64 x4));have BE:Hid (ZX w (((((((w4.drewN nq).setCell ⟨w.heap.size,0,none⟩ (.bool gg)).setCell ⟨w.heap.size,1,none⟩ (.int .i64 x0)).setCell ⟨w.heap.size,2,none⟩ (.int .i64 x1)).setCell ⟨w.heap.size,3,none⟩ (.int .i64 x2)).setCell ⟨w.heap.size,4,none⟩ (.int .i64 x3)).setCell ⟨w.heap.size,5,none⟩ (.int .i64 x4))):=by
  iterate 6 refine Zf ?_ (by show w.heap.size≤w.heap.size;exact ZW) _
  exact B4.out.trans ((below_drewN' w4 nq).mono B4.out.size)
 clear y0 t0 f0 y1 t1 f1 y2 t2 f2 y3 t3 f3 y4 t4 f4 y5 t5 f5;generalize (((((((w4.drewN nq).setCell _ _).setCell _ _).setCell _ _).setCell _ _).setCell _ _).setCell _ _)=wE at *;have e0:=SE.out.cl 0 _ rfl;have e1:=SE.out.cl 1 _ rfl;have e2:=SE.out.cl 2 _ rfl;have e3:=SE.out.cl 3 _ rfl;have e4:=SE.out.cl 4 _ rfl;have e5:=SE.out.cl 5 _ rfl;exact ZT (v:=.agg #[.bool gg,.int .i64 x0,.int .i64 x1,.int .i64 x2,.int .i64 x3,.int .i64 x4]) (by simp [results,Tryz.results72,go_sem,e0,e1,e2,e3,e4,e5]) rfl ⟨by rw [uU.out,Z3 (by omega)],BE.out⟩
def GF (im:List Int) (c:Int):Option (List Nd):=if ((4294967295 - Tj 4294967295 im:Nat):Int)=c then Ty im else none
def Fr (w:World) (o:Option (List Nd)) (e:Ending) (w':World):Prop :=
 ZX w w'∧((o=none∧e=.returned (.agg #[.bool false,.slice none 0 0]))∨∃ns v,o=some ns∧e=.returned (.agg #[.bool true,v])∧ZU 134 w' w.heap.size v ns)
structure xT (w:World) (xg xb xs xl xc:Int) (W:World):Prop where
 YJ:ZX w W
 sx:St W w.heap.size [.int .i64 xg,.int .i64 xb,.int .i64 xs,.int .i64 xl,.int .i64 xc]
 sr:St W (w.heap.size+1) [.bool false,.slice none 0 0]
theorem xT.below {xg xb xs xl xc:Int} (h:xT w xg xb xs xl xc W) (hb:ZX W W'):xT w xg xb xs xl xc W' :=
 ⟨h.YJ.trans (hb.mono h.YJ.size),h.sx.below hb,h.sr.below hb⟩
theorem xT.new (w:World) (xg xb xs xl xc:Int):xT w xg xb xs xl xc ((w.alloc (.cells #[.int .i64 xg,.int .i64 xb,.int .i64 xs,.int .i64 xl,.int .i64 xc] 30)).alloc (.cells #[.bool false,.slice none 0 0] 94)):=by
 refine ⟨(ZR.alloc ZW _).alloc (by simp) _,(St.new w _ _).below (ZR.alloc ZW _),?_⟩;have h9:=St.new (w.alloc (.cells #[.int .i64 xg,.int .i64 xb,.int .i64 xs,.int .i64 xl,.int .i64 xc] 30)) #[.bool false,.slice none 0 0] 94;rw [XE] at h9;exact h9
theorem Lt (w:World) (b g N C ln:Nat) (S L xg xb xs xl xc:Int) (cont:List Int) (c0:w.cell? ⟨b,0,none⟩=some (.int .i64 S)) (c1:w.cell? ⟨b,1,none⟩=some (.int .i64 L)) (c6:w.cell? ⟨b,6,none⟩=some (.slice (some ⟨g,0,none⟩) N C)) (hlt:b<w.heap.size) (hr:Rd .u8 w (.slice (some ⟨g,0,none⟩) N C) cont) (hby:YL cont) (hN:cont.length=N) (NA:N≤1048576) (hc:Xh S L=true) (Hf:2+2*(S+L)≤((N / 64:Nat):Int)) (hb:0≤xb∧xb≤1) (hl:xl=(ln:Int)) (hls:xl≤S*64) (ht:U1 w) (h0:0<w.heap.size) :
    Calls Tryz.prog 73 #[.pointer (some ⟨b,0,none⟩),.agg #[.int .i64 xg,.int .i64 xb,.int .i64 xs,.int .i64 xl,.int .i64 xc]] w (Fr w (GF ((YR cont (YM S L xb false).toNat S.toNat).take ln) xc)):=by
 obtain ⟨⟨hS1,hS2⟩,hL1,hL2⟩:=(Zs S L).1 hc;obtain ⟨sn,rfl⟩:∃sn:Nat,S=(sn:Int):=⟨S.toNat,by omega⟩;rw [XT];obtain ⟨f,hf⟩:∃f:Nat,YM (sn:Int) L xb false=(f:Int):=⟨(YM (sn:Int) L xb false).toNat,by
  have hk:xb=0∨xb=1:=by omega
  unfold YM
  rcases hk with rfl | rfl <;> simp <;> omega⟩
 have qC:(f+sn)*64≤N:=by
  have hk:xb=0∨xb=1:=by omega
  unfold YM at hf;have h2:N / 64*64≤N:=Bj _ _
  rcases hk with rfl | rfl <;> simp at hf <;> omega
 have qB:N≤C:=by
  obtain ⟨a8,c8,h8,h7,h6⟩:=hr.len
  simp only [Zc] at h8
  obtain ⟨-,h5,rfl⟩:=h8;omega
 have Yw:C≤9223372036854775807:=by
  obtain ⟨a8,c8,h8,h7,h6⟩:=hr.len
  simp only [Zc] at h8
  obtain ⟨-,h5,rfl⟩:=h8;unfold maxLen at h6;omega
 rw [hf,XT];have YZ:(YR cont f sn).take ln=(cont.drop (f*64)).take ln:=by
  unfold YR;rw [uh,So (by omega)]
 rw [YZ];have HR:Hid (∀W,ZX w W→Rd .u8 W (.slice (some ⟨g,f*64,none⟩) ln (C - f*64)) ((cont.drop (f*64)).take ln)):=by
  intro W hW;have h9:=Rd.part (hr.below hW) hN (f*64) ln (by omega);rw [Wn] at h9;exact h9
 have Xe:Hid (YL ((cont.drop (f*64)).take ln)):=fun y hy=>hby y (Wf (Vp hy))
 have Z':Hid (((cont.drop (f*64)).take ln).length≤1048576):=by
  show _≤_;have:=List.length_take_le ln (cont.drop (f*64));omega
 have S0:Hid (xT w xg xb xs xl xc ((w.alloc (.cells #[.int .i64 xg,.int .i64 xb,.int .i64 xs,.int .i64 xl,.int .i64 xc] 30)).alloc (.cells #[.bool false,.slice none 0 0] 94))):=xT.new _ _ _ _ _ _;have xU:Hid (∀W,Calls Tryz.prog 102 #[.agg #[.int .i64 (sn:Int),.int .i64 L],.int .i64 xb] W (Ze W (.agg #[.int .i64 (f:Int),.int .i64 (sn:Int)]))):=by
  intro W;have h9:=QD W (sn:Int) L xb hc hb;rw [hf,show Rx (sn:Int) L false=(sn:Int) from rfl] at h9;exact h9
 have Bz:Hid (∀W,Calls Tryz.prog 103 #[.agg #[.int .i64 (f:Int),.int .i64 (sn:Int)],.slice (some ⟨g,0,none⟩) N C] W (Ze W (.slice (some ⟨g,f*64,none⟩) (sn*64) (C - f*64)))):=fun W=>Nw W g N C f sn qC (by omega) qB NA
 have Vz:Hid (w.cell? ⟨b,0,none⟩=some (.int .i64 (sn:Int))∧w.cell? ⟨b,1,none⟩=some (.int .i64 L)∧w.cell? ⟨b,6,none⟩=some (.slice (some ⟨g,0,none⟩) N C)):=⟨c0,c1,c6⟩;have qA:Hid (∀W,ZX w W→U1 W):=fun W hW=>ht.below h0 hW
 have hlc:(ln:Int)≤((C - f*64:Nat):Int):=by omega
 have oZ:=Z8 hl;have Yv:ln≤sn*64:=by omega
 clear hr c0 c1 c6 ht hc YZ hf hby hl;have Yu:sn*64≤C - f*64:=by omega
 have hcm:C - f*64≤9223372036854775807:=by omega
 clear qC qB Yw Hf hN NA;generalize (cont.drop (f*64)).take ln=IM at *;generalize C - f*64=c9 at *;generalize f*64=fo at *;generalize hM:sn*64=M at *;clear hM
 go_enter Tryz.func73,Tryz.ntmps73
 go_wp2_with fail
 generalize (w.alloc _).alloc _=w0 at *;have Sd:=Z8 (S0.out.below (below_drewN' w0 1));refine ZF (S:=xT w xg xb xs xl xc) (by kernel_rfl) (Sd.out) (fun Z9=>?_)
 iterate 6 (refine ZV ?_ (by kernel_rfl) (fun _=>id) Z9 ?_ ?_;rotate_left;· intro w9 Z4;have k0:=(Z4.YJ.cell (p:=⟨b,0,none⟩) hlt).trans Vz.out.1;have k1:=(Z4.YJ.cell (p:=⟨b,1,none⟩) hlt).trans Vz.out.2.1;have k6:=(Z4.YJ.cell (p:=⟨b,6,none⟩) hlt).trans Vz.out.2.2;have x0:=Z4.sx.cl 0 _ rfl;have x1:=Z4.sx.cl 1 _ rfl;have x2:=Z4.sx.cl 2 _ rfl;have x3:=Z4.sx.cl 3 _ rfl;have x4:=Z4.sx.cl 4 _ rfl;clear Z4;go_simp;try with_reducible rfl)
 refine ZA 7 ?v7 rfl (by kernel_rfl) (fun _=>id) Z9 ?tA ?_
 case tA =>
  intro w9 Z4;have k0:=(Z4.YJ.cell (p:=⟨b,0,none⟩) hlt).trans Vz.out.1;have k1:=(Z4.YJ.cell (p:=⟨b,1,none⟩) hlt).trans Vz.out.2.1;have k6:=(Z4.YJ.cell (p:=⟨b,6,none⟩) hlt).trans Vz.out.2.2;have x0:=Z4.sx.cl 0 _ rfl;have x1:=Z4.sx.cl 1 _ rfl;have x2:=Z4.sx.cl 2 _ rfl;have x3:=Z4.sx.cl 3 _ rfl;have x4:=Z4.sx.cl 4 _ rfl;clear Z4;go_simp
  try with_reducible rfl
 refine ZA 8 ?v8 rfl (by kernel_rfl) (fun _=>id) Z9 ?qz ?_
 case qz =>
  intro w9 Z4;have k0:=(Z4.YJ.cell (p:=⟨b,0,none⟩) hlt).trans Vz.out.1;have k1:=(Z4.YJ.cell (p:=⟨b,1,none⟩) hlt).trans Vz.out.2.1;have k6:=(Z4.YJ.cell (p:=⟨b,6,none⟩) hlt).trans Vz.out.2.2;have x0:=Z4.sx.cl 0 _ rfl;have x1:=Z4.sx.cl 1 _ rfl;have x2:=Z4.sx.cl 2 _ rfl;have x3:=Z4.sx.cl 3 _ rfl;have x4:=Z4.sx.cl 4 _ rfl;clear Z4;go_simp
  try with_reducible rfl
 refine ZA 9 ?v9 rfl (by kernel_rfl) (fun _=>id) Z9 ?oY ?_
 case oY =>
  intro w9 Z4;have k0:=(Z4.YJ.cell (p:=⟨b,0,none⟩) hlt).trans Vz.out.1;have k1:=(Z4.YJ.cell (p:=⟨b,1,none⟩) hlt).trans Vz.out.2.1;have k6:=(Z4.YJ.cell (p:=⟨b,6,none⟩) hlt).trans Vz.out.2.2;have x0:=Z4.sx.cl 0 _ rfl;have x1:=Z4.sx.cl 1 _ rfl;have x2:=Z4.sx.cl 2 _ rfl;have x3:=Z4.sx.cl 3 _ rfl;have x4:=Z4.sx.cl 4 _ rfl;clear Z4;go_simp
  try with_reducible rfl
 refine ZA 10 (.slice (some ⟨g,0,none⟩) N C) rfl (by kernel_rfl) (fun _=>id) Z9 ?sP ?_
 case sP =>
  intro w9 Z4;have k0:=(Z4.YJ.cell (p:=⟨b,0,none⟩) hlt).trans Vz.out.1;have k1:=(Z4.YJ.cell (p:=⟨b,1,none⟩) hlt).trans Vz.out.2.1;have k6:=(Z4.YJ.cell (p:=⟨b,6,none⟩) hlt).trans Vz.out.2.2;have x0:=Z4.sx.cl 0 _ rfl;have x1:=Z4.sx.cl 1 _ rfl;have x2:=Z4.sx.cl 2 _ rfl;have x3:=Z4.sx.cl 3 _ rfl;have x4:=Z4.sx.cl 4 _ rfl;clear Z4;go_simp
 refine ZA 12 ?v11 rfl (by kernel_rfl) (fun _=>id) Z9 ?yM ?_
 case yM =>
  intro w9 Z4;have k0:=(Z4.YJ.cell (p:=⟨b,0,none⟩) hlt).trans Vz.out.1;have k1:=(Z4.YJ.cell (p:=⟨b,1,none⟩) hlt).trans Vz.out.2.1;have k6:=(Z4.YJ.cell (p:=⟨b,6,none⟩) hlt).trans Vz.out.2.2;have x0:=Z4.sx.cl 0 _ rfl;have x1:=Z4.sx.cl 1 _ rfl;have x2:=Z4.sx.cl 2 _ rfl;have x3:=Z4.sx.cl 3 _ rfl;have x4:=Z4.sx.cl 4 _ rfl;clear Z4;go_simp
  try with_reducible rfl
 refine ZA 13 (.int .i64 (ln:Int)) rfl (by kernel_rfl) (fun _=>id) Z9 ?F ?_
 case F =>
  intro w9 Z4;have k0:=(Z4.YJ.cell (p:=⟨b,0,none⟩) hlt).trans Vz.out.1;have k1:=(Z4.YJ.cell (p:=⟨b,1,none⟩) hlt).trans Vz.out.2.1;have k6:=(Z4.YJ.cell (p:=⟨b,6,none⟩) hlt).trans Vz.out.2.2;have x0:=Z4.sx.cl 0 _ rfl;have x1:=Z4.sx.cl 1 _ rfl;have x2:=Z4.sx.cl 2 _ rfl;have x3:=Z4.sx.cl 3 _ rfl;have x4:=Z4.sx.cl 4 _ rfl;rw [oZ.out] at x3;clear Z4;go_simp
 refine ZS 6 rfl (by kernel_rfl) (fun K hK=>?_);go_simp;refine (xU.out _).mono ?_;rintro e w1 ⟨rfl,b1⟩;have N1:=Z9.below b1;clear b1;refine hK.out _ _ N1 (fun ZI=>?_);clear hK K Z9;have Z9:=ZI;clear ZI;refine ZS 11 rfl (by kernel_rfl) (fun K hK=>?_);go_simp;refine (Bz.out _).mono ?_;rintro e w2 ⟨rfl,b2⟩;have N2:=Z9.below b2;clear b2;refine hK.out _ _ N2 (fun ZI=>?_);clear hK K Z9;have Z9:=ZI;clear ZI
 iterate 2 (refine ZV ?_ (by kernel_rfl) (fun _=>id) Z9 ?_ ?_;rotate_left;· intro w9 Z4;have k0:=(Z4.YJ.cell (p:=⟨b,0,none⟩) hlt).trans Vz.out.1;have k1:=(Z4.YJ.cell (p:=⟨b,1,none⟩) hlt).trans Vz.out.2.1;have k6:=(Z4.YJ.cell (p:=⟨b,6,none⟩) hlt).trans Vz.out.2.2;have x0:=Z4.sx.cl 0 _ rfl;have x1:=Z4.sx.cl 1 _ rfl;have x2:=Z4.sx.cl 2 _ rfl;have x3:=Z4.sx.cl 3 _ rfl;have x4:=Z4.sx.cl 4 _ rfl;clear Z4;go_simp;try with_reducible rfl)
 refine ZM (by kernel_rfl) ?_ _
 try simp only [Act.put,Zk,Zj,Zi]
 have S2:=Z8 N2;clear Z9 xU Bz S0 Sd N1 N2;have ZJ:Hid (∀W,xT w xg xb xs xl xc W→Calls Tryz.prog 104 #[.slice (some ⟨g,fo,none⟩) ln c9] W fun e w'=>e=.returned (.int .i64 ((4294967295 - Tj 4294967295 IM:Nat):Int))∧w'=W):=fun W hW=>Ht W _ IM (HR.out W hW.YJ) Xe.out (by have:=Z'.out;omega) (qA.out W hW.YJ)
 obtain ⟨cr,hcr⟩:∃cr:Int,cr=((4294967295 - Tj 4294967295 IM:Nat):Int):=⟨_,rfl⟩;rw [←hcr] at ZJ;have JS:Hid (GF IM xc=if cr=xc then Ty IM else none):=by show _=_;unfold GF;rw [←hcr]
 clear hcr
 go_wp2_with fail
 have Sd:=Z8 (S2.out.below (below_drewN' w2 1));refine ZF (S:=xT w xg xb xs xl xc) (by kernel_rfl) (Sd.out) (fun Z9=>?_);refine ZV ?_ (by kernel_rfl) (fun _=>id) Z9 ?_ ?_
 rotate_left
 · intro w9 Z4;have k0:=(Z4.YJ.cell (p:=⟨b,0,none⟩) hlt).trans Vz.out.1;have k1:=(Z4.YJ.cell (p:=⟨b,1,none⟩) hlt).trans Vz.out.2.1;have k6:=(Z4.YJ.cell (p:=⟨b,6,none⟩) hlt).trans Vz.out.2.2;have x0:=Z4.sx.cl 0 _ rfl;have x1:=Z4.sx.cl 1 _ rfl;have x2:=Z4.sx.cl 2 _ rfl;have x3:=Z4.sx.cl 3 _ rfl;have x4:=Z4.sx.cl 4 _ rfl;clear Z4;go_simp;try with_reducible rfl
 refine ZA 2 ?v16 rfl (by kernel_rfl) (fun _=>id) Z9 ?YY ?_
 case YY =>
  intro w9 Z4;have k0:=(Z4.YJ.cell (p:=⟨b,0,none⟩) hlt).trans Vz.out.1;have k1:=(Z4.YJ.cell (p:=⟨b,1,none⟩) hlt).trans Vz.out.2.1;have k6:=(Z4.YJ.cell (p:=⟨b,6,none⟩) hlt).trans Vz.out.2.2;have x0:=Z4.sx.cl 0 _ rfl;have x1:=Z4.sx.cl 1 _ rfl;have x2:=Z4.sx.cl 2 _ rfl;have x3:=Z4.sx.cl 3 _ rfl;have x4:=Z4.sx.cl 4 _ rfl;clear Z4;go_simp
  try with_reducible rfl
 refine ZA 3 (.int .i64 xc) rfl (by kernel_rfl) (fun _=>id) Z9 ?YX ?_
 case YX =>
  intro w9 Z4;have k0:=(Z4.YJ.cell (p:=⟨b,0,none⟩) hlt).trans Vz.out.1;have k1:=(Z4.YJ.cell (p:=⟨b,1,none⟩) hlt).trans Vz.out.2.1;have k6:=(Z4.YJ.cell (p:=⟨b,6,none⟩) hlt).trans Vz.out.2.2;have x0:=Z4.sx.cl 0 _ rfl;have x1:=Z4.sx.cl 1 _ rfl;have x2:=Z4.sx.cl 2 _ rfl;have x3:=Z4.sx.cl 3 _ rfl;have x4:=Z4.sx.cl 4 _ rfl;clear Z4;go_simp
 refine ZS 1 rfl (by kernel_rfl) (fun K hK=>?_);go_simp;refine (ZJ.out _ Z9).mono ?_;rintro e w3 ⟨rfl,rfl⟩;have N3:=Z9;refine hK.out _ _ N3 (fun ZI=>?_);clear hK K Z9;have Z9:=ZI;clear ZI;refine ZV ?_ (by kernel_rfl) (fun _=>id) Z9 ?_ ?_
 rotate_left
 · intro w9 Z4;have k0:=(Z4.YJ.cell (p:=⟨b,0,none⟩) hlt).trans Vz.out.1;have k1:=(Z4.YJ.cell (p:=⟨b,1,none⟩) hlt).trans Vz.out.2.1;have k6:=(Z4.YJ.cell (p:=⟨b,6,none⟩) hlt).trans Vz.out.2.2;have x0:=Z4.sx.cl 0 _ rfl;have x1:=Z4.sx.cl 1 _ rfl;have x2:=Z4.sx.cl 2 _ rfl;have x3:=Z4.sx.cl 3 _ rfl;have x4:=Z4.sx.cl 4 _ rfl;clear Z4;go_simp;try with_reducible rfl
 refine ZM (by kernel_rfl) ?_ _
 try simp only [Act.put,Zk,Zj,Zi]
 have S3:=Z8 N3;clear Z9 N3 ZJ S2 Sd qA Vz;generalize w2.drew=w3 at *
 by_cases he:cr=xc
 · have hbq:(cr != xc)=false:=by rw [he];simp
   rw [ZY he] at JS;rw [hbq];have s3:=S3.out.YJ.size;have Da:=Z8 (KW w3 _ IM (HR.out _ S3.out.YJ) Xe.out Z'.out);clear HR Xe Z' he hbq
   go_wp2_with fail
   refine (Da.out).mono ?_;intro e w4 hd;obtain ⟨b4,hd⟩:=hd;have S4:=Z8 (S3.out.below b4);have t0:=S4.out.sr.cl 0 _ rfl;have t1:=S4.out.sr.cl 1 _ rfl;have f0:=S4.out.sr.fz 0;have f1:=S4.out.sr.fz 1
   rcases hd with ⟨hn0,rfl⟩ | ⟨ns,v,hs0,rfl,o4⟩
   · unfold At
     go_wp2;have SE:Hid (St ((w4.setCell ⟨w.heap.size+1,0,none⟩ (.bool false)).setCell ⟨w.heap.size+1,1,none⟩ (.slice none 0 0)) (w.heap.size+1) [.bool false,.slice none 0 0]):=(S4.out.sr.set 0 (.bool false)).set 1 (.slice none 0 0);have BE:Hid (ZX w ((w4.setCell ⟨w.heap.size+1,0,none⟩ (.bool false)).setCell ⟨w.heap.size+1,1,none⟩ (.slice none 0 0))):=(S4.out.YJ.setCell (by show w.heap.size≤w.heap.size+1;omega) _).setCell (by show w.heap.size≤w.heap.size+1;omega) _;clear t0 t1 f0 f1;generalize (w4.setCell _ _).setCell _ _=wE at *;have e0:=SE.out.cl 0 _ rfl;have e1:=SE.out.cl 1 _ rfl;exact ZT (v:=.agg #[.bool false,.slice none 0 0]) (by simp [results,Tryz.results73,go_sem,e0,e1]) rfl ⟨BE.out,.inl ⟨JS.out.trans hn0,rfl⟩⟩
   obtain ⟨va,vc,rfl⟩:=ZU.YW o4;go_wp2;have SE:Hid (St ((w4.setCell ⟨w.heap.size+1,0,none⟩ (.bool true)).setCell ⟨w.heap.size+1,1,none⟩ (.slice va ns.length vc)) (w.heap.size+1) [.bool true,.slice va ns.length vc]):=(S4.out.sr.set 0 (.bool true)).set 1 (.slice va ns.length vc);have BE:Hid (ZX w ((w4.setCell ⟨w.heap.size+1,0,none⟩ (.bool true)).setCell ⟨w.heap.size+1,1,none⟩ (.slice va ns.length vc))):=(S4.out.YJ.setCell (by show w.heap.size≤w.heap.size+1;omega) _).setCell (by show w.heap.size≤w.heap.size+1;omega) _;have OE:Hid (ZU 134 ((w4.setCell ⟨w.heap.size+1,0,none⟩ (.bool true)).setCell ⟨w.heap.size+1,1,none⟩ (.slice va ns.length vc)) w.heap.size (.slice va ns.length vc) ns):=by
    have hne:(Value.slice va ns.length vc).ownBlock=none∨(Value.slice va ns.length vc).ownBlock≠some (w.heap.size+1):=.inr (fun e=>by have:=(ZO o4 _ e).1;have:=S3.out.sr.lt;omega);have o5:=ZU.mono o4 s3;exact Yy (Yy o5 (grownBy_set w4 w4 (w.heap.size+1) 0 (.bool true) (YT _ _)) hne) (grownBy_set _ _ (w.heap.size+1) 1 _ (YT _ _)) hne
   clear t0 t1 f0 f1 o4;generalize (w4.setCell _ _).setCell _ _=wE at *;have e0:=SE.out.cl 0 _ rfl;have e1:=SE.out.cl 1 _ rfl;exact ZT (v:=.agg #[.bool true,.slice va ns.length vc]) (by simp [results,Tryz.results73,go_sem,e0,e1]) rfl ⟨BE.out,.inr ⟨ns,_,JS.out.trans hs0,rfl,OE.out⟩⟩
 have hbq:(cr != xc)=true:=by simpa using he
 rw [Z3 he] at JS;rw [hbq];have t0:=S3.out.sr.cl 0 _ rfl;have t1:=S3.out.sr.cl 1 _ rfl;have f0:=S3.out.sr.fz 0;have f1:=S3.out.sr.fz 1;clear HR Xe Z' he hbq;go_wp2;have SE:Hid (St ((w3.setCell ⟨w.heap.size+1,0,none⟩ (.bool false)).setCell ⟨w.heap.size+1,1,none⟩ (.slice none 0 0)) (w.heap.size+1) [.bool false,.slice none 0 0]):=(S3.out.sr.set 0 (.bool false)).set 1 (.slice none 0 0);have BE:Hid (ZX w ((w3.setCell ⟨w.heap.size+1,0,none⟩ (.bool false)).setCell ⟨w.heap.size+1,1,none⟩ (.slice none 0 0))):=(S3.out.YJ.setCell (by show w.heap.size≤w.heap.size+1;omega) _).setCell (by show w.heap.size≤w.heap.size+1;omega) _;clear t0 t1 f0 f1;generalize (w3.setCell _ _).setCell _ _=wE at *;have e0:=SE.out.cl 0 _ rfl;have e1:=SE.out.cl 1 _ rfl;exact ZT (v:=.agg #[.bool false,.slice none 0 0]) (by simp [results,Tryz.results73,go_sem,e0,e1]) rfl ⟨BE.out,.inl ⟨JS.out,rfl⟩⟩
end Go.Proofs.YtmmmffcbfepghaaGreatDoor
