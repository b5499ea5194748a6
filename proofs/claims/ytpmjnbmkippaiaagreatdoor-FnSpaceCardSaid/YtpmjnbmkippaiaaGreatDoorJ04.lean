import Derived.Test.YtpmjnbmkippaiaaGreatDoorJ03
import Derived.Defers
import Derived.Recover
set_option maxRecDepth 100000
set_option maxHeartbeats 16000000
set_option linter.unusedVariables false
set_option linter.unusedSimpArgs false
namespace Go.Proofs.YtpmjnbmkippaiaaGreatDoor
open Go.RowKit Go.Shelf
variable {a:ByteArray} {e:Ef} {z:Int} {es:List Ef} {r xs ys:List Int} {ns:List Nd} {B b cap k lo s:Nat} {n:Nd} {row:Option Nat} {t:TypeId} {v vt vx x0 x1 x2 x3:Value} {W W' X Y w w' w0:World}
theorem grown_of (h:ZX w w') (row:Option Nat):w.grownBy w' row:=⟨h.os,h.tape,h.output,h.size,fun k hk _=>h.block k hk⟩
theorem VR (w:World) (o:Obj) (row:Option Nat):w.grownBy (w.alloc o) row:=grown_of (ZJ.alloc ZT o) row
theorem WB (h:w.grownBy W row) (hB:w.heap.size≤B) (i:Nat) (u:Value):w.grownBy (W.setCell ⟨B,i,none⟩ u) row :=
 ⟨h.os,h.tape,h.output,by simpa using h.size,fun k hk hne=>by
  rw [←h.block k hk hne];exact Below.heap_setCell _ _ _ _ (by show k≠B;omega)⟩
def NB (W:World) (B:Nat) (n:Nd):Prop:=Qn W B n∧∀j,W.frozen? ⟨B,j,none⟩=false
theorem NB.turn (h:NB W B n) (hg:W.grownBy W' row) (hne:some B≠row):NB W' B n:=by
 have hb:=hg.block B h.1.lt hne;have e:∀q,W'.cell? ⟨B,q,none⟩=W.cell? ⟨B,q,none⟩:=fun q=>Zj (a:=⟨B,q,none⟩) hb
 refine ⟨⟨ZL h.1.lt hg.size,(e _).trans h.1.c0,(e _).trans h.1.c1,(e _).trans h.1.c2,(e _).trans h.1.c3,(e _).trans h.1.c4,(e _).trans h.1.c5,(e _).trans h.1.c6⟩,fun j=>?_⟩;rw [SD (a:=⟨B,j,none⟩) hb];exact h.2 j
theorem NB.other {B':Nat} (h:NB W B n) (hne:B≠B') (i:Nat) (u:Value):NB (W.setCell ⟨B',i,none⟩ u) B n:=by
 have e:∀q,(W.setCell ⟨B',i,none⟩ u).cell? ⟨B,q,none⟩=W.cell? ⟨B,q,none⟩:=fun q=>Zs _ _ _ _ (by intro e;injection e with e;omega)
 refine ⟨⟨by simpa using h.1.lt,(e _).trans h.1.c0,(e _).trans h.1.c1,(e _).trans h.1.c2,(e _).trans h.1.c3,(e _).trans h.1.c4,(e _).trans h.1.c5,(e _).trans h.1.c6⟩,fun j=>?_⟩;rw [WU];exact h.2 j
theorem NB.oK (h:NB W B n) (s:ByteArray):NB (W.setCell ⟨B,0,none⟩ (Value.string s)) B { n with path:=s }:=by
 have e:∀q,q≠0→(W.setCell ⟨B,0,none⟩ (Value.string s)).cell? ⟨B,q,none⟩=W.cell? ⟨B,q,none⟩:=fun q hq=>Zs _ _ _ _ (by intro e;injection e with _ e;omega)
 refine ⟨⟨by simpa using h.1.lt,Xo _ _ _ h.1.c0,(e 1 (by omega)).trans h.1.c1,(e 2 (by omega)).trans h.1.c2,(e 3 (by omega)).trans h.1.c3,(e 4 (by omega)).trans h.1.c4,(e 5 (by omega)).trans h.1.c5,(e 6 (by omega)).trans h.1.c6⟩,fun j=>?_⟩;rw [WU];exact h.2 j
theorem NB.oJ (h:NB W B n) (s:ByteArray):NB (W.setCell ⟨B,1,none⟩ (Value.string s)) B { n with data:=s }:=by
 have e:∀q,q≠1→(W.setCell ⟨B,1,none⟩ (Value.string s)).cell? ⟨B,q,none⟩=W.cell? ⟨B,q,none⟩:=fun q hq=>Zs _ _ _ _ (by intro e;injection e with _ e;omega)
 refine ⟨⟨by simpa using h.1.lt,(e 0 (by omega)).trans h.1.c0,Xo _ _ _ h.1.c1,(e 2 (by omega)).trans h.1.c2,(e 3 (by omega)).trans h.1.c3,(e 4 (by omega)).trans h.1.c4,(e 5 (by omega)).trans h.1.c5,(e 6 (by omega)).trans h.1.c6⟩,fun j=>?_⟩;rw [WU];exact h.2 j
theorem NB.oI (h:NB W B n) (s:Int):NB (W.setCell ⟨B,2,none⟩ (Value.int .i64 s)) B { n with Zy:=s }:=by
 have e:∀q,q≠2→(W.setCell ⟨B,2,none⟩ (Value.int .i64 s)).cell? ⟨B,q,none⟩=W.cell? ⟨B,q,none⟩:=fun q hq=>Zs _ _ _ _ (by intro e;injection e with _ e;omega)
 refine ⟨⟨by simpa using h.1.lt,(e 0 (by omega)).trans h.1.c0,(e 1 (by omega)).trans h.1.c1,Xo _ _ _ h.1.c2,(e 3 (by omega)).trans h.1.c3,(e 4 (by omega)).trans h.1.c4,(e 5 (by omega)).trans h.1.c5,(e 6 (by omega)).trans h.1.c6⟩,fun j=>?_⟩;rw [WU];exact h.2 j
theorem NB.oH (h:NB W B n) (s:Int):NB (W.setCell ⟨B,3,none⟩ (Value.int .i64 s)) B { n with Zw:=s }:=by
 have e:∀q,q≠3→(W.setCell ⟨B,3,none⟩ (Value.int .i64 s)).cell? ⟨B,q,none⟩=W.cell? ⟨B,q,none⟩:=fun q hq=>Zs _ _ _ _ (by intro e;injection e with _ e;omega)
 refine ⟨⟨by simpa using h.1.lt,(e 0 (by omega)).trans h.1.c0,(e 1 (by omega)).trans h.1.c1,(e 2 (by omega)).trans h.1.c2,Xo _ _ _ h.1.c3,(e 4 (by omega)).trans h.1.c4,(e 5 (by omega)).trans h.1.c5,(e 6 (by omega)).trans h.1.c6⟩,fun j=>?_⟩;rw [WU];exact h.2 j
theorem NB.oG (h:NB W B n) (s:Int):NB (W.setCell ⟨B,4,none⟩ (Value.int .i64 s)) B { n with cz:=s }:=by
 have e:∀q,q≠4→(W.setCell ⟨B,4,none⟩ (Value.int .i64 s)).cell? ⟨B,q,none⟩=W.cell? ⟨B,q,none⟩:=fun q hq=>Zs _ _ _ _ (by intro e;injection e with _ e;omega)
 refine ⟨⟨by simpa using h.1.lt,(e 0 (by omega)).trans h.1.c0,(e 1 (by omega)).trans h.1.c1,(e 2 (by omega)).trans h.1.c2,(e 3 (by omega)).trans h.1.c3,Xo _ _ _ h.1.c4,(e 5 (by omega)).trans h.1.c5,(e 6 (by omega)).trans h.1.c6⟩,fun j=>?_⟩;rw [WU];exact h.2 j
theorem NB.ig (h:NB W B n) (s:Int):NB (W.setCell ⟨B,5,none⟩ (Value.int .i64 s)) B { n with mz:=s }:=by
 have e:∀q,q≠5→(W.setCell ⟨B,5,none⟩ (Value.int .i64 s)).cell? ⟨B,q,none⟩=W.cell? ⟨B,q,none⟩:=fun q hq=>Zs _ _ _ _ (by intro e;injection e with _ e;omega)
 refine ⟨⟨by simpa using h.1.lt,(e 0 (by omega)).trans h.1.c0,(e 1 (by omega)).trans h.1.c1,(e 2 (by omega)).trans h.1.c2,(e 3 (by omega)).trans h.1.c3,(e 4 (by omega)).trans h.1.c4,Xo _ _ _ h.1.c5,(e 6 (by omega)).trans h.1.c6⟩,fun j=>?_⟩;rw [WU];exact h.2 j
theorem NB.ie (h:NB W B n) (s:Int):NB (W.setCell ⟨B,6,none⟩ (Value.int .i64 s)) B { n with pz:=s }:=by
 have e:∀q,q≠6→(W.setCell ⟨B,6,none⟩ (Value.int .i64 s)).cell? ⟨B,q,none⟩=W.cell? ⟨B,q,none⟩:=fun q hq=>Zs _ _ _ _ (by intro e;injection e with _ e;omega)
 refine ⟨⟨by simpa using h.1.lt,(e 0 (by omega)).trans h.1.c0,(e 1 (by omega)).trans h.1.c1,(e 2 (by omega)).trans h.1.c2,(e 3 (by omega)).trans h.1.c3,(e 4 (by omega)).trans h.1.c4,(e 5 (by omega)).trans h.1.c5,Xo _ _ _ h.1.c6⟩,fun j=>?_⟩;rw [WU];exact h.2 j
theorem NB.new (w:World) (n:Nd) (t:TypeId):NB (w.alloc (.cells #[.string n.path,.string n.data,.int .i64 n.Zy,.int .i64 n.Zw,.int .i64 n.cz,.int .i64 n.mz,.int .i64 n.pz] t)) w.heap.size n:=⟨Qn.new w n t,fun j=>(by go_simp)⟩
theorem RS.new (h:RS w0 w k ys) (hb:ZX w w'):RS w0 w' k ys:=h.keep hb h.2.1
theorem RS.setOther (h:RS w0 w k ys) (hB:k≠B) (h0:w0.heap.size≤B) (i:Nat) (u:Value):RS w0 (w.setCell ⟨B,i,none⟩ u) k ys:=by
 obtain ⟨h1,h2,h3,h4,v,h5,h6⟩:=h;refine ⟨h1,by simpa using h2,by rw [WU];exact h3,h4.setCell h0 _,v,?_,h6⟩;rw [Zs _ _ _ _ (by intro e;injection e with e;omega)];exact h5
theorem Iy (h:Wm ys):wrap64 ((Xl (ys.take 4):Nat):Int)=((Xl (ys.take 4):Nat):Int):=by
 have hb:=(Ql (ys.take 4).length (ys.take 4) rfl (fun x hx=>h x (Ms hx))).2;have h1:256 ^ (ys.take 4).length≤256 ^ 4:=Jr (by omega) (by rw [XU];omega);have h2:Xl (ys.take 4)<4294967296:=ZL hb h1;unfold wrap64;omega
def uJ (n:Nd):Value:=.agg #[.string n.path,.string n.data,.int .i64 n.Zy,.int .i64 n.Zw,.int .i64 n.cz,.int .i64 n.mz,.int .i64 n.pz]
def tA (p d:ByteArray) (a:Nat→Int) (k:Nat):Nd:=⟨p,d,if 0<k then a 0 else 0,if 1<k then a 1 else 0,if 2<k then a 2 else 0,if 3<k then a 3 else 0,if 4<k then a 4 else 0⟩
def oE (w0 w:World) (k:Nat) (ys:List Int) (e:Ending) (w':World):Prop :=
 w.grownBy w' (some k)∧((UW ys=none∧e=.panicked Va)∨∃n r,UW ys=some (n,r)∧e=.returned (uJ n)∧RS w0 w' k r)
theorem Yo (w0 w:World) (k:Nat) (ys:List Int) (h:RS w0 w k ys) (hby:Wm ys) :
    Calls Tryz.prog 178 #[.pointer (some ⟨k,0,none⟩)] w fun e w'=>oE w0 w k ys e w':=by
 have hk:=h.2.1;have hk0:=h.1;have Og:=Z3 hby
 have HS:=Z3 h;clear h hby
 have A1:Hid (RS w0 ((w.alloc (.cells #[.string ⟨#[]⟩,.string ⟨#[]⟩,.int .i64 0,.int .i64 0,.int .i64 0,.int .i64 0,.int .i64 0] 149)).alloc (.cells #[.string ⟨#[]⟩,.string ⟨#[]⟩,.int .i64 0,.int .i64 0,.int .i64 0,.int .i64 0,.int .i64 0] 149)) k ys):=(HS.out.new (ZJ.alloc ZT _)).new (ZJ.alloc ZT _);have N2:Hid (NB ((w.alloc (.cells #[.string ⟨#[]⟩,.string ⟨#[]⟩,.int .i64 0,.int .i64 0,.int .i64 0,.int .i64 0,.int .i64 0] 149)).alloc (.cells #[.string ⟨#[]⟩,.string ⟨#[]⟩,.int .i64 0,.int .i64 0,.int .i64 0,.int .i64 0,.int .i64 0] 149)) w.heap.size nd0):=(NB.new w nd0 _).turn (VR _ _ none) (by simp);have N3:Hid (NB ((w.alloc (.cells #[.string ⟨#[]⟩,.string ⟨#[]⟩,.int .i64 0,.int .i64 0,.int .i64 0,.int .i64 0,.int .i64 0] 149)).alloc (.cells #[.string ⟨#[]⟩,.string ⟨#[]⟩,.int .i64 0,.int .i64 0,.int .i64 0,.int .i64 0,.int .i64 0] 149)) (w.heap.size+1) nd0):=by
  have:=NB.new (w.alloc (.cells #[.string ⟨#[]⟩,.string ⟨#[]⟩,.int .i64 0,.int .i64 0,.int .i64 0,.int .i64 0,.int .i64 0] 149)) nd0 149;rw [show (w.alloc (.cells #[.string ⟨#[]⟩,.string ⟨#[]⟩,.int .i64 0,.int .i64 0,.int .i64 0,.int .i64 0,.int .i64 0] 149)).heap.size=w.heap.size+1 by simp] at this;exact this
 have G1:Hid (w.grownBy ((w.alloc (.cells #[.string ⟨#[]⟩,.string ⟨#[]⟩,.int .i64 0,.int .i64 0,.int .i64 0,.int .i64 0,.int .i64 0] 149)).alloc (.cells #[.string ⟨#[]⟩,.string ⟨#[]⟩,.int .i64 0,.int .i64 0,.int .i64 0,.int .i64 0,.int .i64 0] 149)) (some k)):=(VR _ _ _).trans (VR _ _ _)
 go_enter Tryz.func178,Tryz.ntmps178
 go_wp2_with fail
 generalize ((w.alloc _).alloc _)=w1 at *;refine (Iz w0 w1 k ys A1.out Og.out).mono ?_;rintro e w2 ⟨g2,hp⟩
 rcases hp with ⟨hp,rfl⟩ | ⟨p,r1,hp,rfl,hr2⟩
 · exact ⟨rfl,G1.out.trans g2,.inl ⟨by unfold UW;rw [hp],rfl⟩⟩
 have uK:=Z3 hp;have HB1:=Z3 ((Pb hp Og.out).1);have G2:=Z3 (G1.out.trans g2);have J:=Z3 (N2.out.turn g2 (by simp;omega));have O:=Z3 (N3.out.turn g2 (by simp;omega));have R2:=Z3 hr2;clear hp g2 hr2 N2 N3 A1 G1;have d0:=O.out.1.c0;have f0:=O.out.2 0;have I:Hid (NB (w2.setCell ⟨w.heap.size+1,0,none⟩ (.string p)) (w.heap.size+1) { nd0 with path:=p }):=O.out.oK p;have H:Hid (NB (w2.setCell ⟨w.heap.size+1,0,none⟩ (.string p)) w.heap.size nd0):=J.out.other (by omega) _ _;have R3:Hid (RS w0 (w2.setCell ⟨w.heap.size+1,0,none⟩ (.string p)) k r1):=R2.out.setOther (by omega) (by omega) _ _;have G3:Hid (w.grownBy (w2.setCell ⟨w.heap.size+1,0,none⟩ (.string p)) (some k)):=WB G2.out (by omega) _ _
 go_wp2_with fail
 clear d0 f0 O J R2 G2;generalize w2.setCell _ _=w3 at *;refine (Iz w0 w3 k r1 R3.out HB1.out).mono ?_;rintro e w4 ⟨g4,hp⟩
 rcases hp with ⟨hp,rfl⟩ | ⟨d,r2,hp,rfl,hr4⟩
 · refine ⟨rfl,G3.out.trans g4,.inl ⟨?_,rfl⟩⟩
   unfold UW;rw [uK.out];simp only;rw [hp]
 have An:=Z3 hp;have HB2:=Z3 ((Pb hp HB1.out).1);have G4:=Z3 (G3.out.trans g4);have G:=Z3 (H.out.turn g4 (by simp;omega));have N:=Z3 (I.out.turn g4 (by simp;omega));have R4:=Z3 hr4;clear hp g4 hr4 H I R3 G3;have d1:=N.out.1.c1;have f1:=N.out.2 1;have E:Hid (NB (w4.setCell ⟨w.heap.size+1,1,none⟩ (.string d)) (w.heap.size+1) (tA p d (Xz r2) 0)):=N.out.oJ d;have Z':Hid (NB (w4.setCell ⟨w.heap.size+1,1,none⟩ (.string d)) w.heap.size nd0):=G.out.other (by omega) _ _;have R5:Hid (RS w0 (w4.setCell ⟨w.heap.size+1,1,none⟩ (.string d)) k r2):=R4.out.setOther (by omega) (by omega) _ _;have G5:Hid (w.grownBy (w4.setCell ⟨w.heap.size+1,1,none⟩ (.string d)) (some k)):=WB G4.out (by omega) _ _
 go_wp2_with fail
 clear d1 f1 N G R4 G4;generalize w4.setCell _ _=w5 at *;refine (LS w5 (w.heap.size+1) 0).mono ?_;rintro e w6 ⟨rfl,b6⟩;have G6:=Z3 (G5.out.trans (grown_of b6 _));have Z2:=Z3 (Z'.out.turn (grown_of b6 none) (by simp));have ZY:=Z3 (E.out.turn (grown_of b6 none) (by simp));have R6:Hid (RS w0 w6 k (r2.drop (4*0))):=by show RS _ _ _ _;rw [zF,Qu];exact R5.out.new b6
 clear b6 Z' E R5 G5;unfold oL;go_wp2
 go_loopw [15] (fun vi wr=>∃i:Nat,i≤5∧vi=.int .i64 i∧Hid (4*i≤r2.length)∧Hid (w.grownBy wr (some k))∧Hid (NB wr w.heap.size nd0)∧Hid (NB wr (w.heap.size+1) (tA p d (Xz r2) i))∧Hid (RS w0 wr k (r2.drop (4*i)))) (fun i _=>5 - (intOf i).toNat)
 case atStart=>exact ⟨0,by omega,rfl,Zu _,G6,Z2,ZY,R6⟩
 case round =>
  obtain ⟨i,hi,rfl,HL,HG,Tq,V,HR⟩:=hrel;have hl:=HL.out
  rcases (show i=0∨i=1∨i=2∨i=3∨i=4∨i=5 by omega) with rfl | rfl | rfl | rfl | rfl | rfl
  · have hix:=fun W=>kO W (w.heap.size+1)
    go_wp2_with fail
    clear hix
    by_cases hlt:4≤r2.length
    rotate_left
    · refine (Yp w0 wr k 4 _ HR.out (by rw [Zd];omega)).mono ?_
      rintro e w7 ⟨rfl,rfl⟩;refine ⟨rfl,HG.out,.inl ⟨?_,rfl⟩⟩;unfold UW;rw [uK.out];simp only;rw [An.out];simp only;rw [Z1 (by omega)]
    refine (XY w0 wr k 4 _ HR.out (by rw [Zd];omega) (by omega) (by omega) (Xi HB2.out _)).mono ?_;rintro e w7 ⟨rfl,r7,v7,q7,rfl⟩;rw [Iy (Xi HB2.out _)];have g7:wr.grownBy ((wr.setCell ⟨k,0,none⟩ v7).drewN q7) (some k):=(grownBy_set _ _ _ _ _ (YT _ _)).trans (grown_of (below_drewN' _ q7) _);have U:=Z3 (HG.out.trans g7);have T:=Z3 (Tq.out.turn g7 (by simp;omega));have Z:=Z3 (V.out.turn g7 (by simp;omega));have R7:Hid (RS w0 ((wr.setCell ⟨k,0,none⟩ v7).drewN q7) k (r2.drop (4*1))):=by rw [Rz] at r7;exact r7
    clear r7 g7 HG Tq V HR HL;generalize (wr.setCell _ _).drewN q7=w7 at *;have d0:=Z.out.1.c2;have f0:=Z.out.2 2;have R:Hid (NB (w7.setCell ⟨w.heap.size+1,2,none⟩ (.int .i64 (Xz r2 0))) (w.heap.size+1) (tA p d (Xz r2) 1)):=Z.out.oI (Xz r2 0);have Q:Hid (NB (w7.setCell ⟨w.heap.size+1,2,none⟩ (.int .i64 (Xz r2 0))) w.heap.size nd0):=T.out.other (by omega) _ _;have M:Hid (RS w0 (w7.setCell ⟨w.heap.size+1,2,none⟩ (.int .i64 (Xz r2 0))) k (r2.drop (4*1))):=R7.out.setOther (by omega) (by omega) _ _;have G8:Hid (w.grownBy (w7.setCell ⟨w.heap.size+1,2,none⟩ (.int .i64 (Xz r2 0))) (some k)):=WB U.out (by omega) _ _;go_wp2;exact ⟨⟨1,by omega,rfl,by show 4*1≤_;omega,G8,Q,R,M⟩,by simp [intOf]⟩
  · have hix:=fun W=>kN W (w.heap.size+1)
    go_wp2_with fail
    clear hix
    by_cases hlt:8≤r2.length
    rotate_left
    · refine (Yp w0 wr k 4 _ HR.out (by rw [Zd];omega)).mono ?_
      rintro e w7 ⟨rfl,rfl⟩;refine ⟨rfl,HG.out,.inl ⟨?_,rfl⟩⟩;unfold UW;rw [uK.out];simp only;rw [An.out];simp only;rw [Z1 (by omega)]
    refine (XY w0 wr k 4 _ HR.out (by rw [Zd];omega) (by omega) (by omega) (Xi HB2.out _)).mono ?_;rintro e w7 ⟨rfl,r7,v7,q7,rfl⟩;rw [Iy (Xi HB2.out _)];have g7:wr.grownBy ((wr.setCell ⟨k,0,none⟩ v7).drewN q7) (some k):=(grownBy_set _ _ _ _ _ (YT _ _)).trans (grown_of (below_drewN' _ q7) _);have U:=Z3 (HG.out.trans g7);have T:=Z3 (Tq.out.turn g7 (by simp;omega));have Z:=Z3 (V.out.turn g7 (by simp;omega));have R7:Hid (RS w0 ((wr.setCell ⟨k,0,none⟩ v7).drewN q7) k (r2.drop (4*2))):=by rw [Rz] at r7;exact r7
    clear r7 g7 HG Tq V HR HL;generalize (wr.setCell _ _).drewN q7=w7 at *;have d0:=Z.out.1.c3;have f0:=Z.out.2 3;have R:Hid (NB (w7.setCell ⟨w.heap.size+1,3,none⟩ (.int .i64 (Xz r2 1))) (w.heap.size+1) (tA p d (Xz r2) 2)):=Z.out.oH (Xz r2 1);have Q:Hid (NB (w7.setCell ⟨w.heap.size+1,3,none⟩ (.int .i64 (Xz r2 1))) w.heap.size nd0):=T.out.other (by omega) _ _;have M:Hid (RS w0 (w7.setCell ⟨w.heap.size+1,3,none⟩ (.int .i64 (Xz r2 1))) k (r2.drop (4*2))):=R7.out.setOther (by omega) (by omega) _ _;have G8:Hid (w.grownBy (w7.setCell ⟨w.heap.size+1,3,none⟩ (.int .i64 (Xz r2 1))) (some k)):=WB U.out (by omega) _ _;go_wp2;exact ⟨⟨2,by omega,rfl,by show 4*2≤_;omega,G8,Q,R,M⟩,by simp [intOf]⟩
  · have hix:=fun W=>kM W (w.heap.size+1)
    go_wp2_with fail
    clear hix
    by_cases hlt:12≤r2.length
    rotate_left
    · refine (Yp w0 wr k 4 _ HR.out (by rw [Zd];omega)).mono ?_
      rintro e w7 ⟨rfl,rfl⟩;refine ⟨rfl,HG.out,.inl ⟨?_,rfl⟩⟩;unfold UW;rw [uK.out];simp only;rw [An.out];simp only;rw [Z1 (by omega)]
    refine (XY w0 wr k 4 _ HR.out (by rw [Zd];omega) (by omega) (by omega) (Xi HB2.out _)).mono ?_;rintro e w7 ⟨rfl,r7,v7,q7,rfl⟩;rw [Iy (Xi HB2.out _)];have g7:wr.grownBy ((wr.setCell ⟨k,0,none⟩ v7).drewN q7) (some k):=(grownBy_set _ _ _ _ _ (YT _ _)).trans (grown_of (below_drewN' _ q7) _);have U:=Z3 (HG.out.trans g7);have T:=Z3 (Tq.out.turn g7 (by simp;omega));have Z:=Z3 (V.out.turn g7 (by simp;omega));have R7:Hid (RS w0 ((wr.setCell ⟨k,0,none⟩ v7).drewN q7) k (r2.drop (4*3))):=by rw [Rz] at r7;exact r7
    clear r7 g7 HG Tq V HR HL;generalize (wr.setCell _ _).drewN q7=w7 at *;have d0:=Z.out.1.c4;have f0:=Z.out.2 4;have R:Hid (NB (w7.setCell ⟨w.heap.size+1,4,none⟩ (.int .i64 (Xz r2 2))) (w.heap.size+1) (tA p d (Xz r2) 3)):=Z.out.oG (Xz r2 2);have Q:Hid (NB (w7.setCell ⟨w.heap.size+1,4,none⟩ (.int .i64 (Xz r2 2))) w.heap.size nd0):=T.out.other (by omega) _ _;have M:Hid (RS w0 (w7.setCell ⟨w.heap.size+1,4,none⟩ (.int .i64 (Xz r2 2))) k (r2.drop (4*3))):=R7.out.setOther (by omega) (by omega) _ _;have G8:Hid (w.grownBy (w7.setCell ⟨w.heap.size+1,4,none⟩ (.int .i64 (Xz r2 2))) (some k)):=WB U.out (by omega) _ _;go_wp2;exact ⟨⟨3,by omega,rfl,by show 4*3≤_;omega,G8,Q,R,M⟩,by simp [intOf]⟩
  · have hix:=fun W=>kL W (w.heap.size+1)
    go_wp2_with fail
    clear hix
    by_cases hlt:16≤r2.length
    rotate_left
    · refine (Yp w0 wr k 4 _ HR.out (by rw [Zd];omega)).mono ?_
      rintro e w7 ⟨rfl,rfl⟩;refine ⟨rfl,HG.out,.inl ⟨?_,rfl⟩⟩;unfold UW;rw [uK.out];simp only;rw [An.out];simp only;rw [Z1 (by omega)]
    refine (XY w0 wr k 4 _ HR.out (by rw [Zd];omega) (by omega) (by omega) (Xi HB2.out _)).mono ?_;rintro e w7 ⟨rfl,r7,v7,q7,rfl⟩;rw [Iy (Xi HB2.out _)];have g7:wr.grownBy ((wr.setCell ⟨k,0,none⟩ v7).drewN q7) (some k):=(grownBy_set _ _ _ _ _ (YT _ _)).trans (grown_of (below_drewN' _ q7) _);have U:=Z3 (HG.out.trans g7);have T:=Z3 (Tq.out.turn g7 (by simp;omega));have Z:=Z3 (V.out.turn g7 (by simp;omega));have R7:Hid (RS w0 ((wr.setCell ⟨k,0,none⟩ v7).drewN q7) k (r2.drop (4*4))):=by rw [Rz] at r7;exact r7
    clear r7 g7 HG Tq V HR HL;generalize (wr.setCell _ _).drewN q7=w7 at *;have d0:=Z.out.1.c5;have f0:=Z.out.2 5;have R:Hid (NB (w7.setCell ⟨w.heap.size+1,5,none⟩ (.int .i64 (Xz r2 3))) (w.heap.size+1) (tA p d (Xz r2) 4)):=Z.out.ig (Xz r2 3);have Q:Hid (NB (w7.setCell ⟨w.heap.size+1,5,none⟩ (.int .i64 (Xz r2 3))) w.heap.size nd0):=T.out.other (by omega) _ _;have M:Hid (RS w0 (w7.setCell ⟨w.heap.size+1,5,none⟩ (.int .i64 (Xz r2 3))) k (r2.drop (4*4))):=R7.out.setOther (by omega) (by omega) _ _;have G8:Hid (w.grownBy (w7.setCell ⟨w.heap.size+1,5,none⟩ (.int .i64 (Xz r2 3))) (some k)):=WB U.out (by omega) _ _;go_wp2;exact ⟨⟨4,by omega,rfl,by show 4*4≤_;omega,G8,Q,R,M⟩,by simp [intOf]⟩
  · have hix:=fun W=>kK W (w.heap.size+1)
    go_wp2_with fail
    clear hix
    by_cases hlt:20≤r2.length
    rotate_left
    · refine (Yp w0 wr k 4 _ HR.out (by rw [Zd];omega)).mono ?_
      rintro e w7 ⟨rfl,rfl⟩;refine ⟨rfl,HG.out,.inl ⟨?_,rfl⟩⟩;unfold UW;rw [uK.out];simp only;rw [An.out];simp only;rw [Z1 (by omega)]
    refine (XY w0 wr k 4 _ HR.out (by rw [Zd];omega) (by omega) (by omega) (Xi HB2.out _)).mono ?_;rintro e w7 ⟨rfl,r7,v7,q7,rfl⟩;rw [Iy (Xi HB2.out _)];have g7:wr.grownBy ((wr.setCell ⟨k,0,none⟩ v7).drewN q7) (some k):=(grownBy_set _ _ _ _ _ (YT _ _)).trans (grown_of (below_drewN' _ q7) _);have U:=Z3 (HG.out.trans g7);have T:=Z3 (Tq.out.turn g7 (by simp;omega));have Z:=Z3 (V.out.turn g7 (by simp;omega));have R7:Hid (RS w0 ((wr.setCell ⟨k,0,none⟩ v7).drewN q7) k (r2.drop (4*5))):=by rw [Rz] at r7;exact r7
    clear r7 g7 HG Tq V HR HL;generalize (wr.setCell _ _).drewN q7=w7 at *;have d0:=Z.out.1.c6;have f0:=Z.out.2 6;have R:Hid (NB (w7.setCell ⟨w.heap.size+1,6,none⟩ (.int .i64 (Xz r2 4))) (w.heap.size+1) (tA p d (Xz r2) 5)):=Z.out.ie (Xz r2 4);have Q:Hid (NB (w7.setCell ⟨w.heap.size+1,6,none⟩ (.int .i64 (Xz r2 4))) w.heap.size nd0):=T.out.other (by omega) _ _;have M:Hid (RS w0 (w7.setCell ⟨w.heap.size+1,6,none⟩ (.int .i64 (Xz r2 4))) k (r2.drop (4*5))):=R7.out.setOther (by omega) (by omega) _ _;have G8:Hid (w.grownBy (w7.setCell ⟨w.heap.size+1,6,none⟩ (.int .i64 (Xz r2 4))) (some k)):=WB U.out (by omega) _ _;go_wp2;exact ⟨⟨5,by omega,rfl,by show 4*5≤_;omega,G8,Q,R,M⟩,by simp [intOf]⟩
  obtain ⟨⟨-,y0,y1,y2,y3,y4,y5,y6⟩,-⟩:=V.out;obtain ⟨⟨-,x0,x1,x2,x3,x4,x5,x6⟩,xf⟩:=Tq.out;have Z8:20≤r2.length:=by omega
  have Fq:Hid (UW ys=some (tA p d (Xz r2) 5,r2.drop 20)):=by
   show _=_;unfold UW;rw [uK.out];simp only;rw [An.out];simp only;rw [ZZ Z8]
   rfl
  obtain ⟨nn,hnn⟩:∃nn,nn=tA p d (Xz r2) 5:=⟨_,rfl⟩;rw [←hnn] at y0 y1 y2 y3 y4 y5 y6 Fq;clear hnn;go_wp2;refine ZS (v:=uJ nn) (by simp [results,Tryz.results178,go_sem,uJ,x0,x1,x2,x3,x4,x5,x6]) rfl ⟨?_,.inr ⟨nn,r2.drop 20,Fq.out,rfl,?_⟩⟩
  · iterate 7 refine WB ?_ ZT _ _
    exact HG.out
  iterate 7 refine RS.setOther ?_ (by omega) (by omega) _ _
  exact HR.out
theorem Fp (W:World) (v:Value):(Instr.typeAssert (.iface 296 v) 20 296 true).run Tryz.prog W=.ok (.tuple #[v,.bool true]) W:=by kernel_rfl
theorem Dz (w:World):Calls Tryz.prog 174 #[.nilIface] w fun e w'=>e=.returned (.tuple #[])∧w'=w:=by
 go_enter Tryz.func174,Tryz.ntmps174
 go_wp2;exact ZS (Rs rfl _ _ _) rfl ⟨rfl,rfl⟩
theorem Dy (w:World):Calls Tryz.prog 174 #[.iface 296 (.agg #[])] w (YI w (.tuple #[])):=by
 have ha:∀(W:World) (v:Value),(Instr.typeAssert (.iface 296 v) 20 296 true).run Tryz.prog W=.ok (.tuple #[v,.bool true]) W:=fun W v=>Fp W v
 go_enter Tryz.func174,Tryz.ntmps174
 go_wp2
 go_end0
 exact ⟨rfl,ZJ.alloc ZT _⟩
theorem VZ (older:List PanicEntry) (w:World) :
    CallsD Tryz.prog 176 #[] (.panicking ({ v:=.iface 296 (.agg #[]),recovered:=false } :: older)) w fun e u' w' =>
     e=.returned (.tuple #[])∧u'=.panicking ({ v:=.iface 296 (.agg #[]),recovered:=true } :: older)∧ZX w w':=by
 refine Jl Tryz.func176 rfl fun c₀ cs hu=>?_
 apply Mb
 simp [wpOpsS,go_sem,recoverD,hu,Tryz.ntmps176]
 refine (Dy w).mono ?_;rintro e w' ⟨rfl,bw⟩
 simp_all [bodyPostS,results,Tryz.results176]
theorem PD (w:World) :
    CallsD Tryz.prog 176 #[] .returning w fun e u' w'=>e=.returned (.tuple #[])∧u'=.returning∧w'=w:=by
 refine Jl Tryz.func176 rfl fun c₀ cs hu=>?_
 apply Mb
 simp [wpOpsS,go_sem,recoverD,hu,Tryz.ntmps176]
 refine (Dz w).mono ?_;rintro e w' ⟨rfl,rfl⟩
 cases c₀
 simp_all [bodyPostS,results,Tryz.results176]
def qN:Value:=.agg #[.bool false,.slice none 0 0]
def KM (w:World) (ys:List Int) (e:Ending) (w':World):Prop :=
 ZX w w'∧((IB ys=none∧e=.returned qN)∨∃ns v,IB ys=some ns∧e=.returned (.agg #[.bool true,v])∧Zz 147 w' w.heap.size v ns)
def Zt (W:World) (k:Nat):Prop:=k<W.heap.size∧W.cell? ⟨k,0,none⟩=some (.bool false)∧W.cell? ⟨k,1,none⟩=some (.slice none 0 0)∧∀j,W.frozen? ⟨k,j,none⟩=false
theorem Zt.turn (h:Zt W k) (hg:W.grownBy W' row) (hne:some k≠row):Zt W' k:=by
 have hb:=hg.block k h.1 hne;exact ⟨ZL h.1 hg.size,(Zj (a:=⟨k,0,none⟩) hb).trans h.2.1,(Zj (a:=⟨k,1,none⟩) hb).trans h.2.2.1,fun j=>(SD (a:=⟨k,j,none⟩) hb).trans (h.2.2.2 j)⟩
theorem Zt.set (h:Zt W k) (hne:k≠B) (i:Nat) (u:Value):Zt (W.setCell ⟨B,i,none⟩ u) k :=
 ⟨by simpa using h.1,(Zs _ _ _ _ (by intro e;injection e with e;omega)).trans h.2.1,(Zs _ _ _ _ (by intro e;injection e with e;omega)).trans h.2.2.1,fun j=>by rw [WU];exact h.2.2.2 j⟩
def B1 (W:World) (k:Nat) (v:Value):Prop:=k<W.heap.size∧W.cell? ⟨k,0,none⟩=some v∧W.frozen? ⟨k,0,none⟩=false
theorem B1.turn (h:B1 W k v) (hg:W.grownBy W' row) (hne:some k≠row):B1 W' k v:=by
 have hb:=hg.block k h.1 hne;exact ⟨ZL h.1 hg.size,(Zj (a:=⟨k,0,none⟩) hb).trans h.2.1,(SD (a:=⟨k,0,none⟩) hb).trans h.2.2⟩
theorem Zz.turn (h:Zz 147 W lo v ns) (hg:W.grownBy W' (some k)) (hk:k<lo):Zz 147 W' lo v ns:=by
 refine Yu h hg ?_
 cases e:v.ownBlock with
 | none=>exact .inl rfl
 | some g =>
  refine .inr fun e2=>?_
  have:=(ZD h g e).1
  simp only [Zo] at e2
  omega
theorem Ix (ns:List Nd) (n:Nd):ZO (ns++[n])=ZO ns++Xs n:=by rw [YE];simp [ZO]
theorem UA (w:World) (n:Nd) (t:TypeId):∀j u,(Xs n)[j]?=some u→(w.alloc (.cells #[.string n.path,.string n.data,.int .i64 n.Zy,.int .i64 n.Zw,.int .i64 n.cz,.int .i64 n.mz,.int .i64 n.pz] t)).cell? ((⟨w.heap.size,0,none⟩:Addr).add j)=some u:=by
 intro j u hj;rw [Sg,YK,cell_of (Y9 w _) j,←hj]
 simp [Xs]
theorem SV (n:Nd):∀u ∈ Xs n,u.oneCell'=true:=by
 intro u hu
 simp only [Xs,Yz,zS,Me] at hu
 rcases hu with rfl | rfl | rfl | rfl | rfl | rfl | rfl <;> rfl
theorem Oe (n:Nd) (W:World):(Instr.field 149 (.agg #[.string n.path,.string n.data,.int .i64 n.Zy,.int .i64 n.Zw,.int .i64 n.cz,.int .i64 n.mz,.int .i64 n.pz]) 0).run Tryz.prog W=.ok (.agg #[.string n.path,.string n.data,.int .i64 n.Zy,.int .i64 n.Zw,.int .i64 n.cz,.int .i64 n.mz,.int .i64 n.pz]) W:=by kernel_rfl
def iM (ns:List Nd):Prop:=∀n ∈ ns,n.path.size<256∧n.data.size<256
theorem iM.at (h:iM ns) (i:Nat):(ZC ns i).path.size≤1048576∧(ZC ns i).data.size≤1048576:=by
 by_cases hi:i<ns.length
 · rw [YZ hi]
   have:=h _ (UO hi);omega
 unfold ZC;rw [List.getD,MX (by omega)];exact ⟨Zu _,Zu _⟩
def TS (w:World) (ys:List Int) (W:World) (v:Value) (ns:List Nd) (r:List Int):Prop :=
 Am ys ns r∧Wm r∧iM ns∧RS w W (w.heap.size+1) r∧Zt W w.heap.size∧B1 W (w.heap.size+1+1) v∧Zz 147 W (w.heap.size+3) v ns
def Sr (W:World) (k:Nat):Nat:=match W.cell? ⟨k,0,none⟩ with | some (.slice _ n _)=>n | _=>0
theorem RS.Sr (h:RS w0 W k r):Sr W k=r.length:=by
 obtain ⟨-,-,-,-,v,h5,h6⟩:=h;obtain ⟨ao,c,rfl,-⟩:=h6;unfold Go.Proofs.YtpmjnbmkippaiaaGreatDoor.Sr;rw [h5]
theorem TS.start (w:World) (ao:Option Addr) (ys:List Int) (cap:Nat) (h:Rd .u8 w (.slice ao ys.length cap) ys) (hb:Wm ys) :
    TS w ys (((w.alloc (.cells #[.bool false,.slice none 0 0] 135)).alloc (.cells #[.slice ao ys.length cap] 256)).alloc (.cells #[.slice none 0 0] 63)) (.slice none 0 0) [] ys:=by
 refine ⟨Am.start ys,hb,(fun n hn=>by cases hn),⟨by omega,by simp,(by go_simp),((ZJ.alloc ZT _).alloc (by simp) _).alloc (by simp;omega) _,_,(by go_simp),h⟩,⟨by simp;omega,(by go_simp),(by go_simp),fun j=>(by go_simp)⟩,⟨by simp,(by go_simp),(by go_simp)⟩,Zl _ _ _ _⟩
theorem TS.drewN (h:TS w ys W v ns r) (q:Nat):TS w ys (W.drewN q) v ns r:=⟨h.1,h.2.1,h.2.2.1,h.2.2.2.1.drewN q,h.2.2.2.2.1,h.2.2.2.2.2.1,h.2.2.2.2.2.2⟩
theorem TS.below (h:TS w ys W v ns r):ZX w W:=h.2.2.2.1.2.2.2.1
theorem ym (w0 w:World) (k:Nat) (ys:List Int) (h:RS w0 w k ys) :
    Calls Tryz.prog 177 #[.pointer (some ⟨k,0,none⟩)] w fun e w'=>e=.returned (.bool (decide (ys=[])))∧w'=w:=by
 obtain ⟨-,-,-,-,v,h5,h6⟩:=h;obtain ⟨ao,c,rfl,-⟩:=h6
 by_cases hy:ys=[]
 · subst hy
   have h0:((List.length ([]:List Int):Int) == 0)=true:=rfl
   go_enter Tryz.func177,Tryz.ntmps177
   go_wp2;go_ret;exact ⟨rfl,rfl⟩
 have hl:=List.length_pos_iff.2 hy;have h0:((ys.length:Int) == 0)=false:=Vy.2 (by omega);rw [YW hy]
 go_enter Tryz.func177,Tryz.ntmps177
 go_wp2;go_ret;exact ⟨rfl,rfl⟩
theorem eM (fn:Fn) (first cap:Array Value) (w:World):(Instr.makeFunc fn first cap).run Tryz.prog w=.ok (.func fn first cap) w:=rfl
theorem RS.turn (h:RS w0 W k r) (hg:W.grownBy W' row) (hne:some k≠row) (hlo:∀g,row=some g→w0.heap.size≤g):RS w0 W' k r:=by
 obtain ⟨h1,h2,h3,h4,v,h5,h6⟩:=h;have hb:=hg.block k h2 hne;exact ⟨h1,ZL h2 hg.size,(SD (a:=⟨k,0,none⟩) hb).trans h3,h4.grown hg h4.size hlo,v,(Zj (a:=⟨k,0,none⟩) hb).trans h5,h6⟩
def TR (w:World) (ys:List Int) (W:World) (v:Value) (ns:List Nd) (n:Nd) (r:List Int):Prop :=
 Am ys (ns++[n]) r∧Wm r∧iM (ns++[n])∧RS w W (w.heap.size+1) r∧Zt W w.heap.size∧B1 W (w.heap.size+1+1) v∧Zz 147 W (w.heap.size+3) v ns
theorem TS.read {W1:World} {r':List Int} (h:TS w ys W v ns r) (hg:W.grownBy W1 (some (w.heap.size+1))) (hp:UW r=some (n,r')) (hr:RS w W1 (w.heap.size+1) r'):TR w ys W1 v ns n r':=by
 obtain ⟨t1,t2,t3,t4,t5,t6,t7⟩:=h;have hb:=Q0 hp t2;refine ⟨t1.step t2 hp,hb.1,?_,hr,t5.turn hg (by simp),t6.turn hg (by simp),t7.turn hg (by omega)⟩;intro m hm
 rcases XP.1 hm with hm | hm
 · exact t3 m hm
 simp at hm;subst hm;exact hb.2.2
theorem TR.alloc (h:TR w ys W v ns n r) (o:Obj):TR w ys (W.alloc o) v ns n r:=by
 obtain ⟨t1,t2,t3,t4,t5,t6,t7⟩:=h;exact ⟨t1,t2,t3,t4.new (ZJ.alloc ZT _),t5.turn (VR _ _ none) (by simp),t6.turn (VR _ _ none) (by simp),t7.below (ZJ.alloc ZT _)⟩
theorem TR.push {W3:World} {v3:Value} (h:TR w ys W v ns n r) (hg:W.grownBy W3 v.ownBlock) (ho:W3.ownsRow (w.heap.size+3) 147 7 v3 (ns.length+1) (ZO ns++Xs n)) :
    TS w ys (W3.setCell ⟨w.heap.size+1+1,0,none⟩ v3) v3 (ns++[n]) r:=by
 obtain ⟨t1,t2,t3,t4,t5,t6,t7⟩:=h;have hne:∀k,k<w.heap.size+3→some k≠v.ownBlock:=fun k hk e=>by have:=(ZD t7 k e.symm).1;omega
 have hlo:∀g,v.ownBlock=some g→w.heap.size≤g:=fun g e=>by have:=(ZD t7 g e).1;omega
 have b6:=t6.turn hg (hne _ (by omega));refine ⟨t1,t2,t3,(t4.turn hg (hne _ (by omega)) hlo).setOther (by omega) (by omega) _ _,(t5.turn hg (hne _ (by omega))).set (by omega) _ _,⟨by simpa using b6.1,Xo _ _ _ b6.2.1,by rw [WU];exact b6.2.2⟩,?_⟩;have:Zz 147 W3 (w.heap.size+3) v3 (ns++[n]):=by unfold Zz;rw [Ix,ZA];exact ho
 exact Zz.Yk this (by show w.heap.size+1+1<w.heap.size+3;omega) _
theorem KJ (w:World) (v:Value) (ys:List Int) (h:Rd .u8 w v ys) (hby:Wm ys) (hl:ys.length≤1048576) :
    Calls Tryz.prog 133 #[v] w fun e w'=>KM w ys e w':=by
 obtain ⟨i0,hi,hz0,hz1,hz2⟩:=Yq Tryz.PG;obtain ⟨ao,cap,rfl,-,-⟩:=h.len;have D0:=Z3 (TS.start w ao ys cap h hby);have hm:=eM
 go_enter_defers Tryz.func133,Tryz.ntmps133
 go_wp2;generalize (((w.alloc _).alloc _).alloc _)=W0 at *
 go_loopw [9] (fun u9 wr=>∃v ns r,Hid (TS w ys wr v ns r)) (fun _ wr=>Sr wr (w.heap.size+1))
 case atStart=>exact ⟨_,_,_,D0⟩
 case round =>
  obtain ⟨v,ns,r,D⟩:=hrel;obtain ⟨va,vc,hva⟩:=D.out.2.2.2.2.2.2.slice;subst hva
  go_wp2_with fail
  refine (ym w wr (w.heap.size+1) r D.out.2.2.2.1).mono ?_;rintro e w1 ⟨rfl,rfl⟩
  by_cases hr:r=[]
  · subst hr
    rw [show decide (([]:List Int)=[])=true from rfl];obtain ⟨t1,-,t3,-,⟨tz,z0,z1,zf⟩,⟨-,b0,-⟩,t7⟩:=D.out;have Cq:=Z3 t1.done;have Pm:=Z3 t3;have Z7:=Z3 t7
    go_wp2_with fail
    refine (XE _ _ ns Z7.out.rd Pm.out.at).mono ?_;rintro e w2 ⟨rfl,b2⟩;have Z6:=Z3 (Z7.out.below b2);have HB2:=Z3 (D.out.below.trans (b2.mono D.out.below.size));obtain ⟨-,z0,z1,zf⟩:=D.out.2.2.2.2.1.turn (grown_of b2 none) (by simp);obtain ⟨-,d0,-⟩:=D.out.2.2.2.2.2.1.turn (grown_of b2 none) (by simp);have f0:=zf 0;have f1:=zf 1
    by_cases hok:YY ns=true
    · have HF:Hid (∀W,W=(w2.setCell ⟨w.heap.size,0,none⟩ (.bool true)).setCell ⟨w.heap.size,1,none⟩ (.slice va ns.length vc)→KM w ys (.returned (.agg #[.bool true,.slice va ns.length vc])) W):=by
       rintro W rfl;refine ⟨(HB2.out.setCell (p:=⟨w.heap.size,0,none⟩) ZT _).setCell (p:=⟨w.heap.size,1,none⟩) ZT _,.inr ⟨ns,_,?_,rfl,?_⟩⟩
       · unfold IB;rw [Cq.out];simp only;rw [ZZ hok]
       exact Zz.mono (Zz.Yk (Zz.Yk Z6.out (by show w.heap.size<w.heap.size+3;omega) _) (by show w.heap.size<w.heap.size+3;omega) _) (by omega)
      rw [hok];go_wp2;refine Vv (f:=176) (args:=#[]) (by simp) (by simp [go_sem]) ?_;refine (PD _).mono ?_;rintro e u' w3 ⟨rfl,rfl,rfl⟩
      simp [Leaves,settle,results,Tryz.results133,go_sem,z0,z1]
      exact HF.out _ rfl
    have hok':YY ns=false:=by simpa using hok
    have HF:Hid (∀W,W=(w2.setCell ⟨w.heap.size,0,none⟩ (.bool false)).setCell ⟨w.heap.size,1,none⟩ (.slice none 0 0)→KM w ys (.returned (.agg #[.bool false,.slice none 0 0])) W):=by
     rintro W rfl;refine ⟨(HB2.out.setCell (p:=⟨w.heap.size,0,none⟩) ZT _).setCell (p:=⟨w.heap.size,1,none⟩) ZT _,.inl ⟨?_,rfl⟩⟩;unfold IB;rw [Cq.out];simp only;rw [Z1 hok]
    rw [hok'];go_wp2;refine Vv (f:=176) (args:=#[]) (by simp) (by simp [go_sem]) ?_;refine (PD _).mono ?_;rintro e u' w3 ⟨rfl,rfl,rfl⟩
    simp [Leaves,settle,results,Tryz.results133,go_sem,z0,z1]
    exact HF.out _ rfl
  rw [YW hr];have HBAD:Hid (UW r=none→∀W W',w1.drew.grownBy W (some (w.heap.size+1))→ZX W W'→W'.cell? ⟨w.heap.size,0,none⟩=some (.bool false)∧W'.cell? ⟨w.heap.size,1,none⟩=some (.slice none 0 0)∧KM w ys (.returned (.agg #[.bool false,.slice none 0 0])) W'):=by
   intro hp W W' hg hb;have z:=((D.out.drewN 1).2.2.2.2.1.turn hg (by simp)).turn (grown_of hb none) (by simp);have hB:=(D.out.drewN 1).below.grown hg (D.out.drewN 1).below.size (fun q hq=>by simp only [Zo] at hq;omega);refine ⟨z.2.1,z.2.2.1,YV hB hb,.inl ⟨?_,rfl⟩⟩;unfold IB;rw [D.out.1.bad hr hp]
  have ZI:Hid (r≠[]):=hr;have lV:Hid (ns.length+r.length≤ys.length):=by obtain ⟨f,-,-,h⟩:=D.out.1;exact h
  have hns:ns.length≤1048576:=by have:=lV.out;omega
  have c0:=D.out.2.2.2.2.2.1.2.1
  cases hrd:UW r with
  | none =>
   have Fq:=Z3 hrd;go_wp2;refine ZH (S:=fun _=>True) (by kernel_rfl) trivial (fun Z9=>?_);refine UY 0 2 rfl rfl (by kernel_rfl) (fun K hK=>?_) (fun K hK=>?_)
   · go_simp
     refine hK.out _ _ trivial (fun ZM=>?_);refine UY 1 2 rfl rfl (by kernel_rfl) (fun K hK=>?_) (fun K hK=>?_)
     · go_simp
       refine hK.out _ _ trivial (fun ZM=>?_);refine ZU 2 rfl (by kernel_rfl) (fun K hK=>?_);go_simp;refine hK.out _ _ trivial (fun ZM=>?_);refine ZU 3 rfl (by kernel_rfl) (fun K hK=>?_);go_simp;refine (Yo w w1.drew (w.heap.size+1) r (D.out.drewN 1).2.2.2.1 D.out.2.1).mono ?_;rintro e W1 ⟨g1,hp⟩
       rcases hp with ⟨hp,rfl⟩ | ⟨n,r',hp,rfl,hr1⟩
       · refine Vv (f:=176) (args:=#[]) (by simp) (by simp [go_sem]) ?_
         refine (VZ [] _).mono ?_;rintro e u' w3 ⟨rfl,rfl,b3⟩;obtain ⟨z0,z1,hF⟩:=HBAD.out hp _ _ g1 b3
         simp [Leaves,settle,results,Tryz.results133,go_sem,z0,z1]
         exact hF
       rw [Fq.out] at hp;cases hp
     go_simp;refine hK.out _ _ trivial (fun ZM=>?_);refine UY 1 3 rfl rfl (by kernel_rfl) (fun K hK=>?_) (fun K hK=>?_)
     · go_simp
       refine hK.out _ _ trivial (fun ZM=>?_);refine ZU 3 rfl (by kernel_rfl) (fun K hK=>?_);go_simp;refine (Yo w w1.drew (w.heap.size+1) r (D.out.drewN 1).2.2.2.1 D.out.2.1).mono ?_;rintro e W1 ⟨g1,hp⟩
       rcases hp with ⟨hp,rfl⟩ | ⟨n,r',hp,rfl,hr1⟩
       · refine Vv (f:=176) (args:=#[]) (by simp) (by simp [go_sem]) ?_
         refine (VZ [] _).mono ?_;rintro e u' w3 ⟨rfl,rfl,b3⟩;obtain ⟨z0,z1,hF⟩:=HBAD.out hp _ _ g1 b3
         simp [Leaves,settle,results,Tryz.results133,go_sem,z0,z1]
         exact hF
       rw [Fq.out] at hp;cases hp
     go_simp;refine (Yo w w1.drew (w.heap.size+1) r (D.out.drewN 1).2.2.2.1 D.out.2.1).mono ?_;rintro e W1 ⟨g1,hp⟩
     rcases hp with ⟨hp,rfl⟩ | ⟨n,r',hp,rfl,hr1⟩
     · refine Vv (f:=176) (args:=#[]) (by simp) (by simp [go_sem]) ?_
       refine (VZ [] _).mono ?_;rintro e u' w3 ⟨rfl,rfl,b3⟩;obtain ⟨z0,z1,hF⟩:=HBAD.out hp _ _ g1 b3
       simp [Leaves,settle,results,Tryz.results133,go_sem,z0,z1]
       exact hF
     rw [Fq.out] at hp;cases hp
   go_simp;refine hK.out _ _ trivial (fun ZM=>?_);refine UY 0 3 rfl rfl (by kernel_rfl) (fun K hK=>?_) (fun K hK=>?_)
   · go_simp
     refine hK.out _ _ trivial (fun ZM=>?_);refine UY 1 3 rfl rfl (by kernel_rfl) (fun K hK=>?_) (fun K hK=>?_)
     · go_simp
       refine hK.out _ _ trivial (fun ZM=>?_);refine ZU 3 rfl (by kernel_rfl) (fun K hK=>?_);go_simp;refine (Yo w w1.drew (w.heap.size+1) r (D.out.drewN 1).2.2.2.1 D.out.2.1).mono ?_;rintro e W1 ⟨g1,hp⟩
       rcases hp with ⟨hp,rfl⟩ | ⟨n,r',hp,rfl,hr1⟩
       · refine Vv (f:=176) (args:=#[]) (by simp) (by simp [go_sem]) ?_
         refine (VZ [] _).mono ?_;rintro e u' w3 ⟨rfl,rfl,b3⟩;obtain ⟨z0,z1,hF⟩:=HBAD.out hp _ _ g1 b3
         simp [Leaves,settle,results,Tryz.results133,go_sem,z0,z1]
         exact hF
       rw [Fq.out] at hp;cases hp
     go_simp;refine (Yo w w1.drew (w.heap.size+1) r (D.out.drewN 1).2.2.2.1 D.out.2.1).mono ?_;rintro e W1 ⟨g1,hp⟩
     rcases hp with ⟨hp,rfl⟩ | ⟨n,r',hp,rfl,hr1⟩
     · refine Vv (f:=176) (args:=#[]) (by simp) (by simp [go_sem]) ?_
       refine (VZ [] _).mono ?_;rintro e u' w3 ⟨rfl,rfl,b3⟩;obtain ⟨z0,z1,hF⟩:=HBAD.out hp _ _ g1 b3
       simp [Leaves,settle,results,Tryz.results133,go_sem,z0,z1]
       exact hF
     rw [Fq.out] at hp;cases hp
   go_simp;refine (Yo w w1.drew (w.heap.size+1) r (D.out.drewN 1).2.2.2.1 D.out.2.1).mono ?_;rintro e W1 ⟨g1,hp⟩
   rcases hp with ⟨hp,rfl⟩ | ⟨n,r',hp,rfl,hr1⟩
   · refine Vv (f:=176) (args:=#[]) (by simp) (by simp [go_sem]) ?_
     refine (VZ [] _).mono ?_;rintro e u' w3 ⟨rfl,rfl,b3⟩;obtain ⟨z0,z1,hF⟩:=HBAD.out hp _ _ g1 b3
     simp [Leaves,settle,results,Tryz.results133,go_sem,z0,z1]
     exact hF
   rw [Fq.out] at hp;cases hp
  | some q =>
   obtain ⟨n0,r0⟩:=q;have Fq:=Z3 hrd;go_wp2;refine wp_region_noPanic ?_;refine ZH (S:=fun _=>True) (by kernel_rfl) (trivial) (fun Z9=>?_);refine ZW (.pointer (some ⟨w.heap.size+1+1,0,none⟩)) (by kernel_rfl) (fun _=>id) Z9 ?_ ?_
   · intro w9 Z0;go_simp
   refine ZG 2 (.pointer (some ⟨w.heap.size+1,0,none⟩)) rfl (by kernel_rfl) (fun _=>id) Z9 ?hy2 ?_
   case hy2=>intro w9 Z0;go_simp
   refine UY 1 3 rfl rfl (by kernel_rfl) (fun K hK=>?_) (fun K hK=>?_)
   · go_simp
     refine hK.out _ _ trivial (fun ZM=>?_);refine ZU 3 rfl (by kernel_rfl) (fun K hK=>?_);go_simp;refine (Yo w w1.drew (w.heap.size+1) r (D.out.drewN 1).2.2.2.1 D.out.2.1).mono ?_;rintro e W1 ⟨g1,hp⟩
     rcases hp with ⟨hp,rfl⟩ | ⟨n,r',hp,rfl,hr1⟩
     · rw [Fq.out] at hp;cases hp
     have T1:=Z3 ((D.out.drewN 1).read g1 hp hr1);have Ra:=Z3 ((Q0 hp D.out.2.1).2.1);have c1:=T1.out.2.2.2.2.2.1.2.1;refine hK.out _ _ trivial (fun ZM=>?_);refine ZW (uJ n) (by kernel_rfl) (fun _=>id) Z9 ?_ ?_
     · intro w9 Z0;unfold uJ;have ZV:=Oe n w9;go_simp
     refine ZU 5 rfl (by kernel_rfl) (fun K hK=>?_);unfold uJ;go_simp;have T2:Hid (TR w ys (W1.alloc (.cells #[.string n.path,.string n.data,.int .i64 n.Zy,.int .i64 n.Zw,.int .i64 n.cz,.int .i64 n.mz,.int .i64 n.pz] 147)) (.slice va ns.length vc) ns n r'):=T1.out.alloc _;have NC:Hid (∀j u,(Xs n)[j]?=some u→(W1.alloc (.cells #[.string n.path,.string n.data,.int .i64 n.Zy,.int .i64 n.Zw,.int .i64 n.cz,.int .i64 n.mz,.int .i64 n.pz] 147)).cell? ((⟨W1.heap.size,0,none⟩:Addr).add j)=some u):=UA _ _ _;refine hK.out _ _ trivial (fun ZM=>?_);generalize W1.alloc _=W2 at *;generalize W1.heap.size=G1 at *;have c1:=T2.out.2.2.2.2.2.1.2.1;refine ZU 6 rfl (by kernel_rfl) (fun K hK=>?_);refine step_append rfl (.tmp 12) (.tmp 16) 61 rfl (w.heap.size+3) 147 i0 (.agg #[.string ByteArray.empty,.string ByteArray.empty,.int .i64 0,.int .i64 0,.int .i64 0,.int .i64 0,.int .i64 0]) 7 72 Tryz.underlying61 hi hz0 hz1 hz2 rfl (by decide) (.slice va ns.length vc) ns.length _ rfl T2.out.2.2.2.2.2.2 ⟨G1,0,none⟩ 1 1 (Xs n) rfl rfl NC.out (SV n) (by unfold maxLen;omega) (by omega) (by have:=T2.out.2.2.2.2.2.1.1;omega) ?_;intro v3 W3 ho3 hg3;have D3:=Z3 (T2.out.push hg3 ho3);obtain ⟨a3,q3,hv3⟩:=D3.out.2.2.2.2.2.2.slice;rw [show (ns++[n]).length=ns.length+1 by simp] at hv3;subst hv3;obtain ⟨-,c3,f3⟩:=T2.out.2.2.2.2.2.1.turn hg3 (fun e=>by have:=(ZD T2.out.2.2.2.2.2.2 _ e.symm).1;omega);refine hK.out _ _ trivial (fun ZM=>?_);refine ZW (.pointer (some ⟨w.heap.size+1+1,0,none⟩)) (by kernel_rfl) (fun _=>id) Z9 ?_ ?_
     · intro w9 Z0;go_simp
     refine ZU 8 rfl (by kernel_rfl) (fun K hK=>?_);go_simp;refine hK.out _ _ trivial (fun ZM=>?_);refine ZP (by kernel_rfl) (NoPanic.normal ?_) _
     try simp only [Act.put,Y8,Y7,Y6]
     go_wp2;refine ⟨⟨_,_,_,D3⟩,?_⟩;rw [D3.out.2.2.2.1.Sr,D.out.2.2.2.1.Sr];exact Ra.out
   go_simp;refine (Yo w w1.drew (w.heap.size+1) r (D.out.drewN 1).2.2.2.1 D.out.2.1).mono ?_;rintro e W1 ⟨g1,hp⟩
   rcases hp with ⟨hp,rfl⟩ | ⟨n,r',hp,rfl,hr1⟩
   · rw [Fq.out] at hp;cases hp
   have T1:=Z3 ((D.out.drewN 1).read g1 hp hr1);have Ra:=Z3 ((Q0 hp D.out.2.1).2.1);have c1:=T1.out.2.2.2.2.2.1.2.1;refine hK.out _ _ trivial (fun ZM=>?_);refine ZG 4 (uJ n) rfl (by kernel_rfl) (fun _=>id) Z9 ?FE ?_
   case FE =>
    intro w9 Z0;unfold uJ;have ZV:=Oe n w9;go_simp
   refine UY 1 5 rfl rfl (by kernel_rfl) (fun K hK=>?_) (fun K hK=>?_)
   · go_simp
     refine hK.out _ _ trivial (fun ZM=>?_);refine ZU 5 rfl (by kernel_rfl) (fun K hK=>?_);unfold uJ;go_simp;have T2:Hid (TR w ys (W1.alloc (.cells #[.string n.path,.string n.data,.int .i64 n.Zy,.int .i64 n.Zw,.int .i64 n.cz,.int .i64 n.mz,.int .i64 n.pz] 147)) (.slice va ns.length vc) ns n r'):=T1.out.alloc _;have NC:Hid (∀j u,(Xs n)[j]?=some u→(W1.alloc (.cells #[.string n.path,.string n.data,.int .i64 n.Zy,.int .i64 n.Zw,.int .i64 n.cz,.int .i64 n.mz,.int .i64 n.pz] 147)).cell? ((⟨W1.heap.size,0,none⟩:Addr).add j)=some u):=UA _ _ _;refine hK.out _ _ trivial (fun ZM=>?_);generalize W1.alloc _=W2 at *;generalize W1.heap.size=G1 at *;have c1:=T2.out.2.2.2.2.2.1.2.1;refine ZU 6 rfl (by kernel_rfl) (fun K hK=>?_);refine step_append rfl (.tmp 12) (.tmp 16) 61 rfl (w.heap.size+3) 147 i0 (.agg #[.string ByteArray.empty,.string ByteArray.empty,.int .i64 0,.int .i64 0,.int .i64 0,.int .i64 0,.int .i64 0]) 7 72 Tryz.underlying61 hi hz0 hz1 hz2 rfl (by decide) (.slice va ns.length vc) ns.length _ rfl T2.out.2.2.2.2.2.2 ⟨G1,0,none⟩ 1 1 (Xs n) rfl rfl NC.out (SV n) (by unfold maxLen;omega) (by omega) (by have:=T2.out.2.2.2.2.2.1.1;omega) ?_;intro v3 W3 ho3 hg3;have D3:=Z3 (T2.out.push hg3 ho3);obtain ⟨a3,q3,hv3⟩:=D3.out.2.2.2.2.2.2.slice;rw [show (ns++[n]).length=ns.length+1 by simp] at hv3;subst hv3;obtain ⟨-,c3,f3⟩:=T2.out.2.2.2.2.2.1.turn hg3 (fun e=>by have:=(ZD T2.out.2.2.2.2.2.2 _ e.symm).1;omega);refine hK.out _ _ trivial (fun ZM=>?_);refine ZW (.pointer (some ⟨w.heap.size+1+1,0,none⟩)) (by kernel_rfl) (fun _=>id) Z9 ?_ ?_
     · intro w9 Z0;go_simp
     refine ZU 8 rfl (by kernel_rfl) (fun K hK=>?_);go_simp;refine hK.out _ _ trivial (fun ZM=>?_);refine ZP (by kernel_rfl) (NoPanic.normal ?_) _
     try simp only [Act.put,Y8,Y7,Y6]
     go_wp2;refine ⟨⟨_,_,_,D3⟩,?_⟩;rw [D3.out.2.2.2.1.Sr,D.out.2.2.2.1.Sr];exact Ra.out
   unfold uJ;go_simp;have T2:Hid (TR w ys (W1.alloc (.cells #[.string n.path,.string n.data,.int .i64 n.Zy,.int .i64 n.Zw,.int .i64 n.cz,.int .i64 n.mz,.int .i64 n.pz] 147)) (.slice va ns.length vc) ns n r'):=T1.out.alloc _;have NC:Hid (∀j u,(Xs n)[j]?=some u→(W1.alloc (.cells #[.string n.path,.string n.data,.int .i64 n.Zy,.int .i64 n.Zw,.int .i64 n.cz,.int .i64 n.mz,.int .i64 n.pz] 147)).cell? ((⟨W1.heap.size,0,none⟩:Addr).add j)=some u):=UA _ _ _;refine hK.out _ _ trivial (fun ZM=>?_);generalize W1.alloc _=W2 at *;generalize W1.heap.size=G1 at *;have c1:=T2.out.2.2.2.2.2.1.2.1;refine ZU 1 rfl (by kernel_rfl) (fun K hK=>?_);go_simp;refine hK.out _ _ trivial (fun ZM=>?_);refine ZU 6 rfl (by kernel_rfl) (fun K hK=>?_);refine step_append rfl (.tmp 12) (.tmp 16) 61 rfl (w.heap.size+3) 147 i0 (.agg #[.string ByteArray.empty,.string ByteArray.empty,.int .i64 0,.int .i64 0,.int .i64 0,.int .i64 0,.int .i64 0]) 7 72 Tryz.underlying61 hi hz0 hz1 hz2 rfl (by decide) (.slice va ns.length vc) ns.length _ rfl T2.out.2.2.2.2.2.2 ⟨G1,0,none⟩ 1 1 (Xs n) rfl rfl NC.out (SV n) (by unfold maxLen;omega) (by omega) (by have:=T2.out.2.2.2.2.2.1.1;omega) ?_;intro v3 W3 ho3 hg3;have D3:=Z3 (T2.out.push hg3 ho3);obtain ⟨a3,q3,hv3⟩:=D3.out.2.2.2.2.2.2.slice;rw [show (ns++[n]).length=ns.length+1 by simp] at hv3;subst hv3;obtain ⟨-,c3,f3⟩:=T2.out.2.2.2.2.2.1.turn hg3 (fun e=>by have:=(ZD T2.out.2.2.2.2.2.2 _ e.symm).1;omega);refine hK.out _ _ trivial (fun ZM=>?_);refine ZW (.pointer (some ⟨w.heap.size+1+1,0,none⟩)) (by kernel_rfl) (fun _=>id) Z9 ?_ ?_
   · intro w9 Z0;go_simp
   refine ZU 8 rfl (by kernel_rfl) (fun K hK=>?_);go_simp;refine hK.out _ _ trivial (fun ZM=>?_);refine ZP (by kernel_rfl) (NoPanic.normal ?_) _
   try simp only [Act.put,Y8,Y7,Y6]
   go_wp2;refine ⟨⟨_,_,_,D3⟩,?_⟩;rw [D3.out.2.2.2.1.Sr,D.out.2.2.2.1.Sr];exact Ra.out
def QZ (ns:List Nd) (p:ByteArray):List Nd:=ns.filter fun n=>!(n.path.toList == p.toList)
def JG (n:Nd) (st:List Nd × Bool) (m:Nd):List Nd × Bool :=
 let o:=if !st.2 && !(Op.bytesLess m.path.toList n.path.toList) then (st.1++[n],true) else st
 if m.path.toList == n.path.toList then o else (o.1++[m],o.2)
def qM (ns:List Nd) (n:Nd):List Nd × Bool:=ns.foldl (JG n) ([],false)
def Pl (ns:List Nd) (n:Nd):List Nd:=if (qM ns n).2 then (qM ns n).1 else (qM ns n).1++[n]
def blank (n:Nd):Bool:=(n.data.toList == []) && (n.Zy == 0) && (n.Zw == 0) && (n.cz == 0) && (n.mz == 0) && (n.pz == 0)
def Wl (e:Ef):Bool:=YL e.nd && (!e.del || blank e.nd)
theorem Oc (h:e.del=false):Wl e=YL e.nd:=by unfold Wl;rw [h];simp
theorem LR (h:e.del=true):Wl e=(YL e.nd && blank e.nd):=by unfold Wl;rw [h];simp
theorem Pk (w:World) (n:Ef) (hd:n.nd.data.size≤1048576) :
    Calls Tryz.prog 202 #[.agg #[.bool n.del,.string n.nd.path,.string n.nd.data,.int .i64 n.nd.Zy,.int .i64 n.nd.Zw,.int .i64 n.nd.cz,.int .i64 n.nd.mz,.int .i64 n.nd.pz]] w (YI w (.bool (Wl n))):=by
 have B0:Hid (∀o,ZX w (w.alloc o)):=fun o=>ZJ.alloc ZT _
 cases hdel:n.del with
 | false =>
  have HE:=Z3 (Oc hdel)
  go_enter Tryz.func202,Tryz.ntmps202
  go_wp2_with fail
  refine (Uo _ n.nd hd).mono ?_;rintro e w1 ⟨rfl,b1⟩;have B1:=Z3 ((B0.out _).trans (b1.mono (by simp)));clear b1;go_wp2;go_ret;exact ⟨YR HE.out.symm,B1.out⟩
 | true =>
  have HE:=Z3 (LR hdel);clear hdel;have qL:(n.nd.path.toList == n.nd.path.toList)=true:=by simp
  cases P:(n.nd.data.toList == []) with
  | false =>
   have HN:Hid (Wl n=false):=by show _=_;rw [HE.out];unfold blank;rw [P];simp
   go_enter Tryz.func202,Tryz.ntmps202
   go_wp2_with fail
   go_ret;exact ⟨YR HN.out.symm,B0.out _⟩
  | true =>
   cases IG:(n.nd.Zy == 0) with
   | false =>
    have HN:Hid (Wl n=false):=by show _=_;rw [HE.out];unfold blank;rw [IG];simp
    go_enter Tryz.func202,Tryz.ntmps202
    go_wp2_with fail
    go_ret;exact ⟨YR HN.out.symm,B0.out _⟩
   | true =>
    cases Om:(n.nd.Zw == 0) with
    | false =>
     have HN:Hid (Wl n=false):=by show _=_;rw [HE.out];unfold blank;rw [Om];simp
     go_enter Tryz.func202,Tryz.ntmps202
     go_wp2_with fail
     go_ret;exact ⟨YR HN.out.symm,B0.out _⟩
    | true =>
     cases yD:(n.nd.cz == 0) with
     | false =>
      have HN:Hid (Wl n=false):=by show _=_;rw [HE.out];unfold blank;rw [yD];simp
      go_enter Tryz.func202,Tryz.ntmps202
      go_wp2_with fail
      go_ret;exact ⟨YR HN.out.symm,B0.out _⟩
     | true =>
      cases yC:(n.nd.mz == 0) with
      | false =>
       have HN:Hid (Wl n=false):=by show _=_;rw [HE.out];unfold blank;rw [yC];simp
       go_enter Tryz.func202,Tryz.ntmps202
       go_wp2_with fail
       go_ret;exact ⟨YR HN.out.symm,B0.out _⟩
      | true =>
       cases yB:(n.nd.pz == 0) with
       | false =>
        have HN:Hid (Wl n=false):=by show _=_;rw [HE.out];unfold blank;rw [yB];simp
        go_enter Tryz.func202,Tryz.ntmps202
        go_wp2_with fail
        go_ret;exact ⟨YR HN.out.symm,B0.out _⟩
       | true =>
        have HY:Hid (Wl n=YL n.nd):=by show _=_;rw [HE.out];unfold blank;rw [P,IG,Om,yD,yC,yB];simp
        go_enter Tryz.func202,Tryz.ntmps202
        go_wp2_with fail
        refine (Uo _ n.nd hd).mono ?_;rintro e w1 ⟨rfl,b1⟩;have B1:=Z3 ((B0.out _).trans (b1.mono (by simp)));clear b1;go_wp2;go_ret;exact ⟨YR HY.out.symm,B1.out⟩
structure QY (w:World) (B:Nat) (n:Ef):Prop where
 lt:B<w.heap.size
 c0:w.cell? ⟨B,0,none⟩=some (.bool n.del)
 c1:w.cell? ⟨B,1,none⟩=some (.string n.nd.path)
 c2:w.cell? ⟨B,2,none⟩=some (.string n.nd.data)
 c3:w.cell? ⟨B,3,none⟩=some (.int .i64 n.nd.Zy)
 c4:w.cell? ⟨B,4,none⟩=some (.int .i64 n.nd.Zw)
 c5:w.cell? ⟨B,5,none⟩=some (.int .i64 n.nd.cz)
 c6:w.cell? ⟨B,6,none⟩=some (.int .i64 n.nd.mz)
 c7:w.cell? ⟨B,7,none⟩=some (.int .i64 n.nd.pz)
theorem QY.new (w:World) (n:Ef) (t:TypeId):QY (w.alloc (.cells #[.bool n.del,.string n.nd.path,.string n.nd.data,.int .i64 n.nd.Zy,.int .i64 n.nd.Zw,.int .i64 n.nd.cz,.int .i64 n.nd.mz,.int .i64 n.nd.pz] t)) w.heap.size n :=
 ⟨by simp,by simp,by simp,by simp,by simp,by simp,by simp,by simp,by simp⟩
theorem QY.below {n:Ef} (h:QY w B n) (hb:ZX w w'):QY w' B n :=
 ⟨ZL h.lt hb.size,(hb.cell (p:=⟨B,_,none⟩) h.lt).trans h.c0,(hb.cell (p:=⟨B,_,none⟩) h.lt).trans h.c1,(hb.cell (p:=⟨B,_,none⟩) h.lt).trans h.c2,(hb.cell (p:=⟨B,_,none⟩) h.lt).trans h.c3,(hb.cell (p:=⟨B,_,none⟩) h.lt).trans h.c4,(hb.cell (p:=⟨B,_,none⟩) h.lt).trans h.c5,(hb.cell (p:=⟨B,_,none⟩) h.lt).trans h.c6,(hb.cell (p:=⟨B,_,none⟩) h.lt).trans h.c7⟩
theorem QY.all {n:Ef} (h:QY w B n):w.cell? ⟨B,0,none⟩=some (.bool n.del)∧w.cell? ⟨B,1,none⟩=some (.string n.nd.path)∧w.cell? ⟨B,2,none⟩=some (.string n.nd.data)∧w.cell? ⟨B,3,none⟩=some (.int .i64 n.nd.Zy)∧w.cell? ⟨B,4,none⟩=some (.int .i64 n.nd.Zw)∧w.cell? ⟨B,5,none⟩=some (.int .i64 n.nd.cz)∧w.cell? ⟨B,6,none⟩=some (.int .i64 n.nd.mz)∧w.cell? ⟨B,7,none⟩=some (.int .i64 n.nd.pz):=⟨h.c0,h.c1,h.c2,h.c3,h.c4,h.c5,h.c6,h.c7⟩
def Ua (ns:List Ef) (k:Nat):Bool:=Wl (Yf ns k) && (decide (k=0) || W8 (Yf ns (k - 1)).nd.path (Yf ns k).nd.path)
def Qh (ns:List Ef):Bool:=(List.range ns.length).all (Ua ns)
def WP (z:Int) (ns:List Ef):Bool:=decide (1≤z) && decide (z≤2147483647) && decide (ns.length≤1000) && Qh ns
theorem qK {ns:List Ef} (h:k<ns.length) (hn:Ua ns k=false):Qh ns=false:=by
 unfold Qh;rw [Aa];exact ⟨k,UT.2 h,by rw [hn];simp⟩
theorem yl {ns:List Ef} (h:∀k,k<ns.length→Ua ns k=true):Qh ns=true:=by
 unfold Qh;rw [Se];exact fun k hk=>h k (UT.1 hk)
theorem Ob (ns:List Ef):Ua ns 0=Wl (Yf ns 0):=by unfold Ua;simp
theorem Uk (ns:List Ef) (j:Nat):Ua ns (j+1)=(Wl (Yf ns (j+1)) && W8 (Yf ns j).nd.path (Yf ns (j+1)).nd.path):=by unfold Ua;simp
theorem Iw (w:World) (z:Int) (b o n cap:Nat) (ns:List Ef) (hz1:¬z<1) (hz2:¬2147483647<z) (hp:ns.length=n) (hn:n≤1000) (hb:b<w.heap.size) (hsz:∀i,(Yf ns i).nd.path.size≤1048576∧(Yf ns i).nd.data.size≤1048576)
    (hc:∀i,i<n→Tx w b (o+i*8) (Yf ns i)) :
    Calls Tryz.prog 169 #[.agg #[.int .i64 z,.slice (some ⟨b,o,none⟩) n cap]] w (YI w (.bool (Qh ns))):=by
 have HC:=Z3 hc;have HP:=Z3 hp;have HZ:=Z3 hsz;have yA:¬(1000:Int)<(n:Int):=by omega
 clear hc hp hsz;have B0:Hid (ZX w (w.alloc (.cells #[.int .i64 z,.slice (some ⟨b,o,none⟩) n cap] 192))):=ZJ.alloc ZT _;have Z5:Hid ((w.alloc (.cells #[.int .i64 z,.slice (some ⟨b,o,none⟩) n cap] 192)).cell? ⟨w.heap.size,1,none⟩=some (.slice (some ⟨b,o,none⟩) n cap)):=by show _=_;simp
 have z0:w.heap.size<(w.alloc (.cells #[.int .i64 z,.slice (some ⟨b,o,none⟩) n cap] 192)).heap.size:=by simp
 go_enter Tryz.func169,Tryz.ntmps169
 go_wp2;generalize w.alloc _=w0 at *
 go_loopw [18] (fun i wr=>∃k:Nat,k≤n∧i=.int .i64 k∧Hid (∀t,t<k→Ua ns t=true)∧Hid (ZX w0 wr)) (fun i _=>n - (intOf i).toNat)
 case atStart=>exact ⟨0,Zu _,rfl,(fun t ht=>by omega),ZJ⟩
 case round =>
  obtain ⟨k,hk,rfl,HA,HG⟩:=hrel;have yz:=Z3 (B0.out.trans (HG.out.mono (by omega)));have cT:=(HG.out.cell (p:=⟨w.heap.size,1,none⟩) z0).trans Z5.out
  by_cases hlt:k<n
  · have Vp:(k:Int)<(n:Int):=by omega
    have g0:(0:Int)≤(k:Int):=by omega
    have Ra:Hid (k<ns.length):=by rw [HP.out];exact hlt
    obtain ⟨c0,c1,c2,c3,c4,c5,c6,c7⟩:=(HC.out k hlt).below yz.out hb;have XN:Hid (QY (wr.alloc (.cells #[.bool (Yf ns k).del,.string (Yf ns k).nd.path,.string (Yf ns k).nd.data,.int .i64 (Yf ns k).nd.Zy,.int .i64 (Yf ns k).nd.Zw,.int .i64 (Yf ns k).nd.cz,.int .i64 (Yf ns k).nd.mz,.int .i64 (Yf ns k).nd.pz] 249)) wr.heap.size (Yf ns k)):=QY.new _ _ _;have BN:Hid (ZX wr (wr.alloc (.cells #[.bool (Yf ns k).del,.string (Yf ns k).nd.path,.string (Yf ns k).nd.data,.int .i64 (Yf ns k).nd.Zy,.int .i64 (Yf ns k).nd.Zw,.int .i64 (Yf ns k).nd.cz,.int .i64 (Yf ns k).nd.mz,.int .i64 (Yf ns k).nd.pz] 249))):=ZJ.alloc ZT _;go_wp2;clear c0 c1 c2 c3 c4 c5 c6 c7 cT;generalize wr.alloc _=wn at *;have zr:=HG.out.size;obtain ⟨B,hB⟩:∃B,B=wr.heap.size:=⟨_,rfl⟩;rw [←hB] at XN;rw [←hB];have Cl:Hid (∀W,ZX wn W→ZX w W):=fun W hW=>(YV yz.out BN.out).trans (hW.mono (ZF yz.out.size BN.out.size))
    have oO:Hid (∀W,ZX wn W→Hid (ZX w0 W)):=fun W hW=>(YV HG.out BN.out).trans (hW.mono (ZF HG.out.size BN.out.size))
    have CT:Hid (∀W,ZX wn W→W.cell? ⟨w.heap.size,1,none⟩=some (.slice (some ⟨b,o,none⟩) n cap)):=fun W hW=>((oO.out W hW).out.cell (p:=⟨w.heap.size,1,none⟩) z0).trans Z5.out
    have HE:Hid (∀q,Calls Tryz.prog 202 #[.agg #[.bool (Yf ns k).del,.string (Yf ns k).nd.path,.string (Yf ns k).nd.data,.int .i64 (Yf ns k).nd.Zy,.int .i64 (Yf ns k).nd.Zw,.int .i64 (Yf ns k).nd.cz,.int .i64 (Yf ns k).nd.mz,.int .i64 (Yf ns k).nd.pz]] (wn.drewN q) fun e w'=>e=.returned (.bool (Wl (Yf ns k)))∧Hid (ZX wn w')):=by
     intro q;refine (Pk _ (Yf ns k) (HZ.out k).2).mono ?_;rintro e w' ⟨rfl,b'⟩;exact ⟨rfl,(below_drewN' wn q).trans b'⟩
    have HD:Hid (ZX wn wn.drew):=below_drewN' wn 1;have ep:=Z3 hB;clear hB BN
    cases hok:Wl (Yf ns k) with
    | false =>
     have Ub:=Z3 hok;have HN:=Z3 (qK Ra.out (by unfold Ua;rw [hok];rfl));clear hok;refine ZH (S:=fun W=>Hid (ZX wn W)∧iO W B (Yf ns k)) (by kernel_rfl) (⟨HD,(XN.out.below HD.out).all⟩) (fun Z9=>?_);refine ZW ?_ (by kernel_rfl) (fun _=>id) Z9 ?_ ?_
     rotate_left
     · intro w9 Z0;obtain ⟨-,Z0⟩:=Z0;go_simp;try with_reducible rfl
     refine ZU 1 rfl (by kernel_rfl) (fun K hK=>?_);go_simp;refine (HE.out 1).mono ?_;rintro e w' ⟨rfl,HB⟩;rw [Ub.out];clear Z9;refine hK.out _ _ (⟨HB,(XN.out.below HB.out).all⟩) (fun Z9=>?_);clear hK K
     iterate 2 (refine ZW ?_ (by kernel_rfl) (fun _=>id) Z9 ?_ ?_;rotate_left;· intro w9 Z0;obtain ⟨-,Z0⟩:=Z0;go_simp;try with_reducible rfl)
     iterate 16 (refine MU (by kernel_rfl) (fun _=>id) Z9 ?_)
     refine ZW ?_ (by kernel_rfl) (fun _=>id) Z9 ?_ ?_
     rotate_left
     · intro w9 Z0;obtain ⟨-,Z0⟩:=Z0;go_simp;try with_reducible rfl
     refine ZP (by kernel_rfl) ?_ _
     try simp only [Act.put,Y8,Y7,Y6]
     clear Z9;go_wp2;go_ret;exact ⟨YR HN.out.symm,Cl.out _ HB.out⟩
    | true =>
     have Ub:=Z3 hok;clear hok
     cases k with
     | zero =>
      have g2:(0:Int)<(n:Int):=by omega
      have HT:Hid (Ua ns 0=true):=by show _=_;rw [Ob];exact Ub.out
      refine ZH (S:=fun W=>Hid (ZX wn W)∧iO W B (Yf ns 0)) (by kernel_rfl) (⟨HD,(XN.out.below HD.out).all⟩) (fun Z9=>?_);refine ZW ?_ (by kernel_rfl) (fun _=>id) Z9 ?_ ?_
      rotate_left
      · intro w9 Z0;obtain ⟨-,Z0⟩:=Z0;go_simp;try with_reducible rfl
      refine ZU 1 rfl (by kernel_rfl) (fun K hK=>?_);go_simp;refine (HE.out 1).mono ?_;rintro e w' ⟨rfl,HB⟩;rw [Ub.out];clear Z9;refine hK.out _ _ (⟨HB,(XN.out.below HB.out).all⟩) (fun Z9=>?_);clear hK K
      iterate 5 (refine ZW ?_ (by kernel_rfl) (fun _=>id) Z9 ?_ ?_;rotate_left;· intro w9 Z0;obtain ⟨-,Z0⟩:=Z0;go_simp;try with_reducible rfl)
      iterate 12 (refine MU (by kernel_rfl) (fun _=>id) Z9 ?_)
      iterate 2 (refine ZW ?_ (by kernel_rfl) (fun _=>id) Z9 ?_ ?_;rotate_left;· intro w9 Z0;obtain ⟨-,Z0⟩:=Z0;go_simp;try with_reducible rfl)
      refine ZP (by kernel_rfl) ?_ _
      try simp only [Act.put,Y8,Y7,Y6]
      clear Z9;go_wp2
      go_roundw
      case rel=>exact ⟨0+1,by omega,by go_num,(fun t ht=>by by_cases e:t=0;(subst e;exact HT.out);exact HA.out t (by omega)),oO.out _ HB.out⟩
      case measure=>simp [intOf];omega
     | succ j =>
      have g1:(0:Int)≤(j:Int)+1:=by omega
      have g2:(j:Int)+1<(n:Int):=by omega
      have g3:(0:Int)≤(j:Int):=by omega
      have g4:(j:Int)<(n:Int):=by omega
      have g5:(0:Int)<(j:Int)+1:=by omega
      have g6:IntKind.i64.wrap (j:Int)=(j:Int):=by rw [XK];omega
      cases hcmp:W8 (Yf ns j).nd.path (Yf ns (j+1)).nd.path with
      | true =>
       have HT:Hid (Ua ns (j+1)=true):=by show _=_;rw [Uk,Ub.out,hcmp];rfl
       have l1:Op.bytesLess (Yf ns j).nd.path.toList (Yf ns (j+1)).nd.path.toList=true:=hcmp;clear hcmp;refine ZH (S:=fun W=>Hid (ZX wn W)∧iO W B (Yf ns (j+1))∧W.cell? ⟨w.heap.size,1,none⟩=some (.slice (some ⟨b,o,none⟩) n cap)∧W.cell? ⟨b,o+j*8+1,none⟩=some (.string (Yf ns j).nd.path)) (by kernel_rfl) (⟨HD,(XN.out.below HD.out).all,(CT.out _ HD.out),((HC.out j (by omega)).below (Cl.out _ HD.out) hb).c1⟩) (fun Z9=>?_);refine ZW ?_ (by kernel_rfl) (fun _=>id) Z9 ?_ ?_
       rotate_left
       · intro w9 Z0;obtain ⟨-,Z0⟩:=Z0;go_simp;try with_reducible rfl
       refine ZU 1 rfl (by kernel_rfl) (fun K hK=>?_);go_simp;refine (HE.out 1).mono ?_;rintro e w' ⟨rfl,HB⟩;rw [Ub.out];clear Z9;refine hK.out _ _ (⟨HB,(XN.out.below HB.out).all,(CT.out _ HB.out),((HC.out j (by omega)).below (Cl.out _ HB.out) hb).c1⟩) (fun Z9=>?_);clear hK K
       iterate 19 (refine ZW ?_ (by kernel_rfl) (fun _=>id) Z9 ?_ ?_;rotate_left;· intro w9 Z0;obtain ⟨-,Z0⟩:=Z0;go_simp;try with_reducible rfl)
       refine ZP (by kernel_rfl) ?_ _
       try simp only [Act.put,Y8,Y7,Y6]
       clear Z9;go_wp2
       go_roundw
       case rel=>exact ⟨(j+1)+1,by omega,by go_num,(fun t ht=>by by_cases e:t=(j+1);(subst e;exact HT.out);exact HA.out t (by omega)),oO.out _ HB.out⟩
       case measure=>simp [intOf];omega
      | false =>
       have HN:=Z3 (qK Ra.out (by rw [Uk,hcmp,CI]));have l1:Op.bytesLess (Yf ns j).nd.path.toList (Yf ns (j+1)).nd.path.toList=false:=hcmp;clear hcmp;refine ZH (S:=fun W=>Hid (ZX wn W)∧iO W B (Yf ns (j+1))∧W.cell? ⟨w.heap.size,1,none⟩=some (.slice (some ⟨b,o,none⟩) n cap)∧W.cell? ⟨b,o+j*8+1,none⟩=some (.string (Yf ns j).nd.path)) (by kernel_rfl) (⟨HD,(XN.out.below HD.out).all,(CT.out _ HD.out),((HC.out j (by omega)).below (Cl.out _ HD.out) hb).c1⟩) (fun Z9=>?_);refine ZW ?_ (by kernel_rfl) (fun _=>id) Z9 ?_ ?_
       rotate_left
       · intro w9 Z0;obtain ⟨-,Z0⟩:=Z0;go_simp;try with_reducible rfl
       refine ZU 1 rfl (by kernel_rfl) (fun K hK=>?_);go_simp;refine (HE.out 1).mono ?_;rintro e w' ⟨rfl,HB⟩;rw [Ub.out];clear Z9;refine hK.out _ _ (⟨HB,(XN.out.below HB.out).all,(CT.out _ HB.out),((HC.out j (by omega)).below (Cl.out _ HB.out) hb).c1⟩) (fun Z9=>?_);clear hK K
       iterate 19 (refine ZW ?_ (by kernel_rfl) (fun _=>id) Z9 ?_ ?_;rotate_left;· intro w9 Z0;obtain ⟨-,Z0⟩:=Z0;go_simp;try with_reducible rfl)
       refine ZP (by kernel_rfl) ?_ _
       try simp only [Act.put,Y8,Y7,Y6]
       clear Z9;go_wp2;go_ret;exact ⟨YR HN.out.symm,Cl.out _ HB.out⟩
  have HY:Hid (Qh ns=true):=yl (fun t ht=>HA.out t (by rw [HP.out] at ht;omega));go_wp2;go_ret;exact ⟨YR HY.out.symm,yz.out⟩
theorem Iv (w:World) (z:Int) (ao:Option Addr) (cap:Nat) (hz1:¬z<1) (hz2:¬2147483647<z) :
    Calls Tryz.prog 169 #[.agg #[.int .i64 z,.slice ao 0 cap]] w (YI w (.bool true)):=by
 go_enter Tryz.func169,Tryz.ntmps169
 go_wp2
 go_rounds 1
 go_ret;exact ⟨rfl,ZJ.alloc ZT _⟩
theorem Fo (w:World) (z:Int) (ao:Option Addr) (n cap:Nat) (h:z<1∨2147483647<z∨1000<n) :
    Calls Tryz.prog 169 #[.agg #[.int .i64 z,.slice ao n cap]] w (YI w (.bool false)):=by
 by_cases h1:z<1
 · clear h
   go_enter Tryz.func169,Tryz.ntmps169
   go_wp2;go_ret;exact ⟨rfl,ZJ.alloc ZT _⟩
 by_cases h2:2147483647<z
 · clear h
   go_enter Tryz.func169,Tryz.ntmps169
   go_wp2;go_ret;exact ⟨rfl,ZJ.alloc ZT _⟩
 have h3:(1000:Int)<(n:Int):=by omega
 clear h
 go_enter Tryz.func169,Tryz.ntmps169
 go_wp2;go_ret;exact ⟨rfl,ZJ.alloc ZT _⟩
theorem Tp (w:World) (z:Int) (v:Value) (ns:List Ef) (h:IJ w v ns) (hsz:∀i,(Yf ns i).nd.path.size≤1048576∧(Yf ns i).nd.data.size≤1048576) :
    Calls Tryz.prog 169 #[.agg #[.int .i64 z,v]] w (YI w (.bool (WP z ns))):=by
 obtain ⟨ao,cap,rfl,k1,k2,k3⟩:=h
 by_cases hl:z<1∨2147483647<z∨1000<ns.length
 · have:WP z ns=false:=by
    unfold WP
    rcases hl with hl | hl | hl
    · rw [YW (show ¬1≤z by omega)];rfl
    · rw [YW (show ¬z≤2147483647 by omega)];simp
    rw [YW (show ¬ns.length≤1000 by omega)];simp
   rw [this];exact Fo w z ao ns.length cap hl
 have:WP z ns=Qh ns:=by unfold WP;rw [Y3 (show 1≤z by omega),Y3 (show z≤2147483647 by omega),Y3 (show ns.length≤1000 by omega)];rfl
 rw [this]
 rcases k3 with rfl | ⟨b,o,rfl,hb,hc⟩
 · exact Iv w z ao cap (by omega) (by omega)
 exact Iw w z b o ns.length cap ns (by omega) (by omega) rfl (by omega) hb hsz hc
theorem Oa:∀x y z:List UInt8,Op.bytesLess x y=true→Op.bytesLess y z=true→Op.bytesLess x z=true
 | [],[],_=>by simp [Op.bytesLess]
 | _ :: _,[],_=>by simp [Op.bytesLess]
 | _,_ :: _,[]=>by simp [Op.bytesLess]
 | [],_ :: _,_ :: _=>by simp [Op.bytesLess]
 | a :: x,b :: y,c :: z=>by
  unfold Op.bytesLess;intro h1 h2;have ih:=Oa x y z
  simp only [Ab,Yg,Yt,ZK] at h1 h2 ⊢
  rcases h1 with h1 | ⟨rfl,h1⟩
  · rcases h2 with h2 | ⟨rfl,h2⟩
    · exact .inl (UInt8.lt_trans h1 h2)
    exact .inl h1
  rcases h2 with h2 | ⟨rfl,h2⟩
  · exact .inl h2
  exact .inr ⟨rfl,ih h1 h2⟩
theorem VY {b c:ByteArray} (h1:W8 a b=true) (h2:W8 b c=true):W8 a c=true:=Oa _ _ _ h1 h2
theorem NZ {b:ByteArray} (h:W8 a b=true):(a.toList == b.toList)=false:=by
 have:=(KY h).2;rw [Bool.eq_false_iff] at this ⊢;intro e;exact this (by rw [ZK] at e ⊢;exact e.symm)
theorem Ci {b:ByteArray} (h:W8 b a=true):(a.toList == b.toList)=false:=(KY h).2
theorem LQ {b:ByteArray} (h:W8 a b=true):W8 b a=false:=(KY h).1
theorem LP {b:ByteArray} (h:W8 a b=false) (hne:(a.toList == b.toList)=false):W8 b a=true:=by
 rcases oP h with h1 | ⟨_,h1⟩
 · exact h1
 rw [ZK] at h1;rw [h1] at hne
 simp at hne
theorem Dx (a b:ByteArray):(Ts a b<0)↔W8 a b=true:=by
 unfold Ts W8;rw [yw,Sf,Sf]
theorem Dw (a b:ByteArray):(Ts a b == 0)=(a.toList == b.toList):=by
 have h:Ts a b=0↔a.toList=b.toList:=by
  unfold Ts;rw [DC,Sf,Sf]
 rw [pW,ZK,ZK];exact h
def Asc (ns:List Nd):Prop:=ns.Pairwise fun a b=>W8 a.path b.path=true
def Ch (es:List Ef):Prop:=es.Pairwise fun a b=>W8 a.nd.path b.nd.path=true
theorem Fm {α:Type} (f:α→ByteArray):∀(l:List α),(∀j (h:j+1<l.length),W8 (f l[j]) (f l[j+1])=true)→l.Pairwise fun a b=>W8 (f a) (f b)=true
 | [],_=>List.Pairwise.nil
 | [a],_=>by simp
 | a :: b :: l,h=>by
  have ih:=Fm f (b :: l) (fun j hj=>h (j+1) (by simp at hj ⊢;omega));refine List.Pairwise.cons (fun c hc=>?_) ih;have hab:W8 (f a) (f b)=true:=h 0 (by simp)
  rcases Yz.1 hc with rfl | hc
  · exact hab
  exact VY hab ((List.pairwise_cons.1 ih).1 c hc)
theorem NY (h:YY ns=true):Asc ns:=by
 unfold YY Xk at h
 simp only [Yg,Se,UT] at h
 refine Fm (fun n=>n.path) ns fun j hj=>?_
 have:=h.2 (j+1) hj;rw [SW] at this
 simp only [Yg] at this
 have h2:=this.2;rw [YZ (show j<ns.length by omega),YZ hj] at h2;exact h2
theorem yk (h:Qh es=true):Ch es:=by
 unfold Qh at h
 simp only [Se,UT] at h
 refine Fm (fun n=>n.nd.path) es fun j hj=>?_
 have:=h (j+1) hj;rw [Uk] at this
 simp only [Yg] at this
 have h2:=this.2;rw [Q3 (show j<es.length by omega),Q3 hj] at h2;exact h2
theorem Iu (h:WP z es=true):Qh es=true∧es.length≤1000:=by
 unfold WP at h
 simp only [Yg,Yt] at h
 exact ⟨h.2,h.1.2⟩
def WZ (r:List Nd) (p:ByteArray):Nat:=(r.takeWhile fun m=>W8 m.path p).length
def KI (r:List Nd) (p:ByteArray):Nat:=if Q1 r p (WZ r p) then 1 else 0
theorem It (r:List Nd) (p:ByteArray):r.take (WZ r p)=r.takeWhile fun m=>W8 m.path p:=by
 unfold WZ
 induction r with
 | nil=>rfl
 | cons a r ih =>
  rw [Eb]
  split
  · simp [ih]
  simp
theorem yj (r:List Nd) (p:ByteArray):r.drop (WZ r p)=r.dropWhile fun m=>W8 m.path p:=by
 unfold WZ
 induction r with
 | nil=>rfl
 | cons a r ih =>
  rw [Eb,List.dropWhile_cons]
  split
  · simp [ih]
  simp
theorem RO (r:List Nd) (p:ByteArray):WZ r p≤r.length:=by
 have:=ZR List.length (It r p);rw [XU] at this;unfold WZ at this ⊢;omega
theorem NW (r:List Nd) (p:ByteArray):∀a ∈ r.take (WZ r p),W8 a.path p=true:=by
 rw [It]
 induction r with
 | nil=>simp
 | cons b r ih =>
  rw [Eb]
  split
  · rename_i hb
    intro a ha
    rcases Yz.1 ha with rfl | ha
    · exact hb
    exact ih a ha
  simp
theorem KG:∀(r:List Nd) (p:ByteArray),Asc r→∀a ∈ r.drop (WZ r p),W8 a.path p=false:=by
 intro r p h a ha;rw [yj] at ha
 induction r with
 | nil=>simp at ha
 | cons b r ih =>
  rw [List.dropWhile_cons] at ha
  split at ha
  · exact ih (List.pairwise_cons.1 h).2 ha
  rename_i hb;have hb':W8 b.path p=false:=by simpa using hb
  rcases Yz.1 ha with rfl | ha
  · exact hb'
  have Co:=(List.pairwise_cons.1 h).1 a ha
  cases hc:W8 a.path p with
  | false=>rfl
  | true=>rw [VY Co hc] at hb';exact absurd hb' (by simp)
theorem Dv (r:List Nd) (p:ByteArray) (h:Asc r):Low r p (WZ r p):=by
 refine ⟨RO r p,fun i hi=>?_,fun i hi hl=>?_⟩
 · rw [Dx]
   have hl:=ZL hi (RO r p);refine NW r p _ ?_;rw [YZ hl];exact List.mem_take_iff_getElem.2 ⟨i,by omega,rfl⟩
 rw [Dx,KG r p h]
 · simp
 rw [YZ hl];exact List.mem_drop_iff_getElem.2 ⟨i - WZ r p,by omega,by congr 1;omega⟩
theorem NV {r:List Nd} (h:Asc r) (k:Nat):Asc (r.drop k):=um (List.drop_sublist k r) h
theorem tx (D:List Nd) (p:ByteArray) (h:Asc D) (hn:∀a ∈ D,W8 a.path p=false):QZ D p=D.drop (if (decide (0<D.length) && ((ZC D 0).path.toList == p.toList)) then 1 else 0):=by
 cases D with
 | nil=>rfl
 | cons b D =>
  have hr:∀a ∈ D,(a.path.toList == p.toList)=false:=by
   intro a ha;have h1:=(List.pairwise_cons.1 h).1 a ha;have h2:=hn b (by simp)
   cases hc:a.path.toList == p.toList with
   | false=>rfl
   | true =>
    rw [ZK] at hc;unfold W8 at h1 h2;rw [hc] at h1;rw [h1] at h2;exact absurd h2 (by simp)
  have hf:QZ D p=D:=by
   unfold QZ;rw [List.filter_eq_self];intro a ha;rw [hr a ha]
   rfl
  have e0:ZC (b :: D) 0=b:=rfl;rw [e0];unfold QZ at hf ⊢;rw [pJ]
  cases hc:b.path.toList == p.toList with
  | true=>simp [hf]
  | false=>simp [hf]
theorem KF (r:List Nd) (p:ByteArray):KI r p=if (decide (0<(r.drop (WZ r p)).length) && ((ZC (r.drop (WZ r p)) 0).path.toList == p.toList)) then 1 else 0:=by
 unfold KI Q1;rw [Dw,Zd];have e:ZC (r.drop (WZ r p)) 0=ZC r (WZ r p):=by unfold ZC;simp [List.getD]
 rw [e];have e2:decide (WZ r p<r.length)=decide (0<r.length - WZ r p):=by rw [DU];omega
 rw [e2]
theorem yi (r:List Nd) (p:ByteArray):KI r p≤1∧WZ r p+KI r p≤r.length:=by
 have h:=RO r p;rw [KF]
 split
 · rename_i hc
   simp only [Yg,Yt,Zd] at hc
   omega
 omega
theorem KE (r:List Nd) (p:ByteArray) (h:Asc r):QZ (r.drop (WZ r p)) p=r.drop (WZ r p+KI r p):=by
 rw [tx _ p (NV h _) (KG r p h),←KF,Rz]
theorem yh (A:List Nd) (p:ByteArray) (h:∀a ∈ A,W8 a.path p=true):QZ A p=A:=by
 unfold QZ;rw [List.filter_eq_self];intro a ha;rw [NZ (h a ha)]
 rfl
theorem SU (A B:List Nd) (p:ByteArray):QZ (A++B) p=QZ A p++QZ B p:=by unfold QZ;rw [List.filter_append]
theorem Fl (A r:List Nd) (p:ByteArray) (hA:∀a ∈ A,W8 a.path p=true) (h:Asc r):QZ (A++r) p=A++r.take (WZ r p)++r.drop (WZ r p+KI r p):=by
 conv=>lhs;rw [←VC (WZ r p) r]
 rw [SU,SU,yh A p hA,yh _ p (NW r p),KE r p h,YM]
theorem ye (n:Nd):∀(A X:List Nd),(∀a ∈ A,W8 a.path n.path=true)→A.foldl (JG n) (X,false)=(X++A,false)
 | [],X,_=>by simp
 | a :: A,X,h=>by
  have ha:=h a (by simp);have e:JG n (X,false) a=(X++[a],false):=by
   have h1:Op.bytesLess a.path.toList n.path.toList=true:=ha;unfold JG;rw [NZ ha,h1]
   rfl
  rw [Jw,e,ye n A _ (fun b hb=>h b (Yl _ hb))]
  simp
theorem Du (n:Nd):∀(A X:List Nd),(A.foldl (JG n) (X,true))=(X++QZ A n.path,true)
 | [],X=>by simp [QZ]
 | a :: A,X=>by
  have e:JG n (X,true) a=(X++QZ [a] n.path,true):=by
   unfold JG QZ;rw [pJ]
   cases hc:a.path.toList == n.path.toList <;> simp
  rw [Jw,e,Du n A,show a :: A=[a]++A from rfl,SU,YM]
theorem tu (n:Nd) (D X:List Nd) (hn:∀a ∈ D,W8 a.path n.path=false) :
    (let f:=D.foldl (JG n) (X,false);if f.2 then f.1 else f.1++[n])=X++n :: QZ D n.path:=by
 cases D with
 | nil=>simp [QZ]
 | cons b D =>
  have hb:Op.bytesLess b.path.toList n.path.toList=false:=hn b (by simp);have e:JG n (X,false) b=(X++n :: QZ [b] n.path,true):=by
   unfold JG QZ;rw [hb,pJ]
   cases hc:b.path.toList == n.path.toList <;> simp
  have e2:(b :: D).foldl (JG n) (X,false)=(X++n :: QZ (b :: D) n.path,true):=by
   rw [Jw,e,Du,show b :: D=[b]++D from rfl,SU]
   simp
  simp only [e2,Uc]
theorem NU (A r:List Nd) (n:Nd) (hA:∀a ∈ A,W8 a.path n.path=true) (h:Asc r):Pl (A++r) n=A++r.take (WZ r n.path)++n :: r.drop (WZ r n.path+KI r n.path):=by
 unfold Pl qM
 conv=>lhs;rw [←VC (WZ r n.path) r]
 rw [←YM,zY,ye n (A++r.take (WZ r n.path)) [] (by
  intro a ha
  rcases XP.1 ha with ha | ha
  · exact hA a ha
  exact NW r _ a ha)]
 have:=tu n (r.drop (WZ r n.path)) ([]++(A++r.take (WZ r n.path))) (KG r _ h)
 simp only at this
 rw [this,KE r _ h]
 simp
def Gb (st:List Nd × List Nd) (e:Ef):List Nd × List Nd :=
 (st.1++st.2.take (WZ st.2 e.nd.path)++(if e.del then [] else [e.nd]),st.2.drop (WZ st.2 e.nd.path+KI st.2 e.nd.path))
def OZ (ns:List Nd) (es:List Ef):List Nd × List Nd:=es.foldl Gb ([],ns)
def Ga (ns:List Nd) (e:Ef):List Nd:=if e.del then QZ ns e.nd.path else Pl ns e.nd
def Dt (ns:List Nd) (es:List Ef):List Nd:=es.foldl Ga ns
theorem ts (st:List Nd × List Nd) (e:Ef) (hA:∀a ∈ st.1,W8 a.path e.nd.path=true) (h:Asc st.2):Ga (st.1++st.2) e=(Gb st e).1++(Gb st e).2:=by
 unfold Ga Gb
 cases e.del with
 | true=>simp [Fl _ _ _ hA h]
 | false=>simp [NU _ _ _ hA h]
theorem qJ:∀(es:List Ef) (st:List Nd × List Nd),Ch es→(∀a ∈ st.1,∀e ∈ es,W8 a.path e.nd.path=true)→Asc st.2 →
    (es.foldl Gb st).1++(es.foldl Gb st).2=es.foldl Ga (st.1++st.2)
 | [],_,_,_,_=>rfl
 | e :: es,st,h,hA,hr=>by
  have h':=List.pairwise_cons.1 h;rw [Jw,Jw,ts st e (fun a ha=>hA a ha e (by simp)) hr];refine qJ es (Gb st e) h'.2 (fun a ha f hf=>?_) (NV hr _);have hef:=h'.1 f hf;unfold Gb at ha
  rcases XP.1 ha with ha | ha
  · rcases XP.1 ha with ha | ha
    · exact hA a ha f (Yl _ hf)
    exact VY (NW _ _ a ha) hef
  split at ha
  · simp at ha
  rw [Ed] at ha;rw [ha];exact hef
theorem oD (h:Asc ns) (he:Ch es):(OZ ns es).1++(OZ ns es).2=Dt ns es:=qJ es ([],ns) he (fun a ha=>by simp at ha) h
theorem Is (ns:List Nd) (es:List Ef) (k:Nat) (h:k<es.length):OZ ns (es.take (k+1))=Gb (OZ ns (es.take k)) (Yf es k):=by
 unfold OZ;rw [TL h,zY,Q3 h]
 rfl
theorem tr (st:List Nd × List Nd) (e:Ef):(Gb st e).1.length+(Gb st e).2.length≤st.1.length+st.2.length+1:=by
 unfold Gb;have h:=RO st.2 e.nd.path
 simp only [ZA,XU,Zd]
 split <;> simp <;> omega
theorem Ds:∀(ns:List Nd) (es:List Ef) (k:Nat),(OZ ns (es.take k)).1.length+(OZ ns (es.take k)).2.length≤ns.length+k
 | ns,es,0=>by simp [OZ]
 | ns,es,k+1=>by
  have ih:=Ds ns es k
  by_cases h:k<es.length
  · rw [Is ns es k h]
    have:=tr (OZ ns (es.take k)) (Yf es k);omega
  rw [Wv (by omega)] at ih ⊢;omega
theorem tq (h:Asc ns) (es:List Ef):Asc (OZ ns es).2:=by
 unfold OZ;have:∀(es:List Ef) (st:List Nd × List Nd),Asc st.2→Asc (es.foldl Gb st).2:=by
  intro es
  induction es with
  | nil=>exact fun st h=>h
  | cons e es ih=>exact fun st h=>by rw [Jw];exact ih _ (NV h _)
 exact this es _ h
theorem tp (h:Asc ns) (he:Ch es) (hk:es.length=k):(OZ ns (es.take k)).1++(OZ ns (es.take k)).2=Dt ns es:=by
 rw [Wv (by omega)];exact oD h he
def TQ (ns:List Nd) (z:Int) (es:List Ef):List Nd:=if YY ns && WP z es then Dt ns es else []
def yd (w:World) (B:Nat) (t:TypeId) (z:Int) (v:Value):Prop:=w.heap[B]?=some (.cells #[.int .i64 z,v] t (0,0))
theorem yd.lt (h:yd w B t z v):B<w.heap.size:=(Yh.1 h).1
theorem yd.new (w:World) (t:TypeId) (z:Int) (v:Value):yd (w.alloc (.cells #[.int .i64 z,v] t)) w.heap.size t z v:=Y9 w _
theorem yd.later (hb:ZX w w') (h:yd w B t z v):yd w' B t z v:=(hb.block _ h.lt).trans h
theorem yd.cells (h:yd w B t z v):w.cell? ⟨B,0,none⟩=some (.int .i64 z)∧w.cell? ⟨B,1,none⟩=some v:=⟨(cell_of h _).trans rfl,(cell_of h _).trans rfl⟩
structure uI (s:Nat) (v:Value) (z:Int) (vx:Value) (W:World):Prop where
 t:Boxed W s 63 v
 x:yd W (s+1) 192 z vx
 r:Boxed W (s+2) 63 (.slice none 0 0)
theorem uI.new (w:World) (v:Value) (z:Int) (vx:Value):uI w.heap.size v z vx (((w.alloc (.cells #[v] 63)).alloc (.cells #[.int .i64 z,vx] 192)).alloc (.cells #[.slice none 0 0] 63)):=by
 have s1:(w.alloc (.cells #[v] 63)).heap.size=w.heap.size+1:=by simp
 have s2:((w.alloc (.cells #[v] 63)).alloc (.cells #[.int .i64 z,vx] 192)).heap.size=w.heap.size+2:=by simp
 have h2:=yd.new (w.alloc (.cells #[v] 63)) 192 z vx;rw [s1] at h2;have h3:=Boxed.new ((w.alloc (.cells #[v] 63)).alloc (.cells #[.int .i64 z,vx] 192)) 63 (.slice none 0 0);rw [s2] at h3;exact ⟨((Boxed.new w _ _).alloc _).alloc _,h2.later (ZJ.alloc ZT _),h3⟩
theorem uI.below {m:Nat} (h:uI s v z vx W) (hb:Below m W W') (hm:s+3≤m):uI s v z vx W' :=
 ⟨(hb.block _ (by omega)).trans h.t,(hb.block _ (by omega)).trans h.x,(hb.block _ (by omega)).trans h.r⟩
theorem uI.size (h:uI s v z vx W):s+3≤W.heap.size:=by have:=h.r.lt;omega
theorem Of.new (w:World) (o:Obj) (n:Nd):Of ((w.alloc o).alloc (.cells #[.string n.path,.string n.data,.int .i64 n.Zy,.int .i64 n.Zw,.int .i64 n.cz,.int .i64 n.mz,.int .i64 n.pz] 149)) (w.heap.size+1) n:=by
 have:=Y9 (w.alloc o) (.cells #[.string n.path,.string n.data,.int .i64 n.Zy,.int .i64 n.Zw,.int .i64 n.cz,.int .i64 n.mz,.int .i64 n.pz] 149);rw [show (w.alloc o).heap.size=w.heap.size+1 by simp] at this;exact ⟨⟨_,_,_,this,by decide⟩,(cell_of this _).trans rfl,(cell_of this _).trans rfl,(cell_of this _).trans rfl,(cell_of this _).trans rfl,(cell_of this _).trans rfl,(cell_of this _).trans rfl,(cell_of this _).trans rfl⟩
theorem Ir (w:World) (b o n cap:Nat) (ns:List Nd) (hp:ns.length=n) (hb:b<w.heap.size) (hc:∀i,i<n→Xq w b (o+i*7) (ZC ns i)) (hR:Wx w (.slice (some ⟨b,o,none⟩) n cap) ns)
    (hsz:∀i,(ZC ns i).path.size≤1048576∧(ZC ns i).data.size≤1048576) :
    Calls Tryz.prog 46 #[.agg #[.slice (some ⟨b,o,none⟩) n cap]] w fun e w'=>∃v',e=.returned v'∧Own .u8 5 w' w.heap.size v' (PE ns)∧ZX w w':=by
 have HC:Hid (∀i,i<n→Xq w b (o+i*7) (ZC ns i)):=hc;have HP:Hid (ns.length=n):=hp;have HR:Hid (Wx w (.slice (some ⟨b,o,none⟩) n cap) ns):=hR;have HZ:Hid (∀i,(ZC ns i).path.size≤1048576∧(ZC ns i).data.size≤1048576):=hsz;have B0:Hid (ZX w (w.alloc (.cells #[.slice (some ⟨b,o,none⟩) n cap] 63))):=ZJ.alloc ZT _;have X0:Hid (Boxed (w.alloc (.cells #[.slice (some ⟨b,o,none⟩) n cap] 63)) w.heap.size 63 (.slice (some ⟨b,o,none⟩) n cap)):=Boxed.new _ _ _;clear hc hp hR hsz
 go_enter Tryz.func46,Tryz.ntmps46
 go_wp2_with fail
 generalize w.alloc _=w0 at *;refine (XE _ _ ns (HR.out.below B0.out) HZ.out).mono ?_;rintro e w1 ⟨rfl,b1⟩;have B1:=Z3 (YV B0.out b1);have X1:Hid (Boxed w1 w.heap.size 63 (.slice (some ⟨b,o,none⟩) n cap)):=XL b1 X0.out;clear b1 X0 B0
 by_cases hok:YY ns=true
 rotate_left
 · have hok':YY ns=false:=by simpa using hok
   have HT:Hid (PE ns=[]):=by show _=_;unfold PE;rw [Z1 hok]
   rw [hok'];clear hok hok';go_wp2;go_ret;exact ⟨_,rfl,(by rw [HT.out];exact Zl _ _ _ _),B1.out⟩
 have hn:n≤1000:=by have:=RQ hok;rw [HP.out] at this;exact this
 have HT:Hid (PE ns=Zi ns):=by show _=_;unfold PE;rw [ZZ hok]
 have Ub:Hid (∀k,k<n→YL (ZC ns k)=true):=fun k hk=>Qk hok k (by rw [HP.out];exact hk)
 have To:Hid (∀k,k≤n→(Zi (ns.take k)).length≤k*188):=fun k hk=>Oi (Qk hok) k (by rw [HP.out];exact hk)
 rw [hok];clear hok;have c0:=X1.out.cell;go_wp2
 go_loopw [3,13] (fun vi vk wr=>∃k:Nat,k≤n∧vk=.int .i64 k∧Hid (Own .u8 5 wr w.heap.size vi (Zi (ns.take k)))∧Hid (ZX w wr)) (fun _ i _=>n - (intOf i).toNat)
 case atStart=>exact ⟨0,Zu _,rfl,Zl _ _ _ _,B1⟩
 case round =>
  clear c0;obtain ⟨k,hk,rfl,HW,HB⟩:=hrel;have sB:=HB.out.size
  by_cases hlt:k<n
  · have Vp:(k:Int)<(n:Int):=by omega
    obtain ⟨c0,c1,c2,c3,c4,c5,c6⟩:=(HC.out k hlt).below HB.out hb
    go_wp2_with fail
    clear c0 c1 c2 c3 c4 c5 c6;refine (Tr _ w.heap.size u3 (Zi (ns.take k)) (wr.heap.size+1) (ZC ns k) ?e1 ?e2 ?e3 ?e4 (Ub.out k hlt)).mono ?_
    case e1=>exact (HW.out.below (ZJ.alloc ZT _)).below (ZJ.alloc ZT _)
    case e2=>simp;omega
    case e3=>have:=To.out k hk;omega
    case e4=>exact Of.new _ _ _
    rintro e w4 ⟨v4,rfl,o4,b4,-⟩;have O4:Hid (Own .u8 5 w4 w.heap.size v4 (Zi (ns.take (k+1)))):=by
     rw [PF ns k (by rw [HP.out];exact hlt)] at o4;exact o4
    have B4:Hid (ZX w w4):=((HB.out.alloc sB _).alloc (by simp;omega) _).trans b4;clear o4 b4 HW HB;go_wp2;exact ⟨⟨k+1,by omega,by go_num,O4,B4⟩,by simp [intOf];omega⟩
  have hkn:k=n:=by omega
  subst hkn;go_wp2;go_ret;refine ⟨_,rfl,?_,HB.out⟩;rw [HT.out,←Fu ns k (by rw [HP.out];exact ZT)];exact HW.out
theorem Iq (w:World) (ao:Option Addr) (cap:Nat) (hc:cap≤maxLen) :
    Calls Tryz.prog 46 #[.agg #[.slice ao 0 cap]] w fun e w'=>∃v',e=.returned v'∧Own .u8 5 w' w.heap.size v' []∧ZX w w':=by
 have HR:Hid (Wx w (.slice ao 0 cap) []):=⟨ao,cap,rfl,Zu _,hc,.inl rfl⟩;have B0:Hid (ZX w (w.alloc (.cells #[.slice ao 0 cap] 63))):=ZJ.alloc ZT _;have X0:Hid (Boxed (w.alloc (.cells #[.slice ao 0 cap] 63)) w.heap.size 63 (.slice ao 0 cap)):=Boxed.new _ _ _
 go_enter Tryz.func46,Tryz.ntmps46
 go_wp2_with fail
 generalize w.alloc _=w0 at *;refine (XE _ _ [] (HR.out.below B0.out) (fun i=>by simp [ZC,nd0])).mono ?_;rintro e w1 ⟨rfl,b1⟩;have B1:=Z3 (YV B0.out b1);have X1:Hid (Boxed w1 w.heap.size 63 (.slice ao 0 cap)):=XL b1 X0.out;clear b1 X0 B0;rw [show YY []=true from rfl];have c0:=X1.out.cell;go_wp2
 go_rounds 1
 go_ret;exact ⟨_,rfl,Zl _ _ _ _,B1.out⟩
theorem Ip (w:World) (v:Value) (ns:List Nd) (h:Wx w v ns) (hsz:∀i,(ZC ns i).path.size≤1048576∧(ZC ns i).data.size≤1048576) :
    Calls Tryz.prog 46 #[.agg #[v]] w fun e w'=>∃v',e=.returned v'∧Own .u8 5 w' w.heap.size v' (PE ns)∧ZX w w':=by
 have h0:=h;obtain ⟨ao,cap,rfl,h1,h2,h3⟩:=h
 rcases h3 with rfl | ⟨b,o,rfl,hb,hc⟩
 · exact Iq w ao cap h2
 exact Ir w b o ns.length cap ns rfl hb hc h0 hsz
def KD (e:Ef):Int:=if e.del then 2 else 1
def SL (e:Ef):List Int:=if e.del then [2]++MR e.nd.path else [1]++Yi e.nd
def Wz (es:List Ef):List Int:=es.flatMap SL
def XX (z:Int) (es:List Ef):List Int:=if WP z es then Zk z.toNat 4++Zk es.length 2++Wz es else []
theorem NT (h:Wl e=true):YL e.nd=true:=by
 unfold Wl at h
 simp only [Yg] at h
 exact h.1
theorem yb (h:Wl e=true):(SL e).length≤189∧0<(SL e).length:=by
 have h1:=Xj (NT h);unfold SL
 split
 · rw [ZA,Q2];simp;omega
 rw [ZA,Wb];simp;omega
theorem NS (es:List Ef) (k:Nat) (h:k<es.length):Wz (es.take k)++SL (Yf es k)=Wz (es.take (k+1)):=by
 unfold Wz;rw [TL h,MY,Q3 h]
 simp
theorem Cg (es:List Ef) (k:Nat) (h:es.length≤k):Wz (es.take k)=Wz es:=by rw [Wv h]
theorem LO (h:∀k,k<es.length→Wl (Yf es k)=true):∀k,k≤es.length→(Wz (es.take k)).length≤k*189
 | 0,_=>by simp [Wz]
 | k+1,hk=>by
  have h1:=LO h k (by omega);have h2:=yb (h k (by omega));rw [←NS es k (by omega),ZA];omega
theorem Qg (h:WP z es=true):1≤z∧z≤2147483647∧es.length≤1000∧∀k,k<es.length→Wl (Yf es k)=true:=by
 unfold WP Qh at h
 simp only [Yg,Yt] at h
 refine ⟨h.1.1.1,h.1.1.2,h.1.2,fun k hk=>?_⟩;have:=Se.1 h.2 k (by simpa using hk);unfold Ua at this
 simp only [Yg] at this
 exact this.1
def uH (w:World) (b:Nat) (e:Ef):Prop:=Of w b e.nd∧w.cell? ⟨b,7,none⟩=some (.int .u8 (KD e))
theorem uH.keep (h:uH w b e) (hk:KT 5 w w'):uH w' b e:=by
 obtain ⟨A,t,f,h1,h2⟩:=h.1.1;exact ⟨h.1.keep hk,(hk.cell h1 h2 7).trans h.2⟩
theorem Io (w:World) (e:Ef) :
    Calls Tryz.prog 170 #[.agg #[.bool e.del,.string e.nd.path,.string e.nd.data,.int .i64 e.nd.Zy,.int .i64 e.nd.Zw,.int .i64 e.nd.cz,.int .i64 e.nd.mz,.int .i64 e.nd.pz]] w fun r w' =>
     r=.returned (.agg #[.string e.nd.path,.string e.nd.data,.int .i64 e.nd.Zy,.int .i64 e.nd.Zw,.int .i64 e.nd.cz,.int .i64 e.nd.mz,.int .i64 e.nd.pz,.int .u8 (KD e)])∧ZX w w':=by
 have HB:Hid (∀o1 o2,ZX w ((w.alloc o1).alloc o2)):=fun o1 o2=>(ZJ.alloc ZT _).alloc (by simp) _
 go_enter Tryz.func170,Tryz.ntmps170
 obtain ⟨del,nd⟩:=e
 cases del with
 | true =>
  go_wp2;refine ZS (v:=.agg #[.string nd.path,.string nd.data,.int .i64 nd.Zy,.int .i64 nd.Zw,.int .i64 nd.cz,.int .i64 nd.mz,.int .i64 nd.pz,.int .u8 2]) (by simp [results,Tryz.results170,go_sem]) rfl ⟨rfl,HB.out _ _⟩
 | false =>
  go_wp2;refine ZS (v:=.agg #[.string nd.path,.string nd.data,.int .i64 nd.Zy,.int .i64 nd.Zw,.int .i64 nd.cz,.int .i64 nd.mz,.int .i64 nd.pz,.int .u8 1]) (by simp [results,Tryz.results170,go_sem]) rfl ⟨rfl,HB.out _ _⟩
theorem Fk (w:World) (base:Nat) (v:Value) (xs:List Int) (b:Nat) (n:Ef) (h:Own .u8 5 w base v xs) (hb:base≤w.heap.size) (hl:xs.length≤900000) (hx:uH w b n) (hn:Wl n=true) :
    Calls Tryz.prog 171 #[.pointer (some ⟨b,0,none⟩),v] w fun e w'=>∃v',e=.returned v'∧Own .u8 5 w' base v' (xs++SL n)∧Below base w w'∧KT 5 w w':=by
 obtain ⟨i0,hi,hz0,hz1,hz2⟩:=Yq Tryz.Vh;have hnd:=NT hn;have hpz:=(Xj hnd).1;have HN:Hid (YL n.nd=true):=hnd;have HX:Hid (uH w b n):=hx;have HO:Hid (w.ownsRow base 5 1 v xs.length (xs.map (Value.int .u8))):=h;have HE:Hid ((n.del=true∧KD n=2∧SL n=[2]++MR n.nd.path)∨(n.del=false∧KD n=1∧SL n=[1]++Yi n.nd)):=by
  show _∨_;unfold KD SL
  cases n.del with
  | true=>exact .inl ⟨rfl,rfl,rfl⟩
  | false=>exact .inr ⟨rfl,rfl,rfl⟩
 clear h hx hn hnd;have c7:=HX.out.2
 rcases HE.out with ⟨-,e2,e3⟩ | ⟨-,e2,e3⟩
 · have L:Hid (SL n=[2]++MR n.nd.path):=e3
   have HE2:Hid (KD n=2):=e2;rw [e2] at c7;clear e2 e3 HE
   go_enter Tryz.func171,Tryz.ntmps171
   go_wp2_with (at_builtin;go_must (refine UF _ rfl _ _ 22 rfl base 5 i0 (.int .u8 0) 1 1 Tryz.underlying22 hi hz0 hz1 hz2 rfl (by decide) _ _ _ rfl (Mk HO.out _) ⟨w.heap.size,0,none⟩ 1 1 [.int .u8 2] rfl rfl (Vx _ _ _) (by intro u hu;simp at hu;subst hu;rfl) ?c3 ?c4 ?c5 ?_))
   case c3=>unfold maxLen;omega
   case c4=>omega
   case c5=>simp;omega
   intro v2 w2 ho2 hg2 _;have O2:Hid (Own .u8 5 w2 base v2 (xs++[2])):=by
    refine Vg (q:=xs.length+1) (ys:=xs++[2]) (by simp) rfl ?_;rw [Wn];exact ho2
   have B2:Hid (Below base w w2):=(ZJ.alloc hb _).grown hg2 (by simp;omega) (fun q hq=>(ZD HO.out q hq).1);have K2:Hid (KT 5 w w2):=((KT.refl _ _).alloc _).grown (HO.out.alloc _) hg2;have X2:Hid (uH w2 b n):=HX.out.keep K2.out;have s2:=B2.out.size;clear ho2 hg2 c7;have c7:=X2.out.2;rw [HE2.out] at c7;obtain ⟨d0,-,-,-,-,-,-⟩:=X2.out.1.2
   go_wp2_with fail
   refine (Um w2 base v2 _ n.nd.path O2.out (by omega) (by simp;omega) (by omega)).mono ?_;rintro e w3 ⟨v3,rfl,o3,b3,k3⟩;have O3:Hid (Own .u8 5 w3 base v3 (xs++SL n)):=by rw [L.out,←YM];exact o3
   have B3:=Z3 (B2.out.trans b3);have K3:=Z3 (K2.out.trans k3);clear o3 b3 k3 O2 X2 d0 c7;go_wp2;go_ret;exact ⟨_,rfl,O3.out,B3.out,K3.out⟩
 have L:Hid (SL n=[1]++Yi n.nd):=e3;have HE2:Hid (KD n=1):=e2;rw [e2] at c7;clear e2 e3 HE
 go_enter Tryz.func171,Tryz.ntmps171
 go_wp2_with (at_builtin;go_must (refine UF _ rfl _ _ 22 rfl base 5 i0 (.int .u8 0) 1 1 Tryz.underlying22 hi hz0 hz1 hz2 rfl (by decide) _ _ _ rfl (Mk HO.out _) ⟨w.heap.size,0,none⟩ 1 1 [.int .u8 1] rfl rfl (Vx _ _ _) (by intro u hu;simp at hu;subst hu;rfl) ?f3 ?f4 ?f5 ?_))
 case f3=>unfold maxLen;omega
 case f4=>omega
 case f5=>simp;omega
 intro v2 w2 ho2 hg2 _;have O2:Hid (Own .u8 5 w2 base v2 (xs++[1])):=by
  refine Vg (q:=xs.length+1) (ys:=xs++[1]) (by simp) rfl ?_;rw [Wn];exact ho2
 have B2:Hid (Below base w w2):=(ZJ.alloc hb _).grown hg2 (by simp;omega) (fun q hq=>(ZD HO.out q hq).1);have K2:Hid (KT 5 w w2):=((KT.refl _ _).alloc _).grown (HO.out.alloc _) hg2;have X2:Hid (uH w2 b n):=HX.out.keep K2.out;have s2:=B2.out.size;clear ho2 hg2 c7;have c7:=X2.out.2;rw [HE2.out] at c7
 go_wp2_with fail
 refine (Tr w2 base v2 _ b n.nd O2.out (by omega) (by simp;omega) X2.out.1 HN.out).mono ?_;rintro e w3 ⟨v3,rfl,o3,b3,k3⟩;have O3:Hid (Own .u8 5 w3 base v3 (xs++SL n)):=by rw [L.out,←YM];exact o3
 have B3:=Z3 (B2.out.trans b3);have K3:=Z3 (K2.out.trans k3);clear o3 b3 k3 O2 X2 c7;go_wp2;go_ret;exact ⟨_,rfl,O3.out,B3.out,K3.out⟩
def ee (s:ByteArray):Nd:=⟨s,ByteArray.empty,0,0,0,0,0⟩
def ed:List Int→Option (Ef × List Int)
 | []=>none
 | y :: r=>if y=1 then (UW r).map (fun q=>(⟨false,q.1⟩,q.2)) else if y=2 then (Fr r).map (fun q=>(⟨true,ee q.1⟩,q.2)) else none
def ib:Nat→List Int→Option (List Ef × List Int)
 | 0,ys=>some ([],ys)
 | c+1,ys =>
  match ed ys with
  | none=>none
  | some (e,r)=>(ib c r).map fun q=>(e :: q.1,q.2)
def gZ (C:Nat) (ys:List Int) (es:List Ef) (r:List Int) (c:Nat):Prop:=ib C ys=(ib c r).map (fun q=>(es++q.1,q.2))∧es.length+r.length≤ys.length
def gY (ys:List Int):Nat:=Xl ((ys.drop 4).take 2)
def zX (ys:List Int):Nat:=Xl (ys.take 4)
def d8 (es:List Ef):Prop:=∀n ∈ es,n.nd.path.size<256∧n.nd.data.size<256
def KC (w:World) (B:Nat) (z:Int) (v:Value):Prop:=B<w.heap.size∧w.cell? ⟨B,0,none⟩=some (.int .i64 z)∧w.cell? ⟨B,1,none⟩=some v
theorem KC.below {x:Int} {y:Value} (h:KC w b x y) (hb:ZX w w'):KC w' b x y :=
 ⟨ZL h.1 hb.size,(hb.cell (p:=⟨b,0,none⟩) h.1).trans h.2.1,(hb.cell (p:=⟨b,1,none⟩) h.1).trans h.2.2⟩
theorem KC.new (w:World) (x:Int) (y:Value) (t:TypeId):KC (w.alloc (.cells #[.int .i64 x,y] t)) w.heap.size x y:=⟨by simp,by simp,by simp⟩
def Zx (W:World) (k:Nat):Prop:=k<W.heap.size∧W.cell? ⟨k,0,none⟩=some (.bool false)∧W.cell? ⟨k,1,none⟩=some (.int .i64 0)∧W.cell? ⟨k,2,none⟩=some (.slice none 0 0)∧∀j,W.frozen? ⟨k,j,none⟩=false
def B2 (W:World) (k:Nat) (z:Int) (v:Value):Prop:=k<W.heap.size∧W.cell? ⟨k,0,none⟩=some (.int .i64 z)∧W.cell? ⟨k,1,none⟩=some v∧∀j,W.frozen? ⟨k,j,none⟩=false
def SX (w:World) (ys:List Int) (W:World) (v:Value) (es:List Ef) (p c:Nat):Prop :=
 gZ (gY ys) (ys.drop 6) es (ys.drop p) c∧d8 es∧ZX w W∧Zx W w.heap.size∧B2 W (w.heap.size+1) (zX ys) v∧XH 249 W (w.heap.size+2) v es
attribute [local go_sem] VA
theorem Cf (F:Fence) (n:Nat) (h87:F.fn 179) (hro:F.round=none) (ao:Option Addr) (m cap:Nat) (w:World) :
    CallsIn F n Tryz.prog 179 #[.slice ao m cap] w fun e w'=>e=.returned (.func (.func 206) #[] #[.pointer (some ⟨w.heap.size,0,none⟩)])∧w'=w.alloc (.cells #[.slice ao m cap] 22):=by
 refine SC Tryz.func179 rfl h87 ?_ hro
 simp only [Tryz.ntmps179,Zm,Yr,Wo,Nat.reduceAdd,Nat.reduceSub,JO,JN,Wj,Ur,Yw,Vq]
 gi_wp2;go_ret;exact ⟨rfl,rfl⟩
theorem tk {ao:Option Addr} {n:Nat} {a:List Int} (h:Rd .u8 w (.slice ao n cap) a) (hl:a.length=n) (blk o:Nat) (he:ao=some ⟨blk,o,none⟩) (p:Nat) (hp:p≤n):Rd .u8 w (.slice (some ⟨blk,o+p,none⟩) (n - p) (cap - p)) (a.drop p):=by
 obtain ⟨pt,cap',e,h1,h2,h3⟩:=h
 simp only [Y4] at e
 obtain ⟨rfl,hn,rfl⟩:=e;have hlen:(a.drop p).length=n - p:=by rw [Zd];omega
 refine ⟨_,cap - p,by rw [hlen],by omega,by omega,?_⟩
 rcases h3 with rfl | ⟨b,o',e2,hb,hc⟩
 · exact .inl (by simp)
 rw [he] at e2
 simp only [Zo,JB,TJ] at e2
 obtain ⟨rfl,rfl⟩:=e2;refine .inr ⟨blk,o+p,rfl,hb,fun j hj=>?_⟩;rw [hlen] at hj;have:=hc (p+j) (by omega);rw [Ue,this]
 simp [List.getD,Qt]
theorem x8 (w:World) (ao:Option Addr) (cap:Nat) (hc:cap≤maxLen):Rd .u8 w (.slice ao 0 cap) []:=⟨ao,cap,rfl,Zu _,hc,.inl rfl⟩
attribute [local go_sem] VA
theorem Yn {n z:Nat} {e:TypeId} {xs:List Value} (h:W.ownsRow lo e z v n xs) (hg:W.grownBy W' row) (hr:∀r,row=some r→∃o:Obj,W.heap[r]?=some o∧o.isCells=false):W'.ownsRow lo e z v n xs:=by
 refine ⟨h.1,?_⟩
 rcases h.2 with hn | ⟨g,cap,cur,rfl,hbg,hgg,rest⟩
 · exact .inl hn
 refine .inr ⟨g,cap,cur,rfl,hbg,?_,rest⟩;rw [hg.block g (Yh.1 hgg).1 (fun e=>by obtain ⟨o,ho,hc⟩:=hr g e.symm;rw [hgg] at ho;injection ho with ho;rw [←ho] at hc;cases hc)];exact hgg
theorem XZ (h:ZX X Y):KeepsFrom B X Y:=⟨h.size,fun k _ _ hk _=>(h.block k (Yh.1 hk).1).trans hk⟩
theorem Ce {n z:Nat} {e:TypeId} {xs:List Value} (h:X.ownsRow lo e z v n xs) (hg:X.grownBy Y v.ownBlock):KeepsFrom B X Y:=by
 refine ⟨hg.size,fun k o _ hk ho=>(hg.block k (Yh.1 hk).1 (fun e=>?_)).trans hk⟩
 rcases h.2 with ⟨rfl,-⟩ | ⟨g,cap,cur,rfl,-,hgg,-⟩
 · cases e
 simp only [Value.ownBlock,Zo] at e
 subst e;rw [hgg] at hk
 injection hk with hk
 rw [←hk] at ho;cases ho
theorem kJ (w:World) (B j:Nat) (u:Value):w.grownBy (w.setCell ⟨B,j,none⟩ u) (some B):=⟨rfl,rfl,rfl,by simp,fun k _ hne=>Below.heap_setCell _ _ _ _ (fun e=>hne (by rw [e]))⟩
def fr (xs:List Int):List Int :=
 if xs.length=0∨2000<xs.length then [] else [128+((pk xs).length:Int) / 128,128+((pk xs).length:Int) % 128]++pk xs
theorem kI (h:xs.length=0∨2000<xs.length):fr xs=[]:=ZZ h
theorem xZ (h0:0<xs.length) (h1:xs.length≤2000):fr xs=[128+((pk xs).length:Int) / 128,128+((pk xs).length:Int) % 128]++pk xs:=Z1 (by omega)
theorem In (w w':World) (k:IntKind) (e:TypeId):Own k e w' w.heap.size (.slice none 0 0) []:=Zl _ _ _ _
theorem Kz (w:World) (ao:Option Addr) (n cap:Nat) (hn:n≤1099511627776) (h:n=0∨2000<n) :
    Calls Tryz.prog 127 #[.slice ao n cap] w fun e w'=>∃v',e=.returned v'∧Own .u8 5 w' w.heap.size v' []∧ZX w w':=by
 rcases h with rfl | h
 · go_enter Tryz.func127,Tryz.ntmps127
   go_wp2;go_ret;exact ⟨_,rfl,In _ _ _ _,ZJ⟩
 have h1:((n:Int) == 0)=false:=Vy.2 (by omega);have h2:(2000:Int)<(n:Int):=by omega
 go_enter Tryz.func127,Tryz.ntmps127
 go_wp2;go_ret;exact ⟨_,rfl,In _ _ _ _,ZJ⟩
theorem Cd {k:IntKind} {e:TypeId} {base g n:Nat} (h:Own k e w base (.slice (some ⟨g,0,none⟩) n cap) xs):∀j u,(xs.map (Value.int k))[j]?=some u→w.cell? ((⟨g,0,none⟩:Addr).add j)=some u :=
 Ud h rfl
theorem MQ (w:World) (v:Value) (xs:List Int) (h:Rd .u8 w v xs) (hby:Wm xs) (h0:0<xs.length) (h1:xs.length≤2000) :
    Calls Tryz.prog 127 #[v] w fun e w'=>∃v',e=.returned v'∧Own .u8 5 w' w.heap.size v' (fr xs)∧ZX w w':=by
 obtain ⟨i0,hi,hz0,hz1,hz2⟩:=Yq Tryz.Vh;rw [xZ h0 h1];have HR:Hid (Rd .u8 w v xs):=h;obtain ⟨ao,cap,rfl,_,_⟩:=h.len;clear h;have t1:((xs.length:Int) == 0)=false:=Vy.2 (by omega);have t2:¬(2000:Int)<(xs.length:Int):=by omega
 go_enter Tryz.func127,Tryz.ntmps127
 go_wp2_with fail
 refine (Lh _ _ xs HR.out hby (by omega)).mono ?_;rintro e w1 ⟨v1,rfl,o1,b1⟩;have hpl:=Ma xs
 rcases o1.row with ⟨rfl,h3⟩ | ⟨g,cp,rfl,hbg,hmc,hcm⟩
 · have:=ZR List.length h3;rw [hpl] at this;simp at this;omega
 have hm0:(pk xs).length≤2286:=by omega
 have hm1:2≤(pk xs).length:=by omega
 have ZQ:Hid (Own .u8 5 w1 w.heap.size (.slice (some ⟨g,0,none⟩) (pk xs).length cp) (pk xs)):=o1;have HB1:Hid (ZX w w1):=b1;have hsz:=b1.size;have hgl:g<w1.heap.size:=(o1.lt g rfl).2;generalize hm:(pk xs).length=m at *;have HM:Hid ((pk xs).length=m):=hm;clear hm hpl o1 b1 t1 t2 h0 h1
 go_wp2_with (at_make;go_must (refine Je _ rfl _ _ 22 rfl w1.heap.size 5 i0 (.int .u8 0) 1 Tryz.underlying22 hi hz0 hz1 _ _ _ (2+m) rfl rfl ?b1 ?b2 ?b3 ?b4 ?_))
 case b1=>omega
 case b2=>rw [hz2];omega
 case b3=>unfold maxLen;omega
 case b4=>exact ZT
 intro w2 ho2 hg2;have HB2:Hid (ZX w1 w2):=ZJ.grown hg2 ZT (by simp);have hsz2:=hg2.size;clear hg2;have e1:bits .or .u8 128 ((m:Int) / 128)=128+(m:Int) / 128:=Lk _ (by omega) (by omega);have e2:bits .or .u8 128 ((m:Int) % 128)=128+(m:Int) % 128:=Lk _ (by omega) (by omega);have e3:bits .and .i64 (m:Int) 127=(m:Int) % 128:=i64_and127 _
 go_wp2_with (at_builtin;go_must (refine Mc _ rfl (.tmp 19) (.tmp 30) 22 rfl w1.heap.size 5 i0 1 Tryz.underlying22 hi hz1 w1.heap.size 0 (2+m) _ rfl (ho2.alloc _) ⟨w2.heap.size,0,none⟩ 2 2 [.int .u8 (128+(m:Int) / 128),.int .u8 (128+(m:Int) % 128)] rfl rfl (cell_two_new _ _ _ _) (by intro u hu;simp at hu;rcases hu with rfl | rfl <;> rfl) (by omega) ?_))
 intro w3 ho3 hg3;have HB3:Hid (ZX w1 w3):=(HB2.out.alloc hsz2 _).grown hg3 (by simp;omega) (by intro k hk;simp at hk;omega);have ZN:=hg3.size;clear hg3 ho2 e1 e2 e3;have Z4:=Z3 (ZQ.out.below HB3.out)
 go_wp2_with (at_builtin;go_must (refine Mc _ rfl (.tmp 32) (.tmp 33) 22 rfl w1.heap.size 5 i0 1 Tryz.underlying22 hi hz1 w1.heap.size 2 (2+m) _ rfl ho3 ⟨g,0,none⟩ m cp ((pk xs).map (Value.int .u8)) rfl ?c0 (Cd Z4.out) (Wf _ _) (by omega) ?_))
 case c0=>rw [XJ,HM.out,WV]
 intro w4 JM hg4;have oV:Hid (ZX w1 w4):=HB3.out.grown hg4 (by have:=HB3.out.size;omega) (by intro k hk;simp at hk;omega);clear hg4 ho3;go_wp2;go_ret;have Vj:Own .u8 5 w4 w1.heap.size (.slice (some ⟨w1.heap.size,0,none⟩) (2+m) (2+m)) ([128+((pk xs).length:Int) / 128,128+((pk xs).length:Int) % 128]++pk xs):=by
  rw [HM.out];exact Vg (q:=2+m) (by rw [ZA,HM.out];rfl) rfl (by rw [Wn];exact JM)
 exact ⟨_,rfl,Vj.mono hsz,HB1.out.trans (oV.out.mono hsz)⟩
theorem MP (w:World) (v:Value) (xs:List Int) (h:Rd .u8 w v xs) (hby:Wm xs) (hn:xs.length≤1099511627776) :
    Calls Tryz.prog 127 #[v] w fun e w'=>∃v',e=.returned v'∧Own .u8 5 w' w.heap.size v' (fr xs)∧ZX w w':=by
 by_cases hc:xs.length=0∨2000<xs.length
 · rw [kI hc]
   obtain ⟨ao,cap,rfl,_,_⟩:=h.len;exact Kz w ao _ cap hn hc
 exact MQ w v xs h hby (by omega) (by omega)
def Good (ns:List Nd):Prop:=∀n ∈ ns,YL n=true
theorem Cc (h:YY ns=true):Good ns:=by
 unfold YY Xk at h
 simp only [Yg,Se,UT] at h
 intro n hn;obtain ⟨i,hi,rfl⟩:=List.mem_iff_getElem.1 hn;have:=h.2 i hi;unfold Qm at this
 simp only [Yg] at this
 rw [YZ hi] at this;exact this.1
theorem tj (h:Good ns) (k:Nat) (hk:k<ns.length):YL (ZC ns k)=true:=by rw [YZ hk];exact h _ (UO hk)
theorem ti (h:Good ns) (i:Nat):(ZC ns i).path.size≤1048576∧(ZC ns i).data.size≤1048576:=by
 by_cases hi:i<ns.length
 · have:=Xj (tj h i hi)
   exact ⟨by omega,by omega⟩
 unfold ZC;rw [CG,MX (by omega)];exact ⟨by simp [nd0],by simp [nd0]⟩
def Qy (W:World) (b:Nat) (x0 x1 x2 x3:Value):Prop:=b<W.heap.size∧(W.cell? ⟨b,0,none⟩=some x0∧W.cell? ⟨b,1,none⟩=some x1∧W.cell? ⟨b,2,none⟩=some x2∧W.cell? ⟨b,3,none⟩=some x3)∧(W.frozen? ⟨b,0,none⟩=false∧W.frozen? ⟨b,1,none⟩=false∧W.frozen? ⟨b,2,none⟩=false∧W.frozen? ⟨b,3,none⟩=false)
theorem Qy.Zc (h:Qy W b x0 x1 x2 x3) (hb:Below B W W') (hB:b<B):Qy W' b x0 x1 x2 x3 :=
 ⟨ZL h.1 hb.size,⟨(hb.cell (p:=⟨b,0,none⟩) hB).trans h.2.1.1,(hb.cell (p:=⟨b,1,none⟩) hB).trans h.2.1.2.1,(hb.cell (p:=⟨b,2,none⟩) hB).trans h.2.1.2.2.1,(hb.cell (p:=⟨b,3,none⟩) hB).trans h.2.1.2.2.2⟩,
  (hb.frozen (p:=⟨b,0,none⟩) hB).trans h.2.2.1,(hb.frozen (p:=⟨b,1,none⟩) hB).trans h.2.2.2.1,(hb.frozen (p:=⟨b,2,none⟩) hB).trans h.2.2.2.2.1,(hb.frozen (p:=⟨b,3,none⟩) hB).trans h.2.2.2.2.2⟩
theorem Qy.below (h:Qy W b x0 x1 x2 x3) (hb:ZX W W'):Qy W' b x0 x1 x2 x3:=h.Zc hb h.1
theorem Qy.new (W:World) (x0 x1 x2 x3:Value) (t:TypeId):Qy (W.alloc (.cells #[x0,x1,x2,x3] t)) W.heap.size x0 x1 x2 x3:=⟨by simp,⟨by simp,by simp,by simp,by simp⟩,by simp,by simp,by simp,by simp⟩
def Dr (w:World) (vt:Value) (W:World):Prop:=ZX w W∧w.heap.size+2≤W.heap.size∧W.cell? ⟨w.heap.size,0,none⟩=some vt∧Qy W (w.heap.size+1) (.slice none 0 0) (.int .i64 0) (.int .i64 0) (.int .i64 0)
theorem Dr.Zc (h:Dr w vt W) (hb:Below B W W') (hB:w.heap.size+2≤B):Dr w vt W' :=
 ⟨h.1.trans (hb.mono (by omega)),ZF h.2.1 hb.size,(hb.cell (p:=⟨w.heap.size,0,none⟩) (by show w.heap.size<_;omega)).trans h.2.2.1,h.2.2.2.Zc hb (by omega)⟩
theorem Dr.below (h:Dr w vt W) (hb:ZX W W'):Dr w vt W':=h.Zc hb h.2.1
theorem Dr.new (w:World) (vt:Value) (t1 t2:TypeId):Dr w vt ((w.alloc (.cells #[vt] t1)).alloc (.cells #[.slice none 0 0,.int .i64 0,.int .i64 0,.int .i64 0] t2)):=by
 refine ⟨(ZJ.alloc ZT _).alloc (by simp) _,by simp,?_,?_⟩
 · exact ((ZJ.alloc ZT _).cell (p:=⟨w.heap.size,0,none⟩) (show w.heap.size<_ by simp)).trans (by simp)
 have:=Qy.new (w.alloc (.cells #[vt] t1)) (.slice none 0 0) (.int .i64 0) (.int .i64 0) (.int .i64 0) t2
 simpa using this
theorem Qy.set0 (h:Qy W b x0 x1 x2 x3) (u:Value):Qy (W.setCell ⟨b,0,none⟩ u) b u x1 x2 x3 :=
 ⟨by simpa using h.1,⟨Xo _ _ _ h.2.1.1,(Zs _ _ _ _ (by simp)).trans h.2.1.2.1,(Zs _ _ _ _ (by simp)).trans h.2.1.2.2.1,(Zs _ _ _ _ (by simp)).trans h.2.1.2.2.2⟩,by simpa using h.2.2.1,by simpa using h.2.2.2.1,by simpa using h.2.2.2.2.1,by simpa using h.2.2.2.2.2⟩
theorem Qy.set1 (h:Qy W b x0 x1 x2 x3) (u:Value):Qy (W.setCell ⟨b,1,none⟩ u) b x0 u x2 x3 :=
 ⟨by simpa using h.1,⟨(Zs _ _ _ _ (by simp)).trans h.2.1.1,Xo _ _ _ h.2.1.2.1,(Zs _ _ _ _ (by simp)).trans h.2.1.2.2.1,(Zs _ _ _ _ (by simp)).trans h.2.1.2.2.2⟩,by simpa using h.2.2.1,by simpa using h.2.2.2.1,by simpa using h.2.2.2.2.1,by simpa using h.2.2.2.2.2⟩
theorem Qy.set2 (h:Qy W b x0 x1 x2 x3) (u:Value):Qy (W.setCell ⟨b,2,none⟩ u) b x0 x1 u x3 :=
 ⟨by simpa using h.1,⟨(Zs _ _ _ _ (by simp)).trans h.2.1.1,(Zs _ _ _ _ (by simp)).trans h.2.1.2.1,Xo _ _ _ h.2.1.2.2.1,(Zs _ _ _ _ (by simp)).trans h.2.1.2.2.2⟩,by simpa using h.2.2.1,by simpa using h.2.2.2.1,by simpa using h.2.2.2.2.1,by simpa using h.2.2.2.2.2⟩
theorem Qy.gX (h:Qy W b x0 x1 x2 x3) (u:Value):Qy (W.setCell ⟨b,3,none⟩ u) b x0 x1 x2 u :=
 ⟨by simpa using h.1,⟨(Zs _ _ _ _ (by simp)).trans h.2.1.1,(Zs _ _ _ _ (by simp)).trans h.2.1.2.1,(Zs _ _ _ _ (by simp)).trans h.2.1.2.2.1,Xo _ _ _ h.2.1.2.2.2⟩,by simpa using h.2.2.1,by simpa using h.2.2.2.1,by simpa using h.2.2.2.2.1,by simpa using h.2.2.2.2.2⟩
end Go.Proofs.YtpmjnbmkippaiaaGreatDoor


