import Derived.Test.YtpmjnbmkippaiaaGreatDoorJ03
import Derived.Defers
import Derived.Recover
set_option maxRecDepth 100000
set_option maxHeartbeats 16000000
set_option linter.unusedVariables false
set_option linter.unusedSimpArgs false
namespace Go.Proofs.YtpmjnbmkippaiaaGreatDoor
open Go.RowKit Go.Shelf
variable {a:ByteArray} {e:Ef} {z:Int} {es:List Ef} {r xs ys:List Int} {ns:List Nd} {B b cap k lo s:Nat} {n:Nd} {row:Option Nat} {t:TypeId} {v vt vx x0 x1 x2 x3:Value} {W W' X Y w w' w0:World}
theorem grown_of (h:Zi w w') (row:Option Nat):w.grownBy w' row:=⟨h.os,h.tape,h.output,h.size,fun k hk _=>h.block k hk⟩
theorem RM (w:World) (o:Obj) (row:Option Nat):w.grownBy (w.alloc o) row:=grown_of (Yy.alloc YR o) row
theorem SM (h:w.grownBy W row) (hB:w.heap.size≤B) (i:Nat) (u:Value):w.grownBy (W.setCell ⟨B,i,none⟩ u) row :=
 ⟨h.os,h.tape,h.output,by simpa using h.size,fun k hk hne=>by
  rw [←h.block k hk hne];exact Below.heap_setCell _ _ _ _ (by show k≠B;omega)⟩
def NB (W:World) (B:Nat) (n:Nd):Prop:=MQ W B n∧∀j,W.frozen? ⟨B,j,none⟩=false
theorem NB.turn (h:NB W B n) (hg:W.grownBy W' row) (hne:some B≠row):NB W' B n:=by
 have hb:=hg.block B h.1.lt hne;have e:∀q,W'.cell? ⟨B,q,none⟩=W.cell? ⟨B,q,none⟩:=fun q=>ZP (a:=⟨B,q,none⟩) hb
 refine ⟨⟨ZY h.1.lt hg.size,(e _).trans h.1.c0,(e _).trans h.1.c1,(e _).trans h.1.c2,(e _).trans h.1.c3,(e _).trans h.1.c4,(e _).trans h.1.c5,(e _).trans h.1.c6⟩,fun j=>?_⟩;rw [Yq (a:=⟨B,j,none⟩) hb];exact h.2 j
theorem NB.other {B':Nat} (h:NB W B n) (hne:B≠B') (i:Nat) (u:Value):NB (W.setCell ⟨B',i,none⟩ u) B n:=by
 have e:∀q,(W.setCell ⟨B',i,none⟩ u).cell? ⟨B,q,none⟩=W.cell? ⟨B,q,none⟩:=fun q=>ZV _ _ _ _ (by intro e;injection e with e;omega)
 refine ⟨⟨by simpa using h.1.lt,(e _).trans h.1.c0,(e _).trans h.1.c1,(e _).trans h.1.c2,(e _).trans h.1.c3,(e _).trans h.1.c4,(e _).trans h.1.c5,(e _).trans h.1.c6⟩,fun j=>?_⟩;rw [Zb];exact h.2 j
theorem NB.oB (h:NB W B n) (s:ByteArray):NB (W.setCell ⟨B,0,none⟩ (Value.string s)) B { n with path:=s }:=by
 have e:∀q,q≠0→(W.setCell ⟨B,0,none⟩ (Value.string s)).cell? ⟨B,q,none⟩=W.cell? ⟨B,q,none⟩:=fun q hq=>ZV _ _ _ _ (by intro e;injection e with _ e;omega)
 refine ⟨⟨by simpa using h.1.lt,Zk _ _ _ h.1.c0,(e 1 (by omega)).trans h.1.c1,(e 2 (by omega)).trans h.1.c2,(e 3 (by omega)).trans h.1.c3,(e 4 (by omega)).trans h.1.c4,(e 5 (by omega)).trans h.1.c5,(e 6 (by omega)).trans h.1.c6⟩,fun j=>?_⟩;rw [Zb];exact h.2 j
theorem NB.oA (h:NB W B n) (s:ByteArray):NB (W.setCell ⟨B,1,none⟩ (Value.string s)) B { n with data:=s }:=by
 have e:∀q,q≠1→(W.setCell ⟨B,1,none⟩ (Value.string s)).cell? ⟨B,q,none⟩=W.cell? ⟨B,q,none⟩:=fun q hq=>ZV _ _ _ _ (by intro e;injection e with _ e;omega)
 refine ⟨⟨by simpa using h.1.lt,(e 0 (by omega)).trans h.1.c0,Zk _ _ _ h.1.c1,(e 2 (by omega)).trans h.1.c2,(e 3 (by omega)).trans h.1.c3,(e 4 (by omega)).trans h.1.c4,(e 5 (by omega)).trans h.1.c5,(e 6 (by omega)).trans h.1.c6⟩,fun j=>?_⟩;rw [Zb];exact h.2 j
theorem NB.oz (h:NB W B n) (s:Int):NB (W.setCell ⟨B,2,none⟩ (Value.int .i64 s)) B { n with XT:=s }:=by
 have e:∀q,q≠2→(W.setCell ⟨B,2,none⟩ (Value.int .i64 s)).cell? ⟨B,q,none⟩=W.cell? ⟨B,q,none⟩:=fun q hq=>ZV _ _ _ _ (by intro e;injection e with _ e;omega)
 refine ⟨⟨by simpa using h.1.lt,(e 0 (by omega)).trans h.1.c0,(e 1 (by omega)).trans h.1.c1,Zk _ _ _ h.1.c2,(e 3 (by omega)).trans h.1.c3,(e 4 (by omega)).trans h.1.c4,(e 5 (by omega)).trans h.1.c5,(e 6 (by omega)).trans h.1.c6⟩,fun j=>?_⟩;rw [Zb];exact h.2 j
theorem NB.oy (h:NB W B n) (s:Int):NB (W.setCell ⟨B,3,none⟩ (Value.int .i64 s)) B { n with XQ:=s }:=by
 have e:∀q,q≠3→(W.setCell ⟨B,3,none⟩ (Value.int .i64 s)).cell? ⟨B,q,none⟩=W.cell? ⟨B,q,none⟩:=fun q hq=>ZV _ _ _ _ (by intro e;injection e with _ e;omega)
 refine ⟨⟨by simpa using h.1.lt,(e 0 (by omega)).trans h.1.c0,(e 1 (by omega)).trans h.1.c1,(e 2 (by omega)).trans h.1.c2,Zk _ _ _ h.1.c3,(e 4 (by omega)).trans h.1.c4,(e 5 (by omega)).trans h.1.c5,(e 6 (by omega)).trans h.1.c6⟩,fun j=>?_⟩;rw [Zb];exact h.2 j
theorem NB.ox (h:NB W B n) (s:Int):NB (W.setCell ⟨B,4,none⟩ (Value.int .i64 s)) B { n with cz:=s }:=by
 have e:∀q,q≠4→(W.setCell ⟨B,4,none⟩ (Value.int .i64 s)).cell? ⟨B,q,none⟩=W.cell? ⟨B,q,none⟩:=fun q hq=>ZV _ _ _ _ (by intro e;injection e with _ e;omega)
 refine ⟨⟨by simpa using h.1.lt,(e 0 (by omega)).trans h.1.c0,(e 1 (by omega)).trans h.1.c1,(e 2 (by omega)).trans h.1.c2,(e 3 (by omega)).trans h.1.c3,Zk _ _ _ h.1.c4,(e 5 (by omega)).trans h.1.c5,(e 6 (by omega)).trans h.1.c6⟩,fun j=>?_⟩;rw [Zb];exact h.2 j
theorem NB.ie (h:NB W B n) (s:Int):NB (W.setCell ⟨B,5,none⟩ (Value.int .i64 s)) B { n with mz:=s }:=by
 have e:∀q,q≠5→(W.setCell ⟨B,5,none⟩ (Value.int .i64 s)).cell? ⟨B,q,none⟩=W.cell? ⟨B,q,none⟩:=fun q hq=>ZV _ _ _ _ (by intro e;injection e with _ e;omega)
 refine ⟨⟨by simpa using h.1.lt,(e 0 (by omega)).trans h.1.c0,(e 1 (by omega)).trans h.1.c1,(e 2 (by omega)).trans h.1.c2,(e 3 (by omega)).trans h.1.c3,(e 4 (by omega)).trans h.1.c4,Zk _ _ _ h.1.c5,(e 6 (by omega)).trans h.1.c6⟩,fun j=>?_⟩;rw [Zb];exact h.2 j
theorem NB.ib (h:NB W B n) (s:Int):NB (W.setCell ⟨B,6,none⟩ (Value.int .i64 s)) B { n with pz:=s }:=by
 have e:∀q,q≠6→(W.setCell ⟨B,6,none⟩ (Value.int .i64 s)).cell? ⟨B,q,none⟩=W.cell? ⟨B,q,none⟩:=fun q hq=>ZV _ _ _ _ (by intro e;injection e with _ e;omega)
 refine ⟨⟨by simpa using h.1.lt,(e 0 (by omega)).trans h.1.c0,(e 1 (by omega)).trans h.1.c1,(e 2 (by omega)).trans h.1.c2,(e 3 (by omega)).trans h.1.c3,(e 4 (by omega)).trans h.1.c4,(e 5 (by omega)).trans h.1.c5,Zk _ _ _ h.1.c6⟩,fun j=>?_⟩;rw [Zb];exact h.2 j
theorem NB.new (w:World) (n:Nd) (t:TypeId):NB (w.alloc (.cells #[.string n.path,.string n.data,.int .i64 n.XT,.int .i64 n.XQ,.int .i64 n.cz,.int .i64 n.mz,.int .i64 n.pz] t)) w.heap.size n:=⟨MQ.new w n t,fun j=>(by go_simp)⟩
theorem RS.new (h:RS w0 w k ys) (hb:Zi w w'):RS w0 w' k ys:=h.keep hb h.2.1
theorem RS.setOther (h:RS w0 w k ys) (hB:k≠B) (h0:w0.heap.size≤B) (i:Nat) (u:Value):RS w0 (w.setCell ⟨B,i,none⟩ u) k ys:=by
 obtain ⟨h1,h2,h3,h4,v,h5,h6⟩:=h;refine ⟨h1,by simpa using h2,by rw [Zb];exact h3,h4.setCell h0 _,v,?_,h6⟩;rw [ZV _ _ _ _ (by intro e;injection e with e;omega)];exact h5
theorem FU (h:Sn ys):wrap64 ((Uh (ys.take 4):Nat):Int)=((Uh (ys.take 4):Nat):Int):=by
 have hb:=(MO (ys.take 4).length (ys.take 4) rfl (fun x hx=>h x (Xa hx))).2;have h1:256 ^ (ys.take 4).length≤256 ^ 4:=Wx (by omega) (by rw [Zw];omega);have h2:Uh (ys.take 4)<4294967296:=ZY hb h1;unfold wrap64;omega
def tJ (n:Nd):Value:=.agg #[.string n.path,.string n.data,.int .i64 n.XT,.int .i64 n.XQ,.int .i64 n.cz,.int .i64 n.mz,.int .i64 n.pz]
def sj (p d:ByteArray) (a:Nat→Int) (k:Nat):Nd:=⟨p,d,if 0<k then a 0 else 0,if 1<k then a 1 else 0,if 2<k then a 2 else 0,if 3<k then a 3 else 0,if 4<k then a 4 else 0⟩
def ov (w0 w:World) (k:Nat) (ys:List Int) (e:Ending) (w':World):Prop :=
 w.grownBy w' (some k)∧((QE ys=none∧e=.panicked QT)∨∃n r,QE ys=some (n,r)∧e=.returned (tJ n)∧RS w0 w' k r)
theorem VF (w0 w:World) (k:Nat) (ys:List Int) (h:RS w0 w k ys) (hby:Sn ys) :
    Calls Tryz.prog 178 #[.pointer (some ⟨k,0,none⟩)] w fun e w'=>ov w0 w k ys e w':=by
 have hk:=h.2.1;have hk0:=h.1;have Lc:=ZU hby
 have HS:=ZU h;clear h hby
 have A1:Hid (RS w0 ((w.alloc (.cells #[.string ⟨#[]⟩,.string ⟨#[]⟩,.int .i64 0,.int .i64 0,.int .i64 0,.int .i64 0,.int .i64 0] 149)).alloc (.cells #[.string ⟨#[]⟩,.string ⟨#[]⟩,.int .i64 0,.int .i64 0,.int .i64 0,.int .i64 0,.int .i64 0] 149)) k ys):=(HS.out.new (Yy.alloc YR _)).new (Yy.alloc YR _);have N2:Hid (NB ((w.alloc (.cells #[.string ⟨#[]⟩,.string ⟨#[]⟩,.int .i64 0,.int .i64 0,.int .i64 0,.int .i64 0,.int .i64 0] 149)).alloc (.cells #[.string ⟨#[]⟩,.string ⟨#[]⟩,.int .i64 0,.int .i64 0,.int .i64 0,.int .i64 0,.int .i64 0] 149)) w.heap.size nd0):=(NB.new w nd0 _).turn (RM _ _ none) (by simp);have N3:Hid (NB ((w.alloc (.cells #[.string ⟨#[]⟩,.string ⟨#[]⟩,.int .i64 0,.int .i64 0,.int .i64 0,.int .i64 0,.int .i64 0] 149)).alloc (.cells #[.string ⟨#[]⟩,.string ⟨#[]⟩,.int .i64 0,.int .i64 0,.int .i64 0,.int .i64 0,.int .i64 0] 149)) (w.heap.size+1) nd0):=by
  have:=NB.new (w.alloc (.cells #[.string ⟨#[]⟩,.string ⟨#[]⟩,.int .i64 0,.int .i64 0,.int .i64 0,.int .i64 0,.int .i64 0] 149)) nd0 149;rw [show (w.alloc (.cells #[.string ⟨#[]⟩,.string ⟨#[]⟩,.int .i64 0,.int .i64 0,.int .i64 0,.int .i64 0,.int .i64 0] 149)).heap.size=w.heap.size+1 by simp] at this;exact this
 have G1:Hid (w.grownBy ((w.alloc (.cells #[.string ⟨#[]⟩,.string ⟨#[]⟩,.int .i64 0,.int .i64 0,.int .i64 0,.int .i64 0,.int .i64 0] 149)).alloc (.cells #[.string ⟨#[]⟩,.string ⟨#[]⟩,.int .i64 0,.int .i64 0,.int .i64 0,.int .i64 0,.int .i64 0] 149)) (some k)):=(RM _ _ _).trans (RM _ _ _)
 go_enter Tryz.func178,Tryz.ntmps178
 go_wp2_with fail
 generalize ((w.alloc _).alloc _)=w1 at *;refine (FV w0 w1 k ys A1.out Lc.out).mono ?_;rintro e w2 ⟨g2,hp⟩
 rcases hp with ⟨hp,rfl⟩ | ⟨p,r1,hp,rfl,hr2⟩
 · exact ⟨rfl,G1.out.trans g2,.inl ⟨by unfold QE;rw [hp],rfl⟩⟩
 have tK:=ZU hp;have HB1:=ZU ((LK hp Lc.out).1);have G2:=ZU (G1.out.trans g2);have J:=ZU (N2.out.turn g2 (by simp;omega));have O:=ZU (N3.out.turn g2 (by simp;omega));have R2:=ZU hr2;clear hp g2 hr2 N2 N3 A1 G1;have d0:=O.out.1.c0;have f0:=O.out.2 0;have I:Hid (NB (w2.setCell ⟨w.heap.size+1,0,none⟩ (.string p)) (w.heap.size+1) { nd0 with path:=p }):=O.out.oB p;have H:Hid (NB (w2.setCell ⟨w.heap.size+1,0,none⟩ (.string p)) w.heap.size nd0):=J.out.other (by omega) _ _;have R3:Hid (RS w0 (w2.setCell ⟨w.heap.size+1,0,none⟩ (.string p)) k r1):=R2.out.setOther (by omega) (by omega) _ _;have G3:Hid (w.grownBy (w2.setCell ⟨w.heap.size+1,0,none⟩ (.string p)) (some k)):=SM G2.out (by omega) _ _
 go_wp2_with fail
 clear d0 f0 O J R2 G2;generalize w2.setCell _ _=w3 at *;refine (FV w0 w3 k r1 R3.out HB1.out).mono ?_;rintro e w4 ⟨g4,hp⟩
 rcases hp with ⟨hp,rfl⟩ | ⟨d,r2,hp,rfl,hr4⟩
 · refine ⟨rfl,G3.out.trans g4,.inl ⟨?_,rfl⟩⟩
   unfold QE;rw [tK.out];simp only;rw [hp]
 have yF:=ZU hp;have HB2:=ZU ((LK hp HB1.out).1);have G4:=ZU (G3.out.trans g4);have G:=ZU (H.out.turn g4 (by simp;omega));have N:=ZU (I.out.turn g4 (by simp;omega));have R4:=ZU hr4;clear hp g4 hr4 H I R3 G3;have d1:=N.out.1.c1;have f1:=N.out.2 1;have E:Hid (NB (w4.setCell ⟨w.heap.size+1,1,none⟩ (.string d)) (w.heap.size+1) (sj p d (UK r2) 0)):=N.out.oA d;have Z':Hid (NB (w4.setCell ⟨w.heap.size+1,1,none⟩ (.string d)) w.heap.size nd0):=G.out.other (by omega) _ _;have R5:Hid (RS w0 (w4.setCell ⟨w.heap.size+1,1,none⟩ (.string d)) k r2):=R4.out.setOther (by omega) (by omega) _ _;have G5:Hid (w.grownBy (w4.setCell ⟨w.heap.size+1,1,none⟩ (.string d)) (some k)):=SM G4.out (by omega) _ _
 go_wp2_with fail
 clear d1 f1 N G R4 G4;generalize w4.setCell _ _=w5 at *;refine (Jl w5 (w.heap.size+1) 0).mono ?_;rintro e w6 ⟨rfl,b6⟩;have G6:=ZU (G5.out.trans (grown_of b6 _));have Z2:=ZU (Z'.out.turn (grown_of b6 none) (by simp));have ZN:=ZU (E.out.turn (grown_of b6 none) (by simp));have R6:Hid (RS w0 w6 k (r2.drop (4*0))):=by show RS _ _ _ _;rw [Q3,XR];exact R5.out.new b6
 clear b6 Z' E R5 G5;unfold oC;go_wp2
 go_loopw [15] (fun vi wr=>∃i:Nat,i≤5∧vi=.int .i64 i∧Hid (4*i≤r2.length)∧Hid (w.grownBy wr (some k))∧Hid (NB wr w.heap.size nd0)∧Hid (NB wr (w.heap.size+1) (sj p d (UK r2) i))∧Hid (RS w0 wr k (r2.drop (4*i)))) (fun i _=>5 - (intOf i).toNat)
 case atStart=>exact ⟨0,by omega,rfl,Zu _,G6,Z2,ZN,R6⟩
 case round =>
  obtain ⟨i,hi,rfl,HL,HG,Pw,V,HR⟩:=hrel;have hl:=HL.out
  rcases (show i=0∨i=1∨i=2∨i=3∨i=4∨i=5 by omega) with rfl | rfl | rfl | rfl | rfl | rfl
  · have hix:=fun W=>kM W (w.heap.size+1)
    go_wp2_with fail
    clear hix
    by_cases hlt:4≤r2.length
    rotate_left
    · refine (VG w0 wr k 4 _ HR.out (by rw [ZS];omega)).mono ?_
      rintro e w7 ⟨rfl,rfl⟩;refine ⟨rfl,HG.out,.inl ⟨?_,rfl⟩⟩;unfold QE;rw [tK.out];simp only;rw [yF.out];simp only;rw [Z1 (by omega)]
    refine (Vc w0 wr k 4 _ HR.out (by rw [ZS];omega) (by omega) (by omega) (TW HB2.out _)).mono ?_;rintro e w7 ⟨rfl,r7,v7,q7,rfl⟩;rw [FU (TW HB2.out _)];have g7:wr.grownBy ((wr.setCell ⟨k,0,none⟩ v7).drewN q7) (some k):=(grownBy_set _ _ _ _ _ (Zz _ _)).trans (grown_of (below_drewN' _ q7) _);have U:=ZU (HG.out.trans g7);have T:=ZU (Pw.out.turn g7 (by simp;omega));have Z:=ZU (V.out.turn g7 (by simp;omega));have R7:Hid (RS w0 ((wr.setCell ⟨k,0,none⟩ v7).drewN q7) k (r2.drop (4*1))):=by rw [Yc] at r7;exact r7
    clear r7 g7 HG Pw V HR HL;generalize (wr.setCell _ _).drewN q7=w7 at *;have d0:=Z.out.1.c2;have f0:=Z.out.2 2;have R:Hid (NB (w7.setCell ⟨w.heap.size+1,2,none⟩ (.int .i64 (UK r2 0))) (w.heap.size+1) (sj p d (UK r2) 1)):=Z.out.oz (UK r2 0);have Q:Hid (NB (w7.setCell ⟨w.heap.size+1,2,none⟩ (.int .i64 (UK r2 0))) w.heap.size nd0):=T.out.other (by omega) _ _;have M:Hid (RS w0 (w7.setCell ⟨w.heap.size+1,2,none⟩ (.int .i64 (UK r2 0))) k (r2.drop (4*1))):=R7.out.setOther (by omega) (by omega) _ _;have G8:Hid (w.grownBy (w7.setCell ⟨w.heap.size+1,2,none⟩ (.int .i64 (UK r2 0))) (some k)):=SM U.out (by omega) _ _;go_wp2;exact ⟨⟨1,by omega,rfl,by show 4*1≤_;omega,G8,Q,R,M⟩,by simp [intOf]⟩
  · have hix:=fun W=>kL W (w.heap.size+1)
    go_wp2_with fail
    clear hix
    by_cases hlt:8≤r2.length
    rotate_left
    · refine (VG w0 wr k 4 _ HR.out (by rw [ZS];omega)).mono ?_
      rintro e w7 ⟨rfl,rfl⟩;refine ⟨rfl,HG.out,.inl ⟨?_,rfl⟩⟩;unfold QE;rw [tK.out];simp only;rw [yF.out];simp only;rw [Z1 (by omega)]
    refine (Vc w0 wr k 4 _ HR.out (by rw [ZS];omega) (by omega) (by omega) (TW HB2.out _)).mono ?_;rintro e w7 ⟨rfl,r7,v7,q7,rfl⟩;rw [FU (TW HB2.out _)];have g7:wr.grownBy ((wr.setCell ⟨k,0,none⟩ v7).drewN q7) (some k):=(grownBy_set _ _ _ _ _ (Zz _ _)).trans (grown_of (below_drewN' _ q7) _);have U:=ZU (HG.out.trans g7);have T:=ZU (Pw.out.turn g7 (by simp;omega));have Z:=ZU (V.out.turn g7 (by simp;omega));have R7:Hid (RS w0 ((wr.setCell ⟨k,0,none⟩ v7).drewN q7) k (r2.drop (4*2))):=by rw [Yc] at r7;exact r7
    clear r7 g7 HG Pw V HR HL;generalize (wr.setCell _ _).drewN q7=w7 at *;have d0:=Z.out.1.c3;have f0:=Z.out.2 3;have R:Hid (NB (w7.setCell ⟨w.heap.size+1,3,none⟩ (.int .i64 (UK r2 1))) (w.heap.size+1) (sj p d (UK r2) 2)):=Z.out.oy (UK r2 1);have Q:Hid (NB (w7.setCell ⟨w.heap.size+1,3,none⟩ (.int .i64 (UK r2 1))) w.heap.size nd0):=T.out.other (by omega) _ _;have M:Hid (RS w0 (w7.setCell ⟨w.heap.size+1,3,none⟩ (.int .i64 (UK r2 1))) k (r2.drop (4*2))):=R7.out.setOther (by omega) (by omega) _ _;have G8:Hid (w.grownBy (w7.setCell ⟨w.heap.size+1,3,none⟩ (.int .i64 (UK r2 1))) (some k)):=SM U.out (by omega) _ _;go_wp2;exact ⟨⟨2,by omega,rfl,by show 4*2≤_;omega,G8,Q,R,M⟩,by simp [intOf]⟩
  · have hix:=fun W=>kK W (w.heap.size+1)
    go_wp2_with fail
    clear hix
    by_cases hlt:12≤r2.length
    rotate_left
    · refine (VG w0 wr k 4 _ HR.out (by rw [ZS];omega)).mono ?_
      rintro e w7 ⟨rfl,rfl⟩;refine ⟨rfl,HG.out,.inl ⟨?_,rfl⟩⟩;unfold QE;rw [tK.out];simp only;rw [yF.out];simp only;rw [Z1 (by omega)]
    refine (Vc w0 wr k 4 _ HR.out (by rw [ZS];omega) (by omega) (by omega) (TW HB2.out _)).mono ?_;rintro e w7 ⟨rfl,r7,v7,q7,rfl⟩;rw [FU (TW HB2.out _)];have g7:wr.grownBy ((wr.setCell ⟨k,0,none⟩ v7).drewN q7) (some k):=(grownBy_set _ _ _ _ _ (Zz _ _)).trans (grown_of (below_drewN' _ q7) _);have U:=ZU (HG.out.trans g7);have T:=ZU (Pw.out.turn g7 (by simp;omega));have Z:=ZU (V.out.turn g7 (by simp;omega));have R7:Hid (RS w0 ((wr.setCell ⟨k,0,none⟩ v7).drewN q7) k (r2.drop (4*3))):=by rw [Yc] at r7;exact r7
    clear r7 g7 HG Pw V HR HL;generalize (wr.setCell _ _).drewN q7=w7 at *;have d0:=Z.out.1.c4;have f0:=Z.out.2 4;have R:Hid (NB (w7.setCell ⟨w.heap.size+1,4,none⟩ (.int .i64 (UK r2 2))) (w.heap.size+1) (sj p d (UK r2) 3)):=Z.out.ox (UK r2 2);have Q:Hid (NB (w7.setCell ⟨w.heap.size+1,4,none⟩ (.int .i64 (UK r2 2))) w.heap.size nd0):=T.out.other (by omega) _ _;have M:Hid (RS w0 (w7.setCell ⟨w.heap.size+1,4,none⟩ (.int .i64 (UK r2 2))) k (r2.drop (4*3))):=R7.out.setOther (by omega) (by omega) _ _;have G8:Hid (w.grownBy (w7.setCell ⟨w.heap.size+1,4,none⟩ (.int .i64 (UK r2 2))) (some k)):=SM U.out (by omega) _ _;go_wp2;exact ⟨⟨3,by omega,rfl,by show 4*3≤_;omega,G8,Q,R,M⟩,by simp [intOf]⟩
  · have hix:=fun W=>kJ W (w.heap.size+1)
    go_wp2_with fail
    clear hix
    by_cases hlt:16≤r2.length
    rotate_left
    · refine (VG w0 wr k 4 _ HR.out (by rw [ZS];omega)).mono ?_
      rintro e w7 ⟨rfl,rfl⟩;refine ⟨rfl,HG.out,.inl ⟨?_,rfl⟩⟩;unfold QE;rw [tK.out];simp only;rw [yF.out];simp only;rw [Z1 (by omega)]
    refine (Vc w0 wr k 4 _ HR.out (by rw [ZS];omega) (by omega) (by omega) (TW HB2.out _)).mono ?_;rintro e w7 ⟨rfl,r7,v7,q7,rfl⟩;rw [FU (TW HB2.out _)];have g7:wr.grownBy ((wr.setCell ⟨k,0,none⟩ v7).drewN q7) (some k):=(grownBy_set _ _ _ _ _ (Zz _ _)).trans (grown_of (below_drewN' _ q7) _);have U:=ZU (HG.out.trans g7);have T:=ZU (Pw.out.turn g7 (by simp;omega));have Z:=ZU (V.out.turn g7 (by simp;omega));have R7:Hid (RS w0 ((wr.setCell ⟨k,0,none⟩ v7).drewN q7) k (r2.drop (4*4))):=by rw [Yc] at r7;exact r7
    clear r7 g7 HG Pw V HR HL;generalize (wr.setCell _ _).drewN q7=w7 at *;have d0:=Z.out.1.c5;have f0:=Z.out.2 5;have R:Hid (NB (w7.setCell ⟨w.heap.size+1,5,none⟩ (.int .i64 (UK r2 3))) (w.heap.size+1) (sj p d (UK r2) 4)):=Z.out.ie (UK r2 3);have Q:Hid (NB (w7.setCell ⟨w.heap.size+1,5,none⟩ (.int .i64 (UK r2 3))) w.heap.size nd0):=T.out.other (by omega) _ _;have M:Hid (RS w0 (w7.setCell ⟨w.heap.size+1,5,none⟩ (.int .i64 (UK r2 3))) k (r2.drop (4*4))):=R7.out.setOther (by omega) (by omega) _ _;have G8:Hid (w.grownBy (w7.setCell ⟨w.heap.size+1,5,none⟩ (.int .i64 (UK r2 3))) (some k)):=SM U.out (by omega) _ _;go_wp2;exact ⟨⟨4,by omega,rfl,by show 4*4≤_;omega,G8,Q,R,M⟩,by simp [intOf]⟩
  · have hix:=fun W=>kI W (w.heap.size+1)
    go_wp2_with fail
    clear hix
    by_cases hlt:20≤r2.length
    rotate_left
    · refine (VG w0 wr k 4 _ HR.out (by rw [ZS];omega)).mono ?_
      rintro e w7 ⟨rfl,rfl⟩;refine ⟨rfl,HG.out,.inl ⟨?_,rfl⟩⟩;unfold QE;rw [tK.out];simp only;rw [yF.out];simp only;rw [Z1 (by omega)]
    refine (Vc w0 wr k 4 _ HR.out (by rw [ZS];omega) (by omega) (by omega) (TW HB2.out _)).mono ?_;rintro e w7 ⟨rfl,r7,v7,q7,rfl⟩;rw [FU (TW HB2.out _)];have g7:wr.grownBy ((wr.setCell ⟨k,0,none⟩ v7).drewN q7) (some k):=(grownBy_set _ _ _ _ _ (Zz _ _)).trans (grown_of (below_drewN' _ q7) _);have U:=ZU (HG.out.trans g7);have T:=ZU (Pw.out.turn g7 (by simp;omega));have Z:=ZU (V.out.turn g7 (by simp;omega));have R7:Hid (RS w0 ((wr.setCell ⟨k,0,none⟩ v7).drewN q7) k (r2.drop (4*5))):=by rw [Yc] at r7;exact r7
    clear r7 g7 HG Pw V HR HL;generalize (wr.setCell _ _).drewN q7=w7 at *;have d0:=Z.out.1.c6;have f0:=Z.out.2 6;have R:Hid (NB (w7.setCell ⟨w.heap.size+1,6,none⟩ (.int .i64 (UK r2 4))) (w.heap.size+1) (sj p d (UK r2) 5)):=Z.out.ib (UK r2 4);have Q:Hid (NB (w7.setCell ⟨w.heap.size+1,6,none⟩ (.int .i64 (UK r2 4))) w.heap.size nd0):=T.out.other (by omega) _ _;have M:Hid (RS w0 (w7.setCell ⟨w.heap.size+1,6,none⟩ (.int .i64 (UK r2 4))) k (r2.drop (4*5))):=R7.out.setOther (by omega) (by omega) _ _;have G8:Hid (w.grownBy (w7.setCell ⟨w.heap.size+1,6,none⟩ (.int .i64 (UK r2 4))) (some k)):=SM U.out (by omega) _ _;go_wp2;exact ⟨⟨5,by omega,rfl,by show 4*5≤_;omega,G8,Q,R,M⟩,by simp [intOf]⟩
  obtain ⟨⟨-,y0,y1,y2,y3,y4,y5,y6⟩,-⟩:=V.out;obtain ⟨⟨-,x0,x1,x2,x3,x4,x5,x6⟩,xf⟩:=Pw.out;have Z8:20≤r2.length:=by omega
  have DA:Hid (QE ys=some (sj p d (UK r2) 5,r2.drop 20)):=by
   show _=_;unfold QE;rw [tK.out];simp only;rw [yF.out];simp only;rw [Z0 Z8]
   rfl
  obtain ⟨nn,hnn⟩:∃nn,nn=sj p d (UK r2) 5:=⟨_,rfl⟩;rw [←hnn] at y0 y1 y2 y3 y4 y5 y6 DA;clear hnn;go_wp2;refine ZW (v:=tJ nn) (by simp [results,Tryz.results178,go_sem,tJ,x0,x1,x2,x3,x4,x5,x6]) rfl ⟨?_,.inr ⟨nn,r2.drop 20,DA.out,rfl,?_⟩⟩
  · iterate 7 refine SM ?_ YR _ _
    exact HG.out
  iterate 7 refine RS.setOther ?_ (by omega) (by omega) _ _
  exact HR.out
theorem Dz (W:World) (v:Value):(Instr.typeAssert (.iface 296 v) 20 296 true).run Tryz.prog W=.ok (.tuple #[v,.bool true]) W:=by kernel_rfl
theorem BR (w:World):Calls Tryz.prog 174 #[.nilIface] w fun e w'=>e=.returned (.tuple #[])∧w'=w:=by
 go_enter Tryz.func174,Tryz.ntmps174
 go_wp2;exact ZW (Wu rfl _ _ _) rfl ⟨rfl,rfl⟩
theorem BQ (w:World):Calls Tryz.prog 174 #[.iface 296 (.agg #[])] w (Wj w (.tuple #[])):=by
 have ha:∀(W:World) (v:Value),(Instr.typeAssert (.iface 296 v) 20 296 true).run Tryz.prog W=.ok (.tuple #[v,.bool true]) W:=fun W v=>Dz W v
 go_enter Tryz.func174,Tryz.ntmps174
 go_wp2
 go_end0
 exact ⟨rfl,Yy.alloc YR _⟩
theorem Sa (older:List PanicEntry) (w:World) :
    CallsD Tryz.prog 176 #[] (.panicking ({ v:=.iface 296 (.agg #[]),recovered:=false } :: older)) w fun e u' w' =>
     e=.returned (.tuple #[])∧u'=.panicking ({ v:=.iface 296 (.agg #[]),recovered:=true } :: older)∧Zi w w':=by
 refine UA Tryz.func176 rfl fun c₀ cs hu=>?_
 apply TM
 simp [wpOpsS,go_sem,recoverD,hu,Tryz.ntmps176]
 refine (BQ w).mono ?_;rintro e w' ⟨rfl,bw⟩
 simp_all [bodyPostS,results,Tryz.results176]
theorem Mf (w:World) :
    CallsD Tryz.prog 176 #[] .returning w fun e u' w'=>e=.returned (.tuple #[])∧u'=.returning∧w'=w:=by
 refine UA Tryz.func176 rfl fun c₀ cs hu=>?_
 apply TM
 simp [wpOpsS,go_sem,recoverD,hu,Tryz.ntmps176]
 refine (BR w).mono ?_;rintro e w' ⟨rfl,rfl⟩
 cases c₀
 simp_all [bodyPostS,results,Tryz.results176]
def qj:Value:=.agg #[.bool false,.slice none 0 0]
def Io (w:World) (ys:List Int) (e:Ending) (w':World):Prop :=
 Zi w w'∧((FX ys=none∧e=.returned qj)∨∃ns v,FX ys=some ns∧e=.returned (.agg #[.bool true,v])∧XU 147 w' w.heap.size v ns)
def Zt (W:World) (k:Nat):Prop:=k<W.heap.size∧W.cell? ⟨k,0,none⟩=some (.bool false)∧W.cell? ⟨k,1,none⟩=some (.slice none 0 0)∧∀j,W.frozen? ⟨k,j,none⟩=false
theorem Zt.turn (h:Zt W k) (hg:W.grownBy W' row) (hne:some k≠row):Zt W' k:=by
 have hb:=hg.block k h.1 hne;exact ⟨ZY h.1 hg.size,(ZP (a:=⟨k,0,none⟩) hb).trans h.2.1,(ZP (a:=⟨k,1,none⟩) hb).trans h.2.2.1,fun j=>(Yq (a:=⟨k,j,none⟩) hb).trans (h.2.2.2 j)⟩
theorem Zt.set (h:Zt W k) (hne:k≠B) (i:Nat) (u:Value):Zt (W.setCell ⟨B,i,none⟩ u) k :=
 ⟨by simpa using h.1,(ZV _ _ _ _ (by intro e;injection e with e;omega)).trans h.2.1,(ZV _ _ _ _ (by intro e;injection e with e;omega)).trans h.2.2.1,fun j=>by rw [Zb];exact h.2.2.2 j⟩
def B1 (W:World) (k:Nat) (v:Value):Prop:=k<W.heap.size∧W.cell? ⟨k,0,none⟩=some v∧W.frozen? ⟨k,0,none⟩=false
theorem B1.turn (h:B1 W k v) (hg:W.grownBy W' row) (hne:some k≠row):B1 W' k v:=by
 have hb:=hg.block k h.1 hne;exact ⟨ZY h.1 hg.size,(ZP (a:=⟨k,0,none⟩) hb).trans h.2.1,(Yq (a:=⟨k,0,none⟩) hb).trans h.2.2⟩
theorem XU.turn (h:XU 147 W lo v ns) (hg:W.grownBy W' (some k)) (hk:k<lo):XU 147 W' lo v ns:=by
 refine Zn h hg ?_
 cases e:v.ownBlock with
 | none=>exact .inl rfl
 | some g =>
  refine .inr fun e2=>?_
  have:=(ZT h g e).1
  simp only [ZK] at e2
  omega
theorem FT (ns:List Nd) (n:Nd):YE (ns++[n])=YE ns++Uu n:=by rw [Wc];simp [YE]
theorem Qn (w:World) (n:Nd) (t:TypeId):∀j u,(Uu n)[j]?=some u→(w.alloc (.cells #[.string n.path,.string n.data,.int .i64 n.XT,.int .i64 n.XQ,.int .i64 n.cz,.int .i64 n.mz,.int .i64 n.pz] t)).cell? ((⟨w.heap.size,0,none⟩:Addr).add j)=some u:=by
 intro j u hj;rw [YY,Za,cell_of (Zs w _) j,←hj]
 simp [Uu]
theorem Pb (n:Nd):∀u ∈ Uu n,u.oneCell'=true:=by
 intro u hu
 simp only [Uu,Y9,SZ,Sh] at hu
 rcases hu with rfl | rfl | rfl | rfl | rfl | rfl | rfl <;> rfl
theorem La (n:Nd) (W:World):(Instr.field 149 (.agg #[.string n.path,.string n.data,.int .i64 n.XT,.int .i64 n.XQ,.int .i64 n.cz,.int .i64 n.mz,.int .i64 n.pz]) 0).run Tryz.prog W=.ok (.agg #[.string n.path,.string n.data,.int .i64 n.XT,.int .i64 n.XQ,.int .i64 n.cz,.int .i64 n.mz,.int .i64 n.pz]) W:=by kernel_rfl
def iK (ns:List Nd):Prop:=∀n ∈ ns,n.path.size<256∧n.data.size<256
theorem iK.at (h:iK ns) (i:Nat):(Ye ns i).path.size≤1048576∧(Ye ns i).data.size≤1048576:=by
 by_cases hi:i<ns.length
 · rw [WF hi]
   have:=h _ (YP hi);omega
 unfold Ye;rw [List.getD,Yk (by omega)];exact ⟨Zu _,Zu _⟩
def TS (w:World) (ys:List Int) (W:World) (v:Value) (ns:List Nd) (r:List Int):Prop :=
 yE ys ns r∧Sn r∧iK ns∧RS w W (w.heap.size+1) r∧Zt W w.heap.size∧B1 W (w.heap.size+1+1) v∧XU 147 W (w.heap.size+3) v ns
def Oz (W:World) (k:Nat):Nat:=match W.cell? ⟨k,0,none⟩ with | some (.slice _ n _)=>n | _=>0
theorem RS.Oz (h:RS w0 W k r):Oz W k=r.length:=by
 obtain ⟨-,-,-,-,v,h5,h6⟩:=h;obtain ⟨ao,c,rfl,-⟩:=h6;unfold Go.Proofs.YtpmjnbmkippaiaaGreatDoor.Oz;rw [h5]
theorem TS.start (w:World) (ao:Option Addr) (ys:List Int) (cap:Nat) (h:Rd .u8 w (.slice ao ys.length cap) ys) (hb:Sn ys) :
    TS w ys (((w.alloc (.cells #[.bool false,.slice none 0 0] 135)).alloc (.cells #[.slice ao ys.length cap] 256)).alloc (.cells #[.slice none 0 0] 63)) (.slice none 0 0) [] ys:=by
 refine ⟨yE.start ys,hb,(fun n hn=>by cases hn),⟨by omega,by simp,(by go_simp),((Yy.alloc YR _).alloc (by simp) _).alloc (by simp;omega) _,_,(by go_simp),h⟩,⟨by simp;omega,(by go_simp),(by go_simp),fun j=>(by go_simp)⟩,⟨by simp,(by go_simp),(by go_simp)⟩,ZH _ _ _ _⟩
theorem TS.drewN (h:TS w ys W v ns r) (q:Nat):TS w ys (W.drewN q) v ns r:=⟨h.1,h.2.1,h.2.2.1,h.2.2.2.1.drewN q,h.2.2.2.2.1,h.2.2.2.2.2.1,h.2.2.2.2.2.2⟩
theorem TS.below (h:TS w ys W v ns r):Zi w W:=h.2.2.2.1.2.2.2.1
theorem xp (w0 w:World) (k:Nat) (ys:List Int) (h:RS w0 w k ys) :
    Calls Tryz.prog 177 #[.pointer (some ⟨k,0,none⟩)] w fun e w'=>e=.returned (.bool (decide (ys=[])))∧w'=w:=by
 obtain ⟨-,-,-,-,v,h5,h6⟩:=h;obtain ⟨ao,c,rfl,-⟩:=h6
 by_cases hy:ys=[]
 · subst hy
   have h0:((List.length ([]:List Int):Int) == 0)=true:=rfl
   go_enter Tryz.func177,Tryz.ntmps177
   go_wp2;go_ret;exact ⟨rfl,rfl⟩
 have hl:=List.length_pos_iff.2 hy;have h0:((ys.length:Int) == 0)=false:=YH.2 (by omega);rw [Zo hy]
 go_enter Tryz.func177,Tryz.ntmps177
 go_wp2;go_ret;exact ⟨rfl,rfl⟩
theorem eM (fn:Fn) (first cap:Array Value) (w:World):(Instr.makeFunc fn first cap).run Tryz.prog w=.ok (.func fn first cap) w:=rfl
theorem RS.turn (h:RS w0 W k r) (hg:W.grownBy W' row) (hne:some k≠row) (hlo:∀g,row=some g→w0.heap.size≤g):RS w0 W' k r:=by
 obtain ⟨h1,h2,h3,h4,v,h5,h6⟩:=h;have hb:=hg.block k h2 hne;exact ⟨h1,ZY h2 hg.size,(Yq (a:=⟨k,0,none⟩) hb).trans h3,h4.grown hg h4.size hlo,v,(ZP (a:=⟨k,0,none⟩) hb).trans h5,h6⟩
def TR (w:World) (ys:List Int) (W:World) (v:Value) (ns:List Nd) (n:Nd) (r:List Int):Prop :=
 yE ys (ns++[n]) r∧Sn r∧iK (ns++[n])∧RS w W (w.heap.size+1) r∧Zt W w.heap.size∧B1 W (w.heap.size+1+1) v∧XU 147 W (w.heap.size+3) v ns
theorem TS.read {W1:World} {r':List Int} (h:TS w ys W v ns r) (hg:W.grownBy W1 (some (w.heap.size+1))) (hp:QE r=some (n,r')) (hr:RS w W1 (w.heap.size+1) r'):TR w ys W1 v ns n r':=by
 obtain ⟨t1,t2,t3,t4,t5,t6,t7⟩:=h;have hb:=Nv hp t2;refine ⟨t1.step t2 hp,hb.1,?_,hr,t5.turn hg (by simp),t6.turn hg (by simp),t7.turn hg (by omega)⟩;intro m hm
 rcases Y4.1 hm with hm | hm
 · exact t3 m hm
 simp at hm;subst hm;exact hb.2.2
theorem TR.alloc (h:TR w ys W v ns n r) (o:Obj):TR w ys (W.alloc o) v ns n r:=by
 obtain ⟨t1,t2,t3,t4,t5,t6,t7⟩:=h;exact ⟨t1,t2,t3,t4.new (Yy.alloc YR _),t5.turn (RM _ _ none) (by simp),t6.turn (RM _ _ none) (by simp),t7.below (Yy.alloc YR _)⟩
theorem TR.push {W3:World} {v3:Value} (h:TR w ys W v ns n r) (hg:W.grownBy W3 v.ownBlock) (ho:W3.ownsRow (w.heap.size+3) 147 7 v3 (ns.length+1) (YE ns++Uu n)) :
    TS w ys (W3.setCell ⟨w.heap.size+1+1,0,none⟩ v3) v3 (ns++[n]) r:=by
 obtain ⟨t1,t2,t3,t4,t5,t6,t7⟩:=h;have hne:∀k,k<w.heap.size+3→some k≠v.ownBlock:=fun k hk e=>by have:=(ZT t7 k e.symm).1;omega
 have hlo:∀g,v.ownBlock=some g→w.heap.size≤g:=fun g e=>by have:=(ZT t7 g e).1;omega
 have b6:=t6.turn hg (hne _ (by omega));refine ⟨t1,t2,t3,(t4.turn hg (hne _ (by omega)) hlo).setOther (by omega) (by omega) _ _,(t5.turn hg (hne _ (by omega))).set (by omega) _ _,⟨by simpa using b6.1,Zk _ _ _ b6.2.1,by rw [Zb];exact b6.2.2⟩,?_⟩;have:XU 147 W3 (w.heap.size+3) v3 (ns++[n]):=by unfold XU;rw [FT,ZZ];exact ho
 exact XU.VA this (by show w.heap.size+1+1<w.heap.size+3;omega) _
theorem In (w:World) (v:Value) (ys:List Int) (h:Rd .u8 w v ys) (hby:Sn ys) (hl:ys.length≤1048576) :
    Calls Tryz.prog 133 #[v] w fun e w'=>Io w ys e w':=by
 obtain ⟨i0,hi,hz0,hz1,hz2⟩:=YM Tryz.Mi;obtain ⟨ao,cap,rfl,-,-⟩:=h.len;have D0:=ZU (TS.start w ao ys cap h hby);have hm:=eM
 go_enter_defers Tryz.func133,Tryz.ntmps133
 go_wp2;generalize (((w.alloc _).alloc _).alloc _)=W0 at *
 go_loopw [9] (fun u9 wr=>∃v ns r,Hid (TS w ys wr v ns r)) (fun _ wr=>Oz wr (w.heap.size+1))
 case atStart=>exact ⟨_,_,_,D0⟩
 case round =>
  obtain ⟨v,ns,r,D⟩:=hrel;obtain ⟨va,vc,hva⟩:=D.out.2.2.2.2.2.2.slice;subst hva
  go_wp2_with fail
  refine (xp w wr (w.heap.size+1) r D.out.2.2.2.1).mono ?_;rintro e w1 ⟨rfl,rfl⟩
  by_cases hr:r=[]
  · subst hr
    rw [show decide (([]:List Int)=[])=true from rfl];obtain ⟨t1,-,t3,-,⟨tz,z0,z1,zf⟩,⟨-,b0,-⟩,t7⟩:=D.out;have AE:=ZU t1.done;have LW:=ZU t3;have Z7:=ZU t7
    go_wp2_with fail
    refine (UL _ _ ns Z7.out.rd LW.out.at).mono ?_;rintro e w2 ⟨rfl,b2⟩;have Z6:=ZU (Z7.out.below b2);have HB2:=ZU (D.out.below.trans (b2.mono D.out.below.size));obtain ⟨-,z0,z1,zf⟩:=D.out.2.2.2.2.1.turn (grown_of b2 none) (by simp);obtain ⟨-,d0,-⟩:=D.out.2.2.2.2.2.1.turn (grown_of b2 none) (by simp);have f0:=zf 0;have f1:=zf 1
    by_cases hok:WE ns=true
    · have HF:Hid (∀W,W=(w2.setCell ⟨w.heap.size,0,none⟩ (.bool true)).setCell ⟨w.heap.size,1,none⟩ (.slice va ns.length vc)→Io w ys (.returned (.agg #[.bool true,.slice va ns.length vc])) W):=by
       rintro W rfl;refine ⟨(HB2.out.setCell (p:=⟨w.heap.size,0,none⟩) YR _).setCell (p:=⟨w.heap.size,1,none⟩) YR _,.inr ⟨ns,_,?_,rfl,?_⟩⟩
       · unfold FX;rw [AE.out];simp only;rw [Z0 hok]
       exact XU.mono (XU.VA (XU.VA Z6.out (by show w.heap.size<w.heap.size+3;omega) _) (by show w.heap.size<w.heap.size+3;omega) _) (by omega)
      rw [hok];go_wp2;refine XE (f:=176) (args:=#[]) (by simp) (by simp [go_sem]) ?_;refine (Mf _).mono ?_;rintro e u' w3 ⟨rfl,rfl,rfl⟩
      simp [Leaves,settle,results,Tryz.results133,go_sem,z0,z1]
      exact HF.out _ rfl
    have hok':WE ns=false:=by simpa using hok
    have HF:Hid (∀W,W=(w2.setCell ⟨w.heap.size,0,none⟩ (.bool false)).setCell ⟨w.heap.size,1,none⟩ (.slice none 0 0)→Io w ys (.returned (.agg #[.bool false,.slice none 0 0])) W):=by
     rintro W rfl;refine ⟨(HB2.out.setCell (p:=⟨w.heap.size,0,none⟩) YR _).setCell (p:=⟨w.heap.size,1,none⟩) YR _,.inl ⟨?_,rfl⟩⟩;unfold FX;rw [AE.out];simp only;rw [Z1 hok]
    rw [hok'];go_wp2;refine XE (f:=176) (args:=#[]) (by simp) (by simp [go_sem]) ?_;refine (Mf _).mono ?_;rintro e u' w3 ⟨rfl,rfl,rfl⟩
    simp [Leaves,settle,results,Tryz.results133,go_sem,z0,z1]
    exact HF.out _ rfl
  rw [Zo hr];have HBAD:Hid (QE r=none→∀W W',w1.drew.grownBy W (some (w.heap.size+1))→Zi W W'→W'.cell? ⟨w.heap.size,0,none⟩=some (.bool false)∧W'.cell? ⟨w.heap.size,1,none⟩=some (.slice none 0 0)∧Io w ys (.returned (.agg #[.bool false,.slice none 0 0])) W'):=by
   intro hp W W' hg hb;have z:=((D.out.drewN 1).2.2.2.2.1.turn hg (by simp)).turn (grown_of hb none) (by simp);have hB:=(D.out.drewN 1).below.grown hg (D.out.drewN 1).below.size (fun q hq=>by simp only [ZK] at hq;omega);refine ⟨z.2.1,z.2.2.1,WD hB hb,.inl ⟨?_,rfl⟩⟩;unfold FX;rw [D.out.1.bad hr hp]
  have ZB:Hid (r≠[]):=hr;have lN:Hid (ns.length+r.length≤ys.length):=by obtain ⟨f,-,-,h⟩:=D.out.1;exact h
  have hns:ns.length≤1048576:=by have:=lN.out;omega
  have c0:=D.out.2.2.2.2.2.1.2.1
  cases hrd:QE r with
  | none =>
   have DA:=ZU hrd;go_wp2;refine ZX (S:=fun _=>True) (by kernel_rfl) trivial (fun Z9=>?_);refine QG 0 2 rfl rfl (by kernel_rfl) (fun K hK=>?_) (fun K hK=>?_)
   · go_simp
     refine hK.out _ _ trivial (fun YA=>?_);refine QG 1 2 rfl rfl (by kernel_rfl) (fun K hK=>?_) (fun K hK=>?_)
     · go_simp
       refine hK.out _ _ trivial (fun YA=>?_);refine YS 2 rfl (by kernel_rfl) (fun K hK=>?_);go_simp;refine hK.out _ _ trivial (fun YA=>?_);refine YS 3 rfl (by kernel_rfl) (fun K hK=>?_);go_simp;refine (VF w w1.drew (w.heap.size+1) r (D.out.drewN 1).2.2.2.1 D.out.2.1).mono ?_;rintro e W1 ⟨g1,hp⟩
       rcases hp with ⟨hp,rfl⟩ | ⟨n,r',hp,rfl,hr1⟩
       · refine XE (f:=176) (args:=#[]) (by simp) (by simp [go_sem]) ?_
         refine (Sa [] _).mono ?_;rintro e u' w3 ⟨rfl,rfl,b3⟩;obtain ⟨z0,z1,hF⟩:=HBAD.out hp _ _ g1 b3
         simp [Leaves,settle,results,Tryz.results133,go_sem,z0,z1]
         exact hF
       rw [DA.out] at hp;cases hp
     go_simp;refine hK.out _ _ trivial (fun YA=>?_);refine QG 1 3 rfl rfl (by kernel_rfl) (fun K hK=>?_) (fun K hK=>?_)
     · go_simp
       refine hK.out _ _ trivial (fun YA=>?_);refine YS 3 rfl (by kernel_rfl) (fun K hK=>?_);go_simp;refine (VF w w1.drew (w.heap.size+1) r (D.out.drewN 1).2.2.2.1 D.out.2.1).mono ?_;rintro e W1 ⟨g1,hp⟩
       rcases hp with ⟨hp,rfl⟩ | ⟨n,r',hp,rfl,hr1⟩
       · refine XE (f:=176) (args:=#[]) (by simp) (by simp [go_sem]) ?_
         refine (Sa [] _).mono ?_;rintro e u' w3 ⟨rfl,rfl,b3⟩;obtain ⟨z0,z1,hF⟩:=HBAD.out hp _ _ g1 b3
         simp [Leaves,settle,results,Tryz.results133,go_sem,z0,z1]
         exact hF
       rw [DA.out] at hp;cases hp
     go_simp;refine (VF w w1.drew (w.heap.size+1) r (D.out.drewN 1).2.2.2.1 D.out.2.1).mono ?_;rintro e W1 ⟨g1,hp⟩
     rcases hp with ⟨hp,rfl⟩ | ⟨n,r',hp,rfl,hr1⟩
     · refine XE (f:=176) (args:=#[]) (by simp) (by simp [go_sem]) ?_
       refine (Sa [] _).mono ?_;rintro e u' w3 ⟨rfl,rfl,b3⟩;obtain ⟨z0,z1,hF⟩:=HBAD.out hp _ _ g1 b3
       simp [Leaves,settle,results,Tryz.results133,go_sem,z0,z1]
       exact hF
     rw [DA.out] at hp;cases hp
   go_simp;refine hK.out _ _ trivial (fun YA=>?_);refine QG 0 3 rfl rfl (by kernel_rfl) (fun K hK=>?_) (fun K hK=>?_)
   · go_simp
     refine hK.out _ _ trivial (fun YA=>?_);refine QG 1 3 rfl rfl (by kernel_rfl) (fun K hK=>?_) (fun K hK=>?_)
     · go_simp
       refine hK.out _ _ trivial (fun YA=>?_);refine YS 3 rfl (by kernel_rfl) (fun K hK=>?_);go_simp;refine (VF w w1.drew (w.heap.size+1) r (D.out.drewN 1).2.2.2.1 D.out.2.1).mono ?_;rintro e W1 ⟨g1,hp⟩
       rcases hp with ⟨hp,rfl⟩ | ⟨n,r',hp,rfl,hr1⟩
       · refine XE (f:=176) (args:=#[]) (by simp) (by simp [go_sem]) ?_
         refine (Sa [] _).mono ?_;rintro e u' w3 ⟨rfl,rfl,b3⟩;obtain ⟨z0,z1,hF⟩:=HBAD.out hp _ _ g1 b3
         simp [Leaves,settle,results,Tryz.results133,go_sem,z0,z1]
         exact hF
       rw [DA.out] at hp;cases hp
     go_simp;refine (VF w w1.drew (w.heap.size+1) r (D.out.drewN 1).2.2.2.1 D.out.2.1).mono ?_;rintro e W1 ⟨g1,hp⟩
     rcases hp with ⟨hp,rfl⟩ | ⟨n,r',hp,rfl,hr1⟩
     · refine XE (f:=176) (args:=#[]) (by simp) (by simp [go_sem]) ?_
       refine (Sa [] _).mono ?_;rintro e u' w3 ⟨rfl,rfl,b3⟩;obtain ⟨z0,z1,hF⟩:=HBAD.out hp _ _ g1 b3
       simp [Leaves,settle,results,Tryz.results133,go_sem,z0,z1]
       exact hF
     rw [DA.out] at hp;cases hp
   go_simp;refine (VF w w1.drew (w.heap.size+1) r (D.out.drewN 1).2.2.2.1 D.out.2.1).mono ?_;rintro e W1 ⟨g1,hp⟩
   rcases hp with ⟨hp,rfl⟩ | ⟨n,r',hp,rfl,hr1⟩
   · refine XE (f:=176) (args:=#[]) (by simp) (by simp [go_sem]) ?_
     refine (Sa [] _).mono ?_;rintro e u' w3 ⟨rfl,rfl,b3⟩;obtain ⟨z0,z1,hF⟩:=HBAD.out hp _ _ g1 b3
     simp [Leaves,settle,results,Tryz.results133,go_sem,z0,z1]
     exact hF
   rw [DA.out] at hp;cases hp
  | some q =>
   obtain ⟨n0,r0⟩:=q;have DA:=ZU hrd;go_wp2;refine wp_region_noPanic ?_;refine ZX (S:=fun _=>True) (by kernel_rfl) (trivial) (fun Z9=>?_);refine Zf (.pointer (some ⟨w.heap.size+1+1,0,none⟩)) (by kernel_rfl) (fun _=>id) Z9 ?_ ?_
   · intro w9 ZQ;go_simp
   refine Yp 2 (.pointer (some ⟨w.heap.size+1,0,none⟩)) rfl (by kernel_rfl) (fun _=>id) Z9 ?hy2 ?_
   case hy2=>intro w9 ZQ;go_simp
   refine QG 1 3 rfl rfl (by kernel_rfl) (fun K hK=>?_) (fun K hK=>?_)
   · go_simp
     refine hK.out _ _ trivial (fun YA=>?_);refine YS 3 rfl (by kernel_rfl) (fun K hK=>?_);go_simp;refine (VF w w1.drew (w.heap.size+1) r (D.out.drewN 1).2.2.2.1 D.out.2.1).mono ?_;rintro e W1 ⟨g1,hp⟩
     rcases hp with ⟨hp,rfl⟩ | ⟨n,r',hp,rfl,hr1⟩
     · rw [DA.out] at hp;cases hp
     have T1:=ZU ((D.out.drewN 1).read g1 hp hr1);have ND:=ZU ((Nv hp D.out.2.1).2.1);have c1:=T1.out.2.2.2.2.2.1.2.1;refine hK.out _ _ trivial (fun YA=>?_);refine Zf (tJ n) (by kernel_rfl) (fun _=>id) Z9 ?_ ?_
     · intro w9 ZQ;unfold tJ;have ZG:=La n w9;go_simp
     refine YS 5 rfl (by kernel_rfl) (fun K hK=>?_);unfold tJ;go_simp;have T2:Hid (TR w ys (W1.alloc (.cells #[.string n.path,.string n.data,.int .i64 n.XT,.int .i64 n.XQ,.int .i64 n.cz,.int .i64 n.mz,.int .i64 n.pz] 147)) (.slice va ns.length vc) ns n r'):=T1.out.alloc _;have NC:Hid (∀j u,(Uu n)[j]?=some u→(W1.alloc (.cells #[.string n.path,.string n.data,.int .i64 n.XT,.int .i64 n.XQ,.int .i64 n.cz,.int .i64 n.mz,.int .i64 n.pz] 147)).cell? ((⟨W1.heap.size,0,none⟩:Addr).add j)=some u):=Qn _ _ _;refine hK.out _ _ trivial (fun YA=>?_);generalize W1.alloc _=W2 at *;generalize W1.heap.size=G1 at *;have c1:=T2.out.2.2.2.2.2.1.2.1;refine YS 6 rfl (by kernel_rfl) (fun K hK=>?_);refine step_append rfl (.tmp 12) (.tmp 16) 61 rfl (w.heap.size+3) 147 i0 (.agg #[.string ByteArray.empty,.string ByteArray.empty,.int .i64 0,.int .i64 0,.int .i64 0,.int .i64 0,.int .i64 0]) 7 72 Tryz.underlying61 hi hz0 hz1 hz2 rfl (by decide) (.slice va ns.length vc) ns.length _ rfl T2.out.2.2.2.2.2.2 ⟨G1,0,none⟩ 1 1 (Uu n) rfl rfl NC.out (Pb n) (by unfold maxLen;omega) (by omega) (by have:=T2.out.2.2.2.2.2.1.1;omega) ?_;intro v3 W3 ho3 hg3;have D3:=ZU (T2.out.push hg3 ho3);obtain ⟨a3,q3,hv3⟩:=D3.out.2.2.2.2.2.2.slice;rw [show (ns++[n]).length=ns.length+1 by simp] at hv3;subst hv3;obtain ⟨-,c3,f3⟩:=T2.out.2.2.2.2.2.1.turn hg3 (fun e=>by have:=(ZT T2.out.2.2.2.2.2.2 _ e.symm).1;omega);refine hK.out _ _ trivial (fun YA=>?_);refine Zf (.pointer (some ⟨w.heap.size+1+1,0,none⟩)) (by kernel_rfl) (fun _=>id) Z9 ?_ ?_
     · intro w9 ZQ;go_simp
     refine YS 8 rfl (by kernel_rfl) (fun K hK=>?_);go_simp;refine hK.out _ _ trivial (fun YA=>?_);refine ZR (by kernel_rfl) (NoPanic.normal ?_) _
     try simp only [Act.put,WV,WU,WT]
     go_wp2;refine ⟨⟨_,_,_,D3⟩,?_⟩;rw [D3.out.2.2.2.1.Oz,D.out.2.2.2.1.Oz];exact ND.out
   go_simp;refine (VF w w1.drew (w.heap.size+1) r (D.out.drewN 1).2.2.2.1 D.out.2.1).mono ?_;rintro e W1 ⟨g1,hp⟩
   rcases hp with ⟨hp,rfl⟩ | ⟨n,r',hp,rfl,hr1⟩
   · rw [DA.out] at hp;cases hp
   have T1:=ZU ((D.out.drewN 1).read g1 hp hr1);have ND:=ZU ((Nv hp D.out.2.1).2.1);have c1:=T1.out.2.2.2.2.2.1.2.1;refine hK.out _ _ trivial (fun YA=>?_);refine Yp 4 (tJ n) rfl (by kernel_rfl) (fun _=>id) Z9 ?DN ?_
   case DN =>
    intro w9 ZQ;unfold tJ;have ZG:=La n w9;go_simp
   refine QG 1 5 rfl rfl (by kernel_rfl) (fun K hK=>?_) (fun K hK=>?_)
   · go_simp
     refine hK.out _ _ trivial (fun YA=>?_);refine YS 5 rfl (by kernel_rfl) (fun K hK=>?_);unfold tJ;go_simp;have T2:Hid (TR w ys (W1.alloc (.cells #[.string n.path,.string n.data,.int .i64 n.XT,.int .i64 n.XQ,.int .i64 n.cz,.int .i64 n.mz,.int .i64 n.pz] 147)) (.slice va ns.length vc) ns n r'):=T1.out.alloc _;have NC:Hid (∀j u,(Uu n)[j]?=some u→(W1.alloc (.cells #[.string n.path,.string n.data,.int .i64 n.XT,.int .i64 n.XQ,.int .i64 n.cz,.int .i64 n.mz,.int .i64 n.pz] 147)).cell? ((⟨W1.heap.size,0,none⟩:Addr).add j)=some u):=Qn _ _ _;refine hK.out _ _ trivial (fun YA=>?_);generalize W1.alloc _=W2 at *;generalize W1.heap.size=G1 at *;have c1:=T2.out.2.2.2.2.2.1.2.1;refine YS 6 rfl (by kernel_rfl) (fun K hK=>?_);refine step_append rfl (.tmp 12) (.tmp 16) 61 rfl (w.heap.size+3) 147 i0 (.agg #[.string ByteArray.empty,.string ByteArray.empty,.int .i64 0,.int .i64 0,.int .i64 0,.int .i64 0,.int .i64 0]) 7 72 Tryz.underlying61 hi hz0 hz1 hz2 rfl (by decide) (.slice va ns.length vc) ns.length _ rfl T2.out.2.2.2.2.2.2 ⟨G1,0,none⟩ 1 1 (Uu n) rfl rfl NC.out (Pb n) (by unfold maxLen;omega) (by omega) (by have:=T2.out.2.2.2.2.2.1.1;omega) ?_;intro v3 W3 ho3 hg3;have D3:=ZU (T2.out.push hg3 ho3);obtain ⟨a3,q3,hv3⟩:=D3.out.2.2.2.2.2.2.slice;rw [show (ns++[n]).length=ns.length+1 by simp] at hv3;subst hv3;obtain ⟨-,c3,f3⟩:=T2.out.2.2.2.2.2.1.turn hg3 (fun e=>by have:=(ZT T2.out.2.2.2.2.2.2 _ e.symm).1;omega);refine hK.out _ _ trivial (fun YA=>?_);refine Zf (.pointer (some ⟨w.heap.size+1+1,0,none⟩)) (by kernel_rfl) (fun _=>id) Z9 ?_ ?_
     · intro w9 ZQ;go_simp
     refine YS 8 rfl (by kernel_rfl) (fun K hK=>?_);go_simp;refine hK.out _ _ trivial (fun YA=>?_);refine ZR (by kernel_rfl) (NoPanic.normal ?_) _
     try simp only [Act.put,WV,WU,WT]
     go_wp2;refine ⟨⟨_,_,_,D3⟩,?_⟩;rw [D3.out.2.2.2.1.Oz,D.out.2.2.2.1.Oz];exact ND.out
   unfold tJ;go_simp;have T2:Hid (TR w ys (W1.alloc (.cells #[.string n.path,.string n.data,.int .i64 n.XT,.int .i64 n.XQ,.int .i64 n.cz,.int .i64 n.mz,.int .i64 n.pz] 147)) (.slice va ns.length vc) ns n r'):=T1.out.alloc _;have NC:Hid (∀j u,(Uu n)[j]?=some u→(W1.alloc (.cells #[.string n.path,.string n.data,.int .i64 n.XT,.int .i64 n.XQ,.int .i64 n.cz,.int .i64 n.mz,.int .i64 n.pz] 147)).cell? ((⟨W1.heap.size,0,none⟩:Addr).add j)=some u):=Qn _ _ _;refine hK.out _ _ trivial (fun YA=>?_);generalize W1.alloc _=W2 at *;generalize W1.heap.size=G1 at *;have c1:=T2.out.2.2.2.2.2.1.2.1;refine YS 1 rfl (by kernel_rfl) (fun K hK=>?_);go_simp;refine hK.out _ _ trivial (fun YA=>?_);refine YS 6 rfl (by kernel_rfl) (fun K hK=>?_);refine step_append rfl (.tmp 12) (.tmp 16) 61 rfl (w.heap.size+3) 147 i0 (.agg #[.string ByteArray.empty,.string ByteArray.empty,.int .i64 0,.int .i64 0,.int .i64 0,.int .i64 0,.int .i64 0]) 7 72 Tryz.underlying61 hi hz0 hz1 hz2 rfl (by decide) (.slice va ns.length vc) ns.length _ rfl T2.out.2.2.2.2.2.2 ⟨G1,0,none⟩ 1 1 (Uu n) rfl rfl NC.out (Pb n) (by unfold maxLen;omega) (by omega) (by have:=T2.out.2.2.2.2.2.1.1;omega) ?_;intro v3 W3 ho3 hg3;have D3:=ZU (T2.out.push hg3 ho3);obtain ⟨a3,q3,hv3⟩:=D3.out.2.2.2.2.2.2.slice;rw [show (ns++[n]).length=ns.length+1 by simp] at hv3;subst hv3;obtain ⟨-,c3,f3⟩:=T2.out.2.2.2.2.2.1.turn hg3 (fun e=>by have:=(ZT T2.out.2.2.2.2.2.2 _ e.symm).1;omega);refine hK.out _ _ trivial (fun YA=>?_);refine Zf (.pointer (some ⟨w.heap.size+1+1,0,none⟩)) (by kernel_rfl) (fun _=>id) Z9 ?_ ?_
   · intro w9 ZQ;go_simp
   refine YS 8 rfl (by kernel_rfl) (fun K hK=>?_);go_simp;refine hK.out _ _ trivial (fun YA=>?_);refine ZR (by kernel_rfl) (NoPanic.normal ?_) _
   try simp only [Act.put,WV,WU,WT]
   go_wp2;refine ⟨⟨_,_,_,D3⟩,?_⟩;rw [D3.out.2.2.2.1.Oz,D.out.2.2.2.1.Oz];exact ND.out
def Nu (ns:List Nd) (p:ByteArray):List Nd:=ns.filter fun n=>!(n.path.toList == p.toList)
def GM (n:Nd) (st:List Nd × Bool) (m:Nd):List Nd × Bool :=
 let o:=if !st.2 && !(Op.bytesLess m.path.toList n.path.toList) then (st.1++[n],true) else st
 if m.path.toList == n.path.toList then o else (o.1++[m],o.2)
def qi (ns:List Nd) (n:Nd):List Nd × Bool:=ns.foldl (GM n) ([],false)
def LU (ns:List Nd) (n:Nd):List Nd:=if (qi ns n).2 then (qi ns n).1 else (qi ns n).1++[n]
def blank (n:Nd):Bool:=(n.data.toList == []) && (n.XT == 0) && (n.XQ == 0) && (n.cz == 0) && (n.mz == 0) && (n.pz == 0)
def Sm (e:Ef):Bool:=Wl e.nd && (!e.del || blank e.nd)
theorem K8 (h:e.del=false):Sm e=Wl e.nd:=by unfold Sm;rw [h];simp
theorem Jk (h:e.del=true):Sm e=(Wl e.nd && blank e.nd):=by unfold Sm;rw [h];simp
theorem LT (w:World) (n:Ef) (hd:n.nd.data.size≤1048576) :
    Calls Tryz.prog 202 #[.agg #[.bool n.del,.string n.nd.path,.string n.nd.data,.int .i64 n.nd.XT,.int .i64 n.nd.XQ,.int .i64 n.nd.cz,.int .i64 n.nd.mz,.int .i64 n.nd.pz]] w (Wj w (.bool (Sm n))):=by
 have B0:Hid (∀o,Zi w (w.alloc o)):=fun o=>Yy.alloc YR _
 cases hdel:n.del with
 | false =>
  have HE:=ZU (K8 hdel)
  go_enter Tryz.func202,Tryz.ntmps202
  go_wp2_with fail
  refine (Qc _ n.nd hd).mono ?_;rintro e w1 ⟨rfl,b1⟩;have B1:=ZU ((B0.out _).trans (b1.mono (by simp)));clear b1;go_wp2;go_ret;exact ⟨Ws HE.out.symm,B1.out⟩
 | true =>
  have HE:=ZU (Jk hdel);clear hdel;have qh:(n.nd.path.toList == n.nd.path.toList)=true:=by simp
  cases P:(n.nd.data.toList == []) with
  | false =>
   have HN:Hid (Sm n=false):=by show _=_;rw [HE.out];unfold blank;rw [P];simp
   go_enter Tryz.func202,Tryz.ntmps202
   go_wp2_with fail
   go_ret;exact ⟨Ws HN.out.symm,B0.out _⟩
  | true =>
   cases Gc:(n.nd.XT == 0) with
   | false =>
    have HN:Hid (Sm n=false):=by show _=_;rw [HE.out];unfold blank;rw [Gc];simp
    go_enter Tryz.func202,Tryz.ntmps202
    go_wp2_with fail
    go_ret;exact ⟨Ws HN.out.symm,B0.out _⟩
   | true =>
    cases Li:(n.nd.XQ == 0) with
    | false =>
     have HN:Hid (Sm n=false):=by show _=_;rw [HE.out];unfold blank;rw [Li];simp
     go_enter Tryz.func202,Tryz.ntmps202
     go_wp2_with fail
     go_ret;exact ⟨Ws HN.out.symm,B0.out _⟩
    | true =>
     cases xI:(n.nd.cz == 0) with
     | false =>
      have HN:Hid (Sm n=false):=by show _=_;rw [HE.out];unfold blank;rw [xI];simp
      go_enter Tryz.func202,Tryz.ntmps202
      go_wp2_with fail
      go_ret;exact ⟨Ws HN.out.symm,B0.out _⟩
     | true =>
      cases xH:(n.nd.mz == 0) with
      | false =>
       have HN:Hid (Sm n=false):=by show _=_;rw [HE.out];unfold blank;rw [xH];simp
       go_enter Tryz.func202,Tryz.ntmps202
       go_wp2_with fail
       go_ret;exact ⟨Ws HN.out.symm,B0.out _⟩
      | true =>
       cases xG:(n.nd.pz == 0) with
       | false =>
        have HN:Hid (Sm n=false):=by show _=_;rw [HE.out];unfold blank;rw [xG];simp
        go_enter Tryz.func202,Tryz.ntmps202
        go_wp2_with fail
        go_ret;exact ⟨Ws HN.out.symm,B0.out _⟩
       | true =>
        have HY:Hid (Sm n=Wl n.nd):=by show _=_;rw [HE.out];unfold blank;rw [P,Gc,Li,xI,xH,xG];simp
        go_enter Tryz.func202,Tryz.ntmps202
        go_wp2_with fail
        refine (Qc _ n.nd hd).mono ?_;rintro e w1 ⟨rfl,b1⟩;have B1:=ZU ((B0.out _).trans (b1.mono (by simp)));clear b1;go_wp2;go_ret;exact ⟨Ws HY.out.symm,B1.out⟩
structure Nt (w:World) (B:Nat) (n:Ef):Prop where
 lt:B<w.heap.size
 c0:w.cell? ⟨B,0,none⟩=some (.bool n.del)
 c1:w.cell? ⟨B,1,none⟩=some (.string n.nd.path)
 c2:w.cell? ⟨B,2,none⟩=some (.string n.nd.data)
 c3:w.cell? ⟨B,3,none⟩=some (.int .i64 n.nd.XT)
 c4:w.cell? ⟨B,4,none⟩=some (.int .i64 n.nd.XQ)
 c5:w.cell? ⟨B,5,none⟩=some (.int .i64 n.nd.cz)
 c6:w.cell? ⟨B,6,none⟩=some (.int .i64 n.nd.mz)
 c7:w.cell? ⟨B,7,none⟩=some (.int .i64 n.nd.pz)
theorem Nt.new (w:World) (n:Ef) (t:TypeId):Nt (w.alloc (.cells #[.bool n.del,.string n.nd.path,.string n.nd.data,.int .i64 n.nd.XT,.int .i64 n.nd.XQ,.int .i64 n.nd.cz,.int .i64 n.nd.mz,.int .i64 n.nd.pz] t)) w.heap.size n :=
 ⟨by simp,by simp,by simp,by simp,by simp,by simp,by simp,by simp,by simp⟩
theorem Nt.below {n:Ef} (h:Nt w B n) (hb:Zi w w'):Nt w' B n :=
 ⟨ZY h.lt hb.size,(hb.cell (p:=⟨B,_,none⟩) h.lt).trans h.c0,(hb.cell (p:=⟨B,_,none⟩) h.lt).trans h.c1,(hb.cell (p:=⟨B,_,none⟩) h.lt).trans h.c2,(hb.cell (p:=⟨B,_,none⟩) h.lt).trans h.c3,(hb.cell (p:=⟨B,_,none⟩) h.lt).trans h.c4,(hb.cell (p:=⟨B,_,none⟩) h.lt).trans h.c5,(hb.cell (p:=⟨B,_,none⟩) h.lt).trans h.c6,(hb.cell (p:=⟨B,_,none⟩) h.lt).trans h.c7⟩
theorem Nt.all {n:Ef} (h:Nt w B n):w.cell? ⟨B,0,none⟩=some (.bool n.del)∧w.cell? ⟨B,1,none⟩=some (.string n.nd.path)∧w.cell? ⟨B,2,none⟩=some (.string n.nd.data)∧w.cell? ⟨B,3,none⟩=some (.int .i64 n.nd.XT)∧w.cell? ⟨B,4,none⟩=some (.int .i64 n.nd.XQ)∧w.cell? ⟨B,5,none⟩=some (.int .i64 n.nd.cz)∧w.cell? ⟨B,6,none⟩=some (.int .i64 n.nd.mz)∧w.cell? ⟨B,7,none⟩=some (.int .i64 n.nd.pz):=⟨h.c0,h.c1,h.c2,h.c3,h.c4,h.c5,h.c6,h.c7⟩
def PW (ns:List Ef) (k:Nat):Bool:=Sm (Vr ns k) && (decide (k=0) || Ty (Vr ns (k - 1)).nd.path (Vr ns k).nd.path)
def MK (ns:List Ef):Bool:=(List.range ns.length).all (PW ns)
def Tl (z:Int) (ns:List Ef):Bool:=decide (1≤z) && decide (z≤2147483647) && decide (ns.length≤1000) && MK ns
theorem qg {ns:List Ef} (h:k<ns.length) (hn:PW ns k=false):MK ns=false:=by
 unfold MK;rw [VQ];exact ⟨k,Yb.2 h,by rw [hn];simp⟩
theorem xn {ns:List Ef} (h:∀k,k<ns.length→PW ns k=true):MK ns=true:=by
 unfold MK;rw [Yw];exact fun k hk=>h k (Yb.1 hk)
theorem K7 (ns:List Ef):PW ns 0=Sm (Vr ns 0):=by unfold PW;simp
theorem P8 (ns:List Ef) (j:Nat):PW ns (j+1)=(Sm (Vr ns (j+1)) && Ty (Vr ns j).nd.path (Vr ns (j+1)).nd.path):=by unfold PW;simp
theorem FR (w:World) (z:Int) (b o n cap:Nat) (ns:List Ef) (hz1:¬z<1) (hz2:¬2147483647<z) (hp:ns.length=n) (hn:n≤1000) (hb:b<w.heap.size) (hsz:∀i,(Vr ns i).nd.path.size≤1048576∧(Vr ns i).nd.data.size≤1048576)
    (hc:∀i,i<n→PD w b (o+i*8) (Vr ns i)) :
    Calls Tryz.prog 169 #[.agg #[.int .i64 z,.slice (some ⟨b,o,none⟩) n cap]] w (Wj w (.bool (MK ns))):=by
 have HC:=ZU hc;have HP:=ZU hp;have HZ:=ZU hsz;have xF:¬(1000:Int)<(n:Int):=by omega
 clear hc hp hsz;have B0:Hid (Zi w (w.alloc (.cells #[.int .i64 z,.slice (some ⟨b,o,none⟩) n cap] 192))):=Yy.alloc YR _;have Z5:Hid ((w.alloc (.cells #[.int .i64 z,.slice (some ⟨b,o,none⟩) n cap] 192)).cell? ⟨w.heap.size,1,none⟩=some (.slice (some ⟨b,o,none⟩) n cap)):=by show _=_;simp
 have z0:w.heap.size<(w.alloc (.cells #[.int .i64 z,.slice (some ⟨b,o,none⟩) n cap] 192)).heap.size:=by simp
 go_enter Tryz.func169,Tryz.ntmps169
 go_wp2;generalize w.alloc _=w0 at *
 go_loopw [18] (fun i wr=>∃k:Nat,k≤n∧i=.int .i64 k∧Hid (∀t,t<k→PW ns t=true)∧Hid (Zi w0 wr)) (fun i _=>n - (intOf i).toNat)
 case atStart=>exact ⟨0,Zu _,rfl,(fun t ht=>by omega),Yy⟩
 case round =>
  obtain ⟨k,hk,rfl,HA,HG⟩:=hrel;have xE:=ZU (B0.out.trans (HG.out.mono (by omega)));have cT:=(HG.out.cell (p:=⟨w.heap.size,1,none⟩) z0).trans Z5.out
  by_cases hlt:k<n
  · have Rj:(k:Int)<(n:Int):=by omega
    have g0:(0:Int)≤(k:Int):=by omega
    have ND:Hid (k<ns.length):=by rw [HP.out];exact hlt
    obtain ⟨c0,c1,c2,c3,c4,c5,c6,c7⟩:=(HC.out k hlt).below xE.out hb;have XN:Hid (Nt (wr.alloc (.cells #[.bool (Vr ns k).del,.string (Vr ns k).nd.path,.string (Vr ns k).nd.data,.int .i64 (Vr ns k).nd.XT,.int .i64 (Vr ns k).nd.XQ,.int .i64 (Vr ns k).nd.cz,.int .i64 (Vr ns k).nd.mz,.int .i64 (Vr ns k).nd.pz] 249)) wr.heap.size (Vr ns k)):=Nt.new _ _ _;have BN:Hid (Zi wr (wr.alloc (.cells #[.bool (Vr ns k).del,.string (Vr ns k).nd.path,.string (Vr ns k).nd.data,.int .i64 (Vr ns k).nd.XT,.int .i64 (Vr ns k).nd.XQ,.int .i64 (Vr ns k).nd.cz,.int .i64 (Vr ns k).nd.mz,.int .i64 (Vr ns k).nd.pz] 249))):=Yy.alloc YR _;go_wp2;clear c0 c1 c2 c3 c4 c5 c6 c7 cT;generalize wr.alloc _=wn at *;have zr:=HG.out.size;obtain ⟨B,hB⟩:∃B,B=wr.heap.size:=⟨_,rfl⟩;rw [←hB] at XN;rw [←hB];have Az:Hid (∀W,Zi wn W→Zi w W):=fun W hW=>(WD xE.out BN.out).trans (hW.mono (ZJ xE.out.size BN.out.size))
    have oG:Hid (∀W,Zi wn W→Hid (Zi w0 W)):=fun W hW=>(WD HG.out BN.out).trans (hW.mono (ZJ HG.out.size BN.out.size))
    have CT:Hid (∀W,Zi wn W→W.cell? ⟨w.heap.size,1,none⟩=some (.slice (some ⟨b,o,none⟩) n cap)):=fun W hW=>((oG.out W hW).out.cell (p:=⟨w.heap.size,1,none⟩) z0).trans Z5.out
    have HE:Hid (∀q,Calls Tryz.prog 202 #[.agg #[.bool (Vr ns k).del,.string (Vr ns k).nd.path,.string (Vr ns k).nd.data,.int .i64 (Vr ns k).nd.XT,.int .i64 (Vr ns k).nd.XQ,.int .i64 (Vr ns k).nd.cz,.int .i64 (Vr ns k).nd.mz,.int .i64 (Vr ns k).nd.pz]] (wn.drewN q) fun e w'=>e=.returned (.bool (Sm (Vr ns k)))∧Hid (Zi wn w')):=by
     intro q;refine (LT _ (Vr ns k) (HZ.out k).2).mono ?_;rintro e w' ⟨rfl,b'⟩;exact ⟨rfl,(below_drewN' wn q).trans b'⟩
    have HD:Hid (Zi wn wn.drew):=below_drewN' wn 1;have ep:=ZU hB;clear hB BN
    cases hok:Sm (Vr ns k) with
    | false =>
     have PX:=ZU hok;have HN:=ZU (qg ND.out (by unfold PW;rw [hok];rfl));clear hok;refine ZX (S:=fun W=>Hid (Zi wn W)∧iM W B (Vr ns k)) (by kernel_rfl) (⟨HD,(XN.out.below HD.out).all⟩) (fun Z9=>?_);refine Zf ?_ (by kernel_rfl) (fun _=>id) Z9 ?_ ?_
     rotate_left
     · intro w9 ZQ;obtain ⟨-,ZQ⟩:=ZQ;go_simp;try with_reducible rfl
     refine YS 1 rfl (by kernel_rfl) (fun K hK=>?_);go_simp;refine (HE.out 1).mono ?_;rintro e w' ⟨rfl,HB⟩;rw [PX.out];clear Z9;refine hK.out _ _ (⟨HB,(XN.out.below HB.out).all⟩) (fun Z9=>?_);clear hK K
     iterate 2 (refine Zf ?_ (by kernel_rfl) (fun _=>id) Z9 ?_ ?_;rotate_left;· intro w9 ZQ;obtain ⟨-,ZQ⟩:=ZQ;go_simp;try with_reducible rfl)
     iterate 16 (refine J7 (by kernel_rfl) (fun _=>id) Z9 ?_)
     refine Zf ?_ (by kernel_rfl) (fun _=>id) Z9 ?_ ?_
     rotate_left
     · intro w9 ZQ;obtain ⟨-,ZQ⟩:=ZQ;go_simp;try with_reducible rfl
     refine ZR (by kernel_rfl) ?_ _
     try simp only [Act.put,WV,WU,WT]
     clear Z9;go_wp2;go_ret;exact ⟨Ws HN.out.symm,Az.out _ HB.out⟩
    | true =>
     have PX:=ZU hok;clear hok
     cases k with
     | zero =>
      have g2:(0:Int)<(n:Int):=by omega
      have HT:Hid (PW ns 0=true):=by show _=_;rw [K7];exact PX.out
      refine ZX (S:=fun W=>Hid (Zi wn W)∧iM W B (Vr ns 0)) (by kernel_rfl) (⟨HD,(XN.out.below HD.out).all⟩) (fun Z9=>?_);refine Zf ?_ (by kernel_rfl) (fun _=>id) Z9 ?_ ?_
      rotate_left
      · intro w9 ZQ;obtain ⟨-,ZQ⟩:=ZQ;go_simp;try with_reducible rfl
      refine YS 1 rfl (by kernel_rfl) (fun K hK=>?_);go_simp;refine (HE.out 1).mono ?_;rintro e w' ⟨rfl,HB⟩;rw [PX.out];clear Z9;refine hK.out _ _ (⟨HB,(XN.out.below HB.out).all⟩) (fun Z9=>?_);clear hK K
      iterate 5 (refine Zf ?_ (by kernel_rfl) (fun _=>id) Z9 ?_ ?_;rotate_left;· intro w9 ZQ;obtain ⟨-,ZQ⟩:=ZQ;go_simp;try with_reducible rfl)
      iterate 12 (refine J7 (by kernel_rfl) (fun _=>id) Z9 ?_)
      iterate 2 (refine Zf ?_ (by kernel_rfl) (fun _=>id) Z9 ?_ ?_;rotate_left;· intro w9 ZQ;obtain ⟨-,ZQ⟩:=ZQ;go_simp;try with_reducible rfl)
      refine ZR (by kernel_rfl) ?_ _
      try simp only [Act.put,WV,WU,WT]
      clear Z9;go_wp2
      go_roundw
      case rel=>exact ⟨0+1,by omega,by go_num,(fun t ht=>by by_cases e:t=0;(subst e;exact HT.out);exact HA.out t (by omega)),oG.out _ HB.out⟩
      case measure=>simp [intOf];omega
     | succ j =>
      have g1:(0:Int)≤(j:Int)+1:=by omega
      have g2:(j:Int)+1<(n:Int):=by omega
      have g3:(0:Int)≤(j:Int):=by omega
      have g4:(j:Int)<(n:Int):=by omega
      have g5:(0:Int)<(j:Int)+1:=by omega
      have g6:IntKind.i64.wrap (j:Int)=(j:Int):=by rw [Zq];omega
      cases hcmp:Ty (Vr ns j).nd.path (Vr ns (j+1)).nd.path with
      | true =>
       have HT:Hid (PW ns (j+1)=true):=by show _=_;rw [P8,PX.out,hcmp];rfl
       have l1:Op.bytesLess (Vr ns j).nd.path.toList (Vr ns (j+1)).nd.path.toList=true:=hcmp;clear hcmp;refine ZX (S:=fun W=>Hid (Zi wn W)∧iM W B (Vr ns (j+1))∧W.cell? ⟨w.heap.size,1,none⟩=some (.slice (some ⟨b,o,none⟩) n cap)∧W.cell? ⟨b,o+j*8+1,none⟩=some (.string (Vr ns j).nd.path)) (by kernel_rfl) (⟨HD,(XN.out.below HD.out).all,(CT.out _ HD.out),((HC.out j (by omega)).below (Az.out _ HD.out) hb).c1⟩) (fun Z9=>?_);refine Zf ?_ (by kernel_rfl) (fun _=>id) Z9 ?_ ?_
       rotate_left
       · intro w9 ZQ;obtain ⟨-,ZQ⟩:=ZQ;go_simp;try with_reducible rfl
       refine YS 1 rfl (by kernel_rfl) (fun K hK=>?_);go_simp;refine (HE.out 1).mono ?_;rintro e w' ⟨rfl,HB⟩;rw [PX.out];clear Z9;refine hK.out _ _ (⟨HB,(XN.out.below HB.out).all,(CT.out _ HB.out),((HC.out j (by omega)).below (Az.out _ HB.out) hb).c1⟩) (fun Z9=>?_);clear hK K
       iterate 19 (refine Zf ?_ (by kernel_rfl) (fun _=>id) Z9 ?_ ?_;rotate_left;· intro w9 ZQ;obtain ⟨-,ZQ⟩:=ZQ;go_simp;try with_reducible rfl)
       refine ZR (by kernel_rfl) ?_ _
       try simp only [Act.put,WV,WU,WT]
       clear Z9;go_wp2
       go_roundw
       case rel=>exact ⟨(j+1)+1,by omega,by go_num,(fun t ht=>by by_cases e:t=(j+1);(subst e;exact HT.out);exact HA.out t (by omega)),oG.out _ HB.out⟩
       case measure=>simp [intOf];omega
      | false =>
       have HN:=ZU (qg ND.out (by rw [P8,hcmp,VE]));have l1:Op.bytesLess (Vr ns j).nd.path.toList (Vr ns (j+1)).nd.path.toList=false:=hcmp;clear hcmp;refine ZX (S:=fun W=>Hid (Zi wn W)∧iM W B (Vr ns (j+1))∧W.cell? ⟨w.heap.size,1,none⟩=some (.slice (some ⟨b,o,none⟩) n cap)∧W.cell? ⟨b,o+j*8+1,none⟩=some (.string (Vr ns j).nd.path)) (by kernel_rfl) (⟨HD,(XN.out.below HD.out).all,(CT.out _ HD.out),((HC.out j (by omega)).below (Az.out _ HD.out) hb).c1⟩) (fun Z9=>?_);refine Zf ?_ (by kernel_rfl) (fun _=>id) Z9 ?_ ?_
       rotate_left
       · intro w9 ZQ;obtain ⟨-,ZQ⟩:=ZQ;go_simp;try with_reducible rfl
       refine YS 1 rfl (by kernel_rfl) (fun K hK=>?_);go_simp;refine (HE.out 1).mono ?_;rintro e w' ⟨rfl,HB⟩;rw [PX.out];clear Z9;refine hK.out _ _ (⟨HB,(XN.out.below HB.out).all,(CT.out _ HB.out),((HC.out j (by omega)).below (Az.out _ HB.out) hb).c1⟩) (fun Z9=>?_);clear hK K
       iterate 19 (refine Zf ?_ (by kernel_rfl) (fun _=>id) Z9 ?_ ?_;rotate_left;· intro w9 ZQ;obtain ⟨-,ZQ⟩:=ZQ;go_simp;try with_reducible rfl)
       refine ZR (by kernel_rfl) ?_ _
       try simp only [Act.put,WV,WU,WT]
       clear Z9;go_wp2;go_ret;exact ⟨Ws HN.out.symm,Az.out _ HB.out⟩
  have HY:Hid (MK ns=true):=xn (fun t ht=>HA.out t (by rw [HP.out] at ht;omega));go_wp2;go_ret;exact ⟨Ws HY.out.symm,xE.out⟩
theorem FQ (w:World) (z:Int) (ao:Option Addr) (cap:Nat) (hz1:¬z<1) (hz2:¬2147483647<z) :
    Calls Tryz.prog 169 #[.agg #[.int .i64 z,.slice ao 0 cap]] w (Wj w (.bool true)):=by
 go_enter Tryz.func169,Tryz.ntmps169
 go_wp2
 go_rounds 1
 go_ret;exact ⟨rfl,Yy.alloc YR _⟩
theorem Dy (w:World) (z:Int) (ao:Option Addr) (n cap:Nat) (h:z<1∨2147483647<z∨1000<n) :
    Calls Tryz.prog 169 #[.agg #[.int .i64 z,.slice ao n cap]] w (Wj w (.bool false)):=by
 by_cases h1:z<1
 · clear h
   go_enter Tryz.func169,Tryz.ntmps169
   go_wp2;go_ret;exact ⟨rfl,Yy.alloc YR _⟩
 by_cases h2:2147483647<z
 · clear h
   go_enter Tryz.func169,Tryz.ntmps169
   go_wp2;go_ret;exact ⟨rfl,Yy.alloc YR _⟩
 have h3:(1000:Int)<(n:Int):=by omega
 clear h
 go_enter Tryz.func169,Tryz.ntmps169
 go_wp2;go_ret;exact ⟨rfl,Yy.alloc YR _⟩
theorem Pv (w:World) (z:Int) (v:Value) (ns:List Ef) (h:Gf w v ns) (hsz:∀i,(Vr ns i).nd.path.size≤1048576∧(Vr ns i).nd.data.size≤1048576) :
    Calls Tryz.prog 169 #[.agg #[.int .i64 z,v]] w (Wj w (.bool (Tl z ns))):=by
 obtain ⟨ao,cap,rfl,k1,k2,k3⟩:=h
 by_cases hl:z<1∨2147483647<z∨1000<ns.length
 · have:Tl z ns=false:=by
    unfold Tl
    rcases hl with hl | hl | hl
    · rw [Zo (show ¬1≤z by omega)];rfl
    · rw [Zo (show ¬z≤2147483647 by omega)];simp
    rw [Zo (show ¬ns.length≤1000 by omega)];simp
   rw [this];exact Dy w z ao ns.length cap hl
 have:Tl z ns=MK ns:=by unfold Tl;rw [Zm (show 1≤z by omega),Zm (show z≤2147483647 by omega),Zm (show ns.length≤1000 by omega)];rfl
 rw [this]
 rcases k3 with rfl | ⟨b,o,rfl,hb,hc⟩
 · exact FQ w z ao cap (by omega) (by omega)
 exact FR w z b o ns.length cap ns (by omega) (by omega) rfl (by omega) hb hsz hc
theorem K6:∀x y z:List UInt8,Op.bytesLess x y=true→Op.bytesLess y z=true→Op.bytesLess x z=true
 | [],[],_=>by simp [Op.bytesLess]
 | _ :: _,[],_=>by simp [Op.bytesLess]
 | _,_ :: _,[]=>by simp [Op.bytesLess]
 | [],_ :: _,_ :: _=>by simp [Op.bytesLess]
 | a :: x,b :: y,c :: z=>by
  unfold Op.bytesLess;intro h1 h2;have ih:=K6 x y z
  simp only [Vl,ZA,Zj,ZL] at h1 h2 ⊢
  rcases h1 with h1 | ⟨rfl,h1⟩
  · rcases h2 with h2 | ⟨rfl,h2⟩
    · exact .inl (UInt8.lt_trans h1 h2)
    exact .inl h1
  rcases h2 with h2 | ⟨rfl,h2⟩
  · exact .inl h2
  exact .inr ⟨rfl,ih h1 h2⟩
theorem R9 {b c:ByteArray} (h1:Ty a b=true) (h2:Ty b c=true):Ty a c=true:=K6 _ _ _ h1 h2
theorem K5 {b:ByteArray} (h:Ty a b=true):(a.toList == b.toList)=false:=by
 have:=(Ix h).2;rw [Bool.eq_false_iff] at this ⊢;intro e;exact this (by rw [ZL] at e ⊢;exact e.symm)
theorem Av {b:ByteArray} (h:Ty b a=true):(a.toList == b.toList)=false:=(Ix h).2
theorem Jj {b:ByteArray} (h:Ty a b=true):Ty b a=false:=(Ix h).1
theorem Ji {b:ByteArray} (h:Ty a b=false) (hne:(a.toList == b.toList)=false):Ty b a=true:=by
 rcases oH h with h1 | ⟨_,h1⟩
 · exact h1
 rw [ZL] at h1;rw [h1] at hne
 simp at hne
theorem BP (a b:ByteArray):(Py a b<0)↔Ty a b=true:=by
 unfold Py Ty;rw [xA,YG,YG]
theorem BO (a b:ByteArray):(Py a b == 0)=(a.toList == b.toList):=by
 have h:Py a b=0↔a.toList=b.toList:=by
  unfold Py;rw [BU,YG,YG]
 rw [SJ,ZL,ZL];exact h
def Asc (ns:List Nd):Prop:=ns.Pairwise fun a b=>Ty a.path b.path=true
def Au (es:List Ef):Prop:=es.Pairwise fun a b=>Ty a.nd.path b.nd.path=true
theorem Dx {α:Type} (f:α→ByteArray):∀(l:List α),(∀j (h:j+1<l.length),Ty (f l[j]) (f l[j+1])=true)→l.Pairwise fun a b=>Ty (f a) (f b)=true
 | [],_=>List.Pairwise.nil
 | [a],_=>by simp
 | a :: b :: l,h=>by
  have ih:=Dx f (b :: l) (fun j hj=>h (j+1) (by simp at hj ⊢;omega));refine List.Pairwise.cons (fun c hc=>?_) ih;have hab:Ty (f a) (f b)=true:=h 0 (by simp)
  rcases Y9.1 hc with rfl | hc
  · exact hab
  exact R9 hab ((List.pairwise_cons.1 ih).1 c hc)
theorem K0 (h:WE ns=true):Asc ns:=by
 unfold WE TY at h
 simp only [ZA,Yw,Yb] at h
 refine Dx (fun n=>n.path) ns fun j hj=>?_
 have:=h.2 (j+1) hj;rw [Pc] at this
 simp only [ZA] at this
 have h2:=this.2;rw [WF (show j<ns.length by omega),WF hj] at h2;exact h2
theorem xm (h:MK es=true):Au es:=by
 unfold MK at h
 simp only [Yw,Yb] at h
 refine Dx (fun n=>n.nd.path) es fun j hj=>?_
 have:=h (j+1) hj;rw [P8] at this
 simp only [ZA] at this
 have h2:=this.2;rw [Nz (show j<es.length by omega),Nz hj] at h2;exact h2
theorem FO (h:Tl z es=true):MK es=true∧es.length≤1000:=by
 unfold Tl at h
 simp only [ZA,Zj] at h
 exact ⟨h.2,h.1.2⟩
def Tx (r:List Nd) (p:ByteArray):Nat:=(r.takeWhile fun m=>Ty m.path p).length
def Im (r:List Nd) (p:ByteArray):Nat:=if Nx r p (Tx r p) then 1 else 0
theorem FN (r:List Nd) (p:ByteArray):r.take (Tx r p)=r.takeWhile fun m=>Ty m.path p:=by
 unfold Tx
 induction r with
 | nil=>rfl
 | cons a r ih =>
  rw [Vv]
  split
  · simp [ih]
  simp
theorem xk (r:List Nd) (p:ByteArray):r.drop (Tx r p)=r.dropWhile fun m=>Ty m.path p:=by
 unfold Tx
 induction r with
 | nil=>rfl
 | cons a r ih =>
  rw [Vv,List.dropWhile_cons]
  split
  · simp [ih]
  simp
theorem Of (r:List Nd) (p:ByteArray):Tx r p≤r.length:=by
 have:=ZM List.length (FN r p);rw [Zw] at this;unfold Tx at this ⊢;omega
theorem KZ (r:List Nd) (p:ByteArray):∀a ∈ r.take (Tx r p),Ty a.path p=true:=by
 rw [FN]
 induction r with
 | nil=>simp
 | cons b r ih =>
  rw [Vv]
  split
  · rename_i hb
    intro a ha
    rcases Y9.1 ha with rfl | ha
    · exact hb
    exact ih a ha
  simp
theorem Il:∀(r:List Nd) (p:ByteArray),Asc r→∀a ∈ r.drop (Tx r p),Ty a.path p=false:=by
 intro r p h a ha;rw [xk] at ha
 induction r with
 | nil=>simp at ha
 | cons b r ih =>
  rw [List.dropWhile_cons] at ha
  split at ha
  · exact ih (List.pairwise_cons.1 h).2 ha
  rename_i hb;have hb':Ty b.path p=false:=by simpa using hb
  rcases Y9.1 ha with rfl | ha
  · exact hb'
  have AC:=(List.pairwise_cons.1 h).1 a ha
  cases hc:Ty a.path p with
  | false=>rfl
  | true=>rw [R9 AC hc] at hb';exact absurd hb' (by simp)
theorem BM (r:List Nd) (p:ByteArray) (h:Asc r):Low r p (Tx r p):=by
 refine ⟨Of r p,fun i hi=>?_,fun i hi hl=>?_⟩
 · rw [BP]
   have hl:=ZY hi (Of r p);refine KZ r p _ ?_;rw [WF hl];exact List.mem_take_iff_getElem.2 ⟨i,by omega,rfl⟩
 rw [BP,Il r p h]
 · simp
 rw [WF hl];exact List.mem_drop_iff_getElem.2 ⟨i - Tx r p,by omega,by congr 1;omega⟩
theorem KY {r:List Nd} (h:Asc r) (k:Nat):Asc (r.drop k):=VW (List.drop_sublist k r) h
theorem si (D:List Nd) (p:ByteArray) (h:Asc D) (hn:∀a ∈ D,Ty a.path p=false):Nu D p=D.drop (if (decide (0<D.length) && ((Ye D 0).path.toList == p.toList)) then 1 else 0):=by
 cases D with
 | nil=>rfl
 | cons b D =>
  have hr:∀a ∈ D,(a.path.toList == p.toList)=false:=by
   intro a ha;have h1:=(List.pairwise_cons.1 h).1 a ha;have h2:=hn b (by simp)
   cases hc:a.path.toList == p.toList with
   | false=>rfl
   | true =>
    rw [ZL] at hc;unfold Ty at h1 h2;rw [hc] at h1;rw [h1] at h2;exact absurd h2 (by simp)
  have hf:Nu D p=D:=by
   unfold Nu;rw [List.filter_eq_self];intro a ha;rw [hr a ha]
   rfl
  have e0:Ye (b :: D) 0=b:=rfl;rw [e0];unfold Nu at hf ⊢;rw [Ta]
  cases hc:b.path.toList == p.toList with
  | true=>simp [hf]
  | false=>simp [hf]
theorem Ik (r:List Nd) (p:ByteArray):Im r p=if (decide (0<(r.drop (Tx r p)).length) && ((Ye (r.drop (Tx r p)) 0).path.toList == p.toList)) then 1 else 0:=by
 unfold Im Nx;rw [BO,ZS];have e:Ye (r.drop (Tx r p)) 0=Ye r (Tx r p):=by unfold Ye;simp [List.getD]
 rw [e];have e2:decide (Tx r p<r.length)=decide (0<r.length - Tx r p):=by rw [UQ];omega
 rw [e2]
theorem xj (r:List Nd) (p:ByteArray):Im r p≤1∧Tx r p+Im r p≤r.length:=by
 have h:=Of r p;rw [Ik]
 split
 · rename_i hc
   simp only [ZA,Zj,ZS] at hc
   omega
 omega
theorem Ij (r:List Nd) (p:ByteArray) (h:Asc r):Nu (r.drop (Tx r p)) p=r.drop (Tx r p+Im r p):=by
 rw [si _ p (KY h _) (Il r p h),←Ik,Yc]
theorem xh (A:List Nd) (p:ByteArray) (h:∀a ∈ A,Ty a.path p=true):Nu A p=A:=by
 unfold Nu;rw [List.filter_eq_self];intro a ha;rw [K5 (h a ha)]
 rfl
theorem OZ (A B:List Nd) (p:ByteArray):Nu (A++B) p=Nu A p++Nu B p:=by unfold Nu;rw [List.filter_append]
theorem Dw (A r:List Nd) (p:ByteArray) (hA:∀a ∈ A,Ty a.path p=true) (h:Asc r):Nu (A++r) p=A++r.take (Tx r p)++r.drop (Tx r p+Im r p):=by
 conv=>lhs;rw [←YQ (Tx r p) r]
 rw [OZ,OZ,xh A p hA,xh _ p (KZ r p),Ij r p h,ZO]
theorem xd (n:Nd):∀(A X:List Nd),(∀a ∈ A,Ty a.path n.path=true)→A.foldl (GM n) (X,false)=(X++A,false)
 | [],X,_=>by simp
 | a :: A,X,h=>by
  have ha:=h a (by simp);have e:GM n (X,false) a=(X++[a],false):=by
   have h1:Op.bytesLess a.path.toList n.path.toList=true:=ha;unfold GM;rw [K5 ha,h1]
   rfl
  rw [WS,e,xd n A _ (fun b hb=>h b (Zp _ hb))]
  simp
theorem BJ (n:Nd):∀(A X:List Nd),(A.foldl (GM n) (X,true))=(X++Nu A n.path,true)
 | [],X=>by simp [Nu]
 | a :: A,X=>by
  have e:GM n (X,true) a=(X++Nu [a] n.path,true):=by
   unfold GM Nu;rw [Ta]
   cases hc:a.path.toList == n.path.toList <;> simp
  rw [WS,e,BJ n A,show a :: A=[a]++A from rfl,OZ,ZO]
theorem sh (n:Nd) (D X:List Nd) (hn:∀a ∈ D,Ty a.path n.path=false) :
    (let f:=D.foldl (GM n) (X,false);if f.2 then f.1 else f.1++[n])=X++n :: Nu D n.path:=by
 cases D with
 | nil=>simp [Nu]
 | cons b D =>
  have hb:Op.bytesLess b.path.toList n.path.toList=false:=hn b (by simp);have e:GM n (X,false) b=(X++n :: Nu [b] n.path,true):=by
   unfold GM Nu;rw [hb,Ta]
   cases hc:b.path.toList == n.path.toList <;> simp
  have e2:(b :: D).foldl (GM n) (X,false)=(X++n :: Nu (b :: D) n.path,true):=by
   rw [WS,e,BJ,show b :: D=[b]++D from rfl,OZ]
   simp
  simp only [e2,Vo]
theorem KX (A r:List Nd) (n:Nd) (hA:∀a ∈ A,Ty a.path n.path=true) (h:Asc r):LU (A++r) n=A++r.take (Tx r n.path)++n :: r.drop (Tx r n.path+Im r n.path):=by
 unfold LU qi
 conv=>lhs;rw [←YQ (Tx r n.path) r]
 rw [←ZO,VO,xd n (A++r.take (Tx r n.path)) [] (by
  intro a ha
  rcases Y4.1 ha with ha | ha
  · exact hA a ha
  exact KZ r _ a ha)]
 have:=sh n (r.drop (Tx r n.path)) ([]++(A++r.take (Tx r n.path))) (Il r _ h)
 simp only at this
 rw [this,Ij r _ h]
 simp
def Ea (st:List Nd × List Nd) (e:Ef):List Nd × List Nd :=
 (st.1++st.2.take (Tx st.2 e.nd.path)++(if e.del then [] else [e.nd]),st.2.drop (Tx st.2 e.nd.path+Im st.2 e.nd.path))
def LJ (ns:List Nd) (es:List Ef):List Nd × List Nd:=es.foldl Ea ([],ns)
def D9 (ns:List Nd) (e:Ef):List Nd:=if e.del then Nu ns e.nd.path else LU ns e.nd
def BI (ns:List Nd) (es:List Ef):List Nd:=es.foldl D9 ns
theorem sf (st:List Nd × List Nd) (e:Ef) (hA:∀a ∈ st.1,Ty a.path e.nd.path=true) (h:Asc st.2):D9 (st.1++st.2) e=(Ea st e).1++(Ea st e).2:=by
 unfold D9 Ea
 cases e.del with
 | true=>simp [Dw _ _ _ hA h]
 | false=>simp [KX _ _ _ hA h]
theorem qf:∀(es:List Ef) (st:List Nd × List Nd),Au es→(∀a ∈ st.1,∀e ∈ es,Ty a.path e.nd.path=true)→Asc st.2 →
    (es.foldl Ea st).1++(es.foldl Ea st).2=es.foldl D9 (st.1++st.2)
 | [],_,_,_,_=>rfl
 | e :: es,st,h,hA,hr=>by
  have h':=List.pairwise_cons.1 h;rw [WS,WS,sf st e (fun a ha=>hA a ha e (by simp)) hr];refine qf es (Ea st e) h'.2 (fun a ha f hf=>?_) (KY hr _);have hef:=h'.1 f hf;unfold Ea at ha
  rcases Y4.1 ha with ha | ha
  · rcases Y4.1 ha with ha | ha
    · exact hA a ha f (Zp _ hf)
    exact R9 (KZ _ _ a ha) hef
  split at ha
  · simp at ha
  rw [Vk] at ha;rw [ha];exact hef
theorem ou (h:Asc ns) (he:Au es):(LJ ns es).1++(LJ ns es).2=BI ns es:=qf es ([],ns) he (fun a ha=>by simp at ha) h
theorem FM (ns:List Nd) (es:List Ef) (k:Nat) (h:k<es.length):LJ ns (es.take (k+1))=Ea (LJ ns (es.take k)) (Vr es k):=by
 unfold LJ;rw [YW h,VO,Nz h]
 rfl
theorem sd (st:List Nd × List Nd) (e:Ef):(Ea st e).1.length+(Ea st e).2.length≤st.1.length+st.2.length+1:=by
 unfold Ea;have h:=Of st.2 e.nd.path
 simp only [ZZ,Zw,ZS]
 split <;> simp <;> omega
theorem BC:∀(ns:List Nd) (es:List Ef) (k:Nat),(LJ ns (es.take k)).1.length+(LJ ns (es.take k)).2.length≤ns.length+k
 | ns,es,0=>by simp [LJ]
 | ns,es,k+1=>by
  have ih:=BC ns es k
  by_cases h:k<es.length
  · rw [FM ns es k h]
    have:=sd (LJ ns (es.take k)) (Vr es k);omega
  rw [Y8 (by omega)] at ih ⊢;omega
theorem sc (h:Asc ns) (es:List Ef):Asc (LJ ns es).2:=by
 unfold LJ;have:∀(es:List Ef) (st:List Nd × List Nd),Asc st.2→Asc (es.foldl Ea st).2:=by
  intro es
  induction es with
  | nil=>exact fun st h=>h
  | cons e es ih=>exact fun st h=>by rw [WS];exact ih _ (KY h _)
 exact this es _ h
theorem rZ (h:Asc ns) (he:Au es) (hk:es.length=k):(LJ ns (es.take k)).1++(LJ ns (es.take k)).2=BI ns es:=by
 rw [Y8 (by omega)];exact ou h he
def PO (ns:List Nd) (z:Int) (es:List Ef):List Nd:=if WE ns && Tl z es then BI ns es else []
def wZ (w:World) (B:Nat) (t:TypeId) (z:Int) (v:Value):Prop:=w.heap[B]?=some (.cells #[.int .i64 z,v] t (0,0))
theorem wZ.lt (h:wZ w B t z v):B<w.heap.size:=(Z3.1 h).1
theorem wZ.new (w:World) (t:TypeId) (z:Int) (v:Value):wZ (w.alloc (.cells #[.int .i64 z,v] t)) w.heap.size t z v:=Zs w _
theorem wZ.later (hb:Zi w w') (h:wZ w B t z v):wZ w' B t z v:=(hb.block _ h.lt).trans h
theorem wZ.cells (h:wZ w B t z v):w.cell? ⟨B,0,none⟩=some (.int .i64 z)∧w.cell? ⟨B,1,none⟩=some v:=⟨(cell_of h _).trans rfl,(cell_of h _).trans rfl⟩
structure tI (s:Nat) (v:Value) (z:Int) (vx:Value) (W:World):Prop where
 t:Boxed W s 63 v
 x:wZ W (s+1) 192 z vx
 r:Boxed W (s+2) 63 (.slice none 0 0)
theorem tI.new (w:World) (v:Value) (z:Int) (vx:Value):tI w.heap.size v z vx (((w.alloc (.cells #[v] 63)).alloc (.cells #[.int .i64 z,vx] 192)).alloc (.cells #[.slice none 0 0] 63)):=by
 have s1:(w.alloc (.cells #[v] 63)).heap.size=w.heap.size+1:=by simp
 have s2:((w.alloc (.cells #[v] 63)).alloc (.cells #[.int .i64 z,vx] 192)).heap.size=w.heap.size+2:=by simp
 have h2:=wZ.new (w.alloc (.cells #[v] 63)) 192 z vx;rw [s1] at h2;have h3:=Boxed.new ((w.alloc (.cells #[v] 63)).alloc (.cells #[.int .i64 z,vx] 192)) 63 (.slice none 0 0);rw [s2] at h3;exact ⟨((Boxed.new w _ _).alloc _).alloc _,h2.later (Yy.alloc YR _),h3⟩
theorem tI.below {m:Nat} (h:tI s v z vx W) (hb:Below m W W') (hm:s+3≤m):tI s v z vx W' :=
 ⟨(hb.block _ (by omega)).trans h.t,(hb.block _ (by omega)).trans h.x,(hb.block _ (by omega)).trans h.r⟩
theorem tI.size (h:tI s v z vx W):s+3≤W.heap.size:=by have:=h.r.lt;omega
theorem Lb.new (w:World) (o:Obj) (n:Nd):Lb ((w.alloc o).alloc (.cells #[.string n.path,.string n.data,.int .i64 n.XT,.int .i64 n.XQ,.int .i64 n.cz,.int .i64 n.mz,.int .i64 n.pz] 149)) (w.heap.size+1) n:=by
 have:=Zs (w.alloc o) (.cells #[.string n.path,.string n.data,.int .i64 n.XT,.int .i64 n.XQ,.int .i64 n.cz,.int .i64 n.mz,.int .i64 n.pz] 149);rw [show (w.alloc o).heap.size=w.heap.size+1 by simp] at this;exact ⟨⟨_,_,_,this,by decide⟩,(cell_of this _).trans rfl,(cell_of this _).trans rfl,(cell_of this _).trans rfl,(cell_of this _).trans rfl,(cell_of this _).trans rfl,(cell_of this _).trans rfl,(cell_of this _).trans rfl⟩
theorem FL (w:World) (b o n cap:Nat) (ns:List Nd) (hp:ns.length=n) (hb:b<w.heap.size) (hc:∀i,i<n→Um w b (o+i*7) (Ye ns i)) (hR:SK w (.slice (some ⟨b,o,none⟩) n cap) ns)
    (hsz:∀i,(Ye ns i).path.size≤1048576∧(Ye ns i).data.size≤1048576) :
    Calls Tryz.prog 46 #[.agg #[.slice (some ⟨b,o,none⟩) n cap]] w fun e w'=>∃v',e=.returned v'∧Own .u8 5 w' w.heap.size v' (Mg ns)∧Zi w w':=by
 have HC:Hid (∀i,i<n→Um w b (o+i*7) (Ye ns i)):=hc;have HP:Hid (ns.length=n):=hp;have HR:Hid (SK w (.slice (some ⟨b,o,none⟩) n cap) ns):=hR;have HZ:Hid (∀i,(Ye ns i).path.size≤1048576∧(Ye ns i).data.size≤1048576):=hsz;have B0:Hid (Zi w (w.alloc (.cells #[.slice (some ⟨b,o,none⟩) n cap] 63))):=Yy.alloc YR _;have X0:Hid (Boxed (w.alloc (.cells #[.slice (some ⟨b,o,none⟩) n cap] 63)) w.heap.size 63 (.slice (some ⟨b,o,none⟩) n cap)):=Boxed.new _ _ _;clear hc hp hR hsz
 go_enter Tryz.func46,Tryz.ntmps46
 go_wp2_with fail
 generalize w.alloc _=w0 at *;refine (UL _ _ ns (HR.out.below B0.out) HZ.out).mono ?_;rintro e w1 ⟨rfl,b1⟩;have B1:=ZU (WD B0.out b1);have X1:Hid (Boxed w1 w.heap.size 63 (.slice (some ⟨b,o,none⟩) n cap)):=UX b1 X0.out;clear b1 X0 B0
 by_cases hok:WE ns=true
 rotate_left
 · have hok':WE ns=false:=by simpa using hok
   have HT:Hid (Mg ns=[]):=by show _=_;unfold Mg;rw [Z1 hok]
   rw [hok'];clear hok hok';go_wp2;go_ret;exact ⟨_,rfl,(by rw [HT.out];exact ZH _ _ _ _),B1.out⟩
 have hn:n≤1000:=by have:=Oh hok;rw [HP.out] at this;exact this
 have HT:Hid (Mg ns=Xn ns):=by show _=_;unfold Mg;rw [Z0 hok]
 have PX:Hid (∀k,k<n→Wl (Ye ns k)=true):=fun k hk=>MN hok k (by rw [HP.out];exact hk)
 have Pu:Hid (∀k,k≤n→(Xn (ns.take k)).length≤k*188):=fun k hk=>Le (MN hok) k (by rw [HP.out];exact hk)
 rw [hok];clear hok;have c0:=X1.out.cell;go_wp2
 go_loopw [3,13] (fun vi vk wr=>∃k:Nat,k≤n∧vk=.int .i64 k∧Hid (Own .u8 5 wr w.heap.size vi (Xn (ns.take k)))∧Hid (Zi w wr)) (fun _ i _=>n - (intOf i).toNat)
 case atStart=>exact ⟨0,Zu _,rfl,ZH _ _ _ _,B1⟩
 case round =>
  clear c0;obtain ⟨k,hk,rfl,HW,HB⟩:=hrel;have sB:=HB.out.size
  by_cases hlt:k<n
  · have Rj:(k:Int)<(n:Int):=by omega
    obtain ⟨c0,c1,c2,c3,c4,c5,c6⟩:=(HC.out k hlt).below HB.out hb
    go_wp2_with fail
    clear c0 c1 c2 c3 c4 c5 c6;refine (Px _ w.heap.size u3 (Xn (ns.take k)) (wr.heap.size+1) (Ye ns k) ?e1 ?e2 ?e3 ?e4 (PX.out k hlt)).mono ?_
    case e1=>exact (HW.out.below (Yy.alloc YR _)).below (Yy.alloc YR _)
    case e2=>simp;omega
    case e3=>have:=Pu.out k hk;omega
    case e4=>exact Lb.new _ _ _
    rintro e w4 ⟨v4,rfl,o4,b4,-⟩;have O4:Hid (Own .u8 5 w4 w.heap.size v4 (Xn (ns.take (k+1)))):=by
     rw [Mh ns k (by rw [HP.out];exact hlt)] at o4;exact o4
    have B4:Hid (Zi w w4):=((HB.out.alloc sB _).alloc (by simp;omega) _).trans b4;clear o4 b4 HW HB;go_wp2;exact ⟨⟨k+1,by omega,by go_num,O4,B4⟩,by simp [intOf];omega⟩
  have hkn:k=n:=by omega
  subst hkn;go_wp2;go_ret;refine ⟨_,rfl,?_,HB.out⟩;rw [HT.out,←DE ns k (by rw [HP.out];exact YR)];exact HW.out
theorem FK (w:World) (ao:Option Addr) (cap:Nat) (hc:cap≤maxLen) :
    Calls Tryz.prog 46 #[.agg #[.slice ao 0 cap]] w fun e w'=>∃v',e=.returned v'∧Own .u8 5 w' w.heap.size v' []∧Zi w w':=by
 have HR:Hid (SK w (.slice ao 0 cap) []):=⟨ao,cap,rfl,Zu _,hc,.inl rfl⟩;have B0:Hid (Zi w (w.alloc (.cells #[.slice ao 0 cap] 63))):=Yy.alloc YR _;have X0:Hid (Boxed (w.alloc (.cells #[.slice ao 0 cap] 63)) w.heap.size 63 (.slice ao 0 cap)):=Boxed.new _ _ _
 go_enter Tryz.func46,Tryz.ntmps46
 go_wp2_with fail
 generalize w.alloc _=w0 at *;refine (UL _ _ [] (HR.out.below B0.out) (fun i=>by simp [Ye,nd0])).mono ?_;rintro e w1 ⟨rfl,b1⟩;have B1:=ZU (WD B0.out b1);have X1:Hid (Boxed w1 w.heap.size 63 (.slice ao 0 cap)):=UX b1 X0.out;clear b1 X0 B0;rw [show WE []=true from rfl];have c0:=X1.out.cell;go_wp2
 go_rounds 1
 go_ret;exact ⟨_,rfl,ZH _ _ _ _,B1.out⟩
theorem FJ (w:World) (v:Value) (ns:List Nd) (h:SK w v ns) (hsz:∀i,(Ye ns i).path.size≤1048576∧(Ye ns i).data.size≤1048576) :
    Calls Tryz.prog 46 #[.agg #[v]] w fun e w'=>∃v',e=.returned v'∧Own .u8 5 w' w.heap.size v' (Mg ns)∧Zi w w':=by
 have h0:=h;obtain ⟨ao,cap,rfl,h1,h2,h3⟩:=h
 rcases h3 with rfl | ⟨b,o,rfl,hb,hc⟩
 · exact FK w ao cap h2
 exact FL w b o ns.length cap ns rfl hb hc h0 hsz
def Ii (e:Ef):Int:=if e.del then 2 else 1
def OM (e:Ef):List Int:=if e.del then [2]++J0 e.nd.path else [1]++Vy e.nd
def SL (es:List Ef):List Int:=es.flatMap OM
def Va (z:Int) (es:List Ef):List Int:=if Tl z es then Xo z.toNat 4++Xo es.length 2++SL es else []
theorem KV (h:Sm e=true):Wl e.nd=true:=by
 unfold Sm at h
 simp only [ZA] at h
 exact h.1
theorem wY (h:Sm e=true):(OM e).length≤189∧0<(OM e).length:=by
 have h1:=TX (KV h);unfold OM
 split
 · rw [ZZ,Ny];simp;omega
 rw [ZZ,Sb];simp;omega
theorem KU (es:List Ef) (k:Nat) (h:k<es.length):SL (es.take k)++OM (Vr es k)=SL (es.take (k+1)):=by
 unfold SL;rw [YW h,XZ,Nz h]
 simp
theorem At (es:List Ef) (k:Nat) (h:es.length≤k):SL (es.take k)=SL es:=by rw [Y8 h]
theorem Jh (h:∀k,k<es.length→Sm (Vr es k)=true):∀k,k≤es.length→(SL (es.take k)).length≤k*189
 | 0,_=>by simp [SL]
 | k+1,hk=>by
  have h1:=Jh h k (by omega);have h2:=wY (h k (by omega));rw [←KU es k (by omega),ZZ];omega
theorem MJ (h:Tl z es=true):1≤z∧z≤2147483647∧es.length≤1000∧∀k,k<es.length→Sm (Vr es k)=true:=by
 unfold Tl MK at h
 simp only [ZA,Zj] at h
 refine ⟨h.1.1.1,h.1.1.2,h.1.2,fun k hk=>?_⟩;have:=Yw.1 h.2 k (by simpa using hk);unfold PW at this
 simp only [ZA] at this
 exact this.1
def tH (w:World) (b:Nat) (e:Ef):Prop:=Lb w b e.nd∧w.cell? ⟨b,7,none⟩=some (.int .u8 (Ii e))
theorem tH.keep (h:tH w b e) (hk:KT 5 w w'):tH w' b e:=by
 obtain ⟨A,t,f,h1,h2⟩:=h.1.1;exact ⟨h.1.keep hk,(hk.cell h1 h2 7).trans h.2⟩
theorem FH (w:World) (e:Ef) :
    Calls Tryz.prog 170 #[.agg #[.bool e.del,.string e.nd.path,.string e.nd.data,.int .i64 e.nd.XT,.int .i64 e.nd.XQ,.int .i64 e.nd.cz,.int .i64 e.nd.mz,.int .i64 e.nd.pz]] w fun r w' =>
     r=.returned (.agg #[.string e.nd.path,.string e.nd.data,.int .i64 e.nd.XT,.int .i64 e.nd.XQ,.int .i64 e.nd.cz,.int .i64 e.nd.mz,.int .i64 e.nd.pz,.int .u8 (Ii e)])∧Zi w w':=by
 have HB:Hid (∀o1 o2,Zi w ((w.alloc o1).alloc o2)):=fun o1 o2=>(Yy.alloc YR _).alloc (by simp) _
 go_enter Tryz.func170,Tryz.ntmps170
 obtain ⟨del,nd⟩:=e
 cases del with
 | true =>
  go_wp2;refine ZW (v:=.agg #[.string nd.path,.string nd.data,.int .i64 nd.XT,.int .i64 nd.XQ,.int .i64 nd.cz,.int .i64 nd.mz,.int .i64 nd.pz,.int .u8 2]) (by simp [results,Tryz.results170,go_sem]) rfl ⟨rfl,HB.out _ _⟩
 | false =>
  go_wp2;refine ZW (v:=.agg #[.string nd.path,.string nd.data,.int .i64 nd.XT,.int .i64 nd.XQ,.int .i64 nd.cz,.int .i64 nd.mz,.int .i64 nd.pz,.int .u8 1]) (by simp [results,Tryz.results170,go_sem]) rfl ⟨rfl,HB.out _ _⟩
theorem Dv (w:World) (base:Nat) (v:Value) (xs:List Int) (b:Nat) (n:Ef) (h:Own .u8 5 w base v xs) (hb:base≤w.heap.size) (hl:xs.length≤900000) (hx:tH w b n) (hn:Sm n=true) :
    Calls Tryz.prog 171 #[.pointer (some ⟨b,0,none⟩),v] w fun e w'=>∃v',e=.returned v'∧Own .u8 5 w' base v' (xs++OM n)∧Below base w w'∧KT 5 w w':=by
 obtain ⟨i0,hi,hz0,hz1,hz2⟩:=YM Tryz.QZ;have hnd:=KV hn;have hpz:=(TX hnd).1;have HN:Hid (Wl n.nd=true):=hnd;have HX:Hid (tH w b n):=hx;have HO:Hid (w.ownsRow base 5 1 v xs.length (xs.map (Value.int .u8))):=h;have HE:Hid ((n.del=true∧Ii n=2∧OM n=[2]++J0 n.nd.path)∨(n.del=false∧Ii n=1∧OM n=[1]++Vy n.nd)):=by
  show _∨_;unfold Ii OM
  cases n.del with
  | true=>exact .inl ⟨rfl,rfl,rfl⟩
  | false=>exact .inr ⟨rfl,rfl,rfl⟩
 clear h hx hn hnd;have c7:=HX.out.2
 rcases HE.out with ⟨-,e2,e3⟩ | ⟨-,e2,e3⟩
 · have L:Hid (OM n=[2]++J0 n.nd.path):=e3
   have HE2:Hid (Ii n=2):=e2;rw [e2] at c7;clear e2 e3 HE
   go_enter Tryz.func171,Tryz.ntmps171
   go_wp2_with (at_builtin;go_must (refine Yn _ rfl _ _ 22 rfl base 5 i0 (.int .u8 0) 1 1 Tryz.underlying22 hi hz0 hz1 hz2 rfl (by decide) _ _ _ rfl (WP HO.out _) ⟨w.heap.size,0,none⟩ 1 1 [.int .u8 2] rfl rfl (XW _ _ _) (by intro u hu;simp at hu;subst hu;rfl) ?c3 ?c4 ?c5 ?_))
   case c3=>unfold maxLen;omega
   case c4=>omega
   case c5=>simp;omega
   intro v2 w2 ho2 hg2 _;have O2:Hid (Own .u8 5 w2 base v2 (xs++[2])):=by
    refine QY (q:=xs.length+1) (ys:=xs++[2]) (by simp) rfl ?_;rw [Y6];exact ho2
   have B2:Hid (Below base w w2):=(Yy.alloc hb _).grown hg2 (by simp;omega) (fun q hq=>(ZT HO.out q hq).1);have K2:Hid (KT 5 w w2):=((KT.refl _ _).alloc _).grown (HO.out.alloc _) hg2;have X2:Hid (tH w2 b n):=HX.out.keep K2.out;have s2:=B2.out.size;clear ho2 hg2 c7;have c7:=X2.out.2;rw [HE2.out] at c7;obtain ⟨d0,-,-,-,-,-,-⟩:=X2.out.1.2
   go_wp2_with fail
   refine (Qa w2 base v2 _ n.nd.path O2.out (by omega) (by simp;omega) (by omega)).mono ?_;rintro e w3 ⟨v3,rfl,o3,b3,k3⟩;have O3:Hid (Own .u8 5 w3 base v3 (xs++OM n)):=by rw [L.out,←ZO];exact o3
   have B3:=ZU (B2.out.trans b3);have K3:=ZU (K2.out.trans k3);clear o3 b3 k3 O2 X2 d0 c7;go_wp2;go_ret;exact ⟨_,rfl,O3.out,B3.out,K3.out⟩
 have L:Hid (OM n=[1]++Vy n.nd):=e3;have HE2:Hid (Ii n=1):=e2;rw [e2] at c7;clear e2 e3 HE
 go_enter Tryz.func171,Tryz.ntmps171
 go_wp2_with (at_builtin;go_must (refine Yn _ rfl _ _ 22 rfl base 5 i0 (.int .u8 0) 1 1 Tryz.underlying22 hi hz0 hz1 hz2 rfl (by decide) _ _ _ rfl (WP HO.out _) ⟨w.heap.size,0,none⟩ 1 1 [.int .u8 1] rfl rfl (XW _ _ _) (by intro u hu;simp at hu;subst hu;rfl) ?f3 ?f4 ?f5 ?_))
 case f3=>unfold maxLen;omega
 case f4=>omega
 case f5=>simp;omega
 intro v2 w2 ho2 hg2 _;have O2:Hid (Own .u8 5 w2 base v2 (xs++[1])):=by
  refine QY (q:=xs.length+1) (ys:=xs++[1]) (by simp) rfl ?_;rw [Y6];exact ho2
 have B2:Hid (Below base w w2):=(Yy.alloc hb _).grown hg2 (by simp;omega) (fun q hq=>(ZT HO.out q hq).1);have K2:Hid (KT 5 w w2):=((KT.refl _ _).alloc _).grown (HO.out.alloc _) hg2;have X2:Hid (tH w2 b n):=HX.out.keep K2.out;have s2:=B2.out.size;clear ho2 hg2 c7;have c7:=X2.out.2;rw [HE2.out] at c7
 go_wp2_with fail
 refine (Px w2 base v2 _ b n.nd O2.out (by omega) (by simp;omega) X2.out.1 HN.out).mono ?_;rintro e w3 ⟨v3,rfl,o3,b3,k3⟩;have O3:Hid (Own .u8 5 w3 base v3 (xs++OM n)):=by rw [L.out,←ZO];exact o3
 have B3:=ZU (B2.out.trans b3);have K3:=ZU (K2.out.trans k3);clear o3 b3 k3 O2 X2 c7;go_wp2;go_ret;exact ⟨_,rfl,O3.out,B3.out,K3.out⟩
def ee (s:ByteArray):Nd:=⟨s,ByteArray.empty,0,0,0,0,0⟩
def ed:List Int→Option (Ef × List Int)
 | []=>none
 | y :: r=>if y=1 then (QE r).map (fun q=>(⟨false,q.1⟩,q.2)) else if y=2 then (DB r).map (fun q=>(⟨true,ee q.1⟩,q.2)) else none
def gZ:Nat→List Int→Option (List Ef × List Int)
 | 0,ys=>some ([],ys)
 | c+1,ys =>
  match ed ys with
  | none=>none
  | some (e,r)=>(gZ c r).map fun q=>(e :: q.1,q.2)
def gY (C:Nat) (ys:List Int) (es:List Ef) (r:List Int) (c:Nat):Prop:=gZ C ys=(gZ c r).map (fun q=>(es++q.1,q.2))∧es.length+r.length≤ys.length
def gX (ys:List Int):Nat:=Uh ((ys.drop 4).take 2)
def zX (ys:List Int):Nat:=Uh (ys.take 4)
def d8 (es:List Ef):Prop:=∀n ∈ es,n.nd.path.size<256∧n.nd.data.size<256
def Ih (w:World) (B:Nat) (z:Int) (v:Value):Prop:=B<w.heap.size∧w.cell? ⟨B,0,none⟩=some (.int .i64 z)∧w.cell? ⟨B,1,none⟩=some v
theorem Ih.below {x:Int} {y:Value} (h:Ih w b x y) (hb:Zi w w'):Ih w' b x y :=
 ⟨ZY h.1 hb.size,(hb.cell (p:=⟨b,0,none⟩) h.1).trans h.2.1,(hb.cell (p:=⟨b,1,none⟩) h.1).trans h.2.2⟩
theorem Ih.new (w:World) (x:Int) (y:Value) (t:TypeId):Ih (w.alloc (.cells #[.int .i64 x,y] t)) w.heap.size x y:=⟨by simp,by simp,by simp⟩
def Zx (W:World) (k:Nat):Prop:=k<W.heap.size∧W.cell? ⟨k,0,none⟩=some (.bool false)∧W.cell? ⟨k,1,none⟩=some (.int .i64 0)∧W.cell? ⟨k,2,none⟩=some (.slice none 0 0)∧∀j,W.frozen? ⟨k,j,none⟩=false
def B2 (W:World) (k:Nat) (z:Int) (v:Value):Prop:=k<W.heap.size∧W.cell? ⟨k,0,none⟩=some (.int .i64 z)∧W.cell? ⟨k,1,none⟩=some v∧∀j,W.frozen? ⟨k,j,none⟩=false
def SX (w:World) (ys:List Int) (W:World) (v:Value) (es:List Ef) (p c:Nat):Prop :=
 gY (gX ys) (ys.drop 6) es (ys.drop p) c∧d8 es∧Zi w W∧Zx W w.heap.size∧B2 W (w.heap.size+1) (zX ys) v∧UM 249 W (w.heap.size+2) v es
attribute [local go_sem] Yv
theorem Ar (F:Fence) (n:Nat) (h87:F.fn 179) (hro:F.round=none) (ao:Option Addr) (m cap:Nat) (w:World) :
    CallsIn F n Tryz.prog 179 #[.slice ao m cap] w fun e w'=>e=.returned (.func (.func 206) #[] #[.pointer (some ⟨w.heap.size,0,none⟩)])∧w'=w.alloc (.cells #[.slice ao m cap] 22):=by
 refine Xb Tryz.func179 rfl h87 ?_ hro
 simp only [Tryz.ntmps179,ZI,ZE,Y7,Nat.reduceAdd,Nat.reduceSub,YV,YU,YI,YT,Zd,Y3]
 gi_wp2;go_ret;exact ⟨rfl,rfl⟩
theorem rY {ao:Option Addr} {n:Nat} {a:List Int} (h:Rd .u8 w (.slice ao n cap) a) (hl:a.length=n) (blk o:Nat) (he:ao=some ⟨blk,o,none⟩) (p:Nat) (hp:p≤n):Rd .u8 w (.slice (some ⟨blk,o+p,none⟩) (n - p) (cap - p)) (a.drop p):=by
 obtain ⟨oY,cap',e,h1,h2,h3⟩:=h
 simp only [ZC] at e
 obtain ⟨rfl,hn,rfl⟩:=e;have hlen:(a.drop p).length=n - p:=by rw [ZS];omega
 refine ⟨_,cap - p,by rw [hlen],by omega,by omega,?_⟩
 rcases h3 with rfl | ⟨b,o',e2,hb,hc⟩
 · exact .inl (by simp)
 rw [he] at e2
 simp only [ZK,Ym,VB] at e2
 obtain ⟨rfl,rfl⟩:=e2;refine .inr ⟨blk,o+p,rfl,hb,fun j hj=>?_⟩;rw [hlen] at hj;have:=hc (p+j) (by omega);rw [Xu,this]
 simp [List.getD,Yt]
theorem wW (w:World) (ao:Option Addr) (cap:Nat) (hc:cap≤maxLen):Rd .u8 w (.slice ao 0 cap) []:=⟨ao,cap,rfl,Zu _,hc,.inl rfl⟩
attribute [local go_sem] Yv
theorem VD {n z:Nat} {e:TypeId} {xs:List Value} (h:W.ownsRow lo e z v n xs) (hg:W.grownBy W' row) (hr:∀r,row=some r→∃o:Obj,W.heap[r]?=some o∧o.isCells=false):W'.ownsRow lo e z v n xs:=by
 refine ⟨h.1,?_⟩
 rcases h.2 with hn | ⟨g,cap,cur,rfl,hbg,hgg,rest⟩
 · exact .inl hn
 refine .inr ⟨g,cap,cur,rfl,hbg,?_,rest⟩;rw [hg.block g (Z3.1 hgg).1 (fun e=>by obtain ⟨o,ho,hc⟩:=hr g e.symm;rw [hgg] at ho;injection ho with ho;rw [←ho] at hc;cases hc)];exact hgg
theorem Vf (h:Zi X Y):KeepsFrom B X Y:=⟨h.size,fun k _ _ hk _=>(h.block k (Z3.1 hk).1).trans hk⟩
theorem Aq {n z:Nat} {e:TypeId} {xs:List Value} (h:X.ownsRow lo e z v n xs) (hg:X.grownBy Y v.ownBlock):KeepsFrom B X Y:=by
 refine ⟨hg.size,fun k o _ hk ho=>(hg.block k (Z3.1 hk).1 (fun e=>?_)).trans hk⟩
 rcases h.2 with ⟨rfl,-⟩ | ⟨g,cap,cur,rfl,-,hgg,-⟩
 · cases e
 simp only [Value.ownBlock,ZK] at e
 subst e;rw [hgg] at hk
 injection hk with hk
 rw [←hk] at ho;cases ho
theorem kH (w:World) (B j:Nat) (u:Value):w.grownBy (w.setCell ⟨B,j,none⟩ u) (some B):=⟨rfl,rfl,rfl,by simp,fun k _ hne=>Below.heap_setCell _ _ _ _ (fun e=>hne (by rw [e]))⟩
def fr (xs:List Int):List Int :=
 if xs.length=0∨2000<xs.length then [] else [128+((pk xs).length:Int) / 128,128+((pk xs).length:Int) % 128]++pk xs
theorem kG (h:xs.length=0∨2000<xs.length):fr xs=[]:=Z0 h
theorem wV (h0:0<xs.length) (h1:xs.length≤2000):fr xs=[128+((pk xs).length:Int) / 128,128+((pk xs).length:Int) % 128]++pk xs:=Z1 (by omega)
theorem FG (w w':World) (k:IntKind) (e:TypeId):Own k e w' w.heap.size (.slice none 0 0) []:=ZH _ _ _ _
theorem Ig (w:World) (ao:Option Addr) (n cap:Nat) (hn:n≤1099511627776) (h:n=0∨2000<n) :
    Calls Tryz.prog 127 #[.slice ao n cap] w fun e w'=>∃v',e=.returned v'∧Own .u8 5 w' w.heap.size v' []∧Zi w w':=by
 rcases h with rfl | h
 · go_enter Tryz.func127,Tryz.ntmps127
   go_wp2;go_ret;exact ⟨_,rfl,FG _ _ _ _,Yy⟩
 have h1:((n:Int) == 0)=false:=YH.2 (by omega);have h2:(2000:Int)<(n:Int):=by omega
 go_enter Tryz.func127,Tryz.ntmps127
 go_wp2;go_ret;exact ⟨_,rfl,FG _ _ _ _,Yy⟩
theorem Ap {k:IntKind} {e:TypeId} {base g n:Nat} (h:Own k e w base (.slice (some ⟨g,0,none⟩) n cap) xs):∀j u,(xs.map (Value.int k))[j]?=some u→w.cell? ((⟨g,0,none⟩:Addr).add j)=some u :=
 Ys h rfl
theorem JZ (w:World) (v:Value) (xs:List Int) (h:Rd .u8 w v xs) (hby:Sn xs) (h0:0<xs.length) (h1:xs.length≤2000) :
    Calls Tryz.prog 127 #[v] w fun e w'=>∃v',e=.returned v'∧Own .u8 5 w' w.heap.size v' (fr xs)∧Zi w w':=by
 obtain ⟨i0,hi,hz0,hz1,hz2⟩:=YM Tryz.QZ;rw [wV h0 h1];have HR:Hid (Rd .u8 w v xs):=h;obtain ⟨ao,cap,rfl,_,_⟩:=h.len;clear h;have t1:((xs.length:Int) == 0)=false:=YH.2 (by omega);have t2:¬(2000:Int)<(xs.length:Int):=by omega
 go_enter Tryz.func127,Tryz.ntmps127
 go_wp2_with fail
 refine (IN _ _ xs HR.out hby (by omega)).mono ?_;rintro e w1 ⟨v1,rfl,o1,b1⟩;have hpl:=Jz xs
 rcases o1.row with ⟨rfl,h3⟩ | ⟨g,cp,rfl,hbg,hmc,hcm⟩
 · have:=ZM List.length h3;rw [hpl] at this;simp at this;omega
 have hm0:(pk xs).length≤2286:=by omega
 have hm1:2≤(pk xs).length:=by omega
 have ZF:Hid (Own .u8 5 w1 w.heap.size (.slice (some ⟨g,0,none⟩) (pk xs).length cp) (pk xs)):=o1;have HB1:Hid (Zi w w1):=b1;have hsz:=b1.size;have hgl:g<w1.heap.size:=(o1.lt g rfl).2;generalize hm:(pk xs).length=m at *;have HM:Hid ((pk xs).length=m):=hm;clear hm hpl o1 b1 t1 t2 h0 h1
 go_wp2_with (at_make;go_must (refine Vh _ rfl _ _ 22 rfl w1.heap.size 5 i0 (.int .u8 0) 1 Tryz.underlying22 hi hz0 hz1 _ _ _ (2+m) rfl rfl ?b1 ?b2 ?b3 ?b4 ?_))
 case b1=>omega
 case b2=>rw [hz2];omega
 case b3=>unfold maxLen;omega
 case b4=>exact YR
 intro w2 ho2 hg2;have HB2:Hid (Zi w1 w2):=Yy.grown hg2 YR (by simp);have hsz2:=hg2.size;clear hg2;have e1:bits .or .u8 128 ((m:Int) / 128)=128+(m:Int) / 128:=IS _ (by omega) (by omega);have e2:bits .or .u8 128 ((m:Int) % 128)=128+(m:Int) % 128:=IS _ (by omega) (by omega);have e3:bits .and .i64 (m:Int) 127=(m:Int) % 128:=i64_and127 _
 go_wp2_with (at_builtin;go_must (refine WG _ rfl (.tmp 19) (.tmp 30) 22 rfl w1.heap.size 5 i0 1 Tryz.underlying22 hi hz1 w1.heap.size 0 (2+m) _ rfl (ho2.alloc _) ⟨w2.heap.size,0,none⟩ 2 2 [.int .u8 (128+(m:Int) / 128),.int .u8 (128+(m:Int) % 128)] rfl rfl (cell_two_new _ _ _ _) (by intro u hu;simp at hu;rcases hu with rfl | rfl <;> rfl) (by omega) ?_))
 intro w3 ho3 hg3;have HB3:Hid (Zi w1 w3):=(HB2.out.alloc hsz2 _).grown hg3 (by simp;omega) (by intro k hk;simp at hk;omega);have ZD:=hg3.size;clear hg3 ho2 e1 e2 e3;have Z4:=ZU (ZF.out.below HB3.out)
 go_wp2_with (at_builtin;go_must (refine WG _ rfl (.tmp 32) (.tmp 33) 22 rfl w1.heap.size 5 i0 1 Tryz.underlying22 hi hz1 w1.heap.size 2 (2+m) _ rfl ho3 ⟨g,0,none⟩ m cp ((pk xs).map (Value.int .u8)) rfl ?c0 (Ap Z4.out) (Yi _ _) (by omega) ?_))
 case c0=>rw [Zl,HM.out,Yr]
 intro w4 GR hg4;have oN:Hid (Zi w1 w4):=HB3.out.grown hg4 (by have:=HB3.out.size;omega) (by intro k hk;simp at hk;omega);clear hg4 ho3;go_wp2;go_ret;have Rb:Own .u8 5 w4 w1.heap.size (.slice (some ⟨w1.heap.size,0,none⟩) (2+m) (2+m)) ([128+((pk xs).length:Int) / 128,128+((pk xs).length:Int) % 128]++pk xs):=by
  rw [HM.out];exact QY (q:=2+m) (by rw [ZZ,HM.out];rfl) rfl (by rw [Y6];exact GR)
 exact ⟨_,rfl,Rb.mono hsz,HB1.out.trans (oN.out.mono hsz)⟩
theorem JY (w:World) (v:Value) (xs:List Int) (h:Rd .u8 w v xs) (hby:Sn xs) (hn:xs.length≤1099511627776) :
    Calls Tryz.prog 127 #[v] w fun e w'=>∃v',e=.returned v'∧Own .u8 5 w' w.heap.size v' (fr xs)∧Zi w w':=by
 by_cases hc:xs.length=0∨2000<xs.length
 · rw [kG hc]
   obtain ⟨ao,cap,rfl,_,_⟩:=h.len;exact Ig w ao _ cap hn hc
 exact JZ w v xs h hby (by omega) (by omega)
def Good (ns:List Nd):Prop:=∀n ∈ ns,Wl n=true
theorem Ao (h:WE ns=true):Good ns:=by
 unfold WE TY at h
 simp only [ZA,Yw,Yb] at h
 intro n hn;obtain ⟨i,hi,rfl⟩:=List.mem_iff_getElem.1 hn;have:=h.2 i hi;unfold MP at this
 simp only [ZA] at this
 rw [WF hi] at this;exact this.1
theorem rX (h:Good ns) (k:Nat) (hk:k<ns.length):Wl (Ye ns k)=true:=by rw [WF hk];exact h _ (YP hk)
theorem rW (h:Good ns) (i:Nat):(Ye ns i).path.size≤1048576∧(Ye ns i).data.size≤1048576:=by
 by_cases hi:i<ns.length
 · have:=TX (rX h i hi)
   exact ⟨by omega,by omega⟩
 unfold Ye;rw [Xy,Yk (by omega)];exact ⟨by simp [nd0],by simp [nd0]⟩
def MW (W:World) (b:Nat) (x0 x1 x2 x3:Value):Prop:=b<W.heap.size∧(W.cell? ⟨b,0,none⟩=some x0∧W.cell? ⟨b,1,none⟩=some x1∧W.cell? ⟨b,2,none⟩=some x2∧W.cell? ⟨b,3,none⟩=some x3)∧(W.frozen? ⟨b,0,none⟩=false∧W.frozen? ⟨b,1,none⟩=false∧W.frozen? ⟨b,2,none⟩=false∧W.frozen? ⟨b,3,none⟩=false)
theorem MW.Xe (h:MW W b x0 x1 x2 x3) (hb:Below B W W') (hB:b<B):MW W' b x0 x1 x2 x3 :=
 ⟨ZY h.1 hb.size,⟨(hb.cell (p:=⟨b,0,none⟩) hB).trans h.2.1.1,(hb.cell (p:=⟨b,1,none⟩) hB).trans h.2.1.2.1,(hb.cell (p:=⟨b,2,none⟩) hB).trans h.2.1.2.2.1,(hb.cell (p:=⟨b,3,none⟩) hB).trans h.2.1.2.2.2⟩,
  (hb.frozen (p:=⟨b,0,none⟩) hB).trans h.2.2.1,(hb.frozen (p:=⟨b,1,none⟩) hB).trans h.2.2.2.1,(hb.frozen (p:=⟨b,2,none⟩) hB).trans h.2.2.2.2.1,(hb.frozen (p:=⟨b,3,none⟩) hB).trans h.2.2.2.2.2⟩
theorem MW.below (h:MW W b x0 x1 x2 x3) (hb:Zi W W'):MW W' b x0 x1 x2 x3:=h.Xe hb h.1
theorem MW.new (W:World) (x0 x1 x2 x3:Value) (t:TypeId):MW (W.alloc (.cells #[x0,x1,x2,x3] t)) W.heap.size x0 x1 x2 x3:=⟨by simp,⟨by simp,by simp,by simp,by simp⟩,by simp,by simp,by simp,by simp⟩
def Bz (w:World) (vt:Value) (W:World):Prop:=Zi w W∧w.heap.size+2≤W.heap.size∧W.cell? ⟨w.heap.size,0,none⟩=some vt∧MW W (w.heap.size+1) (.slice none 0 0) (.int .i64 0) (.int .i64 0) (.int .i64 0)
theorem Bz.Xe (h:Bz w vt W) (hb:Below B W W') (hB:w.heap.size+2≤B):Bz w vt W' :=
 ⟨h.1.trans (hb.mono (by omega)),ZJ h.2.1 hb.size,(hb.cell (p:=⟨w.heap.size,0,none⟩) (by show w.heap.size<_;omega)).trans h.2.2.1,h.2.2.2.Xe hb (by omega)⟩
theorem Bz.below (h:Bz w vt W) (hb:Zi W W'):Bz w vt W':=h.Xe hb h.2.1
theorem Bz.new (w:World) (vt:Value) (t1 t2:TypeId):Bz w vt ((w.alloc (.cells #[vt] t1)).alloc (.cells #[.slice none 0 0,.int .i64 0,.int .i64 0,.int .i64 0] t2)):=by
 refine ⟨(Yy.alloc YR _).alloc (by simp) _,by simp,?_,?_⟩
 · exact ((Yy.alloc YR _).cell (p:=⟨w.heap.size,0,none⟩) (show w.heap.size<_ by simp)).trans (by simp)
 have:=MW.new (w.alloc (.cells #[vt] t1)) (.slice none 0 0) (.int .i64 0) (.int .i64 0) (.int .i64 0) t2
 simpa using this
theorem MW.set0 (h:MW W b x0 x1 x2 x3) (u:Value):MW (W.setCell ⟨b,0,none⟩ u) b u x1 x2 x3 :=
 ⟨by simpa using h.1,⟨Zk _ _ _ h.2.1.1,(ZV _ _ _ _ (by simp)).trans h.2.1.2.1,(ZV _ _ _ _ (by simp)).trans h.2.1.2.2.1,(ZV _ _ _ _ (by simp)).trans h.2.1.2.2.2⟩,by simpa using h.2.2.1,by simpa using h.2.2.2.1,by simpa using h.2.2.2.2.1,by simpa using h.2.2.2.2.2⟩
theorem MW.set1 (h:MW W b x0 x1 x2 x3) (u:Value):MW (W.setCell ⟨b,1,none⟩ u) b x0 u x2 x3 :=
 ⟨by simpa using h.1,⟨(ZV _ _ _ _ (by simp)).trans h.2.1.1,Zk _ _ _ h.2.1.2.1,(ZV _ _ _ _ (by simp)).trans h.2.1.2.2.1,(ZV _ _ _ _ (by simp)).trans h.2.1.2.2.2⟩,by simpa using h.2.2.1,by simpa using h.2.2.2.1,by simpa using h.2.2.2.2.1,by simpa using h.2.2.2.2.2⟩
theorem MW.set2 (h:MW W b x0 x1 x2 x3) (u:Value):MW (W.setCell ⟨b,2,none⟩ u) b x0 x1 u x3 :=
 ⟨by simpa using h.1,⟨(ZV _ _ _ _ (by simp)).trans h.2.1.1,(ZV _ _ _ _ (by simp)).trans h.2.1.2.1,Zk _ _ _ h.2.1.2.2.1,(ZV _ _ _ _ (by simp)).trans h.2.1.2.2.2⟩,by simpa using h.2.2.1,by simpa using h.2.2.2.1,by simpa using h.2.2.2.2.1,by simpa using h.2.2.2.2.2⟩
theorem MW.gW (h:MW W b x0 x1 x2 x3) (u:Value):MW (W.setCell ⟨b,3,none⟩ u) b x0 x1 x2 u :=
 ⟨by simpa using h.1,⟨(ZV _ _ _ _ (by simp)).trans h.2.1.1,(ZV _ _ _ _ (by simp)).trans h.2.1.2.1,(ZV _ _ _ _ (by simp)).trans h.2.1.2.2.1,Zk _ _ _ h.2.1.2.2.2⟩,by simpa using h.2.2.1,by simpa using h.2.2.2.1,by simpa using h.2.2.2.2.1,by simpa using h.2.2.2.2.2⟩
end Go.Proofs.YtpmjnbmkippaiaaGreatDoor


