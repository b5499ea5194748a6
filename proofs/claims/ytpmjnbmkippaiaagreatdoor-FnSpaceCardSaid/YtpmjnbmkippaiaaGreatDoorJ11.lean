import Derived.Test.YtpmjnbmkippaiaaGreatDoorJ10
import Derived.ChangeKeysEq
import Derived.Lib.SliceRun
set_option maxRecDepth 100000
set_option maxHeartbeats 16000000
set_option linter.all false
namespace Go.Proofs.YtpmjnbmkippaiaaGreatDoor
open Go.RowKit Go.Shelf
variable {L S b c g l s x:Int} {ps rs:List (Int × List Int)} {V YL xs ys zs:List Int} {lo n sB z:Nat} {row:Option Nat} {e:TypeId} {v:Value} {W W' w w':World}
def zeroV:Value:=.agg #[.bool false,.int .i64 0,.int .i64 0,.int .i64 0,.int .i64 0,.int .i64 0]
def Zr (W:World) (k:Nat):Prop :=
 W.cell? ⟨k,0,none⟩=some (.bool false)∧W.cell? ⟨k,1,none⟩=some (.int .i64 0)∧W.cell? ⟨k,2,none⟩=some (.int .i64 0)∧W.cell? ⟨k,3,none⟩=some (.int .i64 0)∧W.cell? ⟨k,4,none⟩=some (.int .i64 0)∧W.cell? ⟨k,5,none⟩=some (.int .i64 0)
theorem Zr.same {k:Nat} (h:Zr W k) (he:∀j,W'.cell? ⟨k,j,none⟩=W.cell? ⟨k,j,none⟩):Zr W' k:=by
 obtain ⟨h0,h1,h2,h3,h4,h5⟩:=h;exact ⟨(he 0).trans h0,(he 1).trans h1,(he 2).trans h2,(he 3).trans h3,(he 4).trans h4,(he 5).trans h5⟩
def DS (w W:World) (zs:List Int) (g b s l c:Int):Prop :=
 RS w W (w.heap.size+1) zs∧Zr W w.heap.size∧qh W (w.heap.size+1+1) g b s l c∧(∀j,W.frozen? ⟨w.heap.size+1+1,j,none⟩=false)∧∀j,W.frozen? ⟨w.heap.size,j,none⟩=false
theorem DS.below (h:DS w W zs g b s l c):Zi w W:=h.1.2.2.2.1
theorem DS.number {zs':List Int} {v':Value} {q:Nat} (h:DS w W zs g b s l c) (hr:RS w ((W.setCell ⟨w.heap.size+1,0,none⟩ v').drewN q) (w.heap.size+1) zs'):DS w ((W.setCell ⟨w.heap.size+1,0,none⟩ v').drewN q) zs' g b s l c:=by
 obtain ⟨-,hz,hx,hf,hf0⟩:=h;refine ⟨hr,?_,?_,?_,?_⟩
 · exact Zr.same hz (fun j=>ZV _ _ _ _ (by intro e;injection e with e;omega))
 · obtain ⟨x0,x1,x2,x3,x4,x5⟩:=hx
   have e:∀j,((W.setCell ⟨w.heap.size+1,0,none⟩ v').drewN q).cell? ⟨w.heap.size+1+1,j,none⟩=W.cell? ⟨w.heap.size+1+1,j,none⟩:=fun j=>ZV _ _ _ _ (by intro e;injection e with e;omega)
   exact ⟨by show _<(W.setCell _ _).heap.size;simpa using x0,(e 0).trans x1,(e 1).trans x2,(e 2).trans x3,(e 3).trans x4,(e 4).trans x5⟩
 · intro j;show (W.setCell _ _).frozen? _=false;rw [Zb];exact hf j
 intro j;show (W.setCell _ _).frozen? _=false;rw [Zb];exact hf0 j
theorem DS.put {g' b' s' l' c':Int} (i:Nat) (z:Int) (h:DS w W zs g b s l c)
    (hx:qh (W.setCell ⟨w.heap.size+1+1,i,none⟩ (.int .i64 z)) (w.heap.size+1+1) g' b' s' l' c'):DS w (W.setCell ⟨w.heap.size+1+1,i,none⟩ (.int .i64 z)) zs g' b' s' l' c':=by
 obtain ⟨⟨r1,r2,r3,r4,v,r5,r6⟩,hz,-,hf,hf0⟩:=h;refine ⟨⟨r1,by simpa using r2,by rw [Zb];exact r3,r4.setCell (by show _≤w.heap.size+1+1;omega) _,v,?_,r6⟩,?_,hx,?_,?_⟩
 · rw [ZV _ _ _ _ (by intro e;injection e with e;omega)];exact r5
 · exact Zr.same hz (fun j=>ZV _ _ _ _ (by intro e;injection e with e;omega))
 · intro j;rw [Zb];exact hf j
 intro j;rw [Zb];exact hf0 j
theorem DS.o0 (z:Int) (h:DS w W zs g b s l c):DS w (W.setCell ⟨w.heap.size+1+1,0,none⟩ (.int .i64 z)) zs z b s l c:=by
 obtain ⟨x0,x1,x2,x3,x4,x5⟩:=h.2.2.1;exact h.put 0 z ⟨by simpa using x0,Zk _ _ _ x1,(ZV _ _ _ _ (by intro e;injection e with _ e;omega)).trans x2,(ZV _ _ _ _ (by intro e;injection e with _ e;omega)).trans x3,(ZV _ _ _ _ (by intro e;injection e with _ e;omega)).trans x4,(ZV _ _ _ _ (by intro e;injection e with _ e;omega)).trans x5⟩
theorem DS.oZ (z:Int) (h:DS w W zs g b s l c):DS w (W.setCell ⟨w.heap.size+1+1,1,none⟩ (.int .i64 z)) zs g z s l c:=by
 obtain ⟨x0,x1,x2,x3,x4,x5⟩:=h.2.2.1;exact h.put 1 z ⟨by simpa using x0,(ZV _ _ _ _ (by intro e;injection e with _ e;omega)).trans x1,Zk _ _ _ x2,(ZV _ _ _ _ (by intro e;injection e with _ e;omega)).trans x3,(ZV _ _ _ _ (by intro e;injection e with _ e;omega)).trans x4,(ZV _ _ _ _ (by intro e;injection e with _ e;omega)).trans x5⟩
theorem DS.oY (z:Int) (h:DS w W zs g b s l c):DS w (W.setCell ⟨w.heap.size+1+1,2,none⟩ (.int .i64 z)) zs g b z l c:=by
 obtain ⟨x0,x1,x2,x3,x4,x5⟩:=h.2.2.1;exact h.put 2 z ⟨by simpa using x0,(ZV _ _ _ _ (by intro e;injection e with _ e;omega)).trans x1,(ZV _ _ _ _ (by intro e;injection e with _ e;omega)).trans x2,Zk _ _ _ x3,(ZV _ _ _ _ (by intro e;injection e with _ e;omega)).trans x4,(ZV _ _ _ _ (by intro e;injection e with _ e;omega)).trans x5⟩
theorem DS.oX (z:Int) (h:DS w W zs g b s l c):DS w (W.setCell ⟨w.heap.size+1+1,3,none⟩ (.int .i64 z)) zs g b s z c:=by
 obtain ⟨x0,x1,x2,x3,x4,x5⟩:=h.2.2.1;exact h.put 3 z ⟨by simpa using x0,(ZV _ _ _ _ (by intro e;injection e with _ e;omega)).trans x1,(ZV _ _ _ _ (by intro e;injection e with _ e;omega)).trans x2,(ZV _ _ _ _ (by intro e;injection e with _ e;omega)).trans x3,Zk _ _ _ x4,(ZV _ _ _ _ (by intro e;injection e with _ e;omega)).trans x5⟩
theorem DS.oV (z:Int) (h:DS w W zs g b s l c):DS w (W.setCell ⟨w.heap.size+1+1,4,none⟩ (.int .i64 z)) zs g b s l z:=by
 obtain ⟨x0,x1,x2,x3,x4,x5⟩:=h.2.2.1;exact h.put 4 z ⟨by simpa using x0,(ZV _ _ _ _ (by intro e;injection e with _ e;omega)).trans x1,(ZV _ _ _ _ (by intro e;injection e with _ e;omega)).trans x2,(ZV _ _ _ _ (by intro e;injection e with _ e;omega)).trans x3,(ZV _ _ _ _ (by intro e;injection e with _ e;omega)).trans x4,Zk _ _ _ x5⟩
theorem DS.start (w:World) (ao:Option Addr) (ys:List Int) (cap:Nat) (h:Rd .u8 w (.slice ao ys.length cap) ys) :
    DS w (((w.alloc (.cells #[.bool false,.int .i64 0,.int .i64 0,.int .i64 0,.int .i64 0,.int .i64 0] 97)).alloc (.cells #[.slice ao ys.length cap] 256)).alloc (.cells #[.int .i64 0,.int .i64 0,.int .i64 0,.int .i64 0,.int .i64 0] 60)) ys 0 0 0 0 0:=by
 refine ⟨⟨by omega,by simp,(by go_simp),((Yy.alloc YR _).alloc (by simp) _).alloc (by simp;omega) _,_,(by go_simp),h⟩,⟨(by go_simp),(by go_simp),(by go_simp),(by go_simp),(by go_simp),(by go_simp)⟩,⟨by simp,(by go_simp),(by go_simp),(by go_simp),(by go_simp),(by go_simp)⟩,fun j=>(by go_simp),fun j=>(by go_simp)⟩
theorem Qg (h:ys.length<21):IB ys=zeroV:=by
 unfold IB;rw [Z1 (fun h'=>by have:=h'.1;omega)];rfl
theorem DS.keep (h:DS w W zs g b s l c) (hb:Zi W W'):DS w W' zs g b s l c:=by
 have hs:=h.2.2.1.1;obtain ⟨hr,hz,hx,hf,hf0⟩:=h;exact ⟨hr.keep hb hr.2.1,Zr.same hz (fun j=>hb.cell (p:=⟨w.heap.size,j,none⟩) (by show w.heap.size<_;omega)),hx.below hb hs,fun j=>(hb.frozen (p:=⟨w.heap.size+1+1,j,none⟩) hs).trans (hf j),fun j=>(hb.frozen (p:=⟨w.heap.size,j,none⟩) (by show w.heap.size<_;omega)).trans (hf0 j)⟩
theorem ry (g b s l c:Int):Sn (sup g b s l c):=by
 unfold sup
 split
 · unfold AM
   intro x hx
   simp only [Y4] at hx
   rcases hx with (((((hx | hx) | hx) | hx) | hx) | hx) | hx
   · exact Tn _ _ x hx
   · exact Tn _ _ x hx
   · exact Tn _ _ x hx
   · exact Tn _ _ x hx
   · exact Tn _ _ x hx
   · have:=Ug hx;omega
   exact Tn _ _ x hx
 intro x hx;cases hx
theorem wrap_small (h:Sn ys) (n:Nat) (hn:n≤4):wrap64 ((Uh (ys.take n):Nat):Int)=((Uh (ys.take n):Nat):Int):=by
 have hb:=(MR (ys.take n).length (ys.take n) rfl (fun x hx=>h x (Xa hx))).2;have h1:256 ^ (ys.take n).length≤256 ^ 4:=Wx (by omega) (by rw [Zw];omega);have h2:Uh (ys.take n)<4294967296:=ZY hb h1;unfold wrap64;omega
theorem nI (h:Sn ys) (hl:21≤ys.length) {z0 z1 z2 z3 z4:Int} (h0:z0=wrap64 ((Uh (ys.take 8):Nat):Int)) (h1:z1=wrap64 ((Uh ((ys.drop 8).take 1):Nat):Int))
    (h2:z2=wrap64 ((Uh ((ys.drop 9).take 4):Nat):Int)) (h3:z3=wrap64 ((Uh ((ys.drop 13).take 4):Nat):Int)) (h4:z4=wrap64 ((Uh ((ys.drop 17).take 4):Nat):Int)) :
    IB ys=if sup z0 z1 z2 z3 z4=ys then .agg #[.bool true,.int .i64 z0,.int .i64 z1,.int .i64 z2,.int .i64 z3,.int .i64 z4] else zeroV:=by
 have hd:∀k,Sn (ys.drop k):=fun k x hx=>h x (XV hx)
 rw [wrap_small (hd 8) 1 (by omega)] at h1;rw [wrap_small (hd 9) 4 (by omega)] at h2;rw [wrap_small (hd 13) 4 (by omega)] at h3;rw [wrap_small (hd 17) 4 (by omega)] at h4;have e0:z0=nG ys:=h0;have e1:z1=nB ys:=h1;have e2:z2=nS ys:=h2;have e3:z3=nL ys:=h3;have e4:z4=nC ys:=h4;rw [e0,e1,e2,e3,e4];unfold IB
 by_cases hs:sup (nG ys) (nB ys) (nS ys) (nL ys) (nC ys)=ys
 · rw [Z0 hs,Z0 (show OD ys from ⟨AL hs (fun e=>by rw [e] at hl;simp at hl),hs⟩)]
 rw [Z1 hs,Z1 (show ¬OD ys from fun h=>hs h.2)];rfl
theorem EU (w:World) (v:Value) (ys:List Int) (h:Rd .u8 w v ys) (hby:Sn ys) :
    Calls Tryz.prog 132 #[v] w fun e w'=>e=.returned (IB ys)∧Zi w w':=by
 obtain ⟨ao,cap,rfl,-,-⟩:=h.len;have HR:=ZU h;have Lp:=ZU hby
 have D0:=ZU (DS.start w ao ys cap h);clear h hby
 have hm:=fE
 go_enter_defers Tryz.func132,Tryz.ntmps132
 go_wp2_with fail
 generalize (((w.alloc _).alloc _).alloc _)=W0 at *
 by_cases hl0:8≤ys.length
 rotate_left
 · refine (VG w _ (w.heap.size+1) 8 (ys) D0.out.1 (by omega)).mono ?_
   rintro e W ⟨rfl,rfl⟩;refine XE (f:=173) (args:=#[]) (by simp) (by simp [go_sem]) ?_;refine (Qh [] _).mono ?_;rintro e u' w2 ⟨rfl,rfl,b2⟩;have Z2:=Zr.same D0.out.2.1 (fun q=>b2.cell (p:=⟨w.heap.size,q,none⟩) (by have:=D0.out.1.2.1;show w.heap.size<_;omega));obtain ⟨z0,z1,z2,z3,z4,z5⟩:=Z2;rw [Qg (by omega)];have B2:=D0.out.below.trans (b2.mono D0.out.below.size)
   simp [Leaves,settle,results,Tryz.results132,go_sem,z0,z1,z2,z3,z4,z5,B2,zeroV]
 refine (Vc w _ (w.heap.size+1) 8 (ys) D0.out.1 (by omega) (by omega) (by omega) (Lp.out)).mono ?_;rintro e W ⟨rfl,hr,v',q,rfl⟩;have Z8:Hid (DS w ((W0.setCell ⟨w.heap.size+1,0,none⟩ v').drewN q) (ys.drop 8) 0 0 0 0 0):=by
  have:=D0.out.number hr;exact this
 clear hr;generalize (W0.setCell _ _).drewN q=V0 at *;obtain ⟨z0,hz0⟩:∃z,z=(wrap64 ((Uh ((ys).take 8):Nat):Int)):=⟨_,rfl⟩;rw [←hz0];have HZ0:=ZU hz0;clear hz0 D0;obtain ⟨y0,y1,y2,y3,y4,y5⟩:=Z8.out.2.2.1;have yf:=Z8.out.2.2.2.1 0;have D1:=ZU (Z8.out.o0 z0)
 go_wp2_with fail
 clear y0 y1 y2 y3 y4 y5 yf Z8;generalize V0.setCell _ _=W1 at *
 by_cases hl1:9≤ys.length
 rotate_left
 · refine (VG w _ (w.heap.size+1) 1 (ys.drop 8) D1.out.1 (by rw [ZS];omega)).mono ?_
   rintro e W ⟨rfl,rfl⟩;refine XE (f:=173) (args:=#[]) (by simp) (by simp [go_sem]) ?_;refine (Qh [] _).mono ?_;rintro e u' w2 ⟨rfl,rfl,b2⟩;have Z2:=Zr.same D1.out.2.1 (fun q=>b2.cell (p:=⟨w.heap.size,q,none⟩) (by have:=D1.out.1.2.1;show w.heap.size<_;omega));obtain ⟨z0,z1,z2,z3,z4,z5⟩:=Z2;rw [Qg (by omega)];have B2:=D1.out.below.trans (b2.mono D1.out.below.size)
   simp [Leaves,settle,results,Tryz.results132,go_sem,z0,z1,z2,z3,z4,z5,B2,zeroV]
 refine (Vc w _ (w.heap.size+1) 1 (ys.drop 8) D1.out.1 (by rw [ZS];omega) (by omega) (by omega) (fun x hx=>Lp.out x (XV hx))).mono ?_;rintro e W ⟨rfl,hr,v',q,rfl⟩;have Z7:Hid (DS w ((W1.setCell ⟨w.heap.size+1,0,none⟩ v').drewN q) (ys.drop 9) z0 0 0 0 0):=by
  have:=D1.out.number hr;rw [Yc] at this;exact this
 clear hr;generalize (W1.setCell _ _).drewN q=V1 at *;obtain ⟨z1,hz1⟩:∃z,z=(wrap64 ((Uh ((ys.drop 8).take 1):Nat):Int)):=⟨_,rfl⟩;rw [←hz1];have HZ1:=ZU hz1;clear hz1 D1;obtain ⟨y0,y1,y2,y3,y4,y5⟩:=Z7.out.2.2.1;have yf:=Z7.out.2.2.2.1 1;have D2:=ZU (Z7.out.oZ z1)
 go_wp2_with fail
 clear y0 y1 y2 y3 y4 y5 yf Z7;generalize V1.setCell _ _=W2 at *
 by_cases hl2:13≤ys.length
 rotate_left
 · refine (VG w _ (w.heap.size+1) 4 (ys.drop 9) D2.out.1 (by rw [ZS];omega)).mono ?_
   rintro e W ⟨rfl,rfl⟩;refine XE (f:=173) (args:=#[]) (by simp) (by simp [go_sem]) ?_;refine (Qh [] _).mono ?_;rintro e u' w2 ⟨rfl,rfl,b2⟩;have Z2:=Zr.same D2.out.2.1 (fun q=>b2.cell (p:=⟨w.heap.size,q,none⟩) (by have:=D2.out.1.2.1;show w.heap.size<_;omega));obtain ⟨z0,z1,z2,z3,z4,z5⟩:=Z2;rw [Qg (by omega)];have B2:=D2.out.below.trans (b2.mono D2.out.below.size)
   simp [Leaves,settle,results,Tryz.results132,go_sem,z0,z1,z2,z3,z4,z5,B2,zeroV]
 refine (Vc w _ (w.heap.size+1) 4 (ys.drop 9) D2.out.1 (by rw [ZS];omega) (by omega) (by omega) (fun x hx=>Lp.out x (XV hx))).mono ?_;rintro e W ⟨rfl,hr,v',q,rfl⟩;have Z6:Hid (DS w ((W2.setCell ⟨w.heap.size+1,0,none⟩ v').drewN q) (ys.drop 13) z0 z1 0 0 0):=by
  have:=D2.out.number hr;rw [Yc] at this;exact this
 clear hr;generalize (W2.setCell _ _).drewN q=V2 at *;obtain ⟨z2,hz2⟩:∃z,z=(wrap64 ((Uh ((ys.drop 9).take 4):Nat):Int)):=⟨_,rfl⟩;rw [←hz2];have HZ2:=ZU hz2;clear hz2 D2;obtain ⟨y0,y1,y2,y3,y4,y5⟩:=Z6.out.2.2.1;have yf:=Z6.out.2.2.2.1 2;have D3:=ZU (Z6.out.oY z2)
 go_wp2_with fail
 clear y0 y1 y2 y3 y4 y5 yf Z6;generalize V2.setCell _ _=W3 at *
 by_cases hl3:17≤ys.length
 rotate_left
 · refine (VG w _ (w.heap.size+1) 4 (ys.drop 13) D3.out.1 (by rw [ZS];omega)).mono ?_
   rintro e W ⟨rfl,rfl⟩;refine XE (f:=173) (args:=#[]) (by simp) (by simp [go_sem]) ?_;refine (Qh [] _).mono ?_;rintro e u' w2 ⟨rfl,rfl,b2⟩;have Z2:=Zr.same D3.out.2.1 (fun q=>b2.cell (p:=⟨w.heap.size,q,none⟩) (by have:=D3.out.1.2.1;show w.heap.size<_;omega));obtain ⟨z0,z1,z2,z3,z4,z5⟩:=Z2;rw [Qg (by omega)];have B2:=D3.out.below.trans (b2.mono D3.out.below.size)
   simp [Leaves,settle,results,Tryz.results132,go_sem,z0,z1,z2,z3,z4,z5,B2,zeroV]
 refine (Vc w _ (w.heap.size+1) 4 (ys.drop 13) D3.out.1 (by rw [ZS];omega) (by omega) (by omega) (fun x hx=>Lp.out x (XV hx))).mono ?_;rintro e W ⟨rfl,hr,v',q,rfl⟩;have Z5:Hid (DS w ((W3.setCell ⟨w.heap.size+1,0,none⟩ v').drewN q) (ys.drop 17) z0 z1 z2 0 0):=by
  have:=D3.out.number hr;rw [Yc] at this;exact this
 clear hr;generalize (W3.setCell _ _).drewN q=V3 at *;obtain ⟨z3,hz3⟩:∃z,z=(wrap64 ((Uh ((ys.drop 13).take 4):Nat):Int)):=⟨_,rfl⟩;rw [←hz3];have HZ3:=ZU hz3;clear hz3 D3;obtain ⟨y0,y1,y2,y3,y4,y5⟩:=Z5.out.2.2.1;have yf:=Z5.out.2.2.2.1 3;have D4:=ZU (Z5.out.oX z3)
 go_wp2_with fail
 clear y0 y1 y2 y3 y4 y5 yf Z5;generalize V3.setCell _ _=W4 at *
 by_cases hl4:21≤ys.length
 rotate_left
 · refine (VG w _ (w.heap.size+1) 4 (ys.drop 17) D4.out.1 (by rw [ZS];omega)).mono ?_
   rintro e W ⟨rfl,rfl⟩;refine XE (f:=173) (args:=#[]) (by simp) (by simp [go_sem]) ?_;refine (Qh [] _).mono ?_;rintro e u' w2 ⟨rfl,rfl,b2⟩;have Z2:=Zr.same D4.out.2.1 (fun q=>b2.cell (p:=⟨w.heap.size,q,none⟩) (by have:=D4.out.1.2.1;show w.heap.size<_;omega));obtain ⟨z0,z1,z2,z3,z4,z5⟩:=Z2;rw [Qg (by omega)];have B2:=D4.out.below.trans (b2.mono D4.out.below.size)
   simp [Leaves,settle,results,Tryz.results132,go_sem,z0,z1,z2,z3,z4,z5,B2,zeroV]
 refine (Vc w _ (w.heap.size+1) 4 (ys.drop 17) D4.out.1 (by rw [ZS];omega) (by omega) (by omega) (fun x hx=>Lp.out x (XV hx))).mono ?_;rintro e W ⟨rfl,hr,v',q,rfl⟩;have Z4:Hid (DS w ((W4.setCell ⟨w.heap.size+1,0,none⟩ v').drewN q) (ys.drop 21) z0 z1 z2 z3 0):=by
  have:=D4.out.number hr;rw [Yc] at this;exact this
 clear hr;generalize (W4.setCell _ _).drewN q=V4 at *;obtain ⟨z4,qv⟩:∃z,z=(wrap64 ((Uh ((ys.drop 17).take 4):Nat):Int)):=⟨_,rfl⟩;rw [←qv];have iH:=ZU qv;clear qv D4;obtain ⟨y0,y1,y2,y3,y4,y5⟩:=Z4.out.2.2.1;have yf:=Z4.out.2.2.2.1 4;have D5:=ZU (Z4.out.oV z4)
 go_wp2_with fail
 clear y0 y1 y2 y3 y4 y5 yf Z4;generalize V4.setCell _ _=W5 at *;have ZN:=ZU (nI Lp.out hl4 HZ0.out HZ1.out HZ2.out HZ3.out iH.out);refine (Qv _ z0 z1 z2 z3 z4).mono ?_;rintro e W6 ⟨v6,rfl,o6,b6⟩;have s5:=D5.out.1.2.1;have Yj:=D5.out.2.2.1.1;have D6:=ZU (D5.out.keep b6);have O6:=ZU o6;have J:=ZU (HR.out.below D6.out.below);clear o6 b6 D5
 go_wp2_with fail
 refine (KU _ _ _ (sup z0 z1 z2 z3 z4) ys O6.out.rd J.out (ry _ _ _ _ _) Lp.out).mono ?_;rintro e W7 ⟨rfl,rfl⟩;obtain ⟨y0,y1,y2,y3,y4,y5⟩:=D6.out.2.2.1;obtain ⟨x0,x1,x2,x3,x4,x5⟩:=D6.out.2.1;have f0:=D6.out.2.2.2.2 0;have f1:=D6.out.2.2.2.2 1;have f2:=D6.out.2.2.2.2 2;have f3:=D6.out.2.2.2.2 3;have f4:=D6.out.2.2.2.2 4;have f5:=D6.out.2.2.2.2 5;have BB:=ZU D6.out.below
 by_cases hd:sup z0 z1 z2 z3 z4=ys
 · have A:Hid (IB ys=.agg #[.bool true,.int .i64 z0,.int .i64 z1,.int .i64 z2,.int .i64 z3,.int .i64 z4]):=by show _=_;rw [ZN.out,Z0 hd]
   rw [Zm hd];clear hd ZN;go_wp2;refine XE (f:=173) (args:=#[]) (by simp) (by simp [go_sem]) ?_;refine (Kt _).mono ?_;rintro e u' w2 ⟨rfl,rfl,rfl⟩;rw [A.out];have BW:=(((((BB.out.setCell (p:=⟨w.heap.size,0,none⟩) YR (.bool true)).setCell (p:=⟨w.heap.size,1,none⟩) YR (.int .i64 z0)).setCell (p:=⟨w.heap.size,2,none⟩) YR (.int .i64 z1)).setCell (p:=⟨w.heap.size,3,none⟩) YR (.int .i64 z2)).setCell (p:=⟨w.heap.size,4,none⟩) YR (.int .i64 z3)).setCell (p:=⟨w.heap.size,5,none⟩) YR (.int .i64 z4)
   simp [Leaves,settle,results,Tryz.results132,go_sem,x0,x1,x2,x3,x4,x5,BW]
 have A:Hid (IB ys=zeroV):=by show _=_;rw [ZN.out,Z1 hd]
 rw [Zo hd];clear hd ZN;go_wp2;refine XE (f:=173) (args:=#[]) (by simp) (by simp [go_sem]) ?_;refine (Kt _).mono ?_;rintro e u' w2 ⟨rfl,rfl,rfl⟩;rw [A.out];have BW:=(((((BB.out.setCell (p:=⟨w.heap.size,0,none⟩) YR (.bool false)).setCell (p:=⟨w.heap.size,1,none⟩) YR (.int .i64 0)).setCell (p:=⟨w.heap.size,2,none⟩) YR (.int .i64 0)).setCell (p:=⟨w.heap.size,3,none⟩) YR (.int .i64 0)).setCell (p:=⟨w.heap.size,4,none⟩) YR (.int .i64 0)).setCell (p:=⟨w.heap.size,5,none⟩) YR (.int .i64 0)
 simp [Leaves,settle,results,Tryz.results132,go_sem,x0,x1,x2,x3,x4,x5,BW,zeroV]
def PM (w:World) (S L:Int) (W:World):Prop :=
 Hid (Zi w W∧Vg W w.heap.size (.int .i64 S) (.int .i64 L)∧∃x y,SQ W (w.heap.size+1) x y)∧W.cell? ⟨w.heap.size,0,none⟩=some (.int .i64 S)∧W.cell? ⟨w.heap.size,1,none⟩=some (.int .i64 L)
theorem PM.below (h:PM w S L W) (hb:Zi W W'):PM w S L W':=by
 obtain ⟨x,y,hx⟩:=h.1.out.2.2;exact ⟨⟨h.1.out.1.trans (hb.mono h.1.out.1.size),h.1.out.2.1.below hb,x,y,hx.below hb⟩,(h.1.out.2.1.below hb).2.1,(h.1.out.2.1.below hb).2.2⟩
theorem PM.new (w:World) (S L:Int) (t1 t2:TypeId):PM w S L ((w.alloc (.cells #[.int .i64 S,.int .i64 L] t1)).alloc (.cells #[.int .i64 0,.int .i64 0] t2)):=by
 have h1:=(Vg.new w (.int .i64 S) (.int .i64 L) t1).below (Yy.alloc YR (.cells #[.int .i64 0,.int .i64 0] t2));have h2:=SQ.new (w.alloc (.cells #[.int .i64 S,.int .i64 L] t1)) (.int .i64 0) (.int .i64 0) t2;exact ⟨⟨(Yy.alloc YR _).alloc (by simp) _,h1,_,_,by simpa using h2⟩,h1.2.1,h1.2.2⟩
theorem SQ.stored {b:Nat} {x y:Value} (h:SQ W b x y) (u v:Value):SQ ((W.setCell ⟨b,0,none⟩ u).setCell ⟨b,1,none⟩ v) b u v:=by
 obtain ⟨⟨z,c0,c1⟩,f0,f1⟩:=h;exact ⟨⟨by simpa using z,by go_simp,by go_simp⟩,by simpa using f0,by simpa using f1⟩
theorem PM.stored (h:PM w S L W) (u v:Value):Vg ((W.setCell ⟨w.heap.size+1,0,none⟩ u).setCell ⟨w.heap.size+1,1,none⟩ v) (w.heap.size+1) u v:=by
 obtain ⟨x,y,hx⟩:=h.1.out.2.2;exact (hx.stored u v).1
theorem PM.store (h:PM w S L W) (u v:Value):PM w S L ((W.setCell ⟨w.heap.size+1,0,none⟩ u).setCell ⟨w.heap.size+1,1,none⟩ v):=by
 obtain ⟨x,y,hx⟩:=h.1.out.2.2;have hb:Below (w.heap.size+1) W ((W.setCell ⟨w.heap.size+1,0,none⟩ u).setCell ⟨w.heap.size+1,1,none⟩ v):=by
  refine Below.setCell (Below.setCell Yy ?_ _) ?_ _ <;> exact YR
 have b1:=h.1.out.2.1;have b2:Vg ((W.setCell ⟨w.heap.size+1,0,none⟩ u).setCell ⟨w.heap.size+1,1,none⟩ v) w.heap.size (.int .i64 S) (.int .i64 L):=⟨ZY b1.1 hb.size,(hb.cell (p:=⟨w.heap.size,0,none⟩) (by show w.heap.size<_;omega)).trans b1.2.1,(hb.cell (p:=⟨w.heap.size,1,none⟩) (by show w.heap.size<_;omega)).trans b1.2.2⟩;exact ⟨⟨h.1.out.1.trans (hb.mono (by omega)),b2,u,v,hx.stored u v⟩,b2.2.1,b2.2.2⟩
theorem So (w:World) (S L Xc:Int) (hc:Wp S L=true) (hb:0≤Xc∧Xc≤1) :
    Calls Tryz.prog 49 #[.agg #[.int .i64 S,.int .i64 L],.int .i64 Xc] w (Wj w (.agg #[.int .i64 (Rx S L Xc false),.int .i64 (I9 S L false)])):=by
 obtain ⟨⟨hS1,hS2⟩,hL1,hL2⟩:=(Xk S L).1 hc;clear hc;have hb':Xc=0∨Xc=1:=by omega
 have HA:Hid (Rx S L Xc false=2+Xc*(S+L)∧I9 S L false=S):=by unfold Rx I9;exact ⟨by simp,rfl⟩
 have hm:0≤Xc*(S+L)∧Xc*(S+L)≤128:=by rcases hb' with rfl | rfl <;> omega
 rw [HA.out.1,HA.out.2]
 go_enter Tryz.func49,Tryz.ntmps49
 go_wp2_with fail
 have F0:Hid (PM w S L ((w.alloc (.cells #[.int .i64 S,.int .i64 L] 25)).alloc (.cells #[.int .i64 0,.int .i64 0] 111))):=PM.new _ _ _ _ _;generalize (w.alloc _).alloc _=w0 at *;refine ZX (S:=PM w S L) (by kernel_rfl) (F0.out.below (below_drewN' w0 1)) (fun Z9=>?_)
 iterate 2 (refine Zf ?_ (by kernel_rfl) (fun _=>id) Z9 ?_ ?_;rotate_left;· intro w9 ZQ;obtain ⟨-,k0,k1⟩:=ZQ;go_simp;try with_reducible rfl)
 refine Yp 5 ?v11 rfl (by kernel_rfl) (fun _=>id) Z9 ?Ks ?_
 case Ks=>intro w9 ZQ;obtain ⟨-,k0,k1⟩:=ZQ;go_simp;try with_reducible rfl
 refine Yp 6 ?v12 rfl (by kernel_rfl) (fun _=>id) Z9 ?Dd ?_
 case Dd=>intro w9 ZQ;obtain ⟨-,k0,k1⟩:=ZQ;go_simp;try with_reducible rfl
 refine YS 2 rfl (by kernel_rfl) (fun K hK=>?_);go_simp;refine (Pj _ S L hS1 hS2 hL1 hL2).mono ?_;rintro e w2 ⟨rfl,b2⟩;have F2:=ZU (Z9.below b2);clear b2;clear Z9;refine hK.out _ _ (F2.out) (fun Z9=>?_);clear hK K;refine Yp 3 (.int .i64 (Xc*(S+L))) rfl (by kernel_rfl) (fun _=>id) Z9 ?nH ?_
 case nH =>
  intro w9 ZQ;go_simp
  try (rw [Zq];omega)
 refine Yp 4 (.int .i64 (2+Xc*(S+L))) rfl (by kernel_rfl) (fun _=>id) Z9 ?nE ?_
 case nE =>
  intro w9 ZQ;go_simp
  try (rw [Zq];omega)
 refine Zf ?_ (by kernel_rfl) (fun _=>id) Z9 ?_ ?_
 rotate_left
 · intro w9 ZQ;obtain ⟨-,k0,k1⟩:=ZQ;go_simp;try with_reducible rfl
 refine YS 8 rfl (by kernel_rfl) (fun K hK=>?_);obtain ⟨x9,y9,ZB⟩:=F2.out.1.out.2.2;obtain ⟨⟨z9,d0,d1⟩,f0,f1⟩:=ZB;go_simp;have F3:Hid (PM w S L ((w2.setCell ⟨w.heap.size+1,0,none⟩ (.int .i64 (2+Xc*(S+L)))).setCell ⟨w.heap.size+1,1,none⟩ (.int .i64 S))):=F2.out.store _ _;have X3:Hid (Vg ((w2.setCell ⟨w.heap.size+1,0,none⟩ (.int .i64 (2+Xc*(S+L)))).setCell ⟨w.heap.size+1,1,none⟩ (.int .i64 S)) (w.heap.size+1) (.int .i64 (2+Xc*(S+L))) (.int .i64 S)):=F2.out.stored _ _;clear d0 d1 f0 f1 z9 F2;generalize ((w2.setCell _ _).setCell _ _)=w3 at *;clear Z9;refine hK.out _ _ (F3.out) (fun Z9=>?_);clear hK K;refine ZR (by kernel_rfl) ?_ _
 try simp only [Act.put,WV,WU,WT]
 clear Z9;obtain ⟨-,d0,d1⟩:=X3.out;go_wp2;refine ZW (v:=.agg #[.int .i64 (2+Xc*(S+L)),.int .i64 S]) (by simp [results,Tryz.results49,go_sem,d0,d1]) rfl ⟨rfl,F3.out.1.out.1⟩
theorem ET (x y:Value) (W:World):(Instr.field 52 (.agg #[x,y]) 0).run Tryz.prog W=.ok x W:=by kernel_rfl
theorem zC (x y:Value) (W:World):(Instr.field 111 (.agg #[x,y]) 0).run Tryz.prog W=.ok x W:=by kernel_rfl
theorem RF (w:World) (S L Xc:Int) (hc:Wp S L=true) (hb:0≤Xc∧Xc≤1) :
    Calls Tryz.prog 79 #[.agg #[.int .i64 S,.int .i64 L],.int .i64 Xc] w (Wj w (.agg #[.int .i64 (Rx S L Xc true),.int .i64 (I9 S L true)])):=by
 obtain ⟨⟨hS1,hS2⟩,hL1,hL2⟩:=(Xk S L).1 hc;have HC:Hid (Wp S L=true∧0≤Xc∧Xc≤1):=⟨hc,hb⟩;clear hc;have hb':Xc=0∨Xc=1:=by omega
 have HA:Hid (Rx S L Xc true=Rx S L Xc false+S∧I9 S L true=L):=by unfold Rx I9;exact ⟨by simp,rfl⟩
 have hm:2≤Rx S L Xc false∧Rx S L Xc false≤130:=by unfold Rx;rcases hb' with rfl | rfl <;> simp <;> omega
 rw [HA.out.1,HA.out.2];have kB:Hid (∀W,Calls Tryz.prog 49 #[.agg #[.int .i64 S,.int .i64 L],.int .i64 Xc] W (Wj W (.agg #[.int .i64 (Rx S L Xc false),.int .i64 (I9 S L false)]))):=fun W=>So W S L Xc HC.out.1 HC.out.2
 generalize Rx S L Xc false=q at *;generalize I9 S L false=q2 at *;clear hb hb'
 go_enter Tryz.func79,Tryz.ntmps79
 go_wp2_with fail
 have F0:Hid (PM w S L ((w.alloc (.cells #[.int .i64 S,.int .i64 L] 25)).alloc (.cells #[.int .i64 0,.int .i64 0] 111))):=PM.new _ _ _ _ _;generalize (w.alloc _).alloc _=w0 at *;refine ZX (S:=PM w S L) (by kernel_rfl) (F0.out.below (below_drewN' w0 1)) (fun Z9=>?_)
 iterate 2 (refine Zf ?_ (by kernel_rfl) (fun _=>id) Z9 ?_ ?_;rotate_left;· intro w9 ZQ;obtain ⟨-,k0,k1⟩:=ZQ;go_simp;try with_reducible rfl)
 refine Yp 4 ?v18 rfl (by kernel_rfl) (fun _=>id) Z9 ?Y9 ?_
 case Y9=>intro w9 ZQ;obtain ⟨-,k0,k1⟩:=ZQ;go_simp;try with_reducible rfl
 refine Yp 5 ?v19 rfl (by kernel_rfl) (fun _=>id) Z9 ?Y7 ?_
 case Y7=>intro w9 ZQ;obtain ⟨-,k0,k1⟩:=ZQ;go_simp;try with_reducible rfl
 refine Yp 7 ?v20 rfl (by kernel_rfl) (fun _=>id) Z9 ?Y5 ?_
 case Y5=>intro w9 ZQ;obtain ⟨-,k0,k1⟩:=ZQ;go_simp;try with_reducible rfl
 refine Yp 8 ?v21 rfl (by kernel_rfl) (fun _=>id) Z9 ?Y3 ?_
 case Y3=>intro w9 ZQ;obtain ⟨-,k0,k1⟩:=ZQ;go_simp;try with_reducible rfl
 refine YS 2 rfl (by kernel_rfl) (fun K hK=>?_);go_simp;refine (kB.out _).mono ?_;rintro e w2 ⟨rfl,b2⟩;have F2:=ZU (Z9.below b2);clear b2;clear Z9;refine hK.out _ _ (F2.out) (fun Z9=>?_);clear hK K;refine Yp 3 (.int .i64 q) rfl (by kernel_rfl) (fun _=>id) Z9 ?Y2 ?_
 case Y2 =>
  intro w9 ZQ;have Y1:=zC (.int .i64 q) (.int .i64 q2) w9;go_simp
 refine Yp 6 (.int .i64 (q+S)) rfl (by kernel_rfl) (fun _=>id) Z9 ?Y0 ?_
 case Y0 =>
  intro w9 ZQ;go_simp
  try (rw [Zq];omega)
 refine Zf ?_ (by kernel_rfl) (fun _=>id) Z9 ?_ ?_
 rotate_left
 · intro w9 ZQ;obtain ⟨-,k0,k1⟩:=ZQ;go_simp;try with_reducible rfl
 refine YS 10 rfl (by kernel_rfl) (fun K hK=>?_);obtain ⟨x9,y9,ZB⟩:=F2.out.1.out.2.2;obtain ⟨⟨z9,d0,d1⟩,f0,f1⟩:=ZB;go_simp;have F3:Hid (PM w S L ((w2.setCell ⟨w.heap.size+1,0,none⟩ (.int .i64 (q+S))).setCell ⟨w.heap.size+1,1,none⟩ (.int .i64 L))):=F2.out.store _ _;have X3:Hid (Vg ((w2.setCell ⟨w.heap.size+1,0,none⟩ (.int .i64 (q+S))).setCell ⟨w.heap.size+1,1,none⟩ (.int .i64 L)) (w.heap.size+1) (.int .i64 (q+S)) (.int .i64 L)):=F2.out.stored _ _;clear d0 d1 f0 f1 z9 F2;generalize ((w2.setCell _ _).setCell _ _)=w3 at *;clear Z9;refine hK.out _ _ (F3.out) (fun Z9=>?_);clear hK K;refine ZR (by kernel_rfl) ?_ _
 try simp only [Act.put,WV,WU,WT]
 clear Z9;obtain ⟨-,d0,d1⟩:=X3.out;go_wp2;refine ZW (v:=.agg #[.int .i64 (q+S),.int .i64 L]) (by simp [results,Tryz.results79,go_sem,d0,d1]) rfl ⟨rfl,F3.out.1.out.1⟩
theorem QM (w:World) (g N C f l:Nat) (hfl:(f+l)*64≤N) (hl1:1≤l) (hN:N≤C) (fw:N≤1048576) :
    Calls Tryz.prog 50 #[.agg #[.int .i64 (f:Int),.int .i64 (l:Int)],.slice (some ⟨g,0,none⟩) N C] w (Wj w (.slice (some ⟨g,f*64,none⟩) (l*64) (C - f*64))):=by
 have B0:Hid (Zi w (w.alloc (.cells #[.int .i64 (f:Int),.int .i64 (l:Int)] 111))):=Yy.alloc YR _;have hne:¬C=f*64:=by omega
 have HE:Hid ((f+l)*64 - f*64=l*64):=by show _=_;omega
 go_enter Tryz.func50,Tryz.ntmps50
 go_wp2;go_ret;rw [HE.out];exact ⟨rfl,B0.out⟩
theorem L8 (w:World) (v1 v2:Value) (YL:List Int) (ps:List (Int × List Int)) (hd:Rd .u8 w v1 YL) (hp:J8 w v2 ps) (hdl:YL.length≤1048576) (hn:ps.length≤1048576) (KE:∀i,(pD ps i).length≤1048576) :
    Calls Tryz.prog 38 #[.agg #[v1,v2]] w fun e w'=>∃u,e=.returned u∧Own .u8 5 w' w.heap.size u (MA YL ps)∧Zi w w':=by
 obtain ⟨va,ca,rfl,-⟩:=hd.len;obtain ⟨vb,cb,rfl,-⟩:=id hp;have HD:=ZU hd;have HP:=ZU hp;have AK:=ZU KE;have B0:Hid (Zi w (w.alloc (.cells #[.slice va YL.length ca,.slice vb ps.length cb] 52))):=Yy.alloc YR _;clear hd hp KE
 go_enter Tryz.func38,Tryz.ntmps38
 go_wp2_with fail
 generalize w.alloc _=w0 at *;refine (Nf _ _ _ YL ps (HD.out.below B0.out) (HP.out.below B0.out) hdl hn AK.out).mono ?_;rintro e w1 ⟨u,rfl,o1,b1⟩;have O1:=ZU (o1.mono B0.out.size);have B1:=ZU (WD B0.out b1);clear o1 b1 B0;have Y1:=ET u (.slice none 0 0) w1;go_wp2;go_ret;exact ⟨_,rfl,O1.out,B1.out⟩
def kp (S:Int) (ys:List Int):Value:=if OD ys∧nL ys≤S*64 then .agg #[.bool true,.int .i64 (nG ys),.int .i64 (nB ys),.int .i64 (nS ys),.int .i64 (nL ys),.int .i64 (nC ys)] else .agg #[.bool false,.int .i64 0,.int .i64 0,.int .i64 0,.int .i64 0,.int .i64 0]
theorem rv (S:Int) (hS:1≤S) (ys:List Int):∃(gg:Bool) (x0 x1 x2 x3 x4:Int),IB ys=.agg #[.bool gg,.int .i64 x0,.int .i64 x1,.int .i64 x2,.int .i64 x3,.int .i64 x4]∧kp S ys=if S*64<x3 then .agg #[.bool false,.int .i64 0,.int .i64 0,.int .i64 0,.int .i64 0,.int .i64 0] else .agg #[.bool gg,.int .i64 x0,.int .i64 x1,.int .i64 x2,.int .i64 x3,.int .i64 x4]:=by
 unfold IB kp
 by_cases h:OD ys
 · rw [Z0 h]
   refine ⟨_,_,_,_,_,_,rfl,?_⟩
   by_cases h2:nL ys≤S*64
   · rw [Z0 ⟨h,h2⟩,Z1 (by omega)]
   rw [Z1 (fun hh=>h2 hh.2),Z0 (by omega)]
 rw [Z1 h];refine ⟨_,_,_,_,_,_,rfl,?_⟩;rw [Z1 (fun hh=>h hh.1),Z1 (by omega)]
theorem U1 (b:Nat):∀(vs:List Value) (o:Nat) (w:World),(w.setCells b o vs).heap.size=w.heap.size
 | [],_,_=>rfl
 | v :: r,o,w=>by rw [World.setCells,U1 b r];simp
theorem vN (hV:V.length=64) {b:Nat} (h:W.rangeAt b 0 (V.map (Value.int .u8))) (hb:b<W.heap.size):Rd .u8 W (.slice (some ⟨b,0,none⟩) 64 64) V:=by
 refine ⟨_,_,by rw [hV],by omega,by unfold maxLen;omega,.inr ⟨b,0,rfl,hb,fun i hi=>?_⟩⟩;exact (show W.cell? ⟨b,0+i,none⟩=_ from h i (.int .u8 (V.getD i 0)) (by rw [Yo,List.getD,ZF hi];rfl))
theorem Hr (w:World) (b i g co N C:Nat) (S:Int) (cont:List Int) (c0:w.cell? ⟨b,0,none⟩=some (.int .i64 S)) (c6:w.cell? ⟨b,6,none⟩=some (.slice (some ⟨g,co,none⟩) N C)) (hlt:b<w.heap.size) (hr:Rd .u8 w (.slice (some ⟨g,co,none⟩) N C) cont) (hby:Sn cont) (hN:cont.length=N) (hi:(i+1)*64≤N) (Bn:N≤1048576) (hS:1≤S∧S≤64) :
    Calls Tryz.prog 84 #[.pointer (some ⟨b,0,none⟩),.int .i64 (i:Int)] w (Wj w (kp S (blk cont i))):=by
 have t:Hid (∀W,Zi w W→Calls Tryz.prog 108 #[.slice (some ⟨g,co,none⟩) N C,.int .i64 (i:Int)] W (Wj W (.agg ((blk cont i).map (Value.int .u8)).toArray))):=fun W hW=>Mc W g co N C i cont (hr.below hW) hN hi Bn
 have Lp:Hid (Sn (blk cont i)):=fun y hy=>hby y (XV (Xa hy))
 have ZA:Hid ((blk cont i).length=64):=by show _=_;unfold blk;simp;omega
 have B0:Hid (Zi w (w.alloc (.cells #[.bool false,.int .i64 0,.int .i64 0,.int .i64 0,.int .i64 0,.int .i64 0] 97))):=Yy.alloc YR _;have R0:Hid (St (w.alloc (.cells #[.bool false,.int .i64 0,.int .i64 0,.int .i64 0,.int .i64 0,.int .i64 0] 97)) w.heap.size [.bool false,.int .i64 0,.int .i64 0,.int .i64 0,.int .i64 0,.int .i64 0]):=St.new w _ _;have k6:=(B0.out.cell (p:=⟨b,6,none⟩) hlt).trans c6;have nW:=ZU c0;have ZQ:IntKind.i64.wrap (S*64)=S*64:=by rw [Zq];omega
 generalize blk cont i=ys at *;clear hr c0 c6
 go_enter Tryz.func84,Tryz.ntmps84
 go_wp2_with fail
 generalize w.alloc _=w0 at *;refine (t.out _ B0.out).mono ?_;rintro e w1 ⟨rfl,b1⟩;have GL:Hid (∀v ∈ (ys.map (Value.int .u8)),v.oneCell'=true):=Yi _ _;have HX:Hid ((ys.map (Value.int .u8)).length=64):=by show _=_;rw [Zl];exact ZA.out
 have B1:=ZU (WD B0.out b1);have R1:=ZU (R0.out.below b1);clear b1 B0 R0 k6 t;obtain ⟨V,hV⟩:∃V,V=ys.map (Value.int .u8):=⟨_,rfl⟩;rw [←hV] at HX GL ⊢;have HV:=ZU hV;clear hV
 go_wp2_with (refine UO rfl 117 _ _ rfl w1.heap.size 0 V.toArray rfl rfl ?s1 ?s2 ?s3 ?_)
 case s1 =>
  have e:V.toArray.size=64:=by rw [ZI];exact HX.out
  rw [e];exact Vn _ _ _ _ rfl
 case s2=>rw [ZI];exact Wh _ HX.out
 case s3=>exact XL GL.out
 generalize hW2:World.setCells _ _ _ _=w2;have B2:Hid (Zi w1 w2):=by subst hW2;exact below_setCells YR _ _ _ (Yy.alloc YR _)
 have YY:Hid (w2.rangeAt w1.heap.size 0 V):=by
  subst hW2;exact Yf _ _ _ _ (Vn _ _ _ _ (by rw [HX.out];rfl))
 have hs2:w1.heap.size<w2.heap.size:=by subst hW2;rw [U1,YF];omega
 clear hW2 GL;refine (EU w2 _ ys (vN ZA.out (by rw [←HV.out];exact YY.out) hs2) Lp.out).mono ?_;rintro e w3 ⟨rfl,b3⟩;obtain ⟨gg,x0,x1,x2,x3,x4,hdec,hgs⟩:=rv S hS.1 ys;rw [hdec];have nD:=ZU hgs;have B3:=ZU ((WD B1.out B2.out).trans (b3.mono (by have:=B1.out.size;have:=B2.out.size;omega)));have R3:=ZU ((R1.out.below B2.out).below b3);have hs3:=R3.out.lt;clear b3 B1 B2 YY HX HV R1 hs2 hdec hgs ZA Lp
 go_wp2_with fail
 have X4:Hid (St (w3.alloc (.cells #[.bool gg,.int .i64 x0,.int .i64 x1,.int .i64 x2,.int .i64 x3,.int .i64 x4] 97)) w3.heap.size [.bool gg,.int .i64 x0,.int .i64 x1,.int .i64 x2,.int .i64 x3,.int .i64 x4]):=St.new _ _ _;have Zx:Hid (Zi w3 (w3.alloc (.cells #[.bool gg,.int .i64 x0,.int .i64 x1,.int .i64 x2,.int .i64 x3,.int .i64 x4] 97))):=Yy.alloc YR _;generalize w3.alloc _=w4 at *;have B4:=ZU (WD B3.out Zx.out);have R4:=ZU (R3.out.below Zx.out);have k0:=(B4.out.cell (p:=⟨b,0,none⟩) hlt).trans nW.out;have y4:=X4.out.cl 4 _ rfl;clear B3 Zx R3
 go_quiet (fail)
 clear k0 y4;have y0:=X4.out.cl 0 _ rfl;have y1:=X4.out.cl 1 _ rfl;have y2:=X4.out.cl 2 _ rfl;have y3:=X4.out.cl 3 _ rfl;have y4:=X4.out.cl 4 _ rfl;have y5:=X4.out.cl 5 _ rfl;have t0:=R4.out.cl 0 _ rfl;have t1:=R4.out.cl 1 _ rfl;have t2:=R4.out.cl 2 _ rfl;have t3:=R4.out.cl 3 _ rfl;have t4:=R4.out.cl 4 _ rfl;have t5:=R4.out.cl 5 _ rfl;have f0:=R4.out.fz 0;have f1:=R4.out.fz 1;have f2:=R4.out.fz 2;have f3:=R4.out.fz 3;have f4:=R4.out.fz 4;have f5:=R4.out.fz 5
 by_cases hx:S*64<x3
 · go_wp2
   have SE:Hid (St (((((((w4.drewN nq).setCell ⟨w.heap.size,0,none⟩ (.bool false)).setCell ⟨w.heap.size,1,none⟩ (.int .i64 0)).setCell ⟨w.heap.size,2,none⟩ (.int .i64 0)).setCell ⟨w.heap.size,3,none⟩ (.int .i64 0)).setCell ⟨w.heap.size,4,none⟩ (.int .i64 0)).setCell ⟨w.heap.size,5,none⟩ (.int .i64 0)) w.heap.size [.bool false,.int .i64 0,.int .i64 0,.int .i64 0,.int .i64 0,.int .i64 0]):=(((((((R4.out.below (below_drewN' w4 nq)).set 0 (.bool false)).set 1 (.int .i64 0)).set 2 (.int .i64 0)).set 3 (.int .i64 0)).set 4 (.int .i64 0)).set 5 (.int .i64 0));have BE:Hid (Zi w (((((((w4.drewN nq).setCell ⟨w.heap.size,0,none⟩ (.bool false)).setCell ⟨w.heap.size,1,none⟩ (.int .i64 0)).setCell ⟨w.heap.size,2,none⟩ (.int .i64 0)).setCell ⟨w.heap.size,3,none⟩ (.int .i64 0)).setCell ⟨w.heap.size,4,none⟩ (.int .i64 0)).setCell ⟨w.heap.size,5,none⟩ (.int .i64 0))):=by
    iterate 6 refine Below.setCell ?_ (by show w.heap.size≤w.heap.size;exact YR) _
    exact B4.out.trans ((below_drewN' w4 nq).mono B4.out.size)
   clear y0 t0 f0 y1 t1 f1 y2 t2 f2 y3 t3 f3 y4 t4 f4 y5 t5 f5;generalize (((((((w4.drewN nq).setCell _ _).setCell _ _).setCell _ _).setCell _ _).setCell _ _).setCell _ _)=wE at *;have e0:=SE.out.cl 0 _ rfl;have e1:=SE.out.cl 1 _ rfl;have e2:=SE.out.cl 2 _ rfl;have e3:=SE.out.cl 3 _ rfl;have e4:=SE.out.cl 4 _ rfl;have e5:=SE.out.cl 5 _ rfl;exact ZW (v:=.agg #[.bool false,.int .i64 0,.int .i64 0,.int .i64 0,.int .i64 0,.int .i64 0]) (by simp [results,Tryz.results84,go_sem,e0,e1,e2,e3,e4,e5]) rfl ⟨by rw [nD.out,Z0 hx],BE.out⟩
 go_wp2;have SE:Hid (St (((((((w4.drewN nq).setCell ⟨w.heap.size,0,none⟩ (.bool gg)).setCell ⟨w.heap.size,1,none⟩ (.int .i64 x0)).setCell ⟨w.heap.size,2,none⟩ (.int .i64 x1)).setCell ⟨w.heap.size,3,none⟩ (.int .i64 x2)).setCell ⟨w.heap.size,4,none⟩ (.int .i64 x3)).setCell ⟨w.heap.size,5,none⟩ (.int .i64 x4)) w.heap.size [.bool gg,.int .i64 x0,.int .i64 x1,.int .i64 x2,.int .i64 x3,.int .i64 x4]):=(((((((R4.out.below (below_drewN' w4 nq)).set 0 (.bool gg)).set 1 (.int .i64 x0)).set 2 (.int .i64 x1)).set 3 (.int .i64 x2)).set 4 (.int .i64 x3)).set 5 (.int .i64 x4));have BE:Hid (Zi w (((((((w4.drewN nq).setCell ⟨w.heap.size,0,none⟩ (.bool gg)).setCell ⟨w.heap.size,1,none⟩ (.int .i64 x0)).setCell ⟨w.heap.size,2,none⟩ (.int .i64 x1)).setCell ⟨w.heap.size,3,none⟩ (.int .i64 x2)).setCell ⟨w.heap.size,4,none⟩ (.int .i64 x3)).setCell ⟨w.heap.size,5,none⟩ (.int .i64 x4))):=by
  iterate 6 refine Below.setCell ?_ (by show w.heap.size≤w.heap.size;exact YR) _
  exact B4.out.trans ((below_drewN' w4 nq).mono B4.out.size)
 clear y0 t0 f0 y1 t1 f1 y2 t2 f2 y3 t3 f3 y4 t4 f4 y5 t5 f5;generalize (((((((w4.drewN nq).setCell _ _).setCell _ _).setCell _ _).setCell _ _).setCell _ _).setCell _ _)=wE at *;have e0:=SE.out.cl 0 _ rfl;have e1:=SE.out.cl 1 _ rfl;have e2:=SE.out.cl 2 _ rfl;have e3:=SE.out.cl 3 _ rfl;have e4:=SE.out.cl 4 _ rfl;have e5:=SE.out.cl 5 _ rfl;exact ZW (v:=.agg #[.bool gg,.int .i64 x0,.int .i64 x1,.int .i64 x2,.int .i64 x3,.int .i64 x4]) (by simp [results,Tryz.results84,go_sem,e0,e1,e2,e3,e4,e5]) rfl ⟨by rw [nD.out,Z1 (by omega)],BE.out⟩
def qf (im:List Int) (c:Int):Option (List Nd):=if ((4294967295 - No 4294967295 im:Nat):Int)=c then Gj im else none
def vM (w:World) (o:Option (List Nd)) (e:Ending) (w':World):Prop :=
 Zi w w'∧((o=none∧e=.returned (.agg #[.bool false,.slice none 0 0]))∨∃ns v,o=some ns∧e=.returned (.agg #[.bool true,v])∧XU 147 w' w.heap.size v ns)
structure tG (w:World) (xg xb xs xl xc:Int) (W:World):Prop where
 WC:Zi w W
 sx:St W w.heap.size [.int .i64 xg,.int .i64 xb,.int .i64 xs,.int .i64 xl,.int .i64 xc]
 sr:St W (w.heap.size+1) [.bool false,.slice none 0 0]
theorem tG.below {xg xb xs xl xc:Int} (h:tG w xg xb xs xl xc W) (hb:Zi W W'):tG w xg xb xs xl xc W' :=
 ⟨h.WC.trans (hb.mono h.WC.size),h.sx.below hb,h.sr.below hb⟩
theorem tG.new (w:World) (xg xb xs xl xc:Int):tG w xg xb xs xl xc ((w.alloc (.cells #[.int .i64 xg,.int .i64 xb,.int .i64 xs,.int .i64 xl,.int .i64 xc] 60)).alloc (.cells #[.bool false,.slice none 0 0] 135)):=by
 refine ⟨(Yy.alloc YR _).alloc (by simp) _,(St.new w _ _).below (Yy.alloc YR _),?_⟩;have h9:=St.new (w.alloc (.cells #[.int .i64 xg,.int .i64 xb,.int .i64 xs,.int .i64 xl,.int .i64 xc] 60)) #[.bool false,.slice none 0 0] 135;rw [YF] at h9;exact h9
theorem zB (w:World) (b g N C ln:Nat) (S L xg xb xs xl xc:Int) (cont:List Int) (c0:w.cell? ⟨b,0,none⟩=some (.int .i64 S)) (c1:w.cell? ⟨b,1,none⟩=some (.int .i64 L)) (c6:w.cell? ⟨b,6,none⟩=some (.slice (some ⟨g,0,none⟩) N C)) (hlt:b<w.heap.size) (hr:Rd .u8 w (.slice (some ⟨g,0,none⟩) N C) cont) (hby:Sn cont) (hN:cont.length=N) (Bn:N≤1048576) (hc:Wp S L=true) (vL:2+2*(S+L)≤((N / 64:Nat):Int)) (hb:0≤xb∧xb≤1) (hl:xl=(ln:Int)) (hls:xl≤S*64) (ht:Po w) (h0:0<w.heap.size) :
    Calls Tryz.prog 85 #[.pointer (some ⟨b,0,none⟩),.agg #[.int .i64 xg,.int .i64 xb,.int .i64 xs,.int .i64 xl,.int .i64 xc]] w (vM w (qf ((Ma cont (Rx S L xb false).toNat S.toNat).take ln) xc)):=by
 obtain ⟨⟨hS1,hS2⟩,hL1,hL2⟩:=(Xk S L).1 hc;obtain ⟨sn,rfl⟩:∃sn:Nat,S=(sn:Int):=⟨S.toNat,by omega⟩;rw [Ze];obtain ⟨f,hf⟩:∃f:Nat,Rx (sn:Int) L xb false=(f:Int):=⟨(Rx (sn:Int) L xb false).toNat,by
  have hk:xb=0∨xb=1:=by omega
  unfold Rx
  rcases hk with rfl | rfl <;> simp <;> omega⟩
 have ko:(f+sn)*64≤N:=by
  have hk:xb=0∨xb=1:=by omega
  unfold Rx at hf;have h2:N / 64*64≤N:=Nat.div_mul_le_self _ _
  rcases hk with rfl | rfl <;> simp at hf <;> omega
 have lG:N≤C:=by
  obtain ⟨a8,c8,h8,h7,h6⟩:=hr.len
  simp only [ZC] at h8
  obtain ⟨-,h5,rfl⟩:=h8;omega
 have YT:C≤9223372036854775807:=by
  obtain ⟨a8,c8,h8,h7,h6⟩:=hr.len
  simp only [ZC] at h8
  obtain ⟨-,h5,rfl⟩:=h8;unfold maxLen at h6;omega
 rw [hf,Ze];have YX:(Ma cont f sn).take ln=(cont.drop (f*64)).take ln:=by
  unfold Ma;rw [U6,YC (by omega)]
 rw [YX];have HR:Hid (∀W,Zi w W→Rd .u8 W (.slice (some ⟨g,f*64,none⟩) ln (C - f*64)) ((cont.drop (f*64)).take ln)):=by
  intro W hW;have h9:=Rd.part (hr.below hW) hN (f*64) ln (by omega);rw [Za] at h9;exact h9
 have Lp:Hid (Sn ((cont.drop (f*64)).take ln)):=fun y hy=>hby y (XV (Xa hy))
 have ZM:Hid (((cont.drop (f*64)).take ln).length≤1048576):=by
  show _≤_;have:=List.length_take_le ln (cont.drop (f*64));omega
 have S0:Hid (tG w xg xb xs xl xc ((w.alloc (.cells #[.int .i64 xg,.int .i64 xb,.int .i64 xs,.int .i64 xl,.int .i64 xc] 60)).alloc (.cells #[.bool false,.slice none 0 0] 135))):=tG.new _ _ _ _ _ _;have tE:Hid (∀W,Calls Tryz.prog 49 #[.agg #[.int .i64 (sn:Int),.int .i64 L],.int .i64 xb] W (Wj W (.agg #[.int .i64 (f:Int),.int .i64 (sn:Int)]))):=by
  intro W;have h9:=So W (sn:Int) L xb hc hb;rw [hf,show I9 (sn:Int) L false=(sn:Int) from rfl] at h9;exact h9
 have yJ:Hid (∀W,Calls Tryz.prog 50 #[.agg #[.int .i64 (f:Int),.int .i64 (sn:Int)],.slice (some ⟨g,0,none⟩) N C] W (Wj W (.slice (some ⟨g,f*64,none⟩) (sn*64) (C - f*64)))):=fun W=>QM W g N C f sn ko (by omega) lG Bn
 have SP:Hid (w.cell? ⟨b,0,none⟩=some (.int .i64 (sn:Int))∧w.cell? ⟨b,1,none⟩=some (.int .i64 L)∧w.cell? ⟨b,6,none⟩=some (.slice (some ⟨g,0,none⟩) N C)):=⟨c0,c1,c6⟩;have nz:Hid (∀W,Zi w W→Po W):=fun W hW=>ht.below h0 hW
 have hlc:(ln:Int)≤((C - f*64:Nat):Int):=by omega
 have gp:=ZU hl;have Yh:ln≤sn*64:=by omega
 clear hr c0 c1 c6 ht hc YX hf hby hl;have Yg:sn*64≤C - f*64:=by omega
 have hcm:C - f*64≤9223372036854775807:=by omega
 clear ko lG YT vL hN Bn;generalize (cont.drop (f*64)).take ln=IM at *;generalize C - f*64=c9 at *;generalize f*64=fo at *;generalize hM:sn*64=M at *;clear hM
 go_enter Tryz.func85,Tryz.ntmps85
 go_wp2_with fail
 generalize (w.alloc _).alloc _=w0 at *;have Sd:=ZU (S0.out.below (below_drewN' w0 1));refine ZX (S:=tG w xg xb xs xl xc) (by kernel_rfl) (Sd.out) (fun Z9=>?_)
 iterate 6 (refine Zf ?_ (by kernel_rfl) (fun _=>id) Z9 ?_ ?_;rotate_left;· intro w9 ZQ;have k0:=(ZQ.WC.cell (p:=⟨b,0,none⟩) hlt).trans SP.out.1;have k1:=(ZQ.WC.cell (p:=⟨b,1,none⟩) hlt).trans SP.out.2.1;have k6:=(ZQ.WC.cell (p:=⟨b,6,none⟩) hlt).trans SP.out.2.2;have x0:=ZQ.sx.cl 0 _ rfl;have x1:=ZQ.sx.cl 1 _ rfl;have x2:=ZQ.sx.cl 2 _ rfl;have x3:=ZQ.sx.cl 3 _ rfl;have x4:=ZQ.sx.cl 4 _ rfl;clear ZQ;go_simp;try with_reducible rfl)
 refine Yp 7 ?v7 rfl (by kernel_rfl) (fun _=>id) Z9 ?rO ?_
 case rO =>
  intro w9 ZQ;have k0:=(ZQ.WC.cell (p:=⟨b,0,none⟩) hlt).trans SP.out.1;have k1:=(ZQ.WC.cell (p:=⟨b,1,none⟩) hlt).trans SP.out.2.1;have k6:=(ZQ.WC.cell (p:=⟨b,6,none⟩) hlt).trans SP.out.2.2;have x0:=ZQ.sx.cl 0 _ rfl;have x1:=ZQ.sx.cl 1 _ rfl;have x2:=ZQ.sx.cl 2 _ rfl;have x3:=ZQ.sx.cl 3 _ rfl;have x4:=ZQ.sx.cl 4 _ rfl;clear ZQ;go_simp
  try with_reducible rfl
 refine Yp 8 ?v8 rfl (by kernel_rfl) (fun _=>id) Z9 ?ru ?_
 case ru =>
  intro w9 ZQ;have k0:=(ZQ.WC.cell (p:=⟨b,0,none⟩) hlt).trans SP.out.1;have k1:=(ZQ.WC.cell (p:=⟨b,1,none⟩) hlt).trans SP.out.2.1;have k6:=(ZQ.WC.cell (p:=⟨b,6,none⟩) hlt).trans SP.out.2.2;have x0:=ZQ.sx.cl 0 _ rfl;have x1:=ZQ.sx.cl 1 _ rfl;have x2:=ZQ.sx.cl 2 _ rfl;have x3:=ZQ.sx.cl 3 _ rfl;have x4:=ZQ.sx.cl 4 _ rfl;clear ZQ;go_simp
  try with_reducible rfl
 refine Yp 9 ?v9 rfl (by kernel_rfl) (fun _=>id) Z9 ?ny ?_
 case ny =>
  intro w9 ZQ;have k0:=(ZQ.WC.cell (p:=⟨b,0,none⟩) hlt).trans SP.out.1;have k1:=(ZQ.WC.cell (p:=⟨b,1,none⟩) hlt).trans SP.out.2.1;have k6:=(ZQ.WC.cell (p:=⟨b,6,none⟩) hlt).trans SP.out.2.2;have x0:=ZQ.sx.cl 0 _ rfl;have x1:=ZQ.sx.cl 1 _ rfl;have x2:=ZQ.sx.cl 2 _ rfl;have x3:=ZQ.sx.cl 3 _ rfl;have x4:=ZQ.sx.cl 4 _ rfl;clear ZQ;go_simp
  try with_reducible rfl
 refine Yp 10 (.slice (some ⟨g,0,none⟩) N C) rfl (by kernel_rfl) (fun _=>id) Z9 ?Dc ?_
 case Dc =>
  intro w9 ZQ;have k0:=(ZQ.WC.cell (p:=⟨b,0,none⟩) hlt).trans SP.out.1;have k1:=(ZQ.WC.cell (p:=⟨b,1,none⟩) hlt).trans SP.out.2.1;have k6:=(ZQ.WC.cell (p:=⟨b,6,none⟩) hlt).trans SP.out.2.2;have x0:=ZQ.sx.cl 0 _ rfl;have x1:=ZQ.sx.cl 1 _ rfl;have x2:=ZQ.sx.cl 2 _ rfl;have x3:=ZQ.sx.cl 3 _ rfl;have x4:=ZQ.sx.cl 4 _ rfl;clear ZQ;go_simp
 refine Yp 12 ?v11 rfl (by kernel_rfl) (fun _=>id) Z9 ?Ks ?_
 case Ks =>
  intro w9 ZQ;have k0:=(ZQ.WC.cell (p:=⟨b,0,none⟩) hlt).trans SP.out.1;have k1:=(ZQ.WC.cell (p:=⟨b,1,none⟩) hlt).trans SP.out.2.1;have k6:=(ZQ.WC.cell (p:=⟨b,6,none⟩) hlt).trans SP.out.2.2;have x0:=ZQ.sx.cl 0 _ rfl;have x1:=ZQ.sx.cl 1 _ rfl;have x2:=ZQ.sx.cl 2 _ rfl;have x3:=ZQ.sx.cl 3 _ rfl;have x4:=ZQ.sx.cl 4 _ rfl;clear ZQ;go_simp
  try with_reducible rfl
 refine Yp 13 (.int .i64 (ln:Int)) rfl (by kernel_rfl) (fun _=>id) Z9 ?Dd ?_
 case Dd =>
  intro w9 ZQ;have k0:=(ZQ.WC.cell (p:=⟨b,0,none⟩) hlt).trans SP.out.1;have k1:=(ZQ.WC.cell (p:=⟨b,1,none⟩) hlt).trans SP.out.2.1;have k6:=(ZQ.WC.cell (p:=⟨b,6,none⟩) hlt).trans SP.out.2.2;have x0:=ZQ.sx.cl 0 _ rfl;have x1:=ZQ.sx.cl 1 _ rfl;have x2:=ZQ.sx.cl 2 _ rfl;have x3:=ZQ.sx.cl 3 _ rfl;have x4:=ZQ.sx.cl 4 _ rfl;rw [gp.out] at x3;clear ZQ;go_simp
 refine YS 6 rfl (by kernel_rfl) (fun K hK=>?_);go_simp;refine (tE.out _).mono ?_;rintro e w1 ⟨rfl,b1⟩;have N1:=Z9.below b1;clear b1;refine hK.out _ _ N1 (fun YA=>?_);clear hK K Z9;have Z9:=YA;clear YA;refine YS 11 rfl (by kernel_rfl) (fun K hK=>?_);go_simp;refine (yJ.out _).mono ?_;rintro e w2 ⟨rfl,b2⟩;have N2:=Z9.below b2;clear b2;refine hK.out _ _ N2 (fun YA=>?_);clear hK K Z9;have Z9:=YA;clear YA
 iterate 2 (refine Zf ?_ (by kernel_rfl) (fun _=>id) Z9 ?_ ?_;rotate_left;· intro w9 ZQ;have k0:=(ZQ.WC.cell (p:=⟨b,0,none⟩) hlt).trans SP.out.1;have k1:=(ZQ.WC.cell (p:=⟨b,1,none⟩) hlt).trans SP.out.2.1;have k6:=(ZQ.WC.cell (p:=⟨b,6,none⟩) hlt).trans SP.out.2.2;have x0:=ZQ.sx.cl 0 _ rfl;have x1:=ZQ.sx.cl 1 _ rfl;have x2:=ZQ.sx.cl 2 _ rfl;have x3:=ZQ.sx.cl 3 _ rfl;have x4:=ZQ.sx.cl 4 _ rfl;clear ZQ;go_simp;try with_reducible rfl)
 refine ZR (by kernel_rfl) ?_ _
 try simp only [Act.put,WV,WU,WT]
 have S2:=ZU N2;clear Z9 tE yJ S0 Sd N1 N2;have kj:Hid (∀W,tG w xg xb xs xl xc W→Calls Tryz.prog 48 #[.slice (some ⟨g,fo,none⟩) ln c9] W fun e w'=>e=.returned (.int .i64 ((4294967295 - No 4294967295 IM:Nat):Int))∧w'=W):=fun W hW=>Pn W _ IM (HR.out W hW.WC) Lp.out (by have:=ZM.out;omega) (nz.out W hW.WC)
 obtain ⟨cr,hcr⟩:∃cr:Int,cr=((4294967295 - No 4294967295 IM:Nat):Int):=⟨_,rfl⟩;rw [←hcr] at kj;have wH:Hid (qf IM xc=if cr=xc then Gj IM else none):=by show _=_;unfold qf;rw [←hcr]
 clear hcr
 go_wp2_with fail
 have Sd:=ZU (S2.out.below (below_drewN' w2 1));refine ZX (S:=tG w xg xb xs xl xc) (by kernel_rfl) (Sd.out) (fun Z9=>?_);refine Zf ?_ (by kernel_rfl) (fun _=>id) Z9 ?_ ?_
 rotate_left
 · intro w9 ZQ;have k0:=(ZQ.WC.cell (p:=⟨b,0,none⟩) hlt).trans SP.out.1;have k1:=(ZQ.WC.cell (p:=⟨b,1,none⟩) hlt).trans SP.out.2.1;have k6:=(ZQ.WC.cell (p:=⟨b,6,none⟩) hlt).trans SP.out.2.2;have x0:=ZQ.sx.cl 0 _ rfl;have x1:=ZQ.sx.cl 1 _ rfl;have x2:=ZQ.sx.cl 2 _ rfl;have x3:=ZQ.sx.cl 3 _ rfl;have x4:=ZQ.sx.cl 4 _ rfl;clear ZQ;go_simp;try with_reducible rfl
 refine Yp 2 ?v16 rfl (by kernel_rfl) (fun _=>id) Z9 ?nx ?_
 case nx =>
  intro w9 ZQ;have k0:=(ZQ.WC.cell (p:=⟨b,0,none⟩) hlt).trans SP.out.1;have k1:=(ZQ.WC.cell (p:=⟨b,1,none⟩) hlt).trans SP.out.2.1;have k6:=(ZQ.WC.cell (p:=⟨b,6,none⟩) hlt).trans SP.out.2.2;have x0:=ZQ.sx.cl 0 _ rfl;have x1:=ZQ.sx.cl 1 _ rfl;have x2:=ZQ.sx.cl 2 _ rfl;have x3:=ZQ.sx.cl 3 _ rfl;have x4:=ZQ.sx.cl 4 _ rfl;clear ZQ;go_simp
  try with_reducible rfl
 refine Yp 3 (.int .i64 xc) rfl (by kernel_rfl) (fun _=>id) Z9 ?YW ?_
 case YW =>
  intro w9 ZQ;have k0:=(ZQ.WC.cell (p:=⟨b,0,none⟩) hlt).trans SP.out.1;have k1:=(ZQ.WC.cell (p:=⟨b,1,none⟩) hlt).trans SP.out.2.1;have k6:=(ZQ.WC.cell (p:=⟨b,6,none⟩) hlt).trans SP.out.2.2;have x0:=ZQ.sx.cl 0 _ rfl;have x1:=ZQ.sx.cl 1 _ rfl;have x2:=ZQ.sx.cl 2 _ rfl;have x3:=ZQ.sx.cl 3 _ rfl;have x4:=ZQ.sx.cl 4 _ rfl;clear ZQ;go_simp
 refine YS 1 rfl (by kernel_rfl) (fun K hK=>?_);go_simp;refine (kj.out _ Z9).mono ?_;rintro e w3 ⟨rfl,rfl⟩;have N3:=Z9;refine hK.out _ _ N3 (fun YA=>?_);clear hK K Z9;have Z9:=YA;clear YA;refine Zf ?_ (by kernel_rfl) (fun _=>id) Z9 ?_ ?_
 rotate_left
 · intro w9 ZQ;have k0:=(ZQ.WC.cell (p:=⟨b,0,none⟩) hlt).trans SP.out.1;have k1:=(ZQ.WC.cell (p:=⟨b,1,none⟩) hlt).trans SP.out.2.1;have k6:=(ZQ.WC.cell (p:=⟨b,6,none⟩) hlt).trans SP.out.2.2;have x0:=ZQ.sx.cl 0 _ rfl;have x1:=ZQ.sx.cl 1 _ rfl;have x2:=ZQ.sx.cl 2 _ rfl;have x3:=ZQ.sx.cl 3 _ rfl;have x4:=ZQ.sx.cl 4 _ rfl;clear ZQ;go_simp;try with_reducible rfl
 refine ZR (by kernel_rfl) ?_ _
 try simp only [Act.put,WV,WU,WT]
 have S3:=ZU N3;clear Z9 N3 kj S2 Sd nz SP;generalize w2.drew=w3 at *
 by_cases he:cr=xc
 · have hbq:(cr != xc)=false:=by rw [he];simp
   rw [Z0 he] at wH;rw [hbq];have s3:=S3.out.WC.size;have A:=ZU (Iy w3 _ IM (HR.out _ S3.out.WC) Lp.out ZM.out);clear HR Lp ZM he hbq
   go_wp2_with fail
   refine (A.out).mono ?_;intro e w4 hd;obtain ⟨b4,hd⟩:=hd;have S4:=ZU (S3.out.below b4);have t0:=S4.out.sr.cl 0 _ rfl;have t1:=S4.out.sr.cl 1 _ rfl;have f0:=S4.out.sr.fz 0;have f1:=S4.out.sr.fz 1
   rcases hd with ⟨hn0,rfl⟩ | ⟨ns,v,hs0,rfl,o4⟩
   · unfold qu
     go_wp2;have SE:Hid (St ((w4.setCell ⟨w.heap.size+1,0,none⟩ (.bool false)).setCell ⟨w.heap.size+1,1,none⟩ (.slice none 0 0)) (w.heap.size+1) [.bool false,.slice none 0 0]):=(S4.out.sr.set 0 (.bool false)).set 1 (.slice none 0 0);have BE:Hid (Zi w ((w4.setCell ⟨w.heap.size+1,0,none⟩ (.bool false)).setCell ⟨w.heap.size+1,1,none⟩ (.slice none 0 0))):=(S4.out.WC.setCell (by show w.heap.size≤w.heap.size+1;omega) _).setCell (by show w.heap.size≤w.heap.size+1;omega) _;clear t0 t1 f0 f1;generalize (w4.setCell _ _).setCell _ _=wE at *;have e0:=SE.out.cl 0 _ rfl;have e1:=SE.out.cl 1 _ rfl;exact ZW (v:=.agg #[.bool false,.slice none 0 0]) (by simp [results,Tryz.results85,go_sem,e0,e1]) rfl ⟨BE.out,.inl ⟨wH.out.trans hn0,rfl⟩⟩
   obtain ⟨va,vc,rfl⟩:=XU.QW o4;go_wp2;have SE:Hid (St ((w4.setCell ⟨w.heap.size+1,0,none⟩ (.bool true)).setCell ⟨w.heap.size+1,1,none⟩ (.slice va ns.length vc)) (w.heap.size+1) [.bool true,.slice va ns.length vc]):=(S4.out.sr.set 0 (.bool true)).set 1 (.slice va ns.length vc);have BE:Hid (Zi w ((w4.setCell ⟨w.heap.size+1,0,none⟩ (.bool true)).setCell ⟨w.heap.size+1,1,none⟩ (.slice va ns.length vc))):=(S4.out.WC.setCell (by show w.heap.size≤w.heap.size+1;omega) _).setCell (by show w.heap.size≤w.heap.size+1;omega) _;have OE:Hid (XU 147 ((w4.setCell ⟨w.heap.size+1,0,none⟩ (.bool true)).setCell ⟨w.heap.size+1,1,none⟩ (.slice va ns.length vc)) w.heap.size (.slice va ns.length vc) ns):=by
    have hne:(Value.slice va ns.length vc).ownBlock=none∨(Value.slice va ns.length vc).ownBlock≠some (w.heap.size+1):=.inr (fun e=>by have:=(ZT o4 _ e).1;have:=S3.out.sr.lt;omega);have o5:=XU.mono o4 s3;exact Zn (Zn o5 (grownBy_set w4 w4 (w.heap.size+1) 0 (.bool true) (Zz _ _)) hne) (grownBy_set _ _ (w.heap.size+1) 1 _ (Zz _ _)) hne
   clear t0 t1 f0 f1 o4;generalize (w4.setCell _ _).setCell _ _=wE at *;have e0:=SE.out.cl 0 _ rfl;have e1:=SE.out.cl 1 _ rfl;exact ZW (v:=.agg #[.bool true,.slice va ns.length vc]) (by simp [results,Tryz.results85,go_sem,e0,e1]) rfl ⟨BE.out,.inr ⟨ns,_,wH.out.trans hs0,rfl,OE.out⟩⟩
 have hbq:(cr != xc)=true:=by simpa using he
 rw [Z1 he] at wH;rw [hbq];have t0:=S3.out.sr.cl 0 _ rfl;have t1:=S3.out.sr.cl 1 _ rfl;have f0:=S3.out.sr.fz 0;have f1:=S3.out.sr.fz 1;clear HR Lp ZM he hbq;go_wp2;have SE:Hid (St ((w3.setCell ⟨w.heap.size+1,0,none⟩ (.bool false)).setCell ⟨w.heap.size+1,1,none⟩ (.slice none 0 0)) (w.heap.size+1) [.bool false,.slice none 0 0]):=(S3.out.sr.set 0 (.bool false)).set 1 (.slice none 0 0);have BE:Hid (Zi w ((w3.setCell ⟨w.heap.size+1,0,none⟩ (.bool false)).setCell ⟨w.heap.size+1,1,none⟩ (.slice none 0 0))):=(S3.out.WC.setCell (by show w.heap.size≤w.heap.size+1;omega) _).setCell (by show w.heap.size≤w.heap.size+1;omega) _;clear t0 t1 f0 f1;generalize (w3.setCell _ _).setCell _ _=wE at *;have e0:=SE.out.cl 0 _ rfl;have e1:=SE.out.cl 1 _ rfl;exact ZW (v:=.agg #[.bool false,.slice none 0 0]) (by simp [results,Tryz.results85,go_sem,e0,e1]) rfl ⟨BE.out,.inl ⟨wH.out,rfl⟩⟩
structure tD (w:World) (vt:Value) (W:World):Prop where
 WC:Zi w W
 sx:St W w.heap.size [vt]
theorem tD.below {vt:Value} (h:tD w vt W) (hb:Zi W W'):tD w vt W' :=
 ⟨h.WC.trans (hb.mono h.WC.size),h.sx.below hb⟩
theorem tD.new (w:World) (vt:Value):tD w vt ((w.alloc (.cells #[vt] 63)).alloc (.cells #[.slice none 0 0,.int .i64 0,.int .i64 0,.int .i64 0] 99))∧St ((w.alloc (.cells #[vt] 63)).alloc (.cells #[.slice none 0 0,.int .i64 0,.int .i64 0,.int .i64 0] 99)) (w.heap.size+1) [.slice none 0 0,.int .i64 0,.int .i64 0,.int .i64 0]:=by
 refine ⟨⟨(Yy.alloc YR _).alloc (by simp) _,(St.new w _ _).below (Yy.alloc YR _)⟩,?_⟩;have h9:=St.new (w.alloc (.cells #[vt] 63)) #[.slice none 0 0,.int .i64 0,.int .i64 0,.int .i64 0] 99;rw [YF] at h9;exact h9
def Oo (S L:Int) (vd vp:Value) (lim made:Int) (vc:Value) (cg:Bool) (c:Qi) (og:Bool) (o:Qi) (code:Int) (vt:Value) (zx cnt en:Int):List Value:=[.int .i64 S,.int .i64 L,vd,vp,.int .i64 lim,.int .i64 made,vc,.bool cg,.int .i64 c.g,.int .i64 c.b,.int .i64 c.s,.int .i64 c.l,.int .i64 c.c,.bool og,.int .i64 o.g,.int .i64 o.b,.int .i64 o.s,.int .i64 o.l,.int .i64 o.c,.int .i64 code,vt,.int .i64 zx,.int .i64 cnt,.int .i64 en]
def Mx (S:Int) (ys:List Int):Qi:=if Hs S ys=true then rz ys else ⟨0,0,0,0,0⟩
theorem nw (S:Int) (ys:List Int):kp S ys=.agg #[.bool (Hs S ys),.int .i64 (Mx S ys).g,.int .i64 (Mx S ys).b,.int .i64 (Mx S ys).s,.int .i64 (Mx S ys).l,.int .i64 (Mx S ys).c]:=by
 unfold kp Mx
 by_cases h:OD ys∧nL ys≤S*64
 · have h2:Hs S ys=true:=by unfold Hs;simp [h.1,h.2]
   rw [Z0 h,Z0 h2,h2];rfl
 have h2:Hs S ys=false:=by
  unfold Hs
  cases h3:decide (OD ys) with
  | false=>rfl
  | true =>
   have:¬nL ys≤S*64:=fun h4=>h ⟨Wm h3,h4⟩
   simp [this]
 rw [Z1 h,Z1 (by rw [h2];simp),h2]
def vK (w:World) (b:Nat) (S L:Int) (vd vp:Value) (lim made:Int) (vc:Value) (code:Int) (vt:Value) (zx cnt en:Int) (g0 g1:Bool) (x0 x1:Qi) (e:Ending) (w':World):Prop :=
 ∃(xg:Bool) (x:Qi) (yg:Bool) (y:Qi),e=.returned (.int .i64 (if xg=true then 1 else 4))∧St w' b (Oo S L vd vp lim made vc xg x yg y code vt zx cnt en)∧Tw w b none w' none ∧
     ((¬x0.g<x1.g∧xg=g0∧x=x0∧yg=g1∧y=x1)∨(x0.g<x1.g∧xg=g1∧x=x1∧yg=g0∧y=x0))
theorem vJ (w:World) (b g N C:Nat) (S L:Int) (vd vp:Value) (lim made:Int) (vc:Value) (cg:Bool) (c:Qi) (og:Bool) (o:Qi) (code:Int) (vt:Value) (zx cnt en:Int) (cont:List Int) (nv:vc=.slice (some ⟨g,0,none⟩) N C) (hs:St w b (Oo S L vd vp lim made vc cg c og o code vt zx cnt en)) (hr:Rd .u8 w (.slice (some ⟨g,0,none⟩) N C) cont) (hby:Sn cont) (hN:cont.length=N) (Bn:N≤1048576) (tH:128≤N) (hS:1≤S∧S≤64) :
    Calls Tryz.prog 39 #[.pointer (some ⟨b,0,none⟩)] w (vK w b S L vd vp lim made vc code vt zx cnt en (Hs S (blk cont 0)) (Hs S (blk cont 1)) (Mx S (blk cont 0)) (Mx S (blk cont 1))):=by
 subst nv;have HG:Hid (∀W (i:Nat),i≤1→Zi w W→Calls Tryz.prog 84 #[.pointer (some ⟨b,0,none⟩),.int .i64 (i:Int)] W (Wj W (.agg #[.bool (Hs S (blk cont i)),.int .i64 (Mx S (blk cont i)).g,.int .i64 (Mx S (blk cont i)).b,.int .i64 (Mx S (blk cont i)).s,.int .i64 (Mx S (blk cont i)).l,.int .i64 (Mx S (blk cont i)).c]))):=by
  intro W i hi hW;have hs':=hs.Xe hW hs.lt;have h9:=Hr W b i g 0 N C S cont (hs'.cl 0 _ rfl) (hs'.cl 6 _ rfl) hs'.lt (hr.below hW) hby hN (by omega) Bn hS;rw [nw] at h9;exact h9
 have HS:=ZU hs;have yn:Hid (∀W,Zi w W→Calls Tryz.prog 84 #[.pointer (some ⟨b,0,none⟩),.int .i64 0] W (Wj W (.agg #[.bool (Hs S (blk cont 0)),.int .i64 (Mx S (blk cont 0)).g,.int .i64 (Mx S (blk cont 0)).b,.int .i64 (Mx S (blk cont 0)).s,.int .i64 (Mx S (blk cont 0)).l,.int .i64 (Mx S (blk cont 0)).c]))):=fun W hW=>HG.out W 0 (by omega) hW
 have xk:Hid (∀W,Zi w W→Calls Tryz.prog 84 #[.pointer (some ⟨b,0,none⟩),.int .i64 1] W (Wj W (.agg #[.bool (Hs S (blk cont 1)),.int .i64 (Mx S (blk cont 1)).g,.int .i64 (Mx S (blk cont 1)).b,.int .i64 (Mx S (blk cont 1)).s,.int .i64 (Mx S (blk cont 1)).l,.int .i64 (Mx S (blk cont 1)).c]))):=fun W hW=>HG.out W 1 (by omega) hW
 have hlt:=hs.lt;generalize Hs S (blk cont 0)=g0 at *;generalize Hs S (blk cont 1)=g1 at *;generalize Mx S (blk cont 0)=x0 at *;generalize Mx S (blk cont 1)=x1 at *
 go_enter Tryz.func39,Tryz.ntmps39
 go_wp2_with fail
 refine (yn.out _ Yy).mono ?_;rintro e w1 ⟨rfl,b1⟩
 go_wp2_with fail
 refine (xk.out _ b1).mono ?_;rintro e w2 ⟨rfl,b2⟩;have B2:=ZU (WD b1 b2);have S2:=ZU (HS.out.Xe B2.out hlt);have q7:=S2.out.cl 7 _ rfl;have f7:=S2.out.fz 7;have q8:=S2.out.cl 8 _ rfl;have f8:=S2.out.fz 8;have q9:=S2.out.cl 9 _ rfl;have f9:=S2.out.fz 9;have iW:=S2.out.cl 10 _ rfl;have f10:=S2.out.fz 10;have iV:=S2.out.cl 11 _ rfl;have f11:=S2.out.fz 11;have go:=S2.out.cl 12 _ rfl;have f12:=S2.out.fz 12;have YQ:=S2.out.cl 13 _ rfl;have f13:=S2.out.fz 13;have YV:=S2.out.cl 14 _ rfl;have f14:=S2.out.fz 14;have YP:=S2.out.cl 15 _ rfl;have f15:=S2.out.fz 15;have q16:=S2.out.cl 16 _ rfl;have f16:=S2.out.fz 16;have YO:=S2.out.cl 17 _ rfl;have f17:=S2.out.fz 17;have YN:=S2.out.cl 18 _ rfl;have f18:=S2.out.fz 18;have S3:Hid (St ((((((((((((w2.setCell ⟨b,7,none⟩ (.bool g0)).setCell ⟨b,8,none⟩ (.int .i64 x0.g)).setCell ⟨b,9,none⟩ (.int .i64 x0.b)).setCell ⟨b,10,none⟩ (.int .i64 x0.s)).setCell ⟨b,11,none⟩ (.int .i64 x0.l)).setCell ⟨b,12,none⟩ (.int .i64 x0.c)).setCell ⟨b,13,none⟩ (.bool g1)).setCell ⟨b,14,none⟩ (.int .i64 x1.g)).setCell ⟨b,15,none⟩ (.int .i64 x1.b)).setCell ⟨b,16,none⟩ (.int .i64 x1.s)).setCell ⟨b,17,none⟩ (.int .i64 x1.l)).setCell ⟨b,18,none⟩ (.int .i64 x1.c)) b (Oo S L vd vp lim made (.slice (some ⟨g,0,none⟩) N C) g0 x0 g1 x1 code vt zx cnt en)):=((((((((((((S2.out.set 7 (.bool g0)).set 8 (.int .i64 x0.g)).set 9 (.int .i64 x0.b)).set 10 (.int .i64 x0.s)).set 11 (.int .i64 x0.l)).set 12 (.int .i64 x0.c)).set 13 (.bool g1)).set 14 (.int .i64 x1.g)).set 15 (.int .i64 x1.b)).set 16 (.int .i64 x1.s)).set 17 (.int .i64 x1.l)).set 18 (.int .i64 x1.c));have T3:Hid (Tw w b none ((((((((((((w2.setCell ⟨b,7,none⟩ (.bool g0)).setCell ⟨b,8,none⟩ (.int .i64 x0.g)).setCell ⟨b,9,none⟩ (.int .i64 x0.b)).setCell ⟨b,10,none⟩ (.int .i64 x0.s)).setCell ⟨b,11,none⟩ (.int .i64 x0.l)).setCell ⟨b,12,none⟩ (.int .i64 x0.c)).setCell ⟨b,13,none⟩ (.bool g1)).setCell ⟨b,14,none⟩ (.int .i64 x1.g)).setCell ⟨b,15,none⟩ (.int .i64 x1.b)).setCell ⟨b,16,none⟩ (.int .i64 x1.s)).setCell ⟨b,17,none⟩ (.int .i64 x1.l)).setCell ⟨b,18,none⟩ (.int .i64 x1.c)) none):=(Tw.YZ B2.out b none).set.set.set.set.set.set.set.set.set.set.set.set
 go_wp2_with fail
 generalize ((((((((((((w2.setCell _ _).setCell _ _).setCell _ _).setCell _ _).setCell _ _).setCell _ _).setCell _ _).setCell _ _).setCell _ _).setCell _ _).setCell _ _).setCell _ _)=w3 at *;have YV:=S3.out.cl 14 _ rfl;have q8:=S3.out.cl 8 _ rfl
 go_quiet (fail)
 have S4:=ZU (S3.out.below (below_drewN' w3 nq));have T4:=ZU (T3.out.trans (Tw.YZ (below_drewN' w3 nq) b none));generalize w3.drewN nq=w4 at *
 by_cases hx:x0.g<x1.g
 · go_wp2_with fail
   refine ZX (S:=fun _=>True) (by kernel_rfl) trivial (fun Z9=>?_);have S5:Hid (St w4.drew b (Oo S L vd vp lim made (.slice (some ⟨g,0,none⟩) N C) g0 x0 g1 x1 code vt zx cnt en)):=S4.out.below (below_drewN' w4 1);have T5:Hid (Tw w b none w4.drew none):=T4.out.trans (Tw.YZ (below_drewN' w4 1) b none);generalize w4.drew=w5 at *
   iterate 5 (refine Zf ?_ (by kernel_rfl) (fun _=>id) Z9 ?_ ?_;rotate_left;· intro w9 ZQ;clear ZQ;go_simp;try with_reducible rfl)
   refine Yp 6 ?v6 rfl (by kernel_rfl) (fun _=>id) Z9 ?rP ?_
   case rP =>
    intro w9 ZQ;go_simp
    try with_reducible rfl
   refine Yp 7 ?v7 rfl (by kernel_rfl) (fun _=>id) Z9 ?rO ?_
   case rO =>
    intro w9 ZQ;go_simp
    try with_reducible rfl
   refine Yp 8 ?v8 rfl (by kernel_rfl) (fun _=>id) Z9 ?ru ?_
   case ru =>
    intro w9 ZQ;go_simp
    try with_reducible rfl
   have q7:=S5.out.cl 7 _ rfl;have f7:=S5.out.fz 7;have q8:=S5.out.cl 8 _ rfl;have f8:=S5.out.fz 8;have q9:=S5.out.cl 9 _ rfl;have f9:=S5.out.fz 9;have iW:=S5.out.cl 10 _ rfl;have f10:=S5.out.fz 10;have iV:=S5.out.cl 11 _ rfl;have f11:=S5.out.fz 11;have go:=S5.out.cl 12 _ rfl;have f12:=S5.out.fz 12;have YQ:=S5.out.cl 13 _ rfl;have f13:=S5.out.fz 13;have YV:=S5.out.cl 14 _ rfl;have f14:=S5.out.fz 14;have YP:=S5.out.cl 15 _ rfl;have f15:=S5.out.fz 15;have q16:=S5.out.cl 16 _ rfl;have f16:=S5.out.fz 16;have YO:=S5.out.cl 17 _ rfl;have f17:=S5.out.fz 17;have YN:=S5.out.cl 18 _ rfl;have f18:=S5.out.fz 18;have SE:Hid (St ((((((((((((w5.setCell ⟨b,7,none⟩ (.bool g1)).setCell ⟨b,8,none⟩ (.int .i64 x1.g)).setCell ⟨b,9,none⟩ (.int .i64 x1.b)).setCell ⟨b,10,none⟩ (.int .i64 x1.s)).setCell ⟨b,11,none⟩ (.int .i64 x1.l)).setCell ⟨b,12,none⟩ (.int .i64 x1.c)).setCell ⟨b,13,none⟩ (.bool g0)).setCell ⟨b,14,none⟩ (.int .i64 x0.g)).setCell ⟨b,15,none⟩ (.int .i64 x0.b)).setCell ⟨b,16,none⟩ (.int .i64 x0.s)).setCell ⟨b,17,none⟩ (.int .i64 x0.l)).setCell ⟨b,18,none⟩ (.int .i64 x0.c)) b (Oo S L vd vp lim made (.slice (some ⟨g,0,none⟩) N C) g1 x1 g0 x0 code vt zx cnt en)):=((((((((((((S5.out.set 7 (.bool g1)).set 8 (.int .i64 x1.g)).set 9 (.int .i64 x1.b)).set 10 (.int .i64 x1.s)).set 11 (.int .i64 x1.l)).set 12 (.int .i64 x1.c)).set 13 (.bool g0)).set 14 (.int .i64 x0.g)).set 15 (.int .i64 x0.b)).set 16 (.int .i64 x0.s)).set 17 (.int .i64 x0.l)).set 18 (.int .i64 x0.c));have TE:Hid (Tw w b none ((((((((((((w5.setCell ⟨b,7,none⟩ (.bool g1)).setCell ⟨b,8,none⟩ (.int .i64 x1.g)).setCell ⟨b,9,none⟩ (.int .i64 x1.b)).setCell ⟨b,10,none⟩ (.int .i64 x1.s)).setCell ⟨b,11,none⟩ (.int .i64 x1.l)).setCell ⟨b,12,none⟩ (.int .i64 x1.c)).setCell ⟨b,13,none⟩ (.bool g0)).setCell ⟨b,14,none⟩ (.int .i64 x0.g)).setCell ⟨b,15,none⟩ (.int .i64 x0.b)).setCell ⟨b,16,none⟩ (.int .i64 x0.s)).setCell ⟨b,17,none⟩ (.int .i64 x0.l)).setCell ⟨b,18,none⟩ (.int .i64 x0.c)) none):=T5.out.set.set.set.set.set.set.set.set.set.set.set.set;refine QG 5 9 rfl rfl (by kernel_rfl) (fun K hK=>?_) (fun K hK=>?_)
   · skip
     go_simp;refine hK.out _ _ trivial (fun YA=>?_);refine YS 9 rfl (by kernel_rfl) (fun K hK=>?_);go_simp;refine hK.out _ _ trivial (fun YA=>?_)
     iterate 2 (refine Zf ?_ (by kernel_rfl) (fun _=>id) Z9 ?_ ?_;rotate_left;· intro w9 ZQ;clear ZQ;go_simp;try with_reducible rfl)
     refine YS 12 rfl (by kernel_rfl) (fun K hK=>?_);go_simp;refine hK.out _ _ trivial (fun YA=>?_)
     iterate 2 (refine Zf ?_ (by kernel_rfl) (fun _=>id) Z9 ?_ ?_;rotate_left;· intro w9 ZQ;clear ZQ;go_simp;try with_reducible rfl)
     refine YS 15 rfl (by kernel_rfl) (fun K hK=>?_);go_simp;refine hK.out _ _ trivial (fun YA=>?_);refine ZR (by kernel_rfl) ?_ _
     try simp only [Act.put,WV,WU,WT]
     generalize ((((((((((((w5.setCell _ _).setCell _ _).setCell _ _).setCell _ _).setCell _ _).setCell _ _).setCell _ _).setCell _ _).setCell _ _).setCell _ _).setCell _ _).setCell _ _)=w6 at *;have q7:=SE.out.cl 7 _ rfl
     cases g1 with
     | true =>
      go_wp2;go_ret;exact ⟨true,x1,g0,x0,rfl,SE.out,TE.out,.inr ⟨by omega,rfl,rfl,rfl,rfl⟩⟩
     | false =>
      go_wp2;go_ret;exact ⟨false,x1,g0,x0,rfl,SE.out,TE.out,.inr ⟨by omega,rfl,rfl,rfl,rfl⟩⟩
   skip
   go_simp;refine hK.out _ _ trivial (fun YA=>?_);refine YS 5 rfl (by kernel_rfl) (fun K hK=>?_);go_simp;refine hK.out _ _ trivial (fun YA=>?_)
   iterate 2 (refine Zf ?_ (by kernel_rfl) (fun _=>id) Z9 ?_ ?_;rotate_left;· intro w9 ZQ;clear ZQ;go_simp;try with_reducible rfl)
   refine YS 12 rfl (by kernel_rfl) (fun K hK=>?_);go_simp;refine hK.out _ _ trivial (fun YA=>?_)
   iterate 2 (refine Zf ?_ (by kernel_rfl) (fun _=>id) Z9 ?_ ?_;rotate_left;· intro w9 ZQ;clear ZQ;go_simp;try with_reducible rfl)
   refine YS 15 rfl (by kernel_rfl) (fun K hK=>?_);go_simp;refine hK.out _ _ trivial (fun YA=>?_);refine ZR (by kernel_rfl) ?_ _
   try simp only [Act.put,WV,WU,WT]
   generalize ((((((((((((w5.setCell _ _).setCell _ _).setCell _ _).setCell _ _).setCell _ _).setCell _ _).setCell _ _).setCell _ _).setCell _ _).setCell _ _).setCell _ _).setCell _ _)=w6 at *;have q7:=SE.out.cl 7 _ rfl
   cases g1 with
   | true =>
    go_wp2;go_ret;exact ⟨true,x1,g0,x0,rfl,SE.out,TE.out,.inr ⟨by omega,rfl,rfl,rfl,rfl⟩⟩
   | false =>
    go_wp2;go_ret;exact ⟨false,x1,g0,x0,rfl,SE.out,TE.out,.inr ⟨by omega,rfl,rfl,rfl,rfl⟩⟩
 have q7:=S4.out.cl 7 _ rfl
 cases g0 with
 | true =>
  go_wp2;go_ret;exact ⟨true,x0,g1,x1,rfl,S4.out,T4.out,.inl ⟨by omega,rfl,rfl,rfl,rfl⟩⟩
 | false =>
  go_wp2;go_ret;exact ⟨false,x0,g1,x1,rfl,S4.out,T4.out,.inl ⟨by omega,rfl,rfl,rfl,rfl⟩⟩
theorem Tw.gn {b:Nat} {ns:List Nd} (h:Tw w b none w' none) (ho:XU 147 w lo v ns) (hne:v.ownBlock≠some b):XU 147 w' lo v ns :=
 Zn ho ⟨h.os,h.tape,h.output,h.size,fun q hq hq2=>h.block q hq (fun e=>hq2 (by rw [e])) (by simp)⟩ (.inr hne)
theorem zy (w:World) (b:Nat) (S L lim made:Int) (da pa ta:Option Addr) (dl dc pl pc tl tc:Nat) (vc:Value) (cg:Bool) (c:Qi) (og:Bool) (o:Qi) (code zx cnt en:Int) (hs:St w b (Oo S L (.slice da dl dc) (.slice pa pl pc) lim made vc cg c og o code (.slice ta tl tc) zx cnt en)) :
    Calls Tryz.prog 43 #[.pointer (some ⟨b,0,none⟩),.int .i64 6] w (Wj w (.agg #[.int .i64 code,.int .i64 c.g,.int .i64 c.b,.int .i64 c.s,.int .i64 c.l,.int .i64 c.c,.int .i64 zx,.slice ta tl tc,.int .i64 en,.int .i64 made,.slice da dl dc,.slice pa pl pc])):=by
 have hlt:=hs.lt;have B0:Hid (Zi w (w.alloc (.cells #[.int .i64 0,.int .i64 0,.int .i64 0,.int .i64 0,.int .i64 0,.int .i64 0,.int .i64 0,.slice none 0 0,.int .i64 0,.int .i64 0,.slice none 0 0,.slice none 0 0] 65))):=Yy.alloc YR _;have R0:Hid (St (w.alloc (.cells #[.int .i64 0,.int .i64 0,.int .i64 0,.int .i64 0,.int .i64 0,.int .i64 0,.int .i64 0,.slice none 0 0,.int .i64 0,.int .i64 0,.slice none 0 0,.slice none 0 0] 65)) w.heap.size [.int .i64 0,.int .i64 0,.int .i64 0,.int .i64 0,.int .i64 0,.int .i64 0,.int .i64 0,.slice none 0 0,.int .i64 0,.int .i64 0,.slice none 0 0,.slice none 0 0]):=St.new _ _ _;have N0:=ZU (hs.Xe B0.out hlt)
 go_enter Tryz.func43,Tryz.ntmps43
 go_wp2_with fail
 generalize (w.alloc _)=w0 at *;have Nd:Hid (St w0.drew b (Oo S L (.slice da dl dc) (.slice pa pl pc) lim made vc cg c og o code (.slice ta tl tc) zx cnt en)):=N0.out.below (below_drewN' w0 1);have T:Hid (St w0.drew w.heap.size [.int .i64 0,.int .i64 0,.int .i64 0,.int .i64 0,.int .i64 0,.int .i64 0,.int .i64 0,.slice none 0 0,.int .i64 0,.int .i64 0,.slice none 0 0,.slice none 0 0]):=R0.out.below (below_drewN' w0 1);have Bd:Hid (Zi w w0.drew):=B0.out.trans ((below_drewN' w0 1).mono B0.out.size);refine ZX (S:=fun W=>St W b (Oo S L (.slice da dl dc) (.slice pa pl pc) lim made vc cg c og o code (.slice ta tl tc) zx cnt en)) (by kernel_rfl) (Nd.out) (fun Z9=>?_)
 iterate 35 (refine Zf ?_ (by kernel_rfl) (fun _=>id) Z9 ?_ ?_;rotate_left;· intro w9 ZQ;have k2:=ZQ.cl 2 _ rfl;have k3:=ZQ.cl 3 _ rfl;have k5:=ZQ.cl 5 _ rfl;have k8:=ZQ.cl 8 _ rfl;have k9:=ZQ.cl 9 _ rfl;have k10:=ZQ.cl 10 _ rfl;have k11:=ZQ.cl 11 _ rfl;have k12:=ZQ.cl 12 _ rfl;have k19:=ZQ.cl 19 _ rfl;have k20:=ZQ.cl 20 _ rfl;have k21:=ZQ.cl 21 _ rfl;have k23:=ZQ.cl 23 _ rfl;clear ZQ;go_simp;try with_reducible rfl)
 clear Z9;generalize w0.drew=w1 at *;have q0:=T.out.cl 0 _ rfl;have f0:=T.out.fz 0;have q1:=T.out.cl 1 _ rfl;have f1:=T.out.fz 1;have q2:=T.out.cl 2 _ rfl;have f2:=T.out.fz 2;have q3:=T.out.cl 3 _ rfl;have f3:=T.out.fz 3;have q4:=T.out.cl 4 _ rfl;have f4:=T.out.fz 4;have q5:=T.out.cl 5 _ rfl;have f5:=T.out.fz 5;have q6:=T.out.cl 6 _ rfl;have f6:=T.out.fz 6;have q7:=T.out.cl 7 _ rfl;have f7:=T.out.fz 7;have q8:=T.out.cl 8 _ rfl;have f8:=T.out.fz 8;have q9:=T.out.cl 9 _ rfl;have f9:=T.out.fz 9;have iW:=T.out.cl 10 _ rfl;have f10:=T.out.fz 10;have iV:=T.out.cl 11 _ rfl;have f11:=T.out.fz 11;have SE:Hid (St ((((((((((((w1.setCell ⟨w.heap.size,0,none⟩ (.int .i64 code)).setCell ⟨w.heap.size,1,none⟩ (.int .i64 c.g)).setCell ⟨w.heap.size,2,none⟩ (.int .i64 c.b)).setCell ⟨w.heap.size,3,none⟩ (.int .i64 c.s)).setCell ⟨w.heap.size,4,none⟩ (.int .i64 c.l)).setCell ⟨w.heap.size,5,none⟩ (.int .i64 c.c)).setCell ⟨w.heap.size,6,none⟩ (.int .i64 zx)).setCell ⟨w.heap.size,7,none⟩ (.slice ta tl tc)).setCell ⟨w.heap.size,8,none⟩ (.int .i64 en)).setCell ⟨w.heap.size,9,none⟩ (.int .i64 made)).setCell ⟨w.heap.size,10,none⟩ (.slice da dl dc)).setCell ⟨w.heap.size,11,none⟩ (.slice pa pl pc)) w.heap.size [.int .i64 code,.int .i64 c.g,.int .i64 c.b,.int .i64 c.s,.int .i64 c.l,.int .i64 c.c,.int .i64 zx,.slice ta tl tc,.int .i64 en,.int .i64 made,.slice da dl dc,.slice pa pl pc]):=((((((((((((T.out.set 0 (.int .i64 code)).set 1 (.int .i64 c.g)).set 2 (.int .i64 c.b)).set 3 (.int .i64 c.s)).set 4 (.int .i64 c.l)).set 5 (.int .i64 c.c)).set 6 (.int .i64 zx)).set 7 (.slice ta tl tc)).set 8 (.int .i64 en)).set 9 (.int .i64 made)).set 10 (.slice da dl dc)).set 11 (.slice pa pl pc));have BE:Hid (Zi w ((((((((((((w1.setCell ⟨w.heap.size,0,none⟩ (.int .i64 code)).setCell ⟨w.heap.size,1,none⟩ (.int .i64 c.g)).setCell ⟨w.heap.size,2,none⟩ (.int .i64 c.b)).setCell ⟨w.heap.size,3,none⟩ (.int .i64 c.s)).setCell ⟨w.heap.size,4,none⟩ (.int .i64 c.l)).setCell ⟨w.heap.size,5,none⟩ (.int .i64 c.c)).setCell ⟨w.heap.size,6,none⟩ (.int .i64 zx)).setCell ⟨w.heap.size,7,none⟩ (.slice ta tl tc)).setCell ⟨w.heap.size,8,none⟩ (.int .i64 en)).setCell ⟨w.heap.size,9,none⟩ (.int .i64 made)).setCell ⟨w.heap.size,10,none⟩ (.slice da dl dc)).setCell ⟨w.heap.size,11,none⟩ (.slice pa pl pc))):=by
  iterate 12 refine Below.setCell ?_ (by show w.heap.size≤w.heap.size;omega) _
  exact Bd.out
 have NE:St ((((((((((((w1.setCell ⟨w.heap.size,0,none⟩ (.int .i64 code)).setCell ⟨w.heap.size,1,none⟩ (.int .i64 c.g)).setCell ⟨w.heap.size,2,none⟩ (.int .i64 c.b)).setCell ⟨w.heap.size,3,none⟩ (.int .i64 c.s)).setCell ⟨w.heap.size,4,none⟩ (.int .i64 c.l)).setCell ⟨w.heap.size,5,none⟩ (.int .i64 c.c)).setCell ⟨w.heap.size,6,none⟩ (.int .i64 zx)).setCell ⟨w.heap.size,7,none⟩ (.slice ta tl tc)).setCell ⟨w.heap.size,8,none⟩ (.int .i64 en)).setCell ⟨w.heap.size,9,none⟩ (.int .i64 made)).setCell ⟨w.heap.size,10,none⟩ (.slice da dl dc)).setCell ⟨w.heap.size,11,none⟩ (.slice pa pl pc)) b (Oo S L (.slice da dl dc) (.slice pa pl pc) lim made vc cg c og o code (.slice ta tl tc) zx cnt en):=((((((((((((Nd.out.other (by omega)).other (by omega)).other (by omega)).other (by omega)).other (by omega)).other (by omega)).other (by omega)).other (by omega)).other (by omega)).other (by omega)).other (by omega)).other (by omega));refine YS 35 rfl (by kernel_rfl) (fun K hK=>?_);go_simp;refine hK.out _ _ NE (fun YA=>?_);refine ZR (by kernel_rfl) ?_ _
 try simp only [Act.put,WV,WU,WT]
 generalize ((((((((((((w1.setCell _ _).setCell _ _).setCell _ _).setCell _ _).setCell _ _).setCell _ _).setCell _ _).setCell _ _).setCell _ _).setCell _ _).setCell _ _).setCell _ _)=wE at *;go_wp2;have e0:=SE.out.cl 0 _ rfl;have e1:=SE.out.cl 1 _ rfl;have e2:=SE.out.cl 2 _ rfl;have e3:=SE.out.cl 3 _ rfl;have e4:=SE.out.cl 4 _ rfl;have e5:=SE.out.cl 5 _ rfl;have e6:=SE.out.cl 6 _ rfl;have e7:=SE.out.cl 7 _ rfl;have e8:=SE.out.cl 8 _ rfl;have e9:=SE.out.cl 9 _ rfl;have e10:=SE.out.cl 10 _ rfl;have e11:=SE.out.cl 11 _ rfl;exact ZW (v:=.agg #[.int .i64 code,.int .i64 c.g,.int .i64 c.b,.int .i64 c.s,.int .i64 c.l,.int .i64 c.c,.int .i64 zx,.slice ta tl tc,.int .i64 en,.int .i64 made,.slice da dl dc,.slice pa pl pc]) (by simp [results,Tryz.results43,go_sem,e0,e1,e2,e3,e4,e5,e6,e7,e8,e9,e10,e11]) rfl ⟨rfl,BE.out⟩
theorem zw (f:Int) (log want:List Int) (m:Nat):∀(n b:Nat),QN f log want b (m+n)=QN f log want b m++QN f log want (b+m) n:=by
 induction m with
 | zero=>intro n b;simp [QN]
 | succ m ih =>
  intro n b;rw [show m+1+n=(m+n)+1 by omega,QN,QN,ih,show b+(m+1)=b+1+m by omega,ZO]
theorem RC (f:Int) (log want:List Int) (b:Nat):QN f log want 0 (b+1)=QN f log want 0 b++(if blk log b=blk want b then [] else [(f+b,blk want b)]):=by
 rw [zw];simp [QN]
theorem LF (f:Int) (log want:List Int):∀(n b:Nat),(QN f log want b n).length≤n:=by
 intro n
 induction n with
 | zero=>intro b;simp [QN]
 | succ n ih=>intro b;rw [QN,ZZ];have:=ih (b+1);split <;> simp <;> omega
theorem zv (log:List Int) (n e i:Nat) (hl:log.length=n*64) (he:e≤log.length) (hi:i<n) :
    blk (Nb log e) i=(blk log i).take (min (e - i*64) 64)++zeros (64 - min (e - i*64) 64):=by
 have hbl:(blk log i).length=64:=by unfold blk;simp;omega
 apply Tb
 · simp [blk,Nb,zeros];omega
 intro j h1 h2;have hj:j<64:=by simp [blk,Nb,zeros] at h1;omega
 simp only [blk,Nb,zeros,List.getElem_take,List.getElem_drop,List.getElem_append,Zw]
 by_cases h:i*64+j<e
 · have h3:j<min (e - i*64) 64:=by omega
   rw [dif_pos (by omega),dif_pos (by simp;omega)]
 rw [dif_neg (by omega),dif_neg (by simp;omega)]
 simp
theorem vI {i:Nat} (h:xs.length=n*64) (hi:i<n):(blk xs i).length=64:=by unfold blk;simp;omega
theorem rq (D:List Int) (f l i:Nat) (hi:i<l):blk (Ma D f l) i=blk D (f+i):=by
 unfold blk Ma;rw [List.drop_take,U6,Yc,YC (by omega),show f*64+i*64=(f+i)*64 by omega]
theorem plain8:Tryz.prog.plainKey 5=true:=by kernel_rfl
theorem nu:Tryz.prog.underlying 5=some (.int .u8):=by kernel_rfl
theorem Kr (w:World) (d:Nat) (X Y:List Int):∀(is:List Nat),(∀i ∈ is,i<X.length∧i<Y.length)→(Op.eqItems (d+1) 5 1 (X.map (Value.int .u8)).toArray (Y.map (Value.int .u8)).toArray is).run Tryz.prog w=.ok (is.all (fun i=>X.getD i 0 == Y.getD i 0)) w
 | [],_=>by simp [Op.eqItems]
 | i :: is,h=>by
  obtain ⟨h1,h2⟩:=h i (by simp);have ih:=Kr w d X Y is (fun j hj=>h j (by simp [hj]));have p1:(X.map (Value.int .u8)).toArray[i*1]?=some (.int .u8 (X.getD i 0)):=by simp [List.getD,h1]
  have p2:(Y.map (Value.int .u8)).toArray[i*1]?=some (.int .u8 (Y.getD i 0)):=by simp [List.getD,h2]
  simp only [Op.eqItems,XX,run_part_plain w plain8 p1,run_part_plain w plain8 p2,XH,run_equalIn_int w d 5 .u8 .u8 _ _ nu]
  cases e:(X.getD i 0 == Y.getD i 0) with
  | false=>simp only [VR,e,Bool.false_and,Bool.not_false,Vo,Ww]
  | true =>
   simp only [VR,e,Xz,Bool.not_true,Yu,WW]
   exact ih
theorem ES (w:World) (X Y:List Int) (hX:X.length=64) (hY:Y.length=64):(Op.equalIn 10000 117 (.agg (X.map (Value.int .u8)).toArray) (.agg (Y.map (Value.int .u8)).toArray)).run Tryz.prog w=.ok (decide (X=Y)) w:=by
 obtain ⟨i,hi⟩:∃i,Tryz.prog.info? 5=some i:=by
  cases h:Tryz.prog.info? 5 with
  | none=>exact absurd h (by
      have:(Tryz.prog.info? 5).isSome=true:=by kernel_rfl
      intro e;rw [e] at this;cases this)
  | some i=>exact ⟨i,rfl⟩
 rw [run_equalIn_array w 9999 _ _ Tryz.underlying117 hi];have hc:Tryz.prog.cellsOf 5=1:=by kernel_rfl
 have hb:((List.range 64).all (fun i=>X.getD i 0 == Y.getD i 0))=decide (X=Y):=by
  rw [SJ,Yw,Zj]
  constructor
  · intro h
    apply Tb (by omega);intro j h1 h2;have:=h j (by rw [Yb];omega)
    simpa [List.getD,h1,h2] using this
  rintro rfl j _
  simp
 rw [hc,←hb];exact Kr w 9998 X Y _ (fun i hi=>by rw [Yb] at hi;omega)
theorem ki (w:World):(zeroValue 5).run Tryz.prog w=.ok (.int .u8 0) w:=by kernel_rfl
theorem rp (w7:World) (b:Nat) (V:List Value) (hV:V.length=64) (ht:w7.there b 0 64) (hR:w7.rangeAt b 0 V) (k c:Nat) (hk:k<64) :
    (Builtin.clear_ #[22] 0 #[.slice (some ⟨b,k,none⟩) (64 - k) c]).run Tryz.prog w7=.ok (.tuple #[]) (w7.setCells b k (List.replicate (64 - k) (.int .u8 0)))
    ∧ (w7.setCells b k (List.replicate (64 - k) (.int .u8 0))).rangeAt b 0 (V.take k++List.replicate (64 - k) (.int .u8 0)):=by
 have hc:∀j,j<64 - k→(w7.cell? ⟨b,k+j,none⟩).isSome=true:=fun j hj=>by
  have h9:=(ht (k+j) (by omega)).1;rw [Za] at h9;exact h9
 refine ⟨Go.Lib.run_clear_slice _ 22 5 0 (.int .u8 0) Tryz.underlying22 ki rfl rfl b k (64 - k) c (by omega) hc (fun j hj=>by
  have h9:=(ht (k+j) (by omega)).2;rw [Za] at h9;exact h9),fun j u hu=>?_⟩
 have hj:j<64:=by have:=(Zh.1 hu).1;simp [hV] at this;omega
 by_cases hjk:j<k
 · rw [Ub _ _ _ _ _ (fun _ _=>.inl (by show 0+j<k;omega))]
   refine hR j u ?_;rw [Zy (by simp [hV];omega),XP hjk] at hu;exact hu
 have h9:=World.cell?_setCells_in b (List.replicate (64 - k) (Value.int .u8 0)) k _ (by rw [XJ];exact hc) (j - k) (by rw [XJ];omega);rw [show k+(j - k)=0+j by omega] at h9;rw [h9];rw [Zv (by simp [hV];omega)] at hu;have h8:u=.int .u8 0:=by
  have:=UT hu;exact (List.mem_replicate.1 this).2
 rw [h8]
 simp
theorem kh (w:World) (q:Nat):(Builtin.clear_ #[22] 0 #[.slice (some ⟨q,0,none⟩) 0 0]).run Tryz.prog w=.ok (.tuple #[]) w:=by
 simp [Builtin.clear_,go_sem,Ya (P:=Tryz.prog) Tryz.underlying22]
theorem zu {b o:Nat} (h:w.there b o n) (hc:w'.heap[b]?=w.heap[b]?):w'.there b o n:=fun j hj=>by
 obtain ⟨h1,h2⟩:=h j hj;refine ⟨?_,?_⟩
 · rw [ZP (w:=w) (a:=⟨b,o+j,none⟩) hc];exact h1
 unfold World.frozen? at h2 ⊢;rw [hc];exact h2
theorem Na {rs':List (Int × List Int)} (h:Put rs x V rs') (hno:∀i,i<rs.length→pB rs i≠x):rs'=rs++[(x,V)]:=by
 rcases h with ⟨i,hi,e,-⟩ | ⟨-,h⟩
 · exact absurd e (hno i hi)
 exact h
theorem Qw.kg {lo' tb mb:Nat} (h:Qw w lo tb mb v rs) (hl:lo'≤lo):Qw w lo' tb mb v rs:=by
 refine ⟨h.box,⟨h.rows.1,?_⟩,h.map,h.full,h.apart,ZJ hl h.lot,ZJ hl h.kv,h.ne,h.vt,h.vm⟩
 rcases h.rows.2 with hn | ⟨g,cap,cur,rfl,hbg,rest⟩
 · exact .inl hn
 exact .inr ⟨g,cap,cur,rfl,by omega,rest⟩
theorem LE (f:Int) (lg wn:List Int):∀(n b i:Nat),i<(QN f lg wn b n).length→∃k,b≤k∧k<b+n∧pB (QN f lg wn b n) i=f+k:=by
 intro n
 induction n with
 | zero=>intro b i hi;simp [QN] at hi
 | succ n ih =>
  intro b i hi;rw [QN] at hi ⊢
  by_cases hc:blk lg b=blk wn b
  · rw [Z0 hc,Zd] at hi ⊢
    obtain ⟨k,h1,h2,h3⟩:=ih (b+1) i hi;exact ⟨k,by omega,by omega,h3⟩
  rw [Z1 hc] at hi ⊢
  cases i with
  | zero=>exact ⟨b,by omega,by omega,rfl⟩
  | succ i =>
   obtain ⟨k,h1,h2,h3⟩:=ih (b+1) i (by simpa using hi);refine ⟨k,by omega,by omega,?_⟩;rw [←h3];rfl
def vH (w:World) (rs:List (Int × List Int)) (e:Ending) (w':World):Prop:=∃tb mb v,e=.returned (.pointer (some ⟨tb,0,none⟩))∧Qw w' w.heap.size tb mb v rs∧Zi w w'
theorem ER (w:World) (b g N C f:Nat) (S:Int) (sn:Nat) (vd vp:Value) (lim made:Int) (vc:Value) (cg:Bool) (c:Qi) (og:Bool) (o:Qi) (code:Int) (vt:Value) (zx cnt:Int) (en:Nat) (cont:List Int) (hs:St w b (Oo S (sn:Int) vd vp lim made vc cg c og o code vt zx cnt (en:Int))) (nv:vc=.slice (some ⟨g,0,none⟩) N C) (hr:Rd .u8 w (.slice (some ⟨g,0,none⟩) N C) cont) (hN:cont.length=N) (Bn:N≤1048576) (hc:Wp S (sn:Int)=true) (hcb:0≤c.b∧c.b≤1) (hf:Rx S (sn:Int) c.b true=(f:Int)) (YK:(f+sn)*64≤N) (hen:en≤sn*64) (hsn:sn≤64) (Y1:f≤1000) :
    Calls Tryz.prog 87 #[.pointer (some ⟨b,0,none⟩)] w (vH w (QN (f:Int) (Ma cont f sn) (Nb (Ma cont f sn) en) 0 sn)):=by
 have hlt:=hs.lt;have HS:=ZU hs;have Ow:Hid (∀W,Calls Tryz.prog 79 #[.agg #[.int .i64 S,.int .i64 (sn:Int)],.int .i64 c.b] W (Wj W (.agg #[.int .i64 (f:Int),.int .i64 (sn:Int)]))):=by
  intro W;have h9:=RF W S (sn:Int) c.b hc hcb;rw [hf,show I9 S (sn:Int) true=(sn:Int) from rfl] at h9;exact h9
 have t:Hid (∀W (j:Nat),j<sn→Zi w W→Calls Tryz.prog 108 #[vc,.int .i64 ((f:Int)+(j:Int))] W (Wj W (.agg ((blk (Ma cont f sn) j).map (Value.int .u8)).toArray))):=by
  intro W j hj hW;have h9:=Mc W g 0 N C (f+j) cont (hr.below hW) hN (by omega) Bn;rw [nv,rq _ _ _ _ hj];rw [show ((f+j:Nat):Int)=(f:Int)+(j:Int) by omega] at h9;exact h9
 have hll:(Ma cont f sn).length=sn*64:=NZ _ _ _ (by omega);have lu:Hid (∀j,j<sn→(blk (Ma cont f sn) j).length=64∧blk (Nb (Ma cont f sn) en) j=(blk (Ma cont f sn) j).take (min (en - j*64) 64)++zeros (64 - min (en - j*64) 64)):=fun j hj=>⟨vI hll hj,zv _ sn en j hll (by omega) hj⟩
 clear hs hr nv hN Bn hc hf YK hll;generalize (Nb (Ma cont f sn) en)=R at *;generalize (Ma cont f sn)=Q at *
 go_enter Tryz.func87,Tryz.ntmps87
 go_wp2_with fail
 rename_i KK Hq;have REST:Hid (∀(b3:Nat) (W:World),St W b (Oo S (sn:Int) vd vp lim made vc cg c og o code vt zx cnt (en:Int))→St W b3 [.int .i64 (f:Int),.int .i64 (sn:Int)]→Zi w W→w.heap.size≤b3→KK { tmps:=#[.pointer (some ⟨b,0,none⟩),undef,.pointer none,.pointer (some ⟨b3,0,none⟩),undef,undef,undef,undef,.pointer (some ⟨b,0,none⟩),.pointer (some ⟨b,0,none⟩),.pointer (some ⟨b,0,none⟩),.agg #[.int .i64 S,.int .i64 (sn:Int)],.pointer (some ⟨b,0,none⟩),.pointer (some ⟨b,0,none⟩),.pointer (some ⟨b,7,none⟩),.pointer (some ⟨b,8,none⟩),.pointer (some ⟨b,9,none⟩),.int .i64 c.b,.agg #[.int .i64 (f:Int),.int .i64 (sn:Int)],undef,undef,undef,undef,undef,undef,undef,undef,undef,undef,undef,undef,undef,undef,undef,undef,undef,undef,undef,undef,undef,undef,undef,undef,undef,undef,undef,undef,undef,undef,undef,undef,undef,undef,undef,undef,undef,undef,undef],defers:=[] } W):=by
  clear HS Ow;intro b3 W N0 X0 B0 hb3;refine Hq _ _ ?_;have rV:=ZU N0;have HX0:=ZU X0;have HB0:=ZU B0;have ZL:=X0.lt;clear N0 X0 B0 Hq
  go_wp2_with fail
  refine (Nj W).mono ?_;rintro e w1 ⟨rfl,t1,b1⟩;have N1:=ZU (rV.out.below b1);have X1:=ZU (HX0.out.below b1);have B1:=ZU (WD HB0.out b1);have T1:=ZU t1;have hbW:=rV.out.lt;have hW:=HB0.out.size;have x1:=X1.out.cl 1 _ rfl;clear t1 b1 rV HX0 HB0;go_wp2
  go_loopw [22] (fun vi wr=>∃(j:Nat) (v:Value),j≤sn∧vi=.int .i64 (j:Int)∧Hid (St wr b (Oo S (sn:Int) vd vp lim made vc cg c og o code vt zx cnt (en:Int)))∧Hid (St wr b3 [.int .i64 (f:Int),.int .i64 (sn:Int)])∧Hid (Zi w wr)∧Hid (Qw wr W.heap.size (W.heap.size+1) W.heap.size v (QN (f:Int) Q R 0 j))∧Hid (W.heap.size+2≤wr.heap.size)) (fun i _=>sn - (intOf i).toNat)
  case atStart=>exact ⟨0,_,by omega,rfl,N1,X1,B1,T1,by have:=T1.out.box.1.1;show _≤_;omega⟩
  case round =>
   clear N1 X1 B1 T1;obtain ⟨j,v,hj,rfl,N2,X2,B2,T2,Z2⟩:=hrel
   by_cases hlt2:j<sn
   · have Rj:(j:Int)<(sn:Int):=by omega
     go_wp2_with fail
     rename_i YJ YU;have U:=lu.out j hlt2;obtain ⟨V,hV⟩:∃V,V=(blk Q j).map (Value.int .u8):=⟨_,rfl⟩;have HV:=ZU hV;have QH:Hid (V.length=64):=by rw [hV];show _=_;rw [Zl];exact U.1
     have rI:Hid (∀v ∈ V,v.oneCell'=true):=by rw [hV];exact Yi _ _
     clear hV;have Z':Hid (∀(b6:Nat) (W':World),St W' b (Oo S (sn:Int) vd vp lim made vc cg c og o code vt zx cnt (en:Int))→St W' b3 [.int .i64 (f:Int),.int .i64 (sn:Int)]→Zi w W'→Qw W' W.heap.size (W.heap.size+1) W.heap.size v (QN (f:Int) Q R 0 j)→W'.rangeAt b6 0 V→b6<W'.heap.size→wr.heap.size≤b6→wr.heap.size≤W'.heap.size→YJ { tmps:=#[.pointer (some ⟨b,0,none⟩),undef,.pointer none,.pointer (some ⟨b3,0,none⟩),.pointer (some ⟨W.heap.size+1,0,none⟩),.int .i64 (j:Int),.pointer (some ⟨b6,0,none⟩),u7,.pointer (some ⟨b,0,none⟩),.pointer (some ⟨b,0,none⟩),.pointer (some ⟨b,0,none⟩),.agg #[.int .i64 S,.int .i64 (sn:Int)],.pointer (some ⟨b,0,none⟩),.pointer (some ⟨b,0,none⟩),.pointer (some ⟨b,7,none⟩),.pointer (some ⟨b,8,none⟩),.pointer (some ⟨b,9,none⟩),.int .i64 c.b,.agg #[.int .i64 (f:Int),.int .i64 (sn:Int)],.pointer (some ⟨W.heap.size+1,0,none⟩),.pointer (some ⟨b3,1,none⟩),.int .i64 (sn:Int),.int .i64 (j:Int),.bool true,.int .i64 (j:Int),.pointer (some ⟨b,0,none⟩),.pointer (some ⟨b,0,none⟩),.pointer (some ⟨b,6,none⟩),vc,.pointer (some ⟨b3,0,none⟩),.int .i64 (f:Int),.int .i64 (j:Int),.int .i64 ((f:Int)+(j:Int)),.agg V.toArray,u34,u35,u36,u37,u38,u39,u40,u41,u42,u43,u44,u45,u46,u47,u48,u49,u50,u51,u52,u53,u54,u55,u56,undef],defers:=[] } W'):=by
      intro b6 W' hN hX hB hT hR h6 X' ZH;refine YU _ _ ?_;have HN:=ZU hN;have HX:=ZU hX;have HB:=ZU hB;have HT:=ZU hT;have HR:=ZU hR;have hw1:IntKind.i64.wrap ((en:Int) - (j:Int)*64)=(en:Int) - (j:Int)*64:=by rw [Zq];omega
      have hw2:IntKind.i64.wrap ((j:Int)*64)=(j:Int)*64:=by rw [Zq];omega
      have hw3:IntKind.i64.wrap ((f:Int)+(j:Int))=(f:Int)+(j:Int):=by rw [Zq];omega
      clear hN hX hB hT hR
      go_wp2_with (first | (refine YM rfl 117 _ rfl b6 0 rfl V _ HR.out Tryz.underlying117 rfl (Wh _ QH.out) ?_) | (refine YM rfl 117 _ rfl b6 0 rfl V _ (Wk HR.out _) Tryz.underlying117 rfl (Wh _ QH.out) ?_) | (refine UO rfl 117 _ _ rfl W'.heap.size 0 V.toArray rfl rfl ?s1 ?s2 ?s3 (Hid.out ?wall)))
      case s1 =>
       have e:V.toArray.size=64:=by rw [ZI];exact QH.out
       rw [e];exact Vn _ _ _ _ rfl
      case s2=>rw [ZI];exact Wh _ QH.out
      case s3=>exact XL rI.out
      case wall =>
       unfold Hid;generalize ZG:World.setCells _ _ _ _=w7;have B7:Hid (Zi W' w7):=by subst ZG;exact below_setCells YR _ _ _ (Yy.alloc YR _)
       have B:Hid (w7.rangeAt W'.heap.size 0 V):=by
        subst ZG;exact Yf _ _ _ _ (Vn _ _ _ _ (by rw [QH.out];rfl))
       have T7:Hid (w7.there W'.heap.size 0 64):=by
        subst ZG;exact World.there_setCells (Vn _ _ _ _ rfl) _ _ _
       clear ZG;have k23:=(HN.out.below B7.out).cl 23 _ rfl;obtain ⟨V8,Zt⟩:∃V8,V8=(blk R j).map (Value.int .u8):=⟨_,rfl⟩;have O:=ZU Zt;have I:Hid ((blk R j).length=64):=by
        show _=_;rw [U.2,ZZ,Zw,U.1];unfold zeros;rw [XJ];omega
       have H:Hid (V8.length=64):=by show _=_;rw [Zt,Zl];exact I.out
       clear Zt
       by_cases hA:en<j*64
       · have X7:(en:Int) - (j:Int)*64<0:=by omega
         obtain ⟨w8,hw8⟩:∃w8,w8=w7.setCells W'.heap.size 0 (List.replicate (64 - 0) (.int .u8 0)):=⟨_,rfl⟩;have Qs:(Builtin.clear_ #[22] 0 #[.slice (some ⟨W'.heap.size,0,none⟩) 64 64]).run Tryz.prog w7=.ok (.tuple #[]) w8:=by rw [hw8];exact (rp w7 _ V QH.out T7.out B.out 0 64 (by omega)).1
         have G:Hid (w8.rangeAt W'.heap.size 0 V8):=by
          have e9:V8=V.take 0++List.replicate (64 - 0) (.int .u8 0):=by
           rw [O.out,U.2,show min (en - j*64) 64=0 by omega,HV.out,Y6,←UD];unfold zeros;rw [Uf]
          rw [e9,hw8];exact (rp w7 _ V QH.out T7.out B.out 0 64 (by omega)).2
         have Z:Hid (Zi W' w8):=by rw [hw8];exact below_setCells YR _ _ _ B7.out
         clear hw8;have J:=ZU (Wb HR.out (Z.out.block b6 h6));have x30:=(HX.out.below Z.out).cl 0 _ rfl;have N8:=ZU (HN.out.below Z.out);have X8:=ZU (HX.out.below Z.out);have T8:=ZU (HT.out.below Z.out);have B8:=ZU (WD HB.out Z.out);have z8:=ZJ ZH Z.out.size
         by_cases heq:blk R j=blk Q j
         · have E:∀w9:World,(Op.equalIn 10000 117 (.agg V8.toArray) (.agg V.toArray)).run Tryz.prog w9=.ok true w9:=fun w9=>by
            rw [O.out,HV.out,ES w9 _ _ I.out U.1,Zm heq]
           have Of:Hid (QN (f:Int) Q R 0 (j+1)=QN (f:Int) Q R 0 j):=by show _=_;rw [RC,Z0 heq.symm,YD]
           clear heq
           go_wp2_with (first | (refine YM rfl 117 _ rfl W'.heap.size 0 rfl V8 _ G.out Tryz.underlying117 rfl (Wh _ H.out) ?_) | (refine YM rfl 117 _ rfl b6 0 rfl V _ J.out Tryz.underlying117 rfl (Wh _ QH.out) ?_))
           go_roundw
           case rel=>exact ⟨j+1,v,by omega,by go_num,N8,X8,B8,by rw [Of.out];exact T8,by show _≤_;have:=Z2.out;omega⟩
           case measure=>simp [intOf];omega
         have E:∀w9:World,(Op.equalIn 10000 117 (.agg V8.toArray) (.agg V.toArray)).run Tryz.prog w9=.ok false w9:=fun w9=>by
          rw [O.out,HV.out,ES w9 _ _ I.out U.1,Zo heq]
         have Of:Hid (QN (f:Int) Q R 0 (j+1)=QN (f:Int) Q R 0 j++[((f:Int)+(j:Int),blk R j)]):=by show _=_;rw [RC,Z1 (fun e=>heq e.symm)]
         clear heq
         go_wp2_with (first | (refine YM rfl 117 _ rfl W'.heap.size 0 rfl V8 _ G.out Tryz.underlying117 rfl (Wh _ H.out) ?_) | (refine YM rfl 117 _ rfl b6 0 rfl V _ J.out Tryz.underlying117 rfl (Wh _ QH.out) ?_))
         have hpt:=Ni w8 W.heap.size _ _ v (QN (f:Int) Q R 0 j) ((f:Int)+(j:Int)) (blk R j) T8.out (by omega) (by omega) I.out (by have:=LF (f:Int) Q R j 0;omega) (by have:=Z2.out;omega);rw [←O.out] at hpt;refine hpt.mono ?_;clear hpt;rintro e w9 ⟨rfl,⟨v',rs',hput,hT'⟩,hB',-⟩;have hrs:=Na hput (fun i hi=>by
          obtain ⟨q,-,h2,h3⟩:=LE (f:Int) Q R j 0 i hi;rw [h3];omega)
         have T9:Hid (Qw w9 W.heap.size (W.heap.size+1) W.heap.size v' (QN (f:Int) Q R 0 (j+1))):=by rw [Of.out,←hrs];exact hT'
         have N9:=ZU (N8.out.Xe hB' hbW);have X9:=ZU (X8.out.Xe hB' ZL);have B9:=ZU (B8.out.trans (hB'.mono hW));have z9:=hB'.size;clear hput hT' hB' hrs Of E Qs x30;go_wp2
         go_roundw
         case rel=>exact ⟨j+1,v',by omega,by go_num,N9,X9,B9,T9,by show _≤_;have:=Z2.out;omega⟩
         case measure=>simp [intOf];omega
       obtain ⟨k,hk⟩:∃k,en=j*64+k:=⟨en - j*64,by omega⟩;have Zs:(en:Int) - (j:Int)*64=(k:Int):=by omega
       have HK:=ZU hk;clear hk;rw [Zs] at hw1
       by_cases hB:k<64
       · have hBI:(k:Int)<64:=by omega
         have hB1:k≤64:=by omega
         have hB2:(k:Int)≤64:=by omega
         have hB3:¬64=k:=by omega
         have hB4:¬k=64:=by omega
         have XZ:¬(64 - k=0):=by omega
         have XY:¬(64:Int)<(k:Int):=by omega
         obtain ⟨w8,hw8⟩:∃w8,w8=w7.setCells W'.heap.size k (List.replicate (64 - k) (.int .u8 0)):=⟨_,rfl⟩;have Qs:(Builtin.clear_ #[22] 0 #[.slice (some ⟨W'.heap.size,k,none⟩) (64 - k) (64 - k)]).run Tryz.prog w7=.ok (.tuple #[]) w8:=by rw [hw8];exact (rp w7 _ V QH.out T7.out B.out k _ hB).1
         have G:Hid (w8.rangeAt W'.heap.size 0 V8):=by
          have e9:V8=V.take k++List.replicate (64 - k) (.int .u8 0):=by
           rw [O.out,U.2,show min (en - j*64) 64=k by have:=HK.out;omega,HV.out,Y6,←UD];unfold zeros;rw [Uf]
          rw [e9,hw8];exact (rp w7 _ V QH.out T7.out B.out k 64 (by omega)).2
         have Z:Hid (Zi W' w8):=by rw [hw8];exact below_setCells YR _ _ _ B7.out
         clear hw8;have J:=ZU (Wb HR.out (Z.out.block b6 h6));have x30:=(HX.out.below Z.out).cl 0 _ rfl;have N8:=ZU (HN.out.below Z.out);have X8:=ZU (HX.out.below Z.out);have T8:=ZU (HT.out.below Z.out);have B8:=ZU (WD HB.out Z.out);have z8:=ZJ ZH Z.out.size
         by_cases heq:blk R j=blk Q j
         · have E:∀w9:World,(Op.equalIn 10000 117 (.agg V8.toArray) (.agg V.toArray)).run Tryz.prog w9=.ok true w9:=fun w9=>by
            rw [O.out,HV.out,ES w9 _ _ I.out U.1,Zm heq]
           have Of:Hid (QN (f:Int) Q R 0 (j+1)=QN (f:Int) Q R 0 j):=by show _=_;rw [RC,Z0 heq.symm,YD]
           clear heq
           go_wp2_with (first | (refine YM rfl 117 _ rfl W'.heap.size 0 rfl V8 _ G.out Tryz.underlying117 rfl (Wh _ H.out) ?_) | (refine YM rfl 117 _ rfl b6 0 rfl V _ J.out Tryz.underlying117 rfl (Wh _ QH.out) ?_))
           go_roundw
           case rel=>exact ⟨j+1,v,by omega,by go_num,N8,X8,B8,by rw [Of.out];exact T8,by show _≤_;have:=Z2.out;omega⟩
           case measure=>simp [intOf];omega
         have E:∀w9:World,(Op.equalIn 10000 117 (.agg V8.toArray) (.agg V.toArray)).run Tryz.prog w9=.ok false w9:=fun w9=>by
          rw [O.out,HV.out,ES w9 _ _ I.out U.1,Zo heq]
         have Of:Hid (QN (f:Int) Q R 0 (j+1)=QN (f:Int) Q R 0 j++[((f:Int)+(j:Int),blk R j)]):=by show _=_;rw [RC,Z1 (fun e=>heq e.symm)]
         clear heq
         go_wp2_with (first | (refine YM rfl 117 _ rfl W'.heap.size 0 rfl V8 _ G.out Tryz.underlying117 rfl (Wh _ H.out) ?_) | (refine YM rfl 117 _ rfl b6 0 rfl V _ J.out Tryz.underlying117 rfl (Wh _ QH.out) ?_))
         have hpt:=Ni w8 W.heap.size _ _ v (QN (f:Int) Q R 0 j) ((f:Int)+(j:Int)) (blk R j) T8.out (by omega) (by omega) I.out (by have:=LF (f:Int) Q R j 0;omega) (by have:=Z2.out;omega);rw [←O.out] at hpt;refine hpt.mono ?_;clear hpt;rintro e w9 ⟨rfl,⟨v',rs',hput,hT'⟩,hB',-⟩;have hrs:=Na hput (fun i hi=>by
          obtain ⟨q,-,h2,h3⟩:=LE (f:Int) Q R j 0 i hi;rw [h3];omega)
         have T9:Hid (Qw w9 W.heap.size (W.heap.size+1) W.heap.size v' (QN (f:Int) Q R 0 (j+1))):=by rw [Of.out,←hrs];exact hT'
         have N9:=ZU (N8.out.Xe hB' hbW);have X9:=ZU (X8.out.Xe hB' ZL);have B9:=ZU (B8.out.trans (hB'.mono hW));have z9:=hB'.size;clear hput hT' hB' hrs Of E Qs x30;go_wp2
         go_roundw
         case rel=>exact ⟨j+1,v',by omega,by go_num,N9,X9,B9,T9,by show _≤_;have:=Z2.out;omega⟩
         case measure=>simp [intOf];omega
       by_cases hC:k=64
       · subst hC
         have Zs:(en:Int) - (j:Int)*64=64:=Zs;have hw1:IntKind.i64.wrap 64=64:=hw1;obtain ⟨w8,hw8⟩:∃w8,w8=w7:=⟨_,rfl⟩;have Qs:(Builtin.clear_ #[22] 0 #[.slice (some ⟨W'.heap.size,0,none⟩) 0 0]).run Tryz.prog w7=.ok (.tuple #[]) w8:=by rw [hw8];exact kh _ _
         have G:Hid (w8.rangeAt W'.heap.size 0 V8):=by
          have h8:V8=V:=by
           rw [O.out,U.2,show min (en - j*64) 64=64 by have:=HK.out;omega,Y8 (by rw [U.1];omega),HV.out]
           simp [zeros]
          rw [h8,hw8];exact B.out
         have Z:Hid (Zi W' w8):=by rw [hw8];exact B7.out
         clear hw8;have J:=ZU (Wb HR.out (Z.out.block b6 h6));have x30:=(HX.out.below Z.out).cl 0 _ rfl;have N8:=ZU (HN.out.below Z.out);have X8:=ZU (HX.out.below Z.out);have T8:=ZU (HT.out.below Z.out);have B8:=ZU (WD HB.out Z.out);have z8:=ZJ ZH Z.out.size
         by_cases heq:blk R j=blk Q j
         · have E:∀w9:World,(Op.equalIn 10000 117 (.agg V8.toArray) (.agg V.toArray)).run Tryz.prog w9=.ok true w9:=fun w9=>by
            rw [O.out,HV.out,ES w9 _ _ I.out U.1,Zm heq]
           have Of:Hid (QN (f:Int) Q R 0 (j+1)=QN (f:Int) Q R 0 j):=by show _=_;rw [RC,Z0 heq.symm,YD]
           clear heq
           go_wp2_with (first | (refine YM rfl 117 _ rfl W'.heap.size 0 rfl V8 _ G.out Tryz.underlying117 rfl (Wh _ H.out) ?_) | (refine YM rfl 117 _ rfl b6 0 rfl V _ J.out Tryz.underlying117 rfl (Wh _ QH.out) ?_))
           go_roundw
           case rel=>exact ⟨j+1,v,by omega,by go_num,N8,X8,B8,by rw [Of.out];exact T8,by show _≤_;have:=Z2.out;omega⟩
           case measure=>simp [intOf];omega
         have E:∀w9:World,(Op.equalIn 10000 117 (.agg V8.toArray) (.agg V.toArray)).run Tryz.prog w9=.ok false w9:=fun w9=>by
          rw [O.out,HV.out,ES w9 _ _ I.out U.1,Zo heq]
         have Of:Hid (QN (f:Int) Q R 0 (j+1)=QN (f:Int) Q R 0 j++[((f:Int)+(j:Int),blk R j)]):=by show _=_;rw [RC,Z1 (fun e=>heq e.symm)]
         clear heq
         go_wp2_with (first | (refine YM rfl 117 _ rfl W'.heap.size 0 rfl V8 _ G.out Tryz.underlying117 rfl (Wh _ H.out) ?_) | (refine YM rfl 117 _ rfl b6 0 rfl V _ J.out Tryz.underlying117 rfl (Wh _ QH.out) ?_))
         have hpt:=Ni w8 W.heap.size _ _ v (QN (f:Int) Q R 0 j) ((f:Int)+(j:Int)) (blk R j) T8.out (by omega) (by omega) I.out (by have:=LF (f:Int) Q R j 0;omega) (by have:=Z2.out;omega);rw [←O.out] at hpt;refine hpt.mono ?_;clear hpt;rintro e w9 ⟨rfl,⟨v',rs',hput,hT'⟩,hB',-⟩;have hrs:=Na hput (fun i hi=>by
          obtain ⟨q,-,h2,h3⟩:=LE (f:Int) Q R j 0 i hi;rw [h3];omega)
         have T9:Hid (Qw w9 W.heap.size (W.heap.size+1) W.heap.size v' (QN (f:Int) Q R 0 (j+1))):=by rw [Of.out,←hrs];exact hT'
         have N9:=ZU (N8.out.Xe hB' hbW);have X9:=ZU (X8.out.Xe hB' ZL);have B9:=ZU (B8.out.trans (hB'.mono hW));have z9:=hB'.size;clear hput hT' hB' hrs Of E Qs x30;go_wp2
         go_roundw
         case rel=>exact ⟨j+1,v',by omega,by go_num,N9,X9,B9,T9,by show _≤_;have:=Z2.out;omega⟩
         case measure=>simp [intOf];omega
       have XW:(64:Int)<(k:Int):=by omega
       obtain ⟨w8,hw8⟩:∃w8,w8=w7:=⟨_,rfl⟩;have Qs:(Builtin.clear_ #[22] 0 #[.slice (some ⟨W'.heap.size,0,none⟩) 0 0]).run Tryz.prog w7=.ok (.tuple #[]) w8:=by rw [hw8];exact kh _ _
       have G:Hid (w8.rangeAt W'.heap.size 0 V8):=by
        have h8:V8=V:=by
         rw [O.out,U.2,show min (en - j*64) 64=64 by have:=HK.out;omega,Y8 (by rw [U.1];omega),HV.out]
         simp [zeros]
        rw [h8,hw8];exact B.out
       have Z:Hid (Zi W' w8):=by rw [hw8];exact B7.out
       clear hw8;have J:=ZU (Wb HR.out (Z.out.block b6 h6));have x30:=(HX.out.below Z.out).cl 0 _ rfl;have N8:=ZU (HN.out.below Z.out);have X8:=ZU (HX.out.below Z.out);have T8:=ZU (HT.out.below Z.out);have B8:=ZU (WD HB.out Z.out);have z8:=ZJ ZH Z.out.size
       by_cases heq:blk R j=blk Q j
       · have E:∀w9:World,(Op.equalIn 10000 117 (.agg V8.toArray) (.agg V.toArray)).run Tryz.prog w9=.ok true w9:=fun w9=>by
          rw [O.out,HV.out,ES w9 _ _ I.out U.1,Zm heq]
         have Of:Hid (QN (f:Int) Q R 0 (j+1)=QN (f:Int) Q R 0 j):=by show _=_;rw [RC,Z0 heq.symm,YD]
         clear heq
         go_wp2_with (first | (refine YM rfl 117 _ rfl W'.heap.size 0 rfl V8 _ G.out Tryz.underlying117 rfl (Wh _ H.out) ?_) | (refine YM rfl 117 _ rfl b6 0 rfl V _ J.out Tryz.underlying117 rfl (Wh _ QH.out) ?_))
         go_roundw
         case rel=>exact ⟨j+1,v,by omega,by go_num,N8,X8,B8,by rw [Of.out];exact T8,by show _≤_;have:=Z2.out;omega⟩
         case measure=>simp [intOf];omega
       have E:∀w9:World,(Op.equalIn 10000 117 (.agg V8.toArray) (.agg V.toArray)).run Tryz.prog w9=.ok false w9:=fun w9=>by
        rw [O.out,HV.out,ES w9 _ _ I.out U.1,Zo heq]
       have Of:Hid (QN (f:Int) Q R 0 (j+1)=QN (f:Int) Q R 0 j++[((f:Int)+(j:Int),blk R j)]):=by show _=_;rw [RC,Z1 (fun e=>heq e.symm)]
       clear heq
       go_wp2_with (first | (refine YM rfl 117 _ rfl W'.heap.size 0 rfl V8 _ G.out Tryz.underlying117 rfl (Wh _ H.out) ?_) | (refine YM rfl 117 _ rfl b6 0 rfl V _ J.out Tryz.underlying117 rfl (Wh _ QH.out) ?_))
       have hpt:=Ni w8 W.heap.size _ _ v (QN (f:Int) Q R 0 j) ((f:Int)+(j:Int)) (blk R j) T8.out (by omega) (by omega) I.out (by have:=LF (f:Int) Q R j 0;omega) (by have:=Z2.out;omega);rw [←O.out] at hpt;refine hpt.mono ?_;clear hpt;rintro e w9 ⟨rfl,⟨v',rs',hput,hT'⟩,hB',-⟩;have hrs:=Na hput (fun i hi=>by
        obtain ⟨q,-,h2,h3⟩:=LE (f:Int) Q R j 0 i hi;rw [h3];omega)
       have T9:Hid (Qw w9 W.heap.size (W.heap.size+1) W.heap.size v' (QN (f:Int) Q R 0 (j+1))):=by rw [Of.out,←hrs];exact hT'
       have N9:=ZU (N8.out.Xe hB' hbW);have X9:=ZU (X8.out.Xe hB' ZL);have B9:=ZU (B8.out.trans (hB'.mono hW));have z9:=hB'.size;clear hput hT' hB' hrs Of E Qs x30;go_wp2
       go_roundw
       case rel=>exact ⟨j+1,v',by omega,by go_num,N9,X9,B9,T9,by show _≤_;have:=Z2.out;omega⟩
       case measure=>simp [intOf];omega
     have ZE:Hid (St wr.drew b (Oo S (sn:Int) vd vp lim made vc cg c og o code vt zx cnt (en:Int))):=N2.out.below (below_drewN' wr 1);have ZD:Hid (St wr.drew b3 [.int .i64 (f:Int),.int .i64 (sn:Int)]):=X2.out.below (below_drewN' wr 1);have Zp:Hid (Zi w wr.drew):=B2.out.trans ((below_drewN' wr 1).mono B2.out.size);have Zg:Hid (Qw wr.drew W.heap.size (W.heap.size+1) W.heap.size v (QN (f:Int) Q R 0 j)):=T2.out.below (below_drewN' wr 1);have hwd:wr.drew.heap.size=wr.heap.size:=rfl;have hw3:IntKind.i64.wrap ((f:Int)+(j:Int))=(f:Int)+(j:Int):=by rw [Zq];omega
     refine ZX (S:=fun W9=>St W9 b (Oo S (sn:Int) vd vp lim made vc cg c og o code vt zx cnt (en:Int))∧St W9 b3 [.int .i64 (f:Int),.int .i64 (sn:Int)]) (by kernel_rfl) ⟨ZE.out,ZD.out⟩ (fun Z9=>?_);refine Zf ?XT (by kernel_rfl) (fun _=>id) Z9 ?hz1 ?Yx
     case hz1 =>
      intro w9 ZQ;have k6:=ZQ.1.cl 6 _ rfl;have y0:=ZQ.2.cl 0 _ rfl;clear ZQ;go_simp
      try with_reducible rfl
     refine Zf ?XS (by kernel_rfl) (fun _=>id) Z9 ?hz2 ?Yt
     case hz2 =>
      intro w9 ZQ;have k6:=ZQ.1.cl 6 _ rfl;have y0:=ZQ.2.cl 0 _ rfl;clear ZQ;go_simp
      try with_reducible rfl
     refine Zf ?XR (by kernel_rfl) (fun _=>id) Z9 ?hz3 ?Ys
     case hz3 =>
      intro w9 ZQ;have k6:=ZQ.1.cl 6 _ rfl;have y0:=ZQ.2.cl 0 _ rfl;clear ZQ;go_simp
      try with_reducible rfl
     refine Zf vc (by kernel_rfl) (fun _=>id) Z9 ?qv ?Yr
     case qv =>
      intro w9 ZQ;have k6:=ZQ.1.cl 6 _ rfl;have y0:=ZQ.2.cl 0 _ rfl;clear ZQ;go_simp
     refine Zf ?XQ (by kernel_rfl) (fun _=>id) Z9 ?YI ?Yq
     case YI =>
      intro w9 ZQ;have k6:=ZQ.1.cl 6 _ rfl;have y0:=ZQ.2.cl 0 _ rfl;clear ZQ;go_simp
      try with_reducible rfl
     refine Zf (.int .i64 (f:Int)) (by kernel_rfl) (fun _=>id) Z9 ?YH ?Yn
     case YH =>
      intro w9 ZQ;have k6:=ZQ.1.cl 6 _ rfl;have y0:=ZQ.2.cl 0 _ rfl;clear ZQ;go_simp
     refine Zf ?XO (by kernel_rfl) (fun _=>id) Z9 ?YG ?Ym
     case YG =>
      intro w9 ZQ;have k6:=ZQ.1.cl 6 _ rfl;have y0:=ZQ.2.cl 0 _ rfl;clear ZQ;go_simp
      try with_reducible rfl
     refine Zf (.int .i64 ((f:Int)+(j:Int))) (by kernel_rfl) (fun _=>id) Z9 ?YE ?Yl
     case YE =>
      intro w9 ZQ;have k6:=ZQ.1.cl 6 _ rfl;have y0:=ZQ.2.cl 0 _ rfl;clear ZQ;go_simp
     clear Z9;generalize wr.drew=wd at *;refine QG 8 9 rfl rfl (by kernel_rfl) (fun K hK=>?_) (fun K hK=>?_)
     · go_simp
       refine (t.out wd j hlt2 Zp.out).mono ?_;rintro e w1 ⟨rfl,b1⟩;rw [←HV.out];have N3:=ZE.out.below b1;have X3:=ZD.out.below b1;refine hK.out _ _ ⟨N3,X3⟩ (fun YA=>?_);clear hK K YA;have B3:=WD Zp.out b1;have T3:=Zg.out.below b1;have z3:=b1.size;refine YS 9 rfl (by kernel_rfl) (fun K hK=>?_);go_simp;refine hK.out _ _ ⟨N3.below (Yy.alloc YR _),X3.below (Yy.alloc YR _)⟩ (fun YA=>?_);clear hK K YA;generalize yI:World.alloc _ _=w4;have b4:Zi w1 w4:=by subst yI;exact Yy.alloc YR _
       have t4:w4.there w1.heap.size 0 64:=by subst yI;exact Vn _ _ _ _ rfl
       have s4:w1.heap.size<w4.heap.size:=by subst yI;simp
       clear yI;refine YS 10 rfl (by kernel_rfl) (fun K hK=>?_);have hb5:Zi w1 (w4.setCells w1.heap.size 0 V):=below_setCells YR _ _ _ b4;refine QO rfl 117 _ _ rfl w1.heap.size 0 V.toArray rfl rfl ?t1 ?t2 (XL rI.out) ?_
       case t1 =>
        have e:V.toArray.size=64:=by rw [ZI];exact QH.out
        rw [e];exact t4
       case t2=>rw [ZI];exact Wh _ QH.out
       refine hK.out _ _ ⟨N3.below hb5,X3.below hb5⟩ (fun YA=>?_);clear hK K YA
       try simp only [Act.put]
       refine ZR (by kernel_rfl) ?_ _
       try simp only [Act.put,WV,WU,WT]
       exact Z'.out _ _ (N3.below hb5) (X3.below hb5) (WD B3 hb5) (T3.below hb5) (Yf _ _ _ _ (by rw [QH.out];exact t4)) (by rw [U1];exact s4) (by omega) (by rw [U1];omega)
     go_simp;refine hK.out _ _ ⟨ZE.out.below (Yy.alloc YR _),ZD.out.below (Yy.alloc YR _)⟩ (fun YA=>?_);clear hK K YA;generalize yI:World.alloc _ _=w4;have b4:Zi wd w4:=by subst yI;exact Yy.alloc YR _
     have t4:w4.there wr.heap.size 0 64:=by subst yI;rw [←hwd];exact Vn _ _ _ _ rfl
     have s4:wr.heap.size<w4.heap.size:=by subst yI;simp;omega
     clear yI;have B4:=WD Zp.out b4;refine YS 8 rfl (by kernel_rfl) (fun K hK=>?_);go_simp;refine (t.out w4 j hlt2 B4).mono ?_;rintro e w5 ⟨rfl,b5⟩;rw [←HV.out];have N5:=(ZE.out.below b4).below b5;have X5:=(ZD.out.below b4).below b5;have T5:=(Zg.out.below b4).below b5;have B5:=WD B4 b5;have t5:=zu t4 (b5.block _ s4);have z5:=b5.size;refine hK.out _ _ ⟨N5,X5⟩ (fun YA=>?_);clear hK K YA;refine YS 10 rfl (by kernel_rfl) (fun K hK=>?_);have YB:=X2.out.lt;have hbr:=N2.out.lt;have hb6:Below wr.heap.size w5 (w5.setCells wr.heap.size 0 V):=below_setCells YR _ _ _ Yy;have N6:=N5.Xe hb6 hbr;have X6:=X5.Xe hb6 YB;have Yz:=((b4.mono (U5 hwd.symm)).trans (b5.mono (by omega))).trans hb6;have T6:=Zg.out.below (Yz.mono (U5 hwd));refine QO rfl 117 _ _ rfl wr.heap.size 0 V.toArray rfl rfl ?t1 ?t2 (XL rI.out) ?_
     case t1 =>
      have e:V.toArray.size=64:=by rw [ZI];exact QH.out
      rw [e];exact t5
     case t2=>rw [ZI];exact Wh _ QH.out
     refine hK.out _ _ ⟨N6,X6⟩ (fun YA=>?_);clear hK K YA
     try simp only [Act.put]
     refine ZR (by kernel_rfl) ?_ _
     try simp only [Act.put,WV,WU,WT]
     exact Z'.out _ _ N6 X6 (B5.trans (hb6.mono (by have:=B2.out.size;omega))) T6 (Yf _ _ _ _ (by rw [QH.out];exact t5)) (by rw [U1];omega) YR (by rw [U1];omega)
   have Rj:¬(j:Int)<(sn:Int):=by omega
   have hjn:j=sn:=by omega
   subst hjn;go_wp2;go_ret;exact ⟨_,_,_,rfl,T2.out.kg hW,B2.out⟩
 have Sd:Hid (St w.drew b (Oo S (sn:Int) vd vp lim made vc cg c og o code vt zx cnt (en:Int))):=HS.out.Xe (below_drewN' w 1) hlt;have hwd:w.drew.heap.size=w.heap.size:=rfl;have Bd:Hid (Zi w w.drew):=below_drewN' w 1;refine ZX (S:=fun W=>St W b (Oo S (sn:Int) vd vp lim made vc cg c og o code vt zx cnt (en:Int))) (by kernel_rfl) (Sd.out) (fun Z9=>?_)
 iterate 10 (refine Zf ?_ (by kernel_rfl) (fun _=>id) Z9 ?_ ?_;rotate_left;· intro w9 ZQ;have k0:=ZQ.cl 0 _ rfl;have k1:=ZQ.cl 1 _ rfl;have k9:=ZQ.cl 9 _ rfl;clear ZQ;go_simp;try with_reducible rfl)
 clear Z9;generalize w.drew=wd at *;refine QG 10 11 rfl rfl (by kernel_rfl) (fun K hK=>?_) (fun K hK=>?_)
 · skip
   go_simp;refine (Ow.out _).mono ?_;rintro e w1 ⟨rfl,b1⟩;have N1:=Sd.out.below b1;refine hK.out _ _ N1 (fun YA=>?_);clear hK K YA;refine YS 11 rfl (by kernel_rfl) (fun K hK=>?_);have bA:Zi w1 (w1.alloc (.cells #[.int .i64 0,.int .i64 0] 111)):=Yy.alloc YR _;have N2:=N1.below bA;have X2:St (w1.alloc (.cells #[.int .i64 0,.int .i64 0] 111)) w1.heap.size [.int .i64 0,.int .i64 0]:=St.new _ _ _;have B2:=(Bd.out.trans (b1.mono (by omega))).trans (bA.mono (by have:=b1.size;omega));have hbl:=N1.lt;have hbw:w.heap.size≤w1.heap.size:=by have:=b1.size;omega
   clear bA b1;go_simp;refine hK.out _ _ N2 (fun YA=>?_);clear hK K YA N1;generalize w1.alloc _=W2 at *;have p0:=X2.cl 0 _ rfl;have p1:=X2.cl 1 _ rfl;have Zc:=X2.fz 0;have Y':=X2.fz 1;have N3:St ((W2.setCell ⟨w1.heap.size,0,none⟩ (.int .i64 (f:Int))).setCell ⟨w1.heap.size,1,none⟩ (.int .i64 (sn:Int))) b (Oo S (sn:Int) vd vp lim made vc cg c og o code vt zx cnt (en:Int)):=(N2.other (by omega)).other (by omega);have X3:St ((W2.setCell ⟨w1.heap.size,0,none⟩ (.int .i64 (f:Int))).setCell ⟨w1.heap.size,1,none⟩ (.int .i64 (sn:Int))) w1.heap.size [.int .i64 (f:Int),.int .i64 (sn:Int)]:=(X2.set 0 _).set 1 _;have B3:Zi w ((W2.setCell ⟨w1.heap.size,0,none⟩ (.int .i64 (f:Int))).setCell ⟨w1.heap.size,1,none⟩ (.int .i64 (sn:Int))):=(B2.setCell (by show w.heap.size≤w1.heap.size;omega) _).setCell (by show w.heap.size≤w1.heap.size;omega) _;refine YS 12 rfl (by kernel_rfl) (fun K hK=>?_);go_simp;refine hK.out _ _ N3 (fun YA=>?_);clear hK K YA N2 X2 B2 p0 p1 Zc Y';refine ZR (by kernel_rfl) ?_ _
   try simp only [Act.put,WV,WU,WT]
   generalize ((W2.setCell _ _).setCell _ _)=W3 at *;exact REST.out _ W3 N3 X3 B3 hbw
 skip
 have bA:Zi wd (wd.alloc (.cells #[.int .i64 0,.int .i64 0] 111)):=Yy.alloc YR _;have N1:=Sd.out.below bA;have X1:St (wd.alloc (.cells #[.int .i64 0,.int .i64 0] 111)) w.heap.size [.int .i64 0,.int .i64 0]:=by
  have h9:=St.new wd #[.int .i64 0,.int .i64 0] 111;rw [hwd] at h9;exact h9
 have hbl:=hlt;have B1:=Bd.out.trans (bA.mono (by omega));clear bA;go_simp;refine hK.out _ _ N1 (fun YA=>?_);clear hK K YA;generalize wd.alloc _=w1 at *;refine YS 10 rfl (by kernel_rfl) (fun K hK=>?_);go_simp;refine (Ow.out _).mono ?_;rintro e W2 ⟨rfl,b2⟩;have N2:=N1.below b2;have X2:=X1.below b2;have B2:=WD B1 b2;have hbw:w.heap.size≤w.heap.size:=YR;refine hK.out _ _ N2 (fun YA=>?_);clear hK K YA N1 X1 b2 B1;have p0:=X2.cl 0 _ rfl;have p1:=X2.cl 1 _ rfl;have Zc:=X2.fz 0;have Y':=X2.fz 1;have N3:St ((W2.setCell ⟨w.heap.size,0,none⟩ (.int .i64 (f:Int))).setCell ⟨w.heap.size,1,none⟩ (.int .i64 (sn:Int))) b (Oo S (sn:Int) vd vp lim made vc cg c og o code vt zx cnt (en:Int)):=(N2.other (by omega)).other (by omega);have X3:St ((W2.setCell ⟨w.heap.size,0,none⟩ (.int .i64 (f:Int))).setCell ⟨w.heap.size,1,none⟩ (.int .i64 (sn:Int))) w.heap.size [.int .i64 (f:Int),.int .i64 (sn:Int)]:=(X2.set 0 _).set 1 _;have B3:Zi w ((W2.setCell ⟨w.heap.size,0,none⟩ (.int .i64 (f:Int))).setCell ⟨w.heap.size,1,none⟩ (.int .i64 (sn:Int))):=(B2.setCell (by show w.heap.size≤w.heap.size;omega) _).setCell (by show w.heap.size≤w.heap.size;omega) _;refine YS 12 rfl (by kernel_rfl) (fun K hK=>?_);go_simp;refine hK.out _ _ N3 (fun YA=>?_);clear hK K YA N2 X2 B2 p0 p1 Zc Y';refine ZR (by kernel_rfl) ?_ _
 try simp only [Act.put,WV,WU,WT]
 generalize ((W2.setCell _ _).setCell _ _)=W3 at *;exact REST.out _ W3 N3 X3 B3 hbw
attribute [local go_sem] Yv
theorem Bm {Xc:Int} (hf:Kv S L YL.length ps=true) (hb:0≤Xc∧Xc≤1):gq YL ps S L Xc true=Ma (MA YL ps) (Rx S L Xc true).toNat L.toNat:=by
 have ho:EV S L YL.length ps Xc=true:=by unfold EV;rw [hf];simpa using hb
 unfold gq;rw [Z0 ho]
 rfl
theorem rn (h:Hs S ys=true):Mx S ys=rz ys:=Z0 h
theorem nt (h:Hs S ys=false):Mx S ys=⟨0,0,0,0,0⟩:=Z1 (by rw [h];simp)
def gl (w:World) (row:Option Nat) (w':World):Prop:=w.heap.size≤w'.heap.size∧∀b,b<w.heap.size→some b≠row→w'.heap[b]?=w.heap[b]?
theorem RP.LR {hi:Nat} {vd vp:Value} {dv:Nat→Value} (k:RP w lo hi vd vp YL ps dv) (ho:gl w row w') (hne:∀g,row=some g→vd.ownBlock≠some g∧vp.ownBlock≠some g∧∀i,i<ps.length→(dv i).ownBlock≠some g):RP w' lo hi vd vp YL ps dv:=by
 have key:∀ {e:TypeId} {m n:Nat} {v:Value} {us:List Value},w.ownsRow lo e m v n us→(∀g,row=some g→v.ownBlock≠some g)→w'.ownsRow lo e m v n us:=by
  intro e m n v us h h2;refine ⟨h.1,?_⟩
  rcases h.2 with hn | ⟨g,cap,cur,rfl,hbg,hgg,rest⟩
  · exact .inl hn
  exact .inr ⟨g,cap,cur,rfl,hbg,(ho.2 g (Z3.1 hgg).1 (fun e=>h2 g e.symm rfl)).trans hgg,rest⟩
 exact ⟨key k.d (fun g hg=>(hne g hg).1),⟨key k.p.1 (fun g hg=>(hne g hg).2.1),fun i hi=>(k.p.2.1 i hi).elim fun te h=>⟨te,key h (fun g hg=>(hne g hg).2.2 i hi)⟩,k.p.2.2.1,k.p.2.2.2⟩,k.lH,k.nX,k.iY,k.dp,k.dq⟩
theorem St.vG {b:Nat} {L:List Value} (h:St W b L) (hg:W.grownBy W' row) (hne:some b≠row):St W' b L:=by
 have e:=hg.block b h.lt hne;refine ⟨ZY h.lt hg.size,fun j=>?_,fun j v hv=>(ZP (w:=W) (a:=⟨b,j,none⟩) e).trans (h.cl j v hv)⟩;have:=h.fz j;unfold World.frozen? at this ⊢;rw [e];exact this
theorem Tw.LR {b:Nat} (h:Tw w b none w' none):gl w (some b) w':=⟨h.size,fun q hq hne=>h.block q hq (fun e=>hne (by rw [e])) (by simp)⟩
theorem Own.LR (h:Own .u8 5 w lo v xs) (ho:gl w row w') (hne:∀g,row=some g→v.ownBlock≠some g):Own .u8 5 w' lo v xs:=by
 refine ⟨h.1,?_⟩
 rcases h.2 with hn | ⟨g,cap,cur,rfl,hbg,hgg,rest⟩
 · exact .inl hn
 exact .inr ⟨g,cap,cur,rfl,hbg,(ho.2 g (Z3.1 hgg).1 (fun e=>hne g e.symm rfl)).trans hgg,rest⟩
theorem zp (w:World) (tb:Nat) (v:Value) (rs:List (Int × List Int)) (c0:w.cell? ⟨tb,0,none⟩=some v) (hv:∃a c,v=.slice a rs.length c) :
    Calls Tryz.prog 90 #[.pointer (some ⟨tb,0,none⟩)] w (Wj w (.bool ((rs.length:Int) == 0))):=by
 obtain ⟨a,c,rfl⟩:=hv;have B0:Hid (Zi w w):=Yy
 go_enter Tryz.func90,Tryz.ntmps90
 go_wp2;go_ret;exact ⟨rfl,B0.out⟩
def Hp (P:Value) (S L:Int) (vd vp:Value) (made:Int):List Value:=[P,.int .i64 S,.int .i64 L,vd,vp,.int .i64 (-1),.int .i64 made,.slice none 0 0]
structure Gr (r0:Option Nat) (sB:Nat) (w0 w:World):Prop where
 os:w.os=w0.os
 tape:w.tape=w0.tape
 output:w.output=w0.output
 size:w0.heap.size≤w.heap.size
 block:∀q,q<w0.heap.size→q≠sB→some q≠r0→w.heap[q]?=w0.heap[q]?
theorem Gr.refl {r0:Option Nat} (w:World):Gr r0 sB w w:=⟨rfl,rfl,rfl,YR,fun _ _ _ _=>rfl⟩
theorem Gr.gb {w0:World} (h:Gr none sB w0 w):w0.grownBy w (some sB):=⟨h.os,h.tape,h.output,h.size,fun q hq hn=>h.block q hq (fun e=>hn (by rw [e])) (by simp)⟩
def Ph (r0:Option Nat) (w0:World) (sB:Nat) (P:Value) (S L:Int) (v0:Value) (k:Nat) (w:World):Prop :=
 ∃vd vp made YL ps dv,St w sB (Hp P S L vd vp made)∧RP w (sB+1) w.heap.size vd vp YL ps dv∧YL.length≤1048576∧ps.length≤k∧(∀i,(pD ps i).length≤1048576)∧(0≤made∧made≤k) ∧
  (∀g,vp.ownBlock=some g→w0.heap.size≤g∨some g=r0)∧(vd=v0∨∀g,vd.ownBlock=some g→w0.heap.size≤g)∧Gr r0 sB w0 w∧sB<w0.heap.size
def Pq (r0:Option Nat) (w0:World) (sB:Nat) (P:Value) (S L:Int) (v0:Value) (k:Nat) (w:World):Prop :=
 ∃vd made YL,St w sB (Hp P S L vd (.slice none 0 0) made)∧Own .u8 5 w (sB+1) vd YL∧YL.length≤1048576∧(0≤made∧made≤k)∧(vd=v0∨∀g,vd.ownBlock=some g→w0.heap.size≤g)∧Gr r0 sB w0 w∧sB<w0.heap.size
theorem rm {C:List Int} (h:∀i,(pD ps i).length≤n) (hC:C.length≤n):∀i,(pD (ps++[(x,C)]) i).length≤n:=by
 intro i;unfold pD at *
 rcases Nat.lt_trichotomy i ps.length with h1 | h1 | h1
 · have:=h i
   rw [Xy] at this ⊢;rw [Zy h1];exact this
 · rw [Xy,Zv (by omega),h1,Wf];exact hC
 rw [Xy,Yk (by simp;omega)];exact Zu _
structure KW (sB:Nat) (w w':World):Prop where
 size:w.heap.size≤w'.heap.size
 block:∀q,q<w.heap.size→q≠sB→(∀cs z,w.heap[q]?≠some (.cells cs 132 z))→w'.heap[q]?=w.heap[q]?
theorem KW.trans {w1 w2:World} (h:KW sB w w1) (h':KW sB w1 w2):KW sB w w2 :=
 ⟨ZJ h.size h'.size,fun q hq hs hn=>have e:=h.block q hq hs hn
  (h'.block q (ZY hq h.size) hs (by rw [e];exact hn)).trans e⟩
theorem KW.below (h:Zi w w'):KW sB w w':=⟨h.size,fun q hq _ _=>h.block q hq⟩
theorem KW.tw {xs:List Value} {o:Option Nat} (h:Tw w sB v.ownBlock w' o) (hr:w.ownsRow lo 132 z v n xs):KW sB w w':=by
 refine ⟨h.size,fun q hq hs hn=>h.block q hq hs (fun e=>?_)⟩
 rcases hr.2 with ⟨rfl,-⟩ | ⟨g,cap,cur,rfl,hb,hg,hx⟩
 · cases e
 simp only [Value.ownBlock,ZK] at e
 subst e;exact absurd hg (hn _ _)
section
variable {r0:Option Nat} {w0 w:World} {sB k:Nat} {P v0:Value} {S L:Int}
theorem Pq.ph (h:Pq r0 w0 sB P S L v0 k w):Ph r0 w0 sB P S L v0 k w:=by
 obtain ⟨vd,made,YL,h1,h2,h3,h4,h5,h6,h7⟩:=h;exact ⟨vd,_,made,YL,[],_,h1,I4 h2,h3,Zu _,fun i=>by simp [pD],h4,fun g hg=>by simp [Value.ownBlock] at hg,h5,h6,h7⟩
theorem Ph.below (h:Ph r0 w0 sB P S L v0 k w) (hb:Zi w w'):Ph r0 w0 sB P S L v0 k w':=by
 obtain ⟨vd,vp,made,YL,ps,dv,h1,h2,h3,h4,h5,h6,h7,h8,h9,h10⟩:=h;exact ⟨vd,vp,made,YL,ps,dv,h1.below hb,(h2.below hb).mono YR hb.size,h3,h4,h5,h6,h7,h8,⟨hb.os.trans h9.os,hb.tape.trans h9.tape,hb.output.trans h9.output,ZJ h9.size hb.size,fun q hq hn hr=>(hb.block q (ZY hq h9.size)).trans (h9.block q hq hn hr)⟩,h10⟩
theorem Mw {xs:List Value} (h:W.ownsRow lo e z v n xs):∀g,v.ownBlock=some g→lo≤g:=by
 intro g hg
 rcases h.2 with ⟨rfl,h0⟩ | ⟨g',cap,cur,rfl,hb,hg',-⟩
 · simp [Value.ownBlock] at hg
 simp only [Value.ownBlock,ZK] at hg;omega
theorem above {xs:List Value} (h:W.ownsRow lo e z v n xs) {b:Nat} (hb:b<lo):v.ownBlock≠some b:=fun e=>by have:=Mw h b e;omega
theorem qe {b:Nat} (h:QE W lo v xs) (hb:b<lo):v.ownBlock≠some b:=fun e=>by have:=(h.lt b e).1;omega
theorem Ho (h:Ph r0 w0 sB P S L v0 k w) (hk:k≤9000) :
    Calls Tryz.prog 114 #[.pointer (some ⟨sB,0,none⟩)] w fun e w'=>e=.returned (.tuple #[])∧Pq r0 w0 sB P S L v0 (k+1) w'∧KW sB w w':=by
 obtain ⟨vd,vp,made,YL,ps,dv,h1,h2,h3,h4,h5,h6,h7,h8,h9,h10⟩:=h;have I3:=h9.size;have HC:Hid (Calls Tryz.prog 91 #[.pointer (some ⟨sB,3,none⟩)] w fun e w'=>e=.returned (.bool true)∧∃u,St w' sB ((((Hp P S L vd vp made).set (3+3) (.int .i64 (made+1))).set 3 u).set (3+1) (.slice none 0 0))∧Own .u8 5 w' w.heap.size u (MA YL ps)∧Tw w sB vp.ownBlock w' vp.ownBlock) :=
  zM w sB 3 vd vp YL ps (-1) made _ h1 rfl rfl rfl rfl (fun W hW=>?_) h3 (by omega) h5 (by omega) (by omega) (by unfold Ov;rw [Z0 (by omega)];decide)
 rotate_left
 · have h9:=h2.LR hW.LR (fun q e=>by cases e;exact ⟨above h2.d (by omega),above h2.p.1 (by omega),fun i hi=>qe (h2.p.2.1 i hi) (by omega)⟩)
   exact ⟨h9.d.rd,h9.p.rd⟩
 have FIN:Hid (∀w' u,St w' sB ((((Hp P S L vd vp made).set (3+3) (.int .i64 (made+1))).set 3 u).set (3+1) (.slice none 0 0))→Own .u8 5 w' w.heap.size u (MA YL ps)→Tw w sB vp.ownBlock w' vp.ownBlock→Pq r0 w0 sB P S L v0 (k+1) w'∧KW sB w w'):=fun w' u a1 a2 a3 =>
  ⟨⟨u,made+1,MA YL ps,a1,a2.mono (by omega),ZJ (rL _ _) h3,by omega,.inr (fun g hg=>ZJ I3 (Mw a2 g hg)),⟨a3.os.trans h9.os,a3.tape.trans h9.tape,a3.output.trans h9.output,ZJ I3 a3.size,fun q hq hne hr=>(a3.block q (by omega) hne (fun e=>(h7 q e).elim (fun h=>by omega) hr)).trans (h9.block q hq hne hr)⟩,h10⟩,KW.tw a3 h2.p.1⟩
 clear h1 h2 h3 h4 h5 h6 h7 h8 h9 h10
 go_enter Tryz.func114,Tryz.ntmps114
 go_wp2_with fail
 refine HC.out.mono ?_;rintro e w' ⟨rfl,u,a1,a2,a3⟩;have F:=ZU (FIN.out w' u a1 a2 a3);clear a1 a2 a3 FIN HC
 go_wp2_with fail
 exact ⟨rfl,_,by kernel_rfl,rfl,F.out⟩
theorem Hn (x:Int) (C:List Int) (h:Ph r0 w0 sB P S L v0 k w) (hk:k≤9000) (hC:C.length=64) :
    Calls Tryz.prog 154 #[.pointer (some ⟨sB,0,none⟩),.int .i64 x,.agg (C.map (Value.int .u8)).toArray] w fun e w'=>e=.returned (.tuple #[])∧Ph r0 w0 sB P S L v0 (k+1) w'∧KW sB w w':=by
 have hb:=(Below.refl w.heap.size w).alloc YR (.cells (C.map (Value.int .u8)).toArray 117);have RA:Hid ((w.alloc (.cells (C.map (Value.int .u8)).toArray 117)).rangeAt w.heap.size 0 (C.map (Value.int .u8))):=by
  have h9:=OT w (C.map (Value.int .u8)).toArray 117;show World.rangeAt _ _ _ _
  simpa using h9
 have HW:Hid (∀W,Zi w W→w.heap.size<W.heap.size→Calls Tryz.prog 89 #[.pointer (some ⟨sB,3,none⟩),.int .i64 x,.agg (C.map (Value.int .u8)).toArray] W fun e w'=>e=.returned (.bool true)∧(Ph r0 w0 sB P S L v0 (k+1) w'∧KW sB w w')∧w'.heap[w.heap.size]?=W.heap[w.heap.size]?):=by
  intro W hW hlt;obtain ⟨vd,vp,made,YL,ps,dv,h1,h2,h3,h4,h5,h6,h7,h8,h9,h10⟩:=h;have I3:=h9.size;have h2':=(h2.below hW).mono YR hW.size;refine (Di W sB 3 (sB+1) vd vp YL ps dv (-1) made x C _ hC (h1.below hW) rfl rfl rfl h2' (by omega) (above h2.p.1 (by omega)) (above h2.d (by omega)) (fun i hi=>qe (h2.p.2.1 i hi) (by omega)) (by omega) (by omega) (by omega) (by unfold Ov;rw [Z0 (by omega)];decide)).mono ?_;rintro e w' ⟨rfl,vW,nN,a1,a2,a3,a4,a5⟩;refine ⟨rfl,⟨⟨vd,vW,made+1,YL,_,nN,a1,a2,h3,by rw [ZZ];simp;omega,rm h5 (by omega),by omega,fun g hg=>?_,h8,⟨a5.os.trans (hW.os.trans h9.os),a5.tape.trans (hW.tape.trans h9.tape),a5.output.trans (hW.output.trans h9.output),ZJ I3 (ZJ hW.size a5.size),fun q hq hne hr=>(a5.block q (by omega) hne (fun e=>(h7 q e).elim (fun h=>by omega) hr)).trans ((hW.block q (by omega)).trans (h9.block q hq hne hr))⟩,h10⟩,(KW.below hW).trans (KW.tw a5 h2'.p.1)⟩,a5.block _ hlt (by omega) (fun e=>by have:=h2.nX _ e;omega)⟩
  rcases a5.own with e | e | ⟨q,e,hq⟩
  · rw [e] at hg;exact h7 g hg
  · rw [e] at hg;cases hg
  rw [e] at hg;cases hg;exact .inl (by omega)
 have GL:Hid ((C.map (Value.int .u8)).length=64):=by show _=_;simpa using hC
 have hsA:w.heap.size<(w.alloc (.cells (C.map (Value.int .u8)).toArray 117)).heap.size:=by simp
 generalize C.map (Value.int .u8)=X at *;have HB:=ZU hb;clear hb h
 go_enter Tryz.func154,Tryz.ntmps154
 go_wp2_with fail
 have B2:Hid (Zi w (w.alloc (.cells X.toArray 117)).drew):=(HB.out.trans ((below_drewN' (w.alloc (.cells X.toArray 117)) 1).mono HB.out.size));refine ZX (S:=fun W=>W.rangeAt w.heap.size 0 X) (by kernel_rfl) RA.out (fun Z9=>?_);have z2:w.heap.size<(w.alloc (.cells X.toArray 117)).drew.heap.size:=hsA;clear HB RA hsA;generalize (w.alloc _).drew=w3 at *
 iterate 4 (refine Zf ?_ (by kernel_rfl) (fun _=>id) Z9 ?_ ?_;rotate_left;· intro w9 ZQ;clear ZQ;go_simp;try with_reducible rfl)
 refine PL (i:=4) (oi:=⟨some 10,_,_,_,_,_⟩) (v:=.agg (X).toArray) rfl (by kernel_rfl) (fun _ _ _ h=>h) (VN (by rfl) _ _ rfl _ _ rfl (X) _ (fun w' hSw=>hSw) Tryz.underlying117 rfl (Wh _ GL.out)) (by assumption) ?_;refine YS 5 rfl (by kernel_rfl) (fun K hK=>?_);go_simp;refine (HW.out _ B2.out z2).mono ?_;rintro e w6 ⟨rfl,a1,a2⟩;have F:=ZU a1;have R6:=Wb Z9 a2;clear Z9;refine hK.out _ _ R6 (fun Z9=>?_);clear hK K a1 a2;refine Yp 6 ?v5 rfl (by kernel_rfl) (fun _=>id) Z9 ?DH ?_
 case DH =>
  intro w9 ZQ;clear ZQ;go_simp
  try with_reducible rfl
 refine ZR (by kernel_rfl) ?_ _
 try simp only [Act.put,WV,WU,WT]
 clear Z9 R6
 go_wp2_with fail
 exact ⟨rfl,_,by kernel_rfl,rfl,F.out⟩
end
end Go.Proofs.YtpmjnbmkippaiaaGreatDoor


