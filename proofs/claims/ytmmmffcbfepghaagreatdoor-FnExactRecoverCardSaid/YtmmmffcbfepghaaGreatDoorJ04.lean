import Derived.Test.YtmmmffcbfepghaaGreatDoorJ03
set_option maxRecDepth 100000
set_option maxHeartbeats 16000000
set_option linter.unusedVariables false
set_option linter.unusedSimpArgs false
namespace Go.Proofs.YtmmmffcbfepghaaGreatDoor
open Go.RowKit Go.Shelf
variable {e n:Ef} {es fs:List Ef} {r xs ys:List Int} {B TB c i k p q:Nat} {row:Option Nat} {u v v3 x:Value} {W W' W3 w:World}
def tK (w0 w:World) (k:Nat) (ys:List Int) (e:Ending) (w':World):Prop :=
 w.grownBy w' (some k)∧((PN ys=none∧e=.panicked Vt)∨∃ef r,PN ys=some (ef,r)∧e=.returned (Dz ef)∧RS w0 w' k r)
theorem Pw (w0 w:World) (k:Nat) (ys:List Int) (h:RS w0 w k ys) (hby:YL ys) :
    Calls Tryz.prog 143 #[.pointer (some ⟨k,0,none⟩)] w fun e w'=>tK w0 w k ys e w':=by
 have hk:=h.2.1;have hk0:=h.1;have HS:Hid (RS w0 (w.alloc (.cells #[.string ⟨#[]⟩,.string ⟨#[]⟩,.int .i64 0,.int .i64 0,.int .i64 0,.int .i64 0,.int .i64 0,.int .u8 0] 197)) k ys):=h.new (ZR.alloc ZW _);have E1:Hid (EB (w.alloc (.cells #[.string ⟨#[]⟩,.string ⟨#[]⟩,.int .i64 0,.int .i64 0,.int .i64 0,.int .i64 0,.int .i64 0,.int .u8 0] 197)) w.heap.size nd0 0):=EB.new w nd0 0 _;have G1:Hid (w.grownBy (w.alloc (.cells #[.string ⟨#[]⟩,.string ⟨#[]⟩,.int .i64 0,.int .i64 0,.int .i64 0,.int .i64 0,.int .i64 0,.int .u8 0] 197)) (some k)):=Yp _ _ _;have s1:w.heap.size+1≤(w.alloc (.cells #[.string ⟨#[]⟩,.string ⟨#[]⟩,.int .i64 0,.int .i64 0,.int .i64 0,.int .i64 0,.int .i64 0,.int .u8 0] 197)).heap.size:=by simp
 clear h
 go_enter Tryz.func143,Tryz.ntmps143
 go_wp2_with fail
 generalize w.alloc _=w1 at *
 cases ys with
 | nil =>
  refine (Q0 w0 w1 k HS.out).mono ?_;rintro e w2 ⟨rfl,rfl⟩;exact ⟨rfl,G1.out,.inl ⟨rfl,rfl⟩⟩
 | cons y r =>
  have hy:=hby y (by simp);have G:Hid (YL r):=fun x hx=>hby x (Jp _ hx)
  obtain ⟨m,rfl⟩:∃m:Nat,y=(m:Int):=⟨y.toNat,by omega⟩;have hm:m<256:=by omega
  clear hby hy;refine (PR w0 w1 k m r HS.out).mono ?_;rintro e w2 ⟨rfl,r2,g2⟩;have s2:=g2.size;have R2:=Z8 r2;have G2:=Z8 (G1.out.trans g2);have E2:=Z8 (E1.out.turn g2 (by simp;omega));clear r2 g2 HS E1 G1;have R3:Hid (RS w0 (w2.alloc (.cells #[.string ⟨#[]⟩,.string ⟨#[]⟩,.int .i64 0,.int .i64 0,.int .i64 0,.int .i64 0,.int .i64 0,.int .u8 (m:Int)] 197)) k r):=R2.out.new (ZR.alloc ZW _);have G3:Hid (w.grownBy (w2.alloc (.cells #[.string ⟨#[]⟩,.string ⟨#[]⟩,.int .i64 0,.int .i64 0,.int .i64 0,.int .i64 0,.int .i64 0,.int .u8 (m:Int)] 197)) (some k)):=G2.out.trans (Yp _ _ _);have E3:Hid (EB (w2.alloc (.cells #[.string ⟨#[]⟩,.string ⟨#[]⟩,.int .i64 0,.int .i64 0,.int .i64 0,.int .i64 0,.int .i64 0,.int .u8 (m:Int)] 197)) w.heap.size nd0 0):=E2.out.turn (Yp _ _ none) (by simp);have F3:Hid (EB (w2.alloc (.cells #[.string ⟨#[]⟩,.string ⟨#[]⟩,.int .i64 0,.int .i64 0,.int .i64 0,.int .i64 0,.int .i64 0,.int .u8 (m:Int)] 197)) w2.heap.size nd0 m):=EB.new w2 nd0 m _;clear R2 G2 E2;have hw2:w.heap.size<w2.heap.size:=by omega
  have hk2:k<w2.heap.size:=by omega
  by_cases h1:m=1
  · subst h1
    go_wp2_with fail
    generalize w2.alloc _=w3 at *;generalize w2.heap.size=B3 at *;refine (Yr w0 w3 k r R3.out G.out).mono ?_;rintro e w4 ⟨g4,hp⟩
    rcases hp with ⟨hp,rfl⟩ | ⟨n,r',hp,rfl,hr4⟩
    · exact ⟨rfl,G3.out.trans g4,.inl ⟨by simp [PN,hp],rfl⟩⟩
    have Ua:Hid (PN (((1:Nat):Int) :: r)=some (⟨false,n⟩,r')):=by show _=_;simp [PN,hp]
    have G4:=Z8 (G3.out.trans g4);have R4:=Z8 hr4;have E4:=Z8 (E3.out.turn g4 (by simp;omega));have F4:=Z8 (F3.out.turn g4 (by simp;omega));clear g4 hp hr4 G3 R3 E3 F3;rename_i K1 a1 K0 a0;have U:Hid _:=a1;clear a1;have hne:w.heap.size≠B3:=by omega
    have F5:=Z8 (F4.out.tL n);have E5:Hid (EB (((((((w4.setCell ⟨B3,0,none⟩ (.string n.path)).setCell ⟨B3,1,none⟩ (.string n.data)).setCell ⟨B3,2,none⟩ (.int .i64 n.Ym)).setCell ⟨B3,3,none⟩ (.int .i64 n.ZD)).setCell ⟨B3,4,none⟩ (.int .i64 n.cz)).setCell ⟨B3,5,none⟩ (.int .i64 n.mz)).setCell ⟨B3,6,none⟩ (.int .i64 n.pz)) w.heap.size nd0 0):=(((((((E4.out.other hne _ _).other hne _ _).other hne _ _).other hne _ _).other hne _ _).other hne _ _).other hne _ _);have R5:Hid (RS w0 (((((((w4.setCell ⟨B3,0,none⟩ (.string n.path)).setCell ⟨B3,1,none⟩ (.string n.data)).setCell ⟨B3,2,none⟩ (.int .i64 n.Ym)).setCell ⟨B3,3,none⟩ (.int .i64 n.ZD)).setCell ⟨B3,4,none⟩ (.int .i64 n.cz)).setCell ⟨B3,5,none⟩ (.int .i64 n.mz)).setCell ⟨B3,6,none⟩ (.int .i64 n.pz)) k r'):=(((((((R4.out.setOther (by omega) (by omega) _ _).setOther (by omega) (by omega) _ _).setOther (by omega) (by omega) _ _).setOther (by omega) (by omega) _ _).setOther (by omega) (by omega) _ _).setOther (by omega) (by omega) _ _).setOther (by omega) (by omega) _ _);have G5:Hid (w.grownBy (((((((w4.setCell ⟨B3,0,none⟩ (.string n.path)).setCell ⟨B3,1,none⟩ (.string n.data)).setCell ⟨B3,2,none⟩ (.int .i64 n.Ym)).setCell ⟨B3,3,none⟩ (.int .i64 n.ZD)).setCell ⟨B3,4,none⟩ (.int .i64 n.cz)).setCell ⟨B3,5,none⟩ (.int .i64 n.mz)).setCell ⟨B3,6,none⟩ (.int .i64 n.pz)) (some k)):=(Y9 (Y9 (Y9 (Y9 (Y9 (Y9 (Y9 G4.out (P7 hw2) _ _) (P7 hw2) _ _) (P7 hw2) _ _) (P7 hw2) _ _) (P7 hw2) _ _) (P7 hw2) _ _) (P7 hw2) _ _);obtain ⟨⟨⟨dl,d0,d1,d2,d3,d4,d5,d6⟩,J⟩,d7⟩:=F4.out;unfold Py;go_wp2;refine U.out _ _ ?_;clear dl d0 d1 d2 d3 d4 d5 d6 J d7 F4 E4 R4 G4 U;generalize (((((((w4.setCell _ _).setCell _ _).setCell _ _).setCell _ _).setCell _ _).setCell _ _).setCell _ _)=w5 at *;obtain ⟨⟨⟨dl,d0,d1,d2,d3,d4,d5,d6⟩,J⟩,d7⟩:=F5.out;obtain ⟨⟨⟨xl,x0,x1,x2,x3,x4,x5,x6⟩,xf⟩,x7⟩:=E5.out;clear dl J xl;go_wp2;refine ZT (v:=Dz ⟨false,n⟩) (by simp [results,Tryz.results143,go_sem,Dz,uY,x0,x1,x2,x3,x4,x5,x6,x7]) rfl ⟨?_,.inr ⟨_,r',Ua.out,rfl,?_⟩⟩
    · iterate 8 refine Y9 ?_ ZW _ _
      exact G5.out
    iterate 8 refine RS.setOther ?_ (by omega) (by omega) _ _
    exact R5.out
  have h1b:((m:Int) == 1)=false:=Xz.2 (by omega)
  by_cases h2:m=2
  · subst h2
    go_wp2_with fail
    generalize w2.alloc _=w3 at *;generalize w2.heap.size=B3 at *;refine (Oz w0 w3 k r R3.out G.out).mono ?_;rintro e w4 ⟨g4,hp⟩
    rcases hp with ⟨hp,rfl⟩ | ⟨s,r',hp,rfl,hr4⟩
    · exact ⟨rfl,G3.out.trans g4,.inl ⟨by simp [PN,hp],rfl⟩⟩
    have Ua:Hid (PN (((2:Nat):Int) :: r)=some (⟨true,tN s⟩,r')):=by show _=_;simp [PN,hp]
    have G4:=Z8 (G3.out.trans g4);have R4:=Z8 hr4;have E4:=Z8 (E3.out.turn g4 (by simp;omega));have F4:=Z8 (F3.out.turn g4 (by simp;omega));clear g4 hp hr4 G3 R3 E3 F3;rename_i K1 a1 K0 a0;have U:Hid _:=a1;clear a1;have hne:w.heap.size≠B3:=by omega
    have F5:Hid (EB (w4.setCell ⟨B3,0,none⟩ (.string s)) B3 (tN s) 2):=F4.out.pH s;have E5:Hid (EB (w4.setCell ⟨B3,0,none⟩ (.string s)) w.heap.size nd0 0):=E4.out.other hne _ _;have R5:Hid (RS w0 (w4.setCell ⟨B3,0,none⟩ (.string s)) k r'):=R4.out.setOther (by omega) (by omega) _ _;have G5:Hid (w.grownBy (w4.setCell ⟨B3,0,none⟩ (.string s)) (some k)):=Y9 G4.out (P7 hw2) _ _;obtain ⟨⟨⟨dl,d0,d1,d2,d3,d4,d5,d6⟩,J⟩,d7⟩:=F4.out;go_wp2;refine U.out _ _ ?_;clear dl d0 d1 d2 d3 d4 d5 d6 J d7 F4 E4 R4 G4 U;generalize (w4.setCell _ _)=w5 at *;obtain ⟨⟨⟨dl,d0,d1,d2,d3,d4,d5,d6⟩,J⟩,d7⟩:=F5.out;obtain ⟨⟨⟨xl,x0,x1,x2,x3,x4,x5,x6⟩,xf⟩,x7⟩:=E5.out;clear dl J xl;go_wp2;refine ZT (v:=Dz ⟨true,tN s⟩) (by simp [results,Tryz.results143,go_sem,Dz,uY,x0,x1,x2,x3,x4,x5,x6,x7]) rfl ⟨?_,.inr ⟨_,r',Ua.out,rfl,?_⟩⟩
    · iterate 8 refine Y9 ?_ ZW _ _
      exact G5.out
    iterate 8 refine RS.setOther ?_ (by omega) (by omega) _ _
    exact R5.out
  have Z7:((m:Int) == 2)=false:=Xz.2 (by omega);have Ua:Hid (PN ((m:Int) :: r)=none):=by show _=_;simp only [PN];rw [Z3 (by omega),Z3 (by omega)]
  go_wp2;exact ⟨rfl,G3.out,.inl ⟨Ua.out,rfl⟩⟩
def tJ (e:Ef):Value:=.agg #[.bool e.del,.string e.nd.path,.string e.nd.data,.int .i64 e.nd.Ym,.int .i64 e.nd.ZD,.int .i64 e.nd.cz,.int .i64 e.nd.mz,.int .i64 e.nd.pz]
theorem Iz (w:World) (b:Nat) (n:Nd) (M:Int) (D:Bool) (hM:(M == 2)=D) (h:EB w b n M) :
    Calls Tryz.prog 144 #[.pointer (some ⟨b,0,none⟩)] w (Ze w (tJ ⟨D,n⟩)):=by
 have hb:=h.1.1.lt;have H:Hid (EB (w.alloc (.cells #[.bool false,.string ⟨#[]⟩,.string ⟨#[]⟩,.int .i64 0,.int .i64 0,.int .i64 0,.int .i64 0,.int .i64 0] 141)) b n M):=h.turn (Yp _ _ none) (by simp);have HM:=Z8 hM;clear h hM;obtain ⟨⟨⟨-,x0,x1,x2,x3,x4,x5,x6⟩,-⟩,x7⟩:=H.out;have B0:Hid (ZX w (w.alloc (.cells #[.bool false,.string ⟨#[]⟩,.string ⟨#[]⟩,.int .i64 0,.int .i64 0,.int .i64 0,.int .i64 0,.int .i64 0] 141))):=ZR.alloc ZW _
 go_enter Tryz.func144,Tryz.ntmps144
 go_wp2;refine ZF (S:=fun W=>W.cell? ⟨b,7,none⟩=some (.int .u8 M)∧W.cell? ⟨b,0,none⟩=some (.string n.path)∧W.cell? ⟨b,1,none⟩=some (.string n.data)∧W.cell? ⟨b,2,none⟩=some (.int .i64 n.Ym)∧W.cell? ⟨b,3,none⟩=some (.int .i64 n.ZD)∧W.cell? ⟨b,4,none⟩=some (.int .i64 n.cz)∧W.cell? ⟨b,5,none⟩=some (.int .i64 n.mz)∧W.cell? ⟨b,6,none⟩=some (.int .i64 n.pz)) (by kernel_rfl) (⟨x7,x0,x1,x2,x3,x4,x5,x6⟩) (fun Z9=>?_)
 iterate 4 (refine ZV ?_ (by kernel_rfl) (fun _=>id) Z9 ?_ ?_;rotate_left;· intro w9 Z4;obtain ⟨y7,y0,y1,y2,y3,y4,y5,y6⟩:=Z4;go_simp;try with_reducible rfl)
 refine ZV (.bool D) (by kernel_rfl) (fun _=>id) Z9 ?_ ?_
 · intro w9 Z4;go_simp;exact HM.out
 iterate 6 (refine ZV ?_ (by kernel_rfl) (fun _=>id) Z9 ?_ ?_;rotate_left;· intro w9 Z4;obtain ⟨y7,y0,y1,y2,y3,y4,y5,y6⟩:=Z4;go_simp;try with_reducible rfl)
 refine ZS 11 rfl (by kernel_rfl) (fun K hK=>?_);go_simp;have H2:EB (w.alloc (.cells #[.bool D,.string n.path,.string n.data,.int .i64 n.Ym,.int .i64 n.ZD,.int .i64 n.cz,.int .i64 n.mz,.int .i64 n.pz] 141)) b n M:=by
  have h0:EB w b n M:=by
   have hbl:=B0.out.block b hb;have e:∀q,w.cell? ⟨b,q,none⟩=(w.alloc (.cells #[.bool false,.string ⟨#[]⟩,.string ⟨#[]⟩,.int .i64 0,.int .i64 0,.int .i64 0,.int .i64 0,.int .i64 0] 141)).cell? ⟨b,q,none⟩:=fun q=>(YI (a:=⟨b,q,none⟩) hbl).symm
   exact ⟨⟨⟨hb,(e _).trans x0,(e _).trans x1,(e _).trans x2,(e _).trans x3,(e _).trans x4,(e _).trans x5,(e _).trans x6⟩,fun j=>by rw [←Ue (a:=⟨b,j,none⟩) hbl];exact H.out.1.2 j⟩,(e _).trans x7⟩
  exact h0.turn (Yp _ _ none) (by simp)
 obtain ⟨⟨⟨-,z0,z1,z2,z3,z4,z5,z6⟩,-⟩,z7⟩:=H2;refine hK.out _ _ ⟨z7,z0,z1,z2,z3,z4,z5,z6⟩ (fun ZI=>?_);clear hK K Z9 ZI;refine ZM (by kernel_rfl) ?_ _
 try simp only [Act.put,Zk,Zj,Zi]
 go_wp2;refine ZT (v:=tJ ⟨D,n⟩) (by simp [results,Tryz.results144,go_sem,tJ]) rfl ⟨rfl,?_⟩;exact (ZR.alloc ZW _).trans ((below_drewN' _ 1).mono (by simp))
theorem Oq (w:World) (b:Nat) (e:Ef) (h:EB w b e.nd (uY e)) :
    Calls Tryz.prog 144 #[.pointer (some ⟨b,0,none⟩)] w fun r w'=>r=.returned (tJ e)∧ZX w w':=by
 obtain ⟨d,n⟩:=e
 cases d with
 | true=>exact Iz w b n 2 true rfl h
 | false=>exact Iz w b n 1 false rfl h
def Ai:Value:=.agg #[.bool false,.int .i64 0,.slice none 0 0]
def U6 (w:World) (ys:List Int) (e:Ending) (w':World):Prop :=
 ZX w w'∧((Wh ys=none∧e=.returned Ai)∨∃z es v,Wh ys=some (z,es)∧e=.returned (.agg #[.bool true,.int .i64 z,v])∧Xr 141 w' w.heap.size v es)
def Zx (W:World) (k:Nat):Prop:=k<W.heap.size∧W.cell? ⟨k,0,none⟩=some (.bool false)∧W.cell? ⟨k,1,none⟩=some (.int .i64 0)∧W.cell? ⟨k,2,none⟩=some (.slice none 0 0)∧∀j,W.frozen? ⟨k,j,none⟩=false
theorem Zx.turn (h:Zx W k) (hg:W.grownBy W' row) (hne:some k≠row):Zx W' k:=by
 have hb:=hg.block k h.1 hne;exact ⟨ZB h.1 hg.size,(YI (a:=⟨k,0,none⟩) hb).trans h.2.1,(YI (a:=⟨k,1,none⟩) hb).trans h.2.2.1,(YI (a:=⟨k,2,none⟩) hb).trans h.2.2.2.1,fun j=>(Ue (a:=⟨k,j,none⟩) hb).trans (h.2.2.2.2 j)⟩
theorem Zx.set (h:Zx W k) (hne:k≠B) (i:Nat) (u:Value):Zx (W.setCell ⟨B,i,none⟩ u) k :=
 ⟨by simpa using h.1,(ZG _ _ _ _ (by intro e;injection e with e;omega)).trans h.2.1,(ZG _ _ _ _ (by intro e;injection e with e;omega)).trans h.2.2.1,(ZG _ _ _ _ (by intro e;injection e with e;omega)).trans h.2.2.2.1,fun j=>by rw [Yb];exact h.2.2.2.2 j⟩
def B2 (W:World) (k:Nat) (z:Int) (v:Value):Prop:=k<W.heap.size∧W.cell? ⟨k,0,none⟩=some (.int .i64 z)∧W.cell? ⟨k,1,none⟩=some v∧∀j,W.frozen? ⟨k,j,none⟩=false
theorem B2.turn {z:Int} (h:B2 W k z v) (hg:W.grownBy W' row) (hne:some k≠row):B2 W' k z v:=by
 have hb:=hg.block k h.1 hne;exact ⟨ZB h.1 hg.size,(YI (a:=⟨k,0,none⟩) hb).trans h.2.1,(YI (a:=⟨k,1,none⟩) hb).trans h.2.2.1,fun j=>(Ue (a:=⟨k,j,none⟩) hb).trans (h.2.2.2 j)⟩
theorem Xr.turn {lo:Nat} {ns:List Ef} (h:Xr 141 W lo v ns) (hg:W.grownBy W' (some k)) (hk:k<lo):Xr 141 W' lo v ns:=by
 refine Yy h hg ?_
 cases e:v.ownBlock with
 | none=>exact .inl rfl
 | some g =>
  refine .inr fun e2=>?_
  have:=(ZO h g e).1
  simp only [Xu] at e2
  omega
theorem Iy (ns:List Ef) (n:Ef):Q9 (ns++[n])=Q9 ns++Pp n:=by rw [I1];simp [Q9]
theorem UJ (w:World) (n:Ef) (t:TypeId):∀j u,(Pp n)[j]?=some u→(w.alloc (.cells #[.bool n.del,.string n.nd.path,.string n.nd.data,.int .i64 n.nd.Ym,.int .i64 n.nd.ZD,.int .i64 n.nd.cz,.int .i64 n.nd.mz,.int .i64 n.nd.pz] t)).cell? ((⟨w.heap.size,0,none⟩:Addr).add j)=some u:=by
 intro j u hj;rw [GM,Wn,cell_of (WJ w _) j,←hj]
 simp [Pp]
theorem QZ (n:Ef):∀u ∈ Pp n,u.oneCell'=true:=by
 intro u hu
 simp only [Pp,MZ,uo,or_false] at hu
 rcases hu with rfl | rfl | rfl | rfl | rfl | rfl | rfl | rfl <;> rfl
def TX (w:World) (ys:List Int) (TB:Nat) (W:World) (v:Value) (es fs:List Ef) (r:List Int) (c:Nat):Prop :=
 Qp (MQ ys) (ys.drop 6) fs r c∧YL r∧tM fs∧RS w W (w.heap.size+1) r∧Zx W w.heap.size∧B2 W TB (zX ys) v∧Xr 141 W (TB+1) v es
theorem TX.later (h:TX w ys TB W v es fs r c) (hb:ZX W W'):TX w ys TB W' v es fs r c:=by
 obtain ⟨t1,t2,t3,t4,t5,t6,t7⟩:=h;exact ⟨t1,t2,t3,t4.new hb,t5.turn (grown_of hb none) (by simp),t6.turn (grown_of hb none) (by simp),t7.below hb⟩
theorem TX.below (h:TX w ys TB W v es fs r c):ZX w W:=h.2.2.2.1.2.2.2.1
theorem TX.read {W1:World} {r':List Int} (hT:w.heap.size+2≤TB) (h:TX w ys TB W v es es r (c+1)) (hg:W.grownBy W1 (some (w.heap.size+1))) (hp:PN r=some (n,r')) (hr:RS w W1 (w.heap.size+1) r'):TX w ys TB W1 v es (es++[n]) r' c:=by
 obtain ⟨t1,t2,t3,t4,t5,t6,t7⟩:=h;have hb:=KR hp t2;exact ⟨t1.step t2 hp,hb.1,t3.snoc hb.2.2.1 hb.2.2.2,hr,t5.turn hg (by simp),t6.turn hg (by simp;omega),t7.turn hg (by omega)⟩
theorem TX.push (hT:w.heap.size+2≤TB) (h:TX w ys TB W v es (es++[n]) r c) (hg:W.grownBy W3 v.ownBlock) (ho:W3.ownsRow (TB+1) 141 8 v3 (es.length+1) (Q9 es++Pp n)) :
    TX w ys TB (W3.setCell ⟨TB,1,none⟩ v3) v3 (es++[n]) (es++[n]) r c:=by
 obtain ⟨t1,t2,t3,t4,t5,t6,t7⟩:=h;have hne:∀k,k<TB+1→some k≠v.ownBlock:=fun k hk e=>by have:=(ZO t7 k e.symm).1;omega
 have hlo:∀g,v.ownBlock=some g→w.heap.size≤g:=fun g e=>by have:=(ZO t7 g e).1;omega
 have b6:=t6.turn hg (hne _ (by omega));refine ⟨t1,t2,t3,(t4.turn hg (hne _ (by omega)) hlo).setOther (by omega) (by omega) _ _,(t5.turn hg (hne _ (by omega))).set (by omega) _ _,⟨by simpa using b6.1,(ZG _ _ _ _ (by intro e;injection e with _ e;omega)).trans b6.2.1,Ys _ _ _ b6.2.2.1,fun j=>by rw [Yb];exact b6.2.2.2 j⟩,?_⟩;have:Xr 141 W3 (TB+1) v3 (es++[n]):=by unfold Xr;rw [Iy,YE];exact ho
 exact Xr.ZK this (by show TB<TB+1;omega) _
theorem RI (h:ys.length<6):Wh ys=none:=by unfold Wh;rw [ZY h]
theorem Ix (h:yd (MQ ys) (ys.drop 6)=none):Wh ys=none:=by unfold Wh;split;rfl;rw [h]
theorem KQ (w:World) (v:Value) (ys:List Int) (h:Rd .u8 w v ys) (hby:YL ys) (hl:ys.length≤1048576) :
    Calls Tryz.prog 129 #[v] w fun e w'=>U6 w ys e w':=by
 obtain ⟨i0,hi,hz0,hz1,hz2⟩:=YH Tryz.ve;obtain ⟨ao,cap,rfl,-,-⟩:=h.len;have Xe:=Z8 hby
 have R0:Hid (RS w ((w.alloc (.cells #[.bool false,.int .i64 0,.slice none 0 0] 107)).alloc (.cells #[.slice ao ys.length cap] 170)) (w.heap.size+1) ys):=⟨by omega,by simp,(by go_simp),(ZR.alloc ZW _).alloc (by simp) _,_,(by go_simp),h⟩;have Z0:Hid (Zx ((w.alloc (.cells #[.bool false,.int .i64 0,.slice none 0 0] 107)).alloc (.cells #[.slice ao ys.length cap] 170)) w.heap.size):=⟨by simp;omega,(by go_simp),(by go_simp),(by go_simp),fun j=>(by go_simp)⟩;have s0:((w.alloc (.cells #[.bool false,.int .i64 0,.slice none 0 0] 107)).alloc (.cells #[.slice ao ys.length cap] 170)).heap.size=w.heap.size+2:=by simp
 have HBAD:Hid (Wh ys=none→∀W W',Zx W w.heap.size→ZX w W→ZX W W'→W'.cell? ⟨w.heap.size,0,none⟩=some (.bool false)∧W'.cell? ⟨w.heap.size,1,none⟩=some (.int .i64 0)∧W'.cell? ⟨w.heap.size,2,none⟩=some (.slice none 0 0)∧U6 w ys (.returned (.agg #[.bool false,.int .i64 0,.slice none 0 0])) W'):=by
  intro hd W W' hz hB hb;have z:=hz.turn (grown_of hb none) (by simp);exact ⟨z.2.1,z.2.2.1,z.2.2.2.1,Ye hB hb,.inl ⟨hd,rfl⟩⟩
 have hm:=pI
 go_enter_defers Tryz.func129,Tryz.ntmps129
 go_wp2_with fail
 generalize ((w.alloc _).alloc _)=W0 at *
 by_cases hl4:4≤ys.length
 rotate_left
 · refine (YD w _ (w.heap.size+1) 4 ys R0.out (by omega)).mono ?_
   rintro e W ⟨rfl,rfl⟩;refine WH (f:=142) (args:=#[]) (by simp) (by simp [go_sem]) ?_;refine (RO [] _).mono ?_;rintro e u' w2 ⟨rfl,rfl,b2⟩;obtain ⟨z0,z1,z2,hF⟩:=HBAD.out (RI (by omega)) _ _ Z0.out R0.out.2.2.2.1 b2
   simp [Leaves,settle,results,Tryz.results129,go_sem,z0,z1,z2]
   exact hF
 refine (Yj w _ (w.heap.size+1) 4 ys R0.out (by omega) (by omega) (by omega) Xe.out).mono ?_;rintro e W ⟨rfl,r1,v1,q1,rfl⟩;rw [LJ Xe.out];have g1:W0.grownBy ((W0.setCell ⟨w.heap.size+1,0,none⟩ v1).drewN q1) (some (w.heap.size+1)):=(grownBy_set _ _ _ _ _ (YT _ _)).trans (grown_of (below_drewN' _ q1) _);have Z1:=Z8 (Z0.out.turn g1 (by simp));have R1:=Z8 r1;have s1:w.heap.size+2≤((W0.setCell ⟨w.heap.size+1,0,none⟩ v1).drewN q1).heap.size:=by have:=g1.size;omega
 generalize (W0.setCell _ _).drewN q1=V0 at *;have rn:Hid (((YV (ys.take 4):Nat):Int)=(zX ys:Int)):=rfl;rw [rn.out];have R2:Hid (RS w (V0.alloc (.cells #[.int .i64 (zX ys:Int),.slice none 0 0] 105)) (w.heap.size+1) (ys.drop 4)):=R1.out.new (ZR.alloc ZW _);have Z2:Hid (Zx (V0.alloc (.cells #[.int .i64 (zX ys:Int),.slice none 0 0] 105)) w.heap.size):=Z1.out.turn (Yp _ _ none) (by simp);have X2:Hid (B2 (V0.alloc (.cells #[.int .i64 (zX ys:Int),.slice none 0 0] 105)) V0.heap.size (zX ys) (.slice none 0 0)):=⟨by simp,(by go_simp),(by go_simp),fun j=>(by go_simp)⟩
 go_wp2_with fail
 generalize V0.alloc _=W1 at *;generalize V0.heap.size=TB at *
 by_cases ZH:6≤ys.length
 rotate_left
 · refine (YD w _ (w.heap.size+1) 2 (ys.drop 4) R2.out (by rw [Zv];omega)).mono ?_
   rintro e W ⟨rfl,rfl⟩;refine WH (f:=142) (args:=#[]) (by simp) (by simp [go_sem]) ?_;refine (RO [] _).mono ?_;rintro e u' w2 ⟨rfl,rfl,b2⟩;obtain ⟨z0,z1,z2,hF⟩:=HBAD.out (RI (by omega)) _ _ Z2.out R2.out.2.2.2.1 b2
   simp [Leaves,settle,results,Tryz.results129,go_sem,z0,z1,z2]
   exact hF
 refine (Yj w _ (w.heap.size+1) 2 (ys.drop 4) R2.out (by rw [Zv];omega) (by omega) (by omega) (Yw Xe.out 4)).mono ?_;rintro e W ⟨rfl,r3,v3,q3,rfl⟩;rw [(Aj (Yw Xe.out 4)).1];have hC:=(Aj (Yw Xe.out 4)).2;rw [show YV ((ys.drop 4).take 2)=MQ ys from rfl] at *;rw [US] at r3;have g3:W1.grownBy ((W1.setCell ⟨w.heap.size+1,0,none⟩ v3).drewN q3) (some (w.heap.size+1)):=(grownBy_set _ _ _ _ _ (YT _ _)).trans (grown_of (below_drewN' _ q3) _);have D0:Hid (TX w ys TB ((W1.setCell ⟨w.heap.size+1,0,none⟩ v3).drewN q3) (.slice none 0 0) [] [] (ys.drop 6) (MQ ys - 0)):=⟨Qp.start _ _,Yw Xe.out 6,(fun n hn=>by cases hn),r3,Z2.out.turn g3 (by simp),X2.out.turn g3 (by simp;omega),Yf _ _ _ _⟩;generalize (W1.setCell _ _).drewN q3=V1 at *;generalize Q:MQ ys=C at *;have Y:=Z8 Q;go_wp2
 go_loopw [14] (fun vi wr=>∃(i:Nat) (v:Value) (es:List Ef) (r:List Int),i≤C∧vi=.int .i64 i∧Hid (TX w ys TB wr v es es r (C - i))) (fun i _=>C - (intOf i).toNat)
 case atStart=>exact ⟨0,_,_,_,ZQ _,rfl,D0⟩
 case round =>
  obtain ⟨i,v,es,r,hi5,rfl,D⟩:=hrel;obtain ⟨va,vc,hva⟩:=D.out.2.2.2.2.2.2.slice;subst hva;have hns:es.length≤1048576:=by have:=D.out.1.2;rw [Zv] at this;omega
  by_cases hlt:i<C
  · have YN:(i:Int)<(C:Int):=by omega
    obtain ⟨c,hc⟩:∃c,C - i=c+1:=⟨C - i - 1,by omega⟩;rw [hc] at D;have yi:Hid (C - (i+1)=c):=by show _=_;omega
    go_wp2_with fail
    refine (Pw w wr (w.heap.size+1) r D.out.2.2.2.1 D.out.2.1).mono ?_;rintro e W2 ⟨g2,hp⟩
    rcases hp with ⟨hp,rfl⟩ | ⟨n,r',hp,rfl,hr1⟩
    · refine WH (f:=142) (args:=#[]) (by simp) (by simp [go_sem]) ?_
      refine (RO [] _).mono ?_;rintro e u' w3 ⟨rfl,rfl,b3⟩;have hB:=D.out.below.grown g2 D.out.below.size (fun q hq=>by simp only [Xu] at hq;omega);obtain ⟨z0,z1,z2,hF⟩:=HBAD.out (Ix (by rw [Y.out];exact (Y.out ▸ D.out.1).bad hp)) _ _ (D.out.2.2.2.2.1.turn g2 (by simp)) hB b3
      simp [Leaves,settle,results,Tryz.results129,go_sem,z0,z1,z2]
      exact hF
    have T1:=Z8 (D.out.read s1 g2 hp hr1);have T2:Hid (TX w ys TB (W2.alloc (.cells #[.string n.nd.path,.string n.nd.data,.int .i64 n.nd.Ym,.int .i64 n.nd.ZD,.int .i64 n.nd.cz,.int .i64 n.nd.mz,.int .i64 n.nd.pz,.int .u8 (uY n)] 197)) (.slice va es.length vc) es (es++[n]) r' c):=T1.out.later (ZR.alloc ZW _);have E2:Hid (EB (W2.alloc (.cells #[.string n.nd.path,.string n.nd.data,.int .i64 n.nd.Ym,.int .i64 n.nd.ZD,.int .i64 n.nd.cz,.int .i64 n.nd.mz,.int .i64 n.nd.pz,.int .u8 (uY n)] 197)) W2.heap.size n.nd (uY n)):=EB.new W2 n.nd (uY n) _;have c0:=T1.out.2.2.2.2.2.1.2.2.1;have cl:=T1.out.2.2.2.2.2.1.1;unfold Dz;go_wp2;generalize W2.alloc _=W3 at *;generalize W2.heap.size=BE at *;have c0:=T2.out.2.2.2.2.2.1.2.2.1;refine wp_region_noPanic ?_;refine ZF (S:=fun _=>True) (by kernel_rfl) (trivial) (fun Z9=>?_);refine ZV (.pointer (some ⟨TB,1,none⟩)) (by kernel_rfl) (fun _=>id) Z9 ?_ ?_
    · intro w9 Z4;go_simp
    refine Wu 1 2 rfl rfl (by kernel_rfl) (fun K hK=>?_) (fun K hK=>?_)
    · go_simp
      refine hK.out _ _ trivial (fun ZI=>?_);refine ZS 2 rfl (by kernel_rfl) (fun K hK=>?_);go_simp;refine (Oq W3.drew BE n (E2.out.turn (grown_of (below_drewN' W3 1) none) (by simp))).mono ?_;rintro e W4 ⟨rfl,b4⟩;have T4:=Z8 ((T2.out.later (below_drewN' W3 1)).later b4);have c1:=T4.out.2.2.2.2.2.1.2.2.1;refine hK.out _ _ trivial (fun ZI=>?_);refine ZS 3 rfl (by kernel_rfl) (fun K hK=>?_);unfold tJ;go_simp;have T5:Hid (TX w ys TB (W4.alloc (.cells #[.bool n.del,.string n.nd.path,.string n.nd.data,.int .i64 n.nd.Ym,.int .i64 n.nd.ZD,.int .i64 n.nd.cz,.int .i64 n.nd.mz,.int .i64 n.nd.pz] 141)) (.slice va es.length vc) es (es++[n]) r' c):=T4.out.later (ZR.alloc ZW _);have NC:Hid (∀j u,(Pp n)[j]?=some u→(W4.alloc (.cells #[.bool n.del,.string n.nd.path,.string n.nd.data,.int .i64 n.nd.Ym,.int .i64 n.nd.ZD,.int .i64 n.nd.cz,.int .i64 n.nd.mz,.int .i64 n.nd.pz] 141)).cell? ((⟨W4.heap.size,0,none⟩:Addr).add j)=some u):=UJ _ _ _;refine hK.out _ _ trivial (fun ZI=>?_);generalize W4.alloc _=W5 at *;generalize W4.heap.size=G4 at *;have c1:=T5.out.2.2.2.2.2.1.2.2.1;refine ZS 4 rfl (by kernel_rfl) (fun K hK=>?_);refine step_append rfl (.tmp 19) (.tmp 21) 103 rfl (TB+1) 141 i0 (.agg #[.bool false,.string ByteArray.empty,.string ByteArray.empty,.int .i64 0,.int .i64 0,.int .i64 0,.int .i64 0,.int .i64 0]) 8 80 Tryz.underlying103 hi hz0 hz1 hz2 rfl (by decide) (.slice va es.length vc) es.length _ rfl T5.out.2.2.2.2.2.2 ⟨G4,0,none⟩ 1 1 (Pp n) rfl rfl NC.out (QZ n) (by unfold maxLen;omega) (by omega) (by have:=T5.out.2.2.2.2.2.1.1;omega) ?_;intro v6 W6 Ah Gd;have D6:=Z8 (T5.out.push s1 Gd Ah);obtain ⟨a6,q6,hv6⟩:=D6.out.2.2.2.2.2.2.slice;rw [show (es++[n]).length=es.length+1 by simp] at hv6;subst hv6;obtain ⟨-,-,c6,ff⟩:=T5.out.2.2.2.2.2.1.turn Gd (fun e=>by have:=(ZO T5.out.2.2.2.2.2.2 _ e.symm).1;omega);have f6:=ff 1;refine hK.out _ _ trivial (fun ZI=>?_);refine ZV (.pointer (some ⟨TB,1,none⟩)) (by kernel_rfl) (fun _=>id) Z9 ?_ ?_
      · intro w9 Z4;go_simp
      refine ZS 6 rfl (by kernel_rfl) (fun K hK=>?_);go_simp;refine hK.out _ _ trivial (fun ZI=>?_);refine ZM (by kernel_rfl) (NoPanic.normal ?_) _
      try simp only [Act.put,Zk,Zj,Zi]
      go_wp2;exact ⟨⟨i+1,_,_,_,by omega,by go_num,(by rw [yi.out];exact D6)⟩,by simp [intOf];omega⟩
    go_simp;refine (Oq W3.drew BE n (E2.out.turn (grown_of (below_drewN' W3 1) none) (by simp))).mono ?_;rintro e W4 ⟨rfl,b4⟩;have T4:=Z8 ((T2.out.later (below_drewN' W3 1)).later b4);have c1:=T4.out.2.2.2.2.2.1.2.2.1;refine hK.out _ _ trivial (fun ZI=>?_);refine Wu 1 3 rfl rfl (by kernel_rfl) (fun K hK=>?_) (fun K hK=>?_)
    · go_simp
      refine hK.out _ _ trivial (fun ZI=>?_);refine ZS 3 rfl (by kernel_rfl) (fun K hK=>?_);unfold tJ;go_simp;have T5:Hid (TX w ys TB (W4.alloc (.cells #[.bool n.del,.string n.nd.path,.string n.nd.data,.int .i64 n.nd.Ym,.int .i64 n.nd.ZD,.int .i64 n.nd.cz,.int .i64 n.nd.mz,.int .i64 n.nd.pz] 141)) (.slice va es.length vc) es (es++[n]) r' c):=T4.out.later (ZR.alloc ZW _);have NC:Hid (∀j u,(Pp n)[j]?=some u→(W4.alloc (.cells #[.bool n.del,.string n.nd.path,.string n.nd.data,.int .i64 n.nd.Ym,.int .i64 n.nd.ZD,.int .i64 n.nd.cz,.int .i64 n.nd.mz,.int .i64 n.nd.pz] 141)).cell? ((⟨W4.heap.size,0,none⟩:Addr).add j)=some u):=UJ _ _ _;refine hK.out _ _ trivial (fun ZI=>?_);generalize W4.alloc _=W5 at *;generalize W4.heap.size=G4 at *;have c1:=T5.out.2.2.2.2.2.1.2.2.1;refine ZS 4 rfl (by kernel_rfl) (fun K hK=>?_);refine step_append rfl (.tmp 19) (.tmp 21) 103 rfl (TB+1) 141 i0 (.agg #[.bool false,.string ByteArray.empty,.string ByteArray.empty,.int .i64 0,.int .i64 0,.int .i64 0,.int .i64 0,.int .i64 0]) 8 80 Tryz.underlying103 hi hz0 hz1 hz2 rfl (by decide) (.slice va es.length vc) es.length _ rfl T5.out.2.2.2.2.2.2 ⟨G4,0,none⟩ 1 1 (Pp n) rfl rfl NC.out (QZ n) (by unfold maxLen;omega) (by omega) (by have:=T5.out.2.2.2.2.2.1.1;omega) ?_;intro v6 W6 Ah Gd;have D6:=Z8 (T5.out.push s1 Gd Ah);obtain ⟨a6,q6,hv6⟩:=D6.out.2.2.2.2.2.2.slice;rw [show (es++[n]).length=es.length+1 by simp] at hv6;subst hv6;obtain ⟨-,-,c6,ff⟩:=T5.out.2.2.2.2.2.1.turn Gd (fun e=>by have:=(ZO T5.out.2.2.2.2.2.2 _ e.symm).1;omega);have f6:=ff 1;refine hK.out _ _ trivial (fun ZI=>?_);refine ZV (.pointer (some ⟨TB,1,none⟩)) (by kernel_rfl) (fun _=>id) Z9 ?_ ?_
      · intro w9 Z4;go_simp
      refine ZS 6 rfl (by kernel_rfl) (fun K hK=>?_);go_simp;refine hK.out _ _ trivial (fun ZI=>?_);refine ZM (by kernel_rfl) (NoPanic.normal ?_) _
      try simp only [Act.put,Zk,Zj,Zi]
      go_wp2;exact ⟨⟨i+1,_,_,_,by omega,by go_num,(by rw [yi.out];exact D6)⟩,by simp [intOf];omega⟩
    unfold tJ;go_simp;have T5:Hid (TX w ys TB (W4.alloc (.cells #[.bool n.del,.string n.nd.path,.string n.nd.data,.int .i64 n.nd.Ym,.int .i64 n.nd.ZD,.int .i64 n.nd.cz,.int .i64 n.nd.mz,.int .i64 n.nd.pz] 141)) (.slice va es.length vc) es (es++[n]) r' c):=T4.out.later (ZR.alloc ZW _);have NC:Hid (∀j u,(Pp n)[j]?=some u→(W4.alloc (.cells #[.bool n.del,.string n.nd.path,.string n.nd.data,.int .i64 n.nd.Ym,.int .i64 n.nd.ZD,.int .i64 n.nd.cz,.int .i64 n.nd.mz,.int .i64 n.nd.pz] 141)).cell? ((⟨W4.heap.size,0,none⟩:Addr).add j)=some u):=UJ _ _ _;refine hK.out _ _ trivial (fun ZI=>?_);generalize W4.alloc _=W5 at *;generalize W4.heap.size=G4 at *;have c1:=T5.out.2.2.2.2.2.1.2.2.1;refine ZS 1 rfl (by kernel_rfl) (fun K hK=>?_);go_simp;refine hK.out _ _ trivial (fun ZI=>?_);refine ZS 4 rfl (by kernel_rfl) (fun K hK=>?_);refine step_append rfl (.tmp 19) (.tmp 21) 103 rfl (TB+1) 141 i0 (.agg #[.bool false,.string ByteArray.empty,.string ByteArray.empty,.int .i64 0,.int .i64 0,.int .i64 0,.int .i64 0,.int .i64 0]) 8 80 Tryz.underlying103 hi hz0 hz1 hz2 rfl (by decide) (.slice va es.length vc) es.length _ rfl T5.out.2.2.2.2.2.2 ⟨G4,0,none⟩ 1 1 (Pp n) rfl rfl NC.out (QZ n) (by unfold maxLen;omega) (by omega) (by have:=T5.out.2.2.2.2.2.1.1;omega) ?_;intro v6 W6 Ah Gd;have D6:=Z8 (T5.out.push s1 Gd Ah);obtain ⟨a6,q6,hv6⟩:=D6.out.2.2.2.2.2.2.slice;rw [show (es++[n]).length=es.length+1 by simp] at hv6;subst hv6;obtain ⟨-,-,c6,ff⟩:=T5.out.2.2.2.2.2.1.turn Gd (fun e=>by have:=(ZO T5.out.2.2.2.2.2.2 _ e.symm).1;omega);have f6:=ff 1;refine hK.out _ _ trivial (fun ZI=>?_);refine ZV (.pointer (some ⟨TB,1,none⟩)) (by kernel_rfl) (fun _=>id) Z9 ?_ ?_
    · intro w9 Z4;go_simp
    refine ZS 6 rfl (by kernel_rfl) (fun K hK=>?_);go_simp;refine hK.out _ _ trivial (fun ZI=>?_);refine ZM (by kernel_rfl) (NoPanic.normal ?_) _
    try simp only [Act.put,Zk,Zj,Zi]
    go_wp2;exact ⟨⟨i+1,_,_,_,by omega,by go_num,(by rw [yi.out];exact D6)⟩,by simp [intOf];omega⟩
  have hic:i=C:=by omega
  subst hic;rw [Jm] at D;have Xd:=Z8 ((Y.out ▸ D.out.1).done)
  go_wp2_with fail
  refine (IJ w wr (w.heap.size+1) r D.out.2.2.2.1).mono ?_;rintro e w1 ⟨rfl,rfl⟩;obtain ⟨-,-,t3,-,⟨tz,z0,z1,z2,zf⟩,⟨-,b0,b1,-⟩,t7⟩:=D.out;have f0:=zf 0;have f1:=zf 1;have f2:=zf 2;have OO:=Z8 t3;have ye:=Z8 t7
  by_cases hr:r=[]
  rotate_left
  · have Z:Hid (Wh ys=none):=by
     show _=_;unfold Wh;rw [Z3 (by omega),Y.out,Xd.out]
     simp only
     rw [Z3 (fun h=>hr h.1)]
    have HF:Hid (∀W,W=((w1.setCell ⟨w.heap.size,0,none⟩ (.bool false)).setCell ⟨w.heap.size,1,none⟩ (.int .i64 0)).setCell ⟨w.heap.size,2,none⟩ (.slice none 0 0)→U6 w ys (.returned (.agg #[.bool false,.int .i64 0,.slice none 0 0])) W):=by
     rintro W rfl;exact ⟨((D.out.below.setCell (p:=⟨w.heap.size,0,none⟩) ZW _).setCell (p:=⟨w.heap.size,1,none⟩) ZW _).setCell (p:=⟨w.heap.size,2,none⟩) ZW _,.inl ⟨Z.out,rfl⟩⟩
    rw [Zl hr];go_wp2;refine WH (f:=142) (args:=#[]) (by simp) (by simp [go_sem]) ?_;refine (Tx _).mono ?_;rintro e u' w3 ⟨rfl,rfl,rfl⟩
    simp [Leaves,settle,results,Tryz.results129,go_sem,z0,z1,z2]
    exact HF.out _ rfl
  subst hr;rw [show decide (([]:List Int)=[])=true from rfl]
  go_wp2_with fail
  refine (PP _ _ _ es ye.out.rd OO.out.at).mono ?_;rintro e w2 ⟨rfl,b2⟩;have D2:=Z8 (D.out.later b2);obtain ⟨-,-,-,-,⟨-,z0,z1,z2,zf⟩,⟨-,d0,d1,-⟩,t7⟩:=D2.out;have f0:=zf 0;have f1:=zf 1;have f2:=zf 2;have Gj:=Z8 t7
  by_cases hok:XR (zX ys:Int) es=true
  · have Z:Hid (Wh ys=some ((zX ys:Int),es)):=by
     show _=_;unfold Wh;rw [Z3 (by omega),Y.out,Xd.out]
     simp only
     rw [ZY ⟨trivial,hok⟩]
    have HF:Hid (∀W,W=((w2.setCell ⟨w.heap.size,0,none⟩ (.bool true)).setCell ⟨w.heap.size,1,none⟩ (.int .i64 (zX ys:Int))).setCell ⟨w.heap.size,2,none⟩ (.slice va es.length vc)→U6 w ys (.returned (.agg #[.bool true,.int .i64 (zX ys:Int),.slice va es.length vc])) W):=by
     rintro W rfl;refine ⟨((D2.out.below.setCell (p:=⟨w.heap.size,0,none⟩) ZW _).setCell (p:=⟨w.heap.size,1,none⟩) ZW _).setCell (p:=⟨w.heap.size,2,none⟩) ZW _,.inr ⟨_,es,_,Z.out,rfl,?_⟩⟩;exact Xr.mono (Xr.ZK (Xr.ZK (Xr.ZK Gj.out (by show w.heap.size<TB+1;omega) _) (by show w.heap.size<TB+1;omega) _) (by show w.heap.size<TB+1;omega) _) (by omega)
    rw [hok];go_wp2;refine WH (f:=142) (args:=#[]) (by simp) (by simp [go_sem]) ?_;refine (Tx _).mono ?_;rintro e u' w3 ⟨rfl,rfl,rfl⟩
    simp [Leaves,settle,results,Tryz.results129,go_sem,z0,z1,z2]
    exact HF.out _ rfl
  have hok':XR (zX ys:Int) es=false:=by simpa using hok
  have Z:Hid (Wh ys=none):=by
   show _=_;unfold Wh;rw [Z3 (by omega),Y.out,Xd.out]
   simp only
   rw [Z3 (fun h=>hok h.2)]
  have HF:Hid (∀W,W=((w2.setCell ⟨w.heap.size,0,none⟩ (.bool false)).setCell ⟨w.heap.size,1,none⟩ (.int .i64 0)).setCell ⟨w.heap.size,2,none⟩ (.slice none 0 0)→U6 w ys (.returned (.agg #[.bool false,.int .i64 0,.slice none 0 0])) W):=by
   rintro W rfl;exact ⟨((D2.out.below.setCell (p:=⟨w.heap.size,0,none⟩) ZW _).setCell (p:=⟨w.heap.size,1,none⟩) ZW _).setCell (p:=⟨w.heap.size,2,none⟩) ZW _,.inl ⟨Z.out,rfl⟩⟩
  rw [hok'];go_wp2;refine WH (f:=142) (args:=#[]) (by simp) (by simp [go_sem]) ?_;refine (Tx _).mono ?_;rintro e u' w3 ⟨rfl,rfl,rfl⟩
  simp [Leaves,settle,results,Tryz.results129,go_sem,z0,z1,z2]
  exact HF.out _ rfl
theorem Dy (xs:List Int) (i:Nat) (h:i≤xs.length):YV (xs.take i)≤YV xs:=by
 have key:∀d i,i+d=xs.length→YV (xs.take i)≤YV xs:=by
  intro d
  induction d with
  | zero=>intro i hi;rw [We (by omega)];exact ZW
  | succ d ih =>
   intro i hi;have:=ih (i+1) (by omega);rw [V6 xs i (by omega),Ta] at this;omega
 exact key (xs.length - i) i (by omega)
theorem WU (w:World) (b o n c:Nat) (xs:List Int) (hx:xs.length=n) (hby:YL xs) (hc:∀i,i<n→w.cell? ⟨b,o+i,none⟩=some (.int .u8 (xs.getD i 0))) (hN:YV xs<9223372036854775808) (hn:n≤8) :
    Calls Tryz.prog 51 #[.slice (some ⟨b,o,none⟩) n c] w fun e w'=>e=.returned (.int .i64 ((YV xs:Nat):Int))∧∃q,w'=w.drewN q:=by
 have HC:=Z8 hc;have Xe:=Z8 hby
 have HX:=Z8 hx;have HN:=Z8 hN;clear hc hby hx hN
 go_enter Tryz.func51,Tryz.ntmps51
 go_wp2
 go_loopw [3,4] (fun vn vi wr=>∃(i V:Nat),i≤n∧vi=.int .i64 i∧vn=.int .i64 V∧Hid (V=YV (xs.take i))∧∃q,wr=w.drewN q) (fun _ i _=>n - (intOf i).toNat)
 case atStart=>exact ⟨0,0,ZQ _,rfl,rfl,(by show 0=_;rw [Rl,IU]),0,rfl⟩
 case round =>
  obtain ⟨i,V,hi,rfl,rfl,HV,q,rfl⟩:=hrel
  by_cases hlt:i<n
  · have hI:(i:Int)<(n:Int):=by omega
    obtain ⟨x,hx,hxe⟩:=Wr Xe.out i;have c1:w.cell? ⟨b,o+i,none⟩=some (.int .u8 (x:Int)):=by rw [HC.out i hlt,hxe]
    have HT:Hid (V*256+x=YV (xs.take (i+1))):=by show _=_;rw [V6 xs i (by rw [HX.out];exact hlt),Ta,hxe,HV.out,XT]
    have hle:V*256+x<9223372036854775808:=by
     have h1:=Dy xs (i+1) (by rw [HX.out];omega);have h2:=HN.out;rw [HT.out];omega
    clear hxe;go_wp2;exact ⟨⟨i+1,V*256+x,by omega,by go_num,by go_num,HT,q,rfl⟩,by simp [intOf];omega⟩
  have him:i=n:=by omega
  subst him;have pG:Hid (((V:Nat):Int)=((YV xs:Nat):Int)):=by show _=_;rw [HV.out,We (by rw [HX.out];exact ZW)]
  go_wp2;go_ret;exact ⟨Xo pG.out,_,rfl⟩
theorem Vd (h:YL xs) (hl:xs.length≤4):YV xs<9223372036854775808:=by
 have hb:=(UN xs.length xs rfl h).2;have h1:256 ^ xs.length≤256 ^ 4:=Me (by omega) hl;have h2:YV xs<4294967296:=ZB hb h1;omega
theorem SW {b o:Nat} {N:Nat} (hc:∀i,i<N→w.cell? ⟨b,o+i,none⟩=some (.int .u8 (ys.getD i 0))) (p n:Nat) (h:p+n≤N):∀i,i<n→w.cell? ⟨b,o+p+i,none⟩=some (.int .u8 (((ys.drop p).take n).getD i 0)):=by
 intro i hi;rw [TI,hc (p+i) (by omega)]
 simp [List.getD,Sx hi]
def tI (ys:List Int) (p:Nat) (e:Ending):Prop :=
 (IK (ys.drop p)=none∧e=.returned (.tuple #[.string ⟨#[]⟩,.int .i64 (-1)]))∨∃s q,IK (ys.drop p)=some (s,ys.drop q)∧p<q∧q≤ys.length∧e=.returned (.tuple #[.string s,.int .i64 (q:Int)])
theorem tH (w:World) (v:Value):Calls Tryz.prog 91 #[v,.int .i64 (-1)] w fun e w'=>e=.returned (.tuple #[.string ⟨#[]⟩,.int .i64 (-1)])∧w'=w:=by
 go_enter Tryz.func91,Tryz.ntmps91
 go_wp2;refine ZT (v:=.tuple #[.string ⟨#[]⟩,.int .i64 (-1)]) (by simp [results,Tryz.results91,go_sem]) rfl ⟨rfl,rfl⟩
theorem tG (w:World) (ao:Option Addr) (N cap p:Nat) (h:N≤p):Calls Tryz.prog 91 #[.slice ao N cap,.int .i64 p] w fun e w'=>e=.returned (.tuple #[.string ⟨#[]⟩,.int .i64 (-1)])∧w'=w:=by
 have h1:(N:Int)≤(p:Int):=by omega
 go_enter Tryz.func91,Tryz.ntmps91
 go_wp2;refine ZT (v:=.tuple #[.string ⟨#[]⟩,.int .i64 (-1)]) (by simp [results,Tryz.results91,go_sem]) rfl ⟨rfl,rfl⟩
theorem Ag (w:World) (b o N cap p y:Nat) (hN:N≤1048576) (h:p<N) (hy:y<256) (hc:w.cell? ⟨b,o+p,none⟩=some (.int .u8 (y:Int))) (h2:N<p+1+y):Calls Tryz.prog 91 #[.slice (some ⟨b,o,none⟩) N cap,.int .i64 p] w fun e w'=>e=.returned (.tuple #[.string ⟨#[]⟩,.int .i64 (-1)])∧w'=w:=by
 have h1:(p:Int)<(N:Int):=by omega
 have h3:(N:Int)<(p:Int)+1+(y:Int):=by omega
 have Z6:(y:Int)<256:=by omega
 go_enter Tryz.func91,Tryz.ntmps91
 go_wp2;refine ZT (v:=.tuple #[.string ⟨#[]⟩,.int .i64 (-1)]) (by simp [results,Tryz.results91,go_sem]) rfl ⟨rfl,rfl⟩
theorem rm (w:World) (b o N cap p y:Nat) (ys:List Int) (hl:ys.length=N) (hN:N≤1048576) (h:p<N) (hy:y<256) (hcc:N≤cap) (hcm:cap≤maxLen) (hR:Rd .u8 w (.slice (some ⟨b,o,none⟩) N cap) ys) (hc:w.cell? ⟨b,o+p,none⟩=some (.int .u8 (y:Int))) (h2:p+1+y≤N) :
    Calls Tryz.prog 91 #[.slice (some ⟨b,o,none⟩) N cap,.int .i64 p] w fun e w'=>e=.returned (.tuple #[.string (strOfNums ((ys.drop (p+1)).take y)),.int .i64 ((p+1+y:Nat):Int)])∧w'=w:=by
 have h1:(p:Int)<(N:Int):=by omega
 have h3:¬(N:Int)<(p:Int)+1+(y:Int):=by omega
 have Z6:(y:Int)<256:=by omega
 have HR:=Z8 hR;have HL:=Z8 hl;clear hR hl
 by_cases hcp:cap=p+1
 · have hy0:y=0:=by omega
   subst hy0;subst hcp;have hcv:(convert 22 9 (.slice (some ⟨b,o,none⟩) 0 0)).run Tryz.prog w=.ok (.string (strOfNums [])) w:=Vu (xs:=[]) ⟨_,0,rfl,ZQ _,ZQ _,.inl rfl⟩
   go_enter Tryz.func91,Tryz.ntmps91
   go_wp2;refine ZT (v:=.tuple #[.string (strOfNums []),.int .i64 ((p:Int)+1)]) (by simp [results,Tryz.results91,go_sem]) rfl ⟨rfl,rfl⟩
 have ZN:p+1<cap:=by omega
 have hcv:(convert 22 9 (.slice (some ⟨b,o+(p+1),none⟩) y (cap - (p+1)))).run Tryz.prog w=.ok (.string (strOfNums ((ys.drop (p+1)).take y))) w:=by
  refine Vu ?_;have:=(Rd.split HR.out (p+1) (by omega) (by omega)).2 (o+(p+1)) (.inl rfl)
  by_cases hy0:y=0
  · subst hy0
    exact ⟨some ⟨b,o+(p+1),none⟩,cap - (p+1),by simp,ZQ _,by omega,.inl (by simp)⟩
  exact (Rd.split this y (by omega) (by omega)).1
 go_enter Tryz.func91,Tryz.ntmps91
 go_wp2;refine ZT (v:=.tuple #[.string (strOfNums ((ys.drop (p+1)).take y)),.int .i64 ((p:Int)+1+(y:Int))]) (by simp [results,Tryz.results91,go_sem]) rfl ⟨rfl,rfl⟩
theorem Gc (w:World) (v:Value) (ys:List Int) (p:Nat) (h:Rd .u8 w v ys) (hby:YL ys) (hl:ys.length≤1048576) :
    Calls Tryz.prog 91 #[v,.int .i64 p] w fun e w'=>tI ys p e∧w'=w:=by
 have h':=h;obtain ⟨ao,cap,rfl,h1,h2,h3⟩:=h
 by_cases hp:p<ys.length
 rotate_left
 · refine (tG w ao ys.length cap p (by omega)).mono ?_
   rintro e w' ⟨rfl,rfl⟩;exact ⟨.inl ⟨by rw [Qx (by omega)];rfl,rfl⟩,rfl⟩
 rcases h3 with rfl | ⟨b,o,rfl,hb,hc⟩
 · simp at hp
 obtain ⟨y,hy,hye⟩:=Wr hby p;have hcp:=hc p hp;rw [hye] at hcp;have hd:ys.drop p=(y:Int) :: ys.drop (p+1):=by
  rw [GE hp]
  simp only [List.getD,VM hp,OY] at hye
  rw [hye]
 by_cases h2':p+1+y≤ys.length
 · refine (rm w b o ys.length cap p y ys rfl hl hp hy h1 h2 h' hcp h2').mono ?_
   rintro e w' ⟨rfl,rfl⟩;refine ⟨.inr ⟨_,p+1+y,?_,by omega,h2',rfl⟩,rfl⟩;rw [hd]
   simp only [IK,XT]
   rw [ZY (by rw [Zv];omega),US]
 refine (Ag w b o ys.length cap p y hl hp hy hcp (by omega)).mono ?_;rintro e w' ⟨rfl,rfl⟩;refine ⟨.inl ⟨?_,rfl⟩,rfl⟩;rw [hd]
 simp only [IK,XT]
 rw [Z3 (by rw [Zv];omega)]
theorem Tryz.tF:(Tryz.prog.info? 2).map (fun i=>(i.zero,i.size,i.bytes))=some (some (.int .i64 0),1,8):=by kernel_rfl
theorem Oo (h:ZX w W) (v0 v1 v2 v3 v4 v5 v6:Value):ZX w (((((((W.setCell ⟨w.heap.size,0,none⟩ v0).setCell ⟨w.heap.size,1,none⟩ v1).setCell ⟨w.heap.size,2,none⟩ v2).setCell ⟨w.heap.size,3,none⟩ v3).setCell ⟨w.heap.size,4,none⟩ v4).setCell ⟨w.heap.size,5,none⟩ v5).setCell ⟨w.heap.size,6,none⟩ v6):=(((((((h.setCell (p:=⟨w.heap.size,0,none⟩) ZW v0).setCell (p:=⟨w.heap.size,1,none⟩) ZW v1).setCell (p:=⟨w.heap.size,2,none⟩) ZW v2).setCell (p:=⟨w.heap.size,3,none⟩) ZW v3).setCell (p:=⟨w.heap.size,4,none⟩) ZW v4).setCell (p:=⟨w.heap.size,5,none⟩) ZW v5).setCell (p:=⟨w.heap.size,6,none⟩) ZW v6)
theorem Iw {g:Nat} (hne:B≠g) (v0 v1 v2 v3 v4 v5 v6:Value) (j:Nat):World.cell? (World.drew (((((((W.setCell ⟨B,0,none⟩ v0).setCell ⟨B,1,none⟩ v1).setCell ⟨B,2,none⟩ v2).setCell ⟨B,3,none⟩ v3).setCell ⟨B,4,none⟩ v4).setCell ⟨B,5,none⟩ v5).setCell ⟨B,6,none⟩ v6)) ⟨g,j,none⟩=W.cell? ⟨g,j,none⟩:=by
 have e:∀(V:World) (a:Addr),V.drew.cell? a=V.cell? a:=fun _ _=>rfl
 rw [e]
 iterate 7 rw [ZG _ _ _ _ (by intro e;injection e with e;omega)]
theorem Dx {e:TypeId} {base:Nat} (h:Own .i64 e w base v xs) (hn:0<xs.length):∃g c,v=.slice (some ⟨g,0,none⟩) xs.length c:=by
 rcases h.2 with ⟨-,h0⟩ | ⟨g,cap,cur,rfl,-⟩
 · omega
 exact ⟨g,cap,rfl⟩
def numsL (R:List Int) (k:Nat):List Int:=(List.range k).map (Yx R)
theorem SV (R:List Int) (k:Nat):(numsL R k).length=k:=by simp [numsL]
theorem Gb (R:List Int) (k:Nat):numsL R k++[Yx R k]=numsL R (k+1):=by simp [numsL,xF]
def tE (w:World) (ys:List Int) (p:Nat) (e:Ending) (w':World):Prop :=
 ZX w w'∧((WM (ys.drop p)=none∧e=.returned (.tuple #[Py nd0,.int .i64 (-1)]))∨∃n q,WM (ys.drop p)=some (n,ys.drop q)∧p<q∧q≤ys.length∧e=.returned (.tuple #[Py n,.int .i64 (q:Int)]))
theorem NB.tD {m:Nat} {n:Nd} (h:NB W B n) (hb:Below m W W') (hl:B<m):NB W' B n:=by
 refine ⟨⟨ZB h.1.lt hb.size,(hb.cell (p:=⟨B,_,none⟩) hl).trans h.1.c0,(hb.cell (p:=⟨B,_,none⟩) hl).trans h.1.c1,(hb.cell (p:=⟨B,_,none⟩) hl).trans h.1.c2,(hb.cell (p:=⟨B,_,none⟩) hl).trans h.1.c3,(hb.cell (p:=⟨B,_,none⟩) hl).trans h.1.c4,(hb.cell (p:=⟨B,_,none⟩) hl).trans h.1.c5,(hb.cell (p:=⟨B,_,none⟩) hl).trans h.1.c6⟩,fun j=>?_⟩;rw [hb.frozen (p:=⟨B,j,none⟩) hl];exact h.2 j
theorem Af (w:World) (v:Value) (ys:List Int) (p:Nat) (h:Rd .u8 w v ys) (hby:YL ys) (hl:ys.length≤1048576) :
    Calls Tryz.prog 88 #[v,.int .i64 p] w fun e w'=>tE w ys p e w':=by
 obtain ⟨i0,hi,hz0,hz1,hz2⟩:=YH Tryz.tF;obtain ⟨ao,cap,rfl,hcc,hcm⟩:=h.len;have HR:=Z8 h;have Xe:=Z8 hby
 have B0:Hid (ZX w (w.alloc (.cells #[.string ⟨#[]⟩,.string ⟨#[]⟩,.int .i64 0,.int .i64 0,.int .i64 0,.int .i64 0,.int .i64 0] 134))):=ZR.alloc ZW _;have N0:Hid (NB (w.alloc (.cells #[.string ⟨#[]⟩,.string ⟨#[]⟩,.int .i64 0,.int .i64 0,.int .i64 0,.int .i64 0,.int .i64 0] 134)) w.heap.size nd0):=NB.new w nd0 _;clear h hby
 go_enter Tryz.func88,Tryz.ntmps88
 go_wp2_with fail
 generalize w.alloc _=w0 at *;refine (Gc w0 _ ys p (HR.out.below B0.out) Xe.out hl).mono ?_;rintro e w1 ⟨hp,hw1⟩;obtain rfl:w0=w1:=hw1.symm
 rcases hp with ⟨hp,rfl⟩ | ⟨s,q,hp,hlt,hle,rfl⟩
 · have Su:Hid (WM (ys.drop p)=none):=by show _=_;unfold WM;rw [hp]
   clear hp
   go_wp2_with fail
   refine (tH w0 _).mono ?_;rintro e w1 ⟨rfl,hw1⟩;obtain rfl:w0=w1:=hw1.symm;obtain ⟨⟨-,x0,x1,x2,x3,x4,x5,x6⟩,xf⟩:=N0.out;go_wp2;refine ZT (v:=.tuple #[Py nd0,.int .i64 (-1)]) (by simp [results,Tryz.results88,go_sem,Py,nd0,x0,x1,x2,x3,x4,x5,x6];rfl) rfl ⟨?_,.inl ⟨Su.out,rfl⟩⟩;exact Oo B0.out _ _ _ _ _ _ _
 have EG:=Z8 hp;clear hp
 go_wp2_with fail
 refine (Gc w0 _ ys q (HR.out.below B0.out) Xe.out hl).mono ?_;rintro e w1 ⟨hp,hw1⟩;obtain rfl:w0=w1:=hw1.symm
 rcases hp with ⟨hp,rfl⟩ | ⟨d,t,hp,hlt2,hle2,rfl⟩
 · have Su:Hid (WM (ys.drop p)=none):=by show _=_;unfold WM;rw [EG.out];simp only;rw [hp]
   clear hp;obtain ⟨⟨-,x0,x1,x2,x3,x4,x5,x6⟩,xf⟩:=N0.out;go_wp2;refine ZT (v:=.tuple #[Py nd0,.int .i64 (-1)]) (by simp [results,Tryz.results88,go_sem,Py,nd0,x0,x1,x2,x3,x4,x5,x6];rfl) rfl ⟨?_,.inl ⟨Su.out,rfl⟩⟩;exact Oo B0.out _ _ _ _ _ _ _
 have Pr:=Z8 hp;clear hp
 by_cases h20:t+20≤ys.length
 rotate_left
 · have Su:Hid (WM (ys.drop p)=none):=by show _=_;unfold WM;rw [EG.out];simp only;rw [Pr.out];simp only;rw [Z3 (by rw [Zv];omega)]
   have hI:(ys.length:Int)<(t:Int)+20:=by omega
   obtain ⟨⟨-,x0,x1,x2,x3,x4,x5,x6⟩,xf⟩:=N0.out;go_wp2;refine ZT (v:=.tuple #[Py nd0,.int .i64 (-1)]) (by simp [results,Tryz.results88,go_sem,Py,nd0,x0,x1,x2,x3,x4,x5,x6];rfl) rfl ⟨?_,.inl ⟨Su.out,rfl⟩⟩;exact Oo B0.out _ _ _ _ _ _ _
 have hI:¬(ys.length:Int)<(t:Int)+20:=by omega
 obtain ⟨b,o,hao,hb,hc⟩:∃b o,ao=some ⟨b,o,none⟩∧b<w.heap.size∧∀i,i<ys.length→w.cell? ⟨b,o+i,none⟩=some (.int .u8 (ys.getD i 0)):=by
  obtain ⟨BK,cap',e',-,-,h3⟩:=HR.out
  simp only [Zc] at e'
  obtain ⟨rfl,-,-⟩:=e'
  rcases h3 with h3 | ⟨b,o,rfl,hb,hc⟩
  · rw [h3] at h20;simp at h20
  exact ⟨b,o,rfl,hb,hc⟩
 subst hao;have HC:=Z8 hc;clear hc;obtain ⟨R,hR⟩:∃R,R=ys.drop t:=⟨_,rfl⟩;have HRR:=Z8 hR;clear hR;have s0:w.heap.size+1≤w0.heap.size:=N0.out.1.lt;have O0:Hid (Own .i64 2 (w0.alloc (.cells #[] 2)) (w.heap.size+1) (.slice (some ⟨w0.heap.size,0,none⟩) 0 0) (numsL R 0)):=Own.mono (Xb w0 #[] 0 ZW (ZQ _) rfl) s0;have D0:Hid (Below (w.heap.size+1) w0 (w0.alloc (.cells #[] 2))):=ZR.alloc s0 _;go_wp2
 go_loopw [10,11] (fun vo vk wr=>∃k:Nat,k≤5∧vk=.int .i64 k∧Hid (Own .i64 2 wr (w.heap.size+1) vo (numsL R k))∧Hid (Below (w.heap.size+1) w0 wr)) (fun _ i _=>5 - (intOf i).toNat)
 case atStart=>exact ⟨0,by omega,rfl,O0,D0⟩
 case round =>
  obtain ⟨k,hk,rfl,HW,HD⟩:=hrel;have sD:=ZP s0 HD.out.size
  by_cases ZL:k<5
  · have YN:(k:Int)<5:=by omega
    have hq1:t+4*k+4≤ys.length:=by omega
    have hq2:t+4*k<cap:=by omega
    go_wp2_with fail
    have HN:Hid (Yx R k=((YV ((ys.drop (t+4*k)).take 4):Nat):Int)):=by show _=_;unfold Yx;rw [HRR.out,US]
    refine (WU _ b (o+(t+4*k)) 4 _ ((ys.drop (t+4*k)).take 4) ?n1 ?n2 ?n3 ?n4 (by omega)).mono ?_
    case n1=>rw [YC,Zv];omega
    case n2=>exact fun x hx=>Xe.out x (Wf (Vp hx))
    case n3 =>
     intro i hi;have:=SW HC.out (t+4*k) 4 hq1 i hi;rw [HD.out.cell (p:=⟨b,o+(t+4*k)+i,none⟩) (by show b<_;omega),B0.out.cell (p:=⟨b,o+(t+4*k)+i,none⟩) hb];exact this
    case n4=>exact Vd (fun x hx=>Xe.out x (Wf (Vp hx))) (by rw [YC];omega)
    rintro e w2 ⟨rfl,q2,hw2⟩;subst hw2;rw [←HN.out];have OW:Hid ((wr.drewN q2).ownsRow (w.heap.size+1) 2 1 u10 k ((numsL R k).map (Value.int .i64))):=by have:=HW.out.drewN q2;unfold Own at this;rw [SV] at this;exact this
    have D2:=Z8 (HD.out.trans ((below_drewN' wr q2).mono sD));have s2:w.heap.size+1≤(wr.drewN q2).heap.size:=sD;clear HN HW HD;generalize wr.drewN q2=w2 at *;have F:=Z8 (Gb R k);generalize Yx R k=zk at *
    go_wp2_with (at_builtin;go_must (refine XS _ rfl _ _ 112 rfl (w.heap.size+1) 2 i0 (.int .i64 0) 1 8 Tryz.underlying112 hi hz0 hz1 hz2 rfl (by decide) _ _ _ rfl (OW.out.alloc _) ⟨w2.heap.size,0,none⟩ 1 1 [.int .i64 zk] rfl rfl (Vy _ _ _) (by intro u hu;simp at hu;subst hu;rfl) ?_ ?_ ?_ ?_))
    · unfold maxLen;omega
    · omega
    · simp;omega
    intro v3 w3 ho3 hg3 _;have O3:Hid (Own .i64 2 w3 (w.heap.size+1) v3 (numsL R (k+1))):=by
     refine WI (q:=k+1) (ys:=numsL R k++[zk]) (by rw [YE,SV];rfl) F.out.symm ?_;rw [WX];exact ho3
    have D3:=Z8 ((D2.out.alloc s2 _).grown hg3 (by simp;omega) (fun q hq=>(ZO OW.out q hq).1));clear ho3 hg3 OW D2 F;go_wp2;exact ⟨⟨k+1,by omega,by go_num,O3,D3⟩,by simp [intOf];omega⟩
  have hk5:k=5:=by omega
  subst hk5;obtain ⟨g,c,hv⟩:=Dx HW.out (by rw [SV];omega);rw [SV] at hv;subst hv;have I:∀j,j<5→wr.cell? ⟨g,j,none⟩=some (.int .i64 (Yx R j)):=by
   intro j hj;have:=Va HW.out (g:=g) rfl j (.int .i64 (Yx R j)) (by simp [numsL,hj]);rw [GM,Wn] at this;exact this
  have hgl:=(HW.out.lt g rfl).1;have k0:=I 0 (by omega);have k1:=I 1 (by omega);have k2:=I 2 (by omega);have k3:=I 3 (by omega);have k4:=I 4 (by omega);obtain ⟨⟨-,x0,x1,x2,x3,x4,x5,x6⟩,xf⟩:=N0.out.tD HD.out (P6 _);have Ga:Hid (WM (ys.drop p)=some (⟨s,d,Yx R 0,Yx R 1,Yx R 2,Yx R 3,Yx R 4⟩,ys.drop (t+20))):=by
   show _=_;unfold WM;rw [EG.out];simp only;rw [Pr.out];simp only;rw [ZY (by rw [Zv];omega),US,HRR.out]
  have HB:=Z8 (B0.out.trans (HD.out.mono (Pb _)));have hwr:Hid (IntKind.i64.wrap ((t:Int)+20)=(t:Int)+20):=by show _=_;rw [Xf];omega
  clear I;generalize Yx R 0=z0 at *;generalize Yx R 1=z1 at *;generalize Yx R 2=z2 at *;generalize Yx R 3=z3 at *;generalize Yx R 4=z4 at *;go_wp2;refine ZF (S:=fun W=>W.cell? ⟨g,0,none⟩=some (.int .i64 z0)∧W.cell? ⟨g,1,none⟩=some (.int .i64 z1)∧W.cell? ⟨g,2,none⟩=some (.int .i64 z2)∧W.cell? ⟨g,3,none⟩=some (.int .i64 z3)∧W.cell? ⟨g,4,none⟩=some (.int .i64 z4)) (by kernel_rfl) (⟨k0,k1,k2,k3,k4⟩) (fun Z9=>?_)
  iterate 19 (refine ZV ?_ (by kernel_rfl) (fun _=>id) Z9 ?_ ?_;rotate_left;· intro w9 Z4;obtain ⟨y0,y1,y2,y3,y4⟩:=Z4;go_simp;try with_reducible rfl)
  refine ZV (.int .i64 ((t:Int)+20)) (by kernel_rfl) (fun _=>id) Z9 ?_ ?_
  · intro w9 Z4;go_simp;exact hwr.out
  refine ZS 20 rfl (by kernel_rfl) (fun K hK=>?_);go_simp;refine hK.out _ _ ?sk (fun ZI=>?_)
  case sk =>
   have hne:w.heap.size≠g:=by omega
   exact ⟨(Iw hne _ _ _ _ _ _ _ 0).trans k0,(Iw hne _ _ _ _ _ _ _ 1).trans k1,(Iw hne _ _ _ _ _ _ _ 2).trans k2,(Iw hne _ _ _ _ _ _ _ 3).trans k3,(Iw hne _ _ _ _ _ _ _ 4).trans k4⟩
  clear hK K Z9;have Z9:=ZI;refine ZV ?_ (by kernel_rfl) (fun _=>id) Z9 ?_ ?_
  rotate_left
  · intro w9 Z4;go_simp;try with_reducible rfl
  refine ZM (by kernel_rfl) ?_ _
  try simp only [Act.put,Zk,Zj,Zi]
  clear Z9 ZI;go_wp2;refine ZT (v:=.tuple #[Py ⟨s,d,z0,z1,z2,z3,z4⟩,.int .i64 ((t+20:Nat):Int)]) (by simp [results,Tryz.results88,go_sem,Py,x0,x1,x2,x3,x4,x5,x6]) rfl ⟨?_,.inr ⟨_,t+20,Ga.out,by omega,h20,rfl⟩⟩;exact (Oo HB.out _ _ _ _ _ _ _).trans ((below_drewN' _ 1).mono (Oo HB.out _ _ _ _ _ _ _).size)
def SX (w:World) (ys:List Int) (W:World) (v:Value) (es:List Ef) (p c:Nat):Prop :=
 Qp (MQ ys) (ys.drop 6) es (ys.drop p) c∧tM es∧ZX w W∧Zx W w.heap.size∧B2 W (w.heap.size+1) (zX ys) v∧Xr 141 W (w.heap.size+2) v es
theorem SX.later (h:SX w ys W v es p c) (hb:ZX W W'):SX w ys W' v es p c:=by
 obtain ⟨t1,t2,t3,t4,t5,t6⟩:=h;exact ⟨t1,t2,Ye t3 hb,t4.turn (grown_of hb none) (by simp),t5.turn (grown_of hb none) (by simp),t6.below hb⟩
theorem SX.push (h:SX w ys W v es p (c+1)) (hb:YL ys) (hr:PN (ys.drop p)=some (n,ys.drop q)) (hg:W.grownBy W3 v.ownBlock) (ho:W3.ownsRow (w.heap.size+2) 141 8 v3 (es.length+1) (Q9 es++Pp n)) :
    SX w ys (W3.setCell ⟨w.heap.size+1,1,none⟩ v3) v3 (es++[n]) q c:=by
 obtain ⟨t1,t2,t3,t4,t5,t6⟩:=h;have hne:∀k,k<w.heap.size+2→some k≠v.ownBlock:=fun k hk e=>by have:=(ZO t6 k e.symm).1;omega
 have hlo:∀g,v.ownBlock=some g→w.heap.size≤g:=fun g e=>by have:=(ZO t6 g e).1;omega
 have b6:=t5.turn hg (hne _ (by omega));have hby:=Yw hb p;have hsz:=KR hr hby
 refine ⟨t1.step hby hr,t2.snoc hsz.2.2.1 hsz.2.2.2,(t3.grown hg t3.size hlo).setCell (p:=⟨w.heap.size+1,1,none⟩) (Pb _) _,(t4.turn hg (hne _ (by omega))).set (by omega) _ _,⟨by simpa using b6.1,(ZG _ _ _ _ (by intro e;injection e with _ e;omega)).trans b6.2.1,Ys _ _ _ b6.2.2.1,fun j=>by rw [Yb];exact b6.2.2.2 j⟩,?_⟩;have:Xr 141 W3 (w.heap.size+2) v3 (es++[n]):=by unfold Xr;rw [Iy,YE];exact ho
 exact Xr.ZK this (by show w.heap.size+1<w.heap.size+2;omega) _
structure EW (W:World) (B:Nat) (e:Ef):Prop where
 lt:B<W.heap.size
 c0:W.cell? ⟨B,0,none⟩=some (.bool e.del)
 c1:W.cell? ⟨B,1,none⟩=some (.string e.nd.path)
 c2:W.cell? ⟨B,2,none⟩=some (.string e.nd.data)
 c3:W.cell? ⟨B,3,none⟩=some (.int .i64 e.nd.Ym)
 c4:W.cell? ⟨B,4,none⟩=some (.int .i64 e.nd.ZD)
 c5:W.cell? ⟨B,5,none⟩=some (.int .i64 e.nd.cz)
 c6:W.cell? ⟨B,6,none⟩=some (.int .i64 e.nd.mz)
 c7:W.cell? ⟨B,7,none⟩=some (.int .i64 e.nd.pz)
 fz:∀j,W.frozen? ⟨B,j,none⟩=false
theorem EW.new (w:World) (e:Ef) (t:TypeId):EW (w.alloc (.cells #[.bool e.del,.string e.nd.path,.string e.nd.data,.int .i64 e.nd.Ym,.int .i64 e.nd.ZD,.int .i64 e.nd.cz,.int .i64 e.nd.mz,.int .i64 e.nd.pz] t)) w.heap.size e :=
 ⟨by simp,by simp,by simp,by simp,by simp,by simp,by simp,by simp,by simp,fun j=>(by go_simp)⟩
theorem EW.later (h:EW W B e) (hb:ZX W W'):EW W' B e :=
 ⟨ZB h.lt hb.size,(hb.cell (p:=⟨B,_,none⟩) h.lt).trans h.c0,(hb.cell (p:=⟨B,_,none⟩) h.lt).trans h.c1,(hb.cell (p:=⟨B,_,none⟩) h.lt).trans h.c2,(hb.cell (p:=⟨B,_,none⟩) h.lt).trans h.c3,(hb.cell (p:=⟨B,_,none⟩) h.lt).trans h.c4,(hb.cell (p:=⟨B,_,none⟩) h.lt).trans h.c5,(hb.cell (p:=⟨B,_,none⟩) h.lt).trans h.c6,(hb.cell (p:=⟨B,_,none⟩) h.lt).trans h.c7,fun j=>(hb.frozen (p:=⟨B,j,none⟩) h.lt).trans (h.fz j)⟩
theorem Y7 (h:W.cell? ⟨B,i,none⟩=some x):(W.setCell ⟨B,i,none⟩ u).cell? ⟨B,i,none⟩=some u:=Ys _ _ _ h
theorem Z5 {j:Nat} (h:W.cell? ⟨B,j,none⟩=some x) (hij:i≠j):(W.setCell ⟨B,i,none⟩ u).cell? ⟨B,j,none⟩=some x:=(ZG _ _ _ _ (by intro e;injection e with _ e;omega)).trans h
theorem EW.tL (h:EW W B e) (n:Nd):EW (((((((W.setCell ⟨B,1,none⟩ (.string n.path)).setCell ⟨B,2,none⟩ (.string n.data)).setCell ⟨B,3,none⟩ (.int .i64 n.Ym)).setCell ⟨B,4,none⟩ (.int .i64 n.ZD)).setCell ⟨B,5,none⟩ (.int .i64 n.cz)).setCell ⟨B,6,none⟩ (.int .i64 n.mz)).setCell ⟨B,7,none⟩ (.int .i64 n.pz)) B ⟨e.del,n⟩:=by
 refine ⟨by simpa using h.lt,?_,?_,?_,?_,?_,?_,?_,?_,fun j=>by simp only [Yb];exact h.fz j⟩
 · exact (Z5 (Z5 (Z5 (Z5 (Z5 (Z5 (Z5 h.c0 (by omega)) (by omega)) (by omega)) (by omega)) (by omega)) (by omega)) (by omega))
 · exact (Z5 (Z5 (Z5 (Z5 (Z5 (Z5 (Y7 h.c1) (by omega)) (by omega)) (by omega)) (by omega)) (by omega)) (by omega))
 · exact (Z5 (Z5 (Z5 (Z5 (Z5 (Y7 (Z5 h.c2 (by omega))) (by omega)) (by omega)) (by omega)) (by omega)) (by omega))
 · exact (Z5 (Z5 (Z5 (Z5 (Y7 (Z5 (Z5 h.c3 (by omega)) (by omega))) (by omega)) (by omega)) (by omega)) (by omega))
 · exact (Z5 (Z5 (Z5 (Y7 (Z5 (Z5 (Z5 h.c4 (by omega)) (by omega)) (by omega))) (by omega)) (by omega)) (by omega))
 · exact (Z5 (Z5 (Y7 (Z5 (Z5 (Z5 (Z5 h.c5 (by omega)) (by omega)) (by omega)) (by omega))) (by omega)) (by omega))
 · exact (Z5 (Y7 (Z5 (Z5 (Z5 (Z5 (Z5 h.c6 (by omega)) (by omega)) (by omega)) (by omega)) (by omega))) (by omega))
 exact (Y7 (Z5 (Z5 (Z5 (Z5 (Z5 (Z5 h.c7 (by omega)) (by omega)) (by omega)) (by omega)) (by omega)) (by omega)))
theorem EW.pF (h:EW W B e) (s:ByteArray):EW ((((((((W.setCell ⟨B,0,none⟩ (.bool true)).setCell ⟨B,1,none⟩ (.string s)).setCell ⟨B,2,none⟩ (.string ⟨#[]⟩)).setCell ⟨B,3,none⟩ (.int .i64 0)).setCell ⟨B,4,none⟩ (.int .i64 0)).setCell ⟨B,5,none⟩ (.int .i64 0)).setCell ⟨B,6,none⟩ (.int .i64 0)).setCell ⟨B,7,none⟩ (.int .i64 0)) B ⟨true,tN s⟩:=by
 refine ⟨by simpa using h.lt,?_,?_,?_,?_,?_,?_,?_,?_,fun j=>by simp only [Yb];exact h.fz j⟩
 · exact (Z5 (Z5 (Z5 (Z5 (Z5 (Z5 (Z5 (Y7 h.c0) (by omega)) (by omega)) (by omega)) (by omega)) (by omega)) (by omega)) (by omega))
 · exact (Z5 (Z5 (Z5 (Z5 (Z5 (Z5 (Y7 (Z5 h.c1 (by omega))) (by omega)) (by omega)) (by omega)) (by omega)) (by omega)) (by omega))
 · exact (Z5 (Z5 (Z5 (Z5 (Z5 (Y7 (Z5 (Z5 h.c2 (by omega)) (by omega))) (by omega)) (by omega)) (by omega)) (by omega)) (by omega))
 · exact (Z5 (Z5 (Z5 (Z5 (Y7 (Z5 (Z5 (Z5 h.c3 (by omega)) (by omega)) (by omega))) (by omega)) (by omega)) (by omega)) (by omega))
 · exact (Z5 (Z5 (Z5 (Y7 (Z5 (Z5 (Z5 (Z5 h.c4 (by omega)) (by omega)) (by omega)) (by omega))) (by omega)) (by omega)) (by omega))
 · exact (Z5 (Z5 (Y7 (Z5 (Z5 (Z5 (Z5 (Z5 h.c5 (by omega)) (by omega)) (by omega)) (by omega)) (by omega))) (by omega)) (by omega))
 · exact (Z5 (Y7 (Z5 (Z5 (Z5 (Z5 (Z5 (Z5 h.c6 (by omega)) (by omega)) (by omega)) (by omega)) (by omega)) (by omega))) (by omega))
 exact (Y7 (Z5 (Z5 (Z5 (Z5 (Z5 (Z5 (Z5 h.c7 (by omega)) (by omega)) (by omega)) (by omega)) (by omega)) (by omega)) (by omega)))
theorem ow (h:Zx W k) (ob:Obj):((((W.setCell ⟨k,0,none⟩ (.bool false)).setCell ⟨k,1,none⟩ (.int .i64 0)).setCell ⟨k,2,none⟩ (.slice none 0 0)).alloc ob).cell? ⟨k,0,none⟩=some (.bool false)∧((((W.setCell ⟨k,0,none⟩ (.bool false)).setCell ⟨k,1,none⟩ (.int .i64 0)).setCell ⟨k,2,none⟩ (.slice none 0 0)).alloc ob).cell? ⟨k,1,none⟩=some (.int .i64 0)∧((((W.setCell ⟨k,0,none⟩ (.bool false)).setCell ⟨k,1,none⟩ (.int .i64 0)).setCell ⟨k,2,none⟩ (.slice none 0 0)).alloc ob).cell? ⟨k,2,none⟩=some (.slice none 0 0):=by
 have E:∀j:Nat,((((W.setCell ⟨k,0,none⟩ (.bool false)).setCell ⟨k,1,none⟩ (.int .i64 0)).setCell ⟨k,2,none⟩ (.slice none 0 0)).alloc ob).cell? ⟨k,j,none⟩=(((W.setCell ⟨k,0,none⟩ (.bool false)).setCell ⟨k,1,none⟩ (.int .i64 0)).setCell ⟨k,2,none⟩ (.slice none 0 0)).cell? ⟨k,j,none⟩:=fun j=>(ZR.alloc ZW ob).cell (p:=⟨k,j,none⟩) (by simpa using h.1)
 refine ⟨(E 0).trans ?_,(E 1).trans ?_,(E 2).trans ?_⟩
 · exact Z5 (Z5 (Y7 h.2.1) (by omega)) (by omega)
 · exact Z5 (Y7 (Z5 h.2.2.1 (by omega))) (by omega)
 exact Y7 (Z5 (Z5 h.2.2.2.1 (by omega)) (by omega))
theorem KP (w:World) (v:Value) (ys:List Int) (h:Rd .u8 w v ys) (hby:YL ys) (hl:ys.length≤1048576) :
    Calls Tryz.prog 61 #[v] w fun e w'=>U6 w ys e w':=by
 obtain ⟨i0,hi,hz0,hz1,hz2⟩:=YH Tryz.ve;obtain ⟨ao,cap,rfl,hcc,hcm⟩:=h.len;have HR:=Z8 h;have Xe:=Z8 hby
 have B0:Hid (ZX w (w.alloc (.cells #[.bool false,.int .i64 0,.slice none 0 0] 107))):=ZR.alloc ZW _;have Z0:Hid (Zx (w.alloc (.cells #[.bool false,.int .i64 0,.slice none 0 0] 107)) w.heap.size):=⟨by simp,(by go_simp),(by go_simp),(by go_simp),fun j=>(by go_simp)⟩;clear h hby
 go_enter Tryz.func61,Tryz.ntmps61
 by_cases h6:ys.length<6
 · have pU:(ys.length:Int)<6:=by omega
   have HF:Hid (U6 w ys (.returned (.agg #[.bool false,.int .i64 0,.slice none 0 0])) (w.alloc (.cells #[.bool false,.int .i64 0,.slice none 0 0] 107))):=⟨B0.out,.inl ⟨RI h6,rfl⟩⟩;go_wp2;refine ZT (v:=.agg #[.bool false,.int .i64 0,.slice none 0 0]) (by simp [results,Tryz.results61,go_sem]) rfl HF.out
 have pU:¬(ys.length:Int)<6:=by omega
 obtain ⟨b,o,hao,hb,hc⟩:∃b o,ao=some ⟨b,o,none⟩∧b<w.heap.size∧∀i,i<ys.length→w.cell? ⟨b,o+i,none⟩=some (.int .u8 (ys.getD i 0)):=by
  obtain ⟨BK,cap',e',-,-,h3⟩:=HR.out
  simp only [Zc] at e'
  obtain ⟨rfl,-,-⟩:=e'
  rcases h3 with h3 | ⟨b,o,rfl,hb,hc⟩
  · rw [h3] at h6;simp at h6
  exact ⟨b,o,rfl,hb,hc⟩
 subst hao;have HC:=Z8 hc;clear hc;have hc4:4≤cap:=by omega
 go_wp2_with fail
 have hs0:(w.alloc (.cells #[.bool false,.int .i64 0,.slice none 0 0] 107)).heap.size=w.heap.size+1:=by simp
 generalize w.alloc _=W0 at *;have l:Hid (∀i,i<4→W0.cell? ⟨b,o+i,none⟩=some (.int .u8 ((ys.take 4).getD i 0))):=by
  intro i hi;rw [B0.out.cell (p:=⟨b,o+i,none⟩) hb,HC.out i (by omega)]
  simp [List.getD,Sx hi]
 refine (WU W0 b o 4 _ (ys.take 4) ?n1 ?n2 l.out ?n4 (by omega)).mono ?_
 case n1=>rw [YC];omega
 case n2=>exact fun x hx=>Xe.out x (Vp hx)
 case n4=>exact Vd (fun x hx=>Xe.out x (Vp hx)) (by rw [YC];omega)
 rintro e w1 ⟨rfl,q1,hw1⟩;have D1:Hid (ZX W0 w1):=by rw [hw1];exact below_drewN' W0 q1
 have hs1:w1.heap.size=W0.heap.size:=by rw [hw1];rfl
 clear hw1 l;rw [show YV (ys.take 4)=zX ys from rfl];have Z1:=Z8 (Z0.out.turn (grown_of D1.out none) (by simp));have Z':=Z8 (Ye B0.out D1.out);clear D1 Z0
 go_wp2_with fail
 have ba:ZX w1 (w1.alloc (.cells #[.int .i64 (zX ys:Int),.slice none 0 0] 105)):=ZR.alloc ZW _;have X2:Hid (B2 (w1.alloc (.cells #[.int .i64 (zX ys:Int),.slice none 0 0] 105)) (w.heap.size+1) (zX ys) (.slice none 0 0)):=by
  rw [←hs0,←hs1];exact ⟨by simp,(by go_simp),(by go_simp),fun j=>(by go_simp)⟩
 have Z2:=Z8 (Z1.out.turn (grown_of ba none) (by simp));have O:=Z8 (Ye Z'.out ba);clear ba Z1 Z' hs0 hs1;generalize w1.alloc _=w2 at *;have LS:Hid (∀i,i<2→w2.cell? ⟨b,o+4+i,none⟩=some (.int .u8 (((ys.drop 4).take 2).getD i 0))):=by
  intro i hi;rw [O.out.cell (p:=⟨b,o+4+i,none⟩) hb,TI,HC.out (4+i) (by omega)]
  simp [List.getD,Sx hi]
 refine (WU w2 b (o+4) 2 _ ((ys.drop 4).take 2) ?m1 ?m2 LS.out ?m4 (by omega)).mono ?_
 case m1=>rw [YC,Zv];omega
 case m2=>exact fun x hx=>Xe.out x (Wf (Vp hx))
 case m4=>exact Vd (fun x hx=>Xe.out x (Wf (Vp hx))) (by rw [YC];omega)
 rintro e w3 ⟨rfl,q3,hw3⟩;have D3:ZX w2 w3:=by rw [hw3];exact below_drewN' w2 q3
 have S3:Hid (SX w ys w3 (.slice none 0 0) [] 6 (MQ ys - 0)):=⟨Qp.start _ _,(fun n hn=>by cases hn),Ye O.out D3,Z2.out.turn (grown_of D3 none) (by simp),X2.out.turn (grown_of D3 none) (by simp),Yf _ _ _ _⟩;have hC:=(Aj (Yw Xe.out 4)).2;rw [show YV ((ys.drop 4).take 2)=MQ ys from rfl] at *;clear hw3 D3 LS X2 Z2 O;generalize Q:MQ ys=C at *;have Y:=Z8 Q;clear Q;go_wp2
 go_loopw [5,6] (fun va vi wr=>∃(i p:Nat) (v:Value) (es:List Ef),i≤C∧p≤ys.length∧va=.int .i64 p∧vi=.int .i64 i∧Hid (SX w ys wr v es p (C - i))) (fun _ i _=>C - (intOf i).toNat)
 case atStart=>exact ⟨0,6,_,_,ZQ _,by omega,rfl,rfl,S3⟩
 case round =>
  clear S3;obtain ⟨i,p,v,es,ZE,hp,rfl,rfl,D⟩:=hrel;obtain ⟨va,vc,hva⟩:=D.out.2.2.2.2.2.slice;subst hva;have hns:es.length≤1048576:=by have:=D.out.1.2;simp only [Zv] at this;omega
  by_cases hlt:i<C
  · have YN:(i:Int)<(C:Int):=by omega
    obtain ⟨c,hc⟩:∃c,C - i=c+1:=⟨C - i - 1,by omega⟩;rw [hc] at D;have yi:Hid (C - (i+1)=c):=by show _=_;omega
    clear hc;have Su:Hid (PN (ys.drop p)=none→Wh ys=none):=fun hr=>Ix (by rw [Y.out];exact (Y.out ▸ D.out.1).bad hr)
    by_cases L:p<ys.length
    rotate_left
    · have sh:(ys.length:Int)≤(p:Int):=by omega
      have Z:=Z8 (Su.out (by rw [Qx (by omega)];rfl));obtain ⟨-,z0,z1,z2,zf⟩:=D.out.2.2.2.1;have f0:=zf 0;have f1:=zf 1;have f2:=zf 2;have HF:Hid (U6 w ys (.returned (.agg #[.bool false,.int .i64 0,.slice none 0 0])) (((wr.setCell ⟨w.heap.size,0,none⟩ (.bool false)).setCell ⟨w.heap.size,1,none⟩ (.int .i64 0)).setCell ⟨w.heap.size,2,none⟩ (.slice none 0 0))):=⟨((D.out.2.2.1.setCell (p:=⟨w.heap.size,0,none⟩) ZW _).setCell (p:=⟨w.heap.size,1,none⟩) ZW _).setCell (p:=⟨w.heap.size,2,none⟩) ZW _,.inl ⟨Z.out,rfl⟩⟩;clear zf;go_wp2;refine ZT (v:=.agg #[.bool false,.int .i64 0,.slice none 0 0]) (by simp [results,Tryz.results61,go_sem,z0,z1,z2]) rfl HF.out
    have sh:(p:Int)<(ys.length:Int):=by omega
    obtain ⟨y,hy,hye⟩:=Wr Xe.out p;have HD:Hid (ys.drop p=(y:Int) :: ys.drop (p+1)):=by
     show _=_;rw [GE L]
     simp only [List.getD,VM L,OY] at hye
     rw [hye]
    have rX:Hid (∀W,ZX w W→W.cell? ⟨b,o+p,none⟩=some (.int .u8 (y:Int))):=fun W hW=>by rw [hW.cell (p:=⟨b,o+p,none⟩) hb,HC.out p L,hye]
    clear hye;have D2:Hid (SX w ys (wr.alloc (.cells #[.bool false,.string ⟨#[]⟩,.string ⟨#[]⟩,.int .i64 0,.int .i64 0,.int .i64 0,.int .i64 0,.int .i64 0] 141)) (.slice va es.length vc) es p (c+1)):=D.out.later (ZR.alloc ZW _);have E2:Hid (EW (wr.alloc (.cells #[.bool false,.string ⟨#[]⟩,.string ⟨#[]⟩,.int .i64 0,.int .i64 0,.int .i64 0,.int .i64 0,.int .i64 0] 141)) wr.heap.size pP):=EW.new wr pP _;have cp:=rX.out _ D2.out.2.2.1;have BA:Hid (ZX wr (wr.alloc (.cells #[.bool false,.string ⟨#[]⟩,.string ⟨#[]⟩,.int .i64 0,.int .i64 0,.int .i64 0,.int .i64 0,.int .i64 0] 141))):=ZR.alloc ZW _
    by_cases h1:y=1
    · subst h1
      go_wp2_with fail
      rename_i K3 a3 hx K2 a2 K1 a1 K0 a0;have Dw:Hid _:=a2;clear a2 cp;generalize wr.alloc _=wA at *;have hm:=Af wA _ ys (p+1) (HR.out.below D2.out.2.2.1) Xe.out hl;rw [show ((p+1:Nat):Int)=(p:Int)+1 by omega] at hm;refine hm.mono ?_;clear hm;rintro e w1 ⟨b1,Qr⟩;have E3:=Z8 (E2.out.later b1);have BW:=Z8 (Ye BA.out b1);have sw:=BW.out.size;clear b1 E2 D2 BA;have key:∀n:Nd,Hid (EW ((((((((w1.setCell ⟨wr.heap.size,1,none⟩ (.string n.path)).setCell ⟨wr.heap.size,2,none⟩ (.string n.data)).setCell ⟨wr.heap.size,3,none⟩ (.int .i64 n.Ym)).setCell ⟨wr.heap.size,4,none⟩ (.int .i64 n.ZD)).setCell ⟨wr.heap.size,5,none⟩ (.int .i64 n.cz)).setCell ⟨wr.heap.size,6,none⟩ (.int .i64 n.mz)).setCell ⟨wr.heap.size,7,none⟩ (.int .i64 n.pz)).alloc (.cells #[.string n.path,.string n.data,.int .i64 n.Ym,.int .i64 n.ZD,.int .i64 n.cz,.int .i64 n.mz,.int .i64 n.pz] 134)) wr.heap.size ⟨false,n⟩)∧Hid (SX w ys ((((((((w1.setCell ⟨wr.heap.size,1,none⟩ (.string n.path)).setCell ⟨wr.heap.size,2,none⟩ (.string n.data)).setCell ⟨wr.heap.size,3,none⟩ (.int .i64 n.Ym)).setCell ⟨wr.heap.size,4,none⟩ (.int .i64 n.ZD)).setCell ⟨wr.heap.size,5,none⟩ (.int .i64 n.cz)).setCell ⟨wr.heap.size,6,none⟩ (.int .i64 n.mz)).setCell ⟨wr.heap.size,7,none⟩ (.int .i64 n.pz)).alloc (.cells #[.string n.path,.string n.data,.int .i64 n.Ym,.int .i64 n.ZD,.int .i64 n.cz,.int .i64 n.mz,.int .i64 n.pz] 134)) (.slice va es.length vc) es p (c+1)):=by
       intro n;refine ⟨(E3.out.tL n).later (ZR.alloc ZW _),D.out.later (xO ?_ (by simp;omega) _)⟩;exact (((((((BW.out.setCell (p:=⟨wr.heap.size,1,none⟩) ZW _).setCell (p:=⟨wr.heap.size,2,none⟩) ZW _).setCell (p:=⟨wr.heap.size,3,none⟩) ZW _).setCell (p:=⟨wr.heap.size,4,none⟩) ZW _).setCell (p:=⟨wr.heap.size,5,none⟩) ZW _).setCell (p:=⟨wr.heap.size,6,none⟩) ZW _).setCell (p:=⟨wr.heap.size,7,none⟩) ZW _)
      have HKEY:=Z8 key;clear key;obtain ⟨el,e0,e1,e2,e3,e4,e5,e6,e7,ef⟩:=E3.out
      rcases Qr with ⟨hr,rfl⟩ | ⟨n,q,hr,hpq,hq,rfl⟩
      · have Z:Hid (Wh ys=none):=Su.out (by rw [HD.out];simp [PN,hr])
        obtain ⟨E5,D5⟩:=HKEY.out nd0;clear hr HKEY;unfold Py;go_wp2;refine Dw.out _ _ ?_;clear el e0 e1 e2 e3 e4 e5 e6 e7 ef Dw BW sw E3;generalize (((((((w1.setCell _ _).setCell _ _).setCell _ _).setCell _ _).setCell _ _).setCell _ _).setCell _ _).alloc _=w5 at *;have cp:=rX.out w5 D5.out.2.2.1;obtain ⟨-,z0,z1,z2,zf⟩:=D5.out.2.2.2.1;have f0:=zf 0;have f1:=zf 1;have f2:=zf 2;have HF:Hid (U6 w ys (.returned (.agg #[.bool false,.int .i64 0,.slice none 0 0])) (((w5.setCell ⟨w.heap.size,0,none⟩ (.bool false)).setCell ⟨w.heap.size,1,none⟩ (.int .i64 0)).setCell ⟨w.heap.size,2,none⟩ (.slice none 0 0))):=⟨((D5.out.2.2.1.setCell (p:=⟨w.heap.size,0,none⟩) ZW _).setCell (p:=⟨w.heap.size,1,none⟩) ZW _).setCell (p:=⟨w.heap.size,2,none⟩) ZW _,.inl ⟨Z.out,rfl⟩⟩;clear zf;go_wp2;refine ZT (v:=.agg #[.bool false,.int .i64 0,.slice none 0 0]) (by simp [results,Tryz.results61,go_sem,z0,z1,z2]) rfl HF.out
      have Ua:Hid (PN (ys.drop p)=some (⟨false,n⟩,ys.drop q)):=by show _=_;rw [HD.out];simp [PN,hr]
      obtain ⟨E5,D5⟩:=HKEY.out n;clear hr HKEY;unfold Py;go_wp2;refine Dw.out _ _ ?_;clear el e0 e1 e2 e3 e4 e5 e6 e7 ef Dw BW sw E3;generalize (((((((w1.setCell _ _).setCell _ _).setCell _ _).setCell _ _).setCell _ _).setCell _ _).setCell _ _).alloc _=w5 at *;have cp:=rX.out w5 D5.out.2.2.1;obtain ⟨n8,T⟩:∃n8:Ef,n8=⟨false,n⟩:=⟨_,rfl⟩;rw [←T] at E5 Ua;clear T;have D6:Hid (SX w ys (w5.alloc (.cells #[.bool n8.del,.string n8.nd.path,.string n8.nd.data,.int .i64 n8.nd.Ym,.int .i64 n8.nd.ZD,.int .i64 n8.nd.cz,.int .i64 n8.nd.mz,.int .i64 n8.nd.pz] 141)) (.slice va es.length vc) es p (c+1)):=D5.out.later (ZR.alloc ZW _);have N6:Hid (∀j u,(Pp n8)[j]?=some u→(w5.alloc (.cells #[.bool n8.del,.string n8.nd.path,.string n8.nd.data,.int .i64 n8.nd.Ym,.int .i64 n8.nd.ZD,.int .i64 n8.nd.cz,.int .i64 n8.nd.mz,.int .i64 n8.nd.pz] 141)).cell? ((⟨w5.heap.size,0,none⟩:Addr).add j)=some u):=UJ _ _ _;obtain ⟨el,e0,e1,e2,e3,e4,e5,e6,e7,-⟩:=E5.out;obtain ⟨-,b0,b1,bf⟩:=D5.out.2.2.2.2.1;have oF:¬(q:Int)<0:=by omega
      have s6:=D6.out.2.2.1.size;have ZZ:=D5.out.2.2.2.2.1.1
      go_wp2_with (at_builtin;go_must (refine XS _ rfl _ _ 103 rfl (w.heap.size+2) 141 i0 (.agg #[.bool false,.string ByteArray.empty,.string ByteArray.empty,.int .i64 0,.int .i64 0,.int .i64 0,.int .i64 0,.int .i64 0]) 8 80 Tryz.underlying103 hi hz0 hz1 hz2 rfl (by decide) _ _ _ rfl D6.out.2.2.2.2.2 ⟨w5.heap.size,0,none⟩ 1 1 (Pp n8) rfl rfl N6.out (QZ n8) ?_ ?_ ?_ ?_))
      · unfold maxLen;omega
      · omega
      · first | omega | (simp;omega)
      intro v7 w7 yb BI _;have D7:=Z8 (D6.out.push Xe.out Ua.out BI yb);obtain ⟨a7,q7,hv7⟩:=D7.out.2.2.2.2.2.slice;rw [show (es++[n8]).length=es.length+1 by simp] at hv7;subst hv7;obtain ⟨-,-,c7,ff⟩:=D6.out.2.2.2.2.1.turn BI (fun e=>by have:=(ZO D6.out.2.2.2.2.2 _ e.symm).1;omega);have f7:=ff 1;clear yb BI ff e0 e1 e2 e3 e4 e5 e6 e7 b0 b1 bf D5 D6 E5 N6 Ua el;go_wp2;exact ⟨⟨i+1,q,_,_,by omega,hq,rfl,by go_num,(by rw [yi.out];exact D7)⟩,by simp [intOf];omega⟩
    have h1b:((y:Int) == 1)=false:=Xz.2 (by omega)
    by_cases h2:y=2
    · subst h2
      go_wp2_with fail
      rename_i K3 a3 hx K2 a2 K1 a1 K0 a0;have Dw:Hid _:=a2;clear a2 cp;generalize wr.alloc _=wA at *;have hm:=Gc wA _ ys (p+1) (HR.out.below D2.out.2.2.1) Xe.out hl;rw [show ((p+1:Nat):Int)=(p:Int)+1 by omega] at hm;refine hm.mono ?_;clear hm;rintro e w1 ⟨Qr,hw1⟩;obtain rfl:wA=w1:=hw1.symm;obtain ⟨el,e0,e1,e2,e3,e4,e5,e6,e7,ef⟩:=E2.out
      rcases Qr with ⟨hr,rfl⟩ | ⟨s,q,hr,hpq,hq,rfl⟩
      · have Z:Hid (Wh ys=none):=Su.out (by rw [HD.out];simp [PN,hr])
        have D5:Hid (SX w ys ((((((((wA.setCell ⟨wr.heap.size,0,none⟩ (.bool true)).setCell ⟨wr.heap.size,1,none⟩ (.string ⟨#[]⟩)).setCell ⟨wr.heap.size,2,none⟩ (.string ⟨#[]⟩)).setCell ⟨wr.heap.size,3,none⟩ (.int .i64 0)).setCell ⟨wr.heap.size,4,none⟩ (.int .i64 0)).setCell ⟨wr.heap.size,5,none⟩ (.int .i64 0)).setCell ⟨wr.heap.size,6,none⟩ (.int .i64 0)).setCell ⟨wr.heap.size,7,none⟩ (.int .i64 0)) (.slice va es.length vc) es p (c+1)):=D.out.later ((((((((BA.out.setCell (p:=⟨wr.heap.size,0,none⟩) ZW _).setCell (p:=⟨wr.heap.size,1,none⟩) ZW _).setCell (p:=⟨wr.heap.size,2,none⟩) ZW _).setCell (p:=⟨wr.heap.size,3,none⟩) ZW _).setCell (p:=⟨wr.heap.size,4,none⟩) ZW _).setCell (p:=⟨wr.heap.size,5,none⟩) ZW _).setCell (p:=⟨wr.heap.size,6,none⟩) ZW _).setCell (p:=⟨wr.heap.size,7,none⟩) ZW _);clear hr;go_wp2;refine Dw.out _ _ ?_;clear el e0 e1 e2 e3 e4 e5 e6 e7 ef Dw E2 BA D2;generalize ((((((((wA.setCell _ _).setCell _ _).setCell _ _).setCell _ _).setCell _ _).setCell _ _).setCell _ _).setCell _ _)=w5 at *;obtain ⟨-,z0,z1,z2,zf⟩:=D5.out.2.2.2.1;have f0:=zf 0;have f1:=zf 1;have f2:=zf 2;have HF:Hid (U6 w ys (.returned (.agg #[.bool false,.int .i64 0,.slice none 0 0])) (((w5.setCell ⟨w.heap.size,0,none⟩ (.bool false)).setCell ⟨w.heap.size,1,none⟩ (.int .i64 0)).setCell ⟨w.heap.size,2,none⟩ (.slice none 0 0))):=⟨((D5.out.2.2.1.setCell (p:=⟨w.heap.size,0,none⟩) ZW _).setCell (p:=⟨w.heap.size,1,none⟩) ZW _).setCell (p:=⟨w.heap.size,2,none⟩) ZW _,.inl ⟨Z.out,rfl⟩⟩;clear zf;go_wp2;refine ZT (v:=.agg #[.bool false,.int .i64 0,.slice none 0 0]) (by simp [results,Tryz.results61,go_sem,z0,z1,z2]) rfl HF.out
      have Ua:Hid (PN (ys.drop p)=some (⟨true,tN s⟩,ys.drop q)):=by show _=_;rw [HD.out];simp [PN,hr]
      have D5:Hid (SX w ys ((((((((wA.setCell ⟨wr.heap.size,0,none⟩ (.bool true)).setCell ⟨wr.heap.size,1,none⟩ (.string s)).setCell ⟨wr.heap.size,2,none⟩ (.string ⟨#[]⟩)).setCell ⟨wr.heap.size,3,none⟩ (.int .i64 0)).setCell ⟨wr.heap.size,4,none⟩ (.int .i64 0)).setCell ⟨wr.heap.size,5,none⟩ (.int .i64 0)).setCell ⟨wr.heap.size,6,none⟩ (.int .i64 0)).setCell ⟨wr.heap.size,7,none⟩ (.int .i64 0)) (.slice va es.length vc) es p (c+1)):=D.out.later ((((((((BA.out.setCell (p:=⟨wr.heap.size,0,none⟩) ZW _).setCell (p:=⟨wr.heap.size,1,none⟩) ZW _).setCell (p:=⟨wr.heap.size,2,none⟩) ZW _).setCell (p:=⟨wr.heap.size,3,none⟩) ZW _).setCell (p:=⟨wr.heap.size,4,none⟩) ZW _).setCell (p:=⟨wr.heap.size,5,none⟩) ZW _).setCell (p:=⟨wr.heap.size,6,none⟩) ZW _).setCell (p:=⟨wr.heap.size,7,none⟩) ZW _);have E5:=Z8 (E2.out.pF s);clear hr;go_wp2;refine Dw.out _ _ ?_;clear el e0 e1 e2 e3 e4 e5 e6 e7 ef Dw E2 BA D2;generalize ((((((((wA.setCell _ _).setCell _ _).setCell _ _).setCell _ _).setCell _ _).setCell _ _).setCell _ _).setCell _ _)=w5 at *;obtain ⟨n8,T⟩:∃n8:Ef,n8=⟨true,tN s⟩:=⟨_,rfl⟩;rw [←T] at E5 Ua;clear T;have D6:Hid (SX w ys (w5.alloc (.cells #[.bool n8.del,.string n8.nd.path,.string n8.nd.data,.int .i64 n8.nd.Ym,.int .i64 n8.nd.ZD,.int .i64 n8.nd.cz,.int .i64 n8.nd.mz,.int .i64 n8.nd.pz] 141)) (.slice va es.length vc) es p (c+1)):=D5.out.later (ZR.alloc ZW _);have N6:Hid (∀j u,(Pp n8)[j]?=some u→(w5.alloc (.cells #[.bool n8.del,.string n8.nd.path,.string n8.nd.data,.int .i64 n8.nd.Ym,.int .i64 n8.nd.ZD,.int .i64 n8.nd.cz,.int .i64 n8.nd.mz,.int .i64 n8.nd.pz] 141)).cell? ((⟨w5.heap.size,0,none⟩:Addr).add j)=some u):=UJ _ _ _;obtain ⟨el,e0,e1,e2,e3,e4,e5,e6,e7,-⟩:=E5.out;obtain ⟨-,b0,b1,bf⟩:=D5.out.2.2.2.2.1;have oF:¬(q:Int)<0:=by omega
      have s6:=D6.out.2.2.1.size;have ZZ:=D5.out.2.2.2.2.1.1
      go_wp2_with (at_builtin;go_must (refine XS _ rfl _ _ 103 rfl (w.heap.size+2) 141 i0 (.agg #[.bool false,.string ByteArray.empty,.string ByteArray.empty,.int .i64 0,.int .i64 0,.int .i64 0,.int .i64 0,.int .i64 0]) 8 80 Tryz.underlying103 hi hz0 hz1 hz2 rfl (by decide) _ _ _ rfl D6.out.2.2.2.2.2 ⟨w5.heap.size,0,none⟩ 1 1 (Pp n8) rfl rfl N6.out (QZ n8) ?_ ?_ ?_ ?_))
      · unfold maxLen;omega
      · omega
      · first | omega | (simp;omega)
      intro v7 w7 yb BI _;have D7:=Z8 (D6.out.push Xe.out Ua.out BI yb);obtain ⟨a7,q7,hv7⟩:=D7.out.2.2.2.2.2.slice;rw [show (es++[n8]).length=es.length+1 by simp] at hv7;subst hv7;obtain ⟨-,-,c7,ff⟩:=D6.out.2.2.2.2.1.turn BI (fun e=>by have:=(ZO D6.out.2.2.2.2.2 _ e.symm).1;omega);have f7:=ff 1;clear yb BI ff e0 e1 e2 e3 e4 e5 e6 e7 b0 b1 bf D5 D6 E5 N6 Ua el;go_wp2;exact ⟨⟨i+1,q,_,_,by omega,hq,rfl,by go_num,(by rw [yi.out];exact D7)⟩,by simp [intOf];omega⟩
    have Z7:((y:Int) == 2)=false:=Xz.2 (by omega);have Z:=Z8 (Su.out (by rw [HD.out];simp only [PN];rw [Z3 (by omega),Z3 (by omega)]));obtain ⟨zl,z0,z1,z2,zf⟩:=D.out.2.2.2.1;have f0:=zf 0;have f1:=zf 1;have f2:=zf 2;have HE:Hid (∀ob:Obj,_):=fun ob=>ow D.out.2.2.2.1 ob
    clear zf;go_wp2;exact ZT (v:=.agg #[.bool false,.int .i64 0,.slice none 0 0]) (by simp [results,Tryz.results61,go_sem,(HE.out _).1,(HE.out _).2.1,(HE.out _).2.2]) rfl ⟨(((D.out.2.2.1.setCell (p:=⟨w.heap.size,0,none⟩) ZW _).setCell (p:=⟨w.heap.size,1,none⟩) ZW _).setCell (p:=⟨w.heap.size,2,none⟩) ZW _).alloc (by have:=D.out.2.2.1.size;simpa using this) _,.inl ⟨Z.out,rfl⟩⟩
  have hic:i=C:=by omega
  subst hic;rw [Jm] at D;have Xd:=Z8 ((Y.out ▸ D.out.1).done);have P:ys.drop p=[]↔p=ys.length:=by
   constructor
   · intro e
     have:=Wd List.length e;rw [Zv] at this
     simp at this
     omega
   intro e;exact Qx (by omega)
  by_cases hr:p=ys.length
  rotate_left
  · have Z:Hid (Wh ys=none):=by
     show _=_;unfold Wh;rw [Z3 (by omega),Y.out,Xd.out]
     simp only
     rw [Z3 (fun h=>hr (P.1 h.1))]
    obtain ⟨-,z0,z1,z2,zf⟩:=D.out.2.2.2.1;have f0:=zf 0;have f1:=zf 1;have f2:=zf 2;have HF:Hid (U6 w ys (.returned (.agg #[.bool false,.int .i64 0,.slice none 0 0])) (((wr.setCell ⟨w.heap.size,0,none⟩ (.bool false)).setCell ⟨w.heap.size,1,none⟩ (.int .i64 0)).setCell ⟨w.heap.size,2,none⟩ (.slice none 0 0))):=⟨((D.out.2.2.1.setCell (p:=⟨w.heap.size,0,none⟩) ZW _).setCell (p:=⟨w.heap.size,1,none⟩) ZW _).setCell (p:=⟨w.heap.size,2,none⟩) ZW _,.inl ⟨Z.out,rfl⟩⟩;have hpb:((p:Int) != (ys.length:Int))=true:=by rw [Rg];omega
    clear zf P;go_wp2;refine ZT (v:=.agg #[.bool false,.int .i64 0,.slice none 0 0]) (by simp [results,Tryz.results61,go_sem,z0,z1,z2]) rfl HF.out
  have rk:Hid (ys.drop p=[]):=P.2 hr;have hpb:((p:Int) != (ys.length:Int))=false:=by rw [hr];simp
  have OO:=Z8 D.out.2.1;have ye:=Z8 D.out.2.2.2.2.2;obtain ⟨-,b0,b1,-⟩:=D.out.2.2.2.2.1;clear P hr
  go_wp2_with fail
  refine (PO _ _ _ es ye.out.rd OO.out.at).mono ?_;rintro e w2 ⟨rfl,b2⟩;have D2:=Z8 (D.out.later b2);obtain ⟨-,-,-,⟨-,z0,z1,z2,zf⟩,⟨-,d0,d1,-⟩,t7⟩:=D2.out;have f0:=zf 0;have f1:=zf 1;have f2:=zf 2;have Gj:=Z8 t7;clear zf b2 t7 ye b0 b1
  by_cases hok:XR (zX ys:Int) es=true
  · have Z:Hid (Wh ys=some ((zX ys:Int),es)):=by
     show _=_;unfold Wh;rw [Z3 (by omega),Y.out,Xd.out]
     simp only
     rw [ZY ⟨rk.out,hok⟩]
    rw [hok];clear hok;go_wp2;refine ZT (v:=.agg #[.bool true,.int .i64 (zX ys:Int),.slice va es.length vc]) (by simp [results,Tryz.results61,go_sem,z0,z1,z2]) rfl ⟨((D2.out.2.2.1.setCell (p:=⟨w.heap.size,0,none⟩) ZW _).setCell (p:=⟨w.heap.size,1,none⟩) ZW _).setCell (p:=⟨w.heap.size,2,none⟩) ZW _,.inr ⟨_,es,_,Z.out,rfl,?_⟩⟩;exact Xr.mono (Xr.ZK (Xr.ZK (Xr.ZK Gj.out (by show w.heap.size<w.heap.size+2;omega) _) (by show w.heap.size<w.heap.size+2;omega) _) (by show w.heap.size<w.heap.size+2;omega) _) (by omega)
  have hok':XR (zX ys:Int) es=false:=by simpa using hok
  have Z:Hid (Wh ys=none):=by
   show _=_;unfold Wh;rw [Z3 (by omega),Y.out,Xd.out]
   simp only
   rw [Z3 (fun h=>hok h.2)]
  rw [hok'];clear hok hok';go_wp2;refine ZT (v:=.agg #[.bool false,.int .i64 0,.slice none 0 0]) (by simp [results,Tryz.results61,go_sem,z0,z1,z2]) rfl ⟨((D2.out.2.2.1.setCell (p:=⟨w.heap.size,0,none⟩) ZW _).setCell (p:=⟨w.heap.size,1,none⟩) ZW _).setCell (p:=⟨w.heap.size,2,none⟩) ZW _,.inl ⟨Z.out,rfl⟩⟩
theorem Tryz.uX:(Tryz.prog.info? 2).map (fun i=>(i.zero,i.size,i.bytes))=some (some (.int .i64 0),1,8):=by kernel_rfl
def T0 (W:Nat) (xs:List Int) (q:Nat):List Int:=(List.range q).map (fun i=>((PS W 1 xs i:Nat):Int))
theorem UI (W:Nat) (xs:List Int) (q:Nat):(T0 W xs q).length=q:=by simp [T0]
theorem On (W:Nat) (xs:List Int) (q i:Nat) (h:i<q):(T0 W xs q).getD i 0=((PS W 1 xs i:Nat):Int):=by simp [T0,List.getD,h]
theorem F9 (W:Nat) (xs:List Int) (q:Nat):T0 W xs (q+1)=T0 W xs q++[((PS W 1 xs q:Nat):Int)]:=Ur _ q
theorem tC (W:Nat) (xs:List Int) (k j x i:Nat) (hk:k<xs.length) (hj:j<W) (hx:xs.getD k 0=(x:Int)) (hi:i+1+j=W*k+W):PS W 1 xs i=x / 2 ^ j % 2:=by
 have e0:W*(k+1)=W*k+W:=Bb W k;rw [OH W 1 xs (k+1) i hk (by rw [e0];omega),V5 W xs k hk,hx,XT];rw [show W*(k+1) - 1*(i+1)=j by rw [e0];omega];have e:2 ^ W=2 ^ (W - j - 1)*2*2 ^ j:=by rw [←Rj,←P5];congr 1;omega
 rw [e,←Bf,Bm,vC _ _ (V7 j),←Bf,Nat.pow_one,Nat.add_mul_mod_self_right];rw [Fa (2 ^ (W - j - 1)*2) (2 ^ j),vB,Fb _ (Nat.dvd_mul_left 2 _)]
theorem Ae (n:Int):bits .and .i64 n 1=n % 2:=by
 have h1:(BitVec.ofInt 64 1).toNat=2 ^ 1 - 1:=by decide
 have key:(BitVec.ofInt 64 n &&& BitVec.ofInt 64 1).toNat=(n % ((2 ^ 64:Nat):Int)).toNat % 2 ^ 1:=by
  rw [BitVec.toNat_and,xN,h1,Nat.and_two_pow_sub_one_eq_mod]
 show IntKind.i64.wrap ((BitVec.ofInt 64 n &&& BitVec.ofInt 64 1).toNat:Nat)=n % 2;rw [key,Xf];omega
theorem wR (x j:Nat) (hx:x<256):bits .and .i64 (wrap64 ((x:Int) / 2 ^ j)) 1=((x / 2 ^ j % 2:Nat):Int):=by
 have h:=Bl x (2 ^ j);rw [Ae,Tz];generalize x / 2 ^ j=y at *;rw [uA _ ⟨by omega,by omega⟩];omega
theorem F7 (w:World) (b o n cap W:Nat) (xs:List Int) (hx:xs.length=n) (hb:b<w.heap.size) (hc:∀i,i<n→w.cell? ⟨b,o+i,none⟩=some (.int .u8 (xs.getD i 0))) (hby:YL xs) (hn:n≤1099511627776) (hW:W≤8) :
    Calls Tryz.prog 116 #[.slice (some ⟨b,o,none⟩) n cap,.int .i64 W] w fun e w'=>∃v',e=.returned v'∧Own .i64 2 w' w.heap.size v' (T0 W xs (W*n))∧ZX w w':=by
 obtain ⟨i0,hi,hz0,hz1,hz2⟩:=YH Tryz.uX;have HC:=Z8 hc;have HX:=Z8 hx;clear hc hx
 go_enter Tryz.func116,Tryz.ntmps116
 go_wp2
 go_loopw [5,6] (fun v i wr=>∃k:Nat,k≤n∧i=.int .i64 k∧wr.ownsRow w.heap.size 2 1 v (W*k) ((T0 W xs (W*k)).map (Value.int .i64))∧ZX w wr) (fun _ i _=>n - (intOf i).toNat)
 case atStart=>exact ⟨0,ZQ _,rfl,Xb w #[] 0 ZW (ZQ _) rfl,ZR.alloc ZW _⟩
 case round =>
  obtain ⟨k,hk,rfl,ho,hg⟩:=hrel
  by_cases hlt:k<n
  · obtain ⟨x,hx,hxe⟩:=Wr hby k
    have YN:(k:Int)<(n:Int):=by omega
    have rv:=Z8 hxe;have hsrc:w.cell? ⟨b,o+k,none⟩=some (.int .u8 (x:Int)):=by rw [←hxe];exact HC.out k hlt
    have HS:=Z8 hsrc;clear hxe hsrc;go_wp2
    go_loopw [5,7] (fun v j wr=>∃t:Nat,t≤W∧j=.int .i64 ((W:Int) - 1 - t)∧wr.ownsRow w.heap.size 2 1 v (W*k+t) ((T0 W xs (W*k+t)).map (Value.int .i64))∧ZX w wr) (fun _ j _=>(intOf j+1).toNat)
    case atStart=>exact ⟨0,ZQ _,by go_num,ho,hg⟩
    case round =>
     clear ho hg;obtain ⟨t,ht,rfl,ho,hg⟩:=hrel
     by_cases htl:t<W
     · obtain ⟨j,hj⟩:∃j,t+1+j=W:=⟨W - 1 - t,by omega⟩
       have HJ:=Z8 hj;have ej:(W:Int) - 1 - (t:Int)=(j:Int):=by omega
       rw [ej];have hj0:(0:Int)≤(j:Int):=by omega
       have ZC:j<8:=by omega
       clear hj ej;have hsrc:=(hg.cell (p:=⟨b,o+k,none⟩) hb).trans HS.out;have HB:Hid (bits .and .i64 (wrap64 ((x:Int) / 2 ^ j)) 1=((PS W 1 xs (W*k+t):Nat):Int)):=by
        show _=_;have hj:=HJ.out;rw [tC W xs k j x (W*k+t) (by rw [HX.out];exact hlt) (by omega) rv.out (by omega),wR x j hx]
       have HL:Hid (W*k+t+1≤8796093022208):=by
        have:W*k≤8*k:=Nat.mul_le_mul_right _ hW;show _≤_;omega
       go_wp2_with (at_builtin;go_must (refine XS _ rfl _ _ 112 rfl w.heap.size 2 i0 (.int .i64 0) 1 8 Tryz.underlying112 hi hz0 hz1 hz2 rfl (by decide) _ _ _ rfl (ho.alloc _) ⟨wr.heap.size,0,none⟩ 1 1 [.int .i64 (bits .and .i64 (wrap64 ((x:Int) / 2 ^ j)) 1)] rfl rfl (Vy _ _ _) (by intro u hu;simp at hu;subst hu;rfl) ?c3 ?c4 ?c5 ?_))
       case c3=>have:=HL.out;unfold maxLen;omega
       case c4=>have:=HL.out;omega
       case c5=>have:=hg.size;simp;omega
       intro v2 w2 ho2 hg2 _;have Sv:Hid (w2.ownsRow w.heap.size 2 1 v2 (W*k+(t+1)) ((T0 W xs (W*k+(t+1))).map (Value.int .i64))):=by
        rw [HB.out] at ho2;show World.ownsRow _ _ _ _ _ _ _;rw [←TI,F9,WX];exact ho2
       have HG2:=Z8 ((hg.alloc (hg.size) _).grown hg2 (by have:=hg.size;simp;omega) (fun q hq=>(ho.lt q hq).1));clear ho2 hg2 ho hg HB;go_wp2
       go_roundw
       case rel=>exact ⟨t+1,by omega,by have:=HJ.out;go_num,Sv.out,HG2.out⟩
       case measure=>simp [intOf]
     have ZU:t=W:=by omega
     subst ZU;have et:(t:Int) - 1 - (t:Int)=-1:=by omega
     rw [et];go_wp2
     go_roundw
     case rel=>exact ⟨k+1,by omega,by go_num,by rw [Bb];exact ho,hg⟩
     case measure=>simp [intOf];omega
  have hkn:k=n:=by omega
  subst hkn;go_wp2;go_ret;exact ⟨_,rfl,WI (UI _ _ _) rfl ho,hg⟩
theorem F6 (w:World) (ao:Option Addr) (cap W:Nat) :
    Calls Tryz.prog 116 #[.slice ao 0 cap,.int .i64 W] w fun e w'=>∃v',e=.returned v'∧Own .i64 2 w' w.heap.size v' []∧ZX w w':=by
 go_enter Tryz.func116,Tryz.ntmps116
 go_wp2
 go_rounds 1
 go_ret;exact ⟨_,rfl,Xb w #[] 0 ZW (ZQ _) rfl,ZR.alloc ZW _⟩
theorem RH (w:World) (v:Value) (xs:List Int) (W:Nat) (h:Rd .u8 w v xs) (hby:YL xs) (hn:xs.length≤1099511627776) (hW:W≤8) :
    Calls Tryz.prog 116 #[v,.int .i64 W] w fun e w'=>∃v',e=.returned v'∧Own .i64 2 w' w.heap.size v' (T0 W xs (W*xs.length))∧ZX w w':=by
 obtain ⟨ao,cap,rfl,h1,h2,h3⟩:=h
 rcases h3 with rfl | ⟨b,o,rfl,hb,hc⟩
 · exact F6 w ao cap W
 exact F7 w b o xs.length cap W xs rfl hb hc hby hn hW
def gv (xs:List Int) (q t:Nat):Nat :=
 if 7*q+t≤8*xs.length then Ws 8 xs / 2 ^ (8*xs.length - (7*q+t)) % 2 ^ t else Ws 8 xs % 2 ^ (8*xs.length - 7*q)*2 ^ (7*q+t - 8*xs.length)
theorem wQ (xs:List Int) (q:Nat) (h:7*q≤8*xs.length):gv xs q 0=0:=by
 unfold gv;rw [ZY (by omega)];simp [Nat.mod_one]
theorem rj (xs:List Int) (q t:Nat) (h:7*q+t<8*xs.length):gv xs q (t+1)=2*gv xs q t+PS 8 1 xs (7*q+t):=by
 unfold gv PS;rw [ZY (by omega),ZY (by omega)];have e:8*xs.length - (7*q+t)=8*xs.length - (7*q+(t+1))+1:=by omega
 rw [e,show 2 ^ (8*xs.length - (7*q+(t+1))+1)=2 ^ (8*xs.length - (7*q+(t+1)))*2 from Rj _ _,←Mf,show 8*xs.length - 1*(7*q+t+1)=8*xs.length - (7*q+(t+1)) by omega,Nat.pow_one];generalize Ws 8 xs / 2 ^ (8*xs.length - (7*q+(t+1)))=X;rw [Rj,Fa (2 ^ t) 2,Nat.mod_mul];omega
theorem tB (xs:List Int) (q t:Nat) (h0:7*q≤8*xs.length) (h:8*xs.length≤7*q+t):gv xs q (t+1)=2*gv xs q t:=by
 unfold gv;rw [Z3 (by omega)]
 by_cases e:7*q+t=8*xs.length
 · rw [ZY (by omega),show 8*xs.length - (7*q+t)=0 by omega,show 8*xs.length - 7*q=t by omega,show 7*q+(t+1) - 8*xs.length=1 by omega]
   simp;omega
 rw [Z3 (by omega),show 7*q+(t+1) - 8*xs.length=7*q+t - 8*xs.length+1 by omega,Rj];rw [←Bf,Fa _ 2]
theorem ri (xs:List Int) (q t:Nat) (h0:7*q≤8*xs.length):gv xs q t<2 ^ t:=by
 unfold gv
 by_cases h:7*q+t≤8*xs.length
 · rw [ZY h];exact Rk _ (V7 t)
 rw [Z3 h];have h1:Ws 8 xs % 2 ^ (8*xs.length - 7*q)<2 ^ (8*xs.length - 7*q):=Rk _ (V7 _);have h2:=IR h1 t (by omega);rw [show 7*q+t - 8*xs.length=t - (8*xs.length - 7*q) by omega];exact h2
theorem uW (xs:List Int) (q t:Nat) (h0:7*q≤8*xs.length) (ht:t≤7):gv xs q t≤127:=by
 have h:=ri xs q t h0;have h2:2 ^ t≤2 ^ 7:=Me (by omega) ht
 simp only [Nat.reducePow] at h2
 omega
def wP (xs:List Int) (q:Nat):List Int:=(List.range q).map (fun j=>((128+gv xs j 7:Nat):Int))
theorem wO (xs:List Int) (q:Nat):(wP xs q).length=q:=by simp [wP]
theorem Iv (xs:List Int) (q:Nat):wP xs (q+1)=wP xs q++[((128+gv xs q 7:Nat):Int)]:=Ur _ q
theorem Iu (xs:List Int) (q:Nat) (h:7*q≤8*xs.length):wP xs q=DG xs q:=by
 unfold wP DG;apply List.map_congr_left;intro j hj;have hj:=RZ.1 hj;unfold gv PS;rw [ZY (by omega),show 7*j+7=7*(j+1) by omega]
theorem wN (xs:List Int) (q:Nat) (h:8*xs.length≤7*q) (h1:7*q<8*xs.length+7):wP xs q=pk xs:=by
 by_cases e:7*q=8*xs.length
 · rw [Iu xs q (by omega),EL (by omega)]
 obtain ⟨p,rfl⟩:∃p,q=p+1:=⟨q - 1,by omega⟩;rw [Iv,Iu xs p (by omega),AI (q:=p) (A:=8*xs.length - 7*p) (by omega) (by omega) (by omega)];unfold gv;rw [Z3 (by omega),show 7*p+7 - 8*xs.length=7 - (8*xs.length - 7*p) by omega]
theorem KO (w:World) (v:Value) (xs:List Int) (h:Rd .u8 w v xs) (hby:YL xs) (hn:xs.length≤1099511627776) (hne:0<xs.length) :
    Calls Tryz.prog 94 #[v] w fun e w'=>∃v',e=.returned v'∧Own .u8 5 w' w.heap.size v' (pk xs)∧ZX w w':=by
 obtain ⟨i0,hi,hz0,hz1,hz2⟩:=YH Tryz.Vv
 go_enter Tryz.func94,Tryz.ntmps94
 go_wp2_with fail
 refine (RH _ _ xs 8 h hby hn (by omega)).mono ?_;rintro e w1 ⟨vb,rfl,KN,hb1⟩;obtain ⟨ao,cap,rfl,h1,h2,h3⟩:=KN.rd
 rcases h3 with h3 | ⟨b,o,rfl,hlt1,hc1⟩
 · have:=Wd List.length h3;rw [UI] at this;simp at this;omega
 rw [UI] at h1 hc1 ⊢;have HC:Hid (∀i,i<8*xs.length→w1.cell? ⟨b,o+i,none⟩=some (.int .i64 ((PS 8 1 xs i:Nat):Int))):=fun i hi=>by rw [hc1 i hi,On _ _ _ _ hi]
 generalize hnn:xs.length=n at *;have HN:=Z8 hnn;have HB1:=Z8 hb1;have hsz:=hb1.size;clear hnn hc1 KN hb1 h2 h;go_wp2
 go_loopw [4,5] (fun v i wr=>∃q:Nat,7*q<8*n+7∧i=.int .i64 (7*q)∧wr.ownsRow w1.heap.size 5 1 v q ((wP xs q).map (Value.int .u8))∧ZX w1 wr) (fun _ i _=>8*n+7 - (intOf i).toNat)
 case atStart=>exact ⟨0,by omega,rfl,Xb w1 #[] 0 ZW (ZQ _) rfl,ZR.alloc ZW _⟩
 case round =>
  obtain ⟨q,hq,rfl,ho,hg⟩:=hrel
  by_cases hlt:7*q<8*n
  · have YN:7*(q:Int)<8*(n:Int):=by omega
    go_wp2
    go_loop [6,7] (fun v j=>∃t V:Nat,t≤7∧j=.int .i64 (7*(q:Int)+t)∧V≤127∧v=.int .i64 V∧Hid (V=gv xs q t)) (fun _ j=>(7*(q:Int)+7 - intOf j).toNat)
    case atStart=>exact ⟨0,0,by omega,by go_num,by omega,rfl,(wQ xs q (by rw [HN.out];omega)).symm⟩
    case round =>
     obtain ⟨t,V,ht,rfl,hV,rfl,HV⟩:=hrel
     by_cases ZA:t<7
     · have vv:7*(q:Int)+(t:Int)<7*(q:Int)+7:=by omega
       by_cases hin:7*q+t<8*n
       · have rh:7*(q:Int)+(t:Int)<8*(n:Int):=by omega
         have hgs:=rj xs q t (by rw [HN.out];exact hin);have hgl:=uW xs q (t+1) (by rw [HN.out];omega) (by omega);have hsrc:=(hg.cell (p:=⟨b,o+(7*q+t),none⟩) hlt1).trans (HC.out _ hin);rw [←HV.out] at hgs;generalize hD:PS 8 1 xs (7*q+t)=D at *;have hb:2*V+D≤127:=by omega
         have uU:=Z8 hgs.symm;clear hgs hgl hD;go_wp2
         go_round
         case rel=>exact ⟨t+1,2*V+D,by omega,by go_num,hb,by go_num,uU.out⟩
         case measure=>simp [intOf];omega
       have rh:¬7*(q:Int)+(t:Int)<8*(n:Int):=by omega
       have hgs:=tB xs q t (by rw [HN.out];omega) (by rw [HN.out];omega);have hgl:=uW xs q (t+1) (by rw [HN.out];omega) (by omega);rw [←HV.out] at hgs;have hb:2*V≤127:=by omega
       have uU:=Z8 hgs.symm;clear hgs hgl;go_wp2
       go_round
       case rel=>exact ⟨t+1,2*V,by omega,by go_num,hb,by go_num,uU.out⟩
       case measure=>simp [intOf];omega
     have pE:t=7:=by omega
     subst pE;have HL:Hid (q+1≤8796093022208):=by show _≤_;omega
     go_wp2_with (at_builtin;go_must (refine XS _ rfl _ _ 22 rfl w1.heap.size 5 i0 (.int .u8 0) 1 1 Tryz.underlying22 hi hz0 hz1 hz2 rfl (by decide) _ _ _ rfl (ho.alloc _) ⟨wr.heap.size,0,none⟩ 1 1 [.int .u8 (128+(V:Int))] rfl rfl (Vy _ _ _) (by intro u hu;simp at hu;subst hu;rfl) ?c3 ?c4 ?c5 ?_))
     case c3=>have:=HL.out;unfold maxLen;omega
     case c4=>have:=HL.out;omega
     case c5=>have:=hg.size;simp;omega
     intro v2 w2 ho2 hg2 _;have Sv:Hid (w2.ownsRow w1.heap.size 5 1 v2 (q+1) ((wP xs (q+1)).map (Value.int .u8))):=by
      rw [HV.out] at ho2;show World.ownsRow _ _ _ _ _ _ _;rw [Iv,WX];exact ho2
     have HG2:=Z8 ((hg.alloc (hg.size) _).grown hg2 (by have:=hg.size;simp;omega) (fun q hq=>(ho.lt q hq).1));clear ho2 hg2 ho hg;go_wp2
     go_roundw
     case rel=>exact ⟨q+1,by omega,by go_num,Sv.out,HG2.out⟩
     case measure=>simp [intOf];omega
  have YN:¬7*(q:Int)<8*(n:Int):=by omega
  go_wp2;go_ret;have ho3:=WI (wO xs q) (wN xs q (by rw [HN.out];omega) (by rw [HN.out];omega)).symm ho;exact ⟨_,rfl,ho3.mono hsz,HB1.out.trans (hg.mono hsz)⟩
theorem KM (w:World) (v:Value) (h:Rd .u8 w v []) :
    Calls Tryz.prog 94 #[v] w fun e w'=>∃v',e=.returned v'∧Own .u8 5 w' w.heap.size v' []∧ZX w w':=by
 go_enter Tryz.func94,Tryz.ntmps94
 go_wp2_with fail
 refine (RH _ _ [] 8 h (by intro x hx;cases hx) (by simp) (by omega)).mono ?_;rintro e w1 ⟨vb,rfl,KN,hb1⟩;obtain ⟨ao,cap,rfl,h1,h2,h3⟩:=KN.rd;clear h1 h2 h3 KN;have HB1:=Z8 hb1;clear hb1;have hsz:=HB1.out.size;rw [show (T0 8 [] (8*([]:List Int).length)).length=0 from rfl];go_wp2
 go_rounds 1
 go_ret;have ho3:Own .u8 5 (w1.alloc (.cells #[] 5)) w1.heap.size (.slice (some ⟨w1.heap.size,0,none⟩) 0 0) []:=Xb w1 #[] 0 ZW (ZQ _) rfl;exact ⟨_,rfl,ho3.mono hsz,HB1.out.alloc hsz _⟩
theorem QY (w:World) (v:Value) (xs:List Int) (h:Rd .u8 w v xs) (hby:YL xs) (hn:xs.length≤1099511627776) :
    Calls Tryz.prog 94 #[v] w fun e w'=>∃v',e=.returned v'∧Own .u8 5 w' w.heap.size v' (pk xs)∧ZX w w':=by
 by_cases hne:0<xs.length
 · exact KO w v xs h hby hn hne
 have:xs=[]:=Vj (by omega);subst this;exact KM w v h
theorem FZ (hx:YL xs) (hy:YL ys) (h:xs.map (fun n=>UInt8.ofNat n.toNat)=ys.map (fun n=>UInt8.ofNat n.toNat)):xs=ys:=by
 induction xs generalizing ys with
 | nil=>cases ys with
  | nil=>rfl
  | cons y ys=>simp at h
 | cons x xs ih=>cases ys with
  | nil=>simp at h
  | cons y ys =>
   simp only [Pc,List.cons.injEq] at h
   have bx:=hx x (by simp);have by':=hy y (by simp);have e:x=y:=by
    have h1:=Wd UInt8.toNat h.1
    simp only [UInt8.toNat_ofNat'] at h1
    omega
   rw [e,ih (fun z hz=>hx z (by simp [hz])) (fun z hz=>hy z (by simp [hz])) h.2]
theorem same_iff (hx:YL xs) (hy:YL ys):((strOfNums xs).toList == (strOfNums ys).toList)=decide (xs=ys):=by
 rw [SC,SC,strOfNums_data,strOfNums_data]
 by_cases h:xs=ys
 · subst h;simp
 rw [Zl h,Xz];exact fun e=>h (FZ hx hy e)
theorem UW (w:World) (va vb:Value) (xs ys:List Int) (ha:Rd .u8 w va xs) (hb:Rd .u8 w vb ys) (hx:YL xs) (hy:YL ys) :
    Calls Tryz.prog 23 #[va,vb] w fun e w'=>e=.returned (.bool (decide (xs=ys)))∧w'=w:=by
 have h1:=Vu ha;have h2:=Vu hb;have HS:=Z8 (same_iff hx hy);clear ha hb
 go_enter Tryz.func23,Tryz.ntmps23
 go_wp2;go_ret;exact ⟨ZJ HS.out,rfl⟩
theorem Tt (w:World) (va vb:Value) (xs ys:List Int) (ha:Rd .u8 w va xs) (hb:Rd .u8 w vb ys) (hx:YL xs) (hy:YL ys) :
    Calls Tryz.prog 120 #[va,vb] w fun e w'=>e=.returned (.bool (decide (xs=ys)))∧w'=w:=by
 have h1:=Vu ha;have h2:=Vu hb;have HS:=Z8 (same_iff hx hy);clear ha hb
 go_enter Tryz.func120,Tryz.ntmps120
 go_wp2;go_ret;exact ⟨ZJ HS.out,rfl⟩
def wM (ps:List Int) (q:Nat):List Int:=(List.range q).map (fun j=>((PS 7 8 ps j:Nat):Int))
theorem Ex (ps:List Int) (q:Nat):(wM ps q).length=q:=by simp [wM]
theorem It (ps:List Int) (q:Nat):wM ps (q+1)=wM ps q++[((PS 7 8 ps q:Nat):Int)]:=Ur _ q
theorem Ew {ps:List Int} (h:q=7*ps.length / 8):up ps=wM ps q:=by subst h;rfl
theorem KL (x:Nat) (hx:x<256):bits .and .u8 (x:Int) 127=((x % 128:Nat):Int):=by
 rw [show (127:Int)=((127:Nat):Int) from rfl,u8_and_nat x 127 hx (by omega),nat_mask7]
theorem wL (R x A N:Nat) (hx:x<128) (hA:A≤7) (h:R % 2 ^ A=N % 2 ^ A) :
    ∃R':Nat,R'<65536∧bits .or .u16 (IntKind.u16.wrap ((R:Int)*128)) (x:Int)=(R':Int)∧R' % 2 ^ (A+7)=(N*128+x) % 2 ^ (A+7):=by
 have hs:=IS R N x A 7 16 (by omega) h
 simp only [show (2:Nat) ^ 7=128 from rfl,show (2:Nat) ^ 16=65536 from rfl] at hs
 refine ⟨R*128 % 65536+x,by omega,?_,hs⟩;have e:IntKind.u16.wrap ((R:Int)*128)=((R*128 % 65536:Nat):Int):=by rw [xL];omega
 rw [e,u16_or_nat _ _ (by omega) (by omega),nat_join 7 (R*128 % 65536) x (by simp only [Nat.reducePow];omega) (by simpa using hx)]
theorem Ad (xs:List Int) (R A k q:Nat) (hk:k≤xs.length) (hq:8*q+(A+8)=7*k) (h:R % 2 ^ (A+8)=Ws 7 (xs.take k) % 2 ^ (A+8)) :
    IntKind.u8.wrap ((R:Int) / 2 ^ A)=((PS 7 8 xs q:Nat):Int):=by
 rw [IntKind.wrap_u8',Tz,OH 7 8 xs k q hk (by omega),show 7*k - 8*(q+1)=A by omega,←EO R _ A 8 h]
 simp only [Nat.reducePow]
 omega
theorem Om (w:World) (b o n cap:Nat) (xs:List Int) (hx:xs.length=n) (hb:b<w.heap.size) (hc:∀i,i<n→w.cell? ⟨b,o+i,none⟩=some (.int .u8 (xs.getD i 0))) (hby:YL xs) (hn:n≤1099511627776) :
    Calls Tryz.prog 158 #[.slice (some ⟨b,o,none⟩) n cap] w fun e w'=>∃v',e=.returned v'∧Own .u8 5 w' w.heap.size v' (up xs)∧ZX w w':=by
 obtain ⟨i0,hi,hz0,hz1,hz2⟩:=YH Tryz.Vv;have HC:=Z8 hc;have HX:=Z8 hx;clear hc hx
 go_enter Tryz.func158,Tryz.ntmps158
 go_wp2_with (at_make;go_must (refine LW _ rfl _ _ 22 rfl w.heap.size 5 i0 (.int .u8 0) 1 Tryz.underlying22 hi hz0 hz1 _ _ _ (n*7 / 8) rfl rfl ?b1 ?b2 ?b3 ?b4 ?_))
 case b1=>omega
 case b2=>rw [hz2];omega
 case b3=>unfold maxLen;omega
 case b4=>exact ZW
 intro w1 hown hgrow;have HO:=Z8 hown;have HG:=Z8 (ZR.grown hgrow ZW (by simp));clear hown hgrow;go_wp2
 go_loopw [3,4,5,15] (fun v r a i wr=>∃k q A R:Nat,k≤n∧i=.int .i64 k∧A≤7∧Hid (8*q+A=7*k)∧a=.int .u8 A∧R<65536∧r=.int .u16 R∧Hid (R % 2 ^ A=Ws 7 (xs.take k) % 2 ^ A) ∧
     v=.slice (some ⟨w.heap.size,0,none⟩) q (n*7 / 8)∧wr.ownsRow w.heap.size 5 1 (.slice (some ⟨w.heap.size,0,none⟩) q (n*7 / 8)) q ((wM xs q).map (Value.int .u8))∧ZX w wr) (fun _ _ _ i _=>n - (intOf i).toNat)
 case atStart=>exact ⟨0,0,0,0,ZQ _,rfl,by omega,rfl,rfl,by omega,rfl,rfl,rfl,HO.out,HG.out⟩
 case round =>
  obtain ⟨k,q,A,R,hk,rfl,hA,HQ,rfl,hR,rfl,HR,rfl,ho,hg⟩:=hrel
  by_cases hlt:k<n
  · obtain ⟨x,hx,hxe⟩:=Wr hby k
    have hsrc:wr.cell? ⟨b,o+k,none⟩=some (.int .u8 (x:Int)):=by rw [←hxe];exact (hg.cell (p:=⟨b,o+k,none⟩) hb).trans (HC.out k hlt)
    have YN:(k:Int)<(n:Int):=by omega
    have hand:=KL x hx;have HN:Hid (Ws 7 (xs.take (k+1))=Ws 7 (xs.take k)*128+x % 128):=by
     have:=V5 7 xs k (by rw [HX.out];exact hlt);rw [hxe] at this;show _=_;rw [this,XT]
    generalize hy:x % 128=y at *;have tA:y<128:=by omega
    obtain ⟨R',hR',ry,AH⟩:=wL R y A (Ws 7 (xs.take k)) tA hA HR.out;rw [←HN.out] at AH;have HR2:=Z8 AH;have AG:Hid (8*q+(A+7)=7*(k+1)):=by have:=HQ.out;show _=_;omega
    clear hxe AH HR HN HQ hy
    by_cases h8:1≤A
    · obtain ⟨A2,rfl⟩:∃A2,A=A2+1:=⟨A - 1,by omega⟩
      have Zz:(8:Int)≤((A2+1:Nat):Int)+7:=by omega
      have HD:=Z8 (Ad xs R' A2 (k+1) q (by rw [HX.out];omega) (by have:=AG.out;omega) HR2.out);have hcap:q+1≤n*7 / 8:=by have:=AG.out;omega
      go_wp2_with (at_builtin;go_must (refine Je _ rfl _ _ 22 rfl w.heap.size 5 i0 1 Tryz.underlying22 hi hz1 w.heap.size q (n*7 / 8) _ rfl (ho.alloc _) ⟨wr.heap.size,0,none⟩ 1 1 [.int .u8 (IntKind.u8.wrap ((R':Int) / 2 ^ A2))] rfl rfl (Vy _ _ _) (by intro u hu;simp at hu;subst hu;rfl) hcap ?_))
      intro w2 ho2 hg2;have Sv:Hid (w2.ownsRow w.heap.size 5 1 (.slice (some ⟨w.heap.size,0,none⟩) (q+1) (n*7 / 8)) (q+1) ((wM xs (q+1)).map (Value.int .u8))):=by
       rw [HD.out] at ho2;show World.ownsRow _ _ _ _ _ _ _;rw [It,WX];exact ho2
      have HG2:=Z8 ((hg.alloc (hg.size) _).grown hg2 (by have:=hg.size;simp;omega) (by intro k hk;simp at hk;omega));clear ho2 hg2 ho hg;go_wp2
      go_roundw
      case rel=>exact ⟨k+1,q+1,A2,R',by omega,by go_num,by omega,(by have:=AG.out;show _=_;omega),by go_num,hR',rfl,EN (by omega) HR2.out,rfl,Sv.out,HG2.out⟩
      case measure=>simp [intOf];omega
    have hA0:A=0:=by omega
    subst hA0;go_wp2
    go_roundw
    case rel=>exact ⟨k+1,q,7,R',by omega,by go_num,by omega,AG,by go_num,hR',rfl,HR2,rfl,ho,hg⟩
    case measure=>simp [intOf];omega
  have hkn:k=n:=by omega
  subst hkn;go_wp2;go_ret;exact ⟨_,rfl,WI (Ex xs q) (Ew (by rw [HX.out];have:=HQ.out;omega)) ho,hg⟩
theorem Ol (w:World) (ao:Option Addr) (cap:Nat) :
    Calls Tryz.prog 158 #[.slice ao 0 cap] w fun e w'=>∃v',e=.returned v'∧Own .u8 5 w' w.heap.size v' []∧ZX w w':=by
 obtain ⟨i0,hi,hz0,hz1,hz2⟩:=YH Tryz.Vv
 go_enter Tryz.func158,Tryz.ntmps158
 go_wp2_with (at_make;go_must (refine LW _ rfl _ _ 22 rfl w.heap.size 5 i0 (.int .u8 0) 1 Tryz.underlying22 hi hz0 hz1 _ _ _ 0 rfl rfl ?b1 ?b2 ?b3 ?b4 ?_))
 case b1=>rfl
 case b2=>rw [hz2];omega
 case b3=>unfold maxLen;omega
 case b4=>exact ZW
 intro w1 hown hgrow;have HO:=Z8 hown;have HG:=Z8 (ZR.grown hgrow ZW (by simp));clear hown hgrow;go_wp2
 go_rounds 1
 go_ret;exact ⟨_,rfl,HO.out,HG.out⟩
theorem Ok (w:World) (v:Value) (xs:List Int) (h:Rd .u8 w v xs) (hby:YL xs) (hn:xs.length≤1099511627776) :
    Calls Tryz.prog 158 #[v] w fun e w'=>∃v',e=.returned v'∧Own .u8 5 w' w.heap.size v' (up xs)∧ZX w w':=by
 obtain ⟨ao,cap,rfl,h1,h2,h3⟩:=h
 rcases h3 with rfl | ⟨b,o,rfl,hb,hc⟩
 · exact Ol w ao cap
 exact Om w b o xs.length cap xs rfl hb hc hby hn
end Go.Proofs.YtmmmffcbfepghaaGreatDoor


