import Derived.Test.YtmmmffcbfepghaaGreatDoorJ02
set_option maxRecDepth 100000
set_option maxHeartbeats 16000000
set_option linter.unusedVariables false
set_option linter.unusedSimpArgs false
namespace Go.Proofs.YtmmmffcbfepghaaGreatDoor
open Go.RowKit Go.Shelf
variable {a b:ByteArray} {e:Ef} {m z:Int} {es:List Ef} {r r' ys:List Int} {ns:List Nd} {B C c k lo s:Nat} {n:Nd} {row:Option Nat} {t:TypeId} {v vx:Value} {W W' w w' w0:World}
def At:Value:=.agg #[.bool false,.slice none 0 0]
def Oy (w:World) (ys:List Int) (e:Ending) (w':World):Prop :=
 ZX w w'∧((Ty ys=none∧e=.returned At)∨∃ns v,Ty ys=some ns∧e=.returned (.agg #[.bool true,v])∧ZU 134 w' w.heap.size v ns)
def Zt (W:World) (k:Nat):Prop:=k<W.heap.size∧W.cell? ⟨k,0,none⟩=some (.bool false)∧W.cell? ⟨k,1,none⟩=some (.slice none 0 0)∧∀j,W.frozen? ⟨k,j,none⟩=false
theorem Zt.turn (h:Zt W k) (hg:W.grownBy W' row) (hne:some k≠row):Zt W' k:=by
 have hb:=hg.block k h.1 hne;exact ⟨ZB h.1 hg.size,(YI (a:=⟨k,0,none⟩) hb).trans h.2.1,(YI (a:=⟨k,1,none⟩) hb).trans h.2.2.1,fun j=>(Ue (a:=⟨k,j,none⟩) hb).trans (h.2.2.2 j)⟩
theorem Zt.set (h:Zt W k) (hne:k≠B) (i:Nat) (u:Value):Zt (W.setCell ⟨B,i,none⟩ u) k :=
 ⟨by simpa using h.1,(ZG _ _ _ _ (by intro e;injection e with e;omega)).trans h.2.1,(ZG _ _ _ _ (by intro e;injection e with e;omega)).trans h.2.2.1,fun j=>by rw [Yb];exact h.2.2.2 j⟩
def B1 (W:World) (k:Nat) (v:Value):Prop:=k<W.heap.size∧W.cell? ⟨k,0,none⟩=some v∧W.frozen? ⟨k,0,none⟩=false
theorem B1.turn (h:B1 W k v) (hg:W.grownBy W' row) (hne:some k≠row):B1 W' k v:=by
 have hb:=hg.block k h.1 hne;exact ⟨ZB h.1 hg.size,(YI (a:=⟨k,0,none⟩) hb).trans h.2.1,(Ue (a:=⟨k,0,none⟩) hb).trans h.2.2⟩
theorem ZU.turn (h:ZU 134 W lo v ns) (hg:W.grownBy W' (some k)) (hk:k<lo):ZU 134 W' lo v ns:=by
 refine Yy h hg ?_
 cases e:v.ownBlock with
 | none=>exact .inl rfl
 | some g =>
  refine .inr fun e2=>?_
  have:=(ZO h g e).1
  simp only [Xu] at e2
  omega
theorem VZ (ns:List Nd) (n:Nd):Yd (ns++[n])=Yd ns++Rr n:=by rw [UZ];simp [Yd]
theorem XL (w:World) (n:Nd) (t:TypeId):∀j u,(Rr n)[j]?=some u→(w.alloc (.cells #[.string n.path,.string n.data,.int .i64 n.Ym,.int .i64 n.ZD,.int .i64 n.cz,.int .i64 n.mz,.int .i64 n.pz] t)).cell? ((⟨w.heap.size,0,none⟩:Addr).add j)=some u:=by
 intro j u hj;rw [GM,Wn,cell_of (WJ w _) j,←hj]
 simp [Rr]
theorem WL (n:Nd):∀u ∈ Rr n,u.oneCell'=true:=by
 intro u hu
 simp only [Rr,MZ,uo,or_false] at hu
 rcases hu with rfl | rfl | rfl | rfl | rfl | rfl | rfl <;> rfl
theorem Ox (n:Nd) (W:World):(Instr.field 175 (.agg #[.string n.path,.string n.data,.int .i64 n.Ym,.int .i64 n.ZD,.int .i64 n.cz,.int .i64 n.mz,.int .i64 n.pz]) 0).run Tryz.prog W=.ok (.agg #[.string n.path,.string n.data,.int .i64 n.Ym,.int .i64 n.ZD,.int .i64 n.cz,.int .i64 n.mz,.int .i64 n.pz]) W:=by kernel_rfl
def rq (ns:List Nd):Prop:=∀n ∈ ns,n.path.size<256∧n.data.size<256
theorem rq.at (h:rq ns) (i:Nat):(Zy ns i).path.size≤1048576∧(Zy ns i).data.size≤1048576:=by
 by_cases hi:i<ns.length
 · rw [WO hi]
   have:=h _ (Na hi);omega
 unfold Zy;rw [List.getD,Sy (by omega)];exact ⟨ZQ _,ZQ _⟩
def TS (w:World) (ys:List Int) (W:World) (v:Value) (ns:List Nd) (r:List Int):Prop :=
 EH ys ns r∧YL r∧rq ns∧RS w W (w.heap.size+1) r∧Zt W w.heap.size∧B1 W (w.heap.size+1+1) v∧ZU 134 W (w.heap.size+3) v ns
def Sh (W:World) (k:Nat):Nat:=match W.cell? ⟨k,0,none⟩ with | some (.slice _ n _)=>n | _=>0
theorem RS.Sh (h:RS w0 W k r):Sh W k=r.length:=by
 obtain ⟨-,-,-,-,v,h5,h6⟩:=h;obtain ⟨ao,c,rfl,-⟩:=h6;unfold Go.Proofs.YtmmmffcbfepghaaGreatDoor.Sh;rw [h5]
theorem TS.start (w:World) (ao:Option Addr) (ys:List Int) (cap:Nat) (h:Rd .u8 w (.slice ao ys.length cap) ys) (hb:YL ys) :
    TS w ys (((w.alloc (.cells #[.bool false,.slice none 0 0] 94)).alloc (.cells #[.slice ao ys.length cap] 170)).alloc (.cells #[.slice none 0 0] 33)) (.slice none 0 0) [] ys:=by
 refine ⟨EH.start ys,hb,(fun n hn=>by cases hn),⟨by omega,by simp,(by go_simp),((ZR.alloc ZW _).alloc (by simp) _).alloc (by simp;omega) _,_,(by go_simp),h⟩,⟨by simp;omega,(by go_simp),(by go_simp),fun j=>(by go_simp)⟩,⟨by simp,(by go_simp),(by go_simp)⟩,Yf _ _ _ _⟩
theorem TS.drewN (h:TS w ys W v ns r) (q:Nat):TS w ys (W.drewN q) v ns r:=⟨h.1,h.2.1,h.2.2.1,h.2.2.2.1.drewN q,h.2.2.2.2.1,h.2.2.2.2.2.1,h.2.2.2.2.2.2⟩
theorem TS.below (h:TS w ys W v ns r):ZX w W:=h.2.2.2.1.2.2.2.1
theorem IJ (w0 w:World) (k:Nat) (ys:List Int) (h:RS w0 w k ys) :
    Calls Tryz.prog 123 #[.pointer (some ⟨k,0,none⟩)] w fun e w'=>e=.returned (.bool (decide (ys=[])))∧w'=w:=by
 obtain ⟨-,-,-,-,v,h5,h6⟩:=h;obtain ⟨ao,c,rfl,-⟩:=h6
 by_cases hy:ys=[]
 · subst hy
   have h0:((List.length ([]:List Int):Int) == 0)=true:=rfl
   go_enter Tryz.func123,Tryz.ntmps123
   go_wp2;go_ret;exact ⟨rfl,rfl⟩
 have hl:=List.length_pos_iff.2 hy;have h0:((ys.length:Int) == 0)=false:=Xz.2 (by omega);rw [Zl hy]
 go_enter Tryz.func123,Tryz.ntmps123
 go_wp2;go_ret;exact ⟨rfl,rfl⟩
theorem pI (fn:Fn) (first cap:Array Value) (w:World):(Instr.makeFunc fn first cap).run Tryz.prog w=.ok (.func fn first cap) w:=rfl
theorem RS.turn (h:RS w0 W k r) (hg:W.grownBy W' row) (hne:some k≠row) (hlo:∀g,row=some g→w0.heap.size≤g):RS w0 W' k r:=by
 obtain ⟨h1,h2,h3,h4,v,h5,h6⟩:=h;have hb:=hg.block k h2 hne;exact ⟨h1,ZB h2 hg.size,(Ue (a:=⟨k,0,none⟩) hb).trans h3,h4.grown hg h4.size hlo,v,(YI (a:=⟨k,0,none⟩) hb).trans h5,h6⟩
def TR (w:World) (ys:List Int) (W:World) (v:Value) (ns:List Nd) (n:Nd) (r:List Int):Prop :=
 EH ys (ns++[n]) r∧YL r∧rq (ns++[n])∧RS w W (w.heap.size+1) r∧Zt W w.heap.size∧B1 W (w.heap.size+1+1) v∧ZU 134 W (w.heap.size+3) v ns
theorem TS.read {W1:World} (h:TS w ys W v ns r) (hg:W.grownBy W1 (some (w.heap.size+1))) (hp:WM r=some (n,r')) (hr:RS w W1 (w.heap.size+1) r'):TR w ys W1 v ns n r':=by
 obtain ⟨t1,t2,t3,t4,t5,t6,t7⟩:=h;have hb:=UL hp t2;refine ⟨t1.step t2 hp,hb.1,?_,hr,t5.turn hg (by simp),t6.turn hg (by simp),t7.turn hg (by omega)⟩;intro m hm
 rcases Sw.1 hm with hm | hm
 · exact t3 m hm
 simp at hm;subst hm;exact hb.2.2
theorem TR.alloc (h:TR w ys W v ns n r) (o:Obj):TR w ys (W.alloc o) v ns n r:=by
 obtain ⟨t1,t2,t3,t4,t5,t6,t7⟩:=h;exact ⟨t1,t2,t3,t4.new (ZR.alloc ZW _),t5.turn (Yp _ _ none) (by simp),t6.turn (Yp _ _ none) (by simp),t7.below (ZR.alloc ZW _)⟩
theorem TR.push {W3:World} {v3:Value} (h:TR w ys W v ns n r) (hg:W.grownBy W3 v.ownBlock) (ho:W3.ownsRow (w.heap.size+3) 134 7 v3 (ns.length+1) (Yd ns++Rr n)) :
    TS w ys (W3.setCell ⟨w.heap.size+1+1,0,none⟩ v3) v3 (ns++[n]) r:=by
 obtain ⟨t1,t2,t3,t4,t5,t6,t7⟩:=h;have hne:∀k,k<w.heap.size+3→some k≠v.ownBlock:=fun k hk e=>by have:=(ZO t7 k e.symm).1;omega
 have hlo:∀g,v.ownBlock=some g→w.heap.size≤g:=fun g e=>by have:=(ZO t7 g e).1;omega
 have b6:=t6.turn hg (hne _ (by omega));refine ⟨t1,t2,t3,(t4.turn hg (hne _ (by omega)) hlo).setOther (by omega) (by omega) _ _,(t5.turn hg (hne _ (by omega))).set (by omega) _ _,⟨by simpa using b6.1,Ys _ _ _ b6.2.1,by rw [Yb];exact b6.2.2⟩,?_⟩;have:ZU 134 W3 (w.heap.size+3) v3 (ns++[n]):=by unfold ZU;rw [VZ,YE];exact ho
 exact ZU.ZK this (by show w.heap.size+1+1<w.heap.size+3;omega) _
theorem KW (w:World) (v:Value) (ys:List Int) (h:Rd .u8 w v ys) (hby:YL ys) (hl:ys.length≤1048576) :
    Calls Tryz.prog 105 #[v] w fun e w'=>Oy w ys e w':=by
 obtain ⟨i0,hi,hz0,hz1,hz2⟩:=YH Tryz.LP;obtain ⟨ao,cap,rfl,-,-⟩:=h.len;have D0:=Z8 (TS.start w ao ys cap h hby);have hm:=pI
 go_enter_defers Tryz.func105,Tryz.ntmps105
 go_wp2;generalize (((w.alloc _).alloc _).alloc _)=W0 at *
 go_loopw [9] (fun u9 wr=>∃v ns r,Hid (TS w ys wr v ns r)) (fun _ wr=>Sh wr (w.heap.size+1))
 case atStart=>exact ⟨_,_,_,D0⟩
 case round =>
  obtain ⟨v,ns,r,D⟩:=hrel;obtain ⟨va,vc,hva⟩:=D.out.2.2.2.2.2.2.slice;subst hva
  go_wp2_with fail
  refine (IJ w wr (w.heap.size+1) r D.out.2.2.2.1).mono ?_;rintro e w1 ⟨rfl,rfl⟩
  by_cases hr:r=[]
  · subst hr
    rw [show decide (([]:List Int)=[])=true from rfl];obtain ⟨t1,-,t3,-,⟨tz,z0,z1,zf⟩,⟨-,b0,-⟩,t7⟩:=D.out;have Xd:=Z8 t1.done;have OO:=Z8 t3;have ye:=Z8 t7
    go_wp2_with fail
    refine (Vg _ _ ns ye.out.rd OO.out.at).mono ?_;rintro e w2 ⟨rfl,b2⟩;have Gj:=Z8 (ye.out.below b2);have HB2:=Z8 (D.out.below.trans (b2.mono D.out.below.size));obtain ⟨-,z0,z1,zf⟩:=D.out.2.2.2.2.1.turn (grown_of b2 none) (by simp);obtain ⟨-,d0,-⟩:=D.out.2.2.2.2.2.1.turn (grown_of b2 none) (by simp);have f0:=zf 0;have f1:=zf 1
    by_cases hok:Zp ns=true
    · have HF:Hid (∀W,W=(w2.setCell ⟨w.heap.size,0,none⟩ (.bool true)).setCell ⟨w.heap.size,1,none⟩ (.slice va ns.length vc)→Oy w ys (.returned (.agg #[.bool true,.slice va ns.length vc])) W):=by
       rintro W rfl;refine ⟨(HB2.out.setCell (p:=⟨w.heap.size,0,none⟩) ZW _).setCell (p:=⟨w.heap.size,1,none⟩) ZW _,.inr ⟨ns,_,?_,rfl,?_⟩⟩
       · unfold Ty;rw [Xd.out];simp only;rw [ZY hok]
       exact ZU.mono (ZU.ZK (ZU.ZK Gj.out (by show w.heap.size<w.heap.size+3;omega) _) (by show w.heap.size<w.heap.size+3;omega) _) (by omega)
      rw [hok];go_wp2;refine WH (f:=122) (args:=#[]) (by simp) (by simp [go_sem]) ?_;refine (PQ _).mono ?_;rintro e u' w3 ⟨rfl,rfl,rfl⟩
      simp [Leaves,settle,results,Tryz.results105,go_sem,z0,z1]
      exact HF.out _ rfl
    have hok':Zp ns=false:=by simpa using hok
    have HF:Hid (∀W,W=(w2.setCell ⟨w.heap.size,0,none⟩ (.bool false)).setCell ⟨w.heap.size,1,none⟩ (.slice none 0 0)→Oy w ys (.returned (.agg #[.bool false,.slice none 0 0])) W):=by
     rintro W rfl;refine ⟨(HB2.out.setCell (p:=⟨w.heap.size,0,none⟩) ZW _).setCell (p:=⟨w.heap.size,1,none⟩) ZW _,.inl ⟨?_,rfl⟩⟩;unfold Ty;rw [Xd.out];simp only;rw [Z3 hok]
    rw [hok'];go_wp2;refine WH (f:=122) (args:=#[]) (by simp) (by simp [go_sem]) ?_;refine (PQ _).mono ?_;rintro e u' w3 ⟨rfl,rfl,rfl⟩
    simp [Leaves,settle,results,Tryz.results105,go_sem,z0,z1]
    exact HF.out _ rfl
  rw [Zl hr];have HBAD:Hid (WM r=none→∀W W',w1.drew.grownBy W (some (w.heap.size+1))→ZX W W'→W'.cell? ⟨w.heap.size,0,none⟩=some (.bool false)∧W'.cell? ⟨w.heap.size,1,none⟩=some (.slice none 0 0)∧Oy w ys (.returned (.agg #[.bool false,.slice none 0 0])) W'):=by
   intro hp W W' hg hb;have z:=((D.out.drewN 1).2.2.2.2.1.turn hg (by simp)).turn (grown_of hb none) (by simp);have hB:=(D.out.drewN 1).below.grown hg (D.out.drewN 1).below.size (fun q hq=>by simp only [Xu] at hq;omega);refine ⟨z.2.1,z.2.2.1,Ye hB hb,.inl ⟨?_,rfl⟩⟩;unfold Ty;rw [D.out.1.bad hr hp]
  have oH:Hid (r≠[]):=hr;have xm:Hid (ns.length+r.length≤ys.length):=by obtain ⟨f,-,-,h⟩:=D.out.1;exact h
  have hns:ns.length≤1048576:=by have:=xm.out;omega
  have c0:=D.out.2.2.2.2.2.1.2.1
  cases hrd:WM r with
  | none =>
   have Ua:=Z8 hrd;go_wp2;refine ZF (S:=fun _=>True) (by kernel_rfl) trivial (fun Z9=>?_);refine Wu 0 2 rfl rfl (by kernel_rfl) (fun K hK=>?_) (fun K hK=>?_)
   · go_simp
     refine hK.out _ _ trivial (fun ZI=>?_);refine Wu 1 2 rfl rfl (by kernel_rfl) (fun K hK=>?_) (fun K hK=>?_)
     · go_simp
       refine hK.out _ _ trivial (fun ZI=>?_);refine ZS 2 rfl (by kernel_rfl) (fun K hK=>?_);go_simp;refine hK.out _ _ trivial (fun ZI=>?_);refine ZS 3 rfl (by kernel_rfl) (fun K hK=>?_);go_simp;refine (Yr w w1.drew (w.heap.size+1) r (D.out.drewN 1).2.2.2.1 D.out.2.1).mono ?_;rintro e W1 ⟨g1,hp⟩
       rcases hp with ⟨hp,rfl⟩ | ⟨n,r',hp,rfl,hr1⟩
       · refine WH (f:=122) (args:=#[]) (by simp) (by simp [go_sem]) ?_
         refine (VJ [] _).mono ?_;rintro e u' w3 ⟨rfl,rfl,b3⟩;obtain ⟨z0,z1,hF⟩:=HBAD.out hp _ _ g1 b3
         simp [Leaves,settle,results,Tryz.results105,go_sem,z0,z1]
         exact hF
       rw [Ua.out] at hp;cases hp
     go_simp;refine hK.out _ _ trivial (fun ZI=>?_);refine Wu 1 3 rfl rfl (by kernel_rfl) (fun K hK=>?_) (fun K hK=>?_)
     · go_simp
       refine hK.out _ _ trivial (fun ZI=>?_);refine ZS 3 rfl (by kernel_rfl) (fun K hK=>?_);go_simp;refine (Yr w w1.drew (w.heap.size+1) r (D.out.drewN 1).2.2.2.1 D.out.2.1).mono ?_;rintro e W1 ⟨g1,hp⟩
       rcases hp with ⟨hp,rfl⟩ | ⟨n,r',hp,rfl,hr1⟩
       · refine WH (f:=122) (args:=#[]) (by simp) (by simp [go_sem]) ?_
         refine (VJ [] _).mono ?_;rintro e u' w3 ⟨rfl,rfl,b3⟩;obtain ⟨z0,z1,hF⟩:=HBAD.out hp _ _ g1 b3
         simp [Leaves,settle,results,Tryz.results105,go_sem,z0,z1]
         exact hF
       rw [Ua.out] at hp;cases hp
     go_simp;refine (Yr w w1.drew (w.heap.size+1) r (D.out.drewN 1).2.2.2.1 D.out.2.1).mono ?_;rintro e W1 ⟨g1,hp⟩
     rcases hp with ⟨hp,rfl⟩ | ⟨n,r',hp,rfl,hr1⟩
     · refine WH (f:=122) (args:=#[]) (by simp) (by simp [go_sem]) ?_
       refine (VJ [] _).mono ?_;rintro e u' w3 ⟨rfl,rfl,b3⟩;obtain ⟨z0,z1,hF⟩:=HBAD.out hp _ _ g1 b3
       simp [Leaves,settle,results,Tryz.results105,go_sem,z0,z1]
       exact hF
     rw [Ua.out] at hp;cases hp
   go_simp;refine hK.out _ _ trivial (fun ZI=>?_);refine Wu 0 3 rfl rfl (by kernel_rfl) (fun K hK=>?_) (fun K hK=>?_)
   · go_simp
     refine hK.out _ _ trivial (fun ZI=>?_);refine Wu 1 3 rfl rfl (by kernel_rfl) (fun K hK=>?_) (fun K hK=>?_)
     · go_simp
       refine hK.out _ _ trivial (fun ZI=>?_);refine ZS 3 rfl (by kernel_rfl) (fun K hK=>?_);go_simp;refine (Yr w w1.drew (w.heap.size+1) r (D.out.drewN 1).2.2.2.1 D.out.2.1).mono ?_;rintro e W1 ⟨g1,hp⟩
       rcases hp with ⟨hp,rfl⟩ | ⟨n,r',hp,rfl,hr1⟩
       · refine WH (f:=122) (args:=#[]) (by simp) (by simp [go_sem]) ?_
         refine (VJ [] _).mono ?_;rintro e u' w3 ⟨rfl,rfl,b3⟩;obtain ⟨z0,z1,hF⟩:=HBAD.out hp _ _ g1 b3
         simp [Leaves,settle,results,Tryz.results105,go_sem,z0,z1]
         exact hF
       rw [Ua.out] at hp;cases hp
     go_simp;refine (Yr w w1.drew (w.heap.size+1) r (D.out.drewN 1).2.2.2.1 D.out.2.1).mono ?_;rintro e W1 ⟨g1,hp⟩
     rcases hp with ⟨hp,rfl⟩ | ⟨n,r',hp,rfl,hr1⟩
     · refine WH (f:=122) (args:=#[]) (by simp) (by simp [go_sem]) ?_
       refine (VJ [] _).mono ?_;rintro e u' w3 ⟨rfl,rfl,b3⟩;obtain ⟨z0,z1,hF⟩:=HBAD.out hp _ _ g1 b3
       simp [Leaves,settle,results,Tryz.results105,go_sem,z0,z1]
       exact hF
     rw [Ua.out] at hp;cases hp
   go_simp;refine (Yr w w1.drew (w.heap.size+1) r (D.out.drewN 1).2.2.2.1 D.out.2.1).mono ?_;rintro e W1 ⟨g1,hp⟩
   rcases hp with ⟨hp,rfl⟩ | ⟨n,r',hp,rfl,hr1⟩
   · refine WH (f:=122) (args:=#[]) (by simp) (by simp [go_sem]) ?_
     refine (VJ [] _).mono ?_;rintro e u' w3 ⟨rfl,rfl,b3⟩;obtain ⟨z0,z1,hF⟩:=HBAD.out hp _ _ g1 b3
     simp [Leaves,settle,results,Tryz.results105,go_sem,z0,z1]
     exact hF
   rw [Ua.out] at hp;cases hp
  | some q =>
   obtain ⟨n0,r0⟩:=q;have Ua:=Z8 hrd;go_wp2;refine wp_region_noPanic ?_;refine ZF (S:=fun _=>True) (by kernel_rfl) (trivial) (fun Z9=>?_);refine ZV (.pointer (some ⟨w.heap.size+1+1,0,none⟩)) (by kernel_rfl) (fun _=>id) Z9 ?_ ?_
   · intro w9 Z4;go_simp
   refine ZA 2 (.pointer (some ⟨w.heap.size+1,0,none⟩)) rfl (by kernel_rfl) (fun _=>id) Z9 ?hy2 ?_
   case hy2=>intro w9 Z4;go_simp
   refine Wu 1 3 rfl rfl (by kernel_rfl) (fun K hK=>?_) (fun K hK=>?_)
   · go_simp
     refine hK.out _ _ trivial (fun ZI=>?_);refine ZS 3 rfl (by kernel_rfl) (fun K hK=>?_);go_simp;refine (Yr w w1.drew (w.heap.size+1) r (D.out.drewN 1).2.2.2.1 D.out.2.1).mono ?_;rintro e W1 ⟨g1,hp⟩
     rcases hp with ⟨hp,rfl⟩ | ⟨n,r',hp,rfl,hr1⟩
     · rw [Ua.out] at hp;cases hp
     have T1:=Z8 ((D.out.drewN 1).read g1 hp hr1);have Uu:=Z8 ((UL hp D.out.2.1).2.1);have c1:=T1.out.2.2.2.2.2.1.2.1;refine hK.out _ _ trivial (fun ZI=>?_);refine ZV (Py n) (by kernel_rfl) (fun _=>id) Z9 ?_ ?_
     · intro w9 Z4;unfold Py;have Z0:=Ox n w9;go_simp
     refine ZS 5 rfl (by kernel_rfl) (fun K hK=>?_);unfold Py;go_simp;have T2:Hid (TR w ys (W1.alloc (.cells #[.string n.path,.string n.data,.int .i64 n.Ym,.int .i64 n.ZD,.int .i64 n.cz,.int .i64 n.mz,.int .i64 n.pz] 134)) (.slice va ns.length vc) ns n r'):=T1.out.alloc _;have NC:Hid (∀j u,(Rr n)[j]?=some u→(W1.alloc (.cells #[.string n.path,.string n.data,.int .i64 n.Ym,.int .i64 n.ZD,.int .i64 n.cz,.int .i64 n.mz,.int .i64 n.pz] 134)).cell? ((⟨W1.heap.size,0,none⟩:Addr).add j)=some u):=XL _ _ _;refine hK.out _ _ trivial (fun ZI=>?_);generalize W1.alloc _=W2 at *;generalize W1.heap.size=G1 at *;have c1:=T2.out.2.2.2.2.2.1.2.1;refine ZS 6 rfl (by kernel_rfl) (fun K hK=>?_);refine step_append rfl (.tmp 12) (.tmp 16) 31 rfl (w.heap.size+3) 134 i0 (.agg #[.string ByteArray.empty,.string ByteArray.empty,.int .i64 0,.int .i64 0,.int .i64 0,.int .i64 0,.int .i64 0]) 7 72 Tryz.underlying31 hi hz0 hz1 hz2 rfl (by decide) (.slice va ns.length vc) ns.length _ rfl T2.out.2.2.2.2.2.2 ⟨G1,0,none⟩ 1 1 (Rr n) rfl rfl NC.out (WL n) (by unfold maxLen;omega) (by omega) (by have:=T2.out.2.2.2.2.2.1.1;omega) ?_;intro v3 W3 ho3 hg3;have D3:=Z8 (T2.out.push hg3 ho3);obtain ⟨a3,q3,hv3⟩:=D3.out.2.2.2.2.2.2.slice;rw [show (ns++[n]).length=ns.length+1 by simp] at hv3;subst hv3;obtain ⟨-,c3,f3⟩:=T2.out.2.2.2.2.2.1.turn hg3 (fun e=>by have:=(ZO T2.out.2.2.2.2.2.2 _ e.symm).1;omega);refine hK.out _ _ trivial (fun ZI=>?_);refine ZV (.pointer (some ⟨w.heap.size+1+1,0,none⟩)) (by kernel_rfl) (fun _=>id) Z9 ?_ ?_
     · intro w9 Z4;go_simp
     refine ZS 8 rfl (by kernel_rfl) (fun K hK=>?_);go_simp;refine hK.out _ _ trivial (fun ZI=>?_);refine ZM (by kernel_rfl) (NoPanic.normal ?_) _
     try simp only [Act.put,Zk,Zj,Zi]
     go_wp2;refine ⟨⟨_,_,_,D3⟩,?_⟩;rw [D3.out.2.2.2.1.Sh,D.out.2.2.2.1.Sh];exact Uu.out
   go_simp;refine (Yr w w1.drew (w.heap.size+1) r (D.out.drewN 1).2.2.2.1 D.out.2.1).mono ?_;rintro e W1 ⟨g1,hp⟩
   rcases hp with ⟨hp,rfl⟩ | ⟨n,r',hp,rfl,hr1⟩
   · rw [Ua.out] at hp;cases hp
   have T1:=Z8 ((D.out.drewN 1).read g1 hp hr1);have Uu:=Z8 ((UL hp D.out.2.1).2.1);have c1:=T1.out.2.2.2.2.2.1.2.1;refine hK.out _ _ trivial (fun ZI=>?_);refine ZA 4 (Py n) rfl (by kernel_rfl) (fun _=>id) Z9 ?tU ?_
   case tU =>
    intro w9 Z4;unfold Py;have Z0:=Ox n w9;go_simp
   refine Wu 1 5 rfl rfl (by kernel_rfl) (fun K hK=>?_) (fun K hK=>?_)
   · go_simp
     refine hK.out _ _ trivial (fun ZI=>?_);refine ZS 5 rfl (by kernel_rfl) (fun K hK=>?_);unfold Py;go_simp;have T2:Hid (TR w ys (W1.alloc (.cells #[.string n.path,.string n.data,.int .i64 n.Ym,.int .i64 n.ZD,.int .i64 n.cz,.int .i64 n.mz,.int .i64 n.pz] 134)) (.slice va ns.length vc) ns n r'):=T1.out.alloc _;have NC:Hid (∀j u,(Rr n)[j]?=some u→(W1.alloc (.cells #[.string n.path,.string n.data,.int .i64 n.Ym,.int .i64 n.ZD,.int .i64 n.cz,.int .i64 n.mz,.int .i64 n.pz] 134)).cell? ((⟨W1.heap.size,0,none⟩:Addr).add j)=some u):=XL _ _ _;refine hK.out _ _ trivial (fun ZI=>?_);generalize W1.alloc _=W2 at *;generalize W1.heap.size=G1 at *;have c1:=T2.out.2.2.2.2.2.1.2.1;refine ZS 6 rfl (by kernel_rfl) (fun K hK=>?_);refine step_append rfl (.tmp 12) (.tmp 16) 31 rfl (w.heap.size+3) 134 i0 (.agg #[.string ByteArray.empty,.string ByteArray.empty,.int .i64 0,.int .i64 0,.int .i64 0,.int .i64 0,.int .i64 0]) 7 72 Tryz.underlying31 hi hz0 hz1 hz2 rfl (by decide) (.slice va ns.length vc) ns.length _ rfl T2.out.2.2.2.2.2.2 ⟨G1,0,none⟩ 1 1 (Rr n) rfl rfl NC.out (WL n) (by unfold maxLen;omega) (by omega) (by have:=T2.out.2.2.2.2.2.1.1;omega) ?_;intro v3 W3 ho3 hg3;have D3:=Z8 (T2.out.push hg3 ho3);obtain ⟨a3,q3,hv3⟩:=D3.out.2.2.2.2.2.2.slice;rw [show (ns++[n]).length=ns.length+1 by simp] at hv3;subst hv3;obtain ⟨-,c3,f3⟩:=T2.out.2.2.2.2.2.1.turn hg3 (fun e=>by have:=(ZO T2.out.2.2.2.2.2.2 _ e.symm).1;omega);refine hK.out _ _ trivial (fun ZI=>?_);refine ZV (.pointer (some ⟨w.heap.size+1+1,0,none⟩)) (by kernel_rfl) (fun _=>id) Z9 ?_ ?_
     · intro w9 Z4;go_simp
     refine ZS 8 rfl (by kernel_rfl) (fun K hK=>?_);go_simp;refine hK.out _ _ trivial (fun ZI=>?_);refine ZM (by kernel_rfl) (NoPanic.normal ?_) _
     try simp only [Act.put,Zk,Zj,Zi]
     go_wp2;refine ⟨⟨_,_,_,D3⟩,?_⟩;rw [D3.out.2.2.2.1.Sh,D.out.2.2.2.1.Sh];exact Uu.out
   unfold Py;go_simp;have T2:Hid (TR w ys (W1.alloc (.cells #[.string n.path,.string n.data,.int .i64 n.Ym,.int .i64 n.ZD,.int .i64 n.cz,.int .i64 n.mz,.int .i64 n.pz] 134)) (.slice va ns.length vc) ns n r'):=T1.out.alloc _;have NC:Hid (∀j u,(Rr n)[j]?=some u→(W1.alloc (.cells #[.string n.path,.string n.data,.int .i64 n.Ym,.int .i64 n.ZD,.int .i64 n.cz,.int .i64 n.mz,.int .i64 n.pz] 134)).cell? ((⟨W1.heap.size,0,none⟩:Addr).add j)=some u):=XL _ _ _;refine hK.out _ _ trivial (fun ZI=>?_);generalize W1.alloc _=W2 at *;generalize W1.heap.size=G1 at *;have c1:=T2.out.2.2.2.2.2.1.2.1;refine ZS 1 rfl (by kernel_rfl) (fun K hK=>?_);go_simp;refine hK.out _ _ trivial (fun ZI=>?_);refine ZS 6 rfl (by kernel_rfl) (fun K hK=>?_);refine step_append rfl (.tmp 12) (.tmp 16) 31 rfl (w.heap.size+3) 134 i0 (.agg #[.string ByteArray.empty,.string ByteArray.empty,.int .i64 0,.int .i64 0,.int .i64 0,.int .i64 0,.int .i64 0]) 7 72 Tryz.underlying31 hi hz0 hz1 hz2 rfl (by decide) (.slice va ns.length vc) ns.length _ rfl T2.out.2.2.2.2.2.2 ⟨G1,0,none⟩ 1 1 (Rr n) rfl rfl NC.out (WL n) (by unfold maxLen;omega) (by omega) (by have:=T2.out.2.2.2.2.2.1.1;omega) ?_;intro v3 W3 ho3 hg3;have D3:=Z8 (T2.out.push hg3 ho3);obtain ⟨a3,q3,hv3⟩:=D3.out.2.2.2.2.2.2.slice;rw [show (ns++[n]).length=ns.length+1 by simp] at hv3;subst hv3;obtain ⟨-,c3,f3⟩:=T2.out.2.2.2.2.2.1.turn hg3 (fun e=>by have:=(ZO T2.out.2.2.2.2.2.2 _ e.symm).1;omega);refine hK.out _ _ trivial (fun ZI=>?_);refine ZV (.pointer (some ⟨w.heap.size+1+1,0,none⟩)) (by kernel_rfl) (fun _=>id) Z9 ?_ ?_
   · intro w9 Z4;go_simp
   refine ZS 8 rfl (by kernel_rfl) (fun K hK=>?_);go_simp;refine hK.out _ _ trivial (fun ZI=>?_);refine ZM (by kernel_rfl) (NoPanic.normal ?_) _
   try simp only [Act.put,Zk,Zj,Zi]
   go_wp2;refine ⟨⟨_,_,_,D3⟩,?_⟩;rw [D3.out.2.2.2.1.Sh,D.out.2.2.2.1.Sh];exact Uu.out
def Uq (ns:List Nd) (p:ByteArray):List Nd:=ns.filter fun n=>!(n.path.toList == p.toList)
theorem xk (ns:List Nd) (p:ByteArray) (k:Nat) (h:k<ns.length) (hc:((Zy ns k).path.toList == p.toList)=true):Uq (ns.take (k+1)) p=Uq (ns.take k) p:=by
 unfold Uq;rw [Rm h,uy,←WO h]
 simp [hc]
theorem tT (ns:List Nd) (p:ByteArray) (k:Nat) (h:k<ns.length) (hc:((Zy ns k).path.toList == p.toList)=false):Uq (ns.take (k+1)) p=Uq (ns.take k) p++[Zy ns k]:=by
 unfold Uq;rw [Rm h,uy,←WO h]
 simp [hc]
theorem xj (ns:List Nd) (p:ByteArray):(Uq ns p).length≤ns.length:=List.length_filter_le _ _
theorem Tv (w:World) (v:Value) (ns:List Nd) (p:ByteArray) (h:VL w v ns) (hn:ns.length≤1000000) :
    Calls Tryz.prog 60 #[v,.string p] w fun e w'=>∃v',e=.returned v'∧ZU 134 w' w.heap.size v' (Uq ns p)∧ZX w w':=by
 obtain ⟨i0,hi,hz0,hz1,hz2⟩:=YH Tryz.LP;obtain ⟨ao,ca,rfl,_,_⟩:=h.len;have HR:=Z8 h;have O0:Hid (ZU 134 (w.alloc (.cells #[] 134)) w.heap.size (.slice (some ⟨w.heap.size,0,none⟩) 0 0) (Uq (ns.take 0) p)):=Xb w #[] 0 ZW (ZQ _) rfl;have B0:Hid (ZX w (w.alloc (.cells #[] 134))):=ZR.alloc ZW _;generalize hnn:ns.length=n at *;have HP:=Z8 hnn;clear h hnn
 go_enter Tryz.func60,Tryz.ntmps60
 go_wp2
 go_loopw [5,6] (fun vo vk wr=>∃k:Nat,k≤n∧vk=.int .i64 k∧Hid (ZU 134 wr w.heap.size vo (Uq (ns.take k) p))∧Hid (ZX w wr)) (fun _ i _=>n - (intOf i).toNat)
 case atStart=>exact ⟨0,ZQ _,rfl,O0,B0⟩
 case round =>
  obtain ⟨k,hk,rfl,HW,HB⟩:=hrel;have sB:=HB.out.size
  by_cases hlt:k<n
  · have YN:(k:Int)<(n:Int):=by omega
    obtain ⟨b,o,hao,hb,hc⟩:∃b o,ao=some ⟨b,o,none⟩∧b<w.heap.size∧WV w b (o+k*7) (Zy ns k):=by
     obtain ⟨BK,cap',e',-,-,h3⟩:=HR.out
     simp only [Zc] at e'
     obtain ⟨rfl,-,-⟩:=e'
     rcases h3 with h3 | ⟨b,o,rfl,hb,hc⟩
     · have:=HP.out;rw [h3] at this;simp at this;omega
     exact ⟨b,o,rfl,hb,hc k (by rw [HP.out];exact hlt)⟩
    subst hao;obtain ⟨c0,c1,c2,c3,c4,c5,c6⟩:=hc.below HB.out hb;clear hc;have hll:(Uq (ns.take k) p).length≤1000000:=by
     have:=xj (ns.take k) p;rw [YC] at this;omega
    cases hA:((Zy ns k).path.toList == p.toList) with
    | true =>
     have HS:=Z8 (xk ns p k (by rw [HP.out];exact hlt) hA);go_wp2;exact ⟨⟨k+1,by omega,by go_num,(by rw [HS.out];exact HW),HB⟩,by simp [intOf];omega⟩
    | false =>
     have HS:=Z8 (tT ns p k (by rw [HP.out];exact hlt) hA);generalize Uq (ns.take k) p=Lk at *;generalize Zy ns k=m at *;have OR:Hid (wr.ownsRow w.heap.size 134 7 u5 Lk.length (Yd Lk)):=HW.out
     go_wp2_with (at_builtin;go_must (refine XS _ rfl _ _ 31 rfl w.heap.size 134 i0 (.agg #[.string ByteArray.empty,.string ByteArray.empty,.int .i64 0,.int .i64 0,.int .i64 0,.int .i64 0,.int .i64 0]) 7 72 Tryz.underlying31 hi hz0 hz1 hz2 rfl (by decide) _ _ _ rfl (OR.out.alloc _) ⟨wr.heap.size,0,none⟩ 1 1 (Rr m) rfl rfl (XL wr m _) (WL m) ?_ ?_ ?_ ?_))
     · unfold maxLen;omega
     · omega
     · simp;omega
     intro v5 w5 GL hg5 _;have O5:Hid (ZU 134 w5 w.heap.size v5 (Uq (ns.take (k+1)) p)):=by
      rw [HS.out];unfold ZU;rw [YE,VZ];exact GL
     have B5:=Z8 ((HB.out.alloc sB _).grown hg5 (by simp;omega) (fun q hq=>(ZO OR.out q hq).1));clear GL hg5 OR HW HB HS c0 c1 c2 c3 c4 c5 c6;go_wp2;exact ⟨⟨k+1,by omega,by go_num,O5,B5⟩,by simp [intOf];omega⟩
  have hkn:k=n:=by omega
  subst hkn;go_wp2;go_ret;refine ⟨_,rfl,?_,HB.out⟩;have:=HW.out;rw [We (by rw [HP.out];exact ZW)] at this;exact this
def Rq (n:Nd) (st:List Nd × Bool) (m:Nd):List Nd × Bool :=
 let o:=if !st.2 && !(Op.bytesLess m.path.toList n.path.toList) then (st.1++[n],true) else st
 if m.path.toList == n.path.toList then o else (o.1++[m],o.2)
def MR (ns:List Nd) (n:Nd):List Nd × Bool:=ns.foldl (Rq n) ([],false)
def vg (ns:List Nd) (n:Nd):List Nd:=if (MR ns n).2 then (MR ns n).1 else (MR ns n).1++[n]
theorem II (ns:List Nd) (n:Nd) (k:Nat) (h:k<ns.length):MR (ns.take (k+1)) n=Rq n (MR (ns.take k) n) (Zy ns k):=by
 unfold MR;rw [Rm h,GD,WO h]
 rfl
theorem xi (n:Nd) (st:List Nd × Bool) (m:Nd):(Rq n st m).1.length≤st.1.length+2:=by
 unfold Rq
 simp only
 split <;> split <;> simp <;> omega
theorem EE:∀(ns:List Nd) (n:Nd) (k:Nat),(MR (ns.take k) n).1.length≤2*k
 | ns,n,0=>by simp [MR]
 | ns,n,k+1=>by
  have h1:=EE ns n k
  by_cases h:k<ns.length
  · rw [II ns n k h]
    have:=xi n (MR (ns.take k) n) (Zy ns k);omega
  rw [We (by omega)] at h1 ⊢;omega
theorem UP.VY (h:UP w B n) (hb:Below (B+1) w w'):UP w' B n :=
 ⟨ZB h.lt hb.size,(hb.cell (p:=⟨B,_,none⟩) (P6 _)).trans h.c0,(hb.cell (p:=⟨B,_,none⟩) (P6 _)).trans h.c1,(hb.cell (p:=⟨B,_,none⟩) (P6 _)).trans h.c2,(hb.cell (p:=⟨B,_,none⟩) (P6 _)).trans h.c3,(hb.cell (p:=⟨B,_,none⟩) (P6 _)).trans h.c4,(hb.cell (p:=⟨B,_,none⟩) (P6 _)).trans h.c5,(hb.cell (p:=⟨B,_,none⟩) (P6 _)).trans h.c6⟩
theorem As (w:World) (v:Value) (ns:List Nd) (n:Nd) (h:VL w v ns) (hn:ns.length≤100000) :
    Calls Tryz.prog 93 #[v,.agg #[.string n.path,.string n.data,.int .i64 n.Ym,.int .i64 n.ZD,.int .i64 n.cz,.int .i64 n.mz,.int .i64 n.pz]] w fun e w'=>∃v',e=.returned v'∧ZU 134 w' w.heap.size v' (vg ns n)∧ZX w w':=by
 obtain ⟨i0,hi,hz0,hz1,hz2⟩:=YH Tryz.LP;obtain ⟨ao,ca,rfl,_,_⟩:=h.len;have HR:=Z8 h;have X0:Hid (UP ((w.alloc (.cells #[.string n.path,.string n.data,.int .i64 n.Ym,.int .i64 n.ZD,.int .i64 n.cz,.int .i64 n.mz,.int .i64 n.pz] 134)).alloc (.cells #[] 134)) w.heap.size n):=(UP.new w n _).below (ZR.alloc ZW _);have B0:Hid (ZX w ((w.alloc (.cells #[.string n.path,.string n.data,.int .i64 n.Ym,.int .i64 n.ZD,.int .i64 n.cz,.int .i64 n.mz,.int .i64 n.pz] 134)).alloc (.cells #[] 134))):=(ZR.alloc ZW _).alloc (by simp) _;have O0:Hid (ZU 134 ((w.alloc (.cells #[.string n.path,.string n.data,.int .i64 n.Ym,.int .i64 n.ZD,.int .i64 n.cz,.int .i64 n.mz,.int .i64 n.pz] 134)).alloc (.cells #[] 134)) (w.heap.size+1) (.slice (some ⟨w.heap.size+1,0,none⟩) 0 0) (MR (ns.take 0) n).1):=by
  have:=Xb (base:=w.heap.size+1) (e:=134) (size:=7) (w.alloc (.cells #[.string n.path,.string n.data,.int .i64 n.Ym,.int .i64 n.ZD,.int .i64 n.cz,.int .i64 n.mz,.int .i64 n.pz] 134)) #[] 0 (by simp) (ZQ _) rfl;rw [show (w.alloc (.cells #[.string n.path,.string n.data,.int .i64 n.Ym,.int .i64 n.ZD,.int .i64 n.cz,.int .i64 n.mz,.int .i64 n.pz] 134)).heap.size=w.heap.size+1 by simp] at this;exact this
 generalize hnn:ns.length=N at *;have HP:=Z8 hnn
 go_enter Tryz.func93,Tryz.ntmps93
 go_wp2;generalize (w.alloc _).alloc _=w0 at *;have D0:Hid (Below (w.heap.size+1) w0 w0):=ZR;have s0:w.heap.size+1≤w0.heap.size:=X0.out.lt
 go_loopw [5,6,7] (fun vo vd vk wr=>∃k:Nat,k≤N∧vk=.int .i64 k∧vd=.bool (MR (ns.take k) n).2∧Hid (ZU 134 wr (w.heap.size+1) vo (MR (ns.take k) n).1)∧Hid (Below (w.heap.size+1) w0 wr)) (fun _ _ i _=>N - (intOf i).toNat)
 case atStart=>exact ⟨0,ZQ _,rfl,rfl,O0,D0⟩
 case round =>
  obtain ⟨k,hk,rfl,rfl,HW,HD⟩:=hrel;have sD:=ZP s0 HD.out.size;have hll:=EE ns n k
  by_cases hlt:k<N
  · have YN:(k:Int)<(N:Int):=by omega
    obtain ⟨b,o,hao,hb,hc⟩:∃b o,ao=some ⟨b,o,none⟩∧b<w.heap.size∧WV w b (o+k*7) (Zy ns k):=by
     obtain ⟨BK,cap',e',-,-,h3⟩:=HR.out
     simp only [Zc] at e'
     obtain ⟨rfl,-,-⟩:=e'
     rcases h3 with h3 | ⟨b,o,rfl,hb,hc⟩
     · have:=HP.out;rw [h3] at this;simp at this;omega
     exact ⟨b,o,rfl,hb,hc k (by rw [HP.out];exact hlt)⟩
    subst hao;have R:=Z8 (hc.below B0.out hb);have hb1:b<w.heap.size+1:=Nat.lt_succ_of_lt hb;have HST:=Z8 (II ns n k (by rw [HP.out];exact hlt));generalize hst:MR (ns.take k) n=st at *;generalize hm:Zy ns k=m at *;obtain ⟨st1,st2⟩:=st
    simp only at hll HW
    cases st2 with
    | true =>
     go_wp2;refine ZF (S:=fun W=>W.cell? ⟨b,o+k*7,none⟩=some (.string m.path)∧W.cell? ⟨w.heap.size,0,none⟩=some (.string n.path)) (by kernel_rfl) (⟨(R.out.below (HD.out.trans ((below_drewN' _ 1).mono (ZP s0 HD.out.size))) hb1).c0,(X0.out.VY (HD.out.trans ((below_drewN' _ 1).mono (ZP s0 HD.out.size)))).c0⟩) (fun Z9=>?_)
     iterate 3 (refine ZV ?_ (by kernel_rfl) (fun _=>id) Z9 ?_ ?_;rotate_left;· intro w9 Z4;obtain ⟨y0,y1⟩:=Z4;go_simp;try with_reducible rfl)
     iterate 8 (refine TU (by kernel_rfl) (fun _=>id) Z9 ?_)
     refine ZV ?_ (by kernel_rfl) (fun _=>id) Z9 ?_ ?_
     rotate_left
     · intro w9 Z4;obtain ⟨y0,y1⟩:=Z4;go_simp;try with_reducible rfl
     refine ZM (by kernel_rfl) ?_ _
     try simp only [Act.put,Zk,Zj,Zi]
     clear Z9;have Z:Hid (Below (w.heap.size+1) w0 wr.drew):=HD.out.trans ((below_drewN' wr 1).mono (ZP s0 HD.out.size));have J:Hid (ZU 134 wr.drew (w.heap.size+1) u5 st1):=HW.out;generalize wr.drew=w1 at *
     cases heq:(m.path.toList == n.path.toList) with
     | true =>
      have HS:Hid (Rq n (st1,true) m=(st1,true)):=by show _=_;unfold Rq;simp [heq]
      go_wp2;refine ZF (S:=fun W=>W.cell? ⟨b,o+k*7,none⟩=some (.string m.path)∧W.cell? ⟨w.heap.size,0,none⟩=some (.string n.path)) (by kernel_rfl) (⟨(R.out.below (Z.out.trans ((below_drewN' _ 1).mono (ZP s0 Z.out.size))) hb1).c0,(X0.out.VY (Z.out.trans ((below_drewN' _ 1).mono (ZP s0 Z.out.size)))).c0⟩) (fun Z9=>?_)
      iterate 8 (refine ZV ?_ (by kernel_rfl) (fun _=>id) Z9 ?_ ?_;rotate_left;· intro w9 Z4;obtain ⟨y0,y1⟩:=Z4;go_simp;try with_reducible rfl)
      refine ZM (by kernel_rfl) ?_ _
      try simp only [Act.put,Zk,Zj,Zi]
      clear Z9;have Y:Hid (Below (w.heap.size+1) w0 w1.drew):=Z.out.trans ((below_drewN' w1 1).mono (ZP s0 Z.out.size));have P:Hid (ZU 134 w1.drew (w.heap.size+1) u5 st1):=J.out;generalize w1.drew=I at *;go_wp2;exact ⟨⟨k+1,by omega,by go_num,(by rw [HST.out,HS.out]),(by rw [HST.out,HS.out];exact P),Y⟩,by simp [intOf];omega⟩
     | false =>
      have HS:Hid (Rq n (st1,true) m=(st1++[m],true)):=by show _=_;unfold Rq;simp [heq]
      go_wp2;refine ZF (S:=fun W=>W.cell? ⟨b,o+k*7,none⟩=some (.string m.path)∧W.cell? ⟨w.heap.size,0,none⟩=some (.string n.path)) (by kernel_rfl) (⟨(R.out.below (Z.out.trans ((below_drewN' _ 1).mono (ZP s0 Z.out.size))) hb1).c0,(X0.out.VY (Z.out.trans ((below_drewN' _ 1).mono (ZP s0 Z.out.size)))).c0⟩) (fun Z9=>?_)
      iterate 8 (refine ZV ?_ (by kernel_rfl) (fun _=>id) Z9 ?_ ?_;rotate_left;· intro w9 Z4;obtain ⟨y0,y1⟩:=Z4;go_simp;try with_reducible rfl)
      refine ZM (by kernel_rfl) ?_ _
      try simp only [Act.put,Zk,Zj,Zi]
      clear Z9;have Y:Hid (Below (w.heap.size+1) w0 w1.drew):=Z.out.trans ((below_drewN' w1 1).mono (ZP s0 Z.out.size));have P:Hid (ZU 134 w1.drew (w.heap.size+1) u5 st1):=J.out;generalize w1.drew=I at *;obtain ⟨c0,c1,c2,c3,c4,c5,c6⟩:=R.out.below Y.out hb1;obtain ⟨-,x0,x1,x2,x3,x4,x5,x6⟩:=X0.out.VY Y.out;have Q:Hid (I.ownsRow (w.heap.size+1) 134 7 u5 st1.length (Yd st1)):=P.out;have H:=ZP s0 Y.out.size
      go_wp2_with (at_builtin;go_must (refine XS _ rfl _ _ 31 rfl (w.heap.size+1) 134 i0 (.agg #[.string ByteArray.empty,.string ByteArray.empty,.int .i64 0,.int .i64 0,.int .i64 0,.int .i64 0,.int .i64 0]) 7 72 Tryz.underlying31 hi hz0 hz1 hz2 rfl (by decide) _ _ _ rfl (Q.out.alloc _) ⟨I.heap.size,0,none⟩ 1 1 (Rr m) rfl rfl (XL I m _) (WL m) ?_ ?_ ?_ ?_))
      · unfold maxLen;(try simp only [YE,XQ,Wv]);omega
      · (try simp only [YE,XQ,Wv]);omega
      · simp;omega
      intro vy wy O M _;have G:Hid (ZU 134 wy (w.heap.size+1) vy (st1++[m])):=by
       show ZU _ _ _ _ _;unfold ZU;rw [VZ]
       simpa using O
      have F:=Z8 ((Y.out.alloc H _).grown M (by simp;omega) (fun q hq=>(ZO Q.out q hq).1));go_wp2;exact ⟨⟨k+1,by omega,by go_num,(by rw [HST.out,HS.out]),(by rw [HST.out,HS.out];exact G),F⟩,by simp [intOf];omega⟩
    | false =>
     cases hls:Op.bytesLess m.path.toList n.path.toList with
     | true =>
      go_wp2;refine ZF (S:=fun W=>W.cell? ⟨b,o+k*7,none⟩=some (.string m.path)∧W.cell? ⟨w.heap.size,0,none⟩=some (.string n.path)) (by kernel_rfl) (⟨(R.out.below (HD.out.trans ((below_drewN' _ 1).mono (ZP s0 HD.out.size))) hb1).c0,(X0.out.VY (HD.out.trans ((below_drewN' _ 1).mono (ZP s0 HD.out.size)))).c0⟩) (fun Z9=>?_)
      iterate 12 (refine ZV ?_ (by kernel_rfl) (fun _=>id) Z9 ?_ ?_;rotate_left;· intro w9 Z4;obtain ⟨y0,y1⟩:=Z4;go_simp;try with_reducible rfl)
      refine ZM (by kernel_rfl) ?_ _
      try simp only [Act.put,Zk,Zj,Zi]
      clear Z9;have Z:Hid (Below (w.heap.size+1) w0 wr.drew):=HD.out.trans ((below_drewN' wr 1).mono (ZP s0 HD.out.size));have J:Hid (ZU 134 wr.drew (w.heap.size+1) u5 st1):=HW.out;generalize wr.drew=w1 at *
      cases heq:(m.path.toList == n.path.toList) with
      | true =>
       have HS:Hid (Rq n (st1,false) m=(st1,false)):=by show _=_;unfold Rq;simp [hls,heq]
       go_wp2;refine ZF (S:=fun W=>W.cell? ⟨b,o+k*7,none⟩=some (.string m.path)∧W.cell? ⟨w.heap.size,0,none⟩=some (.string n.path)) (by kernel_rfl) (⟨(R.out.below (Z.out.trans ((below_drewN' _ 1).mono (ZP s0 Z.out.size))) hb1).c0,(X0.out.VY (Z.out.trans ((below_drewN' _ 1).mono (ZP s0 Z.out.size)))).c0⟩) (fun Z9=>?_)
       iterate 8 (refine ZV ?_ (by kernel_rfl) (fun _=>id) Z9 ?_ ?_;rotate_left;· intro w9 Z4;obtain ⟨y0,y1⟩:=Z4;go_simp;try with_reducible rfl)
       refine ZM (by kernel_rfl) ?_ _
       try simp only [Act.put,Zk,Zj,Zi]
       clear Z9;have Y:Hid (Below (w.heap.size+1) w0 w1.drew):=Z.out.trans ((below_drewN' w1 1).mono (ZP s0 Z.out.size));have P:Hid (ZU 134 w1.drew (w.heap.size+1) u5 st1):=J.out;generalize w1.drew=I at *;go_wp2;exact ⟨⟨k+1,by omega,by go_num,(by rw [HST.out,HS.out]),(by rw [HST.out,HS.out];exact P),Y⟩,by simp [intOf];omega⟩
      | false =>
       have HS:Hid (Rq n (st1,false) m=(st1++[m],false)):=by show _=_;unfold Rq;simp [hls,heq]
       go_wp2;refine ZF (S:=fun W=>W.cell? ⟨b,o+k*7,none⟩=some (.string m.path)∧W.cell? ⟨w.heap.size,0,none⟩=some (.string n.path)) (by kernel_rfl) (⟨(R.out.below (Z.out.trans ((below_drewN' _ 1).mono (ZP s0 Z.out.size))) hb1).c0,(X0.out.VY (Z.out.trans ((below_drewN' _ 1).mono (ZP s0 Z.out.size)))).c0⟩) (fun Z9=>?_)
       iterate 8 (refine ZV ?_ (by kernel_rfl) (fun _=>id) Z9 ?_ ?_;rotate_left;· intro w9 Z4;obtain ⟨y0,y1⟩:=Z4;go_simp;try with_reducible rfl)
       refine ZM (by kernel_rfl) ?_ _
       try simp only [Act.put,Zk,Zj,Zi]
       clear Z9;have Y:Hid (Below (w.heap.size+1) w0 w1.drew):=Z.out.trans ((below_drewN' w1 1).mono (ZP s0 Z.out.size));have P:Hid (ZU 134 w1.drew (w.heap.size+1) u5 st1):=J.out;generalize w1.drew=I at *;obtain ⟨c0,c1,c2,c3,c4,c5,c6⟩:=R.out.below Y.out hb1;obtain ⟨-,x0,x1,x2,x3,x4,x5,x6⟩:=X0.out.VY Y.out;have Q:Hid (I.ownsRow (w.heap.size+1) 134 7 u5 st1.length (Yd st1)):=P.out;have H:=ZP s0 Y.out.size
       go_wp2_with (at_builtin;go_must (refine XS _ rfl _ _ 31 rfl (w.heap.size+1) 134 i0 (.agg #[.string ByteArray.empty,.string ByteArray.empty,.int .i64 0,.int .i64 0,.int .i64 0,.int .i64 0,.int .i64 0]) 7 72 Tryz.underlying31 hi hz0 hz1 hz2 rfl (by decide) _ _ _ rfl (Q.out.alloc _) ⟨I.heap.size,0,none⟩ 1 1 (Rr m) rfl rfl (XL I m _) (WL m) ?_ ?_ ?_ ?_))
       · unfold maxLen;(try simp only [YE,XQ,Wv]);omega
       · (try simp only [YE,XQ,Wv]);omega
       · simp;omega
       intro vy wy O M _;have G:Hid (ZU 134 wy (w.heap.size+1) vy (st1++[m])):=by
        show ZU _ _ _ _ _;unfold ZU;rw [VZ]
        simpa using O
       have F:=Z8 ((Y.out.alloc H _).grown M (by simp;omega) (fun q hq=>(ZO Q.out q hq).1));go_wp2;exact ⟨⟨k+1,by omega,by go_num,(by rw [HST.out,HS.out]),(by rw [HST.out,HS.out];exact G),F⟩,by simp [intOf];omega⟩
     | false =>
      go_wp2;refine ZF (S:=fun W=>W.cell? ⟨b,o+k*7,none⟩=some (.string m.path)∧W.cell? ⟨w.heap.size,0,none⟩=some (.string n.path)) (by kernel_rfl) (⟨(R.out.below (HD.out.trans ((below_drewN' _ 1).mono (ZP s0 HD.out.size))) hb1).c0,(X0.out.VY (HD.out.trans ((below_drewN' _ 1).mono (ZP s0 HD.out.size)))).c0⟩) (fun Z9=>?_)
      iterate 12 (refine ZV ?_ (by kernel_rfl) (fun _=>id) Z9 ?_ ?_;rotate_left;· intro w9 Z4;obtain ⟨y0,y1⟩:=Z4;go_simp;try with_reducible rfl)
      refine ZM (by kernel_rfl) ?_ _
      try simp only [Act.put,Zk,Zj,Zi]
      clear Z9;have Z:Hid (Below (w.heap.size+1) w0 wr.drew):=HD.out.trans ((below_drewN' wr 1).mono (ZP s0 HD.out.size));have J:Hid (ZU 134 wr.drew (w.heap.size+1) u5 st1):=HW.out;generalize wr.drew=w1 at *;obtain ⟨c0,c1,c2,c3,c4,c5,c6⟩:=R.out.below Z.out hb1;obtain ⟨-,x0,x1,x2,x3,x4,x5,x6⟩:=X0.out.VY Z.out;have L:Hid (w1.ownsRow (w.heap.size+1) 134 7 u5 st1.length (Yd st1)):=J.out;have Z5:=ZP s0 Z.out.size
      go_wp2_with (at_builtin;go_must (refine XS _ rfl _ _ 31 rfl (w.heap.size+1) 134 i0 (.agg #[.string ByteArray.empty,.string ByteArray.empty,.int .i64 0,.int .i64 0,.int .i64 0,.int .i64 0,.int .i64 0]) 7 72 Tryz.underlying31 hi hz0 hz1 hz2 rfl (by decide) _ _ _ rfl (L.out.alloc _) ⟨w1.heap.size,0,none⟩ 1 1 (Rr n) rfl rfl (XL w1 n _) (WL n) ?_ ?_ ?_ ?_))
      · unfold maxLen;(try simp only [YE,XQ,Wv]);omega
      · (try simp only [YE,XQ,Wv]);omega
      · simp;omega
      intro v2 w2 E d _;have Z6:Hid (ZU 134 w2 (w.heap.size+1) v2 (st1++[n])):=by
       show ZU _ _ _ _ _;unfold ZU;rw [VZ]
       simpa using E
      have T:=Z8 ((Z.out.alloc Z5 _).grown d (by simp;omega) (fun q hq=>(ZO L.out q hq).1))
      cases heq:(m.path.toList == n.path.toList) with
      | true =>
       have HS:Hid (Rq n (st1,false) m=(st1++[n],true)):=by show _=_;unfold Rq;simp [hls,heq]
       go_wp2;refine ZF (S:=fun W=>W.cell? ⟨b,o+k*7,none⟩=some (.string m.path)∧W.cell? ⟨w.heap.size,0,none⟩=some (.string n.path)) (by kernel_rfl) (⟨(R.out.below (T.out.trans ((below_drewN' _ 1).mono (ZP s0 T.out.size))) hb1).c0,(X0.out.VY (T.out.trans ((below_drewN' _ 1).mono (ZP s0 T.out.size)))).c0⟩) (fun Z9=>?_)
       iterate 8 (refine ZV ?_ (by kernel_rfl) (fun _=>id) Z9 ?_ ?_;rotate_left;· intro w9 Z4;obtain ⟨y0,y1⟩:=Z4;go_simp;try with_reducible rfl)
       refine ZM (by kernel_rfl) ?_ _
       try simp only [Act.put,Zk,Zj,Zi]
       clear Z9;have Y:Hid (Below (w.heap.size+1) w0 w2.drew):=T.out.trans ((below_drewN' w2 1).mono (ZP s0 T.out.size));have P:Hid (ZU 134 w2.drew (w.heap.size+1) v2 (st1++[n])):=Z6.out;generalize w2.drew=I at *;go_wp2;exact ⟨⟨k+1,by omega,by go_num,(by rw [HST.out,HS.out]),(by rw [HST.out,HS.out];exact P),Y⟩,by simp [intOf];omega⟩
      | false =>
       have HS:Hid (Rq n (st1,false) m=(st1++[n]++[m],true)):=by show _=_;unfold Rq;simp [hls,heq]
       go_wp2;refine ZF (S:=fun W=>W.cell? ⟨b,o+k*7,none⟩=some (.string m.path)∧W.cell? ⟨w.heap.size,0,none⟩=some (.string n.path)) (by kernel_rfl) (⟨(R.out.below (T.out.trans ((below_drewN' _ 1).mono (ZP s0 T.out.size))) hb1).c0,(X0.out.VY (T.out.trans ((below_drewN' _ 1).mono (ZP s0 T.out.size)))).c0⟩) (fun Z9=>?_)
       iterate 8 (refine ZV ?_ (by kernel_rfl) (fun _=>id) Z9 ?_ ?_;rotate_left;· intro w9 Z4;obtain ⟨y0,y1⟩:=Z4;go_simp;try with_reducible rfl)
       refine ZM (by kernel_rfl) ?_ _
       try simp only [Act.put,Zk,Zj,Zi]
       clear Z9;have Y:Hid (Below (w.heap.size+1) w0 w2.drew):=T.out.trans ((below_drewN' w2 1).mono (ZP s0 T.out.size));have P:Hid (ZU 134 w2.drew (w.heap.size+1) v2 (st1++[n])):=Z6.out;generalize w2.drew=I at *;obtain ⟨c0,c1,c2,c3,c4,c5,c6⟩:=R.out.below Y.out hb1;obtain ⟨-,x0,x1,x2,x3,x4,x5,x6⟩:=X0.out.VY Y.out;have Q:Hid (I.ownsRow (w.heap.size+1) 134 7 v2 (st1++[n]).length (Yd (st1++[n]))):=P.out;have H:=ZP s0 Y.out.size
       go_wp2_with (at_builtin;go_must (refine XS _ rfl _ _ 31 rfl (w.heap.size+1) 134 i0 (.agg #[.string ByteArray.empty,.string ByteArray.empty,.int .i64 0,.int .i64 0,.int .i64 0,.int .i64 0,.int .i64 0]) 7 72 Tryz.underlying31 hi hz0 hz1 hz2 rfl (by decide) _ _ _ rfl (Q.out.alloc _) ⟨I.heap.size,0,none⟩ 1 1 (Rr m) rfl rfl (XL I m _) (WL m) ?_ ?_ ?_ ?_))
       · unfold maxLen;(try simp only [YE,XQ,Wv]);omega
       · (try simp only [YE,XQ,Wv]);omega
       · simp;omega
       intro vy wy O M _;have G:Hid (ZU 134 wy (w.heap.size+1) vy ((st1++[n])++[m])):=by
        show ZU _ _ _ _ _;unfold ZU;rw [VZ]
        simpa using O
       have F:=Z8 ((Y.out.alloc H _).grown M (by simp;omega) (fun q hq=>(ZO Q.out q hq).1));go_wp2;exact ⟨⟨k+1,by omega,by go_num,(by rw [HST.out,HS.out]),(by rw [HST.out,HS.out];exact G),F⟩,by simp [intOf];omega⟩
  have hkn:k=N:=by omega
  subst hkn;have HT:Hid (MR (ns.take k) n=MR ns n):=by show _=_;rw [We (by rw [HP.out];exact ZW)]
  rw [HT.out] at HW ⊢;have Z2:Hid (vg ns n=if (MR ns n).2 then (MR ns n).1 else (MR ns n).1++[n]):=rfl;rw [HT.out] at hll;generalize MR ns n=st at *;obtain ⟨st1,st2⟩:=st
  simp only at hll HW Z2
  obtain ⟨-,x0,x1,x2,x3,x4,x5,x6⟩:=X0.out.VY HD.out
  cases st2 with
  | true =>
   go_wp2;go_ret;exact ⟨_,rfl,(by rw [Z2.out];exact ZU.mono HW.out (Pb _)),B0.out.trans (HD.out.mono (Pb _))⟩
  | false =>
   have L:Hid (wr.ownsRow (w.heap.size+1) 134 7 u5 st1.length (Yd st1)):=HW.out;have Z5:=ZP s0 HD.out.size
   go_wp2_with (at_builtin;go_must (refine XS _ rfl _ _ 31 rfl (w.heap.size+1) 134 i0 (.agg #[.string ByteArray.empty,.string ByteArray.empty,.int .i64 0,.int .i64 0,.int .i64 0,.int .i64 0,.int .i64 0]) 7 72 Tryz.underlying31 hi hz0 hz1 hz2 rfl (by decide) _ _ _ rfl (L.out.alloc _) ⟨wr.heap.size,0,none⟩ 1 1 (Rr n) rfl rfl (XL wr n _) (WL n) ?_ ?_ ?_ ?_))
   · unfold maxLen;(try simp only [YE,XQ,Wv]);omega
   · (try simp only [YE,XQ,Wv]);omega
   · simp;omega
   intro v2 w2 E d _;have Z6:Hid (ZU 134 w2 (w.heap.size+1) v2 (st1++[n])):=by
    show ZU _ _ _ _ _;unfold ZU;rw [VZ]
    simpa using E
   have T:=Z8 ((HD.out.alloc Z5 _).grown d (by simp;omega) (fun q hq=>(ZO L.out q hq).1));go_wp2;go_ret;exact ⟨_,rfl,(by rw [Z2.out];exact ZU.mono Z6.out (Pb _)),B0.out.trans (T.out.mono (Pb _))⟩
theorem Tryz.ve:(Tryz.prog.info? 141).map (fun i=>(i.zero,i.size,i.bytes))=some (some (.agg #[.bool false,.string ByteArray.empty,.string ByteArray.empty,.int .i64 0,.int .i64 0,.int .i64 0,.int .i64 0,.int .i64 0]),8,80):=by kernel_rfl
theorem Xr.ZK {e:TypeId} {ns:List Ef} (h:Xr e w lo v ns) {a:Addr} (ha:a.block<lo) (u:Value):Xr e (w.setCell a u) lo v ns:=LY h ha u
def blank (n:Nd):Bool:=(n.data.toList == []) && (n.Ym == 0) && (n.ZD == 0) && (n.cz == 0) && (n.mz == 0) && (n.pz == 0)
def UK (e:Ef):Bool:=Yz e.nd && (!e.del || blank e.nd)
theorem RN (h:e.del=false):UK e=Yz e.nd:=by unfold UK;rw [h];simp
theorem Qs (h:e.del=true):UK e=(Yz e.nd && blank e.nd):=by unfold UK;rw [h];simp
theorem Px (w:World) (n:Ef) (hd:n.nd.data.size≤1048576) :
    Calls Tryz.prog 153 #[.agg #[.bool n.del,.string n.nd.path,.string n.nd.data,.int .i64 n.nd.Ym,.int .i64 n.nd.ZD,.int .i64 n.nd.cz,.int .i64 n.nd.mz,.int .i64 n.nd.pz]] w (Ze w (.bool (UK n))):=by
 have B0:Hid (∀o,ZX w (w.alloc o)):=fun o=>ZR.alloc ZW _
 cases hdel:n.del with
 | false =>
  have HE:=Z8 (RN hdel)
  go_enter Tryz.func153,Tryz.ntmps153
  go_wp2_with fail
  refine (Ut _ n.nd hd).mono ?_;rintro e w1 ⟨rfl,b1⟩;have B1:=Z8 ((B0.out _).trans (b1.mono (by simp)));clear b1;go_wp2;go_ret;exact ⟨ZH HE.out.symm,B1.out⟩
 | true =>
  have HE:=Z8 (Qs hdel);clear hdel;have Qr:(n.nd.path.toList == n.nd.path.toList)=true:=by simp
  cases V:(n.nd.data.toList == []) with
  | false =>
   have HN:Hid (UK n=false):=by show _=_;rw [HE.out];unfold blank;rw [V];simp
   go_enter Tryz.func153,Tryz.ntmps153
   go_wp2_with fail
   go_ret;exact ⟨ZH HN.out.symm,B0.out _⟩
  | true =>
   cases UY:(n.nd.Ym == 0) with
   | false =>
    have HN:Hid (UK n=false):=by show _=_;rw [HE.out];unfold blank;rw [UY];simp
    go_enter Tryz.func153,Tryz.ntmps153
    go_wp2_with fail
    go_ret;exact ⟨ZH HN.out.symm,B0.out _⟩
   | true =>
    cases V9:(n.nd.ZD == 0) with
    | false =>
     have HN:Hid (UK n=false):=by show _=_;rw [HE.out];unfold blank;rw [V9];simp
     go_enter Tryz.func153,Tryz.ntmps153
     go_wp2_with fail
     go_ret;exact ⟨ZH HN.out.symm,B0.out _⟩
    | true =>
     cases Q7:(n.nd.cz == 0) with
     | false =>
      have HN:Hid (UK n=false):=by show _=_;rw [HE.out];unfold blank;rw [Q7];simp
      go_enter Tryz.func153,Tryz.ntmps153
      go_wp2_with fail
      go_ret;exact ⟨ZH HN.out.symm,B0.out _⟩
     | true =>
      cases Q6:(n.nd.mz == 0) with
      | false =>
       have HN:Hid (UK n=false):=by show _=_;rw [HE.out];unfold blank;rw [Q6];simp
       go_enter Tryz.func153,Tryz.ntmps153
       go_wp2_with fail
       go_ret;exact ⟨ZH HN.out.symm,B0.out _⟩
      | true =>
       cases Q4:(n.nd.pz == 0) with
       | false =>
        have HN:Hid (UK n=false):=by show _=_;rw [HE.out];unfold blank;rw [Q4];simp
        go_enter Tryz.func153,Tryz.ntmps153
        go_wp2_with fail
        go_ret;exact ⟨ZH HN.out.symm,B0.out _⟩
       | true =>
        have HY:Hid (UK n=Yz n.nd):=by show _=_;rw [HE.out];unfold blank;rw [V,UY,V9,Q7,Q6,Q4];simp
        go_enter Tryz.func153,Tryz.ntmps153
        go_wp2_with fail
        refine (Ut _ n.nd hd).mono ?_;rintro e w1 ⟨rfl,b1⟩;have B1:=Z8 ((B0.out _).trans (b1.mono (by simp)));clear b1;go_wp2;go_ret;exact ⟨ZH HY.out.symm,B1.out⟩
structure Ss (w:World) (B:Nat) (n:Ef):Prop where
 lt:B<w.heap.size
 c0:w.cell? ⟨B,0,none⟩=some (.bool n.del)
 c1:w.cell? ⟨B,1,none⟩=some (.string n.nd.path)
 c2:w.cell? ⟨B,2,none⟩=some (.string n.nd.data)
 c3:w.cell? ⟨B,3,none⟩=some (.int .i64 n.nd.Ym)
 c4:w.cell? ⟨B,4,none⟩=some (.int .i64 n.nd.ZD)
 c5:w.cell? ⟨B,5,none⟩=some (.int .i64 n.nd.cz)
 c6:w.cell? ⟨B,6,none⟩=some (.int .i64 n.nd.mz)
 c7:w.cell? ⟨B,7,none⟩=some (.int .i64 n.nd.pz)
theorem Ss.new (w:World) (n:Ef) (t:TypeId):Ss (w.alloc (.cells #[.bool n.del,.string n.nd.path,.string n.nd.data,.int .i64 n.nd.Ym,.int .i64 n.nd.ZD,.int .i64 n.nd.cz,.int .i64 n.nd.mz,.int .i64 n.nd.pz] t)) w.heap.size n :=
 ⟨by simp,by simp,by simp,by simp,by simp,by simp,by simp,by simp,by simp⟩
theorem Ss.below {n:Ef} (h:Ss w B n) (hb:ZX w w'):Ss w' B n :=
 ⟨ZB h.lt hb.size,(hb.cell (p:=⟨B,_,none⟩) h.lt).trans h.c0,(hb.cell (p:=⟨B,_,none⟩) h.lt).trans h.c1,(hb.cell (p:=⟨B,_,none⟩) h.lt).trans h.c2,(hb.cell (p:=⟨B,_,none⟩) h.lt).trans h.c3,(hb.cell (p:=⟨B,_,none⟩) h.lt).trans h.c4,(hb.cell (p:=⟨B,_,none⟩) h.lt).trans h.c5,(hb.cell (p:=⟨B,_,none⟩) h.lt).trans h.c6,(hb.cell (p:=⟨B,_,none⟩) h.lt).trans h.c7⟩
theorem Ss.all {n:Ef} (h:Ss w B n):w.cell? ⟨B,0,none⟩=some (.bool n.del)∧w.cell? ⟨B,1,none⟩=some (.string n.nd.path)∧w.cell? ⟨B,2,none⟩=some (.string n.nd.data)∧w.cell? ⟨B,3,none⟩=some (.int .i64 n.nd.Ym)∧w.cell? ⟨B,4,none⟩=some (.int .i64 n.nd.ZD)∧w.cell? ⟨B,5,none⟩=some (.int .i64 n.nd.cz)∧w.cell? ⟨B,6,none⟩=some (.int .i64 n.nd.mz)∧w.cell? ⟨B,7,none⟩=some (.int .i64 n.nd.pz):=⟨h.c0,h.c1,h.c2,h.c3,h.c4,h.c5,h.c6,h.c7⟩
def VO (ns:List Ef) (k:Nat):Bool:=UK (Zh ns k) && (decide (k=0) || Us (Zh ns (k - 1)).nd.path (Zh ns k).nd.path)
def RM (ns:List Ef):Bool:=(List.range ns.length).all (VO ns)
def XR (z:Int) (ns:List Ef):Bool:=decide (1≤z) && decide (z≤2147483647) && decide (ns.length≤1000) && RM ns
theorem Vl {ns:List Ef} (h:k<ns.length) (hn:VO ns k=false):RM ns=false:=by
 unfold RM;rw [xK];exact ⟨k,RZ.2 h,by rw [hn];simp⟩
theorem Ar {ns:List Ef} (h:∀k,k<ns.length→VO ns k=true):RM ns=true:=by
 unfold RM;rw [Pz];exact fun k hk=>h k (RZ.1 hk)
theorem Xn (ns:List Ef):VO ns 0=UK (Zh ns 0):=by unfold VO;simp
theorem Yi (ns:List Ef) (j:Nat):VO ns (j+1)=(UK (Zh ns (j+1)) && Us (Zh ns j).nd.path (Zh ns (j+1)).nd.path):=by unfold VO;simp
theorem xh {n:Ef} (h:Yz n.nd=false):UK n=false:=by unfold UK;rw [h];rfl
theorem IG (w:World) (z:Int) (b o n cap:Nat) (ns:List Ef) (hz1:¬z<1) (hz2:¬2147483647<z) (hp:ns.length=n) (hn:n≤1000) (hb:b<w.heap.size) (hsz:∀i,(Zh ns i).nd.path.size≤1048576∧(Zh ns i).nd.data.size≤1048576)
    (hc:∀i,i<n→TF w b (o+i*8) (Zh ns i)) :
    Calls Tryz.prog 145 #[.agg #[.int .i64 z,.slice (some ⟨b,o,none⟩) n cap]] w (Ze w (.bool (RM ns))):=by
 have HC:=Z8 hc;have HP:=Z8 hp;have HZ:=Z8 hsz;have rz:¬(1000:Int)<(n:Int):=by omega
 clear hc hp hsz;have B0:Hid (ZX w (w.alloc (.cells #[.int .i64 z,.slice (some ⟨b,o,none⟩) n cap] 105))):=ZR.alloc ZW _;have Z':Hid ((w.alloc (.cells #[.int .i64 z,.slice (some ⟨b,o,none⟩) n cap] 105)).cell? ⟨w.heap.size,1,none⟩=some (.slice (some ⟨b,o,none⟩) n cap)):=by show _=_;simp
 have z0:w.heap.size<(w.alloc (.cells #[.int .i64 z,.slice (some ⟨b,o,none⟩) n cap] 105)).heap.size:=by simp
 go_enter Tryz.func145,Tryz.ntmps145
 go_wp2;generalize w.alloc _=w0 at *
 go_loopw [18] (fun i wr=>∃k:Nat,k≤n∧i=.int .i64 k∧Hid (∀t,t<k→VO ns t=true)∧Hid (ZX w0 wr)) (fun i _=>n - (intOf i).toNat)
 case atStart=>exact ⟨0,ZQ _,rfl,(fun t ht=>by omega),ZR⟩
 case round =>
  obtain ⟨k,hk,rfl,HA,HG⟩:=hrel;have MT:=Z8 (B0.out.trans (HG.out.mono (by omega)));have cT:=(HG.out.cell (p:=⟨w.heap.size,1,none⟩) z0).trans Z'.out
  by_cases hlt:k<n
  · have YN:(k:Int)<(n:Int):=by omega
    have g0:(0:Int)≤(k:Int):=by omega
    have Uu:Hid (k<ns.length):=by rw [HP.out];exact hlt
    obtain ⟨c0,c1,c2,c3,c4,c5,c6,c7⟩:=(HC.out k hlt).below MT.out hb;have XN:Hid (Ss (wr.alloc (.cells #[.bool (Zh ns k).del,.string (Zh ns k).nd.path,.string (Zh ns k).nd.data,.int .i64 (Zh ns k).nd.Ym,.int .i64 (Zh ns k).nd.ZD,.int .i64 (Zh ns k).nd.cz,.int .i64 (Zh ns k).nd.mz,.int .i64 (Zh ns k).nd.pz] 141)) wr.heap.size (Zh ns k)):=Ss.new _ _ _;have BN:Hid (ZX wr (wr.alloc (.cells #[.bool (Zh ns k).del,.string (Zh ns k).nd.path,.string (Zh ns k).nd.data,.int .i64 (Zh ns k).nd.Ym,.int .i64 (Zh ns k).nd.ZD,.int .i64 (Zh ns k).nd.cz,.int .i64 (Zh ns k).nd.mz,.int .i64 (Zh ns k).nd.pz] 141))):=ZR.alloc ZW _;go_wp2;clear c0 c1 c2 c3 c4 c5 c6 c7 cT;generalize wr.alloc _=wn at *;have zr:=HG.out.size;obtain ⟨B,hB⟩:∃B,B=wr.heap.size:=⟨_,rfl⟩;rw [←hB] at XN;rw [←hB];have TC:Hid (∀W,ZX wn W→ZX w W):=fun W hW=>(Ye MT.out BN.out).trans (hW.mono (ZP MT.out.size BN.out.size))
    have DK:Hid (∀W,ZX wn W→Hid (ZX w0 W)):=fun W hW=>(Ye HG.out BN.out).trans (hW.mono (ZP HG.out.size BN.out.size))
    have CT:Hid (∀W,ZX wn W→W.cell? ⟨w.heap.size,1,none⟩=some (.slice (some ⟨b,o,none⟩) n cap)):=fun W hW=>((DK.out W hW).out.cell (p:=⟨w.heap.size,1,none⟩) z0).trans Z'.out
    have HE:Hid (∀q,Calls Tryz.prog 153 #[.agg #[.bool (Zh ns k).del,.string (Zh ns k).nd.path,.string (Zh ns k).nd.data,.int .i64 (Zh ns k).nd.Ym,.int .i64 (Zh ns k).nd.ZD,.int .i64 (Zh ns k).nd.cz,.int .i64 (Zh ns k).nd.mz,.int .i64 (Zh ns k).nd.pz]] (wn.drewN q) fun e w'=>e=.returned (.bool (UK (Zh ns k)))∧Hid (ZX wn w')):=by
     intro q;refine (Px _ (Zh ns k) (HZ.out k).2).mono ?_;rintro e w' ⟨rfl,b'⟩;exact ⟨rfl,(below_drewN' wn q).trans b'⟩
    have HD:Hid (ZX wn wn.drew):=below_drewN' wn 1;have oJ:=Z8 hB;clear hB BN
    cases hok:UK (Zh ns k) with
    | false =>
     have WC:=Z8 hok;have HN:=Z8 (Vl Uu.out (by unfold VO;rw [hok];rfl));clear hok;refine ZF (S:=fun W=>Hid (ZX wn W)∧xz W B (Zh ns k)) (by kernel_rfl) (⟨HD,(XN.out.below HD.out).all⟩) (fun Z9=>?_);refine ZV ?_ (by kernel_rfl) (fun _=>id) Z9 ?_ ?_
     rotate_left
     · intro w9 Z4;obtain ⟨-,Z4⟩:=Z4;go_simp;try with_reducible rfl
     refine ZS 1 rfl (by kernel_rfl) (fun K hK=>?_);go_simp;refine (HE.out 1).mono ?_;rintro e w' ⟨rfl,HB⟩;rw [WC.out];clear Z9;refine hK.out _ _ (⟨HB,(XN.out.below HB.out).all⟩) (fun Z9=>?_);clear hK K
     iterate 2 (refine ZV ?_ (by kernel_rfl) (fun _=>id) Z9 ?_ ?_;rotate_left;· intro w9 Z4;obtain ⟨-,Z4⟩:=Z4;go_simp;try with_reducible rfl)
     iterate 16 (refine TU (by kernel_rfl) (fun _=>id) Z9 ?_)
     refine ZV ?_ (by kernel_rfl) (fun _=>id) Z9 ?_ ?_
     rotate_left
     · intro w9 Z4;obtain ⟨-,Z4⟩:=Z4;go_simp;try with_reducible rfl
     refine ZM (by kernel_rfl) ?_ _
     try simp only [Act.put,Zk,Zj,Zi]
     clear Z9;go_wp2;go_ret;exact ⟨ZH HN.out.symm,TC.out _ HB.out⟩
    | true =>
     have WC:=Z8 hok;clear hok
     cases k with
     | zero =>
      have g2:(0:Int)<(n:Int):=by omega
      have HT:Hid (VO ns 0=true):=by show _=_;rw [Xn];exact WC.out
      refine ZF (S:=fun W=>Hid (ZX wn W)∧xz W B (Zh ns 0)) (by kernel_rfl) (⟨HD,(XN.out.below HD.out).all⟩) (fun Z9=>?_);refine ZV ?_ (by kernel_rfl) (fun _=>id) Z9 ?_ ?_
      rotate_left
      · intro w9 Z4;obtain ⟨-,Z4⟩:=Z4;go_simp;try with_reducible rfl
      refine ZS 1 rfl (by kernel_rfl) (fun K hK=>?_);go_simp;refine (HE.out 1).mono ?_;rintro e w' ⟨rfl,HB⟩;rw [WC.out];clear Z9;refine hK.out _ _ (⟨HB,(XN.out.below HB.out).all⟩) (fun Z9=>?_);clear hK K
      iterate 5 (refine ZV ?_ (by kernel_rfl) (fun _=>id) Z9 ?_ ?_;rotate_left;· intro w9 Z4;obtain ⟨-,Z4⟩:=Z4;go_simp;try with_reducible rfl)
      iterate 12 (refine TU (by kernel_rfl) (fun _=>id) Z9 ?_)
      iterate 2 (refine ZV ?_ (by kernel_rfl) (fun _=>id) Z9 ?_ ?_;rotate_left;· intro w9 Z4;obtain ⟨-,Z4⟩:=Z4;go_simp;try with_reducible rfl)
      refine ZM (by kernel_rfl) ?_ _
      try simp only [Act.put,Zk,Zj,Zi]
      clear Z9;go_wp2
      go_roundw
      case rel=>exact ⟨0+1,by omega,by go_num,(fun t ht=>by by_cases e:t=0;(subst e;exact HT.out);exact HA.out t (by omega)),DK.out _ HB.out⟩
      case measure=>simp [intOf];omega
     | succ j =>
      have g1:(0:Int)≤(j:Int)+1:=by omega
      have g2:(j:Int)+1<(n:Int):=by omega
      have g3:(0:Int)≤(j:Int):=by omega
      have g4:(j:Int)<(n:Int):=by omega
      have g5:(0:Int)<(j:Int)+1:=by omega
      have g6:IntKind.i64.wrap (j:Int)=(j:Int):=by rw [Xf];omega
      cases hcmp:Us (Zh ns j).nd.path (Zh ns (j+1)).nd.path with
      | true =>
       have HT:Hid (VO ns (j+1)=true):=by show _=_;rw [Yi,WC.out,hcmp];rfl
       have l1:Op.bytesLess (Zh ns j).nd.path.toList (Zh ns (j+1)).nd.path.toList=true:=hcmp;clear hcmp;refine ZF (S:=fun W=>Hid (ZX wn W)∧xz W B (Zh ns (j+1))∧W.cell? ⟨w.heap.size,1,none⟩=some (.slice (some ⟨b,o,none⟩) n cap)∧W.cell? ⟨b,o+j*8+1,none⟩=some (.string (Zh ns j).nd.path)) (by kernel_rfl) (⟨HD,(XN.out.below HD.out).all,(CT.out _ HD.out),((HC.out j (by omega)).below (TC.out _ HD.out) hb).c1⟩) (fun Z9=>?_);refine ZV ?_ (by kernel_rfl) (fun _=>id) Z9 ?_ ?_
       rotate_left
       · intro w9 Z4;obtain ⟨-,Z4⟩:=Z4;go_simp;try with_reducible rfl
       refine ZS 1 rfl (by kernel_rfl) (fun K hK=>?_);go_simp;refine (HE.out 1).mono ?_;rintro e w' ⟨rfl,HB⟩;rw [WC.out];clear Z9;refine hK.out _ _ (⟨HB,(XN.out.below HB.out).all,(CT.out _ HB.out),((HC.out j (by omega)).below (TC.out _ HB.out) hb).c1⟩) (fun Z9=>?_);clear hK K
       iterate 19 (refine ZV ?_ (by kernel_rfl) (fun _=>id) Z9 ?_ ?_;rotate_left;· intro w9 Z4;obtain ⟨-,Z4⟩:=Z4;go_simp;try with_reducible rfl)
       refine ZM (by kernel_rfl) ?_ _
       try simp only [Act.put,Zk,Zj,Zi]
       clear Z9;go_wp2
       go_roundw
       case rel=>exact ⟨(j+1)+1,by omega,by go_num,(fun t ht=>by by_cases e:t=(j+1);(subst e;exact HT.out);exact HA.out t (by omega)),DK.out _ HB.out⟩
       case measure=>simp [intOf];omega
      | false =>
       have HN:=Z8 (Vl Uu.out (by rw [Yi,hcmp,Js]));have l1:Op.bytesLess (Zh ns j).nd.path.toList (Zh ns (j+1)).nd.path.toList=false:=hcmp;clear hcmp;refine ZF (S:=fun W=>Hid (ZX wn W)∧xz W B (Zh ns (j+1))∧W.cell? ⟨w.heap.size,1,none⟩=some (.slice (some ⟨b,o,none⟩) n cap)∧W.cell? ⟨b,o+j*8+1,none⟩=some (.string (Zh ns j).nd.path)) (by kernel_rfl) (⟨HD,(XN.out.below HD.out).all,(CT.out _ HD.out),((HC.out j (by omega)).below (TC.out _ HD.out) hb).c1⟩) (fun Z9=>?_);refine ZV ?_ (by kernel_rfl) (fun _=>id) Z9 ?_ ?_
       rotate_left
       · intro w9 Z4;obtain ⟨-,Z4⟩:=Z4;go_simp;try with_reducible rfl
       refine ZS 1 rfl (by kernel_rfl) (fun K hK=>?_);go_simp;refine (HE.out 1).mono ?_;rintro e w' ⟨rfl,HB⟩;rw [WC.out];clear Z9;refine hK.out _ _ (⟨HB,(XN.out.below HB.out).all,(CT.out _ HB.out),((HC.out j (by omega)).below (TC.out _ HB.out) hb).c1⟩) (fun Z9=>?_);clear hK K
       iterate 19 (refine ZV ?_ (by kernel_rfl) (fun _=>id) Z9 ?_ ?_;rotate_left;· intro w9 Z4;obtain ⟨-,Z4⟩:=Z4;go_simp;try with_reducible rfl)
       refine ZM (by kernel_rfl) ?_ _
       try simp only [Act.put,Zk,Zj,Zi]
       clear Z9;go_wp2;go_ret;exact ⟨ZH HN.out.symm,TC.out _ HB.out⟩
  have HY:Hid (RM ns=true):=Ar (fun t ht=>HA.out t (by rw [HP.out] at ht;omega));go_wp2;go_ret;exact ⟨ZH HY.out.symm,MT.out⟩
theorem IF (w:World) (z:Int) (ao:Option Addr) (cap:Nat) (hz1:¬z<1) (hz2:¬2147483647<z) :
    Calls Tryz.prog 145 #[.agg #[.int .i64 z,.slice ao 0 cap]] w (Ze w (.bool true)):=by
 go_enter Tryz.func145,Tryz.ntmps145
 go_wp2
 go_rounds 1
 go_ret;exact ⟨rfl,ZR.alloc ZW _⟩
theorem Gi (w:World) (z:Int) (ao:Option Addr) (n cap:Nat) (h:z<1∨2147483647<z∨1000<n) :
    Calls Tryz.prog 145 #[.agg #[.int .i64 z,.slice ao n cap]] w (Ze w (.bool false)):=by
 by_cases h1:z<1
 · clear h
   go_enter Tryz.func145,Tryz.ntmps145
   go_wp2;go_ret;exact ⟨rfl,ZR.alloc ZW _⟩
 by_cases h2:2147483647<z
 · clear h
   go_enter Tryz.func145,Tryz.ntmps145
   go_wp2;go_ret;exact ⟨rfl,ZR.alloc ZW _⟩
 have h3:(1000:Int)<(n:Int):=by omega
 clear h
 go_enter Tryz.func145,Tryz.ntmps145
 go_wp2;go_ret;exact ⟨rfl,ZR.alloc ZW _⟩
theorem PP (w:World) (z:Int) (v:Value) (ns:List Ef) (h:BL w v ns) (hsz:∀i,(Zh ns i).nd.path.size≤1048576∧(Zh ns i).nd.data.size≤1048576) :
    Calls Tryz.prog 145 #[.agg #[.int .i64 z,v]] w (Ze w (.bool (XR z ns))):=by
 obtain ⟨ao,cap,rfl,k1,k2,k3⟩:=h
 by_cases hl:z<1∨2147483647<z∨1000<ns.length
 · have:XR z ns=false:=by
    unfold XR
    rcases hl with hl | hl | hl
    · rw [Zl (show ¬1≤z by omega)];rfl
    · rw [Zl (show ¬z≤2147483647 by omega)];simp
    rw [Zl (show ¬ns.length≤1000 by omega)];simp
   rw [this];exact Gi w z ao ns.length cap hl
 have:XR z ns=RM ns:=by unfold XR;rw [YS (show 1≤z by omega),YS (show z≤2147483647 by omega),YS (show ns.length≤1000 by omega)];rfl
 rw [this]
 rcases k3 with rfl | ⟨b,o,rfl,hb,hc⟩
 · exact IF w z ao cap (by omega) (by omega)
 exact IG w z b o ns.length cap ns (by omega) (by omega) rfl (by omega) hb hsz hc
theorem Ow:∀x y z:List UInt8,Op.bytesLess x y=true→Op.bytesLess y z=true→Op.bytesLess x z=true
 | [],[],_=>by simp [Op.bytesLess]
 | _ :: _,[],_=>by simp [Op.bytesLess]
 | _,_ :: _,[]=>by simp [Op.bytesLess]
 | [],_ :: _,_ :: _=>by simp [Op.bytesLess]
 | a :: x,b :: y,c :: z=>by
  unfold Op.bytesLess;intro h1 h2;have ih:=Ow x y z
  simp only [Jr,Yg,Zg,Vn] at h1 h2 ⊢
  rcases h1 with h1 | ⟨rfl,h1⟩
  · rcases h2 with h2 | ⟨rfl,h2⟩
    · exact .inl (UInt8.lt_trans h1 h2)
    exact .inl h1
  rcases h2 with h2 | ⟨rfl,h2⟩
  · exact .inl h2
  exact .inr ⟨rfl,ih h1 h2⟩
theorem Qq {c:ByteArray} (h1:Us a b=true) (h2:Us b c=true):Us a c=true:=Ow _ _ _ h1 h2
theorem Aq (h:Us a b=true):(a.toList == b.toList)=false:=by
 have:=(Lg h).2;rw [Bool.eq_false_iff] at this ⊢;intro e;exact this (by rw [Vn] at e ⊢;exact e.symm)
theorem ED (a b:ByteArray):(Q2 a b<0)↔Us a b=true:=by
 unfold Q2 Us;rw [AE,SC,SC]
theorem wZ (a b:ByteArray):(Q2 a b == 0)=(a.toList == b.toList):=by
 have h:Q2 a b=0↔a.toList=b.toList:=by
  unfold Q2;rw [EK,SC,SC]
 rw [Bu,Vn,Vn];exact h
def Asc (ns:List Nd):Prop:=ns.Pairwise fun a b=>Us a.path b.path=true
def Gh (es:List Ef):Prop:=es.Pairwise fun a b=>Us a.nd.path b.nd.path=true
theorem Gg {α:Type} (f:α→ByteArray):∀(l:List α),(∀j (h:j+1<l.length),Us (f l[j]) (f l[j+1])=true)→l.Pairwise fun a b=>Us (f a) (f b)=true
 | [],_=>List.Pairwise.nil
 | [a],_=>by simp
 | a :: b :: l,h=>by
  have ih:=Gg f (b :: l) (fun j hj=>h (j+1) (by simp at hj ⊢;omega));refine List.Pairwise.cons (fun c hc=>?_) ih;have hab:Us (f a) (f b)=true:=h 0 (by simp)
  rcases MZ.1 hc with rfl | hc
  · exact hab
  exact Qq hab ((List.pairwise_cons.1 ih).1 c hc)
theorem RL (h:Zp ns=true):Asc ns:=by
 unfold Zp XW at h
 simp only [Yg,Pz,RZ] at h
 refine Gg (fun n=>n.path) ns fun j hj=>?_
 have:=h.2 (j+1) hj;rw [UO] at this
 simp only [Yg] at this
 have h2:=this.2;rw [WO (show j<ns.length by omega),WO hj] at h2;exact h2
theorem Ov (h:RM es=true):Gh es:=by
 unfold RM at h
 simp only [Pz,RZ] at h
 refine Gg (fun n=>n.nd.path) es fun j hj=>?_
 have:=h (j+1) hj;rw [Yi] at this
 simp only [Yg] at this
 have h2:=this.2;rw [Ra (show j<es.length by omega),Ra hj] at h2;exact h2
theorem Tu (h:XR z es=true):RM es=true∧es.length≤1000:=by
 unfold XR at h
 simp only [Yg,Zg] at h
 exact ⟨h.2,h.1.2⟩
def RJ (r:List Nd) (p:ByteArray):Nat:=(r.takeWhile fun m=>Us m.path p).length
def rY (r:List Nd) (p:ByteArray):Nat:=if IN r p (RJ r p) then 1 else 0
theorem IE (r:List Nd) (p:ByteArray):r.take (RJ r p)=r.takeWhile fun m=>Us m.path p:=by
 unfold RJ
 induction r with
 | nil=>rfl
 | cons a r ih =>
  rw [uk]
  split
  · simp [ih]
  simp
theorem Ap (r:List Nd) (p:ByteArray):r.drop (RJ r p)=r.dropWhile fun m=>Us m.path p:=by
 unfold RJ
 induction r with
 | nil=>rfl
 | cons a r ih =>
  rw [uk,List.dropWhile_cons]
  split
  · simp [ih]
  simp
theorem KV (r:List Nd) (p:ByteArray):RJ r p≤r.length:=by
 have:=Wd List.length (IE r p);rw [YC] at this;unfold RJ at this ⊢;omega
theorem EC (r:List Nd) (p:ByteArray):∀a ∈ r.take (RJ r p),Us a.path p=true:=by
 rw [IE]
 induction r with
 | nil=>simp
 | cons b r ih =>
  rw [uk]
  split
  · rename_i hb
    intro a ha
    rcases MZ.1 ha with rfl | ha
    · exact hb
    exact ih a ha
  simp
theorem Gf:∀(r:List Nd) (p:ByteArray),Asc r→∀a ∈ r.drop (RJ r p),Us a.path p=false:=by
 intro r p h a ha;rw [Ap] at ha
 induction r with
 | nil=>simp at ha
 | cons b r ih =>
  rw [List.dropWhile_cons] at ha
  split at ha
  · exact ih (List.pairwise_cons.1 h).2 ha
  rename_i hb;have hb':Us b.path p=false:=by simpa using hb
  rcases MZ.1 ha with rfl | ha
  · exact hb'
  have DL:=(List.pairwise_cons.1 h).1 a ha
  cases hc:Us a.path p with
  | false=>rfl
  | true=>rw [Qq DL hc] at hb';exact absurd hb' (by simp)
theorem wY (r:List Nd) (p:ByteArray) (h:Asc r):Low r p (RJ r p):=by
 refine ⟨KV r p,fun i hi=>?_,fun i hi hl=>?_⟩
 · rw [ED]
   have hl:=ZB hi (KV r p);refine EC r p _ ?_;rw [WO hl];exact List.mem_take_iff_getElem.2 ⟨i,by omega,rfl⟩
 rw [ED,Gf r p h]
 · simp
 rw [WO hl];exact List.mem_drop_iff_getElem.2 ⟨i - RJ r p,by omega,by congr 1;omega⟩
theorem Ou {r:List Nd} (h:Asc r) (k:Nat):Asc (r.drop k):=rO (List.drop_sublist k r) h
theorem wX (D:List Nd) (p:ByteArray) (h:Asc D) (hn:∀a ∈ D,Us a.path p=false):Uq D p=D.drop (if (decide (0<D.length) && ((Zy D 0).path.toList == p.toList)) then 1 else 0):=by
 cases D with
 | nil=>rfl
 | cons b D =>
  have hr:∀a ∈ D,(a.path.toList == p.toList)=false:=by
   intro a ha;have h1:=(List.pairwise_cons.1 h).1 a ha;have h2:=hn b (by simp)
   cases hc:a.path.toList == p.toList with
   | false=>rfl
   | true =>
    rw [Vn] at hc;unfold Us at h1 h2;rw [hc] at h1;rw [h1] at h2;exact absurd h2 (by simp)
  have hf:Uq D p=D:=by
   unfold Uq;rw [uw];intro a ha;rw [hr a ha]
   rfl
  have e0:Zy (b :: D) 0=b:=rfl;rw [e0];unfold Uq at hf ⊢;rw [ux]
  cases hc:b.path.toList == p.toList with
  | true=>simp [hf]
  | false=>simp [hf]
theorem tR (r:List Nd) (p:ByteArray):rY r p=if (decide (0<(r.drop (RJ r p)).length) && ((Zy (r.drop (RJ r p)) 0).path.toList == p.toList)) then 1 else 0:=by
 unfold rY IN;rw [wZ,Zv];have e:Zy (r.drop (RJ r p)) 0=Zy r (RJ r p):=by unfold Zy;simp [List.getD]
 rw [e];have e2:decide (RJ r p<r.length)=decide (0<r.length - RJ r p):=by rw [A6];omega
 rw [e2]
theorem EA (r:List Nd) (p:ByteArray) (h:Asc r):Uq (r.drop (RJ r p)) p=r.drop (RJ r p+rY r p):=by
 rw [wX _ p (Ou h _) (Gf r p h),←tR,US]
theorem Ao (A:List Nd) (p:ByteArray) (h:∀a ∈ A,Us a.path p=true):Uq A p=A:=by
 unfold Uq;rw [uw];intro a ha;rw [Aq (h a ha)]
 rfl
theorem SY (A B:List Nd) (p:ByteArray):Uq (A++B) p=Uq A p++Uq B p:=by unfold Uq;rw [uy]
theorem tQ (A r:List Nd) (p:ByteArray) (hA:∀a ∈ A,Us a.path p=true) (h:Asc r):Uq (A++r) p=A++r.take (RJ r p)++r.drop (RJ r p+rY r p):=by
 conv=>lhs;rw [←DO (RJ r p) r]
 rw [SY,SY,Ao A p hA,Ao _ p (EC r p),EA r p h,R9]
theorem An (n:Nd):∀(A X:List Nd),(∀a ∈ A,Us a.path n.path=true)→A.foldl (Rq n) (X,false)=(X++A,false)
 | [],X,_=>by simp
 | a :: A,X,h=>by
  have ha:=h a (by simp);have e:Rq n (X,false) a=(X++[a],false):=by
   have h1:Op.bytesLess a.path.toList n.path.toList=true:=ha;unfold Rq;rw [Aq ha,h1]
   rfl
  rw [GC,e,An n A _ (fun b hb=>h b (Jp _ hb))]
  simp
theorem Ez (n:Nd):∀(A X:List Nd),(A.foldl (Rq n) (X,true))=(X++Uq A n.path,true)
 | [],X=>by simp [Uq]
 | a :: A,X=>by
  have e:Rq n (X,true) a=(X++Uq [a] n.path,true):=by
   unfold Rq Uq;rw [ux]
   cases hc:a.path.toList == n.path.toList <;> simp
  rw [GC,e,Ez n A,show a :: A=[a]++A from rfl,SY,R9]
theorem wW (n:Nd) (D X:List Nd) (hn:∀a ∈ D,Us a.path n.path=false) :
    (let f:=D.foldl (Rq n) (X,false);if f.2 then f.1 else f.1++[n])=X++n :: Uq D n.path:=by
 cases D with
 | nil=>simp [Uq]
 | cons b D =>
  have hb:Op.bytesLess b.path.toList n.path.toList=false:=hn b (by simp);have e:Rq n (X,false) b=(X++n :: Uq [b] n.path,true):=by
   unfold Rq Uq;rw [hb,ux]
   cases hc:b.path.toList == n.path.toList <;> simp
  have e2:(b :: D).foldl (Rq n) (X,false)=(X++n :: Uq (b :: D) n.path,true):=by
   rw [GC,e,Ez,show b :: D=[b]++D from rfl,SY]
   simp
  simp only [e2,Rb]
theorem tP (A r:List Nd) (n:Nd) (hA:∀a ∈ A,Us a.path n.path=true) (h:Asc r):vg (A++r) n=A++r.take (RJ r n.path)++n :: r.drop (RJ r n.path+rY r n.path):=by
 unfold vg MR
 conv=>lhs;rw [←DO (RJ r n.path) r]
 rw [←R9,GD,An n (A++r.take (RJ r n.path)) [] (by
  intro a ha
  rcases Sw.1 ha with ha | ha
  · exact hA a ha
  exact EC r _ a ha)]
 have:=wW n (r.drop (RJ r n.path)) ([]++(A++r.take (RJ r n.path))) (Gf r _ h)
 simp only at this
 rw [this,EA r _ h]
 simp
def GK (st:List Nd × List Nd) (e:Ef):List Nd × List Nd :=
 (st.1++st.2.take (RJ st.2 e.nd.path)++(if e.del then [] else [e.nd]),st.2.drop (RJ st.2 e.nd.path+rY st.2 e.nd.path))
def Po (ns:List Nd) (es:List Ef):List Nd × List Nd:=es.foldl GK ([],ns)
def tO (ns:List Nd) (e:Ef):List Nd:=if e.del then Uq ns e.nd.path else vg ns e.nd
def KU (ns:List Nd) (es:List Ef):List Nd:=es.foldl tO ns
theorem wV (st:List Nd × List Nd) (e:Ef) (hA:∀a ∈ st.1,Us a.path e.nd.path=true) (h:Asc st.2):tO (st.1++st.2) e=(GK st e).1++(GK st e).2:=by
 unfold tO GK
 cases e.del with
 | true=>simp [tQ _ _ _ hA h]
 | false=>simp [tP _ _ _ hA h]
theorem uZ:∀(es:List Ef) (st:List Nd × List Nd),Gh es→(∀a ∈ st.1,∀e ∈ es,Us a.path e.nd.path=true)→Asc st.2 →
    (es.foldl GK st).1++(es.foldl GK st).2=es.foldl tO (st.1++st.2)
 | [],_,_,_,_=>rfl
 | e :: es,st,h,hA,hr=>by
  have h':=List.pairwise_cons.1 h;rw [GC,GC,wV st e (fun a ha=>hA a ha e (by simp)) hr];refine uZ es (GK st e) h'.2 (fun a ha f hf=>?_) (Ou hr _);have hef:=h'.1 f hf;unfold GK at ha
  rcases Sw.1 ha with ha | ha
  · rcases Sw.1 ha with ha | ha
    · exact hA a ha f (Jp _ hf)
    exact Qq (EC _ _ a ha) hef
  split at ha
  · simp at ha
  rw [un] at ha;rw [ha];exact hef
theorem Am (h:Asc ns) (he:Gh es):(Po ns es).1++(Po ns es).2=KU ns es:=uZ es ([],ns) he (fun a ha=>by simp at ha) h
theorem ID (ns:List Nd) (es:List Ef) (k:Nat) (h:k<es.length):Po ns (es.take (k+1))=GK (Po ns (es.take k)) (Zh es k):=by
 unfold Po;rw [Rm h,GD,Ra h]
 rfl
theorem Al (ns:List Nd) (es:List Ef) (k:Nat) (h:k<es.length):KU ns (es.take (k+1))=tO (KU ns (es.take k)) (Zh es k):=by
 unfold KU;rw [Rm h,GD,Ra h]
 rfl
theorem wU (st:List Nd × List Nd) (e:Ef):(GK st e).1.length+(GK st e).2.length≤st.1.length+st.2.length+1:=by
 unfold GK;have h:=KV st.2 e.nd.path
 simp only [YE,YC,Zv]
 split <;> simp <;> omega
theorem KS:∀(ns:List Nd) (es:List Ef) (k:Nat),(Po ns (es.take k)).1.length+(Po ns (es.take k)).2.length≤ns.length+k
 | ns,es,0=>by simp [Po]
 | ns,es,k+1=>by
  have ih:=KS ns es k
  by_cases h:k<es.length
  · rw [ID ns es k h]
    have:=wU (Po ns (es.take k)) (Zh es k);omega
  rw [We (by omega)] at ih ⊢;omega
theorem wT (h:Asc ns) (es:List Ef):Asc (Po ns es).2:=by
 unfold Po;have:∀(es:List Ef) (st:List Nd × List Nd),Asc st.2→Asc (es.foldl GK st).2:=by
  intro es
  induction es with
  | nil=>exact fun st h=>h
  | cons e es ih=>exact fun st h=>by rw [GC];exact ih _ (Ou h _)
 exact this es _ h
theorem DC (h:Gh es) (k:Nat):Gh (es.take k):=rO (List.take_sublist k es) h
theorem Ey (h:Asc ns) (he:Gh es) (k:Nat):(KU ns (es.take k)).length≤ns.length+k:=by
 rw [←Am h (DC he k),YE];exact KS ns es k
theorem wS (h:Asc ns) (he:Gh es) (hk:es.length=k):(Po ns (es.take k)).1++(Po ns (es.take k)).2=KU ns es:=by
 rw [We (by omega)];exact Am h he
def ZE (ns:List Nd) (z:Int) (es:List Ef):List Nd:=if Zp ns && XR z es then KU ns es else []
theorem Ot (ns:List Nd) (z:Int) (es:List Ef):(ZE ns z es).length≤2000:=by
 unfold ZE
 split
 · rename_i h
   simp only [Yg] at h
   have h1:=RQ h.1;have h2:=Tu h.2;have:=Ey (RL h.1) (Ov h2.1) es.length;rw [We ZW] at this;omega
 simp
theorem IC (h:∀k,k<ns.length→Yz (Zy ns k)=true) (p:ByteArray) (hp:p.toList=[]):Uq ns p=ns:=by
 unfold Uq;rw [uw];intro a ha;obtain ⟨k,hk,e⟩:=ur ha;have hn:=h k hk;rw [WO hk,e] at hn;have Z7:Yc a.path=true:=by
  unfold Yz at hn
  simp only [Yg] at hn
  exact hn.1.1.1.1.1.1
 have:¬a.path.toList=[]:=by
  intro hc;have hd:a.path.data.toList=[]:=by rw [←SC];exact hc
  have hs:a.path.size=0:=by
   have:=Wd List.length hd
   simpa using this
  by_cases h47:a.path.data.toList=[47]
  · rw [hd] at h47;simp at h47
  rw [Uv h47] at Z7
  simp only [Yg,Zg] at Z7
  omega
 rw [hp]
 cases hc:a.path.toList == [] with
 | false=>rfl
 | true=>rw [Vn] at hc;exact absurd hc this
theorem IB (w:World) (z:Int) (b o n cap:Nat) (ns:List Ef) (hz1:¬z<1) (hz2:¬2147483647<z) (hp:ns.length=n) (hn:n≤1000) (hb:b<w.heap.size) (hsz:∀i,(Zh ns i).nd.path.size≤1048576∧(Zh ns i).nd.data.size≤1048576)
    (hc:∀i,i<n→TF w b (o+i*8) (Zh ns i)) :
    Calls Tryz.prog 92 #[.agg #[.int .i64 z,.slice (some ⟨b,o,none⟩) n cap]] w (Ze w (.bool (RM ns))):=by
 have HC:=Z8 hc;have HP:=Z8 hp;have HZ:=Z8 hsz;have rz:¬(1000:Int)<(n:Int):=by omega
 clear hc hp hsz;have B0:Hid (ZX w (w.alloc (.cells #[.int .i64 z,.slice (some ⟨b,o,none⟩) n cap] 105))):=ZR.alloc ZW _;have Z':Hid ((w.alloc (.cells #[.int .i64 z,.slice (some ⟨b,o,none⟩) n cap] 105)).cell? ⟨w.heap.size,1,none⟩=some (.slice (some ⟨b,o,none⟩) n cap)):=by show _=_;simp
 have z0:w.heap.size<(w.alloc (.cells #[.int .i64 z,.slice (some ⟨b,o,none⟩) n cap] 105)).heap.size:=by simp
 go_enter Tryz.func92,Tryz.ntmps92
 go_wp2;generalize w.alloc _=w0 at *
 go_loopw [3] (fun i wr=>∃k:Nat,k≤n∧i=.int .i64 k∧Hid (∀t,t<k→VO ns t=true)∧Hid (ZX w0 wr)) (fun i _=>n - (intOf i).toNat)
 case atStart=>exact ⟨0,ZQ _,rfl,(fun t ht=>by omega),ZR⟩
 case round =>
  obtain ⟨k,hk,rfl,HA,HG⟩:=hrel;have MT:=Z8 (B0.out.trans (HG.out.mono (by omega)));have cT:=(HG.out.cell (p:=⟨w.heap.size,1,none⟩) z0).trans Z'.out
  by_cases hlt:k<n
  · have YN:(k:Int)<(n:Int):=by omega
    have g0:(0:Int)≤(k:Int):=by omega
    have Uu:Hid (k<ns.length):=by rw [HP.out];exact hlt
    obtain ⟨c0,c1,c2,c3,c4,c5,c6,c7⟩:=(HC.out k hlt).below MT.out hb;have XN:Hid (Ss (wr.alloc (.cells #[.bool (Zh ns k).del,.string (Zh ns k).nd.path,.string (Zh ns k).nd.data,.int .i64 (Zh ns k).nd.Ym,.int .i64 (Zh ns k).nd.ZD,.int .i64 (Zh ns k).nd.cz,.int .i64 (Zh ns k).nd.mz,.int .i64 (Zh ns k).nd.pz] 141)) wr.heap.size (Zh ns k)):=Ss.new _ _ _;have BN:Hid (ZX wr (wr.alloc (.cells #[.bool (Zh ns k).del,.string (Zh ns k).nd.path,.string (Zh ns k).nd.data,.int .i64 (Zh ns k).nd.Ym,.int .i64 (Zh ns k).nd.ZD,.int .i64 (Zh ns k).nd.cz,.int .i64 (Zh ns k).nd.mz,.int .i64 (Zh ns k).nd.pz] 141))):=ZR.alloc ZW _;go_wp2;clear c0 c1 c2 c3 c4 c5 c6 c7 cT;generalize wr.alloc _=wn at *;have zr:=HG.out.size;obtain ⟨B,hB⟩:∃B,B=wr.heap.size:=⟨_,rfl⟩;rw [←hB] at XN;rw [←hB];have TC:Hid (∀W,ZX wn W→ZX w W):=fun W hW=>(Ye MT.out BN.out).trans (hW.mono (ZP MT.out.size BN.out.size))
    have DK:Hid (∀W,ZX wn W→Hid (ZX w0 W)):=fun W hW=>(Ye HG.out BN.out).trans (hW.mono (ZP HG.out.size BN.out.size))
    have CT:Hid (∀W,ZX wn W→W.cell? ⟨w.heap.size,1,none⟩=some (.slice (some ⟨b,o,none⟩) n cap)):=fun W hW=>((DK.out W hW).out.cell (p:=⟨w.heap.size,1,none⟩) z0).trans Z'.out
    have HE:Hid (∀q,Calls Tryz.prog 115 #[.agg #[.string (Zh ns k).nd.path,.string (Zh ns k).nd.data,.int .i64 (Zh ns k).nd.Ym,.int .i64 (Zh ns k).nd.ZD,.int .i64 (Zh ns k).nd.cz,.int .i64 (Zh ns k).nd.mz,.int .i64 (Zh ns k).nd.pz]] (wn.drewN q) fun e w'=>e=.returned (.bool (Yz (Zh ns k).nd))∧Hid (ZX wn w')):=by
     intro q;refine (Q8 _ (Zh ns k).nd (HZ.out k).1 (HZ.out k).2).mono ?_;rintro e w' ⟨rfl,b'⟩;exact ⟨rfl,(below_drewN' wn q).trans b'⟩
    have HD:Hid (ZX wn wn.drew):=below_drewN' wn 1;have oJ:=Z8 hB;clear hB BN
    cases hok:Yz (Zh ns k).nd with
    | false =>
     have WC:=Z8 hok;have HN:=Z8 (Vl Uu.out (by unfold VO;rw [xh hok];rfl));clear hok;refine ZF (S:=fun W=>Hid (ZX wn W)∧xz W B (Zh ns k)) (by kernel_rfl) (⟨HD,(XN.out.below HD.out).all⟩) (fun Z9=>?_)
     iterate 2 (refine ZV ?_ (by kernel_rfl) (fun _=>id) Z9 ?_ ?_;rotate_left;· intro w9 Z4;obtain ⟨-,Z4⟩:=Z4;go_simp;try with_reducible rfl)
     refine ZS 2 rfl (by kernel_rfl) (fun K hK=>?_);go_simp;refine (HE.out 1).mono ?_;rintro e w' ⟨rfl,HB⟩;rw [WC.out];clear Z9;refine hK.out _ _ (⟨HB,(XN.out.below HB.out).all⟩) (fun Z9=>?_);clear hK K
     iterate 2 (refine ZV ?_ (by kernel_rfl) (fun _=>id) Z9 ?_ ?_;rotate_left;· intro w9 Z4;obtain ⟨-,Z4⟩:=Z4;go_simp;try with_reducible rfl)
     iterate 16 (refine TU (by kernel_rfl) (fun _=>id) Z9 ?_)
     refine ZV ?_ (by kernel_rfl) (fun _=>id) Z9 ?_ ?_
     rotate_left
     · intro w9 Z4;obtain ⟨-,Z4⟩:=Z4;go_simp;try with_reducible rfl
     refine ZM (by kernel_rfl) ?_ _
     try simp only [Act.put,Zk,Zj,Zi]
     clear Z9;go_wp2;go_ret;exact ⟨ZH HN.out.symm,TC.out _ HB.out⟩
    | true =>
     have WC:=Z8 hok;clear hok
     cases k with
     | zero =>
      have g2:(0:Int)<(n:Int):=by omega
      refine ZF (S:=fun W=>Hid (ZX wn W)∧xz W B (Zh ns 0)) (by kernel_rfl) (⟨HD,(XN.out.below HD.out).all⟩) (fun Z9=>?_)
      iterate 2 (refine ZV ?_ (by kernel_rfl) (fun _=>id) Z9 ?_ ?_;rotate_left;· intro w9 Z4;obtain ⟨-,Z4⟩:=Z4;go_simp;try with_reducible rfl)
      refine ZS 2 rfl (by kernel_rfl) (fun K hK=>?_);go_simp;refine (HE.out 1).mono ?_;rintro e w' ⟨rfl,HB⟩;rw [WC.out];clear Z9;refine hK.out _ _ (⟨HB,(XN.out.below HB.out).all⟩) (fun Z9=>?_);clear hK K
      iterate 5 (refine ZV ?_ (by kernel_rfl) (fun _=>id) Z9 ?_ ?_;rotate_left;· intro w9 Z4;obtain ⟨-,Z4⟩:=Z4;go_simp;try with_reducible rfl)
      iterate 12 (refine TU (by kernel_rfl) (fun _=>id) Z9 ?_)
      iterate 2 (refine ZV ?_ (by kernel_rfl) (fun _=>id) Z9 ?_ ?_;rotate_left;· intro w9 Z4;obtain ⟨-,Z4⟩:=Z4;go_simp;try with_reducible rfl)
      refine ZM (by kernel_rfl) ?_ _
      try simp only [Act.put,Zk,Zj,Zi]
      clear Z9;obtain ⟨-,b0,b1,b2,b3,b4,b5,b6,b7⟩:=XN.out.below HB.out
      cases hdel:(Zh ns 0).del with
      | false =>
       have HT:Hid (VO ns 0=true):=by show _=_;rw [Xn,RN hdel,WC.out]
       rw [hdel] at b0;clear hdel;go_wp2
       go_roundw
       case rel=>exact ⟨0+1,by omega,by go_num,(fun t ht=>by by_cases e:t=0;(subst e;exact HT.out);exact HA.out t (by omega)),DK.out _ HB.out⟩
       case measure=>simp [intOf];omega
      | true =>
       have U:=Z8 (Qs hdel);rw [hdel] at b0;clear hdel;have Qr:((Zh ns 0).nd.path.toList == (Zh ns 0).nd.path.toList)=true:=by simp
       cases V:((Zh ns 0).nd.data.toList == []) with
       | false =>
        have HN:=Z8 (Vl Uu.out (by rw [Xn,U.out];unfold blank;rw [V];simp));go_wp2;go_ret;exact ⟨ZH HN.out.symm,TC.out _ HB.out⟩
       | true =>
        cases UY:((Zh ns 0).nd.Ym == 0) with
        | false =>
         have HN:=Z8 (Vl Uu.out (by rw [Xn,U.out];unfold blank;rw [UY];simp));go_wp2;go_ret;exact ⟨ZH HN.out.symm,TC.out _ HB.out⟩
        | true =>
         cases V9:((Zh ns 0).nd.ZD == 0) with
         | false =>
          have HN:=Z8 (Vl Uu.out (by rw [Xn,U.out];unfold blank;rw [V9];simp));go_wp2;go_ret;exact ⟨ZH HN.out.symm,TC.out _ HB.out⟩
         | true =>
          cases Q7:((Zh ns 0).nd.cz == 0) with
          | false =>
           have HN:=Z8 (Vl Uu.out (by rw [Xn,U.out];unfold blank;rw [Q7];simp));go_wp2;go_ret;exact ⟨ZH HN.out.symm,TC.out _ HB.out⟩
          | true =>
           cases Q6:((Zh ns 0).nd.mz == 0) with
           | false =>
            have HN:=Z8 (Vl Uu.out (by rw [Xn,U.out];unfold blank;rw [Q6];simp));go_wp2;go_ret;exact ⟨ZH HN.out.symm,TC.out _ HB.out⟩
           | true =>
            cases Q4:((Zh ns 0).nd.pz == 0) with
            | false =>
             have HN:=Z8 (Vl Uu.out (by rw [Xn,U.out];unfold blank;rw [Q4];simp));go_wp2;go_ret;exact ⟨ZH HN.out.symm,TC.out _ HB.out⟩
            | true =>
             have HT:Hid (VO ns 0=true):=by show _=_;rw [Xn,U.out,WC.out];unfold blank;rw [V,UY,V9,Q7,Q6,Q4];rfl
             go_wp2
             go_roundw
             case rel=>exact ⟨0+1,by omega,by go_num,(fun t ht=>by by_cases e:t=0;(subst e;exact HT.out);exact HA.out t (by omega)),DK.out _ HB.out⟩
             case measure=>simp [intOf];omega
     | succ j =>
      have g1:(0:Int)≤(j:Int)+1:=by omega
      have g2:(j:Int)+1<(n:Int):=by omega
      have g3:(0:Int)≤(j:Int):=by omega
      have g4:(j:Int)<(n:Int):=by omega
      have g5:(0:Int)<(j:Int)+1:=by omega
      have g6:IntKind.i64.wrap (j:Int)=(j:Int):=by rw [Xf];omega
      cases hcmp:Us (Zh ns j).nd.path (Zh ns (j+1)).nd.path with
      | true =>
       obtain ⟨l1,l2⟩:=Lg hcmp;have Z1:=Z8 hcmp;clear hcmp;refine ZF (S:=fun W=>Hid (ZX wn W)∧xz W B (Zh ns (j+1))∧W.cell? ⟨w.heap.size,1,none⟩=some (.slice (some ⟨b,o,none⟩) n cap)∧W.cell? ⟨b,o+j*8+1,none⟩=some (.string (Zh ns j).nd.path)) (by kernel_rfl) (⟨HD,(XN.out.below HD.out).all,(CT.out _ HD.out),((HC.out j (by omega)).below (TC.out _ HD.out) hb).c1⟩) (fun Z9=>?_)
       iterate 2 (refine ZV ?_ (by kernel_rfl) (fun _=>id) Z9 ?_ ?_;rotate_left;· intro w9 Z4;obtain ⟨-,Z4⟩:=Z4;go_simp;try with_reducible rfl)
       refine ZS 2 rfl (by kernel_rfl) (fun K hK=>?_);go_simp;refine (HE.out 1).mono ?_;rintro e w' ⟨rfl,HB⟩;rw [WC.out];clear Z9;refine hK.out _ _ (⟨HB,(XN.out.below HB.out).all,(CT.out _ HB.out),((HC.out j (by omega)).below (TC.out _ HB.out) hb).c1⟩) (fun Z9=>?_);clear hK K
       iterate 19 (refine ZV ?_ (by kernel_rfl) (fun _=>id) Z9 ?_ ?_;rotate_left;· intro w9 Z4;obtain ⟨-,Z4⟩:=Z4;go_simp;try with_reducible rfl)
       refine ZM (by kernel_rfl) ?_ _
       try simp only [Act.put,Zk,Zj,Zi]
       clear Z9;obtain ⟨-,b0,b1,b2,b3,b4,b5,b6,b7⟩:=XN.out.below HB.out
       cases hdel:(Zh ns (j+1)).del with
       | false =>
        have HT:Hid (VO ns (j+1)=true):=by show _=_;rw [Yi,RN hdel,WC.out];simp [Z1.out]
        rw [hdel] at b0;clear hdel;go_wp2
        go_roundw
        case rel=>exact ⟨(j+1)+1,by omega,by go_num,(fun t ht=>by by_cases e:t=(j+1);(subst e;exact HT.out);exact HA.out t (by omega)),DK.out _ HB.out⟩
        case measure=>simp [intOf];omega
       | true =>
        have U:=Z8 (Qs hdel);rw [hdel] at b0;clear hdel;have Qr:((Zh ns (j+1)).nd.path.toList == (Zh ns (j+1)).nd.path.toList)=true:=by simp
        cases V:((Zh ns (j+1)).nd.data.toList == []) with
        | false =>
         have HN:=Z8 (Vl Uu.out (by rw [Yi,U.out];unfold blank;rw [V];simp));go_wp2;go_ret;exact ⟨ZH HN.out.symm,TC.out _ HB.out⟩
        | true =>
         cases UY:((Zh ns (j+1)).nd.Ym == 0) with
         | false =>
          have HN:=Z8 (Vl Uu.out (by rw [Yi,U.out];unfold blank;rw [UY];simp));go_wp2;go_ret;exact ⟨ZH HN.out.symm,TC.out _ HB.out⟩
         | true =>
          cases V9:((Zh ns (j+1)).nd.ZD == 0) with
          | false =>
           have HN:=Z8 (Vl Uu.out (by rw [Yi,U.out];unfold blank;rw [V9];simp));go_wp2;go_ret;exact ⟨ZH HN.out.symm,TC.out _ HB.out⟩
          | true =>
           cases Q7:((Zh ns (j+1)).nd.cz == 0) with
           | false =>
            have HN:=Z8 (Vl Uu.out (by rw [Yi,U.out];unfold blank;rw [Q7];simp));go_wp2;go_ret;exact ⟨ZH HN.out.symm,TC.out _ HB.out⟩
           | true =>
            cases Q6:((Zh ns (j+1)).nd.mz == 0) with
            | false =>
             have HN:=Z8 (Vl Uu.out (by rw [Yi,U.out];unfold blank;rw [Q6];simp));go_wp2;go_ret;exact ⟨ZH HN.out.symm,TC.out _ HB.out⟩
            | true =>
             cases Q4:((Zh ns (j+1)).nd.pz == 0) with
             | false =>
              have HN:=Z8 (Vl Uu.out (by rw [Yi,U.out];unfold blank;rw [Q4];simp));go_wp2;go_ret;exact ⟨ZH HN.out.symm,TC.out _ HB.out⟩
             | true =>
              have HT:Hid (VO ns (j+1)=true):=by show _=_;rw [Yi,U.out,WC.out];unfold blank;rw [V,UY,V9,Q7,Q6,Q4];simp [Z1.out]
              go_wp2
              go_roundw
              case rel=>exact ⟨(j+1)+1,by omega,by go_num,(fun t ht=>by by_cases e:t=(j+1);(subst e;exact HT.out);exact HA.out t (by omega)),DK.out _ HB.out⟩
              case measure=>simp [intOf];omega
      | false =>
       have HN:=Z8 (Vl Uu.out (by rw [Yi,hcmp,Js]))
       rcases AQ hcmp with l1 | ⟨l1,l2⟩
       · clear hcmp
         refine ZF (S:=fun W=>Hid (ZX wn W)∧xz W B (Zh ns (j+1))∧W.cell? ⟨w.heap.size,1,none⟩=some (.slice (some ⟨b,o,none⟩) n cap)∧W.cell? ⟨b,o+j*8+1,none⟩=some (.string (Zh ns j).nd.path)) (by kernel_rfl) (⟨HD,(XN.out.below HD.out).all,(CT.out _ HD.out),((HC.out j (by omega)).below (TC.out _ HD.out) hb).c1⟩) (fun Z9=>?_)
         iterate 2 (refine ZV ?_ (by kernel_rfl) (fun _=>id) Z9 ?_ ?_;rotate_left;· intro w9 Z4;obtain ⟨-,Z4⟩:=Z4;go_simp;try with_reducible rfl)
         refine ZS 2 rfl (by kernel_rfl) (fun K hK=>?_);go_simp;refine (HE.out 1).mono ?_;rintro e w' ⟨rfl,HB⟩;rw [WC.out];clear Z9;refine hK.out _ _ (⟨HB,(XN.out.below HB.out).all,(CT.out _ HB.out),((HC.out j (by omega)).below (TC.out _ HB.out) hb).c1⟩) (fun Z9=>?_);clear hK K
         iterate 19 (refine ZV ?_ (by kernel_rfl) (fun _=>id) Z9 ?_ ?_;rotate_left;· intro w9 Z4;obtain ⟨-,Z4⟩:=Z4;go_simp;try with_reducible rfl)
         refine ZM (by kernel_rfl) ?_ _
         try simp only [Act.put,Zk,Zj,Zi]
         clear Z9;go_wp2;go_ret;exact ⟨ZH HN.out.symm,TC.out _ HB.out⟩
       clear hcmp;refine ZF (S:=fun W=>Hid (ZX wn W)∧xz W B (Zh ns (j+1))∧W.cell? ⟨w.heap.size,1,none⟩=some (.slice (some ⟨b,o,none⟩) n cap)∧W.cell? ⟨b,o+j*8+1,none⟩=some (.string (Zh ns j).nd.path)) (by kernel_rfl) (⟨HD,(XN.out.below HD.out).all,(CT.out _ HD.out),((HC.out j (by omega)).below (TC.out _ HD.out) hb).c1⟩) (fun Z9=>?_)
       iterate 2 (refine ZV ?_ (by kernel_rfl) (fun _=>id) Z9 ?_ ?_;rotate_left;· intro w9 Z4;obtain ⟨-,Z4⟩:=Z4;go_simp;try with_reducible rfl)
       refine ZS 2 rfl (by kernel_rfl) (fun K hK=>?_);go_simp;refine (HE.out 1).mono ?_;rintro e w' ⟨rfl,HB⟩;rw [WC.out];clear Z9;refine hK.out _ _ (⟨HB,(XN.out.below HB.out).all,(CT.out _ HB.out),((HC.out j (by omega)).below (TC.out _ HB.out) hb).c1⟩) (fun Z9=>?_);clear hK K
       iterate 19 (refine ZV ?_ (by kernel_rfl) (fun _=>id) Z9 ?_ ?_;rotate_left;· intro w9 Z4;obtain ⟨-,Z4⟩:=Z4;go_simp;try with_reducible rfl)
       refine ZM (by kernel_rfl) ?_ _
       try simp only [Act.put,Zk,Zj,Zi]
       clear Z9;go_wp2;go_ret;exact ⟨ZH HN.out.symm,TC.out _ HB.out⟩
  have HY:Hid (RM ns=true):=Ar (fun t ht=>HA.out t (by rw [HP.out] at ht;omega));go_wp2;go_ret;exact ⟨ZH HY.out.symm,MT.out⟩
theorem IA (w:World) (z:Int) (ao:Option Addr) (cap:Nat) (hz1:¬z<1) (hz2:¬2147483647<z) :
    Calls Tryz.prog 92 #[.agg #[.int .i64 z,.slice ao 0 cap]] w (Ze w (.bool true)):=by
 go_enter Tryz.func92,Tryz.ntmps92
 go_wp2
 go_rounds 1
 go_ret;exact ⟨rfl,ZR.alloc ZW _⟩
theorem Ge (w:World) (z:Int) (ao:Option Addr) (n cap:Nat) (h:z<1∨2147483647<z∨1000<n) :
    Calls Tryz.prog 92 #[.agg #[.int .i64 z,.slice ao n cap]] w (Ze w (.bool false)):=by
 by_cases h1:z<1
 · clear h
   go_enter Tryz.func92,Tryz.ntmps92
   go_wp2;go_ret;exact ⟨rfl,ZR.alloc ZW _⟩
 by_cases h2:2147483647<z
 · clear h
   go_enter Tryz.func92,Tryz.ntmps92
   go_wp2;go_ret;exact ⟨rfl,ZR.alloc ZW _⟩
 have h3:(1000:Int)<(n:Int):=by omega
 clear h
 go_enter Tryz.func92,Tryz.ntmps92
 go_wp2;go_ret;exact ⟨rfl,ZR.alloc ZW _⟩
theorem PO (w:World) (z:Int) (v:Value) (ns:List Ef) (h:BL w v ns) (hsz:∀i,(Zh ns i).nd.path.size≤1048576∧(Zh ns i).nd.data.size≤1048576) :
    Calls Tryz.prog 92 #[.agg #[.int .i64 z,v]] w (Ze w (.bool (XR z ns))):=by
 obtain ⟨ao,cap,rfl,k1,k2,k3⟩:=h
 by_cases hl:z<1∨2147483647<z∨1000<ns.length
 · have:XR z ns=false:=by
    unfold XR
    rcases hl with hl | hl | hl
    · rw [Zl (show ¬1≤z by omega)];rfl
    · rw [Zl (show ¬z≤2147483647 by omega)];simp
    rw [Zl (show ¬ns.length≤1000 by omega)];simp
   rw [this];exact Ge w z ao ns.length cap hl
 have:XR z ns=RM ns:=by unfold XR;rw [YS (show 1≤z by omega),YS (show z≤2147483647 by omega),YS (show ns.length≤1000 by omega)];rfl
 rw [this]
 rcases k3 with rfl | ⟨b,o,rfl,hb,hc⟩
 · exact IA w z ao cap (by omega) (by omega)
 exact IB w z b o ns.length cap ns (by omega) (by omega) rfl (by omega) hb hsz hc
def Ak (w:World) (B:Nat) (t:TypeId) (z:Int) (v:Value):Prop:=w.heap[B]?=some (.cells #[.int .i64 z,v] t (0,0))
theorem Ak.lt (h:Ak w B t z v):B<w.heap.size:=(Array.getElem?_eq_some_iff.1 h).1
theorem Ak.new (w:World) (t:TypeId) (z:Int) (v:Value):Ak (w.alloc (.cells #[.int .i64 z,v] t)) w.heap.size t z v:=WJ w _
theorem Ak.later (hb:ZX w w') (h:Ak w B t z v):Ak w' B t z v:=(hb.block _ h.lt).trans h
theorem Ak.cells (h:Ak w B t z v):w.cell? ⟨B,0,none⟩=some (.int .i64 z)∧w.cell? ⟨B,1,none⟩=some v:=⟨(cell_of h _).trans rfl,(cell_of h _).trans rfl⟩
structure DB (s:Nat) (v:Value) (z:Int) (vx:Value) (W:World):Prop where
 t:Boxed W s 33 v
 x:Ak W (s+1) 105 z vx
 r:Boxed W (s+2) 33 (.slice none 0 0)
theorem DB.new (w:World) (v:Value) (z:Int) (vx:Value):DB w.heap.size v z vx (((w.alloc (.cells #[v] 33)).alloc (.cells #[.int .i64 z,vx] 105)).alloc (.cells #[.slice none 0 0] 33)):=by
 have s1:(w.alloc (.cells #[v] 33)).heap.size=w.heap.size+1:=by simp
 have s2:((w.alloc (.cells #[v] 33)).alloc (.cells #[.int .i64 z,vx] 105)).heap.size=w.heap.size+2:=by simp
 have h2:=Ak.new (w.alloc (.cells #[v] 33)) 105 z vx;rw [s1] at h2;have h3:=Boxed.new ((w.alloc (.cells #[v] 33)).alloc (.cells #[.int .i64 z,vx] 105)) 33 (.slice none 0 0);rw [s2] at h3;exact ⟨((Boxed.new w _ _).alloc _).alloc _,h2.later (ZR.alloc ZW _),h3⟩
theorem DB.below {m:Nat} (h:DB s v z vx W) (hb:Below m W W') (hm:s+3≤m):DB s v z vx W' :=
 ⟨(hb.block _ (by omega)).trans h.t,(hb.block _ (by omega)).trans h.x,(hb.block _ (by omega)).trans h.r⟩
theorem DB.size (h:DB s v z vx W):s+3≤W.heap.size:=by have:=h.r.lt;omega
theorem Sg (w:World) (v:Value) (ns:List Nd) (z:Int) (vx:Value) (es:List Ef) (h:VL w v ns) (hx:BL w vx es) (hn:ns.length≤1048576)
    (hsz:∀i,(Zy ns i).path.size≤1048576∧(Zy ns i).data.size≤1048576) (hsx:∀i,(Zh es i).nd.path.size≤1048576∧(Zh es i).nd.data.size≤1048576) :
    Calls Tryz.prog 62 #[.agg #[v],.agg #[.int .i64 z,vx]] w fun e w'=>∃v',e=.returned (.agg #[v'])∧ZU 134 w' w.heap.size v' (ZE ns z es)∧ZX w w':=by
 obtain ⟨ao,ca,rfl,_,_⟩:=h.len;obtain ⟨xo,cx,rfl,_,_⟩:=hx.len;have HR:=Z8 h;have HX:=Z8 hx;have HZ:=Z8 hsz;have rn:=Z8 hsx;have B0:Hid (ZX w (((w.alloc (.cells #[.slice ao ns.length ca] 33)).alloc (.cells #[.int .i64 z,.slice xo es.length cx] 105)).alloc (.cells #[.slice none 0 0] 33))):=((ZR.alloc ZW _).alloc (by simp) _).alloc (by simp;omega) _;have X0:Hid (DB w.heap.size (.slice ao ns.length ca) z (.slice xo es.length cx) (((w.alloc (.cells #[.slice ao ns.length ca] 33)).alloc (.cells #[.int .i64 z,.slice xo es.length cx] 105)).alloc (.cells #[.slice none 0 0] 33))):=DB.new _ _ _ _
 go_enter Tryz.func62,Tryz.ntmps62
 go_wp2_with fail
 generalize ((w.alloc _).alloc _).alloc _=w0 at *;refine (Vh _ _ ns (HR.out.below B0.out) hn HZ.out).mono ?_;rintro e w1 ⟨rfl,b1⟩;have B1:=Z8 (Ye B0.out b1);have X1:=Z8 (X0.out.below b1 X0.out.size)
 by_cases hok:Zp ns=true
 rotate_left
 · have hok':Zp ns=false:=by simpa using hok
   have HT:Hid (ZE ns z es=[]):=by show _=_;unfold ZE;rw [hok'];rfl
   rw [hok'];have c0:=X1.out.r.cell;have f0:=X1.out.r.frozen;go_wp2;refine ZT (v:=.agg #[.slice none 0 0]) (by simp [results,Tryz.results62,go_sem,c0]) rfl ⟨_,rfl,(by rw [HT.out];exact Yf _ _ _ _),?_⟩
   repeat (first | exact B1.out | refine Zf ?_ (by simp;try omega) _)
 rw [hok];have oG:=X1.out.x.cells
 go_wp2_with fail
 refine (PO _ _ _ es (HX.out.below B1.out) rn.out).mono ?_;rintro e w2 ⟨rfl,b2⟩;have B2:=Z8 (Ye B1.out b2);have X2:=Z8 (X1.out.below b2 X1.out.size)
 by_cases Qr:XR z es=true
 rotate_left
 · have DA:XR z es=false:=by simpa using Qr
   have HT:Hid (ZE ns z es=[]):=by show _=_;unfold ZE;rw [DA];simp
   rw [DA];have c0:=X2.out.r.cell;have f0:=X2.out.r.frozen;go_wp2;refine ZT (v:=.agg #[.slice none 0 0]) (by simp [results,Tryz.results62,go_sem,c0]) rfl ⟨_,rfl,(by rw [HT.out];exact Yf _ _ _ _),?_⟩
   repeat (first | exact B2.out | refine Zf ?_ (by simp;try omega) _)
 have hn1:=RQ hok;have he1:=(Tu Qr).2;have HT:Hid (ZE ns z es=KU ns es):=by show _=_;unfold ZE;rw [hok,Qr];rfl
 have HA:=Z8 (RL hok);have HE:=Z8 (Ov (Tu Qr).1);have HW0:Hid (Uq ns { data:=#[] }=ns):=IC (fun k hk=>DF hok k hk) _ (by rw [SC]);rw [Qr];have ct:=X2.out.t.cell
 go_wp2_with fail
 refine (Tv _ _ ns _ (HR.out.below B2.out) (by omega)).mono ?_;rintro e w3 ⟨v3,rfl,o3,b3⟩;have B3:=Z8 (Ye B2.out b3);have X3:=Z8 (X2.out.below b3 X2.out.size);have O3:Hid (ZU 134 w3 (w.heap.size+3) v3 (KU ns (es.take 0))):=by
  have:=o3.mono X2.out.size;rw [HW0.out] at this;exact this
 generalize hen:es.length=n at *;have HP:=Z8 hen;go_wp2
 go_loopw [5,6] (fun vo vk wr=>∃k:Nat,k≤n∧vk=.int .i64 k∧Hid (ZU 134 wr (w.heap.size+3) vo (KU ns (es.take k)))∧Hid (ZX w wr)∧Hid (DB w.heap.size (.slice ao ns.length ca) z (.slice xo n cx) wr)) (fun _ i _=>n - (intOf i).toNat)
 case atStart=>exact ⟨0,ZQ _,rfl,O3,B3,X3⟩
 case round =>
  obtain ⟨k,hk,rfl,HW,HB,Wl⟩:=hrel;have sB:=Wl.out.size;obtain ⟨y0,y1⟩:=Wl.out.x.cells
  by_cases hlt:k<n
  · have YN:(k:Int)<(n:Int):=by omega
    obtain ⟨b,o,hao,hb,hc⟩:∃b o,xo=some ⟨b,o,none⟩∧b<w.heap.size∧TF w b (o+k*8) (Zh es k):=by
     obtain ⟨BK,cap',e',-,-,h3⟩:=HX.out
     simp only [Zc] at e'
     obtain ⟨rfl,-,-⟩:=e'
     rcases h3 with h3 | ⟨b,o,rfl,hb,hc⟩
     · have:=HP.out;rw [h3] at this;simp at this;omega
     exact ⟨b,o,rfl,hb,hc k (by rw [HP.out];exact hlt)⟩
    subst hao;obtain ⟨c0,c1,c2,c3,c4,c5,c6,c7⟩:=hc.below HB.out hb;have hll:(KU ns (es.take k)).length≤100000:=by
     have:=Ey HA.out HE.out k;omega
    have HS:=Z8 (Al ns es k (by rw [HP.out];exact hlt));have HQ:Hid (tO (KU ns (es.take k)) (Zh es k)=if (Zh es k).del then Uq (KU ns (es.take k)) (Zh es k).nd.path else vg (KU ns (es.take k)) (Zh es k).nd):=rfl
    cases hA:(Zh es k).del with
    | true =>
     rw [hA] at c0
     go_wp2_with fail
     refine (Tv _ _ _ _ HW.out.rd (by omega)).mono ?_;rintro e w4 ⟨v4,rfl,o4,b4⟩;have B4:=Z8 (Ye HB.out b4);have X4:=Z8 (Wl.out.below b4 sB);have O4:Hid (ZU 134 w4 (w.heap.size+3) v4 (KU ns (es.take (k+1)))):=by
      rw [HS.out,HQ.out,hA];exact o4.mono sB
     go_wp2;exact ⟨⟨k+1,by omega,by go_num,O4,B4,X4⟩,by simp [intOf];omega⟩
    | false =>
     rw [hA] at c0
     go_wp2_with fail
     refine (As _ _ _ _ HW.out.rd hll).mono ?_;rintro e w4 ⟨v4,rfl,o4,b4⟩;have B4:=Z8 (Ye HB.out b4);have X4:=Z8 (Wl.out.below b4 sB);have O4:Hid (ZU 134 w4 (w.heap.size+3) v4 (KU ns (es.take (k+1)))):=by
      rw [HS.out,HQ.out,hA];exact o4.mono sB
     go_wp2;exact ⟨⟨k+1,by omega,by go_num,O4,B4,X4⟩,by simp [intOf];omega⟩
  have hkn:k=n:=by omega
  subst hkn;have c0:=Wl.out.r.cell;have f0:=Wl.out.r.frozen;have HF:Hid (ZU 134 wr (w.heap.size+3) u5 (ZE ns z es)):=by
   have:=HW.out;rw [We (by rw [HP.out];exact ZW)] at this;rw [HT.out];exact this
  obtain ⟨a5,c5,rfl⟩:=HF.out.slice;go_wp2;refine ZT (v:=.agg #[.slice a5 (ZE ns z es).length c5]) (by simp [results,Tryz.results62,go_sem,c0]) rfl ⟨_,rfl,?_,?_⟩
  · refine ZU.mono ?_ (show w.heap.size≤w.heap.size+3 by omega)
    repeat (first | exact HF.out | refine ZU.ZK ?_ (by simp;try omega) _)
  repeat (first | exact HB.out | refine Zf ?_ (by simp;try omega) _)
def uY (e:Ef):Int:=if e.del then 2 else 1
def tN (s:ByteArray):Nd:=⟨s,ByteArray.empty,0,0,0,0,0⟩
def PN:List Int→Option (Ef × List Int)
 | []=>none
 | y :: r=>if y=1 then (WM r).map (fun q=>(⟨false,q.1⟩,q.2)) else if y=2 then (IK r).map (fun q=>(⟨true,tN q.1⟩,q.2)) else none
theorem KR (h:PN ys=some (e,r)) (hb:YL ys):YL r∧r.length<ys.length∧e.nd.path.size<256∧e.nd.data.size<256:=by
 cases ys with
 | nil=>simp [PN] at h
 | cons y t =>
  have ht:YL t:=fun x hx=>hb x (Jp _ hx)
  simp only [PN] at h
  split at h
  · obtain ⟨⟨n,r'⟩,h1,h2⟩:=Option.map_eq_some_iff.1 h
    simp only [Mc] at h2
    obtain ⟨rfl,rfl⟩:=h2;have:=UL h1 ht;exact ⟨this.1,by simp;omega,this.2.2.1,this.2.2.2⟩
  split at h
  · obtain ⟨⟨s,r'⟩,h1,h2⟩:=Option.map_eq_some_iff.1 h
    simp only [Mc] at h2
    obtain ⟨rfl,rfl⟩:=h2;have:=Q1 h1 ht;exact ⟨this.1,by simp;omega,this.2.2,by show ByteArray.empty.size<256;decide⟩
  cases h
def yd:Nat→List Int→Option (List Ef × List Int)
 | 0,ys=>some ([],ys)
 | c+1,ys =>
  match PN ys with
  | none=>none
  | some (e,r)=>(yd c r).map fun q=>(e :: q.1,q.2)
def Qp (C:Nat) (ys:List Int) (es:List Ef) (r:List Int) (c:Nat):Prop:=yd C ys=(yd c r).map (fun q=>(es++q.1,q.2))∧es.length+r.length≤ys.length
theorem Qp.start (C:Nat) (ys:List Int):Qp C ys [] ys C:=⟨by simp,by simp⟩
theorem Qp.step (h:Qp C ys es r (c+1)) (hb:YL r) (hr:PN r=some (e,r')):Qp C ys (es++[e]) r' c:=by
 obtain ⟨he,hl⟩:=h;have h1:=(KR hr hb).2.1;refine ⟨?_,by simp;omega⟩;rw [he]
 simp only [yd,hr,Option.map_map]
 congr 1
 funext q
 simp
theorem Qp.done (h:Qp C ys es r 0):yd C ys=some (es,r):=by
 rw [h.1];simp [yd]
theorem Qp.bad (h:Qp C ys es r (c+1)) (hr:PN r=none):yd C ys=none:=by
 rw [h.1];simp [yd,hr]
def MQ (ys:List Int):Nat:=YV ((ys.drop 4).take 2)
def zX (ys:List Int):Nat:=YV (ys.take 4)
def Wh (ys:List Int):Option (Int × List Ef) :=
 if ys.length<6 then none else
 match yd (MQ ys) (ys.drop 6) with
 | none=>none
 | some (es,r)=>if r=[]∧XR (zX ys) es=true then some ((zX ys:Int),es) else none
theorem Aj (h:YL ys):wrap64 ((YV (ys.take 2):Nat):Int)=((YV (ys.take 2):Nat):Int)∧YV (ys.take 2)<65536:=by
 have hb:=(UN (ys.take 2).length (ys.take 2) rfl (fun x hx=>h x (Vp hx))).2;have h1:256 ^ (ys.take 2).length≤256 ^ 2:=Me (by omega) (by rw [YC];omega);have h2:YV (ys.take 2)<65536:=ZB hb h1;unfold wrap64;omega
def tM (es:List Ef):Prop:=∀n ∈ es,n.nd.path.size<256∧n.nd.data.size<256
theorem tM.at {ns:List Ef} (h:tM ns) (i:Nat):(Zh ns i).nd.path.size≤1048576∧(Zh ns i).nd.data.size≤1048576:=by
 by_cases hi:i<ns.length
 · rw [Ra hi]
   have:=h _ (Na hi);omega
 unfold Zh;rw [List.getD,Sy (by omega)];exact ⟨ZQ _,ZQ _⟩
theorem tM.snoc (h:tM es) (h1:e.nd.path.size<256) (h2:e.nd.data.size<256):tM (es++[e]):=by
 intro m hm
 rcases Sw.1 hm with hm | hm
 · exact h m hm
 simp at hm;subst hm;exact ⟨h1,h2⟩
def EB (W:World) (B:Nat) (n:Nd) (m:Int):Prop:=NB W B n∧W.cell? ⟨B,7,none⟩=some (.int .u8 m)
theorem EB.turn (h:EB W B n m) (hg:W.grownBy W' row) (hne:some B≠row):EB W' B n m :=
 ⟨h.1.turn hg hne,(YI (a:=⟨B,7,none⟩) (hg.block B h.1.1.lt hne)).trans h.2⟩
theorem EB.other {B':Nat} (h:EB W B n m) (hne:B≠B') (i:Nat) (u:Value):EB (W.setCell ⟨B',i,none⟩ u) B n m :=
 ⟨h.1.other hne i u,(ZG _ _ _ _ (by intro e;injection e with e;omega)).trans h.2⟩
theorem EB.new (w:World) (n:Nd) (m:Int) (t:TypeId):EB (w.alloc (.cells #[.string n.path,.string n.data,.int .i64 n.Ym,.int .i64 n.ZD,.int .i64 n.cz,.int .i64 n.mz,.int .i64 n.pz,.int .u8 m] t)) w.heap.size n m:=by
 have:=WJ w (.cells #[.string n.path,.string n.data,.int .i64 n.Ym,.int .i64 n.ZD,.int .i64 n.cz,.int .i64 n.mz,.int .i64 n.pz,.int .u8 m] t);exact ⟨⟨⟨by simp,(cell_of this _).trans rfl,(cell_of this _).trans rfl,(cell_of this _).trans rfl,(cell_of this _).trans rfl,(cell_of this _).trans rfl,(cell_of this _).trans rfl,(cell_of this _).trans rfl⟩,fun j=>(by go_simp)⟩,(cell_of this _).trans rfl⟩
theorem LI {i:Nat} {u x:Value} (h:W.cell? ⟨B,7,none⟩=some x) (hi:i≠7):(W.setCell ⟨B,i,none⟩ u).cell? ⟨B,7,none⟩=some x :=
 (ZG _ _ _ _ (by intro e;injection e with _ e;omega)).trans h
theorem EB.tL (h:EB W B n m) (n':Nd) :
    EB (((((((W.setCell ⟨B,0,none⟩ (.string n'.path)).setCell ⟨B,1,none⟩ (.string n'.data)).setCell ⟨B,2,none⟩ (.int .i64 n'.Ym)).setCell ⟨B,3,none⟩ (.int .i64 n'.ZD)).setCell ⟨B,4,none⟩ (.int .i64 n'.cz)).setCell ⟨B,5,none⟩ (.int .i64 n'.mz)).setCell ⟨B,6,none⟩ (.int .i64 n'.pz)) B n' m:=by
 refine ⟨((((((h.1.Au n'.path).xt n'.data).xr n'.Ym).xq n'.ZD).xp n'.cz).ru n'.mz).rt n'.pz,?_⟩
 iterate 7 refine LI ?_ (by omega)
 exact h.2
theorem EB.pH (h:EB W B n m) (s:ByteArray):EB (W.setCell ⟨B,0,none⟩ (.string s)) B { n with path:=s } m :=
 ⟨h.1.Au s,LI h.2 (by omega)⟩
def Dz (e:Ef):Value:=.agg #[.string e.nd.path,.string e.nd.data,.int .i64 e.nd.Ym,.int .i64 e.nd.ZD,.int .i64 e.nd.cz,.int .i64 e.nd.mz,.int .i64 e.nd.pz,.int .u8 (uY e)]
end Go.Proofs.YtmmmffcbfepghaaGreatDoor


