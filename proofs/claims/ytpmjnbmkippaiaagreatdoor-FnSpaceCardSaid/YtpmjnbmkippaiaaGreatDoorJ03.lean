import Derived.Test.YtpmjnbmkippaiaaGreatDoorJ02
import Derived.RangeFuncBox
import Derived.Laws.Cover1
import Derived.IntWalk
import Derived.Lib.AppendStr
set_option maxRecDepth 100000
set_option maxHeartbeats 16000000
set_option linter.unusedVariables false
set_option linter.unusedSimpArgs false
namespace Go.Proofs.YtpmjnbmkippaiaaGreatDoor
section
open Go.RowKit Go.Shelf
variable {A:Array Value} {a s:ByteArray} {R:List (List UInt8)} {r ys:List Int} {B b i k lo m n p:Nat} {f:Nat × Nat} {row:Option Nat} {e t:TypeId} {v:Value} {X Y w w' w0 w1 w2:World}
attribute [local go_sem] VA
theorem L3:∀(l cur:List UInt8),Lib.indexByte l 47=-1→WF cur l=[cur++l]
 | [],cur,_=>by simp [WF]
 | x :: l,cur,h=>by
  unfold Lib.indexByte at h
  by_cases hx:x=47
  · rw [hx] at h;simp at h
  have hb:=Vy.2 hx;rw [hb] at h
  simp only [Qw,Vw] at h
  have hge:=Lib.indexByte_ge l 47;have h1:Lib.indexByte l 47=-1:=by
   by_cases e:Lib.indexByte l 47=-1
   · exact e
   rw [Z1 (by simpa using e)] at h;omega
  rw [UQ hx,L3 l _ h1];simp
theorem L2:∀(l cur:List UInt8) (k:Nat),Lib.indexByte l 47=(k:Int)→k<l.length∧WF cur l=(cur++l.take k) :: WF [] (l.drop (k+1))
 | [],cur,k,h=>by simp [Lib.indexByte] at h
 | x :: l,cur,k,h=>by
  unfold Lib.indexByte at h
  by_cases hx:x=47
  · rw [hx] at h
    have hk:k=0:=by simp at h;omega
    subst hk;rw [hx,Uq];simp
  have hb:=Vy.2 hx;rw [hb] at h
  simp only [Qw,Vw] at h
  by_cases e:Lib.indexByte l 47=-1
  · rw [ZZ (by simpa using e)] at h;omega
  rw [Z1 (by simpa using e)] at h;have hge:=Lib.indexByte_ge l 47;obtain ⟨j,rfl⟩:∃j,k=j+1:=⟨k - 1,by omega⟩;obtain ⟨h1,h2⟩:=L2 l (cur++[x]) j (by omega);refine ⟨by simp;omega,?_⟩;rw [UQ hx,h2];simp
def qP (B:Nat) (W:World):Nat:=match W.cell? ⟨B,0,none⟩ with
 | some (.string x)=>x.size
 | _=>0
def kY (Bs:Nat) (St:Nat→World→Prop) (Ao Bk yF:World→Prop) (k:Nat) (W:World) (e:Ending) (W':World):Prop :=
 (e=.returned (.bool true)∧St (k+1) W'∧Bk W'∧∀v,Boxed W Bs 9 v→Boxed W' Bs 9 v)∨(e=.returned (.bool false)∧Ao W'∧yF W')
theorem Fw (nn:Nat) (hn1:1≤nn) (l Bs Be Bv:Nat) (R:List (List UInt8)) (s0:ByteArray)
    (St:Nat→World→Prop) (Ao Bk yF:World→Prop)
    (iT:∀k X Y,ZX X Y→St k X→St k Y) (iS:∀X Y,ZX X Y→Bk X→Bk Y)
    (hSW:∀k X v,St k X→St k (X.setCell ⟨Bs,0,none⟩ v)) (hBW:∀X v,Bk X→Bk (X.setCell ⟨Bs,0,none⟩ v))
    (hSR:∀k W,St k W→W.cell? ⟨Be,0,none⟩=some (.string ⟨#[47]⟩)∧W.cell? ⟨Bv,0,none⟩=some (.int .i64 0))
    (hY:∀k vs W,St k W→Bk W→(k<R.length∧vs=#[sV (R.getD k [])])→YieldAt Fence.wide (nn - 1) Tryz.prog l vs W (kY Bs St Ao Bk yF k W))
    (W:World) (h0:St 0 W) (h1:Bk W) (hs:Boxed W Bs 9 (.string s0)) (hz:s0.size≤1048576) (hR:R=WF [] s0.data.toList) :
    CallsIn Fence.wide nn Tryz.prog 245 #[.func (.yield l) #[] #[],.pointer (some ⟨Be,0,none⟩),.pointer (some ⟨Bs,0,none⟩),.pointer (some ⟨Bv,0,none⟩)] W fun e W'=>(∃v,e=.returned v)∧((∃s,s=R.length∧St s W'∧Bk W')∨(Ao W'∧yF W')):=by
 have HY:=Z3 hY;have lZ:=Z3 iT;have eQ:=Z3 iS;have ik:=Z3 hSW;have kX:=Z3 hBW;have iR:=Z3 hSR;have H0:=Z3 h0;have H1:=Z3 h1;have oR:=Z3 hs;have HR:Hid (R.drop 0=WF [] s0.data.toList):=hR;obtain ⟨cE,cV⟩:=hSR 0 W h0;have cS:=hs.cell;refine SC Tryz.func245 rfl trivial ?_ rfl
 simp only [Tryz.ntmps245,Zm,Yr,Wo,Nat.reduceAdd,Nat.reduceSub,JO,JN,Wj,Ur,Yw,Vq]
 gi_wp2
 gi_loopw [] (fun wr=>∃(k:Nat) (r:ByteArray),Hid (St k wr)∧Hid (Bk wr)∧r.size≤1048576∧Hid (Boxed wr Bs 9 (.string r))∧Hid (R.drop k=WF [] r.data.toList)) (fun wr=>qP Bs wr)
 case atStart=>exact ⟨0,s0,H0,H1,hz,oR,HR⟩
 case round =>
  obtain ⟨k,r,HS,HB,hrz,HX,HD⟩:=hrel;obtain ⟨cE,cV⟩:=iR.out k wr HS.out;have cS:=HX.out.cell
  gi_wp2_with fail
  refine ⟨trivial,?_⟩;refine (XM.2 (tH _ r)).mono ?_;rintro e w2 ⟨rfl,rfl⟩
  by_cases hneg:Lib.indexByte r.data.toList 47=-1
  · have hd:=HD.out
    rw [L3 _ _ hneg,Yw] at hd;have hlt:k<R.length:=by
     by_cases h:k<R.length
     · exact h
     rw [FR (by omega)] at hd;cases hd
    have hend:Hid (k+1=R.length):=by
     have:=ZR List.length hd;rw [Zd] at this
     simp at this
     show _=_;omega
    have hget:R.getD k []=r.data.toList:=by
     have:=ZR (fun x=>x.getD 0 []) hd
     simpa [List.getD,Qt] using this
    have qQ:=HY.out k #[.string r] w2 HS.out HB.out ⟨hlt,by rw [hget];rfl⟩;rw [hneg];obtain ⟨fn,tmps,assign,body,hy,hR⟩:=qQ;gi_wp2;refine hR.mono ?_;rintro e W3 (⟨rfl,Cn,hB3,-⟩ | ⟨rfl,Cn,hB3⟩)
    · have Cm:Hid (St (k+1) W3):=Cn
      have HB3:=Z3 hB3;gi_wp2;refine bodyPost_end (Rs rfl _ _ _) rfl ?_;exact ⟨⟨_,rfl⟩,.inl ⟨k+1,hend.out,Cm.out,HB3.out⟩⟩
    have Cm:Hid (Ao W3):=Cn;have HB3:=Z3 hB3;gi_wp2;refine bodyPost_end (Rs rfl _ _ _) rfl ?_;exact ⟨⟨_,rfl⟩,.inr ⟨Cm.out,HB3.out⟩⟩
  have hge:=Lib.indexByte_ge r.data.toList 47;obtain ⟨j,hj⟩:∃j:Nat,Lib.indexByte r.data.toList 47=(j:Int):=⟨(Lib.indexByte r.data.toList 47).toNat,by omega⟩;have hd:=HD.out;obtain ⟨hjl,hsp⟩:=L2 _ [] j hj;have hjr:j<r.size:=hjl;rw [hsp,Yw] at hd;have hlt:k<R.length:=by
   by_cases h:k<R.length
   · exact h
   rw [FR (by omega)] at hd;cases hd
  have hget:R.getD k []=r.data.toList.take j:=by
   have:=ZR (fun x=>x.getD 0 []) hd
   simpa [List.getD,Qt] using this
  have hD2:Hid (R.drop (k+1)=WF [] (r.extract (j+1) r.size).data.toList):=by
   have h1:=ZR (List.drop 1) hd;rw [Rz,pM,Qu] at h1;show _=_;rw [VS,h1];unfold Ap
   congr 1
   rw [Wv (by rw [Zd];show r.size - _≤_;omega)]
  have qQ:=HY.out k #[.string (r.extract 0 j)] w2 HS.out HB.out ⟨hlt,by rw [hget,VS];unfold Ap;simp [sV]⟩;rw [hj];have hsz:(r.extract (j+1) r.size).size=r.size - (j+1):=by simp
  have Pm:=Z3 hsz;have io:¬(j:Int)<0:=by omega
  have ZK:(j:Int)≤(r.size:Int):=by omega
  have ZI:(j:Int)+1≤(r.size:Int):=by omega
  obtain ⟨fn,tmps,assign,body,hy,hR⟩:=qQ;gi_wp2;refine hR.mono ?_;rintro e W3 (⟨rfl,Cn,hB3,hK3⟩ | ⟨rfl,Cn,hB3⟩)
  · have Cm:Hid (St (k+1) W3):=Cn
    have HB3:=Z3 hB3;have DE:=Z3 (hK3 _ HX.out);obtain ⟨cE,cV⟩:=iR.out (k+1) W3 Cm.out;have cS:=DE.out.cell;have fS:=DE.out.frozen;gi_wp2
    go_roundw
    case rel=>exact ⟨k+1,_,ik.out _ _ _ Cm.out,kX.out _ _ HB3.out,by rw [Pm.out];omega,DE.out.set _,hD2⟩
    case measure =>
     have e1:=(DE.out.set (.string (r.extract (j+1) r.size))).cell;have e2:=HX.out.cell;unfold qP;rw [e1,e2];show (r.extract (j+1) r.size).size<r.size;rw [Pm.out];omega
  have Cm:Hid (Ao W3):=Cn;have HB3:=Z3 hB3;gi_wp2;refine ZS (Rs rfl _ _ _) rfl ?_;exact ⟨⟨_,rfl⟩,.inr ⟨Cm.out,HB3.out⟩⟩
attribute [local go_sem] VA
def DD (s:ByteArray) (w:World) (e:Ending) (w':World):Prop :=
 e=.returned (.func (.func 245) #[] #[.pointer (some ⟨w.heap.size+1,0,none⟩),.pointer (some ⟨w.heap.size,0,none⟩),.pointer (some ⟨w.heap.size+2,0,none⟩)]) ∧
 w'=((w.alloc (.cells #[.string s] 9)).alloc (.cells #[.string ⟨#[47]⟩] 9)).alloc (.cells #[.int .i64 0] 3)
theorem IN (F:Fence) (n:Nat) (h87:F.fn 222) (hro:F.round=none) (s:ByteArray) (w:World) :
    CallsIn F n Tryz.prog 222 #[.string s,.string ⟨#[47]⟩,.int .i64 0] w (DD s w):=by
 refine SC Tryz.func222 rfl h87 ?_ hro
 simp only [Tryz.ntmps222,Zm,Yr,Wo,Nat.reduceAdd,Nat.reduceSub,JO,JN,Wj,Ur,Yw,Vq]
 gi_wp2;go_ret;exact ⟨rfl,rfl⟩
theorem IL (n:Nat) (hn:1≤n) (s:ByteArray) (w:World) :
    CallsIn Fence.wide n Tryz.prog 193 #[.string s,.string ⟨#[47]⟩] w (DD s w):=by
 refine SC Tryz.func193 rfl trivial ?_ rfl
 simp only [Tryz.ntmps193,Zm,Yr,Wo,Nat.reduceAdd,Nat.reduceSub,JO,JN,Wj,Ur,Yw,Vq]
 gi_wp2_with fail
 refine ⟨trivial,?_⟩;refine (IN Fence.wide _ trivial rfl s w).mono ?_;rintro e w5 ⟨rfl,Rc⟩;have HW:=Z3 Rc;clear Rc;gi_wp2;go_ret;exact ⟨rfl,HW.out⟩
theorem On:∀(l cur:List UInt8),((WF cur l).map (fun p=>p.length+1)).sum=cur.length+l.length+1
 | [],cur=>by simp [WF]
 | x :: l,cur=>by
  by_cases h:x=47
  · subst h;rw [Uq];have:=On l [];simp only [TM,Ec,this,Yr,Wo];omega
  rw [UQ h,On l (cur++[x])];simp only [ZA,Yr,Wo];omega
theorem yE:∀(rs:List (List UInt8)),rs.all DG=true→(rs.map (fun p=>p.length+1)).sum≤17*rs.length
 | [],_=>by simp
 | p :: rs,h=>by
  rw [FT,Yg] at h;have h1:=yE rs h.2;have h2:p.length≤16:=by
   have:=h.1;unfold DG IV at this
   simp only [Yg,Yt] at this
   exact this.1.2
  simp only [TM,Ec,Yr];omega
theorem IK (h:102<s.size):Zf s=false:=by
 have h1:¬s.data.toList=[47]:=fun e=>by
  have:s.data.toList.length=1:=by rw [e];rfl
  have h2:s.data.toList.length=s.size:=rfl;omega
 rw [Oo h1]
 cases hn:(decide ((nm s).length≤6)) with
 | false=>simp
 | true =>
  cases ha:(nm s).all DG with
  | false=>simp
  | true =>
   exfalso
   have h3:=yE _ ha;have h4:=On (s.data.toList.drop 1) [];have h5:(s.data.toList.drop 1).length=s.size - 1:=by rw [Zd];rfl
   rw [h5] at h4;unfold nm at h3 hn;rw [h4] at h3
   simp at h3 hn
   omega
attribute [local go_sem] VA
structure JJ (w:World) (R:List (List UInt8)) (k:Nat) (W:World):Prop where
 le:k≤R.length
 ok:(R.take k).all DG=true
 res:Boxed W w.heap.size 4 (.bool false)
 dep:Boxed W (w.heap.size+1) 3 (.int .i64 (k:Int))
 txt:∃v,Boxed W (w.heap.size+2) 9 v
 sep:Boxed W (w.heap.size+3) 9 (.string ⟨#[47]⟩)
 T:Boxed W (w.heap.size+4) 3 (.int .i64 0)
 below:ZX w W
 size:w.heap.size+5≤W.heap.size
structure lY (w:World) (R:List (List UInt8)) (W:World):Prop where
 no:R.all DG=false
 res:Boxed W w.heap.size 4 (.bool false)
 below:ZX w W
 size:w.heap.size+5≤W.heap.size
theorem XL (hb:ZX X Y) (h:Boxed X B t v):Boxed Y B t v:=(hb.block _ h.lt).trans h
theorem JJ.later (h:JJ w R k X) (hb:ZX X Y):JJ w R k Y :=
 ⟨h.le,h.ok,XL hb h.res,XL hb h.dep,h.txt.imp (fun _ hv=>XL hb hv),XL hb h.sep,XL hb h.T,h.below.trans (hb.mono (by have:=h.size;omega)),ZF h.size hb.size⟩
theorem JJ.Yj (h:JJ w R k X) (hg:X.grownBy Y row) (hr:∀r,row=some r→w.heap.size+5≤r∧∃o:Obj,X.heap[r]?=some o∧o.isCells=false):JJ w R k Y :=
 ⟨h.le,h.ok,h.res.kept hg (fun e=>by have:=(hr _ e.symm).1;omega),h.dep.kept hg (fun e=>by have:=(hr _ e.symm).1;omega),h.txt.imp (fun _ hv=>hv.kept hg (fun e=>by have:=(hr _ e.symm).1;omega)),h.sep.kept hg (fun e=>by have:=(hr _ e.symm).1;omega),h.T.kept hg (fun e=>by have:=(hr _ e.symm).1;omega),
  h.below.grown hg (by have:=h.size;omega) (fun q e=>by have:=(hr q e).1;omega),ZF h.size hg.size⟩
theorem lY.Yj (h:lY w R X) (hg:X.grownBy Y row) (hr:∀r,row=some r→w.heap.size+5≤r∧∃o:Obj,X.heap[r]?=some o∧o.isCells=false):lY w R Y :=
 ⟨h.no,h.res.kept hg (fun e=>by have:=(hr _ e.symm).1;omega),h.below.grown hg (by have:=h.size;omega) (fun q e=>by have:=(hr q e).1;omega),ZF h.size hg.size⟩
theorem JJ.put (h:JJ w R k X) (v:Value):JJ w R k (X.setCell ⟨w.heap.size+2,0,none⟩ v):=by
 obtain ⟨u,hu⟩:=h.txt;exact ⟨h.le,h.ok,h.res.other (by omega) _,h.dep.other (by omega) _,⟨v,hu.set v⟩,h.sep.other (by omega) _,h.T.other (by omega) _,h.below.setCell (by simp) _,by simpa using h.size⟩
theorem JJ.step (h:JJ w R k X) (hk:k<R.length) (ho:IV (pN R k)=true):JJ w R (k+1) (X.setCell ⟨w.heap.size+1,0,none⟩ (.int .i64 ((k+1:Nat):Int))):=by
 obtain ⟨u,hu⟩:=h.txt;refine ⟨hk,?_,h.res.other (by omega) _,h.dep.set _,⟨u,hu.other (by omega) _⟩,h.sep.other (by omega) _,h.T.other (by omega) _,h.below.setCell (by simp) _,by simpa using h.size⟩;rw [TL hk,List.all_append,h.ok];have e:pN R k=⟨R[k].toArray⟩:=by unfold pN;simp [List.getD,hk]
 rw [e] at ho
 simp [DG,ho]
theorem JJ.left (h:JJ w R k X) (hk:k<R.length) (ho:IV (pN R k)=false):lY w R (X.setCell ⟨w.heap.size,0,none⟩ (.bool false)) :=
 ⟨oS hk ho,h.res.set _,h.below.setCell (by simp) _,by simpa using h.size⟩
theorem Vd (h:ZX X Y):KeepsFrom B X Y:=⟨h.size,fun k _ _ hk _=>(h.block k (Yh.1 hk).1).trans hk⟩
def eu (w:World) (R:List (List UInt8)) (tm:Value→Array Value) (k:Nat) (a':Act) (W:World):Prop:=k<R.length∧JJ w R k W∧a'={ tmps:=tm (.string (pN R k)),defers:=[] }
theorem KZ (w:World) (s:ByteArray) (hnr:(s.toList == [47])=false) (hs1:1≤s.size) (hs2:s.size≤102) (hb0:bN s 0=47) :
    Calls Tryz.prog 159 #[.string s] w fun e w'=>e=.returned (.bool (decide ((nm s).length≤6) && (nm s).all DG))∧ZX w w':=by
 have h0:¬(102:Int)<(s.size:Int):=by omega
 have h1:(1:Int)≤(s.size:Int):=by omega
 have HB0:=Z3 hb0;clear hb0;refine (XM (n:=6)).1 ?_;refine callsIn_of_wp_marks Tryz.func159 rfl trivial ?_ rfl
 simp only [Tryz.ntmps159,Zm,Yr,Wo,Nat.reduceAdd,Nat.reduceSub,JO,JN,Wj,Ur,Yw,Vq]
 gi_wp2_with fail
 refine ⟨trivial,?_⟩;refine (XM.2 (DF _ s hs1)).mono ?_;rintro e w5 ⟨rfl,Rc⟩;rw [Y3 HB0.out];subst Rc
 gi_wp2_with fail
 refine ⟨trivial,?_⟩;refine (IL _ (by omega) (s.extract 1 s.size) _).mono ?_;rintro e w5 ⟨rfl,Rc⟩
 gi_wp2_with fail
 have s5:w5.heap.size=w.heap.size+5:=by rw [Rc];simp
 have HT0:Hid (Boxed w5 (w.heap.size+2) 9 (.string (s.extract 1 s.size))):=by
  rw [Rc];have:=(((Boxed.new ((w.alloc (.cells #[.bool false] 4)).alloc (.cells #[.int .i64 0] 3)) 9 (.string (s.extract 1 s.size))).alloc (.cells #[.string ⟨#[47]⟩] 9)).alloc (.cells #[.int .i64 0] 3));rw [Wg,Wg] at this;exact this
 have HR:Hid (nm s=WF [] (s.extract 1 s.size).data.toList):=by
  show _=_;rw [VS];unfold nm Ap
  congr 1
  rw [Wv (by rw [Zd];exact ZT)]
 have Fv:Hid (JJ w (nm s) 0 w5):=by
  have hsz:∀(X:World) (o:Obj),(X.alloc o).heap.size=X.heap.size+1:=fun X o=>Wg X o
  refine ⟨Zu _,by simp,?_,?_,⟨_,HT0.out⟩,?_,?_,?_,by omega⟩
  · rw [Rc];exact ((((Boxed.new w 4 (.bool false)).alloc _).alloc _).alloc _).alloc _
  · rw [Rc]
    have:=(((Boxed.new (w.alloc (.cells #[.bool false] 4)) 3 (.int .i64 0)).alloc (.cells #[.string (s.extract 1 s.size)] 9)).alloc (.cells #[.string ⟨#[47]⟩] 9)).alloc (.cells #[.int .i64 0] 3)
    simpa using this
  · rw [Rc]
    have:=(Boxed.new (((w.alloc (.cells #[.bool false] 4)).alloc (.cells #[.int .i64 0] 3)).alloc (.cells #[.string (s.extract 1 s.size)] 9)) 9 (.string ⟨#[47]⟩)).alloc (.cells #[.int .i64 0] 3)
    simpa using this
  · rw [Rc]
    have:=Boxed.new ((((w.alloc (.cells #[.bool false] 4)).alloc (.cells #[.int .i64 0] 3)).alloc (.cells #[.string (s.extract 1 s.size)] 9)).alloc (.cells #[.string ⟨#[47]⟩] 9)) 3 (.int .i64 0)
    simpa using this
  rw [Rc];exact ((((ZJ.alloc ZT _).alloc (by simp) _).alloc (by simp;omega) _).alloc (by simp;omega) _).alloc (by simp;omega) _
 rw [←Rc];clear Rc;have lX:Hid ((nm s).length≤103):=by have:=oT s;show _≤_;omega
 have lW:Hid ((s.extract 1 s.size).size≤1048576):=by show _≤_;simp;omega
 generalize s.extract 1 s.size=sx at *;generalize kW:nm s=R at HR Fv lX;have J:=Z3 kW;clear kW;refine K0 (F:=Fence.wide) (n:=6) rfl (by omega) (gf:=245) (lb:=#[.pointer (some ⟨w.heap.size+1+1+1,0,none⟩),.pointer (some ⟨w.heap.size+1+1,0,none⟩),.pointer (some ⟨w.heap.size+1+1+2,0,none⟩)]) rfl trivial (enters_of Tryz.func245 (by kernel_rfl) rfl)
  (fun k W=>JJ w R k W) (fun k vs W=>k<R.length∧vs=#[sV (R.getD k [])]) (fun k _=>k+1) (fun X Y=>∀v,Boxed X (w.heap.size+2) 9 v→Boxed Y (w.heap.size+2) 9 v) (fun k=>k=R.length) (lY w R)
  (fun _ X Y row hs hg hr=>hs.Yj hg (fun r e=>by have:=hr r e;rw [s5] at this;exact this)) 0
  (fun k X Y row hs hg hr=>hs.Yj hg (fun r e=>by have:=hr r e;rw [s5] at this;exact this)) (fun h1 h2 v hv=>h2 v (h1 v hv))
  (fun W l o o' hl ho _ _ v hv=>hv.kept (grownBy_putObj' W l o') (fun e=>by injection e with e;omega))
  (fun k vs W hp=>by rw [hp.2];rfl) Fv.out
  (fun k vs a' W=>eu w R (fun p=>#[.string s,undef,.pointer (some ⟨w.heap.size,0,none⟩),.pointer (some ⟨w.heap.size+1,0,none⟩),p,.string s,.bool false,.string s,.int .i64 s.size,.bool false,.bool false,.string s,.bool true,.bool false,.bool false,.string s,.string sx,.func (.func 245) #[] #[.pointer (some ⟨w.heap.size+1+1+1,0,none⟩),.pointer (some ⟨w.heap.size+1+1,0,none⟩),.pointer (some ⟨w.heap.size+1+1+2,0,none⟩)],p,undef,undef,undef,undef,undef,undef,undef]) k a' W)
  ?ax ?assign ?body ?call ?done ?stop
 case ax =>
  rintro k vs a' _ X Y row ⟨h1,h2,h3⟩ hg hr;exact ⟨h1,h2.Yj hg (fun r e=>by have:=hr r e;rw [s5] at this;exact this),h3⟩
 case assign =>
  rintro l k vs W K hs ⟨hlt,rfl⟩ hK;have HS:=Z3 hs;have HK:Hid (∀a' W',_→_→_→K a' W'):=hK;have Ra:=Z3 hlt;clear hs hK hlt;gi_wp2;refine HK.out _ _ (Vd ZJ) (fun v h=>h) ⟨Ra.out,HS.out,rfl⟩
 case body =>
  rintro l k vs a' W ⟨hlt,hS,rfl⟩;have HS:=Z3 hS;have Ra:=Z3 hlt;have hk:k≤103:=by have:=lX.out;omega
  clear hS hlt
  gi_wp2_with fail
  refine ⟨trivial,?_⟩;refine (XM.2 (MT _ (pN R k))).mono ?_;rintro e w6 ⟨rfl,q,rfl⟩;have HS2:=Z3 (HS.out.later (below_drewN' W q));have I:Hid (KeepsFrom (w.heap.size+5) W (W.drewN q)):=Vd (below_drewN' W q);have ir:Hid (∀v,Boxed W (w.heap.size+2) 9 v→Boxed (W.drewN q) (w.heap.size+2) 9 v):=fun v hv=>XL (below_drewN' W q) hv
  have cR:=HS.out.res.cell;have fR:=HS.out.res.frozen;have cD:=HS.out.dep.cell;have fD:=HS.out.dep.frozen
  by_cases hok:IV (pN R k)=true
  · have HST:Hid _:=HS2.out.step Ra.out hok
    rw [hok];clear hok;gi_wp2;refine ⟨I.out.trans ((KeepsOthers.setCell _ _ _).from _),fun v hv=>(ir.out v hv).other (by omega) _,HST.out⟩
  have hok':IV (pN R k)=false:=by simpa using hok
  have HST:Hid _:=HS2.out.left Ra.out hok';rw [hok'];clear hok hok';gi_wp2;refine ⟨I.out.trans ((KeepsOthers.setCell _ _ _).from _),HST.out⟩
 case call =>
  intro Bk yF W1 tG ZG hY hb5 hsz5 hs0 hb0;refine (Fw 5 (by omega) (w5.heap.size+1) (w.heap.size+2) (w.heap.size+3) (w.heap.size+4) R sx (fun k W=>JJ w R k W) (lY w R) Bk yF (fun k X Y hb h=>h.later hb) (fun X Y hb h=>tG X Y (Vd hb) h) (fun k X v h=>h.put v) (fun X v h=>tG _ _ ((KeepsOthers.setCell _ _ _).from _) h) (fun k W h=>⟨h.sep.cell,h.T.cell⟩) (fun k vs W hs hb hp=>?_) W1 hs0 hb0 ?_ lW.out HR.out)
  · obtain ⟨fn,tm,Z6,bd,hy,hR⟩:=hY k vs W hs hb hp
    exact ⟨fn,tm,Z6,bd,hy,hR⟩
  exact (hb5.block _ (by omega)).trans HT0.out
 case done =>
  rintro D k W hD hfin hS hK;have V:=hfin;have hk:k≤103:=by have:=lX.out;omega
  have iQ:Hid (R.all DG=true):=by have:=hS.ok;rw [V,Rw] at this;exact this
  have za:=Z3 V;have hB:=hS.below;have zW:=hS.size;have cR:=hS.res.cell;have fR:=hS.res.frozen;have cD:=hS.dep.cell;have JI:=Z3 hS.res;clear hS hfin V;gi_wp2;have BX:ZX w (W.setCell ⟨w.heap.size,0,none⟩ (.bool (decide ((k:Int)≤6)))):=hB.setCell (by simp) _;have hK2:(W.setCell ⟨w.heap.size,0,none⟩ (.bool (decide ((k:Int)≤6)))).heap[D]?=some (.deferred (some [])):=(KeepsOthers.setCell _ _ _).same D _ hK rfl;have RX:Boxed (W.setCell ⟨w.heap.size,0,none⟩ (.bool (decide ((k:Int)≤6)))) w.heap.size 4 (.bool (decide ((k:Int)≤6))):=JI.out.set _;have SX:(W.setCell ⟨w.heap.size,0,none⟩ (.bool (decide ((k:Int)≤6)))).heap.size=W.heap.size:=by simp
  refine ⟨by simp,.inl ⟨_,_,rfl,run_takeDeferred hK2,?_⟩⟩;generalize W.setCell _ _=X at *;have GX:=grownBy_putObj' X D (.deferred none);have y0:=(RX.kept GX (by simp;omega)).cell;have BF:=BX.grown GX (by omega) (fun q e=>by injection e with e;omega);generalize X.putObj D (.deferred none)=Z at *;refine ⟨.bool (decide ((k:Int)≤6)),?_,?_,BF⟩
  · simp [results,Tryz.results159,go_sem,y0]
  refine YR ?_;rw [J.out,iQ.out,←za.out,Bool.and_true];apply DU.2;omega
 case stop =>
  rintro D W hD hS hK;have zW:=hS.size;have HX:=Z3 hS;clear hS;gi_wp2;refine ⟨by simp,.inl ⟨_,_,rfl,run_takeDeferred hK,?_⟩⟩;have GX:=grownBy_putObj' W D (.deferred none);have y0:=(HX.out.res.kept GX (by simp;omega)).cell;have BF:=HX.out.below.grown GX (by omega) (fun q e=>by injection e with e;omega);have WG:=Z3 HX.out.no;generalize W.putObj D (.deferred none)=Z at *;refine ⟨.bool false,?_,?_,BF⟩
  · simp [results,Tryz.results159,go_sem,y0]
  refine YR ?_;rw [J.out,WG.out,CI]
theorem Up (w:World) (s:ByteArray) :
    Calls Tryz.prog 159 #[.string s] w (YI w (.bool (Zf s))):=by
 by_cases hr:s.data.toList=[47]
 · have hrt:(s.toList == [47])=true:=by rw [Sf,hr];rfl
   have HP:=Z3 (IT hr);clear hr
   go_enter Tryz.func159,Tryz.ntmps159
   go_wp2;refine ZS (v:=.bool true) ?_ rfl ?_
   · simp [results,Tryz.results159,go_sem]
   exact ⟨YR HP.out.symm,ZJ.alloc ZT _⟩
 have hrt:(s.toList == [47])=false:=by rw [Sf,Vy];exact hr
 have HP:=Z3 (Oo hr)
 by_cases hl:102<s.size
 · have eP:(102:Int)<(s.size:Int):=by omega
   have An:=Z3 (IK hl);clear hr HP
   go_enter Tryz.func159,Tryz.ntmps159
   go_wp2;refine ZS (v:=.bool false) ?_ rfl ?_
   · simp [results,Tryz.results159,go_sem]
   exact ⟨YR An.out.symm,ZJ.alloc ZT _⟩
 have eP:¬(102:Int)<(s.size:Int):=by omega
 by_cases h0:s.size=0
 · have An:Hid (Zf s=false):=by show _=_;rw [HP.out,YW (by omega)];rfl
   have HZ:=Z3 h0;clear hr HP h0
   go_enter Tryz.func159,Tryz.ntmps159
   go_wp2_with fail
   refine (pre_none _ s HZ.out).mono ?_;rintro e w5 ⟨rfl,rfl⟩;go_wp2;refine ZS (v:=.bool false) ?_ rfl ?_
   · simp [results,Tryz.results159,go_sem]
   exact ⟨YR An.out.symm,ZJ.alloc ZT _⟩
 by_cases hb:bN s 0=47
 · have h2:2≤s.size:=by
    by_cases h2:2≤s.size
    · exact h2
    exfalso
    apply hr;have h3:s.data.toList.length=1:=by show s.size=1;omega
    unfold bN at hb
    cases e:s.data.toList with
    | nil=>rw [e] at h3;cases h3
    | cons x l =>
     rw [e] at h3 hb
     cases l with
     | nil=>simp only [Ll] at hb;rw [show x=47 from UInt8.toNat_inj.1 hb]
     | cons y l=>simp at h3
   have:=KZ w s hrt (by omega) (by omega) hb;rw [HP.out,Y3 h2,Y3 hb];exact this
 have An:Hid (Zf s=false):=by show _=_;rw [HP.out,YW hb,CI];rfl
 have Z5:=Z3 (YW hb);clear hr HP hb
 go_enter Tryz.func159,Tryz.ntmps159
 go_wp2_with fail
 refine (DF _ s (by omega)).mono ?_;rintro e w5 ⟨rfl,rfl⟩;rw [Z5.out];go_wp2;refine ZS (v:=.bool false) ?_ rfl ?_
 · simp [results,Tryz.results159,go_sem]
 exact ⟨YR An.out.symm,ZJ.alloc ZT _⟩
structure Nd where
 path:ByteArray
 data:ByteArray
 Zy:Int
 Zw:Int
 cz:Int
 mz:Int
 pz:Int
def Xs (n:Nd):List Value:=[.string n.path,.string n.data,.int .i64 n.Zy,.int .i64 n.Zw,.int .i64 n.cz,.int .i64 n.mz,.int .i64 n.pz]
def nd0:Nd:=⟨ByteArray.empty,ByteArray.empty,0,0,0,0,0⟩
def ZC (ns:List Nd) (i:Nat):Nd:=ns.getD i nd0
theorem YZ {ns:List Nd} (h:i<ns.length):ZC ns i=ns[i]:=by unfold ZC;simp [List.getD,h]
structure Xq (w:World) (b p:Nat) (n:Nd):Prop where
 c0:w.cell? ⟨b,p,none⟩=some (.string n.path)
 c1:w.cell? ⟨b,p+1,none⟩=some (.string n.data)
 c2:w.cell? ⟨b,p+2,none⟩=some (.int .i64 n.Zy)
 c3:w.cell? ⟨b,p+3,none⟩=some (.int .i64 n.Zw)
 c4:w.cell? ⟨b,p+4,none⟩=some (.int .i64 n.cz)
 c5:w.cell? ⟨b,p+5,none⟩=some (.int .i64 n.mz)
 c6:w.cell? ⟨b,p+6,none⟩=some (.int .i64 n.pz)
theorem Xq.below {n:Nd} (h:Xq w b p n) (hb:Below m w w') (hl:b<m):Xq w' b p n :=
 ⟨(hb.cell (p:=⟨b,_,none⟩) hl).trans h.c0,(hb.cell (p:=⟨b,_,none⟩) hl).trans h.c1,(hb.cell (p:=⟨b,_,none⟩) hl).trans h.c2,(hb.cell (p:=⟨b,_,none⟩) hl).trans h.c3,
  (hb.cell (p:=⟨b,_,none⟩) hl).trans h.c4,(hb.cell (p:=⟨b,_,none⟩) hl).trans h.c5,(hb.cell (p:=⟨b,_,none⟩) hl).trans h.c6⟩
def Wx (w:World) (v:Value) (ns:List Nd):Prop :=
 ∃ao cap,v=.slice ao ns.length cap∧ns.length≤cap∧cap≤maxLen ∧
  (ns=[]∨∃b off,ao=some ⟨b,off,none⟩∧b<w.heap.size∧∀i,i<ns.length→Xq w b (off+i*7) (ZC ns i))
theorem Wx.len {ns:List Nd} (h:Wx w v ns):∃ao cap,v=.slice ao ns.length cap∧ns.length≤cap∧cap≤maxLen:=by
 obtain ⟨ao,cap,h0,h1,h2,_⟩:=h;exact ⟨ao,cap,h0,h1,h2⟩
theorem Wx.below {ns:List Nd} (h:Wx w v ns) (hb:ZX w w'):Wx w' v ns:=by
 obtain ⟨ao,cap,rfl,h1,h2,h3⟩:=h;refine ⟨ao,cap,rfl,h1,h2,?_⟩
 rcases h3 with h3 | ⟨b,off,rfl,hlt,hc⟩
 · exact .inl h3
 exact .inr ⟨b,off,rfl,ZL hlt hb.size,fun i hi=>(hc i hi).below hb hlt⟩
def ZO (ns:List Nd):List Value:=ns.flatMap Xs
theorem Xr (n:Nd) (ns:List Nd):ZO (n :: ns)=Xs n++ZO ns:=by simp [ZO]
theorem YE (ns ms:List Nd):ZO (ns++ms)=ZO ns++ZO ms:=by simp [ZO]
theorem Zq:∀ns:List Nd,(ZO ns).length=ns.length*7
 | []=>rfl
 | n :: ns=>by rw [Xr,ZA,Zq ns,Yr];show 7+_=_;omega
theorem Q8:∀(ns:List Nd) (i j:Nat),i<ns.length→j<7→(ZO ns)[i*7+j]?=(Xs (ZC ns i))[j]?
 | [],i,j,h,_=>by simp at h
 | n :: ns,0,j,_,hj=>by
  rw [Xr,TK,YK,Wd (by show j<7;exact hj)];rfl
 | n :: ns,i+1,j,h,hj=>by
  rw [Xr,VG (by show 7≤_;omega),show (i+1)*7+j - (Xs n).length=i*7+j by show (i+1)*7+j - 7=_;omega,Q8 ns i j (by simpa using h) hj]
  rfl
def Zz (e:TypeId) (w:World) (lo:Nat) (v:Value) (ns:List Nd):Prop:=w.ownsRow lo e 7 v ns.length (ZO ns)
theorem Zz.rd {ns:List Nd} (h:Zz e w lo v ns):Wx w v ns:=by
 rcases h.2 with ⟨rfl,h0⟩ | ⟨g,cap,cur,rfl,hb,hg,hn,hm,hs,ht⟩
 · have:ns=[]:=TN h0
   subst this;exact ⟨none,0,rfl,ZT,Zu _,.inl rfl⟩
 refine ⟨_,cap,rfl,hn,hm,.inr ⟨g,0,rfl,(Yh.1 hg).1,fun i hi=>?_⟩⟩;have c:∀j,j<7→w.cell? ⟨g,0+(i*7+j),none⟩=(Xs (ZC ns i))[j]?:=fun j hj=>by
  have hh:=Q8 ns i j hi hj;have h9:(Xs (ZC ns i))[j]?=some ((Xs (ZC ns i)).getD j undef):=by
   match j,hj with
   | 0,_=>rfl
   | 1,_=>rfl
   | 2,_=>rfl
   | 3,_=>rfl
   | 4,_=>rfl
   | 5,_=>rfl
   | 6,_=>rfl
  rw [h9] at hh;have:=Ud h (g:=g) rfl (i*7+j) _ hh;rw [Sg] at this;rw [this,h9]
 exact ⟨c 0 (by omega),c 1 (by omega),c 2 (by omega),c 3 (by omega),c 4 (by omega),c 5 (by omega),c 6 (by omega)⟩
theorem Zz.below {ns:List Nd} (h:Zz e w lo v ns) (hb:ZX w w'):Zz e w' lo v ns:=by
 refine ⟨h.1,?_⟩
 rcases h.2 with hn | ⟨g,cap,cur,rfl,hbg,hgg,rest⟩
 · exact .inl hn
 exact .inr ⟨g,cap,cur,rfl,hbg,by rw [hb.block g (Yh.1 hgg).1];exact hgg,rest⟩
theorem Zz.mono {lo':Nat} {ns:List Nd} (h:Zz e w lo v ns) (hl:lo'≤lo):Zz e w lo' v ns:=by
 refine ⟨h.1,?_⟩
 rcases h.2 with hn | ⟨g,cap,cur,rfl,hbg,rest⟩
 · exact .inl hn
 exact .inr ⟨g,cap,cur,rfl,ZF hl hbg,rest⟩
theorem Zz.slice {ns:List Nd} (h:Zz e w lo v ns):∃a c,v=.slice a ns.length c:=by
 obtain ⟨a,c,h0,_⟩:=h.rd.len;exact ⟨a,c,h0⟩
@[reducible] def iP (W:World) (b:Nat) (n:Nd):Prop:=W.cell? ⟨b,0,none⟩=some (.string n.path)∧W.cell? ⟨b,1,none⟩=some (.string n.data)∧W.cell? ⟨b,2,none⟩=some (.int .i64 n.Zy)∧W.cell? ⟨b,3,none⟩=some (.int .i64 n.Zw)∧W.cell? ⟨b,4,none⟩=some (.int .i64 n.cz)∧W.cell? ⟨b,5,none⟩=some (.int .i64 n.mz)∧W.cell? ⟨b,6,none⟩=some (.int .i64 n.pz)
theorem Tryz.PG:(Tryz.prog.info? 147).map (fun i=>(i.zero,i.size,i.bytes))=some (some (.agg #[.string ByteArray.empty,.string ByteArray.empty,.int .i64 0,.int .i64 0,.int .i64 0,.int .i64 0,.int .i64 0]),7,72):=by kernel_rfl
theorem Zz.Yk {ns:List Nd} (h:Zz e w lo v ns) {a:Addr} (ha:a.block<lo) (u:Value):Zz e (w.setCell a u) lo v ns:=ownsRow_setCell_below h ha u
structure Ef where
 del:Bool
 nd:Nd
def JH (e:Ef):List Value:=[.bool e.del,.string e.nd.path,.string e.nd.data,.int .i64 e.nd.Zy,.int .i64 e.nd.Zw,.int .i64 e.nd.cz,.int .i64 e.nd.mz,.int .i64 e.nd.pz]
def eN:Ef:=⟨false,nd0⟩
def Yf (ns:List Ef) (i:Nat):Ef:=ns.getD i eN
theorem Q3 {ns:List Ef} (h:i<ns.length):Yf ns i=ns[i]:=by unfold Yf;simp [List.getD,h]
structure Tx (w:World) (b p:Nat) (n:Ef):Prop where
 c0:w.cell? ⟨b,p,none⟩=some (.bool n.del)
 c1:w.cell? ⟨b,p+1,none⟩=some (.string n.nd.path)
 c2:w.cell? ⟨b,p+2,none⟩=some (.string n.nd.data)
 c3:w.cell? ⟨b,p+3,none⟩=some (.int .i64 n.nd.Zy)
 c4:w.cell? ⟨b,p+4,none⟩=some (.int .i64 n.nd.Zw)
 c5:w.cell? ⟨b,p+5,none⟩=some (.int .i64 n.nd.cz)
 c6:w.cell? ⟨b,p+6,none⟩=some (.int .i64 n.nd.mz)
 c7:w.cell? ⟨b,p+7,none⟩=some (.int .i64 n.nd.pz)
theorem Tx.below {n:Ef} (h:Tx w b p n) (hb:Below m w w') (hl:b<m):Tx w' b p n :=
 ⟨(hb.cell (p:=⟨b,_,none⟩) hl).trans h.c0,(hb.cell (p:=⟨b,_,none⟩) hl).trans h.c1,(hb.cell (p:=⟨b,_,none⟩) hl).trans h.c2,(hb.cell (p:=⟨b,_,none⟩) hl).trans h.c3,(hb.cell (p:=⟨b,_,none⟩) hl).trans h.c4,(hb.cell (p:=⟨b,_,none⟩) hl).trans h.c5,(hb.cell (p:=⟨b,_,none⟩) hl).trans h.c6,(hb.cell (p:=⟨b,_,none⟩) hl).trans h.c7⟩
def IJ (w:World) (v:Value) (ns:List Ef):Prop :=
 ∃ao cap,v=.slice ao ns.length cap∧ns.length≤cap∧cap≤maxLen ∧
  (ns=[]∨∃b off,ao=some ⟨b,off,none⟩∧b<w.heap.size∧∀i,i<ns.length→Tx w b (off+i*8) (Yf ns i))
theorem IJ.len {ns:List Ef} (h:IJ w v ns):∃ao cap,v=.slice ao ns.length cap∧ns.length≤cap∧cap≤maxLen:=by
 obtain ⟨ao,cap,h0,h1,h2,_⟩:=h;exact ⟨ao,cap,h0,h1,h2⟩
theorem IJ.below {ns:List Ef} (h:IJ w v ns) (hb:ZX w w'):IJ w' v ns:=by
 obtain ⟨ao,cap,rfl,h1,h2,h3⟩:=h;refine ⟨ao,cap,rfl,h1,h2,?_⟩
 rcases h3 with h3 | ⟨b,off,rfl,hlt,hc⟩
 · exact .inl h3
 exact .inr ⟨b,off,rfl,ZL hlt hb.size,fun i hi=>(hc i hi).below hb hlt⟩
def Qo (ns:List Ef):List Value:=ns.flatMap JH
theorem LZ (n:Ef) (ns:List Ef):Qo (n :: ns)=JH n++Qo ns:=by simp [Qo]
theorem II (ns ms:List Ef):Qo (ns++ms)=Qo ns++Qo ms:=by simp [Qo]
theorem IH:∀(ns:List Ef) (i j:Nat),i<ns.length→j<8→(Qo ns)[i*8+j]?=(JH (Yf ns i))[j]?
 | [],i,j,h,_=>by simp at h
 | n :: ns,0,j,_,hj=>by
  rw [LZ,TK,YK,Wd (by show j<8;exact hj)];rfl
 | n :: ns,i+1,j,h,hj=>by
  rw [LZ,VG (by show 8≤_;omega),show (i+1)*8+j - (JH n).length=i*8+j by show (i+1)*8+j - 8=_;omega,IH ns i j (by simpa using h) hj]
  rfl
def XH (e:TypeId) (w:World) (lo:Nat) (v:Value) (ns:List Ef):Prop:=w.ownsRow lo e 8 v ns.length (Qo ns)
theorem XH.rd {ns:List Ef} (h:XH e w lo v ns):IJ w v ns:=by
 rcases h.2 with ⟨rfl,h0⟩ | ⟨g,cap,cur,rfl,hb,hg,hn,hm,hs,ht⟩
 · have:ns=[]:=TN h0
   subst this;exact ⟨none,0,rfl,ZT,Zu _,.inl rfl⟩
 refine ⟨_,cap,rfl,hn,hm,.inr ⟨g,0,rfl,(Yh.1 hg).1,fun i hi=>?_⟩⟩;have c:∀j,j<8→w.cell? ⟨g,0+(i*8+j),none⟩=(JH (Yf ns i))[j]?:=fun j hj=>by
  have hh:=IH ns i j hi hj;have h9:(JH (Yf ns i))[j]?=some ((JH (Yf ns i)).getD j undef):=by
   match j,hj with
   | 0,_=>rfl
   | 1,_=>rfl
   | 2,_=>rfl
   | 3,_=>rfl
   | 4,_=>rfl
   | 5,_=>rfl
   | 6,_=>rfl
   | 7,_=>rfl
  rw [h9] at hh;have:=Ud h (g:=g) rfl (i*8+j) _ hh;rw [Sg] at this;rw [this,h9]
 exact ⟨c 0 (by omega),c 1 (by omega),c 2 (by omega),c 3 (by omega),c 4 (by omega),c 5 (by omega),c 6 (by omega),c 7 (by omega)⟩
theorem XH.below {ns:List Ef} (h:XH e w lo v ns) (hb:ZX w w'):XH e w' lo v ns:=by
 refine ⟨h.1,?_⟩
 rcases h.2 with hn | ⟨g,cap,cur,rfl,hbg,hgg,rest⟩
 · exact .inl hn
 exact .inr ⟨g,cap,cur,rfl,hbg,by rw [hb.block g (Yh.1 hgg).1];exact hgg,rest⟩
@[reducible] def iO (W:World) (b:Nat) (n:Ef):Prop:=W.cell? ⟨b,0,none⟩=some (.bool n.del)∧W.cell? ⟨b,1,none⟩=some (.string n.nd.path)∧W.cell? ⟨b,2,none⟩=some (.string n.nd.data)∧W.cell? ⟨b,3,none⟩=some (.int .i64 n.nd.Zy)∧W.cell? ⟨b,4,none⟩=some (.int .i64 n.nd.Zw)∧W.cell? ⟨b,5,none⟩=some (.int .i64 n.nd.cz)∧W.cell? ⟨b,6,none⟩=some (.int .i64 n.nd.mz)∧W.cell? ⟨b,7,none⟩=some (.int .i64 n.nd.pz)
theorem Zz.kV {j:Nat} {ns:List Nd} (h:Zz 147 w lo v ns) (hn:v.ownBlock≠some b) (u:Value):Zz 147 (w.setCell ⟨b,j,none⟩ u) lo v ns:=Yu h (grownBy_set _ _ _ _ _ (YT _ _)) (.inr hn)
theorem XH.Vc {es:List Ef} (h:XH e w lo v es):∃a c,v=.slice a es.length c:=by
 obtain ⟨a,c,h0,_⟩:=(XH.rd h).len;exact ⟨a,c,h0⟩
theorem Zz.Vc {ns:List Nd} (h:Zz e w lo v ns):∃a c,v=.slice a ns.length c:=by
 obtain ⟨a,c,h0,_⟩:=h.rd.len;exact ⟨a,c,h0⟩
def TU (v:Int):Bool:=decide (0≤v) && decide (v≤2147483647)
def YL (n:Nd):Bool:=Zf n.path && decide (n.data.size≤64) && TU n.Zy && TU n.Zw && TU n.cz && TU n.mz && TU n.pz
theorem Vk (w:World) (v:Int):Calls Tryz.prog 143 #[.int .i64 v] w fun e w'=>e=.returned (.bool (TU v))∧w'=w:=by
 by_cases h1:0≤v
 · by_cases h2:v≤2147483647
   · have HO:Hid (TU v=true):=by show _=_;unfold TU;rw [Y3 h1,Y3 h2];rfl
     go_enter Tryz.func143,Tryz.ntmps143
     go_wp2;go_ret;exact ⟨YR HO.out.symm,rfl⟩
   have HO:Hid (TU v=false):=by show _=_;unfold TU;rw [YW h2];simp
   go_enter Tryz.func143,Tryz.ntmps143
   go_wp2;go_ret;exact ⟨YR HO.out.symm,rfl⟩
 have HO:Hid (TU v=false):=by show _=_;unfold TU;rw [YW h1];rfl
 go_enter Tryz.func143,Tryz.ntmps143
 go_wp2;go_ret;exact ⟨YR HO.out.symm,rfl⟩
structure Qn (w:World) (B:Nat) (n:Nd):Prop where
 lt:B<w.heap.size
 c0:w.cell? ⟨B,0,none⟩=some (.string n.path)
 c1:w.cell? ⟨B,1,none⟩=some (.string n.data)
 c2:w.cell? ⟨B,2,none⟩=some (.int .i64 n.Zy)
 c3:w.cell? ⟨B,3,none⟩=some (.int .i64 n.Zw)
 c4:w.cell? ⟨B,4,none⟩=some (.int .i64 n.cz)
 c5:w.cell? ⟨B,5,none⟩=some (.int .i64 n.mz)
 c6:w.cell? ⟨B,6,none⟩=some (.int .i64 n.pz)
theorem Qn.new (w:World) (n:Nd) (t:TypeId):Qn (w.alloc (.cells #[.string n.path,.string n.data,.int .i64 n.Zy,.int .i64 n.Zw,.int .i64 n.cz,.int .i64 n.mz,.int .i64 n.pz] t)) w.heap.size n :=
 ⟨by simp,by simp,by simp,by simp,by simp,by simp,by simp,by simp⟩
theorem Qn.below {n:Nd} (h:Qn w B n) (hb:ZX w w'):Qn w' B n :=
 ⟨ZL h.lt hb.size,(hb.cell (p:=⟨B,_,none⟩) h.lt).trans h.c0,(hb.cell (p:=⟨B,_,none⟩) h.lt).trans h.c1,(hb.cell (p:=⟨B,_,none⟩) h.lt).trans h.c2,(hb.cell (p:=⟨B,_,none⟩) h.lt).trans h.c3,
  (hb.cell (p:=⟨B,_,none⟩) h.lt).trans h.c4,(hb.cell (p:=⟨B,_,none⟩) h.lt).trans h.c5,(hb.cell (p:=⟨B,_,none⟩) h.lt).trans h.c6⟩
theorem Uo (w:World) (n:Nd) (hd:n.data.size≤1048576) :
    Calls Tryz.prog 140 #[.agg #[.string n.path,.string n.data,.int .i64 n.Zy,.int .i64 n.Zw,.int .i64 n.cz,.int .i64 n.mz,.int .i64 n.pz]] w (YI w (.bool (YL n))):=by
 have X0:Hid (Qn (w.alloc (.cells #[.string n.path,.string n.data,.int .i64 n.Zy,.int .i64 n.Zw,.int .i64 n.cz,.int .i64 n.mz,.int .i64 n.pz] 147)) w.heap.size n):=Qn.new _ _ _;have B0:Hid (ZX w (w.alloc (.cells #[.string n.path,.string n.data,.int .i64 n.Zy,.int .i64 n.Zw,.int .i64 n.cz,.int .i64 n.mz,.int .i64 n.pz] 147))):=ZJ.alloc ZT _
 go_enter Tryz.func140,Tryz.ntmps140
 go_wp2_with fail
 generalize w.alloc _=w0 at *;refine (Up _ n.path).mono ?_;rintro e w1 ⟨rfl,b1⟩;have B1:=Z3 (YV B0.out b1);obtain ⟨-,c0,c1,c2,c3,c4,c5,c6⟩:=X0.out.below b1
 cases hP:Zf n.path with
 | false =>
  have HO:Hid (YL n=false):=by show _=_;unfold YL;rw [hP];simp
  go_wp2;go_ret;exact ⟨YR HO.out.symm,B1.out⟩
 | true =>
  have HP:=Z3 hP
  by_cases hD:64<n.data.size
  · have Z4:(64:Int)<(n.data.size:Int):=by omega
    have HO:Hid (YL n=false):=by show _=_;unfold YL;rw [YW (show ¬n.data.size≤64 by omega)];simp
    go_wp2;go_ret;exact ⟨YR HO.out.symm,B1.out⟩
  have Z4:¬(64:Int)<(n.data.size:Int):=by omega
  have oQ:=Z3 (Y3 (show n.data.size≤64 by omega))
  go_wp2_with fail
  refine (Vk _ n.Zy).mono ?_;rintro e w2 ⟨rfl,rfl⟩
  cases IG:TU n.Zy with
  | false =>
   have HO:Hid (YL n=false):=by show _=_;unfold YL;rw [IG];simp
   go_wp2;go_ret;exact ⟨YR HO.out.symm,B1.out⟩
  | true =>
   have M:=Z3 IG
   go_wp2_with fail
   refine (Vk _ n.Zw).mono ?_;rintro e w2 ⟨rfl,rfl⟩
   cases Om:TU n.Zw with
   | false =>
    have HO:Hid (YL n=false):=by show _=_;unfold YL;rw [Om];simp
    go_wp2;go_ret;exact ⟨YR HO.out.symm,B1.out⟩
   | true =>
    have O:=Z3 Om
    go_wp2_with fail
    refine (Vk _ n.cz).mono ?_;rintro e w2 ⟨rfl,rfl⟩
    cases yD:TU n.cz with
    | false =>
     have HO:Hid (YL n=false):=by show _=_;unfold YL;rw [yD];simp
     go_wp2;go_ret;exact ⟨YR HO.out.symm,B1.out⟩
    | true =>
     have G:=Z3 yD
     go_wp2_with fail
     refine (Vk _ n.mz).mono ?_;rintro e w2 ⟨rfl,rfl⟩
     cases yC:TU n.mz with
     | false =>
      have HO:Hid (YL n=false):=by show _=_;unfold YL;rw [yC];simp
      go_wp2;go_ret;exact ⟨YR HO.out.symm,B1.out⟩
     | true =>
      have C:=Z3 yC
      go_wp2_with fail
      refine (Vk _ n.pz).mono ?_;rintro e w2 ⟨rfl,rfl⟩
      cases yB:TU n.pz with
      | false =>
       have HO:Hid (YL n=false):=by show _=_;unfold YL;rw [yB];simp
       go_wp2;go_ret;exact ⟨YR HO.out.symm,B1.out⟩
      | true =>
       have Z':=Z3 yB;have HO:Hid (YL n=true):=by show _=_;unfold YL;rw [HP.out,oQ.out,M.out,O.out,G.out,C.out,Z'.out];rfl
       go_wp2;go_ret;exact ⟨YR HO.out.symm,B1.out⟩
theorem Xq.all {n:Nd} (h:Xq w b p n):w.cell? ⟨b,p,none⟩=some (.string n.path)∧w.cell? ⟨b,p+1,none⟩=some (.string n.data)∧w.cell? ⟨b,p+2,none⟩=some (.int .i64 n.Zy)∧w.cell? ⟨b,p+3,none⟩=some (.int .i64 n.Zw)∧w.cell? ⟨b,p+4,none⟩=some (.int .i64 n.cz)∧w.cell? ⟨b,p+5,none⟩=some (.int .i64 n.mz)∧w.cell? ⟨b,p+6,none⟩=some (.int .i64 n.pz):=⟨h.c0,h.c1,h.c2,h.c3,h.c4,h.c5,h.c6⟩
theorem RY:∀x y:List UInt8,(!(Op.bytesLess x y))=(Op.bytesLess y x || y == x)
 | [],[]=>by simp [Op.bytesLess]
 | [],b :: y=>by simp [Op.bytesLess]
 | a :: x,[]=>by simp [Op.bytesLess]
 | a :: x,b :: y=>by
  have ih:=RY x y;unfold Op.bytesLess
  by_cases h1:a<b
  · have h2:¬b<a:=fun h=>absurd (UInt8.lt_trans h1 h) (Jo a)
    have h3:¬b=a:=fun h=>by subst h;exact Jo _ h1
    simp [h1,h2,h3]
  by_cases h2:b<a
  · have h3:¬b=a:=fun h=>by subst h;exact Jo _ h2
    have h4:¬a=b:=fun h=>h3 h.symm
    simp [h1,h2,h4]
  have h3:=zy (UInt8.not_lt.1 h2) (UInt8.not_lt.1 h1);subst h3
  simp only [Jo,decide_false,beq_self_eq_true,Bool.false_or,Qv,List.cons_beq_cons]
  exact ih
def W8 (a b:ByteArray):Bool:=Op.bytesLess a.toList b.toList
theorem KY {b:ByteArray} (h:W8 a b=true):Op.bytesLess b.toList a.toList=false∧(b.toList == a.toList)=false:=by
 have:=RY a.toList b.toList;unfold W8 at h;rw [h] at this
 simpa using this
theorem oP {b:ByteArray} (h:W8 a b=false):Op.bytesLess b.toList a.toList=true∨(Op.bytesLess b.toList a.toList=false∧(b.toList == a.toList)=true):=by
 have:=RY a.toList b.toList;unfold W8 at h;rw [h] at this
 cases h1:Op.bytesLess b.toList a.toList with
 | true=>exact .inl rfl
 | false=>rw [h1] at this;exact .inr ⟨rfl,by simpa using this⟩
def Qm (ns:List Nd) (k:Nat):Bool:=YL (ZC ns k) && (decide (k=0) || W8 (ZC ns (k - 1)).path (ZC ns k).path)
def Xk (ns:List Nd):Bool:=(List.range ns.length).all (Qm ns)
def YY (ns:List Nd):Bool:=decide (ns.length≤1000) && Xk ns
theorem LY {ns:List Nd} (h:k<ns.length) (hn:Qm ns k=false):Xk ns=false:=by
 unfold Xk;rw [Aa];exact ⟨k,UT.2 h,by rw [hn];simp⟩
theorem Ol {ns:List Nd} (h:∀k,k<ns.length→Qm ns k=true):Xk ns=true:=by
 unfold Xk;rw [Se];exact fun k hk=>h k (UT.1 hk)
theorem LX (ns:List Nd):Qm ns 0=YL (ZC ns 0):=by unfold Qm;simp
theorem SW (ns:List Nd) (j:Nat):Qm ns (j+1)=(YL (ZC ns (j+1)) && W8 (ZC ns j).path (ZC ns (j+1)).path):=by unfold Qm;simp
theorem Qn.all {n:Nd} (h:Qn w B n):w.cell? ⟨B,0,none⟩=some (.string n.path)∧w.cell? ⟨B,1,none⟩=some (.string n.data)∧w.cell? ⟨B,2,none⟩=some (.int .i64 n.Zy)∧w.cell? ⟨B,3,none⟩=some (.int .i64 n.Zw)∧w.cell? ⟨B,4,none⟩=some (.int .i64 n.cz)∧w.cell? ⟨B,5,none⟩=some (.int .i64 n.mz)∧w.cell? ⟨B,6,none⟩=some (.int .i64 n.pz):=⟨h.c0,h.c1,h.c2,h.c3,h.c4,h.c5,h.c6⟩
theorem KX (w:World) (b o n cap:Nat) (ns:List Nd) (hp:ns.length=n) (hn:n≤1000) (hb:b<w.heap.size) (hsz:∀i,(ZC ns i).path.size≤1048576∧(ZC ns i).data.size≤1048576)
    (hc:∀i,i<n→Xq w b (o+i*7) (ZC ns i)) :
    Calls Tryz.prog 93 #[.agg #[.slice (some ⟨b,o,none⟩) n cap]] w (YI w (.bool (Xk ns))):=by
 have HC:=Z3 hc;have HP:=Z3 hp;have HZ:=Z3 hsz;have yA:¬(1000:Int)<(n:Int):=by omega
 clear hc hp hsz;have B0:Hid (ZX w (w.alloc (.cells #[.slice (some ⟨b,o,none⟩) n cap] 63))):=ZJ.alloc ZT _;have c00:Hid ((w.alloc (.cells #[.slice (some ⟨b,o,none⟩) n cap] 63)).cell? ⟨w.heap.size,0,none⟩=some (.slice (some ⟨b,o,none⟩) n cap)):=by show _=_;simp
 have z0:w.heap.size<(w.alloc (.cells #[.slice (some ⟨b,o,none⟩) n cap] 63)).heap.size:=by simp
 go_enter Tryz.func93,Tryz.ntmps93
 go_wp2;generalize w.alloc _=w0 at *
 go_loopw [12] (fun i wr=>∃k:Nat,k≤n∧i=.int .i64 k∧Hid (∀t,t<k→Qm ns t=true)∧Hid (ZX w0 wr)) (fun i _=>n - (intOf i).toNat)
 case atStart=>exact ⟨0,Zu _,rfl,(fun t ht=>by omega),ZJ⟩
 case round =>
  obtain ⟨k,hk,rfl,HA,HG⟩:=hrel;have yz:=Z3 (B0.out.trans (HG.out.mono (by omega)))
  by_cases hlt:k<n
  · have Vp:(k:Int)<(n:Int):=by omega
    have g0:(0:Int)≤(k:Int):=by omega
    have Ra:Hid (k<ns.length):=by rw [HP.out];exact hlt
    obtain ⟨c0,c1,c2,c3,c4,c5,c6⟩:=(HC.out k hlt).below yz.out hb;have XN:Hid (Qn (wr.alloc (.cells #[.string (ZC ns k).path,.string (ZC ns k).data,.int .i64 (ZC ns k).Zy,.int .i64 (ZC ns k).Zw,.int .i64 (ZC ns k).cz,.int .i64 (ZC ns k).mz,.int .i64 (ZC ns k).pz] 147)) wr.heap.size (ZC ns k)):=Qn.new _ _ _;have BN:Hid (ZX wr (wr.alloc (.cells #[.string (ZC ns k).path,.string (ZC ns k).data,.int .i64 (ZC ns k).Zy,.int .i64 (ZC ns k).Zw,.int .i64 (ZC ns k).cz,.int .i64 (ZC ns k).mz,.int .i64 (ZC ns k).pz] 147))):=ZJ.alloc ZT _;go_wp2;clear c0 c1 c2 c3 c4 c5 c6;generalize wr.alloc _=wn at *;have zr:=HG.out.size;obtain ⟨B,hB⟩:∃B,B=wr.heap.size:=⟨_,rfl⟩;rw [←hB] at XN;rw [←hB];have Cl:Hid (∀W,ZX wn W→ZX w W):=fun W hW=>(YV yz.out BN.out).trans (hW.mono (ZF yz.out.size BN.out.size))
    have oO:Hid (∀W,ZX wn W→Hid (ZX w0 W)):=fun W hW=>(YV HG.out BN.out).trans (hW.mono (ZF HG.out.size BN.out.size))
    have CT:Hid (∀W,ZX wn W→W.cell? ⟨w.heap.size,0,none⟩=some (.slice (some ⟨b,o,none⟩) n cap)):=fun W hW=>((oO.out W hW).out.cell (p:=⟨w.heap.size,0,none⟩) z0).trans c00.out
    have HE:Hid (∀q,Calls Tryz.prog 140 #[.agg #[.string (ZC ns k).path,.string (ZC ns k).data,.int .i64 (ZC ns k).Zy,.int .i64 (ZC ns k).Zw,.int .i64 (ZC ns k).cz,.int .i64 (ZC ns k).mz,.int .i64 (ZC ns k).pz]] (wn.drewN q) fun e w'=>e=.returned (.bool (YL (ZC ns k)))∧Hid (ZX wn w')):=by
     intro q;refine (Uo _ (ZC ns k) (HZ.out k).2).mono ?_;rintro e w' ⟨rfl,b'⟩;exact ⟨rfl,(below_drewN' wn q).trans b'⟩
    have HD:Hid (ZX wn wn.drew):=below_drewN' wn 1;have ep:=Z3 hB;clear hB BN
    cases hok:YL (ZC ns k) with
    | false =>
     have Ub:=Z3 hok;have HN:=Z3 (LY Ra.out (by unfold Qm;rw [hok];rfl));clear hok;refine ZH (S:=fun W=>Hid (ZX wn W)∧iP W B (ZC ns k)) (by kernel_rfl) (⟨HD,(XN.out.below HD.out).all⟩) (fun Z9=>?_);refine ZW ?_ (by kernel_rfl) (fun _=>id) Z9 ?_ ?_
     rotate_left
     · intro w9 Z0;obtain ⟨-,Z0⟩:=Z0;go_simp;try with_reducible rfl
     refine ZU 1 rfl (by kernel_rfl) (fun K hK=>?_);go_simp;refine (HE.out 1).mono ?_;rintro e w' ⟨rfl,HB⟩;rw [Ub.out];clear Z9;refine hK.out _ _ (⟨HB,(XN.out.below HB.out).all⟩) (fun Z9=>?_);clear hK K
     iterate 2 (refine ZW ?_ (by kernel_rfl) (fun _=>id) Z9 ?_ ?_;rotate_left;· intro w9 Z0;obtain ⟨-,Z0⟩:=Z0;go_simp;try with_reducible rfl)
     iterate 14 (refine MU (by kernel_rfl) (fun _=>id) Z9 ?_)
     refine ZW ?_ (by kernel_rfl) (fun _=>id) Z9 ?_ ?_
     rotate_left
     · intro w9 Z0;obtain ⟨-,Z0⟩:=Z0;go_simp;try with_reducible rfl
     refine ZP (by kernel_rfl) ?_ _
     try simp only [Act.put,Y8,Y7,Y6]
     clear Z9;go_wp2;go_ret;exact ⟨YR HN.out.symm,Cl.out _ HB.out⟩
    | true =>
     have Ub:=Z3 hok;clear hok
     cases k with
     | zero =>
      have HT:Hid (Qm ns 0=true):=by show _=_;rw [LX];exact Ub.out
      have g2:(0:Int)<(n:Int):=by omega
      refine ZH (S:=fun W=>Hid (ZX wn W)∧iP W B (ZC ns 0)) (by kernel_rfl) (⟨HD,(XN.out.below HD.out).all⟩) (fun Z9=>?_);refine ZW ?_ (by kernel_rfl) (fun _=>id) Z9 ?_ ?_
      rotate_left
      · intro w9 Z0;obtain ⟨-,Z0⟩:=Z0;go_simp;try with_reducible rfl
      refine ZU 1 rfl (by kernel_rfl) (fun K hK=>?_);go_simp;refine (HE.out 1).mono ?_;rintro e w' ⟨rfl,HB⟩;rw [Ub.out];clear Z9;refine hK.out _ _ (⟨HB,(XN.out.below HB.out).all⟩) (fun Z9=>?_);clear hK K
      iterate 5 (refine ZW ?_ (by kernel_rfl) (fun _=>id) Z9 ?_ ?_;rotate_left;· intro w9 Z0;obtain ⟨-,Z0⟩:=Z0;go_simp;try with_reducible rfl)
      iterate 10 (refine MU (by kernel_rfl) (fun _=>id) Z9 ?_)
      iterate 2 (refine ZW ?_ (by kernel_rfl) (fun _=>id) Z9 ?_ ?_;rotate_left;· intro w9 Z0;obtain ⟨-,Z0⟩:=Z0;go_simp;try with_reducible rfl)
      refine ZP (by kernel_rfl) ?_ _
      try simp only [Act.put,Y8,Y7,Y6]
      clear Z9;go_wp2
      go_roundw
      case rel=>exact ⟨0+1,by omega,by go_num,(fun t ht=>by by_cases e:t=0;(subst e;exact HT.out);exact HA.out t (by omega)),oO.out _ HB.out⟩
      case measure=>simp [intOf];omega
     | succ j =>
      have g1:(0:Int)≤(j:Int)+1:=by omega
      have g2:(j:Int)+1<(n:Int):=by omega
      have g3:(0:Int)≤(j:Int):=by omega
      have g4:(j:Int)<(n:Int):=by omega
      have g5:(0:Int)<(j:Int)+1:=by omega
      have g6:IntKind.i64.wrap (j:Int)=(j:Int):=by rw [XK];omega
      cases hcmp:W8 (ZC ns j).path (ZC ns (j+1)).path with
      | true =>
       have HT:Hid (Qm ns (j+1)=true):=by show _=_;rw [SW,Ub.out,hcmp];rfl
       have l1:Op.bytesLess (ZC ns j).path.toList (ZC ns (j+1)).path.toList=true:=hcmp;clear hcmp;refine ZH (S:=fun W=>Hid (ZX wn W)∧iP W B (ZC ns (j+1))∧W.cell? ⟨w.heap.size,0,none⟩=some (.slice (some ⟨b,o,none⟩) n cap)∧W.cell? ⟨b,o+j*7,none⟩=some (.string (ZC ns j).path)) (by kernel_rfl) (⟨HD,(XN.out.below HD.out).all,(CT.out _ HD.out),((HC.out j (by omega)).below (Cl.out _ HD.out) hb).c0⟩) (fun Z9=>?_);refine ZW ?_ (by kernel_rfl) (fun _=>id) Z9 ?_ ?_
       rotate_left
       · intro w9 Z0;obtain ⟨-,Z0⟩:=Z0;go_simp;try with_reducible rfl
       refine ZU 1 rfl (by kernel_rfl) (fun K hK=>?_);go_simp;refine (HE.out 1).mono ?_;rintro e w' ⟨rfl,HB⟩;rw [Ub.out];clear Z9;refine hK.out _ _ (⟨HB,(XN.out.below HB.out).all,(CT.out _ HB.out),((HC.out j (by omega)).below (Cl.out _ HB.out) hb).c0⟩) (fun Z9=>?_);clear hK K
       iterate 17 (refine ZW ?_ (by kernel_rfl) (fun _=>id) Z9 ?_ ?_;rotate_left;· intro w9 Z0;obtain ⟨-,Z0⟩:=Z0;go_simp;try with_reducible rfl)
       refine ZP (by kernel_rfl) ?_ _
       try simp only [Act.put,Y8,Y7,Y6]
       clear Z9;go_wp2
       go_roundw
       case rel=>exact ⟨(j+1)+1,by omega,by go_num,(fun t ht=>by by_cases e:t=(j+1);(subst e;exact HT.out);exact HA.out t (by omega)),oO.out _ HB.out⟩
       case measure=>simp [intOf];omega
      | false =>
       have HN:=Z3 (LY Ra.out (by rw [SW,hcmp,CI]));have l1:Op.bytesLess (ZC ns j).path.toList (ZC ns (j+1)).path.toList=false:=hcmp;clear hcmp;refine ZH (S:=fun W=>Hid (ZX wn W)∧iP W B (ZC ns (j+1))∧W.cell? ⟨w.heap.size,0,none⟩=some (.slice (some ⟨b,o,none⟩) n cap)∧W.cell? ⟨b,o+j*7,none⟩=some (.string (ZC ns j).path)) (by kernel_rfl) (⟨HD,(XN.out.below HD.out).all,(CT.out _ HD.out),((HC.out j (by omega)).below (Cl.out _ HD.out) hb).c0⟩) (fun Z9=>?_);refine ZW ?_ (by kernel_rfl) (fun _=>id) Z9 ?_ ?_
       rotate_left
       · intro w9 Z0;obtain ⟨-,Z0⟩:=Z0;go_simp;try with_reducible rfl
       refine ZU 1 rfl (by kernel_rfl) (fun K hK=>?_);go_simp;refine (HE.out 1).mono ?_;rintro e w' ⟨rfl,HB⟩;rw [Ub.out];clear Z9;refine hK.out _ _ (⟨HB,(XN.out.below HB.out).all,(CT.out _ HB.out),((HC.out j (by omega)).below (Cl.out _ HB.out) hb).c0⟩) (fun Z9=>?_);clear hK K
       iterate 17 (refine ZW ?_ (by kernel_rfl) (fun _=>id) Z9 ?_ ?_;rotate_left;· intro w9 Z0;obtain ⟨-,Z0⟩:=Z0;go_simp;try with_reducible rfl)
       refine ZP (by kernel_rfl) ?_ _
       try simp only [Act.put,Y8,Y7,Y6]
       clear Z9;go_wp2;go_ret;exact ⟨YR HN.out.symm,Cl.out _ HB.out⟩
  have HY:Hid (Xk ns=true):=Ol (fun t ht=>HA.out t (by rw [HP.out] at ht;omega));go_wp2;go_ret;exact ⟨YR HY.out.symm,yz.out⟩
theorem KV (w:World) (ao:Option Addr) (cap:Nat) :
    Calls Tryz.prog 93 #[.agg #[.slice ao 0 cap]] w (YI w (.bool true)):=by
 go_enter Tryz.func93,Tryz.ntmps93
 go_wp2
 go_rounds 1
 go_ret;exact ⟨rfl,ZJ.alloc ZT _⟩
theorem MS (w:World) (ao:Option Addr) (n cap:Nat) (h:1000<n) :
    Calls Tryz.prog 93 #[.agg #[.slice ao n cap]] w (YI w (.bool false)):=by
 have yA:(1000:Int)<(n:Int):=by omega
 go_enter Tryz.func93,Tryz.ntmps93
 go_wp2;go_ret;exact ⟨rfl,ZJ.alloc ZT _⟩
theorem XE (w:World) (v:Value) (ns:List Nd) (h:Wx w v ns) (hsz:∀i,(ZC ns i).path.size≤1048576∧(ZC ns i).data.size≤1048576) :
    Calls Tryz.prog 93 #[.agg #[v]] w (YI w (.bool (YY ns))):=by
 obtain ⟨ao,cap,rfl,k1,k2,k3⟩:=h
 by_cases hl:1000<ns.length
 · have:YY ns=false:=by unfold YY;rw [YW (by omega)];rfl
   rw [this];exact MS w ao ns.length cap hl
 have:YY ns=Xk ns:=by unfold YY;rw [Y3 (by omega)];rfl
 rw [this]
 rcases k3 with rfl | ⟨b,o,rfl,hb,hc⟩
 · exact KV w ao cap
 exact KX w b o ns.length cap ns rfl (by omega) hb hsz hc
end
section
variable {A:Array Value} {a s:ByteArray} {R:List (List UInt8)} {r ys:List Int} {B b i k lo m n p:Nat} {f:Nat × Nat} {row:Option Nat} {e t:TypeId} {v:Value} {X Y w w' w0 w1 w2:World}
def Zk:Nat→Nat→List Int
 | _,0=>[]
 | N,n+1=>Zk (N / 256) n++[((N % 256:Nat):Int)]
theorem Zb:∀(n N:Nat),(Zk N n).length=n
 | 0,_=>rfl
 | n+1,N=>by unfold Zk;rw [ZA,Zb n];rfl
theorem WQ:∀(n N:Nat),∀x ∈ Zk N n,0≤x∧x<256
 | 0,_,x,h=>by cases h
 | n+1,N,x,h=>by
  unfold Zk at h
  rcases XP.1 h with h | h
  · exact WQ n _ x h
  simp only [Yz,zQ,Me] at h
  omega
theorem LW (N m k:Nat):Zk (N / 2 ^ (8*(m+1))) k++[((N / 2 ^ (8*m) % 256:Nat):Int)]=Zk (N / 2 ^ (8*m)) (k+1):=by
 conv=>rhs;unfold Zk
 rw [zK,show 8*(m+1)=8*m+8 by omega,Mn]
def Xl (xs:List Int):Nat:=xs.foldl (fun a x=>a*256+x.toNat) 0
theorem LU (xs:List Int) (x:Int):Xl (xs++[x])=Xl xs*256+x.toNat:=by unfold Xl;rw [zY];rfl
theorem yy:Xl []=0:=rfl
theorem Ql:∀(n:Nat) (xs:List Int),xs.length=n→(∀x ∈ xs,0≤x∧x<256)→Zk (Xl xs) n=xs∧Xl xs<256 ^ n
 | 0,xs,hn,h=>by
  have:=TN hn;subst this;exact ⟨rfl,by decide⟩
 | n+1,xs,hn,h=>by
  rcases List.eq_nil_or_concat xs with rfl | ⟨ys,y,hc⟩
  · simp at hn
  rw [List.concat_eq_append] at hc;subst hc;have hl:ys.length=n:=by simpa using hn
  have hy:=h y (by simp);obtain ⟨i1,i2⟩:=Ql n ys hl (fun x hx=>h x (List.mem_append_left _ hx));rw [LU];refine ⟨?_,by rw [Jq];omega⟩;unfold Zk;have e1:(Xl ys*256+y.toNat) / 256=Xl ys:=by omega
  have e2:(Xl ys*256+y.toNat) % 256=y.toNat:=by omega
  rw [e1,e2,i1,Int.toNat_of_nonneg hy.1]
def Tv (g b s l c:Int):Bool:=decide (1≤g) && (decide (b=0) || decide (b=1)) && decide (0≤s∧s≤2147483647) && decide (0≤l∧l≤4096) && decide (0≤c∧c≤4294967295)
def Ck (g b s l c:Nat):List Int:=Zk g 8++Zk b 1++Zk s 4++Zk l 4++Zk c 4++List.replicate 35 0++Zk g 8
def sup (g b s l c:Int):List Int:=if Tv g b s l c then Ck g.toNat b.toNat s.toNat l.toNat c.toNat else []
theorem Ok (g b s l c:Nat):(Ck g b s l c).length=64:=by unfold Ck;simp [Zb]
end
section
open Go.RowKit Go.Shelf
variable {A:Array Value} {a s:ByteArray} {R:List (List UInt8)} {r ys:List Int} {B b i k lo m n p:Nat} {f:Nat × Nat} {row:Option Nat} {e t:TypeId} {v:Value} {X Y w w' w0 w1 w2:World}
def KT (e:TypeId) (w w':World):Prop:=w.heap.size≤w'.heap.size∧∀b,b<w.heap.size→(¬∃cur,w.heap[b]?=some (.cells cur e (0,0)))→w'.heap[b]?=w.heap[b]?
theorem KT.refl (e:TypeId) (w:World):KT e w w:=⟨ZT,fun _ _ _=>rfl⟩
theorem KT.trans (h:KT e w w1) (h2:KT e w1 w2):KT e w w2 :=
 ⟨ZF h.1 h2.1,fun b hb hn=>by
  have h3:=h.2 b hb hn;rw [h2.2 b (ZL hb h.1) (by rw [h3];exact hn),h3]⟩
theorem KT.below (h:KT e w w1) (hb:ZX w1 w2):KT e w w2 :=
 h.trans ⟨hb.size,fun b hb' _=>hb.block b hb'⟩
theorem KT.alloc (h:KT e w w1) (o:Obj):KT e w (w1.alloc o):=h.below (ZJ.alloc ZT o)
theorem KT.grown {base size:Nat} {xs:List Value} (h:KT e w w1) (ho:w1.ownsRow base e size v n xs) (hg:w1.grownBy w2 v.ownBlock):KT e w w2:=by
 refine h.trans ⟨hg.size,fun b hb hn=>hg.block b hb fun he=>hn ?_⟩
 rcases ho.2 with ⟨rfl,-⟩ | ⟨g,cap,cur,rfl,-,hgg,-⟩
 · simp [Value.ownBlock] at he
 simp only [Value.ownBlock,Zo] at he
 subst he;exact ⟨cur,hgg⟩
theorem YQ (w:World) (base:Nat) (v:Value) (xs:List Int) (N n:Nat) (h:Own .u8 5 w base v xs) (hb:base≤w.heap.size) (hl:xs.length≤1048576) (hn:n≤8) :
    Calls Tryz.prog 96 #[v,.int .i64 N,.int .i64 n] w fun e w'=>∃v',e=.returned v'∧Own .u8 5 w' base v' (xs++Zk N n)∧Below base w w'∧KT 5 w w':=by
 obtain ⟨i0,hi,hz0,hz1,hz2⟩:=Yq Tryz.Vh;have HO:=Z3 h;clear h
 go_enter Tryz.func96,Tryz.ntmps96
 go_wp2
 go_loopw [0,7] (fun vi vl wr=>∃(k:Nat) (z:Int),k≤n∧vl=.int .i64 z∧z+1+(k:Int)=(n:Int)∧Hid (Own .u8 5 wr base vi (xs++Zk (N / 2 ^ (8*(n - k))) k))∧Hid (Below base w wr)∧Hid (KT 5 w wr)) (fun _ i _=>((intOf i)+1).toNat)
 case atStart=>exact ⟨0,(n:Int) - 1,Zu _,rfl,by omega,by show Own _ _ _ _ _ _;unfold Zk;rw [TX];exact HO.out,ZJ,KT.refl _ _⟩
 case round =>
  obtain ⟨k,z,hk,rfl,hz,HW,HB,HK⟩:=hrel;have sB:=HB.out.size
  by_cases hz0':0≤z
  · obtain ⟨l,rfl⟩:∃l:Nat,z=(l:Int):=⟨z.toNat,by omega⟩
    have ek:l≤7:=by omega
    have HST:Hid (Zk (N / 2 ^ (8*(n - k))) k++[((N / 2 ^ (8*l) % 256:Nat):Int)]=Zk (N / 2 ^ (8*(n - (k+1)))) (k+1)):=by
     show _=_;rw [show n - k=l+1 by omega,show n - (k+1)=l by omega];exact LW N l k
    obtain ⟨ys,hys⟩:∃ys,ys=xs++Zk (N / 2 ^ (8*(n - k))) k:=⟨_,rfl⟩;have tE:=Z3 hys;have HW1:Hid (wr.ownsRow base 5 1 u0 ys.length (ys.map (Value.int .u8))):=by rw [hys];exact HW.out
    have hyl:ys.length≤1048600:=by rw [hys,ZA,Zb];omega
    clear hys HW;have HV:Hid ((N:Int) / 2 ^ (8*l) % 256=((N / 2 ^ (8*l) % 256:Nat):Int)):=by show _=_;rw [Rr];rfl
    go_wp2_with (at_builtin;go_must (refine UF _ rfl _ _ 22 rfl base 5 i0 (.int .u8 0) 1 1 Tryz.underlying22 hi hz0 hz1 hz2 rfl (by decide) _ _ _ rfl (Mk HW1.out _) ⟨wr.heap.size,0,none⟩ 1 1 [.int .u8 ((N:Int) / 2 ^ (8*l) % 256)] rfl rfl (Vx _ _ _) (by intro u hu;simp at hu;subst hu;rfl) ?c3 ?c4 ?c5 ?_))
    case c3=>unfold maxLen;omega
    case c4=>omega
    case c5=>simp;omega
    intro v2 w2 ho2 hg2 _;have FJ:Hid (Own .u8 5 w2 base v2 (xs++Zk (N / 2 ^ (8*(n - (k+1)))) (k+1))):=by
     rw [HV.out] at ho2;refine Vg (q:=ys.length+1) (ys:=ys++[((N / 2 ^ (8*l) % 256:Nat):Int)]) (by simp) ?_ (by rw [Wn];exact ho2);rw [←HST.out,←YM,←tE.out]
    have HB2:=Z3 ((HB.out.alloc (by omega) _).grown hg2 (by simp;omega) (fun q hq=>(ZD HW1.out q hq).1));have lh:=Z3 ((HK.out.alloc _).grown (HW1.out.alloc _) hg2);clear ho2 hg2 HW1 HB HK;go_wp2;exact ⟨⟨k+1,(l:Int) - 1,by omega,by go_num,by omega,FJ,HB2,lh⟩,by simp [intOf]⟩
  have hkn:k=n:=by omega
  subst hkn;have eh:=hz0';go_wp2;go_ret;refine ⟨_,rfl,?_,HB.out,HK.out⟩;have:=HW.out;rw [PN,zF,Nat.pow_zero,Nat.div_one] at this;exact this
theorem step_append {P:Program} {ops:Array Oper} {o:Oper} {a:Act} {K:Act→World→Prop} {Q:Exit→Act→World→Prop} {E:Prop}
    (hg:o.guard=none) (s x:Operand) (t:TypeId) (hop:o.op=Op.call { callee:=Callee.builtin Builtin.append,args:=#[s,x],argTypes:=#[t,t] })
    (base:Nat) (e:TypeId) (i:TypeInfo) (z:Value) (size bytes:Nat) (h1:P.underlying t=some (.slice e)) (h2:P.info? e=some i) (h3:i.zero=some z) (h4:i.size=size) (h5:i.bytes=bytes) (h6:z.cells.size=size) (h7:0<size)
    (v:Value) (n:Nat) (xs:List Value) (hs:a.eval s=v) (hown:w.ownsRow base e size v n xs) (ad:Addr) (m c:Nat) (news:List Value) (hx:a.eval x=.slice (some ad) m c) (hn:news.length=m*size)
    (hc:∀j u,news[j]?=some u→w.cell? (ad.add j)=some u) (h1c:∀u ∈ news,u.oneCell'=true) (b1:n+m≤maxLen) (b2:(n+m)*bytes≤140737488355328) (hb:base≤w.heap.size)
    (hK:∀v' w',w'.ownsRow base e size v' (n+m) (xs++news)→w.grownBy w' v.ownBlock→K (a.put o.dst v') w') :
    if Region.wanted o (yielded ops a.tmps)=true then Oper.wp P o a w K Q else E:=by
 have hw:Region.wanted o (yielded ops a.tmps)=true:=by simp [Region.wanted,hg]
 rw [ZZ hw];obtain ⟨v',w',hrun,r1,r2,_⟩:=run_append_own (P:=P) w base t o.type e i z size bytes h1 h2 h3 h4 h5 h6 h7 v n xs hown ad m c news hn hc h1c b1 b2 hb;unfold Oper.wp
 simp [execOp,hop,resolve,invoke,builtin,hs,hx,hrun,Result.andThen]
 exact hK v' w' r1 r2
def XS (s:ByteArray):List Int:=s.data.toList.map fun b=>(b.toNat:Int)
theorem YP (s:ByteArray):(XS s).length=s.size:=by unfold XS;rw [XJ,Gc];rfl
theorem Un (s:ByteArray):Lib.strCells s=(XS s).map (Value.int .u8):=by unfold Lib.strCells XS;rw [uh];rfl
def MR (s:ByteArray):List Int:=[(s.size:Int)]++XS s
theorem Q2 (s:ByteArray):(MR s).length=1+s.size:=by unfold MR;rw [ZA,YP];rfl
theorem Um (w:World) (base:Nat) (v:Value) (xs:List Int) (s:ByteArray) (h:Own .u8 5 w base v xs) (hb:base≤w.heap.size) (hl:xs.length≤1048576) (hs:s.size<256) :
    Calls Tryz.prog 141 #[v,.string s] w fun e w'=>∃v',e=.returned v'∧Own .u8 5 w' base v' (xs++MR s)∧Below base w w'∧KT 5 w w':=by
 obtain ⟨i0,hi,hz0,hz1,hz2⟩:=Yq Tryz.Vh;have HO:Hid (w.ownsRow base 5 1 v xs.length (xs.map (Value.int .u8))):=h;clear h
 go_enter Tryz.func141,Tryz.ntmps141
 go_wp2_with (at_builtin;go_must (refine UF _ rfl _ _ 22 rfl base 5 i0 (.int .u8 0) 1 1 Tryz.underlying22 hi hz0 hz1 hz2 rfl (by decide) _ _ _ rfl (Mk HO.out _) ⟨w.heap.size,0,none⟩ 1 1 [.int .u8 (s.size:Int)] rfl rfl (Vx _ _ _) (by intro u hu;simp at hu;subst hu;rfl) ?c3 ?c4 ?c5 ?_))
 case c3=>unfold maxLen;omega
 case c4=>omega
 case c5=>simp;omega
 intro v2 w2 ho2 hg2 _;have O2:Hid (w2.ownsRow base 5 1 v2 (xs.length+1) ((xs++[(s.size:Int)]).map (Value.int .u8))):=by
  rw [Wn];exact ho2
 have B2:Hid (Below base w w2):=(ZJ.alloc hb _).grown hg2 (by simp;omega) (fun q hq=>(ZD HO.out q hq).1);have K2:Hid (KT 5 w w2):=((KT.refl _ _).alloc _).grown (HO.out.alloc _) hg2;have s2:=B2.out.size;clear ho2 hg2
 go_wp2_with (at_builtin;go_must (refine Lib.wpList_append_own_string _ rfl _ _ 22 9 rfl base 5 i0 Tryz.underlying22 Tryz.underlying9 hi hz0 hz1 hz2 _ _ _ rfl O2.out s rfl ?d3 ?d4 ?d5 ?_))
 case d3=>unfold maxLen;omega
 case d4=>omega
 case d5=>omega
 intro v3 w3 ho3 hg3 _;have O3:Hid (Own .u8 5 w3 base v3 (xs++MR s)):=by
  refine Vg (q:=xs.length+1+s.size) (ys:=xs++MR s) (by rw [ZA,Q2];omega) rfl ?_;rw [Un] at ho3;rw [Wn];exact ho3
 have B3:Hid (Below base w w3):=B2.out.grown hg3 (by omega) (fun q hq=>(ZD O2.out q hq).1);have K3:Hid (KT 5 w w3):=K2.out.grown O2.out hg3;clear ho3 hg3;go_wp2;go_ret;exact ⟨_,rfl,O3.out,B3.out,K3.out⟩
theorem Oj:∀l cur:List UInt8,((WF cur l).map List.length).sum+(WF cur l).length=cur.length+l.length+1
 | [],cur=>by simp [WF]
 | x :: l,cur=>by
  by_cases h:x=47
  · subst h
    have:=Oj l [];rw [Uq]
    simp only [TM,Ec,Yr,Wo] at this ⊢
    omega
  have:=Oj l (cur++[x]);rw [UQ h]
  simp only [ZA,Yr,Wo] at this ⊢
  omega
theorem yx (m:Nat):∀L:List (List UInt8),(∀x ∈ L,x.length≤m)→(L.map List.length).sum≤L.length*m
 | [],_=>by simp
 | x :: L,h=>by
  have h1:=h x (by simp);have h2:=yx m L (fun y hy=>h y (by simp [hy]));rw [TM,Ec,Yr,Js];omega
theorem tD {l:List UInt8} (h:DG l=true):l.length≤16:=by
 unfold DG IV at h
 simp only [Yg,Yt] at h
 have h2:(ByteArray.mk l.toArray).size=l.length:=rfl;omega
theorem Tu (h:Zf s=true):s.size≤102:=by
 have hs:s.data.toList.length=s.size:=by rw [Gc];rfl
 unfold Zf at h
 simp only [Ab,Yg,Yt] at h
 rcases h with h | ⟨⟨⟨h1,h2⟩,h3⟩,h4⟩
 · rw [h] at hs;simp at hs;omega
 have h5:=Oj (s.data.toList.drop 1) [];have h6:=yx 16 (nm s) (fun x hx=>tD (Se.1 h4 x hx));unfold nm at h3 h6;rw [Zd,hs] at h5
 simp only [Wo] at h5
 omega
theorem Xj {n:Nd} (h:YL n=true):n.path.size≤102∧n.data.size≤64∧(0≤n.Zy∧n.Zy≤2147483647)∧(0≤n.Zw∧n.Zw≤2147483647)∧(0≤n.cz∧n.cz≤2147483647)∧(0≤n.mz∧n.mz≤2147483647)∧(0≤n.pz∧n.pz≤2147483647):=by
 unfold YL TU at h
 simp only [Yg,Yt] at h
 obtain ⟨⟨⟨⟨⟨⟨h1,h2⟩,h3⟩,h4⟩,h5⟩,h6⟩,h7⟩:=h;exact ⟨Tu h1,h2,h3,h4,h5,h6,h7⟩
def iN (n:Nd):List Int:=Zk n.Zy.toNat 4++Zk n.Zw.toNat 4++Zk n.cz.toNat 4++Zk n.mz.toNat 4++Zk n.pz.toNat 4
def Yi (n:Nd):List Int:=MR n.path++MR n.data++iN n
theorem Wb (n:Nd):(Yi n).length=22+n.path.size+n.data.size:=by
 unfold Yi iN
 simp only [ZA,Q2,Zb]
 omega
def Zi (ns:List Nd):List Int:=ns.flatMap Yi
theorem PF (ns:List Nd) (k:Nat) (h:k<ns.length):Zi (ns.take k)++Yi (ZC ns k)=Zi (ns.take (k+1)):=by
 unfold Zi;rw [TL h,MY,YZ h]
 simp
theorem Fu (ns:List Nd) (k:Nat) (h:ns.length≤k):Zi (ns.take k)=Zi ns:=by rw [Wv h]
theorem Qk {ns:List Nd} (h:YY ns=true) (k:Nat) (hk:k<ns.length):YL (ZC ns k)=true:=by
 unfold YY Xk at h
 simp only [Yg] at h
 have:=Se.1 h.2 k (by simpa using hk);unfold Qm at this
 simp only [Yg] at this
 exact this.1
theorem RQ {ns:List Nd} (h:YY ns=true):ns.length≤1000:=by
 unfold YY at h
 simp only [Yg,Yt] at h
 exact h.1
theorem Oi {ns:List Nd} (h:∀k,k<ns.length→YL (ZC ns k)=true):∀k,k≤ns.length→(Zi (ns.take k)).length≤k*188
 | 0,_=>by simp [Zi]
 | k+1,hk=>by
  have h1:=Oi h k (by omega);have h2:=Xj (h k (by omega));rw [←PF ns k (by omega),ZA,Wb];omega
def PE (ns:List Nd):List Int:=if YY ns then Zi ns else []
theorem Qj:∀(l cur:List UInt8),47 :: (cur++l)=(WF cur l).flatMap (fun a=>47 :: a)
 | [],cur=>by simp [WF]
 | x :: l,cur=>by
  by_cases h:x=47
  · subst h
    rw [Uq,FQ,←Qj l []]
    simp
  rw [UQ h,←Qj l (cur++[x])]
  simp
theorem KU:∀(l cur:List UInt8),(47:UInt8) ∉ cur→∀a ∈ WF cur l,(47:UInt8) ∉ a
 | [],cur,h,a,ha=>by simp [WF] at ha;subst ha;exact h
 | x :: l,cur,h,a,ha=>by
  by_cases hx:x=47
  · subst hx
    rw [Uq] at ha
    rcases Yz.1 ha with rfl | ha
    · exact h
    exact KU l [] (by simp) a ha
  rw [UQ hx] at ha;refine KU l (cur++[x]) ?_ a ha;intro hm
  rcases XP.1 hm with hm | hm
  · exact h hm
  simp at hm;exact hx hm.symm
def UB (s:ByteArray):List UInt8:=(nm s).dropLast.flatMap (fun a=>47 :: a)
def Oh (s:ByteArray):List UInt8:=(nm s).getLastD []
theorem kU (s:ByteArray):nm s≠[]:=fun h=>by have:=IU (s.data.toList.drop 1) [];unfold nm at h;rw [h] at this;simp at this
theorem IE (s:ByteArray):nm s=(nm s).dropLast++[Oh s]:=by
 unfold Oh;have h:=kU s;rw [List.getLastD_eq_getLast?,List.getLast?_eq_some_getLast h,PM];exact (List.dropLast_concat_getLast h).symm
theorem RP (h1:1≤s.size) (h0:bN s 0=47):s.data.toList=UB s++47 :: Oh s:=by
 have hl:0<s.data.toList.length:=by rw [Gc];exact h1
 have hc:s.data.toList=47 :: s.data.toList.drop 1:=by
  conv=>lhs;rw [←Qu (l:=s.data.toList),Jz hl]
  congr 1
  unfold bN at h0
  simp only [List.getD,Xc hl,PM] at h0
  exact DX (by simpa using h0)
 have hj:=Qj (s.data.toList.drop 1) [];rw [Yw,←hc] at hj;have hj2:s.data.toList=(nm s).flatMap (fun a=>47 :: a):=hj;rw [hj2]
 conv=>lhs;rw [IE s]
 rw [MY]
 simp [UB]
theorem KS (s:ByteArray):(47:UInt8) ∉ Oh s:=by
 refine KU (s.data.toList.drop 1) [] (by simp) _ ?_;show Oh s ∈ nm s;rw [IE s]
 simp
def KQ (s:ByteArray):List UInt8:=if UB s=[] then [47] else UB s
theorem Tt (h:Zf s=true):1≤s.size∧bN s 0=47:=by
 unfold Zf at h
 simp only [Ab,Yg,Yt] at h
 rcases h with h | ⟨⟨⟨h1,h2⟩,-⟩,-⟩
 · have hs:s.data.toList.length=s.size:=by rw [Gc];rfl
   rw [h] at hs;refine ⟨by simp at hs;omega,?_⟩;unfold bN;rw [h];rfl
 exact ⟨by omega,h2⟩
theorem yw:∀a b:List UInt8,(Lib.compareBytes a b<0)↔Op.bytesLess a b=true
 | [],[]=>by simp [Lib.compareBytes,Op.bytesLess]
 | [],_ :: _=>by simp [Lib.compareBytes,Op.bytesLess]
 | _ :: _,[]=>by simp [Lib.compareBytes,Op.bytesLess]
 | a :: l,b :: m=>by
  unfold Lib.compareBytes Op.bytesLess
  by_cases h1:a<b
  · simp [h1]
  by_cases h2:b<a
  · have h3:¬a=b:=fun e=>by subst e;exact absurd h2 h1
    simp [h1,h2,h3]
  have h3:=zy (UInt8.not_lt.1 h2) (UInt8.not_lt.1 h1);subst h3
  simp [h1,yw l m]
theorem DC:∀a b:List UInt8,(Lib.compareBytes a b=0)↔a=b
 | [],[]=>by simp [Lib.compareBytes]
 | [],_ :: _=>by simp [Lib.compareBytes]
 | _ :: _,[]=>by simp [Lib.compareBytes]
 | a :: l,b :: m=>by
  unfold Lib.compareBytes
  by_cases h1:a<b
  · have h3:¬a=b:=fun e=>by subst e;exact absurd h1 (Jo _)
    simp [h1,h3]
  by_cases h2:b<a
  · have h3:¬a=b:=fun e=>by subst e;exact absurd h2 h1
    simp [h1,h2,h3]
  have h3:=zy (UInt8.not_lt.1 h2) (UInt8.not_lt.1 h1);subst h3
  simp [h1,DC l m]
def Ts (a b:ByteArray):Int:=Lib.compareBytes a.data.toList b.data.toList
theorem Ft (w:World) (a b:ByteArray) :
    Calls Tryz.prog 191 #[.string a,.string b] w fun e w'=>e=.returned (.int .i64 (Ts a b))∧w'=w:=by
 go_enter Tryz.func191,Tryz.ntmps191
 go_wp2;rw [zu Tryz.func220 (by kernel_rfl) (by kernel_rfl) (by kernel_rfl) (e:=Extern.BytealgCompare.compare) (by kernel_rfl),Lib.run_compareString]
 simp only [Result.andThen]
 rw [Oper.upon_value];go_wp2;go_ret;exact ⟨rfl,rfl⟩
theorem ID (w:World) (a b:ByteArray) :
    Calls Tryz.prog 158 #[.string a,.string b] w fun e w'=>e=.returned (.int .i64 (Ts a b))∧w'=w:=by
 go_enter Tryz.func158,Tryz.ntmps158
 go_wp2_with fail
 refine (Ft w a b).mono ?_;rintro e w1 ⟨rfl,rfl⟩;go_wp2;go_ret;exact ⟨rfl,rfl⟩
theorem LT (w:World) (n:Nd) (p:ByteArray) :
    Calls Tryz.prog 157 #[.agg #[.string n.path,.string n.data,.int .i64 n.Zy,.int .i64 n.Zw,.int .i64 n.cz,.int .i64 n.mz,.int .i64 n.pz],.string p] w (YI w (.int .i64 (Ts n.path p))):=by
 have B0:Hid (ZX w (w.alloc (.cells #[.string n.path,.string n.data,.int .i64 n.Zy,.int .i64 n.Zw,.int .i64 n.cz,.int .i64 n.mz,.int .i64 n.pz] 147))):=ZJ.alloc ZT _
 go_enter Tryz.func157,Tryz.ntmps157
 go_wp2_with fail
 generalize w.alloc _=w0 at *;refine (ID w0 n.path p).mono ?_;rintro e w1 ⟨rfl,hw⟩;obtain rfl:w0=w1:=hw.symm;go_wp2;go_ret;exact ⟨rfl,B0.out⟩
def Low (ns:List Nd) (p:ByteArray) (L:Nat):Prop:=L≤ns.length∧(∀i,i<L→Ts (ZC ns i).path p<0)∧∀i,L≤i→i<ns.length→¬Ts (ZC ns i).path p<0
def Q1 (ns:List Nd) (p:ByteArray) (L:Nat):Bool:=decide (L<ns.length) && (Ts (ZC ns L).path p == 0)
theorem oN (w:World) (b o n cap L:Nat) (ns:List Nd) (p:ByteArray) (hp:ns.length=n) (hn:n≤1000) (hb:b<w.heap.size) (hc:∀i,i<n→Xq w b (o+i*7) (ZC ns i)) (hL:Low ns p L) :
    Calls Tryz.prog 156 #[.slice (some ⟨b,o,none⟩) n cap,.string p,.func (.func 157) #[] #[]] w (YI w (.tuple #[.int .i64 (L:Int),.bool (Q1 ns p L)])):=by
 obtain ⟨l1,l2,l3⟩:=hL;have HC:=Z3 hc;have HP:=Z3 hp;have H2:=Z3 l2;have H3:=Z3 l3;rw [hp] at l1;clear hc hp l2 l3
 go_enter Tryz.func156,Tryz.ntmps156
 go_wp2
 go_loopw [9,10] (fun vi vj wr=>∃i j:Nat,i≤L∧L≤j∧j≤n∧vi=.int .i64 i∧vj=.int .i64 j∧Hid (ZX w wr)) (fun i j _=>(intOf j - intOf i).toNat)
 case atStart=>exact ⟨0,n,Zu _,l1,ZT,rfl,rfl,ZJ⟩
 case round =>
  obtain ⟨i,j,hi,hj,hjn,rfl,rfl,HB⟩:=hrel
  by_cases hlt:i<j
  · have Vp:(i:Int)<(j:Int):=by omega
    obtain ⟨h,hh⟩:∃h:Nat,h=(i+j) / 2:=⟨_,rfl⟩;have hI:((i:Int)+(j:Int)) / 2=(h:Int):=by omega
    have h1:i≤h:=by omega
    have h2:h<j:=by omega
    have h3:h<n:=by omega
    clear hh;obtain ⟨c0,c1,c2,c3,c4,c5,c6⟩:=(HC.out h h3).below HB.out hb
    go_wp2_with fail
    refine (LT wr (ZC ns h) p).mono ?_;rintro e w1 ⟨rfl,b1⟩;have B1:=Z3 (YV HB.out b1);clear b1 c0 c1 c2 c3 c4 c5 c6 HB
    by_cases hc:Ts (ZC ns h).path p<0
    · have Z8:h<L:=by
       by_cases hh:h<L
       · exact hh
       exact absurd hc (by have:=H3.out h (by omega) (by rw [HP.out];exact h3);omega)
      go_wp2;exact ⟨⟨h+1,j,by omega,hj,hjn,by go_num,rfl,B1⟩,by simp [intOf];omega⟩
    have Z8:L≤h:=by
     by_cases hh:h<L
     · exact absurd (H2.out h hh) hc
     omega
    go_wp2;exact ⟨⟨i,h,hi,Z8,by omega,rfl,by go_num,B1⟩,by simp [intOf];omega⟩
  have Z2:i=L:=by omega
  subst Z2;have ZE:¬(i:Int)<(j:Int):=by omega
  by_cases hLn:i<n
  · have ZY:(i:Int)<(n:Int):=by omega
    have HF:Hid (Q1 ns p i=(Ts (ZC ns i).path p == 0)):=by show _=_;unfold Q1;rw [HP.out,Y3 hLn];rfl
    obtain ⟨c0,c1,c2,c3,c4,c5,c6⟩:=(HC.out i hLn).below HB.out hb
    go_wp2_with fail
    refine (LT wr (ZC ns i) p).mono ?_;rintro e w1 ⟨rfl,b1⟩;have B1:=Z3 (YV HB.out b1);clear b1 c0 c1 c2 c3 c4 c5 c6 HB;go_wp2;refine ZS (v:=.tuple #[.int .i64 (i:Int),.bool (Ts (ZC ns i).path p == 0)]) (by simp [results,Tryz.results156,go_sem]) rfl ⟨by rw [HF.out],B1.out⟩
  have ZY:¬(i:Int)<(n:Int):=by omega
  have HF:Hid (Q1 ns p i=false):=by show _=_;unfold Q1;rw [HP.out,YW hLn];rfl
  go_wp2;refine ZS (v:=.tuple #[.int .i64 (i:Int),.bool false]) (by simp [results,Tryz.results156,go_sem]) rfl ⟨by rw [HF.out],HB.out⟩
theorem oM (w:World) (ao:Option Addr) (cap:Nat) (p:ByteArray) :
    Calls Tryz.prog 156 #[.slice ao 0 cap,.string p,.func (.func 157) #[] #[]] w fun e w'=>e=.returned (.tuple #[.int .i64 0,.bool false])∧w'=w:=by
 go_enter Tryz.func156,Tryz.ntmps156
 go_wp2
 go_rounds 1
 refine ZS (v:=.tuple #[.int .i64 0,.bool false]) (by simp [results,Tryz.results156,go_sem]) rfl ⟨rfl,rfl⟩
theorem Ul (w:World) (v:Value) (ns:List Nd) (p:ByteArray) (L:Nat) (h:Wx w v ns) (hn:ns.length≤1000) (hL:Low ns p L) :
    Calls Tryz.prog 115 #[v,.string p] w (YI w (.tuple #[.int .i64 (L:Int),.bool (Q1 ns p L)])):=by
 have H:Hid (Calls Tryz.prog 156 #[v,.string p,.func (.func 157) #[] #[]] w (YI w (.tuple #[.int .i64 (L:Int),.bool (Q1 ns p L)]))):=by
  obtain ⟨ao,cap,rfl,h1,h2,h3⟩:=h
  rcases h3 with rfl | ⟨b,o,rfl,hb,hc⟩
  · have hL0:L=0:=by have:=hL.1;simpa using this
    subst hL0;refine (oM w ao cap p).mono ?_;rintro e w' ⟨rfl,rfl⟩;exact ⟨rfl,ZJ⟩
  exact oN w b o ns.length cap L ns p rfl hn hb hc hL
 clear h hL
 go_enter Tryz.func115,Tryz.ntmps115
 go_wp2_with fail
 refine H.out.mono ?_;rintro e w1 ⟨rfl,b1⟩;have B1:=Z3 b1;clear b1 H;go_wp2;refine ZS (v:=.tuple #[.int .i64 (L:Int),.bool (Q1 ns p L)]) (by simp [results,Tryz.results115,go_sem]) rfl ⟨rfl,B1.out⟩
theorem KP (x:Nat):(BitVec.ofInt 64 (wrap64 (x:Int))).toNat=x % 18446744073709551616:=by
 rw [BitVec.toNat_ofInt];unfold wrap64;omega
theorem yv (x b:Nat) (hb:b<256):bits .or .i64 (wrap64 ((x:Int)*256)) (b:Int)=wrap64 (((x*256+b:Nat):Int)):=by
 show IntKind.i64.wrap ((BitVec.ofInt 64 (wrap64 ((x:Int)*256)) ||| BitVec.ofInt 64 (b:Int)).toNat:Int)=_;have e1:(BitVec.ofInt 64 (wrap64 ((x:Int)*256))).toNat=x*256 % 18446744073709551616:=by
  have:=KP (x*256);rw [Int.natCast_mul] at this;exact this
 have e2:(BitVec.ofInt 64 (b:Int)).toNat=b:=by
  rw [BitVec.ofInt_natCast,BitVec.toNat_ofNat];exact zI (by omega)
 rw [BitVec.toNat_or,e1,e2,nat_join 8 (x*256 % 18446744073709551616) b (by simp only [Nat.reducePow];omega) (by simpa using hb),XK];unfold wrap64;omega
theorem Fs (x:Nat):wrap64 (wrap64 (x:Int)*256)=wrap64 ((x:Int)*256):=by unfold wrap64;omega
def nG (ys:List Int):Int:=wrap64 ((Xl (ys.take 8):Nat):Int)
def nB (ys:List Int):Int:=((Xl ((ys.drop 8).take 1):Nat):Int)
def nS (ys:List Int):Int:=((Xl ((ys.drop 9).take 4):Nat):Int)
def nL (ys:List Int):Int:=((Xl ((ys.drop 13).take 4):Nat):Int)
def nC (ys:List Int):Int:=((Xl ((ys.drop 17).take 4):Nat):Int)
abbrev Ss (ys:List Int):Prop:=ys.length=64∧sup (nG ys) (nB ys) (nS ys) (nL ys) (nC ys)=ys
def KO (ys:List Int):Value:=if Ss ys then .agg #[.bool true,.int .i64 (nG ys),.int .i64 (nB ys),.int .i64 (nS ys),.int .i64 (nL ys),.int .i64 (nC ys)] else .agg #[.bool false,.int .i64 0,.int .i64 0,.int .i64 0,.int .i64 0,.int .i64 0]
theorem Cj {g b s l c:Int} (h:sup g b s l c=ys) (h0:ys≠[]):ys.length=64:=by
 subst h;unfold sup at h0 ⊢
 split
 · exact Ok _ _ _ _ _
 rename_i hn;rw [Z1 hn] at h0;exact absurd rfl h0
def Va:List PanicEntry:=[{ v:=.iface 296 (.agg #[]),recovered:=false }]
theorem yu (w:World) (k n c m:Nat) (ao:Option Addr) (h0:w.cell? ⟨k,0,none⟩=some (.slice ao n c)) (hm:n<m) :
    Calls Tryz.prog 204 #[.pointer (some ⟨k,0,none⟩),.int .i64 m] w fun e w'=>e=.panicked Va∧w'=w:=by
 have hI:(n:Int)<(m:Int):=by omega
 go_enter Tryz.func204,Tryz.ntmps204
 go_wp2;exact ⟨rfl,rfl,rfl⟩
def yt (w:World) (k b o n c m:Nat) (e:Ending) (w':World):Prop:=e=.returned (.slice (some ⟨b,o,none⟩) m c)∧∃o',(o'=o+m∨n=m)∧w'=w.setCell ⟨k,0,none⟩ (.slice (some ⟨b,o',none⟩) (n - m) (c - m))
theorem DB (w:World) (k b o n c m:Nat) (h0:w.cell? ⟨k,0,none⟩=some (.slice (some ⟨b,o,none⟩) n c)) (hz:w.frozen? ⟨k,0,none⟩=false) (hm:m≤n) (hm0:0<m) (hc:n≤c) :
    Calls Tryz.prog 204 #[.pointer (some ⟨k,0,none⟩),.int .i64 m] w fun e w'=>yt w k b o n c m e w':=by
 have hI:¬(n:Int)<(m:Int):=by omega
 by_cases hcm:c=m
 · subst hcm
   go_enter Tryz.func204,Tryz.ntmps204
   go_wp2;go_ret;exact ⟨rfl,o,.inr (by omega),by rw [PN,show n - c=0 by omega]⟩
 have hcm':m<c:=by omega
 go_enter Tryz.func204,Tryz.ntmps204
 go_wp2;go_ret;exact ⟨rfl,o+m,.inl rfl,rfl⟩
def RS (w0 w:World) (k:Nat) (ys:List Int):Prop :=
 w0.heap.size≤k∧k<w.heap.size∧w.frozen? ⟨k,0,none⟩=false∧ZX w0 w∧∃v,w.cell? ⟨k,0,none⟩=some v∧Rd .u8 w0 v ys
theorem RS.drewN (h:RS w0 w k ys) (q:Nat):RS w0 (w.drewN q) k ys :=
 ⟨h.1,h.2.1,h.2.2.1,h.2.2.2.1.trans ((below_drewN' w q).mono h.2.2.2.1.size),h.2.2.2.2⟩
theorem RS.keep (h:RS w0 w k ys) (hb:Below B w w') (hk:k<B):RS w0 w' k ys:=by
 obtain ⟨h1,h2,h3,h4,v,h5,h6⟩:=h;exact ⟨h1,ZL h2 hb.size,(hb.frozen (p:=⟨k,0,none⟩) hk).trans h3,h4.trans (hb.mono (by omega)),v,(hb.cell (p:=⟨k,0,none⟩) hk).trans h5,h6⟩
theorem RS.set {zs:List Int} (h:RS w0 w k ys) (hv:Rd .u8 w0 v zs):RS w0 (w.setCell ⟨k,0,none⟩ v) k zs:=by
 obtain ⟨h1,h2,h3,h4,u,h5,h6⟩:=h;refine ⟨h1,by simpa using h2,?_,h4.setCell h1 _,v,Xo _ _ _ h5,hv⟩;rw [WU];exact h3
theorem Rd.split {k:IntKind} {o c:Nat} (h:Rd k w (.slice (some ⟨b,o,none⟩) n c) ys) (m:Nat) (hm:m≤n) (hm0:0<m) :
    Rd k w (.slice (some ⟨b,o,none⟩) m c) (ys.take m)∧∀o',(o'=o+m∨n=m)→Rd k w (.slice (some ⟨b,o',none⟩) (n - m) (c - m)) (ys.drop m):=by
 obtain ⟨ao,cap,e,h1,h2,h3⟩:=h
 simp only [Y4] at e
 obtain ⟨rfl,rfl,rfl⟩:=e
 rcases h3 with rfl | ⟨b',o',e',hb,hc⟩
 · simp at hm;omega
 simp only [Zo,JB,TJ] at e'
 obtain ⟨rfl,rfl⟩:=e';refine ⟨⟨some ⟨b,o,none⟩,c,by rw [XU,Wh hm],by rw [XU];omega,h2,.inr ⟨b,o,rfl,hb,fun i hi=>?_⟩⟩,fun o' ho'=>⟨some ⟨b,o',none⟩,c - m,by rw [Zd],by rw [Zd];omega,by omega,?_⟩⟩
 · rw [XU] at hi
   rw [hc i (by omega)]
   simp [List.getD,FO (show i<m by omega)]
 rcases ho' with rfl | hnm
 · refine .inr ⟨b,o+m,rfl,hb,fun i hi=>?_⟩
   rw [Zd] at hi;rw [Ue,hc (m+i) (by omega)]
   simp [List.getD]
 exact .inl (FR (by omega))
theorem IC (w0 w:World) (k m:Nat) (ys:List Int) (h:RS w0 w k ys) (hm:m≤ys.length) (hm0:0<m) :
    Calls Tryz.prog 204 #[.pointer (some ⟨k,0,none⟩),.int .i64 m] w fun e w'=>∃b o c v',e=.returned (.slice (some ⟨b,o,none⟩) m c)∧b<w0.heap.size∧(∀i,i<m→w0.cell? ⟨b,o+i,none⟩=some (.int .u8 (ys.getD i 0)))∧RS w0 w' k (ys.drop m)∧w'=w.setCell ⟨k,0,none⟩ v':=by
 obtain ⟨h1,h2,h3,h4,v,h5,h6⟩:=h;have h6':=h6;obtain ⟨ao,c,rfl,g1,g2,g3⟩:=h6
 rcases g3 with rfl | ⟨b,o,rfl,hb,hc⟩
 · simp at hm;omega
 refine (DB w k b o ys.length c m h5 h3 hm hm0 g1).mono ?_;rintro e w' ⟨rfl,o',ho',rfl⟩;exact ⟨b,o,c,_,rfl,hb,fun i hi=>hc i (by omega),RS.set ⟨h1,h2,h3,h4,_,h5,h6'⟩ ((Rd.split h6' m hm hm0).2 o' ho'),rfl⟩
theorem Qi (w0 w:World) (k m:Nat) (ys:List Int) (h:RS w0 w k ys) (hm:ys.length<m) :
    Calls Tryz.prog 204 #[.pointer (some ⟨k,0,none⟩),.int .i64 m] w fun e w'=>e=.panicked Va∧w'=w:=by
 obtain ⟨-,-,-,-,v,h5,h6⟩:=h;obtain ⟨ao,c,rfl,-,-,-⟩:=h6;exact yu w k _ c m ao h5 hm
theorem Yp (w0 w:World) (k m:Nat) (ys:List Int) (h:RS w0 w k ys) (hm:ys.length<m) :
    Calls Tryz.prog 175 #[.pointer (some ⟨k,0,none⟩),.int .i64 m] w fun e w'=>e=.panicked Va∧w'=w:=by
 have H:=Z3 (Qi w0 w k m ys h hm);clear h hm
 go_enter Tryz.func175,Tryz.ntmps175
 go_wp2_with fail
 refine H.out.mono ?_;rintro e w1 ⟨rfl,rfl⟩;exact ⟨rfl,rfl,rfl⟩
theorem XY (w0 w:World) (k m:Nat) (ys:List Int) (h:RS w0 w k ys) (hm:m≤ys.length) (hm0:0<m) (ZB:m≤8) (hby:Wm ys) :
    Calls Tryz.prog 175 #[.pointer (some ⟨k,0,none⟩),.int .i64 m] w fun e w'=>e=.returned (.int .i64 (wrap64 ((Xl (ys.take m):Nat):Int)))∧RS w0 w' k (ys.drop m)∧∃v' q,w'=(w.setCell ⟨k,0,none⟩ v').drewN q:=by
 have H:=Z3 (IC w0 w k m ys h hm hm0);have Og:=Z3 hby
 have HM:=Z3 hm;clear h hby hm
 go_enter Tryz.func175,Tryz.ntmps175
 go_wp2_with fail
 refine H.out.mono ?_;rintro e w1 ⟨b,o,c,v',rfl,hb,hc,hr,hw⟩;have HC:=Z3 hc;have HR:=Z3 hr;have HW:=Z3 hw;clear hc hr hw;go_wp2
 go_loopw [5,12] (fun vn vi wr=>∃(i:Nat) (z:Int),i≤m∧vi=.int .i64 i∧vn=.int .i64 z∧Hid (z=wrap64 ((Xl (ys.take i):Nat):Int))∧∃q,wr=w1.drewN q) (fun _ i _=>m - (intOf i).toNat)
 case atStart=>exact ⟨0,0,Zu _,rfl,rfl,(by show (0:Int)=_;unfold wrap64;rw [PO,yy];rfl),0,rfl⟩
 case round =>
  obtain ⟨i,z,hi,rfl,rfl,HZ,q,rfl⟩:=hrel
  by_cases hlt:i<m
  · have hI:(i:Int)<(m:Int):=by omega
    obtain ⟨x,hx,hxe⟩:=FL Og.out i;have c1:w1.cell? ⟨b,o+i,none⟩=some (.int .u8 (x:Int)):=by rw [HR.out.2.2.2.1.cell (p:=⟨b,o+i,none⟩) hb,HC.out i hlt,hxe]
    have ZV:=Z3 hxe;have Zx:(x:Int)<256:=by omega
    clear hxe;have HN:Hid (bits .or .i64 (wrap64 (z*256)) (x:Int)=wrap64 ((Xl (ys.take (i+1)):Nat):Int)):=by
     show _=_;have ht:ys.take (i+1)=ys.take i++[(x:Int)]:=by
      have hl:i<ys.length:=by have:=HM.out;omega
      have he:=ZV.out
      simp only [List.getD,Xc hl,PM] at he
      rw [TL hl,he]
     rw [ht,LU,HZ.out,Fs,yv _ _ hx,Ww]
    go_wp2;exact ⟨⟨i+1,_,by omega,by go_num,rfl,HN,q,rfl⟩,by simp [intOf];omega⟩
  have him:i=m:=by omega
  subst him;have ZQ:=Z3 (HR.out.drewN q);have ZN:Hid (∃v' q',w1.drewN q=(w.setCell ⟨k,0,none⟩ v').drewN q'):=⟨v',q,by rw [HW.out]⟩;go_wp2;go_ret;exact ⟨Ta HZ.out,ZQ.out,ZN.out⟩
def Fr:List Int→Option (ByteArray × List Int)
 | []=>none
 | y :: r=>if y.toNat≤r.length then some (strOfNums (r.take y.toNat),r.drop y.toNat) else none
def Xz (ys:List Int) (i:Nat):Int:=((Xl ((ys.drop (4*i)).take 4):Nat):Int)
def UW (ys:List Int):Option (Nd × List Int) :=
 match Fr ys with
 | none=>none
 | some (p,r1) =>
  match Fr r1 with
  | none=>none
  | some (d,r2)=>if 20≤r2.length then some (⟨p,d,Xz r2 0,Xz r2 1,Xz r2 2,Xz r2 3,Xz r2 4⟩,r2.drop 20) else none
theorem Xi (h:Wm ys) (n:Nat):Wm (ys.drop n):=fun x hx=>h x (Ry hx)
theorem yr (h:Fr ys=some (s,r)):∃y t,ys=y :: t∧y.toNat≤t.length∧s=strOfNums (t.take y.toNat)∧r=t.drop y.toNat:=by
 cases ys with
 | nil=>simp [Fr] at h
 | cons y t =>
  simp only [Fr] at h
  by_cases hy:y.toNat≤t.length
  · rw [ZZ hy] at h
    simp only [Zo,zB] at h
    exact ⟨y,t,rfl,hy,h.1.symm,h.2.symm⟩
  rw [Z1 hy] at h;cases h
theorem Pb (h:Fr ys=some (s,r)) (hb:Wm ys):Wm r∧r.length<ys.length∧s.size<256:=by
 obtain ⟨y,t,rfl,h1,rfl,rfl⟩:=yr h;refine ⟨fun x hx=>hb x (Yl _ (Ry hx)),by simp;omega,?_⟩;have:=hb y (by simp);rw [strOfNums_size,XU];omega
theorem Q0 {n:Nd} (h:UW ys=some (n,r)) (hb:Wm ys):Wm r∧r.length<ys.length∧n.path.size<256∧n.data.size<256:=by
 unfold UW at h
 cases h1:Fr ys with
 | none=>rw [h1] at h;cases h
 | some q =>
  obtain ⟨p,r1⟩:=q;rw [h1] at h
  simp only at h
  cases h2:Fr r1 with
  | none=>rw [h2] at h;cases h
  | some q2 =>
   obtain ⟨d,r2⟩:=q2;rw [h2] at h
   simp only at h
   by_cases h3:20≤r2.length
   · rw [ZZ h3] at h
     simp only [Zo,zB] at h
     obtain ⟨rfl,rfl⟩:=h;have b1:=Pb h1 hb;have b2:=Pb h2 b1.1;refine ⟨Xi b2.1 _,?_,b1.2.2,b2.2.2⟩;rw [Zd];omega
   rw [Z1 h3] at h;cases h
def DA:Nat→List Int→Option (List Nd)
 | 0,ys=>if ys=[] then some [] else none
 | f+1,ys=>if ys=[] then some [] else
  match UW ys with
  | none=>none
  | some (n,r)=>(DA f r).map (n :: ·)
theorem tC (f:Nat):DA f []=some []:=by cases f <;> simp [DA]
theorem yq {f:Nat} (h:ys≠[]) (hr:UW ys=none):DA f ys=none:=by
 cases f with
 | zero=>simp [DA,h]
 | succ f=>simp [DA,h,hr]
theorem yp {f:Nat} {n:Nd} (h:ys≠[]) (hr:UW ys=some (n,r)):DA (f+1) ys=(DA f r).map (n :: ·):=by simp [DA,h,hr]
def Am (ys:List Int) (ns:List Nd) (r:List Int):Prop:=∃f,r.length≤f∧DA ys.length ys=(DA f r).map (ns++·)∧ns.length+r.length≤ys.length
theorem Am.start (ys:List Int):Am ys [] ys:=⟨ys.length,ZT,by simp,by simp⟩
theorem Am.step {ns:List Nd} {r':List Int} {n:Nd} (h:Am ys ns r) (hb:Wm r) (hr:UW r=some (n,r')):Am ys (ns++[n]) r':=by
 obtain ⟨f,hf,he,hl⟩:=h;have h1:=(Q0 hr hb).2.1;have hne:r≠[]:=fun e=>by rw [e] at h1;simp at h1
 cases f with
 | zero=>omega
 | succ f =>
  refine ⟨f,by omega,?_,by simp;omega⟩;rw [he,yp hne hr,Option.map_map]
  congr 1
  funext l
  simp
theorem Am.done {ns:List Nd} (h:Am ys ns []):DA ys.length ys=some ns:=by
 obtain ⟨f,-,he,-⟩:=h;rw [he,tC];simp
theorem Am.bad {ns:List Nd} (h:Am ys ns r) (hne:r≠[]) (hr:UW r=none):DA ys.length ys=none:=by
 obtain ⟨f,-,he,-⟩:=h;rw [he,yq hne hr];rfl
def IB (ys:List Int):Option (List Nd) :=
 match DA ys.length ys with
 | none=>none
 | some ns=>if YY ns then some ns else none
theorem take_zero (w:World) (k n c:Nat) (ao:Option Addr) (h0:w.cell? ⟨k,0,none⟩=some (.slice ao n c)) (hz:w.frozen? ⟨k,0,none⟩=false) :
    Calls Tryz.prog 204 #[.pointer (some ⟨k,0,none⟩),.int .i64 0] w fun e w'=>e=.returned (.slice ao 0 c)∧w'=w.setCell ⟨k,0,none⟩ (.slice ao n c):=by
 have hI:¬(n:Int)<0:=by omega
 go_enter Tryz.func204,Tryz.ntmps204
 cases ao with
 | none =>
  go_wp2;go_ret;exact ⟨rfl,rfl⟩
 | some a =>
  go_wp2;go_ret;exact ⟨rfl,rfl⟩
theorem yo (w0 w:World) (k m:Nat) (ys:List Int) (h:RS w0 w k ys) (hm:m≤ys.length) :
    Calls Tryz.prog 204 #[.pointer (some ⟨k,0,none⟩),.int .i64 m] w fun e w'=>∃v1,e=.returned v1∧Rd .u8 w0 v1 (ys.take m)∧RS w0 w' k (ys.drop m)∧w.grownBy w' (some k):=by
 have h':=h;obtain ⟨h1,h2,h3,h4,v,h5,h6⟩:=h;have h6':=h6;obtain ⟨ao,c,rfl,g1,g2,g3⟩:=h6
 by_cases hm0:m=0
 · subst hm0
   refine (take_zero w k ys.length c ao h5 h3).mono ?_;rintro e w' ⟨rfl,rfl⟩;refine ⟨_,rfl,⟨ao,c,by simp,Zu _,g2,.inl (PO)⟩,?_,grownBy_set _ _ _ _ _ (YT _ _)⟩;rw [Qu];exact RS.set h' h6'
 rcases g3 with rfl | ⟨b,o,rfl,hb,hc⟩
 · simp at hm;omega
 refine (DB w k b o ys.length c m h5 h3 hm (by omega) g1).mono ?_;rintro e w' ⟨rfl,o',ho',rfl⟩;have hs:=Rd.split h6' m hm (by omega);exact ⟨_,rfl,hs.1,RS.set h' (hs.2 o' ho'),grownBy_set _ _ _ _ _ (YT _ _)⟩
theorem IA (w0 w:World) (k:Nat) (y:Int) (r:List Int) (h:RS w0 w k (y :: r)) :
    Calls Tryz.prog 233 #[.pointer (some ⟨k,0,none⟩)] w fun e w'=>e=.returned (.int .u8 y)∧RS w0 w' k r∧w.grownBy w' (some k):=by
 have H:Hid (Calls Tryz.prog 204 #[.pointer (some ⟨k,0,none⟩),.int .i64 1] w fun e w'=>∃b o c,e=.returned (.slice (some ⟨b,o,none⟩) 1 c)∧w'.cell? ⟨b,o,none⟩=some (.int .u8 y)∧Hid (RS w0 w' k r)∧Hid (w.grownBy w' (some k))):=by
  refine (IC w0 w k 1 (y :: r) h (by simp) (by omega)).mono ?_;rintro e w' ⟨b,o,c,v',rfl,hb,hc,hr,rfl⟩;have h0:=hc 0 (by omega);refine ⟨b,o,c,rfl,?_,(by show RS _ _ _ _;simpa using hr),grownBy_set _ _ _ _ _ (YT _ _)⟩;rw [hr.2.2.2.1.cell (p:=⟨b,o,none⟩) hb]
  simpa using h0
 clear h
 go_enter Tryz.func233,Tryz.ntmps233
 go_wp2_with fail
 refine H.out.mono ?_;rintro e w1 ⟨b,o,c,rfl,hc,hr,hg⟩;go_wp2;go_ret;exact ⟨rfl,hr.out,hg.out⟩
theorem KN (w0 w:World) (k:Nat) (h:RS w0 w k []) :
    Calls Tryz.prog 233 #[.pointer (some ⟨k,0,none⟩)] w fun e w'=>e=.panicked Va∧w'=w:=by
 have H:Hid (Calls Tryz.prog 204 #[.pointer (some ⟨k,0,none⟩),.int .i64 1] w fun e w'=>e=.panicked Va∧w'=w):=Qi w0 w k 1 [] h (by simp);clear h
 go_enter Tryz.func233,Tryz.ntmps233
 go_wp2_with fail
 refine H.out.mono ?_;rintro e w1 ⟨rfl,rfl⟩;exact ⟨rfl,rfl,rfl⟩
def yn (w0 w:World) (k:Nat) (ys:List Int) (e:Ending) (w':World):Prop :=
 w.grownBy w' (some k)∧((Fr ys=none∧e=.panicked Va)∨∃s r,Fr ys=some (s,r)∧e=.returned (.string s)∧RS w0 w' k r)
theorem Iz (w0 w:World) (k:Nat) (ys:List Int) (h:RS w0 w k ys) (hby:Wm ys) :
    Calls Tryz.prog 205 #[.pointer (some ⟨k,0,none⟩)] w fun e w'=>yn w0 w k ys e w':=by
 have HS:=Z3 h;clear h
 go_enter Tryz.func205,Tryz.ntmps205
 go_wp2_with fail
 cases ys with
 | nil =>
  refine (KN w0 w k HS.out).mono ?_;rintro e w1 ⟨rfl,rfl⟩;exact ⟨rfl,YT _ _,.inl ⟨rfl,rfl⟩⟩
 | cons y r =>
  have hy:=hby y (by simp);obtain ⟨m,rfl⟩:∃m:Nat,y=(m:Int):=⟨y.toNat,by omega⟩;have hm:m<256:=by omega
  clear hby hy;refine (IA w0 w k m r HS.out).mono ?_;rintro e w1 ⟨rfl,r1,g1⟩;have R1:=Z3 r1;have G1:=Z3 g1;clear r1 g1 HS;have ij:(m:Int)<256:=by omega
  go_wp2_with fail
  by_cases hl:m≤r.length
  · refine (yo w0 w1 k m r R1.out hl).mono ?_
    rintro e w2 ⟨v2,rfl,Z7,r2,g2⟩;have hcv:=WS (Z7.below r2.2.2.2.1);have HP:Hid (yn w0 w k ((m:Int) :: r) (.returned (.string (strOfNums (r.take m)))) w2):=by
     refine ⟨G1.out.trans g2,.inr ⟨_,_,?_,rfl,r2⟩⟩
     simp only [Fr,Ww]
     rw [ZZ hl]
    clear Z7 r2 g2 R1 G1;go_wp2;go_ret;exact HP.out
  refine (Qi w0 w1 k m r R1.out (by omega)).mono ?_;rintro e w2 ⟨rfl,rfl⟩;refine ⟨rfl,G1.out,.inl ⟨?_,rfl⟩⟩
  simp only [Fr,Ww]
  rw [Z1 hl]
def oL (b p:Nat):Value:=.agg #[.pointer (some ⟨b,p+2,none⟩),.pointer (some ⟨b,p+3,none⟩),.pointer (some ⟨b,p+4,none⟩),.pointer (some ⟨b,p+5,none⟩),.pointer (some ⟨b,p+6,none⟩)]
theorem LS (w:World) (b p:Nat) :
    Calls Tryz.prog 142 #[.pointer (some ⟨b,p,none⟩)] w (YI w (oL b p)):=by
 go_enter Tryz.func142,Tryz.ntmps142
 go_wp2;refine ZH (S:=fun _=>True) (by kernel_rfl) (trivial) (fun Z9=>?_)
 iterate 20 (refine ZW ?_ (by kernel_rfl) (fun _=>id) Z9 ?_ ?_;rotate_left;· intro w9 Z0;go_simp;try with_reducible rfl)
 refine ZW (oL b p) (by kernel_rfl) (fun _=>id) Z9 ?_ ?_
 · intro w9 Z0;go_simp;rfl
 refine ZU 21 rfl (by kernel_rfl) (fun K hK=>?_);unfold oL;go_simp;refine hK.out _ _ trivial (fun ZM=>?_);clear hK K Z9 ZM;refine ZP (by kernel_rfl) ?_ _
 try simp only [Act.put,Y8,Y7,Y6]
 go_wp2;refine ZS (v:=oL b p) (by simp [results,Tryz.results142,go_sem,oL]) rfl ⟨rfl,?_⟩;exact (ZJ.alloc ZT _).trans ((below_drewN' _ 1).mono (by simp))
theorem KT.box (h:KT e w w') (hb:w.heap[b]?=some (.cells A t f)) (ht:t≠e):w'.heap[b]?=some (.cells A t f):=by
 have hlt:=(Yh.1 hb).1;rw [h.2 b hlt (by rw [hb];rintro ⟨cur,h⟩;injection h with h;injection h with _ h2;exact ht h2),hb]
def Of (w:World) (b:Nat) (n:Nd):Prop:=(∃A t f,w.heap[b]?=some (.cells A t f)∧t≠5)∧Xq w b 0 n
theorem Of.keep {n:Nd} (h:Of w b n) (hk:KT 5 w w'):Of w' b n:=by
 obtain ⟨⟨A,t,f,h1,h2⟩,h3⟩:=h;have h4:=hk.box h1 h2;have e:∀q,w'.cell? ⟨b,q,none⟩=w.cell? ⟨b,q,none⟩:=fun q=>Zj (a:=⟨b,q,none⟩) (by show w'.heap[b]?=w.heap[b]?;rw [h4,h1])
 exact ⟨⟨A,t,f,h4,h2⟩,(e _).trans h3.c0,(e _).trans h3.c1,(e _).trans h3.c2,(e _).trans h3.c3,(e _).trans h3.c4,(e _).trans h3.c5,(e _).trans h3.c6⟩
theorem Of.below {n:Nd} (h:Of w b n) (hk:ZX w w'):Of w' b n:=h.keep ((KT.refl _ _).below hk)
theorem Of.cells {n:Nd} (h:Of w b n):Xq w b 0 n:=h.2
theorem cell_of (h:w.heap[b]?=some (.cells A t f)) (q:Nat):w.cell? ⟨b,q,none⟩=A[q]?:=by simp [World.cell?,h]
theorem KT.cell (h:KT e w w') (hb:w.heap[b]?=some (.cells A t f)) (ht:t≠e) (q:Nat):w'.cell? ⟨b,q,none⟩=w.cell? ⟨b,q,none⟩ :=
 Zj (a:=⟨b,q,none⟩) (by show w'.heap[b]?=w.heap[b]?;rw [h.box hb ht,hb])
def Qz (a b c d e k:Nat):List Int:=([a,b,c,d,e].take k).flatMap fun z=>Zk z 4
theorem tB (a b c d e k:Nat):(Qz a b c d e k).length≤20:=by
 unfold Qz
 match k with
 | 0=>simp
 | 1=>simp [Zb]
 | 2=>simp [Zb]
 | 3=>simp [Zb]
 | 4=>simp [Zb]
 | k+5=>simp [Zb]
theorem kT (a b c d e:Nat):Qz a b c d e 0++Zk a 4=Qz a b c d e 1:=by simp [Qz]
theorem kS (a b c d e:Nat):Qz a b c d e 1++Zk b 4=Qz a b c d e 2:=by simp [Qz]
theorem kR (a b c d e:Nat):Qz a b c d e 2++Zk c 4=Qz a b c d e 3:=by simp [Qz]
theorem kQ (a b c d e:Nat):Qz a b c d e 3++Zk d 4=Qz a b c d e 4:=by simp [Qz]
theorem kP (a b c d e:Nat):Qz a b c d e 4++Zk e 4=Qz a b c d e 5:=by simp [Qz]
theorem kO (W:World) (b:Nat):(Instr.index 217 (.agg #[.pointer (some ⟨b,2,none⟩),.pointer (some ⟨b,3,none⟩),.pointer (some ⟨b,4,none⟩),.pointer (some ⟨b,5,none⟩),.pointer (some ⟨b,6,none⟩)]) (.int .i64 0)).run Tryz.prog W=.ok (.pointer (some ⟨b,2,none⟩)) W:=by kernel_rfl
theorem kN (W:World) (b:Nat):(Instr.index 217 (.agg #[.pointer (some ⟨b,2,none⟩),.pointer (some ⟨b,3,none⟩),.pointer (some ⟨b,4,none⟩),.pointer (some ⟨b,5,none⟩),.pointer (some ⟨b,6,none⟩)]) (.int .i64 1)).run Tryz.prog W=.ok (.pointer (some ⟨b,3,none⟩)) W:=by kernel_rfl
theorem kM (W:World) (b:Nat):(Instr.index 217 (.agg #[.pointer (some ⟨b,2,none⟩),.pointer (some ⟨b,3,none⟩),.pointer (some ⟨b,4,none⟩),.pointer (some ⟨b,5,none⟩),.pointer (some ⟨b,6,none⟩)]) (.int .i64 2)).run Tryz.prog W=.ok (.pointer (some ⟨b,4,none⟩)) W:=by kernel_rfl
theorem kL (W:World) (b:Nat):(Instr.index 217 (.agg #[.pointer (some ⟨b,2,none⟩),.pointer (some ⟨b,3,none⟩),.pointer (some ⟨b,4,none⟩),.pointer (some ⟨b,5,none⟩),.pointer (some ⟨b,6,none⟩)]) (.int .i64 3)).run Tryz.prog W=.ok (.pointer (some ⟨b,5,none⟩)) W:=by kernel_rfl
theorem kK (W:World) (b:Nat):(Instr.index 217 (.agg #[.pointer (some ⟨b,2,none⟩),.pointer (some ⟨b,3,none⟩),.pointer (some ⟨b,4,none⟩),.pointer (some ⟨b,5,none⟩),.pointer (some ⟨b,6,none⟩)]) (.int .i64 4)).run Tryz.prog W=.ok (.pointer (some ⟨b,6,none⟩)) W:=by kernel_rfl
theorem Tr (w:World) (base:Nat) (v:Value) (xs:List Int) (b:Nat) (n:Nd) (h:Own .u8 5 w base v xs) (hb:base≤w.heap.size) (hl:xs.length≤1000000) (hx:Of w b n) (hn:YL n=true) :
    Calls Tryz.prog 94 #[.pointer (some ⟨b,0,none⟩),v] w fun e w'=>∃v',e=.returned v'∧Own .u8 5 w' base v' (xs++Yi n)∧Below base w w'∧KT 5 w w':=by
 obtain ⟨p1,p2,p3,p4,p5,p6,p7⟩:=Xj hn;have HO:Hid (Own .u8 5 w base v xs):=h;have HX:Hid (Of w b n):=hx;obtain ⟨c0,c1,c2,c3,c4,c5,c6⟩:=HX.out.cells
 go_enter Tryz.func94,Tryz.ntmps94
 go_wp2_with fail
 refine (Um w base v xs n.path HO.out hb (by omega) (by omega)).mono ?_;rintro e w1 ⟨v1,rfl,o1,b1,k1⟩;have O1:Hid (Own .u8 5 w1 base v1 (xs++MR n.path)):=o1;have B1:Hid (Below base w w1):=b1;have X1:Hid (Of w1 b n):=HX.out.keep k1;have K1:Hid (KT 5 w w1):=k1;have s1:=b1.size;obtain ⟨c0,c1,c2,c3,c4,c5,c6⟩:=X1.out.cells
 go_wp2_with fail
 refine (Um w1 base v1 _ n.data O1.out (by omega) (by rw [ZA,Q2];omega) (by omega)).mono ?_;rintro e w2 ⟨v2,rfl,o2,b2,k2⟩;have O2:Hid (Own .u8 5 w2 base v2 (xs++MR n.path++MR n.data)):=o2;have B2:=Z3 (B1.out.trans b2);have X2:Hid (Of w2 b n):=X1.out.keep k2;have K2:=Z3 (K1.out.trans k2);have s2:=B2.out.size
 go_wp2_with fail
 refine (LS w2 b 0).mono ?_;rintro e w3 ⟨rfl,b3⟩;have O3:=Z3 (O2.out.below b3);have B3:=Z3 (B2.out.trans (b3.mono (by omega)));have X3:=Z3 (X2.out.below b3);have K3:=Z3 (K2.out.below b3);obtain ⟨z0,hz0⟩:∃z:Nat,n.Zy=(z:Int):=⟨n.Zy.toNat,by omega⟩;obtain ⟨z1,hz1⟩:∃z:Nat,n.Zw=(z:Int):=⟨n.Zw.toNat,by omega⟩;obtain ⟨z2,hz2⟩:∃z:Nat,n.cz=(z:Int):=⟨n.cz.toNat,by omega⟩;obtain ⟨z3,hz3⟩:∃z:Nat,n.mz=(z:Int):=⟨n.mz.toNat,by omega⟩;obtain ⟨z4,qO⟩:∃z:Nat,n.pz=(z:Int):=⟨n.pz.toNat,by omega⟩;have HZ:Hid (Yi n=MR n.path++MR n.data++Qz z0 z1 z2 z3 z4 5):=by
  show _=_;unfold Yi iN Qz
  simp [hz0,hz1,hz2,hz3,qO]
 have HZ0:Hid (n.Zy=(z0:Int)):=hz0;have HZ1:Hid (n.Zw=(z1:Int)):=hz1;have HZ2:Hid (n.cz=(z2:Int)):=hz2;have HZ3:Hid (n.mz=(z3:Int)):=hz3;have ii:Hid (n.pz=(z4:Int)):=qO;have HL:Hid (∀k,(xs++MR n.path++MR n.data++Qz z0 z1 z2 z3 z4 k).length≤1048576):=by
  intro k;have:=tB z0 z1 z2 z3 z4 k
  simp only [ZA,Q2]
  omega
 obtain ⟨ys,hys⟩:∃ys,ys=xs++MR n.path++MR n.data:=⟨_,rfl⟩;have tE:Hid (xs++Yi n=ys++Qz z0 z1 z2 z3 z4 5):=by show _=_;rw [HZ.out,hys];simp only [YM]
 rw [←hys] at O3 HL;unfold oL;go_wp2
 go_loopw [1,23] (fun vi vk wr=>∃k:Nat,k≤5∧vk=.int .i64 k∧Hid (Own .u8 5 wr base vi (ys++Qz z0 z1 z2 z3 z4 k))∧Hid (Below base w wr)∧Hid (KT 5 w wr)∧Hid (Of wr b n)) (fun _ i _=>5 - (intOf i).toNat)
 case atStart=>exact ⟨0,by omega,rfl,by show Own _ _ _ _ _ _;unfold Qz;simp;exact O3.out,B3,K3,X3⟩
 case round =>
  obtain ⟨k,hk,rfl,HW,HB,HK,U⟩:=hrel;have sB:=HB.out.size;obtain ⟨-,-,c2,c3,c4,c5,c6⟩:=U.out.cells;rw [HZ0.out] at c2;rw [HZ1.out] at c3;rw [HZ2.out] at c4;rw [HZ3.out] at c5;rw [ii.out] at c6
  rcases (show k=0∨k=1∨k=2∨k=3∨k=4∨k=5 by omega) with rfl | rfl | rfl | rfl | rfl | rfl
  · have hix:=fun W=>kO W b
    go_wp2_with fail
    refine (YQ wr base _ _ z0 4 HW.out (by omega) (HL.out _) (by omega)).mono ?_;rintro e w4 ⟨v4,rfl,o4,b4,k4⟩;have O4:Hid (Own .u8 5 w4 base v4 (ys++Qz z0 z1 z2 z3 z4 1)):=by rw [YM,kT] at o4;exact o4
    have B4:=Z3 (HB.out.trans b4);have K4:=Z3 (HK.out.trans k4);have X4:Hid (Of w4 b n):=U.out.keep k4;go_wp2;exact ⟨⟨1,by omega,rfl,O4,B4,K4,X4⟩,by simp [intOf]⟩
  · have hix:=fun W=>kN W b
    go_wp2_with fail
    refine (YQ wr base _ _ z1 4 HW.out (by omega) (HL.out _) (by omega)).mono ?_;rintro e w4 ⟨v4,rfl,o4,b4,k4⟩;have O4:Hid (Own .u8 5 w4 base v4 (ys++Qz z0 z1 z2 z3 z4 2)):=by rw [YM,kS] at o4;exact o4
    have B4:=Z3 (HB.out.trans b4);have K4:=Z3 (HK.out.trans k4);have X4:Hid (Of w4 b n):=U.out.keep k4;go_wp2;exact ⟨⟨2,by omega,rfl,O4,B4,K4,X4⟩,by simp [intOf]⟩
  · have hix:=fun W=>kM W b
    go_wp2_with fail
    refine (YQ wr base _ _ z2 4 HW.out (by omega) (HL.out _) (by omega)).mono ?_;rintro e w4 ⟨v4,rfl,o4,b4,k4⟩;have O4:Hid (Own .u8 5 w4 base v4 (ys++Qz z0 z1 z2 z3 z4 3)):=by rw [YM,kR] at o4;exact o4
    have B4:=Z3 (HB.out.trans b4);have K4:=Z3 (HK.out.trans k4);have X4:Hid (Of w4 b n):=U.out.keep k4;go_wp2;exact ⟨⟨3,by omega,rfl,O4,B4,K4,X4⟩,by simp [intOf]⟩
  · have hix:=fun W=>kL W b
    go_wp2_with fail
    refine (YQ wr base _ _ z3 4 HW.out (by omega) (HL.out _) (by omega)).mono ?_;rintro e w4 ⟨v4,rfl,o4,b4,k4⟩;have O4:Hid (Own .u8 5 w4 base v4 (ys++Qz z0 z1 z2 z3 z4 4)):=by rw [YM,kQ] at o4;exact o4
    have B4:=Z3 (HB.out.trans b4);have K4:=Z3 (HK.out.trans k4);have X4:Hid (Of w4 b n):=U.out.keep k4;go_wp2;exact ⟨⟨4,by omega,rfl,O4,B4,K4,X4⟩,by simp [intOf]⟩
  · have hix:=fun W=>kK W b
    go_wp2_with fail
    refine (YQ wr base _ _ z4 4 HW.out (by omega) (HL.out _) (by omega)).mono ?_;rintro e w4 ⟨v4,rfl,o4,b4,k4⟩;have O4:Hid (Own .u8 5 w4 base v4 (ys++Qz z0 z1 z2 z3 z4 5)):=by rw [YM,kP] at o4;exact o4
    have B4:=Z3 (HB.out.trans b4);have K4:=Z3 (HK.out.trans k4);have X4:Hid (Of w4 b n):=U.out.keep k4;go_wp2;exact ⟨⟨5,by omega,rfl,O4,B4,K4,X4⟩,by simp [intOf]⟩
  go_wp2;go_ret;exact ⟨_,rfl,(by rw [tE.out];exact HW.out),HB.out,HK.out⟩
end
end Go.Proofs.YtpmjnbmkippaiaaGreatDoor


