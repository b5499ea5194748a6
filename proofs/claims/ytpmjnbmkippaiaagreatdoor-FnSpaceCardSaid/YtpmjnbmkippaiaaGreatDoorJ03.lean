import Derived.Test.YtpmjnbmkippaiaaGreatDoorJ02
import Derived.RangeFuncBox
import Derived.Laws.Cover1
import Derived.IntWalk
import Derived.Lib.AppendStr
set_option maxRecDepth 100000
set_option maxHeartbeats 16000000
set_option linter.unusedVariables false
set_option linter.unusedSimpArgs false
namespace Go.Proofs.YtpmjnbmkippaiaaGreatDoor
section
open Go.RowKit Go.Shelf
variable {A:Array Value} {a s:ByteArray} {R:List (List UInt8)} {r ys:List Int} {B b i k lo m n p:Nat} {f:Nat × Nat} {row:Option Nat} {e t:TypeId} {v:Value} {X Y w w' w0 w1 w2:World}
attribute [local go_sem] Yv
theorem Jt:∀(l cur:List UInt8),Lib.indexByte l 47=-1→SS cur l=[cur++l]
 | [],cur,_=>by simp [SS]
 | x :: l,cur,h=>by
  unfold Lib.indexByte at h
  by_cases hx:x=47
  · rw [hx] at h;simp at h
  have hb:=YH.2 hx;rw [hb] at h
  simp only [Yu,WW] at h
  have hge:=Lib.indexByte_ge l 47;have h1:Lib.indexByte l 47=-1:=by
   by_cases e:Lib.indexByte l 47=-1
   · exact e
   rw [Z1 (by simpa using e)] at h;omega
  rw [QA hx,Jt l _ h1];simp
theorem Js:∀(l cur:List UInt8) (k:Nat),Lib.indexByte l 47=(k:Int)→k<l.length∧SS cur l=(cur++l.take k) :: SS [] (l.drop (k+1))
 | [],cur,k,h=>by simp [Lib.indexByte] at h
 | x :: l,cur,k,h=>by
  unfold Lib.indexByte at h
  by_cases hx:x=47
  · rw [hx] at h
    have hk:k=0:=by simp at h;omega
    subst hk;rw [hx,Qe];simp
  have hb:=YH.2 hx;rw [hb] at h
  simp only [Yu,WW] at h
  by_cases e:Lib.indexByte l 47=-1
  · rw [Z0 (by simpa using e)] at h;omega
  rw [Z1 (by simpa using e)] at h;have hge:=Lib.indexByte_ge l 47;obtain ⟨j,rfl⟩:∃j,k=j+1:=⟨k - 1,by omega⟩;obtain ⟨h1,h2⟩:=Js l (cur++[x]) j (by omega);refine ⟨by simp;omega,?_⟩;rw [QA hx,h2];simp
def qm (B:Nat) (W:World):Nat:=match W.cell? ⟨B,0,none⟩ with
 | some (.string x)=>x.size
 | _=>0
def kW (Bs:Nat) (St:Nat→World→Prop) (yG Bk xK:World→Prop) (k:Nat) (W:World) (e:Ending) (W':World):Prop :=
 (e=.returned (.bool true)∧St (k+1) W'∧Bk W'∧∀v,Boxed W Bs 9 v→Boxed W' Bs 9 v)∨(e=.returned (.bool false)∧yG W'∧xK W')
theorem DG (nn:Nat) (hn1:1≤nn) (l Bs Be Bv:Nat) (R:List (List UInt8)) (s0:ByteArray)
    (St:Nat→World→Prop) (yG Bk xK:World→Prop)
    (iR:∀k X Y,Zi X Y→St k X→St k Y) (iQ:∀X Y,Zi X Y→Bk X→Bk Y)
    (hSW:∀k X v,St k X→St k (X.setCell ⟨Bs,0,none⟩ v)) (hBW:∀X v,Bk X→Bk (X.setCell ⟨Bs,0,none⟩ v))
    (hSR:∀k W,St k W→W.cell? ⟨Be,0,none⟩=some (.string ⟨#[47]⟩)∧W.cell? ⟨Bv,0,none⟩=some (.int .i64 0))
    (hY:∀k vs W,St k W→Bk W→(k<R.length∧vs=#[sV (R.getD k [])])→YieldAt Fence.wide (nn - 1) Tryz.prog l vs W (kW Bs St yG Bk xK k W))
    (W:World) (h0:St 0 W) (h1:Bk W) (hs:Boxed W Bs 9 (.string s0)) (hz:s0.size≤1048576) (hR:R=SS [] s0.data.toList) :
    CallsIn Fence.wide nn Tryz.prog 245 #[.func (.yield l) #[] #[],.pointer (some ⟨Be,0,none⟩),.pointer (some ⟨Bs,0,none⟩),.pointer (some ⟨Bv,0,none⟩)] W fun e W'=>(∃v,e=.returned v)∧((∃s,s=R.length∧St s W'∧Bk W')∨(yG W'∧xK W')):=by
 have HY:=ZU hY;have lR:=ZU iR;have eQ:=ZU iQ;have ij:=ZU hSW;have kV:=ZU hBW;have iP:=ZU hSR;have H0:=ZU h0;have H1:=ZU h1;have oJ:=ZU hs;have HR:Hid (R.drop 0=SS [] s0.data.toList):=hR;obtain ⟨cE,cV⟩:=hSR 0 W h0;have cS:=hs.cell;refine Xb Tryz.func245 rfl trivial ?_ rfl
 simp only [Tryz.ntmps245,ZI,ZE,Y7,Nat.reduceAdd,Nat.reduceSub,YV,YU,YI,YT,Zd,Y3]
 gi_wp2
 gi_loopw [] (fun wr=>∃(k:Nat) (r:ByteArray),Hid (St k wr)∧Hid (Bk wr)∧r.size≤1048576∧Hid (Boxed wr Bs 9 (.string r))∧Hid (R.drop k=SS [] r.data.toList)) (fun wr=>qm Bs wr)
 case atStart=>exact ⟨0,s0,H0,H1,hz,oJ,HR⟩
 case round =>
  obtain ⟨k,r,HS,HB,hrz,HX,HD⟩:=hrel;obtain ⟨cE,cV⟩:=iP.out k wr HS.out;have cS:=HX.out.cell
  gi_wp2_with fail
  refine ⟨trivial,?_⟩;refine (YK.2 (sC _ r)).mono ?_;rintro e w2 ⟨rfl,rfl⟩
  by_cases hneg:Lib.indexByte r.data.toList 47=-1
  · have hd:=HD.out
    rw [Jt _ _ hneg,Zd] at hd;have hlt:k<R.length:=by
     by_cases h:k<R.length
     · exact h
     rw [Xx (by omega)] at hd;cases hd
    have hend:Hid (k+1=R.length):=by
     have:=ZM List.length hd;rw [ZS] at this
     simp at this
     show _=_;omega
    have hget:R.getD k []=r.data.toList:=by
     have:=ZM (fun x=>x.getD 0 []) hd
     simpa [List.getD,Yt] using this
    have qn:=HY.out k #[.string r] w2 HS.out HB.out ⟨hlt,by rw [hget];rfl⟩;rw [hneg];obtain ⟨fn,tmps,assign,body,hy,hR⟩:=qn;gi_wp2;refine hR.mono ?_;rintro e W3 (⟨rfl,AB,hB3,-⟩ | ⟨rfl,AB,hB3⟩)
    · have AA:Hid (St (k+1) W3):=AB
      have HB3:=ZU hB3;gi_wp2;refine bodyPost_end (Wu rfl _ _ _) rfl ?_;exact ⟨⟨_,rfl⟩,.inl ⟨k+1,hend.out,AA.out,HB3.out⟩⟩
    have AA:Hid (yG W3):=AB;have HB3:=ZU hB3;gi_wp2;refine bodyPost_end (Wu rfl _ _ _) rfl ?_;exact ⟨⟨_,rfl⟩,.inr ⟨AA.out,HB3.out⟩⟩
  have hge:=Lib.indexByte_ge r.data.toList 47;obtain ⟨j,hj⟩:∃j:Nat,Lib.indexByte r.data.toList 47=(j:Int):=⟨(Lib.indexByte r.data.toList 47).toNat,by omega⟩;have hd:=HD.out;obtain ⟨hjl,hsp⟩:=Js _ [] j hj;have hjr:j<r.size:=hjl;rw [hsp,Zd] at hd;have hlt:k<R.length:=by
   by_cases h:k<R.length
   · exact h
   rw [Xx (by omega)] at hd;cases hd
  have hget:R.getD k []=r.data.toList.take j:=by
   have:=ZM (fun x=>x.getD 0 []) hd
   simpa [List.getD,Yt] using this
  have hD2:Hid (R.drop (k+1)=SS [] (r.extract (j+1) r.size).data.toList):=by
   have h1:=ZM (List.drop 1) hd;rw [Yc,Ur,XR] at h1;show _=_;rw [RN,h1];unfold yH
   congr 1
   rw [Y8 (by rw [ZS];show r.size - _≤_;omega)]
  have qn:=HY.out k #[.string (r.extract 0 j)] w2 HS.out HB.out ⟨hlt,by rw [hget,RN];unfold yH;simp [sV]⟩;rw [hj];have hsz:(r.extract (j+1) r.size).size=r.size - (j+1):=by simp
  have LW:=ZU hsz;have ik:¬(j:Int)<0:=by omega
  have ZG:(j:Int)≤(r.size:Int):=by omega
  have ZD:(j:Int)+1≤(r.size:Int):=by omega
  obtain ⟨fn,tmps,assign,body,hy,hR⟩:=qn;gi_wp2;refine hR.mono ?_;rintro e W3 (⟨rfl,AB,hB3,hK3⟩ | ⟨rfl,AB,hB3⟩)
  · have AA:Hid (St (k+1) W3):=AB
    have HB3:=ZU hB3;have BY:=ZU (hK3 _ HX.out);obtain ⟨cE,cV⟩:=iP.out (k+1) W3 AA.out;have cS:=BY.out.cell;have fS:=BY.out.frozen;gi_wp2
    go_roundw
    case rel=>exact ⟨k+1,_,ij.out _ _ _ AA.out,kV.out _ _ HB3.out,by rw [LW.out];omega,BY.out.set _,hD2⟩
    case measure =>
     have e1:=(BY.out.set (.string (r.extract (j+1) r.size))).cell;have e2:=HX.out.cell;unfold qm;rw [e1,e2];show (r.extract (j+1) r.size).size<r.size;rw [LW.out];omega
  have AA:Hid (yG W3):=AB;have HB3:=ZU hB3;gi_wp2;refine ZW (Wu rfl _ _ _) rfl ?_;exact ⟨⟨_,rfl⟩,.inr ⟨AA.out,HB3.out⟩⟩
attribute [local go_sem] Yv
def BV (s:ByteArray) (w:World) (e:Ending) (w':World):Prop :=
 e=.returned (.func (.func 245) #[] #[.pointer (some ⟨w.heap.size+1,0,none⟩),.pointer (some ⟨w.heap.size,0,none⟩),.pointer (some ⟨w.heap.size+2,0,none⟩)]) ∧
 w'=((w.alloc (.cells #[.string s] 9)).alloc (.cells #[.string ⟨#[47]⟩] 9)).alloc (.cells #[.int .i64 0] 3)
theorem Gi (F:Fence) (n:Nat) (h87:F.fn 222) (hro:F.round=none) (s:ByteArray) (w:World) :
    CallsIn F n Tryz.prog 222 #[.string s,.string ⟨#[47]⟩,.int .i64 0] w (BV s w):=by
 refine Xb Tryz.func222 rfl h87 ?_ hro
 simp only [Tryz.ntmps222,ZI,ZE,Y7,Nat.reduceAdd,Nat.reduceSub,YV,YU,YI,YT,Zd,Y3]
 gi_wp2;go_ret;exact ⟨rfl,rfl⟩
theorem Gh (n:Nat) (hn:1≤n) (s:ByteArray) (w:World) :
    CallsIn Fence.wide n Tryz.prog 193 #[.string s,.string ⟨#[47]⟩] w (BV s w):=by
 refine Xb Tryz.func193 rfl trivial ?_ rfl
 simp only [Tryz.ntmps193,ZI,ZE,Y7,Nat.reduceAdd,Nat.reduceSub,YV,YU,YI,YT,Zd,Y3]
 gi_wp2_with fail
 refine ⟨trivial,?_⟩;refine (Gi Fence.wide _ trivial rfl s w).mono ?_;rintro e w5 ⟨rfl,NG⟩;have HW:=ZU NG;clear NG;gi_wp2;go_ret;exact ⟨rfl,HW.out⟩
theorem Lj:∀(l cur:List UInt8),((SS cur l).map (fun p=>p.length+1)).sum=cur.length+l.length+1
 | [],cur=>by simp [SS]
 | x :: l,cur=>by
  by_cases h:x=47
  · subst h;rw [Qe];have:=Lj l [];simp only [Yl,Ti,this,ZE,Y7];omega
  rw [QA h,Lj l (cur++[x])];simp only [ZZ,ZE,Y7];omega
theorem xJ:∀(rs:List (List UInt8)),rs.all Ca=true→(rs.map (fun p=>p.length+1)).sum≤17*rs.length
 | [],_=>by simp
 | p :: rs,h=>by
  rw [VR,ZA] at h;have h1:=xJ rs h.2;have h2:p.length≤16:=by
   have:=h.1;unfold Ca Gq at this
   simp only [ZA,Zj] at this
   exact this.1.2
  simp only [Yl,Ti,ZE];omega
theorem Gg (h:102<s.size):Xi s=false:=by
 have h1:¬s.data.toList=[47]:=fun e=>by
  have:s.data.toList.length=1:=by rw [e];rfl
  have h2:s.data.toList.length=s.size:=rfl;omega
 rw [Lk h1]
 cases hn:(decide ((nm s).length≤6)) with
 | false=>simp
 | true =>
  cases ha:(nm s).all Ca with
  | false=>simp
  | true =>
   exfalso
   have h3:=xJ _ ha;have h4:=Lj (s.data.toList.drop 1) [];have h5:(s.data.toList.drop 1).length=s.size - 1:=by rw [ZS];rfl
   rw [h5] at h4;unfold nm at h3 hn;rw [h4] at h3
   simp at h3 hn
   omega
attribute [local go_sem] Yv
structure GP (w:World) (R:List (List UInt8)) (k:Nat) (W:World):Prop where
 le:k≤R.length
 ok:(R.take k).all Ca=true
 res:Boxed W w.heap.size 4 (.bool false)
 dep:Boxed W (w.heap.size+1) 3 (.int .i64 (k:Int))
 txt:∃v,Boxed W (w.heap.size+2) 9 v
 sep:Boxed W (w.heap.size+3) 9 (.string ⟨#[47]⟩)
 T:Boxed W (w.heap.size+4) 3 (.int .i64 0)
 below:Zi w W
 size:w.heap.size+5≤W.heap.size
structure lQ (w:World) (R:List (List UInt8)) (W:World):Prop where
 no:R.all Ca=false
 res:Boxed W w.heap.size 4 (.bool false)
 below:Zi w W
 size:w.heap.size+5≤W.heap.size
theorem UX (hb:Zi X Y) (h:Boxed X B t v):Boxed Y B t v:=(hb.block _ h.lt).trans h
theorem GP.later (h:GP w R k X) (hb:Zi X Y):GP w R k Y :=
 ⟨h.le,h.ok,UX hb h.res,UX hb h.dep,h.txt.imp (fun _ hv=>UX hb hv),UX hb h.sep,UX hb h.T,h.below.trans (hb.mono (by have:=h.size;omega)),ZJ h.size hb.size⟩
theorem GP.Vz (h:GP w R k X) (hg:X.grownBy Y row) (hr:∀r,row=some r→w.heap.size+5≤r∧∃o:Obj,X.heap[r]?=some o∧o.isCells=false):GP w R k Y :=
 ⟨h.le,h.ok,h.res.kept hg (fun e=>by have:=(hr _ e.symm).1;omega),h.dep.kept hg (fun e=>by have:=(hr _ e.symm).1;omega),h.txt.imp (fun _ hv=>hv.kept hg (fun e=>by have:=(hr _ e.symm).1;omega)),h.sep.kept hg (fun e=>by have:=(hr _ e.symm).1;omega),h.T.kept hg (fun e=>by have:=(hr _ e.symm).1;omega),
  h.below.grown hg (by have:=h.size;omega) (fun q e=>by have:=(hr q e).1;omega),ZJ h.size hg.size⟩
theorem lQ.Vz (h:lQ w R X) (hg:X.grownBy Y row) (hr:∀r,row=some r→w.heap.size+5≤r∧∃o:Obj,X.heap[r]?=some o∧o.isCells=false):lQ w R Y :=
 ⟨h.no,h.res.kept hg (fun e=>by have:=(hr _ e.symm).1;omega),h.below.grown hg (by have:=h.size;omega) (fun q e=>by have:=(hr q e).1;omega),ZJ h.size hg.size⟩
theorem GP.put (h:GP w R k X) (v:Value):GP w R k (X.setCell ⟨w.heap.size+2,0,none⟩ v):=by
 obtain ⟨u,hu⟩:=h.txt;exact ⟨h.le,h.ok,h.res.other (by omega) _,h.dep.other (by omega) _,⟨v,hu.set v⟩,h.sep.other (by omega) _,h.T.other (by omega) _,h.below.setCell (by simp) _,by simpa using h.size⟩
theorem GP.step (h:GP w R k X) (hk:k<R.length) (ho:Gq (pN R k)=true):GP w R (k+1) (X.setCell ⟨w.heap.size+1,0,none⟩ (.int .i64 ((k+1:Nat):Int))):=by
 obtain ⟨u,hu⟩:=h.txt;refine ⟨hk,?_,h.res.other (by omega) _,h.dep.set _,⟨u,hu.other (by omega) _⟩,h.sep.other (by omega) _,h.T.other (by omega) _,h.below.setCell (by simp) _,by simpa using h.size⟩;rw [YW hk,List.all_append,h.ok];have e:pN R k=⟨R[k].toArray⟩:=by unfold pN;simp [List.getD,hk]
 rw [e] at ho
 simp [Ca,ho]
theorem GP.left (h:GP w R k X) (hk:k<R.length) (ho:Gq (pN R k)=false):lQ w R (X.setCell ⟨w.heap.size,0,none⟩ (.bool false)) :=
 ⟨oK hk ho,h.res.set _,h.below.setCell (by simp) _,by simpa using h.size⟩
theorem QV (h:Zi X Y):KeepsFrom B X Y:=⟨h.size,fun k _ _ hk _=>(h.block k (Z3.1 hk).1).trans hk⟩
def eu (w:World) (R:List (List UInt8)) (tm:Value→Array Value) (k:Nat) (a':Act) (W:World):Prop:=k<R.length∧GP w R k W∧a'={ tmps:=tm (.string (pN R k)),defers:=[] }
theorem Iy (w:World) (s:ByteArray) (hnr:(s.toList == [47])=false) (hs1:1≤s.size) (hs2:s.size≤102) (hb0:bN s 0=47) :
    Calls Tryz.prog 159 #[.string s] w fun e w'=>e=.returned (.bool (decide ((nm s).length≤6) && (nm s).all Ca))∧Zi w w':=by
 have h0:¬(102:Int)<(s.size:Int):=by omega
 have h1:(1:Int)≤(s.size:Int):=by omega
 have HB0:=ZU hb0;clear hb0;refine (YK (n:=6)).1 ?_;refine callsIn_of_wp_marks Tryz.func159 rfl trivial ?_ rfl
 simp only [Tryz.ntmps159,ZI,ZE,Y7,Nat.reduceAdd,Nat.reduceSub,YV,YU,YI,YT,Zd,Y3]
 gi_wp2_with fail
 refine ⟨trivial,?_⟩;refine (YK.2 (BZ _ s hs1)).mono ?_;rintro e w5 ⟨rfl,NG⟩;rw [Zm HB0.out];subst NG
 gi_wp2_with fail
 refine ⟨trivial,?_⟩;refine (Gh _ (by omega) (s.extract 1 s.size) _).mono ?_;rintro e w5 ⟨rfl,NG⟩
 gi_wp2_with fail
 have s5:w5.heap.size=w.heap.size+5:=by rw [NG];simp
 have HT0:Hid (Boxed w5 (w.heap.size+2) 9 (.string (s.extract 1 s.size))):=by
  rw [NG];have:=(((Boxed.new ((w.alloc (.cells #[.bool false] 4)).alloc (.cells #[.int .i64 0] 3)) 9 (.string (s.extract 1 s.size))).alloc (.cells #[.string ⟨#[47]⟩] 9)).alloc (.cells #[.int .i64 0] 3));rw [YF,YF] at this;exact this
 have HR:Hid (nm s=SS [] (s.extract 1 s.size).data.toList):=by
  show _=_;rw [RN];unfold nm yH
  congr 1
  rw [Y8 (by rw [ZS];exact YR)]
 have DF:Hid (GP w (nm s) 0 w5):=by
  have hsz:∀(X:World) (o:Obj),(X.alloc o).heap.size=X.heap.size+1:=fun X o=>YF X o
  refine ⟨Zu _,by simp,?_,?_,⟨_,HT0.out⟩,?_,?_,?_,by omega⟩
  · rw [NG];exact ((((Boxed.new w 4 (.bool false)).alloc _).alloc _).alloc _).alloc _
  · rw [NG]
    have:=(((Boxed.new (w.alloc (.cells #[.bool false] 4)) 3 (.int .i64 0)).alloc (.cells #[.string (s.extract 1 s.size)] 9)).alloc (.cells #[.string ⟨#[47]⟩] 9)).alloc (.cells #[.int .i64 0] 3)
    simpa using this
  · rw [NG]
    have:=(Boxed.new (((w.alloc (.cells #[.bool false] 4)).alloc (.cells #[.int .i64 0] 3)).alloc (.cells #[.string (s.extract 1 s.size)] 9)) 9 (.string ⟨#[47]⟩)).alloc (.cells #[.int .i64 0] 3)
    simpa using this
  · rw [NG]
    have:=Boxed.new ((((w.alloc (.cells #[.bool false] 4)).alloc (.cells #[.int .i64 0] 3)).alloc (.cells #[.string (s.extract 1 s.size)] 9)).alloc (.cells #[.string ⟨#[47]⟩] 9)) 3 (.int .i64 0)
    simpa using this
  rw [NG];exact ((((Yy.alloc YR _).alloc (by simp) _).alloc (by simp;omega) _).alloc (by simp;omega) _).alloc (by simp;omega) _
 rw [←NG];clear NG;have lP:Hid ((nm s).length≤103):=by have:=oL s;show _≤_;omega
 have lO:Hid ((s.extract 1 s.size).size≤1048576):=by show _≤_;simp;omega
 generalize s.extract 1 s.size=sx at *;generalize kU:nm s=R at HR DF lP;have J:=ZU kU;clear kU;refine Iz (F:=Fence.wide) (n:=6) rfl (by omega) (gf:=245) (lb:=#[.pointer (some ⟨w.heap.size+1+1+1,0,none⟩),.pointer (some ⟨w.heap.size+1+1,0,none⟩),.pointer (some ⟨w.heap.size+1+1+2,0,none⟩)]) rfl trivial (enters_of Tryz.func245 (by kernel_rfl) rfl)
  (fun k W=>GP w R k W) (fun k vs W=>k<R.length∧vs=#[sV (R.getD k [])]) (fun k _=>k+1) (fun X Y=>∀v,Boxed X (w.heap.size+2) 9 v→Boxed Y (w.heap.size+2) 9 v) (fun k=>k=R.length) (lQ w R)
  (fun _ X Y row hs hg hr=>hs.Vz hg (fun r e=>by have:=hr r e;rw [s5] at this;exact this)) 0
  (fun k X Y row hs hg hr=>hs.Vz hg (fun r e=>by have:=hr r e;rw [s5] at this;exact this)) (fun h1 h2 v hv=>h2 v (h1 v hv))
  (fun W l o o' hl ho _ _ v hv=>hv.kept (grownBy_putObj' W l o') (fun e=>by injection e with e;omega))
  (fun k vs W hp=>by rw [hp.2];rfl) DF.out
  (fun k vs a' W=>eu w R (fun p=>#[.string s,undef,.pointer (some ⟨w.heap.size,0,none⟩),.pointer (some ⟨w.heap.size+1,0,none⟩),p,.string s,.bool false,.string s,.int .i64 s.size,.bool false,.bool false,.string s,.bool true,.bool false,.bool false,.string s,.string sx,.func (.func 245) #[] #[.pointer (some ⟨w.heap.size+1+1+1,0,none⟩),.pointer (some ⟨w.heap.size+1+1,0,none⟩),.pointer (some ⟨w.heap.size+1+1+2,0,none⟩)],p,undef,undef,undef,undef,undef,undef,undef]) k a' W)
  ?ax ?assign ?body ?call ?done ?stop
 case ax =>
  rintro k vs a' _ X Y row ⟨h1,h2,h3⟩ hg hr;exact ⟨h1,h2.Vz hg (fun r e=>by have:=hr r e;rw [s5] at this;exact this),h3⟩
 case assign =>
  rintro l k vs W K hs ⟨hlt,rfl⟩ hK;have HS:=ZU hs;have HK:Hid (∀a' W',_→_→_→K a' W'):=hK;have ND:=ZU hlt;clear hs hK hlt;gi_wp2;refine HK.out _ _ (QV Yy) (fun v h=>h) ⟨ND.out,HS.out,rfl⟩
 case body =>
  rintro l k vs a' W ⟨hlt,hS,rfl⟩;have HS:=ZU hS;have ND:=ZU hlt;have hk:k≤103:=by have:=lP.out;omega
  clear hS hlt
  gi_wp2_with fail
  refine ⟨trivial,?_⟩;refine (YK.2 (J6 _ (pN R k))).mono ?_;rintro e w6 ⟨rfl,q,rfl⟩;have HS2:=ZU (HS.out.later (below_drewN' W q));have I:Hid (KeepsFrom (w.heap.size+5) W (W.drewN q)):=QV (below_drewN' W q);have ip:Hid (∀v,Boxed W (w.heap.size+2) 9 v→Boxed (W.drewN q) (w.heap.size+2) 9 v):=fun v hv=>UX (below_drewN' W q) hv
  have cR:=HS.out.res.cell;have fR:=HS.out.res.frozen;have cD:=HS.out.dep.cell;have fD:=HS.out.dep.frozen
  by_cases hok:Gq (pN R k)=true
  · have HST:Hid _:=HS2.out.step ND.out hok
    rw [hok];clear hok;gi_wp2;refine ⟨I.out.trans ((KeepsOthers.setCell _ _ _).from _),fun v hv=>(ip.out v hv).other (by omega) _,HST.out⟩
  have hok':Gq (pN R k)=false:=by simpa using hok
  have HST:Hid _:=HS2.out.left ND.out hok';rw [hok'];clear hok hok';gi_wp2;refine ⟨I.out.trans ((KeepsOthers.setCell _ _ _).from _),HST.out⟩
 case call =>
  intro Bk xK W1 sy ZB hY hb5 hsz5 hs0 hb0;refine (DG 5 (by omega) (w5.heap.size+1) (w.heap.size+2) (w.heap.size+3) (w.heap.size+4) R sx (fun k W=>GP w R k W) (lQ w R) Bk xK (fun k X Y hb h=>h.later hb) (fun X Y hb h=>sy X Y (QV hb) h) (fun k X v h=>h.put v) (fun X v h=>sy _ _ ((KeepsOthers.setCell _ _ _).from _) h) (fun k W h=>⟨h.sep.cell,h.T.cell⟩) (fun k vs W hs hb hp=>?_) W1 hs0 hb0 ?_ lO.out HR.out)
  · obtain ⟨fn,tm,Z6,bd,hy,hR⟩:=hY k vs W hs hb hp
    exact ⟨fn,tm,Z6,bd,hy,hR⟩
  exact (hb5.block _ (by omega)).trans HT0.out
 case done =>
  rintro D k W hD hfin hS hK;have V:=hfin;have hk:k≤103:=by have:=lP.out;omega
  have iO:Hid (R.all Ca=true):=by have:=hS.ok;rw [V,Xp] at this;exact this
  have ym:=ZU V;have hB:=hS.below;have zW:=hS.size;have cR:=hS.res.cell;have fR:=hS.res.frozen;have cD:=hS.dep.cell;have GO:=ZU hS.res;clear hS hfin V;gi_wp2;have BX:Zi w (W.setCell ⟨w.heap.size,0,none⟩ (.bool (decide ((k:Int)≤6)))):=hB.setCell (by simp) _;have hK2:(W.setCell ⟨w.heap.size,0,none⟩ (.bool (decide ((k:Int)≤6)))).heap[D]?=some (.deferred (some [])):=(KeepsOthers.setCell _ _ _).same D _ hK rfl;have RX:Boxed (W.setCell ⟨w.heap.size,0,none⟩ (.bool (decide ((k:Int)≤6)))) w.heap.size 4 (.bool (decide ((k:Int)≤6))):=GO.out.set _;have SX:(W.setCell ⟨w.heap.size,0,none⟩ (.bool (decide ((k:Int)≤6)))).heap.size=W.heap.size:=by simp
  refine ⟨by simp,.inl ⟨_,_,rfl,run_takeDeferred hK2,?_⟩⟩;generalize W.setCell _ _=X at *;have GX:=grownBy_putObj' X D (.deferred none);have y0:=(RX.kept GX (by simp;omega)).cell;have BF:=BX.grown GX (by omega) (fun q e=>by injection e with e;omega);generalize X.putObj D (.deferred none)=Z at *;refine ⟨.bool (decide ((k:Int)≤6)),?_,?_,BF⟩
  · simp [results,Tryz.results159,go_sem,y0]
  refine Ws ?_;rw [J.out,iO.out,←ym.out,Bool.and_true];apply UQ.2;omega
 case stop =>
  rintro D W hD hS hK;have zW:=hS.size;have HX:=ZU hS;clear hS;gi_wp2;refine ⟨by simp,.inl ⟨_,_,rfl,run_takeDeferred hK,?_⟩⟩;have GX:=grownBy_putObj' W D (.deferred none);have y0:=(HX.out.res.kept GX (by simp;omega)).cell;have BF:=HX.out.below.grown GX (by omega) (fun q e=>by injection e with e;omega);have ST:=ZU HX.out.no;generalize W.putObj D (.deferred none)=Z at *;refine ⟨.bool false,?_,?_,BF⟩
  · simp [results,Tryz.results159,go_sem,y0]
  refine Ws ?_;rw [J.out,ST.out,VE]
theorem Qd (w:World) (s:ByteArray) :
    Calls Tryz.prog 159 #[.string s] w (Wj w (.bool (Xi s))):=by
 by_cases hr:s.data.toList=[47]
 · have hrt:(s.toList == [47])=true:=by rw [YG,hr];rfl
   have HP:=ZU (Gn hr);clear hr
   go_enter Tryz.func159,Tryz.ntmps159
   go_wp2;refine ZW (v:=.bool true) ?_ rfl ?_
   · simp [results,Tryz.results159,go_sem]
   exact ⟨Ws HP.out.symm,Yy.alloc YR _⟩
 have hrt:(s.toList == [47])=false:=by rw [YG,YH];exact hr
 have HP:=ZU (Lk hr)
 by_cases hl:102<s.size
 · have eP:(102:Int)<(s.size:Int):=by omega
   have yF:=ZU (Gg hl);clear hr HP
   go_enter Tryz.func159,Tryz.ntmps159
   go_wp2;refine ZW (v:=.bool false) ?_ rfl ?_
   · simp [results,Tryz.results159,go_sem]
   exact ⟨Ws yF.out.symm,Yy.alloc YR _⟩
 have eP:¬(102:Int)<(s.size:Int):=by omega
 by_cases h0:s.size=0
 · have yF:Hid (Xi s=false):=by show _=_;rw [HP.out,Zo (by omega)];rfl
   have HZ:=ZU h0;clear hr HP h0
   go_enter Tryz.func159,Tryz.ntmps159
   go_wp2_with fail
   refine (pre_none _ s HZ.out).mono ?_;rintro e w5 ⟨rfl,rfl⟩;go_wp2;refine ZW (v:=.bool false) ?_ rfl ?_
   · simp [results,Tryz.results159,go_sem]
   exact ⟨Ws yF.out.symm,Yy.alloc YR _⟩
 by_cases hb:bN s 0=47
 · have h2:2≤s.size:=by
    by_cases h2:2≤s.size
    · exact h2
    exfalso
    apply hr;have h3:s.data.toList.length=1:=by show s.size=1;omega
    unfold bN at hb
    cases e:s.data.toList with
    | nil=>rw [e] at h3;cases h3
    | cons x l =>
     rw [e] at h3 hb
     cases l with
     | nil=>simp only [XM] at hb;rw [show x=47 from UInt8.toNat_inj.1 hb]
     | cons y l=>simp at h3
   have:=Iy w s hrt (by omega) (by omega) hb;rw [HP.out,Zm h2,Zm hb];exact this
 have yF:Hid (Xi s=false):=by show _=_;rw [HP.out,Zo hb,VE];rfl
 have Z5:=ZU (Zo hb);clear hr HP hb
 go_enter Tryz.func159,Tryz.ntmps159
 go_wp2_with fail
 refine (BZ _ s (by omega)).mono ?_;rintro e w5 ⟨rfl,rfl⟩;rw [Z5.out];go_wp2;refine ZW (v:=.bool false) ?_ rfl ?_
 · simp [results,Tryz.results159,go_sem]
 exact ⟨Ws yF.out.symm,Yy.alloc YR _⟩
structure Nd where
 path:ByteArray
 data:ByteArray
 XT:Int
 XQ:Int
 cz:Int
 mz:Int
 pz:Int
def Uu (n:Nd):List Value:=[.string n.path,.string n.data,.int .i64 n.XT,.int .i64 n.XQ,.int .i64 n.cz,.int .i64 n.mz,.int .i64 n.pz]
def nd0:Nd:=⟨ByteArray.empty,ByteArray.empty,0,0,0,0,0⟩
def Ye (ns:List Nd) (i:Nat):Nd:=ns.getD i nd0
theorem WF {ns:List Nd} (h:i<ns.length):Ye ns i=ns[i]:=by unfold Ye;simp [List.getD,h]
structure Um (w:World) (b p:Nat) (n:Nd):Prop where
 c0:w.cell? ⟨b,p,none⟩=some (.string n.path)
 c1:w.cell? ⟨b,p+1,none⟩=some (.string n.data)
 c2:w.cell? ⟨b,p+2,none⟩=some (.int .i64 n.XT)
 c3:w.cell? ⟨b,p+3,none⟩=some (.int .i64 n.XQ)
 c4:w.cell? ⟨b,p+4,none⟩=some (.int .i64 n.cz)
 c5:w.cell? ⟨b,p+5,none⟩=some (.int .i64 n.mz)
 c6:w.cell? ⟨b,p+6,none⟩=some (.int .i64 n.pz)
theorem Um.below {n:Nd} (h:Um w b p n) (hb:Below m w w') (hl:b<m):Um w' b p n :=
 ⟨(hb.cell (p:=⟨b,_,none⟩) hl).trans h.c0,(hb.cell (p:=⟨b,_,none⟩) hl).trans h.c1,(hb.cell (p:=⟨b,_,none⟩) hl).trans h.c2,(hb.cell (p:=⟨b,_,none⟩) hl).trans h.c3,
  (hb.cell (p:=⟨b,_,none⟩) hl).trans h.c4,(hb.cell (p:=⟨b,_,none⟩) hl).trans h.c5,(hb.cell (p:=⟨b,_,none⟩) hl).trans h.c6⟩
def SK (w:World) (v:Value) (ns:List Nd):Prop :=
 ∃ao cap,v=.slice ao ns.length cap∧ns.length≤cap∧cap≤maxLen ∧
  (ns=[]∨∃b off,ao=some ⟨b,off,none⟩∧b<w.heap.size∧∀i,i<ns.length→Um w b (off+i*7) (Ye ns i))
theorem SK.len {ns:List Nd} (h:SK w v ns):∃ao cap,v=.slice ao ns.length cap∧ns.length≤cap∧cap≤maxLen:=by
 obtain ⟨ao,cap,h0,h1,h2,_⟩:=h;exact ⟨ao,cap,h0,h1,h2⟩
theorem SK.below {ns:List Nd} (h:SK w v ns) (hb:Zi w w'):SK w' v ns:=by
 obtain ⟨ao,cap,rfl,h1,h2,h3⟩:=h;refine ⟨ao,cap,rfl,h1,h2,?_⟩
 rcases h3 with h3 | ⟨b,off,rfl,hlt,hc⟩
 · exact .inl h3
 exact .inr ⟨b,off,rfl,ZY hlt hb.size,fun i hi=>(hc i hi).below hb hlt⟩
def YE (ns:List Nd):List Value:=ns.flatMap Uu
theorem Ut (n:Nd) (ns:List Nd):YE (n :: ns)=Uu n++YE ns:=by simp [YE]
theorem Wc (ns ms:List Nd):YE (ns++ms)=YE ns++YE ms:=by simp [YE]
theorem Xw:∀ns:List Nd,(YE ns).length=ns.length*7
 | []=>rfl
 | n :: ns=>by rw [Ut,ZZ,Xw ns,ZE];show 7+_=_;omega
theorem NA:∀(ns:List Nd) (i j:Nat),i<ns.length→j<7→(YE ns)[i*7+j]?=(Uu (Ye ns i))[j]?
 | [],i,j,h,_=>by simp at h
 | n :: ns,0,j,_,hj=>by
  rw [Ut,Xg,Za,Zy (by show j<7;exact hj)];rfl
 | n :: ns,i+1,j,h,hj=>by
  rw [Ut,Zv (by show 7≤_;omega),show (i+1)*7+j - (Uu n).length=i*7+j by show (i+1)*7+j - 7=_;omega,NA ns i j (by simpa using h) hj]
  rfl
def XU (e:TypeId) (w:World) (lo:Nat) (v:Value) (ns:List Nd):Prop:=w.ownsRow lo e 7 v ns.length (YE ns)
theorem XU.rd {ns:List Nd} (h:XU e w lo v ns):SK w v ns:=by
 rcases h.2 with ⟨rfl,h0⟩ | ⟨g,cap,cur,rfl,hb,hg,hn,hm,hs,ht⟩
 · have:ns=[]:=Zg h0
   subst this;exact ⟨none,0,rfl,YR,Zu _,.inl rfl⟩
 refine ⟨_,cap,rfl,hn,hm,.inr ⟨g,0,rfl,(Z3.1 hg).1,fun i hi=>?_⟩⟩;have c:∀j,j<7→w.cell? ⟨g,0+(i*7+j),none⟩=(Uu (Ye ns i))[j]?:=fun j hj=>by
  have hh:=NA ns i j hi hj;have h9:(Uu (Ye ns i))[j]?=some ((Uu (Ye ns i)).getD j undef):=by
   match j,hj with
   | 0,_=>rfl
   | 1,_=>rfl
   | 2,_=>rfl
   | 3,_=>rfl
   | 4,_=>rfl
   | 5,_=>rfl
   | 6,_=>rfl
  rw [h9] at hh;have:=Ys h (g:=g) rfl (i*7+j) _ hh;rw [YY] at this;rw [this,h9]
 exact ⟨c 0 (by omega),c 1 (by omega),c 2 (by omega),c 3 (by omega),c 4 (by omega),c 5 (by omega),c 6 (by omega)⟩
theorem XU.below {ns:List Nd} (h:XU e w lo v ns) (hb:Zi w w'):XU e w' lo v ns:=by
 refine ⟨h.1,?_⟩
 rcases h.2 with hn | ⟨g,cap,cur,rfl,hbg,hgg,rest⟩
 · exact .inl hn
 exact .inr ⟨g,cap,cur,rfl,hbg,by rw [hb.block g (Z3.1 hgg).1];exact hgg,rest⟩
theorem XU.mono {lo':Nat} {ns:List Nd} (h:XU e w lo v ns) (hl:lo'≤lo):XU e w lo' v ns:=by
 refine ⟨h.1,?_⟩
 rcases h.2 with hn | ⟨g,cap,cur,rfl,hbg,rest⟩
 · exact .inl hn
 exact .inr ⟨g,cap,cur,rfl,ZJ hl hbg,rest⟩
theorem XU.slice {ns:List Nd} (h:XU e w lo v ns):∃a c,v=.slice a ns.length c:=by
 obtain ⟨a,c,h0,_⟩:=h.rd.len;exact ⟨a,c,h0⟩
@[reducible] def iN (W:World) (b:Nat) (n:Nd):Prop:=W.cell? ⟨b,0,none⟩=some (.string n.path)∧W.cell? ⟨b,1,none⟩=some (.string n.data)∧W.cell? ⟨b,2,none⟩=some (.int .i64 n.XT)∧W.cell? ⟨b,3,none⟩=some (.int .i64 n.XQ)∧W.cell? ⟨b,4,none⟩=some (.int .i64 n.cz)∧W.cell? ⟨b,5,none⟩=some (.int .i64 n.mz)∧W.cell? ⟨b,6,none⟩=some (.int .i64 n.pz)
theorem Tryz.Mi:(Tryz.prog.info? 147).map (fun i=>(i.zero,i.size,i.bytes))=some (some (.agg #[.string ByteArray.empty,.string ByteArray.empty,.int .i64 0,.int .i64 0,.int .i64 0,.int .i64 0,.int .i64 0]),7,72):=by kernel_rfl
theorem XU.VA {ns:List Nd} (h:XU e w lo v ns) {a:Addr} (ha:a.block<lo) (u:Value):XU e (w.setCell a u) lo v ns:=ownsRow_setCell_below h ha u
structure Ef where
 del:Bool
 nd:Nd
def GN (e:Ef):List Value:=[.bool e.del,.string e.nd.path,.string e.nd.data,.int .i64 e.nd.XT,.int .i64 e.nd.XQ,.int .i64 e.nd.cz,.int .i64 e.nd.mz,.int .i64 e.nd.pz]
def eN:Ef:=⟨false,nd0⟩
def Vr (ns:List Ef) (i:Nat):Ef:=ns.getD i eN
theorem Nz {ns:List Ef} (h:i<ns.length):Vr ns i=ns[i]:=by unfold Vr;simp [List.getD,h]
structure PD (w:World) (b p:Nat) (n:Ef):Prop where
 c0:w.cell? ⟨b,p,none⟩=some (.bool n.del)
 c1:w.cell? ⟨b,p+1,none⟩=some (.string n.nd.path)
 c2:w.cell? ⟨b,p+2,none⟩=some (.string n.nd.data)
 c3:w.cell? ⟨b,p+3,none⟩=some (.int .i64 n.nd.XT)
 c4:w.cell? ⟨b,p+4,none⟩=some (.int .i64 n.nd.XQ)
 c5:w.cell? ⟨b,p+5,none⟩=some (.int .i64 n.nd.cz)
 c6:w.cell? ⟨b,p+6,none⟩=some (.int .i64 n.nd.mz)
 c7:w.cell? ⟨b,p+7,none⟩=some (.int .i64 n.nd.pz)
theorem PD.below {n:Ef} (h:PD w b p n) (hb:Below m w w') (hl:b<m):PD w' b p n :=
 ⟨(hb.cell (p:=⟨b,_,none⟩) hl).trans h.c0,(hb.cell (p:=⟨b,_,none⟩) hl).trans h.c1,(hb.cell (p:=⟨b,_,none⟩) hl).trans h.c2,(hb.cell (p:=⟨b,_,none⟩) hl).trans h.c3,(hb.cell (p:=⟨b,_,none⟩) hl).trans h.c4,(hb.cell (p:=⟨b,_,none⟩) hl).trans h.c5,(hb.cell (p:=⟨b,_,none⟩) hl).trans h.c6,(hb.cell (p:=⟨b,_,none⟩) hl).trans h.c7⟩
def Gf (w:World) (v:Value) (ns:List Ef):Prop :=
 ∃ao cap,v=.slice ao ns.length cap∧ns.length≤cap∧cap≤maxLen ∧
  (ns=[]∨∃b off,ao=some ⟨b,off,none⟩∧b<w.heap.size∧∀i,i<ns.length→PD w b (off+i*8) (Vr ns i))
theorem Gf.len {ns:List Ef} (h:Gf w v ns):∃ao cap,v=.slice ao ns.length cap∧ns.length≤cap∧cap≤maxLen:=by
 obtain ⟨ao,cap,h0,h1,h2,_⟩:=h;exact ⟨ao,cap,h0,h1,h2⟩
theorem Gf.below {ns:List Ef} (h:Gf w v ns) (hb:Zi w w'):Gf w' v ns:=by
 obtain ⟨ao,cap,rfl,h1,h2,h3⟩:=h;refine ⟨ao,cap,rfl,h1,h2,?_⟩
 rcases h3 with h3 | ⟨b,off,rfl,hlt,hc⟩
 · exact .inl h3
 exact .inr ⟨b,off,rfl,ZY hlt hb.size,fun i hi=>(hc i hi).below hb hlt⟩
def MR (ns:List Ef):List Value:=ns.flatMap GN
theorem Jr (n:Ef) (ns:List Ef):MR (n :: ns)=GN n++MR ns:=by simp [MR]
theorem Ge (ns ms:List Ef):MR (ns++ms)=MR ns++MR ms:=by simp [MR]
theorem Gd:∀(ns:List Ef) (i j:Nat),i<ns.length→j<8→(MR ns)[i*8+j]?=(GN (Vr ns i))[j]?
 | [],i,j,h,_=>by simp at h
 | n :: ns,0,j,_,hj=>by
  rw [Jr,Xg,Za,Zy (by show j<8;exact hj)];rfl
 | n :: ns,i+1,j,h,hj=>by
  rw [Jr,Zv (by show 8≤_;omega),show (i+1)*8+j - (GN n).length=i*8+j by show (i+1)*8+j - 8=_;omega,Gd ns i j (by simpa using h) hj]
  rfl
def UM (e:TypeId) (w:World) (lo:Nat) (v:Value) (ns:List Ef):Prop:=w.ownsRow lo e 8 v ns.length (MR ns)
theorem UM.rd {ns:List Ef} (h:UM e w lo v ns):Gf w v ns:=by
 rcases h.2 with ⟨rfl,h0⟩ | ⟨g,cap,cur,rfl,hb,hg,hn,hm,hs,ht⟩
 · have:ns=[]:=Zg h0
   subst this;exact ⟨none,0,rfl,YR,Zu _,.inl rfl⟩
 refine ⟨_,cap,rfl,hn,hm,.inr ⟨g,0,rfl,(Z3.1 hg).1,fun i hi=>?_⟩⟩;have c:∀j,j<8→w.cell? ⟨g,0+(i*8+j),none⟩=(GN (Vr ns i))[j]?:=fun j hj=>by
  have hh:=Gd ns i j hi hj;have h9:(GN (Vr ns i))[j]?=some ((GN (Vr ns i)).getD j undef):=by
   match j,hj with
   | 0,_=>rfl
   | 1,_=>rfl
   | 2,_=>rfl
   | 3,_=>rfl
   | 4,_=>rfl
   | 5,_=>rfl
   | 6,_=>rfl
   | 7,_=>rfl
  rw [h9] at hh;have:=Ys h (g:=g) rfl (i*8+j) _ hh;rw [YY] at this;rw [this,h9]
 exact ⟨c 0 (by omega),c 1 (by omega),c 2 (by omega),c 3 (by omega),c 4 (by omega),c 5 (by omega),c 6 (by omega),c 7 (by omega)⟩
theorem UM.below {ns:List Ef} (h:UM e w lo v ns) (hb:Zi w w'):UM e w' lo v ns:=by
 refine ⟨h.1,?_⟩
 rcases h.2 with hn | ⟨g,cap,cur,rfl,hbg,hgg,rest⟩
 · exact .inl hn
 exact .inr ⟨g,cap,cur,rfl,hbg,by rw [hb.block g (Z3.1 hgg).1];exact hgg,rest⟩
@[reducible] def iM (W:World) (b:Nat) (n:Ef):Prop:=W.cell? ⟨b,0,none⟩=some (.bool n.del)∧W.cell? ⟨b,1,none⟩=some (.string n.nd.path)∧W.cell? ⟨b,2,none⟩=some (.string n.nd.data)∧W.cell? ⟨b,3,none⟩=some (.int .i64 n.nd.XT)∧W.cell? ⟨b,4,none⟩=some (.int .i64 n.nd.XQ)∧W.cell? ⟨b,5,none⟩=some (.int .i64 n.nd.cz)∧W.cell? ⟨b,6,none⟩=some (.int .i64 n.nd.mz)∧W.cell? ⟨b,7,none⟩=some (.int .i64 n.nd.pz)
theorem XU.kT {j:Nat} {ns:List Nd} (h:XU 147 w lo v ns) (hn:v.ownBlock≠some b) (u:Value):XU 147 (w.setCell ⟨b,j,none⟩ u) lo v ns:=Zn h (grownBy_set _ _ _ _ _ (Zz _ _)) (.inr hn)
theorem UM.QU {es:List Ef} (h:UM e w lo v es):∃a c,v=.slice a es.length c:=by
 obtain ⟨a,c,h0,_⟩:=(UM.rd h).len;exact ⟨a,c,h0⟩
theorem XU.QU {ns:List Nd} (h:XU e w lo v ns):∃a c,v=.slice a ns.length c:=by
 obtain ⟨a,c,h0,_⟩:=h.rd.len;exact ⟨a,c,h0⟩
def PP (v:Int):Bool:=decide (0≤v) && decide (v≤2147483647)
def Wl (n:Nd):Bool:=Xi n.path && decide (n.data.size≤64) && PP n.XT && PP n.XQ && PP n.cz && PP n.mz && PP n.pz
theorem Rc (w:World) (v:Int):Calls Tryz.prog 143 #[.int .i64 v] w fun e w'=>e=.returned (.bool (PP v))∧w'=w:=by
 by_cases h1:0≤v
 · by_cases h2:v≤2147483647
   · have HO:Hid (PP v=true):=by show _=_;unfold PP;rw [Zm h1,Zm h2];rfl
     go_enter Tryz.func143,Tryz.ntmps143
     go_wp2;go_ret;exact ⟨Ws HO.out.symm,rfl⟩
   have HO:Hid (PP v=false):=by show _=_;unfold PP;rw [Zo h2];simp
   go_enter Tryz.func143,Tryz.ntmps143
   go_wp2;go_ret;exact ⟨Ws HO.out.symm,rfl⟩
 have HO:Hid (PP v=false):=by show _=_;unfold PP;rw [Zo h1];rfl
 go_enter Tryz.func143,Tryz.ntmps143
 go_wp2;go_ret;exact ⟨Ws HO.out.symm,rfl⟩
structure MQ (w:World) (B:Nat) (n:Nd):Prop where
 lt:B<w.heap.size
 c0:w.cell? ⟨B,0,none⟩=some (.string n.path)
 c1:w.cell? ⟨B,1,none⟩=some (.string n.data)
 c2:w.cell? ⟨B,2,none⟩=some (.int .i64 n.XT)
 c3:w.cell? ⟨B,3,none⟩=some (.int .i64 n.XQ)
 c4:w.cell? ⟨B,4,none⟩=some (.int .i64 n.cz)
 c5:w.cell? ⟨B,5,none⟩=some (.int .i64 n.mz)
 c6:w.cell? ⟨B,6,none⟩=some (.int .i64 n.pz)
theorem MQ.new (w:World) (n:Nd) (t:TypeId):MQ (w.alloc (.cells #[.string n.path,.string n.data,.int .i64 n.XT,.int .i64 n.XQ,.int .i64 n.cz,.int .i64 n.mz,.int .i64 n.pz] t)) w.heap.size n :=
 ⟨by simp,by simp,by simp,by simp,by simp,by simp,by simp,by simp⟩
theorem MQ.below {n:Nd} (h:MQ w B n) (hb:Zi w w'):MQ w' B n :=
 ⟨ZY h.lt hb.size,(hb.cell (p:=⟨B,_,none⟩) h.lt).trans h.c0,(hb.cell (p:=⟨B,_,none⟩) h.lt).trans h.c1,(hb.cell (p:=⟨B,_,none⟩) h.lt).trans h.c2,(hb.cell (p:=⟨B,_,none⟩) h.lt).trans h.c3,
  (hb.cell (p:=⟨B,_,none⟩) h.lt).trans h.c4,(hb.cell (p:=⟨B,_,none⟩) h.lt).trans h.c5,(hb.cell (p:=⟨B,_,none⟩) h.lt).trans h.c6⟩
theorem Qc (w:World) (n:Nd) (hd:n.data.size≤1048576) :
    Calls Tryz.prog 140 #[.agg #[.string n.path,.string n.data,.int .i64 n.XT,.int .i64 n.XQ,.int .i64 n.cz,.int .i64 n.mz,.int .i64 n.pz]] w (Wj w (.bool (Wl n))):=by
 have X0:Hid (MQ (w.alloc (.cells #[.string n.path,.string n.data,.int .i64 n.XT,.int .i64 n.XQ,.int .i64 n.cz,.int .i64 n.mz,.int .i64 n.pz] 147)) w.heap.size n):=MQ.new _ _ _;have B0:Hid (Zi w (w.alloc (.cells #[.string n.path,.string n.data,.int .i64 n.XT,.int .i64 n.XQ,.int .i64 n.cz,.int .i64 n.mz,.int .i64 n.pz] 147))):=Yy.alloc YR _
 go_enter Tryz.func140,Tryz.ntmps140
 go_wp2_with fail
 generalize w.alloc _=w0 at *;refine (Qd _ n.path).mono ?_;rintro e w1 ⟨rfl,b1⟩;have B1:=ZU (WD B0.out b1);obtain ⟨-,c0,c1,c2,c3,c4,c5,c6⟩:=X0.out.below b1
 cases hP:Xi n.path with
 | false =>
  have HO:Hid (Wl n=false):=by show _=_;unfold Wl;rw [hP];simp
  go_wp2;go_ret;exact ⟨Ws HO.out.symm,B1.out⟩
 | true =>
  have HP:=ZU hP
  by_cases hD:64<n.data.size
  · have Z4:(64:Int)<(n.data.size:Int):=by omega
    have HO:Hid (Wl n=false):=by show _=_;unfold Wl;rw [Zo (show ¬n.data.size≤64 by omega)];simp
    go_wp2;go_ret;exact ⟨Ws HO.out.symm,B1.out⟩
  have Z4:¬(64:Int)<(n.data.size:Int):=by omega
  have oI:=ZU (Zm (show n.data.size≤64 by omega))
  go_wp2_with fail
  refine (Rc _ n.XT).mono ?_;rintro e w2 ⟨rfl,rfl⟩
  cases Gc:PP n.XT with
  | false =>
   have HO:Hid (Wl n=false):=by show _=_;unfold Wl;rw [Gc];simp
   go_wp2;go_ret;exact ⟨Ws HO.out.symm,B1.out⟩
  | true =>
   have M:=ZU Gc
   go_wp2_with fail
   refine (Rc _ n.XQ).mono ?_;rintro e w2 ⟨rfl,rfl⟩
   cases Li:PP n.XQ with
   | false =>
    have HO:Hid (Wl n=false):=by show _=_;unfold Wl;rw [Li];simp
    go_wp2;go_ret;exact ⟨Ws HO.out.symm,B1.out⟩
   | true =>
    have O:=ZU Li
    go_wp2_with fail
    refine (Rc _ n.cz).mono ?_;rintro e w2 ⟨rfl,rfl⟩
    cases xI:PP n.cz with
    | false =>
     have HO:Hid (Wl n=false):=by show _=_;unfold Wl;rw [xI];simp
     go_wp2;go_ret;exact ⟨Ws HO.out.symm,B1.out⟩
    | true =>
     have G:=ZU xI
     go_wp2_with fail
     refine (Rc _ n.mz).mono ?_;rintro e w2 ⟨rfl,rfl⟩
     cases xH:PP n.mz with
     | false =>
      have HO:Hid (Wl n=false):=by show _=_;unfold Wl;rw [xH];simp
      go_wp2;go_ret;exact ⟨Ws HO.out.symm,B1.out⟩
     | true =>
      have C:=ZU xH
      go_wp2_with fail
      refine (Rc _ n.pz).mono ?_;rintro e w2 ⟨rfl,rfl⟩
      cases xG:PP n.pz with
      | false =>
       have HO:Hid (Wl n=false):=by show _=_;unfold Wl;rw [xG];simp
       go_wp2;go_ret;exact ⟨Ws HO.out.symm,B1.out⟩
      | true =>
       have Z':=ZU xG;have HO:Hid (Wl n=true):=by show _=_;unfold Wl;rw [HP.out,oI.out,M.out,O.out,G.out,C.out,Z'.out];rfl
       go_wp2;go_ret;exact ⟨Ws HO.out.symm,B1.out⟩
theorem Um.all {n:Nd} (h:Um w b p n):w.cell? ⟨b,p,none⟩=some (.string n.path)∧w.cell? ⟨b,p+1,none⟩=some (.string n.data)∧w.cell? ⟨b,p+2,none⟩=some (.int .i64 n.XT)∧w.cell? ⟨b,p+3,none⟩=some (.int .i64 n.XQ)∧w.cell? ⟨b,p+4,none⟩=some (.int .i64 n.cz)∧w.cell? ⟨b,p+5,none⟩=some (.int .i64 n.mz)∧w.cell? ⟨b,p+6,none⟩=some (.int .i64 n.pz):=⟨h.c0,h.c1,h.c2,h.c3,h.c4,h.c5,h.c6⟩
theorem Oi:∀x y:List UInt8,(!(Op.bytesLess x y))=(Op.bytesLess y x || y == x)
 | [],[]=>by simp [Op.bytesLess]
 | [],b :: y=>by simp [Op.bytesLess]
 | a :: x,[]=>by simp [Op.bytesLess]
 | a :: x,b :: y=>by
  have ih:=Oi x y;unfold Op.bytesLess
  by_cases h1:a<b
  · have h2:¬b<a:=fun h=>absurd (UInt8.lt_trans h1 h) (Vj a)
    have h3:¬b=a:=fun h=>by subst h;exact Vj _ h1
    simp [h1,h2,h3]
  by_cases h2:b<a
  · have h3:¬b=a:=fun h=>by subst h;exact Vj _ h2
    have h4:¬a=b:=fun h=>h3 h.symm
    simp [h1,h2,h4]
  have h3:=TC (UInt8.not_lt.1 h2) (UInt8.not_lt.1 h1);subst h3
  simp only [Vj,decide_false,beq_self_eq_true,Bool.false_or,Xz,List.cons_beq_cons]
  exact ih
def Ty (a b:ByteArray):Bool:=Op.bytesLess a.toList b.toList
theorem Ix {b:ByteArray} (h:Ty a b=true):Op.bytesLess b.toList a.toList=false∧(b.toList == a.toList)=false:=by
 have:=Oi a.toList b.toList;unfold Ty at h;rw [h] at this
 simpa using this
theorem oH {b:ByteArray} (h:Ty a b=false):Op.bytesLess b.toList a.toList=true∨(Op.bytesLess b.toList a.toList=false∧(b.toList == a.toList)=true):=by
 have:=Oi a.toList b.toList;unfold Ty at h;rw [h] at this
 cases h1:Op.bytesLess b.toList a.toList with
 | true=>exact .inl rfl
 | false=>rw [h1] at this;exact .inr ⟨rfl,by simpa using this⟩
def MP (ns:List Nd) (k:Nat):Bool:=Wl (Ye ns k) && (decide (k=0) || Ty (Ye ns (k - 1)).path (Ye ns k).path)
def TY (ns:List Nd):Bool:=(List.range ns.length).all (MP ns)
def WE (ns:List Nd):Bool:=decide (ns.length≤1000) && TY ns
theorem Jq {ns:List Nd} (h:k<ns.length) (hn:MP ns k=false):TY ns=false:=by
 unfold TY;rw [VQ];exact ⟨k,Yb.2 h,by rw [hn];simp⟩
theorem Lh {ns:List Nd} (h:∀k,k<ns.length→MP ns k=true):TY ns=true:=by
 unfold TY;rw [Yw];exact fun k hk=>h k (Yb.1 hk)
theorem Jp (ns:List Nd):MP ns 0=Wl (Ye ns 0):=by unfold MP;simp
theorem Pc (ns:List Nd) (j:Nat):MP ns (j+1)=(Wl (Ye ns (j+1)) && Ty (Ye ns j).path (Ye ns (j+1)).path):=by unfold MP;simp
theorem MQ.all {n:Nd} (h:MQ w B n):w.cell? ⟨B,0,none⟩=some (.string n.path)∧w.cell? ⟨B,1,none⟩=some (.string n.data)∧w.cell? ⟨B,2,none⟩=some (.int .i64 n.XT)∧w.cell? ⟨B,3,none⟩=some (.int .i64 n.XQ)∧w.cell? ⟨B,4,none⟩=some (.int .i64 n.cz)∧w.cell? ⟨B,5,none⟩=some (.int .i64 n.mz)∧w.cell? ⟨B,6,none⟩=some (.int .i64 n.pz):=⟨h.c0,h.c1,h.c2,h.c3,h.c4,h.c5,h.c6⟩
theorem Iw (w:World) (b o n cap:Nat) (ns:List Nd) (hp:ns.length=n) (hn:n≤1000) (hb:b<w.heap.size) (hsz:∀i,(Ye ns i).path.size≤1048576∧(Ye ns i).data.size≤1048576)
    (hc:∀i,i<n→Um w b (o+i*7) (Ye ns i)) :
    Calls Tryz.prog 93 #[.agg #[.slice (some ⟨b,o,none⟩) n cap]] w (Wj w (.bool (TY ns))):=by
 have HC:=ZU hc;have HP:=ZU hp;have HZ:=ZU hsz;have xF:¬(1000:Int)<(n:Int):=by omega
 clear hc hp hsz;have B0:Hid (Zi w (w.alloc (.cells #[.slice (some ⟨b,o,none⟩) n cap] 63))):=Yy.alloc YR _;have c00:Hid ((w.alloc (.cells #[.slice (some ⟨b,o,none⟩) n cap] 63)).cell? ⟨w.heap.size,0,none⟩=some (.slice (some ⟨b,o,none⟩) n cap)):=by show _=_;simp
 have z0:w.heap.size<(w.alloc (.cells #[.slice (some ⟨b,o,none⟩) n cap] 63)).heap.size:=by simp
 go_enter Tryz.func93,Tryz.ntmps93
 go_wp2;generalize w.alloc _=w0 at *
 go_loopw [12] (fun i wr=>∃k:Nat,k≤n∧i=.int .i64 k∧Hid (∀t,t<k→MP ns t=true)∧Hid (Zi w0 wr)) (fun i _=>n - (intOf i).toNat)
 case atStart=>exact ⟨0,Zu _,rfl,(fun t ht=>by omega),Yy⟩
 case round =>
  obtain ⟨k,hk,rfl,HA,HG⟩:=hrel;have xE:=ZU (B0.out.trans (HG.out.mono (by omega)))
  by_cases hlt:k<n
  · have Rj:(k:Int)<(n:Int):=by omega
    have g0:(0:Int)≤(k:Int):=by omega
    have ND:Hid (k<ns.length):=by rw [HP.out];exact hlt
    obtain ⟨c0,c1,c2,c3,c4,c5,c6⟩:=(HC.out k hlt).below xE.out hb;have XN:Hid (MQ (wr.alloc (.cells #[.string (Ye ns k).path,.string (Ye ns k).data,.int .i64 (Ye ns k).XT,.int .i64 (Ye ns k).XQ,.int .i64 (Ye ns k).cz,.int .i64 (Ye ns k).mz,.int .i64 (Ye ns k).pz] 147)) wr.heap.size (Ye ns k)):=MQ.new _ _ _;have BN:Hid (Zi wr (wr.alloc (.cells #[.string (Ye ns k).path,.string (Ye ns k).data,.int .i64 (Ye ns k).XT,.int .i64 (Ye ns k).XQ,.int .i64 (Ye ns k).cz,.int .i64 (Ye ns k).mz,.int .i64 (Ye ns k).pz] 147))):=Yy.alloc YR _;go_wp2;clear c0 c1 c2 c3 c4 c5 c6;generalize wr.alloc _=wn at *;have zr:=HG.out.size;obtain ⟨B,hB⟩:∃B,B=wr.heap.size:=⟨_,rfl⟩;rw [←hB] at XN;rw [←hB];have Az:Hid (∀W,Zi wn W→Zi w W):=fun W hW=>(WD xE.out BN.out).trans (hW.mono (ZJ xE.out.size BN.out.size))
    have oG:Hid (∀W,Zi wn W→Hid (Zi w0 W)):=fun W hW=>(WD HG.out BN.out).trans (hW.mono (ZJ HG.out.size BN.out.size))
    have CT:Hid (∀W,Zi wn W→W.cell? ⟨w.heap.size,0,none⟩=some (.slice (some ⟨b,o,none⟩) n cap)):=fun W hW=>((oG.out W hW).out.cell (p:=⟨w.heap.size,0,none⟩) z0).trans c00.out
    have HE:Hid (∀q,Calls Tryz.prog 140 #[.agg #[.string (Ye ns k).path,.string (Ye ns k).data,.int .i64 (Ye ns k).XT,.int .i64 (Ye ns k).XQ,.int .i64 (Ye ns k).cz,.int .i64 (Ye ns k).mz,.int .i64 (Ye ns k).pz]] (wn.drewN q) fun e w'=>e=.returned (.bool (Wl (Ye ns k)))∧Hid (Zi wn w')):=by
     intro q;refine (Qc _ (Ye ns k) (HZ.out k).2).mono ?_;rintro e w' ⟨rfl,b'⟩;exact ⟨rfl,(below_drewN' wn q).trans b'⟩
    have HD:Hid (Zi wn wn.drew):=below_drewN' wn 1;have ep:=ZU hB;clear hB BN
    cases hok:Wl (Ye ns k) with
    | false =>
     have PX:=ZU hok;have HN:=ZU (Jq ND.out (by unfold MP;rw [hok];rfl));clear hok;refine ZX (S:=fun W=>Hid (Zi wn W)∧iN W B (Ye ns k)) (by kernel_rfl) (⟨HD,(XN.out.below HD.out).all⟩) (fun Z9=>?_);refine Zf ?_ (by kernel_rfl) (fun _=>id) Z9 ?_ ?_
     rotate_left
     · intro w9 ZQ;obtain ⟨-,ZQ⟩:=ZQ;go_simp;try with_reducible rfl
     refine YS 1 rfl (by kernel_rfl) (fun K hK=>?_);go_simp;refine (HE.out 1).mono ?_;rintro e w' ⟨rfl,HB⟩;rw [PX.out];clear Z9;refine hK.out _ _ (⟨HB,(XN.out.below HB.out).all⟩) (fun Z9=>?_);clear hK K
     iterate 2 (refine Zf ?_ (by kernel_rfl) (fun _=>id) Z9 ?_ ?_;rotate_left;· intro w9 ZQ;obtain ⟨-,ZQ⟩:=ZQ;go_simp;try with_reducible rfl)
     iterate 14 (refine J7 (by kernel_rfl) (fun _=>id) Z9 ?_)
     refine Zf ?_ (by kernel_rfl) (fun _=>id) Z9 ?_ ?_
     rotate_left
     · intro w9 ZQ;obtain ⟨-,ZQ⟩:=ZQ;go_simp;try with_reducible rfl
     refine ZR (by kernel_rfl) ?_ _
     try simp only [Act.put,WV,WU,WT]
     clear Z9;go_wp2;go_ret;exact ⟨Ws HN.out.symm,Az.out _ HB.out⟩
    | true =>
     have PX:=ZU hok;clear hok
     cases k with
     | zero =>
      have HT:Hid (MP ns 0=true):=by show _=_;rw [Jp];exact PX.out
      have g2:(0:Int)<(n:Int):=by omega
      refine ZX (S:=fun W=>Hid (Zi wn W)∧iN W B (Ye ns 0)) (by kernel_rfl) (⟨HD,(XN.out.below HD.out).all⟩) (fun Z9=>?_);refine Zf ?_ (by kernel_rfl) (fun _=>id) Z9 ?_ ?_
      rotate_left
      · intro w9 ZQ;obtain ⟨-,ZQ⟩:=ZQ;go_simp;try with_reducible rfl
      refine YS 1 rfl (by kernel_rfl) (fun K hK=>?_);go_simp;refine (HE.out 1).mono ?_;rintro e w' ⟨rfl,HB⟩;rw [PX.out];clear Z9;refine hK.out _ _ (⟨HB,(XN.out.below HB.out).all⟩) (fun Z9=>?_);clear hK K
      iterate 5 (refine Zf ?_ (by kernel_rfl) (fun _=>id) Z9 ?_ ?_;rotate_left;· intro w9 ZQ;obtain ⟨-,ZQ⟩:=ZQ;go_simp;try with_reducible rfl)
      iterate 10 (refine J7 (by kernel_rfl) (fun _=>id) Z9 ?_)
      iterate 2 (refine Zf ?_ (by kernel_rfl) (fun _=>id) Z9 ?_ ?_;rotate_left;· intro w9 ZQ;obtain ⟨-,ZQ⟩:=ZQ;go_simp;try with_reducible rfl)
      refine ZR (by kernel_rfl) ?_ _
      try simp only [Act.put,WV,WU,WT]
      clear Z9;go_wp2
      go_roundw
      case rel=>exact ⟨0+1,by omega,by go_num,(fun t ht=>by by_cases e:t=0;(subst e;exact HT.out);exact HA.out t (by omega)),oG.out _ HB.out⟩
      case measure=>simp [intOf];omega
     | succ j =>
      have g1:(0:Int)≤(j:Int)+1:=by omega
      have g2:(j:Int)+1<(n:Int):=by omega
      have g3:(0:Int)≤(j:Int):=by omega
      have g4:(j:Int)<(n:Int):=by omega
      have g5:(0:Int)<(j:Int)+1:=by omega
      have g6:IntKind.i64.wrap (j:Int)=(j:Int):=by rw [Zq];omega
      cases hcmp:Ty (Ye ns j).path (Ye ns (j+1)).path with
      | true =>
       have HT:Hid (MP ns (j+1)=true):=by show _=_;rw [Pc,PX.out,hcmp];rfl
       have l1:Op.bytesLess (Ye ns j).path.toList (Ye ns (j+1)).path.toList=true:=hcmp;clear hcmp;refine ZX (S:=fun W=>Hid (Zi wn W)∧iN W B (Ye ns (j+1))∧W.cell? ⟨w.heap.size,0,none⟩=some (.slice (some ⟨b,o,none⟩) n cap)∧W.cell? ⟨b,o+j*7,none⟩=some (.string (Ye ns j).path)) (by kernel_rfl) (⟨HD,(XN.out.below HD.out).all,(CT.out _ HD.out),((HC.out j (by omega)).below (Az.out _ HD.out) hb).c0⟩) (fun Z9=>?_);refine Zf ?_ (by kernel_rfl) (fun _=>id) Z9 ?_ ?_
       rotate_left
       · intro w9 ZQ;obtain ⟨-,ZQ⟩:=ZQ;go_simp;try with_reducible rfl
       refine YS 1 rfl (by kernel_rfl) (fun K hK=>?_);go_simp;refine (HE.out 1).mono ?_;rintro e w' ⟨rfl,HB⟩;rw [PX.out];clear Z9;refine hK.out _ _ (⟨HB,(XN.out.below HB.out).all,(CT.out _ HB.out),((HC.out j (by omega)).below (Az.out _ HB.out) hb).c0⟩) (fun Z9=>?_);clear hK K
       iterate 17 (refine Zf ?_ (by kernel_rfl) (fun _=>id) Z9 ?_ ?_;rotate_left;· intro w9 ZQ;obtain ⟨-,ZQ⟩:=ZQ;go_simp;try with_reducible rfl)
       refine ZR (by kernel_rfl) ?_ _
       try simp only [Act.put,WV,WU,WT]
       clear Z9;go_wp2
       go_roundw
       case rel=>exact ⟨(j+1)+1,by omega,by go_num,(fun t ht=>by by_cases e:t=(j+1);(subst e;exact HT.out);exact HA.out t (by omega)),oG.out _ HB.out⟩
       case measure=>simp [intOf];omega
      | false =>
       have HN:=ZU (Jq ND.out (by rw [Pc,hcmp,VE]));have l1:Op.bytesLess (Ye ns j).path.toList (Ye ns (j+1)).path.toList=false:=hcmp;clear hcmp;refine ZX (S:=fun W=>Hid (Zi wn W)∧iN W B (Ye ns (j+1))∧W.cell? ⟨w.heap.size,0,none⟩=some (.slice (some ⟨b,o,none⟩) n cap)∧W.cell? ⟨b,o+j*7,none⟩=some (.string (Ye ns j).path)) (by kernel_rfl) (⟨HD,(XN.out.below HD.out).all,(CT.out _ HD.out),((HC.out j (by omega)).below (Az.out _ HD.out) hb).c0⟩) (fun Z9=>?_);refine Zf ?_ (by kernel_rfl) (fun _=>id) Z9 ?_ ?_
       rotate_left
       · intro w9 ZQ;obtain ⟨-,ZQ⟩:=ZQ;go_simp;try with_reducible rfl
       refine YS 1 rfl (by kernel_rfl) (fun K hK=>?_);go_simp;refine (HE.out 1).mono ?_;rintro e w' ⟨rfl,HB⟩;rw [PX.out];clear Z9;refine hK.out _ _ (⟨HB,(XN.out.below HB.out).all,(CT.out _ HB.out),((HC.out j (by omega)).below (Az.out _ HB.out) hb).c0⟩) (fun Z9=>?_);clear hK K
       iterate 17 (refine Zf ?_ (by kernel_rfl) (fun _=>id) Z9 ?_ ?_;rotate_left;· intro w9 ZQ;obtain ⟨-,ZQ⟩:=ZQ;go_simp;try with_reducible rfl)
       refine ZR (by kernel_rfl) ?_ _
       try simp only [Act.put,WV,WU,WT]
       clear Z9;go_wp2;go_ret;exact ⟨Ws HN.out.symm,Az.out _ HB.out⟩
  have HY:Hid (TY ns=true):=Lh (fun t ht=>HA.out t (by rw [HP.out] at ht;omega));go_wp2;go_ret;exact ⟨Ws HY.out.symm,xE.out⟩
theorem Iv (w:World) (ao:Option Addr) (cap:Nat) :
    Calls Tryz.prog 93 #[.agg #[.slice ao 0 cap]] w (Wj w (.bool true)):=by
 go_enter Tryz.func93,Tryz.ntmps93
 go_wp2
 go_rounds 1
 go_ret;exact ⟨rfl,Yy.alloc YR _⟩
theorem J1 (w:World) (ao:Option Addr) (n cap:Nat) (h:1000<n) :
    Calls Tryz.prog 93 #[.agg #[.slice ao n cap]] w (Wj w (.bool false)):=by
 have xF:(1000:Int)<(n:Int):=by omega
 go_enter Tryz.func93,Tryz.ntmps93
 go_wp2;go_ret;exact ⟨rfl,Yy.alloc YR _⟩
theorem UL (w:World) (v:Value) (ns:List Nd) (h:SK w v ns) (hsz:∀i,(Ye ns i).path.size≤1048576∧(Ye ns i).data.size≤1048576) :
    Calls Tryz.prog 93 #[.agg #[v]] w (Wj w (.bool (WE ns))):=by
 obtain ⟨ao,cap,rfl,k1,k2,k3⟩:=h
 by_cases hl:1000<ns.length
 · have:WE ns=false:=by unfold WE;rw [Zo (by omega)];rfl
   rw [this];exact J1 w ao ns.length cap hl
 have:WE ns=TY ns:=by unfold WE;rw [Zm (by omega)];rfl
 rw [this]
 rcases k3 with rfl | ⟨b,o,rfl,hb,hc⟩
 · exact Iv w ao cap
 exact Iw w b o ns.length cap ns rfl (by omega) hb hsz hc
end
section
variable {A:Array Value} {a s:ByteArray} {R:List (List UInt8)} {r ys:List Int} {B b i k lo m n p:Nat} {f:Nat × Nat} {row:Option Nat} {e t:TypeId} {v:Value} {X Y w w' w0 w1 w2:World}
def Xo:Nat→Nat→List Int
 | _,0=>[]
 | N,n+1=>Xo (N / 256) n++[((N % 256:Nat):Int)]
theorem Xd:∀(n N:Nat),(Xo N n).length=n
 | 0,_=>rfl
 | n+1,N=>by unfold Xo;rw [ZZ,Xd n];rfl
theorem Tm:∀(n N:Nat),∀x ∈ Xo N n,0≤x∧x<256
 | 0,_,x,h=>by cases h
 | n+1,N,x,h=>by
  unfold Xo at h
  rcases Y4.1 h with h | h
  · exact Tm n _ x h
  simp only [Y9,SW,Sh] at h
  omega
theorem Jo (N m k:Nat):Xo (N / 2 ^ (8*(m+1))) k++[((N / 2 ^ (8*m) % 256:Nat):Int)]=Xo (N / 2 ^ (8*m)) (k+1):=by
 conv=>rhs;unfold Xo
 rw [Vd,show 8*(m+1)=8*m+8 by omega,Uv]
def Uh (xs:List Int):Nat:=xs.foldl (fun a x=>a*256+x.toNat) 0
theorem Jn (xs:List Int) (x:Int):Uh (xs++[x])=Uh xs*256+x.toNat:=by unfold Uh;rw [VO];rfl
theorem xD:Uh []=0:=rfl
theorem MO:∀(n:Nat) (xs:List Int),xs.length=n→(∀x ∈ xs,0≤x∧x<256)→Xo (Uh xs) n=xs∧Uh xs<256 ^ n
 | 0,xs,hn,h=>by
  have:=Zg hn;subst this;exact ⟨rfl,by decide⟩
 | n+1,xs,hn,h=>by
  rcases List.eq_nil_or_concat xs with rfl | ⟨ys,y,hc⟩
  · simp at hn
  rw [List.concat_eq_append] at hc;subst hc;have hl:ys.length=n:=by simpa using hn
  have hy:=h y (by simp);obtain ⟨i1,i2⟩:=MO n ys hl (fun x hx=>h x (List.mem_append_left _ hx));rw [Jn];refine ⟨?_,by rw [Uc];omega⟩;unfold Xo;have e1:(Uh ys*256+y.toNat) / 256=Uh ys:=by omega
  have e2:(Uh ys*256+y.toNat) % 256=y.toNat:=by omega
  rw [e1,e2,i1,Int.toNat_of_nonneg hy.1]
def PC (g b s l c:Int):Bool:=decide (1≤g) && (decide (b=0) || decide (b=1)) && decide (0≤s∧s≤2147483647) && decide (0≤l∧l≤4096) && decide (0≤c∧c≤4294967295)
def Ay (g b s l c:Nat):List Int:=Xo g 8++Xo b 1++Xo s 4++Xo l 4++Xo c 4++List.replicate 35 0++Xo g 8
def sup (g b s l c:Int):List Int:=if PC g b s l c then Ay g.toNat b.toNat s.toNat l.toNat c.toNat else []
theorem Lg (g b s l c:Nat):(Ay g b s l c).length=64:=by unfold Ay;simp [Xd]
end
section
open Go.RowKit Go.Shelf
variable {A:Array Value} {a s:ByteArray} {R:List (List UInt8)} {r ys:List Int} {B b i k lo m n p:Nat} {f:Nat × Nat} {row:Option Nat} {e t:TypeId} {v:Value} {X Y w w' w0 w1 w2:World}
def KT (e:TypeId) (w w':World):Prop:=w.heap.size≤w'.heap.size∧∀b,b<w.heap.size→(¬∃cur,w.heap[b]?=some (.cells cur e (0,0)))→w'.heap[b]?=w.heap[b]?
theorem KT.refl (e:TypeId) (w:World):KT e w w:=⟨YR,fun _ _ _=>rfl⟩
theorem KT.trans (h:KT e w w1) (h2:KT e w1 w2):KT e w w2 :=
 ⟨ZJ h.1 h2.1,fun b hb hn=>by
  have h3:=h.2 b hb hn;rw [h2.2 b (ZY hb h.1) (by rw [h3];exact hn),h3]⟩
theorem KT.below (h:KT e w w1) (hb:Zi w1 w2):KT e w w2 :=
 h.trans ⟨hb.size,fun b hb' _=>hb.block b hb'⟩
theorem KT.alloc (h:KT e w w1) (o:Obj):KT e w (w1.alloc o):=h.below (Yy.alloc YR o)
theorem KT.grown {base size:Nat} {xs:List Value} (h:KT e w w1) (ho:w1.ownsRow base e size v n xs) (hg:w1.grownBy w2 v.ownBlock):KT e w w2:=by
 refine h.trans ⟨hg.size,fun b hb hn=>hg.block b hb fun he=>hn ?_⟩
 rcases ho.2 with ⟨rfl,-⟩ | ⟨g,cap,cur,rfl,-,hgg,-⟩
 · simp [Value.ownBlock] at he
 simp only [Value.ownBlock,ZK] at he
 subst he;exact ⟨cur,hgg⟩
theorem Wr (w:World) (base:Nat) (v:Value) (xs:List Int) (N n:Nat) (h:Own .u8 5 w base v xs) (hb:base≤w.heap.size) (hl:xs.length≤1048576) (hn:n≤8) :
    Calls Tryz.prog 96 #[v,.int .i64 N,.int .i64 n] w fun e w'=>∃v',e=.returned v'∧Own .u8 5 w' base v' (xs++Xo N n)∧Below base w w'∧KT 5 w w':=by
 obtain ⟨i0,hi,hz0,hz1,hz2⟩:=YM Tryz.QZ;have HO:=ZU h;clear h
 go_enter Tryz.func96,Tryz.ntmps96
 go_wp2
 go_loopw [0,7] (fun vi vl wr=>∃(k:Nat) (z:Int),k≤n∧vl=.int .i64 z∧z+1+(k:Int)=(n:Int)∧Hid (Own .u8 5 wr base vi (xs++Xo (N / 2 ^ (8*(n - k))) k))∧Hid (Below base w wr)∧Hid (KT 5 w wr)) (fun _ i _=>((intOf i)+1).toNat)
 case atStart=>exact ⟨0,(n:Int) - 1,Zu _,rfl,by omega,by show Own _ _ _ _ _ _;unfold Xo;rw [YD];exact HO.out,Yy,KT.refl _ _⟩
 case round =>
  obtain ⟨k,z,hk,rfl,hz,HW,HB,HK⟩:=hrel;have sB:=HB.out.size
  by_cases hz0':0≤z
  · obtain ⟨l,rfl⟩:∃l:Nat,z=(l:Int):=⟨z.toNat,by omega⟩
    have ek:l≤7:=by omega
    have HST:Hid (Xo (N / 2 ^ (8*(n - k))) k++[((N / 2 ^ (8*l) % 256:Nat):Int)]=Xo (N / 2 ^ (8*(n - (k+1)))) (k+1)):=by
     show _=_;rw [show n - k=l+1 by omega,show n - (k+1)=l by omega];exact Jo N l k
    obtain ⟨ys,hys⟩:∃ys,ys=xs++Xo (N / 2 ^ (8*(n - k))) k:=⟨_,rfl⟩;have su:=ZU hys;have HW1:Hid (wr.ownsRow base 5 1 u0 ys.length (ys.map (Value.int .u8))):=by rw [hys];exact HW.out
    have hyl:ys.length≤1048600:=by rw [hys,ZZ,Xd];omega
    clear hys HW;have HV:Hid ((N:Int) / 2 ^ (8*l) % 256=((N / 2 ^ (8*l) % 256:Nat):Int)):=by show _=_;rw [NU];rfl
    go_wp2_with (at_builtin;go_must (refine Yn _ rfl _ _ 22 rfl base 5 i0 (.int .u8 0) 1 1 Tryz.underlying22 hi hz0 hz1 hz2 rfl (by decide) _ _ _ rfl (WP HW1.out _) ⟨wr.heap.size,0,none⟩ 1 1 [.int .u8 ((N:Int) / 2 ^ (8*l) % 256)] rfl rfl (XW _ _ _) (by intro u hu;simp at hu;subst hu;rfl) ?c3 ?c4 ?c5 ?_))
    case c3=>unfold maxLen;omega
    case c4=>omega
    case c5=>simp;omega
    intro v2 w2 ho2 hg2 _;have DR:Hid (Own .u8 5 w2 base v2 (xs++Xo (N / 2 ^ (8*(n - (k+1)))) (k+1))):=by
     rw [HV.out] at ho2;refine QY (q:=ys.length+1) (ys:=ys++[((N / 2 ^ (8*l) % 256:Nat):Int)]) (by simp) ?_ (by rw [Y6];exact ho2);rw [←HST.out,←ZO,←su.out]
    have HB2:=ZU ((HB.out.alloc (by omega) _).grown hg2 (by simp;omega) (fun q hq=>(ZT HW1.out q hq).1));have ld:=ZU ((HK.out.alloc _).grown (HW1.out.alloc _) hg2);clear ho2 hg2 HW1 HB HK;go_wp2;exact ⟨⟨k+1,(l:Int) - 1,by omega,by go_num,by omega,DR,HB2,ld⟩,by simp [intOf]⟩
  have hkn:k=n:=by omega
  subst hkn;have eh:=hz0';go_wp2;go_ret;refine ⟨_,rfl,?_,HB.out,HK.out⟩;have:=HW.out;rw [Wf,Q3,Nat.pow_zero,Nat.div_one] at this;exact this
theorem step_append {P:Program} {ops:Array Oper} {o:Oper} {a:Act} {K:Act→World→Prop} {Q:Exit→Act→World→Prop} {E:Prop}
    (hg:o.guard=none) (s x:Operand) (t:TypeId) (hop:o.op=Op.call { callee:=Callee.builtin Builtin.append,args:=#[s,x],argTypes:=#[t,t] })
    (base:Nat) (e:TypeId) (i:TypeInfo) (z:Value) (size bytes:Nat) (h1:P.underlying t=some (.slice e)) (h2:P.info? e=some i) (h3:i.zero=some z) (h4:i.size=size) (h5:i.bytes=bytes) (h6:z.cells.size=size) (h7:0<size)
    (v:Value) (n:Nat) (xs:List Value) (hs:a.eval s=v) (hown:w.ownsRow base e size v n xs) (ad:Addr) (m c:Nat) (news:List Value) (hx:a.eval x=.slice (some ad) m c) (hn:news.length=m*size)
    (hc:∀j u,news[j]?=some u→w.cell? (ad.add j)=some u) (h1c:∀u ∈ news,u.oneCell'=true) (b1:n+m≤maxLen) (b2:(n+m)*bytes≤140737488355328) (hb:base≤w.heap.size)
    (hK:∀v' w',w'.ownsRow base e size v' (n+m) (xs++news)→w.grownBy w' v.ownBlock→K (a.put o.dst v') w') :
    if Region.wanted o (yielded ops a.tmps)=true then Oper.wp P o a w K Q else E:=by
 have hw:Region.wanted o (yielded ops a.tmps)=true:=by simp [Region.wanted,hg]
 rw [Z0 hw];obtain ⟨v',w',hrun,r1,r2,_⟩:=run_append_own (P:=P) w base t o.type e i z size bytes h1 h2 h3 h4 h5 h6 h7 v n xs hown ad m c news hn hc h1c b1 b2 hb;unfold Oper.wp
 simp [execOp,hop,resolve,invoke,builtin,hs,hx,hrun,Result.andThen]
 exact hK v' w' r1 r2
def U0 (s:ByteArray):List Int:=s.data.toList.map fun b=>(b.toNat:Int)
theorem Wq (s:ByteArray):(U0 s).length=s.size:=by unfold U0;rw [Zl,YJ];rfl
theorem Qb (s:ByteArray):Lib.strCells s=(U0 s).map (Value.int .u8):=by unfold Lib.strCells U0;rw [SF];rfl
def J0 (s:ByteArray):List Int:=[(s.size:Int)]++U0 s
theorem Ny (s:ByteArray):(J0 s).length=1+s.size:=by unfold J0;rw [ZZ,Wq];rfl
theorem Qa (w:World) (base:Nat) (v:Value) (xs:List Int) (s:ByteArray) (h:Own .u8 5 w base v xs) (hb:base≤w.heap.size) (hl:xs.length≤1048576) (hs:s.size<256) :
    Calls Tryz.prog 141 #[v,.string s] w fun e w'=>∃v',e=.returned v'∧Own .u8 5 w' base v' (xs++J0 s)∧Below base w w'∧KT 5 w w':=by
 obtain ⟨i0,hi,hz0,hz1,hz2⟩:=YM Tryz.QZ;have HO:Hid (w.ownsRow base 5 1 v xs.length (xs.map (Value.int .u8))):=h;clear h
 go_enter Tryz.func141,Tryz.ntmps141
 go_wp2_with (at_builtin;go_must (refine Yn _ rfl _ _ 22 rfl base 5 i0 (.int .u8 0) 1 1 Tryz.underlying22 hi hz0 hz1 hz2 rfl (by decide) _ _ _ rfl (WP HO.out _) ⟨w.heap.size,0,none⟩ 1 1 [.int .u8 (s.size:Int)] rfl rfl (XW _ _ _) (by intro u hu;simp at hu;subst hu;rfl) ?c3 ?c4 ?c5 ?_))
 case c3=>unfold maxLen;omega
 case c4=>omega
 case c5=>simp;omega
 intro v2 w2 ho2 hg2 _;have O2:Hid (w2.ownsRow base 5 1 v2 (xs.length+1) ((xs++[(s.size:Int)]).map (Value.int .u8))):=by
  rw [Y6];exact ho2
 have B2:Hid (Below base w w2):=(Yy.alloc hb _).grown hg2 (by simp;omega) (fun q hq=>(ZT HO.out q hq).1);have K2:Hid (KT 5 w w2):=((KT.refl _ _).alloc _).grown (HO.out.alloc _) hg2;have s2:=B2.out.size;clear ho2 hg2
 go_wp2_with (at_builtin;go_must (refine Lib.wpList_append_own_string _ rfl _ _ 22 9 rfl base 5 i0 Tryz.underlying22 Tryz.underlying9 hi hz0 hz1 hz2 _ _ _ rfl O2.out s rfl ?d3 ?d4 ?d5 ?_))
 case d3=>unfold maxLen;omega
 case d4=>omega
 case d5=>omega
 intro v3 w3 ho3 hg3 _;have O3:Hid (Own .u8 5 w3 base v3 (xs++J0 s)):=by
  refine QY (q:=xs.length+1+s.size) (ys:=xs++J0 s) (by rw [ZZ,Ny];omega) rfl ?_;rw [Qb] at ho3;rw [Y6];exact ho3
 have B3:Hid (Below base w w3):=B2.out.grown hg3 (by omega) (fun q hq=>(ZT O2.out q hq).1);have K3:Hid (KT 5 w w3):=K2.out.grown O2.out hg3;clear ho3 hg3;go_wp2;go_ret;exact ⟨_,rfl,O3.out,B3.out,K3.out⟩
theorem Lf:∀l cur:List UInt8,((SS cur l).map List.length).sum+(SS cur l).length=cur.length+l.length+1
 | [],cur=>by simp [SS]
 | x :: l,cur=>by
  by_cases h:x=47
  · subst h
    have:=Lf l [];rw [Qe]
    simp only [Yl,Ti,ZE,Y7] at this ⊢
    omega
  have:=Lf l (cur++[x]);rw [QA h]
  simp only [ZZ,ZE,Y7] at this ⊢
  omega
theorem xC (m:Nat):∀L:List (List UInt8),(∀x ∈ L,x.length≤m)→(L.map List.length).sum≤L.length*m
 | [],_=>by simp
 | x :: L,h=>by
  have h1:=h x (by simp);have h2:=xC m L (fun y hy=>h y (by simp [hy]));rw [Yl,Ti,ZE,Tr];omega
theorem so {l:List UInt8} (h:Ca l=true):l.length≤16:=by
 unfold Ca Gq at h
 simp only [ZA,Zj] at h
 have h2:(ByteArray.mk l.toArray).size=l.length:=rfl;omega
theorem PB (h:Xi s=true):s.size≤102:=by
 have hs:s.data.toList.length=s.size:=by rw [YJ];rfl
 unfold Xi at h
 simp only [Vl,ZA,Zj] at h
 rcases h with h | ⟨⟨⟨h1,h2⟩,h3⟩,h4⟩
 · rw [h] at hs;simp at hs;omega
 have h5:=Lf (s.data.toList.drop 1) [];have h6:=xC 16 (nm s) (fun x hx=>so (Yw.1 h4 x hx));unfold nm at h3 h6;rw [ZS,hs] at h5
 simp only [Y7] at h5
 omega
theorem TX {n:Nd} (h:Wl n=true):n.path.size≤102∧n.data.size≤64∧(0≤n.XT∧n.XT≤2147483647)∧(0≤n.XQ∧n.XQ≤2147483647)∧(0≤n.cz∧n.cz≤2147483647)∧(0≤n.mz∧n.mz≤2147483647)∧(0≤n.pz∧n.pz≤2147483647):=by
 unfold Wl PP at h
 simp only [ZA,Zj] at h
 obtain ⟨⟨⟨⟨⟨⟨h1,h2⟩,h3⟩,h4⟩,h5⟩,h6⟩,h7⟩:=h;exact ⟨PB h1,h2,h3,h4,h5,h6,h7⟩
def iL (n:Nd):List Int:=Xo n.XT.toNat 4++Xo n.XQ.toNat 4++Xo n.cz.toNat 4++Xo n.mz.toNat 4++Xo n.pz.toNat 4
def Vy (n:Nd):List Int:=J0 n.path++J0 n.data++iL n
theorem Sb (n:Nd):(Vy n).length=22+n.path.size+n.data.size:=by
 unfold Vy iL
 simp only [ZZ,Ny,Xd]
 omega
def Xn (ns:List Nd):List Int:=ns.flatMap Vy
theorem Mh (ns:List Nd) (k:Nat) (h:k<ns.length):Xn (ns.take k)++Vy (Ye ns k)=Xn (ns.take (k+1)):=by
 unfold Xn;rw [YW h,XZ,WF h]
 simp
theorem DE (ns:List Nd) (k:Nat) (h:ns.length≤k):Xn (ns.take k)=Xn ns:=by rw [Y8 h]
theorem MN {ns:List Nd} (h:WE ns=true) (k:Nat) (hk:k<ns.length):Wl (Ye ns k)=true:=by
 unfold WE TY at h
 simp only [ZA] at h
 have:=Yw.1 h.2 k (by simpa using hk);unfold MP at this
 simp only [ZA] at this
 exact this.1
theorem Oh {ns:List Nd} (h:WE ns=true):ns.length≤1000:=by
 unfold WE at h
 simp only [ZA,Zj] at h
 exact h.1
theorem Le {ns:List Nd} (h:∀k,k<ns.length→Wl (Ye ns k)=true):∀k,k≤ns.length→(Xn (ns.take k)).length≤k*188
 | 0,_=>by simp [Xn]
 | k+1,hk=>by
  have h1:=Le h k (by omega);have h2:=TX (h k (by omega));rw [←Mh ns k (by omega),ZZ,Sb];omega
def Mg (ns:List Nd):List Int:=if WE ns then Xn ns else []
theorem MM:∀(l cur:List UInt8),47 :: (cur++l)=(SS cur l).flatMap (fun a=>47 :: a)
 | [],cur=>by simp [SS]
 | x :: l,cur=>by
  by_cases h:x=47
  · subst h
    rw [Qe,WY,←MM l []]
    simp
  rw [QA h,←MM l (cur++[x])]
  simp
theorem Iu:∀(l cur:List UInt8),(47:UInt8) ∉ cur→∀a ∈ SS cur l,(47:UInt8) ∉ a
 | [],cur,h,a,ha=>by simp [SS] at ha;subst ha;exact h
 | x :: l,cur,h,a,ha=>by
  by_cases hx:x=47
  · subst hx
    rw [Qe] at ha
    rcases Y9.1 ha with rfl | ha
    · exact h
    exact Iu l [] (by simp) a ha
  rw [QA hx] at ha;refine Iu l (cur++[x]) ?_ a ha;intro hm
  rcases Y4.1 hm with hm | hm
  · exact h hm
  simp at hm;exact hx hm.symm
def Qo (s:ByteArray):List UInt8:=(nm s).dropLast.flatMap (fun a=>47 :: a)
def Ld (s:ByteArray):List UInt8:=(nm s).getLastD []
theorem kS (s:ByteArray):nm s≠[]:=fun h=>by have:=Gp (s.data.toList.drop 1) [];unfold nm at h;rw [h] at this;simp at this
theorem Gb (s:ByteArray):nm s=(nm s).dropLast++[Ld s]:=by
 unfold Ld;have h:=kS s;rw [List.getLastD_eq_getLast?,List.getLast?_eq_some_getLast h,Xf];exact (List.dropLast_concat_getLast h).symm
theorem Og (h1:1≤s.size) (h0:bN s 0=47):s.data.toList=Qo s++47 :: Ld s:=by
 have hl:0<s.data.toList.length:=by rw [YJ];exact h1
 have hc:s.data.toList=47 :: s.data.toList.drop 1:=by
  conv=>lhs;rw [←XR (l:=s.data.toList),Yg hl]
  congr 1
  unfold bN at h0
  simp only [List.getD,ZF hl,Xf] at h0
  exact Uj (by simpa using h0)
 have hj:=MM (s.data.toList.drop 1) [];rw [Zd,←hc] at hj;have hj2:s.data.toList=(nm s).flatMap (fun a=>47 :: a):=hj;rw [hj2]
 conv=>lhs;rw [Gb s]
 rw [XZ]
 simp [Qo]
theorem It (s:ByteArray):(47:UInt8) ∉ Ld s:=by
 refine Iu (s.data.toList.drop 1) [] (by simp) _ ?_;show Ld s ∈ nm s;rw [Gb s]
 simp
def Is (s:ByteArray):List UInt8:=if Qo s=[] then [47] else Qo s
theorem Pz (h:Xi s=true):1≤s.size∧bN s 0=47:=by
 unfold Xi at h
 simp only [Vl,ZA,Zj] at h
 rcases h with h | ⟨⟨⟨h1,h2⟩,-⟩,-⟩
 · have hs:s.data.toList.length=s.size:=by rw [YJ];rfl
   rw [h] at hs;refine ⟨by simp at hs;omega,?_⟩;unfold bN;rw [h];rfl
 exact ⟨by omega,h2⟩
theorem xA:∀a b:List UInt8,(Lib.compareBytes a b<0)↔Op.bytesLess a b=true
 | [],[]=>by simp [Lib.compareBytes,Op.bytesLess]
 | [],_ :: _=>by simp [Lib.compareBytes,Op.bytesLess]
 | _ :: _,[]=>by simp [Lib.compareBytes,Op.bytesLess]
 | a :: l,b :: m=>by
  unfold Lib.compareBytes Op.bytesLess
  by_cases h1:a<b
  · simp [h1]
  by_cases h2:b<a
  · have h3:¬a=b:=fun e=>by subst e;exact absurd h2 h1
    simp [h1,h2,h3]
  have h3:=TC (UInt8.not_lt.1 h2) (UInt8.not_lt.1 h1);subst h3
  simp [h1,xA l m]
theorem BU:∀a b:List UInt8,(Lib.compareBytes a b=0)↔a=b
 | [],[]=>by simp [Lib.compareBytes]
 | [],_ :: _=>by simp [Lib.compareBytes]
 | _ :: _,[]=>by simp [Lib.compareBytes]
 | a :: l,b :: m=>by
  unfold Lib.compareBytes
  by_cases h1:a<b
  · have h3:¬a=b:=fun e=>by subst e;exact absurd h1 (Vj _)
    simp [h1,h3]
  by_cases h2:b<a
  · have h3:¬a=b:=fun e=>by subst e;exact absurd h2 h1
    simp [h1,h2,h3]
  have h3:=TC (UInt8.not_lt.1 h2) (UInt8.not_lt.1 h1);subst h3
  simp [h1,BU l m]
def Py (a b:ByteArray):Int:=Lib.compareBytes a.data.toList b.data.toList
theorem DD (w:World) (a b:ByteArray) :
    Calls Tryz.prog 191 #[.string a,.string b] w fun e w'=>e=.returned (.int .i64 (Py a b))∧w'=w:=by
 go_enter Tryz.func191,Tryz.ntmps191
 go_wp2;rw [Un Tryz.func220 (by kernel_rfl) (by kernel_rfl) (by kernel_rfl) (e:=Extern.BytealgCompare.compare) (by kernel_rfl),Lib.run_compareString]
 simp only [Result.andThen]
 rw [Oper.upon_value];go_wp2;go_ret;exact ⟨rfl,rfl⟩
theorem Ga (w:World) (a b:ByteArray) :
    Calls Tryz.prog 158 #[.string a,.string b] w fun e w'=>e=.returned (.int .i64 (Py a b))∧w'=w:=by
 go_enter Tryz.func158,Tryz.ntmps158
 go_wp2_with fail
 refine (DD w a b).mono ?_;rintro e w1 ⟨rfl,rfl⟩;go_wp2;go_ret;exact ⟨rfl,rfl⟩
theorem Jm (w:World) (n:Nd) (p:ByteArray) :
    Calls Tryz.prog 157 #[.agg #[.string n.path,.string n.data,.int .i64 n.XT,.int .i64 n.XQ,.int .i64 n.cz,.int .i64 n.mz,.int .i64 n.pz],.string p] w (Wj w (.int .i64 (Py n.path p))):=by
 have B0:Hid (Zi w (w.alloc (.cells #[.string n.path,.string n.data,.int .i64 n.XT,.int .i64 n.XQ,.int .i64 n.cz,.int .i64 n.mz,.int .i64 n.pz] 147))):=Yy.alloc YR _
 go_enter Tryz.func157,Tryz.ntmps157
 go_wp2_with fail
 generalize w.alloc _=w0 at *;refine (Ga w0 n.path p).mono ?_;rintro e w1 ⟨rfl,hw⟩;obtain rfl:w0=w1:=hw.symm;go_wp2;go_ret;exact ⟨rfl,B0.out⟩
def Low (ns:List Nd) (p:ByteArray) (L:Nat):Prop:=L≤ns.length∧(∀i,i<L→Py (Ye ns i).path p<0)∧∀i,L≤i→i<ns.length→¬Py (Ye ns i).path p<0
def Nx (ns:List Nd) (p:ByteArray) (L:Nat):Bool:=decide (L<ns.length) && (Py (Ye ns L).path p == 0)
theorem oE (w:World) (b o n cap L:Nat) (ns:List Nd) (p:ByteArray) (hp:ns.length=n) (hn:n≤1000) (hb:b<w.heap.size) (hc:∀i,i<n→Um w b (o+i*7) (Ye ns i)) (hL:Low ns p L) :
    Calls Tryz.prog 156 #[.slice (some ⟨b,o,none⟩) n cap,.string p,.func (.func 157) #[] #[]] w (Wj w (.tuple #[.int .i64 (L:Int),.bool (Nx ns p L)])):=by
 obtain ⟨l1,l2,l3⟩:=hL;have HC:=ZU hc;have HP:=ZU hp;have H2:=ZU l2;have H3:=ZU l3;rw [hp] at l1;clear hc hp l2 l3
 go_enter Tryz.func156,Tryz.ntmps156
 go_wp2
 go_loopw [9,10] (fun vi vj wr=>∃i j:Nat,i≤L∧L≤j∧j≤n∧vi=.int .i64 i∧vj=.int .i64 j∧Hid (Zi w wr)) (fun i j _=>(intOf j - intOf i).toNat)
 case atStart=>exact ⟨0,n,Zu _,l1,YR,rfl,rfl,Yy⟩
 case round =>
  obtain ⟨i,j,hi,hj,hjn,rfl,rfl,HB⟩:=hrel
  by_cases hlt:i<j
  · have Rj:(i:Int)<(j:Int):=by omega
    obtain ⟨h,hh⟩:∃h:Nat,h=(i+j) / 2:=⟨_,rfl⟩;have hI:((i:Int)+(j:Int)) / 2=(h:Int):=by omega
    have h1:i≤h:=by omega
    have h2:h<j:=by omega
    have h3:h<n:=by omega
    clear hh;obtain ⟨c0,c1,c2,c3,c4,c5,c6⟩:=(HC.out h h3).below HB.out hb
    go_wp2_with fail
    refine (Jm wr (Ye ns h) p).mono ?_;rintro e w1 ⟨rfl,b1⟩;have B1:=ZU (WD HB.out b1);clear b1 c0 c1 c2 c3 c4 c5 c6 HB
    by_cases hc:Py (Ye ns h).path p<0
    · have Z8:h<L:=by
       by_cases hh:h<L
       · exact hh
       exact absurd hc (by have:=H3.out h (by omega) (by rw [HP.out];exact h3);omega)
      go_wp2;exact ⟨⟨h+1,j,by omega,hj,hjn,by go_num,rfl,B1⟩,by simp [intOf];omega⟩
    have Z8:L≤h:=by
     by_cases hh:h<L
     · exact absurd (H2.out h hh) hc
     omega
    go_wp2;exact ⟨⟨i,h,hi,Z8,by omega,rfl,by go_num,B1⟩,by simp [intOf];omega⟩
  have Z2:i=L:=by omega
  subst Z2;have Zx:¬(i:Int)<(j:Int):=by omega
  by_cases hLn:i<n
  · have ZV:(i:Int)<(n:Int):=by omega
    have HF:Hid (Nx ns p i=(Py (Ye ns i).path p == 0)):=by show _=_;unfold Nx;rw [HP.out,Zm hLn];rfl
    obtain ⟨c0,c1,c2,c3,c4,c5,c6⟩:=(HC.out i hLn).below HB.out hb
    go_wp2_with fail
    refine (Jm wr (Ye ns i) p).mono ?_;rintro e w1 ⟨rfl,b1⟩;have B1:=ZU (WD HB.out b1);clear b1 c0 c1 c2 c3 c4 c5 c6 HB;go_wp2;refine ZW (v:=.tuple #[.int .i64 (i:Int),.bool (Py (Ye ns i).path p == 0)]) (by simp [results,Tryz.results156,go_sem]) rfl ⟨by rw [HF.out],B1.out⟩
  have ZV:¬(i:Int)<(n:Int):=by omega
  have HF:Hid (Nx ns p i=false):=by show _=_;unfold Nx;rw [HP.out,Zo hLn];rfl
  go_wp2;refine ZW (v:=.tuple #[.int .i64 (i:Int),.bool false]) (by simp [results,Tryz.results156,go_sem]) rfl ⟨by rw [HF.out],HB.out⟩
theorem oD (w:World) (ao:Option Addr) (cap:Nat) (p:ByteArray) :
    Calls Tryz.prog 156 #[.slice ao 0 cap,.string p,.func (.func 157) #[] #[]] w fun e w'=>e=.returned (.tuple #[.int .i64 0,.bool false])∧w'=w:=by
 go_enter Tryz.func156,Tryz.ntmps156
 go_wp2
 go_rounds 1
 refine ZW (v:=.tuple #[.int .i64 0,.bool false]) (by simp [results,Tryz.results156,go_sem]) rfl ⟨rfl,rfl⟩
theorem P9 (w:World) (v:Value) (ns:List Nd) (p:ByteArray) (L:Nat) (h:SK w v ns) (hn:ns.length≤1000) (hL:Low ns p L) :
    Calls Tryz.prog 115 #[v,.string p] w (Wj w (.tuple #[.int .i64 (L:Int),.bool (Nx ns p L)])):=by
 have H:Hid (Calls Tryz.prog 156 #[v,.string p,.func (.func 157) #[] #[]] w (Wj w (.tuple #[.int .i64 (L:Int),.bool (Nx ns p L)]))):=by
  obtain ⟨ao,cap,rfl,h1,h2,h3⟩:=h
  rcases h3 with rfl | ⟨b,o,rfl,hb,hc⟩
  · have hL0:L=0:=by have:=hL.1;simpa using this
    subst hL0;refine (oD w ao cap p).mono ?_;rintro e w' ⟨rfl,rfl⟩;exact ⟨rfl,Yy⟩
  exact oE w b o ns.length cap L ns p rfl hn hb hc hL
 clear h hL
 go_enter Tryz.func115,Tryz.ntmps115
 go_wp2_with fail
 refine H.out.mono ?_;rintro e w1 ⟨rfl,b1⟩;have B1:=ZU b1;clear b1 H;go_wp2;refine ZW (v:=.tuple #[.int .i64 (L:Int),.bool (Nx ns p L)]) (by simp [results,Tryz.results115,go_sem]) rfl ⟨rfl,B1.out⟩
theorem Ir (x:Nat):(BitVec.ofInt 64 (wrap64 (x:Int))).toNat=x % 18446744073709551616:=by
 rw [BitVec.toNat_ofInt];unfold wrap64;omega
theorem xz (x b:Nat) (hb:b<256):bits .or .i64 (wrap64 ((x:Int)*256)) (b:Int)=wrap64 (((x*256+b:Nat):Int)):=by
 show IntKind.i64.wrap ((BitVec.ofInt 64 (wrap64 ((x:Int)*256)) ||| BitVec.ofInt 64 (b:Int)).toNat:Int)=_;have e1:(BitVec.ofInt 64 (wrap64 ((x:Int)*256))).toNat=x*256 % 18446744073709551616:=by
  have:=Ir (x*256);rw [Int.natCast_mul] at this;exact this
 have e2:(BitVec.ofInt 64 (b:Int)).toNat=b:=by
  rw [BitVec.ofInt_natCast,BitVec.toNat_ofNat];exact SV (by omega)
 rw [BitVec.toNat_or,e1,e2,nat_join 8 (x*256 % 18446744073709551616) b (by simp only [Nat.reducePow];omega) (by simpa using hb),Zq];unfold wrap64;omega
theorem DC (x:Nat):wrap64 (wrap64 (x:Int)*256)=wrap64 ((x:Int)*256):=by unfold wrap64;omega
def nG (ys:List Int):Int:=wrap64 ((Uh (ys.take 8):Nat):Int)
def nB (ys:List Int):Int:=((Uh ((ys.drop 8).take 1):Nat):Int)
def nS (ys:List Int):Int:=((Uh ((ys.drop 9).take 4):Nat):Int)
def nL (ys:List Int):Int:=((Uh ((ys.drop 13).take 4):Nat):Int)
def nC (ys:List Int):Int:=((Uh ((ys.drop 17).take 4):Nat):Int)
abbrev OB (ys:List Int):Prop:=ys.length=64∧sup (nG ys) (nB ys) (nS ys) (nL ys) (nC ys)=ys
def Iq (ys:List Int):Value:=if OB ys then .agg #[.bool true,.int .i64 (nG ys),.int .i64 (nB ys),.int .i64 (nS ys),.int .i64 (nL ys),.int .i64 (nC ys)] else .agg #[.bool false,.int .i64 0,.int .i64 0,.int .i64 0,.int .i64 0,.int .i64 0]
theorem Aw {g b s l c:Int} (h:sup g b s l c=ys) (h0:ys≠[]):ys.length=64:=by
 subst h;unfold sup at h0 ⊢
 split
 · exact Lg _ _ _ _ _
 rename_i hn;rw [Z1 hn] at h0;exact absurd rfl h0
def QT:List PanicEntry:=[{ v:=.iface 296 (.agg #[]),recovered:=false }]
theorem xy (w:World) (k n c m:Nat) (ao:Option Addr) (h0:w.cell? ⟨k,0,none⟩=some (.slice ao n c)) (hm:n<m) :
    Calls Tryz.prog 204 #[.pointer (some ⟨k,0,none⟩),.int .i64 m] w fun e w'=>e=.panicked QT∧w'=w:=by
 have hI:(n:Int)<(m:Int):=by omega
 go_enter Tryz.func204,Tryz.ntmps204
 go_wp2;exact ⟨rfl,rfl,rfl⟩
def xx (w:World) (k b o n c m:Nat) (e:Ending) (w':World):Prop:=e=.returned (.slice (some ⟨b,o,none⟩) m c)∧∃o',(o'=o+m∨n=m)∧w'=w.setCell ⟨k,0,none⟩ (.slice (some ⟨b,o',none⟩) (n - m) (c - m))
theorem BT (w:World) (k b o n c m:Nat) (h0:w.cell? ⟨k,0,none⟩=some (.slice (some ⟨b,o,none⟩) n c)) (hz:w.frozen? ⟨k,0,none⟩=false) (hm:m≤n) (hm0:0<m) (hc:n≤c) :
    Calls Tryz.prog 204 #[.pointer (some ⟨k,0,none⟩),.int .i64 m] w fun e w'=>xx w k b o n c m e w':=by
 have hI:¬(n:Int)<(m:Int):=by omega
 by_cases hcm:c=m
 · subst hcm
   go_enter Tryz.func204,Tryz.ntmps204
   go_wp2;go_ret;exact ⟨rfl,o,.inr (by omega),by rw [Wf,show n - c=0 by omega]⟩
 have hcm':m<c:=by omega
 go_enter Tryz.func204,Tryz.ntmps204
 go_wp2;go_ret;exact ⟨rfl,o+m,.inl rfl,rfl⟩
def RS (w0 w:World) (k:Nat) (ys:List Int):Prop :=
 w0.heap.size≤k∧k<w.heap.size∧w.frozen? ⟨k,0,none⟩=false∧Zi w0 w∧∃v,w.cell? ⟨k,0,none⟩=some v∧Rd .u8 w0 v ys
theorem RS.drewN (h:RS w0 w k ys) (q:Nat):RS w0 (w.drewN q) k ys :=
 ⟨h.1,h.2.1,h.2.2.1,h.2.2.2.1.trans ((below_drewN' w q).mono h.2.2.2.1.size),h.2.2.2.2⟩
theorem RS.keep (h:RS w0 w k ys) (hb:Below B w w') (hk:k<B):RS w0 w' k ys:=by
 obtain ⟨h1,h2,h3,h4,v,h5,h6⟩:=h;exact ⟨h1,ZY h2 hb.size,(hb.frozen (p:=⟨k,0,none⟩) hk).trans h3,h4.trans (hb.mono (by omega)),v,(hb.cell (p:=⟨k,0,none⟩) hk).trans h5,h6⟩
theorem RS.set {zs:List Int} (h:RS w0 w k ys) (hv:Rd .u8 w0 v zs):RS w0 (w.setCell ⟨k,0,none⟩ v) k zs:=by
 obtain ⟨h1,h2,h3,h4,u,h5,h6⟩:=h;refine ⟨h1,by simpa using h2,?_,h4.setCell h1 _,v,Zk _ _ _ h5,hv⟩;rw [Zb];exact h3
theorem Rd.split {k:IntKind} {o c:Nat} (h:Rd k w (.slice (some ⟨b,o,none⟩) n c) ys) (m:Nat) (hm:m≤n) (hm0:0<m) :
    Rd k w (.slice (some ⟨b,o,none⟩) m c) (ys.take m)∧∀o',(o'=o+m∨n=m)→Rd k w (.slice (some ⟨b,o',none⟩) (n - m) (c - m)) (ys.drop m):=by
 obtain ⟨ao,cap,e,h1,h2,h3⟩:=h
 simp only [ZC] at e
 obtain ⟨rfl,rfl,rfl⟩:=e
 rcases h3 with rfl | ⟨b',o',e',hb,hc⟩
 · simp at hm;omega
 simp only [ZK,Ym,VB] at e'
 obtain ⟨rfl,rfl⟩:=e';refine ⟨⟨some ⟨b,o,none⟩,c,by rw [Zw,YC hm],by rw [Zw];omega,h2,.inr ⟨b,o,rfl,hb,fun i hi=>?_⟩⟩,fun o' ho'=>⟨some ⟨b,o',none⟩,c - m,by rw [ZS],by rw [ZS];omega,by omega,?_⟩⟩
 · rw [Zw] at hi
   rw [hc i (by omega)]
   simp [List.getD,XP (show i<m by omega)]
 rcases ho' with rfl | hnm
 · refine .inr ⟨b,o+m,rfl,hb,fun i hi=>?_⟩
   rw [ZS] at hi;rw [Xu,hc (m+i) (by omega)]
   simp [List.getD]
 exact .inl (Xx (by omega))
theorem FY (w0 w:World) (k m:Nat) (ys:List Int) (h:RS w0 w k ys) (hm:m≤ys.length) (hm0:0<m) :
    Calls Tryz.prog 204 #[.pointer (some ⟨k,0,none⟩),.int .i64 m] w fun e w'=>∃b o c v',e=.returned (.slice (some ⟨b,o,none⟩) m c)∧b<w0.heap.size∧(∀i,i<m→w0.cell? ⟨b,o+i,none⟩=some (.int .u8 (ys.getD i 0)))∧RS w0 w' k (ys.drop m)∧w'=w.setCell ⟨k,0,none⟩ v':=by
 obtain ⟨h1,h2,h3,h4,v,h5,h6⟩:=h;have h6':=h6;obtain ⟨ao,c,rfl,g1,g2,g3⟩:=h6
 rcases g3 with rfl | ⟨b,o,rfl,hb,hc⟩
 · simp at hm;omega
 refine (BT w k b o ys.length c m h5 h3 hm hm0 g1).mono ?_;rintro e w' ⟨rfl,o',ho',rfl⟩;exact ⟨b,o,c,_,rfl,hb,fun i hi=>hc i (by omega),RS.set ⟨h1,h2,h3,h4,_,h5,h6'⟩ ((Rd.split h6' m hm hm0).2 o' ho'),rfl⟩
theorem ML (w0 w:World) (k m:Nat) (ys:List Int) (h:RS w0 w k ys) (hm:ys.length<m) :
    Calls Tryz.prog 204 #[.pointer (some ⟨k,0,none⟩),.int .i64 m] w fun e w'=>e=.panicked QT∧w'=w:=by
 obtain ⟨-,-,-,-,v,h5,h6⟩:=h;obtain ⟨ao,c,rfl,-,-,-⟩:=h6;exact xy w k _ c m ao h5 hm
theorem VG (w0 w:World) (k m:Nat) (ys:List Int) (h:RS w0 w k ys) (hm:ys.length<m) :
    Calls Tryz.prog 175 #[.pointer (some ⟨k,0,none⟩),.int .i64 m] w fun e w'=>e=.panicked QT∧w'=w:=by
 have H:=ZU (ML w0 w k m ys h hm);clear h hm
 go_enter Tryz.func175,Tryz.ntmps175
 go_wp2_with fail
 refine H.out.mono ?_;rintro e w1 ⟨rfl,rfl⟩;exact ⟨rfl,rfl,rfl⟩
theorem Vc (w0 w:World) (k m:Nat) (ys:List Int) (h:RS w0 w k ys) (hm:m≤ys.length) (hm0:0<m) (Zt:m≤8) (hby:Sn ys) :
    Calls Tryz.prog 175 #[.pointer (some ⟨k,0,none⟩),.int .i64 m] w fun e w'=>e=.returned (.int .i64 (wrap64 ((Uh (ys.take m):Nat):Int)))∧RS w0 w' k (ys.drop m)∧∃v' q,w'=(w.setCell ⟨k,0,none⟩ v').drewN q:=by
 have H:=ZU (FY w0 w k m ys h hm hm0);have Lc:=ZU hby
 have HM:=ZU hm;clear h hby hm
 go_enter Tryz.func175,Tryz.ntmps175
 go_wp2_with fail
 refine H.out.mono ?_;rintro e w1 ⟨b,o,c,v',rfl,hb,hc,hr,hw⟩;have HC:=ZU hc;have HR:=ZU hr;have HW:=ZU hw;clear hc hr hw;go_wp2
 go_loopw [5,12] (fun vn vi wr=>∃(i:Nat) (z:Int),i≤m∧vi=.int .i64 i∧vn=.int .i64 z∧Hid (z=wrap64 ((Uh (ys.take i):Nat):Int))∧∃q,wr=w1.drewN q) (fun _ i _=>m - (intOf i).toNat)
 case atStart=>exact ⟨0,0,Zu _,rfl,rfl,(by show (0:Int)=_;unfold wrap64;rw [WI,xD];rfl),0,rfl⟩
 case round =>
  obtain ⟨i,z,hi,rfl,rfl,HZ,q,rfl⟩:=hrel
  by_cases hlt:i<m
  · have hI:(i:Int)<(m:Int):=by omega
    obtain ⟨x,hx,hxe⟩:=DU Lc.out i;have c1:w1.cell? ⟨b,o+i,none⟩=some (.int .u8 (x:Int)):=by rw [HR.out.2.2.2.1.cell (p:=⟨b,o+i,none⟩) hb,HC.out i hlt,hxe]
    have ZN:=ZU hxe;have Zs:(x:Int)<256:=by omega
    clear hxe;have HN:Hid (bits .or .i64 (wrap64 (z*256)) (x:Int)=wrap64 ((Uh (ys.take (i+1)):Nat):Int)):=by
     show _=_;have ht:ys.take (i+1)=ys.take i++[(x:Int)]:=by
      have hl:i<ys.length:=by have:=HM.out;omega
      have he:=ZN.out
      simp only [List.getD,ZF hl,Xf] at he
      rw [YW hl,he]
     rw [ht,Jn,HZ.out,DC,xz _ _ hx,Ze]
    go_wp2;exact ⟨⟨i+1,_,by omega,by go_num,rfl,HN,q,rfl⟩,by simp [intOf];omega⟩
  have him:i=m:=by omega
  subst him;have ZL:=ZU (HR.out.drewN q);have ZH:Hid (∃v' q',w1.drewN q=(w.setCell ⟨k,0,none⟩ v').drewN q'):=⟨v',q,by rw [HW.out]⟩;go_wp2;go_ret;exact ⟨Pe HZ.out,ZL.out,ZH.out⟩
def DB:List Int→Option (ByteArray × List Int)
 | []=>none
 | y :: r=>if y.toNat≤r.length then some (strOfNums (r.take y.toNat),r.drop y.toNat) else none
def UK (ys:List Int) (i:Nat):Int:=((Uh ((ys.drop (4*i)).take 4):Nat):Int)
def QE (ys:List Int):Option (Nd × List Int) :=
 match DB ys with
 | none=>none
 | some (p,r1) =>
  match DB r1 with
  | none=>none
  | some (d,r2)=>if 20≤r2.length then some (⟨p,d,UK r2 0,UK r2 1,UK r2 2,UK r2 3,UK r2 4⟩,r2.drop 20) else none
theorem TW (h:Sn ys) (n:Nat):Sn (ys.drop n):=fun x hx=>h x (XV hx)
theorem xw (h:DB ys=some (s,r)):∃y t,ys=y :: t∧y.toNat≤t.length∧s=strOfNums (t.take y.toNat)∧r=t.drop y.toNat:=by
 cases ys with
 | nil=>simp [DB] at h
 | cons y t =>
  simp only [DB] at h
  by_cases hy:y.toNat≤t.length
  · rw [Z0 hy] at h
    simp only [ZK,Rv] at h
    exact ⟨y,t,rfl,hy,h.1.symm,h.2.symm⟩
  rw [Z1 hy] at h;cases h
theorem LK (h:DB ys=some (s,r)) (hb:Sn ys):Sn r∧r.length<ys.length∧s.size<256:=by
 obtain ⟨y,t,rfl,h1,rfl,rfl⟩:=xw h;refine ⟨fun x hx=>hb x (Zp _ (XV hx)),by simp;omega,?_⟩;have:=hb y (by simp);rw [strOfNums_size,Zw];omega
theorem Nv {n:Nd} (h:QE ys=some (n,r)) (hb:Sn ys):Sn r∧r.length<ys.length∧n.path.size<256∧n.data.size<256:=by
 unfold QE at h
 cases h1:DB ys with
 | none=>rw [h1] at h;cases h
 | some q =>
  obtain ⟨p,r1⟩:=q;rw [h1] at h
  simp only at h
  cases h2:DB r1 with
  | none=>rw [h2] at h;cases h
  | some q2 =>
   obtain ⟨d,r2⟩:=q2;rw [h2] at h
   simp only at h
   by_cases h3:20≤r2.length
   · rw [Z0 h3] at h
     simp only [ZK,Rv] at h
     obtain ⟨rfl,rfl⟩:=h;have b1:=LK h1 hb;have b2:=LK h2 b1.1;refine ⟨TW b2.1 _,?_,b1.2.2,b2.2.2⟩;rw [ZS];omega
   rw [Z1 h3] at h;cases h
def BS:Nat→List Int→Option (List Nd)
 | 0,ys=>if ys=[] then some [] else none
 | f+1,ys=>if ys=[] then some [] else
  match QE ys with
  | none=>none
  | some (n,r)=>(BS f r).map (n :: ·)
theorem sm (f:Nat):BS f []=some []:=by cases f <;> simp [BS]
theorem xu {f:Nat} (h:ys≠[]) (hr:QE ys=none):BS f ys=none:=by
 cases f with
 | zero=>simp [BS,h]
 | succ f=>simp [BS,h,hr]
theorem xt {f:Nat} {n:Nd} (h:ys≠[]) (hr:QE ys=some (n,r)):BS (f+1) ys=(BS f r).map (n :: ·):=by simp [BS,h,hr]
def yE (ys:List Int) (ns:List Nd) (r:List Int):Prop:=∃f,r.length≤f∧BS ys.length ys=(BS f r).map (ns++·)∧ns.length+r.length≤ys.length
theorem yE.start (ys:List Int):yE ys [] ys:=⟨ys.length,YR,by simp,by simp⟩
theorem yE.step {ns:List Nd} {r':List Int} {n:Nd} (h:yE ys ns r) (hb:Sn r) (hr:QE r=some (n,r')):yE ys (ns++[n]) r':=by
 obtain ⟨f,hf,he,hl⟩:=h;have h1:=(Nv hr hb).2.1;have hne:r≠[]:=fun e=>by rw [e] at h1;simp at h1
 cases f with
 | zero=>omega
 | succ f =>
  refine ⟨f,by omega,?_,by simp;omega⟩;rw [he,xt hne hr,Option.map_map]
  congr 1
  funext l
  simp
theorem yE.done {ns:List Nd} (h:yE ys ns []):BS ys.length ys=some ns:=by
 obtain ⟨f,-,he,-⟩:=h;rw [he,sm];simp
theorem yE.bad {ns:List Nd} (h:yE ys ns r) (hne:r≠[]) (hr:QE r=none):BS ys.length ys=none:=by
 obtain ⟨f,-,he,-⟩:=h;rw [he,xu hne hr];rfl
def FX (ys:List Int):Option (List Nd) :=
 match BS ys.length ys with
 | none=>none
 | some ns=>if WE ns then some ns else none
theorem take_zero (w:World) (k n c:Nat) (ao:Option Addr) (h0:w.cell? ⟨k,0,none⟩=some (.slice ao n c)) (hz:w.frozen? ⟨k,0,none⟩=false) :
    Calls Tryz.prog 204 #[.pointer (some ⟨k,0,none⟩),.int .i64 0] w fun e w'=>e=.returned (.slice ao 0 c)∧w'=w.setCell ⟨k,0,none⟩ (.slice ao n c):=by
 have hI:¬(n:Int)<0:=by omega
 go_enter Tryz.func204,Tryz.ntmps204
 cases ao with
 | none =>
  go_wp2;go_ret;exact ⟨rfl,rfl⟩
 | some a =>
  go_wp2;go_ret;exact ⟨rfl,rfl⟩
theorem xr (w0 w:World) (k m:Nat) (ys:List Int) (h:RS w0 w k ys) (hm:m≤ys.length) :
    Calls Tryz.prog 204 #[.pointer (some ⟨k,0,none⟩),.int .i64 m] w fun e w'=>∃v1,e=.returned v1∧Rd .u8 w0 v1 (ys.take m)∧RS w0 w' k (ys.drop m)∧w.grownBy w' (some k):=by
 have h':=h;obtain ⟨h1,h2,h3,h4,v,h5,h6⟩:=h;have h6':=h6;obtain ⟨ao,c,rfl,g1,g2,g3⟩:=h6
 by_cases hm0:m=0
 · subst hm0
   refine (take_zero w k ys.length c ao h5 h3).mono ?_;rintro e w' ⟨rfl,rfl⟩;refine ⟨_,rfl,⟨ao,c,by simp,Zu _,g2,.inl (WI)⟩,?_,grownBy_set _ _ _ _ _ (Zz _ _)⟩;rw [XR];exact RS.set h' h6'
 rcases g3 with rfl | ⟨b,o,rfl,hb,hc⟩
 · simp at hm;omega
 refine (BT w k b o ys.length c m h5 h3 hm (by omega) g1).mono ?_;rintro e w' ⟨rfl,o',ho',rfl⟩;have hs:=Rd.split h6' m hm (by omega);exact ⟨_,rfl,hs.1,RS.set h' (hs.2 o' ho'),grownBy_set _ _ _ _ _ (Zz _ _)⟩
theorem FW (w0 w:World) (k:Nat) (y:Int) (r:List Int) (h:RS w0 w k (y :: r)) :
    Calls Tryz.prog 233 #[.pointer (some ⟨k,0,none⟩)] w fun e w'=>e=.returned (.int .u8 y)∧RS w0 w' k r∧w.grownBy w' (some k):=by
 have H:Hid (Calls Tryz.prog 204 #[.pointer (some ⟨k,0,none⟩),.int .i64 1] w fun e w'=>∃b o c,e=.returned (.slice (some ⟨b,o,none⟩) 1 c)∧w'.cell? ⟨b,o,none⟩=some (.int .u8 y)∧Hid (RS w0 w' k r)∧Hid (w.grownBy w' (some k))):=by
  refine (FY w0 w k 1 (y :: r) h (by simp) (by omega)).mono ?_;rintro e w' ⟨b,o,c,v',rfl,hb,hc,hr,rfl⟩;have h0:=hc 0 (by omega);refine ⟨b,o,c,rfl,?_,(by show RS _ _ _ _;simpa using hr),grownBy_set _ _ _ _ _ (Zz _ _)⟩;rw [hr.2.2.2.1.cell (p:=⟨b,o,none⟩) hb]
  simpa using h0
 clear h
 go_enter Tryz.func233,Tryz.ntmps233
 go_wp2_with fail
 refine H.out.mono ?_;rintro e w1 ⟨b,o,c,rfl,hc,hr,hg⟩;go_wp2;go_ret;exact ⟨rfl,hr.out,hg.out⟩
theorem Ip (w0 w:World) (k:Nat) (h:RS w0 w k []) :
    Calls Tryz.prog 233 #[.pointer (some ⟨k,0,none⟩)] w fun e w'=>e=.panicked QT∧w'=w:=by
 have H:Hid (Calls Tryz.prog 204 #[.pointer (some ⟨k,0,none⟩),.int .i64 1] w fun e w'=>e=.panicked QT∧w'=w):=ML w0 w k 1 [] h (by simp);clear h
 go_enter Tryz.func233,Tryz.ntmps233
 go_wp2_with fail
 refine H.out.mono ?_;rintro e w1 ⟨rfl,rfl⟩;exact ⟨rfl,rfl,rfl⟩
def xq (w0 w:World) (k:Nat) (ys:List Int) (e:Ending) (w':World):Prop :=
 w.grownBy w' (some k)∧((DB ys=none∧e=.panicked QT)∨∃s r,DB ys=some (s,r)∧e=.returned (.string s)∧RS w0 w' k r)
theorem FV (w0 w:World) (k:Nat) (ys:List Int) (h:RS w0 w k ys) (hby:Sn ys) :
    Calls Tryz.prog 205 #[.pointer (some ⟨k,0,none⟩)] w fun e w'=>xq w0 w k ys e w':=by
 have HS:=ZU h;clear h
 go_enter Tryz.func205,Tryz.ntmps205
 go_wp2_with fail
 cases ys with
 | nil =>
  refine (Ip w0 w k HS.out).mono ?_;rintro e w1 ⟨rfl,rfl⟩;exact ⟨rfl,Zz _ _,.inl ⟨rfl,rfl⟩⟩
 | cons y r =>
  have hy:=hby y (by simp);obtain ⟨m,rfl⟩:∃m:Nat,y=(m:Int):=⟨y.toNat,by omega⟩;have hm:m<256:=by omega
  clear hby hy;refine (FW w0 w k m r HS.out).mono ?_;rintro e w1 ⟨rfl,r1,g1⟩;have R1:=ZU r1;have G1:=ZU g1;clear r1 g1 HS;have ii:(m:Int)<256:=by omega
  go_wp2_with fail
  by_cases hl:m≤r.length
  · refine (xr w0 w1 k m r R1.out hl).mono ?_
    rintro e w2 ⟨v2,rfl,Z7,r2,g2⟩;have hcv:=To (Z7.below r2.2.2.2.1);have HP:Hid (xq w0 w k ((m:Int) :: r) (.returned (.string (strOfNums (r.take m)))) w2):=by
     refine ⟨G1.out.trans g2,.inr ⟨_,_,?_,rfl,r2⟩⟩
     simp only [DB,Ze]
     rw [Z0 hl]
    clear Z7 r2 g2 R1 G1;go_wp2;go_ret;exact HP.out
  refine (ML w0 w1 k m r R1.out (by omega)).mono ?_;rintro e w2 ⟨rfl,rfl⟩;refine ⟨rfl,G1.out,.inl ⟨?_,rfl⟩⟩
  simp only [DB,Ze]
  rw [Z1 hl]
def oC (b p:Nat):Value:=.agg #[.pointer (some ⟨b,p+2,none⟩),.pointer (some ⟨b,p+3,none⟩),.pointer (some ⟨b,p+4,none⟩),.pointer (some ⟨b,p+5,none⟩),.pointer (some ⟨b,p+6,none⟩)]
theorem Jl (w:World) (b p:Nat) :
    Calls Tryz.prog 142 #[.pointer (some ⟨b,p,none⟩)] w (Wj w (oC b p)):=by
 go_enter Tryz.func142,Tryz.ntmps142
 go_wp2;refine ZX (S:=fun _=>True) (by kernel_rfl) (trivial) (fun Z9=>?_)
 iterate 20 (refine Zf ?_ (by kernel_rfl) (fun _=>id) Z9 ?_ ?_;rotate_left;· intro w9 ZQ;go_simp;try with_reducible rfl)
 refine Zf (oC b p) (by kernel_rfl) (fun _=>id) Z9 ?_ ?_
 · intro w9 ZQ;go_simp;rfl
 refine YS 21 rfl (by kernel_rfl) (fun K hK=>?_);unfold oC;go_simp;refine hK.out _ _ trivial (fun YA=>?_);clear hK K Z9 YA;refine ZR (by kernel_rfl) ?_ _
 try simp only [Act.put,WV,WU,WT]
 go_wp2;refine ZW (v:=oC b p) (by simp [results,Tryz.results142,go_sem,oC]) rfl ⟨rfl,?_⟩;exact (Yy.alloc YR _).trans ((below_drewN' _ 1).mono (by simp))
theorem KT.box (h:KT e w w') (hb:w.heap[b]?=some (.cells A t f)) (ht:t≠e):w'.heap[b]?=some (.cells A t f):=by
 have hlt:=(Z3.1 hb).1;rw [h.2 b hlt (by rw [hb];rintro ⟨cur,h⟩;injection h with h;injection h with _ h2;exact ht h2),hb]
def Lb (w:World) (b:Nat) (n:Nd):Prop:=(∃A t f,w.heap[b]?=some (.cells A t f)∧t≠5)∧Um w b 0 n
theorem Lb.keep {n:Nd} (h:Lb w b n) (hk:KT 5 w w'):Lb w' b n:=by
 obtain ⟨⟨A,t,f,h1,h2⟩,h3⟩:=h;have h4:=hk.box h1 h2;have e:∀q,w'.cell? ⟨b,q,none⟩=w.cell? ⟨b,q,none⟩:=fun q=>ZP (a:=⟨b,q,none⟩) (by show w'.heap[b]?=w.heap[b]?;rw [h4,h1])
 exact ⟨⟨A,t,f,h4,h2⟩,(e _).trans h3.c0,(e _).trans h3.c1,(e _).trans h3.c2,(e _).trans h3.c3,(e _).trans h3.c4,(e _).trans h3.c5,(e _).trans h3.c6⟩
theorem Lb.below {n:Nd} (h:Lb w b n) (hk:Zi w w'):Lb w' b n:=h.keep ((KT.refl _ _).below hk)
theorem Lb.cells {n:Nd} (h:Lb w b n):Um w b 0 n:=h.2
theorem cell_of (h:w.heap[b]?=some (.cells A t f)) (q:Nat):w.cell? ⟨b,q,none⟩=A[q]?:=by simp [World.cell?,h]
theorem KT.cell (h:KT e w w') (hb:w.heap[b]?=some (.cells A t f)) (ht:t≠e) (q:Nat):w'.cell? ⟨b,q,none⟩=w.cell? ⟨b,q,none⟩ :=
 ZP (a:=⟨b,q,none⟩) (by show w'.heap[b]?=w.heap[b]?;rw [h.box hb ht,hb])
def MX (a b c d e k:Nat):List Int:=([a,b,c,d,e].take k).flatMap fun z=>Xo z 4
theorem sk (a b c d e k:Nat):(MX a b c d e k).length≤20:=by
 unfold MX
 match k with
 | 0=>simp
 | 1=>simp [Xd]
 | 2=>simp [Xd]
 | 3=>simp [Xd]
 | 4=>simp [Xd]
 | k+5=>simp [Xd]
theorem kR (a b c d e:Nat):MX a b c d e 0++Xo a 4=MX a b c d e 1:=by simp [MX]
theorem kQ (a b c d e:Nat):MX a b c d e 1++Xo b 4=MX a b c d e 2:=by simp [MX]
theorem kP (a b c d e:Nat):MX a b c d e 2++Xo c 4=MX a b c d e 3:=by simp [MX]
theorem kO (a b c d e:Nat):MX a b c d e 3++Xo d 4=MX a b c d e 4:=by simp [MX]
theorem kN (a b c d e:Nat):MX a b c d e 4++Xo e 4=MX a b c d e 5:=by simp [MX]
theorem kM (W:World) (b:Nat):(Instr.index 217 (.agg #[.pointer (some ⟨b,2,none⟩),.pointer (some ⟨b,3,none⟩),.pointer (some ⟨b,4,none⟩),.pointer (some ⟨b,5,none⟩),.pointer (some ⟨b,6,none⟩)]) (.int .i64 0)).run Tryz.prog W=.ok (.pointer (some ⟨b,2,none⟩)) W:=by kernel_rfl
theorem kL (W:World) (b:Nat):(Instr.index 217 (.agg #[.pointer (some ⟨b,2,none⟩),.pointer (some ⟨b,3,none⟩),.pointer (some ⟨b,4,none⟩),.pointer (some ⟨b,5,none⟩),.pointer (some ⟨b,6,none⟩)]) (.int .i64 1)).run Tryz.prog W=.ok (.pointer (some ⟨b,3,none⟩)) W:=by kernel_rfl
theorem kK (W:World) (b:Nat):(Instr.index 217 (.agg #[.pointer (some ⟨b,2,none⟩),.pointer (some ⟨b,3,none⟩),.pointer (some ⟨b,4,none⟩),.pointer (some ⟨b,5,none⟩),.pointer (some ⟨b,6,none⟩)]) (.int .i64 2)).run Tryz.prog W=.ok (.pointer (some ⟨b,4,none⟩)) W:=by kernel_rfl
theorem kJ (W:World) (b:Nat):(Instr.index 217 (.agg #[.pointer (some ⟨b,2,none⟩),.pointer (some ⟨b,3,none⟩),.pointer (some ⟨b,4,none⟩),.pointer (some ⟨b,5,none⟩),.pointer (some ⟨b,6,none⟩)]) (.int .i64 3)).run Tryz.prog W=.ok (.pointer (some ⟨b,5,none⟩)) W:=by kernel_rfl
theorem kI (W:World) (b:Nat):(Instr.index 217 (.agg #[.pointer (some ⟨b,2,none⟩),.pointer (some ⟨b,3,none⟩),.pointer (some ⟨b,4,none⟩),.pointer (some ⟨b,5,none⟩),.pointer (some ⟨b,6,none⟩)]) (.int .i64 4)).run Tryz.prog W=.ok (.pointer (some ⟨b,6,none⟩)) W:=by kernel_rfl
theorem Px (w:World) (base:Nat) (v:Value) (xs:List Int) (b:Nat) (n:Nd) (h:Own .u8 5 w base v xs) (hb:base≤w.heap.size) (hl:xs.length≤1000000) (hx:Lb w b n) (hn:Wl n=true) :
    Calls Tryz.prog 94 #[.pointer (some ⟨b,0,none⟩),v] w fun e w'=>∃v',e=.returned v'∧Own .u8 5 w' base v' (xs++Vy n)∧Below base w w'∧KT 5 w w':=by
 obtain ⟨p1,p2,p3,p4,p5,p6,p7⟩:=TX hn;have HO:Hid (Own .u8 5 w base v xs):=h;have HX:Hid (Lb w b n):=hx;obtain ⟨c0,c1,c2,c3,c4,c5,c6⟩:=HX.out.cells
 go_enter Tryz.func94,Tryz.ntmps94
 go_wp2_with fail
 refine (Qa w base v xs n.path HO.out hb (by omega) (by omega)).mono ?_;rintro e w1 ⟨v1,rfl,o1,b1,k1⟩;have O1:Hid (Own .u8 5 w1 base v1 (xs++J0 n.path)):=o1;have B1:Hid (Below base w w1):=b1;have X1:Hid (Lb w1 b n):=HX.out.keep k1;have K1:Hid (KT 5 w w1):=k1;have s1:=b1.size;obtain ⟨c0,c1,c2,c3,c4,c5,c6⟩:=X1.out.cells
 go_wp2_with fail
 refine (Qa w1 base v1 _ n.data O1.out (by omega) (by rw [ZZ,Ny];omega) (by omega)).mono ?_;rintro e w2 ⟨v2,rfl,o2,b2,k2⟩;have O2:Hid (Own .u8 5 w2 base v2 (xs++J0 n.path++J0 n.data)):=o2;have B2:=ZU (B1.out.trans b2);have X2:Hid (Lb w2 b n):=X1.out.keep k2;have K2:=ZU (K1.out.trans k2);have s2:=B2.out.size
 go_wp2_with fail
 refine (Jl w2 b 0).mono ?_;rintro e w3 ⟨rfl,b3⟩;have O3:=ZU (O2.out.below b3);have B3:=ZU (B2.out.trans (b3.mono (by omega)));have X3:=ZU (X2.out.below b3);have K3:=ZU (K2.out.below b3);obtain ⟨z0,hz0⟩:∃z:Nat,n.XT=(z:Int):=⟨n.XT.toNat,by omega⟩;obtain ⟨z1,hz1⟩:∃z:Nat,n.XQ=(z:Int):=⟨n.XQ.toNat,by omega⟩;obtain ⟨z2,hz2⟩:∃z:Nat,n.cz=(z:Int):=⟨n.cz.toNat,by omega⟩;obtain ⟨z3,hz3⟩:∃z:Nat,n.mz=(z:Int):=⟨n.mz.toNat,by omega⟩;obtain ⟨z4,qk⟩:∃z:Nat,n.pz=(z:Int):=⟨n.pz.toNat,by omega⟩;have HZ:Hid (Vy n=J0 n.path++J0 n.data++MX z0 z1 z2 z3 z4 5):=by
  show _=_;unfold Vy iL MX
  simp [hz0,hz1,hz2,hz3,qk]
 have HZ0:Hid (n.XT=(z0:Int)):=hz0;have HZ1:Hid (n.XQ=(z1:Int)):=hz1;have HZ2:Hid (n.cz=(z2:Int)):=hz2;have HZ3:Hid (n.mz=(z3:Int)):=hz3;have ig:Hid (n.pz=(z4:Int)):=qk;have HL:Hid (∀k,(xs++J0 n.path++J0 n.data++MX z0 z1 z2 z3 z4 k).length≤1048576):=by
  intro k;have:=sk z0 z1 z2 z3 z4 k
  simp only [ZZ,Ny]
  omega
 obtain ⟨ys,hys⟩:∃ys,ys=xs++J0 n.path++J0 n.data:=⟨_,rfl⟩;have su:Hid (xs++Vy n=ys++MX z0 z1 z2 z3 z4 5):=by show _=_;rw [HZ.out,hys];simp only [ZO]
 rw [←hys] at O3 HL;unfold oC;go_wp2
 go_loopw [1,23] (fun vi vk wr=>∃k:Nat,k≤5∧vk=.int .i64 k∧Hid (Own .u8 5 wr base vi (ys++MX z0 z1 z2 z3 z4 k))∧Hid (Below base w wr)∧Hid (KT 5 w wr)∧Hid (Lb wr b n)) (fun _ i _=>5 - (intOf i).toNat)
 case atStart=>exact ⟨0,by omega,rfl,by show Own _ _ _ _ _ _;unfold MX;simp;exact O3.out,B3,K3,X3⟩
 case round =>
  obtain ⟨k,hk,rfl,HW,HB,HK,U⟩:=hrel;have sB:=HB.out.size;obtain ⟨-,-,c2,c3,c4,c5,c6⟩:=U.out.cells;rw [HZ0.out] at c2;rw [HZ1.out] at c3;rw [HZ2.out] at c4;rw [HZ3.out] at c5;rw [ig.out] at c6
  rcases (show k=0∨k=1∨k=2∨k=3∨k=4∨k=5 by omega) with rfl | rfl | rfl | rfl | rfl | rfl
  · have hix:=fun W=>kM W b
    go_wp2_with fail
    refine (Wr wr base _ _ z0 4 HW.out (by omega) (HL.out _) (by omega)).mono ?_;rintro e w4 ⟨v4,rfl,o4,b4,k4⟩;have O4:Hid (Own .u8 5 w4 base v4 (ys++MX z0 z1 z2 z3 z4 1)):=by rw [ZO,kR] at o4;exact o4
    have B4:=ZU (HB.out.trans b4);have K4:=ZU (HK.out.trans k4);have X4:Hid (Lb w4 b n):=U.out.keep k4;go_wp2;exact ⟨⟨1,by omega,rfl,O4,B4,K4,X4⟩,by simp [intOf]⟩
  · have hix:=fun W=>kL W b
    go_wp2_with fail
    refine (Wr wr base _ _ z1 4 HW.out (by omega) (HL.out _) (by omega)).mono ?_;rintro e w4 ⟨v4,rfl,o4,b4,k4⟩;have O4:Hid (Own .u8 5 w4 base v4 (ys++MX z0 z1 z2 z3 z4 2)):=by rw [ZO,kQ] at o4;exact o4
    have B4:=ZU (HB.out.trans b4);have K4:=ZU (HK.out.trans k4);have X4:Hid (Lb w4 b n):=U.out.keep k4;go_wp2;exact ⟨⟨2,by omega,rfl,O4,B4,K4,X4⟩,by simp [intOf]⟩
  · have hix:=fun W=>kK W b
    go_wp2_with fail
    refine (Wr wr base _ _ z2 4 HW.out (by omega) (HL.out _) (by omega)).mono ?_;rintro e w4 ⟨v4,rfl,o4,b4,k4⟩;have O4:Hid (Own .u8 5 w4 base v4 (ys++MX z0 z1 z2 z3 z4 3)):=by rw [ZO,kP] at o4;exact o4
    have B4:=ZU (HB.out.trans b4);have K4:=ZU (HK.out.trans k4);have X4:Hid (Lb w4 b n):=U.out.keep k4;go_wp2;exact ⟨⟨3,by omega,rfl,O4,B4,K4,X4⟩,by simp [intOf]⟩
  · have hix:=fun W=>kJ W b
    go_wp2_with fail
    refine (Wr wr base _ _ z3 4 HW.out (by omega) (HL.out _) (by omega)).mono ?_;rintro e w4 ⟨v4,rfl,o4,b4,k4⟩;have O4:Hid (Own .u8 5 w4 base v4 (ys++MX z0 z1 z2 z3 z4 4)):=by rw [ZO,kO] at o4;exact o4
    have B4:=ZU (HB.out.trans b4);have K4:=ZU (HK.out.trans k4);have X4:Hid (Lb w4 b n):=U.out.keep k4;go_wp2;exact ⟨⟨4,by omega,rfl,O4,B4,K4,X4⟩,by simp [intOf]⟩
  · have hix:=fun W=>kI W b
    go_wp2_with fail
    refine (Wr wr base _ _ z4 4 HW.out (by omega) (HL.out _) (by omega)).mono ?_;rintro e w4 ⟨v4,rfl,o4,b4,k4⟩;have O4:Hid (Own .u8 5 w4 base v4 (ys++MX z0 z1 z2 z3 z4 5)):=by rw [ZO,kN] at o4;exact o4
    have B4:=ZU (HB.out.trans b4);have K4:=ZU (HK.out.trans k4);have X4:Hid (Lb w4 b n):=U.out.keep k4;go_wp2;exact ⟨⟨5,by omega,rfl,O4,B4,K4,X4⟩,by simp [intOf]⟩
  go_wp2;go_ret;exact ⟨_,rfl,(by rw [su.out];exact HW.out),HB.out,HK.out⟩
end
end Go.Proofs.YtpmjnbmkippaiaaGreatDoor


