import Derived.Test.YtpmjnbmkippaiaaGreatDoorJ02
set_option maxRecDepth 100000
set_option maxHeartbeats 16000000
set_option linter.all false
namespace Go.Proofs.YtpmjnbmkippaiaaGreatDoor
open Go.RowKit Go.Shelf
variable {p s:ByteArray} {z:Int} {nm:List ByteArray} {A B P ns r:List Nd} {L:List UInt8} {i j k lo:Nat} {a b m n:Nd} {v vo:Value} {W W' w w':World}
theorem kW {A:List UInt8} (hs:s.data.toList=A++47 :: L) (hL:(47:UInt8) ∉ L) (j:Nat) (hj:A.length<j) (hj2:j<s.size):bN s j≠47:=by
 intro h;have hl:j<s.data.toList.length:=by rw [YJ];exact hj2
 unfold bN at h
 simp only [List.getD,ZF hl,Xf] at h
 have he:s.data.toList[j]=47:=Uj (by simpa using h);have hm:s.data.toList[j] ∈ L:=by
  refine UT (i:=j - A.length - 1) ?_;have h1:s.data.toList[j]?=some s.data.toList[j]:=ZF hl;rw [←h1]
  conv=>rhs;rw [hs]
  rw [Zv (by omega)]
  conv=>rhs;rw [show j - A.length=(j - A.length - 1)+1 by omega,Xr]
 rw [he] at hm;exact hL hm
theorem qp {A:List UInt8} (hs:s.data.toList=A++47 :: L):bN s A.length=47∧A.length<s.size:=by
 have hz:s.data.toList.length=s.size:=by rw [YJ];rfl
 constructor
 · unfold bN
   rw [hs]
   simp [List.getD]
 rw [←hz,hs];simp
theorem FY (w:World) (s:ByteArray) (A L:List UInt8) (hs:s.data.toList=A++47 :: L) (hL:(47:UInt8) ∉ L) (hz:s.size≤1048576) :
    Calls Tryz.prog 223 #[.string s,.int .u8 47] w fun e w'=>e=.returned (.int .i64 (A.length:Int))∧w'=w:=by
 have HS:Hid (s.data.toList=A++47 :: L):=hs;have HL:Hid ((47:UInt8) ∉ L):=hL;obtain ⟨h47,hlt⟩:=qp hs;clear hs hL
 go_enter Tryz.func223,Tryz.ntmps223
 go_wp2
 go_loop [5] (fun i=>∃j:Nat,A.length≤j∧j<s.size∧i=.int .i64 j) (fun i=>(intOf i).toNat)
 case atStart=>exact ⟨s.size - 1,by omega,by omega,by go_num⟩
 case round =>
  obtain ⟨j,hj,hj2,rfl⟩:=hrel;have iL:(0:Int)≤(j:Int):=by omega
  have hb:=yv s j hj2
  by_cases he:j=A.length
  · subst he
    have hx:s[A.length].toNat=47:=by rw [←hb];exact h47
    go_wp2;go_ret;exact ⟨rfl,rfl⟩
  have hx:s[j].toNat≠47:=by rw [←hb];exact kW HS.out HL.out j (by omega) hj2
  go_wp2;exact ⟨⟨j - 1,by omega,by omega,by go_num⟩,by simp [intOf];omega⟩
theorem DD (w:World) (s:ByteArray) (A L:List UInt8) (hs:s.data.toList=A++47 :: L) (hL:(47:UInt8) ∉ L) (hz:s.size≤1048576) :
    Calls Tryz.prog 196 #[.string s,.int .u8 47] w fun e w'=>e=.returned (.int .i64 (A.length:Int))∧w'=w:=by
 have H:Hid (Calls Tryz.prog 223 #[.string s,.int .u8 47] w fun e w'=>e=.returned (.int .i64 (A.length:Int))∧w'=w):=FY w s A L hs hL hz;clear hs hL
 go_enter Tryz.func196,Tryz.ntmps196
 go_wp2_with fail
 refine H.out.mono ?_;rintro e w1 ⟨rfl,rfl⟩;go_wp2;go_ret;exact ⟨rfl,rfl⟩
theorem Su (w:World) (s:ByteArray) (h:Xi s=true) :
    Calls Tryz.prog 195 #[.string s] w fun e w'=>e=.returned (sV (ID s))∧w'=w:=by
 obtain ⟨h1,h0⟩:=PE h;have hz:=PF h;have hs:=Oj h1 h0;have hal:=(qp hs).2;have H:Hid (Calls Tryz.prog 196 #[.string s,.int .u8 47] w fun e w'=>e=.returned (.int .i64 ((Qq s).length:Int))∧w'=w):=DD w s _ _ hs (IE s) (by omega)
 by_cases hm:Qq s=[]
 · have lY:Hid (Value.string (s.extract 0 1)=sV (ID s)):=by
    show _=_;rw [RN];unfold sV yN ID;rw [Z0 hm,hs,hm]
    simp
   have Y:(Qq s).length=0:=by rw [hm];rfl
   rw [Y] at H;clear hs h h0 hm Y hal
   go_enter Tryz.func195,Tryz.ntmps195
   go_wp2_with fail
   refine H.out.mono ?_;rintro e w1 ⟨rfl,rfl⟩;go_wp2;go_ret;exact ⟨ZM Ending.returned lY.out,rfl⟩
 have Y:1≤(Qq s).length:=by
  cases hh:Qq s with
  | nil=>exact absurd hh hm
  | cons a l=>simp
 have lY:Hid (Value.string (s.extract 0 (Qq s).length)=sV (ID s)):=by
  show _=_;rw [RN];unfold sV yN ID;rw [Z1 hm,hs]
  simp
 clear hs h h0 hm;generalize (Qq s).length=m at *
 go_enter Tryz.func195,Tryz.ntmps195
 go_wp2_with fail
 refine H.out.mono ?_;rintro e w1 ⟨rfl,rfl⟩;go_wp2
 · go_ret
   exact ⟨ZM Ending.returned lY.out,rfl⟩
 have hm1:m=1:=by omega
 subst hm1;go_ret;exact ⟨ZM Ending.returned lY.out,rfl⟩
def GM (s p:ByteArray):Bool:=!(s.toList == [47]) && (ID s == p.toList)
theorem FX (w:World) (s p:ByteArray) (h:Xi s=true) :
    Calls Tryz.prog 160 #[.string s,.string p] w fun e w'=>e=.returned (.bool (GM s p))∧w'=w:=by
 have H:Hid (Calls Tryz.prog 195 #[.string s] w fun e w'=>e=.returned (sV (ID s))∧w'=w):=Su w s h;clear h;unfold GM
 cases hA:(s.toList == [47]) with
 | true =>
  go_enter Tryz.func160,Tryz.ntmps160
  go_wp2;go_ret;exact ⟨rfl,rfl⟩
 | false =>
  go_enter Tryz.func160,Tryz.ntmps160
  go_wp2_with fail
  refine H.out.mono ?_;rintro e w1 ⟨rfl,rfl⟩;unfold sV;go_wp2;go_ret;exact ⟨rfl,rfl⟩
def six:Nat→Nat→Nat→List UInt8
 | 0,_,_=>[]
 | f+1,v,d=>if v=0∧d=0 then [] else six f (v / 10) (d - 1)++[UInt8.ofNat (48+v % 10)]
theorem BS:∀f v d,(six f v d).length≤f
 | 0,_,_=>YR
 | f+1,v,d=>by
  unfold six
  split
  · simp
  have:=BS f (v / 10) (d - 1)
  simp;omega
def U9 (p:ByteArray) (n:Nd):Bool:=n.path.toList == p.toList
def LK (v:Int):Int:=if v=2147483647 then v else v+1
def toN (ns:List Nd) (p:ByteArray) (z:Int):List Nd :=
 if ns.findIdx (U9 p)<ns.length then LX ns { Ye ns (ns.findIdx (U9 p)) with XQ:=LK (Ye ns (ns.findIdx (U9 p))).XQ,pz:=z } else ns
structure TK where
 kind:Int
 path:ByteArray
 data:ByteArray
 XT:Int
 seq:Bool
def MW (o:TK):Value:=.agg #[.int .i64 o.kind,.string o.path,.string o.data,.int .i64 o.XT,.bool o.seq]
def OO (o:TK):Bool :=
 decide (1≤o.kind) && decide (o.kind≤4) && Xi o.path && decide (o.data.size≤64) && (decide (o.kind=1) || decide (o.kind=3) || decide (o.data.size=0)) &&
  (if o.kind=1 then decide (o.XT=0) && !(o.path.toList == [47]) else decide (-1≤o.XT) && decide (o.XT≤2147483647) && !o.seq && (!decide (o.kind=2) || !(o.path.toList == [47])))
def iE (ns:List Nd) (p:ByteArray):List Nd:=ns.filter fun n=>GM n.path p
theorem AH (h:Wl n=true):Xi n.path=true:=by
 unfold Wl at h
 simp only [ZA] at h
 exact h.1.1.1.1.1.1
def iD (w:World) (lo:Nat) (v:Value) (L:List (List UInt8)):Prop:=w.ownsRow lo 9 1 v L.length (L.map sV)
def UZ (s:ByteArray):ByteArray:=⟨(ID s).toArray⟩
def Uz (ns:List Nd) (o:TK):ByteArray:=if o.seq then ⟨(o.path.data.toList++six 12 (Ye ns (ns.findIdx (U9 (UZ o.path)))).XQ.toNat 6).toArray⟩ else o.path
def Ry (ns:List Nd) (o:TK) (z:Int):Int × List Nd × ByteArray :=
 if !OO o then (1,ns,⟨#[]⟩)
 else if o.kind=1 then
  if ¬ns.findIdx (U9 (UZ o.path))<ns.length then (2,ns,⟨#[]⟩)
  else if !Xi (Uz ns o) then (1,ns,⟨#[]⟩)
  else if ns.findIdx (U9 (Uz ns o))<ns.length then (3,ns,⟨#[]⟩)
  else if ns.length=1000 then (6,ns,⟨#[]⟩)
  else (0,toN (LX ns ⟨Uz ns o,o.data,0,0,z,z,z⟩) (UZ o.path) z,Uz ns o)
 else if ¬ns.findIdx (U9 o.path)<ns.length then (2,ns,⟨#[]⟩)
 else if o.XT≠-1∧o.XT≠(Ye ns (ns.findIdx (U9 o.path))).XT then (4,ns,⟨#[]⟩)
 else if o.kind=2 then
  if 0<(iE ns o.path).length then (5,ns,⟨#[]⟩) else (0,toN (NI ns o.path) (UZ o.path) z,o.path)
 else if o.kind=3 then (0,LX ns { Ye ns (ns.findIdx (U9 o.path)) with data:=o.data,XT:=LK (Ye ns (ns.findIdx (U9 o.path))).XT,mz:=z },o.path)
 else (0,ns,o.path)
theorem sP {y:Nd} {st:List Nd × Bool} (h:y ∈ (GN n st a).1):y ∈ st.1∨y=n∨y=a:=by
 unfold GN at h;dsimp only at h;generalize (!st.2 && !(Op.bytesLess a.path.toList n.path.toList))=c1 at h;generalize (a.path.toList == n.path.toList)=c2 at h
 cases c1 <;> cases c2 <;> simp at h <;> grind
theorem oS (h:m ∈ LX ns n):m ∈ ns∨m=n:=by
 have key:∀(l:List Nd) (st:List Nd × Bool),(∀x ∈ st.1,x ∈ ns∨x=n)→(∀x ∈ l,x ∈ ns)→∀x ∈ (l.foldl (GN n) st).1,x ∈ ns∨x=n:=by
  intro l
  induction l with
  | nil=>intro st h1 _ x hx;exact h1 x hx
  | cons a l ih =>
   intro st h1 h2 x hx;refine ih (GN n st a) ?_ (fun y hy=>h2 y (Zp _ hy)) x hx;intro y hy
   rcases sP hy with h3 | h3 | h3
   · exact h1 y h3
   · exact .inr h3
   exact .inl (h3 ▸ h2 a (YO ..))
 unfold LX qt at h
 split at h
 · exact key ns ([],false) (fun x hx=>by simp at hx) (fun x hx=>hx) m h
 rcases Y4.1 h with h | h
 · exact key ns ([],false) (fun x hx=>by simp at hx) (fun x hx=>hx) m h
 simp at h;exact .inr h
theorem oR (h:Asc ns) (p:ByteArray):Asc (NI ns p):=VW List.filter_sublist h
theorem sO (p:ByteArray):Tz p p=false:=by
 cases h:Tz p p with
 | false=>rfl
 | true=>have:=Li h;simp at this
theorem LJ (n:Nd) (h:Asc ns):LX ns n=ns.take (Ty ns n.path)++n :: ns.drop (Ty ns n.path+Ix ns n.path):=by
 have:=Le [] ns n (fun a ha=>by simp at ha) h
 simpa using this
theorem xQ (h:Asc ns) (p:ByteArray):∀a ∈ ns.drop (Ty ns p+Ix ns p),Tz p a.path=true∧(a.path.toList == p.toList)=false:=by
 intro a ha;rw [←Iu ns p h] at ha;obtain ⟨h1,h2⟩:=List.mem_filter.1 ha;have h3:(a.path.toList == p.toList)=false:=by simpa using h2
 exact ⟨Jm (Iw ns p h a h1) h3,h3⟩
theorem oQ (h:Asc ns) (n:Nd):Asc (LX ns n):=by
 rw [LJ n h];unfold Asc;rw [List.pairwise_append,List.pairwise_cons];refine ⟨VW (List.take_sublist _ _) h,⟨fun a ha=>(xQ h n.path a ha).1,VW (List.drop_sublist _ _) h⟩,?_⟩;intro a ha b hb;have h1:=Lg ns n.path a ha
 rcases Y9.1 hb with rfl | hb
 · exact h1
 exact Sa h1 (xQ h n.path b hb).1
theorem sM (h:Asc ns) (n:Nd):(LX ns n).length=ns.length+1 - Ix ns n.path:=by
 have:=xU ns n.path;rw [LJ n h]
 simp only [ZZ,ZE,Zw,ZS]
 have:=Oi ns n.path;omega
theorem BR (h:Asc ns) (hf:∃a ∈ ns,(a.path.toList == p.toList)=true):Ix ns p=1:=by
 obtain ⟨a,ha,he⟩:=hf;have h1:=xU ns p
 by_cases h0:Ix ns p=0
 · exfalso
   rw [←YQ (Ty ns p) ns] at ha
   rcases Y4.1 ha with ha | ha
   · have:=Li (Lg ns p a ha)
     rw [this] at he;cases he
   have:=(xQ h p a (by rw [h0];exact ha)).2;rw [this] at he;cases he
 omega
theorem Qo (h:ns.findIdx (U9 p)<ns.length):Ye ns (ns.findIdx (U9 p)) ∈ ns∧((Ye ns (ns.findIdx (U9 p))).path.toList == p.toList)=true:=by
 rw [WF h];exact ⟨YP h,List.findIdx_getElem (w:=h)⟩
def Ld (ns:List Nd):Prop:=Asc ns∧(∀n ∈ ns,Wl n=true)∧ns.length≤1000
theorem P4 :WE ns=true↔Ld ns:=by
 constructor
 · intro h
   refine ⟨Lh h,?_,Ok h⟩;intro n hn;obtain ⟨i,hi,rfl⟩:=List.mem_iff_getElem.1 hn;have:=MQ h i hi
   rwa [WF hi] at this
 rintro ⟨h1,h2,h3⟩;unfold WE;rw [Zm h3,Xz];refine Lu fun k hk=>?_
 cases k with
 | zero=>rw [Jt,WF hk];exact h2 _ (YP hk)
 | succ k =>
  rw [Pc,WF hk,WF (show k<ns.length by omega),h2 _ (YP hk),Xz];exact List.pairwise_iff_getElem.1 h1 k (k+1) (by omega) hk (by omega)
theorem Ld.wo (h:Ld ns) (p:ByteArray):Ld (NI ns p) :=
 ⟨oR h.1 p,fun n hn=>h.2.1 n (List.mem_filter.1 hn).1,ZJ (List.length_filter_le ..) h.2.2⟩
theorem Ld.wi (h:Ld ns) (hn:Wl n=true) (hl:ns.length<1000∨∃a ∈ ns,(a.path.toList == n.path.toList)=true):Ld (LX ns n):=by
 refine ⟨oQ h.1 n,fun m hm=>?_,?_⟩
 · rcases oS hm with h1 | rfl
   · exact h.2.1 m h1
   exact hn
 rw [sM h.1 n];have:=h.2.2
 rcases hl with hl | hl
 · omega
 rw [BR h.1 hl];omega
theorem BQ {v:Int} (h:PR v=true):PR (LK v)=true:=by
 unfold PR LK at *
 simp only [ZA,Zj] at *
 split <;> omega
theorem Ld.touch (h:Ld ns) (p:ByteArray) (hz:PR z=true):Ld (toN ns p z):=by
 unfold toN
 split
 · rename_i hf
   obtain ⟨h1,h2⟩:=Qo hf;refine h.wi ?_ (.inr ⟨_,h1,by simp⟩);have h3:=h.2.1 _ h1;unfold Wl at h3 ⊢
   simp only [ZA] at h3 ⊢
   obtain ⟨⟨⟨⟨⟨⟨a1,a2⟩,a3⟩,a4⟩,a5⟩,a6⟩,a7⟩:=h3;exact ⟨⟨⟨⟨⟨⟨a1,a2⟩,a3⟩,BQ a4⟩,a5⟩,a6⟩,hz⟩
 exact h
theorem sL (h:Ld ns) (o:TK) (hz:PR z=true):Ld (Ry ns o z).2.1:=by
 unfold Ry
 split
 · exact h
 rename_i hw;have hw':OO o=true:=by simpa using hw
 have hd:o.data.size≤64:=by
  unfold OO at hw'
  simp only [ZA,Zj] at hw'
  exact hw'.1.1.2
 split
 · split
   · exact h
   split
   · exact h
   rename_i hp
   split
   · exact h
   split
   · exact h
   rename_i hl;refine Ld.touch (h.wi ?_ (.inl (by have:=h.2.2;omega))) _ hz;have hp':Xi (Uz ns o)=true:=by simpa using hp
   unfold Wl
   simp only [ZA,Zj]
   exact ⟨⟨⟨⟨⟨⟨hp',hd⟩,by decide⟩,by decide⟩,hz⟩,hz⟩,hz⟩
 split
 · exact h
 rename_i hf
 split
 · exact h
 split
 · split
   · exact h
   exact (h.wo _).touch _ hz
 split
 · obtain ⟨h1,h2⟩:=Qo (show ns.findIdx (U9 o.path)<ns.length by omega)
   refine h.wi ?_ (.inr ⟨_,h1,by simp⟩);have h3:=h.2.1 _ h1;unfold Wl at h3 ⊢
   simp only [ZA,Zj] at h3 ⊢
   obtain ⟨⟨⟨⟨⟨⟨a1,a2⟩,a3⟩,a4⟩,a5⟩,a6⟩,a7⟩:=h3;exact ⟨⟨⟨⟨⟨⟨a1,hd⟩,BQ a3⟩,a4⟩,a5⟩,hz⟩,a7⟩
 exact h
theorem Mh (w:World) (v:Int) (h:0≤v∧v≤2147483647) :
    Calls Tryz.prog 256 #[.int .i64 v] w fun e w'=>e=.returned (.int .i64 (LK v))∧w'=w:=by
 have hw:IntKind.i64.wrap (v+1)=v+1:=by rw [Zq];omega
 go_enter Tryz.func256,Tryz.ntmps256
 go_wp2
 · obtain rfl:v=2147483647:=by omega
   go_ret;exact ⟨rfl,rfl⟩
 go_ret;rw [show LK v=v+1 by unfold LK;rw [Z1 (by omega)]];exact ⟨rfl,rfl⟩
theorem NG (hf:NM ns p (Ty ns p)=true):ns.findIdx (U9 p)=Ty ns p∧Ty ns p<ns.length:=by
 unfold NM at hf
 simp only [ZA,Zj] at hf
 obtain ⟨hl,he⟩:=hf;rw [BZ] at he;refine ⟨?_,hl⟩;rw [List.findIdx_eq hl];refine ⟨by unfold U9;rw [←WF hl];exact he,fun j hj=>?_⟩;have hm:ns[j]'(by omega) ∈ ns.take (Ty ns p):=by
  rw [List.mem_take_iff_getElem];exact ⟨j,by omega,rfl⟩
 exact Li (Lg ns p _ hm)
theorem FW (h:Asc ns) (hf:NM ns p (Ty ns p)=false):¬ns.findIdx (U9 p)<ns.length:=by
 intro hl;obtain ⟨h1,h2⟩:=Qo hl;have:=BR h ⟨_,h1,h2⟩;unfold Ix at this;rw [hf] at this
 simp at this
theorem Py (h:Asc ns) (hl:ns.findIdx (U9 p)<ns.length):NM ns p (Ty ns p)=true∧Ty ns p=ns.findIdx (U9 p):=by
 cases hf:NM ns p (Ty ns p) with
 | false=>exact absurd hl (FW h hf)
 | true=>exact ⟨rfl,(NG hf).1.symm⟩
theorem FV (w:World) (v:Value) (ns:List Nd) (p:ByteArray) (h:SK w v ns) (hs:Ld ns) :
    Calls Tryz.prog 115 #[v,.string p] w (Wj w (.tuple #[.int .i64 (Ty ns p:Int),.bool (decide (ns.findIdx (U9 p)<ns.length))])):=by
 have h9:=P9 w v ns p (Ty ns p) h hs.2.2 (BY ns p hs.1);have e:NM ns p (Ty ns p)=decide (ns.findIdx (U9 p)<ns.length):=by
  cases hf:NM ns p (Ty ns p) with
  | false=>rw [Zo (FW hs.1 hf)]
  | true=>rw [Zm];rw [(NG hf).1];exact (NG hf).2
 rw [e] at h9;exact h9
theorem FU:∀(ns:List Nd) (k f:Nat) (u:Value) (m:Nd),k<ns.length→f<7→Uu m=(Uu (Ye ns k)).set f u→(YE ns).set (k*7+f) u=YE (ns.set k m)
 | [],k,f,u,m,h,_,_=>by simp at h
 | a :: ns,0,f,u,m,_,hf,hm=>by
  rw [Ut,List.set_cons_zero,Ut,List.set_append_left _ _ (by show 0*7+f<(Uu a).length;rw [show (Uu a).length=7 from rfl];omega),hm]
  simp [Ye]
 | a :: ns,k+1,f,u,m,h,hf,hm=>by
  rw [Ut,List.set_cons_succ,Ut,List.set_append_right _ _ (by show (Uu a).length≤_;rw [show (Uu a).length=7 from rfl];omega),show (k+1)*7+f - (Uu a).length=k*7+f by rw [show (Uu a).length=7 from rfl];omega,FU ns k f u m (by simpa using h) hf (by rw [hm];simp [Ye])]
theorem XU.put {g c:Nat} (h:XU 147 w lo (.slice (some ⟨g,0,none⟩) ns.length c) ns) {f:Nat} {u:Value} (hk:k<ns.length) (hf:f<7) (hm:Uu m=(Uu (Ye ns k)).set f u) :
    XU 147 (w.setCell ⟨g,k*7+f,none⟩ u) lo (.slice (some ⟨g,0,none⟩) (ns.set k m).length c) (ns.set k m)∧w.grownBy (w.setCell ⟨g,k*7+f,none⟩ u) (some g):=by
 have h9:=World.ownsRow.stored h (k*7+f) u;rw [FU ns k f u m hk hf hm] at h9;unfold XU;rw [Xt];exact h9
structure Df (W:World) (D lo:Nat) (z:Int) (v:Value) (ns:List Nd):Prop where
 s:St W D [v,.int .i64 z]
 o:XU 147 W lo v ns
 ne:v.ownBlock≠some D
 n:Ld ns
theorem Df.below {D:Nat} (h:Df W D lo z v ns) (hb:Zi W W'):Df W' D lo z v ns:=⟨h.s.below hb,h.o.below hb,h.ne,h.n⟩
theorem XU.at {e:TypeId} (h:XU e w lo v ns) (hk:k<ns.length):∃g c,v=.slice (some ⟨g,0,none⟩) ns.length c∧lo≤g∧g<w.heap.size∧∀i,i<ns.length→Um w g (i*7) (Ye ns i):=by
 have hr:=h.rd
 rcases h.2 with ⟨rfl,h0⟩ | ⟨g,cap,cur,rfl,hb,hg,hn,hm,hs,ht⟩
 · omega
 refine ⟨g,cap,rfl,hb,(Z3.1 hg).1,fun i hi=>?_⟩;obtain ⟨ao,c9,e9,-,-,h3⟩:=hr
 simp only [ZC] at e9
 rcases h3 with h3 | ⟨b,off,e8,hlt,hc⟩
 · rw [h3] at hk;simp at hk
 rw [e8] at e9
 simp only [ZK,Ym] at e9
 obtain ⟨⟨rfl,rfl,-⟩,-⟩:=e9;have:=hc i hi
 rwa [Za] at this
def Ss (c:Int):Value:=.iface 240 (.agg #[.int .i64 c])
def SS (ns:List Nd) (o:TK):Array Value :=
 if ¬ns.findIdx (U9 o.path)<ns.length then #[.int .i64 0,Ss 2]
 else if o.XT≠-1∧o.XT≠(Ye ns (ns.findIdx (U9 o.path))).XT then #[.int .i64 0,Ss 4]
 else #[.int .i64 (ns.findIdx (U9 o.path):Int),.nilIface]
theorem Oh (w:World) (D lo:Nat) (z:Int) (v:Value) (ns:List Nd) (o:TK) (h:Df w D lo z v ns) :
    Calls Tryz.prog 252 #[.pointer (some ⟨D,0,none⟩),.agg #[.int .i64 o.kind,.string o.path,.string o.data,.int .i64 o.XT,.bool o.seq]] w (Wj w (.tuple (SS ns o))):=by
 obtain ⟨kind,path,data,XT,seq⟩:=o
 simp only at *
 have hlt:=h.s.lt;obtain ⟨FD,oP⟩:∃b,b=decide (ns.findIdx (U9 path)<ns.length):=⟨_,rfl⟩;have HF:Hid (∀W,Zi w W→Calls Tryz.prog 115 #[v,.string path] W (Wj W (.tuple #[.int .i64 (Ty ns path:Int),.bool FD]))):=fun W hW=>by
  rw [oP];exact FV W v ns path (h.o.below hW).rd h.n
 have sK:=ZU oP;clear oP;have B0:Hid (Zi w (w.alloc (.cells #[.int .i64 kind,.string path,.string data,.int .i64 XT,.bool seq] 159))):=Yy.alloc YR _;have XO:Hid (St (w.alloc (.cells #[.int .i64 kind,.string path,.string data,.int .i64 XT,.bool seq] 159)) w.heap.size [.int .i64 kind,.string path,.string data,.int .i64 XT,.bool seq]):=St.new _ _ _;have XD:Hid (Df (w.alloc (.cells #[.int .i64 kind,.string path,.string data,.int .i64 XT,.bool seq] 159)) D lo z v ns):=h.below B0.out;clear h
 go_enter Tryz.func252,Tryz.ntmps252
 go_wp2_with fail
 generalize w.alloc _=w0 at *;refine ZX (S:=fun W=>W.cell? ⟨D,0,none⟩=some v∧W.cell? ⟨w.heap.size,1,none⟩=some (.string path)) (by kernel_rfl) ⟨(XD.out.below (below_drewN' w0 1)).s.cl 0 _ rfl,(XO.out.below (below_drewN' w0 1)).cl 1 _ rfl⟩ (fun Z9=>?_);have B1:Hid (Zi w w0.drew):=B0.out.trans ((below_drewN' w0 1).mono B0.out.size);have X1:Hid (St w0.drew w.heap.size [.int .i64 kind,.string path,.string data,.int .i64 XT,.bool seq]):=XO.out.below (below_drewN' w0 1);have D1:Hid (Df w0.drew D lo z v ns):=XD.out.below (below_drewN' w0 1);clear B0 XO XD;generalize w0.drew=w1 at *
 iterate 6 (refine Zf ?_ (by kernel_rfl) (fun _=>id) Z9 ?_ ?_;rotate_left;· intro w9 ZQ;obtain ⟨k0,k1⟩:=ZQ;go_simp;try with_reducible rfl)
 refine YS 6 rfl (by kernel_rfl) (fun K hK=>?_);go_simp;refine (HF.out _ B1.out).mono ?_;rintro e w2 ⟨rfl,b2⟩;have B2:=ZU (WD B1.out b2);have X2:=ZU (X1.out.below b2);have D2:=ZU (D1.out.below b2);clear Z9 b2 B1 X1 D1;refine hK.out _ _ ⟨D2.out.s.cl 0 _ rfl,X2.out.cl 1 _ rfl⟩ (fun Z9=>?_);clear hK K
 iterate 5 (refine Zf ?_ (by kernel_rfl) (fun _=>id) Z9 ?_ ?_;rotate_left;· intro w9 ZQ;clear ZQ;go_simp;try with_reducible rfl)
 refine ZR (by kernel_rfl) ?_ _
 simp only [Act.put,WV,WU,WT]
 clear Z9 HF
 cases FD with
 | true =>
  have hf:ns.findIdx (U9 path)<ns.length:=Wm sK.out.symm;have hpl:=(Py D2.out.n.1 hf).2;rw [hpl];clear hpl sK;obtain ⟨I,hI⟩:∃I,I=ns.findIdx (U9 path):=⟨_,rfl⟩;rw [←hI] at hf ⊢;have hL:(I:Int)<(ns.length:Int):=by omega
  obtain ⟨g,gc,hv,hlo,hgl,hce⟩:=D2.out.o.at hf;subst hv;have HI:=ZU hI;have kV:=ZU hce;clear hI hce;have hg0:(0:Int)≤(I:Int):=by omega
  have Z:Hid (SS ns ⟨kind,path,data,XT,seq⟩=(if XT≠-1∧XT≠(Ye ns I).XT then #[.int .i64 0,Ss 4] else #[.int .i64 (I:Int),.nilIface])):=by
   show _=_;unfold SS
   simp only
   rw [Z1 (by rw [←HI.out];omega),←HI.out]
  clear HI
  go_wp2_with fail
  have X3:Hid (St w2.drew w.heap.size [.int .i64 kind,.string path,.string data,.int .i64 XT,.bool seq]):=X2.out.below (below_drewN' w2 1);have D3:Hid (Df w2.drew D lo z (.slice (some ⟨g,0,none⟩) ns.length gc) ns):=D2.out.below (below_drewN' w2 1);have B3:Hid (Zi w w2.drew):=B2.out.trans ((below_drewN' w2 1).mono B2.out.size);refine ZX (S:=fun W=>W.cell? ⟨w.heap.size,3,none⟩=some (.int .i64 XT)∧W.cell? ⟨D,0,none⟩=some (.slice (some ⟨g,0,none⟩) ns.length gc)∧W.cell? ⟨g,I*7+2,none⟩=some (.int .i64 (Ye ns I).XT)) (by kernel_rfl) ⟨X3.out.cl 3 _ rfl,D3.out.s.cl 0 _ rfl,((kV.out I hf).below (below_drewN' w2 1) hgl).all.2.2.1⟩ (fun Z9=>?_);generalize w2.drew=w3 at *
  by_cases hv1:XT=-1
  · subst hv1
    iterate 4 (refine Zf ?_ (by kernel_rfl) (fun _=>id) Z9 ?_ ?_;rotate_left;· intro w9 ZQ;obtain ⟨k0,k1,k2⟩:=ZQ;go_simp;try with_reducible rfl)
    iterate 11 (refine J7 (by kernel_rfl) (fun _=>id) Z9 ?_)
    iterate 1 (refine Zf ?_ (by kernel_rfl) (fun _=>id) Z9 ?_ ?_;rotate_left;· intro w9 ZQ;clear ZQ;go_simp;try with_reducible rfl)
    refine ZR (by kernel_rfl) ?_ _
    simp only [Act.put,WV,WU,WT]
    clear Z9;have HV:Hid (SS ns ⟨kind,path,data,-1,seq⟩=#[.int .i64 (I:Int),.nilIface]):=by show _=_;rw [Z.out];simp
    go_wp2_with fail
    rw [HV.out];exact ZW (v:=.tuple #[.int .i64 (I:Int),.nilIface]) (by simp [results,Tryz.results252,go_sem]) rfl ⟨rfl,B3.out⟩
  have hne:(XT != -1)=true:=by simp [hv1]
  by_cases hv2:XT=(Ye ns I).XT
  · have hn2:(XT != (Ye ns I).XT)=false:=by simp [hv2]
    have HV:Hid (SS ns ⟨kind,path,data,XT,seq⟩=#[.int .i64 (I:Int),.nilIface]):=by show _=_;rw [Z.out,Z1 (by simp [hv2])]
    clear Z
    iterate 2 (refine Zf ?_ (by kernel_rfl) (fun _=>id) Z9 ?_ ?_;rotate_left;· intro w9 ZQ;obtain ⟨k0,k1,k2⟩:=ZQ;go_simp;try with_reducible rfl)
    refine Zf (.bool true) (by kernel_rfl) (fun _=>id) Z9 ?_ ?_
    · intro w9 ZQ;clear ZQ;go_simp;try (first | exact hv1 | simp_all)
    iterate 11 (refine Zf ?_ (by kernel_rfl) (fun _=>id) Z9 ?_ ?_;rotate_left;· intro w9 ZQ;obtain ⟨k0,k1,k2⟩:=ZQ;go_simp;try with_reducible rfl)
    refine Zf (.bool false) (by kernel_rfl) (fun _=>id) Z9 ?_ ?_
    · intro w9 ZQ;clear ZQ;go_simp;try (first | exact hv1 | simp_all)
    iterate 1 (refine Zf ?_ (by kernel_rfl) (fun _=>id) Z9 ?_ ?_;rotate_left;· intro w9 ZQ;clear ZQ;go_simp;try with_reducible rfl)
    refine ZR (by kernel_rfl) ?_ _
    simp only [Act.put,WV,WU,WT]
    clear Z9 hv1 hne hn2
    go_wp2_with fail
    rw [HV.out];exact ZW (v:=.tuple #[.int .i64 (I:Int),.nilIface]) (by simp [results,Tryz.results252,go_sem,Ss]) rfl ⟨rfl,B3.out⟩
  have hn2:(XT != (Ye ns I).XT)=true:=by simp [hv2]
  have HV:Hid (SS ns ⟨kind,path,data,XT,seq⟩=#[.int .i64 0,Ss 4]):=by show _=_;rw [Z.out,Z0 ⟨hv1,hv2⟩]
  clear Z
  iterate 2 (refine Zf ?_ (by kernel_rfl) (fun _=>id) Z9 ?_ ?_;rotate_left;· intro w9 ZQ;obtain ⟨k0,k1,k2⟩:=ZQ;go_simp;try with_reducible rfl)
  refine Zf (.bool true) (by kernel_rfl) (fun _=>id) Z9 ?_ ?_
  · intro w9 ZQ;clear ZQ;go_simp;try (first | exact hv1 | simp_all)
  iterate 11 (refine Zf ?_ (by kernel_rfl) (fun _=>id) Z9 ?_ ?_;rotate_left;· intro w9 ZQ;obtain ⟨k0,k1,k2⟩:=ZQ;go_simp;try with_reducible rfl)
  refine Zf (.bool true) (by kernel_rfl) (fun _=>id) Z9 ?_ ?_
  · intro w9 ZQ;clear ZQ;go_simp;try (first | exact hv1 | simp_all)
  iterate 1 (refine Zf ?_ (by kernel_rfl) (fun _=>id) Z9 ?_ ?_;rotate_left;· intro w9 ZQ;clear ZQ;go_simp;try with_reducible rfl)
  refine ZR (by kernel_rfl) ?_ _
  simp only [Act.put,WV,WU,WT]
  clear Z9 hv1 hne hn2
  go_wp2_with fail
  rw [HV.out];exact ZW (v:=.tuple #[.int .i64 0,Ss 4]) (by simp [results,Tryz.results252,go_sem,Ss]) rfl ⟨rfl,B3.out⟩
 | false =>
  have hf:¬ns.findIdx (U9 path)<ns.length:=of_decide_eq_false sK.out.symm;have HV:Hid (SS ns ⟨kind,path,data,XT,seq⟩=#[.int .i64 0,Ss 2]):=by show _=_;unfold SS;rw [Z0 hf]
  clear hf sK
  go_wp2_with fail
  rw [HV.out];exact ZW (v:=.tuple #[.int .i64 0,Ss 2]) (by simp [results,Tryz.results252,go_sem,Ss]) rfl ⟨rfl,B2.out⟩
theorem FT {o:TK} (h:OO o=true):Xi o.path=true∧o.data.size≤64:=by
 unfold OO at h
 simp only [ZA,Zj] at h
 exact ⟨h.1.1.1.2,h.1.1.2⟩
theorem xP {o:TK} (h:OO o=true):o.kind=1∨o.kind=2∨o.kind=3∨o.kind=4:=by
 unfold OO at h
 simp only [ZA,Zj] at h
 omega
def Qn (a:Nd):Ef:=⟨true,{ nd0 with path:=a.path }⟩
def TV (b:Nd):Ef:=⟨false,b⟩
def LU (a b:Nd):Bool:=(a.path.toList == b.path.toList) && ((a.data.toList == b.data.toList) && ((a.XT == b.XT) && ((a.XQ == b.XQ) && ((a.cz == b.cz) && ((a.mz == b.mz) && (a.pz == b.pz))))))
def UY:List Nd→List Nd→List Ef
 | [],now=>now.map TV
 | a :: was,[]=>(a :: was).map Qn
 | a :: was,b :: now =>
  if Tz b.path a.path then TV b :: UY (a :: was) now
  else if Tz a.path b.path then Qn a :: UY was (b :: now)
  else if LU a b then UY was now else TV b :: UY was now
theorem BP (A B:List Nd):(UY A B).length≤A.length+B.length:=by
 fun_induction UY A B <;> simp_all <;> omega
theorem AG (ns:List Ef) (n:Ef):MU (ns++[n])=MU ns++GO n:=by rw [Gt];simp [MU]
theorem QU (w:World) (n:Ef) (t:TypeId):∀j u,(GO n)[j]?=some u→(w.alloc (.cells #[.bool n.del,.string n.nd.path,.string n.nd.data,.int .i64 n.nd.XT,.int .i64 n.nd.XQ,.int .i64 n.nd.cz,.int .i64 n.nd.mz,.int .i64 n.nd.pz] t)).cell? ((⟨w.heap.size,0,none⟩:Addr).add j)=some u:=by
 intro j u hj;rw [YY,Za,cell_of (Zs w _) j,←hj]
 simp [GO]
theorem Px (n:Ef):∀u ∈ GO n,u.oneCell'=true:=by
 intro u hu
 simp only [GO,Y9,SZ,Sh] at hu
 rcases hu with rfl | rfl | rfl | rfl | rfl | rfl | rfl | rfl <;> rfl
theorem Tryz.oO:(Tryz.prog.info? 249).map (fun i=>(i.zero,i.size,i.bytes))=some (some (.agg #[.bool false,.string ByteArray.empty,.string ByteArray.empty,.int .i64 0,.int .i64 0,.int .i64 0,.int .i64 0,.int .i64 0]),8,80):=by kernel_rfl
theorem UN.FR {w5:World} {v5:Value} {acc:List Ef} {f:Ef} {ob:Obj} (ho:UN 249 W w.heap.size vo acc) (hb:Zi w W) (Rb:w5.ownsRow w.heap.size 249 8 v5 (acc.length+1) (MU acc++GO f)) (hg5:(W.alloc ob).grownBy w5 vo.ownBlock):UN 249 w5 w.heap.size v5 (acc++[f])∧Zi w w5:=by
 refine ⟨?_,(hb.alloc hb.size _).grown hg5 (by have:=hb.size;simp;omega) (fun q hq=>(ZT ho q hq).1)⟩;unfold UN;rw [ZZ,AG];exact Rb
theorem Qm {a b:ByteArray} (h:(a.toList == b.toList)=true):a=b:=by
 rw [ZL,YG,YG] at h
 cases a;cases b
 simp only [ByteArray.mk.injEq] at *
 exact Array.toList_inj.1 h
theorem sJ (h:LU a b=true):a=b:=by
 unfold LU at h
 simp only [ZA] at h
 obtain ⟨h1,h2,h3,h4,h5,h6,h7⟩:=h;have e1:=Qm h1;have e2:=Qm h2;rw [ZL] at h3 h4 h5 h6 h7
 cases a;cases b
 simp_all
theorem FQ {a b:ByteArray} (h1:Tz a b=false) (h2:Tz b a=false):(a.toList == b.toList)=true:=by
 cases h:(a.toList == b.toList) with
 | true=>rfl
 | false=>have:=Jm h1 h;rw [this] at h2;cases h2
theorem FO (h:Tz a.path p=false):Ty (a :: r) p=0:=by
 unfold Ty;rw [Vv,Z1 (by simp [h])];rfl
theorem oN (h:Tz p a.path=true):Ty (a :: r) p=0∧Ix (a :: r) p=0:=by
 have h1:=FO (r:=r) (Jn h);refine ⟨h1,?_⟩;rw [Iv,h1];have h2:=AJ h
 simp only [XR,Ye,XM,h2,VE,Yu,WW]
theorem BO (h:(a.path.toList == p.toList)=true):Ty (a :: r) p=0∧Ix (a :: r) p=1:=by
 have e:=Qm h;have h1:=FO (a:=a) (r:=r) (p:=p) (by rw [e];exact sO p);refine ⟨h1,?_⟩;rw [Iv,h1]
 simp only [XR,Ye,XM,h,Bool.and_true,ZE,Nat.zero_lt_succ,decide_true,Vo]
theorem xO (hP:∀x ∈ P,Tz x.path b.path=true) (h:Asc (a :: r)) (hl:Tz b.path a.path=true):LX (P++a :: r) b=P++b :: a :: r:=by
 obtain ⟨h1,h2⟩:=oN (r:=r) hl;rw [Le P (a :: r) b hP h,h1,h2];simp
theorem sI (hP:∀x ∈ P,Tz x.path b.path=true) (h:Asc (a :: r)) (he:(a.path.toList == b.path.toList)=true):LX (P++a :: r) b=P++b :: r:=by
 obtain ⟨h1,h2⟩:=BO (r:=r) he;rw [Le P (a :: r) b hP h,h1,h2];simp
theorem oM (hP:∀x ∈ P,Tz x.path b.path=true):LX P b=P++[b]:=by
 have:=Le P [] b hP List.Pairwise.nil
 simpa using this
theorem FN (hP:∀x ∈ P,Tz x.path a.path=true) (h:Asc (a :: r)):NI (P++a :: r) a.path=P++r:=by
 obtain ⟨h1,h2⟩:=BO (a:=a) (r:=r) (p:=a.path) (by simp);rw [DE P (a :: r) a.path hP h,h1,h2];simp
theorem Wc (h:Asc (a :: r)):Asc r∧∀x ∈ r,Tz a.path x.path=true:=⟨(List.pairwise_cons.1 h).2,(List.pairwise_cons.1 h).1⟩
theorem oL (A B:List Nd):∀P:List Nd,Asc A→Asc B→(∀x ∈ P,∀y,y ∈ A∨y ∈ B→Tz x.path y.path=true)→BU (P++A) (UY A B)=P++B:=by
 fun_induction UY A B with
 | case1 now =>
  intro P _ hB hP
  induction now generalizing P with
  | nil=>simp [BU]
  | cons b now ih =>
   obtain ⟨h1,h2⟩:=Wc hB;have h3:=ih (P++[b]) h1 (fun x hx y hy=>by
    rcases Y4.1 hx with hx | hx
    · exact hP x hx y (by rcases hy with hy | hy;(exact .inl hy);(exact .inr (Zp _ hy)))
    simp at hx;subst hx
    rcases hy with hy | hy
    · simp at hy
    exact h2 y hy)
   show BU (Ea (P++[]) (TV b)) (now.map TV)=_;have e1:Ea (P++[]) (TV b)=P++[b]:=by
    unfold Ea TV
    simp only [Yu,WW,YD]
    exact oM (fun x hx=>hP x hx b (.inr (YO ..)))
   rw [e1];have:BU (P++[b]++[]) (now.map TV)=P++[b]++now:=h3
   simpa using this
 | case2 a was =>
  intro P hA _ hP;generalize a :: was=L at hA hP ⊢
  induction L with
  | nil=>simp [BU]
  | cons a was ih =>
   obtain ⟨h1,h2⟩:=Wc hA;show BU (Ea (P++a :: was) (Qn a)) (was.map Qn)=_;have e1:Ea (P++a :: was) (Qn a)=P++was:=by
    unfold Ea Qn
    simp only [Vo]
    exact FN (fun x hx=>hP x hx a (.inl (YO ..))) hA
   rw [e1];exact ih h1 (fun x hx y hy=>hP x hx y (by rcases hy with hy | hy;(exact .inl (Zp _ hy));(exact .inr hy)))
 | case3 a was b now hl ih =>
  intro P hA hB hP;obtain ⟨h1,h2⟩:=Wc hB;show BU (Ea (P++a :: was) (TV b)) _=_;unfold Ea
  simp only [TV,Yu,WW]
  rw [xO (fun x hx=>hP x hx b (.inr (YO ..))) hA hl];have:=ih (P++[b]) hA h1 (fun x hx y hy=>by
   rcases Y4.1 hx with hx | hx
   · exact hP x hx y (by rcases hy with hy | hy;(exact .inl hy);(exact .inr (Zp _ hy)))
   simp at hx;subst hx
   rcases hy with hy | hy
   · rcases Y9.1 hy with rfl | hy
     · exact hl
     exact Sa hl ((Wc hA).2 y hy)
   exact h2 y hy)
  simpa using this
 | case4 a was b now hl hg ih =>
  intro P hA hB hP;obtain ⟨h1,h2⟩:=Wc hA;show BU (Ea (P++a :: was) (Qn a)) _=_;unfold Ea
  simp only [Qn,Vo]
  rw [FN (fun x hx=>hP x hx a (.inl (YO ..))) hA];exact ih P h1 hB (fun x hx y hy=>hP x hx y (by rcases hy with hy | hy;(exact .inl (Zp _ hy));(exact .inr hy)))
 | case5 a was b now hl hg he ih =>
  intro P hA hB hP;have e:=sJ he;subst e;obtain ⟨h1,h2⟩:=Wc hA;obtain ⟨h3,h4⟩:=Wc hB;have:=ih (P++[a]) h1 h3 (fun x hx y hy=>by
   rcases Y4.1 hx with hx | hx
   · exact hP x hx y (by rcases hy with hy | hy;(exact .inl (Zp _ hy));(exact .inr (Zp _ hy)))
   simp at hx;subst hx
   rcases hy with hy | hy
   · exact h2 y hy
   exact h4 y hy)
  simpa using this
 | case6 a was b now hl hg he ih =>
  intro P hA hB hP;obtain ⟨h1,h2⟩:=Wc hA;obtain ⟨h3,h4⟩:=Wc hB;have hs:(a.path.toList == b.path.toList)=true:=FQ (by simpa using hg) (by simpa using hl);show BU (Ea (P++a :: was) (TV b)) _=_;unfold Ea
  simp only [TV,Yu,WW]
  rw [sI (fun x hx=>hP x hx b (.inr (YO ..))) hA hs];have:=ih (P++[b]) h1 h3 (fun x hx y hy=>by
   rcases Y4.1 hx with hx | hx
   · exact hP x hx y (by rcases hy with hy | hy;(exact .inl (Zp _ hy));(exact .inr (Zp _ hy)))
   simp at hx;subst hx
   rcases hy with hy | hy
   · have:=h2 y hy
     rw [Qm hs] at this;exact this
   exact h4 y hy)
  simpa using this
theorem sH (hA:Asc A) (hB:Asc B):BU A (UY A B)=B:=by
 have:=oL A B [] hA hB (fun x hx=>by simp at hx)
 simpa using this
theorem MM (p:ByteArray) (A B:List Nd):(∀x,x ∈ A∨x ∈ B→Tz p x.path=true)→∀e ∈ UY A B,Tz p e.nd.path=true:=by
 fun_induction UY A B with
 | case1 now=>intro h e he;obtain ⟨b,hb,rfl⟩:=List.mem_map.1 he;exact h b (.inr hb)
 | case2 a was=>intro h e he;obtain ⟨b,hb,rfl⟩:=List.mem_map.1 he;exact h b (.inl hb)
 | case3 a was b now hl ih =>
  intro h e he
  rcases Y9.1 he with rfl | he
  · exact h b (.inr (YO ..))
  exact ih (fun x hx=>h x (by rcases hx with hx | hx;(exact .inl hx);(exact .inr (Zp _ hx)))) e he
 | case4 a was b now hl hg ih =>
  intro h e he
  rcases Y9.1 he with rfl | he
  · exact h a (.inl (YO ..))
  exact ih (fun x hx=>h x (by rcases hx with hx | hx;(exact .inl (Zp _ hx));(exact .inr hx))) e he
 | case5 a was b now hl hg he' ih =>
  intro h e he;exact ih (fun x hx=>h x (by rcases hx with hx | hx;(exact .inl (Zp _ hx));(exact .inr (Zp _ hx)))) e he
 | case6 a was b now hl hg he' ih =>
  intro h e he
  rcases Y9.1 he with rfl | he
  · exact h b (.inr (YO ..))
  exact ih (fun x hx=>h x (by rcases hx with hx | hx;(exact .inl (Zp _ hx));(exact .inr (Zp _ hx)))) e he
theorem sE (A B:List Nd):Asc A→Asc B→AI (UY A B):=by
 fun_induction UY A B with
 | case1 now=>intro _ hB;exact List.pairwise_map.2 hB
 | case2 a was=>intro hA _;exact List.pairwise_map.2 hA
 | case3 a was b now hl ih =>
  intro hA hB;obtain ⟨h3,h4⟩:=Wc hB;refine List.Pairwise.cons (fun e he=>MM b.path _ _ (fun x hx=>?_) e he) (ih hA h3)
  rcases hx with hx | hx
  · rcases Y9.1 hx with rfl | hx
    · exact hl
    exact Sa hl ((Wc hA).2 x hx)
  exact h4 x hx
 | case4 a was b now hl hg ih =>
  intro hA hB;obtain ⟨h1,h2⟩:=Wc hA;refine List.Pairwise.cons (fun e he=>MM a.path _ _ (fun x hx=>?_) e he) (ih h1 hB)
  rcases hx with hx | hx
  · exact h2 x hx
  rcases Y9.1 hx with rfl | hx
  · exact hg
  exact Sa hg ((Wc hB).2 x hx)
 | case5 a was b now hl hg he ih=>intro hA hB;exact ih (Wc hA).1 (Wc hB).1
 | case6 a was b now hl hg he ih =>
  intro hA hB;obtain ⟨h1,h2⟩:=Wc hA;obtain ⟨h3,h4⟩:=Wc hB;have hs:(a.path.toList == b.path.toList)=true:=FQ (by simpa using hg) (by simpa using hl);refine List.Pairwise.cons (fun e he=>MM b.path _ _ (fun x hx=>?_) e he) (ih h1 h3)
  rcases hx with hx | hx
  · have:=h2 x hx
    rw [Qm hs] at this;exact this
  exact h4 x hx
theorem oK (A B:List Nd):(∀n ∈ A,Wl n=true)→(∀n ∈ B,Wl n=true)→∀e ∈ UY A B,Sm e=true:=by
 have hp:∀b:Nd,Wl b=true→Sm (TV b)=true:=fun b h=>by rw [Ll rfl];exact h
 have hd:∀a:Nd,Wl a=true→Sm (Qn a)=true:=fun a h=>by
  rw [Jo rfl];unfold Wl at h ⊢
  simp only [ZA] at h ⊢
  simp [Qn,nd0,PR,blank,h]
 fun_induction UY A B with
 | case1 now=>intro _ hB e he;obtain ⟨b,hb,rfl⟩:=List.mem_map.1 he;exact hp b (hB b hb)
 | case2 a was=>intro hA _ e he;obtain ⟨b,hb,rfl⟩:=List.mem_map.1 he;exact hd b (hA b hb)
 | case3 a was b now hl ih =>
  intro hA hB e he
  rcases Y9.1 he with rfl | he
  · exact hp b (hB b (YO ..))
  exact ih hA (fun n hn=>hB n (Zp _ hn)) e he
 | case4 a was b now hl hg ih =>
  intro hA hB e he
  rcases Y9.1 he with rfl | he
  · exact hd a (hA a (YO ..))
  exact ih (fun n hn=>hA n (Zp _ hn)) hB e he
 | case5 a was b now hl hg he' ih =>
  intro hA hB e he;exact ih (fun n hn=>hA n (Zp _ hn)) (fun n hn=>hB n (Zp _ hn)) e he
 | case6 a was b now hl hg he' ih =>
  intro hA hB e he
  rcases Y9.1 he with rfl | he
  · exact hp b (hB b (YO ..))
  exact ih (fun n hn=>hA n (Zp _ hn)) (fun n hn=>hB n (Zp _ hn)) e he
theorem sC {es:List Ef} (h1:AI es) (h2:∀e ∈ es,Sm e=true):MN es=true:=by
 refine xX (fun k hk=>?_);have he:∀j (hj:j<es.length),Vr es j=es[j]:=fun j hj=>by unfold Vr;simp [List.getD,hj]
 cases k with
 | zero=>rw [Lk,he 0 hk];exact h2 _ (YP hk)
 | succ j =>
  rw [P8,he _ hk,he j (by omega),h2 _ (YP hk)]
  simpa using List.pairwise_iff_getElem.1 h1 j (j+1) (by omega) hk (by omega)
theorem It (hA:Ld A) (hB:Ld B) (hl:A.length+B.length≤1000) (hz:1≤z∧z≤2147483647):Tm z (UY A B)=true:=by
 unfold Tm;have:=BP A B
 simp only [ZA,Zj]
 exact ⟨⟨⟨hz.1,hz.2⟩,by omega⟩,sC (sE A B hA.1 hB.1) (oK A B hA.2.1 hB.2.1)⟩
theorem FM (hA:Ld A) (hB:Ld B) (hl:A.length+B.length≤1000) (hz:1≤z∧z≤2147483647):PQ A z (UY A B)=B:=by
 unfold PQ;rw [P4.2 hA,It hA hB hl hz];exact sH hA.1 hB.1
def eY:TK:=⟨0,ByteArray.empty,ByteArray.empty,0,false⟩
def Ql (os:List TK) (i:Nat):TK:=os.getD i eY
theorem BM {os:List TK} (h:i<os.length):Ql os i=os[i]:=by unfold Ql;simp [List.getD,h]
def Lc (w:World) (b off:Nat) (o:TK):Prop :=
 w.cell? ⟨b,off,none⟩=some (.int .i64 o.kind)∧w.cell? ⟨b,off+1,none⟩=some (.string o.path)∧w.cell? ⟨b,off+2,none⟩=some (.string o.data)∧w.cell? ⟨b,off+3,none⟩=some (.int .i64 o.XT)∧w.cell? ⟨b,off+4,none⟩=some (.bool o.seq)
theorem Lc.below {b off B:Nat} {o:TK} (h:Lc w b off o) (hb:Below B w w') (hlt:b<B):Lc w' b off o :=
 ⟨(hb.cell (p:=⟨b,off,none⟩) hlt).trans h.1,(hb.cell (p:=⟨b,off+1,none⟩) hlt).trans h.2.1,(hb.cell (p:=⟨b,off+2,none⟩) hlt).trans h.2.2.1,(hb.cell (p:=⟨b,off+3,none⟩) hlt).trans h.2.2.2.1,(hb.cell (p:=⟨b,off+4,none⟩) hlt).trans h.2.2.2.2⟩
def JZ (w:World) (v:Value) (os:List TK):Prop :=
 ∃ao cap,v=.slice ao os.length cap∧os.length≤cap∧cap≤maxLen ∧
  (os=[]∨∃b off,ao=some ⟨b,off,none⟩∧b<w.heap.size∧∀i,i<os.length→Lc w b (off+i*5) (Ql os i))
theorem JZ.len {os:List TK} (h:JZ w v os):∃ao cap,v=.slice ao os.length cap∧os.length≤cap∧cap≤maxLen:=by
 obtain ⟨ao,cap,h0,h1,h2,_⟩:=h;exact ⟨ao,cap,h0,h1,h2⟩
theorem JZ.below {os:List TK} (h:JZ w v os) (hb:Zi w w'):JZ w' v os:=by
 obtain ⟨ao,cap,rfl,h1,h2,h3⟩:=h;refine ⟨ao,cap,rfl,h1,h2,?_⟩
 rcases h3 with h3 | ⟨b,off,rfl,hlt,hc⟩
 · exact .inl h3
 exact .inr ⟨b,off,rfl,ZY hlt hb.size,fun i hi=>(hc i hi).below hb hlt⟩
def R9 (z:Int):List TK→List Nd→Nat→List ByteArray→Int × Nat × List Nd × List ByteArray
 | [],ns,i,nm=>(0,i,ns,nm)
 | o :: os,ns,i,nm=>if (Ry ns o z).1≠0 then ((Ry ns o z).1,i,ns,nm) else R9 z os (Ry ns o z).2.1 (i+1) (nm++[(Ry ns o z).2.2])
theorem xN {os:List TK} (hj:j<os.length) (h:(Ry ns (Ql os j) z).1≠0):R9 z (os.drop j) ns i nm=((Ry ns (Ql os j) z).1,i,ns,nm):=by
 rw [Yg hj,←BM hj];unfold R9;rw [Z0 h]
theorem AF {os:List TK} (hj:j<os.length) (h:(Ry ns (Ql os j) z).1=0):R9 z (os.drop j) ns i nm=R9 z (os.drop (j+1)) (Ry ns (Ql os j) z).2.1 (i+1) (nm++[(Ry ns (Ql os j) z).2.2]):=by
 rw [Yg hj,←BM hj]
 conv=>lhs;unfold R9
 rw [Z1 (by simpa using h)]
def RZ (ns:List Nd) (os:List TK) (z:Int):Bool:=WE ns && (decide (1≤os.length) && (decide (os.length≤64) && (decide (1≤z) && decide (z≤2147483647))))
def oJ (w:World) (ns:List Nd) (z:Int) (res:Int × Nat × List Nd × List ByteArray) (e:Ending) (w':World):Prop :=
 Zi w w' ∧
  ((res.1≠0∧e=.returned (.agg #[.int .i64 res.1,.int .i64 (res.2.1:Int),.slice none 0 0,.int .i64 0,.slice none 0 0])) ∨
   (res.1=0∧∃vn ve,e=.returned (.agg #[.int .i64 0,.int .i64 0,vn,.int .i64 z,ve])∧w'.ownsRow w.heap.size 9 1 vn res.2.2.2.length (res.2.2.2.map Value.string)∧UN 249 w' w.heap.size ve (UY ns res.2.2.1)))
def AE (w:World) (v vo:Value) (W:World):Prop :=
 Zi w W∧w.heap.size+3≤W.heap.size∧W.cell? ⟨w.heap.size,0,none⟩=some v∧W.cell? ⟨w.heap.size+1,0,none⟩=some vo ∧
 (W.cell? ⟨w.heap.size+2,0,none⟩=some (.int .i64 0)∧W.cell? ⟨w.heap.size+2,1,none⟩=some (.int .i64 0)∧W.cell? ⟨w.heap.size+2,2,none⟩=some (.slice none 0 0)∧W.cell? ⟨w.heap.size+2,3,none⟩=some (.int .i64 0)∧W.cell? ⟨w.heap.size+2,4,none⟩=some (.slice none 0 0))∧∀j,W.frozen? ⟨w.heap.size+2,j,none⟩=false
theorem AE.Xe {B:Nat} (h:AE w v vo W) (hb:Below B W W') (hB:w.heap.size+3≤B):AE w v vo W':=by
 obtain ⟨h1,h2,h3,h4,⟨c0,c1,c2,c3,c4⟩,h6⟩:=h;have q:w.heap.size+2<B:=by omega
 exact ⟨h1.trans (hb.mono (by omega)),ZJ h2 hb.size,(hb.cell (p:=⟨w.heap.size,0,none⟩) (by show w.heap.size<_;omega)).trans h3,(hb.cell (p:=⟨w.heap.size+1,0,none⟩) (by show w.heap.size+1<_;omega)).trans h4,
  ⟨(hb.cell (p:=⟨w.heap.size+2,0,none⟩) q).trans c0,(hb.cell (p:=⟨w.heap.size+2,1,none⟩) q).trans c1,(hb.cell (p:=⟨w.heap.size+2,2,none⟩) q).trans c2,(hb.cell (p:=⟨w.heap.size+2,3,none⟩) q).trans c3,(hb.cell (p:=⟨w.heap.size+2,4,none⟩) q).trans c4⟩,fun j=>(hb.frozen (p:=⟨w.heap.size+2,j,none⟩) q).trans (h6 j)⟩
theorem AE.below (h:AE w v vo W) (hb:Zi W W'):AE w v vo W':=h.Xe hb h.2.1
theorem AE.new (w:World) (v vo:Value) (t1 t2 t3:TypeId):AE w v vo (((w.alloc (.cells #[v] t1)).alloc (.cells #[vo] t2)).alloc (.cells #[.int .i64 0,.int .i64 0,.slice none 0 0,.int .i64 0,.slice none 0 0] t3)):=by
 refine ⟨((Yy.alloc YR _).alloc (by simp) _).alloc (by simp;omega) _,by simp,by go_simp,by go_simp,?_,fun j=>by go_simp⟩;have e:((w.alloc (.cells #[v] t1)).alloc (.cells #[vo] t2)).heap.size=w.heap.size+2:=by simp
 have h1:(((w.alloc (.cells #[v] t1)).alloc (.cells #[vo] t2)).alloc (.cells #[.int .i64 0,.int .i64 0,.slice none 0 0,.int .i64 0,.slice none 0 0] t3)).heap[w.heap.size+2]?=some (.cells #[.int .i64 0,.int .i64 0,.slice none 0 0,.int .i64 0,.slice none 0 0] t3):=by
  rw [←e];exact Zs _ _
 exact ⟨(cell_of h1 _).trans rfl,(cell_of h1 _).trans rfl,(cell_of h1 _).trans rfl,(cell_of h1 _).trans rfl,(cell_of h1 _).trans rfl⟩
end Go.Proofs.YtpmjnbmkippaiaaGreatDoor


