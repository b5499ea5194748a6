import Derived.Test.YtpmjnbmkippaiaaGreatDoorJ03
import Derived.Laws.CopyRow
import Derived.Laws.AppendOwn
import Derived.Lib.AppendZeros
import Derived.Deep.AppendLies
import Derived.Lib.Overlaps
import Derived.Shelf.LaysM
import Derived.Shelf.Strconv.Itoa4
import Derived.Shelf.Strings.Repeat
set_option maxRecDepth 100000
set_option maxHeartbeats 16000000
set_option linter.all false
namespace Go.Proofs.YtpmjnbmkippaiaaGreatDoor
section
open Go.RowKit Go.Shelf
variable {a:Act} {ops:Array Oper} {p:ByteArray} {z:Int} {ns:List Nd} {rest:List Oper} {us:List Value} {I c g lo m n:Nat} {b:Nd} {o:TK} {o':Option Nat} {e:TypeId} {v:Value} {w w':World}
def Dy (ns:List Nd) (o:TK):Array Value :=
 if ¬ns.findIdx (U9 o.path)<ns.length then #[.string ByteArray.empty,Ss 2]
 else if o.XT≠-1∧o.XT≠(Ye ns (ns.findIdx (U9 o.path))).XT then #[.string ByteArray.empty,Ss 4]
 else #[.string o.path,.nilIface]
theorem Aa (w:World) (D lo:Nat) (z:Int) (v:Value) (ns:List Nd) (o:TK) (h:Df w D lo z v ns) :
    Calls Tryz.prog 232 #[.pointer (some ⟨D,0,none⟩),.agg #[.int .i64 o.kind,.string o.path,.string o.data,.int .i64 o.XT,.bool o.seq]] w (Wj w (.tuple (Dy ns o))):=by
 have B0:Hid (Zi w (w.alloc (.cells #[.int .i64 o.kind,.string o.path,.string o.data,.int .i64 o.XT,.bool o.seq] 159))):=Yy.alloc YR _;have XO:Hid (St (w.alloc (.cells #[.int .i64 o.kind,.string o.path,.string o.data,.int .i64 o.XT,.bool o.seq] 159)) w.heap.size [.int .i64 o.kind,.string o.path,.string o.data,.int .i64 o.XT,.bool o.seq]):=St.new _ _ _;have HW:Hid (∀W,Zi w W→Calls Tryz.prog 252 #[.pointer (some ⟨D,0,none⟩),.agg #[.int .i64 o.kind,.string o.path,.string o.data,.int .i64 o.XT,.bool o.seq]] W (Wj W (.tuple (SS ns o)))):=fun W hW=>Oh W D lo z v ns o (h.below hW)
 have HV:Hid ((SS ns o=#[.int .i64 0,Ss 2]∧Dy ns o=#[.string ByteArray.empty,Ss 2])∨(SS ns o=#[.int .i64 0,Ss 4]∧Dy ns o=#[.string ByteArray.empty,Ss 4])∨∃I:Nat,SS ns o=#[.int .i64 (I:Int),.nilIface]∧Dy ns o=#[.string o.path,.nilIface]):=by
  unfold SS Dy
  split
  · exact .inl ⟨rfl,rfl⟩
  split
  · exact .inr (.inl ⟨rfl,rfl⟩)
  exact .inr (.inr ⟨_,rfl,rfl⟩)
 clear h
 go_enter Tryz.func232,Tryz.ntmps232
 go_wp2_with fail
 refine (HW.out _ B0.out).mono ?_;rintro e w1 ⟨rfl,b1⟩;have B1:=ZU (WD B0.out b1);have c1:=(XO.out.below b1).cl 1 _ rfl;clear b1 B0 XO HW
 rcases HV.out with ⟨e1,e2⟩ | ⟨e1,e2⟩ | ⟨I,e1,e2⟩
 · have HE:=ZU e2
   rw [e1];clear e1 e2 HV;unfold Ss
   go_wp2_with fail
   rw [HE.out];exact ZW (v:=.tuple #[.string ByteArray.empty,Ss 2]) (by simp [results,Tryz.results232,go_sem,Ss];try rfl) rfl ⟨rfl,B1.out⟩
 · have HE:=ZU e2
   rw [e1];clear e1 e2 HV;unfold Ss
   go_wp2_with fail
   rw [HE.out];exact ZW (v:=.tuple #[.string ByteArray.empty,Ss 4]) (by simp [results,Tryz.results232,go_sem,Ss];try rfl) rfl ⟨rfl,B1.out⟩
 have HE:=ZU e2;rw [e1];clear e1 e2 HV
 go_wp2_with fail
 rw [HE.out];exact ZW (v:=.tuple #[.string o.path,.nilIface]) (by simp [results,Tryz.results232,go_sem]) rfl ⟨rfl,B1.out⟩
theorem xt {q:ByteArray} (h:(q.toList == p.toList)=true):U9 q=U9 p:=by
 funext n
 unfold U9;rw [eq_of_beq h]
theorem xr (h:Asc ns) {n:Nd} (hl:ns.findIdx (U9 n.path)<ns.length):LX ns n=ns.set (ns.findIdx (U9 n.path)) n:=by
 obtain ⟨h1,h2⟩:=Py h hl;rw [LJ n h,VI,Z0 hl];unfold Ix;rw [h1,Z0 rfl,h2]
theorem ot (h:Asc ns) (hl:ns.findIdx (U9 p)<ns.length):toN ns p z=ns.set (ns.findIdx (U9 p)) { Ye ns (ns.findIdx (U9 p)) with XQ:=LK (Ye ns (ns.findIdx (U9 p))).XQ,pz:=z }:=by
 have hp:=xt (Qo hl).2;unfold toN;rw [Z0 hl,xr h (by show ns.findIdx (U9 (Ye ns (ns.findIdx (U9 p))).path)<_;rw [hp];exact hl)];show ns.set (ns.findIdx (U9 (Ye ns (ns.findIdx (U9 p))).path)) _=_;rw [hp]
theorem rY (hl:¬ns.findIdx (U9 p)<ns.length):toN ns p z=ns:=by unfold toN;rw [Z1 hl]
theorem Dx (w:World) (D lo:Nat) (z:Int) (v:Value) (ns:List Nd) (s:ByteArray) (h:Df w D lo z v ns) (hs:Xi s=true) (hl:¬ns.findIdx (U9 (UZ s))<ns.length) :
    Calls Tryz.prog 251 #[.pointer (some ⟨D,0,none⟩),.string s] w (Wj w (.tuple #[])):=by
 have hlt:=h.s.lt;have HP:Hid (∀W,Calls Tryz.prog 195 #[.string s] W fun e w'=>e=.returned (.string (UZ s))∧w'=W):=fun W=>Su W s hs
 have HF:Hid (∀W,Zi w W→Calls Tryz.prog 115 #[v,.string (UZ s)] W (Wj W (.tuple #[.int .i64 (Ty ns (UZ s):Int),.bool false]))):=fun W hW=>by
  have h9:=FV W v ns (UZ s) (h.o.below hW).rd h.n;rw [Zo hl] at h9;exact h9
 have D1:Hid (Df w.drew D lo z v ns):=h.below (below_drewN' w 1);have B1:Hid (Zi w w.drew):=below_drewN' w 1;clear h hs hl;generalize UZ s=p at *
 go_enter Tryz.func251,Tryz.ntmps251
 go_wp2_with fail
 refine ZX (S:=fun W=>W.cell? ⟨D,0,none⟩=some v) (by kernel_rfl) (D1.out.s.cl 0 _ rfl) (fun Z9=>?_);generalize w.drew=w1 at *
 iterate 5 (refine Zf ?_ (by kernel_rfl) (fun _=>id) Z9 ?_ ?_;rotate_left;· intro w9 ZQ;go_simp;try with_reducible rfl)
 refine YS 5 rfl (by kernel_rfl) (fun K hK=>?_);go_simp;refine (HP.out _).mono ?_;rintro e w2 ⟨rfl,rfl⟩;clear Z9;refine hK.out _ _ (D1.out.s.cl 0 _ rfl) (fun Z9=>?_);clear hK K;refine YS 6 rfl (by kernel_rfl) (fun K hK=>?_);go_simp;refine (HF.out _ B1.out).mono ?_;rintro e w2 ⟨rfl,b2⟩;have B2:=ZU (WD B1.out b2);have D2:=ZU (D1.out.below b2);clear Z9 b2;refine hK.out _ _ (D2.out.s.cl 0 _ rfl) (fun Z9=>?_);clear hK K
 iterate 5 (refine Zf ?_ (by kernel_rfl) (fun _=>id) Z9 ?_ ?_;rotate_left;· intro w9 ZQ;clear ZQ;go_simp;try with_reducible rfl)
 refine ZR (by kernel_rfl) ?_ _
 simp only [Act.put,WV,WU,WT]
 clear Z9 HF HP
 go_wp2_with fail
 exact ZW (v:=.tuple #[]) (by simp [results,Tryz.results251,go_sem]) rfl ⟨rfl,B2.out⟩
theorem Tw.setRow {b j:Nat} {x:Value} (h:Tw w b (some g) w' o'):Tw w b (some g) (w'.setCell ⟨g,j,none⟩ x) o':=by
 refine ⟨h.os,h.tape,h.output,by simpa using h.size,fun q hq hb ho=>?_,h.own⟩;rw [Below.heap_setCell w' ⟨g,j,none⟩ x q (fun e=>ho (by rw [e]))];exact h.block q hq hb ho
theorem Io {k:Nat} {m:Nd} (h:k<ns.length):Ye (ns.set k m) k=m:=by
 rw [WF (by rw [Xt];exact h)]
 simp
def In (w:World) (D lo:Nat) (z:Int) (v:Value) (ns:List Nd) (p:ByteArray) (e:Ending) (w':World):Prop :=
 e=.returned (.tuple #[])∧Df w' D lo z v (toN ns p z)∧Tw w D v.ownBlock w' v.ownBlock
theorem Dw (w:World) (D lo:Nat) (z:Int) (v:Value) (ns:List Nd) (s:ByteArray) (h:Df w D lo z v ns) (hs:Xi s=true) (hz:PR z=true) (hl:ns.findIdx (U9 (UZ s))<ns.length) :
    Calls Tryz.prog 251 #[.pointer (some ⟨D,0,none⟩),.string s] w (In w D lo z v ns (UZ s)):=by
 have hlt:=h.s.lt;have HP:Hid (∀W,Calls Tryz.prog 195 #[.string s] W fun e w'=>e=.returned (.string (UZ s))∧w'=W):=fun W=>Su W s hs
 have HF:Hid (∀W,Zi w W→Calls Tryz.prog 115 #[v,.string (UZ s)] W (Wj W (.tuple #[.int .i64 (ns.findIdx (U9 (UZ s)):Int),.bool true]))):=fun W hW=>by
  have h9:=FV W v ns (UZ s) (h.o.below hW).rd h.n;rw [Zm hl,(Py h.n.1 hl).2] at h9;exact h9
 have D1:Hid (Df w.drew D lo z v ns):=h.below (below_drewN' w 1);have B1:Hid (Zi w w.drew):=below_drewN' w 1;have Zt:=ZU (ot (z:=z) h.n.1 hl);have HZ:=ZU hz;clear h hs hz;generalize UZ s=p at *;obtain ⟨I,hI⟩:∃I,I=ns.findIdx (U9 p):=⟨_,rfl⟩;rw [←hI] at HF hl Zt;clear hI;have hL:(I:Int)<(ns.length:Int):=by omega
 have hg0:(0:Int)≤(I:Int):=by omega
 go_enter Tryz.func251,Tryz.ntmps251
 go_wp2_with fail
 refine ZX (S:=fun W=>W.cell? ⟨D,0,none⟩=some v) (by kernel_rfl) (D1.out.s.cl 0 _ rfl) (fun Z9=>?_);generalize w.drew=w1 at *
 iterate 5 (refine Zf ?_ (by kernel_rfl) (fun _=>id) Z9 ?_ ?_;rotate_left;· intro w9 ZQ;go_simp;try with_reducible rfl)
 refine YS 5 rfl (by kernel_rfl) (fun K hK=>?_);go_simp;refine (HP.out _).mono ?_;rintro e w2 ⟨rfl,rfl⟩;clear Z9;refine hK.out _ _ (D1.out.s.cl 0 _ rfl) (fun Z9=>?_);clear hK K;refine YS 6 rfl (by kernel_rfl) (fun K hK=>?_);go_simp;refine (HF.out _ B1.out).mono ?_;rintro e w2 ⟨rfl,b2⟩;have B2:=ZU (WD B1.out b2);have D2:=ZU (D1.out.below b2);clear Z9 b2;refine hK.out _ _ (D2.out.s.cl 0 _ rfl) (fun Z9=>?_);clear hK K
 iterate 5 (refine Zf ?_ (by kernel_rfl) (fun _=>id) Z9 ?_ ?_;rotate_left;· intro w9 ZQ;clear ZQ;go_simp;try with_reducible rfl)
 refine ZR (by kernel_rfl) ?_ _
 simp only [Act.put,WV,WU,WT]
 clear Z9 HF HP;obtain ⟨g,gc,hv,hlo,hgl,hce⟩:=D2.out.o.at hl;subst hv;have c0:=D2.out.s.cl 0 _ rfl;have c1:=D2.out.s.cl 1 _ rfl;have k3:=(hce I hl).all.2.2.2.1;have k6:=(hce I hl).all.2.2.2.2.2.2;have f3:w2.frozen? ⟨g,I*7+3,none⟩=false:=Xm D2.out.o _;have f6:w2.frozen? ⟨g,I*7+6,none⟩=false:=Xm D2.out.o _;have O:g≠D:=fun e=>D2.out.ne (by rw [e];rfl)
 have hcv:0≤(Ye ns I).XQ∧(Ye ns I).XQ≤2147483647:=by
  have:=D2.out.n.2.1 (Ye ns I) (by rw [WF hl];exact YP hl);have:=TX this;omega
 have ZN:Hid (∀W,Calls Tryz.prog 256 #[.int .i64 (Ye ns I).XQ] W fun e w'=>e=.returned (.int .i64 (LK (Ye ns I).XQ))∧w'=W):=fun W=>Mh W _ hcv
 clear hce hcv
 go_wp2_with (go_at_call 256;refine (ZN.out _).mono ?_;rintro e w' ⟨rfl,rfl⟩)
 have p1:=(D2.out.o.put (k:=I) (f:=3) (u:=.int .i64 (LK (Ye ns I).XQ)) (m:={ Ye ns I with XQ:=LK (Ye ns I).XQ }) hl (by omega) rfl).1;have p2:=(p1.put (k:=I) (f:=6) (u:=.int .i64 z) (m:={ Ye ns I with XQ:=LK (Ye ns I).XQ,pz:=z }) (by rw [Xt];exact hl) (by omega) (by rw [Io hl];rfl)).1;rw [Q8] at p2
 simp only [Xt] at p2
 have T2:=((Tw.YZ B2.out D (some g)).setRow (j:=I*7+3) (x:=.int .i64 (LK (Ye ns I).XQ))).setRow (j:=I*7+6) (x:=.int .i64 z);have S2:=(D2.out.s.other (c:=g) (j:=I*7+3) (x:=.int .i64 (LK (Ye ns I).XQ)) O.symm).other (c:=g) (j:=I*7+6) (x:=.int .i64 z) O.symm;refine ZW (v:=.tuple #[]) (by simp [results,Tryz.results251,go_sem]) rfl ⟨rfl,⟨S2,?_,D2.out.ne,D2.out.n.touch p HZ.out⟩,T2⟩;rw [Zt.out];exact p2
def JV (d:Int × List Nd × ByteArray):Array Value:=if d.1=0 then #[.string d.2.2,.nilIface] else #[.string ByteArray.empty,Ss d.1]
def JP (w:World) (D lo:Nat) (z:Int) (v:Value) (d:Int × List Nd × ByteArray) (e:Ending) (w':World):Prop :=
 ∃v',e=.returned (.tuple (JV d))∧Df w' D lo z v' d.2.1∧Tw w D v.ownBlock w' v'.ownBlock
theorem oq (hw:OO o=true) (hk:o.kind=4):JV (Ry ns o z)=Dy ns o∧(Ry ns o z).2.1=ns:=by
 have e:Ry ns o z=if ¬ns.findIdx (U9 o.path)<ns.length then (2,ns,⟨#[]⟩) else if o.XT≠-1∧o.XT≠(Ye ns (ns.findIdx (U9 o.path))).XT then (4,ns,⟨#[]⟩) else (0,ns,o.path):=by
  unfold Ry;rw [hw,Z1 (show ¬(!true)=true by decide),Z1 (show ¬o.kind=1 by omega),Z1 (show ¬o.kind=2 by omega),Z1 (show ¬o.kind=3 by omega)]
 rw [e];unfold Dy
 split
 · exact ⟨rfl,rfl⟩
 split
 · exact ⟨rfl,rfl⟩
 exact ⟨rfl,rfl⟩
theorem Fo (w:World) (D lo:Nat) (z:Int) (v:Value) (ns:List Nd) (o:TK) (h:Df w D lo z v ns) (hw:OO o=true) (hk:o.kind=4) :
    Calls Tryz.prog 232 #[.pointer (some ⟨D,0,none⟩),.agg #[.int .i64 o.kind,.string o.path,.string o.data,.int .i64 o.XT,.bool o.seq]] w (JP w D lo z v (Ry ns o z)):=by
 refine (Aa w D lo z v ns o h).mono ?_;rintro e w' ⟨rfl,b⟩;obtain ⟨e1,e2⟩:=oq (z:=z) hw hk (ns:=ns);exact ⟨v,by rw [e1],by rw [e2];exact h.below b,Tw.YZ b _ _⟩
theorem om (h:Asc ns) (hl:ns.findIdx (U9 p)<ns.length) (d:ByteArray) (u z:Int):LX ns { Ye ns (ns.findIdx (U9 p)) with data:=d,XT:=u,mz:=z }=ns.set (ns.findIdx (U9 p)) { Ye ns (ns.findIdx (U9 p)) with data:=d,XT:=u,mz:=z }:=by
 have hp:=xt (Qo hl).2;rw [xr h (by show ns.findIdx (U9 (Ye ns (ns.findIdx (U9 p))).path)<_;rw [hp];exact hl)];show ns.set (ns.findIdx (U9 (Ye ns (ns.findIdx (U9 p))).path)) _=_;rw [hp]
theorem Bz (hw:OO o=true) (hk:o.kind=3∨o.kind=2) {c:Int} (hc:c≠0) (hv:SS ns o=#[.int .i64 0,Ss c]):Ry ns o z=(c,ns,⟨#[]⟩):=by
 unfold SS at hv;unfold Ry;rw [hw,Z1 (by simp),Z1 (by omega)]
 split at hv
 · rename_i h1
   rw [Z0 h1]
   simp [Ss] at hv
   rw [hv]
 rename_i h1;rw [Z1 h1]
 split at hv
 · rename_i h2
   rw [Z0 h2]
   simp [Ss] at hv
   rw [hv]
 simp [Ss] at hv
theorem xq (hw:OO o=true) (hk:o.kind=3) (hs:Asc ns) (hv:SS ns o=#[.int .i64 (I:Int),.nilIface]):I<ns.length∧Ry ns o z=(0,ns.set I { Ye ns I with data:=o.data,XT:=LK (Ye ns I).XT,mz:=z },o.path):=by
 unfold SS at hv;unfold Ry;rw [hw,Z1 (by simp),Z1 (by omega)]
 split at hv
 · simp [Ss] at hv
 rename_i h1;rw [Z1 h1]
 split at hv
 · simp [Ss] at hv
 rename_i h2;rw [Z1 h2,Z1 (by omega),Z0 hk];have hI:ns.findIdx (U9 o.path)=I:=by simp at hv;omega
 have hl:ns.findIdx (U9 o.path)<ns.length:=by omega
 rw [om hs hl,hI];exact ⟨by omega,rfl⟩
theorem zZ (w:World) (D lo:Nat) (z:Int) (v:Value) (ns:List Nd) (o:TK) (h:Df w D lo z v ns) (hw:OO o=true) (hk:o.kind=3) (hz:PR z=true) :
    Calls Tryz.prog 231 #[.pointer (some ⟨D,0,none⟩),.agg #[.int .i64 o.kind,.string o.path,.string o.data,.int .i64 o.XT,.bool o.seq]] w (JP w D lo z v (Ry ns o z)):=by
 have B0:Hid (Zi w (w.alloc (.cells #[.int .i64 o.kind,.string o.path,.string o.data,.int .i64 o.XT,.bool o.seq] 159))):=Yy.alloc YR _;have XO:Hid (St (w.alloc (.cells #[.int .i64 o.kind,.string o.path,.string o.data,.int .i64 o.XT,.bool o.seq] 159)) w.heap.size [.int .i64 o.kind,.string o.path,.string o.data,.int .i64 o.XT,.bool o.seq]):=St.new _ _ _;have XD:=ZU (h.below B0.out);have hlt:=h.s.lt;have HS:=ZU (sL h.n o hz);have NR:Hid (∀q,v.ownBlock=some q→lo≤q∧q<w.heap.size):=ZT h.o;have HW:Hid (∀W,Zi w W→Calls Tryz.prog 252 #[.pointer (some ⟨D,0,none⟩),.agg #[.int .i64 o.kind,.string o.path,.string o.data,.int .i64 o.XT,.bool o.seq]] W (Wj W (.tuple (SS ns o)))):=fun W hW=>Oh W D lo z v ns o (h.below hW)
 have HV:Hid ((∃c:Int,c≠0∧SS ns o=#[.int .i64 0,Ss c])∨∃I:Nat,SS ns o=#[.int .i64 (I:Int),.nilIface]):=by
  unfold SS
  split
  · exact .inl ⟨2,by omega,rfl⟩
  split
  · exact .inl ⟨4,by omega,rfl⟩
  exact .inr ⟨_,rfl⟩
 have HB:Hid (∀c:Int,c≠0→SS ns o=#[.int .i64 0,Ss c]→Ry ns o z=(c,ns,⟨#[]⟩)):=fun c hc hv=>Bz hw (.inl hk) hc hv
 have HG:Hid (∀I:Nat,SS ns o=#[.int .i64 (I:Int),.nilIface]→I<ns.length∧Ry ns o z=(0,ns.set I { Ye ns I with data:=o.data,XT:=LK (Ye ns I).XT,mz:=z },o.path)):=fun I hv=>xq hw hk h.n.1 hv
 clear h hw hk hz
 go_enter Tryz.func231,Tryz.ntmps231
 go_wp2_with fail
 generalize w.alloc _=w0 at *;refine (HW.out _ B0.out).mono ?_;rintro e w1 ⟨rfl,b1⟩;have B1:=ZU (WD B0.out b1);have X1:=ZU (XO.out.below b1);have D1:=ZU (XD.out.below b1);clear b1 B0 XO HW XD
 rcases HV.out with ⟨c,hc,e1⟩ | ⟨I,e1⟩
 · have HE:=ZU (HB.out c hc e1)
   rw [e1];clear e1 HV HB HG HS;unfold Ss
   go_wp2_with fail
   rw [HE.out];refine ZW (v:=.tuple #[.string ByteArray.empty,Ss c]) (by simp [results,Tryz.results231,go_sem,Ss];try rfl) rfl ⟨v,?_,D1.out,Tw.YZ B1.out _ _⟩;unfold JV;rw [Z1 hc]
 obtain ⟨hl,e2⟩:=HG.out I e1;have HE:=ZU e2;rw [e1];clear e1 e2 HV HB HG;have hL:(I:Int)<(ns.length:Int):=by omega
 have hg0:(0:Int)≤(I:Int):=by omega
 obtain ⟨g,gc,hv,hlo,hgl,hce⟩:=D1.out.o.at hl;subst hv;have c0:=D1.out.s.cl 0 _ rfl;have c1:=D1.out.s.cl 1 _ rfl;have x1:=X1.out.cl 1 _ rfl;have x2:=X1.out.cl 2 _ rfl;have k1:=(hce I hl).all.2.1;have k2:=(hce I hl).all.2.2.1;have k5:=(hce I hl).all.2.2.2.2.2.1;have f1:w1.frozen? ⟨g,I*7+1,none⟩=false:=Xm D1.out.o _;have f2:w1.frozen? ⟨g,I*7+2,none⟩=false:=Xm D1.out.o _;have f5:w1.frozen? ⟨g,I*7+5,none⟩=false:=Xm D1.out.o _;have O:g≠D:=fun e=>D1.out.ne (by rw [e];rfl)
 have hgw:g<w.heap.size:=(NR.out g rfl).2;have Zr:0≤(Ye ns I).XT∧(Ye ns I).XT≤2147483647:=by
  have:=D1.out.n.2.1 (Ye ns I) (by rw [WF hl];exact YP hl);have:=TX this;omega
 have ZN:Hid (∀W,Calls Tryz.prog 256 #[.int .i64 (Ye ns I).XT] W fun e w'=>e=.returned (.int .i64 (LK (Ye ns I).XT))∧w'=W):=fun W=>Mh W _ Zr
 clear hce Zr
 go_wp2_with (go_at_call 256;refine (ZN.out _).mono ?_;rintro e w' ⟨rfl,rfl⟩)
 have p1:=(D1.out.o.put (k:=I) (f:=1) (u:=.string o.data) (m:={ Ye ns I with data:=o.data }) hl (by omega) rfl).1;have p2:=(p1.put (k:=I) (f:=2) (u:=.int .i64 (LK (Ye ns I).XT)) (m:={ Ye ns I with data:=o.data,XT:=LK (Ye ns I).XT }) (by rw [Xt];exact hl) (by omega) (by rw [Io hl];rfl)).1;rw [Q8] at p2;have p3:=(p2.put (k:=I) (f:=5) (u:=.int .i64 z) (m:={ Ye ns I with data:=o.data,XT:=LK (Ye ns I).XT,mz:=z }) (by rw [Xt];exact hl) (by omega) (by rw [Io hl];rfl)).1;rw [Q8] at p3
 simp only [Xt] at p3
 have T2:=(((Tw.YZ B1.out D (some g)).setRow (j:=I*7+1) (x:=.string o.data)).setRow (j:=I*7+2) (x:=.int .i64 (LK (Ye ns I).XT))).setRow (j:=I*7+5) (x:=.int .i64 z);have S2:=((D1.out.s.other (c:=g) (j:=I*7+1) (x:=.string o.data) O.symm).other (c:=g) (j:=I*7+2) (x:=.int .i64 (LK (Ye ns I).XT)) O.symm).other (c:=g) (j:=I*7+5) (x:=.int .i64 z) O.symm;have HN:=HS.out;rw [HE.out] at HN ⊢;exact ZW (v:=.tuple #[.string o.path,.nilIface]) (by simp [results,Tryz.results231,go_sem]) rfl ⟨_,rfl,⟨S2,p3,D1.out.ne,HN⟩,T2⟩
theorem xp (w:World) (c:Nat) (m:Nd) (p:ByteArray) (hs:Xi m.path=true) (hc:c<w.heap.size) (ho:w.cell? ⟨c,1,none⟩=some (.string p)) :
    Calls Tryz.prog 254 #[.agg #[.string m.path,.string m.data,.int .i64 m.XT,.int .i64 m.XQ,.int .i64 m.cz,.int .i64 m.mz,.int .i64 m.pz],.pointer (some ⟨c,0,none⟩)] w (Wj w (.bool (GM m.path p))):=by
 have B0:Hid (∀ob,Zi w (w.alloc ob)):=fun ob=>Yy.alloc YR _
 have Y5:Hid (∀W,Calls Tryz.prog 160 #[.string m.path,.string p] W fun e w'=>e=.returned (.bool (GM m.path p))∧w'=W):=fun W=>FX W _ _ hs
 have c1:=(World.cell?_alloc_lt w (.cells #[.string m.path,.string m.data,.int .i64 m.XT,.int .i64 m.XQ,.int .i64 m.cz,.int .i64 m.mz,.int .i64 m.pz] 147) ⟨c,1,none⟩ hc).trans ho;clear hs ho
 go_enter Tryz.func254,Tryz.ntmps254
 go_wp2_with fail
 refine (Y5.out _).mono ?_;rintro e w1 ⟨rfl,rfl⟩
 go_wp2_with fail
 exact ZW (v:=.bool (GM m.path p)) (by simp [results,Tryz.results254,go_sem]) rfl ⟨rfl,B0.out _⟩
theorem xn (w:World) (b n cap c:Nat) (ns:List Nd) (p:ByteArray) (hp:ns.length=n) (hn:n≤1000) (hb:b<w.heap.size) (hc:∀i,i<n→Um w b (i*7) (Ye ns i)) (hok:∀m ∈ ns,Xi m.path=true) (hcl:c<w.heap.size) (ho:w.cell? ⟨c,1,none⟩=some (.string p)) :
    Calls Tryz.prog 269 #[.slice (some ⟨b,0,none⟩) n cap,.func (.func 254) #[] #[.pointer (some ⟨c,0,none⟩)]] w fun e w'=>(∃r:Int,e=.returned (.int .i64 r)∧decide (r≥0)=ns.any (fun m=>GM m.path p))∧Zi w w':=by
 have HC:=ZU hc;have HP:=ZU hp;have HO:=ZU ho;have PX:Hid (∀i,i<n→Xi (Ye ns i).path=true):=fun i hi=>hok _ (by rw [WF (by omega)];exact YP _)
 clear hc hp ho hok
 go_enter Tryz.func269,Tryz.ntmps269
 go_wp2
 go_loopw [8] (fun vi wr=>∃i:Nat,i≤n∧vi=.int .i64 i∧Hid (∀k,k<i→GM (Ye ns k).path p=false)∧Hid (Zi w wr)) (fun i _=>n - (intOf i).toNat)
 case atStart=>exact ⟨0,Zu _,rfl,fun k hk=>by omega,Yy⟩
 case round =>
  obtain ⟨i,hi,rfl,HK,HB⟩:=hrel
  by_cases hlt:i<n
  · have Rj:(i:Int)<(n:Int):=by omega
    obtain ⟨c0,c1,c2,c3,c4,c5,c6⟩:=(HC.out i hlt).below HB.out hb;have HR:=ZU (xp wr c (Ye ns i) p (PX.out i hlt) (ZY hcl HB.out.size) ((HB.out.cell (p:=⟨c,1,none⟩) hcl).trans HO.out))
    go_wp2_with fail
    refine HR.out.mono ?_;rintro e w1 ⟨rfl,b1⟩;have B1:=ZU (WD HB.out b1);clear b1 c0 c1 c2 c3 c4 c5 c6 HB HR
    cases hx:GM (Ye ns i).path p with
    | true =>
     have HX:Hid (ns.any (fun m=>GM m.path p)=true):=by
      show _=_;rw [Td];exact ⟨Ye ns i,by rw [WF (by rw [HP.out];exact hlt)];exact YP _,hx⟩
     clear hx;go_wp2;refine ZW (v:=.int .i64 (i:Int)) (by simp [results,Tryz.results269,go_sem]) rfl ⟨⟨_,rfl,by rw [HX.out];simp⟩,B1.out⟩
    | false =>
     have HX:=ZU hx;clear hx;go_wp2;exact ⟨⟨i+1,by omega,by go_num,fun k hk=>if e:k=i then e ▸ HX.out else HK.out k (by omega),B1⟩,by simp [intOf];omega⟩
  have hin:i=n:=by omega
  subst hin;have HX:Hid (ns.any (fun m=>GM m.path p)=false):=by
   show _=_;rw [List.any_eq_false];intro m hm;obtain ⟨k,hk,rfl⟩:=List.mem_iff_getElem.1 hm;have:=HK.out k (by rw [←HP.out];exact hk);rw [WF hk] at this
   simp [this]
  go_wp2;refine ZW (v:=.int .i64 (-1)) (by simp [results,Tryz.results269,go_sem]) rfl ⟨⟨_,rfl,by rw [HX.out];rfl⟩,HB.out⟩
theorem xm (w:World) (b n cap c:Nat) (ns:List Nd) (p:ByteArray) (hp:ns.length=n) (hn:n≤1000) (hb:b<w.heap.size) (hc:∀i,i<n→Um w b (i*7) (Ye ns i)) (hok:∀m ∈ ns,Xi m.path=true) (hcl:c<w.heap.size) (ho:w.cell? ⟨c,1,none⟩=some (.string p)) :
    Calls Tryz.prog 253 #[.slice (some ⟨b,0,none⟩) n cap,.func (.func 254) #[] #[.pointer (some ⟨c,0,none⟩)]] w (Wj w (.bool (ns.any (fun m=>GM m.path p)))):=by
 have H:=ZU (xn w b n cap c ns p hp hn hb hc hok hcl ho);clear hc ho hok hp
 go_enter Tryz.func253,Tryz.ntmps253
 go_wp2_with fail
 refine H.out.mono ?_;rintro e w1 ⟨⟨r,rfl,hr⟩,b1⟩;have B1:=ZU b1;have HR:=ZU hr;clear b1 hr H
 go_wp2_with fail
 exact ZW (v:=.bool (decide (r≥0))) (by simp [results,Tryz.results253,go_sem]) rfl ⟨by rw [HR.out],B1.out⟩
section
variable {P:Program} {w:World}
theorem OV (dT sT ty elem:TypeId) (i:TypeInfo) (g o dLen dCap:Nat) (a:Addr) (sLen sCap:Nat) (cur:Array Value) (t:TypeId) (cs:List Value) (hu:P.underlying dT=some (.slice elem)) (hi:P.info? elem=some i) (hg:w.heap[g]?=some (.cells cur t (0,0))) (hn:cs.length=Nat.min sLen dLen*i.size)
    (hsrc:∀j v,cs[j]?=some v→w.cell? (a.add j)=some v) (hfit:o+cs.length≤cur.size) (h1:∀v ∈ cs,v.oneCell'=true) :
    (Builtin.copy_ #[dT,sT] ty #[.slice (some ⟨g,o,none⟩) dLen dCap,.slice (some a) sLen sCap]).run P w=.ok (goInt (Nat.min sLen dLen)) (w.setRow g (cur.toList.take o++cs++cur.toList.drop (o+cs.length)).toArray):=by
 have hf:=Vt (P:=P) w i.size (Nat.min sLen dLen) a sLen sCap cs hn hsrc;have hst:=TB P g o t cs 0 cur w hg (by simpa using hfit) h1
 simp only [Yj] at hst
 simp [Builtin.copy_,Ya hu,sizeOf,typeInfo,hi,Builtin.lenOf,hf,hst]
theorem Dv {o:Oper} {K:Act→World→Prop} {Q:Exit→Act→World→Prop} (s x:Operand) (t tn:TypeId) (ho:o.op=.call { callee:=.builtin .append,args:=#[s,x],argTypes:=#[t,tn] }) (vs vx:Value) (hs:a.eval s=vs) (hx:a.eval x=vx)
    (v':Value) (w':World) (hr:(Builtin.append_ #[t,tn] o.type #[vs,vx]).run P w=.ok v' w') (h:K (a.put o.dst v') w'):o.wp P a w K Q:=by
 unfold Oper.wp execOp
 simp only [ho,resolve,invoke,builtin,XX,Ww,XH,WL,Yl,WO,hs,hx,hr]
 exact h
theorem Nr (t tn ty e:TypeId) (i:TypeInfo) (z:Value) (k kn:IntKind) (ht:P.underlying t=some (.slice e)) (htn:P.underlying tn=some (.int kn)) (hi:P.info? e=some i) (hz:i.zero=some z)
    (g n cap m:Nat) (xs:List Value) (hl:xs.length=n*i.size) (hxs:∀j u,xs[j]?=some u→w.cell? ((⟨g,0,none⟩:Addr).add j)=some u) (h0:0<m) (hs:0<i.size) (hroom:cap<n+m) (h63:n+m≤1000000) (hb:i.bytes≤1000) :
    (Builtin.append_ #[t,tn] ty #[.slice (some ⟨g,0,none⟩) n cap,.int k m]).run P w =
     .ok (.slice (some ⟨w.heap.size,0,none⟩) (n+m) (grownCap w (n+m) cap e)) (w.drew.alloc (.cells (xs.toArray++Builtin.zeroCells z.cells m++Builtin.zeroCells z.cells (grownCap w (n+m) cap e - (n+m))) e)):=by
 have hw:IntKind.i64.wrap (m:Int)=m:=by rw [Zq];omega
 have hm:m≠0:=by omega
 have hneg:¬((m:Int)<0):=by omega
 have hmb:m*i.bytes≤1000000*1000:=Nat.mul_le_mul (by omega) hb;have h48i:¬(281474976710656<(m:Int)*(i.bytes:Int)):=by rw [←Int.natCast_mul];omega
 have hcap:¬n+m≤cap:=by omega
 have hfit:Builtin.nextslicecap (n+m) cap*i.bytes≤281474976710656:=U2 (by omega) (ZJ (Nat.mul_le_mul h63 hb) (by omega));have h48:¬(281474976710656<Builtin.nextslicecap (n+m) cap*i.bytes):=by omega
 have ZL:¬(9223372036854775807<(n:Int)+(m:Int)):=by omega
 have hns:¬(m*i.size=0):=Nat.mul_ne_zero hm (by omega);have hf:=Vt (P:=P) w.drew i.size n ⟨g,0,none⟩ n cap xs hl hxs
 simp [Builtin.append_,Ya ht,Ya htn,sizeOf,typeInfo,zeroValue,hi,hz,asInt,asIntOf,hw,hneg,hns,ZL,h48,h48i,hcap,Question.forced,hf,newRow,grownCap]
theorem Du (t ty e:TypeId) (i:TypeInfo) (z:Value) (ht:P.underlying t=some (.slice e)) (hi:P.info? e=some i) (hz:i.zero=some z) (g of n c:Nat) (h0:0<n) (cur:Array Value) (tt:TypeId) (hg:w.heap[g]?=some (.cells cur tt (0,0))) (cs:List Value) (hcs:(Builtin.zeroCells z.cells n).toList=cs) (hfit:of+cs.length≤cur.size) (h1:∀v ∈ cs,v.oneCell'=true) :
    (Builtin.clear_ #[t] ty #[.slice (some ⟨g,of,none⟩) n c]).run P w=.ok (.tuple #[]) (w.setRow g (cur.toList.take of++cs++cur.toList.drop (of+cs.length)).toArray):=by
 have hst:=TB P g of tt cs 0 cur w hg (by simpa using hfit) h1
 simp only [Yj] at hst
 obtain ⟨k,rfl⟩:∃k,n=k+1:=⟨n - 1,by omega⟩
 simp [Builtin.clear_,Ya ht,zeroValue,typeInfo,hi,hz,hcs,hst]
theorem KY {o:Oper} {K:Act→World→Prop} {Q:Exit→Act→World→Prop} (d s:Operand) (dT sT:TypeId) (ho:o.op=.call { callee:=.builtin .copy,args:=#[d,s],argTypes:=#[dT,sT] }) (vd vs:Value) (hd:a.eval d=vd) (hs:a.eval s=vs)
    (v':Value) (w':World) (hr:(Builtin.copy_ #[dT,sT] o.type #[vd,vs]).run P w=.ok v' w') (h:K (a.put o.dst v') w'):o.wp P a w K Q:=by
 unfold Oper.wp execOp
 simp only [ho,resolve,invoke,builtin,XX,Ww,XH,WL,Yl,WO,hd,hs,hr]
 exact h
theorem Nq {o:Oper} {Q:Exit→Act→World→Prop} (hgd:o.guard=none) (d s:Operand) (dT sT:TypeId) (ho:o.op=.call { callee:=.builtin .copy,args:=#[d,s],argTypes:=#[dT,sT] }) (vd vs:Value) (hd:a.eval d=vd) (hs:a.eval s=vs)
    (v':Value) (w':World) (hr:(Builtin.copy_ #[dT,sT] o.type #[vd,vs]).run P w=.ok v' w') (h:wpList P ops Q rest (a.put o.dst v') w'):wpList P ops Q (o :: rest) a w :=
 TZ hgd fun _ hK=>KY d s dT sT ho vd vs hd hs v' w' hr (hK _ _ h)
theorem JT {o:Oper} {Q:Exit→Act→World→Prop} (hgd:o.guard=none) (x:Operand) (t:TypeId) (ho:o.op=.call { callee:=.builtin .clear,args:=#[x],argTypes:=#[t] }) (vx:Value) (hx:a.eval x=vx)
    (v':Value) (w':World) (hr:(Builtin.clear_ #[t] o.type #[vx]).run P w=.ok v' w') (h:wpList P ops Q rest (a.put o.dst v') w'):wpList P ops Q (o :: rest) a w :=
 TZ hgd fun _ hK=>by
  unfold Oper.wp execOp
  simp only [ho,resolve,invoke,builtin,XX,Ww,XH,WL,Yl,WO,hx,hr]
  exact hK _ _ h
end
theorem kC:(Builtin.zeroCells (Value.agg #[.string ByteArray.empty,.string ByteArray.empty,.int .i64 0,.int .i64 0,.int .i64 0,.int .i64 0,.int .i64 0]).cells 1).toList=Uu nd0:=by kernel_rfl
theorem Pr (m:Nd):∀u ∈ Uu m,u.oneCell'=true:=by
 intro u hu
 simp [Uu] at hu
 rcases hu with rfl | rfl | rfl | rfl | rfl | rfl | rfl <;> rfl
theorem OU (R:List Nd):∀u ∈ YE R,u.oneCell'=true:=by
 intro u hu;obtain ⟨m,-,hm⟩:=List.mem_flatMap.1 hu;exact Pr m u hm
theorem Ox {B:Nat} {w0:World} (hb:Below B w0 w) (hBg:B≤g) (cs:Array Value):Below B w0 (w.setRow g cs) :=
 hb.trans ⟨rfl,rfl,rfl,by simp [World.setRow],fun k hk=>Ua w g k cs (by omega)⟩
theorem Tw.row {b:Nat} {cs:Array Value} (h:Tw w b (some g) w' o'):Tw w b (some g) (w'.setRow g cs) o':=by
 refine ⟨h.os,h.tape,h.output,by simpa [World.setRow] using h.size,fun q hq hb ho=>?_,h.own⟩;rw [Ua w' g q cs (fun e=>ho (by rw [e]))];exact h.block q hq hb ho
theorem XU.rX (h:XU 147 w lo (.slice (some ⟨g,0,none⟩) ns.length c) ns):lo≤g∧ns.length≤c∧c≤maxLen∧∃X:List Value,w.heap[g]?=some (.cells (YE ns++X).toArray 147 (0,0))∧(YE ns++X).length=c*7:=by
 rcases h.2 with ⟨h',_⟩ | ⟨g',cap',cur,h',hbg,hg,hnc,hcm,hcs,htake⟩
 · simp at h'
 simp only [ZC,ZK,Ym,VB,Q0] at h'
 obtain ⟨rfl,rfl⟩:=h';have e:YE ns++cur.toList.drop (ns.length*7)=cur.toList:=by rw [←htake];exact YQ _ _
 refine ⟨hbg,hnc,hcm,cur.toList.drop (ns.length*7),?_,?_⟩
 · rw [e,Array.toArray_toList];exact hg
 rw [e,YJ];exact hcs
theorem XU.gA {X:List Value} (hlo:lo≤g) (hc:ns.length≤c) (hm:c≤maxLen) (hg:w.heap[g]?=some (.cells (YE ns++X).toArray 147 (0,0))) (hl:(YE ns++X).length=c*7):XU 147 w lo (.slice (some ⟨g,0,none⟩) ns.length c) ns:=by
 refine ⟨Xw ns,.inr ⟨g,c,_,rfl,hlo,hg,hc,hm,by simpa using hl,?_⟩⟩;rw [←Xw ns]
 simp
theorem Dt (w:World) (lo g c:Nat) (ns:List Nd) (I:Nat) (h:XU 147 w lo (.slice (some ⟨g,0,none⟩) ns.length c) ns) (hI:I<ns.length) (hn:ns.length≤1000) :
    Calls Tryz.prog 255 #[.slice (some ⟨g,0,none⟩) ns.length c,.int .i64 (I:Int),.int .i64 ((I:Int)+1)] w fun e w'=>e=.returned (.slice (some ⟨g,0,none⟩) (ns.eraseIdx I).length c)∧XU 147 w' lo (.slice (some ⟨g,0,none⟩) (ns.eraseIdx I).length c) (ns.eraseIdx I)∧∀b,Tw w b (some g) w' (some g):=by
 obtain ⟨i0,hi,hz0,hz1,hz2⟩:=YN Tryz.Ml;obtain ⟨hlo,hnc,hcm,X,hg,hX⟩:=h.rX;have hI0:(0:Int)≤(I:Int):=by omega
 have hI1:(I:Int)≤(I:Int)+1:=by omega
 have hI2:(I:Int)+1≤(ns.length:Int):=by omega
 have ZG:(ns.length:Int)≤(c:Int):=by omega
 have hne:¬(I:Int)=(I:Int)+1:=by omega
 go_enter Tryz.func255,Tryz.ntmps255
 go_wp2_with fail
 have HG:=ZU hg;have HX:=ZU hX;clear hg hX h;refine ZX (S:=fun W=>True) (by kernel_rfl) trivial (fun Z9=>?_);have D1:Hid (Zi w w.drew):=below_drewN' w 1;generalize w.drew=w1 at *;have Zp:I≤c:=by omega
 have h01:(0:Int)≤(I:Int)+1:=by omega
 obtain ⟨ad,had⟩:∃ad:Addr,(if c=I+1 then some (⟨g,0,none⟩:Addr) else some ⟨g,(I+1)*7,none⟩)=some ad:=by split <;> exact ⟨_,rfl⟩
 iterate 5 (refine Zf ?_ (by kernel_rfl) (fun _=>id) Z9 ?_ ?_;rotate_left;· intro w9 ZQ;clear ZQ;go_simp;try with_reducible rfl)
 refine Zf (.slice (some ad) (ns.length - (I+1)) (c - (I+1))) (by kernel_rfl) (fun _=>id) Z9 ?_ ?_
 · intro w9 ZQ;clear ZQ;go_simp
 refine YS 6 rfl (by kernel_rfl) (fun K hK=>?_);rw [Z0 (by kernel_rfl)];have G:Hid (YE ns=YE (ns.take I)++(Uu (Ye ns I)++YE (ns.drop (I+1)))):=by
  show _=_;rw [←Ut,←Wd,WF hI,←Yg hI,YQ]
 have Ow:Hid ((YE (ns.take I)).length=I*7):=by show _=_;rw [Xw,Zw];omega
 have M:Hid ((YE (ns.drop (I+1))).length=(ns.length - (I+1))*7):=by show _=_;rw [Xw,ZS]
 have hr:=run_append_room (P:=Tryz.prog) w1 61 61 147 i0 Tryz.underlying61 hi g I c _ (D1.out.block g (Z3.1 HG.out).1 ▸ HG.out) ad (ns.length - (I+1)) (c - (I+1)) (YE (ns.drop (I+1))) (by rw [hz1];exact M.out) ?h1 ?h2 (by omega) ?h3
 case h1 =>
  intro j u hu;have hg1:=(D1.out.block g (Z3.1 HG.out).1).trans HG.out
  by_cases hc:c=I+1
  · have:=(Zh.1 hu).1
    rw [M.out] at this;omega
  rw [Z1 hc] at had;obtain rfl:=Zc had;rw [YY,Yz w1 g _ _ _ (0,0) hg1,XK,G.out,ZO,Zv (by rw [Ow.out];omega),Ow.out,ZO,Zv (by show (Uu _).length≤_;rw [show (Uu (Ye ns I)).length=7 from rfl];omega),show (Uu (Ye ns I)).length=7 from rfl,show (I+1)*7+j - I*7 - 7=j by omega,Zy (Zh.1 hu).1];exact hu
 case h2=>exact OU _
 case h3 =>
  have:=HX.out;rw [M.out,hz1,ZI];omega
 refine Dv (.tmp 22) (.tmp 25) _ _ (by kernel_rfl) _ _ (by kernel_rfl) (by kernel_rfl) _ _ hr ?_;refine hK.out _ _ trivial (fun Z9=>?_);clear hK K;have xk:=WB w1 g _ (List.toArray (YE (ns.take I)++YE (ns.drop (I+1))++(YE ns++X).drop ((ns.length - 1)*7))) 147 (0,0) (D1.out.block g (Z3.1 HG.out).1 ▸ HG.out);have T1:Hid (∀b,Tw w b (some g) (w1.setRow g (List.toArray (YE (ns.take I)++YE (ns.drop (I+1))++(YE ns++X).drop ((ns.length - 1)*7)))) (some g)):=fun b=>(Tw.YZ D1.out b (some g)).row
 have PP:(List.take (I*i0.size) (YE ns++X).toArray.toList++YE (List.drop (I+1) ns)++List.drop (I*i0.size+(YE (List.drop (I+1) ns)).length) (YE ns++X).toArray.toList)=YE (ns.take I)++YE (ns.drop (I+1))++(YE ns++X).drop ((ns.length - 1)*7):=by
  rw [hz1,M.out,show I*7+(ns.length - (I+1))*7=(ns.length - 1)*7 by omega]
  congr 2
  rw [G.out,ZO,List.take_append_of_le_length (by rw [Ow.out];omega),←Ow.out,Xp]
 rw [PP];clear PP hr;generalize w1.setRow g _=w2 at *;have hle:I+(ns.length - (I+1))=ns.length - 1:=by omega
 rw [hle]
 iterate 1 (refine Zf ?_ (by kernel_rfl) (fun _=>id) Z9 ?_ ?_;rotate_left;· intro w9 ZQ;clear ZQ;go_simp;try with_reducible rfl)
 refine ZR (by kernel_rfl) ?_ _
 simp only [Act.put,WV,WU,WT]
 clear Z9;obtain ⟨L,hL⟩:∃L,ns.length=L+1:=⟨ns.length - 1,by omega⟩;have ol:=ZU hL;rw [hL] at hn hnc ZG xk M ⊢;have hL1:(L+1 - 1)=L:=by omega
 rw [hL1] at xk ⊢;have h02:(0:Int)≤(L:Int):=by omega
 have YL:(L:Int)≤(L:Int)+1:=by omega
 have YK:¬c=L:=by omega
 have ZF:Hid ((YE (ns.take I)++YE (ns.drop (I+1))).length=L*7):=by show _=_;rw [ZZ,Ow.out,M.out];omega
 have hcl:=Du (P:=Tryz.prog) (w:=w2) 61 0 147 i0 _ Tryz.underlying61 hi hz0 g (L*7) 1 (c - L) (by omega) _ 147 xk _ kC ?h4 (Pr _)
 case h4 =>
  have:=HX.out;rw [ZI,ZZ,ZF.out,ZS];show L*7+7≤_;omega
 clear hL hL1;have HR3:Hid (∀R:List Value,List.take (L*7) (YE (ns.take I)++(YE (ns.drop (I+1))++R))=YE (ns.eraseIdx I)):=fun R=>by
  rw [←ZO,←ZF.out,W8,←Wd,Vs]
 have ZD:Hid ((ns.eraseIdx I).length=L):=by show _=_;rw [List.length_eraseIdx,Z0 hI,ol.out];omega
 have HG2:=ZU xk;clear xk
 go_wp2_with (at_builtin;go_must (refine JT _ rfl _ _ rfl _ _ hcl ?_))
 refine ZW (v:=.slice (some ⟨g,0,none⟩) L c) (by simp [results,Tryz.results255,go_sem]) rfl ⟨by rw [ZD.out],?_,fun b=>(T1.out b).row⟩;refine XU.gA (X:=Uu nd0++List.drop (L*7+(Uu nd0).length) (YE (ns.take I)++(YE (ns.drop (I+1))++List.drop (L*7) (YE ns++X)))) hlo (by rw [ZD.out];omega) hcm ?_ ?_
 · rw [←HR3.out]
   exact WB w2 g _ _ _ _ HG2.out
 have:=HX.out;have h9:=ZF.out;rw [ZZ] at this h9;rw [ZZ,Xw,ZD.out,ZZ,ZS,ZZ,ZZ,ZS,ZZ,show (Uu nd0).length=7 from rfl];omega
theorem xj (h:Asc ns) (hl:ns.findIdx (U9 p)<ns.length):NI ns p=ns.eraseIdx (ns.findIdx (U9 p)):=by
 obtain ⟨h1,h2⟩:=Py h hl;have e:=DE [] ns p (fun a ha=>by simp at ha) h;rw [Zd,Zd] at e;rw [e,Vs,h2];unfold Ix;rw [h1,Z0 rfl]
theorem xh (ns:List Nd) (p:ByteArray):(0<(iE ns p).length)↔ns.any (fun m=>GM m.path p)=true:=by
 unfold iE;rw [List.length_pos_iff_exists_mem,Td]
 constructor
 · rintro ⟨a,ha⟩
   obtain ⟨h1,h2⟩:=List.mem_filter.1 ha;exact ⟨a,h1,h2⟩
 rintro ⟨a,h1,h2⟩;exact ⟨a,List.mem_filter.2 ⟨h1,h2⟩⟩
theorem xd (hw:OO o=true) (hk:o.kind=2) (hs:Asc ns) (hv:SS ns o=#[.int .i64 (I:Int),.nilIface]):I<ns.length∧(ns.any (fun m=>GM m.path o.path)=true→Ry ns o z=(5,ns,⟨#[]⟩))∧(ns.any (fun m=>GM m.path o.path)=false→NI ns o.path=ns.eraseIdx I∧Ry ns o z=(0,toN (ns.eraseIdx I) (UZ o.path) z,o.path)):=by
 unfold SS at hv;unfold Ry;rw [hw,Z1 (by simp),Z1 (by omega)]
 split at hv
 · simp [Ss] at hv
 rename_i h1;rw [Z1 h1]
 split at hv
 · simp [Ss] at hv
 rename_i h2;rw [Z1 h2,Z0 hk];have hI:ns.findIdx (U9 o.path)=I:=by simp at hv;omega
 have hl:ns.findIdx (U9 o.path)<ns.length:=by omega
 refine ⟨by omega,fun ha=>?_,fun ha=>?_⟩
 · rw [Z0 ((xh ns o.path).2 ha)]
 have e:=xj hs hl;rw [hI] at e;rw [Z1 (fun h=>by have:=(xh ns o.path).1 h;rw [ha] at this;cases this),e];exact ⟨rfl,rfl⟩
theorem Jf (w:World) (D lo:Nat) (z:Int) (v:Value) (ns:List Nd) (s:ByteArray) (h:Df w D lo z v ns) (hs:Xi s=true) (hz:PR z=true) :
    Calls Tryz.prog 251 #[.pointer (some ⟨D,0,none⟩),.string s] w (In w D lo z v ns (UZ s)):=by
 by_cases hl:ns.findIdx (U9 (UZ s))<ns.length
 · exact Dw w D lo z v ns s h hs hz hl
 refine (Dx w D lo z v ns s h hs hl).mono ?_;rintro e w' ⟨rfl,b⟩;refine ⟨rfl,?_,Tw.YZ b _ _⟩;rw [rY hl];exact h.below b
theorem Im (w:World) (D lo:Nat) (z:Int) (v:Value) (ns:List Nd) (o:TK) (h:Df w D lo z v ns) (hw:OO o=true) (hk:o.kind=2) (hz:PR z=true) :
    Calls Tryz.prog 230 #[.pointer (some ⟨D,0,none⟩),.agg #[.int .i64 o.kind,.string o.path,.string o.data,.int .i64 o.XT,.bool o.seq]] w (JP w D lo z v (Ry ns o z)):=by
 have B0:Hid (Zi w (w.alloc (.cells #[.int .i64 o.kind,.string o.path,.string o.data,.int .i64 o.XT,.bool o.seq] 159))):=Yy.alloc YR _;have XO:Hid (St (w.alloc (.cells #[.int .i64 o.kind,.string o.path,.string o.data,.int .i64 o.XT,.bool o.seq] 159)) w.heap.size [.int .i64 o.kind,.string o.path,.string o.data,.int .i64 o.XT,.bool o.seq]):=St.new _ _ _;have XD:=ZU (h.below B0.out);have hlt:=h.s.lt;have NR:Hid (∀q,v.ownBlock=some q→lo≤q∧q<w.heap.size):=ZT h.o;have C:=ZU (FT hw).1;have HZ:=ZU hz;have HW:Hid (∀W,Zi w W→Calls Tryz.prog 252 #[.pointer (some ⟨D,0,none⟩),.agg #[.int .i64 o.kind,.string o.path,.string o.data,.int .i64 o.XT,.bool o.seq]] W (Wj W (.tuple (SS ns o)))):=fun W hW=>Oh W D lo z v ns o (h.below hW)
 have HV:Hid ((∃c:Int,c≠0∧SS ns o=#[.int .i64 0,Ss c])∨∃I:Nat,SS ns o=#[.int .i64 (I:Int),.nilIface]):=by
  unfold SS
  split
  · exact .inl ⟨2,by omega,rfl⟩
  split
  · exact .inl ⟨4,by omega,rfl⟩
  exact .inr ⟨_,rfl⟩
 have HB:Hid (∀c:Int,c≠0→SS ns o=#[.int .i64 0,Ss c]→Ry ns o z=(c,ns,⟨#[]⟩)):=fun c hc hv=>Bz hw (.inr hk) hc hv
 have HG:Hid (∀I:Nat,SS ns o=#[.int .i64 (I:Int),.nilIface]→I<ns.length∧(ns.any (fun m=>GM m.path o.path)=true→Ry ns o z=(5,ns,⟨#[]⟩))∧(ns.any (fun m=>GM m.path o.path)=false→NI ns o.path=ns.eraseIdx I∧Ry ns o z=(0,toN (ns.eraseIdx I) (UZ o.path) z,o.path))):=fun I hv=>xd hw hk h.n.1 hv
 clear h hw hk hz
 go_enter Tryz.func230,Tryz.ntmps230
 go_wp2_with fail
 generalize w.alloc _=w0 at *;refine (HW.out _ B0.out).mono ?_;rintro e w1 ⟨rfl,b1⟩;have B1:=ZU (WD B0.out b1);have X1:=ZU (XO.out.below b1);have D1:=ZU (XD.out.below b1);clear b1 B0 XO HW XD
 rcases HV.out with ⟨c,hc,e1⟩ | ⟨I,e1⟩
 · have HE:=ZU (HB.out c hc e1)
   rw [e1];clear e1 HV HB HG;unfold Ss
   go_wp2_with fail
   rw [HE.out];refine ZW (v:=.tuple #[.string ByteArray.empty,Ss c]) (by simp [results,Tryz.results230,go_sem,Ss];try rfl) rfl ⟨v,?_,D1.out,Tw.YZ B1.out _ _⟩;unfold JV;rw [Z1 hc]
 obtain ⟨hl,e2⟩:=HG.out I e1;have HE:=ZU e2;rw [e1];clear e1 e2 HV HB HG;have hL:(I:Int)<(ns.length:Int):=by omega
 have hg0:(0:Int)≤(I:Int):=by omega
 obtain ⟨g,gc,hv,hlo,hgl,hce⟩:=D1.out.o.at hl;subst hv;have c0:=D1.out.s.cl 0 _ rfl;have lM:=ZU (xm w1 g ns.length gc w.heap.size ns o.path rfl D1.out.n.2.2 hgl hce (fun m hm=>AH (D1.out.n.2.1 m hm)) X1.out.lt (X1.out.cl 1 _ rfl));clear hce
 go_wp2_with fail
 refine lM.out.mono ?_;rintro e w2 ⟨rfl,b2⟩;have B2:=ZU (WD B1.out b2);have X2:=ZU (X1.out.below b2);have D2:=ZU (D1.out.below b2);clear b2 lM B1 X1 D1 c0
 cases E:ns.any (fun m=>GM m.path o.path) with
 | true =>
  have HE2:=ZU (HE.out.1 E);clear E HE
  go_wp2_with fail
  rw [HE2.out];exact ZW (v:=.tuple #[.string ByteArray.empty,Ss 5]) (by simp [results,Tryz.results230,go_sem,Ss];try rfl) rfl ⟨_,rfl,D2.out,Tw.YZ B2.out _ _⟩
 | false =>
  have HE2:=ZU (HE.out.2 E);clear E HE;have c0:=D2.out.s.cl 0 _ rfl;have OM:=ZU (Dt w2 lo g gc ns I D2.out.o hl D2.out.n.2.2);have O:g≠D:=fun e=>D2.out.ne (by rw [e];rfl)
  have hgw:g<w.heap.size:=(NR.out g rfl).2;have hw1:IntKind.i64.wrap ((I:Int)+1)=(I:Int)+1:=by have:=D2.out.n.2.2;rw [Zq];omega
  go_wp2_with fail
  refine OM.out.mono ?_;rintro e w3 ⟨rfl,o3,t3⟩;have S3:=ZU ((t3 g).st D2.out.s O.symm (fun e=>O (Zc e)));have X3:=ZU ((t3 g).st X2.out (by omega) (fun e=>by have:=Zc e;omega));have O3:=ZU o3;have T3:=ZU ((Tw.YZ B2.out D (some g)).trans (t3 D));clear o3 t3 c0 OM;have c3:=S3.out.cl 0 _ rfl;have f3:=S3.out.fz 0;have x3:=X3.out.cl 1 _ rfl;have i6:¬w.heap.size=D:=by omega
  have wZ:Hid (∀W,W=w3.setCell ⟨D,0,none⟩ (.slice (some ⟨g,0,none⟩) (ns.eraseIdx I).length gc)→Calls Tryz.prog 251 #[.pointer (some ⟨D,0,none⟩),.string o.path] W (In W D lo z (.slice (some ⟨g,0,none⟩) (ns.eraseIdx I).length gc) (ns.eraseIdx I) (UZ o.path))):=by
   intro W hW;subst hW;refine Jf _ D lo z _ _ o.path ⟨?_,O3.out.lq (fun e=>O (Zc e)) _,fun e=>O (Zc e),?_⟩ C.out HZ.out
   · exact S3.out.set 0 _
   rw [←HE2.out.1];exact D2.out.n.wo o.path
  go_wp2_with (go_at_call 251;refine (wZ.out _ rfl).mono ?_)
  rintro e w5 ⟨rfl,d5,t5⟩;have D5:=ZU d5;have T5:=ZU ((T3.out.set (j:=0) (x:=.slice (some ⟨g,0,none⟩) (ns.eraseIdx I).length gc)).trans t5);have x5:=(t5.st (X3.out.other (c:=D) (j:=0) (x:=.slice (some ⟨g,0,none⟩) (ns.eraseIdx I).length gc) i6) i6 (fun e=>by have:g=w.heap.size:=Zc e;omega)).cl 1 _ rfl;clear d5 t5 wZ
  go_wp2_with fail
  rw [HE2.out.2];exact ZW (v:=.tuple #[.string o.path,.nilIface]) (by simp [results,Tryz.results230,go_sem]) rfl ⟨_,rfl,D5.out,T5.out⟩
def rW (w:World) (lo g:Nat) (R:List Nd) (e:Ending) (w':World):Prop :=
 ∃g' c',e=.returned (.slice (some ⟨g',0,none⟩) R.length c')∧XU 147 w' lo (.slice (some ⟨g',0,none⟩) R.length c') R∧∀b,Tw w b (some g) w' (some g')
theorem Ds (w:World) (lo g c b:Nat) (ns:List Nd) (m:Nd) (h:XU 147 w lo (.slice (some ⟨g,0,none⟩) ns.length c) ns) (h0:0<ns.length) (hn:ns.length<1000) (hb:w.heap[b]?=some (.cells (Uu m).toArray 147 (0,0))) (hlo:lo≤w.heap.size) :
    Calls Tryz.prog 250 #[.slice (some ⟨g,0,none⟩) ns.length c,.int .i64 (ns.length:Int),.slice (some ⟨b,0,none⟩) 1 1] w (rW w lo g (ns++[m])):=by
 obtain ⟨i0,hi,hz0,hz1,hz2⟩:=YN Tryz.Ml;obtain ⟨-,hnc,hcm,-⟩:=h.rX;have HO:=ZU h;have HB:=ZU hb;clear h hb;have h01:(0:Int)≤(ns.length:Int):=by omega
 have J:Hid (∀j u,(Uu m)[j]?=some u→w.cell? ((⟨b,0,none⟩:Addr).add j)=some u):=fun j u hu=>by
  rw [YY,Yz w b _ _ _ (0,0) HB.out,XK,Za];exact hu
 rcases Sz ns.length c with hcn | hcn
 all_goals
  go_enter Tryz.func250,Tryz.ntmps250
  go_wp2_with (at_builtin;go_must (refine wpList_append_lies _ rfl _ _ 61 rfl lo 147 i0 _ 7 72 Tryz.underlying61 hi hz0 hz1 hz2 rfl (by decide) _ _ _ rfl HO.out ⟨b,0,none⟩ 1 1 (Uu m) rfl rfl J.out (Pr m) (by omega) (by unfold maxLen;omega) (by omega) hlo w.heap.size rfl ?_))
  intro g3 l w3 ho3 hg3 hat _;have T3:Hid (∀q,Tw w q (some g) w3 (some g3)):=fun q=>⟨hg3.os,hg3.tape,hg3.output,hg3.size,fun k hk _ ho=>hg3.block k hk (fun e=>ho e.symm),by
   rcases hat with e | e
   · exact .inl e.symm
   exact .inr (.inr ⟨_,rfl,by omega⟩)⟩
  have O3:Hid (XU 147 w3 lo (.slice (some ⟨g3,0,none⟩) (ns++[m]).length l) (ns++[m])):=by
   show World.ownsRow _ _ _ _ _ _ _;rw [Wd,ZZ]
   simpa [YE] using ho3
  have HL:Hid ((ns++[m]).length=ns.length+1):=by show _=_;simp
  clear ho3 hg3 hat;go_wp2;refine ZW (v:=.slice (some ⟨g3,0,none⟩) (ns.length+1) l) (by simp [results,Tryz.results250,go_sem]) rfl ⟨g3,l,by rw [HL.out],O3.out,T3.out⟩
theorem Fm (w:World) (lo g c b:Nat) (ns:List Nd) (I:Nat) (m:Nd) (h:XU 147 w lo (.slice (some ⟨g,0,none⟩) ns.length c) ns) (hI:I<ns.length) (hn:ns.length<1000) (hc:c<ns.length+1) (hb:w.heap[b]?=some (.cells (Uu m).toArray 147 (0,0))) (hlo:lo≤w.heap.size) :
    Calls Tryz.prog 250 #[.slice (some ⟨g,0,none⟩) ns.length c,.int .i64 (I:Int),.slice (some ⟨b,0,none⟩) 1 1] w (rW w lo g (ns.take I++m :: ns.drop I)):=by
 obtain ⟨i0,hi,hz0,hz1,hz2⟩:=YN Tryz.Ml;obtain ⟨-,hnc,hcm,X,hg,hX⟩:=h.rX;have hI0:(0:Int)≤(I:Int):=by omega
 have hI2:(I:Int)≤(ns.length:Int):=by omega
 have ZG:¬(I:Int)=(ns.length:Int):=by omega
 have Y2:(c:Int)<(ns.length:Int)+1:=by omega
 have Zp:I≤c:=by omega
 have Zn:¬c=I:=by omega
 have HG:=ZU hg;have HX:=ZU hX;have HB:=ZU hb;clear h hg hX hb
 go_enter Tryz.func250,Tryz.ntmps250
 have J:Hid (∀j u,(Uu m)[j]?=some u→w.cell? ((⟨b,0,none⟩:Addr).add j)=some u):=fun j u hu=>by
  rw [YY,Yz w b _ _ _ (0,0) HB.out,XK,Za];exact hu
 have G:Hid (YE ns=YE (ns.take I)++YE (ns.drop I)):=by show _=_;rw [←Wd,YQ]
 have Ow:Hid ((YE (ns.take I)).length=I*7):=by show _=_;rw [Xw,Zw];omega
 have M:Hid ((YE (ns.drop I)).length=(ns.length - I)*7):=by show _=_;rw [Xw,ZS]
 have hr:=Nr (P:=Tryz.prog) (w:=w) 61 3 61 147 i0 _ .i64 .i64 Tryz.underlying61 Tryz.underlying3 hi hz0 g I c (ns.length+1 - I) (YE (ns.take I)) (by rw [hz1];exact Ow.out) ?h1 (by omega) (by omega) (by omega) (by omega) (by omega)
 case h1 =>
  intro j u hu;rw [YY,Yz w g _ _ _ (0,0) HG.out,XK,G.out,ZO,Za,Zy (Zh.1 hu).1];exact hu
 rw [show I+(ns.length+1 - I)=ns.length+1 by omega,show ((ns.length+1 - I:Nat):Int)=((ns.length:Int)+1 - (I:Int)) by omega] at hr;have hge:=Tq w (ns.length+1) c 147;have hgm:=We w (ns.length+1) c 147 (by unfold maxLen;omega);generalize grownCap w (ns.length+1) c 147=cap2 at *;obtain ⟨Z,hZ⟩:∃Z:List Value,Z=(Builtin.zeroCells (Value.agg #[.string ByteArray.empty,.string ByteArray.empty,.int .i64 0,.int .i64 0,.int .i64 0,.int .i64 0,.int .i64 0]).cells (ns.length+1 - I)).toList++(Builtin.zeroCells (Value.agg #[.string ByteArray.empty,.string ByteArray.empty,.int .i64 0,.int .i64 0,.int .i64 0,.int .i64 0,.int .i64 0]).cells (cap2 - (ns.length+1))).toList:=⟨_,rfl⟩;have Zl:Hid (Z.length=(cap2 - I)*7):=by
  show _=_;rw [hZ]
  simp only [ZZ,YJ,TO]
  show (ns.length+1 - I)*7+(cap2 - (ns.length+1))*7=_;omega
 obtain ⟨w2,hw2⟩:∃w2,w2=w.drew.alloc (.cells ((YE (ns.take I)).toArray++Builtin.zeroCells (Value.agg #[.string ByteArray.empty,.string ByteArray.empty,.int .i64 0,.int .i64 0,.int .i64 0,.int .i64 0,.int .i64 0]).cells (ns.length+1 - I)++Builtin.zeroCells (Value.agg #[.string ByteArray.empty,.string ByteArray.empty,.int .i64 0,.int .i64 0,.int .i64 0,.int .i64 0,.int .i64 0]).cells (cap2 - (ns.length+1))) 147):=⟨_,rfl⟩;rw [←hw2] at hr;have HG2:Hid (w2.heap[w.heap.size]?=some (.cells (YE (ns.take I)++Z).toArray 147 (0,0))):=by
  show _=_;rw [hw2,hZ];refine (Zs w.drew _).trans ?_
  congr 2
  apply UW
  simp
 have B2:Hid (Zi w w2):=by rw [hw2];exact (below_drewN' w 1).alloc YR _
 clear hw2 hZ;have hcI:¬cap2=I:=by omega
 have hmin:Nat.min 1 (ns.length+1 - I)=1:=YC (by omega);have hbl:b<w.heap.size:=(Z3.1 HB.out).1;have hgl:g<w.heap.size:=(Z3.1 HG.out).1;have hr2:=OV (P:=Tryz.prog) (w:=w2) 61 61 3 147 i0 w.heap.size (I*7) (ns.length+1 - I) (cap2 - I) ⟨b,0,none⟩ 1 1 _ 147 (Uu m) Tryz.underlying61 hi HG2.out (by rw [hmin,hz1];rfl) (fun j u hu=>by rw [B2.out.cell (p:=(⟨b,0,none⟩:Addr).add j) (by rw [YY];exact hbl)];exact J.out j u hu) (by
  rw [ZI,ZZ,Ow.out,Zl.out,show (Uu m).length=7 from rfl];omega) (Pr m)
 rw [hmin] at hr2;obtain ⟨R,hR⟩:∃R:List Value,R=(YE (ns.take I)++Z).drop (I*7+(Uu m).length):=⟨_,rfl⟩;have Z':Hid (R.length=(cap2 - (I+1))*7):=by
  show _=_;rw [hR,ZS,ZZ,Ow.out,Zl.out,show (Uu m).length=7 from rfl];omega
 have PP:(List.take (I*7) (YE (List.take I ns)++Z).toArray.toList++Uu m++List.drop (I*7+(Uu m).length) (YE (List.take I ns)++Z).toArray.toList)=YE (ns.take I)++Uu m++R:=by
  rw [hR]
  congr 2
  show List.take (I*7) (YE (ns.take I)++Z)=_;rw [←Ow.out,W8]
 rw [PP] at hr2;have oh:=ZU (WB w2 w.heap.size _ (YE (ns.take I)++Uu m++R).toArray 147 (0,0) HG2.out);have B3:Hid (Zi w (w2.setRow w.heap.size (YE (ns.take I)++Uu m++R).toArray)):=Ox B2.out YR _;clear PP hR;generalize w2.setRow w.heap.size _=w3 at *
 go_wp2_with (first | (at_builtin;go_must (refine Lib.wpList_append_run _ rfl _ _ _ _ rfl _ _ rfl rfl _ _ hr ?_)) | (at_builtin;go_must (refine Nq rfl _ _ _ _ rfl _ _ rfl rfl _ _ hr2 ?_)))
 have YU:¬cap2=I+1:=by omega
 have hA1:(0:Int)≤(I:Int)+1:=by omega
 have hA2:(I:Int)+1≤(ns.length:Int)+1:=by omega
 have D3:Hid (Zi w w3.drew):=B3.out.trans ((below_drewN' w3 1).mono B3.out.size);have qm:Hid (w3.drew.heap[w.heap.size]?=some (.cells (YE (ns.take I)++Uu m++R).toArray 147 (0,0))):=oh.out;clear hr hr2;refine ZX (S:=fun W=>True) (by kernel_rfl) trivial (fun Z9=>?_);generalize w3.drew=w4 at *;have Ai:IntKind.i64.wrap ((I:Int)+1)=(I:Int)+1:=by rw [Zq];omega
 iterate 3 (refine Zf ?_ (by kernel_rfl) (fun _=>id) Z9 ?_ ?_;rotate_left;· intro w9 ZQ;clear ZQ;go_simp;try with_reducible rfl)
 refine Zf (.int .i64 ((I:Int)+1)) (by kernel_rfl) (fun _=>id) Z9 ?_ ?_
 · intro w9 ZQ;clear ZQ;go_simp;try rw [Ai]
 refine Zf (.slice (some ⟨w.heap.size,(I+1)*7,none⟩) (ns.length - I) (cap2 - (I+1))) (by kernel_rfl) (fun _=>id) Z9 ?_ ?_
 · intro w9 ZQ;clear ZQ;go_simp
 iterate 3 (refine Zf ?_ (by kernel_rfl) (fun _=>id) Z9 ?_ ?_;rotate_left;· intro w9 ZQ;clear ZQ;go_simp;try with_reducible rfl)
 refine YS 8 rfl (by kernel_rfl) (fun K hK=>?_);rw [Z0 (by kernel_rfl)];have Mf:Nat.min (ns.length - I) (ns.length - I)=ns.length - I:=Nat.min_self _;have hr3:=OV (P:=Tryz.prog) (w:=w4) 61 61 3 147 i0 w.heap.size ((I+1)*7) (ns.length - I) (cap2 - (I+1)) ⟨g,I*7,none⟩ (ns.length - I) (c - I) _ 147 (YE (ns.drop I)) Tryz.underlying61 hi qm.out (by rw [Mf,hz1];exact M.out) (fun j u hu=>by
  rw [D3.out.cell (p:=(⟨g,I*7,none⟩:Addr).add j) (by rw [YY];exact hgl),YY,Yz w g _ _ _ (0,0) HG.out,XK,G.out,ZO,Zv (by rw [Ow.out];omega),Ow.out,show I*7+j - I*7=j by omega,Zy (Zh.1 hu).1];exact hu) (by
  rw [M.out,ZI,ZZ,ZZ,Ow.out,Z'.out,show (Uu m).length=7 from rfl];omega) (OU _)
 rw [Mf] at hr3;refine KY (.tmp 50) (.tmp 53) _ _ (by kernel_rfl) _ _ (by kernel_rfl) (by kernel_rfl) _ _ hr3 ?_;refine hK.out _ _ trivial (fun Z9=>?_);clear hK K hr3;have Zk:Hid ((YE (ns.take I)++Uu m).length=(I+1)*7):=by show _=_;rw [ZZ,Ow.out,show (Uu m).length=7 from rfl];omega
 have yt:Hid (∀Y:List Value,List.take ((I+1)*7) (YE (ns.take I)++Uu m++R).toArray.toList++YE (ns.drop I)++Y=YE (ns.take I++m :: ns.drop I)++Y):=fun Y=>by
  show List.take ((I+1)*7) (YE (ns.take I)++Uu m++R)++YE (ns.drop I)++Y=_;rw [←Zk.out,W8,Wd,Ut]
  simp only [ZO]
 have Zj:=ZU (WB w4 w.heap.size _ (List.take ((I+1)*7) (YE (ns.take I)++Uu m++R).toArray.toList++YE (ns.drop I)++List.drop ((I+1)*7+(YE (ns.drop I)).length) (YE (ns.take I)++Uu m++R).toArray.toList).toArray 147 (0,0) qm.out);have B5:Hid (Zi w (w4.setRow w.heap.size (List.take ((I+1)*7) (YE (ns.take I)++Uu m++R).toArray.toList++YE (ns.drop I)++List.drop ((I+1)*7+(YE (ns.drop I)).length) (YE (ns.take I)++Uu m++R).toArray.toList).toArray)):=Ox D3.out YR _;generalize w4.setRow w.heap.size _=w5 at *;rw [yt.out] at Zj;refine ZR (by kernel_rfl) ?_ _
 simp only [Act.put,WV,WU,WT]
 clear Z9 yt;have Dr:Hid ((ns.take I++m :: ns.drop I).length=ns.length+1):=by show _=_;simp only [ZZ,Zw,ZE,ZS];omega
 go_wp2;refine ZW (v:=.slice (some ⟨w.heap.size,0,none⟩) (ns.length+1) cap2) (by simp [results,Tryz.results250,go_sem]) rfl ⟨w.heap.size,cap2,by rw [Dr.out],?_,fun q=>⟨B5.out.os,B5.out.tape,B5.out.output,B5.out.size,fun k hk _ _=>B5.out.block k hk,.inr (.inr ⟨_,rfl,YR⟩)⟩⟩;refine XU.gA hlo (by rw [Dr.out];exact hge) hgm Zj.out ?_;rw [ZZ,Xw,Dr.out,ZS,M.out];show (ns.length+1)*7+((YE (ns.take I)++Uu m++R).length - _)=_;rw [ZZ,Zk.out,Z'.out];omega
theorem Fl (w:World) (lo g c b:Nat) (ns:List Nd) (I:Nat) (m:Nd) (h:XU 147 w lo (.slice (some ⟨g,0,none⟩) ns.length c) ns) (hI:I<ns.length) (hn:ns.length<1000) (hc:ns.length+1≤c) (hbg:b≠g) (hb:w.heap[b]?=some (.cells (Uu m).toArray 147 (0,0))) :
    Calls Tryz.prog 250 #[.slice (some ⟨g,0,none⟩) ns.length c,.int .i64 (I:Int),.slice (some ⟨b,0,none⟩) 1 1] w (rW w lo g (ns.take I++m :: ns.drop I)):=by
 obtain ⟨i0,hi,hz0,hz1,hz2⟩:=YN Tryz.Ml;obtain ⟨lL,hnc,hcm,X,hg,hX⟩:=h.rX;have hI0:(0:Int)≤(I:Int):=by omega
 have hI2:(I:Int)≤(ns.length:Int):=by omega
 have ZG:¬(I:Int)=(ns.length:Int):=by omega
 have Y2:¬(c:Int)<(ns.length:Int)+1:=by omega
 have YI:(ns.length:Int)+1≤(c:Int):=by omega
 have YH:(0:Int)≤(ns.length:Int)+1:=by omega
 have Zp:I≤c:=by omega
 have Zn:¬c=I:=by omega
 have YT:¬c=I+1:=by omega
 have hA1:(0:Int)≤(I:Int)+1:=by omega
 have hA2:(I:Int)+1≤(ns.length:Int)+1:=by omega
 have hA3:¬(ns.length:Int)+1<(I:Int):=by omega
 have HG:=ZU hg;have HX:=ZU hX;have HB:=ZU hb;clear h hg hX hb;have J:Hid (∀j u,(Uu m)[j]?=some u→w.cell? ((⟨b,0,none⟩:Addr).add j)=some u):=fun j u hu=>by
  rw [YY,Yz w b _ _ _ (0,0) HB.out,XK,Za];exact hu
 have G:Hid (YE ns=YE (ns.take I)++YE (ns.drop I)):=by show _=_;rw [←Wd,YQ]
 have Ow:Hid ((YE (ns.take I)).length=I*7):=by show _=_;rw [Xw,Zw];omega
 have M:Hid ((YE (ns.drop I)).length=(ns.length - I)*7):=by show _=_;rw [Xw,ZS]
 have Zg:∀w,(Go.sizeOf 147).run Tryz.prog w=.ok 7 w:=fun w=>by simp [Go.sizeOf,typeInfo,hi,hz1]
 have hov:∀lb cb,(callFunc 267 #[.slice (some ⟨b,0,none⟩) 1 1,.slice (some ⟨g,(I+1)*7,none⟩) lb cb]).run Tryz.prog w=.ok (.value (.bool false)) w:=fun lb cb=>by
  rw [Un Tryz.func267 (by kernel_rfl) (by kernel_rfl) (by kernel_rfl) (e:=Extern.SlicesOverlaps.overlaps #[61,61] #[4]) (by kernel_rfl),
   Lib.run_overlaps_apart w 61 4 147 Tryz.underlying61 7 Zg ⟨b,0,none⟩ ⟨g,(I+1)*7,none⟩ 1 1 lb cb hbg 147 147 7 (c*7) (by simp [World.shape?,HB.out];rfl) (by have:=HX.out;simp [World.shape?,HG.out];simpa using this) (by omega) (frozen_of_row w b _ _ _ HB.out) (frozen_of_row w b _ _ _ HB.out)]
  rfl
 go_enter Tryz.func250,Tryz.ntmps250
 go_wp2_with fail
 clear hov;have D1:Hid (Zi w w.drew):=below_drewN' w 1;have hgl:g<w.heap.size:=(Z3.1 HG.out).1;have hbl:b<w.heap.size:=(Z3.1 HB.out).1;have xk:Hid (w.drew.heap[g]?=some (.cells (YE ns++X).toArray 147 (0,0))):=HG.out;refine ZX (S:=fun W=>True) (by kernel_rfl) trivial (fun Z9=>?_);generalize w.drew=w1 at *;have Ai:IntKind.i64.wrap ((I:Int)+1)=(I:Int)+1:=by rw [Zq];omega
 iterate 3 (refine Zf ?_ (by kernel_rfl) (fun _=>id) Z9 ?_ ?_;rotate_left;· intro w9 ZQ;clear ZQ;go_simp;try with_reducible rfl)
 refine Zf (.int .i64 ((I:Int)+1)) (by kernel_rfl) (fun _=>id) Z9 ?_ ?_
 · intro w9 ZQ;clear ZQ;go_simp;try rw [Ai]
 refine Zf (.slice (some ⟨g,(I+1)*7,none⟩) (ns.length - I) (c - (I+1))) (by kernel_rfl) (fun _=>id) Z9 ?_ ?_
 · intro w9 ZQ;clear ZQ;go_simp
 iterate 2 (refine Zf ?_ (by kernel_rfl) (fun _=>id) Z9 ?_ ?_;rotate_left;· intro w9 ZQ;clear ZQ;go_simp;try with_reducible rfl)
 refine Zf (.slice (some ⟨g,I*7,none⟩) (ns.length+1 - I) (c - I)) (by kernel_rfl) (fun _=>id) Z9 ?_ ?_
 · intro w9 ZQ;clear ZQ;go_simp
 refine YS 8 rfl (by kernel_rfl) (fun K hK=>?_);rw [Z0 (by kernel_rfl)];have Mf:Nat.min (ns.length+1 - I) (ns.length - I)=ns.length - I:=Nat.min_eq_right (by omega);obtain ⟨R,hR⟩:∃R:List Value,R=(YE ns++X).drop ((ns.length+1)*7):=⟨_,rfl⟩;have Z':Hid (R.length=(c - (ns.length+1))*7):=by
  show _=_;have:=HX.out;rw [hR,ZS];omega
 have hr1:=OV (P:=Tryz.prog) (w:=w1) 61 61 3 147 i0 g ((I+1)*7) (ns.length - I) (c - (I+1)) ⟨g,I*7,none⟩ (ns.length+1 - I) (c - I) _ 147 (YE (ns.drop I)) Tryz.underlying61 hi xk.out (by rw [Mf,hz1];exact M.out) (fun j u hu=>by
  rw [YY,Yz w1 g _ _ _ (0,0) xk.out,XK,G.out,ZO,Zv (by rw [Ow.out];omega),Ow.out,show I*7+j - I*7=j by omega,Zy (Zh.1 hu).1];exact hu) (by
  have:=HX.out;rw [M.out,ZI];omega) (OU _)
 rw [Mf] at hr1;obtain ⟨Q7,ZB⟩:∃Q7:List Value,(YE ns++X).take ((I+1)*7)=YE (ns.take I)++Q7∧Q7.length=7:=by
  refine ⟨((YE ns++X).take ((I+1)*7)).drop (I*7),?_,?_⟩
  · have e:YE (ns.take I)=((YE ns++X).take ((I+1)*7)).take (I*7):=by
     rw [U6,YC (by omega),G.out,ZO,←Ow.out,W8]
    conv=>rhs;rw [e]
    exact (YQ _ _).symm
  have:=HX.out;rw [ZS,Zw];omega
 have PP:List.take ((I+1)*7) (YE ns++X).toArray.toList++YE (List.drop I ns)++List.drop ((I+1)*7+(YE (List.drop I ns)).length) (YE ns++X).toArray.toList=YE (ns.take I)++Q7++YE (ns.drop I)++R:=by
  rw [hR,M.out,show (I+1)*7+(ns.length - I)*7=(ns.length+1)*7 by omega];show List.take ((I+1)*7) (YE ns++X)++_++_=_;rw [ZB.1]
 rw [PP] at hr1;refine KY (.tmp 73) (.tmp 76) _ _ (by kernel_rfl) _ _ (by kernel_rfl) (by kernel_rfl) _ _ hr1 ?_;refine hK.out _ _ trivial (fun Z9=>?_);clear hK K hr1 PP hR;have HQ:=ZU ZB.2;clear ZB;have HG2:=ZU (WB w1 g _ (YE (ns.take I)++Q7++YE (ns.drop I)++R).toArray 147 (0,0) xk.out);have T2:Hid (∀q,Tw w q (some g) (w1.setRow g (YE (ns.take I)++Q7++YE (ns.drop I)++R).toArray) (some g)):=fun q=>(Tw.YZ D1.out q (some g)).row
 generalize w1.setRow g _=w2 at *;refine ZR (by kernel_rfl) ?_ _
 simp only [Act.put,WV,WU,WT]
 clear Z9;have hmin:Nat.min 1 (ns.length+1 - I)=1:=YC (by omega);have hr2:=OV (P:=Tryz.prog) (w:=w2) 61 61 3 147 i0 g (I*7) (ns.length+1 - I) (c - I) ⟨b,0,none⟩ 1 1 _ 147 (Uu m) Tryz.underlying61 hi HG2.out (by rw [hmin,hz1];rfl) (fun j u hu=>by
  refine (ZP (w:=w) (a:=(⟨b,0,none⟩:Addr).add j) ?_).trans (J.out j u hu);rw [YY];exact (T2.out g).block b hbl hbg (fun e=>hbg (Zc e).symm)) (by
  rw [ZI,ZZ,ZZ,ZZ,Ow.out,HQ.out,M.out,Z'.out,show (Uu m).length=7 from rfl];omega) (Pr m)
 rw [hmin] at hr2;have PP:List.take (I*7) (YE (ns.take I)++Q7++YE (ns.drop I)++R).toArray.toList++Uu m++List.drop (I*7+(Uu m).length) (YE (ns.take I)++Q7++YE (ns.drop I)++R).toArray.toList=YE (ns.take I++m :: ns.drop I)++R:=by
  show List.take (I*7) (YE (ns.take I)++Q7++YE (ns.drop I)++R)++Uu m++List.drop (I*7+7) (YE (ns.take I)++Q7++YE (ns.drop I)++R)=_;have hD:List.drop (I*7+7) (YE (ns.take I)++Q7)=[]:=XS (by rw [ZZ,Ow.out,HQ.out];omega);have hT:List.take (I*7) (YE (ns.take I)++(Q7++(YE (ns.drop I)++R)))=YE (ns.take I):=by rw [←Ow.out,W8]
  rw [Wd,Ut,ZO (YE (ns.take I)++Q7),List.drop_append_of_le_length (by rw [ZZ,Ow.out,HQ.out];omega),hD,ZO (YE (ns.take I)),hT]
  simp only [ZO,Zd]
 rw [PP] at hr2;have oh:=ZU (WB w2 g _ (YE (ns.take I++m :: ns.drop I)++R).toArray 147 (0,0) HG2.out);have T3:Hid (∀q,Tw w q (some g) (w2.setRow g (YE (ns.take I++m :: ns.drop I)++R).toArray) (some g)):=fun q=>(T2.out q).row
 clear PP;generalize w2.setRow g _=w3 at *;have Dr:Hid ((ns.take I++m :: ns.drop I).length=ns.length+1):=by show _=_;simp only [ZZ,Zw,ZE,ZS];omega
 go_wp2_with (at_builtin;go_must (refine Nq rfl _ _ _ _ rfl _ _ rfl rfl _ _ hr2 ?_))
 refine ZW (v:=.slice (some ⟨g,0,none⟩) (ns.length+1) c) (by simp [results,Tryz.results250,go_sem]) rfl ⟨g,c,by rw [Dr.out],?_,T3.out⟩;refine XU.gA lL (by rw [Dr.out];exact hc) hcm oh.out ?_;rw [ZZ,Xw,Dr.out,Z'.out];omega
theorem Dq (w:World) (lo g c b:Nat) (ns:List Nd) (I:Nat) (m:Nd) (h:XU 147 w lo (.slice (some ⟨g,0,none⟩) ns.length c) ns) (h0:0<ns.length) (hI:I≤ns.length) (hn:ns.length<1000) (hbg:b≠g) (hb:w.heap[b]?=some (.cells (Uu m).toArray 147 (0,0))) (hlo:lo≤w.heap.size) :
    Calls Tryz.prog 250 #[.slice (some ⟨g,0,none⟩) ns.length c,.int .i64 (I:Int),.slice (some ⟨b,0,none⟩) 1 1] w (rW w lo g (ns.take I++m :: ns.drop I)):=by
 by_cases hE:I=ns.length
 · subst hE
   rw [Xp,List.drop_length];exact Ds w lo g c b ns m h h0 hn hb hlo
 rcases Sz c (ns.length+1) with hc | hc
 · exact Fm w lo g c b ns I m h (by omega) hn hc hb hlo
 exact Fl w lo g c b ns I m h (by omega) hn hc hbg hb
theorem Dp {H L H' L':List UInt8} (h:H++47 :: L=H'++47 :: L') (h1:(47:UInt8) ∉ L) (h2:(47:UInt8) ∉ L'):H=H':=by
 rcases List.append_eq_append_iff.1 h with ⟨zs,e1,e2⟩ | ⟨zs,e1,e2⟩
 · cases zs with
   | nil=>simpa using e1.symm
   | cons x zs =>
    simp only [Y3,SG] at e2
    exact absurd (by rw [e2.2];simp) h1
 cases zs with
 | nil=>simpa using e1
 | cons x zs =>
  simp only [Y3,SG] at e2
  exact absurd (by rw [e2.2];simp) h2
theorem wY:∀f v d,(47:UInt8) ∉ six f v d
 | 0,_,_=>by simp [six]
 | f+1,v,d=>by
  unfold six
  split
  · simp
  intro h
  rcases Y4.1 h with h | h
  · exact wY f _ _ h
  simp only [Vk] at h
  have h9:=ZM UInt8.toNat h;have h8:(47:UInt8).toNat=47:=rfl;rw [h8,UInt8.toNat_ofNat'] at h9;have:v % 10<10:=Wg _ (by omega);omega
theorem wW (h:Xi o.path=true) (h':Xi (Uz ns o)=true):UZ (Uz ns o)=UZ o.path:=by
 unfold Uz at *
 split
 · rename_i hs
   rw [Z0 hs] at h';obtain ⟨a1,a0⟩:=PE h;obtain ⟨b1,b0⟩:=PE h';have ea:=Oj a1 a0;have eb:=Oj b1 b0;have hno:=wY 12 (Ye ns (ns.findIdx (U9 (UZ o.path)))).XQ.toNat 6;generalize six 12 (Ye ns (ns.findIdx (U9 (UZ o.path)))).XQ.toNat 6=d6 at *;have e:Qq ⟨(o.path.data.toList++d6).toArray⟩=Qq o.path:=by
    refine Dp (L:=Lq ⟨(o.path.data.toList++d6).toArray⟩) (L':=Lq o.path++d6) ?_ (IE _) ?_
    · rw [←eb]
      show o.path.data.toList++d6=_;rw [ea]
      simp
    intro hm
    rcases Y4.1 hm with hm | hm
    · exact IE _ hm
    exact hno hm
   unfold UZ ID;rw [e]
 rfl
theorem wV (h:Asc ns) {n:Nd} (hl:¬ns.findIdx (U9 n.path)<ns.length):LX ns n=ns.take (Ty ns n.path)++n :: ns.drop (Ty ns n.path):=by
 rw [LJ n h];have:NM ns n.path (Ty ns n.path)=false:=by
  cases hf:NM ns n.path (Ty ns n.path) with
  | false=>rfl
  | true=>exact absurd (by rw [(NG hf).1];exact (NG hf).2) hl
 unfold Ix;rw [this]
 simp
theorem Il (w:World) (D lo:Nat) (z:Int) (v:Value) (ns:List Nd) (o:TK) (h:Df w D lo z v ns) (hw:OO o=true) (hk:o.kind=1) (hz:PR z=true) (hlo:lo≤w.heap.size)
    (oe:∀W,Zi w W→∀n:Int,0≤n→n≤2147483647→Calls Tryz.prog 249 #[.int .i64 n] W (Wj W (.string ⟨(six 12 n.toNat 6).toArray⟩))) :
    Calls Tryz.prog 229 #[.pointer (some ⟨D,0,none⟩),.agg #[.int .i64 o.kind,.string o.path,.string o.data,.int .i64 o.XT,.bool o.seq]] w (JP w D lo z v (Ry ns o z)):=by
 have hlt:=h.s.lt;have NR:Hid (∀q,v.ownBlock=some q→lo≤q∧q<w.heap.size):=ZT h.o;have C:=ZU (FT hw);have HZ:=ZU hz;have lK:=ZU oe;have Z7:Hid (Ry ns o z=if ¬ns.findIdx (U9 (UZ o.path))<ns.length then (2,ns,⟨#[]⟩)
  else if !Xi (Uz ns o) then (1,ns,⟨#[]⟩)
  else if ns.findIdx (U9 (Uz ns o))<ns.length then (3,ns,⟨#[]⟩)
  else if ns.length=1000 then (6,ns,⟨#[]⟩)
  else (0,toN (LX ns ⟨Uz ns o,o.data,0,0,z,z,z⟩) (UZ o.path) z,Uz ns o)):=by
  show _=_;unfold Ry;rw [hw,Z1 (show ¬(!true)=true by decide),Z0 hk]
 obtain ⟨FD,oP⟩:∃b,b=decide (ns.findIdx (U9 (UZ o.path))<ns.length):=⟨_,rfl⟩;have HP:Hid (∀W,Calls Tryz.prog 195 #[.string o.path] W fun e w'=>e=.returned (.string (UZ o.path))∧w'=W):=fun W=>Su W _ C.out.1
 have HF:Hid (∀W,Zi w W→Calls Tryz.prog 115 #[v,.string (UZ o.path)] W (Wj W (.tuple #[.int .i64 (Ty ns (UZ o.path):Int),.bool FD]))):=fun W hW=>by
  rw [oP];exact FV W v ns _ (h.o.below hW).rd h.n
 have sK:=ZU oP;have B0:Hid (Zi w (w.alloc (.cells #[.int .i64 o.kind,.string o.path,.string o.data,.int .i64 o.XT,.bool o.seq] 159))):=Yy.alloc YR _;have XO:Hid (St (w.alloc (.cells #[.int .i64 o.kind,.string o.path,.string o.data,.int .i64 o.XT,.bool o.seq] 159)) w.heap.size [.int .i64 o.kind,.string o.path,.string o.data,.int .i64 o.XT,.bool o.seq]):=St.new _ _ _;have XD:=ZU (h.below B0.out);have Y1:Hid (∀W,Zi w W→Df W D lo z v ns):=fun W hW=>h.below hW
 clear h hw hk hz oe oP
 go_enter Tryz.func229,Tryz.ntmps229
 go_wp2_with fail
 generalize w.alloc _=w0 at *;have B1:Hid (Zi w w0.drew):=B0.out.trans ((below_drewN' w0 1).mono B0.out.size);have X1:Hid (St w0.drew w.heap.size [.int .i64 o.kind,.string o.path,.string o.data,.int .i64 o.XT,.bool o.seq]):=XO.out.below (below_drewN' w0 1);have D1:Hid (Df w0.drew D lo z v ns):=XD.out.below (below_drewN' w0 1);clear B0 XO XD;refine ZX (S:=fun W=>W.cell? ⟨D,0,none⟩=some v∧W.cell? ⟨w.heap.size,1,none⟩=some (.string o.path)) (by kernel_rfl) ⟨D1.out.s.cl 0 _ rfl,X1.out.cl 1 _ rfl⟩ (fun Z9=>?_);generalize w0.drew=w1 at *
 iterate 6 (refine Zf ?_ (by kernel_rfl) (fun _=>id) Z9 ?_ ?_;rotate_left;· intro w9 ZQ;obtain ⟨k0,k1⟩:=ZQ;go_simp;try with_reducible rfl)
 refine YS 6 rfl (by kernel_rfl) (fun K hK=>?_);go_simp;refine (HP.out _).mono ?_;rintro e w2 ⟨rfl,rfl⟩;clear Z9;refine hK.out _ _ ⟨D1.out.s.cl 0 _ rfl,X1.out.cl 1 _ rfl⟩ (fun Z9=>?_);clear hK K;refine YS 7 rfl (by kernel_rfl) (fun K hK=>?_);go_simp;refine (HF.out _ B1.out).mono ?_;rintro e w2 ⟨rfl,b2⟩;have B2:=ZU (WD B1.out b2);have D2:=ZU (D1.out.below b2);have X2:=ZU (X1.out.below b2);clear Z9 b2;refine hK.out _ _ ⟨D2.out.s.cl 0 _ rfl,X2.out.cl 1 _ rfl⟩ (fun Z9=>?_);clear hK K B1 D1 X1 HF HP
 iterate 5 (refine Zf ?_ (by kernel_rfl) (fun _=>id) Z9 ?_ ?_;rotate_left;· intro w9 ZQ;clear ZQ;go_simp;try with_reducible rfl)
 refine ZR (by kernel_rfl) ?_ _
 simp only [Act.put,WV,WU,WT]
 clear Z9
 cases FD with
 | false =>
  have hf:¬ns.findIdx (U9 (UZ o.path))<ns.length:=of_decide_eq_false sK.out.symm;have HE:=ZU (Z7.out.trans (Z0 hf));clear hf sK Z7
  go_wp2_with fail
  rw [HE.out];exact ZW (v:=.tuple #[.string ByteArray.empty,Ss 2]) (by simp [results,Tryz.results229,go_sem,Ss];try rfl) rfl ⟨_,rfl,D2.out,Tw.YZ B2.out _ _⟩
 | true =>
  have hf:ns.findIdx (U9 (UZ o.path))<ns.length:=Wm sK.out.symm;have HD2:=ZU (Z7.out.trans (Z1 (fun h=>h hf)));have hpl:=(Py D2.out.n.1 hf).2;rw [hpl];clear hpl sK Z7;obtain ⟨I,hI⟩:∃I,I=ns.findIdx (U9 (UZ o.path)):=⟨_,rfl⟩;rw [←hI] at hf ⊢;have HI:=ZU hI;clear hI;have hL:(I:Int)<(ns.length:Int):=by omega
  have hg0:(0:Int)≤(I:Int):=by omega
  obtain ⟨g,gc,hv,lL,hgl,hce⟩:=D2.out.o.at hf;subst hv;have c0:=D2.out.s.cl 0 _ rfl;have x1:=X2.out.cl 1 _ rfl;have x4:=X2.out.cl 4 _ rfl;have k3:=(hce I hf).all.2.2.2.1;have hcv:0≤(Ye ns I).XQ∧(Ye ns I).XQ≤2147483647:=by
   have:=D2.out.n.2.1 (Ye ns I) (by rw [WF hf];exact YP hf);have:=TX this;omega
  have Z6:=ZU (lK.out w2 B2.out _ hcv.1 hcv.2);have ZA:Hid (Uz ns o=if o.seq then ⟨(o.path.data.toList++six 12 (Ye ns I).XQ.toNat 6).toArray⟩ else o.path):=by show _=_;rw [HI.out];rfl
  clear hce hcv lK;have Ze:Hid (∃t6:ByteArray,t6=⟨(six 12 (Ye ns I).XQ.toNat 6).toArray⟩∧t6.size≤12∧(o.seq=true→o.path++t6=Uz ns o)):=by
   refine ⟨_,rfl,?_,fun hs=>?_⟩
   · have:=BS 12 (Ye ns I).XQ.toNat 6
     show (six 12 (Ye ns I).XQ.toNat 6).toArray.size≤12;rw [ZI];exact this
   rw [ZA.out,Z0 hs];apply WM;rw [Yd];apply UW
   simp
  obtain ⟨t6,Zb,YG,Y'⟩:=Ze.out;have hps:=(PF C.out.1);have lJ:Hid (Xi (Uz ns o)=true→UZ (Uz ns o)=UZ o.path):=fun h9=>wW C.out.1 h9
  rw [←Zb] at Z6;have rV:Hid (o.seq=false→o.path=Uz ns o):=fun hs=>by rw [ZA.out,hs];rfl
  clear Zb Ze ZA;have Of:Hid ((o.seq=true→o.path++t6=Uz ns o)∧(o.seq=false→o.path=Uz ns o)):=⟨Y',rV.out⟩;clear Y' rV;have hcc:o.path.size+t6.size≤9223372036854775807:=by omega
  have yt:Hid (∀W,Zi w W→Calls Tryz.prog 115 #[.slice (some ⟨g,0,none⟩) ns.length gc,.string (Uz ns o)] W (Wj W (.tuple #[.int .i64 (Ty ns (Uz ns o):Int),.bool (decide (ns.findIdx (U9 (Uz ns o))<ns.length))]))):=fun W hW=>FV W _ ns _ ((Y1.out W hW).o.rd) D2.out.n
  rcases Bool.eq_false_or_eq_true o.seq with F | F
  have Z5:=Of.out.1 F;rw [F] at x4
  go_wp2_with (go_at_call 249;refine Z6.out.mono ?_;rintro e w3 ⟨rfl,b3⟩)
  have B3:=ZU (WD B2.out b3);have X3:=ZU (X2.out.below b3);have D3:=ZU (D2.out.below b3);clear Z5 Of b3 B2 X2 D2 Z6 c0 x1 x4 k3 F;generalize Uz ns o=N at *
  rotate_left
  have Z5:=ZU (Of.out.2 F);rw [F] at x4
  go_wp2_with fail
  rw [Z5.out];have B3:=B2;have X3:=X2;have D3:=D2;clear Z5 Of B2 X2 D2 Z6 c0 x1 x4 k3 F;generalize Uz ns o=N at *
  all_goals
   refine (Qd _ N).mono ?_;rintro e w4 ⟨rfl,b4⟩;have B4:=ZU (WD B3.out b4);have X4:=ZU (X3.out.below b4);have D4:=ZU (D3.out.below b4);clear b4 B3 X3 D3
   cases hok:Xi N with
   | false =>
    have HE:=ZU (HD2.out.trans (Z0 (by rw [hok];rfl)));clear hok HD2
    go_wp2_with fail
    rw [HE.out];exact ZW (v:=.tuple #[.string ByteArray.empty,Ss 1]) (by simp [results,Tryz.results229,go_sem,Ss];try rfl) rfl ⟨_,rfl,D4.out,Tw.YZ B4.out _ _⟩
   | true =>
    have HD3:=ZU (HD2.out.trans (Z1 (by rw [hok];decide)));have Y9:=ZU (lJ.out hok);have PX:=ZU hok;clear hok HD2 lJ;have c0:=D4.out.s.cl 0 _ rfl
    go_wp2_with fail
    refine (yt.out _ B4.out).mono ?_;rintro e w5 ⟨rfl,b5⟩;have B5:=ZU (WD B4.out b5);have X5:=ZU (X4.out.below b5);have D5:=ZU (D4.out.below b5);clear b5 B4 X4 D4 c0 yt
    by_cases hfn:ns.findIdx (U9 N)<ns.length
    · rw [Zm hfn]
      have HE:=ZU (HD3.out.trans (Z0 hfn));clear HD3 hfn
      go_wp2_with fail
      rw [HE.out];exact ZW (v:=.tuple #[.string ByteArray.empty,Ss 3]) (by simp [results,Tryz.results229,go_sem,Ss];try rfl) rfl ⟨_,rfl,D5.out,Tw.YZ B5.out _ _⟩
    rw [Zo hfn];have HD4:=ZU (HD3.out.trans (Z1 hfn));have Y8:=ZU hfn;clear HD3 hfn;have c0:=D5.out.s.cl 0 _ rfl
    by_cases hfl:ns.length=1000
    · have HE:=ZU (HD4.out.trans (Z0 hfl))
      clear HD4;have hge:(1000:Int)≤(ns.length:Int):=by omega
      go_wp2_with fail
      rw [HE.out];exact ZW (v:=.tuple #[.string ByteArray.empty,Ss 6]) (by simp [results,Tryz.results229,go_sem,Ss];try rfl) rfl ⟨_,rfl,D5.out,Tw.YZ B5.out _ _⟩
    have HE:=ZU (HD4.out.trans (Z1 hfl));clear HD4;have eU:=D5.out.n.2.2;have hge:¬(1000:Int)≤(ns.length:Int):=by omega
    go_wp2_with fail
    clear c0;have D6:Hid (Df w5.drew D lo z (.slice (some ⟨g,0,none⟩) ns.length gc) ns):=D5.out.below (below_drewN' w5 1);have X6:Hid (St w5.drew w.heap.size [.int .i64 o.kind,.string o.path,.string o.data,.int .i64 o.XT,.bool o.seq]):=X5.out.below (below_drewN' w5 1);have B6:Hid (Zi w w5.drew):=B5.out.trans ((below_drewN' w5 1).mono B5.out.size);clear D5 X5 B5;have c6:=D6.out.s.cl 0 _ rfl;have B7:Hid (Below w5.drew.heap.size w5.drew (w5.drew.alloc (.cells #[.string N,.string o.data,.int .i64 0,.int .i64 0,.int .i64 z,.int .i64 z,.int .i64 z] 147))):=Yy.alloc YR _;have Y0:Hid ((w5.drew.alloc (.cells #[.string N,.string o.data,.int .i64 0,.int .i64 0,.int .i64 z,.int .i64 z,.int .i64 z] 147)).heap[w5.drew.heap.size]?=some (.cells (Uu ⟨N,o.data,0,0,z,z,z⟩).toArray 147 (0,0))):=Zs _ _;have c7:=(D6.out.below B7.out).s.cl 0 _ rfl;refine ZX (S:=fun W=>W.cell? ⟨D,1,none⟩=some (.int .i64 z)∧W.cell? ⟨w.heap.size,2,none⟩=some (.string o.data)) (by kernel_rfl) ⟨D6.out.s.cl 1 _ rfl,X6.out.cl 2 _ rfl⟩ (fun Z9=>?_);generalize w5.drew=w6 at *
    iterate 4 (refine Zf ?_ (by kernel_rfl) (fun _=>id) Z9 ?_ ?_;rotate_left;· intro w9 ZQ;obtain ⟨k1,k2⟩:=ZQ;go_simp;try with_reducible rfl)
    refine Yp 5 ?_ rfl (by kernel_rfl) (fun _=>id) Z9 ?_ ?_;rotate_left;· intro w9 ZQ;obtain ⟨k1,k2⟩:=ZQ;go_simp;try with_reducible rfl
    refine Yp 6 ?_ rfl (by kernel_rfl) (fun _=>id) Z9 ?_ ?_;rotate_left;· intro w9 ZQ;obtain ⟨k1,k2⟩:=ZQ;go_simp;try with_reducible rfl
    refine Yp 7 ?_ rfl (by kernel_rfl) (fun _=>id) Z9 ?_ ?_;rotate_left;· intro w9 ZQ;obtain ⟨k1,k2⟩:=ZQ;go_simp;try with_reducible rfl
    refine Yp 8 ?_ rfl (by kernel_rfl) (fun _=>id) Z9 ?_ ?_;rotate_left;· intro w9 ZQ;obtain ⟨k1,k2⟩:=ZQ;go_simp;try with_reducible rfl
    refine Yp 9 ?_ rfl (by kernel_rfl) (fun _=>id) Z9 ?_ ?_;rotate_left;· intro w9 ZQ;obtain ⟨k1,k2⟩:=ZQ;go_simp;try with_reducible rfl
    refine Yp 10 ?_ rfl (by kernel_rfl) (fun _=>id) Z9 ?_ ?_;rotate_left;· intro w9 ZQ;obtain ⟨k1,k2⟩:=ZQ;go_simp;try with_reducible rfl
    refine Yp 11 ?_ rfl (by kernel_rfl) (fun _=>id) Z9 ?_ ?_;rotate_left;· intro w9 ZQ;obtain ⟨k1,k2⟩:=ZQ;go_simp;try with_reducible rfl
    refine Yp 12 ?_ rfl (by kernel_rfl) (fun _=>id) Z9 ?_ ?_;rotate_left;· intro w9 ZQ;obtain ⟨k1,k2⟩:=ZQ;go_simp;try with_reducible rfl
    refine Yp 13 ?_ rfl (by kernel_rfl) (fun _=>id) Z9 ?_ ?_;rotate_left;· intro w9 ZQ;obtain ⟨k1,k2⟩:=ZQ;go_simp;try with_reducible rfl
    refine Yp 14 ?_ rfl (by kernel_rfl) (fun _=>id) Z9 ?_ ?_;rotate_left;· intro w9 ZQ;obtain ⟨k1,k2⟩:=ZQ;go_simp;try with_reducible rfl
    refine Yp 15 ?_ rfl (by kernel_rfl) (fun _=>id) Z9 ?_ ?_;rotate_left;· intro w9 ZQ;obtain ⟨k1,k2⟩:=ZQ;go_simp;try with_reducible rfl
    refine Yp 16 ?_ rfl (by kernel_rfl) (fun _=>id) Z9 ?_ ?_;rotate_left;· intro w9 ZQ;obtain ⟨k1,k2⟩:=ZQ;go_simp;try with_reducible rfl
    refine Yp 17 ?_ rfl (by kernel_rfl) (fun _=>id) Z9 ?_ ?_;rotate_left;· intro w9 ZQ;obtain ⟨k1,k2⟩:=ZQ;go_simp;try with_reducible rfl
    refine Yp 18 ?_ rfl (by kernel_rfl) (fun _=>id) Z9 ?_ ?_;rotate_left;· intro w9 ZQ;obtain ⟨k1,k2⟩:=ZQ;go_simp;try with_reducible rfl
    refine Yp 19 ?_ rfl (by kernel_rfl) (fun _=>id) Z9 ?_ ?_;rotate_left;· intro w9 ZQ;obtain ⟨k1,k2⟩:=ZQ;go_simp;try with_reducible rfl
    refine Yp 20 ?_ rfl (by kernel_rfl) (fun _=>id) Z9 ?_ ?_;rotate_left;· intro w9 ZQ;obtain ⟨k1,k2⟩:=ZQ;go_simp;try with_reducible rfl
    refine Yp 21 ?_ rfl (by kernel_rfl) (fun _=>id) Z9 ?_ ?_;rotate_left;· intro w9 ZQ;obtain ⟨k1,k2⟩:=ZQ;go_simp;try with_reducible rfl
    have S7:=And.intro ((D6.out.below B7.out).s.cl 1 _ rfl) ((X6.out.below B7.out).cl 2 _ rfl);have hgw:g<w.heap.size:=(NR.out g rfl).2;have O:g≠D:=fun e=>D6.out.ne (by rw [e];rfl)
    have Zz:=ZU (WD B6.out B7.out);have D7:=ZU (D6.out.below B7.out);have X7:=ZU (X6.out.below B7.out);have kB:Hid (Ld (ns.take (Ty ns N)++⟨N,o.data,0,0,z,z,z⟩ :: ns.drop (Ty ns N))):=by
     have e9:=wV (n:=⟨N,o.data,0,0,z,z,z⟩) D6.out.n.1 Y8.out;show Ld _;rw [←e9];refine D6.out.n.wi ?_ (.inl (by omega));unfold Wl;rw [PX.out,Zm C.out.2,HZ.out]
     rfl
    have HE2:Hid (Ry ns o z=(0,toN (ns.take (Ty ns N)++⟨N,o.data,0,0,z,z,z⟩ :: ns.drop (Ty ns N)) (UZ N) z,N)):=by
     show _=_;rw [HE.out,Y9.out];have e9:=wV (n:=⟨N,o.data,0,0,z,z,z⟩) D6.out.n.1 Y8.out;rw [e9]
    have YX:=ZU (Dq _ lo g gc w6.heap.size ns (Ty ns N) ⟨N,o.data,0,0,z,z,z⟩ D7.out.o (by omega) (Oi ns N) (by omega) (by have:=B6.out.size;omega) Y0.out (ZJ hlo Zz.out.size));generalize ns.take (Ty ns N)++(⟨N,o.data,0,0,z,z,z⟩:Nd) :: ns.drop (Ty ns N)=R at *;refine QG 4 22 rfl rfl (by kernel_rfl) (fun K hK=>?_) (fun K hK=>?_);go_simp;refine hK.out _ _ Z9 (fun Z9=>?_);clear hK K;refine YS 22 rfl (by kernel_rfl) (fun K hK=>?_);go_simp;refine hK.out _ _ S7 (fun Z9=>?_);clear hK K
    rotate_left
    go_simp;refine hK.out _ _ S7 (fun Z9=>?_);clear hK K;refine YS 4 rfl (by kernel_rfl) (fun K hK=>?_);go_simp;refine hK.out _ _ S7 (fun Z9=>?_);clear hK K
    all_goals
     clear c6 c7 S7;generalize w6.alloc _=w7 at *;refine YS 23 rfl (by kernel_rfl) (fun K hK=>?_);go_simp;refine YX.out.mono ?_;rintro e w8 ⟨g8,Z4,rfl,o8,t8⟩;have S8:=ZU ((t8 g).st D7.out.s O.symm (fun e=>O (Zc e)));have X8:=ZU ((t8 g).st X7.out (by omega) (fun e=>by have:g=w.heap.size:=Zc e;omega));have O8:=ZU o8;have kA:g8≠D:=by
      rcases (t8 g).own with e | e | ⟨q,e,hq⟩
      · rw [Zc e];exact O
      · cases e
      rw [Zc e];have:=Zz.out.size;omega
     have T8:=ZU ((Tw.YZ Zz.out D (some g)).trans (t8 D));clear o8 t8 Z9;refine hK.out _ _ ⟨S8.out.cl 1 _ rfl,X8.out.cl 2 _ rfl⟩ (fun Z9=>?_);clear hK K
     iterate 2 (refine Zf ?_ (by kernel_rfl) (fun _=>id) Z9 ?_ ?_;rotate_left;· intro w9 ZQ;clear ZQ;go_simp;try with_reducible rfl)
     have c8:=S8.out.cl 0 _ rfl;have f8:=S8.out.fz 0;refine YS 26 rfl (by kernel_rfl) (fun K hK=>?_);go_simp;have S9:=ZU (S8.out.set 0 (.slice (some ⟨g8,0,none⟩) R.length Z4));have X9:=ZU (X8.out.other (c:=D) (j:=0) (x:=.slice (some ⟨g8,0,none⟩) R.length Z4) (by omega));have O9:=ZU (O8.out.lq (b:=D) (j:=0) (fun e=>kA (Zc e)) (.slice (some ⟨g8,0,none⟩) R.length Z4));have T9:=ZU (T8.out.set (j:=0) (x:=.slice (some ⟨g8,0,none⟩) R.length Z4));refine hK.out _ _ ⟨S9.out.cl 1 _ rfl,X9.out.cl 2 _ rfl⟩ (fun Z9=>?_);clear hK K c8 f8;generalize w8.setCell _ _=w9 at *;refine ZR (by kernel_rfl) ?_ _
     try simp only [Act.put,WV,WU,WT]
     clear Z9;have wZ:=ZU (Jf w9 D lo z _ _ N ⟨S9.out,O9.out,fun e=>kA (Zc e),kB.out⟩ PX.out HZ.out)
     go_wp2_with (go_at_call 251;refine wZ.out.mono ?_)
     rintro e Jg ⟨rfl,d10,t10⟩;have YW:=ZU d10;have YV:=ZU (T9.out.trans t10);clear d10 t10 wZ
     go_wp2_with fail
     rw [HE2.out];exact ZW (v:=.tuple #[.string N,.nilIface]) (by simp [results,Tryz.results229,go_sem]) rfl ⟨_,rfl,YW.out,YV.out⟩
theorem KX (h:w.ownsRow lo e m v n us) (hb:Zi w w'):w'.ownsRow lo e m v n us:=by
 refine ⟨h.1,?_⟩
 rcases h.2 with hn | ⟨g,cap,cur,rfl,hbg,hgg,rest⟩
 · exact .inl hn
 exact .inr ⟨g,cap,cur,rfl,hbg,by rw [hb.block g (Z3.1 hgg).1];exact hgg,rest⟩
theorem MD {lo':Nat} (h:w.ownsRow lo e m v n us) (hl:lo'≤lo):w.ownsRow lo' e m v n us:=by
 refine ⟨h.1,?_⟩
 rcases h.2 with hn | ⟨g,cap,cur,rfl,hbg,rest⟩
 · exact .inl hn
 exact .inr ⟨g,cap,cur,rfl,by omega,rest⟩
theorem Tryz.wT:(Tryz.prog.info? 9).map (fun i=>(i.zero,i.size,i.bytes))=some (some (.string ByteArray.empty),1,16):=by kernel_rfl
theorem SK.Fk {ao:Option Addr} {a:Nd} {R:List Nd} (h:SK w (.slice ao n c) (a :: R)):n=R.length+1∧n≤c∧c≤maxLen∧∃b off,ao=some ⟨b,off,none⟩∧b<w.heap.size∧Um w b off a∧SK w (.slice (if c=1 then some ⟨b,off,none⟩ else some ⟨b,off+7,none⟩) R.length (c - 1)) R:=by
 obtain ⟨a',c',e,h1,h2,h3⟩:=h
 simp only [ZC,ZE] at e
 obtain ⟨rfl,rfl,rfl⟩:=e;refine ⟨rfl,h1,h2,?_⟩
 rcases h3 with h3 | ⟨b,off,rfl,hb,hc⟩
 · cases h3
 refine ⟨b,off,rfl,hb,?_,?_⟩
 · have:=hc 0 (by simp)
   simpa [Ye] using this
 refine ⟨_,_,rfl,by simp at h1;omega,by omega,?_⟩
 by_cases hR:R=[]
 · exact .inl hR
 have:0<R.length:=List.length_pos_iff.2 hR
 simp at h1
 rw [Z1 (by omega)];refine .inr ⟨b,off+7,rfl,hb,fun i hi=>?_⟩;have:=hc (i+1) (by simp;omega);rw [show off+(i+1)*7=off+7+i*7 by omega] at this
 simpa [Ye] using this
theorem wR (a:Nd) (R:List Nd):UY (a :: R) []=Qn a :: UY R []:=by
 cases R with
 | nil=>simp [UY]
 | cons x R=>simp [UY]
theorem wP (b:Nd) (R:List Nd):UY [] (b :: R)=TV b :: UY [] R:=by simp [UY]
theorem rU {a:Nd} (A B:List Nd) (h:Tz a.path b.path=true):UY (a :: A) (b :: B)=Qn a :: UY A (b :: B):=by
 rw [UY,Z1 (by rw [Jn h];decide),Z0 h]
theorem rT {a:Nd} (A B:List Nd) (h:Tz b.path a.path=true):UY (a :: A) (b :: B)=TV b :: UY (a :: A) B:=by
 rw [UY,Z0 h]
theorem rS {a:Nd} (A B:List Nd) (h:Tz a.path b.path=false) (h2:Tz b.path a.path=false):UY (a :: A) (b :: B)=if LU a b then UY A B else TV b :: UY A B:=by
 rw [UY,Z1 (by rw [h2];decide),Z1 (by rw [h];decide)]
theorem zY (w:World) (va vb:Value) (Al Bl:List Nd) (ha:SK w va Al) (hb:SK w vb Bl) (hna:Al.length≤1000) (hnb:Bl.length≤1000) :
    Calls Tryz.prog 168 #[va,vb] w fun e w'=>∃v',e=.returned v'∧UN 249 w' w.heap.size v' (UY Al Bl)∧Zi w w':=by
 obtain ⟨i0,hi0,hz0,hz1,hz2⟩:=YN Tryz.oO;obtain ⟨res,hres⟩:∃res,res=UY Al Bl:=⟨_,rfl⟩;have OM:Hid (res.length≤2000):=by show _≤_;rw [hres];have:=BP Al Bl;omega
 have HA:=ZU ha;have HB:=ZU hb;have GP:Hid ([]++UY Al Bl=res):=by show _=_;rw [hres];rfl
 rw [←hres];clear ha hb hres
 go_enter Tryz.func168,Tryz.ntmps168
 go_wp2_with fail
 go_loopw [0,1,5] (fun ua ub ue wr=>∃(Ak Bk:List Nd) (acc:List Ef) (xa xb xe:Value),xa=ua∧xb=ub∧xe=ue∧Ak.length+Bk.length≤2000∧Hid (SK w xa Ak)∧Hid (SK w xb Bk)∧Hid (acc++UY Ak Bk=res)∧Hid (UN 249 wr w.heap.size xe acc)∧Hid (Zi w wr)) (fun ua ub _ _=>(match ua with | .slice _ n _=>n | _=>0)+(match ub with | .slice _ n _=>n | _=>0))
 case atStart=>exact ⟨Al,Bl,[],_,_,_,rfl,rfl,rfl,by omega,HA,HB,GP,ZH _ _ _ _,Yy⟩
 case round =>
  clear HA HB GP;obtain ⟨Ak,Bk,acc,xa,xb,xe,rfl,rfl,rfl,hlen,RA,RB,GP,OE,BK⟩:=hrel;obtain ⟨aa,ca,rfl,-,-⟩:=RA.out.len;obtain ⟨ab,cb,rfl,-,-⟩:=RB.out.len;obtain ⟨y,ce,rfl⟩:=OE.out.QW;have sB:=BK.out.size
  cases Ak with
  | nil =>
   cases Bk with
   | nil =>
    have HN:Hid (acc=res):=by have:=GP.out;simp [UY] at this;exact this
    go_wp2_with fail
    rw [←HN.out];exact ZW (v:=.slice y acc.length ce) (by simp [results,Tryz.results168,go_sem]) rfl ⟨_,rfl,OE.out,BK.out⟩
   | cons b Bs =>
    obtain ⟨-,Y7,Y6,b2,o2,rfl,hb2,hce,hrd⟩:=RB.out.Fk;have RT:=ZU hrd;have J:=ZU hce;have HN:Hid ((acc++[TV b])++UY [] Bs=res):=by have:=GP.out;rw [wP] at this;show _=_;rw [ZO];exact this
    have hal:acc.length+1≤2000:=by have:=OM.out;rw [←HN.out] at this;simp at this;omega
    have hB1:¬((Bs.length:Int)+1=0):=by omega
    clear RB hce hrd GP
    go_wp2_with fail
    have U:Hid (UN 249 wr.drew w.heap.size (.slice y acc.length ce) acc):=OE.out.below (below_drewN' wr 1);have T:Hid (Zi w wr.drew):=BK.out.trans ((below_drewN' wr 1).mono BK.out.size);clear OE BK;have OE:=U;have BK:=T;clear U T;refine ZX (S:=fun W=>True) (by kernel_rfl) trivial (fun Z9=>?_);generalize wr.drew=wa at *
    iterate 2 (refine Zf ?_ (by kernel_rfl) (fun _=>id) Z9 ?_ ?_;rotate_left;· intro w9 ZQ;clear ZQ;go_simp;try with_reducible rfl)
    refine Zf (.bool false) (by kernel_rfl) (fun _=>id) Z9 ?_ ?_
    · intro w9 ZQ;clear ZQ;go_simp;try (first | rfl | omega | simp_all)
    iterate 5 (refine Zf ?_ (by kernel_rfl) (fun _=>id) Z9 ?_ ?_;rotate_left;· intro w9 ZQ;clear ZQ;go_simp;try with_reducible rfl)
    iterate 9 (refine J7 (by kernel_rfl) (fun _=>id) Z9 ?_)
    iterate 3 (refine Zf ?_ (by kernel_rfl) (fun _=>id) Z9 ?_ ?_;rotate_left;· intro w9 ZQ;clear ZQ;go_simp;try with_reducible rfl)
    refine ZR (by kernel_rfl) ?_ _
    simp only [Act.put,WV,WU,WT]
    clear Z9
    go_wp2_with fail
    have U:Hid (UN 249 wa.drew w.heap.size (.slice y acc.length ce) acc):=OE.out.below (below_drewN' wa 1);have T:Hid (Zi w wa.drew):=BK.out.trans ((below_drewN' wa 1).mono BK.out.size);clear OE BK;have OE:=U;have BK:=T;clear U T;refine ZX (S:=fun W=>True) (by kernel_rfl) trivial (fun Z9=>?_);generalize wa.drew=wb at *
    iterate 4 (refine Zf ?_ (by kernel_rfl) (fun _=>id) Z9 ?_ ?_;rotate_left;· intro w9 ZQ;clear ZQ;go_simp;try with_reducible rfl)
    iterate 9 (refine J7 (by kernel_rfl) (fun _=>id) Z9 ?_)
    iterate 2 (refine Zf ?_ (by kernel_rfl) (fun _=>id) Z9 ?_ ?_;rotate_left;· intro w9 ZQ;clear ZQ;go_simp;try with_reducible rfl)
    refine ZR (by kernel_rfl) ?_ _
    simp only [Act.put,WV,WU,WT]
    clear Z9;obtain ⟨y0,y1,y2,y3,y4,y5,y6⟩:=(J.out.below BK.out hb2).all;have sB:=BK.out.size;have V:Hid (UN 249 wb w.heap.size (.slice y acc.length ce) acc):=OE;have GK:Hid (Zi w wb):=BK
    go_wp2_with (at_builtin;go_must (refine Yn _ rfl _ _ 190 rfl w.heap.size 249 i0 (.agg #[.bool false,.string ByteArray.empty,.string ByteArray.empty,.int .i64 0,.int .i64 0,.int .i64 0,.int .i64 0,.int .i64 0]) 8 80 Tryz.underlying190 hi0 hz0 hz1 hz2 rfl (by decide) _ _ _ rfl (V.out.alloc _) ⟨wb.heap.size,0,none⟩ 1 1 (GO (TV b)) rfl rfl (QU _ _ _) (Px _) ?c1 ?c2 ?c3 ?_))
    case c1=>unfold maxLen;omega
    case c2=>omega
    case c3=>simp;omega
    intro v5 w5 Rb hg5 _;obtain ⟨o5,b5⟩:=V.out.FR GK.out Rb hg5;have O5:Hid (UN 249 w5 w.heap.size v5 (acc++[TV b])):=o5;have B5:Hid (Zi w w5):=b5;clear o5 b5 Rb hg5 V GK
    go_wp2_with fail
    exact ⟨⟨[],Bs,acc++[TV b],_,_,_,rfl,rfl,rfl,by simp at hlen ⊢;omega,RA,RT,HN,O5,B5⟩,by simp⟩
  | cons a As =>
   obtain ⟨-,YO,YM,b1,o1,rfl,hb1,hce,hrd⟩:=RA.out.Fk;have Z2:=ZU hrd;have Z8:=ZU hce;clear hce hrd
   cases Bk with
   | nil =>
    obtain ⟨x0,x1,x2,x3,x4,x5,x6⟩:=(Z8.out.below BK.out hb1).all;have HN:Hid ((acc++[Qn a])++UY As []=res):=by have:=GP.out;rw [wR] at this;show _=_;rw [ZO];exact this
    have hal:acc.length+1≤2000:=by have:=OM.out;rw [←HN.out] at this;simp at this;omega
    clear RA GP
    go_wp2_with fail
    go_quiet (fail)
    have V:Hid (UN 249 (wr.drewN nq) w.heap.size (.slice y acc.length ce) acc):=OE.out.below (below_drewN' wr nq);have GK:Hid (Zi w (wr.drewN nq)):=BK.out.trans ((below_drewN' wr nq).mono BK.out.size)
    go_wp2_with (at_builtin;go_must (refine Yn _ rfl _ _ 190 rfl w.heap.size 249 i0 (.agg #[.bool false,.string ByteArray.empty,.string ByteArray.empty,.int .i64 0,.int .i64 0,.int .i64 0,.int .i64 0,.int .i64 0]) 8 80 Tryz.underlying190 hi0 hz0 hz1 hz2 rfl (by decide) _ _ _ rfl (V.out.alloc _) ⟨(wr.drewN nq).heap.size,0,none⟩ 1 1 (GO (Qn a)) rfl rfl (QU _ _ _) (Px _) ?c1 ?c2 ?c3 ?_))
    case c1=>unfold maxLen;omega
    case c2=>omega
    case c3=>simp;omega
    intro v5 w5 Rb hg5 _;obtain ⟨o5,b5⟩:=V.out.FR GK.out Rb hg5;have O5:Hid (UN 249 w5 w.heap.size v5 (acc++[Qn a])):=o5;have B5:Hid (Zi w w5):=b5;clear o5 b5 Rb hg5 V GK
    go_wp2_with fail
    exact ⟨⟨As,[],acc++[Qn a],_,_,_,rfl,rfl,rfl,by simp at hlen ⊢;omega,Z2,RB,HN,O5,B5⟩,by simp⟩
   | cons b Bs =>
    obtain ⟨-,Y7,Y6,b2,o2,rfl,hb2,hce,hrd⟩:=RB.out.Fk;have Zx:=ZU hrd;have J:=ZU hce;clear hce hrd;have hA1:¬((As.length:Int)+1=0):=by omega
    have hB1:¬((Bs.length:Int)+1=0):=by omega
    have hA2:(0:Int)<(As.length:Int)+1:=by omega
    go_wp2_with fail
    have U:Hid (UN 249 wr.drew w.heap.size (.slice y acc.length ce) acc):=OE.out.below (below_drewN' wr 1);have T:Hid (Zi w wr.drew):=BK.out.trans ((below_drewN' wr 1).mono BK.out.size);clear OE BK;have OE:=U;have BK:=T;clear U T;refine ZX (S:=fun W=>W.cell? ⟨b1,o1,none⟩=some (.string a.path)∧W.cell? ⟨b2,o2,none⟩=some (.string b.path)) (by kernel_rfl) ⟨(Z8.out.below BK.out hb1).all.1,(J.out.below BK.out hb2).all.1⟩ (fun Z9=>?_);generalize wr.drew=wa at *
    cases hl1:Op.bytesLess a.path.toList b.path.toList with
    | true =>
     have HN:Hid ((acc++[Qn a])++UY As (b :: Bs)=res):=by have:=GP.out;rw [rU As Bs hl1] at this;show _=_;rw [ZO];exact this
     have hal:acc.length+1≤2000:=by have:=OM.out;rw [←HN.out] at this;simp at this;omega
     iterate 2 (refine Zf ?_ (by kernel_rfl) (fun _=>id) Z9 ?_ ?_;rotate_left;· intro w9 ZQ;clear ZQ;go_simp;try with_reducible rfl)
     refine Zf (.bool false) (by kernel_rfl) (fun _=>id) Z9 ?_ ?_
     · intro w9 ZQ;clear ZQ;go_simp;try (first | rfl | omega | simp_all)
     iterate 3 (refine Zf ?_ (by kernel_rfl) (fun _=>id) Z9 ?_ ?_;rotate_left;· intro w9 ZQ;clear ZQ;go_simp;try with_reducible rfl)
     refine Zf (.bool true) (by kernel_rfl) (fun _=>id) Z9 ?_ ?_
     · intro w9 ZQ;clear ZQ;go_simp;try (first | rfl | omega | simp_all)
     iterate 1 (refine Zf ?_ (by kernel_rfl) (fun _=>id) Z9 ?_ ?_;rotate_left;· intro w9 ZQ;clear ZQ;go_simp;try with_reducible rfl)
     iterate 8 (refine Zf ?_ (by kernel_rfl) (fun _=>id) Z9 ?_ ?_;rotate_left;· intro w9 ZQ;obtain ⟨k0,k1⟩:=ZQ;go_simp;try with_reducible rfl)
     refine Zf (.bool true) (by kernel_rfl) (fun _=>id) Z9 ?_ ?_
     · intro w9 ZQ;clear ZQ;go_simp;try (first | rfl | omega | simp_all)
     iterate 3 (refine Zf ?_ (by kernel_rfl) (fun _=>id) Z9 ?_ ?_;rotate_left;· intro w9 ZQ;clear ZQ;go_simp;try with_reducible rfl)
     refine ZR (by kernel_rfl) ?_ _
     simp only [Act.put,WV,WU,WT]
     clear Z9 hl1;obtain ⟨x0,x1,x2,x3,x4,x5,x6⟩:=(Z8.out.below BK.out hb1).all;have sB:=BK.out.size;have V:Hid (UN 249 wa w.heap.size (.slice y acc.length ce) acc):=OE;have GK:Hid (Zi w wa):=BK
     go_wp2_with (at_builtin;go_must (refine Yn _ rfl _ _ 190 rfl w.heap.size 249 i0 (.agg #[.bool false,.string ByteArray.empty,.string ByteArray.empty,.int .i64 0,.int .i64 0,.int .i64 0,.int .i64 0,.int .i64 0]) 8 80 Tryz.underlying190 hi0 hz0 hz1 hz2 rfl (by decide) _ _ _ rfl (V.out.alloc _) ⟨wa.heap.size,0,none⟩ 1 1 (GO (Qn a)) rfl rfl (QU _ _ _) (Px _) ?c1 ?c2 ?c3 ?_))
     case c1=>unfold maxLen;omega
     case c2=>omega
     case c3=>simp;omega
     intro v5 w5 Rb hg5 _;obtain ⟨o5,b5⟩:=V.out.FR GK.out Rb hg5;have O5:Hid (UN 249 w5 w.heap.size v5 (acc++[Qn a])):=o5;have B5:Hid (Zi w w5):=b5;clear o5 b5 Rb hg5 V GK
     go_wp2_with fail
     exact ⟨⟨As,b :: Bs,acc++[Qn a],_,_,_,rfl,rfl,rfl,by simp at hlen ⊢;omega,Z2,RB,HN,O5,B5⟩,by simp⟩
    | false =>
     have fy:=ZU hl1
     iterate 2 (refine Zf ?_ (by kernel_rfl) (fun _=>id) Z9 ?_ ?_;rotate_left;· intro w9 ZQ;clear ZQ;go_simp;try with_reducible rfl)
     refine Zf (.bool false) (by kernel_rfl) (fun _=>id) Z9 ?_ ?_
     · intro w9 ZQ;clear ZQ;go_simp;try (first | rfl | omega | simp_all)
     iterate 3 (refine Zf ?_ (by kernel_rfl) (fun _=>id) Z9 ?_ ?_;rotate_left;· intro w9 ZQ;clear ZQ;go_simp;try with_reducible rfl)
     refine Zf (.bool true) (by kernel_rfl) (fun _=>id) Z9 ?_ ?_
     · intro w9 ZQ;clear ZQ;go_simp;try (first | rfl | omega | simp_all)
     iterate 1 (refine Zf ?_ (by kernel_rfl) (fun _=>id) Z9 ?_ ?_;rotate_left;· intro w9 ZQ;clear ZQ;go_simp;try with_reducible rfl)
     iterate 8 (refine Zf ?_ (by kernel_rfl) (fun _=>id) Z9 ?_ ?_;rotate_left;· intro w9 ZQ;obtain ⟨k0,k1⟩:=ZQ;go_simp;try with_reducible rfl)
     refine Zf (.bool false) (by kernel_rfl) (fun _=>id) Z9 ?_ ?_
     · intro w9 ZQ;clear ZQ;go_simp;try (first | rfl | omega | simp_all)
     iterate 3 (refine Zf ?_ (by kernel_rfl) (fun _=>id) Z9 ?_ ?_;rotate_left;· intro w9 ZQ;clear ZQ;go_simp;try with_reducible rfl)
     refine ZR (by kernel_rfl) ?_ _
     simp only [Act.put,WV,WU,WT]
     clear Z9 hl1
     go_wp2_with fail
     have U:Hid (UN 249 wa.drew w.heap.size (.slice y acc.length ce) acc):=OE.out.below (below_drewN' wa 1);have T:Hid (Zi w wa.drew):=BK.out.trans ((below_drewN' wa 1).mono BK.out.size);clear OE BK;have OE:=U;have BK:=T;clear U T;refine ZX (S:=fun W=>W.cell? ⟨b1,o1,none⟩=some (.string a.path)∧W.cell? ⟨b2,o2,none⟩=some (.string b.path)) (by kernel_rfl) ⟨(Z8.out.below BK.out hb1).all.1,(J.out.below BK.out hb2).all.1⟩ (fun Z9=>?_);generalize wa.drew=wb at *
     cases hl2:Op.bytesLess b.path.toList a.path.toList with
     | true =>
      have HN:Hid ((acc++[TV b])++UY (a :: As) Bs=res):=by have:=GP.out;rw [rT As Bs hl2] at this;show _=_;rw [ZO];exact this
      have hal:acc.length+1≤2000:=by have:=OM.out;rw [←HN.out] at this;simp at this;omega
      iterate 2 (refine Zf ?_ (by kernel_rfl) (fun _=>id) Z9 ?_ ?_;rotate_left;· intro w9 ZQ;clear ZQ;go_simp;try with_reducible rfl)
      refine Zf (.bool false) (by kernel_rfl) (fun _=>id) Z9 ?_ ?_
      · intro w9 ZQ;clear ZQ;go_simp;try (first | rfl | omega | simp_all)
      iterate 1 (refine Zf ?_ (by kernel_rfl) (fun _=>id) Z9 ?_ ?_;rotate_left;· intro w9 ZQ;clear ZQ;go_simp;try with_reducible rfl)
      iterate 8 (refine Zf ?_ (by kernel_rfl) (fun _=>id) Z9 ?_ ?_;rotate_left;· intro w9 ZQ;obtain ⟨k0,k1⟩:=ZQ;go_simp;try with_reducible rfl)
      refine Zf (.bool true) (by kernel_rfl) (fun _=>id) Z9 ?_ ?_
      · intro w9 ZQ;clear ZQ;go_simp;try (first | rfl | omega | simp_all)
      iterate 2 (refine Zf ?_ (by kernel_rfl) (fun _=>id) Z9 ?_ ?_;rotate_left;· intro w9 ZQ;clear ZQ;go_simp;try with_reducible rfl)
      refine ZR (by kernel_rfl) ?_ _
      simp only [Act.put,WV,WU,WT]
      clear Z9 hl2;obtain ⟨y0,y1,y2,y3,y4,y5,y6⟩:=(J.out.below BK.out hb2).all;have sB:=BK.out.size;have V:Hid (UN 249 wb w.heap.size (.slice y acc.length ce) acc):=OE;have GK:Hid (Zi w wb):=BK
      go_wp2_with (at_builtin;go_must (refine Yn _ rfl _ _ 190 rfl w.heap.size 249 i0 (.agg #[.bool false,.string ByteArray.empty,.string ByteArray.empty,.int .i64 0,.int .i64 0,.int .i64 0,.int .i64 0,.int .i64 0]) 8 80 Tryz.underlying190 hi0 hz0 hz1 hz2 rfl (by decide) _ _ _ rfl (V.out.alloc _) ⟨wb.heap.size,0,none⟩ 1 1 (GO (TV b)) rfl rfl (QU _ _ _) (Px _) ?c1 ?c2 ?c3 ?_))
      case c1=>unfold maxLen;omega
      case c2=>omega
      case c3=>simp;omega
      intro v5 w5 Rb hg5 _;obtain ⟨o5,b5⟩:=V.out.FR GK.out Rb hg5;have O5:Hid (UN 249 w5 w.heap.size v5 (acc++[TV b])):=o5;have B5:Hid (Zi w w5):=b5;clear o5 b5 Rb hg5 V GK
      go_wp2_with fail
      exact ⟨⟨a :: As,Bs,acc++[TV b],_,_,_,rfl,rfl,rfl,by simp at hlen ⊢;omega,RA,Zx,HN,O5,B5⟩,by simp⟩
     | false =>
      have HL2:=ZU hl2
      iterate 2 (refine Zf ?_ (by kernel_rfl) (fun _=>id) Z9 ?_ ?_;rotate_left;· intro w9 ZQ;clear ZQ;go_simp;try with_reducible rfl)
      refine Zf (.bool false) (by kernel_rfl) (fun _=>id) Z9 ?_ ?_
      · intro w9 ZQ;clear ZQ;go_simp;try (first | rfl | omega | simp_all)
      iterate 1 (refine Zf ?_ (by kernel_rfl) (fun _=>id) Z9 ?_ ?_;rotate_left;· intro w9 ZQ;clear ZQ;go_simp;try with_reducible rfl)
      iterate 8 (refine Zf ?_ (by kernel_rfl) (fun _=>id) Z9 ?_ ?_;rotate_left;· intro w9 ZQ;obtain ⟨k0,k1⟩:=ZQ;go_simp;try with_reducible rfl)
      refine Zf (.bool false) (by kernel_rfl) (fun _=>id) Z9 ?_ ?_
      · intro w9 ZQ;clear ZQ;go_simp;try (first | rfl | omega | simp_all)
      iterate 2 (refine Zf ?_ (by kernel_rfl) (fun _=>id) Z9 ?_ ?_;rotate_left;· intro w9 ZQ;clear ZQ;go_simp;try with_reducible rfl)
      refine ZR (by kernel_rfl) ?_ _
      simp only [Act.put,WV,WU,WT]
      clear Z9 hl2
      go_wp2_with fail
      have U:Hid (UN 249 wb.drew w.heap.size (.slice y acc.length ce) acc):=OE.out.below (below_drewN' wb 1);have T:Hid (Zi w wb.drew):=BK.out.trans ((below_drewN' wb 1).mono BK.out.size);clear OE BK;have OE:=U;have BK:=T;clear U T;refine ZX (S:=fun W=>Um W b1 o1 a∧Um W b2 o2 b) (by kernel_rfl) ⟨Z8.out.below BK.out hb1,J.out.below BK.out hb2⟩ (fun Z9=>?_);generalize wb.drew=wc at *
      iterate 6 (refine Zf ?_ (by kernel_rfl) (fun _=>id) Z9 ?_ ?_;rotate_left;· intro w9 ZQ;obtain ⟨gz,hcb⟩:=ZQ;obtain ⟨x0,x1,x2,x3,x4,x5,x6⟩:=gz.all;obtain ⟨y0,y1,y2,y3,y4,y5,y6⟩:=hcb.all;go_simp;try with_reducible rfl)
      have ZV:Hid (acc++(if LU a b then UY As Bs else TV b :: UY As Bs)=res):=by have:=GP.out;rw [rS As Bs fy.out HL2.out] at this;exact this
      refine Zf (.bool (!LU a b)) (by kernel_rfl) (fun _=>id) Z9 ?_ ?_
      · intro w9 ZQ;clear ZQ;unfold LU
        cases e0:(a.path.toList == b.path.toList) with
        | false=>go_simp
        | true =>
         cases e1:(a.data.toList == b.data.toList) with
         | false=>go_simp
         | true =>
          cases e2:(a.XT == b.XT) with
          | false=>go_simp
          | true =>
           cases e3:(a.XQ == b.XQ) with
           | false=>go_simp
           | true =>
            cases e4:(a.cz == b.cz) with
            | false=>go_simp
            | true =>
             cases e5:(a.mz == b.mz) with
             | false=>go_simp
             | true =>
              cases e6:(a.pz == b.pz) with
              | false=>go_simp
              | true=>go_simp
      refine ZR (by kernel_rfl) ?_ _
      simp only [Act.put,WV,WU,WT]
      clear Z9;have sB:=BK.out.size
      cases heq:LU a b with
      | true =>
       have HN:Hid (acc++UY As Bs=res):=by have:=ZV.out;rw [heq,Z0 rfl] at this;exact this
       go_wp2_with fail
       have U:Hid (UN 249 wc.drew w.heap.size (.slice y acc.length ce) acc):=OE.out.below (below_drewN' wc 1);have T:Hid (Zi w wc.drew):=BK.out.trans ((below_drewN' wc 1).mono BK.out.size);refine ZX (S:=fun W=>True) (by kernel_rfl) trivial (fun Z9=>?_);generalize wc.drew=wd at *
       iterate 1 (refine Zf ?_ (by kernel_rfl) (fun _=>id) Z9 ?_ ?_;rotate_left;· intro w9 ZQ;clear ZQ;go_simp;try with_reducible rfl)
       refine Zf (.slice (if ca=1 then some ⟨b1,o1,none⟩ else some ⟨b1,o1+7,none⟩) As.length (ca - 1)) (by kernel_rfl) (fun _=>id) Z9 ?_ ?_
       · intro w9 ZQ;clear ZQ;go_simp;try (intro h9;omega)
       iterate 1 (refine Zf ?_ (by kernel_rfl) (fun _=>id) Z9 ?_ ?_;rotate_left;· intro w9 ZQ;clear ZQ;go_simp;try with_reducible rfl)
       refine Zf (.slice (if cb=1 then some ⟨b2,o2,none⟩ else some ⟨b2,o2+7,none⟩) Bs.length (cb - 1)) (by kernel_rfl) (fun _=>id) Z9 ?_ ?_
       · intro w9 ZQ;clear ZQ;go_simp;try (intro h9;omega)
       iterate 2 (refine Zf ?_ (by kernel_rfl) (fun _=>id) Z9 ?_ ?_;rotate_left;· intro w9 ZQ;clear ZQ;go_simp;try with_reducible rfl)
       refine ZR (by kernel_rfl) ?_ _
       simp only [Act.put,WV,WU,WT]
       clear Z9
       go_wp2_with fail
       exact ⟨⟨As,Bs,acc,_,_,_,rfl,rfl,rfl,by simp at hlen ⊢;omega,Z2,Zx,HN,U,T⟩,by simp;omega⟩
      | false =>
       have HN:Hid ((acc++[TV b])++UY As Bs=res):=by have:=ZV.out;rw [heq,Z1 (by decide)] at this;show _=_;rw [ZO];exact this
       have hal:acc.length+1≤2000:=by have:=OM.out;rw [←HN.out] at this;simp at this;omega
       obtain ⟨y0,y1,y2,y3,y4,y5,y6⟩:=(J.out.below BK.out hb2).all;have V:Hid (UN 249 wc w.heap.size (.slice y acc.length ce) acc):=OE;have GK:Hid (Zi w wc):=BK
       go_wp2_with (at_builtin;go_must (refine Yn _ rfl _ _ 190 rfl w.heap.size 249 i0 (.agg #[.bool false,.string ByteArray.empty,.string ByteArray.empty,.int .i64 0,.int .i64 0,.int .i64 0,.int .i64 0,.int .i64 0]) 8 80 Tryz.underlying190 hi0 hz0 hz1 hz2 rfl (by decide) _ _ _ rfl (V.out.alloc _) ⟨wc.heap.size,0,none⟩ 1 1 (GO (TV b)) rfl rfl (QU _ _ _) (Px _) ?c1 ?c2 ?c3 ?_))
       case c1=>unfold maxLen;omega
       case c2=>omega
       case c3=>simp;omega
       intro v5 w5 Rb hg5 _;obtain ⟨o5,b5⟩:=V.out.FR GK.out Rb hg5;have O5:Hid (UN 249 w5 w.heap.size v5 (acc++[TV b])):=o5;have B5:Hid (Zi w w5):=b5;clear o5 b5 Rb hg5 V GK
       go_wp2_with fail
       have U:Hid (UN 249 w5.drew w.heap.size v5 (acc++[TV b])):=O5.out.below (below_drewN' w5 1);have T:Hid (Zi w w5.drew):=B5.out.trans ((below_drewN' w5 1).mono B5.out.size);refine ZX (S:=fun W=>True) (by kernel_rfl) trivial (fun Z9=>?_);generalize w5.drew=wd at *
       iterate 1 (refine Zf ?_ (by kernel_rfl) (fun _=>id) Z9 ?_ ?_;rotate_left;· intro w9 ZQ;clear ZQ;go_simp;try with_reducible rfl)
       refine Zf (.slice (if ca=1 then some ⟨b1,o1,none⟩ else some ⟨b1,o1+7,none⟩) As.length (ca - 1)) (by kernel_rfl) (fun _=>id) Z9 ?_ ?_
       · intro w9 ZQ;clear ZQ;go_simp;try (intro h9;omega)
       iterate 1 (refine Zf ?_ (by kernel_rfl) (fun _=>id) Z9 ?_ ?_;rotate_left;· intro w9 ZQ;clear ZQ;go_simp;try with_reducible rfl)
       refine Zf (.slice (if cb=1 then some ⟨b2,o2,none⟩ else some ⟨b2,o2+7,none⟩) Bs.length (cb - 1)) (by kernel_rfl) (fun _=>id) Z9 ?_ ?_
       · intro w9 ZQ;clear ZQ;go_simp;try (intro h9;omega)
       iterate 2 (refine Zf ?_ (by kernel_rfl) (fun _=>id) Z9 ?_ ?_;rotate_left;· intro w9 ZQ;clear ZQ;go_simp;try with_reducible rfl)
       refine ZR (by kernel_rfl) ?_ _
       simp only [Act.put,WV,WU,WT]
       clear Z9
       go_wp2_with fail
       exact ⟨⟨As,Bs,acc++[TV b],_,_,_,rfl,rfl,rfl,by simp at hlen ⊢;omega,Z2,Zx,HN,U,T⟩,by simp;omega⟩
end
section
open Go.Shelf
variable {a:Act} {ops:Array Oper} {p:ByteArray} {z:Int} {ns:List Nd} {rest:List Oper} {us:List Value} {I c g lo m n:Nat} {b:Nd} {o:TK} {o':Option Nat} {e:TypeId} {v:Value} {w w':World}
def Tryz.Ik:Go.Shelf.Ren:=⟨fun | 173=>265 | 246=>271 | 283=>216 | 284=>217 | 285=>218 | 286=>219 | 129=>241 | 317=>240 | 318=>242 | 319=>243 | 320=>244 | 337=>263 | 338=>264 | n=>n,fun | 2=>2 | 3=>3 | 9=>9 | 4=>4 | 171=>313 | 0=>0 | 53=>273 | 37=>22 | 5=>5 | 173=>316 | 212=>340 | 51=>150 | 20=>20 | 213=>341 | 46=>151 | 232=>377 | 233=>116 | n=>n,fun | 17=>6 | 18=>9 | 19=>10 | n=>n⟩
theorem Tryz.wO:Go.Proofs.LaysM.n173 Tryz.prog Tryz.Ik:={
 mixed:=by kernel_rfl
 f129:=Tryz.func241.trans (ZM some (by kernel_rfl))
 f173:=Tryz.func265.trans (ZM some (by kernel_rfl))
 f246:=Tryz.func271.trans (ZM some (by kernel_rfl))
 f283:=Tryz.func216.trans (ZM some (by kernel_rfl))
 f284:=Tryz.func217.trans (ZM some (by kernel_rfl))
 f285:=Tryz.func218.trans (ZM some (by kernel_rfl))
 f286:=Tryz.func219.trans (ZM some (by kernel_rfl))
 f317:=Tryz.func240.trans (ZM some (by kernel_rfl))
 f318:=Tryz.func242.trans (ZM some (by kernel_rfl))
 f319:=Tryz.func243.trans (ZM some (by kernel_rfl))
 f320:=Tryz.func244.trans (ZM some (by kernel_rfl))
 f337:=Tryz.func263.trans (ZM some (by kernel_rfl))
 f338:=Tryz.func264.trans (ZM some (by kernel_rfl))
 t0:=Tryz.underlying0
 a0:=Tryz.isAgg0
 z0:=Tryz.sizeOf0
 v0:=Tryz.zeroValue0
 t2:=Tryz.underlying2
 a2:=Tryz.isAgg2
 z2:=Tryz.sizeOf2
 v2:=Tryz.zeroValue2
 t3:=Tryz.underlying3
 a3:=Tryz.isAgg3
 z3:=Tryz.sizeOf3
 v3:=Tryz.zeroValue3
 t4:=Tryz.underlying4
 a4:=Tryz.isAgg4
 z4:=Tryz.sizeOf4
 v4:=Tryz.zeroValue4
 t5:=Tryz.underlying5
 a5:=Tryz.isAgg5
 z5:=Tryz.sizeOf5
 v5:=Tryz.zeroValue5
 t9:=Tryz.underlying9
 a9:=Tryz.isAgg9
 z9:=Tryz.sizeOf9
 v9:=Tryz.zeroValue9
 t20:=Tryz.underlying20
 a20:=Tryz.isAgg20
 z20:=Tryz.sizeOf20
 v20:=Tryz.zeroValue20
 t37:=Tryz.underlying22
 a37:=Tryz.isAgg22
 z37:=Tryz.sizeOf22
 v37:=Tryz.zeroValue22
 t46:=Tryz.underlying151
 a46:=Tryz.isAgg151
 z46:=Tryz.sizeOf151
 v46:=Tryz.zeroValue151
 t51:=Tryz.underlying150
 a51:=Tryz.isAgg150
 z51:=Tryz.sizeOf150
 v51:=Tryz.zeroValue150
 t53:=Tryz.underlying273
 a53:=Tryz.isAgg273
 z53:=Tryz.sizeOf273
 v53:=Tryz.zeroValue273
 t171:=Tryz.underlying313
 a171:=Tryz.isAgg313
 z171:=Tryz.sizeOf313
 v171:=Tryz.zeroValue313
 t173:=Tryz.underlying316
 a173:=Tryz.isAgg316
 z173:=Tryz.sizeOf316
 v173:=Tryz.zeroValue316
 t212:=Tryz.underlying340
 a212:=Tryz.isAgg340
 z212:=Tryz.sizeOf340
 v212:=Tryz.zeroValue340
 t213:=Tryz.underlying341
 a213:=Tryz.isAgg341
 z213:=Tryz.sizeOf341
 t232:=Tryz.underlying377
 a232:=Tryz.isAgg377
 z232:=Tryz.sizeOf377
 v232:=Tryz.zeroValue377
 t233:=Tryz.underlying116
 a233:=Tryz.isAgg116
 z233:=Tryz.sizeOf116
 v233:=Tryz.zeroValue116
 g17:=by kernel_rfl
 g18:=by kernel_rfl
 g19:=by kernel_rfl
 i0:=by kernel_rfl
 i2:=by kernel_rfl
 i3:=by kernel_rfl
 i4:=by kernel_rfl
 i5:=by kernel_rfl
 i9:=by kernel_rfl
 i20:=by kernel_rfl
 i37:=by kernel_rfl
 i46:=by kernel_rfl
 i51:=by kernel_rfl
 i53:=by kernel_rfl
 i171:=by kernel_rfl
 i173:=by kernel_rfl
 i212:=by kernel_rfl
 i232:=by kernel_rfl
 i233:=by kernel_rfl
 m17:=by kernel_rfl
 m18:=by kernel_rfl
 m19:=by kernel_rfl }
open Go.RowKit Go.Sort Go.Lib in
theorem Tryz.strconv_FormatInt_10 (n : Int) (h0 : -9223372036854775808 ≤ n) (h1 : n ≤ 9223372036854775807) (w : World) (htab : Lib.TabIs Tryz.prog w "internal/strconv.uint64pow10" .u64 Lib.pow10Tab) :
    Calls Tryz.prog 265 #[.int .i64 n,.int .i64 10] w fun e w'=>e=.returned (.string ⟨(Lib.itoa n).toArray⟩)∧∃k os,w'=grow (w.drewN k) os:=Any.strconv_FormatInt_10 Tryz.wO n h0 h1 w htab
def Tryz.Me:Go.Shelf.Ren:=⟨fun | 105=>266 | 212=>272 | 99=>192 | 165=>162 | 166=>119 | 170=>273 | 169=>120 | 263=>275 | 264=>276 | 206=>221 | 240=>163 | 241=>197 | 276=>198 | 277=>224 | n=>n,fun | 9=>9 | 3=>3 | 4=>4 | 20=>20 | 0=>0 | 46=>151 | 109=>378 | 5=>5 | 72=>180 | 76=>183 | 51=>150 | 146=>309 | 53=>273 | 148=>381 | 70=>178 | 37=>22 | 75=>182 | 127=>236 | 164=>278 | 80=>84 | n=>n,fun | n=>n⟩
theorem Tryz.rR:Go.Proofs.Lays.n105 Tryz.prog Tryz.Me:={
 mixed:=by kernel_rfl
 f99:=Tryz.func192.trans (ZM some (by kernel_rfl))
 f105:=Tryz.func266.trans (ZM some (by kernel_rfl))
 f165:=Tryz.func162.trans (ZM some (by kernel_rfl))
 f166:=Tryz.func119.trans (ZM some (by kernel_rfl))
 f169:=Tryz.func120.trans (ZM some (by kernel_rfl))
 f170:=Tryz.func273.trans (ZM some (by kernel_rfl))
 f206:=Tryz.func221.trans (ZM some (by kernel_rfl))
 f212:=Tryz.func272.trans (ZM some (by kernel_rfl))
 f240:=Tryz.func163.trans (ZM some (by kernel_rfl))
 f241:=Tryz.func197.trans (ZM some (by kernel_rfl))
 f263:=Tryz.func275.trans (ZM some (by kernel_rfl))
 f264:=Tryz.func276.trans (ZM some (by kernel_rfl))
 f276:=Tryz.func198.trans (ZM some (by kernel_rfl))
 f277:=Tryz.func224.trans (ZM some (by kernel_rfl))
 t0:=Tryz.underlying0
 a0:=Tryz.isAgg0
 z0:=Tryz.sizeOf0
 v0:=Tryz.zeroValue0
 t3:=Tryz.underlying3
 a3:=Tryz.isAgg3
 z3:=Tryz.sizeOf3
 v3:=Tryz.zeroValue3
 t4:=Tryz.underlying4
 a4:=Tryz.isAgg4
 z4:=Tryz.sizeOf4
 v4:=Tryz.zeroValue4
 t5:=Tryz.underlying5
 a5:=Tryz.isAgg5
 z5:=Tryz.sizeOf5
 v5:=Tryz.zeroValue5
 t9:=Tryz.underlying9
 a9:=Tryz.isAgg9
 z9:=Tryz.sizeOf9
 v9:=Tryz.zeroValue9
 t20:=Tryz.underlying20
 a20:=Tryz.isAgg20
 z20:=Tryz.sizeOf20
 v20:=Tryz.zeroValue20
 t37:=Tryz.underlying22
 a37:=Tryz.isAgg22
 z37:=Tryz.sizeOf22
 v37:=Tryz.zeroValue22
 t46:=Tryz.underlying151
 a46:=Tryz.isAgg151
 z46:=Tryz.sizeOf151
 v46:=Tryz.zeroValue151
 t51:=Tryz.underlying150
 a51:=Tryz.isAgg150
 z51:=Tryz.sizeOf150
 v51:=Tryz.zeroValue150
 t53:=Tryz.underlying273
 a53:=Tryz.isAgg273
 z53:=Tryz.sizeOf273
 v53:=Tryz.zeroValue273
 t70:=Tryz.underlying178
 a70:=Tryz.isAgg178
 z70:=Tryz.sizeOf178
 v70:=Tryz.zeroValue178
 t72:=Tryz.underlying180
 a72:=Tryz.isAgg180
 z72:=Tryz.sizeOf180
 v72:=Tryz.zeroValue180
 t75:=Tryz.underlying182
 a75:=Tryz.isAgg182
 z75:=Tryz.sizeOf182
 v75:=Tryz.zeroValue182
 t76:=Tryz.underlying183
 a76:=Tryz.isAgg183
 z76:=Tryz.sizeOf183
 v76:=Tryz.zeroValue183
 t109:=Tryz.underlying378
 a109:=Tryz.isAgg378
 z109:=Tryz.sizeOf378
 v109:=Tryz.zeroValue378
 t127:=Tryz.underlying236
 a127:=Tryz.isAgg236
 z127:=Tryz.sizeOf236
 v127:=Tryz.zeroValue236
 t146:=Tryz.underlying309
 a146:=Tryz.isAgg309
 z146:=Tryz.sizeOf309
 v146:=Tryz.zeroValue309
 t148:=Tryz.underlying381
 a148:=Tryz.isAgg381
 z148:=Tryz.sizeOf381
 v148:=Tryz.zeroValue381
 t164:=Tryz.underlying278
 a164:=Tryz.isAgg278
 z164:=Tryz.sizeOf278
 v164:=Tryz.zeroValue278 }
theorem Tryz.Np:Builder.Extra Tryz.prog Tryz.Me:={
 sizeBuilder:=by kernel_rfl
 liesBuilder:=by kernel_rfl
 t5:=Tryz.underlying5
 a5:=Tryz.isAgg5
 z5:=Tryz.sizeOf5
 v5:=Tryz.zeroValue5
 infoByte:=by kernel_rfl
 cellsByte:=by kernel_rfl
 sizeByte:=by kernel_rfl
 neB5:=by decide }
open Go.RowKit Go.Lib in
theorem Tryz.strings_Repeat (s:ByteArray) (c:Nat) (w:World) (hc:c≤9223372036854775807) (hlen:s.size*c≤140737488355328) :
    Calls Tryz.prog 266 #[.string s,.int .i64 c] w (Wj w (.string ⟨(Lib.repeatL s.data.toList c).toArray⟩)):=Any.strings_Repeat Tryz.rR Tryz.Np s c w hc hlen
end
section
open Go.RowKit Go.Shelf
variable {a:Act} {ops:Array Oper} {p:ByteArray} {z:Int} {ns:List Nd} {rest:List Oper} {us:List Value} {I c g lo m n:Nat} {b:Nd} {o:TK} {o':Option Nat} {e:TypeId} {v:Value} {w w':World}
theorem kz (v:Nat):1≤(Lib.decDigits v).length:=by
 unfold Lib.decDigits
 split
 · simp
 simp
theorem KV {v:Nat} (h:v<10):Lib.decDigits v=[UInt8.ofNat (48+v)]:=by rw [Lib.decDigits,dif_pos h]
theorem wN {v:Nat} (h:¬v<10):Lib.decDigits v=Lib.decDigits (v / 10)++[UInt8.ofNat (48+v % 10)]:=by rw [Lib.decDigits,dif_neg h]
theorem wM:∀f v d,v<10 ^ f→d≤f→six f v d=if v=0∧d=0 then [] else List.replicate (d - (Lib.decDigits v).length) 48++Lib.decDigits v
 | 0,v,d,hv,hd=>by
  have h1:v=0:=by simpa using hv
  have h2:d=0:=by omega
  rw [Z0 ⟨h1,h2⟩];rfl
 | f+1,v,d,hv,hd=>by
  unfold six
  by_cases h0:v=0∧d=0
  · rw [Z0 h0,Z0 h0]
  rw [Z1 h0,Z1 h0,wM f (v / 10) (d - 1) (by rw [Uc] at hv;omega) (by omega)]
  by_cases hs:v<10
  · rw [KV hs,show v / 10=0 by omega,show v % 10=v by omega]
    by_cases hd1:d - 1=0
    · rw [Z0 ⟨rfl,hd1⟩]
      have:d - [UInt8.ofNat (48+v)].length=0:=by simp;omega
      rw [this]
      rfl
    rw [Z1 (fun h=>hd1 h.2),KV (v:=0) (by omega)];show List.replicate (d - 1 - 1) 48++[UInt8.ofNat 48]++_=List.replicate (d - 1) 48++_
    congr 1
    rw [show d - 1=(d - 1 - 1)+1 by omega,US]
    rfl
  rw [Z1 (fun h=>by omega),wN hs,ZO,ZZ]
  congr 2
  show d - 1 - _=d - (_+1);omega
theorem wK:∀f v,v<10 ^ f→1≤f→(Lib.decDigits v).length≤f
 | 0,_,_,h=>by omega
 | f+1,v,hv,_=>by
  by_cases hs:v<10
  · rw [KV hs];simp
  rw [wN hs,ZZ];have h1:v / 10<10 ^ f:=by rw [Uc] at hv;omega
  have hf:1≤f:=by
   rcases Nat.eq_zero_or_pos f with h | h
   · subst h;simp at h1;omega
   exact h
  have:=wK f (v / 10) h1 hf
  simp;omega
theorem wJ (c:Nat):Lib.repeatL [48] c=List.replicate c (48:UInt8):=by
 have:=Lib.repeatL_replicate 48 1 c;rw [Yr] at this;exact this
theorem Fj (w:World) (k:Nat) (os:Array Obj):Zi w (Sort.grow (w.drewN k) os) :=
 ⟨rfl,rfl,rfl,by simp [Sort.grow,World.drewN],fun q hq=>by simp [Sort.grow,World.drewN,Array.getElem?_append_left hq]⟩
theorem Do (w : World) (n : Int) (h0 : 0 ≤ n) (h1 : n ≤ 2147483647) (htab : Lib.TabIs Tryz.prog w "internal/strconv.uint64pow10" .u64 Lib.pow10Tab) :
    Calls Tryz.prog 249 #[.int .i64 n] w (Wj w (.string ⟨(six 12 n.toNat 6).toArray⟩)):=by
 have wI:Hid (Calls Tryz.prog 265 #[.int .i64 n,.int .i64 10] w (Wj w (.string ⟨(Lib.decDigits n.toNat).toArray⟩))):=by
  refine (Tryz.strconv_FormatInt_10 n (by omega) (by omega) w htab).mono ?_;rintro e w' ⟨rfl,k,os,rfl⟩;refine ⟨?_,Fj w k os⟩;unfold Lib.itoa;rw [Z1 (by omega)]
 have hv:n.toNat<10 ^ 12:=by omega
 have hl:=wK 12 n.toNat hv (by omega);have hl1:=kz n.toNat;have HS:Hid (six 12 n.toNat 6=List.replicate (6 - (Lib.decDigits n.toNat).length) 48++Lib.decDigits n.toNat):=by
  show _=_;rw [wM 12 _ _ hv (by omega),Z1 (by omega)]
 obtain ⟨s,hs⟩:∃s:ByteArray,s=⟨(Lib.decDigits n.toNat).toArray⟩:=⟨_,rfl⟩;have hsz:s.size=(Lib.decDigits n.toNat).length:=by rw [hs];show (List.toArray _).size=_;rw [ZI]
 rw [←hs] at wI;have wH:=ZU hs;have LY:=ZU hsz;have hs1:1≤s.size:=by omega
 have hs2:s.size≤12:=by omega
 clear htab hv hs hl hl1 hsz;obtain ⟨c,hc⟩:∃c:Nat,c=6 - s.size:=⟨_,rfl⟩;have iZ:Hid (∀W,Calls Tryz.prog 266 #[.string ⟨#[48]⟩,.int .i64 (c:Int)] W (Wj W (.string ⟨(List.replicate c (48:UInt8)).toArray⟩))):=fun W=>by
  have h9:=Tryz.strings_Repeat ⟨#[48]⟩ c W (by omega) (by show 1*c≤_;omega);rw [show (⟨#[48]⟩:ByteArray).data.toList=[48] from rfl,wJ] at h9;exact h9
 have hcm:max (0:Int) (6 - (s.size:Int))=(c:Int):=by omega
 go_enter Tryz.func249,Tryz.ntmps249
 go_wp2_with fail
 refine wI.out.mono ?_;rintro e w1 ⟨rfl,b1⟩;have B1:=ZU b1;clear b1 wI
 go_wp2_with fail
 rw [←hc];refine (iZ.out w1).mono ?_;rintro e w2 ⟨rfl,b2⟩;have B2:=ZU (WD B1.out b2);clear b2 iZ B1 hcm;obtain ⟨t,ht⟩:∃t:ByteArray,t=⟨(List.replicate c (48:UInt8)).toArray⟩:=⟨_,rfl⟩;have hts:t.size=c:=by rw [ht];show (List.toArray _).size=_;rw [ZI,XJ]
 rw [←ht];have PO:Hid (t++s=⟨(six 12 n.toNat 6).toArray⟩):=by
  show _=_;rw [HS.out,←LY.out,←hc,ht,wH.out];apply WM;rw [Yd];apply UW
  simp
 clear ht;have hcc:t.size+s.size≤9223372036854775807:=by omega
 clear hc
 go_wp2_with fail
 refine ZW (v:=.string (t++s)) (by simp [results,Tryz.results249,go_sem]) rfl ⟨by rw [PO.out],B2.out⟩
end
end Go.Proofs.YtpmjnbmkippaiaaGreatDoor


