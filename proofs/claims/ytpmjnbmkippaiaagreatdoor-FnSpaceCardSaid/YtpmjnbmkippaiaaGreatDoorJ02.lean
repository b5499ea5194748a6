import Derived.Test.YtpmjnbmkippaiaaGreatDoorJ01
import Derived.Defers
import Derived.Recover
set_option maxRecDepth 100000
set_option maxHeartbeats 16000000
set_option linter.all false
namespace Go.Proofs.YtpmjnbmkippaiaaGreatDoor
open Go.RowKit Go.Shelf
variable {A:Array Value} {a s:ByteArray} {es:List Ef} {r r' ys:List Int} {ns:List Nd} {B b k:Nat} {f:Nat × Nat} {n:Nd} {row:Option Nat} {e t:TypeId} {v:Value} {W W' w w' w0:World}
def Low (ns:List Nd) (p:ByteArray) (L:Nat):Prop:=L≤ns.length∧(∀i,i<L→PD (Ye ns i).path p<0)∧∀i,L≤i→i<ns.length→¬PD (Ye ns i).path p<0
def NM (ns:List Nd) (p:ByteArray) (L:Nat):Bool:=decide (L<ns.length) && (PD (Ye ns L).path p == 0)
theorem pj (w:World) (b o n cap L:Nat) (ns:List Nd) (p:ByteArray) (hp:ns.length=n) (hn:n≤1000) (hb:b<w.heap.size) (hc:∀i,i<n→Um w b (o+i*7) (Ye ns i)) (hL:Low ns p L) :
    Calls Tryz.prog 156 #[.slice (some ⟨b,o,none⟩) n cap,.string p,.func (.func 157) #[] #[]] w (Wj w (.tuple #[.int .i64 (L:Int),.bool (NM ns p L)])):=by
 obtain ⟨l1,l2,l3⟩:=hL;have HC:=ZU hc;have HP:=ZU hp;have H2:=ZU l2;have H3:=ZU l3;rw [hp] at l1;clear hc hp l2 l3
 go_enter Tryz.func156,Tryz.ntmps156
 go_wp2
 go_loopw [9,10] (fun vi vj wr=>∃i j:Nat,i≤L∧L≤j∧j≤n∧vi=.int .i64 i∧vj=.int .i64 j∧Hid (Zi w wr)) (fun i j _=>(intOf j - intOf i).toNat)
 case atStart=>exact ⟨0,n,Zu _,l1,YR,rfl,rfl,Yy⟩
 case round =>
  obtain ⟨i,j,hi,hj,hjn,rfl,rfl,HB⟩:=hrel
  by_cases hlt:i<j
  · have Rj:(i:Int)<(j:Int):=by omega
    obtain ⟨h,hh⟩:∃h:Nat,h=(i+j) / 2:=⟨_,rfl⟩;have hI:((i:Int)+(j:Int)) / 2=(h:Int):=by omega
    have h1:i≤h:=by omega
    have h2:h<j:=by omega
    have h3:h<n:=by omega
    clear hh;obtain ⟨c0,c1,c2,c3,c4,c5,c6⟩:=(HC.out h h3).below HB.out hb
    go_wp2_with fail
    refine (Jq wr (Ye ns h) p).mono ?_;rintro e w1 ⟨rfl,b1⟩;have B1:=ZU (WD HB.out b1);clear b1 c0 c1 c2 c3 c4 c5 c6 HB
    by_cases hc:PD (Ye ns h).path p<0
    · have J:h<L:=by
       by_cases hh:h<L
       · exact hh
       exact absurd hc (by have:=H3.out h (by omega) (by rw [HP.out];exact h3);omega)
      go_wp2;exact ⟨⟨h+1,j,by omega,hj,hjn,by go_num,rfl,B1⟩,by simp [intOf];omega⟩
    have J:L≤h:=by
     by_cases hh:h<L
     · exact absurd (H2.out h hh) hc
     omega
    go_wp2;exact ⟨⟨i,h,hi,J,by omega,rfl,by go_num,B1⟩,by simp [intOf];omega⟩
  have Z2:i=L:=by omega
  subst Z2;have Zx:¬(i:Int)<(j:Int):=by omega
  by_cases hLn:i<n
  · have ZN:(i:Int)<(n:Int):=by omega
    have HF:Hid (NM ns p i=(PD (Ye ns i).path p == 0)):=by show _=_;unfold NM;rw [HP.out,Zm hLn];rfl
    obtain ⟨c0,c1,c2,c3,c4,c5,c6⟩:=(HC.out i hLn).below HB.out hb
    go_wp2_with fail
    refine (Jq wr (Ye ns i) p).mono ?_;rintro e w1 ⟨rfl,b1⟩;have B1:=ZU (WD HB.out b1);clear b1 c0 c1 c2 c3 c4 c5 c6 HB;go_wp2;refine ZW (v:=.tuple #[.int .i64 (i:Int),.bool (PD (Ye ns i).path p == 0)]) (by simp [results,Tryz.results156,go_sem]) rfl ⟨by rw [HF.out],B1.out⟩
  have ZN:¬(i:Int)<(n:Int):=by omega
  have HF:Hid (NM ns p i=false):=by show _=_;unfold NM;rw [HP.out,Zo hLn];rfl
  go_wp2;refine ZW (v:=.tuple #[.int .i64 (i:Int),.bool false]) (by simp [results,Tryz.results156,go_sem]) rfl ⟨by rw [HF.out],HB.out⟩
theorem pi (w:World) (ao:Option Addr) (cap:Nat) (p:ByteArray) :
    Calls Tryz.prog 156 #[.slice ao 0 cap,.string p,.func (.func 157) #[] #[]] w fun e w'=>e=.returned (.tuple #[.int .i64 0,.bool false])∧w'=w:=by
 go_enter Tryz.func156,Tryz.ntmps156
 go_wp2
 go_rounds 1
 refine ZW (v:=.tuple #[.int .i64 0,.bool false]) (by simp [results,Tryz.results156,go_sem]) rfl ⟨rfl,rfl⟩
theorem P9 (w:World) (v:Value) (ns:List Nd) (p:ByteArray) (L:Nat) (h:SK w v ns) (hn:ns.length≤1000) (hL:Low ns p L) :
    Calls Tryz.prog 115 #[v,.string p] w (Wj w (.tuple #[.int .i64 (L:Int),.bool (NM ns p L)])):=by
 have H:Hid (Calls Tryz.prog 156 #[v,.string p,.func (.func 157) #[] #[]] w (Wj w (.tuple #[.int .i64 (L:Int),.bool (NM ns p L)]))):=by
  obtain ⟨ao,cap,rfl,h1,h2,h3⟩:=h
  rcases h3 with rfl | ⟨b,o,rfl,hb,hc⟩
  · have hL0:L=0:=by have:=hL.1;simpa using this
    subst hL0;refine (pi w ao cap p).mono ?_;rintro e w' ⟨rfl,rfl⟩;exact ⟨rfl,Yy⟩
  exact pj w b o ns.length cap L ns p rfl hn hb hc hL
 clear h hL
 go_enter Tryz.func115,Tryz.ntmps115
 go_wp2_with fail
 refine H.out.mono ?_;rintro e w1 ⟨rfl,b1⟩;have B1:=ZU b1;clear b1 H;go_wp2;refine ZW (v:=.tuple #[.int .i64 (L:Int),.bool (NM ns p L)]) (by simp [results,Tryz.results115,go_sem]) rfl ⟨rfl,B1.out⟩
theorem IC (x:Nat):(BitVec.ofInt 64 (wrap64 (x:Int))).toNat=x % 18446744073709551616:=by
 rw [BitVec.toNat_ofInt];unfold wrap64;omega
theorem yj (x b:Nat) (hb:b<256):bits .or .i64 (wrap64 ((x:Int)*256)) (b:Int)=wrap64 (((x*256+b:Nat):Int)):=by
 show IntKind.i64.wrap ((BitVec.ofInt 64 (wrap64 ((x:Int)*256)) ||| BitVec.ofInt 64 (b:Int)).toNat:Int)=_;have e1:(BitVec.ofInt 64 (wrap64 ((x:Int)*256))).toNat=x*256 % 18446744073709551616:=by
  have:=IC (x*256);rw [Int.natCast_mul] at this;exact this
 have e2:(BitVec.ofInt 64 (b:Int)).toNat=b:=by
  rw [BitVec.ofInt_natCast,BitVec.toNat_ofNat];exact SV (by omega)
 rw [BitVec.toNat_or,e1,e2,nat_join 8 (x*256 % 18446744073709551616) b (by simp only [Nat.reducePow];omega) (by simpa using hb),Zq];unfold wrap64;omega
theorem DM (x:Nat):wrap64 (wrap64 (x:Int)*256)=wrap64 ((x:Int)*256):=by unfold wrap64;omega
def nG (ys:List Int):Int:=wrap64 ((Uh (ys.take 8):Nat):Int)
def nB (ys:List Int):Int:=((Uh ((ys.drop 8).take 1):Nat):Int)
def nS (ys:List Int):Int:=((Uh ((ys.drop 9).take 4):Nat):Int)
def nL (ys:List Int):Int:=((Uh ((ys.drop 13).take 4):Nat):Int)
def nC (ys:List Int):Int:=((Uh ((ys.drop 17).take 4):Nat):Int)
abbrev OD (ys:List Int):Prop:=ys.length=64∧sup (nG ys) (nB ys) (nS ys) (nL ys) (nC ys)=ys
def IB (ys:List Int):Value:=if OD ys then .agg #[.bool true,.int .i64 (nG ys),.int .i64 (nB ys),.int .i64 (nS ys),.int .i64 (nL ys),.int .i64 (nC ys)] else .agg #[.bool false,.int .i64 0,.int .i64 0,.int .i64 0,.int .i64 0,.int .i64 0]
theorem AL {g b s l c:Int} (h:sup g b s l c=ys) (h0:ys≠[]):ys.length=64:=by
 subst h;unfold sup at h0 ⊢
 split
 · exact Lt _ _ _ _ _
 rename_i hn;rw [Z1 hn] at h0;exact absurd rfl h0
def QV:List PanicEntry:=[{ v:=.iface 296 (.agg #[]),recovered:=false }]
theorem yi (w:World) (k n c m:Nat) (ao:Option Addr) (h0:w.cell? ⟨k,0,none⟩=some (.slice ao n c)) (hm:n<m) :
    Calls Tryz.prog 204 #[.pointer (some ⟨k,0,none⟩),.int .i64 m] w fun e w'=>e=.panicked QV∧w'=w:=by
 have hI:(n:Int)<(m:Int):=by omega
 go_enter Tryz.func204,Tryz.ntmps204
 go_wp2;exact ⟨rfl,rfl,rfl⟩
def yh (w:World) (k b o n c m:Nat) (e:Ending) (w':World):Prop:=e=.returned (.slice (some ⟨b,o,none⟩) m c)∧∃o',(o'=o+m∨n=m)∧w'=w.setCell ⟨k,0,none⟩ (.slice (some ⟨b,o',none⟩) (n - m) (c - m))
theorem Ce (w:World) (k b o n c m:Nat) (h0:w.cell? ⟨k,0,none⟩=some (.slice (some ⟨b,o,none⟩) n c)) (hz:w.frozen? ⟨k,0,none⟩=false) (hm:m≤n) (hm0:0<m) (hc:n≤c) :
    Calls Tryz.prog 204 #[.pointer (some ⟨k,0,none⟩),.int .i64 m] w fun e w'=>yh w k b o n c m e w':=by
 have hI:¬(n:Int)<(m:Int):=by omega
 by_cases hcm:c=m
 · subst hcm
   go_enter Tryz.func204,Tryz.ntmps204
   go_wp2;go_ret;exact ⟨rfl,o,.inr (by omega),by rw [Wf,show n - c=0 by omega]⟩
 have hcm':m<c:=by omega
 go_enter Tryz.func204,Tryz.ntmps204
 go_wp2;go_ret;exact ⟨rfl,o+m,.inl rfl,rfl⟩
def RS (w0 w:World) (k:Nat) (ys:List Int):Prop :=
 w0.heap.size≤k∧k<w.heap.size∧w.frozen? ⟨k,0,none⟩=false∧Zi w0 w∧∃v,w.cell? ⟨k,0,none⟩=some v∧Rd .u8 w0 v ys
theorem RS.drewN (h:RS w0 w k ys) (q:Nat):RS w0 (w.drewN q) k ys :=
 ⟨h.1,h.2.1,h.2.2.1,h.2.2.2.1.trans ((below_drewN' w q).mono h.2.2.2.1.size),h.2.2.2.2⟩
theorem RS.keep (h:RS w0 w k ys) (hb:Below B w w') (hk:k<B):RS w0 w' k ys:=by
 obtain ⟨h1,h2,h3,h4,v,h5,h6⟩:=h;exact ⟨h1,ZY h2 hb.size,(hb.frozen (p:=⟨k,0,none⟩) hk).trans h3,h4.trans (hb.mono (by omega)),v,(hb.cell (p:=⟨k,0,none⟩) hk).trans h5,h6⟩
theorem RS.set {zs:List Int} (h:RS w0 w k ys) (hv:Rd .u8 w0 v zs):RS w0 (w.setCell ⟨k,0,none⟩ v) k zs:=by
 obtain ⟨h1,h2,h3,h4,u,h5,h6⟩:=h;refine ⟨h1,by simpa using h2,?_,h4.setCell h1 _,v,Zk _ _ _ h5,hv⟩;rw [Zb];exact h3
theorem Rd.split {k:IntKind} {o n c:Nat} (h:Rd k w (.slice (some ⟨b,o,none⟩) n c) ys) (m:Nat) (hm:m≤n) (hm0:0<m) :
    Rd k w (.slice (some ⟨b,o,none⟩) m c) (ys.take m)∧∀o',(o'=o+m∨n=m)→Rd k w (.slice (some ⟨b,o',none⟩) (n - m) (c - m)) (ys.drop m):=by
 obtain ⟨ao,cap,e,h1,h2,h3⟩:=h
 simp only [ZC] at e
 obtain ⟨rfl,rfl,rfl⟩:=e
 rcases h3 with rfl | ⟨b',o',e',hb,hc⟩
 · simp at hm;omega
 simp only [ZK,Ym,VB] at e'
 obtain ⟨rfl,rfl⟩:=e';refine ⟨⟨some ⟨b,o,none⟩,c,by rw [Zw,YC hm],by rw [Zw];omega,h2,.inr ⟨b,o,rfl,hb,fun i hi=>?_⟩⟩,fun o' ho'=>⟨some ⟨b,o',none⟩,c - m,by rw [ZS],by rw [ZS];omega,by omega,?_⟩⟩
 · rw [Zw] at hi
   rw [hc i (by omega)]
   simp [List.getD,XP (show i<m by omega)]
 rcases ho' with rfl | hnm
 · refine .inr ⟨b,o+m,rfl,hb,fun i hi=>?_⟩
   rw [ZS] at hi;rw [Xu,hc (m+i) (by omega)]
   simp [List.getD]
 exact .inl (Xx (by omega))
theorem Gk (w0 w:World) (k m:Nat) (ys:List Int) (h:RS w0 w k ys) (hm:m≤ys.length) (hm0:0<m) :
    Calls Tryz.prog 204 #[.pointer (some ⟨k,0,none⟩),.int .i64 m] w fun e w'=>∃b o c v',e=.returned (.slice (some ⟨b,o,none⟩) m c)∧b<w0.heap.size∧(∀i,i<m→w0.cell? ⟨b,o+i,none⟩=some (.int .u8 (ys.getD i 0)))∧RS w0 w' k (ys.drop m)∧w'=w.setCell ⟨k,0,none⟩ v':=by
 obtain ⟨h1,h2,h3,h4,v,h5,h6⟩:=h;have h6':=h6;obtain ⟨ao,c,rfl,g1,g2,g3⟩:=h6
 rcases g3 with rfl | ⟨b,o,rfl,hb,hc⟩
 · simp at hm;omega
 refine (Ce w k b o ys.length c m h5 h3 hm hm0 g1).mono ?_;rintro e w' ⟨rfl,o',ho',rfl⟩;exact ⟨b,o,c,_,rfl,hb,fun i hi=>hc i (by omega),RS.set ⟨h1,h2,h3,h4,_,h5,h6'⟩ ((Rd.split h6' m hm hm0).2 o' ho'),rfl⟩
theorem MO (w0 w:World) (k m:Nat) (ys:List Int) (h:RS w0 w k ys) (hm:ys.length<m) :
    Calls Tryz.prog 204 #[.pointer (some ⟨k,0,none⟩),.int .i64 m] w fun e w'=>e=.panicked QV∧w'=w:=by
 obtain ⟨-,-,-,-,v,h5,h6⟩:=h;obtain ⟨ao,c,rfl,-,-,-⟩:=h6;exact yi w k _ c m ao h5 hm
theorem VG (w0 w:World) (k m:Nat) (ys:List Int) (h:RS w0 w k ys) (hm:ys.length<m) :
    Calls Tryz.prog 175 #[.pointer (some ⟨k,0,none⟩),.int .i64 m] w fun e w'=>e=.panicked QV∧w'=w:=by
 have H:=ZU (MO w0 w k m ys h hm);clear h hm
 go_enter Tryz.func175,Tryz.ntmps175
 go_wp2_with fail
 refine H.out.mono ?_;rintro e w1 ⟨rfl,rfl⟩;exact ⟨rfl,rfl,rfl⟩
theorem Vc (w0 w:World) (k m:Nat) (ys:List Int) (h:RS w0 w k ys) (hm:m≤ys.length) (hm0:0<m) (Zv:m≤8) (hby:Sn ys) :
    Calls Tryz.prog 175 #[.pointer (some ⟨k,0,none⟩),.int .i64 m] w fun e w'=>e=.returned (.int .i64 (wrap64 ((Uh (ys.take m):Nat):Int)))∧RS w0 w' k (ys.drop m)∧∃v' q,w'=(w.setCell ⟨k,0,none⟩ v').drewN q:=by
 have H:=ZU (Gk w0 w k m ys h hm hm0);have Lp:=ZU hby
 have HM:=ZU hm;clear h hby hm
 go_enter Tryz.func175,Tryz.ntmps175
 go_wp2_with fail
 refine H.out.mono ?_;rintro e w1 ⟨b,o,c,v',rfl,hb,hc,hr,hw⟩;have HC:=ZU hc;have HR:=ZU hr;have HW:=ZU hw;clear hc hr hw;go_wp2
 go_loopw [5,12] (fun vn vi wr=>∃(i:Nat) (z:Int),i≤m∧vi=.int .i64 i∧vn=.int .i64 z∧Hid (z=wrap64 ((Uh (ys.take i):Nat):Int))∧∃q,wr=w1.drewN q) (fun _ i _=>m - (intOf i).toNat)
 case atStart=>exact ⟨0,0,Zu _,rfl,rfl,(by show (0:Int)=_;unfold wrap64;rw [WI,ym];rfl),0,rfl⟩
 case round =>
  obtain ⟨i,z,hi,rfl,rfl,HZ,q,rfl⟩:=hrel
  by_cases hlt:i<m
  · have hI:(i:Int)<(m:Int):=by omega
    obtain ⟨x,hx,hxe⟩:=DV Lp.out i;have c1:w1.cell? ⟨b,o+i,none⟩=some (.int .u8 (x:Int)):=by rw [HR.out.2.2.2.1.cell (p:=⟨b,o+i,none⟩) hb,HC.out i hlt,hxe]
    have ZI:=ZU hxe;have Zr:(x:Int)<256:=by omega
    clear hxe;have HN:Hid (bits .or .i64 (wrap64 (z*256)) (x:Int)=wrap64 ((Uh (ys.take (i+1)):Nat):Int)):=by
     show _=_;have ht:ys.take (i+1)=ys.take i++[(x:Int)]:=by
      have hl:i<ys.length:=by have:=HM.out;omega
      have he:=ZI.out
      simp only [List.getD,ZF hl,Xf] at he
      rw [YW hl,he]
     rw [ht,Jr,HZ.out,DM,yj _ _ hx,Ze]
    go_wp2;exact ⟨⟨i+1,_,by omega,by go_num,rfl,HN,q,rfl⟩,by simp [intOf];omega⟩
  have him:i=m:=by omega
  subst him;have ZG:=ZU (HR.out.drewN q);have ZE:Hid (∃v' q',w1.drewN q=(w.setCell ⟨k,0,none⟩ v').drewN q'):=⟨v',q,by rw [HW.out]⟩;go_wp2;go_ret;exact ⟨Pd HZ.out,ZG.out,ZE.out⟩
def DL:List Int→Option (ByteArray × List Int)
 | []=>none
 | y :: r=>if y.toNat≤r.length then some (strOfNums (r.take y.toNat),r.drop y.toNat) else none
def UL (ys:List Int) (i:Nat):Int:=((Uh ((ys.drop (4*i)).take 4):Nat):Int)
def QF (ys:List Int):Option (Nd × List Int) :=
 match DL ys with
 | none=>none
 | some (p,r1) =>
  match DL r1 with
  | none=>none
  | some (d,r2)=>if 20≤r2.length then some (⟨p,d,UL r2 0,UL r2 1,UL r2 2,UL r2 3,UL r2 4⟩,r2.drop 20) else none
theorem TW (h:Sn ys) (n:Nat):Sn (ys.drop n):=fun x hx=>h x (XV hx)
theorem ye (h:DL ys=some (s,r)):∃y t,ys=y :: t∧y.toNat≤t.length∧s=strOfNums (t.take y.toNat)∧r=t.drop y.toNat:=by
 cases ys with
 | nil=>simp [DL] at h
 | cons y t =>
  simp only [DL] at h
  by_cases hy:y.toNat≤t.length
  · rw [Z0 hy] at h
    simp only [ZK,Rv] at h
    exact ⟨y,t,rfl,hy,h.1.symm,h.2.symm⟩
  rw [Z1 hy] at h;cases h
theorem LM (h:DL ys=some (s,r)) (hb:Sn ys):Sn r∧r.length<ys.length∧s.size<256:=by
 obtain ⟨y,t,rfl,h1,rfl,rfl⟩:=ye h;refine ⟨fun x hx=>hb x (Zp _ (XV hx)),by simp;omega,?_⟩;have:=hb y (by simp);rw [strOfNums_size,Zw];omega
theorem NK (h:QF ys=some (n,r)) (hb:Sn ys):Sn r∧r.length<ys.length∧n.path.size<256∧n.data.size<256:=by
 unfold QF at h
 cases h1:DL ys with
 | none=>rw [h1] at h;cases h
 | some q =>
  obtain ⟨p,r1⟩:=q;rw [h1] at h
  simp only at h
  cases h2:DL r1 with
  | none=>rw [h2] at h;cases h
  | some q2 =>
   obtain ⟨d,r2⟩:=q2;rw [h2] at h
   simp only at h
   by_cases h3:20≤r2.length
   · rw [Z0 h3] at h
     simp only [ZK,Rv] at h
     obtain ⟨rfl,rfl⟩:=h;have b1:=LM h1 hb;have b2:=LM h2 b1.1;refine ⟨TW b2.1 _,?_,b1.2.2,b2.2.2⟩;rw [ZS];omega
   rw [Z1 h3] at h;cases h
def Cd:Nat→List Int→Option (List Nd)
 | 0,ys=>if ys=[] then some [] else none
 | f+1,ys=>if ys=[] then some [] else
  match QF ys with
  | none=>none
  | some (n,r)=>(Cd f r).map (n :: ·)
theorem th (f:Nat):Cd f []=some []:=by cases f <;> simp [Cd]
theorem yd {f:Nat} (h:ys≠[]) (hr:QF ys=none):Cd f ys=none:=by
 cases f with
 | zero=>simp [Cd,h]
 | succ f=>simp [Cd,h,hr]
theorem yb {f:Nat} (h:ys≠[]) (hr:QF ys=some (n,r)):Cd (f+1) ys=(Cd f r).map (n :: ·):=by simp [Cd,h,hr]
def yL (ys:List Int) (ns:List Nd) (r:List Int):Prop:=∃f,r.length≤f∧Cd ys.length ys=(Cd f r).map (ns++·)∧ns.length+r.length≤ys.length
theorem yL.start (ys:List Int):yL ys [] ys:=⟨ys.length,YR,by simp,by simp⟩
theorem yL.step (h:yL ys ns r) (hb:Sn r) (hr:QF r=some (n,r')):yL ys (ns++[n]) r':=by
 obtain ⟨f,hf,he,hl⟩:=h;have h1:=(NK hr hb).2.1;have hne:r≠[]:=fun e=>by rw [e] at h1;simp at h1
 cases f with
 | zero=>omega
 | succ f =>
  refine ⟨f,by omega,?_,by simp;omega⟩;rw [he,yb hne hr,Option.map_map]
  congr 1
  funext l
  simp
theorem yL.done (h:yL ys ns []):Cd ys.length ys=some ns:=by
 obtain ⟨f,-,he,-⟩:=h;rw [he,th];simp
theorem yL.bad (h:yL ys ns r) (hne:r≠[]) (hr:QF r=none):Cd ys.length ys=none:=by
 obtain ⟨f,-,he,-⟩:=h;rw [he,yd hne hr];rfl
def Gj (ys:List Int):Option (List Nd) :=
 match Cd ys.length ys with
 | none=>none
 | some ns=>if WE ns then some ns else none
theorem take_zero (w:World) (k n c:Nat) (ao:Option Addr) (h0:w.cell? ⟨k,0,none⟩=some (.slice ao n c)) (hz:w.frozen? ⟨k,0,none⟩=false) :
    Calls Tryz.prog 204 #[.pointer (some ⟨k,0,none⟩),.int .i64 0] w fun e w'=>e=.returned (.slice ao 0 c)∧w'=w.setCell ⟨k,0,none⟩ (.slice ao n c):=by
 have hI:¬(n:Int)<0:=by omega
 go_enter Tryz.func204,Tryz.ntmps204
 cases ao with
 | none =>
  go_wp2;go_ret;exact ⟨rfl,rfl⟩
 | some a =>
  go_wp2;go_ret;exact ⟨rfl,rfl⟩
theorem x8 (w0 w:World) (k m:Nat) (ys:List Int) (h:RS w0 w k ys) (hm:m≤ys.length) :
    Calls Tryz.prog 204 #[.pointer (some ⟨k,0,none⟩),.int .i64 m] w fun e w'=>∃v1,e=.returned v1∧Rd .u8 w0 v1 (ys.take m)∧RS w0 w' k (ys.drop m)∧w.grownBy w' (some k):=by
 have h':=h;obtain ⟨h1,h2,h3,h4,v,h5,h6⟩:=h;have h6':=h6;obtain ⟨ao,c,rfl,g1,g2,g3⟩:=h6
 by_cases hm0:m=0
 · subst hm0
   refine (take_zero w k ys.length c ao h5 h3).mono ?_;rintro e w' ⟨rfl,rfl⟩;refine ⟨_,rfl,⟨ao,c,by simp,Zu _,g2,.inl (WI)⟩,?_,grownBy_set _ _ _ _ _ (Zz _ _)⟩;rw [XR];exact RS.set h' h6'
 rcases g3 with rfl | ⟨b,o,rfl,hb,hc⟩
 · simp at hm;omega
 refine (Ce w k b o ys.length c m h5 h3 hm (by omega) g1).mono ?_;rintro e w' ⟨rfl,o',ho',rfl⟩;have hs:=Rd.split h6' m hm (by omega);exact ⟨_,rfl,hs.1,RS.set h' (hs.2 o' ho'),grownBy_set _ _ _ _ _ (Zz _ _)⟩
theorem Gi (w0 w:World) (k:Nat) (y:Int) (r:List Int) (h:RS w0 w k (y :: r)) :
    Calls Tryz.prog 233 #[.pointer (some ⟨k,0,none⟩)] w fun e w'=>e=.returned (.int .u8 y)∧RS w0 w' k r∧w.grownBy w' (some k):=by
 have H:Hid (Calls Tryz.prog 204 #[.pointer (some ⟨k,0,none⟩),.int .i64 1] w fun e w'=>∃b o c,e=.returned (.slice (some ⟨b,o,none⟩) 1 c)∧w'.cell? ⟨b,o,none⟩=some (.int .u8 y)∧Hid (RS w0 w' k r)∧Hid (w.grownBy w' (some k))):=by
  refine (Gk w0 w k 1 (y :: r) h (by simp) (by omega)).mono ?_;rintro e w' ⟨b,o,c,v',rfl,hb,hc,hr,rfl⟩;have h0:=hc 0 (by omega);refine ⟨b,o,c,rfl,?_,(by show RS _ _ _ _;simpa using hr),grownBy_set _ _ _ _ _ (Zz _ _)⟩;rw [hr.2.2.2.1.cell (p:=⟨b,o,none⟩) hb]
  simpa using h0
 clear h
 go_enter Tryz.func233,Tryz.ntmps233
 go_wp2_with fail
 refine H.out.mono ?_;rintro e w1 ⟨b,o,c,rfl,hc,hr,hg⟩;go_wp2;go_ret;exact ⟨rfl,hr.out,hg.out⟩
theorem IA (w0 w:World) (k:Nat) (h:RS w0 w k []) :
    Calls Tryz.prog 233 #[.pointer (some ⟨k,0,none⟩)] w fun e w'=>e=.panicked QV∧w'=w:=by
 have H:Hid (Calls Tryz.prog 204 #[.pointer (some ⟨k,0,none⟩),.int .i64 1] w fun e w'=>e=.panicked QV∧w'=w):=MO w0 w k 1 [] h (by simp);clear h
 go_enter Tryz.func233,Tryz.ntmps233
 go_wp2_with fail
 refine H.out.mono ?_;rintro e w1 ⟨rfl,rfl⟩;exact ⟨rfl,rfl,rfl⟩
def xZ (w0 w:World) (k:Nat) (ys:List Int) (e:Ending) (w':World):Prop :=
 w.grownBy w' (some k)∧((DL ys=none∧e=.panicked QV)∨∃s r,DL ys=some (s,r)∧e=.returned (.string s)∧RS w0 w' k r)
theorem Gh (w0 w:World) (k:Nat) (ys:List Int) (h:RS w0 w k ys) (hby:Sn ys) :
    Calls Tryz.prog 205 #[.pointer (some ⟨k,0,none⟩)] w fun e w'=>xZ w0 w k ys e w':=by
 have HS:=ZU h;clear h
 go_enter Tryz.func205,Tryz.ntmps205
 go_wp2_with fail
 cases ys with
 | nil =>
  refine (IA w0 w k HS.out).mono ?_;rintro e w1 ⟨rfl,rfl⟩;exact ⟨rfl,Zz _ _,.inl ⟨rfl,rfl⟩⟩
 | cons y r =>
  have hy:=hby y (by simp);obtain ⟨m,rfl⟩:∃m:Nat,y=(m:Int):=⟨y.toNat,by omega⟩;have hm:m<256:=by omega
  clear hby hy;refine (Gi w0 w k m r HS.out).mono ?_;rintro e w1 ⟨rfl,r1,g1⟩;have R1:=ZU r1;have G1:=ZU g1;clear r1 g1 HS;have iI:(m:Int)<256:=by omega
  go_wp2_with fail
  by_cases hl:m≤r.length
  · refine (x8 w0 w1 k m r R1.out hl).mono ?_
    rintro e w2 ⟨v2,rfl,I,r2,g2⟩;have hcv:=To (I.below r2.2.2.2.1);have HP:Hid (xZ w0 w k ((m:Int) :: r) (.returned (.string (strOfNums (r.take m)))) w2):=by
     refine ⟨G1.out.trans g2,.inr ⟨_,_,?_,rfl,r2⟩⟩
     simp only [DL,Ze]
     rw [Z0 hl]
    clear I r2 g2 R1 G1;go_wp2;go_ret;exact HP.out
  refine (MO w0 w1 k m r R1.out (by omega)).mono ?_;rintro e w2 ⟨rfl,rfl⟩;refine ⟨rfl,G1.out,.inl ⟨?_,rfl⟩⟩
  simp only [DL,Ze]
  rw [Z1 hl]
def pd (b p:Nat):Value:=.agg #[.pointer (some ⟨b,p+2,none⟩),.pointer (some ⟨b,p+3,none⟩),.pointer (some ⟨b,p+4,none⟩),.pointer (some ⟨b,p+5,none⟩),.pointer (some ⟨b,p+6,none⟩)]
theorem Jp (w:World) (b p:Nat) :
    Calls Tryz.prog 142 #[.pointer (some ⟨b,p,none⟩)] w (Wj w (pd b p)):=by
 go_enter Tryz.func142,Tryz.ntmps142
 go_wp2;refine ZX (S:=fun _=>True) (by kernel_rfl) (trivial) (fun Z9=>?_)
 iterate 20 (refine Zf ?_ (by kernel_rfl) (fun _=>id) Z9 ?_ ?_;rotate_left;· intro w9 ZQ;go_simp;try with_reducible rfl)
 refine Zf (pd b p) (by kernel_rfl) (fun _=>id) Z9 ?_ ?_
 · intro w9 ZQ;go_simp;rfl
 refine YS 21 rfl (by kernel_rfl) (fun K hK=>?_);unfold pd;go_simp;refine hK.out _ _ trivial (fun YA=>?_);clear hK K Z9 YA;refine ZR (by kernel_rfl) ?_ _
 try simp only [Act.put,WV,WU,WT]
 go_wp2;refine ZW (v:=pd b p) (by simp [results,Tryz.results142,go_sem,pd]) rfl ⟨rfl,?_⟩;exact (Yy.alloc YR _).trans ((below_drewN' _ 1).mono (by simp))
theorem KT.box (h:KT e w w') (hb:w.heap[b]?=some (.cells A t f)) (ht:t≠e):w'.heap[b]?=some (.cells A t f):=by
 have hlt:=(Z3.1 hb).1;rw [h.2 b hlt (by rw [hb];rintro ⟨cur,h⟩;injection h with h;injection h with _ h2;exact ht h2),hb]
def Lo (w:World) (b:Nat) (n:Nd):Prop:=(∃A t f,w.heap[b]?=some (.cells A t f)∧t≠5)∧Um w b 0 n
theorem Lo.keep (h:Lo w b n) (hk:KT 5 w w'):Lo w' b n:=by
 obtain ⟨⟨A,t,f,h1,h2⟩,h3⟩:=h;have h4:=hk.box h1 h2;have e:∀q,w'.cell? ⟨b,q,none⟩=w.cell? ⟨b,q,none⟩:=fun q=>ZP (a:=⟨b,q,none⟩) (by show w'.heap[b]?=w.heap[b]?;rw [h4,h1])
 exact ⟨⟨A,t,f,h4,h2⟩,(e _).trans h3.c0,(e _).trans h3.c1,(e _).trans h3.c2,(e _).trans h3.c3,(e _).trans h3.c4,(e _).trans h3.c5,(e _).trans h3.c6⟩
theorem Lo.below (h:Lo w b n) (hk:Zi w w'):Lo w' b n:=h.keep ((KT.refl _ _).below hk)
theorem Lo.cells (h:Lo w b n):Um w b 0 n:=h.2
theorem cell_of (h:w.heap[b]?=some (.cells A t f)) (q:Nat):w.cell? ⟨b,q,none⟩=A[q]?:=by simp [World.cell?,h]
theorem KT.cell (h:KT e w w') (hb:w.heap[b]?=some (.cells A t f)) (ht:t≠e) (q:Nat):w'.cell? ⟨b,q,none⟩=w.cell? ⟨b,q,none⟩ :=
 ZP (a:=⟨b,q,none⟩) (by show w'.heap[b]?=w.heap[b]?;rw [h.box hb ht,hb])
def MX (a b c d e k:Nat):List Int:=([a,b,c,d,e].take k).flatMap fun z=>Xo z 4
theorem tf (a b c d e k:Nat):(MX a b c d e k).length≤20:=by
 unfold MX
 match k with
 | 0=>simp
 | 1=>simp [Xd]
 | 2=>simp [Xd]
 | 3=>simp [Xd]
 | 4=>simp [Xd]
 | k+5=>simp [Xd]
theorem ll (a b c d e:Nat):MX a b c d e 0++Xo a 4=MX a b c d e 1:=by simp [MX]
theorem lk (a b c d e:Nat):MX a b c d e 1++Xo b 4=MX a b c d e 2:=by simp [MX]
theorem lj (a b c d e:Nat):MX a b c d e 2++Xo c 4=MX a b c d e 3:=by simp [MX]
theorem li (a b c d e:Nat):MX a b c d e 3++Xo d 4=MX a b c d e 4:=by simp [MX]
theorem lh (a b c d e:Nat):MX a b c d e 4++Xo e 4=MX a b c d e 5:=by simp [MX]
theorem lf (W:World) (b:Nat):(Instr.index 217 (.agg #[.pointer (some ⟨b,2,none⟩),.pointer (some ⟨b,3,none⟩),.pointer (some ⟨b,4,none⟩),.pointer (some ⟨b,5,none⟩),.pointer (some ⟨b,6,none⟩)]) (.int .i64 0)).run Tryz.prog W=.ok (.pointer (some ⟨b,2,none⟩)) W:=by kernel_rfl
theorem ld (W:World) (b:Nat):(Instr.index 217 (.agg #[.pointer (some ⟨b,2,none⟩),.pointer (some ⟨b,3,none⟩),.pointer (some ⟨b,4,none⟩),.pointer (some ⟨b,5,none⟩),.pointer (some ⟨b,6,none⟩)]) (.int .i64 1)).run Tryz.prog W=.ok (.pointer (some ⟨b,3,none⟩)) W:=by kernel_rfl
theorem kZ (W:World) (b:Nat):(Instr.index 217 (.agg #[.pointer (some ⟨b,2,none⟩),.pointer (some ⟨b,3,none⟩),.pointer (some ⟨b,4,none⟩),.pointer (some ⟨b,5,none⟩),.pointer (some ⟨b,6,none⟩)]) (.int .i64 2)).run Tryz.prog W=.ok (.pointer (some ⟨b,4,none⟩)) W:=by kernel_rfl
theorem kY (W:World) (b:Nat):(Instr.index 217 (.agg #[.pointer (some ⟨b,2,none⟩),.pointer (some ⟨b,3,none⟩),.pointer (some ⟨b,4,none⟩),.pointer (some ⟨b,5,none⟩),.pointer (some ⟨b,6,none⟩)]) (.int .i64 3)).run Tryz.prog W=.ok (.pointer (some ⟨b,5,none⟩)) W:=by kernel_rfl
theorem kX (W:World) (b:Nat):(Instr.index 217 (.agg #[.pointer (some ⟨b,2,none⟩),.pointer (some ⟨b,3,none⟩),.pointer (some ⟨b,4,none⟩),.pointer (some ⟨b,5,none⟩),.pointer (some ⟨b,6,none⟩)]) (.int .i64 4)).run Tryz.prog W=.ok (.pointer (some ⟨b,6,none⟩)) W:=by kernel_rfl
theorem PC (w:World) (base:Nat) (v:Value) (xs:List Int) (b:Nat) (n:Nd) (h:Own .u8 5 w base v xs) (hb:base≤w.heap.size) (hl:xs.length≤1000000) (hx:Lo w b n) (hn:Wl n=true) :
    Calls Tryz.prog 94 #[.pointer (some ⟨b,0,none⟩),v] w fun e w'=>∃v',e=.returned v'∧Own .u8 5 w' base v' (xs++Vy n)∧Below base w w'∧KT 5 w w':=by
 obtain ⟨p1,p2,p3,p4,p5,p6,p7⟩:=TX hn;have HO:Hid (Own .u8 5 w base v xs):=h;have HX:Hid (Lo w b n):=hx;obtain ⟨c0,c1,c2,c3,c4,c5,c6⟩:=HX.out.cells
 go_enter Tryz.func94,Tryz.ntmps94
 go_wp2_with fail
 refine (Qa w base v xs n.path HO.out hb (by omega) (by omega)).mono ?_;rintro e w1 ⟨v1,rfl,o1,b1,k1⟩;have O1:Hid (Own .u8 5 w1 base v1 (xs++J0 n.path)):=o1;have B1:Hid (Below base w w1):=b1;have X1:Hid (Lo w1 b n):=HX.out.keep k1;have K1:Hid (KT 5 w w1):=k1;have s1:=b1.size;obtain ⟨c0,c1,c2,c3,c4,c5,c6⟩:=X1.out.cells
 go_wp2_with fail
 refine (Qa w1 base v1 _ n.data O1.out (by omega) (by rw [ZZ,NO];omega) (by omega)).mono ?_;rintro e w2 ⟨v2,rfl,o2,b2,k2⟩;have O2:Hid (Own .u8 5 w2 base v2 (xs++J0 n.path++J0 n.data)):=o2;have B2:=ZU (B1.out.trans b2);have X2:Hid (Lo w2 b n):=X1.out.keep k2;have K2:=ZU (K1.out.trans k2);have s2:=B2.out.size
 go_wp2_with fail
 refine (Jp w2 b 0).mono ?_;rintro e w3 ⟨rfl,b3⟩;have O3:=ZU (O2.out.below b3);have B3:=ZU (B2.out.trans (b3.mono (by omega)));have X3:=ZU (X2.out.below b3);have K3:=ZU (K2.out.below b3);obtain ⟨z0,hz0⟩:∃z:Nat,n.XT=(z:Int):=⟨n.XT.toNat,by omega⟩;obtain ⟨z1,hz1⟩:∃z:Nat,n.XQ=(z:Int):=⟨n.XQ.toNat,by omega⟩;obtain ⟨z2,hz2⟩:∃z:Nat,n.cz=(z:Int):=⟨n.cz.toNat,by omega⟩;obtain ⟨z3,hz3⟩:∃z:Nat,n.mz=(z:Int):=⟨n.mz.toNat,by omega⟩;obtain ⟨z4,qv⟩:∃z:Nat,n.pz=(z:Int):=⟨n.pz.toNat,by omega⟩;have HZ:Hid (Vy n=J0 n.path++J0 n.data++MX z0 z1 z2 z3 z4 5):=by
  show _=_;unfold Vy jb MX
  simp [hz0,hz1,hz2,hz3,qv]
 have HZ0:Hid (n.XT=(z0:Int)):=hz0;have HZ1:Hid (n.XQ=(z1:Int)):=hz1;have HZ2:Hid (n.cz=(z2:Int)):=hz2;have HZ3:Hid (n.mz=(z3:Int)):=hz3;have iH:Hid (n.pz=(z4:Int)):=qv;have HL:Hid (∀k,(xs++J0 n.path++J0 n.data++MX z0 z1 z2 z3 z4 k).length≤1048576):=by
  intro k;have:=tf z0 z1 z2 z3 z4 k
  simp only [ZZ,NO]
  omega
 obtain ⟨ys,hys⟩:∃ys,ys=xs++J0 n.path++J0 n.data:=⟨_,rfl⟩;have tj:Hid (xs++Vy n=ys++MX z0 z1 z2 z3 z4 5):=by show _=_;rw [HZ.out,hys];simp only [ZO]
 rw [←hys] at O3 HL;unfold pd;go_wp2
 go_loopw [1,23] (fun vi vk wr=>∃k:Nat,k≤5∧vk=.int .i64 k∧Hid (Own .u8 5 wr base vi (ys++MX z0 z1 z2 z3 z4 k))∧Hid (Below base w wr)∧Hid (KT 5 w wr)∧Hid (Lo wr b n)) (fun _ i _=>5 - (intOf i).toNat)
 case atStart=>exact ⟨0,by omega,rfl,by show Own _ _ _ _ _ _;unfold MX;simp;exact O3.out,B3,K3,X3⟩
 case round =>
  obtain ⟨k,hk,rfl,HW,HB,HK,Q⟩:=hrel;have sB:=HB.out.size;obtain ⟨-,-,c2,c3,c4,c5,c6⟩:=Q.out.cells;rw [HZ0.out] at c2;rw [HZ1.out] at c3;rw [HZ2.out] at c4;rw [HZ3.out] at c5;rw [iH.out] at c6
  rcases (show k=0∨k=1∨k=2∨k=3∨k=4∨k=5 by omega) with rfl | rfl | rfl | rfl | rfl | rfl
  · have hix:=fun W=>lf W b
    go_wp2_with fail
    refine (Wr wr base _ _ z0 4 HW.out (by omega) (HL.out _) (by omega)).mono ?_;rintro e w4 ⟨v4,rfl,o4,b4,k4⟩;have O4:Hid (Own .u8 5 w4 base v4 (ys++MX z0 z1 z2 z3 z4 1)):=by rw [ZO,ll] at o4;exact o4
    have B4:=ZU (HB.out.trans b4);have K4:=ZU (HK.out.trans k4);have X4:Hid (Lo w4 b n):=Q.out.keep k4;go_wp2;exact ⟨⟨1,by omega,rfl,O4,B4,K4,X4⟩,by simp [intOf]⟩
  · have hix:=fun W=>ld W b
    go_wp2_with fail
    refine (Wr wr base _ _ z1 4 HW.out (by omega) (HL.out _) (by omega)).mono ?_;rintro e w4 ⟨v4,rfl,o4,b4,k4⟩;have O4:Hid (Own .u8 5 w4 base v4 (ys++MX z0 z1 z2 z3 z4 2)):=by rw [ZO,lk] at o4;exact o4
    have B4:=ZU (HB.out.trans b4);have K4:=ZU (HK.out.trans k4);have X4:Hid (Lo w4 b n):=Q.out.keep k4;go_wp2;exact ⟨⟨2,by omega,rfl,O4,B4,K4,X4⟩,by simp [intOf]⟩
  · have hix:=fun W=>kZ W b
    go_wp2_with fail
    refine (Wr wr base _ _ z2 4 HW.out (by omega) (HL.out _) (by omega)).mono ?_;rintro e w4 ⟨v4,rfl,o4,b4,k4⟩;have O4:Hid (Own .u8 5 w4 base v4 (ys++MX z0 z1 z2 z3 z4 3)):=by rw [ZO,lj] at o4;exact o4
    have B4:=ZU (HB.out.trans b4);have K4:=ZU (HK.out.trans k4);have X4:Hid (Lo w4 b n):=Q.out.keep k4;go_wp2;exact ⟨⟨3,by omega,rfl,O4,B4,K4,X4⟩,by simp [intOf]⟩
  · have hix:=fun W=>kY W b
    go_wp2_with fail
    refine (Wr wr base _ _ z3 4 HW.out (by omega) (HL.out _) (by omega)).mono ?_;rintro e w4 ⟨v4,rfl,o4,b4,k4⟩;have O4:Hid (Own .u8 5 w4 base v4 (ys++MX z0 z1 z2 z3 z4 4)):=by rw [ZO,li] at o4;exact o4
    have B4:=ZU (HB.out.trans b4);have K4:=ZU (HK.out.trans k4);have X4:Hid (Lo w4 b n):=Q.out.keep k4;go_wp2;exact ⟨⟨4,by omega,rfl,O4,B4,K4,X4⟩,by simp [intOf]⟩
  · have hix:=fun W=>kX W b
    go_wp2_with fail
    refine (Wr wr base _ _ z4 4 HW.out (by omega) (HL.out _) (by omega)).mono ?_;rintro e w4 ⟨v4,rfl,o4,b4,k4⟩;have O4:Hid (Own .u8 5 w4 base v4 (ys++MX z0 z1 z2 z3 z4 5)):=by rw [ZO,lh] at o4;exact o4
    have B4:=ZU (HB.out.trans b4);have K4:=ZU (HK.out.trans k4);have X4:Hid (Lo w4 b n):=Q.out.keep k4;go_wp2;exact ⟨⟨5,by omega,rfl,O4,B4,K4,X4⟩,by simp [intOf]⟩
  go_wp2;go_ret;exact ⟨_,rfl,(by rw [tj.out];exact HW.out),HB.out,HK.out⟩
theorem grown_of (h:Zi w w') (row:Option Nat):w.grownBy w' row:=⟨h.os,h.tape,h.output,h.size,fun k hk _=>h.block k hk⟩
theorem RM (w:World) (o:Obj) (row:Option Nat):w.grownBy (w.alloc o) row:=grown_of (Yy.alloc YR o) row
theorem SM (h:w.grownBy W row) (hB:w.heap.size≤B) (i:Nat) (u:Value):w.grownBy (W.setCell ⟨B,i,none⟩ u) row :=
 ⟨h.os,h.tape,h.output,by simpa using h.size,fun k hk hne=>by
  rw [←h.block k hk hne];exact Below.heap_setCell _ _ _ _ (by show k≠B;omega)⟩
def NB (W:World) (B:Nat) (n:Nd):Prop:=MT W B n∧∀j,W.frozen? ⟨B,j,none⟩=false
theorem NB.turn (h:NB W B n) (hg:W.grownBy W' row) (hne:some B≠row):NB W' B n:=by
 have hb:=hg.block B h.1.lt hne;have e:∀q,W'.cell? ⟨B,q,none⟩=W.cell? ⟨B,q,none⟩:=fun q=>ZP (a:=⟨B,q,none⟩) hb
 refine ⟨⟨ZY h.1.lt hg.size,(e _).trans h.1.c0,(e _).trans h.1.c1,(e _).trans h.1.c2,(e _).trans h.1.c3,(e _).trans h.1.c4,(e _).trans h.1.c5,(e _).trans h.1.c6⟩,fun j=>?_⟩;rw [Yq (a:=⟨B,j,none⟩) hb];exact h.2 j
theorem NB.other {B':Nat} (h:NB W B n) (hne:B≠B') (i:Nat) (u:Value):NB (W.setCell ⟨B',i,none⟩ u) B n:=by
 have e:∀q,(W.setCell ⟨B',i,none⟩ u).cell? ⟨B,q,none⟩=W.cell? ⟨B,q,none⟩:=fun q=>ZV _ _ _ _ (by intro e;injection e with e;omega)
 refine ⟨⟨by simpa using h.1.lt,(e _).trans h.1.c0,(e _).trans h.1.c1,(e _).trans h.1.c2,(e _).trans h.1.c3,(e _).trans h.1.c4,(e _).trans h.1.c5,(e _).trans h.1.c6⟩,fun j=>?_⟩;rw [Zb];exact h.2 j
theorem NB.o0 (h:NB W B n) (s:ByteArray):NB (W.setCell ⟨B,0,none⟩ (Value.string s)) B { n with path:=s }:=by
 have e:∀q,q≠0→(W.setCell ⟨B,0,none⟩ (Value.string s)).cell? ⟨B,q,none⟩=W.cell? ⟨B,q,none⟩:=fun q hq=>ZV _ _ _ _ (by intro e;injection e with _ e;omega)
 refine ⟨⟨by simpa using h.1.lt,Zk _ _ _ h.1.c0,(e 1 (by omega)).trans h.1.c1,(e 2 (by omega)).trans h.1.c2,(e 3 (by omega)).trans h.1.c3,(e 4 (by omega)).trans h.1.c4,(e 5 (by omega)).trans h.1.c5,(e 6 (by omega)).trans h.1.c6⟩,fun j=>?_⟩;rw [Zb];exact h.2 j
theorem NB.oZ (h:NB W B n) (s:ByteArray):NB (W.setCell ⟨B,1,none⟩ (Value.string s)) B { n with data:=s }:=by
 have e:∀q,q≠1→(W.setCell ⟨B,1,none⟩ (Value.string s)).cell? ⟨B,q,none⟩=W.cell? ⟨B,q,none⟩:=fun q hq=>ZV _ _ _ _ (by intro e;injection e with _ e;omega)
 refine ⟨⟨by simpa using h.1.lt,(e 0 (by omega)).trans h.1.c0,Zk _ _ _ h.1.c1,(e 2 (by omega)).trans h.1.c2,(e 3 (by omega)).trans h.1.c3,(e 4 (by omega)).trans h.1.c4,(e 5 (by omega)).trans h.1.c5,(e 6 (by omega)).trans h.1.c6⟩,fun j=>?_⟩;rw [Zb];exact h.2 j
theorem NB.oY (h:NB W B n) (s:Int):NB (W.setCell ⟨B,2,none⟩ (Value.int .i64 s)) B { n with XT:=s }:=by
 have e:∀q,q≠2→(W.setCell ⟨B,2,none⟩ (Value.int .i64 s)).cell? ⟨B,q,none⟩=W.cell? ⟨B,q,none⟩:=fun q hq=>ZV _ _ _ _ (by intro e;injection e with _ e;omega)
 refine ⟨⟨by simpa using h.1.lt,(e 0 (by omega)).trans h.1.c0,(e 1 (by omega)).trans h.1.c1,Zk _ _ _ h.1.c2,(e 3 (by omega)).trans h.1.c3,(e 4 (by omega)).trans h.1.c4,(e 5 (by omega)).trans h.1.c5,(e 6 (by omega)).trans h.1.c6⟩,fun j=>?_⟩;rw [Zb];exact h.2 j
theorem NB.oX (h:NB W B n) (s:Int):NB (W.setCell ⟨B,3,none⟩ (Value.int .i64 s)) B { n with XQ:=s }:=by
 have e:∀q,q≠3→(W.setCell ⟨B,3,none⟩ (Value.int .i64 s)).cell? ⟨B,q,none⟩=W.cell? ⟨B,q,none⟩:=fun q hq=>ZV _ _ _ _ (by intro e;injection e with _ e;omega)
 refine ⟨⟨by simpa using h.1.lt,(e 0 (by omega)).trans h.1.c0,(e 1 (by omega)).trans h.1.c1,(e 2 (by omega)).trans h.1.c2,Zk _ _ _ h.1.c3,(e 4 (by omega)).trans h.1.c4,(e 5 (by omega)).trans h.1.c5,(e 6 (by omega)).trans h.1.c6⟩,fun j=>?_⟩;rw [Zb];exact h.2 j
theorem NB.oV (h:NB W B n) (s:Int):NB (W.setCell ⟨B,4,none⟩ (Value.int .i64 s)) B { n with cz:=s }:=by
 have e:∀q,q≠4→(W.setCell ⟨B,4,none⟩ (Value.int .i64 s)).cell? ⟨B,q,none⟩=W.cell? ⟨B,q,none⟩:=fun q hq=>ZV _ _ _ _ (by intro e;injection e with _ e;omega)
 refine ⟨⟨by simpa using h.1.lt,(e 0 (by omega)).trans h.1.c0,(e 1 (by omega)).trans h.1.c1,(e 2 (by omega)).trans h.1.c2,(e 3 (by omega)).trans h.1.c3,Zk _ _ _ h.1.c4,(e 5 (by omega)).trans h.1.c5,(e 6 (by omega)).trans h.1.c6⟩,fun j=>?_⟩;rw [Zb];exact h.2 j
theorem NB.iG (h:NB W B n) (s:Int):NB (W.setCell ⟨B,5,none⟩ (Value.int .i64 s)) B { n with mz:=s }:=by
 have e:∀q,q≠5→(W.setCell ⟨B,5,none⟩ (Value.int .i64 s)).cell? ⟨B,q,none⟩=W.cell? ⟨B,q,none⟩:=fun q hq=>ZV _ _ _ _ (by intro e;injection e with _ e;omega)
 refine ⟨⟨by simpa using h.1.lt,(e 0 (by omega)).trans h.1.c0,(e 1 (by omega)).trans h.1.c1,(e 2 (by omega)).trans h.1.c2,(e 3 (by omega)).trans h.1.c3,(e 4 (by omega)).trans h.1.c4,Zk _ _ _ h.1.c5,(e 6 (by omega)).trans h.1.c6⟩,fun j=>?_⟩;rw [Zb];exact h.2 j
theorem NB.iF (h:NB W B n) (s:Int):NB (W.setCell ⟨B,6,none⟩ (Value.int .i64 s)) B { n with pz:=s }:=by
 have e:∀q,q≠6→(W.setCell ⟨B,6,none⟩ (Value.int .i64 s)).cell? ⟨B,q,none⟩=W.cell? ⟨B,q,none⟩:=fun q hq=>ZV _ _ _ _ (by intro e;injection e with _ e;omega)
 refine ⟨⟨by simpa using h.1.lt,(e 0 (by omega)).trans h.1.c0,(e 1 (by omega)).trans h.1.c1,(e 2 (by omega)).trans h.1.c2,(e 3 (by omega)).trans h.1.c3,(e 4 (by omega)).trans h.1.c4,(e 5 (by omega)).trans h.1.c5,Zk _ _ _ h.1.c6⟩,fun j=>?_⟩;rw [Zb];exact h.2 j
theorem NB.new (w:World) (n:Nd) (t:TypeId):NB (w.alloc (.cells #[.string n.path,.string n.data,.int .i64 n.XT,.int .i64 n.XQ,.int .i64 n.cz,.int .i64 n.mz,.int .i64 n.pz] t)) w.heap.size n:=⟨MT.new w n t,fun j=>(by go_simp)⟩
theorem RS.new (h:RS w0 w k ys) (hb:Zi w w'):RS w0 w' k ys:=h.keep hb h.2.1
theorem RS.setOther (h:RS w0 w k ys) (hB:k≠B) (h0:w0.heap.size≤B) (i:Nat) (u:Value):RS w0 (w.setCell ⟨B,i,none⟩ u) k ys:=by
 obtain ⟨h1,h2,h3,h4,v,h5,h6⟩:=h;refine ⟨h1,by simpa using h2,by rw [Zb];exact h3,h4.setCell h0 _,v,?_,h6⟩;rw [ZV _ _ _ _ (by intro e;injection e with e;omega)];exact h5
theorem Gg (h:Sn ys):wrap64 ((Uh (ys.take 4):Nat):Int)=((Uh (ys.take 4):Nat):Int):=by
 have hb:=(MR (ys.take 4).length (ys.take 4) rfl (fun x hx=>h x (Xa hx))).2;have h1:256 ^ (ys.take 4).length≤256 ^ 4:=Wx (by omega) (by rw [Zw];omega);have h2:Uh (ys.take 4)<4294967296:=ZY hb h1;unfold wrap64;omega
def tW (n:Nd):Value:=.agg #[.string n.path,.string n.data,.int .i64 n.XT,.int .i64 n.XQ,.int .i64 n.cz,.int .i64 n.mz,.int .i64 n.pz]
def s8 (p d:ByteArray) (a:Nat→Int) (k:Nat):Nd:=⟨p,d,if 0<k then a 0 else 0,if 1<k then a 1 else 0,if 2<k then a 2 else 0,if 3<k then a 3 else 0,if 4<k then a 4 else 0⟩
def oU (w0 w:World) (k:Nat) (ys:List Int) (e:Ending) (w':World):Prop :=
 w.grownBy w' (some k)∧((QF ys=none∧e=.panicked QV)∨∃n r,QF ys=some (n,r)∧e=.returned (tW n)∧RS w0 w' k r)
theorem VF (w0 w:World) (k:Nat) (ys:List Int) (h:RS w0 w k ys) (hby:Sn ys) :
    Calls Tryz.prog 178 #[.pointer (some ⟨k,0,none⟩)] w fun e w'=>oU w0 w k ys e w':=by
 have hk:=h.2.1;have hk0:=h.1;have Lp:=ZU hby
 have HS:=ZU h;clear h hby
 have A1:Hid (RS w0 ((w.alloc (.cells #[.string ⟨#[]⟩,.string ⟨#[]⟩,.int .i64 0,.int .i64 0,.int .i64 0,.int .i64 0,.int .i64 0] 149)).alloc (.cells #[.string ⟨#[]⟩,.string ⟨#[]⟩,.int .i64 0,.int .i64 0,.int .i64 0,.int .i64 0,.int .i64 0] 149)) k ys):=(HS.out.new (Yy.alloc YR _)).new (Yy.alloc YR _);have N2:Hid (NB ((w.alloc (.cells #[.string ⟨#[]⟩,.string ⟨#[]⟩,.int .i64 0,.int .i64 0,.int .i64 0,.int .i64 0,.int .i64 0] 149)).alloc (.cells #[.string ⟨#[]⟩,.string ⟨#[]⟩,.int .i64 0,.int .i64 0,.int .i64 0,.int .i64 0,.int .i64 0] 149)) w.heap.size nd0):=(NB.new w nd0 _).turn (RM _ _ none) (by simp);have N3:Hid (NB ((w.alloc (.cells #[.string ⟨#[]⟩,.string ⟨#[]⟩,.int .i64 0,.int .i64 0,.int .i64 0,.int .i64 0,.int .i64 0] 149)).alloc (.cells #[.string ⟨#[]⟩,.string ⟨#[]⟩,.int .i64 0,.int .i64 0,.int .i64 0,.int .i64 0,.int .i64 0] 149)) (w.heap.size+1) nd0):=by
  have:=NB.new (w.alloc (.cells #[.string ⟨#[]⟩,.string ⟨#[]⟩,.int .i64 0,.int .i64 0,.int .i64 0,.int .i64 0,.int .i64 0] 149)) nd0 149;rw [show (w.alloc (.cells #[.string ⟨#[]⟩,.string ⟨#[]⟩,.int .i64 0,.int .i64 0,.int .i64 0,.int .i64 0,.int .i64 0] 149)).heap.size=w.heap.size+1 by simp] at this;exact this
 have G1:Hid (w.grownBy ((w.alloc (.cells #[.string ⟨#[]⟩,.string ⟨#[]⟩,.int .i64 0,.int .i64 0,.int .i64 0,.int .i64 0,.int .i64 0] 149)).alloc (.cells #[.string ⟨#[]⟩,.string ⟨#[]⟩,.int .i64 0,.int .i64 0,.int .i64 0,.int .i64 0,.int .i64 0] 149)) (some k)):=(RM _ _ _).trans (RM _ _ _)
 go_enter Tryz.func178,Tryz.ntmps178
 go_wp2_with fail
 generalize ((w.alloc _).alloc _)=w1 at *;refine (Gh w0 w1 k ys A1.out Lp.out).mono ?_;rintro e w2 ⟨g2,hp⟩
 rcases hp with ⟨hp,rfl⟩ | ⟨p,r1,hp,rfl,hr2⟩
 · exact ⟨rfl,G1.out.trans g2,.inl ⟨by unfold QF;rw [hp],rfl⟩⟩
 have tV:=ZU hp;have HB1:=ZU ((LM hp Lp.out).1);have G2:=ZU (G1.out.trans g2);have G:=ZU (N2.out.turn g2 (by simp;omega));have O:=ZU (N3.out.turn g2 (by simp;omega));have R2:=ZU hr2;clear hp g2 hr2 N2 N3 A1 G1;have d0:=O.out.1.c0;have f0:=O.out.2 0;have F:Hid (NB (w2.setCell ⟨w.heap.size+1,0,none⟩ (.string p)) (w.heap.size+1) { nd0 with path:=p }):=O.out.o0 p;have E:Hid (NB (w2.setCell ⟨w.heap.size+1,0,none⟩ (.string p)) w.heap.size nd0):=G.out.other (by omega) _ _;have R3:Hid (RS w0 (w2.setCell ⟨w.heap.size+1,0,none⟩ (.string p)) k r1):=R2.out.setOther (by omega) (by omega) _ _;have G3:Hid (w.grownBy (w2.setCell ⟨w.heap.size+1,0,none⟩ (.string p)) (some k)):=SM G2.out (by omega) _ _
 go_wp2_with fail
 clear d0 f0 O G R2 G2;generalize w2.setCell _ _=w3 at *;refine (Gh w0 w3 k r1 R3.out HB1.out).mono ?_;rintro e w4 ⟨g4,hp⟩
 rcases hp with ⟨hp,rfl⟩ | ⟨d,r2,hp,rfl,hr4⟩
 · refine ⟨rfl,G3.out.trans g4,.inl ⟨?_,rfl⟩⟩
   unfold QF;rw [tV.out];simp only;rw [hp]
 have yM:=ZU hp;have HB2:=ZU ((LM hp HB1.out).1);have G4:=ZU (G3.out.trans g4);have C:=ZU (E.out.turn g4 (by simp;omega));have N:=ZU (F.out.turn g4 (by simp;omega));have R4:=ZU hr4;clear hp g4 hr4 E F R3 G3;have d1:=N.out.1.c1;have f1:=N.out.2 1;have Z':Hid (NB (w4.setCell ⟨w.heap.size+1,1,none⟩ (.string d)) (w.heap.size+1) (s8 p d (UL r2) 0)):=N.out.oZ d;have Z8:Hid (NB (w4.setCell ⟨w.heap.size+1,1,none⟩ (.string d)) w.heap.size nd0):=C.out.other (by omega) _ _;have R5:Hid (RS w0 (w4.setCell ⟨w.heap.size+1,1,none⟩ (.string d)) k r2):=R4.out.setOther (by omega) (by omega) _ _;have G5:Hid (w.grownBy (w4.setCell ⟨w.heap.size+1,1,none⟩ (.string d)) (some k)):=SM G4.out (by omega) _ _
 go_wp2_with fail
 clear d1 f1 N C R4 G4;generalize w4.setCell _ _=w5 at *;refine (Jp w5 (w.heap.size+1) 0).mono ?_;rintro e w6 ⟨rfl,b6⟩;have G6:=ZU (G5.out.trans (grown_of b6 _));have ZD:=ZU (Z8.out.turn (grown_of b6 none) (by simp));have ZB:=ZU (Z'.out.turn (grown_of b6 none) (by simp));have R6:Hid (RS w0 w6 k (r2.drop (4*0))):=by show RS _ _ _ _;rw [Q3,XR];exact R5.out.new b6
 clear b6 Z8 Z' R5 G5;unfold pd;go_wp2
 go_loopw [15] (fun vi wr=>∃i:Nat,i≤5∧vi=.int .i64 i∧Hid (4*i≤r2.length)∧Hid (w.grownBy wr (some k))∧Hid (NB wr w.heap.size nd0)∧Hid (NB wr (w.heap.size+1) (s8 p d (UL r2) i))∧Hid (RS w0 wr k (r2.drop (4*i)))) (fun i _=>5 - (intOf i).toNat)
 case atStart=>exact ⟨0,by omega,rfl,Zu _,G6,ZD,ZB,R6⟩
 case round =>
  obtain ⟨i,hi,rfl,HL,HG,PB,Y,HR⟩:=hrel;have hl:=HL.out
  rcases (show i=0∨i=1∨i=2∨i=3∨i=4∨i=5 by omega) with rfl | rfl | rfl | rfl | rfl | rfl
  · have hix:=fun W=>lf W (w.heap.size+1)
    go_wp2_with fail
    clear hix
    by_cases hlt:4≤r2.length
    rotate_left
    · refine (VG w0 wr k 4 _ HR.out (by rw [ZS];omega)).mono ?_
      rintro e w7 ⟨rfl,rfl⟩;refine ⟨rfl,HG.out,.inl ⟨?_,rfl⟩⟩;unfold QF;rw [tV.out];simp only;rw [yM.out];simp only;rw [Z1 (by omega)]
    refine (Vc w0 wr k 4 _ HR.out (by rw [ZS];omega) (by omega) (by omega) (TW HB2.out _)).mono ?_;rintro e w7 ⟨rfl,r7,v7,q7,rfl⟩;rw [Gg (TW HB2.out _)];have g7:wr.grownBy ((wr.setCell ⟨k,0,none⟩ v7).drewN q7) (some k):=(grownBy_set _ _ _ _ _ (Zz _ _)).trans (grown_of (below_drewN' _ q7) _);have V:=ZU (HG.out.trans g7);have U:=ZU (PB.out.turn g7 (by simp;omega));have Z:=ZU (Y.out.turn g7 (by simp;omega));have R7:Hid (RS w0 ((wr.setCell ⟨k,0,none⟩ v7).drewN q7) k (r2.drop (4*1))):=by rw [Yc] at r7;exact r7
    clear r7 g7 HG PB Y HR HL;generalize (wr.setCell _ _).drewN q7=w7 at *;have d0:=Z.out.1.c2;have f0:=Z.out.2 2;have T:Hid (NB (w7.setCell ⟨w.heap.size+1,2,none⟩ (.int .i64 (UL r2 0))) (w.heap.size+1) (s8 p d (UL r2) 1)):=Z.out.oY (UL r2 0);have R:Hid (NB (w7.setCell ⟨w.heap.size+1,2,none⟩ (.int .i64 (UL r2 0))) w.heap.size nd0):=U.out.other (by omega) _ _;have M:Hid (RS w0 (w7.setCell ⟨w.heap.size+1,2,none⟩ (.int .i64 (UL r2 0))) k (r2.drop (4*1))):=R7.out.setOther (by omega) (by omega) _ _;have G8:Hid (w.grownBy (w7.setCell ⟨w.heap.size+1,2,none⟩ (.int .i64 (UL r2 0))) (some k)):=SM V.out (by omega) _ _;go_wp2;exact ⟨⟨1,by omega,rfl,by show 4*1≤_;omega,G8,R,T,M⟩,by simp [intOf]⟩
  · have hix:=fun W=>ld W (w.heap.size+1)
    go_wp2_with fail
    clear hix
    by_cases hlt:8≤r2.length
    rotate_left
    · refine (VG w0 wr k 4 _ HR.out (by rw [ZS];omega)).mono ?_
      rintro e w7 ⟨rfl,rfl⟩;refine ⟨rfl,HG.out,.inl ⟨?_,rfl⟩⟩;unfold QF;rw [tV.out];simp only;rw [yM.out];simp only;rw [Z1 (by omega)]
    refine (Vc w0 wr k 4 _ HR.out (by rw [ZS];omega) (by omega) (by omega) (TW HB2.out _)).mono ?_;rintro e w7 ⟨rfl,r7,v7,q7,rfl⟩;rw [Gg (TW HB2.out _)];have g7:wr.grownBy ((wr.setCell ⟨k,0,none⟩ v7).drewN q7) (some k):=(grownBy_set _ _ _ _ _ (Zz _ _)).trans (grown_of (below_drewN' _ q7) _);have V:=ZU (HG.out.trans g7);have U:=ZU (PB.out.turn g7 (by simp;omega));have Z:=ZU (Y.out.turn g7 (by simp;omega));have R7:Hid (RS w0 ((wr.setCell ⟨k,0,none⟩ v7).drewN q7) k (r2.drop (4*2))):=by rw [Yc] at r7;exact r7
    clear r7 g7 HG PB Y HR HL;generalize (wr.setCell _ _).drewN q7=w7 at *;have d0:=Z.out.1.c3;have f0:=Z.out.2 3;have T:Hid (NB (w7.setCell ⟨w.heap.size+1,3,none⟩ (.int .i64 (UL r2 1))) (w.heap.size+1) (s8 p d (UL r2) 2)):=Z.out.oX (UL r2 1);have R:Hid (NB (w7.setCell ⟨w.heap.size+1,3,none⟩ (.int .i64 (UL r2 1))) w.heap.size nd0):=U.out.other (by omega) _ _;have M:Hid (RS w0 (w7.setCell ⟨w.heap.size+1,3,none⟩ (.int .i64 (UL r2 1))) k (r2.drop (4*2))):=R7.out.setOther (by omega) (by omega) _ _;have G8:Hid (w.grownBy (w7.setCell ⟨w.heap.size+1,3,none⟩ (.int .i64 (UL r2 1))) (some k)):=SM V.out (by omega) _ _;go_wp2;exact ⟨⟨2,by omega,rfl,by show 4*2≤_;omega,G8,R,T,M⟩,by simp [intOf]⟩
  · have hix:=fun W=>kZ W (w.heap.size+1)
    go_wp2_with fail
    clear hix
    by_cases hlt:12≤r2.length
    rotate_left
    · refine (VG w0 wr k 4 _ HR.out (by rw [ZS];omega)).mono ?_
      rintro e w7 ⟨rfl,rfl⟩;refine ⟨rfl,HG.out,.inl ⟨?_,rfl⟩⟩;unfold QF;rw [tV.out];simp only;rw [yM.out];simp only;rw [Z1 (by omega)]
    refine (Vc w0 wr k 4 _ HR.out (by rw [ZS];omega) (by omega) (by omega) (TW HB2.out _)).mono ?_;rintro e w7 ⟨rfl,r7,v7,q7,rfl⟩;rw [Gg (TW HB2.out _)];have g7:wr.grownBy ((wr.setCell ⟨k,0,none⟩ v7).drewN q7) (some k):=(grownBy_set _ _ _ _ _ (Zz _ _)).trans (grown_of (below_drewN' _ q7) _);have V:=ZU (HG.out.trans g7);have U:=ZU (PB.out.turn g7 (by simp;omega));have Z:=ZU (Y.out.turn g7 (by simp;omega));have R7:Hid (RS w0 ((wr.setCell ⟨k,0,none⟩ v7).drewN q7) k (r2.drop (4*3))):=by rw [Yc] at r7;exact r7
    clear r7 g7 HG PB Y HR HL;generalize (wr.setCell _ _).drewN q7=w7 at *;have d0:=Z.out.1.c4;have f0:=Z.out.2 4;have T:Hid (NB (w7.setCell ⟨w.heap.size+1,4,none⟩ (.int .i64 (UL r2 2))) (w.heap.size+1) (s8 p d (UL r2) 3)):=Z.out.oV (UL r2 2);have R:Hid (NB (w7.setCell ⟨w.heap.size+1,4,none⟩ (.int .i64 (UL r2 2))) w.heap.size nd0):=U.out.other (by omega) _ _;have M:Hid (RS w0 (w7.setCell ⟨w.heap.size+1,4,none⟩ (.int .i64 (UL r2 2))) k (r2.drop (4*3))):=R7.out.setOther (by omega) (by omega) _ _;have G8:Hid (w.grownBy (w7.setCell ⟨w.heap.size+1,4,none⟩ (.int .i64 (UL r2 2))) (some k)):=SM V.out (by omega) _ _;go_wp2;exact ⟨⟨3,by omega,rfl,by show 4*3≤_;omega,G8,R,T,M⟩,by simp [intOf]⟩
  · have hix:=fun W=>kY W (w.heap.size+1)
    go_wp2_with fail
    clear hix
    by_cases hlt:16≤r2.length
    rotate_left
    · refine (VG w0 wr k 4 _ HR.out (by rw [ZS];omega)).mono ?_
      rintro e w7 ⟨rfl,rfl⟩;refine ⟨rfl,HG.out,.inl ⟨?_,rfl⟩⟩;unfold QF;rw [tV.out];simp only;rw [yM.out];simp only;rw [Z1 (by omega)]
    refine (Vc w0 wr k 4 _ HR.out (by rw [ZS];omega) (by omega) (by omega) (TW HB2.out _)).mono ?_;rintro e w7 ⟨rfl,r7,v7,q7,rfl⟩;rw [Gg (TW HB2.out _)];have g7:wr.grownBy ((wr.setCell ⟨k,0,none⟩ v7).drewN q7) (some k):=(grownBy_set _ _ _ _ _ (Zz _ _)).trans (grown_of (below_drewN' _ q7) _);have V:=ZU (HG.out.trans g7);have U:=ZU (PB.out.turn g7 (by simp;omega));have Z:=ZU (Y.out.turn g7 (by simp;omega));have R7:Hid (RS w0 ((wr.setCell ⟨k,0,none⟩ v7).drewN q7) k (r2.drop (4*4))):=by rw [Yc] at r7;exact r7
    clear r7 g7 HG PB Y HR HL;generalize (wr.setCell _ _).drewN q7=w7 at *;have d0:=Z.out.1.c5;have f0:=Z.out.2 5;have T:Hid (NB (w7.setCell ⟨w.heap.size+1,5,none⟩ (.int .i64 (UL r2 3))) (w.heap.size+1) (s8 p d (UL r2) 4)):=Z.out.iG (UL r2 3);have R:Hid (NB (w7.setCell ⟨w.heap.size+1,5,none⟩ (.int .i64 (UL r2 3))) w.heap.size nd0):=U.out.other (by omega) _ _;have M:Hid (RS w0 (w7.setCell ⟨w.heap.size+1,5,none⟩ (.int .i64 (UL r2 3))) k (r2.drop (4*4))):=R7.out.setOther (by omega) (by omega) _ _;have G8:Hid (w.grownBy (w7.setCell ⟨w.heap.size+1,5,none⟩ (.int .i64 (UL r2 3))) (some k)):=SM V.out (by omega) _ _;go_wp2;exact ⟨⟨4,by omega,rfl,by show 4*4≤_;omega,G8,R,T,M⟩,by simp [intOf]⟩
  · have hix:=fun W=>kX W (w.heap.size+1)
    go_wp2_with fail
    clear hix
    by_cases hlt:20≤r2.length
    rotate_left
    · refine (VG w0 wr k 4 _ HR.out (by rw [ZS];omega)).mono ?_
      rintro e w7 ⟨rfl,rfl⟩;refine ⟨rfl,HG.out,.inl ⟨?_,rfl⟩⟩;unfold QF;rw [tV.out];simp only;rw [yM.out];simp only;rw [Z1 (by omega)]
    refine (Vc w0 wr k 4 _ HR.out (by rw [ZS];omega) (by omega) (by omega) (TW HB2.out _)).mono ?_;rintro e w7 ⟨rfl,r7,v7,q7,rfl⟩;rw [Gg (TW HB2.out _)];have g7:wr.grownBy ((wr.setCell ⟨k,0,none⟩ v7).drewN q7) (some k):=(grownBy_set _ _ _ _ _ (Zz _ _)).trans (grown_of (below_drewN' _ q7) _);have V:=ZU (HG.out.trans g7);have U:=ZU (PB.out.turn g7 (by simp;omega));have Z:=ZU (Y.out.turn g7 (by simp;omega));have R7:Hid (RS w0 ((wr.setCell ⟨k,0,none⟩ v7).drewN q7) k (r2.drop (4*5))):=by rw [Yc] at r7;exact r7
    clear r7 g7 HG PB Y HR HL;generalize (wr.setCell _ _).drewN q7=w7 at *;have d0:=Z.out.1.c6;have f0:=Z.out.2 6;have T:Hid (NB (w7.setCell ⟨w.heap.size+1,6,none⟩ (.int .i64 (UL r2 4))) (w.heap.size+1) (s8 p d (UL r2) 5)):=Z.out.iF (UL r2 4);have R:Hid (NB (w7.setCell ⟨w.heap.size+1,6,none⟩ (.int .i64 (UL r2 4))) w.heap.size nd0):=U.out.other (by omega) _ _;have M:Hid (RS w0 (w7.setCell ⟨w.heap.size+1,6,none⟩ (.int .i64 (UL r2 4))) k (r2.drop (4*5))):=R7.out.setOther (by omega) (by omega) _ _;have G8:Hid (w.grownBy (w7.setCell ⟨w.heap.size+1,6,none⟩ (.int .i64 (UL r2 4))) (some k)):=SM V.out (by omega) _ _;go_wp2;exact ⟨⟨5,by omega,rfl,by show 4*5≤_;omega,G8,R,T,M⟩,by simp [intOf]⟩
  obtain ⟨⟨-,y0,y1,y2,y3,y4,y5,y6⟩,-⟩:=Y.out;obtain ⟨⟨-,x0,x1,x2,x3,x4,x5,x6⟩,xf⟩:=PB.out;have Z7:20≤r2.length:=by omega
  have DJ:Hid (QF ys=some (s8 p d (UL r2) 5,r2.drop 20)):=by
   show _=_;unfold QF;rw [tV.out];simp only;rw [yM.out];simp only;rw [Z0 Z7]
   rfl
  obtain ⟨nn,hnn⟩:∃nn,nn=s8 p d (UL r2) 5:=⟨_,rfl⟩;rw [←hnn] at y0 y1 y2 y3 y4 y5 y6 DJ;clear hnn;go_wp2;refine ZW (v:=tW nn) (by simp [results,Tryz.results178,go_sem,tW,x0,x1,x2,x3,x4,x5,x6]) rfl ⟨?_,.inr ⟨nn,r2.drop 20,DJ.out,rfl,?_⟩⟩
  · iterate 7 refine SM ?_ YR _ _
    exact HG.out
  iterate 7 refine RS.setOther ?_ (by omega) (by omega) _ _
  exact HR.out
theorem DI (W:World) (v:Value):(Instr.typeAssert (.iface 296 v) 20 296 true).run Tryz.prog W=.ok (.tuple #[v,.bool true]) W:=by kernel_rfl
theorem Cc (w:World):Calls Tryz.prog 174 #[.nilIface] w fun e w'=>e=.returned (.tuple #[])∧w'=w:=by
 go_enter Tryz.func174,Tryz.ntmps174
 go_wp2;exact ZW (Wu rfl _ _ _) rfl ⟨rfl,rfl⟩
theorem Cb (w:World):Calls Tryz.prog 174 #[.iface 296 (.agg #[])] w (Wj w (.tuple #[])):=by
 have ha:∀(W:World) (v:Value),(Instr.typeAssert (.iface 296 v) 20 296 true).run Tryz.prog W=.ok (.tuple #[v,.bool true]) W:=fun W v=>DI W v
 go_enter Tryz.func174,Tryz.ntmps174
 go_wp2
 go_end0
 exact ⟨rfl,Yy.alloc YR _⟩
theorem Sb (older:List PanicEntry) (w:World) :
    CallsD Tryz.prog 176 #[] (.panicking ({ v:=.iface 296 (.agg #[]),recovered:=false } :: older)) w fun e u' w' =>
     e=.returned (.tuple #[])∧u'=.panicking ({ v:=.iface 296 (.agg #[]),recovered:=true } :: older)∧Zi w w':=by
 refine UA Tryz.func176 rfl fun c₀ cs hu=>?_
 apply TN
 simp [wpOpsS,go_sem,recoverD,hu,Tryz.ntmps176]
 refine (Cb w).mono ?_;rintro e w' ⟨rfl,bw⟩
 simp_all [bodyPostS,results,Tryz.results176]
theorem Mi (w:World) :
    CallsD Tryz.prog 176 #[] .returning w fun e u' w'=>e=.returned (.tuple #[])∧u'=.returning∧w'=w:=by
 refine UA Tryz.func176 rfl fun c₀ cs hu=>?_
 apply TN
 simp [wpOpsS,go_sem,recoverD,hu,Tryz.ntmps176]
 refine (Cc w).mono ?_;rintro e w' ⟨rfl,rfl⟩
 cases c₀
 simp_all [bodyPostS,results,Tryz.results176]
def qu:Value:=.agg #[.bool false,.slice none 0 0]
def Iz (w:World) (ys:List Int) (e:Ending) (w':World):Prop :=
 Zi w w'∧((Gj ys=none∧e=.returned qu)∨∃ns v,Gj ys=some ns∧e=.returned (.agg #[.bool true,v])∧XU 147 w' w.heap.size v ns)
def Zt (W:World) (k:Nat):Prop:=k<W.heap.size∧W.cell? ⟨k,0,none⟩=some (.bool false)∧W.cell? ⟨k,1,none⟩=some (.slice none 0 0)∧∀j,W.frozen? ⟨k,j,none⟩=false
theorem Zt.turn (h:Zt W k) (hg:W.grownBy W' row) (hne:some k≠row):Zt W' k:=by
 have hb:=hg.block k h.1 hne;exact ⟨ZY h.1 hg.size,(ZP (a:=⟨k,0,none⟩) hb).trans h.2.1,(ZP (a:=⟨k,1,none⟩) hb).trans h.2.2.1,fun j=>(Yq (a:=⟨k,j,none⟩) hb).trans (h.2.2.2 j)⟩
theorem Zt.set (h:Zt W k) (hne:k≠B) (i:Nat) (u:Value):Zt (W.setCell ⟨B,i,none⟩ u) k :=
 ⟨by simpa using h.1,(ZV _ _ _ _ (by intro e;injection e with e;omega)).trans h.2.1,(ZV _ _ _ _ (by intro e;injection e with e;omega)).trans h.2.2.1,fun j=>by rw [Zb];exact h.2.2.2 j⟩
def B1 (W:World) (k:Nat) (v:Value):Prop:=k<W.heap.size∧W.cell? ⟨k,0,none⟩=some v∧W.frozen? ⟨k,0,none⟩=false
theorem B1.turn (h:B1 W k v) (hg:W.grownBy W' row) (hne:some k≠row):B1 W' k v:=by
 have hb:=hg.block k h.1 hne;exact ⟨ZY h.1 hg.size,(ZP (a:=⟨k,0,none⟩) hb).trans h.2.1,(Yq (a:=⟨k,0,none⟩) hb).trans h.2.2⟩
theorem XU.turn {lo:Nat} (h:XU 147 W lo v ns) (hg:W.grownBy W' (some k)) (hk:k<lo):XU 147 W' lo v ns:=by
 refine Zn h hg ?_
 cases e:v.ownBlock with
 | none=>exact .inl rfl
 | some g =>
  refine .inr fun e2=>?_
  have:=(ZT h g e).1
  simp only [ZK] at e2
  omega
theorem Gf (ns:List Nd) (n:Nd):YE (ns++[n])=YE ns++Uu n:=by rw [Wd];simp [YE]
theorem Qp (w:World) (n:Nd) (t:TypeId):∀j u,(Uu n)[j]?=some u→(w.alloc (.cells #[.string n.path,.string n.data,.int .i64 n.XT,.int .i64 n.XQ,.int .i64 n.cz,.int .i64 n.mz,.int .i64 n.pz] t)).cell? ((⟨w.heap.size,0,none⟩:Addr).add j)=some u:=by
 intro j u hj;rw [YY,Za,cell_of (Zs w _) j,←hj]
 simp [Uu]
theorem Pb (n:Nd):∀u ∈ Uu n,u.oneCell'=true:=by
 intro u hu
 simp only [Uu,Y9,SZ,Sh] at hu
 rcases hu with rfl | rfl | rfl | rfl | rfl | rfl | rfl <;> rfl
theorem Lm (n:Nd) (W:World):(Instr.field 149 (.agg #[.string n.path,.string n.data,.int .i64 n.XT,.int .i64 n.XQ,.int .i64 n.cz,.int .i64 n.mz,.int .i64 n.pz]) 0).run Tryz.prog W=.ok (.agg #[.string n.path,.string n.data,.int .i64 n.XT,.int .i64 n.XQ,.int .i64 n.cz,.int .i64 n.mz,.int .i64 n.pz]) W:=by kernel_rfl
def ja (ns:List Nd):Prop:=∀n ∈ ns,n.path.size<256∧n.data.size<256
theorem ja.at (h:ja ns) (i:Nat):(Ye ns i).path.size≤1048576∧(Ye ns i).data.size≤1048576:=by
 by_cases hi:i<ns.length
 · rw [WF hi]
   have:=h _ (YP hi);omega
 unfold Ye;rw [List.getD,Yk (by omega)];exact ⟨Zu _,Zu _⟩
def TS (w:World) (ys:List Int) (W:World) (v:Value) (ns:List Nd) (r:List Int):Prop :=
 yL ys ns r∧Sn r∧ja ns∧RS w W (w.heap.size+1) r∧Zt W w.heap.size∧B1 W (w.heap.size+1+1) v∧XU 147 W (w.heap.size+3) v ns
def OB (W:World) (k:Nat):Nat:=match W.cell? ⟨k,0,none⟩ with | some (.slice _ n _)=>n | _=>0
theorem RS.OB (h:RS w0 W k r):OB W k=r.length:=by
 obtain ⟨-,-,-,-,v,h5,h6⟩:=h;obtain ⟨ao,c,rfl,-⟩:=h6;unfold Go.Proofs.YtpmjnbmkippaiaaGreatDoor.OB;rw [h5]
theorem TS.start (w:World) (ao:Option Addr) (ys:List Int) (cap:Nat) (h:Rd .u8 w (.slice ao ys.length cap) ys) (hb:Sn ys) :
    TS w ys (((w.alloc (.cells #[.bool false,.slice none 0 0] 135)).alloc (.cells #[.slice ao ys.length cap] 256)).alloc (.cells #[.slice none 0 0] 63)) (.slice none 0 0) [] ys:=by
 refine ⟨yL.start ys,hb,(fun n hn=>by cases hn),⟨by omega,by simp,(by go_simp),((Yy.alloc YR _).alloc (by simp) _).alloc (by simp;omega) _,_,(by go_simp),h⟩,⟨by simp;omega,(by go_simp),(by go_simp),fun j=>(by go_simp)⟩,⟨by simp,(by go_simp),(by go_simp)⟩,ZH _ _ _ _⟩
theorem TS.drewN (h:TS w ys W v ns r) (q:Nat):TS w ys (W.drewN q) v ns r:=⟨h.1,h.2.1,h.2.2.1,h.2.2.2.1.drewN q,h.2.2.2.2.1,h.2.2.2.2.2.1,h.2.2.2.2.2.2⟩
theorem TS.below (h:TS w ys W v ns r):Zi w W:=h.2.2.2.1.2.2.2.1
theorem xY (w0 w:World) (k:Nat) (ys:List Int) (h:RS w0 w k ys) :
    Calls Tryz.prog 177 #[.pointer (some ⟨k,0,none⟩)] w fun e w'=>e=.returned (.bool (decide (ys=[])))∧w'=w:=by
 obtain ⟨-,-,-,-,v,h5,h6⟩:=h;obtain ⟨ao,c,rfl,-⟩:=h6
 by_cases hy:ys=[]
 · subst hy
   have h0:((List.length ([]:List Int):Int) == 0)=true:=rfl
   go_enter Tryz.func177,Tryz.ntmps177
   go_wp2;go_ret;exact ⟨rfl,rfl⟩
 have hl:=List.length_pos_iff.2 hy;have h0:((ys.length:Int) == 0)=false:=YH.2 (by omega);rw [Zo hy]
 go_enter Tryz.func177,Tryz.ntmps177
 go_wp2;go_ret;exact ⟨rfl,rfl⟩
theorem fE (fn:Fn) (first cap:Array Value) (w:World):(Instr.makeFunc fn first cap).run Tryz.prog w=.ok (.func fn first cap) w:=rfl
theorem RS.turn (h:RS w0 W k r) (hg:W.grownBy W' row) (hne:some k≠row) (hlo:∀g,row=some g→w0.heap.size≤g):RS w0 W' k r:=by
 obtain ⟨h1,h2,h3,h4,v,h5,h6⟩:=h;have hb:=hg.block k h2 hne;exact ⟨h1,ZY h2 hg.size,(Yq (a:=⟨k,0,none⟩) hb).trans h3,h4.grown hg h4.size hlo,v,(ZP (a:=⟨k,0,none⟩) hb).trans h5,h6⟩
def TR (w:World) (ys:List Int) (W:World) (v:Value) (ns:List Nd) (n:Nd) (r:List Int):Prop :=
 yL ys (ns++[n]) r∧Sn r∧ja (ns++[n])∧RS w W (w.heap.size+1) r∧Zt W w.heap.size∧B1 W (w.heap.size+1+1) v∧XU 147 W (w.heap.size+3) v ns
theorem TS.read {W1:World} (h:TS w ys W v ns r) (hg:W.grownBy W1 (some (w.heap.size+1))) (hp:QF r=some (n,r')) (hr:RS w W1 (w.heap.size+1) r'):TR w ys W1 v ns n r':=by
 obtain ⟨t1,t2,t3,t4,t5,t6,t7⟩:=h;have hb:=NK hp t2;refine ⟨t1.step t2 hp,hb.1,?_,hr,t5.turn hg (by simp),t6.turn hg (by simp),t7.turn hg (by omega)⟩;intro m hm
 rcases Y4.1 hm with hm | hm
 · exact t3 m hm
 simp at hm;subst hm;exact hb.2.2
theorem TR.alloc (h:TR w ys W v ns n r) (o:Obj):TR w ys (W.alloc o) v ns n r:=by
 obtain ⟨t1,t2,t3,t4,t5,t6,t7⟩:=h;exact ⟨t1,t2,t3,t4.new (Yy.alloc YR _),t5.turn (RM _ _ none) (by simp),t6.turn (RM _ _ none) (by simp),t7.below (Yy.alloc YR _)⟩
theorem TR.push {W3:World} {v3:Value} (h:TR w ys W v ns n r) (hg:W.grownBy W3 v.ownBlock) (ho:W3.ownsRow (w.heap.size+3) 147 7 v3 (ns.length+1) (YE ns++Uu n)) :
    TS w ys (W3.setCell ⟨w.heap.size+1+1,0,none⟩ v3) v3 (ns++[n]) r:=by
 obtain ⟨t1,t2,t3,t4,t5,t6,t7⟩:=h;have hne:∀k,k<w.heap.size+3→some k≠v.ownBlock:=fun k hk e=>by have:=(ZT t7 k e.symm).1;omega
 have hlo:∀g,v.ownBlock=some g→w.heap.size≤g:=fun g e=>by have:=(ZT t7 g e).1;omega
 have b6:=t6.turn hg (hne _ (by omega));refine ⟨t1,t2,t3,(t4.turn hg (hne _ (by omega)) hlo).setOther (by omega) (by omega) _ _,(t5.turn hg (hne _ (by omega))).set (by omega) _ _,⟨by simpa using b6.1,Zk _ _ _ b6.2.1,by rw [Zb];exact b6.2.2⟩,?_⟩;have:XU 147 W3 (w.heap.size+3) v3 (ns++[n]):=by unfold XU;rw [Gf,ZZ];exact ho
 exact XU.Vz this (by show w.heap.size+1+1<w.heap.size+3;omega) _
theorem Iy (w:World) (v:Value) (ys:List Int) (h:Rd .u8 w v ys) (hby:Sn ys) (hl:ys.length≤1048576) :
    Calls Tryz.prog 133 #[v] w fun e w'=>Iz w ys e w':=by
 obtain ⟨i0,hi,hz0,hz1,hz2⟩:=YN Tryz.Ml;obtain ⟨ao,cap,rfl,-,-⟩:=h.len;have D0:=ZU (TS.start w ao ys cap h hby);have hm:=fE
 go_enter_defers Tryz.func133,Tryz.ntmps133
 go_wp2;generalize (((w.alloc _).alloc _).alloc _)=W0 at *
 go_loopw [9] (fun u9 wr=>∃v ns r,Hid (TS w ys wr v ns r)) (fun _ wr=>OB wr (w.heap.size+1))
 case atStart=>exact ⟨_,_,_,D0⟩
 case round =>
  obtain ⟨v,ns,r,D⟩:=hrel;obtain ⟨va,vc,hva⟩:=D.out.2.2.2.2.2.2.slice;subst hva
  go_wp2_with fail
  refine (xY w wr (w.heap.size+1) r D.out.2.2.2.1).mono ?_;rintro e w1 ⟨rfl,rfl⟩
  by_cases hr:r=[]
  · subst hr
    rw [show decide (([]:List Int)=[])=true from rfl];obtain ⟨t1,-,t3,-,⟨tz,z0,z1,zf⟩,⟨-,b0,-⟩,t7⟩:=D.out;have AK:=ZU t1.done;have LY:=ZU t3;have Z6:=ZU t7
    go_wp2_with fail
    refine (UM _ _ ns Z6.out.rd LY.out.at).mono ?_;rintro e w2 ⟨rfl,b2⟩;have Z5:=ZU (Z6.out.below b2);have HB2:=ZU (D.out.below.trans (b2.mono D.out.below.size));obtain ⟨-,z0,z1,zf⟩:=D.out.2.2.2.2.1.turn (grown_of b2 none) (by simp);obtain ⟨-,d0,-⟩:=D.out.2.2.2.2.2.1.turn (grown_of b2 none) (by simp);have f0:=zf 0;have f1:=zf 1
    by_cases hok:WE ns=true
    · have HF:Hid (∀W,W=(w2.setCell ⟨w.heap.size,0,none⟩ (.bool true)).setCell ⟨w.heap.size,1,none⟩ (.slice va ns.length vc)→Iz w ys (.returned (.agg #[.bool true,.slice va ns.length vc])) W):=by
       rintro W rfl;refine ⟨(HB2.out.setCell (p:=⟨w.heap.size,0,none⟩) YR _).setCell (p:=⟨w.heap.size,1,none⟩) YR _,.inr ⟨ns,_,?_,rfl,?_⟩⟩
       · unfold Gj;rw [AK.out];simp only;rw [Z0 hok]
       exact XU.mono (XU.Vz (XU.Vz Z5.out (by show w.heap.size<w.heap.size+3;omega) _) (by show w.heap.size<w.heap.size+3;omega) _) (by omega)
      rw [hok];go_wp2;refine XE (f:=176) (args:=#[]) (by simp) (by simp [go_sem]) ?_;refine (Mi _).mono ?_;rintro e u' w3 ⟨rfl,rfl,rfl⟩
      simp [Leaves,settle,results,Tryz.results133,go_sem,z0,z1]
      exact HF.out _ rfl
    have hok':WE ns=false:=by simpa using hok
    have HF:Hid (∀W,W=(w2.setCell ⟨w.heap.size,0,none⟩ (.bool false)).setCell ⟨w.heap.size,1,none⟩ (.slice none 0 0)→Iz w ys (.returned (.agg #[.bool false,.slice none 0 0])) W):=by
     rintro W rfl;refine ⟨(HB2.out.setCell (p:=⟨w.heap.size,0,none⟩) YR _).setCell (p:=⟨w.heap.size,1,none⟩) YR _,.inl ⟨?_,rfl⟩⟩;unfold Gj;rw [AK.out];simp only;rw [Z1 hok]
    rw [hok'];go_wp2;refine XE (f:=176) (args:=#[]) (by simp) (by simp [go_sem]) ?_;refine (Mi _).mono ?_;rintro e u' w3 ⟨rfl,rfl,rfl⟩
    simp [Leaves,settle,results,Tryz.results133,go_sem,z0,z1]
    exact HF.out _ rfl
  rw [Zo hr];have HBAD:Hid (QF r=none→∀W W',w1.drew.grownBy W (some (w.heap.size+1))→Zi W W'→W'.cell? ⟨w.heap.size,0,none⟩=some (.bool false)∧W'.cell? ⟨w.heap.size,1,none⟩=some (.slice none 0 0)∧Iz w ys (.returned (.agg #[.bool false,.slice none 0 0])) W'):=by
   intro hp W W' hg hb;have z:=((D.out.drewN 1).2.2.2.2.1.turn hg (by simp)).turn (grown_of hb none) (by simp);have hB:=(D.out.drewN 1).below.grown hg (D.out.drewN 1).below.size (fun q hq=>by simp only [ZK] at hq;omega);refine ⟨z.2.1,z.2.2.1,WD hB hb,.inl ⟨?_,rfl⟩⟩;unfold Gj;rw [D.out.1.bad hr hp]
  have Zl:Hid (r≠[]):=hr;have lX:Hid (ns.length+r.length≤ys.length):=by obtain ⟨f,-,-,h⟩:=D.out.1;exact h
  have hns:ns.length≤1048576:=by have:=lX.out;omega
  have c0:=D.out.2.2.2.2.2.1.2.1
  cases hrd:QF r with
  | none =>
   have DJ:=ZU hrd;go_wp2;refine ZX (S:=fun _=>True) (by kernel_rfl) trivial (fun Z9=>?_);refine QG 0 2 rfl rfl (by kernel_rfl) (fun K hK=>?_) (fun K hK=>?_)
   · go_simp
     refine hK.out _ _ trivial (fun YA=>?_);refine QG 1 2 rfl rfl (by kernel_rfl) (fun K hK=>?_) (fun K hK=>?_)
     · go_simp
       refine hK.out _ _ trivial (fun YA=>?_);refine YS 2 rfl (by kernel_rfl) (fun K hK=>?_);go_simp;refine hK.out _ _ trivial (fun YA=>?_);refine YS 3 rfl (by kernel_rfl) (fun K hK=>?_);go_simp;refine (VF w w1.drew (w.heap.size+1) r (D.out.drewN 1).2.2.2.1 D.out.2.1).mono ?_;rintro e W1 ⟨g1,hp⟩
       rcases hp with ⟨hp,rfl⟩ | ⟨n,r',hp,rfl,hr1⟩
       · refine XE (f:=176) (args:=#[]) (by simp) (by simp [go_sem]) ?_
         refine (Sb [] _).mono ?_;rintro e u' w3 ⟨rfl,rfl,b3⟩;obtain ⟨z0,z1,hF⟩:=HBAD.out hp _ _ g1 b3
         simp [Leaves,settle,results,Tryz.results133,go_sem,z0,z1]
         exact hF
       rw [DJ.out] at hp;cases hp
     go_simp;refine hK.out _ _ trivial (fun YA=>?_);refine QG 1 3 rfl rfl (by kernel_rfl) (fun K hK=>?_) (fun K hK=>?_)
     · go_simp
       refine hK.out _ _ trivial (fun YA=>?_);refine YS 3 rfl (by kernel_rfl) (fun K hK=>?_);go_simp;refine (VF w w1.drew (w.heap.size+1) r (D.out.drewN 1).2.2.2.1 D.out.2.1).mono ?_;rintro e W1 ⟨g1,hp⟩
       rcases hp with ⟨hp,rfl⟩ | ⟨n,r',hp,rfl,hr1⟩
       · refine XE (f:=176) (args:=#[]) (by simp) (by simp [go_sem]) ?_
         refine (Sb [] _).mono ?_;rintro e u' w3 ⟨rfl,rfl,b3⟩;obtain ⟨z0,z1,hF⟩:=HBAD.out hp _ _ g1 b3
         simp [Leaves,settle,results,Tryz.results133,go_sem,z0,z1]
         exact hF
       rw [DJ.out] at hp;cases hp
     go_simp;refine (VF w w1.drew (w.heap.size+1) r (D.out.drewN 1).2.2.2.1 D.out.2.1).mono ?_;rintro e W1 ⟨g1,hp⟩
     rcases hp with ⟨hp,rfl⟩ | ⟨n,r',hp,rfl,hr1⟩
     · refine XE (f:=176) (args:=#[]) (by simp) (by simp [go_sem]) ?_
       refine (Sb [] _).mono ?_;rintro e u' w3 ⟨rfl,rfl,b3⟩;obtain ⟨z0,z1,hF⟩:=HBAD.out hp _ _ g1 b3
       simp [Leaves,settle,results,Tryz.results133,go_sem,z0,z1]
       exact hF
     rw [DJ.out] at hp;cases hp
   go_simp;refine hK.out _ _ trivial (fun YA=>?_);refine QG 0 3 rfl rfl (by kernel_rfl) (fun K hK=>?_) (fun K hK=>?_)
   · go_simp
     refine hK.out _ _ trivial (fun YA=>?_);refine QG 1 3 rfl rfl (by kernel_rfl) (fun K hK=>?_) (fun K hK=>?_)
     · go_simp
       refine hK.out _ _ trivial (fun YA=>?_);refine YS 3 rfl (by kernel_rfl) (fun K hK=>?_);go_simp;refine (VF w w1.drew (w.heap.size+1) r (D.out.drewN 1).2.2.2.1 D.out.2.1).mono ?_;rintro e W1 ⟨g1,hp⟩
       rcases hp with ⟨hp,rfl⟩ | ⟨n,r',hp,rfl,hr1⟩
       · refine XE (f:=176) (args:=#[]) (by simp) (by simp [go_sem]) ?_
         refine (Sb [] _).mono ?_;rintro e u' w3 ⟨rfl,rfl,b3⟩;obtain ⟨z0,z1,hF⟩:=HBAD.out hp _ _ g1 b3
         simp [Leaves,settle,results,Tryz.results133,go_sem,z0,z1]
         exact hF
       rw [DJ.out] at hp;cases hp
     go_simp;refine (VF w w1.drew (w.heap.size+1) r (D.out.drewN 1).2.2.2.1 D.out.2.1).mono ?_;rintro e W1 ⟨g1,hp⟩
     rcases hp with ⟨hp,rfl⟩ | ⟨n,r',hp,rfl,hr1⟩
     · refine XE (f:=176) (args:=#[]) (by simp) (by simp [go_sem]) ?_
       refine (Sb [] _).mono ?_;rintro e u' w3 ⟨rfl,rfl,b3⟩;obtain ⟨z0,z1,hF⟩:=HBAD.out hp _ _ g1 b3
       simp [Leaves,settle,results,Tryz.results133,go_sem,z0,z1]
       exact hF
     rw [DJ.out] at hp;cases hp
   go_simp;refine (VF w w1.drew (w.heap.size+1) r (D.out.drewN 1).2.2.2.1 D.out.2.1).mono ?_;rintro e W1 ⟨g1,hp⟩
   rcases hp with ⟨hp,rfl⟩ | ⟨n,r',hp,rfl,hr1⟩
   · refine XE (f:=176) (args:=#[]) (by simp) (by simp [go_sem]) ?_
     refine (Sb [] _).mono ?_;rintro e u' w3 ⟨rfl,rfl,b3⟩;obtain ⟨z0,z1,hF⟩:=HBAD.out hp _ _ g1 b3
     simp [Leaves,settle,results,Tryz.results133,go_sem,z0,z1]
     exact hF
   rw [DJ.out] at hp;cases hp
  | some q =>
   obtain ⟨n0,r0⟩:=q;have DJ:=ZU hrd;go_wp2;refine wp_region_noPanic ?_;refine ZX (S:=fun _=>True) (by kernel_rfl) (trivial) (fun Z9=>?_);refine Zf (.pointer (some ⟨w.heap.size+1+1,0,none⟩)) (by kernel_rfl) (fun _=>id) Z9 ?_ ?_
   · intro w9 ZQ;go_simp
   refine Yp 2 (.pointer (some ⟨w.heap.size+1,0,none⟩)) rfl (by kernel_rfl) (fun _=>id) Z9 ?hy2 ?_
   case hy2=>intro w9 ZQ;go_simp
   refine QG 1 3 rfl rfl (by kernel_rfl) (fun K hK=>?_) (fun K hK=>?_)
   · go_simp
     refine hK.out _ _ trivial (fun YA=>?_);refine YS 3 rfl (by kernel_rfl) (fun K hK=>?_);go_simp;refine (VF w w1.drew (w.heap.size+1) r (D.out.drewN 1).2.2.2.1 D.out.2.1).mono ?_;rintro e W1 ⟨g1,hp⟩
     rcases hp with ⟨hp,rfl⟩ | ⟨n,r',hp,rfl,hr1⟩
     · rw [DJ.out] at hp;cases hp
     have T1:=ZU ((D.out.drewN 1).read g1 hp hr1);have NR:=ZU ((NK hp D.out.2.1).2.1);have c1:=T1.out.2.2.2.2.2.1.2.1;refine hK.out _ _ trivial (fun YA=>?_);refine Zf (tW n) (by kernel_rfl) (fun _=>id) Z9 ?_ ?_
     · intro w9 ZQ;unfold tW;have Zy:=Lm n w9;go_simp
     refine YS 5 rfl (by kernel_rfl) (fun K hK=>?_);unfold tW;go_simp;have T2:Hid (TR w ys (W1.alloc (.cells #[.string n.path,.string n.data,.int .i64 n.XT,.int .i64 n.XQ,.int .i64 n.cz,.int .i64 n.mz,.int .i64 n.pz] 147)) (.slice va ns.length vc) ns n r'):=T1.out.alloc _;have NC:Hid (∀j u,(Uu n)[j]?=some u→(W1.alloc (.cells #[.string n.path,.string n.data,.int .i64 n.XT,.int .i64 n.XQ,.int .i64 n.cz,.int .i64 n.mz,.int .i64 n.pz] 147)).cell? ((⟨W1.heap.size,0,none⟩:Addr).add j)=some u):=Qp _ _ _;refine hK.out _ _ trivial (fun YA=>?_);generalize W1.alloc _=W2 at *;generalize W1.heap.size=G1 at *;have c1:=T2.out.2.2.2.2.2.1.2.1;refine YS 6 rfl (by kernel_rfl) (fun K hK=>?_);refine step_append rfl (.tmp 12) (.tmp 16) 61 rfl (w.heap.size+3) 147 i0 (.agg #[.string ByteArray.empty,.string ByteArray.empty,.int .i64 0,.int .i64 0,.int .i64 0,.int .i64 0,.int .i64 0]) 7 72 Tryz.underlying61 hi hz0 hz1 hz2 rfl (by decide) (.slice va ns.length vc) ns.length _ rfl T2.out.2.2.2.2.2.2 ⟨G1,0,none⟩ 1 1 (Uu n) rfl rfl NC.out (Pb n) (by unfold maxLen;omega) (by omega) (by have:=T2.out.2.2.2.2.2.1.1;omega) ?_;intro v3 W3 ho3 hg3;have D3:=ZU (T2.out.push hg3 ho3);obtain ⟨a3,q3,hv3⟩:=D3.out.2.2.2.2.2.2.slice;rw [show (ns++[n]).length=ns.length+1 by simp] at hv3;subst hv3;obtain ⟨-,c3,f3⟩:=T2.out.2.2.2.2.2.1.turn hg3 (fun e=>by have:=(ZT T2.out.2.2.2.2.2.2 _ e.symm).1;omega);refine hK.out _ _ trivial (fun YA=>?_);refine Zf (.pointer (some ⟨w.heap.size+1+1,0,none⟩)) (by kernel_rfl) (fun _=>id) Z9 ?_ ?_
     · intro w9 ZQ;go_simp
     refine YS 8 rfl (by kernel_rfl) (fun K hK=>?_);go_simp;refine hK.out _ _ trivial (fun YA=>?_);refine ZR (by kernel_rfl) (NoPanic.normal ?_) _
     try simp only [Act.put,WV,WU,WT]
     go_wp2;refine ⟨⟨_,_,_,D3⟩,?_⟩;rw [D3.out.2.2.2.1.OB,D.out.2.2.2.1.OB];exact NR.out
   go_simp;refine (VF w w1.drew (w.heap.size+1) r (D.out.drewN 1).2.2.2.1 D.out.2.1).mono ?_;rintro e W1 ⟨g1,hp⟩
   rcases hp with ⟨hp,rfl⟩ | ⟨n,r',hp,rfl,hr1⟩
   · rw [DJ.out] at hp;cases hp
   have T1:=ZU ((D.out.drewN 1).read g1 hp hr1);have NR:=ZU ((NK hp D.out.2.1).2.1);have c1:=T1.out.2.2.2.2.2.1.2.1;refine hK.out _ _ trivial (fun YA=>?_);refine Yp 4 (tW n) rfl (by kernel_rfl) (fun _=>id) Z9 ?DH ?_
   case DH =>
    intro w9 ZQ;unfold tW;have Zy:=Lm n w9;go_simp
   refine QG 1 5 rfl rfl (by kernel_rfl) (fun K hK=>?_) (fun K hK=>?_)
   · go_simp
     refine hK.out _ _ trivial (fun YA=>?_);refine YS 5 rfl (by kernel_rfl) (fun K hK=>?_);unfold tW;go_simp;have T2:Hid (TR w ys (W1.alloc (.cells #[.string n.path,.string n.data,.int .i64 n.XT,.int .i64 n.XQ,.int .i64 n.cz,.int .i64 n.mz,.int .i64 n.pz] 147)) (.slice va ns.length vc) ns n r'):=T1.out.alloc _;have NC:Hid (∀j u,(Uu n)[j]?=some u→(W1.alloc (.cells #[.string n.path,.string n.data,.int .i64 n.XT,.int .i64 n.XQ,.int .i64 n.cz,.int .i64 n.mz,.int .i64 n.pz] 147)).cell? ((⟨W1.heap.size,0,none⟩:Addr).add j)=some u):=Qp _ _ _;refine hK.out _ _ trivial (fun YA=>?_);generalize W1.alloc _=W2 at *;generalize W1.heap.size=G1 at *;have c1:=T2.out.2.2.2.2.2.1.2.1;refine YS 6 rfl (by kernel_rfl) (fun K hK=>?_);refine step_append rfl (.tmp 12) (.tmp 16) 61 rfl (w.heap.size+3) 147 i0 (.agg #[.string ByteArray.empty,.string ByteArray.empty,.int .i64 0,.int .i64 0,.int .i64 0,.int .i64 0,.int .i64 0]) 7 72 Tryz.underlying61 hi hz0 hz1 hz2 rfl (by decide) (.slice va ns.length vc) ns.length _ rfl T2.out.2.2.2.2.2.2 ⟨G1,0,none⟩ 1 1 (Uu n) rfl rfl NC.out (Pb n) (by unfold maxLen;omega) (by omega) (by have:=T2.out.2.2.2.2.2.1.1;omega) ?_;intro v3 W3 ho3 hg3;have D3:=ZU (T2.out.push hg3 ho3);obtain ⟨a3,q3,hv3⟩:=D3.out.2.2.2.2.2.2.slice;rw [show (ns++[n]).length=ns.length+1 by simp] at hv3;subst hv3;obtain ⟨-,c3,f3⟩:=T2.out.2.2.2.2.2.1.turn hg3 (fun e=>by have:=(ZT T2.out.2.2.2.2.2.2 _ e.symm).1;omega);refine hK.out _ _ trivial (fun YA=>?_);refine Zf (.pointer (some ⟨w.heap.size+1+1,0,none⟩)) (by kernel_rfl) (fun _=>id) Z9 ?_ ?_
     · intro w9 ZQ;go_simp
     refine YS 8 rfl (by kernel_rfl) (fun K hK=>?_);go_simp;refine hK.out _ _ trivial (fun YA=>?_);refine ZR (by kernel_rfl) (NoPanic.normal ?_) _
     try simp only [Act.put,WV,WU,WT]
     go_wp2;refine ⟨⟨_,_,_,D3⟩,?_⟩;rw [D3.out.2.2.2.1.OB,D.out.2.2.2.1.OB];exact NR.out
   unfold tW;go_simp;have T2:Hid (TR w ys (W1.alloc (.cells #[.string n.path,.string n.data,.int .i64 n.XT,.int .i64 n.XQ,.int .i64 n.cz,.int .i64 n.mz,.int .i64 n.pz] 147)) (.slice va ns.length vc) ns n r'):=T1.out.alloc _;have NC:Hid (∀j u,(Uu n)[j]?=some u→(W1.alloc (.cells #[.string n.path,.string n.data,.int .i64 n.XT,.int .i64 n.XQ,.int .i64 n.cz,.int .i64 n.mz,.int .i64 n.pz] 147)).cell? ((⟨W1.heap.size,0,none⟩:Addr).add j)=some u):=Qp _ _ _;refine hK.out _ _ trivial (fun YA=>?_);generalize W1.alloc _=W2 at *;generalize W1.heap.size=G1 at *;have c1:=T2.out.2.2.2.2.2.1.2.1;refine YS 1 rfl (by kernel_rfl) (fun K hK=>?_);go_simp;refine hK.out _ _ trivial (fun YA=>?_);refine YS 6 rfl (by kernel_rfl) (fun K hK=>?_);refine step_append rfl (.tmp 12) (.tmp 16) 61 rfl (w.heap.size+3) 147 i0 (.agg #[.string ByteArray.empty,.string ByteArray.empty,.int .i64 0,.int .i64 0,.int .i64 0,.int .i64 0,.int .i64 0]) 7 72 Tryz.underlying61 hi hz0 hz1 hz2 rfl (by decide) (.slice va ns.length vc) ns.length _ rfl T2.out.2.2.2.2.2.2 ⟨G1,0,none⟩ 1 1 (Uu n) rfl rfl NC.out (Pb n) (by unfold maxLen;omega) (by omega) (by have:=T2.out.2.2.2.2.2.1.1;omega) ?_;intro v3 W3 ho3 hg3;have D3:=ZU (T2.out.push hg3 ho3);obtain ⟨a3,q3,hv3⟩:=D3.out.2.2.2.2.2.2.slice;rw [show (ns++[n]).length=ns.length+1 by simp] at hv3;subst hv3;obtain ⟨-,c3,f3⟩:=T2.out.2.2.2.2.2.1.turn hg3 (fun e=>by have:=(ZT T2.out.2.2.2.2.2.2 _ e.symm).1;omega);refine hK.out _ _ trivial (fun YA=>?_);refine Zf (.pointer (some ⟨w.heap.size+1+1,0,none⟩)) (by kernel_rfl) (fun _=>id) Z9 ?_ ?_
   · intro w9 ZQ;go_simp
   refine YS 8 rfl (by kernel_rfl) (fun K hK=>?_);go_simp;refine hK.out _ _ trivial (fun YA=>?_);refine ZR (by kernel_rfl) (NoPanic.normal ?_) _
   try simp only [Act.put,WV,WU,WT]
   go_wp2;refine ⟨⟨_,_,_,D3⟩,?_⟩;rw [D3.out.2.2.2.1.OB,D.out.2.2.2.1.OB];exact NR.out
def NI (ns:List Nd) (p:ByteArray):List Nd:=ns.filter fun n=>!(n.path.toList == p.toList)
def GN (n:Nd) (st:List Nd × Bool) (m:Nd):List Nd × Bool :=
 let o:=if !st.2 && !(Op.bytesLess m.path.toList n.path.toList) then (st.1++[n],true) else st
 if m.path.toList == n.path.toList then o else (o.1++[m],o.2)
def qt (ns:List Nd) (n:Nd):List Nd × Bool:=ns.foldl (GN n) ([],false)
def LX (ns:List Nd) (n:Nd):List Nd:=if (qt ns n).2 then (qt ns n).1 else (qt ns n).1++[n]
def blank (n:Nd):Bool:=(n.data.toList == []) && (n.XT == 0) && (n.XQ == 0) && (n.cz == 0) && (n.mz == 0) && (n.pz == 0)
def Sm (e:Ef):Bool:=Wl e.nd && (!e.del || blank e.nd)
theorem Ll {e:Ef} (h:e.del=false):Sm e=Wl e.nd:=by unfold Sm;rw [h];simp
theorem Jo {e:Ef} (h:e.del=true):Sm e=(Wl e.nd && blank e.nd):=by unfold Sm;rw [h];simp
theorem LW (w:World) (n:Ef) (hd:n.nd.data.size≤1048576) :
    Calls Tryz.prog 202 #[.agg #[.bool n.del,.string n.nd.path,.string n.nd.data,.int .i64 n.nd.XT,.int .i64 n.nd.XQ,.int .i64 n.nd.cz,.int .i64 n.nd.mz,.int .i64 n.nd.pz]] w (Wj w (.bool (Sm n))):=by
 have B0:Hid (∀o,Zi w (w.alloc o)):=fun o=>Yy.alloc YR _
 cases hdel:n.del with
 | false =>
  have HE:=ZU (Ll hdel)
  go_enter Tryz.func202,Tryz.ntmps202
  go_wp2_with fail
  refine (Qc _ n.nd hd).mono ?_;rintro e w1 ⟨rfl,b1⟩;have B1:=ZU ((B0.out _).trans (b1.mono (by simp)));clear b1;go_wp2;go_ret;exact ⟨Ws HE.out.symm,B1.out⟩
 | true =>
  have HE:=ZU (Jo hdel);clear hdel;have qs:(n.nd.path.toList == n.nd.path.toList)=true:=by simp
  cases P:(n.nd.data.toList == []) with
  | false =>
   have HN:Hid (Sm n=false):=by show _=_;rw [HE.out];unfold blank;rw [P];simp
   go_enter Tryz.func202,Tryz.ntmps202
   go_wp2_with fail
   go_ret;exact ⟨Ws HN.out.symm,B0.out _⟩
  | true =>
   cases Gp:(n.nd.XT == 0) with
   | false =>
    have HN:Hid (Sm n=false):=by show _=_;rw [HE.out];unfold blank;rw [Gp];simp
    go_enter Tryz.func202,Tryz.ntmps202
    go_wp2_with fail
    go_ret;exact ⟨Ws HN.out.symm,B0.out _⟩
   | true =>
    cases Lw:(n.nd.XQ == 0) with
    | false =>
     have HN:Hid (Sm n=false):=by show _=_;rw [HE.out];unfold blank;rw [Lw];simp
     go_enter Tryz.func202,Tryz.ntmps202
     go_wp2_with fail
     go_ret;exact ⟨Ws HN.out.symm,B0.out _⟩
    | true =>
     cases yr:(n.nd.cz == 0) with
     | false =>
      have HN:Hid (Sm n=false):=by show _=_;rw [HE.out];unfold blank;rw [yr];simp
      go_enter Tryz.func202,Tryz.ntmps202
      go_wp2_with fail
      go_ret;exact ⟨Ws HN.out.symm,B0.out _⟩
     | true =>
      cases yq:(n.nd.mz == 0) with
      | false =>
       have HN:Hid (Sm n=false):=by show _=_;rw [HE.out];unfold blank;rw [yq];simp
       go_enter Tryz.func202,Tryz.ntmps202
       go_wp2_with fail
       go_ret;exact ⟨Ws HN.out.symm,B0.out _⟩
      | true =>
       cases yp:(n.nd.pz == 0) with
       | false =>
        have HN:Hid (Sm n=false):=by show _=_;rw [HE.out];unfold blank;rw [yp];simp
        go_enter Tryz.func202,Tryz.ntmps202
        go_wp2_with fail
        go_ret;exact ⟨Ws HN.out.symm,B0.out _⟩
       | true =>
        have HY:Hid (Sm n=Wl n.nd):=by show _=_;rw [HE.out];unfold blank;rw [P,Gp,Lw,yr,yq,yp];simp
        go_enter Tryz.func202,Tryz.ntmps202
        go_wp2_with fail
        refine (Qc _ n.nd hd).mono ?_;rintro e w1 ⟨rfl,b1⟩;have B1:=ZU ((B0.out _).trans (b1.mono (by simp)));clear b1;go_wp2;go_ret;exact ⟨Ws HY.out.symm,B1.out⟩
structure NH (w:World) (B:Nat) (n:Ef):Prop where
 lt:B<w.heap.size
 c0:w.cell? ⟨B,0,none⟩=some (.bool n.del)
 c1:w.cell? ⟨B,1,none⟩=some (.string n.nd.path)
 c2:w.cell? ⟨B,2,none⟩=some (.string n.nd.data)
 c3:w.cell? ⟨B,3,none⟩=some (.int .i64 n.nd.XT)
 c4:w.cell? ⟨B,4,none⟩=some (.int .i64 n.nd.XQ)
 c5:w.cell? ⟨B,5,none⟩=some (.int .i64 n.nd.cz)
 c6:w.cell? ⟨B,6,none⟩=some (.int .i64 n.nd.mz)
 c7:w.cell? ⟨B,7,none⟩=some (.int .i64 n.nd.pz)
theorem NH.new (w:World) (n:Ef) (t:TypeId):NH (w.alloc (.cells #[.bool n.del,.string n.nd.path,.string n.nd.data,.int .i64 n.nd.XT,.int .i64 n.nd.XQ,.int .i64 n.nd.cz,.int .i64 n.nd.mz,.int .i64 n.nd.pz] t)) w.heap.size n :=
 ⟨by simp,by simp,by simp,by simp,by simp,by simp,by simp,by simp,by simp⟩
theorem NH.below {n:Ef} (h:NH w B n) (hb:Zi w w'):NH w' B n :=
 ⟨ZY h.lt hb.size,(hb.cell (p:=⟨B,_,none⟩) h.lt).trans h.c0,(hb.cell (p:=⟨B,_,none⟩) h.lt).trans h.c1,(hb.cell (p:=⟨B,_,none⟩) h.lt).trans h.c2,(hb.cell (p:=⟨B,_,none⟩) h.lt).trans h.c3,(hb.cell (p:=⟨B,_,none⟩) h.lt).trans h.c4,(hb.cell (p:=⟨B,_,none⟩) h.lt).trans h.c5,(hb.cell (p:=⟨B,_,none⟩) h.lt).trans h.c6,(hb.cell (p:=⟨B,_,none⟩) h.lt).trans h.c7⟩
theorem NH.all {n:Ef} (h:NH w B n):w.cell? ⟨B,0,none⟩=some (.bool n.del)∧w.cell? ⟨B,1,none⟩=some (.string n.nd.path)∧w.cell? ⟨B,2,none⟩=some (.string n.nd.data)∧w.cell? ⟨B,3,none⟩=some (.int .i64 n.nd.XT)∧w.cell? ⟨B,4,none⟩=some (.int .i64 n.nd.XQ)∧w.cell? ⟨B,5,none⟩=some (.int .i64 n.nd.cz)∧w.cell? ⟨B,6,none⟩=some (.int .i64 n.nd.mz)∧w.cell? ⟨B,7,none⟩=some (.int .i64 n.nd.pz):=⟨h.c0,h.c1,h.c2,h.c3,h.c4,h.c5,h.c6,h.c7⟩
def PW (ns:List Ef) (k:Nat):Bool:=Sm (Vr ns k) && (decide (k=0) || Tz (Vr ns (k - 1)).nd.path (Vr ns k).nd.path)
def MN (ns:List Ef):Bool:=(List.range ns.length).all (PW ns)
def Tm (z:Int) (ns:List Ef):Bool:=decide (1≤z) && decide (z≤2147483647) && decide (ns.length≤1000) && MN ns
theorem qr {ns:List Ef} (h:k<ns.length) (hn:PW ns k=false):MN ns=false:=by
 unfold MN;rw [VQ];exact ⟨k,Yb.2 h,by rw [hn];simp⟩
theorem xX {ns:List Ef} (h:∀k,k<ns.length→PW ns k=true):MN ns=true:=by
 unfold MN;rw [Yw];exact fun k hk=>h k (Yb.1 hk)
theorem Lk (ns:List Ef):PW ns 0=Sm (Vr ns 0):=by unfold PW;simp
theorem P8 (ns:List Ef) (j:Nat):PW ns (j+1)=(Sm (Vr ns (j+1)) && Tz (Vr ns j).nd.path (Vr ns (j+1)).nd.path):=by unfold PW;simp
theorem Ge (w:World) (z:Int) (b o n cap:Nat) (ns:List Ef) (hz1:¬z<1) (hz2:¬2147483647<z) (hp:ns.length=n) (hn:n≤1000) (hb:b<w.heap.size) (hsz:∀i,(Vr ns i).nd.path.size≤1048576∧(Vr ns i).nd.data.size≤1048576)
    (hc:∀i,i<n→PI w b (o+i*8) (Vr ns i)) :
    Calls Tryz.prog 169 #[.agg #[.int .i64 z,.slice (some ⟨b,o,none⟩) n cap]] w (Wj w (.bool (MN ns))):=by
 have HC:=ZU hc;have HP:=ZU hp;have HZ:=ZU hsz;have yo:¬(1000:Int)<(n:Int):=by omega
 clear hc hp hsz;have B0:Hid (Zi w (w.alloc (.cells #[.int .i64 z,.slice (some ⟨b,o,none⟩) n cap] 192))):=Yy.alloc YR _;have Z4:Hid ((w.alloc (.cells #[.int .i64 z,.slice (some ⟨b,o,none⟩) n cap] 192)).cell? ⟨w.heap.size,1,none⟩=some (.slice (some ⟨b,o,none⟩) n cap)):=by show _=_;simp
 have z0:w.heap.size<(w.alloc (.cells #[.int .i64 z,.slice (some ⟨b,o,none⟩) n cap] 192)).heap.size:=by simp
 go_enter Tryz.func169,Tryz.ntmps169
 go_wp2;generalize w.alloc _=w0 at *
 go_loopw [18] (fun i wr=>∃k:Nat,k≤n∧i=.int .i64 k∧Hid (∀t,t<k→PW ns t=true)∧Hid (Zi w0 wr)) (fun i _=>n - (intOf i).toNat)
 case atStart=>exact ⟨0,Zu _,rfl,(fun t ht=>by omega),Yy⟩
 case round =>
  obtain ⟨k,hk,rfl,HA,HG⟩:=hrel;have yn:=ZU (B0.out.trans (HG.out.mono (by omega)));have cT:=(HG.out.cell (p:=⟨w.heap.size,1,none⟩) z0).trans Z4.out
  by_cases hlt:k<n
  · have Rj:(k:Int)<(n:Int):=by omega
    have g0:(0:Int)≤(k:Int):=by omega
    have NR:Hid (k<ns.length):=by rw [HP.out];exact hlt
    obtain ⟨c0,c1,c2,c3,c4,c5,c6,c7⟩:=(HC.out k hlt).below yn.out hb;have XN:Hid (NH (wr.alloc (.cells #[.bool (Vr ns k).del,.string (Vr ns k).nd.path,.string (Vr ns k).nd.data,.int .i64 (Vr ns k).nd.XT,.int .i64 (Vr ns k).nd.XQ,.int .i64 (Vr ns k).nd.cz,.int .i64 (Vr ns k).nd.mz,.int .i64 (Vr ns k).nd.pz] 249)) wr.heap.size (Vr ns k)):=NH.new _ _ _;have BN:Hid (Zi wr (wr.alloc (.cells #[.bool (Vr ns k).del,.string (Vr ns k).nd.path,.string (Vr ns k).nd.data,.int .i64 (Vr ns k).nd.XT,.int .i64 (Vr ns k).nd.XQ,.int .i64 (Vr ns k).nd.cz,.int .i64 (Vr ns k).nd.mz,.int .i64 (Vr ns k).nd.pz] 249))):=Yy.alloc YR _;go_wp2;clear c0 c1 c2 c3 c4 c5 c6 c7 cT;generalize wr.alloc _=wn at *;have zr:=HG.out.size;obtain ⟨B,hB⟩:∃B,B=wr.heap.size:=⟨_,rfl⟩;rw [←hB] at XN;rw [←hB];have AN:Hid (∀W,Zi wn W→Zi w W):=fun W hW=>(WD yn.out BN.out).trans (hW.mono (ZJ yn.out.size BN.out.size))
    have pm:Hid (∀W,Zi wn W→Hid (Zi w0 W)):=fun W hW=>(WD HG.out BN.out).trans (hW.mono (ZJ HG.out.size BN.out.size))
    have CT:Hid (∀W,Zi wn W→W.cell? ⟨w.heap.size,1,none⟩=some (.slice (some ⟨b,o,none⟩) n cap)):=fun W hW=>((pm.out W hW).out.cell (p:=⟨w.heap.size,1,none⟩) z0).trans Z4.out
    have HE:Hid (∀q,Calls Tryz.prog 202 #[.agg #[.bool (Vr ns k).del,.string (Vr ns k).nd.path,.string (Vr ns k).nd.data,.int .i64 (Vr ns k).nd.XT,.int .i64 (Vr ns k).nd.XQ,.int .i64 (Vr ns k).nd.cz,.int .i64 (Vr ns k).nd.mz,.int .i64 (Vr ns k).nd.pz]] (wn.drewN q) fun e w'=>e=.returned (.bool (Sm (Vr ns k)))∧Hid (Zi wn w')):=by
     intro q;refine (LW _ (Vr ns k) (HZ.out k).2).mono ?_;rintro e w' ⟨rfl,b'⟩;exact ⟨rfl,(below_drewN' wn q).trans b'⟩
    have HD:Hid (Zi wn wn.drew):=below_drewN' wn 1;have fe:=ZU hB;clear hB BN
    cases hok:Sm (Vr ns k) with
    | false =>
     have PX:=ZU hok;have HN:=ZU (qr NR.out (by unfold PW;rw [hok];rfl));clear hok;refine ZX (S:=fun W=>Hid (Zi wn W)∧jc W B (Vr ns k)) (by kernel_rfl) (⟨HD,(XN.out.below HD.out).all⟩) (fun Z9=>?_);refine Zf ?_ (by kernel_rfl) (fun _=>id) Z9 ?_ ?_
     rotate_left
     · intro w9 ZQ;obtain ⟨-,ZQ⟩:=ZQ;go_simp;try with_reducible rfl
     refine YS 1 rfl (by kernel_rfl) (fun K hK=>?_);go_simp;refine (HE.out 1).mono ?_;rintro e w' ⟨rfl,HB⟩;rw [PX.out];clear Z9;refine hK.out _ _ (⟨HB,(XN.out.below HB.out).all⟩) (fun Z9=>?_);clear hK K
     iterate 2 (refine Zf ?_ (by kernel_rfl) (fun _=>id) Z9 ?_ ?_;rotate_left;· intro w9 ZQ;obtain ⟨-,ZQ⟩:=ZQ;go_simp;try with_reducible rfl)
     iterate 16 (refine J7 (by kernel_rfl) (fun _=>id) Z9 ?_)
     refine Zf ?_ (by kernel_rfl) (fun _=>id) Z9 ?_ ?_
     rotate_left
     · intro w9 ZQ;obtain ⟨-,ZQ⟩:=ZQ;go_simp;try with_reducible rfl
     refine ZR (by kernel_rfl) ?_ _
     try simp only [Act.put,WV,WU,WT]
     clear Z9;go_wp2;go_ret;exact ⟨Ws HN.out.symm,AN.out _ HB.out⟩
    | true =>
     have PX:=ZU hok;clear hok
     cases k with
     | zero =>
      have g2:(0:Int)<(n:Int):=by omega
      have HT:Hid (PW ns 0=true):=by show _=_;rw [Lk];exact PX.out
      refine ZX (S:=fun W=>Hid (Zi wn W)∧jc W B (Vr ns 0)) (by kernel_rfl) (⟨HD,(XN.out.below HD.out).all⟩) (fun Z9=>?_);refine Zf ?_ (by kernel_rfl) (fun _=>id) Z9 ?_ ?_
      rotate_left
      · intro w9 ZQ;obtain ⟨-,ZQ⟩:=ZQ;go_simp;try with_reducible rfl
      refine YS 1 rfl (by kernel_rfl) (fun K hK=>?_);go_simp;refine (HE.out 1).mono ?_;rintro e w' ⟨rfl,HB⟩;rw [PX.out];clear Z9;refine hK.out _ _ (⟨HB,(XN.out.below HB.out).all⟩) (fun Z9=>?_);clear hK K
      iterate 5 (refine Zf ?_ (by kernel_rfl) (fun _=>id) Z9 ?_ ?_;rotate_left;· intro w9 ZQ;obtain ⟨-,ZQ⟩:=ZQ;go_simp;try with_reducible rfl)
      iterate 12 (refine J7 (by kernel_rfl) (fun _=>id) Z9 ?_)
      iterate 2 (refine Zf ?_ (by kernel_rfl) (fun _=>id) Z9 ?_ ?_;rotate_left;· intro w9 ZQ;obtain ⟨-,ZQ⟩:=ZQ;go_simp;try with_reducible rfl)
      refine ZR (by kernel_rfl) ?_ _
      try simp only [Act.put,WV,WU,WT]
      clear Z9;go_wp2
      go_roundw
      case rel=>exact ⟨0+1,by omega,by go_num,(fun t ht=>by by_cases e:t=0;(subst e;exact HT.out);exact HA.out t (by omega)),pm.out _ HB.out⟩
      case measure=>simp [intOf];omega
     | succ j =>
      have g1:(0:Int)≤(j:Int)+1:=by omega
      have g2:(j:Int)+1<(n:Int):=by omega
      have g3:(0:Int)≤(j:Int):=by omega
      have g4:(j:Int)<(n:Int):=by omega
      have g5:(0:Int)<(j:Int)+1:=by omega
      have g6:IntKind.i64.wrap (j:Int)=(j:Int):=by rw [Zq];omega
      cases hcmp:Tz (Vr ns j).nd.path (Vr ns (j+1)).nd.path with
      | true =>
       have HT:Hid (PW ns (j+1)=true):=by show _=_;rw [P8,PX.out,hcmp];rfl
       have l1:Op.bytesLess (Vr ns j).nd.path.toList (Vr ns (j+1)).nd.path.toList=true:=hcmp;clear hcmp;refine ZX (S:=fun W=>Hid (Zi wn W)∧jc W B (Vr ns (j+1))∧W.cell? ⟨w.heap.size,1,none⟩=some (.slice (some ⟨b,o,none⟩) n cap)∧W.cell? ⟨b,o+j*8+1,none⟩=some (.string (Vr ns j).nd.path)) (by kernel_rfl) (⟨HD,(XN.out.below HD.out).all,(CT.out _ HD.out),((HC.out j (by omega)).below (AN.out _ HD.out) hb).c1⟩) (fun Z9=>?_);refine Zf ?_ (by kernel_rfl) (fun _=>id) Z9 ?_ ?_
       rotate_left
       · intro w9 ZQ;obtain ⟨-,ZQ⟩:=ZQ;go_simp;try with_reducible rfl
       refine YS 1 rfl (by kernel_rfl) (fun K hK=>?_);go_simp;refine (HE.out 1).mono ?_;rintro e w' ⟨rfl,HB⟩;rw [PX.out];clear Z9;refine hK.out _ _ (⟨HB,(XN.out.below HB.out).all,(CT.out _ HB.out),((HC.out j (by omega)).below (AN.out _ HB.out) hb).c1⟩) (fun Z9=>?_);clear hK K
       iterate 19 (refine Zf ?_ (by kernel_rfl) (fun _=>id) Z9 ?_ ?_;rotate_left;· intro w9 ZQ;obtain ⟨-,ZQ⟩:=ZQ;go_simp;try with_reducible rfl)
       refine ZR (by kernel_rfl) ?_ _
       try simp only [Act.put,WV,WU,WT]
       clear Z9;go_wp2
       go_roundw
       case rel=>exact ⟨(j+1)+1,by omega,by go_num,(fun t ht=>by by_cases e:t=(j+1);(subst e;exact HT.out);exact HA.out t (by omega)),pm.out _ HB.out⟩
       case measure=>simp [intOf];omega
      | false =>
       have HN:=ZU (qr NR.out (by rw [P8,hcmp,VE]));have l1:Op.bytesLess (Vr ns j).nd.path.toList (Vr ns (j+1)).nd.path.toList=false:=hcmp;clear hcmp;refine ZX (S:=fun W=>Hid (Zi wn W)∧jc W B (Vr ns (j+1))∧W.cell? ⟨w.heap.size,1,none⟩=some (.slice (some ⟨b,o,none⟩) n cap)∧W.cell? ⟨b,o+j*8+1,none⟩=some (.string (Vr ns j).nd.path)) (by kernel_rfl) (⟨HD,(XN.out.below HD.out).all,(CT.out _ HD.out),((HC.out j (by omega)).below (AN.out _ HD.out) hb).c1⟩) (fun Z9=>?_);refine Zf ?_ (by kernel_rfl) (fun _=>id) Z9 ?_ ?_
       rotate_left
       · intro w9 ZQ;obtain ⟨-,ZQ⟩:=ZQ;go_simp;try with_reducible rfl
       refine YS 1 rfl (by kernel_rfl) (fun K hK=>?_);go_simp;refine (HE.out 1).mono ?_;rintro e w' ⟨rfl,HB⟩;rw [PX.out];clear Z9;refine hK.out _ _ (⟨HB,(XN.out.below HB.out).all,(CT.out _ HB.out),((HC.out j (by omega)).below (AN.out _ HB.out) hb).c1⟩) (fun Z9=>?_);clear hK K
       iterate 19 (refine Zf ?_ (by kernel_rfl) (fun _=>id) Z9 ?_ ?_;rotate_left;· intro w9 ZQ;obtain ⟨-,ZQ⟩:=ZQ;go_simp;try with_reducible rfl)
       refine ZR (by kernel_rfl) ?_ _
       try simp only [Act.put,WV,WU,WT]
       clear Z9;go_wp2;go_ret;exact ⟨Ws HN.out.symm,AN.out _ HB.out⟩
  have HY:Hid (MN ns=true):=xX (fun t ht=>HA.out t (by rw [HP.out] at ht;omega));go_wp2;go_ret;exact ⟨Ws HY.out.symm,yn.out⟩
theorem Gd (w:World) (z:Int) (ao:Option Addr) (cap:Nat) (hz1:¬z<1) (hz2:¬2147483647<z) :
    Calls Tryz.prog 169 #[.agg #[.int .i64 z,.slice ao 0 cap]] w (Wj w (.bool true)):=by
 go_enter Tryz.func169,Tryz.ntmps169
 go_wp2
 go_rounds 1
 go_ret;exact ⟨rfl,Yy.alloc YR _⟩
theorem DG (w:World) (z:Int) (ao:Option Addr) (n cap:Nat) (h:z<1∨2147483647<z∨1000<n) :
    Calls Tryz.prog 169 #[.agg #[.int .i64 z,.slice ao n cap]] w (Wj w (.bool false)):=by
 by_cases h1:z<1
 · clear h
   go_enter Tryz.func169,Tryz.ntmps169
   go_wp2;go_ret;exact ⟨rfl,Yy.alloc YR _⟩
 by_cases h2:2147483647<z
 · clear h
   go_enter Tryz.func169,Tryz.ntmps169
   go_wp2;go_ret;exact ⟨rfl,Yy.alloc YR _⟩
 have h3:(1000:Int)<(n:Int):=by omega
 clear h
 go_enter Tryz.func169,Tryz.ntmps169
 go_wp2;go_ret;exact ⟨rfl,Yy.alloc YR _⟩
theorem Pz (w:World) (z:Int) (v:Value) (ns:List Ef) (h:Gu w v ns) (hsz:∀i,(Vr ns i).nd.path.size≤1048576∧(Vr ns i).nd.data.size≤1048576) :
    Calls Tryz.prog 169 #[.agg #[.int .i64 z,v]] w (Wj w (.bool (Tm z ns))):=by
 obtain ⟨ao,cap,rfl,k1,k2,k3⟩:=h
 by_cases hl:z<1∨2147483647<z∨1000<ns.length
 · have:Tm z ns=false:=by
    unfold Tm
    rcases hl with hl | hl | hl
    · rw [Zo (show ¬1≤z by omega)];rfl
    · rw [Zo (show ¬z≤2147483647 by omega)];simp
    rw [Zo (show ¬ns.length≤1000 by omega)];simp
   rw [this];exact DG w z ao ns.length cap hl
 have:Tm z ns=MN ns:=by unfold Tm;rw [Zm (show 1≤z by omega),Zm (show z≤2147483647 by omega),Zm (show ns.length≤1000 by omega)];rfl
 rw [this]
 rcases k3 with rfl | ⟨b,o,rfl,hb,hc⟩
 · exact Gd w z ao cap (by omega) (by omega)
 exact Ge w z b o ns.length cap ns (by omega) (by omega) rfl (by omega) hb hsz hc
theorem Lj:∀x y z:List UInt8,Op.bytesLess x y=true→Op.bytesLess y z=true→Op.bytesLess x z=true
 | [],[],_=>by simp [Op.bytesLess]
 | _ :: _,[],_=>by simp [Op.bytesLess]
 | _,_ :: _,[]=>by simp [Op.bytesLess]
 | [],_ :: _,_ :: _=>by simp [Op.bytesLess]
 | a :: x,b :: y,c :: z=>by
  unfold Op.bytesLess;intro h1 h2;have ih:=Lj x y z
  simp only [Vl,ZA,Zj,ZL] at h1 h2 ⊢
  rcases h1 with h1 | ⟨rfl,h1⟩
  · rcases h2 with h2 | ⟨rfl,h2⟩
    · exact .inl (UInt8.lt_trans h1 h2)
    exact .inl h1
  rcases h2 with h2 | ⟨rfl,h2⟩
  · exact .inl h2
  exact .inr ⟨rfl,ih h1 h2⟩
theorem Sa {b c:ByteArray} (h1:Tz a b=true) (h2:Tz b c=true):Tz a c=true:=Lj _ _ _ h1 h2
theorem Li {b:ByteArray} (h:Tz a b=true):(a.toList == b.toList)=false:=by
 have:=(IJ h).2;rw [Bool.eq_false_iff] at this ⊢;intro e;exact this (by rw [ZL] at e ⊢;exact e.symm)
theorem AJ {b:ByteArray} (h:Tz b a=true):(a.toList == b.toList)=false:=(IJ h).2
theorem Jn {b:ByteArray} (h:Tz a b=true):Tz b a=false:=(IJ h).1
theorem Jm {b:ByteArray} (h:Tz a b=false) (hne:(a.toList == b.toList)=false):Tz b a=true:=by
 rcases pn h with h1 | ⟨_,h1⟩
 · exact h1
 rw [ZL] at h1;rw [h1] at hne
 simp at hne
theorem Ca (a b:ByteArray):(PD a b<0)↔Tz a b=true:=by
 unfold PD Tz;rw [yk,YG,YG]
theorem BZ (a b:ByteArray):(PD a b == 0)=(a.toList == b.toList):=by
 have h:PD a b=0↔a.toList=b.toList:=by
  unfold PD;rw [Cf,YG,YG]
 rw [SJ,ZL,ZL];exact h
def Asc (ns:List Nd):Prop:=ns.Pairwise fun a b=>Tz a.path b.path=true
def AI (es:List Ef):Prop:=es.Pairwise fun a b=>Tz a.nd.path b.nd.path=true
theorem DF {α:Type} (f:α→ByteArray):∀(l:List α),(∀j (h:j+1<l.length),Tz (f l[j]) (f l[j+1])=true)→l.Pairwise fun a b=>Tz (f a) (f b)=true
 | [],_=>List.Pairwise.nil
 | [a],_=>by simp
 | a :: b :: l,h=>by
  have ih:=DF f (b :: l) (fun j hj=>h (j+1) (by simp at hj ⊢;omega));refine List.Pairwise.cons (fun c hc=>?_) ih;have hab:Tz (f a) (f b)=true:=h 0 (by simp)
  rcases Y9.1 hc with rfl | hc
  · exact hab
  exact Sa hab ((List.pairwise_cons.1 ih).1 c hc)
theorem Lh (h:WE ns=true):Asc ns:=by
 unfold WE TY at h
 simp only [ZA,Yw,Yb] at h
 refine DF (fun n=>n.path) ns fun j hj=>?_
 have:=h.2 (j+1) hj;rw [Pc] at this
 simp only [ZA] at this
 have h2:=this.2;rw [WF (show j<ns.length by omega),WF hj] at h2;exact h2
theorem xW (h:MN es=true):AI es:=by
 unfold MN at h
 simp only [Yw,Yb] at h
 refine DF (fun n=>n.nd.path) es fun j hj=>?_
 have:=h (j+1) hj;rw [P8] at this
 simp only [ZA] at this
 have h2:=this.2;rw [NP (show j<es.length by omega),NP hj] at h2;exact h2
theorem Gc {z:Int} (h:Tm z es=true):MN es=true∧es.length≤1000:=by
 unfold Tm at h
 simp only [ZA,Zj] at h
 exact ⟨h.2,h.1.2⟩
def Ty (r:List Nd) (p:ByteArray):Nat:=(r.takeWhile fun m=>Tz m.path p).length
def Ix (r:List Nd) (p:ByteArray):Nat:=if NM r p (Ty r p) then 1 else 0
theorem Gb (r:List Nd) (p:ByteArray):r.take (Ty r p)=r.takeWhile fun m=>Tz m.path p:=by
 unfold Ty
 induction r with
 | nil=>rfl
 | cons a r ih =>
  rw [Vv]
  split
  · simp [ih]
  simp
theorem xV (r:List Nd) (p:ByteArray):r.drop (Ty r p)=r.dropWhile fun m=>Tz m.path p:=by
 unfold Ty
 induction r with
 | nil=>rfl
 | cons a r ih =>
  rw [Vv,List.dropWhile_cons]
  split
  · simp [ih]
  simp
theorem Oi (r:List Nd) (p:ByteArray):Ty r p≤r.length:=by
 have:=ZM List.length (Gb r p);rw [Zw] at this;unfold Ty at this ⊢;omega
theorem Lg (r:List Nd) (p:ByteArray):∀a ∈ r.take (Ty r p),Tz a.path p=true:=by
 rw [Gb]
 induction r with
 | nil=>simp
 | cons b r ih =>
  rw [Vv]
  split
  · rename_i hb
    intro a ha
    rcases Y9.1 ha with rfl | ha
    · exact hb
    exact ih a ha
  simp
theorem Iw:∀(r:List Nd) (p:ByteArray),Asc r→∀a ∈ r.drop (Ty r p),Tz a.path p=false:=by
 intro r p h a ha;rw [xV] at ha
 induction r with
 | nil=>simp at ha
 | cons b r ih =>
  rw [List.dropWhile_cons] at ha
  split at ha
  · exact ih (List.pairwise_cons.1 h).2 ha
  rename_i hb;have hb':Tz b.path p=false:=by simpa using hb
  rcases Y9.1 ha with rfl | ha
  · exact hb'
  have AQ:=(List.pairwise_cons.1 h).1 a ha
  cases hc:Tz a.path p with
  | false=>rfl
  | true=>rw [Sa AQ hc] at hb';exact absurd hb' (by simp)
theorem BY (r:List Nd) (p:ByteArray) (h:Asc r):Low r p (Ty r p):=by
 refine ⟨Oi r p,fun i hi=>?_,fun i hi hl=>?_⟩
 · rw [Ca]
   have hl:=ZY hi (Oi r p);refine Lg r p _ ?_;rw [WF hl];exact List.mem_take_iff_getElem.2 ⟨i,by omega,rfl⟩
 rw [Ca,Iw r p h]
 · simp
 rw [WF hl];exact List.mem_drop_iff_getElem.2 ⟨i - Ty r p,by omega,by congr 1;omega⟩
theorem Lf {r:List Nd} (h:Asc r) (k:Nat):Asc (r.drop k):=VW (List.drop_sublist k r) h
theorem sZ (D:List Nd) (p:ByteArray) (h:Asc D) (hn:∀a ∈ D,Tz a.path p=false):NI D p=D.drop (if (decide (0<D.length) && ((Ye D 0).path.toList == p.toList)) then 1 else 0):=by
 cases D with
 | nil=>rfl
 | cons b D =>
  have hr:∀a ∈ D,(a.path.toList == p.toList)=false:=by
   intro a ha;have h1:=(List.pairwise_cons.1 h).1 a ha;have h2:=hn b (by simp)
   cases hc:a.path.toList == p.toList with
   | false=>rfl
   | true =>
    rw [ZL] at hc;unfold Tz at h1 h2;rw [hc] at h1;rw [h1] at h2;exact absurd h2 (by simp)
  have hf:NI D p=D:=by
   unfold NI;rw [List.filter_eq_self];intro a ha;rw [hr a ha]
   rfl
  have e0:Ye (b :: D) 0=b:=rfl;rw [e0];unfold NI at hf ⊢;rw [Ta]
  cases hc:b.path.toList == p.toList with
  | true=>simp [hf]
  | false=>simp [hf]
theorem Iv (r:List Nd) (p:ByteArray):Ix r p=if (decide (0<(r.drop (Ty r p)).length) && ((Ye (r.drop (Ty r p)) 0).path.toList == p.toList)) then 1 else 0:=by
 unfold Ix NM;rw [BZ,ZS];have e:Ye (r.drop (Ty r p)) 0=Ye r (Ty r p):=by unfold Ye;simp [List.getD]
 rw [e];have e2:decide (Ty r p<r.length)=decide (0<r.length - Ty r p):=by rw [UQ];omega
 rw [e2]
theorem xU (r:List Nd) (p:ByteArray):Ix r p≤1∧Ty r p+Ix r p≤r.length:=by
 have h:=Oi r p;rw [Iv]
 split
 · rename_i hc
   simp only [ZA,Zj,ZS] at hc
   omega
 omega
theorem Iu (r:List Nd) (p:ByteArray) (h:Asc r):NI (r.drop (Ty r p)) p=r.drop (Ty r p+Ix r p):=by
 rw [sZ _ p (Lf h _) (Iw r p h),←Iv,Yc]
theorem xT (A:List Nd) (p:ByteArray) (h:∀a ∈ A,Tz a.path p=true):NI A p=A:=by
 unfold NI;rw [List.filter_eq_self];intro a ha;rw [Li (h a ha)]
 rfl
theorem OZ (A B:List Nd) (p:ByteArray):NI (A++B) p=NI A p++NI B p:=by unfold NI;rw [List.filter_append]
theorem DE (A r:List Nd) (p:ByteArray) (hA:∀a ∈ A,Tz a.path p=true) (h:Asc r):NI (A++r) p=A++r.take (Ty r p)++r.drop (Ty r p+Ix r p):=by
 conv=>lhs;rw [←YQ (Ty r p) r]
 rw [OZ,OZ,xT A p hA,xT _ p (Lg r p),Iu r p h,ZO]
theorem xS (n:Nd):∀(A X:List Nd),(∀a ∈ A,Tz a.path n.path=true)→A.foldl (GN n) (X,false)=(X++A,false)
 | [],X,_=>by simp
 | a :: A,X,h=>by
  have ha:=h a (by simp);have e:GN n (X,false) a=(X++[a],false):=by
   have h1:Op.bytesLess a.path.toList n.path.toList=true:=ha;unfold GN;rw [Li ha,h1]
   rfl
  rw [WS,e,xS n A _ (fun b hb=>h b (Zp _ hb))]
  simp
theorem BV (n:Nd):∀(A X:List Nd),(A.foldl (GN n) (X,true))=(X++NI A n.path,true)
 | [],X=>by simp [NI]
 | a :: A,X=>by
  have e:GN n (X,true) a=(X++NI [a] n.path,true):=by
   unfold GN NI;rw [Ta]
   cases hc:a.path.toList == n.path.toList <;> simp
  rw [WS,e,BV n A,show a :: A=[a]++A from rfl,OZ,ZO]
theorem sW (n:Nd) (D X:List Nd) (hn:∀a ∈ D,Tz a.path n.path=false) :
    (let f:=D.foldl (GN n) (X,false);if f.2 then f.1 else f.1++[n])=X++n :: NI D n.path:=by
 cases D with
 | nil=>simp [NI]
 | cons b D =>
  have hb:Op.bytesLess b.path.toList n.path.toList=false:=hn b (by simp);have e:GN n (X,false) b=(X++n :: NI [b] n.path,true):=by
   unfold GN NI;rw [hb,Ta]
   cases hc:b.path.toList == n.path.toList <;> simp
  have e2:(b :: D).foldl (GN n) (X,false)=(X++n :: NI (b :: D) n.path,true):=by
   rw [WS,e,BV,show b :: D=[b]++D from rfl,OZ]
   simp
  simp only [e2,Vo]
theorem Le (A r:List Nd) (n:Nd) (hA:∀a ∈ A,Tz a.path n.path=true) (h:Asc r):LX (A++r) n=A++r.take (Ty r n.path)++n :: r.drop (Ty r n.path+Ix r n.path):=by
 unfold LX qt
 conv=>lhs;rw [←YQ (Ty r n.path) r]
 rw [←ZO,VO,xS n (A++r.take (Ty r n.path)) [] (by
  intro a ha
  rcases Y4.1 ha with ha | ha
  · exact hA a ha
  exact Lg r _ a ha)]
 have:=sW n (r.drop (Ty r n.path)) ([]++(A++r.take (Ty r n.path))) (Iw r _ h)
 simp only at this
 rw [this,Iu r _ h]
 simp
def Eb (st:List Nd × List Nd) (e:Ef):List Nd × List Nd :=
 (st.1++st.2.take (Ty st.2 e.nd.path)++(if e.del then [] else [e.nd]),st.2.drop (Ty st.2 e.nd.path+Ix st.2 e.nd.path))
def LL (ns:List Nd) (es:List Ef):List Nd × List Nd:=es.foldl Eb ([],ns)
def Ea (ns:List Nd) (e:Ef):List Nd:=if e.del then NI ns e.nd.path else LX ns e.nd
def BU (ns:List Nd) (es:List Ef):List Nd:=es.foldl Ea ns
theorem sU (st:List Nd × List Nd) (e:Ef) (hA:∀a ∈ st.1,Tz a.path e.nd.path=true) (h:Asc st.2):Ea (st.1++st.2) e=(Eb st e).1++(Eb st e).2:=by
 unfold Ea Eb
 cases e.del with
 | true=>simp [DE _ _ _ hA h]
 | false=>simp [Le _ _ _ hA h]
theorem qq:∀(es:List Ef) (st:List Nd × List Nd),AI es→(∀a ∈ st.1,∀e ∈ es,Tz a.path e.nd.path=true)→Asc st.2 →
    (es.foldl Eb st).1++(es.foldl Eb st).2=es.foldl Ea (st.1++st.2)
 | [],_,_,_,_=>rfl
 | e :: es,st,h,hA,hr=>by
  have h':=List.pairwise_cons.1 h;rw [WS,WS,sU st e (fun a ha=>hA a ha e (by simp)) hr];refine qq es (Eb st e) h'.2 (fun a ha f hf=>?_) (Lf hr _);have hef:=h'.1 f hf;unfold Eb at ha
  rcases Y4.1 ha with ha | ha
  · rcases Y4.1 ha with ha | ha
    · exact hA a ha f (Zp _ hf)
    exact Sa (Lg _ _ a ha) hef
  split at ha
  · simp at ha
  rw [Vk] at ha;rw [ha];exact hef
theorem oT (h:Asc ns) (he:AI es):(LL ns es).1++(LL ns es).2=BU ns es:=qq es ([],ns) he (fun a ha=>by simp at ha) h
theorem Ga (ns:List Nd) (es:List Ef) (k:Nat) (h:k<es.length):LL ns (es.take (k+1))=Eb (LL ns (es.take k)) (Vr es k):=by
 unfold LL;rw [YW h,VO,NP h]
 rfl
theorem sS (st:List Nd × List Nd) (e:Ef):(Eb st e).1.length+(Eb st e).2.length≤st.1.length+st.2.length+1:=by
 unfold Eb;have h:=Oi st.2 e.nd.path
 simp only [ZZ,Zw,ZS]
 split <;> simp <;> omega
theorem BT:∀(ns:List Nd) (es:List Ef) (k:Nat),(LL ns (es.take k)).1.length+(LL ns (es.take k)).2.length≤ns.length+k
 | ns,es,0=>by simp [LL]
 | ns,es,k+1=>by
  have ih:=BT ns es k
  by_cases h:k<es.length
  · rw [Ga ns es k h]
    have:=sS (LL ns (es.take k)) (Vr es k);omega
  rw [Y8 (by omega)] at ih ⊢;omega
theorem sR (h:Asc ns) (es:List Ef):Asc (LL ns es).2:=by
 unfold LL;have:∀(es:List Ef) (st:List Nd × List Nd),Asc st.2→Asc (es.foldl Eb st).2:=by
  intro es
  induction es with
  | nil=>exact fun st h=>h
  | cons e es ih=>exact fun st h=>by rw [WS];exact ih _ (Lf h _)
 exact this es _ h
theorem sQ (h:Asc ns) (he:AI es) (hk:es.length=k):(LL ns (es.take k)).1++(LL ns (es.take k)).2=BU ns es:=by
 rw [Y8 (by omega)];exact oT h he
def PQ (ns:List Nd) (z:Int) (es:List Ef):List Nd:=if WE ns && Tm z es then BU ns es else []
end Go.Proofs.YtpmjnbmkippaiaaGreatDoor


