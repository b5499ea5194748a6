import Derived.Test.YtpmjnbmkippaiaaGreatDoorJ16
import Derived.OrdersIn
set_option maxRecDepth 100000
set_option maxHeartbeats 16000000
set_option linter.unusedVariables false
set_option linter.unusedSimpArgs false
namespace Go.Proofs.YtpmjnbmkippaiaaGreatDoor
section
open Go.RowKit Go.Conc
variable {ops:Array Oper} {s:ByteArray} {L S:Int} {ls:List ByteArray} {ns:List Nd} {B Bo b blk cap hi i j k lo n o z:Nat} {r:By} {u v v1 v2 vt:Value} {W W' w:World}
theorem my {c:Prop} [Decidable c] {σ τ:Sx} (h1:σ.T≠[]∧σ.Q≠[]) (h2:τ.T≠[]∧τ.Q≠[]):(if c then σ else τ).T≠[]∧(if c then σ else τ).Q≠[]:=by
 by_cases h:c
 · rw [Z0 h];exact h1
 rw [Z1 h];exact h2
def li (S L n k:Nat) (κ:Sc) (w:World) (e:Ending) (w':World):Prop :=
 e=.returned (.string (VY S L n k))∧Gw κ w w'∧∃ σ',Rk S L n (k+1) σ'∧Sv κ σ' w'
section
variable {m:Int} {te:TypeId} {pe:Value} {S L n k:Nat} {κ:Sc} {σ:Sx} {w:World}
theorem jx (hκ:yy κ S L) (h:Sv κ σ w) (hgl:Gl m te pe κ w) (hn:n≤64) (hR:Rk S L n k σ) (hk:k=0) (vo vn:Value) (pa:ByteArray) (ho:JR w vo [opC n]) (CK:Pp κ vo) (Ex:∀q,vo.ownBlock=some q→q<w.heap.size) :
    Calls Tryz.prog 14 #[.pointer (some ⟨κ.sB,0,none⟩),.agg #[.int .i64 1,vo,.bool false,.string pa,vn]] w (li S L n k κ w):=by
 subst hk;obtain ⟨r0,r1,r2,r3,r4,r5,r6,r7,r8⟩:=hR;have hb:=hκ.b;have rt:Rt σ:=by
  by_cases h9:Xv n≤L*64
  · rw [Z0 h9,Z0 rfl] at r8;exact r8
  rw [Z1 h9,Z1 (by decide),Z1 (by decide),Z0 (by decide)] at r8;exact r8
 obtain ⟨t1,t2,t3,t4,t5,t6,t7⟩:=rt;refine (eX hκ h hgl hn (by rw [t1];exact QL) t3 t4 (by rw [t5];rfl) t6 (r7 (by omega)) vo vn pa ho CK Ex).mono ?_;have z0:σ.full.length - σ.off+Xv n=Xv n:=by rw [t7];simp
 rw [z0];rintro e w' ⟨rfl,g,σ',rfl,v⟩
 by_cases h9:Xv n≤L*64
 · rw [Z1 (by omega)] at v ⊢
   refine ⟨by unfold VY;rw [Z0 h9,Z0 rfl],g,_,?_,v⟩;refine ⟨fun _=>r0 (by omega),fun _=>r1 (by omega),fun _=>r2 (by omega),fun _=>r3 (by omega),fun _=>r4 (by omega),fun _=>r5 (by omega),fun e=>by omega,fun _=>r7 (by omega),?_⟩;rw [Z0 h9,Z1 (by omega),Z0 rfl];refine ⟨t1,t2,rfl,rfl,by rw [t5];rfl,?_,rfl,t7⟩;show (σ.fs++[fr (Va 1 (UY [Yx] (Vp n 0)))]).flatten.length=Xv n;rw [t5]
   simpa using jB hn
 rw [Z0 (by omega)] at v ⊢;refine ⟨by unfold VY;rw [Z1 h9,Z0 rfl],g,_,?_,v⟩;refine ⟨fun _=>r0 (by omega),fun _=>r1 (by omega),fun _=>r2 (by omega),fun _=>r3 (by omega),fun _=>r4 (by omega),fun _=>r5 (by omega),fun e=>by omega,fun _=>r7 (by omega),?_⟩;rw [Z1 h9,Z1 (by omega),Z1 (by omega),Z0 (by omega)];exact ⟨t1,t2,t3,t4,t5,t6,t7⟩
theorem pG (hκ:yy κ S L) (h:Sv κ σ w) (hgl:Gl m te pe κ w) (hn:n≤64) (hR:Rk S L n k σ) (hk:(2≤k∧k<112)∨k=115) (vo vn:Value) (pa:ByteArray) (ho:JR w vo [Kg n]) (CK:Pp κ vo) (Ex:∀q,vo.ownBlock=some q→q<w.heap.size) :
    Calls Tryz.prog 14 #[.pointer (some ⟨κ.sB,0,none⟩),.agg #[.int .i64 1,vo,.bool false,.string pa,vn]] w (li S L n k κ w):=by
 obtain ⟨r0,r1,r2,r3,r4,r5,r6,r7,r8⟩:=hR;have hb:=hκ.b;have hfl:=r7 (by omega)
 by_cases h9:Xv n≤L*64
 · rw [Z0 h9,Z1 (by omega),Z1 (by omega)] at r8
   have hem:=yV (n:=n)
   rcases hk with ⟨k2,k3⟩ | rfl
   · rw [Z0 (by omega)] at r8
     have hf1:=Kf (L:=L) (n:=n) (i:=min (k - 2) (VC L n)) h9;have hf2:=Kf (L:=L) (n:=n) (i:=min (k - 2) (VC L n)+1) h9;have hf3:=hf1.1 (UR _ _);have hq1:σ.ql=min (k - 2) (VC L n)*Xh n:=by have:=r8.ql;rwa [XY] at this
     have hfs:σ.fs.length=min (k - 2) (VC L n):=by have:=r8.fs;rwa [XY] at this
     have hln:=r8.ln;rw [Tr,Uw] at hf2;refine (jy hκ h hgl hn (min (k - 2) (VC L n)) (by omega) (by rw [r8.T];exact Rm) r8.Q r8.zq (by rw [hfs,hq1]) (by omega) hfl vo vn pa ho CK Ex).mono ?_;rintro e w' ⟨rfl,g,σ',rfl,v⟩;rw [hln,hq1] at v ⊢
     by_cases h8:k - 2<VC L n
     · have hm:min (k - 2) (VC L n)=k - 2:=YC (by omega)
       rw [hm] at v hf2 hf3 hfs hq1 ⊢;have:=hf2.1 (by omega);rw [Z1 (by omega)] at v ⊢;refine ⟨by unfold VY;rw [Z0 h9,Z1 (by omega),Z1 (by omega),Z0 (by omega),Z0 h8,show k - 2+2=k by omega],g,_,?_,v⟩;refine ⟨fun e=>by omega,fun _=>r1 (by omega),fun _=>r2 (by omega),fun _=>r3 (by omega),fun _=>r4 (by omega),fun _=>r5 (by omega),fun e=>by omega,fun _=>hfl,?_⟩;rw [Z0 h9,Z1 (by omega),Z1 (by omega),Z0 (by omega),YC (by omega)];have e1:k+1 - 2=k - 2+1:=by omega
       have ur:=r8.fl;rw [e1];refine ⟨rfl,rfl,r8.T,r8.zf,Zu _,by show (σ.fs++[_]).length=_;simp [hfs],?_,?_,hln⟩
       · show (σ.fs++[_]).flatten.length=(k - 2)*Xh n+Xh n
         rw [List.flatten_append,ZZ,ur,hq1]
         simpa using mH hn (by omega)
       show (k - 2)*Xh n+Xh n=(k - 2+1 - 0)*Xh n;rw [XY,Tr,Uw]
     have hm:min (k - 2) (VC L n)=VC L n:=Nat.min_eq_right (by omega);rw [hm] at v hf2 hf3 hfs hq1 ⊢;have:¬Xv n+(VC L n*Xh n+Xh n)≤L*64:=fun e=>by have:=hf2.2 e;omega
     rw [Z0 (by omega)] at v ⊢;refine ⟨by unfold VY;rw [Z0 h9,Z1 (by omega),Z1 (by omega),Z0 (by omega),Z1 h8],g,_,?_,v⟩;refine ⟨fun e=>by omega,fun _=>r1 (by omega),fun _=>r2 (by omega),fun _=>r3 (by omega),fun _=>r4 (by omega),fun _=>r5 (by omega),fun e=>by omega,fun _=>hfl,?_⟩;rw [Z0 h9,Z1 (by omega),Z1 (by omega),Z0 (by omega),show min (k+1 - 2) (VC L n)=min (k - 2) (VC L n) by omega];exact r8
   rw [Z1 (by omega),Z1 (by omega),Z1 (by omega),Z0 rfl] at r8;have hf2:=Kf (L:=L) (n:=n) (i:=VZ L n+1) h9;rw [Tr,Uw] at hf2;have hln:=r8.ln;have hq1:σ.ql=0:=by have:=r8.ql;rwa [Wf,Xg] at this
   have hfs:σ.fs.length=0:=by have:=r8.fs;rwa [Wf] at this
   have ht:VZ L n≤110:=VV _ _;refine (jy hκ h hgl hn (VZ L n) (by omega) (by rw [r8.T];exact Rm) r8.Q r8.zq (by rw [hfs,hq1,Xg]) (by omega) hfl vo vn pa ho CK Ex).mono ?_;rintro e w' ⟨rfl,g,σ',rfl,v⟩;rw [hln,hq1] at v ⊢;refine ⟨?_,g,_,?_,v⟩
   · have ea:VY S L n 115=if 47+n≤S*64∨110<VC L n then tl wQ [VZ L n+2] else tl wE [8]:=by
      unfold VY;rw [Z0 h9]
      rfl
     rw [ea];clear v
     by_cases h8:47+n≤S*64
     · rw [Z0 h8,Z1 (show ¬L*64<0+(0+Xh n) by omega),Z0 (.inl h8)]
     rw [Z1 h8]
     by_cases h7:110<VC L n
     · have:=hf2.1 (by unfold VZ;omega)
       rw [Z1 (by omega),Z0 (.inr h7)]
     have:¬Xv n+(VZ L n*Xh n+Xh n)≤L*64:=fun e=>by have:=hf2.2 e;unfold VZ at this;omega
     rw [Z0 (by omega),Z1 (by omega)]
   refine ⟨fun e=>by omega,fun e=>by omega,fun e=>by omega,fun e=>by omega,fun e=>by omega,fun e=>by omega,fun e=>by omega,fun e=>by omega,?_⟩;rw [Z0 h9,Z1 (by omega),Z1 (by omega),Z1 (by omega),Z1 (by omega),Z1 (by omega),Z1 (by omega)];exact my (by rw [r8.T,r8.Q];exact ⟨Rm,Rm⟩) ⟨by show σ.T≠[];rw [r8.T];exact Rm,Rm⟩
 rw [Z1 h9] at r8;have hq:σ.Q=[Yx]∧σ.zq=0∧σ.ql=0∧σ.T=[Yx]:=by
  rcases hk with ⟨k2,k3⟩ | rfl
  · rw [Z1 (by omega),Z1 (by omega),Z0 (by omega)] at r8
    exact ⟨r8.2.2.1,r8.2.2.2.1,r8.2.2.2.2.2.1,r8.1⟩
  rw [Z1 (by omega),Z0 rfl] at r8;exact r8
 obtain ⟨q1,q2,q3,q4⟩:=hq;refine (eW hκ h hgl hn (by rw [q4];exact QL) q1 q2 (by omega) hfl vo vn pa ho CK Ex).mono ?_;rintro e w' ⟨rfl,g,σ',rfl,v⟩;refine ⟨?_,g,_,?_,v⟩
 · unfold VY
   rw [Z1 h9,Z1 (by omega),Z1 (by omega),Z1 (by omega),Z1 (by omega)]
 refine ⟨fun e=>by omega,fun _=>r1 (by omega),fun _=>r2 (by omega),fun _=>r3 (by omega),fun _=>r4 (by omega),fun _=>r5 (by omega),fun e=>by omega,fun _=>hfl,?_⟩;rw [Z1 h9]
 rcases hk with ⟨k2,k3⟩ | rfl
 · rw [Z1 (by omega),Z1 (by omega),Z0 (by omega)] at r8 ⊢
   exact r8
 rw [Z1 (by omega),Z1 (by omega),Z1 (by omega),q1,q4];exact ⟨QL,QL⟩
end
set_option linter.unusedSectionVars false
section
variable {m:Int} {te:TypeId} {pe:Value} {S L n k:Nat} {κ:Sc} {σ:Sx} {w:World}
theorem pF (hκ:yy κ S L) (h:Sv κ σ w) (hgl:Gl m te pe κ w) (hn:n≤64) (hR:Rk S L n k σ) (hk:k=1∨k=112) (vo vn:Value) (mu:Bool) (pa:ByteArray) :
    Calls Tryz.prog 14 #[.pointer (some ⟨κ.sB,0,none⟩),.agg #[.int .i64 2,vo,.bool mu,.string pa,vn]] w (li S L n k κ w):=by
 obtain ⟨r0,r1,r2,r3,r4,r5,r6,r7,r8⟩:=hR;have hb:=hκ.b;have hfl:=r7 (by omega);obtain ⟨i1,i2,i3⟩:=(r3 (by omega)).2
 by_cases h9:Xv n≤L*64
 · rw [Z0 h9,Z1 (by omega)] at r8
   rcases hk with rfl | rfl
   · rw [Z0 rfl] at r8
     obtain ⟨t1,t2,t3,t4,t5,t6,t7,t8⟩:=r8;have hk0:=r0 (by omega);refine (Kh κ σ w h hgl (by rw [t1];exact QL) (by rw [t3];exact Rm) vo vn mu pa (by omega) (by omega) i3 (by rw [t8,t6,hκ.eL];simp;omega) hκ.c (by omega) (by omega) (by omega) (.inr (r4 (by omega)))).mono ?_;rw [t5,t4];rintro e w' ⟨rfl,g,σ',rfl,v⟩;refine ⟨by unfold VY;rw [Z0 h9,Z1 (by omega),Z0 rfl];rfl,g,_,?_,v⟩;refine ⟨fun e=>by omega,fun _=>by show σ.k+66≤66;omega,fun _=>by show σ.k+66≤132;omega,fun _=>⟨by show σ.k+66≤133;omega,i1,i2,i3⟩,fun _=>r4 (by omega),fun _=>r5 (by omega),fun e=>by omega,fun _=>by show (σ.full++σ.fs.flatten).length≤4096;rw [t8,Zd,t6];omega,?_⟩;rw [Z0 h9,Z1 (by omega),Z1 (by omega),Z0 (by omega),show min (1+1 - 2) (VC L n)=0 by omega];refine ⟨t3,rfl,t3,rfl,YR,rfl,rfl,by show 0=(0 - 0)*Xh n;simp,?_⟩;show (σ.full++σ.fs.flatten).length - σ.off=Xv n;rw [t8,Zd,t6,i3];rfl
   rw [Z1 (by omega),Z0 (by omega),show min (112 - 2) (VC L n)=VZ L n from rfl] at r8;have hk0:=r1 (by omega);have ht:VZ L n≤110:=VV _ _;have hf:=(Kf (L:=L) (n:=n) (i:=VZ L n) h9).1 (UR _ _);have hq1:σ.ql=VZ L n*Xh n:=by have:=r8.ql;rwa [XY] at this
   have hfs:σ.fs.length=VZ L n:=by have:=r8.fs;rwa [XY] at this
   have hln:σ.full.length=Xv n:=by have:=r8.ln;rwa [i3,XY] at this
   have ea:VY S L n 112=tl wF [VZ L n,VZ L n+1]:=by unfold VY;rw [Z0 h9];rfl
   by_cases h8:σ.fs=[]
   · have h7:VZ L n=0:=by rw [←hfs,h8];rfl
     rw [h7] at r8 ea;refine (Ki κ σ w h hgl (by rw [r8.T];exact Rm) (by rw [r8.Q];exact Rm) vo vn mu pa h8 (by rw [r8.zf];omega)).mono ?_;rw [r8.zf];rintro e w' ⟨rfl,g,σ',rfl,v⟩;refine ⟨by rw [ea];rfl,g,_,?_,v⟩;refine ⟨fun e=>by omega,fun e=>by omega,fun _=>by omega,fun _=>r3 (by omega),fun _=>r4 (by omega),fun _=>r5 (by omega),fun e=>by omega,fun _=>hfl,?_⟩;rw [Z0 h9,Z1 (by omega),Z1 (by omega),Z1 (by omega),Z0 rfl,h7,Xg];exact r8
   refine (Kh κ σ w h hgl (by rw [r8.T];exact Rm) (by rw [r8.Q];exact Rm) vo vn mu pa (List.length_pos_iff.2 h8) (by omega) i3 (by rw [r8.fl,hq1,hln,hκ.eL];omega) hκ.c (by omega) (by omega) (by rw [r8.zq];omega) (.inr (r4 (by omega)))).mono ?_;rw [hfs,r8.zq];rintro e w' ⟨rfl,g,σ',rfl,v⟩;refine ⟨by rw [ea];rfl,g,_,?_,v⟩;have e1:(σ.full++σ.fs.flatten).length=Xv n+VZ L n*Xh n:=by rw [ZZ,r8.fl,hq1,hln]
   refine ⟨fun e=>by omega,fun e=>by omega,fun _=>by show σ.k+66≤132;omega,fun _=>⟨by show σ.k+66≤133;omega,i1,i2,i3⟩,fun _=>r4 (by omega),fun _=>r5 (by omega),fun e=>by omega,fun _=>by show (σ.full++σ.fs.flatten).length≤4096;omega,?_⟩;rw [Z0 h9,Z1 (by omega),Z1 (by omega),Z1 (by omega),Z0 rfl];refine ⟨r8.Q,rfl,r8.Q,rfl,YR,by show 0=VZ L n - VZ L n;omega,rfl,by show 0=(VZ L n - VZ L n)*Xh n;rw [Wf,Xg],?_⟩;show (σ.full++σ.fs.flatten).length - σ.off=_;rw [e1,i3,XY]
 rw [Z1 h9,Z1 (by omega),Z1 (by omega),Z0 (by omega)] at r8;obtain ⟨t1,t2,t3,t4,t5,t6,t7⟩:=r8;refine (Ki κ σ w h hgl (by rw [t1];exact QL) (by rw [t3];exact QL) vo vn mu pa t5 (by omega)).mono ?_;rw [t2];rintro e w' ⟨rfl,g,σ',rfl,v⟩;refine ⟨by unfold VY;rw [Z1 h9,Z1 (by omega),Z0 hk];rfl,g,_,?_,v⟩;refine ⟨fun e=>by omega,fun _=>r1 (by omega),fun _=>r2 (by omega),fun _=>r3 (by omega),fun _=>r4 (by omega),fun _=>r5 (by omega),fun e=>by omega,fun _=>hfl,?_⟩;rw [Z1 h9,Z1 (by omega),Z1 (by omega),Z0 (by omega)];exact ⟨t1,t2,t3,t4,t5,t6,t7⟩
theorem jw (hκ:yy κ S L) (h:Sv κ σ w) (hgl:Gl m te pe κ w) (hn:n≤64) (hR:Rk S L n k σ) (hk:k=113) (vo vn:Value) (mu:Bool) (pa:ByteArray) :
    Calls Tryz.prog 14 #[.pointer (some ⟨κ.sB,0,none⟩),.agg #[.int .i64 6,vo,.bool mu,.string pa,vn]] w (li S L n k κ w):=by
 subst hk;obtain ⟨r0,r1,r2,r3,r4,r5,r6,r7,r8⟩:=hR;have hb:=hκ.b;have hfl:=r7 (by omega);have hk0:=r2 (by omega);obtain ⟨i1,i2,i3⟩:=(r3 (by omega)).2;have ht:VZ L n≤110:=VV _ _
 by_cases h9:Xv n≤L*64
 · rw [Z0 h9,Z1 (by omega),Z1 (by omega),Z1 (by omega),Z0 rfl] at r8
   refine (Ey κ σ w h hgl (by rw [r8.T];exact Rm) (by rw [r8.Q];exact Rm) vo vn mu pa (by omega) (r4 (by omega)) (by rw [r8.zf];omega) hfl).mono ?_;rw [r8.zf,i3,XY];rintro e w' ⟨rfl,g,σ',⟨pB,rfl⟩,v⟩;refine ⟨by unfold VY;rw [Z0 h9];rfl,g,_,?_,v⟩;refine ⟨fun e=>by omega,fun e=>by omega,fun e=>by omega,fun _=>⟨by show σ.k+1≤133;omega,i1,i2,rfl⟩,fun e=>by omega,fun _=>rfl,fun _=>rfl,fun _=>hfl,?_⟩;rw [Z0 h9,Z1 (by omega),Z1 (by omega),Z1 (by omega),Z1 (by omega),Z0 rfl];exact ⟨⟨r8.Q,r8.zq,r8.T,rfl,r8.le,r8.fs,r8.fl,r8.ql,by have:=r8.ln;rwa [i3] at this⟩,pB,rfl⟩
 rw [Z1 h9,Z1 (by omega),Z1 (by omega),Z0 (by omega)] at r8;obtain ⟨t1,t2,t3,t4,t5,t6,t7⟩:=r8;refine (Ey κ σ w h hgl (by rw [t1];exact QL) (by rw [t3];exact QL) vo vn mu pa (by omega) (r4 (by omega)) (by omega) hfl).mono ?_;have t9:σ.full.length - σ.off=0:=by rw [t7];simp
 rw [t2,t9];rintro e w' ⟨rfl,g,σ',⟨pB,rfl⟩,v⟩;refine ⟨by unfold VY;rw [Z1 h9];rfl,g,_,?_,v⟩;refine ⟨fun e=>by omega,fun e=>by omega,fun e=>by omega,fun _=>⟨by show σ.k+1≤133;omega,i1,i2,i3⟩,fun e=>by omega,fun _=>rfl,fun _=>rfl,fun _=>hfl,?_⟩;rw [Z1 h9,Z0 rfl];exact ⟨⟨t1,rfl,t3,t4,t5,t6,t7⟩,pB,rfl⟩
theorem jv (hκ:yy κ S L) (h:Sv κ σ w) (hgl:Gl m te pe κ w) (hn:n≤64) (hR:Rk S L n k σ) (hk:k=114) (vo vn:Value) (mu:Bool) (pa:ByteArray) (nh:Rd .i64 w vn [1000]) :
    Calls Tryz.prog 14 #[.pointer (some ⟨κ.sB,0,none⟩),.agg #[.int .i64 7,vo,.bool mu,.string pa,vn]] w (li S L n k κ w):=by
 subst hk;obtain ⟨r0,r1,r2,r3,r4,r5,r6,r7,r8⟩:=hR;have hb:=hκ.b;have hfl:=r7 (by omega);have hem:=r5 (by omega);have hpw:=r6 rfl;obtain ⟨hk0,i1,i2,i3⟩:=r3 (by omega);have ht:VZ L n≤110:=VV _ _
 by_cases h9:Xv n≤L*64
 · rw [Z0 h9,Z1 (by omega),Z1 (by omega),Z1 (by omega),Z1 (by omega),Z0 rfl] at r8
   obtain ⟨r8,pB,hsn⟩:=r8;have hf:=(Kf (L:=L) (n:=n) (i:=VZ L n) h9).1 (UR _ _);have hfs:σ.fs=[]:=by have:=r8.fs;rw [Wf] at this;exact List.length_eq_zero_iff.1 this
   have hln:σ.full.length=Xv n+VZ L n*Xh n:=by have:=r8.ln;rwa [i3,XY] at this
   have hok:=mD (n:=n) (i:=VZ L n) hn (by omega);have hs:=qG (n:=n) (i:=VZ L n);have ea:VY S L n 114=if 47+n≤S*64 then tl wL [VZ L n+1] else wU:=by unfold VY;rw [Z0 h9];rfl
   have ec:(((Xn (Vp n (VZ L n))).length:Int)≤κ.S*64)=(47+n≤S*64):=by rw [hs,hκ.eS];exact propext ⟨fun h=>by omega,fun h=>by omega⟩
   refine (Ew κ σ w h hgl (by rw [r8.T];exact Rm) (by rw [r8.Q];exact Rm) vo vn mu pa nh pB _ _ hsn hem (by rw [r8.T];simp [Vp]) (by rw [r8.T];exact fun j hj=>(hok j hj).1) (by rw [r8.T];exact fun j hj=>(hok j hj).2) (by rw [r8.T,hs];omega) (by rw [r8.T];exact mG hn (by omega)) hfs hpw i1 i2 i3 YR (by rw [hln,hκ.eL];omega) (by omega) (by omega) hκ.c).mono ?_;rw [r8.T]
   simp only [ec]
   rintro e w' ⟨rfl,g,σ',⟨l,r,rfl⟩,v⟩;refine ⟨by rw [ea];rfl,g,_,?_,v⟩
   by_cases h8:47+n≤S*64
   · rw [Z0 h8]
     refine ⟨fun e=>by omega,fun e=>by omega,fun e=>by omega,fun e=>by omega,fun e=>by omega,fun e=>by omega,fun e=>by omega,fun _=>hfl,?_⟩;rw [Z0 h9,Z1 (by omega),Z1 (by omega),Z1 (by omega),Z1 (by omega),Z1 (by omega),Z0 rfl,Z0 h8];exact ⟨r8.Q,r8.zq,rfl,r8.zf,r8.le,r8.fs,r8.fl,r8.ql,by show σ.full.length - σ.full.length=0;omega⟩
   rw [Z1 h8];refine ⟨fun e=>by omega,fun e=>by omega,fun e=>by omega,fun e=>by omega,fun e=>by omega,fun e=>by omega,fun e=>by omega,fun _=>hfl,?_⟩;rw [Z0 h9,Z1 (by omega),Z1 (by omega),Z1 (by omega),Z1 (by omega),Z1 (by omega),Z0 rfl,Z1 h8];exact ⟨r8.Q,r8.zq,rfl,r8.zf,r8.le,r8.fs,r8.fl,r8.ql,r8.ln⟩
 rw [Z1 h9,Z0 rfl] at r8;obtain ⟨⟨t1,t2,t3,t4,t5,t6,t7⟩,pB,hsn⟩:=r8;have hok:=mC;have hs:=yW;have ec:((Xn [Yx]).length:Int)≤κ.S*64:=by rw [hs,hκ.eS];omega
 refine (Ew κ σ w h hgl (by rw [t1];exact QL) (by rw [t3];exact QL) vo vn mu pa nh pB _ _ hsn hem (by rw [t1];simp) (by rw [t1];exact fun j hj=>(hok j hj).1) (by rw [t1];exact fun j hj=>(hok j hj).2) (by rw [t1,hs];omega) (by rw [t1];exact mF) t5 hpw i1 i2 i3 (Zu _) (by rw [t7,hκ.eL];simp;omega) (by omega) (by omega) hκ.c).mono ?_;rw [t1]
 simp only [ec,Vo]
 rintro e w' ⟨rfl,g,σ',⟨l,r,rfl⟩,v⟩;refine ⟨by unfold VY;rw [Z1 h9];rfl,g,_,?_,v⟩;refine ⟨fun e=>by omega,fun e=>by omega,fun e=>by omega,fun e=>by omega,fun e=>by omega,fun e=>by omega,fun e=>by omega,fun _=>hfl,?_⟩;rw [Z1 h9,Z1 (by omega),Z0 rfl];exact ⟨t3,t4,t6,rfl⟩
theorem yU (hκ:yy κ S L) (h:Sv κ σ w) (hgl:Gl m te pe κ w) (hn:n≤64) (hR:Rk S L n k σ) (hn1:1≤n) (hk:k<116) (vo vn:Value) (W0:World) (l:Ln) (hl:TQ ((Qt n).getD k ⟨#[]⟩)=l) (hb0:Zi W0 w) (h0:Sv κ σ W0) (ho:RP 159 w W0.heap.size vo l.ops) (hnn:Own .i64 2 w W0.heap.size vn l.nums) :
    Calls Tryz.prog 14 #[.pointer (some ⟨κ.sB,0,none⟩),.agg #[.int .i64 l.kind,vo,.bool l.Rz,.string l.path,vn]] w (li S L n k κ w):=by
 have ME:Pp κ vo:=by
  intro q hq;have hge:=(ZT ho q hq).1;obtain ⟨vd,made,YN,a1,-⟩:=h0.dk;obtain ⟨vt,vq,cp,b1,-,-,-,-,-,b7,-⟩:=h0.mm;obtain ⟨Lv,s,r,c1,-⟩:=h0.ch;have z1:=a1.lt;have z2:=b1.lt;have z3:=(Z3.1 c1).1;have z4:κ.lb<W0.heap.size:=(b7.lt κ.lb rfl).2;refine ⟨by omega,by omega,by omega,by omega,fun hx=>?_⟩;have:=(h0.fx q hx).1;omega
 have Ex:∀q,vo.ownBlock=some q→q<w.heap.size:=fun q hq=>(ZT ho q hq).2
 rw [uu n k hk] at hl
 by_cases e0:k=0
 · rw [Z0 e0,qE hn1 hn] at hl
   subst hl;exact jx hκ h hgl hn hR e0 vo vn _ ho.rd ME Ex
 rw [Z1 e0] at hl
 by_cases e1:k=1
 · rw [Z0 e1,AW] at hl
   subst hl;exact pF hκ h hgl hn hR (.inl e1) vo vn _ _
 rw [Z1 e1] at hl
 by_cases e2:k<112
 · rw [Z0 e2,AX hn1 hn] at hl
   subst hl;exact pG hκ h hgl hn hR (.inl (by omega)) vo vn _ ho.rd ME Ex
 rw [Z1 e2] at hl
 by_cases e3:k=112
 · rw [Z0 e3,AW] at hl
   subst hl;exact pF hκ h hgl hn hR (.inr e3) vo vn _ _
 rw [Z1 e3] at hl
 by_cases e4:k=113
 · rw [Z0 e4,qD] at hl
   subst hl;exact jw hκ h hgl hn hR e4 vo vn _ _
 rw [Z1 e4] at hl
 by_cases e5:k=114
 · rw [Z0 e5,qC] at hl
   subst hl;exact jv hκ h hgl hn hR e5 vo vn _ _ (Own.rd hnn)
 rw [Z1 e5,AX hn1 hn] at hl;subst hl;exact pG hκ h hgl hn hR (.inr (by omega)) vo vn _ ho.rd ME Ex
end
end
section
open Go.RowKit Go.Shelf
variable {ops:Array Oper} {s:ByteArray} {L S:Int} {ls:List ByteArray} {ns:List Nd} {B Bo b blk cap hi i j k lo n o z:Nat} {r:By} {u v v1 v2 vt:Value} {W W' w:World}
theorem Cx (W:World) (x:Nat):Rd .u8 (W.alloc (.cells #[.int .u8 (x:Int)] 5)) (.slice (some ⟨W.heap.size,0,none⟩) 1 1) [(x:Int)]:=by
 refine ⟨_,_,rfl,YR,by unfold maxLen;omega,.inr ⟨W.heap.size,0,rfl,by simp,fun i hi=>?_⟩⟩;have:i=0:=by simp at hi;omega
 subst this
 simp
theorem uq (w:World) (n:Nat) (hn:n<10) :
    Calls Tryz.prog 15 #[.int .i64 (n:Int)] w fun e w'=>∃s:ByteArray,e=.returned (.string s)∧s=strOfNums [48+(n:Int)]∧Zi w w':=by
 have h0:¬(n:Int)<0:=by omega
 have h1:(n:Int)<10:=by omega
 have hcv:=To (Cx w (48+n));rw [show ((48+n:Nat):Int)=48+(n:Int) by omega] at hcv;have B0:Hid (Zi w (w.alloc (.cells #[.int .u8 (48+(n:Int))] 5))):=Yy.alloc YR _
 go_enter Tryz.func15,Tryz.ntmps15
 go_wp2;go_ret;exact ⟨_,rfl,rfl,B0.out⟩
theorem uo (w:World) (a d:Nat) (sa:ByteArray) (ha:a<1000000) (ha1:1≤a) (hd:d<10) (hz:sa.size≤1000) (hc:∀W,Calls Tryz.prog 15 #[.int .i64 (a:Int)] W fun e w'=>∃s:ByteArray,e=.returned (.string s)∧s=sa∧Zi W w') :
    Calls Tryz.prog 15 #[.int .i64 (10*(a:Int)+(d:Int))] w fun e w'=>∃s:ByteArray,e=.returned (.string s)∧s=sa++strOfNums [48+(d:Int)]∧Zi w w':=by
 have h0:¬10*(a:Int)+(d:Int)<0:=by omega
 have h1:¬10*(a:Int)+(d:Int)<10:=by omega
 have hq:IntKind.i64.wrap ((10*(a:Int)+(d:Int)).tdiv 10)=(a:Int):=by
  rw [UF (by omega),Zq];omega
 have hr:(10*(a:Int)+(d:Int)).tmod 10=(d:Int):=by
  rw [Int.tmod_eq_emod_of_nonneg (by omega)];omega
 have hw1:IntKind.i64.wrap (48+(d:Int))=48+(d:Int):=by
  rw [Zq];omega
 have hw2:IntKind.u8.wrap (48+(d:Int))=48+(d:Int):=by
  rw [IntKind.wrap_u8];omega
 have HC:=ZU hc;clear hc;have hsn:(strOfNums [48+(d:Int)]).size=1:=by rw [strOfNums_size];rfl
 go_enter Tryz.func15,Tryz.ntmps15
 go_wp2_with fail
 have B0:Hid (Zi w w.drew):=below_drewN' w 1;refine ZX (S:=fun _=>True) (by kernel_rfl) trivial (fun Z9=>?_);generalize w.drew=m0 at *;refine Zf (.int .i64 (10*(a:Int)+(d:Int))) (by kernel_rfl) (fun _=>id) Z9 (fun w9 ZQ=>by (clear ZQ;go_simp;try (first | with_reducible rfl | assumption))) ?_;refine Zf (.int .i64 (a:Int)) (by kernel_rfl) (fun _=>id) Z9 (fun w9 ZQ=>by (clear ZQ;go_simp;try (first | with_reducible rfl | assumption))) ?_;refine Yp 3 (.int .i64 (10*(a:Int)+(d:Int))) rfl (by kernel_rfl) (fun _=>id) Z9 (fun w9 ZQ=>by (clear ZQ;go_simp;try (first | with_reducible rfl | assumption))) ?_;refine Yp 4 (.int .i64 (d:Int)) rfl (by kernel_rfl) (fun _=>id) Z9 (fun w9 ZQ=>by (clear ZQ;go_simp;try (first | with_reducible rfl | assumption))) ?_;refine Yp 5 (.int .i64 (48+(d:Int))) rfl (by kernel_rfl) (fun _=>id) Z9 (fun w9 ZQ=>by (clear ZQ;go_simp;try (first | with_reducible rfl | assumption))) ?_;refine Yp 6 (.int .u8 (48+(d:Int))) rfl (by kernel_rfl) (fun _=>id) Z9 (fun w9 ZQ=>by (clear ZQ;go_simp;try (first | with_reducible rfl | assumption))) ?_;refine QG 2 7 rfl rfl (by kernel_rfl) (fun K hK=>?_) (fun K hK=>?_)
 · go_simp
   refine (HC.out m0).mono ?_;rintro e m1 ⟨s9,rfl,Jd,bN⟩;have HE:=ZU Jd
   replace Jd:s9.size≤1000:=by rw [Jd];exact hz
   replace B0:=ZU (WD B0.out bN)
   refine hK.out _ _ trivial (fun YA=>?_);clear hK K YA bN;refine YS 7 rfl (by kernel_rfl) (fun K hK=>?_);have bN:Zi m1 (m1.alloc (.cells #[.int .u8 (48+(d:Int))] 5)):=Yy.alloc YR _;have U:=Cx m1 (48+d);rw [show ((48+d:Nat):Int)=48+(d:Int) by omega] at U;have R0:=ZU U;clear U
   replace B0:=ZU (WD B0.out bN)
   go_simp;refine hK.out _ _ trivial (fun YA=>?_);clear hK K YA bN;generalize m1.alloc _=m2 at *;generalize m1.heap.size=bb at *;refine YS 8 rfl (by kernel_rfl) (fun K hK=>?_);have hcv:=To R0.out;go_simp;refine hK.out _ _ trivial (fun YA=>?_);clear hK K YA hcv;refine Zf (.string (s9++strOfNums [48+(d:Int)])) (by kernel_rfl) (fun _=>id) Z9 (fun w9 ZQ=>by (clear ZQ;go_simp;try (first | with_reducible rfl | omega))) ?_;refine Zf (.string (s9++strOfNums [48+(d:Int)])) (by kernel_rfl) (fun _=>id) Z9 (fun w9 ZQ=>by (clear ZQ;go_simp;try (first | with_reducible rfl | assumption))) ?_;refine ZR (by kernel_rfl) ?_ _
   try simp only [Act.put,WV,WU,WT]
   go_wp2;go_ret;refine ⟨_,rfl,?_,B0.out⟩;rw [HE.out]
 have bN:Zi m0 (m0.alloc (.cells #[.int .u8 (48+(d:Int))] 5)):=Yy.alloc YR _;have U:=Cx m0 (48+d);rw [show ((48+d:Nat):Int)=48+(d:Int) by omega] at U;have R0:=ZU U;clear U
 replace B0:=ZU (WD B0.out bN)
 go_simp;refine hK.out _ _ trivial (fun YA=>?_);clear hK K YA bN;generalize m0.alloc _=m4 at *;generalize m0.heap.size=bb at *;refine QG 2 8 rfl rfl (by kernel_rfl) (fun K hK=>?_) (fun K hK=>?_)
 · go_simp
   refine (HC.out m4).mono ?_;rintro e m5 ⟨s9,rfl,Jd,bN⟩;have HE:=ZU Jd
   replace Jd:s9.size≤1000:=by rw [Jd];exact hz
   replace B0:=ZU (WD B0.out bN)
   replace R0:=ZU (R0.out.below bN)
   refine hK.out _ _ trivial (fun YA=>?_);clear hK K YA bN;refine YS 8 rfl (by kernel_rfl) (fun K hK=>?_);have hcv:=To R0.out;go_simp;refine hK.out _ _ trivial (fun YA=>?_);clear hK K YA hcv;refine Zf (.string (s9++strOfNums [48+(d:Int)])) (by kernel_rfl) (fun _=>id) Z9 (fun w9 ZQ=>by (clear ZQ;go_simp;try (first | with_reducible rfl | omega))) ?_;refine Zf (.string (s9++strOfNums [48+(d:Int)])) (by kernel_rfl) (fun _=>id) Z9 (fun w9 ZQ=>by (clear ZQ;go_simp;try (first | with_reducible rfl | assumption))) ?_;refine ZR (by kernel_rfl) ?_ _
   try simp only [Act.put,WV,WU,WT]
   go_wp2;go_ret;refine ⟨_,rfl,?_,B0.out⟩;rw [HE.out]
 have hcv:=To R0.out;go_simp;refine hK.out _ _ trivial (fun YA=>?_);clear hK K YA hcv;refine YS 2 rfl (by kernel_rfl) (fun K hK=>?_);go_simp;refine (HC.out m4).mono ?_;rintro e m8 ⟨s9,rfl,Jd,bN⟩;have HE:=ZU Jd
 replace Jd:s9.size≤1000:=by rw [Jd];exact hz
 replace B0:=ZU (WD B0.out bN)
 refine hK.out _ _ trivial (fun YA=>?_);clear hK K YA bN;refine Zf (.string (s9++strOfNums [48+(d:Int)])) (by kernel_rfl) (fun _=>id) Z9 (fun w9 ZQ=>by (clear ZQ;go_simp;try (first | with_reducible rfl | omega))) ?_;refine Zf (.string (s9++strOfNums [48+(d:Int)])) (by kernel_rfl) (fun _=>id) Z9 (fun w9 ZQ=>by (clear ZQ;go_simp;try (first | with_reducible rfl | assumption))) ?_;refine ZR (by kernel_rfl) ?_ _
 try simp only [Act.put,WV,WU,WT]
 go_wp2;go_ret;refine ⟨_,rfl,?_,B0.out⟩;rw [HE.out]
def Cw (n:Nat):ByteArray:=strOfNums (QC n)
theorem mw:∀n:Nat,n<10→strOfNums [48+(n:Int)]=Cw n:=by decide +kernel
theorem mv:∀n:Nat,n<200→10≤n→Cw (n / 10)++strOfNums [48+((n % 10:Nat):Int)]=Cw n:=by decide +kernel
theorem um:∀n:Nat,n<200→(Cw n).size≤3:=by decide +kernel
theorem yT (w:World) (n:Nat) (hn:n<200) :
    Calls Tryz.prog 15 #[.int .i64 (n:Int)] w fun e w'=>∃s:ByteArray,e=.returned (.string s)∧s=Cw n∧Zi w w':=by
 induction n using Nat.strongRecOn generalizing w with
 | ind n ih =>
  by_cases h:n<10
  · rw [←mw n h];exact uq w n h
  have:=uo w (n / 10) (n % 10) (Cw (n / 10)) (by omega) (by omega) (by omega) (by have:=um (n / 10) (by omega);omega) (fun W=>ih (n / 10) (by omega) W (by omega));rw [show 10*((n / 10:Nat):Int)+((n % 10:Nat):Int)=(n:Int) by omega,mv n hn (by omega)] at this;exact this
theorem OS (a b:List Int):strOfNums (a++b)=strOfNums a++strOfNums b:=by
 apply WM;rw [Yd];unfold strOfNums
 simp
theorem Cv (s:ByteArray) (z:Nat):tl s [z]=s++(⟨#[32]⟩++Cw z):=by
 unfold tl VS;rw [WY,UU,YD,OS,show U0 s=bI s from rfl,Ez,show ((32:Int) :: QC z)=[32]++QC z from rfl,OS]
 rfl
theorem Mr (w:World) (s:ByteArray) (b off cap:Nat) (z:Nat) (hc:w.cell? ⟨b,off,none⟩=some (.int .i64 (z:Int))) (hz:z<200) (hs:s.size≤1000) :
    Calls Tryz.prog 8 #[.string s,.slice (some ⟨b,off,none⟩) 1 cap] w (Wj w (.string (tl s [z]))):=by
 have HD:=ZU (yT w z hz);have hz3:=um z hz;have HE:=ZU (Cv s z);have hb:=ZG w _ hc;generalize tl s [z]=t at *;generalize Cw z=d at *
 go_enter Tryz.func8,Tryz.ntmps8
 go_wp2_with fail
 go_loopw [0,5] (fun v0 v5 wr=>(v0=.string s∧v5=.int .i64 0∧wr=w)∨(v0=.string t∧v5=.int .i64 1∧Hid (Zi w wr))) (fun _ v _=>(1 - intOf v).toNat)
 case atStart=>exact .inl ⟨rfl,rfl,rfl⟩
 case round =>
  rcases hrel with ⟨rfl,rfl,rfl⟩ | ⟨rfl,rfl,HB⟩
  · go_wp2_with fail
    refine HD.out.mono ?_;rintro e w2 ⟨s9,rfl,Jd,b2⟩;have B2:=ZU b2;have h9:s9.size≤3:=by rw [Jd];exact hz3
    have HT:Hid (s++(⟨#[32]⟩++s9)=t):=by show _=_;rw [Jd];exact HE.out.symm
    have h32:(⟨#[32]⟩++s9:ByteArray).size=1+s9.size:=by rw [VX];rfl
    clear b2 Jd hc
    go_wp2_with fail
    exact ⟨.inr ⟨by rw [HT.out],by go_num,B2⟩,by simp [intOf]⟩
  go_wp2;go_ret;exact ⟨rfl,HB.out⟩
def ju (w:World) (v:Value) (ls:List ByteArray):Prop :=
 ∃ao cap,v=.slice ao ls.length cap∧ls.length≤cap∧cap≤maxLen∧(ls=[]∨∃b off,ao=some ⟨b,off,none⟩∧b<w.heap.size∧∀i,i<ls.length→w.cell? ⟨b,off+i,none⟩=some (.string (ls.getD i ⟨#[]⟩)))
def XI (ls:List ByteArray):List Int:=ls.flatMap fun s=>U0 s++[10]
theorem Cu (w:World) (v:Value) (ls:List ByteArray) (h:ju w v ls) (hn:ls.length≤1000000) (hl:(XI ls).length≤1000000) :
    Calls Tryz.prog 7 #[v] w fun e w'=>∃v',e=.returned v'∧Ul w' w.heap.size v' (XI ls)∧Zi w w':=by
 obtain ⟨ao,cp,rfl,h1,h2,h3⟩:=h;have HR:=ZU h3;have HL:=ZU hl;have O0:Hid (Ul (w.alloc (.cells #[] 5)) w.heap.size (.slice (some ⟨w.heap.size,0,none⟩) 0 0) []):=Fx (w:=w) (base:=w.heap.size) (cap:=0) (xs:=[]) (T:=#[]) YR YR (Zu _) rfl;have B0:Hid (Zi w (w.alloc (.cells #[] 5))):=Yy.alloc YR _;clear h3 hl
 go_enter Tryz.func7,Tryz.ntmps7
 go_wp2_with fail
 generalize w.alloc _=w1 at *
 go_loopw [3,4] (fun v3 v4 wr=>∃i:Nat,v4=.int .i64 (i:Int)∧i≤ls.length∧Hid (Ul wr w.heap.size v3 (XI (ls.take i)))∧Hid (Zi w wr)) (fun _ v _=>((ls.length:Int) - intOf v).toNat)
 case atStart=>exact ⟨0,rfl,Zu _,O0,B0⟩
 case round =>
  obtain ⟨i,rfl,hi,OH,BH⟩:=hrel
  by_cases hc:i<ls.length
  · obtain ⟨b,off,rfl,hb,hcl⟩:=HR.out.resolve_left (fun e=>by rw [e] at hc;simp at hc)
    have hci:=(BH.out.cell (p:=⟨b,off+i,none⟩) hb).trans (hcl i hc);have hst:XI (ls.take (i+1))=(XI (ls.take i)++U0 (ls.getD i ⟨#[]⟩))++[10]:=by
     unfold XI;rw [YW hc,XZ]
     simp [List.getD,hc]
    have hle:(XI (ls.take (i+1))).length≤1000000:=by
     refine ZJ ?_ HL.out;unfold XI
     conv=>rhs;rw [←YQ (i+1) ls,XZ,ZZ]
     omega
    rw [hst,ZZ,ZZ,Wq] at hle;have HST:=ZU hst;have sB:=BH.out.size;clear hcl hst;generalize ls.getD i ⟨#[]⟩=t at *;have lN:=ZU hle;clear hle
    go_wp2_with (at_builtin;go_must (refine Rr rfl _ _ rfl w.heap.size _ (XI (ls.take i)) t rfl rfl OH.out sB (by have:=lN.out;omega) ?_))
    intro v2 w2 o2 g2;have O2:Hid (Ul (w2.alloc (.cells #[.int .u8 10] 5)) w.heap.size v2 (XI (ls.take i)++U0 t)):=o2.below ((Below.refl w2.heap.size w2).alloc YR _);have b2:=BH.out.grown g2 sB OH.out.lt;have s2:=b2.size;have B2:Hid (Zi w (w2.alloc (.cells #[.int .u8 10] 5))):=b2.alloc s2 _;clear o2 g2 OH BH sB b2
    go_wp2_with (at_builtin;go_must (refine PU rfl _ _ rfl w.heap.size _ (XI (ls.take i)++U0 t) [10] ⟨w2.heap.size,0,none⟩ 1 1 rfl rfl rfl O2.out (by simp;omega) (by have:=lN.out;rw [ZZ,Wq];simp at this ⊢;omega) (XW _ _ _) ?_))
    intro v3 w3 o3 g3;have O3:=ZU o3;have B3:=ZU (B2.out.grown g3 (by simp;omega) O2.out.lt);clear o3 g3 O2 B2
    go_wp2_with fail
    refine ⟨⟨i+1,by go_num,by omega,?_,B3⟩,by simp [intOf];omega⟩;show Ul _ _ _ _;rw [HST.out,ZO];exact O3.out
  have hie:i=ls.length:=by omega
  subst hie;rw [Xp] at OH;go_wp2;go_ret;exact ⟨_,rfl,OH.out,BH.out⟩
def pE (ls:List ByteArray):ByteArray:=UG (ls.flatMap fun s=>s.data.toList++[10])
theorem uk (ls:List ByteArray):bI (pE ls)=XI ls:=by
 unfold bI pE XI;rw [Qu,List.map_flatMap]
 congr 1
 funext s
 rw [Y6]
 rfl
theorem AU:∀(ls:List ByteArray),(∀s ∈ ls,(10:UInt8) ∉ s.data.toList)→(RC 10 [] (pE ls).data.toList).map UG=ls++[⟨#[]⟩]
 | [],_=>rfl
 | s :: ls,h=>by
  have e:(pE (s :: ls)).data.toList=s.data.toList++10 :: (pE ls).data.toList:=by
   unfold pE;rw [Qu,Qu,WY,ZO]
   rfl
  rw [e,Rg _ _ _ (h s (YO ..)),Yl,AU ls (fun t ht=>h t (Zp _ ht)),Zd,M6]
  rfl
theorem Ro.DB {L:List ByteArray} (h:Ro w lo v L):ju w v L:=by
 have h':=h
 rcases h.2 with ⟨rfl,h9⟩ | ⟨g,cap,cur,rfl,h1,h2,h3,h4,h5,h6⟩
 · refine ⟨none,0,by rw [h9],by omega,Zu _,.inl (Zg h9)⟩
 refine ⟨_,cap,rfl,h3,h4,.inr ⟨g,0,rfl,(Z3.1 h2).1,fun i hi=>?_⟩⟩;rw [Za,Wv h' i (by omega),Yo,ZF hi,List.getD,ZF hi]
 rfl
theorem Es (w:World) (v:Value) (b:ByteArray) (ls:List ByteArray) (h:Rd .u8 w v (bI b)) (h0:0<b.size) (hs:b.size≤1048576) (hls:(RC 10 [] b.data.toList).map UG=ls++[⟨#[]⟩]) :
    Calls Tryz.prog 5 #[v] w fun e w'=>∃v',e=.returned v'∧Ro w' w.heap.size v' ls∧Zi w w':=by
 obtain ⟨B,o,cap,rfl,hBl⟩:∃B o cap,v=.slice (some ⟨B,o,none⟩) b.size cap∧B<w.heap.size:=by
  obtain ⟨ao,cp,rfl,h1,h2,h3⟩:=h
  rcases h3 with h3 | ⟨b',o',rfl,hl,-⟩
  · have:=QO b;rw [h3] at this;simp at this;omega
  exact ⟨b',o',cp,by rw [QO],hl⟩
 obtain ⟨iq,qK,hq0,qJ,qI⟩:=YM Tryz.uO;have HR:=ZU h;have nD:=ZU hls;obtain ⟨hcc,hcm⟩:b.size≤cap∧cap≤maxLen:=by
  obtain ⟨ao,cp,e,h1,h2,-⟩:=h
  injection e with e1 e2 e3
  subst e3;rw [QO] at h1;exact ⟨h1,h2⟩
 have HC:Hid (∀W,Zi w W→∀i (hi:i<b.size),W.cell? ⟨B,o+i,none⟩=some (.int .u8 ((b[i]'hi).toNat:Int))):=fun W hb i hi=>by
  obtain ⟨ao,cp,e,h1,h2,h3⟩:=HR.out.below hb
  rcases h3 with h3 | ⟨b',o',e',hl,hc⟩
  · have:=QO b;rw [h3] at this;simp at this;omega
  injection e with e1
  rw [e'] at e1
  injection e1 with e1
  injection e1 with e1 e2
  subst e1 e2;rw [hc i (by rw [QO];exact hi),mV b i hi]
 unfold maxLen at hcm;clear h hls
 go_enter Tryz.func5,Tryz.ntmps5
 go_wp2_with fail
 have B0:Hid (Zi w (w.alloc (.cells #[] 9))):=Yy.alloc YR _;have O0:Hid (Ro (w.alloc (.cells #[] 9)) w.heap.size (.slice (some ⟨w.heap.size,0,none⟩) 0 0) []):=Ro.nil w w.heap.size YR;generalize w.alloc _=w1 at *
 go_loopw [3,4,5] (fun v5 v6 v7 wr=>∃(i fr:Nat) (D:List ByteArray) (g co:Nat),v5=.slice (some ⟨g,0,none⟩) D.length co∧v6=.int .i64 (fr:Int)∧v7=.int .i64 (i:Int)∧fr≤i∧i≤b.size∧D.length≤i∧Hid (Ro wr w.heap.size (.slice (some ⟨g,0,none⟩) D.length co) D)∧Hid (Zi w wr)∧Hid ((RC 10 [] b.data.toList).map UG=D++(RC 10 ((b.data.toList.drop fr).take (i - fr)) (b.data.toList.drop i)).map UG)) (fun _ _ i _=>b.size - (intOf i).toNat)
 case atStart=>exact ⟨0,0,[],w.heap.size,0,rfl,rfl,rfl,YR,Zu _,YR,O0,B0,by show _=_;simp⟩
 case round =>
  obtain ⟨i,fr,D,g,co,rfl,rfl,rfl,hfi,hi,Zh,HO,HB,HE⟩:=hrel;clear O0 B0;have sB:=HB.out.size
  by_cases hlt:i<b.size
  · have Rj:(i:Int)<(b.size:Int):=by omega
    have hc:=HC.out wr HB.out i hlt
    by_cases R:b[i]=10
    · have hq:(((b[i].toNat:Nat):Int) == 10)=true:=by rw [R];rfl
      have hE2:(RC 10 [] b.data.toList).map UG=(D++[UG ((b.data.toList.drop fr).take (i - fr))])++(RC 10 ((b.data.toList.drop (i+1)).take (i+1 - (i+1))) (b.data.toList.drop (i+1))).map UG:=by
       rw [HE.out,drop_at b i hlt,R,Na]
       simp
      have HE2:=ZU hE2;have hcv:(convert 22 9 (.slice (some ⟨B,o+fr,none⟩) (i - fr) (cap - fr))).run Tryz.prog wr=.ok (.string (UG ((b.data.toList.drop fr).take (i - fr)))) wr:=by
       rw [←uP];exact To (mT (HR.out.below HB.out) fr (i - fr) (by omega))
      have hfc:fr<cap:=by omega
      have Zm:(fr:Int)≤(i:Int):=by omega
      clear hE2 HE R;generalize UG ((b.data.toList.drop fr).take (i - fr))=yH at *;have OR:Hid (wr.ownsRow w.heap.size 9 1 (.slice (some ⟨g,0,none⟩) D.length co) D.length (D.map Value.string)):=HO.out
      go_wp2_with (at_builtin;go_must (refine wpList_append_lies _ rfl _ _ 26 rfl w.heap.size 9 iq (.string ByteArray.empty) 1 16 Tryz.underlying26 qK hq0 qJ qI rfl (by decide) _ _ _ rfl (OR.out.alloc _) ⟨wr.heap.size,0,none⟩ 1 1 [.string yH] rfl rfl (XW _ _ _) (by intro u hu;simp at hu;subst hu;rfl) (by decide) ?c3 ?c4 ?c5 _ rfl ?_))
      case c3=>unfold maxLen;omega
      case c4=>omega
      case c5=>first | omega | (simp;omega)
      intro g5 k5 w5 Rb hg5 Mw Ng;have O5:Hid (Ro w5 w.heap.size (.slice (some ⟨g5,0,none⟩) (D++[yH]).length k5) (D++[yH])):=by
       show World.ownsRow _ _ _ _ _ _ _;rw [ZZ,Y6];exact Rb
      have B5:Hid (Zi w w5):=(HB.out.alloc sB _).grown hg5 (by simp;omega) (fun q hq=>(ZT OR.out q hq).1);clear Rb hg5 Mw Ng OR HO HB hcv hc
      go_wp2_with fail
      exact ⟨⟨i+1,i+1,D++[yH],g5,k5,by rw [ZZ];rfl,by go_num,by go_num,YR,hlt,by rw [ZZ];simp;omega,O5,B5,HE2⟩,by simp [intOf];omega⟩
    have hq:(((b[i].toNat:Nat):Int) == 10)=false:=VU (fun e=>R (Uj (by show b[i].toNat=10;omega)));have hE2:(RC 10 [] b.data.toList).map UG=D++(RC 10 ((b.data.toList.drop fr).take (i+1 - fr)) (b.data.toList.drop (i+1))).map UG:=by
     rw [HE.out,drop_at b i hlt,M9 R,qN b fr i hfi hlt]
    have HE2:=ZU hE2;clear hE2 HE R
    go_wp2_with fail
    exact ⟨⟨i+1,fr,D,g,co,rfl,rfl,by go_num,by omega,hlt,by omega,HO,HB,HE2⟩,by simp [intOf];omega⟩
  have hin:i=b.size:=by omega
  have hE2:D=ls∧fr=b.size:=by
   have hd:b.data.toList.drop b.size=[]:=XS (by rw [Tt];exact YR);have e:=HE.out;rw [hin,hd,Nb,nD.out] at e;have e1:=List.append_inj' e (by simp);refine ⟨e1.1.symm,?_⟩;have e2:(⟨#[]⟩:ByteArray)=UG ((b.data.toList.drop fr).take (b.size - fr)):=by simpa using e1.2
   have e3:=ZM (fun x:ByteArray=>x.data.toList.length) e2
   simp only [Qu,Zw,ZS,Tt] at e3
   rw [Y7] at e3;omega
  obtain ⟨rfl,hfe⟩:=hE2;have Rj:¬(i:Int)<(b.size:Int):=by omega
  have ni:¬(fr:Int)<(b.size:Int):=by omega
  clear HE nD hin hfe;go_wp2;go_ret;exact ⟨_,rfl,HO.out,HB.out⟩
attribute [local go_sem] Yv
def Rw (ls:List ByteArray) (k:Nat):Nat:=(XI (ls.take k)).length
theorem uj (ls:List ByteArray):Rw ls 0=0:=rfl
theorem P0 (s:ByteArray) (ls:List ByteArray):XI (s :: ls)=U0 s++10 :: XI ls:=by
 unfold XI;rw [WY,ZO]
 rfl
theorem Mq (a b:List ByteArray):XI (a++b)=XI a++XI b:=by unfold XI;rw [XZ]
theorem ui (h:k<ls.length):Rw ls (k+1)=Rw ls k+((ls.getD k ⟨#[]⟩).size+1):=by
 unfold Rw;rw [YW h,Mq,ZZ,P0,List.getD,ZF h,ZZ,Wq]
 rfl
theorem qB (ls:List ByteArray):Rw ls ls.length=(XI ls).length:=by unfold Rw;rw [Xp]
theorem Mp (h:k<ls.length):(XI ls).drop (Rw ls k)=U0 (ls.getD k ⟨#[]⟩)++10 :: XI (ls.drop (k+1)):=by
 have e:XI ls=XI (ls.take k)++XI (ls.drop k):=by rw [←Mq,YQ]
 rw [e];unfold Rw;rw [List.drop_left,Yg h,P0,List.getD,ZF h]
 rfl
theorem Hd (h:k<ls.length):Rw ls k+((ls.getD k ⟨#[]⟩).size+1)≤(XI ls).length:=by
 have:=ZM List.length (Mp h);rw [ZS,ZZ,Wq,ZE] at this;omega
theorem pC:∀(s:List UInt8) (r:List UInt8),(10:UInt8) ∉ s→Lib.indexByte (s++10 :: r) 10=(s.length:Int)
 | [],r,_=>rfl
 | b :: s,r,h=>by
  have h1:(b == 10)=false:=VU (fun e=>h (by rw [e];exact YO ..));have ih:=pC s r (fun e=>h (Zp _ e));rw [Y3];unfold Lib.indexByte;rw [h1,ih];have h2:(((s.length:Nat):Int) == -1)=false:=VU (by omega);rw [h2]
  simp
theorem Er (s:ByteArray):Lib.bytesOf (U0 s)=s.data.toList:=by
 unfold Lib.bytesOf U0;rw [SF]
 conv=>rhs;rw [←List.map_id s.data.toList]
 refine Vw fun x _=>?_
 simp
theorem uh (h:k<ls.length) (hn:∀s ∈ ls,(10:UInt8) ∉ s.data.toList):Lib.indexByte (Lib.bytesOf ((XI ls).drop (Rw ls k))) 10=((ls.getD k ⟨#[]⟩).size:Int):=by
 have h1:(10:UInt8) ∉ (ls.getD k ⟨#[]⟩).data.toList:=by
  rw [List.getD,ZF h];exact hn _ (YP h)
 rw [Mp h,show Lib.bytesOf (U0 (ls.getD k ⟨#[]⟩)++10 :: XI (ls.drop (k+1)))=(ls.getD k ⟨#[]⟩).data.toList++10 :: Lib.bytesOf (XI (ls.drop (k+1))) by
  rw [←Er];unfold Lib.bytesOf;rw [Y6];rfl]
 rw [pC _ _ h1,Tt]
def Eq (B:Nat) (W:World):Nat:=match W.cell? ⟨B,0,none⟩ with
 | some (.slice _ n _)=>n
 | _=>0
theorem Ep {t:TypeId} {a:Option Addr} {c:Nat} (h:Boxed W B t (.slice a n c)):Eq B W=n:=by unfold Eq;rw [h.cell]
theorem ug (n:Nat) (ao:Option Addr) (m cap:Nat) (w:World) :
    CallsIn Fence.wide n Tryz.prog 11 #[.slice ao m cap] w fun e w'=>e=.returned (.func (.func 21) #[] #[.pointer (some ⟨w.heap.size,0,none⟩)])∧w'=w.alloc (.cells #[.slice ao m cap] 22):=by
 refine Xb Tryz.func11 rfl trivial ?_ rfl
 simp only [Tryz.ntmps11,ZI,ZE,Y7,Nat.reduceAdd,Nat.reduceSub,YV,YU,YI,YT,Zd,Y3]
 gi_wp2;go_ret;exact ⟨rfl,rfl⟩
theorem Ct (nn:Nat) (hn1:1≤nn) (l V B o N cap:Nat) (ls:List ByteArray) (hno:∀s ∈ ls,(10:UInt8) ∉ s.data.toList) (hN:(XI ls).length=N) (tG:N≤1048576) (hc1:N≤cap) (hc2:cap≤maxLen)
    (St:Nat→World→Prop) (Bk:World→Prop)
    (iR:∀k X Y,Zi X Y→St k X→St k Y) (iQ:∀X Y,Zi X Y→Bk X→Bk Y)
    (hSW:∀k X v,St k X→St k (X.setCell ⟨V,0,none⟩ v)) (hBW:∀X v,Bk X→Bk (X.setCell ⟨V,0,none⟩ v))
    (hSR:∀k W,St k W→∀i,i<N→W.cell? ⟨B,o+i,none⟩=some (.int .u8 ((XI ls).getD i 0)))
    (hY:∀k vs W,St k W→Bk W→(k<ls.length∧vs=#[.slice (some ⟨B,o+Rw ls k,none⟩) ((ls.getD k ⟨#[]⟩).size+1) ((ls.getD k ⟨#[]⟩).size+1)])→YieldAt Fence.wide (nn - 1) Tryz.prog l vs W fun e W'=>e=.returned (.bool true)∧St (k+1) W'∧Bk W'∧W'.heap[V]?=W.heap[V]?)
    (W:World) (h0:St 0 W) (h1:Bk W) (hs:Boxed W V 22 (.slice (some ⟨B,o,none⟩) N cap)) (hls:0<ls.length) :
    CallsIn Fence.wide nn Tryz.prog 21 #[.func (.yield l) #[] #[],.pointer (some ⟨V,0,none⟩)] W fun e W'=>(∃v,e=.returned v)∧St ls.length W'∧Bk W':=by
 have HY:=ZU hY;have lR:=ZU iR;have eQ:=ZU iQ;have ij:=ZU hSW;have kV:=ZU hBW;have iP:=ZU hSR;have H0:=ZU h0;have H1:=ZU h1;have oJ:Hid (Boxed W V 22 (.slice (some ⟨B,o+Rw ls 0,none⟩) (N - Rw ls 0) (cap - Rw ls 0))):=by
  show Boxed _ _ _ _;rw [uj];exact hs
 have ST:=ZU hno;have HN:=ZU hN;unfold maxLen at hc2;clear hY iR iQ hSW hBW hSR h0 h1 hs hno hN;refine Xb Tryz.func21 rfl trivial ?_ rfl
 simp only [Tryz.ntmps21,ZI,ZE,Y7,Nat.reduceAdd,Nat.reduceSub,YV,YU,YI,YT,Zd,Y3]
 gi_wp2
 gi_loopw [] (fun wr=>∃(k:Nat) (vs:Value),Hid (St k wr)∧Hid (Bk wr)∧Hid (Boxed wr V 22 vs)∧Hid ((k<ls.length∧vs=.slice (some ⟨B,o+Rw ls k,none⟩) (N - Rw ls k) (cap - Rw ls k))∨(k=ls.length∧∃a c,vs=.slice a 0 c))) (fun wr=>Eq V wr)
 case atStart=>exact ⟨0,_,H0,H1,oJ,.inl ⟨hls,rfl⟩⟩
 case round =>
  obtain ⟨k,vs,HS,HB,HX,HC⟩:=hrel
  rcases HC.out with ⟨hk,rfl⟩ | ⟨hk,a,c,rfl⟩
  · have hle:=Hd hk
    have hidx:=uh hk ST.out;have hxl:((XI ls).drop (Rw ls k)).length=N - Rw ls k:=by rw [ZS,HN.out]
    have hps:=ui hk;rw [HN.out] at hle;have HI:=ZU (Tryz.bytes_IndexByte B (o+Rw ls k) (N - Rw ls k) (cap - Rw ls k) ((XI ls).drop (Rw ls k)) 10 wr hxl (fun i hi=>by
     have:=iP.out k wr HS.out (Rw ls k+i) (by omega);rw [←Xu] at this;rw [this]
     simp [List.getD,Yt]))
    rw [show ((10:Int).toNat.toUInt8)=(10:UInt8) from rfl,hidx] at HI;have E:Hid (∀(W3:World) (v:Value),St (k+1) W3→Bk W3→Boxed W3 V 22 v→(v=.slice (if cap - Rw ls k=(ls.getD k ⟨#[]⟩).size+1 then some ⟨B,o+Rw ls k,none⟩ else some ⟨B,o+Rw ls k+((ls.getD k ⟨#[]⟩).size+1),none⟩) (N - Rw ls k - ((ls.getD k ⟨#[]⟩).size+1)) (cap - Rw ls k - ((ls.getD k ⟨#[]⟩).size+1))) →
        (∃(k:Nat) (vs:Value),Hid (St k W3)∧Hid (Bk W3)∧Hid (Boxed W3 V 22 vs)∧Hid ((k<ls.length∧vs=.slice (some ⟨B,o+Rw ls k,none⟩) (N - Rw ls k) (cap - Rw ls k))∨(k=ls.length∧∃a c,vs=.slice a 0 c)))∧Eq V W3<N - Rw ls k):=by
     intro W3 v a1 a2 a3 a4;refine ⟨⟨k+1,v,a1,a2,a3,?_⟩,?_⟩
     · by_cases h9:k+1<ls.length
       · have h8:=Hd h9
         rw [HN.out,hps] at h8;refine .inl ⟨h9,?_⟩;rw [a4,Z1 (by omega),hps]
         simp only [Xu,Nat.sub_sub]
       have h8:Rw ls (k+1)=N:=by rw [show k+1=ls.length by omega,qB,HN.out]
       rw [hps] at h8;refine .inr ⟨by omega,?_⟩;rw [a4,show N - Rw ls k - ((ls.getD k ⟨#[]⟩).size+1)=0 by omega];exact ⟨_,_,rfl⟩
     subst a4;rw [Ep a3];omega
    have HM:Hid (Eq V wr=N - Rw ls k):=Ep HX.out;have A:Hid (∀W2,St k W2→Bk W2→YieldAt Fence.wide (nn - 1) Tryz.prog l #[.slice (some ⟨B,o+Rw ls k,none⟩) ((ls.getD k ⟨#[]⟩).size+1) ((ls.getD k ⟨#[]⟩).size+1)] W2 fun e W'=>e=.returned (.bool true)∧St (k+1) W'∧Bk W'∧W'.heap[V]?=W2.heap[V]?):=fun W2 a b=>HY.out k _ W2 a b ⟨hk,rfl⟩
    clear hidx hxl hps;have hr1:(ls.getD k ⟨#[]⟩).size+1≤N - Rw ls k:=by omega
    have hr2:N - Rw ls k≤cap - Rw ls k:=by omega
    have hr3:cap - Rw ls k≤9223372036854775807:=by omega
    have hr4:N - Rw ls k≤1048576:=by omega
    clear hle HC;generalize (ls.getD k ⟨#[]⟩).size=j at *;generalize o+Rw ls k=O at *;generalize N - Rw ls k=r at *;generalize cap - Rw ls k=c at *;have cS:=HX.out.cell;have hr0:(0:Int)<(r:Int):=by omega
    have hj0:¬(j:Int)<0:=by omega
    have hj1:(j:Int)+1≤(c:Int):=by omega
    have hj2:(j:Int)+1≤(r:Int):=by omega
    gi_wp2_with fail
    refine ⟨trivial,?_⟩;refine (YK.2 HI.out).mono ?_;rintro e w2 ⟨rfl,rfl⟩;clear HI
    gi_wp2_with fail
    rename_i KK QQ Ib;have Zb:IntKind.i64.wrap ((j:Int)+1)=(j:Int)+1:=by rw [Zq];omega
    have Y':0≤(j:Int)+1:=by omega
    have B2:Zi w2 w2.drew:=below_drewN' w2 1;have HS2:=ZU (lR.out k _ _ B2 HS.out);have HB2:=ZU (eQ.out _ _ B2 HB.out);have y8:Hid (Boxed w2.drew V 22 (.slice (some ⟨B,O,none⟩) r c)):=HX.out;have REST:Hid (∀V2:Value,V2=.slice (if c=j+1 then some ⟨B,O,none⟩ else some ⟨B,O+(j+1),none⟩) (r - (j+1)) (c - (j+1))→∀u12 u13 u14 u16 u17 u18,KK { tmps:=#[.func (.yield l) #[] #[],.pointer (some ⟨V,0,none⟩),undef,.slice (some ⟨B,O,none⟩) (j+1) c,.int .i64 (j:Int),.slice (some ⟨B,O,none⟩) r c,.int .i64 (r:Int),.bool true,.slice (some ⟨B,O,none⟩) r c,.int .i64 (j:Int),.int .i64 (j:Int),.bool true,u12,u13,u14,.slice (some ⟨B,O,none⟩) (j+1) c,u16,u17,u18,V2,u20,u21,u22,u23,u24,u25,u26,u27,u28,u29],defers:=[] } (w2.drew.setCell ⟨V,0,none⟩ V2)):=by
     intro V2 hV2 u12 u13 u14 u16 u17 u18;have HV:=ZU hV2;have AB:=ij.out k _ V2 HS2.out;have hB3:=kV.out _ V2 HB2.out;have BY:=ZU (y8.out.set V2);have qn:=A.out _ AB hB3;clear HS HB HX HS2 HB2 y8 B2 AB hB3 cS;generalize w2.drew.setCell _ _=w3 at *;refine Ib _ _ ?_;clear Ib hV2;obtain ⟨fn,tmps,assign,body,hy,hR⟩:=qn;gi_wp2;refine hR.mono ?_;rintro e W3 ⟨rfl,AB,hB3,hK3⟩;have NX:=E.out W3 V2 AB hB3 (hK3.trans BY.out) HV.out;have Pw:=ZU NX;clear AB hB3 hy hR hK3 NX;gi_wp2
     go_roundw
     case rel=>exact Pw.out.1
     case measure=>rw [HM.out];exact Pw.out.2
    clear HS HB HX HS2 HB2 A E HM;have cS:=y8.out.cell;refine wpIn_wide.2 ?_;refine ZX (S:=fun _=>True) (by kernel_rfl) trivial (fun Z9=>?_);generalize w2.drew=w3 at *;refine PM (i:=1) (oi:=⟨some 13,_,_,_,_,_⟩) (v:=?v1) rfl (by kernel_rfl) (fun _ _ _ h=>h) (Or.inl ⟨by rfl,?hy1⟩) trivial ?jt
    case hy1 =>
     intro w9 ZQ;clear ZQ;go_simp
     try with_reducible rfl
    refine PM (i:=2) (oi:=⟨some 14,_,_,_,_,_⟩) (v:=?v2) rfl (by kernel_rfl) (fun _ _ _ h=>h) (Or.inl ⟨by rfl,?hy2⟩) trivial ?py
    case hy2 =>
     intro w9 ZQ;clear ZQ;go_simp
     try with_reducible rfl
    refine PM (i:=5) (oi:=⟨some 17,_,_,_,_,_⟩) (v:=?v3) rfl (by kernel_rfl) (fun _ _ _ h=>h) (Or.inl ⟨by rfl,?hy3⟩) trivial ?js
    case hy3 =>
     intro w9 ZQ;clear ZQ;go_simp
     try with_reducible rfl
    refine PM (i:=6) (oi:=⟨some 18,_,_,_,_,_⟩) (v:=?v4) rfl (by kernel_rfl) (fun _ _ _ h=>h) (Or.inl ⟨by rfl,?hy4⟩) trivial ?jr
    case hy4 =>
     intro w9 ZQ;clear ZQ;go_simp
     try with_reducible rfl
    refine QG 0 4 rfl rfl (by kernel_rfl) (fun K hK=>?_) (fun K hK=>?_)
    · go_simp
      refine hK.out _ _ trivial (fun YA=>?_);clear hK K YA;refine PM (i:=3) (oi:=⟨some 15,_,_,_,_,_⟩) (v:=?v5) rfl (by kernel_rfl) (fun _ _ _ h=>h) (Or.inl ⟨by rfl,?DN⟩) trivial ?px
      case DN =>
       intro w9 ZQ;clear ZQ;go_simp
       try with_reducible rfl
      refine PM (i:=8) (oi:=⟨some 3,_,_,_,_,_⟩) (v:=?v6) rfl (by kernel_rfl) (fun _ _ _ h=>h) (Or.inl ⟨by rfl,?sU⟩) trivial ?jq
      case sU =>
       intro w9 ZQ;clear ZQ;go_simp
       try with_reducible rfl
      refine YS 4 rfl (by kernel_rfl) (fun K hK=>?_);go_simp;refine hK.out _ _ trivial (fun YA=>?_);clear hK K YA;refine PM (i:=7) (oi:=⟨some 19,_,_,_,_,_⟩) (v:=?v7) rfl (by kernel_rfl) (fun _ _ _ h=>h) (Or.inl ⟨by rfl,?sS⟩) trivial ?jp
      case sS =>
       intro w9 ZQ;clear ZQ;go_simp
       try with_reducible rfl
      refine YS 9 rfl (by kernel_rfl) (fun K hK=>?_);have f0:=y8.out.frozen;go_simp;clear f0;refine hK.out _ _ trivial (fun YA=>?_);clear hK K YA;exact ZR (by kernel_rfl) (REST.out _ rfl _ _ _ _ _ _) _
    go_simp;refine hK.out _ _ trivial (fun YA=>?_);clear hK K YA;refine PM (i:=7) (oi:=⟨some 19,_,_,_,_,_⟩) (v:=?v8) rfl (by kernel_rfl) (fun _ _ _ h=>h) (Or.inl ⟨by rfl,?rR⟩) trivial ?jo
    case rR =>
     intro w9 ZQ;clear ZQ;go_simp
     try with_reducible rfl
    refine YS 0 rfl (by kernel_rfl) (fun K hK=>?_);go_simp;refine hK.out _ _ trivial (fun YA=>?_);clear hK K YA;refine PM (i:=3) (oi:=⟨some 15,_,_,_,_,_⟩) (v:=?v9) rfl (by kernel_rfl) (fun _ _ _ h=>h) (Or.inl ⟨by rfl,?nY⟩) trivial ?jn
    case nY =>
     intro w9 ZQ;clear ZQ;go_simp
     try with_reducible rfl
    refine PM (i:=8) (oi:=⟨some 3,_,_,_,_,_⟩) (v:=?v10) rfl (by kernel_rfl) (fun _ _ _ h=>h) (Or.inl ⟨by rfl,?Dr⟩) trivial ?mt
    case Dr =>
     intro w9 ZQ;clear ZQ;go_simp
     try with_reducible rfl
    refine YS 9 rfl (by kernel_rfl) (fun K hK=>?_);have f0:=y8.out.frozen;go_simp;clear f0;refine hK.out _ _ trivial (fun YA=>?_);clear hK K YA;exact ZR (by kernel_rfl) (REST.out _ rfl _ _ _ _ _ _) _
  subst hk;have cS:=HX.out.cell;gi_wp2;refine bodyPost_end (Wu rfl _ _ _) rfl ?_;exact ⟨⟨_,rfl⟩,HS.out,HB.out⟩
theorem mr (s:ByteArray) (y z:Nat):tl s [y,z]=tl s [y]++(⟨#[32]⟩++Cw z):=by
 unfold tl VS
 simp only [WY,UU,YD]
 rw [←ZO,OS,show ((32:Int) :: QC z)=[32]++QC z from rfl,OS [32]]
 rfl
theorem mq:∀z,z<200→(1≤(Cw z).size∧(Cw z).size≤3)∧(10:UInt8) ∉ (Cw z).data.toList:=by decide +kernel
def Ke (lo hi:Nat) (b:ByteArray):Prop:=lo≤b.size∧b.size≤hi∧(10:UInt8) ∉ b.data.toList
theorem Ke.say {b:ByteArray} (h:Ke lo hi b) (hz:z<200):Ke (lo+2) (hi+4) (b++(⟨#[32]⟩++Cw z)):=by
 obtain ⟨⟨d1,d2⟩,d3⟩:=mq z hz;have e:(⟨#[32]⟩++Cw z:ByteArray).size=1+(Cw z).size:=by rw [VX];rfl
 refine ⟨by rw [VX,e];have:=h.1;omega,by rw [VX,e];have:=h.2.1;omega,?_⟩;rw [Yd,Yd,Vx,Vx];intro hm
 rcases Y4.1 hm with hm | hm
 · exact h.2.2 hm
 rcases Y4.1 hm with hm | hm
 · exact absurd hm (by decide)
 exact d3 hm
theorem Ke.mono {lo' hi':Nat} {b:ByteArray} (h:Ke lo hi b) (h1:lo'≤lo) (h2:hi≤hi'):Ke lo' hi' b:=⟨ZJ h1 h.1,ZJ h.2.1 h2,h.2.2⟩
theorem QK (h:Ke 5 8 s) (hz:z<200):Ke 5 20 (tl s [z]):=by rw [Cv];exact (h.say hz).mono (by omega) (by omega)
theorem Cs (h:Ke 5 8 s) {y:Nat} (hy:y<200) (hz:z<200):Ke 5 20 (tl s [y,z]):=by rw [mr,Cv];exact ((h.say hy).say hz).mono (by omega) (by omega)
theorem uf:Ke 5 8 wQ:=by unfold Ke;decide
theorem AT:Ke 5 8 wE:=by unfold Ke;decide
theorem ud:Ke 5 8 wF:=by unfold Ke;decide
theorem pv:Ke 5 8 wS:=by unfold Ke;decide
theorem pu:Ke 5 8 wL:=by unfold Ke;decide
theorem jm:Ke 5 8 wU:=by unfold Ke;decide
theorem Hc (S L n k:Nat):Ke 5 20 (VY S L n k):=by
 have ht:VZ L n≤110:=VV _ _;unfold VY
 by_cases h9:Xv n≤L*64
 · rw [Z0 h9]
   by_cases h0:k=0
   · rw [Z0 h0];exact QK uf (by omega)
   rw [Z1 h0]
   by_cases h1:k=1
   · rw [Z0 h1];exact Cs ud (by omega) (by omega)
   rw [Z1 h1]
   by_cases h2:k<112
   · rw [Z0 h2]
     by_cases h3:k - 2<VC L n
     · rw [Z0 h3];exact QK uf (by omega)
     rw [Z1 h3];exact QK AT (by omega)
   rw [Z1 h2]
   by_cases h3:k=112
   · rw [Z0 h3];exact Cs ud (by omega) (by omega)
   rw [Z1 h3]
   by_cases h4:k=113
   · rw [Z0 h4];exact QK pv (by omega)
   rw [Z1 h4]
   by_cases h5:k=114
   · rw [Z0 h5]
     by_cases h6:47+n≤S*64
     · rw [Z0 h6];exact QK pu (by omega)
     rw [Z1 h6];exact jm.mono (by omega) (by omega)
   rw [Z1 h5]
   by_cases h6:47+n≤S*64∨110<VC L n
   · rw [Z0 h6];exact QK uf (by omega)
   rw [Z1 h6];exact QK AT (by omega)
 rw [Z1 h9]
 by_cases h0:k=0
 · rw [Z0 h0];exact QK AT (by omega)
 rw [Z1 h0]
 by_cases h1:k=1∨k=112
 · rw [Z0 h1];exact Cs ud (by omega) (by omega)
 rw [Z1 h1]
 by_cases h4:k=113
 · rw [Z0 h4];exact QK pv (by omega)
 rw [Z1 h4]
 by_cases h5:k=114
 · rw [Z0 h5];exact QK pu (by omega)
 rw [Z1 h5];exact QK AT (by omega)
def Mo (S L n k:Nat):List ByteArray:=(List.range k).map (VY S L n)
theorem Hb (S L n k:Nat):(Mo S L n k).length=k:=by simp [Mo]
theorem tZ (S L n k:Nat):Mo S L n (k+1)=Mo S L n k++[VY S L n k]:=by unfold Mo;rw [SD,Y6];rfl
theorem mn (S L n k i:Nat) (h:i<k):(Mo S L n k).getD i ⟨#[]⟩=VY S L n i:=by
 unfold Mo
 simp [List.getD,h]
theorem Eo (S L n k:Nat):XI (Mo S L n (k+1))=(XI (Mo S L n k)++U0 (VY S L n k))++U0 ⟨#[10]⟩:=by
 rw [tZ,Mq,P0]
 simp [XI,U0]
theorem ml (S L n k:Nat):∀s ∈ Mo S L n k,(10:UInt8) ∉ s.data.toList:=by
 intro s hs;obtain ⟨i,-,rfl⟩:=List.mem_map.1 hs;exact (Hc S L n i).2.2
theorem Kd (S L n:Nat):∀k,k*6≤(XI (Mo S L n k)).length∧(XI (Mo S L n k)).length≤k*21
 | 0=>by simp [Mo,XI]
 | k+1=>by
  obtain ⟨h1,h2⟩:=Kd S L n k;obtain ⟨h3,h4,-⟩:=Hc S L n k;rw [Eo,ZZ,ZZ,Wq,Wq];have:(⟨#[10]⟩:ByteArray).size=1:=rfl;omega
theorem AS (n:Nat) (hn:n≤64):∀s ∈ Qt n,(10:UInt8) ∉ s.data.toList∧s.size≤80:=by
 have hx:(10:UInt8) ∉ xL n:=fun h=>absurd (List.mem_replicate.1 h).2 (by decide)
 have h1:(10:UInt8) ∉ (Et n).data.toList∧(Et n).size≤80:=by
  refine ⟨?_,by simp [Et,UG,ByteArray.size,xL];omega⟩;unfold Et;rw [Qu]
  simp [hx]
 have h2:(10:UInt8) ∉ (Hf n).data.toList∧(Hf n).size≤80:=by
  refine ⟨?_,by simp [Hf,UG,ByteArray.size,xL];omega⟩;unfold Hf;rw [Qu]
  simp [hx]
 have h3:(10:UInt8) ∉ NW.data.toList∧NW.size≤80:=by decide
 have h4:(10:UInt8) ∉ DW.data.toList∧DW.size≤80:=by decide
 have h5:(10:UInt8) ∉ AY.data.toList∧AY.size≤80:=by decide
 intro s hs;unfold Qt at hs
 rcases Y4.1 hs with hs | hs
 · rcases Y4.1 hs with hs | hs
   · simp only [Y9,SW,Sh] at hs
     rcases hs with rfl | rfl
     · exact h1
     exact h3
   rw [(List.mem_replicate.1 hs).2];exact h2
 simp only [Y9,SW,Sh] at hs
 rcases hs with rfl | rfl | rfl | rfl
 · exact h3
 · exact h4
 · exact h5
 exact h2
theorem Ha:∀(ls:List ByteArray),(∀s ∈ ls,s.size≤80)→(XI ls).length≤81*ls.length
 | [],_=>by simp [XI]
 | s :: ls,h=>by
  rw [P0,ZZ,Wq,ZE,ZE];have:=Ha ls (fun t ht=>h t (Zp _ ht));have:=h s (YO ..);omega
theorem D8.frozen (h:D8 W b r vt v1 v2) (j:Nat):W.frozen? ⟨b,j,none⟩=false:=by
 unfold D8 at h
 simp [World.frozen?,h]
def Qf (w:World) (b:Nat) (r:By) (vt v1 v2:Value):World:=((((((((((((w).setCell ⟨b,0,none⟩ (.int .i64 r.code)).setCell ⟨b,1,none⟩ (.int .i64 r.sp.g)).setCell ⟨b,2,none⟩ (.int .i64 r.sp.b)).setCell ⟨b,3,none⟩ (.int .i64 r.sp.s)).setCell ⟨b,4,none⟩ (.int .i64 r.sp.l)).setCell ⟨b,5,none⟩ (.int .i64 r.sp.c)).setCell ⟨b,6,none⟩ (.int .i64 r.zx)).setCell ⟨b,7,none⟩ (vt)).setCell ⟨b,8,none⟩ (.int .i64 r.used)).setCell ⟨b,9,none⟩ (.int .i64 r.ops)).setCell ⟨b,10,none⟩ (v1)).setCell ⟨b,11,none⟩ (v2)
theorem Uy (h:w.cell? ⟨b,j,none⟩=some u):(w.setCell ⟨b,j,none⟩ v).cell? ⟨b,j,none⟩=some v:=Zk _ _ _ h
theorem ZD (h:w.cell? ⟨b,i,none⟩=some u) (hne:i≠j):(w.setCell ⟨b,j,none⟩ v).cell? ⟨b,i,none⟩=some u:=(ZV _ _ _ _ (by intro e;injection e with e1 e2;first | exact hne e2 | exact hne e2.symm)).trans h
theorem Cq {q:By} {ut u1 u2:Value} (h:D8 w b q ut u1 u2):(Qf w b r vt v1 v2).cell? ⟨b,0,none⟩=some (.int .i64 r.code)∧(Qf w b r vt v1 v2).cell? ⟨b,1,none⟩=some (.int .i64 r.sp.g)∧(Qf w b r vt v1 v2).cell? ⟨b,2,none⟩=some (.int .i64 r.sp.b)∧(Qf w b r vt v1 v2).cell? ⟨b,3,none⟩=some (.int .i64 r.sp.s)∧(Qf w b r vt v1 v2).cell? ⟨b,4,none⟩=some (.int .i64 r.sp.l)∧(Qf w b r vt v1 v2).cell? ⟨b,5,none⟩=some (.int .i64 r.sp.c)∧(Qf w b r vt v1 v2).cell? ⟨b,6,none⟩=some (.int .i64 r.zx)∧(Qf w b r vt v1 v2).cell? ⟨b,7,none⟩=some (vt)∧(Qf w b r vt v1 v2).cell? ⟨b,8,none⟩=some (.int .i64 r.used)∧(Qf w b r vt v1 v2).cell? ⟨b,9,none⟩=some (.int .i64 r.ops)∧(Qf w b r vt v1 v2).cell? ⟨b,10,none⟩=some (v1)∧(Qf w b r vt v1 v2).cell? ⟨b,11,none⟩=some (v2):=by
 obtain ⟨c0,c1,c2,c3,c4,c5,c6,c7,c8,c9,c10,c11⟩:=h.cells;unfold Qf;exact ⟨(ZD (ZD (ZD (ZD (ZD (ZD (ZD (ZD (ZD (ZD (ZD (Uy c0) (by decide)) (by decide)) (by decide)) (by decide)) (by decide)) (by decide)) (by decide)) (by decide)) (by decide)) (by decide)) (by decide)),(ZD (ZD (ZD (ZD (ZD (ZD (ZD (ZD (ZD (ZD (Uy (ZD c1 (by decide))) (by decide)) (by decide)) (by decide)) (by decide)) (by decide)) (by decide)) (by decide)) (by decide)) (by decide)) (by decide)),(ZD (ZD (ZD (ZD (ZD (ZD (ZD (ZD (ZD (Uy (ZD (ZD c2 (by decide)) (by decide))) (by decide)) (by decide)) (by decide)) (by decide)) (by decide)) (by decide)) (by decide)) (by decide)) (by decide)),(ZD (ZD (ZD (ZD (ZD (ZD (ZD (ZD (Uy (ZD (ZD (ZD c3 (by decide)) (by decide)) (by decide))) (by decide)) (by decide)) (by decide)) (by decide)) (by decide)) (by decide)) (by decide)) (by decide)),(ZD (ZD (ZD (ZD (ZD (ZD (ZD (Uy (ZD (ZD (ZD (ZD c4 (by decide)) (by decide)) (by decide)) (by decide))) (by decide)) (by decide)) (by decide)) (by decide)) (by decide)) (by decide)) (by decide)),(ZD (ZD (ZD (ZD (ZD (ZD (Uy (ZD (ZD (ZD (ZD (ZD c5 (by decide)) (by decide)) (by decide)) (by decide)) (by decide))) (by decide)) (by decide)) (by decide)) (by decide)) (by decide)) (by decide)),(ZD (ZD (ZD (ZD (ZD (Uy (ZD (ZD (ZD (ZD (ZD (ZD c6 (by decide)) (by decide)) (by decide)) (by decide)) (by decide)) (by decide))) (by decide)) (by decide)) (by decide)) (by decide)) (by decide)),(ZD (ZD (ZD (ZD (Uy (ZD (ZD (ZD (ZD (ZD (ZD (ZD c7 (by decide)) (by decide)) (by decide)) (by decide)) (by decide)) (by decide)) (by decide))) (by decide)) (by decide)) (by decide)) (by decide)),(ZD (ZD (ZD (Uy (ZD (ZD (ZD (ZD (ZD (ZD (ZD (ZD c8 (by decide)) (by decide)) (by decide)) (by decide)) (by decide)) (by decide)) (by decide)) (by decide))) (by decide)) (by decide)) (by decide)),(ZD (ZD (Uy (ZD (ZD (ZD (ZD (ZD (ZD (ZD (ZD (ZD c9 (by decide)) (by decide)) (by decide)) (by decide)) (by decide)) (by decide)) (by decide)) (by decide)) (by decide))) (by decide)) (by decide)),(ZD (Uy (ZD (ZD (ZD (ZD (ZD (ZD (ZD (ZD (ZD (ZD c10 (by decide)) (by decide)) (by decide)) (by decide)) (by decide)) (by decide)) (by decide)) (by decide)) (by decide)) (by decide))) (by decide)),(Uy (ZD (ZD (ZD (ZD (ZD (ZD (ZD (ZD (ZD (ZD (ZD c11 (by decide)) (by decide)) (by decide)) (by decide)) (by decide)) (by decide)) (by decide)) (by decide)) (by decide)) (by decide)) (by decide)))⟩
structure yx (w:World) (v1 v2:Value) (S L:Int) (W:World):Prop where
 WC:Zi w W
 lt:w.heap.size+3≤W.heap.size
 d0:W.cell? ⟨w.heap.size,0,none⟩=some v1
 d1:W.cell? ⟨w.heap.size,1,none⟩=some v2
 c0:W.cell? ⟨w.heap.size+1,0,none⟩=some (.int .i64 S)
 c1:W.cell? ⟨w.heap.size+1,1,none⟩=some (.int .i64 L)
 rx:D8 W (w.heap.size+1+1) (om 0) (.slice none 0 0) (.slice none 0 0) (.slice none 0 0)
 fd:∀j,W.frozen? ⟨w.heap.size,j,none⟩=false
 fc:∀j,W.frozen? ⟨w.heap.size+1,j,none⟩=false
theorem yx.Xe {m:Nat} (h:yx w v1 v2 S L W) (hb:Below m W W') (hm:w.heap.size+3≤m):yx w v1 v2 S L W':=by
 have hl:=h.lt;have q:∀b j,b<w.heap.size+3→W'.cell? ⟨b,j,none⟩=W.cell? ⟨b,j,none⟩:=fun b j h9=>hb.cell (p:=⟨b,j,none⟩) (show b<_ by omega)
 exact ⟨h.WC.trans (hb.mono (by omega)),ZJ hl hb.size,(q _ _ (by omega)).trans h.d0,(q _ _ (by omega)).trans h.d1,(q _ _ (by omega)).trans h.c0,(q _ _ (by omega)).trans h.c1,(hb.block _ (by omega)).trans h.rx,fun j=>(hb.frozen (p:=⟨w.heap.size,j,none⟩) (show w.heap.size<_ by omega)).trans (h.fd j),fun j=>(hb.frozen (p:=⟨w.heap.size+1,j,none⟩) (show w.heap.size+1<_ by omega)).trans (h.fc j)⟩
theorem yx.below (h:yx w v1 v2 S L W) (hb:Zi W W'):yx w v1 v2 S L W':=h.Xe hb h.lt
theorem yx.new (w:World) (v1 v2:Value) (S L:Int):yx w v1 v2 S L (((w.alloc (.cells #[v1,v2] 52)).alloc (.cells #[.int .i64 S,.int .i64 L] 25)).alloc (.cells #[.int .i64 0,.int .i64 0,.int .i64 0,.int .i64 0,.int .i64 0,.int .i64 0,.int .i64 0,.slice none 0 0,.int .i64 0,.int .i64 0,.slice none 0 0,.slice none 0 0] 65)):=by
 have b:Zi w (((w.alloc (.cells #[v1,v2] 52)).alloc (.cells #[.int .i64 S,.int .i64 L] 25)).alloc (.cells #[.int .i64 0,.int .i64 0,.int .i64 0,.int .i64 0,.int .i64 0,.int .i64 0,.int .i64 0,.slice none 0 0,.int .i64 0,.int .i64 0,.slice none 0 0,.slice none 0 0] 65)):=((Yy.alloc YR _).alloc (by simp) _).alloc (by simp;omega) _;refine ⟨b,by simp,by go_simp,by go_simp,by go_simp,by go_simp,?_,fun j=>by go_simp,fun j=>by go_simp⟩;have h9:=D8.new ((w.alloc (.cells #[v1,v2] 52)).alloc (.cells #[.int .i64 S,.int .i64 L] 25)) (om 0) (.slice none 0 0) (.slice none 0 0) (.slice none 0 0)
 simp only [YF] at h9
 exact h9
theorem Cp {g:Nat} (r:By) (vt v1 v2:Value) (h:g≠B):(Qf W B r vt v1 v2).heap[g]?=W.heap[g]?:=by
 unfold Qf
 iterate 12 refine (Below.heap_setCell _ _ _ g h).trans ?_
 rfl
structure Kp (a b:Nat) (W W':World):Prop where
 os:W'.os=W.os
 tape:W'.tape=W.tape
 output:W'.output=W.output
 size:W.heap.size≤W'.heap.size
 block:∀q,q<W.heap.size→q≠a→q≠b→W'.heap[q]?=W.heap[q]?
structure eV (YN:List Int) (ps:List (Int × List Int)) (S:Int) (sn N:Nat) (lim:Int):Prop where
 fit:KN S (sn:Int) YN.length ps=true
 n:ps.length≤1936
 eB:Sn (MT YN ps)
 len:(MT YN ps).length=N
 n9:N≤1048576
 lim:-9223372036854775808≤lim∧lim≤9223372036854775807
theorem eV.facts {YN:List Int} {ps:List (Int × List Int)} {sn N:Nat} {lim:Int} (h:eV YN ps S sn N lim):Wp S (sn:Int)=true∧2+2*(S+(sn:Int))≤((N / 64:Nat):Int)∧128≤N∧(1≤S∧S≤64)∧1≤sn∧sn≤64:=by
 obtain ⟨hc,hv,hd⟩:=(RK S sn YN.length ps).1 h.fit;obtain ⟨⟨hS1,hS2⟩,hL1,hL2⟩:=(Xk S sn).1 hc;have hl:=h.len;rw [KM hv] at hl;rw [hl] at hd;exact ⟨hc,by omega,by omega,⟨hS1,hS2⟩,by omega,by omega⟩
def tY (ops:Array Oper):Bool:=ops.all fun o=>match o.op with | .defer _=>false | _=>true
theorem Co (h:tY ops=true) {o:Oper} (hi:ops[i]?=some o):∀c,o.op≠.defer c:=by
 intro c hc;unfold tY at h;obtain ⟨hlt,rfl⟩:=Z3.1 hi;have h2:=Array.all_eq_true.1 h i hlt;rw [hc] at h2
 cases h2
theorem En {F:Fence} {P:Program} {md:Region.Mode} {Q:Exit→Act→World→Prop} (l:Nat) (hro:F.round=none) (hd:tY ops=true) :
    ∀(fuel:Nat) (listed:Array Bool) (a:Act) (w:World),wpAnyIn F n P md ops Q fuel listed a w→wpAnyIn (F.inRound l) n P md ops Q fuel listed a w:=by
 intro fuel
 induction fuel with
 | zero=>intro listed a w h;exact h
 | succ fuel ih =>
  intro listed a w h;refine ⟨h.1,fun i hi=>?_⟩;have h2:=wpOpIn_mono (fun a w h=>ih _ a w h) (h.2 i hi);unfold wpOpIn at h2 ⊢
  cases ho:ops[i]? with
  | none=>rw [ho] at h2;exact h2
  | some o =>
   rw [ho] at h2;dsimp only at h2 ⊢
   split
   · rename_i hw
     rw [Z0 hw] at h2;refine ⟨h2.1,?_⟩;have h3:=h2.2;rw [hro,Oper.semAt_none] at h3;rw [Fence.inRound_round,Yv _ _ _ (Co hd ho)];exact h3
   rename_i hw;rw [Z1 hw] at h2;exact h2
attribute [local go_sem] Yv
attribute [local go_sem] Yv
theorem El (w:World) (blk o n cap:Nat) (h0:w.cell? ⟨blk,o,none⟩=some (.int .u8 0)) (hn:2≤n) (hc:n≤cap) (hc2:cap≤maxLen) :
    Calls Tryz.prog 207 #[.slice (some ⟨blk,o,none⟩) n cap] w (Wj w (.tuple #[.agg #[.slice none 0 0],.int .i64 0])):=by
 have h1:=ZG w _ h0;unfold maxLen at hc2;have e1:¬((n:Int)<2):=by omega
 have e2:(0:Int)<(n:Int):=by omega
 go_enter Tryz.func207,Tryz.ntmps207
 go_wp2;refine ZW (v:=.tuple #[.agg #[.slice none 0 0],.int .i64 0]) (by simp [results,Tryz.results207,go_sem]) rfl ⟨rfl,?_⟩;exact Yy.alloc YR _
structure qA (w:World) (vt:Value) (Bo blk o n cap:Nat) (v:Value) (ns:List Nd) (W:World):Prop where
 head:Bz w vt W
 out:MW W Bo v (.int .i64 0) (.int .i64 0) (.int .i64 0)
 own:XU 147 W (w.heap.size+2) v ns
 ne:v.ownBlock≠some Bo
 M:Boxed W (Bo+2) 22 (.slice (some ⟨blk,o,none⟩) n cap)
 size:Bo+3≤W.heap.size
 low:w.heap.size+2≤Bo
theorem qA.later (h:qA w vt Bo blk o n cap v ns W) (hb:Zi W W'):qA w vt Bo blk o n cap v ns W' :=
 ⟨h.head.below hb,h.out.below hb,h.own.below hb,h.ne,(hb.block _ (by have:=h.size;omega)).trans h.M,ZJ h.size hb.size,h.low⟩
theorem qA.Vz {row:Option Nat} (h:qA w vt Bo blk o n cap v ns W) (hg:W.grownBy W' row) (hr:∀r,row=some r→Bo+3≤r∧∃o:Obj,W.heap[r]?=some o∧o.isCells=false):qA w vt Bo blk o n cap v ns W':=by
 have hz:=h.size;have hl:=h.low;refine ⟨h.head.other hg (fun r e=>by have:=(hr r e).1;omega),h.out.other hg (fun e=>by have:=(hr _ e.symm).1;omega),VD h.own hg (fun r e=>(hr r e).2),h.ne,(hg.block _ (by omega) (fun e=>by have:=(hr _ e.symm).1;omega)).trans h.M,ZJ hz hg.size,hl⟩
theorem G0 (nn:Nat) (hn1:1≤nn) (l Ba blk o n cap:Nat) (P:World→Prop) (hP:∀X Y,Zi X Y→P X→P Y) (W:World) (hW:P W) (hB:W.cell? ⟨Ba,0,none⟩=some (.slice (some ⟨blk,o,none⟩) n cap)) (h0:W.cell? ⟨blk,o,none⟩=some (.int .u8 0)) (hn:2≤n) (hc:n≤cap) (hc2:cap≤maxLen) :
    CallsIn Fence.wide nn Tryz.prog 206 #[.func (.yield l) #[] #[],.pointer (some ⟨Ba,0,none⟩)] W fun e W'=>(∃v,e=.returned v)∧P W':=by
 have HP:=ZU hP;have H0:=ZU hW;have HN:Hid (2≤n∧n≤cap∧cap≤maxLen):=⟨hn,hc,hc2⟩;have hcp:¬cap=0:=by omega
 have HZ:=ZU h0;clear hP hW h0;unfold maxLen at hc2;refine Xb Tryz.func206 rfl trivial ?_ rfl
 simp only [Tryz.ntmps206,ZI,ZE,Y7,Nat.reduceAdd,Nat.reduceSub,YV,YU,YI,YT,Zd,Y3]
 gi_wp2
 gi_loopw [3] (fun i wr=>i=.int .i64 0∧wr=W) (fun _ _=>0)
 case atStart=>exact ⟨rfl,rfl⟩
 case round =>
  obtain ⟨rfl,rfl⟩:=hrel
  gi_wp2_with fail
  refine ⟨trivial,?_⟩;refine (YK.2 (El wr blk o n cap HZ.out HN.out.1 HN.out.2.1 HN.out.2.2)).mono ?_;rintro e w2 ⟨rfl,b2⟩;have H2:=ZU (HP.out _ _ ((b2.alloc b2.size (.cells #[.slice none 0 0] 263))) H0.out);clear b2;gi_wp2;refine ZW (Wu rfl _ _ _) rfl ?_;exact ⟨⟨_,rfl⟩,H2.out⟩
theorem Ek (w:World) (ta:Option Addr) (tc:Nat) (ns:List Nd) (blk o n cap:Nat) (ht:SK w (.slice ta ns.length tc) ns) (hok:WE ns=true) (h0:w.cell? ⟨blk,o,none⟩=some (.int .u8 0)) (hn1:2≤n) (hc:n≤cap) (hc2:cap≤maxLen) (hn:n≤8192) :
    Calls Tryz.prog 134 #[.agg #[.slice ta ns.length tc],.int .i64 0,.slice (some ⟨blk,o,none⟩) n cap] w fun e w'=>∃va vc,e=.returned (.agg #[.slice va ns.length vc,.int .i64 0,.int .i64 0,.int .i64 0])∧XU 147 w' w.heap.size (.slice va ns.length vc) ns∧Zi w w':=by
 have HN:=ZU ht;have PX:=ZU hok;have H0:=ZU h0;have HC:Hid (2≤n∧n≤cap∧cap≤maxLen):=⟨hn1,hc,hc2⟩;have hnl:ns.length≤1000:=by unfold WE at hok;simp only [ZA,Zj] at hok;exact hok.1
 have HG:=ZU (Ao hok);have hn2:¬(8192:Int)<(n:Int):=by omega
 have Zl:decide ((8192:Int)<(n:Int))=false:=by simpa using hn2
 have hb0:=ZG w _ h0;clear ht hok h0 hc2;refine (YK (n:=6)).1 ?_;refine callsIn_of_wp_marks Tryz.func134 rfl trivial ?_ rfl
 simp only [Tryz.ntmps134,ZI,ZE,Y7,Nat.reduceAdd,Nat.reduceSub,YV,YU,YI,YT,Zd,Y3]
 gi_wp2_with fail
 have F0:Hid (Bz w (.slice ta ns.length tc) ((w.alloc (.cells #[.slice ta ns.length tc] 63)).alloc (.cells #[.slice none 0 0,.int .i64 0,.int .i64 0,.int .i64 0] 99))):=Bz.new _ _ _ _;generalize (w.alloc _).alloc _=w0 at *;refine ⟨trivial,?_⟩;refine (YK.2 (UL _ _ ns (HN.out.below F0.out.1) (rW HG.out))).mono ?_;rintro e w1 ⟨rfl,b1⟩;rw [PX.out];have F1:=ZU (F0.out.below b1);clear b1 F0
 gi_wp2_with fail
 refine ⟨trivial,?_⟩;refine (YK.2 (If _ 0)).mono ?_;rintro e wq ⟨rfl,hwq⟩;rw [show decide ((0:Int)≤0∧(0:Int)≤2147483647)=true by decide,hwq];clear hwq;obtain ⟨-,-,x0,-⟩:=F1.out
 gi_wp2_with fail
 clear x0;refine ⟨trivial,?_⟩;refine (YK.2 (Du _ ta tc ns (HN.out.below F1.out.1) hnl)).mono ?_;rintro e w2 ⟨v2,rfl,o2,b2⟩;obtain ⟨na,nc,rfl⟩:=XU.QU o2;have F2:=ZU (F1.out.below b2);have O2:=ZU o2;have s1:=F1.out.2.1;clear o2 b2 F1
 gi_wp2_with fail
 refine ⟨trivial,?_⟩;refine (Ar Fence.wide _ trivial rfl _ _ _ _).mono ?_;rintro e w5 ⟨rfl,NG⟩
 gi_wp2_with fail
 have s2:=F2.out.2.1;have DF:Hid (qA w (.slice ta ns.length tc) w2.heap.size blk o n cap (.slice na ns.length nc) ns w5):=by
  rw [NG];have bA:Zi w2 (w2.alloc (.cells #[.slice na ns.length nc,.int .i64 0,.int .i64 0,.int .i64 0] 99)):=Yy.alloc YR _;have hO:=O2.out.below bA;have hF:=F2.out.below bA;have hX:=MW.new w2 (.slice na ns.length nc) (.int .i64 0) (.int .i64 0) (.int .i64 0) 99;have sA:(w2.alloc (.cells #[.slice na ns.length nc,.int .i64 0,.int .i64 0,.int .i64 0] 99)).heap.size=w2.heap.size+1:=by simp
  have hlt:=fun q hq=>ZT O2.out q hq
  generalize w2.alloc _=wA at *;have bB:Zi wA (wA.alloc (.cells #[.int .i64 0] 2)):=Yy.alloc YR _;have sB:(wA.alloc (.cells #[.int .i64 0] 2)).heap.size=w2.heap.size+2:=by simp [sA]
  generalize wA.alloc _=wB at *;have bC:Zi wB (wB.alloc (.cells #[.slice (some ⟨blk,o,none⟩) n cap] 22)):=Yy.alloc YR _;refine ⟨(hF.below bB).below bC,(hX.below bB).below bC,((hO.below bB).below bC).mono (by omega),fun e=>by have:=hlt _ e;omega,?_,by simp [sB],s2⟩;have:=Boxed.new wB 22 (.slice (some ⟨blk,o,none⟩) n cap);rw [sB] at this;exact this
 have s5:w5.heap.size=w2.heap.size+3:=by rw [NG];simp
 rw [←NG];clear NG O2 F2;refine PE (F:=Fence.wide) (n:=6) rfl (by omega) (gf:=206) (lb:=#[.pointer (some ⟨w2.heap.size+2,0,none⟩)]) rfl trivial (enters_of Tryz.func206 (by kernel_rfl) rfl)
  (fun (_:Unit) W=>qA w (.slice ta ns.length tc) w2.heap.size blk o n cap (.slice na ns.length nc) ns W) (fun _ _ _=>False) (fun s _=>s) (fun _ _=>True) (fun _=>True) ()
  (fun s X Y row hs hg hr=>hs.Vz hg (fun r e=>by have:=hr r e;rw [s5] at this;exact this)) (fun _ _=>trivial) (fun _ _ _ _ _ _ _ _=>trivial)
  (fun s vs W hp=>hp.elim) DF.out (fun _ _ _ _=>False) (fun _ _ _ _ _ _ _ h=>h.elim) (fun _ _ _ _ _ _ h=>h.elim) (fun _ _ _ _ _ h=>h.elim) ?call ?done
 case call =>
  intro Bk W1 sy hY hb1 _ hs0 J;have hbw:=hs0.head.1;refine (G0 _ (by omega) _ _ blk o n cap (fun W=>qA w (.slice ta ns.length tc) w2.heap.size blk o n cap (.slice na ns.length nc) ns W∧Bk W) (fun X Y hb h=>⟨h.1.later hb,sy X Y (Vf hb) h.2⟩) W1 ⟨hs0,J⟩ hs0.M.cell ((hbw.cell (p:=⟨blk,o,none⟩) hb0).trans H0.out) HC.out.1 HC.out.2.1 HC.out.2.2).mono ?_;rintro e W' ⟨h1,h2,h3⟩;exact ⟨h1,(),trivial,h2,h3⟩
 case done =>
  rintro D s W hD hfin hS hK;obtain ⟨hH,hX,hO,hlow,hsz⟩:=(⟨hS.head,hS.out,hS.own,hS.low,hS.size⟩:_∧_∧_∧_∧_);clear hS hfin;have HO:=ZU hO;have HH:=ZU hH;have Z6:=ZU hK;have hB:=hH.1;obtain ⟨zo,⟨e0,e1,e2,e3⟩,-⟩:=hX;obtain ⟨zr,⟨d0,d1,d2,d3⟩,f0,f1,f2,f3⟩:=hH.2.2.2;clear hO hH hK;gi_wp2;have hK2:((((W.setCell ⟨w.heap.size+1,0,none⟩ (.slice na ns.length nc)).setCell ⟨w.heap.size+1,1,none⟩ (.int .i64 0)).setCell ⟨w.heap.size+1,2,none⟩ (.int .i64 0)).setCell ⟨w.heap.size+1,3,none⟩ (.int .i64 0)).heap[D]?=some (.deferred (some [])):=(KeepsOthers.setCell _ _ _).same D _ ((KeepsOthers.setCell _ _ _).same D _ ((KeepsOthers.setCell _ _ _).same D _ ((KeepsOthers.setCell _ _ _).same D _ Z6.out rfl) rfl) rfl) rfl;refine ⟨by simp,.inl ⟨_,_,rfl,run_takeDeferred hK2,?_⟩⟩;have XB:MW ((((W.setCell ⟨w.heap.size+1,0,none⟩ (.slice na ns.length nc)).setCell ⟨w.heap.size+1,1,none⟩ (.int .i64 0)).setCell ⟨w.heap.size+1,2,none⟩ (.int .i64 0)).setCell ⟨w.heap.size+1,3,none⟩ (.int .i64 0)) (w.heap.size+1) (.slice na ns.length nc) (.int .i64 0) (.int .i64 0) (.int .i64 0):=(((HH.out.2.2.2.set0 _).set1 _).set2 _).gW _;have OX:XU 147 ((((W.setCell ⟨w.heap.size+1,0,none⟩ (.slice na ns.length nc)).setCell ⟨w.heap.size+1,1,none⟩ (.int .i64 0)).setCell ⟨w.heap.size+1,2,none⟩ (.int .i64 0)).setCell ⟨w.heap.size+1,3,none⟩ (.int .i64 0)) (w.heap.size+2) (.slice na ns.length nc) ns:=(((HO.out.VA (show w.heap.size+1<w.heap.size+2 by omega) _).VA (show w.heap.size+1<w.heap.size+2 by omega) _).VA (show w.heap.size+1<w.heap.size+2 by omega) _).VA (show w.heap.size+1<w.heap.size+2 by omega) _;have BX:Zi w ((((W.setCell ⟨w.heap.size+1,0,none⟩ (.slice na ns.length nc)).setCell ⟨w.heap.size+1,1,none⟩ (.int .i64 0)).setCell ⟨w.heap.size+1,2,none⟩ (.int .i64 0)).setCell ⟨w.heap.size+1,3,none⟩ (.int .i64 0)):=(((hB.setCell (by simp) _).setCell (by simp) _).setCell (by simp) _).setCell (by simp) _;have SX:((((W.setCell ⟨w.heap.size+1,0,none⟩ (.slice na ns.length nc)).setCell ⟨w.heap.size+1,1,none⟩ (.int .i64 0)).setCell ⟨w.heap.size+1,2,none⟩ (.int .i64 0)).setCell ⟨w.heap.size+1,3,none⟩ (.int .i64 0)).heap.size=W.heap.size:=by simp
  generalize ((((W.setCell _ _).setCell _ _).setCell _ _).setCell _ _)=X at *;have GX:=grownBy_putObj' X D (.deferred none);have Y8:w.heap.size+1<D:=by omega
  have YB:=XB.other GX (by simp;omega);have OF:=OX.Vz GX (fun r e=>by injection e with e;subst e;exact ⟨_,hK2,rfl⟩);have BF:=BX.grown GX (by omega) (fun q e=>by injection e with e;omega);generalize X.putObj D (.deferred none)=Z at *;obtain ⟨-,⟨y0,y1,y2,y3⟩,-⟩:=YB;refine ⟨.agg #[.slice na ns.length nc,.int .i64 0,.int .i64 0,.int .i64 0],?_,na,nc,rfl,OF.mono (by omega),BF⟩
  simp [results,Tryz.results134,go_sem,y0,y1,y2,y3]
def Kc (w:World) (ms:List Nd) (z2:Int) (z3:Nat) (z4:Int) (e:Ending) (w':World):Prop :=
 ∃va vc,e=.returned (.agg #[.slice va ms.length vc,.int .i64 z2,.int .i64 ((z3:Nat):Int),.int .i64 z4])∧XU 147 w' w.heap.size (.slice va ms.length vc) ms∧Zi w w'
theorem GZ (w:World) (b g N C:Nat) (S L start xb:Int) (ta:Option Addr) (tc:Nat) (ns:List Nd) (cont:List Int) (ms:List Nd) (z2:Int) (z3:Nat) (z4:Int) (H:∀W,Zi w W→Calls Tryz.prog 134 #[.agg #[.slice ta ns.length tc],.int .i64 start,.slice (some ⟨g,(Ry S L xb true).toNat*64,none⟩) (L.toNat*64) (C - (Ry S L xb true).toNat*64)] W (Kc W ms z2 z3 z4)) (c0:w.cell? ⟨b,0,none⟩=some (.int .i64 S)) (c1:w.cell? ⟨b,1,none⟩=some (.int .i64 L)) (c6:w.cell? ⟨b,6,none⟩=some (.slice (some ⟨g,0,none⟩) N C)) (hlt:b<w.heap.size) (hr:Rd .u8 w (.slice (some ⟨g,0,none⟩) N C) cont) (hby:Sn cont) (hN:cont.length=N) (Bw:N≤1048576) (hc:Wp S L=true) (wK:2+2*(S+L)≤((N / 64:Nat):Int)) (hb:0≤xb∧xb≤1) :
    Calls Tryz.prog 86 #[.pointer (some ⟨b,0,none⟩),.agg #[.slice ta ns.length tc],.int .i64 start,.int .i64 xb] w (Kc w ms z2 z3 z4):=by
 obtain ⟨⟨hS1,hS2⟩,hL1,hL2⟩:=(Xk S L).1 hc;obtain ⟨sn,rfl⟩:∃sn:Nat,L=(sn:Int):=⟨L.toNat,by omega⟩;rw [Ze] at H;obtain ⟨f,hf⟩:∃f:Nat,Ry S (sn:Int) xb true=(f:Int):=⟨(Ry S (sn:Int) xb true).toNat,by
  have hk:xb=0∨xb=1:=by omega
  unfold Ry
  rcases hk with rfl | rfl <;> simp <;> omega⟩
 have kB:(f+sn)*64≤N:=by
  have hk:xb=0∨xb=1:=by omega
  unfold Ry at hf;have h2:N / 64*64≤N:=Nat.div_mul_le_self _ _
  rcases hk with rfl | rfl <;> simp at hf <;> omega
 have lM:N≤C:=by
  obtain ⟨a8,c8,h8,h7,h6⟩:=hr.len
  simp only [ZC] at h8
  obtain ⟨-,h5,rfl⟩:=h8;omega
 rw [hf,Ze] at H;have hal:(Me cont f sn).length=sn*64:=Oe _ _ _ (by omega);have S0:Hid (tC w (.slice ta ns.length tc) ((w.alloc (.cells #[.slice ta ns.length tc] 63)).alloc (.cells #[.slice none 0 0,.int .i64 0,.int .i64 0,.int .i64 0] 99))):=(tC.new _ _).1;have R0:Hid (St ((w.alloc (.cells #[.slice ta ns.length tc] 63)).alloc (.cells #[.slice none 0 0,.int .i64 0,.int .i64 0,.int .i64 0] 99)) (w.heap.size+1) [.slice none 0 0,.int .i64 0,.int .i64 0,.int .i64 0]):=(tC.new _ _).2;have tD:Hid (∀W,Calls Tryz.prog 79 #[.agg #[.int .i64 S,.int .i64 (sn:Int)],.int .i64 xb] W (Wj W (.agg #[.int .i64 (f:Int),.int .i64 (sn:Int)]))):=by
  intro W;have h9:=RI W S (sn:Int) xb hc hb;rw [hf,show Jg S (sn:Int) true=(sn:Int) from rfl] at h9;exact h9
 have yI:Hid (∀W,Calls Tryz.prog 50 #[.agg #[.int .i64 (f:Int),.int .i64 (sn:Int)],.slice (some ⟨g,0,none⟩) N C] W (Wj W (.slice (some ⟨g,f*64,none⟩) (Me cont f sn).length (C - f*64)))):=by
  intro W;rw [hal];exact QR W g N C f sn kB (by omega) lM Bw
 have Z':Hid (∀W,Zi w W→Calls Tryz.prog 134 #[.agg #[.slice ta ns.length tc],.int .i64 start,.slice (some ⟨g,f*64,none⟩) (Me cont f sn).length (C - f*64)] W (Kc W ms z2 z3 z4)):=fun W hW=>by
  rw [hal];exact H W hW
 have SR:Hid (w.cell? ⟨b,0,none⟩=some (.int .i64 S)∧w.cell? ⟨b,1,none⟩=some (.int .i64 (sn:Int))∧w.cell? ⟨b,6,none⟩=some (.slice (some ⟨g,0,none⟩) N C)):=⟨c0,c1,c6⟩;clear hr c0 c1 c6 hc hf hby H hal;generalize Me cont f sn=IM at *;generalize IM.length=il at *;generalize C - f*64=c9 at *;generalize f*64=fo at *;clear kB lM wK hN Bw
 go_enter Tryz.func86,Tryz.ntmps86
 go_wp2_with fail
 generalize (w.alloc _).alloc _=w0 at *;have Sd:=ZU (S0.out.below (below_drewN' w0 1));have Z8:=ZU (R0.out.below (below_drewN' w0 1));refine ZX (S:=tC w (.slice ta ns.length tc)) (by kernel_rfl) (Sd.out) (fun Z9=>?_);refine Zf (.agg #[.slice ta ns.length tc]) (by kernel_rfl) (fun _=>id) Z9 ?_ ?_
 · intro w9 ZQ;have k0:=(ZQ.WC.cell (p:=⟨b,0,none⟩) hlt).trans SR.out.1;have k1:=(ZQ.WC.cell (p:=⟨b,1,none⟩) hlt).trans SR.out.2.1;have k6:=(ZQ.WC.cell (p:=⟨b,6,none⟩) hlt).trans SR.out.2.2;have x0:=ZQ.sx.cl 0 _ rfl;clear ZQ;go_simp
 iterate 4 (refine Zf ?_ (by kernel_rfl) (fun _=>id) Z9 ?_ ?_;rotate_left;· intro w9 ZQ;have k0:=(ZQ.WC.cell (p:=⟨b,0,none⟩) hlt).trans SR.out.1;have k1:=(ZQ.WC.cell (p:=⟨b,1,none⟩) hlt).trans SR.out.2.1;have k6:=(ZQ.WC.cell (p:=⟨b,6,none⟩) hlt).trans SR.out.2.2;have x0:=ZQ.sx.cl 0 _ rfl;clear ZQ;go_simp;try with_reducible rfl)
 refine Zf (.agg #[.int .i64 S,.int .i64 (sn:Int)]) (by kernel_rfl) (fun _=>id) Z9 ?_ ?_
 · intro w9 ZQ;have k0:=(ZQ.WC.cell (p:=⟨b,0,none⟩) hlt).trans SR.out.1;have k1:=(ZQ.WC.cell (p:=⟨b,1,none⟩) hlt).trans SR.out.2.1;have k6:=(ZQ.WC.cell (p:=⟨b,6,none⟩) hlt).trans SR.out.2.2;have x0:=ZQ.sx.cl 0 _ rfl;clear ZQ;go_simp
 refine Zf ?_ (by kernel_rfl) (fun _=>id) Z9 ?_ ?_
 rotate_left
 · intro w9 ZQ;have k0:=(ZQ.WC.cell (p:=⟨b,0,none⟩) hlt).trans SR.out.1;have k1:=(ZQ.WC.cell (p:=⟨b,1,none⟩) hlt).trans SR.out.2.1;have k6:=(ZQ.WC.cell (p:=⟨b,6,none⟩) hlt).trans SR.out.2.2;have x0:=ZQ.sx.cl 0 _ rfl;clear ZQ;go_simp;try with_reducible rfl
 refine Yp 8 ?v8 rfl (by kernel_rfl) (fun _=>id) Z9 ?rR ?_
 case rR =>
  intro w9 ZQ;have k0:=(ZQ.WC.cell (p:=⟨b,0,none⟩) hlt).trans SR.out.1;have k1:=(ZQ.WC.cell (p:=⟨b,1,none⟩) hlt).trans SR.out.2.1;have k6:=(ZQ.WC.cell (p:=⟨b,6,none⟩) hlt).trans SR.out.2.2;have x0:=ZQ.sx.cl 0 _ rfl;clear ZQ;go_simp
  try with_reducible rfl
 refine Yp 9 ?v9 rfl (by kernel_rfl) (fun _=>id) Z9 ?nY ?_
 case nY =>
  intro w9 ZQ;have k0:=(ZQ.WC.cell (p:=⟨b,0,none⟩) hlt).trans SR.out.1;have k1:=(ZQ.WC.cell (p:=⟨b,1,none⟩) hlt).trans SR.out.2.1;have k6:=(ZQ.WC.cell (p:=⟨b,6,none⟩) hlt).trans SR.out.2.2;have x0:=ZQ.sx.cl 0 _ rfl;clear ZQ;go_simp
  try with_reducible rfl
 refine Yp 10 ?v10 rfl (by kernel_rfl) (fun _=>id) Z9 ?Dr ?_
 case Dr =>
  intro w9 ZQ;have k0:=(ZQ.WC.cell (p:=⟨b,0,none⟩) hlt).trans SR.out.1;have k1:=(ZQ.WC.cell (p:=⟨b,1,none⟩) hlt).trans SR.out.2.1;have k6:=(ZQ.WC.cell (p:=⟨b,6,none⟩) hlt).trans SR.out.2.2;have x0:=ZQ.sx.cl 0 _ rfl;clear ZQ;go_simp
  try with_reducible rfl
 refine Yp 11 (.slice (some ⟨g,0,none⟩) N C) rfl (by kernel_rfl) (fun _=>id) Z9 ?KI ?_
 case KI =>
  intro w9 ZQ;have k0:=(ZQ.WC.cell (p:=⟨b,0,none⟩) hlt).trans SR.out.1;have k1:=(ZQ.WC.cell (p:=⟨b,1,none⟩) hlt).trans SR.out.2.1;have k6:=(ZQ.WC.cell (p:=⟨b,6,none⟩) hlt).trans SR.out.2.2;have x0:=ZQ.sx.cl 0 _ rfl;clear ZQ;go_simp
 refine YS 7 rfl (by kernel_rfl) (fun K hK=>?_);go_simp;refine (tD.out _).mono ?_;rintro e w1 ⟨rfl,b1⟩;have N1:=Z9.below b1;have R1:=Z8.out.below b1;clear b1;refine hK.out _ _ N1 (fun YA=>?_);clear hK K Z9;have Z9:=YA;clear YA;refine YS 12 rfl (by kernel_rfl) (fun K hK=>?_);go_simp;refine (yI.out _).mono ?_;rintro e w2 ⟨rfl,b2⟩;have N2:=Z9.below b2;have R2:=R1.below b2;clear b2;refine hK.out _ _ N2 (fun YA=>?_);clear hK K Z9;have Z9:=YA;clear YA;refine YS 13 rfl (by kernel_rfl) (fun K hK=>?_);go_simp;refine (Z'.out _ Z9.WC).mono ?_;rintro e w3 ⟨va,vc,rfl,o3,b3⟩;have N3:=Z9.below b3;have R3:=R2.below b3;have O3:=ZU o3;clear b3 o3;refine hK.out _ _ N3 (fun YA=>?_);clear hK K Z9;have Z9:=YA;clear YA;have t0:=R3.cl 0 _ rfl;have t1:=R3.cl 1 _ rfl;have t2:=R3.cl 2 _ rfl;have t3:=R3.cl 3 _ rfl;have f0:=R3.fz 0;have f1:=R3.fz 1;have f2:=R3.fz 2;have f3:=R3.fz 3;have SE:Hid (St ((((w3.setCell ⟨w.heap.size+1,0,none⟩ (.slice va ms.length vc)).setCell ⟨w.heap.size+1,1,none⟩ (.int .i64 z2)).setCell ⟨w.heap.size+1,2,none⟩ (.int .i64 ((z3:Nat):Int))).setCell ⟨w.heap.size+1,3,none⟩ (.int .i64 (z4))) (w.heap.size+1) [(.slice va ms.length vc),(.int .i64 z2),(.int .i64 ((z3:Nat):Int)),(.int .i64 (z4))]):=((((R3.set 0 (.slice va ms.length vc)).set 1 (.int .i64 z2)).set 2 (.int .i64 ((z3:Nat):Int))).set 3 (.int .i64 (z4)));have BE:Hid (Zi w ((((w3.setCell ⟨w.heap.size+1,0,none⟩ (.slice va ms.length vc)).setCell ⟨w.heap.size+1,1,none⟩ (.int .i64 z2)).setCell ⟨w.heap.size+1,2,none⟩ (.int .i64 ((z3:Nat):Int))).setCell ⟨w.heap.size+1,3,none⟩ (.int .i64 (z4)))):=by
  iterate 4 refine Below.setCell ?_ (by show w.heap.size≤w.heap.size+1;omega) _
  exact N3.WC
 have OE:Hid (XU 147 ((((w3.setCell ⟨w.heap.size+1,0,none⟩ (.slice va ms.length vc)).setCell ⟨w.heap.size+1,1,none⟩ (.int .i64 z2)).setCell ⟨w.heap.size+1,2,none⟩ (.int .i64 ((z3:Nat):Int))).setCell ⟨w.heap.size+1,3,none⟩ (.int .i64 (z4))) w.heap.size (.slice va ms.length vc) ms):=by
  have hne:(Value.slice va ms.length vc).ownBlock=none∨(Value.slice va ms.length vc).ownBlock≠some (w.heap.size+1):=.inr (fun e=>by have:=(ZT O3.out _ e).1;have:=R2.lt;omega);have o5:=XU.mono O3.out N2.WC.size;exact Zn (Zn (Zn (Zn o5 (grownBy_set _ _ (w.heap.size+1) 0 _ (Zz _ _)) hne) (grownBy_set _ _ (w.heap.size+1) 1 _ (Zz _ _)) hne) (grownBy_set _ _ (w.heap.size+1) 2 _ (Zz _ _)) hne) (grownBy_set _ _ (w.heap.size+1) 3 _ (Zz _ _)) hne
 refine YS 14 rfl (by kernel_rfl) (fun K hK=>?_);clear tD yI Z' S0 Sd SR;have PR:Hid (∀wE va vc,XU 147 wE w.heap.size (.slice va ms.length vc) ms→Zi w wE→Kc w ms z2 z3 z4 (.returned (.agg #[.slice va ms.length vc,.int .i64 z2,.int .i64 ((z3:Nat):Int),.int .i64 (z4)])) wE):=fun wE va vc ho hb=>⟨va,vc,rfl,ho,hb⟩
 clear O3;generalize hr1:ms.length=rl at *;go_simp;have NE:tC w (.slice ta ns.length tc) ((((w3.setCell ⟨w.heap.size+1,0,none⟩ (.slice va rl vc)).setCell ⟨w.heap.size+1,1,none⟩ (.int .i64 z2)).setCell ⟨w.heap.size+1,2,none⟩ (.int .i64 (z3:Int))).setCell ⟨w.heap.size+1,3,none⟩ (.int .i64 z4)):=⟨BE.out,(((N3.sx.other (by omega)).other (by omega)).other (by omega)).other (by omega)⟩;refine hK.out _ _ NE (fun YA=>?_);clear hK K YA;refine ZR (by kernel_rfl) ?_ _
 try simp only [Act.put,WV,WU,WT]
 clear t0 t1 t2 t3 f0 f1 f2 f3 NE N1 N2 N3 R1 R2 R3 Z9 R0 Z8;generalize (((w3.setCell _ _).setCell _ _).setCell _ _).setCell _ _=wE at *;go_wp2;have e0:=SE.out.cl 0 _ rfl;have e1:=SE.out.cl 1 _ rfl;have e2:=SE.out.cl 2 _ rfl;have e3:=SE.out.cl 3 _ rfl;refine ZW (v:=.agg #[.slice va rl vc,.int .i64 z2,.int .i64 (z3:Int),.int .i64 z4]) (by simp [results,Tryz.results86,go_sem,e0,e1,e2,e3]) rfl ?_;exact PR.out wE va vc OE.out BE.out
def AR (w:World) (b:Nat) (S L:Int) (vd vp:Value) (lim made:Int) (vc:Value) (cg:Bool) (c:Qm) (og:Bool) (o:Qm) (ms:List Nd) (z2:Int) (z3:Nat) (z4:Int) (e:Ending) (w':World):Prop :=
 Tw w b none w' none∧∃va GI,e=.returned (.int .i64 3)∧St w' b (Ow S L vd vp lim made vc cg c og o 0 (.slice va ms.length GI) z2 ((z3:Nat):Int) z4)∧XU 147 w' w.heap.size (.slice va ms.length GI) ms
theorem Ej (w:World) (b g N C:Nat) (S L:Int) (vd vp:Value) (lim made:Int) (vc:Value) (cg:Bool) (c:Qm) (og:Bool) (o:Qm) (code:Int) (vt:Value) (zx cnt en:Int) (cont:List Int) (hs:St w b (Ow S L vd vp lim made vc cg c og o code vt zx cnt en)) (nV:vc=.slice (some ⟨g,0,none⟩) N C) (hr:∀W,Tw w b none W none→Rd .u8 W (.slice (some ⟨g,0,none⟩) N C) cont) (hby:Sn cont) (hN:cont.length=N) (Bw:N≤1048576) (hc:Wp S L=true) (wK:2+2*(S+L)≤((N / 64:Nat):Int)) (ht:PJ w) (hb0:0<b) (ns:List Nd) (hSD:p9 ((Me cont (Ry S L c.b false).toNat S.toNat).take c.l.toNat) c.c=some ns) (ms:List Nd) (z2:Int) (z3:Nat) (z4:Int) (Z5:∀W ta tc,Tw w b none W none→SK W (.slice ta ns.length tc) ns→St W b (Ow S L vd vp lim made vc cg c og o 0 vt zx cnt en)→Calls Tryz.prog 86 #[.pointer (some ⟨b,0,none⟩),.agg #[.slice ta ns.length tc],.int .i64 c.s,.int .i64 c.b] W (Kc W ms z2 z3 z4)) (hcb:0≤c.b∧c.b≤1) (hcl:0≤c.l∧c.l≤S*64) :
    Calls Tryz.prog 40 #[.pointer (some ⟨b,0,none⟩)] w (AR w b S L vd vp lim made vc cg c og o ms z2 z3 z4):=by
 have hlt:=hs.lt;obtain ⟨ln,hln⟩:∃n:Nat,c.l=(n:Int):=⟨c.l.toNat,by omega⟩;have wJ:Hid (∀W,Zi w W→Calls Tryz.prog 85 #[.pointer (some ⟨b,0,none⟩),.agg #[.int .i64 c.g,.int .i64 c.b,.int .i64 c.s,.int .i64 c.l,.int .i64 c.c]] W (wM W (p9 ((Me cont (Ry S L c.b false).toNat S.toNat).take c.l.toNat) c.c))):=by
  intro W hW;have hs':=hs.Xe hW hlt;have h9:=Ag W b g N C ln S L c.g c.b c.s c.l c.c cont (hs'.cl 0 _ rfl) (hs'.cl 1 _ rfl) (by rw [←nV];exact hs'.cl 6 _ rfl) hs'.lt (hr W (Tw.YZ hW _ _)) hby hN Bw hc wK hcb hln hcl.2 (ht.below (by omega) hW) (by have:=hs'.lt;omega);rw [show ln=c.l.toNat by omega] at h9;exact h9
 have DJ:=ZU Z5;have HS:=ZU hs;clear hs hr ht hc hby hN wK hln nV;rw [hSD] at wJ;clear hSD;have q8:=HS.out.cl 8 _ rfl;have q9:=HS.out.cl 9 _ rfl;have iI:=HS.out.cl 10 _ rfl;have iH:=HS.out.cl 11 _ rfl;have gT:=HS.out.cl 12 _ rfl;have BA:Hid (Zi w (w.alloc (.cells #[.int .i64 c.g,.int .i64 c.b,.int .i64 c.s,.int .i64 c.l,.int .i64 c.c] 60))):=Yy.alloc YR _;have XA:Hid (St (w.alloc (.cells #[.int .i64 c.g,.int .i64 c.b,.int .i64 c.s,.int .i64 c.l,.int .i64 c.c] 60)) w.heap.size [.int .i64 c.g,.int .i64 c.b,.int .i64 c.s,.int .i64 c.l,.int .i64 c.c]):=St.new _ _ _
 go_enter Tryz.func40,Tryz.ntmps40
 go_wp2_with fail
 clear q8 q9 iI iH gT;generalize w.alloc _=w0 at *;refine (wJ.out _ BA.out).mono ?_;rintro e w1 ⟨b1,h1⟩;have B1:=ZU (WD BA.out b1);have X1:=ZU (XA.out.below b1);have Y5:=b1.size;clear b1 BA wJ
 rcases h1 with ⟨hn,rfl⟩ | ⟨Z4,v,hsm,rfl,o1⟩
 · cases hn
 obtain rfl:ns=Z4:=Zc hsm;clear hsm;obtain ⟨va,GI,ZL⟩:=XU.QU o1;subst ZL;have O1:=ZU o1;have BA:Zi w1 (w1.alloc (.cells #[.bool true,.slice va ns.length GI] 135)):=Yy.alloc YR _;have B2:Hid (Zi w (w1.alloc (.cells #[.bool true,.slice va ns.length GI] 135))):=B1.out.alloc B1.out.size _;have S2:=ZU (HS.out.Xe B2.out hlt);have X2:=ZU (X1.out.below BA);have Y2:Hid (St (w1.alloc (.cells #[.bool true,.slice va ns.length GI] 135)) w1.heap.size [.bool true,.slice va ns.length GI]):=St.new _ _ _;have O2:=ZU (XU.below O1.out BA);have hw1:=B1.out.size;have hw0:b<w0.heap.size:=by have:=XA.out.lt;omega
 clear HS B1 X1 XA O1 o1 BA;have ZK:=S2.out.cl 19 _ rfl;have f19:=S2.out.fz 19;have hx1:=X2.out.cl 1 _ rfl;have hx2:=X2.out.cl 2 _ rfl;have hy0:=Y2.out.cl 0 _ rfl;have hy1:=Y2.out.cl 1 _ rfl;have SA:Hid (St ((w1.alloc (.cells #[.bool true,.slice va ns.length GI] 135)).setCell ⟨b,19,none⟩ (.int .i64 0)) b (Ow S L vd vp lim made vc cg c og o 0 vt zx cnt en)):=S2.out.set 19 _;have ZH:((w1.alloc (.cells #[.bool true,.slice va ns.length GI] 135)).setCell ⟨b,19,none⟩ (.int .i64 0)).cell? ⟨w.heap.size,1,none⟩=some (.int .i64 c.b):=(X2.out.other (by omega)).cl 1 _ rfl;have Zy:((w1.alloc (.cells #[.bool true,.slice va ns.length GI] 135)).setCell ⟨b,19,none⟩ (.int .i64 0)).cell? ⟨w.heap.size,2,none⟩=some (.int .i64 c.s):=(X2.out.other (by omega)).cl 2 _ rfl;have Zx:((w1.alloc (.cells #[.bool true,.slice va ns.length GI] 135)).setCell ⟨b,19,none⟩ (.int .i64 0)).cell? ⟨w1.heap.size,1,none⟩=some (.slice va ns.length GI):=(Y2.out.other (by omega)).cl 1 _ rfl;have TA:Hid (Tw w b none ((w1.alloc (.cells #[.bool true,.slice va ns.length GI] 135)).setCell ⟨b,19,none⟩ (.int .i64 0)) none):=(Tw.YZ B2.out b none).set;have OA:Hid (XU 147 ((w1.alloc (.cells #[.bool true,.slice va ns.length GI] 135)).setCell ⟨b,19,none⟩ (.int .i64 0)) w0.heap.size (.slice va ns.length GI) ns):=Zn O2.out (grownBy_set _ _ b 19 _ (Zz _ _)) (.inr (fun e=>by have:=(ZT O2.out _ e).1;omega));clear S2 X2 Y2 O2 B2
 go_wp2_with fail
 clear ZK f19 hx1 hx2 hy0 hy1 ZH Zy Zx;generalize (w1.alloc _).setCell _ _=w3 at *;refine (DJ.out w3 va GI TA.out OA.out.rd SA.out).mono ?_;rintro e w4 ⟨ra,rc,rfl,o4,b4⟩;have S4:=ZU (SA.out.below b4);have T4:=ZU (TA.out.trans (Tw.YZ b4 b none));have O4:=ZU (XU.mono o4 TA.out.size);have hnb:(Value.slice ra ms.length rc).ownBlock≠some b:=fun e=>by have:=(ZT o4 _ e).1;have:=SA.out.lt;omega
 have PR:Hid (∀wE,St wE b (Ow S L vd vp lim made vc cg c og o 0 (.slice ra ms.length rc) z2 ((z3:Nat):Int) z4)→XU 147 wE w.heap.size (.slice ra ms.length rc) ms→Tw w b none wE none→AR w b S L vd vp lim made vc cg c og o ms z2 z3 z4 (.returned (.int .i64 3)) wE):=fun wE h1 h2 h3=>⟨h3,ra,rc,rfl,h1,h2⟩
 clear o4 b4 SA TA OA DJ;generalize hrl:ms.length=rl at *;have g20:=S4.out.fz 20;have g21:=S4.out.fz 21;have g22:=S4.out.fz 22;have g23:=S4.out.fz 23;have k21:=S4.out.cl 21 _ rfl;have k22:=S4.out.cl 22 _ rfl;have k23:=S4.out.cl 23 _ rfl;have k20:=S4.out.cl 20 _ rfl;have SE:Hid (St ((((w4.setCell ⟨b,20,none⟩ (.slice ra rl rc)).setCell ⟨b,21,none⟩ (.int .i64 z2)).setCell ⟨b,22,none⟩ (.int .i64 ((z3:Nat):Int))).setCell ⟨b,23,none⟩ (.int .i64 z4)) b (Ow S L vd vp lim made vc cg c og o 0 (.slice ra rl rc) z2 ((z3:Nat):Int) z4)):=(((S4.out.set 20 _).set 21 _).set 22 _).set 23 _;have TE:Hid (Tw w b none ((((w4.setCell ⟨b,20,none⟩ (.slice ra rl rc)).setCell ⟨b,21,none⟩ (.int .i64 z2)).setCell ⟨b,22,none⟩ (.int .i64 ((z3:Nat):Int))).setCell ⟨b,23,none⟩ (.int .i64 z4)) none):=T4.out.set.set.set.set;have OE:Hid (XU 147 ((((w4.setCell ⟨b,20,none⟩ (.slice ra rl rc)).setCell ⟨b,21,none⟩ (.int .i64 z2)).setCell ⟨b,22,none⟩ (.int .i64 ((z3:Nat):Int))).setCell ⟨b,23,none⟩ (.int .i64 z4)) w.heap.size (.slice ra rl rc) ms):=Zn (Zn (Zn (Zn O4.out (grownBy_set _ _ b 20 _ (Zz _ _)) (.inr hnb)) (grownBy_set _ _ b 21 _ (Zz _ _)) (.inr hnb)) (grownBy_set _ _ b 22 _ (Zz _ _)) (.inr hnb)) (grownBy_set _ _ b 23 _ (Zz _ _)) (.inr hnb);clear S4 T4 O4;go_wp2;go_ret;exact PR.out _ SE.out OE.out TE.out
attribute [local go_sem] Yv
theorem yS (nn:Nat) (hn1:1≤nn) (l Ba tb c:Nat) (a:Option Addr) (P:World→Prop) (hP:∀X Y,Zi X Y→P X→P Y) (W:World) (hW:P W) (h0:W.cell? ⟨Ba,0,none⟩=some (.pointer (some ⟨tb,0,none⟩))) (h1:W.cell? ⟨tb,0,none⟩=some (.slice a 0 c)) :
    CallsIn Fence.wide nn Tryz.prog 137 #[.func (.yield l) #[] #[],.pointer (some ⟨Ba,0,none⟩)] W fun e W'=>(∃v,e=.returned v)∧P W':=by
 have H0:=ZU hW;clear hP hW;refine Xb Tryz.func137 rfl trivial ?_ rfl
 simp only [Tryz.ntmps137,ZI,ZE,Y7,Nat.reduceAdd,Nat.reduceSub,YV,YU,YI,YT,Zd,Y3]
 gi_wp2
 gi_loopw [10] (fun i wr=>i=.int .i64 0∧wr=W) (fun _ _=>0)
 case atStart=>exact ⟨rfl,rfl⟩
 case round =>
  obtain ⟨rfl,rfl⟩:=hrel;gi_wp2;exact ⟨rfl,_,Wu rfl _ _ _,⟨_,rfl⟩,H0.out⟩
structure Cz (w w1 w2:World) (tb c:Nat) (a:Option Addr) (W:World):Prop where
 WC:Zi w W
 res:St W (w.heap.size+1) [.int .i64 0]
 bx:W.cell? ⟨w1.heap.size,0,none⟩=some (.pointer (some ⟨tb,0,none⟩))
 rows:W.cell? ⟨tb,0,none⟩=some (.slice a 0 c)
 sz:w2.heap.size≤W.heap.size
theorem JI (w:World) (b:Nat) (nZ:∀W,Zi w W→Calls Tryz.prog 87 #[.pointer (some ⟨b,0,none⟩)] W (wC W [])) :
    Calls Tryz.prog 42 #[.pointer (some ⟨b,0,none⟩)] w (Wj w (.int .i64 6)):=by
 have nZ:=ZU nZ;have BA:Hid (Zi w ((w.alloc (.cells #[.pointer (some ⟨b,0,none⟩)] 93)).alloc (.cells #[.int .i64 0] 102))):=(Yy.alloc YR _).alloc (by simp) _;have Y0:Hid (St ((w.alloc (.cells #[.pointer (some ⟨b,0,none⟩)] 93)).alloc (.cells #[.int .i64 0] 102)) (w.heap.size+1) [.int .i64 0]):=by
  have h9:=St.new (w.alloc (.cells #[.pointer (some ⟨b,0,none⟩)] 93)) #[.int .i64 0] 102;rw [YF] at h9;exact h9
 refine (YK (n:=6)).1 ?_;refine callsIn_of_wp_marks Tryz.func42 rfl trivial ?_ rfl
 simp only [Tryz.ntmps42,ZI,ZE,Y7,Nat.reduceAdd,Nat.reduceSub,YV,YU,YI,YT,Zd,Y3]
 gi_wp2_with fail
 refine ⟨trivial,?_⟩;generalize (w.alloc _).alloc _=w0 at *;refine (YK.2 (nZ.out _ BA.out)).mono ?_;rintro e w1 ⟨tb,mb,v,rfl,t1,b1⟩;have s0:=Y0.out.lt;have B1:=ZU (WD BA.out b1);have Y1:=ZU (Y0.out.below b1);obtain ⟨⟨tz,td,-⟩,-⟩:=t1.box;obtain ⟨a,c,rfl⟩:∃a c,v=.slice a 0 c:=by
  rcases t1.rows.2 with ⟨rfl,-⟩ | ⟨g,cap,cur,rfl,-⟩
  · exact ⟨_,_,rfl⟩
  exact ⟨_,_,rfl⟩
 have TD:=ZU td;have s1:=b1.size;clear b1 t1 BA Y0 nZ td
 gi_wp2_with fail
 refine ⟨trivial,?_⟩;refine (all_in Fence.wide _ trivial rfl _ _).mono ?_;rintro e w2 ⟨rfl,hw2⟩;have s2:w2.heap.size=w1.heap.size+1:=by rw [hw2];simp
 have b2:Zi w1 w2:=by rw [hw2];exact Yy.alloc YR _
 have Z2:Hid (Cz w w1 w2 tb c a w2):=⟨WD B1.out b2,Y1.out.below b2,by rw [hw2];simp,(b2.cell (p:=⟨tb,0,none⟩) tz).trans TD.out,YR⟩;have s3:=B1.out.size;clear hw2 b2 B1 Y1 TD;have ZB:∀X Y,Zi X Y→Cz w w1 w2 tb c a X→Cz w w1 w2 tb c a Y:=fun X Y hb h =>
  ⟨h.WC.trans (hb.mono h.WC.size),h.res.below hb,(hb.cell (p:=⟨w1.heap.size,0,none⟩) (by have:=h.sz;show w1.heap.size<_;omega)).trans h.bx,(hb.cell (p:=⟨tb,0,none⟩) (by have:=h.sz;show tb<_;omega)).trans h.rows,ZJ h.sz hb.size⟩
 have ZN:∀X Y row,Cz w w1 w2 tb c a X→X.grownBy Y row→(∀r,row=some r→w2.heap.size≤r)→Cz w w1 w2 tb c a Y:=fun X Y row h hg hr =>
  have hb:∀q,q<w2.heap.size→Y.heap[q]?=X.heap[q]?:=fun q hq=>hg.block q (ZY hq h.sz) (fun e=>by have:=hr q e.symm;omega)
  ⟨h.WC.grown hg (by have:=h.WC.size;omega) (fun q e=>by have:=hr q e;omega),h.res.wz hg (fun e=>by have:=hr _ e.symm;omega),(ZP (w:=X) (a:=⟨w1.heap.size,0,none⟩) (hb _ (by show w1.heap.size<_;omega))).trans h.bx,(ZP (w:=X) (a:=⟨tb,0,none⟩) (hb _ (by show tb<_;omega))).trans h.rows,ZJ h.sz hg.size⟩
 have Z7:=ZU ZB;have Zv:=ZU ZN;clear ZB ZN
 gi_wp2_with fail
 refine PE (F:=Fence.wide) (n:=6) rfl (by omega) (gf:=137) (lb:=#[.pointer (some ⟨w1.heap.size,0,none⟩)]) rfl trivial (enters_of Tryz.func137 (by kernel_rfl) rfl)
  (fun (_:Unit) W=>Cz w w1 w2 tb c a W) (fun _ _ _=>False) (fun s _=>s) (fun _ _=>True) (fun _=>True) ()
  (fun s X Y row hs hg hr=>Zv.out X Y row hs hg (fun r e=>(hr r e).1)) (fun _ _=>trivial) (fun _ _ _ _ _ _ _ _=>trivial)
  (fun s vs W hp=>hp.elim) Z2.out (fun _ _ _ _=>False) (fun _ _ _ _ _ _ _ h=>h.elim) (fun _ _ _ _ _ _ h=>h.elim) (fun _ _ _ _ _ h=>h.elim) ?call ?done
 case call =>
  intro Bk W1 sy hY hb1 _ hs0 J;refine (yS _ (by omega) _ _ tb c a (fun W=>Cz w w1 w2 tb c a W∧Bk W) (fun X Y hb h=>⟨Z7.out X Y hb h.1,sy X Y (Vf hb) h.2⟩) W1 ⟨hs0,J⟩ hs0.bx hs0.rows).mono ?_;rintro e W' ⟨h1,h2,h3⟩;exact ⟨h1,(),trivial,h2,h3⟩
 case done =>
  rintro D s W hD hfin hS hK;have HS:=ZU hS;have HK:=ZU hK;clear hS hK hfin
  gi_wp2_with fail
  refine ⟨trivial,?_⟩;refine (YK.2 (Ab W tb _ [] HS.out.rows ⟨a,c,rfl⟩)).mono ?_;rintro e Wy ⟨rfl,G⟩;have I:=ZU (Z7.out _ _ G HS.out);have Zt:Hid (Wy.heap[D]?=some (.deferred (some []))):=(G.block D (Z3.mp HK.out).1).trans HK.out;clear G HS HK;have y0:=I.out.res.cl 0 _ rfl;have yf:=I.out.res.fz 0;gi_wp2;refine ⟨trivial,?_⟩;gi_wp2;have Zr:(Wy.setCell ⟨w.heap.size+1,0,none⟩ (.int .i64 6)).heap[D]?=some (.deferred (some [])):=(KeepsOthers.setCell _ _ _).same D _ Zt.out rfl;refine ⟨by simp,.inl ⟨_,_,rfl,run_takeDeferred Zr,?_⟩⟩;have GX:=grownBy_putObj' (Wy.setCell ⟨w.heap.size+1,0,none⟩ (.int .i64 6)) D (.deferred none);have YX:=(I.out.res.set 0 (.int .i64 6)).wz GX (by simp;omega);have hsy:=I.out.sz;have BX:Zi w ((Wy.setCell ⟨w.heap.size+1,0,none⟩ (.int .i64 6)).putObj D (.deferred none)):=(I.out.WC.setCell (by simp) _).grown GX (by simp;omega) (fun q e=>by injection e with e;omega);generalize (Wy.setCell _ _).putObj D (.deferred none)=Z at *;have z0:=YX.cl 0 _ rfl;exact ⟨.int .i64 6,by simp [results,Tryz.results42,go_sem,z0],rfl,BX⟩
theorem GY (w:World) (va:Option Addr) (dl ca:Nat) (YN:List Int) (hd:Rd .u8 w (.slice va dl ca) YN) (hdl:YN.length=dl) (hd1:dl≤1048576) :
    Calls Tryz.prog 37 #[.agg #[.slice va dl ca,.slice none 0 0]] w fun e w'=>∃a c g,e=.returned (.agg #[.slice a dl c,.slice (some ⟨g,0,none⟩) 0 1])∧Own .u8 5 w' w.heap.size (.slice a dl c) YN∧w.heap.size≤g∧w'.heap[g]?=some (.cells #[.int .i64 0,.slice none 0 0] 132 (0,0))∧Zi w w':=by
 obtain ⟨i0,hi,hz0,hz1,hz2⟩:=YM Tryz.qp;have hmk:=run_make (P:=Tryz.prog) ((w.alloc (.cells #[.slice va dl ca,.slice none 0 0] 52)).alloc (.cells #[.slice none 0 0,.slice none 0 0] 52)) 50 132 i0 (.agg #[.int .i64 0,.slice none 0 0]) Tryz.underlying50 hi hz0 .i64 .i64 0 1 (by decide) (by decide) (by rw [hz2];decide) (by decide);have hmc:madeCells (Value.agg #[.int .i64 0,.slice none 0 0]).cells ((1:Int).toNat*i0.size)=#[.int .i64 0,.slice none 0 0]:=by rw [hz1];kernel_rfl
 rw [hmc] at hmk;have HD:=ZU hd;have OO:=ZU hdl;clear hd hdl hmc
 go_enter Tryz.func37,Tryz.ntmps37
 go_wp2;clear hmk;have B3:Hid (Zi w (((w.alloc (.cells #[.slice va dl ca,.slice none 0 0] 52)).alloc (.cells #[.slice none 0 0,.slice none 0 0] 52)).alloc (.cells #[.int .i64 0,.slice none 0 0] 132))):=((Yy.alloc YR _).alloc (by simp) _).alloc (by simp;omega) _;have X0:Hid (St (((w.alloc (.cells #[.slice va dl ca,.slice none 0 0] 52)).alloc (.cells #[.slice none 0 0,.slice none 0 0] 52)).alloc (.cells #[.int .i64 0,.slice none 0 0] 132)) w.heap.size [.slice va dl ca,.slice none 0 0]):=((St.new w _ _).below (Yy.alloc YR _)).below (Yy.alloc YR _);have oO:Hid ((((w.alloc (.cells #[.slice va dl ca,.slice none 0 0] 52)).alloc (.cells #[.slice none 0 0,.slice none 0 0] 52)).alloc (.cells #[.int .i64 0,.slice none 0 0] 132)).heap[w.heap.size+2]?=some (.cells #[.int .i64 0,.slice none 0 0] 132 (0,0))):=by
  have:=Zs ((w.alloc (.cells #[.slice va dl ca,.slice none 0 0] 52)).alloc (.cells #[.slice none 0 0,.slice none 0 0] 52)) (.cells #[.int .i64 0,.slice none 0 0] 132);show _=_
  simpa using this
 have X1:Hid (SU (((w.alloc (.cells #[.slice va dl ca,.slice none 0 0] 52)).alloc (.cells #[.slice none 0 0,.slice none 0 0] 52)).alloc (.cells #[.int .i64 0,.slice none 0 0] 132)) (w.heap.size+1) (.slice none 0 0) (.slice none 0 0)):=by
  have:=(SU.new (w.alloc (.cells #[.slice va dl ca,.slice none 0 0] 52)) (.slice none 0 0) (.slice none 0 0) 52).below (Yy.alloc YR (.cells #[.int .i64 0,.slice none 0 0] 132));show SU _ _ _ _
  simpa using this
 generalize ((w.alloc _).alloc _).alloc _=w3 at *
 go_loopw [3,14] (fun v i wr=>v=.slice (some ⟨w.heap.size+1+1,0,none⟩) 0 1∧i=.int .i64 0∧wr=w3) (fun _ _ _=>0)
 case atStart=>exact ⟨rfl,rfl,rfl⟩
 case round =>
  obtain ⟨rfl,rfl,rfl⟩:=hrel;have c0:=X0.out.cl 0 _ rfl
  go_wp2_with fail
  refine (Jy _ _ YN (HD.out.below B3.out) (by have:=OO.out;omega)).mono ?_;rintro e w7 ⟨v7,rfl,o7,b7⟩;obtain ⟨a7,c7,rfl⟩:=o7.slice;rw [OO.out];have B7:=ZU (WD B3.out b7);have O7:Hid (Own .u8 5 w7 wr.heap.size (.slice a7 dl c7) YN):=by rw [←OO.out];exact o7
  have g3:=oO.out;have l3:=(Z3.mp g3).1;have G7:Hid (w7.heap[w.heap.size+2]?=some (.cells #[.int .i64 0,.slice none 0 0] 132 (0,0))):=(b7.block _ l3).trans g3;have Zo:=ZU (X1.out.below b7);have hb3:=B3.out.size;clear o7 b7 g3 c0;obtain ⟨⟨z7,d0,d1⟩,f0,f1⟩:=Zo.out;go_wp2;refine ZW (v:=.agg #[.slice a7 dl c7,.slice (some ⟨w.heap.size+1+1,0,none⟩) 0 1]) (by simp [results,Tryz.results37,go_sem,d0,d1]) rfl ⟨_,_,w.heap.size+1+1,rfl,?_,by omega,?_,?_⟩
  · have hl:∀j (u:Value) (W:World),Own .u8 5 W wr.heap.size (.slice a7 dl c7) YN→Own .u8 5 (W.setCell ⟨w.heap.size+1,j,none⟩ u) wr.heap.size (.slice a7 dl c7) YN:=fun j u W h=>Own.VA h (by show w.heap.size+1<wr.heap.size;omega) u
    exact Own.mono (hl _ _ _ (hl _ _ _ O7.out)) (by omega)
  · rw [Below.heap_setCell _ _ _ _ (by simp),Below.heap_setCell _ _ _ _ (by simp)]
    exact G7.out
  repeat (first | exact B7.out | refine Below.setCell ?_ (by simp;try omega) _)
end
end Go.Proofs.YtpmjnbmkippaiaaGreatDoor


