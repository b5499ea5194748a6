import Derived.Test.YtpmjnbmkippaiaaGreatDoorJ16
import Derived.OrdersIn
set_option maxRecDepth 100000
set_option maxHeartbeats 16000000
set_option linter.unusedVariables false
set_option linter.unusedSimpArgs false
namespace Go.Proofs.YtpmjnbmkippaiaaGreatDoor
section
open Go.RowKit Go.Conc
variable {ops:Array Oper} {s:ByteArray} {L S:Int} {ls:List ByteArray} {ns:List Nd} {B Bo b blk cap hi i j k lo n o z:Nat} {r:Dq} {u v v1 v2 vt:Value} {W W' w:World}
theorem mM {c:Prop} [Decidable c] {σ τ:Sx} (h1:σ.T≠[]∧σ.Q≠[]) (h2:τ.T≠[]∧τ.Q≠[]):(if c then σ else τ).T≠[]∧(if c then σ else τ).Q≠[]:=by
 by_cases h:c
 · rw [ZZ h];exact h1
 rw [Z1 h];exact h2
def lu (S L n k:Nat) (κ:Sc) (w:World) (e:Ending) (w':World):Prop :=
 e=.returned (.string (YA S L n k))∧Gw κ w w'∧∃ σ',Rk S L n (k+1) σ'∧Sv κ σ' w'
section
variable {m:Int} {te:TypeId} {pe:Value} {S L n k:Nat} {κ:Sc} {σ:Sx} {w:World}
theorem jz (hκ:Ae κ S L) (h:Sv κ σ w) (hgl:Gl m te pe κ w) (hn:n≤64) (hR:Rk S L n k σ) (hk:k=0) (vo vn:Value) (pa:ByteArray) (ho:MJ w vo [opC n]) (EF:Tk κ vo) (GD:∀q,vo.ownBlock=some q→q<w.heap.size) :
    Calls Tryz.prog 14 #[.pointer (some ⟨κ.sB,0,none⟩),.agg #[.int .i64 1,vo,.bool false,.string pa,vn]] w (lu S L n k κ w):=by
 subst hk;obtain ⟨r0,r1,r2,r3,r4,r5,r6,r7,r8⟩:=hR;have hb:=hκ.b;have rt:Rt σ:=by
  by_cases h9:Zp n≤L*64
  · rw [ZZ h9,ZZ rfl] at r8;exact r8
  rw [Z1 h9,Z1 (by decide),Z1 (by decide),ZZ (by decide)] at r8;exact r8
 obtain ⟨t1,t2,t3,t4,t5,t6,t7⟩:=rt;refine (eY hκ h hgl hn (by rw [t1];exact U3) t3 t4 (by rw [t5];rfl) t6 (r7 (by omega)) vo vn pa ho EF GD).mono ?_;have z0:σ.full.length - σ.off+Zp n=Zp n:=by rw [t7];simp
 rw [z0];rintro e w' ⟨rfl,g,σ',rfl,v⟩
 by_cases h9:Zp n≤L*64
 · rw [Z1 (by omega)] at v ⊢
   refine ⟨by unfold YA;rw [ZZ h9,ZZ rfl],g,_,?_,v⟩;refine ⟨fun _=>r0 (by omega),fun _=>r1 (by omega),fun _=>r2 (by omega),fun _=>r3 (by omega),fun _=>r4 (by omega),fun _=>r5 (by omega),fun e=>by omega,fun _=>r7 (by omega),?_⟩;rw [ZZ h9,Z1 (by omega),ZZ rfl];refine ⟨t1,t2,rfl,rfl,by rw [t5];rfl,?_,rfl,t7⟩;show (σ.fs++[fr (XX 1 (XQ [ZI] (Yd n 0)))]).flatten.length=Zp n;rw [t5]
   simpa using jD hn
 rw [ZZ (by omega)] at v ⊢;refine ⟨by unfold YA;rw [Z1 h9,ZZ rfl],g,_,?_,v⟩;refine ⟨fun _=>r0 (by omega),fun _=>r1 (by omega),fun _=>r2 (by omega),fun _=>r3 (by omega),fun _=>r4 (by omega),fun _=>r5 (by omega),fun e=>by omega,fun _=>r7 (by omega),?_⟩;rw [Z1 h9,Z1 (by omega),Z1 (by omega),ZZ (by omega)];exact ⟨t1,t2,t3,t4,t5,t6,t7⟩
theorem qm (hκ:Ae κ S L) (h:Sv κ σ w) (hgl:Gl m te pe κ w) (hn:n≤64) (hR:Rk S L n k σ) (hk:(2≤k∧k<112)∨k=115) (vo vn:Value) (pa:ByteArray) (ho:MJ w vo [Nc n]) (EF:Tk κ vo) (GD:∀q,vo.ownBlock=some q→q<w.heap.size) :
    Calls Tryz.prog 14 #[.pointer (some ⟨κ.sB,0,none⟩),.agg #[.int .i64 1,vo,.bool false,.string pa,vn]] w (lu S L n k κ w):=by
 obtain ⟨r0,r1,r2,r3,r4,r5,r6,r7,r8⟩:=hR;have hb:=hκ.b;have hfl:=r7 (by omega)
 by_cases h9:Zp n≤L*64
 · rw [ZZ h9,Z1 (by omega),Z1 (by omega)] at r8
   have hem:=AF (n:=n)
   rcases hk with ⟨k2,k3⟩ | rfl
   · rw [ZZ (by omega)] at r8
     have hf1:=Nb (L:=L) (n:=n) (i:=min (k - 2) (Ym L n)) h9;have hf2:=Nb (L:=L) (n:=n) (i:=min (k - 2) (Ym L n)+1) h9;have hf3:=hf1.1 (DZ _ _);have hq1:σ.ql=min (k - 2) (Ym L n)*Ze n:=by have:=r8.ql;rwa [VB] at this
     have hfs:σ.fs.length=min (k - 2) (Ym L n):=by have:=r8.fs;rwa [VB] at this
     have hln:=r8.ln;rw [Js,Mo] at hf2;refine (jA hκ h hgl hn (min (k - 2) (Ym L n)) (by omega) (by rw [r8.T];exact Vr) r8.Q r8.zq (by rw [hfs,hq1]) (by omega) hfl vo vn pa ho EF GD).mono ?_;rintro e w' ⟨rfl,g,σ',rfl,v⟩;rw [hln,hq1] at v ⊢
     by_cases h8:k - 2<Ym L n
     · have hm:min (k - 2) (Ym L n)=k - 2:=Wh (by omega)
       rw [hm] at v hf2 hf3 hfs hq1 ⊢;have:=hf2.1 (by omega);rw [Z1 (by omega)] at v ⊢;refine ⟨by unfold YA;rw [ZZ h9,Z1 (by omega),Z1 (by omega),ZZ (by omega),ZZ h8,show k - 2+2=k by omega],g,_,?_,v⟩;refine ⟨fun e=>by omega,fun _=>r1 (by omega),fun _=>r2 (by omega),fun _=>r3 (by omega),fun _=>r4 (by omega),fun _=>r5 (by omega),fun e=>by omega,fun _=>hfl,?_⟩;rw [ZZ h9,Z1 (by omega),Z1 (by omega),ZZ (by omega),Wh (by omega)];have e1:k+1 - 2=k - 2+1:=by omega
       have vF:=r8.fl;rw [e1];refine ⟨rfl,rfl,r8.T,r8.zf,Zu _,by show (σ.fs++[_]).length=_;simp [hfs],?_,?_,hln⟩
       · show (σ.fs++[_]).flatten.length=(k - 2)*Ze n+Ze n
         rw [List.flatten_append,ZA,vF,hq1]
         simpa using mR hn (by omega)
       show (k - 2)*Ze n+Ze n=(k - 2+1 - 0)*Ze n;rw [VB,Js,Mo]
     have hm:min (k - 2) (Ym L n)=Ym L n:=Nat.min_eq_right (by omega);rw [hm] at v hf2 hf3 hfs hq1 ⊢;have:¬Zp n+(Ym L n*Ze n+Ze n)≤L*64:=fun e=>by have:=hf2.2 e;omega
     rw [ZZ (by omega)] at v ⊢;refine ⟨by unfold YA;rw [ZZ h9,Z1 (by omega),Z1 (by omega),ZZ (by omega),Z1 h8],g,_,?_,v⟩;refine ⟨fun e=>by omega,fun _=>r1 (by omega),fun _=>r2 (by omega),fun _=>r3 (by omega),fun _=>r4 (by omega),fun _=>r5 (by omega),fun e=>by omega,fun _=>hfl,?_⟩;rw [ZZ h9,Z1 (by omega),Z1 (by omega),ZZ (by omega),show min (k+1 - 2) (Ym L n)=min (k - 2) (Ym L n) by omega];exact r8
   rw [Z1 (by omega),Z1 (by omega),Z1 (by omega),ZZ rfl] at r8;have hf2:=Nb (L:=L) (n:=n) (i:=YC L n+1) h9;rw [Js,Mo] at hf2;have hln:=r8.ln;have hq1:σ.ql=0:=by have:=r8.ql;rwa [PN,TK] at this
   have hfs:σ.fs.length=0:=by have:=r8.fs;rwa [PN] at this
   have ht:YC L n≤110:=Mp _ _;refine (jA hκ h hgl hn (YC L n) (by omega) (by rw [r8.T];exact Vr) r8.Q r8.zq (by rw [hfs,hq1,TK]) (by omega) hfl vo vn pa ho EF GD).mono ?_;rintro e w' ⟨rfl,g,σ',rfl,v⟩;rw [hln,hq1] at v ⊢;refine ⟨?_,g,_,?_,v⟩
   · have ea:YA S L n 115=if 47+n≤S*64∨110<Ym L n then tl wQ [YC L n+2] else tl wE [8]:=by
      unfold YA;rw [ZZ h9]
      rfl
     rw [ea];clear v
     by_cases h8:47+n≤S*64
     · rw [ZZ h8,Z1 (show ¬L*64<0+(0+Ze n) by omega),ZZ (.inl h8)]
     rw [Z1 h8]
     by_cases h7:110<Ym L n
     · have:=hf2.1 (by unfold YC;omega)
       rw [Z1 (by omega),ZZ (.inr h7)]
     have:¬Zp n+(YC L n*Ze n+Ze n)≤L*64:=fun e=>by have:=hf2.2 e;unfold YC at this;omega
     rw [ZZ (by omega),Z1 (by omega)]
   refine ⟨fun e=>by omega,fun e=>by omega,fun e=>by omega,fun e=>by omega,fun e=>by omega,fun e=>by omega,fun e=>by omega,fun e=>by omega,?_⟩;rw [ZZ h9,Z1 (by omega),Z1 (by omega),Z1 (by omega),Z1 (by omega),Z1 (by omega),Z1 (by omega)];exact mM (by rw [r8.T,r8.Q];exact ⟨Vr,Vr⟩) ⟨by show σ.T≠[];rw [r8.T];exact Vr,Vr⟩
 rw [Z1 h9] at r8;have hq:σ.Q=[ZI]∧σ.zq=0∧σ.ql=0∧σ.T=[ZI]:=by
  rcases hk with ⟨k2,k3⟩ | rfl
  · rw [Z1 (by omega),Z1 (by omega),ZZ (by omega)] at r8
    exact ⟨r8.2.2.1,r8.2.2.2.1,r8.2.2.2.2.2.1,r8.1⟩
  rw [Z1 (by omega),ZZ rfl] at r8;exact r8
 obtain ⟨q1,q2,q3,q4⟩:=hq;refine (eX hκ h hgl hn (by rw [q4];exact U3) q1 q2 (by omega) hfl vo vn pa ho EF GD).mono ?_;rintro e w' ⟨rfl,g,σ',rfl,v⟩;refine ⟨?_,g,_,?_,v⟩
 · unfold YA
   rw [Z1 h9,Z1 (by omega),Z1 (by omega),Z1 (by omega),Z1 (by omega)]
 refine ⟨fun e=>by omega,fun _=>r1 (by omega),fun _=>r2 (by omega),fun _=>r3 (by omega),fun _=>r4 (by omega),fun _=>r5 (by omega),fun e=>by omega,fun _=>hfl,?_⟩;rw [Z1 h9]
 rcases hk with ⟨k2,k3⟩ | rfl
 · rw [Z1 (by omega),Z1 (by omega),ZZ (by omega)] at r8 ⊢
   exact r8
 rw [Z1 (by omega),Z1 (by omega),Z1 (by omega),q1,q4];exact ⟨U3,U3⟩
end
set_option linter.unusedSectionVars false
section
variable {m:Int} {te:TypeId} {pe:Value} {S L n k:Nat} {κ:Sc} {σ:Sx} {w:World}
theorem qk (hκ:Ae κ S L) (h:Sv κ σ w) (hgl:Gl m te pe κ w) (hn:n≤64) (hR:Rk S L n k σ) (hk:k=1∨k=112) (vo vn:Value) (mu:Bool) (pa:ByteArray) :
    Calls Tryz.prog 14 #[.pointer (some ⟨κ.sB,0,none⟩),.agg #[.int .i64 2,vo,.bool mu,.string pa,vn]] w (lu S L n k κ w):=by
 obtain ⟨r0,r1,r2,r3,r4,r5,r6,r7,r8⟩:=hR;have hb:=hκ.b;have hfl:=r7 (by omega);obtain ⟨i1,i2,i3⟩:=(r3 (by omega)).2
 by_cases h9:Zp n≤L*64
 · rw [ZZ h9,Z1 (by omega)] at r8
   rcases hk with rfl | rfl
   · rw [ZZ rfl] at r8
     obtain ⟨t1,t2,t3,t4,t5,t6,t7,t8⟩:=r8;have hk0:=r0 (by omega);refine (Nf κ σ w h hgl (by rw [t1];exact U3) (by rw [t3];exact Vr) vo vn mu pa (by omega) (by omega) i3 (by rw [t8,t6,hκ.eL];simp;omega) hκ.c (by omega) (by omega) (by omega) (.inr (r4 (by omega)))).mono ?_;rw [t5,t4];rintro e w' ⟨rfl,g,σ',rfl,v⟩;refine ⟨by unfold YA;rw [ZZ h9,Z1 (by omega),ZZ rfl];rfl,g,_,?_,v⟩;refine ⟨fun e=>by omega,fun _=>by show σ.k+66≤66;omega,fun _=>by show σ.k+66≤132;omega,fun _=>⟨by show σ.k+66≤133;omega,i1,i2,i3⟩,fun _=>r4 (by omega),fun _=>r5 (by omega),fun e=>by omega,fun _=>by show (σ.full++σ.fs.flatten).length≤4096;rw [t8,Yw,t6];omega,?_⟩;rw [ZZ h9,Z1 (by omega),Z1 (by omega),ZZ (by omega),show min (1+1 - 2) (Ym L n)=0 by omega];refine ⟨t3,rfl,t3,rfl,ZT,rfl,rfl,by show 0=(0 - 0)*Ze n;simp,?_⟩;show (σ.full++σ.fs.flatten).length - σ.off=Zp n;rw [t8,Yw,t6,i3];rfl
   rw [Z1 (by omega),ZZ (by omega),show min (112 - 2) (Ym L n)=YC L n from rfl] at r8;have hk0:=r1 (by omega);have ht:YC L n≤110:=Mp _ _;have hf:=(Nb (L:=L) (n:=n) (i:=YC L n) h9).1 (DZ _ _);have hq1:σ.ql=YC L n*Ze n:=by have:=r8.ql;rwa [VB] at this
   have hfs:σ.fs.length=YC L n:=by have:=r8.fs;rwa [VB] at this
   have hln:σ.full.length=Zp n:=by have:=r8.ln;rwa [i3,VB] at this
   have ea:YA S L n 112=tl wF [YC L n,YC L n+1]:=by unfold YA;rw [ZZ h9];rfl
   by_cases h8:σ.fs=[]
   · have h7:YC L n=0:=by rw [←hfs,h8];rfl
     rw [h7] at r8 ea;refine (Ng κ σ w h hgl (by rw [r8.T];exact Vr) (by rw [r8.Q];exact Vr) vo vn mu pa h8 (by rw [r8.zf];omega)).mono ?_;rw [r8.zf];rintro e w' ⟨rfl,g,σ',rfl,v⟩;refine ⟨by rw [ea];rfl,g,_,?_,v⟩;refine ⟨fun e=>by omega,fun e=>by omega,fun _=>by omega,fun _=>r3 (by omega),fun _=>r4 (by omega),fun _=>r5 (by omega),fun e=>by omega,fun _=>hfl,?_⟩;rw [ZZ h9,Z1 (by omega),Z1 (by omega),Z1 (by omega),ZZ rfl,h7,TK];exact r8
   refine (Nf κ σ w h hgl (by rw [r8.T];exact Vr) (by rw [r8.Q];exact Vr) vo vn mu pa (List.length_pos_iff.2 h8) (by omega) i3 (by rw [r8.fl,hq1,hln,hκ.eL];omega) hκ.c (by omega) (by omega) (by rw [r8.zq];omega) (.inr (r4 (by omega)))).mono ?_;rw [hfs,r8.zq];rintro e w' ⟨rfl,g,σ',rfl,v⟩;refine ⟨by rw [ea];rfl,g,_,?_,v⟩;have e1:(σ.full++σ.fs.flatten).length=Zp n+YC L n*Ze n:=by rw [ZA,r8.fl,hq1,hln]
   refine ⟨fun e=>by omega,fun e=>by omega,fun _=>by show σ.k+66≤132;omega,fun _=>⟨by show σ.k+66≤133;omega,i1,i2,i3⟩,fun _=>r4 (by omega),fun _=>r5 (by omega),fun e=>by omega,fun _=>by show (σ.full++σ.fs.flatten).length≤4096;omega,?_⟩;rw [ZZ h9,Z1 (by omega),Z1 (by omega),Z1 (by omega),ZZ rfl];refine ⟨r8.Q,rfl,r8.Q,rfl,ZT,by show 0=YC L n - YC L n;omega,rfl,by show 0=(YC L n - YC L n)*Ze n;rw [PN,TK],?_⟩;show (σ.full++σ.fs.flatten).length - σ.off=_;rw [e1,i3,VB]
 rw [Z1 h9,Z1 (by omega),Z1 (by omega),ZZ (by omega)] at r8;obtain ⟨t1,t2,t3,t4,t5,t6,t7⟩:=r8;refine (Ng κ σ w h hgl (by rw [t1];exact U3) (by rw [t3];exact U3) vo vn mu pa t5 (by omega)).mono ?_;rw [t2];rintro e w' ⟨rfl,g,σ',rfl,v⟩;refine ⟨by unfold YA;rw [Z1 h9,Z1 (by omega),ZZ hk];rfl,g,_,?_,v⟩;refine ⟨fun e=>by omega,fun _=>r1 (by omega),fun _=>r2 (by omega),fun _=>r3 (by omega),fun _=>r4 (by omega),fun _=>r5 (by omega),fun e=>by omega,fun _=>hfl,?_⟩;rw [Z1 h9,Z1 (by omega),Z1 (by omega),ZZ (by omega)];exact ⟨t1,t2,t3,t4,t5,t6,t7⟩
theorem jy (hκ:Ae κ S L) (h:Sv κ σ w) (hgl:Gl m te pe κ w) (hn:n≤64) (hR:Rk S L n k σ) (hk:k=113) (vo vn:Value) (mu:Bool) (pa:ByteArray) :
    Calls Tryz.prog 14 #[.pointer (some ⟨κ.sB,0,none⟩),.agg #[.int .i64 6,vo,.bool mu,.string pa,vn]] w (lu S L n k κ w):=by
 subst hk;obtain ⟨r0,r1,r2,r3,r4,r5,r6,r7,r8⟩:=hR;have hb:=hκ.b;have hfl:=r7 (by omega);have hk0:=r2 (by omega);obtain ⟨i1,i2,i3⟩:=(r3 (by omega)).2;have ht:YC L n≤110:=Mp _ _
 by_cases h9:Zp n≤L*64
 · rw [ZZ h9,Z1 (by omega),Z1 (by omega),Z1 (by omega),ZZ rfl] at r8
   refine (GE κ σ w h hgl (by rw [r8.T];exact Vr) (by rw [r8.Q];exact Vr) vo vn mu pa (by omega) (r4 (by omega)) (by rw [r8.zf];omega) hfl).mono ?_;rw [r8.zf,i3,VB];rintro e w' ⟨rfl,g,σ',⟨pB,rfl⟩,v⟩;refine ⟨by unfold YA;rw [ZZ h9];rfl,g,_,?_,v⟩;refine ⟨fun e=>by omega,fun e=>by omega,fun e=>by omega,fun _=>⟨by show σ.k+1≤133;omega,i1,i2,rfl⟩,fun e=>by omega,fun _=>rfl,fun _=>rfl,fun _=>hfl,?_⟩;rw [ZZ h9,Z1 (by omega),Z1 (by omega),Z1 (by omega),Z1 (by omega),ZZ rfl];exact ⟨⟨r8.Q,r8.zq,r8.T,rfl,r8.le,r8.fs,r8.fl,r8.ql,by have:=r8.ln;rwa [i3] at this⟩,pB,rfl⟩
 rw [Z1 h9,Z1 (by omega),Z1 (by omega),ZZ (by omega)] at r8;obtain ⟨t1,t2,t3,t4,t5,t6,t7⟩:=r8;refine (GE κ σ w h hgl (by rw [t1];exact U3) (by rw [t3];exact U3) vo vn mu pa (by omega) (r4 (by omega)) (by omega) hfl).mono ?_;have t9:σ.full.length - σ.off=0:=by rw [t7];simp
 rw [t2,t9];rintro e w' ⟨rfl,g,σ',⟨pB,rfl⟩,v⟩;refine ⟨by unfold YA;rw [Z1 h9];rfl,g,_,?_,v⟩;refine ⟨fun e=>by omega,fun e=>by omega,fun e=>by omega,fun _=>⟨by show σ.k+1≤133;omega,i1,i2,i3⟩,fun e=>by omega,fun _=>rfl,fun _=>rfl,fun _=>hfl,?_⟩;rw [Z1 h9,ZZ rfl];exact ⟨⟨t1,rfl,t3,t4,t5,t6,t7⟩,pB,rfl⟩
theorem jx (hκ:Ae κ S L) (h:Sv κ σ w) (hgl:Gl m te pe κ w) (hn:n≤64) (hR:Rk S L n k σ) (hk:k=114) (vo vn:Value) (mu:Bool) (pa:ByteArray) (nw:Rd .i64 w vn [1000]) :
    Calls Tryz.prog 14 #[.pointer (some ⟨κ.sB,0,none⟩),.agg #[.int .i64 7,vo,.bool mu,.string pa,vn]] w (lu S L n k κ w):=by
 subst hk;obtain ⟨r0,r1,r2,r3,r4,r5,r6,r7,r8⟩:=hR;have hb:=hκ.b;have hfl:=r7 (by omega);have hem:=r5 (by omega);have hpw:=r6 rfl;obtain ⟨hk0,i1,i2,i3⟩:=r3 (by omega);have ht:YC L n≤110:=Mp _ _
 by_cases h9:Zp n≤L*64
 · rw [ZZ h9,Z1 (by omega),Z1 (by omega),Z1 (by omega),Z1 (by omega),ZZ rfl] at r8
   obtain ⟨r8,pB,hsn⟩:=r8;have hf:=(Nb (L:=L) (n:=n) (i:=YC L n) h9).1 (DZ _ _);have hfs:σ.fs=[]:=by have:=r8.fs;rw [PN] at this;exact List.length_eq_zero_iff.1 this
   have hln:σ.full.length=Zp n+YC L n*Ze n:=by have:=r8.ln;rwa [i3,VB] at this
   have hok:=mO (n:=n) (i:=YC L n) hn (by omega);have hs:=rA (n:=n) (i:=YC L n);have ea:YA S L n 114=if 47+n≤S*64 then tl wL [YC L n+1] else wU:=by unfold YA;rw [ZZ h9];rfl
   have ec:(((Zi (Yd n (YC L n))).length:Int)≤κ.S*64)=(47+n≤S*64):=by rw [hs,hκ.eS];exact propext ⟨fun h=>by omega,fun h=>by omega⟩
   refine (GC κ σ w h hgl (by rw [r8.T];exact Vr) (by rw [r8.Q];exact Vr) vo vn mu pa nw pB _ _ hsn hem (by rw [r8.T];simp [Yd]) (by rw [r8.T];exact fun j hj=>(hok j hj).1) (by rw [r8.T];exact fun j hj=>(hok j hj).2) (by rw [r8.T,hs];omega) (by rw [r8.T];exact mQ hn (by omega)) hfs hpw i1 i2 i3 ZT (by rw [hln,hκ.eL];omega) (by omega) (by omega) hκ.c).mono ?_;rw [r8.T]
   simp only [ec]
   rintro e w' ⟨rfl,g,σ',⟨l,r,rfl⟩,v⟩;refine ⟨by rw [ea];rfl,g,_,?_,v⟩
   by_cases h8:47+n≤S*64
   · rw [ZZ h8]
     refine ⟨fun e=>by omega,fun e=>by omega,fun e=>by omega,fun e=>by omega,fun e=>by omega,fun e=>by omega,fun e=>by omega,fun _=>hfl,?_⟩;rw [ZZ h9,Z1 (by omega),Z1 (by omega),Z1 (by omega),Z1 (by omega),Z1 (by omega),ZZ rfl,ZZ h8];exact ⟨r8.Q,r8.zq,rfl,r8.zf,r8.le,r8.fs,r8.fl,r8.ql,by show σ.full.length - σ.full.length=0;omega⟩
   rw [Z1 h8];refine ⟨fun e=>by omega,fun e=>by omega,fun e=>by omega,fun e=>by omega,fun e=>by omega,fun e=>by omega,fun e=>by omega,fun _=>hfl,?_⟩;rw [ZZ h9,Z1 (by omega),Z1 (by omega),Z1 (by omega),Z1 (by omega),Z1 (by omega),ZZ rfl,Z1 h8];exact ⟨r8.Q,r8.zq,rfl,r8.zf,r8.le,r8.fs,r8.fl,r8.ql,r8.ln⟩
 rw [Z1 h9,ZZ rfl] at r8;obtain ⟨⟨t1,t2,t3,t4,t5,t6,t7⟩,pB,hsn⟩:=r8;have hok:=mN;have hs:=AG;have ec:((Zi [ZI]).length:Int)≤κ.S*64:=by rw [hs,hκ.eS];omega
 refine (GC κ σ w h hgl (by rw [t1];exact U3) (by rw [t3];exact U3) vo vn mu pa nw pB _ _ hsn hem (by rw [t1];simp) (by rw [t1];exact fun j hj=>(hok j hj).1) (by rw [t1];exact fun j hj=>(hok j hj).2) (by rw [t1,hs];omega) (by rw [t1];exact mP) t5 hpw i1 i2 i3 (Zu _) (by rw [t7,hκ.eL];simp;omega) (by omega) (by omega) hκ.c).mono ?_;rw [t1]
 simp only [ec,Uc]
 rintro e w' ⟨rfl,g,σ',⟨l,r,rfl⟩,v⟩;refine ⟨by unfold YA;rw [Z1 h9];rfl,g,_,?_,v⟩;refine ⟨fun e=>by omega,fun e=>by omega,fun e=>by omega,fun e=>by omega,fun e=>by omega,fun e=>by omega,fun e=>by omega,fun _=>hfl,?_⟩;rw [Z1 h9,Z1 (by omega),ZZ rfl];exact ⟨t3,t4,t6,rfl⟩
theorem AE (hκ:Ae κ S L) (h:Sv κ σ w) (hgl:Gl m te pe κ w) (hn:n≤64) (hR:Rk S L n k σ) (hn1:1≤n) (hk:k<116) (vo vn:Value) (W0:World) (l:Ln) (hl:Xf ((UI n).getD k ⟨#[]⟩)=l) (hb0:ZX W0 w) (h0:Sv κ σ W0) (ho:VU 159 w W0.heap.size vo l.ops) (hnn:Own .i64 2 w W0.heap.size vn l.nums) :
    Calls Tryz.prog 14 #[.pointer (some ⟨κ.sB,0,none⟩),.agg #[.int .i64 l.kind,vo,.bool l.VK,.string l.path,vn]] w (lu S L n k κ w):=by
 have Qc:Tk κ vo:=by
  intro q hq;have hge:=(ZD ho q hq).1;obtain ⟨vd,made,ZQ,a1,-⟩:=h0.dk;obtain ⟨vt,vq,cp,b1,-,-,-,-,-,b7,-⟩:=h0.mm;obtain ⟨Lv,s,r,c1,-⟩:=h0.ch;have z1:=a1.lt;have z2:=b1.lt;have z3:=(Yh.1 c1).1;have z4:κ.lb<W0.heap.size:=(b7.lt κ.lb rfl).2;refine ⟨by omega,by omega,by omega,by omega,fun hx=>?_⟩;have:=(h0.fx q hx).1;omega
 have GD:∀q,vo.ownBlock=some q→q<w.heap.size:=fun q hq=>(ZD ho q hq).2
 rw [vG n k hk] at hl
 by_cases e0:k=0
 · rw [ZZ e0,ry hn1 hn] at hl
   subst hl;exact jz hκ h hgl hn hR e0 vo vn _ ho.rd Qc GD
 rw [Z1 e0] at hl
 by_cases e1:k=1
 · rw [ZZ e1,CV] at hl
   subst hl;exact qk hκ h hgl hn hR (.inl e1) vo vn _ _
 rw [Z1 e1] at hl
 by_cases e2:k<112
 · rw [ZZ e2,CW hn1 hn] at hl
   subst hl;exact qm hκ h hgl hn hR (.inl (by omega)) vo vn _ ho.rd Qc GD
 rw [Z1 e2] at hl
 by_cases e3:k=112
 · rw [ZZ e3,CV] at hl
   subst hl;exact qk hκ h hgl hn hR (.inr e3) vo vn _ _
 rw [Z1 e3] at hl
 by_cases e4:k=113
 · rw [ZZ e4,rv] at hl
   subst hl;exact jy hκ h hgl hn hR e4 vo vn _ _
 rw [Z1 e4] at hl
 by_cases e5:k=114
 · rw [ZZ e5,ru] at hl
   subst hl;exact jx hκ h hgl hn hR e5 vo vn _ _ (Own.rd hnn)
 rw [Z1 e5,CW hn1 hn] at hl;subst hl;exact qm hκ h hgl hn hR (.inr (by omega)) vo vn _ ho.rd Qc GD
end
end
section
open Go.RowKit Go.Shelf
variable {ops:Array Oper} {s:ByteArray} {L S:Int} {ls:List ByteArray} {ns:List Nd} {B Bo b blk cap hi i j k lo n o z:Nat} {r:Dq} {u v v1 v2 vt:Value} {W W' w:World}
theorem Eu (W:World) (x:Nat):Rd .u8 (W.alloc (.cells #[.int .u8 (x:Int)] 5)) (.slice (some ⟨W.heap.size,0,none⟩) 1 1) [(x:Int)]:=by
 refine ⟨_,_,rfl,ZT,by unfold maxLen;omega,.inr ⟨W.heap.size,0,rfl,by simp,fun i hi=>?_⟩⟩;have:i=0:=by simp at hi;omega
 subst this
 simp
theorem vD (w:World) (n:Nat) (hn:n<10) :
    Calls Tryz.prog 15 #[.int .i64 (n:Int)] w fun e w'=>∃s:ByteArray,e=.returned (.string s)∧s=strOfNums [48+(n:Int)]∧ZX w w':=by
 have h0:¬(n:Int)<0:=by omega
 have h1:(n:Int)<10:=by omega
 have hcv:=WS (Eu w (48+n));rw [show ((48+n:Nat):Int)=48+(n:Int) by omega] at hcv;have B0:Hid (ZX w (w.alloc (.cells #[.int .u8 (48+(n:Int))] 5))):=ZJ.alloc ZT _
 go_enter Tryz.func15,Tryz.ntmps15
 go_wp2;go_ret;exact ⟨_,rfl,rfl,B0.out⟩
theorem vC (w:World) (a d:Nat) (sa:ByteArray) (ha:a<1000000) (ha1:1≤a) (hd:d<10) (hz:sa.size≤1000) (hc:∀W,Calls Tryz.prog 15 #[.int .i64 (a:Int)] W fun e w'=>∃s:ByteArray,e=.returned (.string s)∧s=sa∧ZX W w') :
    Calls Tryz.prog 15 #[.int .i64 (10*(a:Int)+(d:Int))] w fun e w'=>∃s:ByteArray,e=.returned (.string s)∧s=sa++strOfNums [48+(d:Int)]∧ZX w w':=by
 have h0:¬10*(a:Int)+(d:Int)<0:=by omega
 have h1:¬10*(a:Int)+(d:Int)<10:=by omega
 have hq:IntKind.i64.wrap ((10*(a:Int)+(d:Int)).tdiv 10)=(a:Int):=by
  rw [lp (by omega),XK];omega
 have hr:(10*(a:Int)+(d:Int)).tmod 10=(d:Int):=by
  rw [Int.tmod_eq_emod_of_nonneg (by omega)];omega
 have hw1:IntKind.i64.wrap (48+(d:Int))=48+(d:Int):=by
  rw [XK];omega
 have hw2:IntKind.u8.wrap (48+(d:Int))=48+(d:Int):=by
  rw [IntKind.wrap_u8];omega
 have HC:=Z3 hc;clear hc;have hsn:(strOfNums [48+(d:Int)]).size=1:=by rw [strOfNums_size];rfl
 go_enter Tryz.func15,Tryz.ntmps15
 go_wp2_with fail
 have B0:Hid (ZX w w.drew):=below_drewN' w 1;refine ZH (S:=fun _=>True) (by kernel_rfl) trivial (fun Z9=>?_);generalize w.drew=m0 at *;refine ZW (.int .i64 (10*(a:Int)+(d:Int))) (by kernel_rfl) (fun _=>id) Z9 (fun w9 Z0=>by (clear Z0;go_simp;try (first | with_reducible rfl | assumption))) ?_;refine ZW (.int .i64 (a:Int)) (by kernel_rfl) (fun _=>id) Z9 (fun w9 Z0=>by (clear Z0;go_simp;try (first | with_reducible rfl | assumption))) ?_;refine ZG 3 (.int .i64 (10*(a:Int)+(d:Int))) rfl (by kernel_rfl) (fun _=>id) Z9 (fun w9 Z0=>by (clear Z0;go_simp;try (first | with_reducible rfl | assumption))) ?_;refine ZG 4 (.int .i64 (d:Int)) rfl (by kernel_rfl) (fun _=>id) Z9 (fun w9 Z0=>by (clear Z0;go_simp;try (first | with_reducible rfl | assumption))) ?_;refine ZG 5 (.int .i64 (48+(d:Int))) rfl (by kernel_rfl) (fun _=>id) Z9 (fun w9 Z0=>by (clear Z0;go_simp;try (first | with_reducible rfl | assumption))) ?_;refine ZG 6 (.int .u8 (48+(d:Int))) rfl (by kernel_rfl) (fun _=>id) Z9 (fun w9 Z0=>by (clear Z0;go_simp;try (first | with_reducible rfl | assumption))) ?_;refine UY 2 7 rfl rfl (by kernel_rfl) (fun K hK=>?_) (fun K hK=>?_)
 · go_simp
   refine (HC.out m0).mono ?_;rintro e m1 ⟨s9,rfl,LJ,bN⟩;have HE:=Z3 LJ
   replace LJ:s9.size≤1000:=by rw [LJ];exact hz
   replace B0:=Z3 (YV B0.out bN)
   refine hK.out _ _ trivial (fun ZM=>?_);clear hK K ZM bN;refine ZU 7 rfl (by kernel_rfl) (fun K hK=>?_);have bN:ZX m1 (m1.alloc (.cells #[.int .u8 (48+(d:Int))] 5)):=ZJ.alloc ZT _;have U:=Eu m1 (48+d);rw [show ((48+d:Nat):Int)=48+(d:Int) by omega] at U;have R0:=Z3 U;clear U
   replace B0:=Z3 (YV B0.out bN)
   go_simp;refine hK.out _ _ trivial (fun ZM=>?_);clear hK K ZM bN;generalize m1.alloc _=m2 at *;generalize m1.heap.size=bb at *;refine ZU 8 rfl (by kernel_rfl) (fun K hK=>?_);have hcv:=WS R0.out;go_simp;refine hK.out _ _ trivial (fun ZM=>?_);clear hK K ZM hcv;refine ZW (.string (s9++strOfNums [48+(d:Int)])) (by kernel_rfl) (fun _=>id) Z9 (fun w9 Z0=>by (clear Z0;go_simp;try (first | with_reducible rfl | omega))) ?_;refine ZW (.string (s9++strOfNums [48+(d:Int)])) (by kernel_rfl) (fun _=>id) Z9 (fun w9 Z0=>by (clear Z0;go_simp;try (first | with_reducible rfl | assumption))) ?_;refine ZP (by kernel_rfl) ?_ _
   try simp only [Act.put,Y8,Y7,Y6]
   go_wp2;go_ret;refine ⟨_,rfl,?_,B0.out⟩;rw [HE.out]
 have bN:ZX m0 (m0.alloc (.cells #[.int .u8 (48+(d:Int))] 5)):=ZJ.alloc ZT _;have U:=Eu m0 (48+d);rw [show ((48+d:Nat):Int)=48+(d:Int) by omega] at U;have R0:=Z3 U;clear U
 replace B0:=Z3 (YV B0.out bN)
 go_simp;refine hK.out _ _ trivial (fun ZM=>?_);clear hK K ZM bN;generalize m0.alloc _=m4 at *;generalize m0.heap.size=bb at *;refine UY 2 8 rfl rfl (by kernel_rfl) (fun K hK=>?_) (fun K hK=>?_)
 · go_simp
   refine (HC.out m4).mono ?_;rintro e m5 ⟨s9,rfl,LJ,bN⟩;have HE:=Z3 LJ
   replace LJ:s9.size≤1000:=by rw [LJ];exact hz
   replace B0:=Z3 (YV B0.out bN)
   replace R0:=Z3 (R0.out.below bN)
   refine hK.out _ _ trivial (fun ZM=>?_);clear hK K ZM bN;refine ZU 8 rfl (by kernel_rfl) (fun K hK=>?_);have hcv:=WS R0.out;go_simp;refine hK.out _ _ trivial (fun ZM=>?_);clear hK K ZM hcv;refine ZW (.string (s9++strOfNums [48+(d:Int)])) (by kernel_rfl) (fun _=>id) Z9 (fun w9 Z0=>by (clear Z0;go_simp;try (first | with_reducible rfl | omega))) ?_;refine ZW (.string (s9++strOfNums [48+(d:Int)])) (by kernel_rfl) (fun _=>id) Z9 (fun w9 Z0=>by (clear Z0;go_simp;try (first | with_reducible rfl | assumption))) ?_;refine ZP (by kernel_rfl) ?_ _
   try simp only [Act.put,Y8,Y7,Y6]
   go_wp2;go_ret;refine ⟨_,rfl,?_,B0.out⟩;rw [HE.out]
 have hcv:=WS R0.out;go_simp;refine hK.out _ _ trivial (fun ZM=>?_);clear hK K ZM hcv;refine ZU 2 rfl (by kernel_rfl) (fun K hK=>?_);go_simp;refine (HC.out m4).mono ?_;rintro e m8 ⟨s9,rfl,LJ,bN⟩;have HE:=Z3 LJ
 replace LJ:s9.size≤1000:=by rw [LJ];exact hz
 replace B0:=Z3 (YV B0.out bN)
 refine hK.out _ _ trivial (fun ZM=>?_);clear hK K ZM bN;refine ZW (.string (s9++strOfNums [48+(d:Int)])) (by kernel_rfl) (fun _=>id) Z9 (fun w9 Z0=>by (clear Z0;go_simp;try (first | with_reducible rfl | omega))) ?_;refine ZW (.string (s9++strOfNums [48+(d:Int)])) (by kernel_rfl) (fun _=>id) Z9 (fun w9 Z0=>by (clear Z0;go_simp;try (first | with_reducible rfl | assumption))) ?_;refine ZP (by kernel_rfl) ?_ _
 try simp only [Act.put,Y8,Y7,Y6]
 go_wp2;go_ret;refine ⟨_,rfl,?_,B0.out⟩;rw [HE.out]
def Et (n:Nat):ByteArray:=strOfNums (UU n)
theorem mL:∀n:Nat,n<10→strOfNums [48+(n:Int)]=Et n:=by decide +kernel
theorem mJ:∀n:Nat,n<200→10≤n→Et (n / 10)++strOfNums [48+((n % 10:Nat):Int)]=Et n:=by decide +kernel
theorem vz:∀n:Nat,n<200→(Et n).size≤3:=by decide +kernel
theorem AD (w:World) (n:Nat) (hn:n<200) :
    Calls Tryz.prog 15 #[.int .i64 (n:Int)] w fun e w'=>∃s:ByteArray,e=.returned (.string s)∧s=Et n∧ZX w w':=by
 induction n using Nat.strongRecOn generalizing w with
 | ind n ih =>
  by_cases h:n<10
  · rw [←mL n h];exact vD w n h
  have:=vC w (n / 10) (n % 10) (Et (n / 10)) (by omega) (by omega) (by omega) (by have:=vz (n / 10) (by omega);omega) (fun W=>ih (n / 10) (by omega) W (by omega));rw [show 10*((n / 10:Nat):Int)+((n % 10:Nat):Int)=(n:Int) by omega,mJ n hn (by omega)] at this;exact this
theorem SP (a b:List Int):strOfNums (a++b)=strOfNums a++strOfNums b:=by
 apply Lm;rw [Lo];unfold strOfNums
 simp
theorem Es (s:ByteArray) (z:Nat):tl s [z]=s++(⟨#[32]⟩++Et z):=by
 unfold tl Yx;rw [FQ,uk,TX,SP,show XS s=bI s from rfl,GF,show ((32:Int) :: UU z)=[32]++UU z from rfl,SP]
 rfl
theorem PV (w:World) (s:ByteArray) (b off cap:Nat) (z:Nat) (hc:w.cell? ⟨b,off,none⟩=some (.int .i64 (z:Int))) (hz:z<200) (hs:s.size≤1000) :
    Calls Tryz.prog 8 #[.string s,.slice (some ⟨b,off,none⟩) 1 cap] w (YI w (.string (tl s [z]))):=by
 have HD:=Z3 (AD w z hz);have hz3:=vz z hz;have HE:=Z3 (Es s z);have hb:=YJ w _ hc;generalize tl s [z]=t at *;generalize Et z=d at *
 go_enter Tryz.func8,Tryz.ntmps8
 go_wp2_with fail
 go_loopw [0,5] (fun v0 v5 wr=>(v0=.string s∧v5=.int .i64 0∧wr=w)∨(v0=.string t∧v5=.int .i64 1∧Hid (ZX w wr))) (fun _ v _=>(1 - intOf v).toNat)
 case atStart=>exact .inl ⟨rfl,rfl,rfl⟩
 case round =>
  rcases hrel with ⟨rfl,rfl,rfl⟩ | ⟨rfl,rfl,HB⟩
  · go_wp2_with fail
    refine HD.out.mono ?_;rintro e w2 ⟨s9,rfl,LJ,b2⟩;have B2:=Z3 b2;have h9:s9.size≤3:=by rw [LJ];exact hz3
    have HT:Hid (s++(⟨#[32]⟩++s9)=t):=by show _=_;rw [LJ];exact HE.out.symm
    have h32:(⟨#[32]⟩++s9:ByteArray).size=1+s9.size:=by rw [uo];rfl
    clear b2 LJ hc
    go_wp2_with fail
    exact ⟨.inr ⟨by rw [HT.out],by go_num,B2⟩,by simp [intOf]⟩
  go_wp2;go_ret;exact ⟨rfl,HB.out⟩
def jw (w:World) (v:Value) (ls:List ByteArray):Prop :=
 ∃ao cap,v=.slice ao ls.length cap∧ls.length≤cap∧cap≤maxLen∧(ls=[]∨∃b off,ao=some ⟨b,off,none⟩∧b<w.heap.size∧∀i,i<ls.length→w.cell? ⟨b,off+i,none⟩=some (.string (ls.getD i ⟨#[]⟩)))
def Zv (ls:List ByteArray):List Int:=ls.flatMap fun s=>XS s++[10]
theorem Er (w:World) (v:Value) (ls:List ByteArray) (h:jw w v ls) (hn:ls.length≤1000000) (hl:(Zv ls).length≤1000000) :
    Calls Tryz.prog 7 #[v] w fun e w'=>∃v',e=.returned v'∧Xp w' w.heap.size v' (Zv ls)∧ZX w w':=by
 obtain ⟨ao,cp,rfl,h1,h2,h3⟩:=h;have HR:=Z3 h3;have HL:=Z3 hl;have O0:Hid (Xp (w.alloc (.cells #[] 5)) w.heap.size (.slice (some ⟨w.heap.size,0,none⟩) 0 0) []):=Ig (w:=w) (base:=w.heap.size) (cap:=0) (xs:=[]) (T:=#[]) ZT ZT (Zu _) rfl;have B0:Hid (ZX w (w.alloc (.cells #[] 5))):=ZJ.alloc ZT _;clear h3 hl
 go_enter Tryz.func7,Tryz.ntmps7
 go_wp2_with fail
 generalize w.alloc _=w1 at *
 go_loopw [3,4] (fun v3 v4 wr=>∃i:Nat,v4=.int .i64 (i:Int)∧i≤ls.length∧Hid (Xp wr w.heap.size v3 (Zv (ls.take i)))∧Hid (ZX w wr)) (fun _ v _=>((ls.length:Int) - intOf v).toNat)
 case atStart=>exact ⟨0,rfl,Zu _,O0,B0⟩
 case round =>
  obtain ⟨i,rfl,hi,OH,BH⟩:=hrel
  by_cases hc:i<ls.length
  · obtain ⟨b,off,rfl,hb,hcl⟩:=HR.out.resolve_left (fun e=>by rw [e] at hc;simp at hc)
    have hci:=(BH.out.cell (p:=⟨b,off+i,none⟩) hb).trans (hcl i hc);have hst:Zv (ls.take (i+1))=(Zv (ls.take i)++XS (ls.getD i ⟨#[]⟩))++[10]:=by
     unfold Zv;rw [TL hc,MY]
     simp [List.getD,hc]
    have hle:(Zv (ls.take (i+1))).length≤1000000:=by
     refine ZF ?_ HL.out;unfold Zv
     conv=>rhs;rw [←VC (i+1) ls,MY,ZA]
     omega
    rw [hst,ZA,ZA,YP] at hle;have HST:=Z3 hst;have sB:=BH.out.size;clear hcl hst;generalize ls.getD i ⟨#[]⟩=t at *;have lV:=Z3 hle;clear hle
    go_wp2_with (at_builtin;go_must (refine VD rfl _ _ rfl w.heap.size _ (Zv (ls.take i)) t rfl rfl OH.out sB (by have:=lV.out;omega) ?_))
    intro v2 w2 o2 g2;have O2:Hid (Xp (w2.alloc (.cells #[.int .u8 10] 5)) w.heap.size v2 (Zv (ls.take i)++XS t)):=o2.below ((Below.refl w2.heap.size w2).alloc ZT _);have b2:=BH.out.grown g2 sB OH.out.lt;have s2:=b2.size;have B2:Hid (ZX w (w2.alloc (.cells #[.int .u8 10] 5))):=b2.alloc s2 _;clear o2 g2 OH BH sB b2
    go_wp2_with (at_builtin;go_must (refine TZ rfl _ _ rfl w.heap.size _ (Zv (ls.take i)++XS t) [10] ⟨w2.heap.size,0,none⟩ 1 1 rfl rfl rfl O2.out (by simp;omega) (by have:=lV.out;rw [ZA,YP];simp at this ⊢;omega) (Vx _ _ _) ?_))
    intro v3 w3 o3 g3;have O3:=Z3 o3;have B3:=Z3 (B2.out.grown g3 (by simp;omega) O2.out.lt);clear o3 g3 O2 B2
    go_wp2_with fail
    refine ⟨⟨i+1,by go_num,by omega,?_,B3⟩,by simp [intOf];omega⟩;show Xp _ _ _ _;rw [HST.out,YM];exact O3.out
  have hie:i=ls.length:=by omega
  subst hie;rw [Rw] at OH;go_wp2;go_ret;exact ⟨_,rfl,OH.out,BH.out⟩
def qj (ls:List ByteArray):ByteArray:=Xv (ls.flatMap fun s=>s.data.toList++[10])
theorem vy (ls:List ByteArray):bI (qj ls)=Zv ls:=by
 unfold bI qj Zv;rw [UJ,List.map_flatMap]
 congr 1
 funext s
 rw [Wn]
 rfl
theorem CQ:∀(ls:List ByteArray),(∀s ∈ ls,(10:UInt8) ∉ s.data.toList)→(VL 10 [] (qj ls).data.toList).map Xv=ls++[⟨#[]⟩]
 | [],_=>rfl
 | s :: ls,h=>by
  have e:(qj (s :: ls)).data.toList=s.data.toList++10 :: (qj ls).data.toList:=by
   unfold qj;rw [UJ,UJ,FQ,YM]
   rfl
  rw [e,Vm _ _ _ (h s (Wk ..)),TM,CQ ls (fun t ht=>h t (Yl _ ht)),Yw,QF]
  rfl
theorem Vs.Fr {L:List ByteArray} (h:Vs w lo v L):jw w v L:=by
 have h':=h
 rcases h.2 with ⟨rfl,h9⟩ | ⟨g,cap,cur,rfl,h1,h2,h3,h4,h5,h6⟩
 · refine ⟨none,0,by rw [h9],by omega,Zu _,.inl (TN h9)⟩
 refine ⟨_,cap,rfl,h3,h4,.inr ⟨g,0,rfl,(Yh.1 h2).1,fun i hi=>?_⟩⟩;rw [YK,Jn h' i (by omega),Qs,Xc hi,List.getD,Xc hi]
 rfl
theorem Gx (w:World) (v:Value) (b:ByteArray) (ls:List ByteArray) (h:Rd .u8 w v (bI b)) (h0:0<b.size) (hs:b.size≤1048576) (hls:(VL 10 [] b.data.toList).map Xv=ls++[⟨#[]⟩]) :
    Calls Tryz.prog 5 #[v] w fun e w'=>∃v',e=.returned v'∧Vs w' w.heap.size v' ls∧ZX w w':=by
 obtain ⟨B,o,cap,rfl,hBl⟩:∃B o cap,v=.slice (some ⟨B,o,none⟩) b.size cap∧B<w.heap.size:=by
  obtain ⟨ao,cp,rfl,h1,h2,h3⟩:=h
  rcases h3 with h3 | ⟨b',o',rfl,hl,-⟩
  · have:=U6 b;rw [h3] at this;simp at this;omega
  exact ⟨b',o',cp,by rw [U6],hl⟩
 obtain ⟨iq,rE,hq0,rD,rC⟩:=Yq Tryz.vZ;have HR:=Z3 h;have nO:=Z3 hls;obtain ⟨hcc,hcm⟩:b.size≤cap∧cap≤maxLen:=by
  obtain ⟨ao,cp,e,h1,h2,-⟩:=h
  injection e with e1 e2 e3
  subst e3;rw [U6] at h1;exact ⟨h1,h2⟩
 have HC:Hid (∀W,ZX w W→∀i (hi:i<b.size),W.cell? ⟨B,o+i,none⟩=some (.int .u8 ((b[i]'hi).toNat:Int))):=fun W hb i hi=>by
  obtain ⟨ao,cp,e,h1,h2,h3⟩:=HR.out.below hb
  rcases h3 with h3 | ⟨b',o',e',hl,hc⟩
  · have:=U6 b;rw [h3] at this;simp at this;omega
  injection e with e1
  rw [e'] at e1
  injection e1 with e1
  injection e1 with e1 e2
  subst e1 e2;rw [hc i (by rw [U6];exact hi),ng b i hi]
 unfold maxLen at hcm;clear h hls
 go_enter Tryz.func5,Tryz.ntmps5
 go_wp2_with fail
 have B0:Hid (ZX w (w.alloc (.cells #[] 9))):=ZJ.alloc ZT _;have O0:Hid (Vs (w.alloc (.cells #[] 9)) w.heap.size (.slice (some ⟨w.heap.size,0,none⟩) 0 0) []):=Vs.nil w w.heap.size ZT;generalize w.alloc _=w1 at *
 go_loopw [3,4,5] (fun v5 v6 v7 wr=>∃(i fr:Nat) (D:List ByteArray) (g co:Nat),v5=.slice (some ⟨g,0,none⟩) D.length co∧v6=.int .i64 (fr:Int)∧v7=.int .i64 (i:Int)∧fr≤i∧i≤b.size∧D.length≤i∧Hid (Vs wr w.heap.size (.slice (some ⟨g,0,none⟩) D.length co) D)∧Hid (ZX w wr)∧Hid ((VL 10 [] b.data.toList).map Xv=D++(VL 10 ((b.data.toList.drop fr).take (i - fr)) (b.data.toList.drop i)).map Xv)) (fun _ _ i _=>b.size - (intOf i).toNat)
 case atStart=>exact ⟨0,0,[],w.heap.size,0,rfl,rfl,rfl,ZT,Zu _,ZT,O0,B0,by show _=_;simp⟩
 case round =>
  obtain ⟨i,fr,D,g,co,rfl,rfl,rfl,hfi,hi,Zn,HO,HB,HE⟩:=hrel;clear O0 B0;have sB:=HB.out.size
  by_cases hlt:i<b.size
  · have Vp:(i:Int)<(b.size:Int):=by omega
    have hc:=HC.out wr HB.out i hlt
    by_cases R:b[i]=10
    · have hq:(((b[i].toNat:Nat):Int) == 10)=true:=by rw [R];rfl
      have hE2:(VL 10 [] b.data.toList).map Xv=(D++[Xv ((b.data.toList.drop fr).take (i - fr))])++(VL 10 ((b.data.toList.drop (i+1)).take (i+1 - (i+1))) (b.data.toList.drop (i+1))).map Xv:=by
       rw [HE.out,drop_at b i hlt,R,QH]
       simp
      have HE2:=Z3 hE2;have hcv:(convert 22 9 (.slice (some ⟨B,o+fr,none⟩) (i - fr) (cap - fr))).run Tryz.prog wr=.ok (.string (Xv ((b.data.toList.drop fr).take (i - fr)))) wr:=by
       rw [←we];exact WS (nf (HR.out.below HB.out) fr (i - fr) (by omega))
      have hfc:fr<cap:=by omega
      have Zq:(fr:Int)≤(i:Int):=by omega
      clear hE2 HE R;generalize Xv ((b.data.toList.drop fr).take (i - fr))=Ap at *;have OR:Hid (wr.ownsRow w.heap.size 9 1 (.slice (some ⟨g,0,none⟩) D.length co) D.length (D.map Value.string)):=HO.out
      go_wp2_with (at_builtin;go_must (refine wpList_append_lies _ rfl _ _ 26 rfl w.heap.size 9 iq (.string ByteArray.empty) 1 16 Tryz.underlying26 rE hq0 rD rC rfl (by decide) _ _ _ rfl (OR.out.alloc _) ⟨wr.heap.size,0,none⟩ 1 1 [.string Ap] rfl rfl (Vx _ _ _) (by intro u hu;simp at hu;subst hu;rfl) (by decide) ?c3 ?c4 ?c5 _ rfl ?_))
      case c3=>unfold maxLen;omega
      case c4=>omega
      case c5=>first | omega | (simp;omega)
      intro g5 k5 w5 Vj hg5 P1 QL;have O5:Hid (Vs w5 w.heap.size (.slice (some ⟨g5,0,none⟩) (D++[Ap]).length k5) (D++[Ap])):=by
       show World.ownsRow _ _ _ _ _ _ _;rw [ZA,Wn];exact Vj
      have B5:Hid (ZX w w5):=(HB.out.alloc sB _).grown hg5 (by simp;omega) (fun q hq=>(ZD OR.out q hq).1);clear Vj hg5 P1 QL OR HO HB hcv hc
      go_wp2_with fail
      exact ⟨⟨i+1,i+1,D++[Ap],g5,k5,by rw [ZA];rfl,by go_num,by go_num,ZT,hlt,by rw [ZA];simp;omega,O5,B5,HE2⟩,by simp [intOf];omega⟩
    have hq:(((b[i].toNat:Nat):Int) == 10)=false:=Mi (fun e=>R (DX (by show b[i].toNat=10;omega)));have hE2:(VL 10 [] b.data.toList).map Xv=D++(VL 10 ((b.data.toList.drop fr).take (i+1 - fr)) (b.data.toList.drop (i+1))).map Xv:=by
     rw [HE.out,drop_at b i hlt,QG R,rH b fr i hfi hlt]
    have HE2:=Z3 hE2;clear hE2 HE R
    go_wp2_with fail
    exact ⟨⟨i+1,fr,D,g,co,rfl,rfl,by go_num,by omega,hlt,by omega,HO,HB,HE2⟩,by simp [intOf];omega⟩
  have hin:i=b.size:=by omega
  have hE2:D=ls∧fr=b.size:=by
   have hd:b.data.toList.drop b.size=[]:=Jy (by rw [WW];exact ZT);have e:=HE.out;rw [hin,hd,QI,nO.out] at e;have e1:=List.append_inj' e (by simp);refine ⟨e1.1.symm,?_⟩;have e2:(⟨#[]⟩:ByteArray)=Xv ((b.data.toList.drop fr).take (b.size - fr)):=by simpa using e1.2
   have e3:=ZR (fun x:ByteArray=>x.data.toList.length) e2
   simp only [UJ,XU,Zd,WW] at e3
   rw [Wo] at e3;omega
  obtain ⟨rfl,hfe⟩:=hE2;have Vp:¬(i:Int)<(b.size:Int):=by omega
  have nx:¬(fr:Int)<(b.size:Int):=by omega
  clear HE nO hin hfe;go_wp2;go_ret;exact ⟨_,rfl,HO.out,HB.out⟩
attribute [local go_sem] VA
def VH (ls:List ByteArray) (k:Nat):Nat:=(Zv (ls.take k)).length
theorem vw (ls:List ByteArray):VH ls 0=0:=rfl
theorem Ug (s:ByteArray) (ls:List ByteArray):Zv (s :: ls)=XS s++10 :: Zv ls:=by
 unfold Zv;rw [FQ,YM]
 rfl
theorem PU (a b:List ByteArray):Zv (a++b)=Zv a++Zv b:=by unfold Zv;rw [MY]
theorem vu (h:k<ls.length):VH ls (k+1)=VH ls k+((ls.getD k ⟨#[]⟩).size+1):=by
 unfold VH;rw [TL h,PU,ZA,Ug,List.getD,Xc h,ZA,YP]
 rfl
theorem rq (ls:List ByteArray):VH ls ls.length=(Zv ls).length:=by unfold VH;rw [Rw]
theorem PT (h:k<ls.length):(Zv ls).drop (VH ls k)=XS (ls.getD k ⟨#[]⟩)++10 :: Zv (ls.drop (k+1)):=by
 have e:Zv ls=Zv (ls.take k)++Zv (ls.drop k):=by rw [←PU,VC]
 rw [e];unfold VH;rw [List.drop_left,Jz h,Ug,List.getD,Xc h]
 rfl
theorem J1 (h:k<ls.length):VH ls k+((ls.getD k ⟨#[]⟩).size+1)≤(Zv ls).length:=by
 have:=ZR List.length (PT h);rw [Zd,ZA,YP,Yr] at this;omega
theorem qi:∀(s:List UInt8) (r:List UInt8),(10:UInt8) ∉ s→Lib.indexByte (s++10 :: r) 10=(s.length:Int)
 | [],r,_=>rfl
 | b :: s,r,h=>by
  have h1:(b == 10)=false:=Mi (fun e=>h (by rw [e];exact Wk ..));have ih:=qi s r (fun e=>h (Yl _ e));rw [Vq];unfold Lib.indexByte;rw [h1,ih];have h2:(((s.length:Nat):Int) == -1)=false:=Mi (by omega);rw [h2]
  simp
theorem Gv (s:ByteArray):Lib.bytesOf (XS s)=s.data.toList:=by
 unfold Lib.bytesOf XS;rw [uh]
 conv=>rhs;rw [←List.map_id s.data.toList]
 refine ui fun x _=>?_
 simp
theorem vh (h:k<ls.length) (hn:∀s ∈ ls,(10:UInt8) ∉ s.data.toList):Lib.indexByte (Lib.bytesOf ((Zv ls).drop (VH ls k))) 10=((ls.getD k ⟨#[]⟩).size:Int):=by
 have h1:(10:UInt8) ∉ (ls.getD k ⟨#[]⟩).data.toList:=by
  rw [List.getD,Xc h];exact hn _ (UO h)
 rw [PT h,show Lib.bytesOf (XS (ls.getD k ⟨#[]⟩)++10 :: Zv (ls.drop (k+1)))=(ls.getD k ⟨#[]⟩).data.toList++10 :: Lib.bytesOf (Zv (ls.drop (k+1))) by
  rw [←Gv];unfold Lib.bytesOf;rw [Wn];rfl]
 rw [qi _ _ h1,WW]
def Gu (B:Nat) (W:World):Nat:=match W.cell? ⟨B,0,none⟩ with
 | some (.slice _ n _)=>n
 | _=>0
theorem Gt {t:TypeId} {a:Option Addr} {c:Nat} (h:Boxed W B t (.slice a n c)):Gu B W=n:=by unfold Gu;rw [h.cell]
theorem vg (n:Nat) (ao:Option Addr) (m cap:Nat) (w:World) :
    CallsIn Fence.wide n Tryz.prog 11 #[.slice ao m cap] w fun e w'=>e=.returned (.func (.func 21) #[] #[.pointer (some ⟨w.heap.size,0,none⟩)])∧w'=w.alloc (.cells #[.slice ao m cap] 22):=by
 refine SC Tryz.func11 rfl trivial ?_ rfl
 simp only [Tryz.ntmps11,Zm,Yr,Wo,Nat.reduceAdd,Nat.reduceSub,JO,JN,Wj,Ur,Yw,Vq]
 gi_wp2;go_ret;exact ⟨rfl,rfl⟩
theorem Eq (nn:Nat) (hn1:1≤nn) (l V B o N cap:Nat) (ls:List ByteArray) (hno:∀s ∈ ls,(10:UInt8) ∉ s.data.toList) (hN:(Zv ls).length=N) (uG:N≤1048576) (hc1:N≤cap) (hc2:cap≤maxLen)
    (St:Nat→World→Prop) (Bk:World→Prop)
    (iT:∀k X Y,ZX X Y→St k X→St k Y) (iS:∀X Y,ZX X Y→Bk X→Bk Y)
    (hSW:∀k X v,St k X→St k (X.setCell ⟨V,0,none⟩ v)) (hBW:∀X v,Bk X→Bk (X.setCell ⟨V,0,none⟩ v))
    (hSR:∀k W,St k W→∀i,i<N→W.cell? ⟨B,o+i,none⟩=some (.int .u8 ((Zv ls).getD i 0)))
    (hY:∀k vs W,St k W→Bk W→(k<ls.length∧vs=#[.slice (some ⟨B,o+VH ls k,none⟩) ((ls.getD k ⟨#[]⟩).size+1) ((ls.getD k ⟨#[]⟩).size+1)])→YieldAt Fence.wide (nn - 1) Tryz.prog l vs W fun e W'=>e=.returned (.bool true)∧St (k+1) W'∧Bk W'∧W'.heap[V]?=W.heap[V]?)
    (W:World) (h0:St 0 W) (h1:Bk W) (hs:Boxed W V 22 (.slice (some ⟨B,o,none⟩) N cap)) (hls:0<ls.length) :
    CallsIn Fence.wide nn Tryz.prog 21 #[.func (.yield l) #[] #[],.pointer (some ⟨V,0,none⟩)] W fun e W'=>(∃v,e=.returned v)∧St ls.length W'∧Bk W':=by
 have HY:=Z3 hY;have lZ:=Z3 iT;have eQ:=Z3 iS;have ik:=Z3 hSW;have kX:=Z3 hBW;have iR:=Z3 hSR;have H0:=Z3 h0;have H1:=Z3 h1;have oR:Hid (Boxed W V 22 (.slice (some ⟨B,o+VH ls 0,none⟩) (N - VH ls 0) (cap - VH ls 0))):=by
  show Boxed _ _ _ _;rw [vw];exact hs
 have WG:=Z3 hno;have HN:=Z3 hN;unfold maxLen at hc2;clear hY iT iS hSW hBW hSR h0 h1 hs hno hN;refine SC Tryz.func21 rfl trivial ?_ rfl
 simp only [Tryz.ntmps21,Zm,Yr,Wo,Nat.reduceAdd,Nat.reduceSub,JO,JN,Wj,Ur,Yw,Vq]
 gi_wp2
 gi_loopw [] (fun wr=>∃(k:Nat) (vs:Value),Hid (St k wr)∧Hid (Bk wr)∧Hid (Boxed wr V 22 vs)∧Hid ((k<ls.length∧vs=.slice (some ⟨B,o+VH ls k,none⟩) (N - VH ls k) (cap - VH ls k))∨(k=ls.length∧∃a c,vs=.slice a 0 c))) (fun wr=>Gu V wr)
 case atStart=>exact ⟨0,_,H0,H1,oR,.inl ⟨hls,rfl⟩⟩
 case round =>
  obtain ⟨k,vs,HS,HB,HX,HC⟩:=hrel
  rcases HC.out with ⟨hk,rfl⟩ | ⟨hk,a,c,rfl⟩
  · have hle:=J1 hk
    have hidx:=vh hk WG.out;have hxl:((Zv ls).drop (VH ls k)).length=N - VH ls k:=by rw [Zd,HN.out]
    have hps:=vu hk;rw [HN.out] at hle;have HI:=Z3 (Tryz.bytes_IndexByte B (o+VH ls k) (N - VH ls k) (cap - VH ls k) ((Zv ls).drop (VH ls k)) 10 wr hxl (fun i hi=>by
     have:=iR.out k wr HS.out (VH ls k+i) (by omega);rw [←Ue] at this;rw [this]
     simp [List.getD,Qt]))
    rw [show ((10:Int).toNat.toUInt8)=(10:UInt8) from rfl,hidx] at HI;have E:Hid (∀(W3:World) (v:Value),St (k+1) W3→Bk W3→Boxed W3 V 22 v→(v=.slice (if cap - VH ls k=(ls.getD k ⟨#[]⟩).size+1 then some ⟨B,o+VH ls k,none⟩ else some ⟨B,o+VH ls k+((ls.getD k ⟨#[]⟩).size+1),none⟩) (N - VH ls k - ((ls.getD k ⟨#[]⟩).size+1)) (cap - VH ls k - ((ls.getD k ⟨#[]⟩).size+1))) →
        (∃(k:Nat) (vs:Value),Hid (St k W3)∧Hid (Bk W3)∧Hid (Boxed W3 V 22 vs)∧Hid ((k<ls.length∧vs=.slice (some ⟨B,o+VH ls k,none⟩) (N - VH ls k) (cap - VH ls k))∨(k=ls.length∧∃a c,vs=.slice a 0 c)))∧Gu V W3<N - VH ls k):=by
     intro W3 v a1 a2 a3 a4;refine ⟨⟨k+1,v,a1,a2,a3,?_⟩,?_⟩
     · by_cases h9:k+1<ls.length
       · have h8:=J1 h9
         rw [HN.out,hps] at h8;refine .inl ⟨h9,?_⟩;rw [a4,Z1 (by omega),hps]
         simp only [Ue,Nat.sub_sub]
       have h8:VH ls (k+1)=N:=by rw [show k+1=ls.length by omega,rq,HN.out]
       rw [hps] at h8;refine .inr ⟨by omega,?_⟩;rw [a4,show N - VH ls k - ((ls.getD k ⟨#[]⟩).size+1)=0 by omega];exact ⟨_,_,rfl⟩
     subst a4;rw [Gt a3];omega
    have HM:Hid (Gu V wr=N - VH ls k):=Gt HX.out;have A:Hid (∀W2,St k W2→Bk W2→YieldAt Fence.wide (nn - 1) Tryz.prog l #[.slice (some ⟨B,o+VH ls k,none⟩) ((ls.getD k ⟨#[]⟩).size+1) ((ls.getD k ⟨#[]⟩).size+1)] W2 fun e W'=>e=.returned (.bool true)∧St (k+1) W'∧Bk W'∧W'.heap[V]?=W2.heap[V]?):=fun W2 a b=>HY.out k _ W2 a b ⟨hk,rfl⟩
    clear hidx hxl hps;have hr1:(ls.getD k ⟨#[]⟩).size+1≤N - VH ls k:=by omega
    have hr2:N - VH ls k≤cap - VH ls k:=by omega
    have hr3:cap - VH ls k≤9223372036854775807:=by omega
    have hr4:N - VH ls k≤1048576:=by omega
    clear hle HC;generalize (ls.getD k ⟨#[]⟩).size=j at *;generalize o+VH ls k=O at *;generalize N - VH ls k=r at *;generalize cap - VH ls k=c at *;have cS:=HX.out.cell;have hr0:(0:Int)<(r:Int):=by omega
    have hj0:¬(j:Int)<0:=by omega
    have hj1:(j:Int)+1≤(c:Int):=by omega
    have hj2:(j:Int)+1≤(r:Int):=by omega
    gi_wp2_with fail
    refine ⟨trivial,?_⟩;refine (XM.2 HI.out).mono ?_;rintro e w2 ⟨rfl,rfl⟩;clear HI
    gi_wp2_with fail
    rename_i KK QQ Ku;have Zl:IntKind.i64.wrap ((j:Int)+1)=(j:Int)+1:=by rw [XK];omega
    have Zk:0≤(j:Int)+1:=by omega
    have B2:ZX w2 w2.drew:=below_drewN' w2 1;have HS2:=Z3 (lZ.out k _ _ B2 HS.out);have HB2:=Z3 (eQ.out _ _ B2 HB.out);have AL:Hid (Boxed w2.drew V 22 (.slice (some ⟨B,O,none⟩) r c)):=HX.out;have REST:Hid (∀V2:Value,V2=.slice (if c=j+1 then some ⟨B,O,none⟩ else some ⟨B,O+(j+1),none⟩) (r - (j+1)) (c - (j+1))→∀u12 u13 u14 u16 u17 u18,KK { tmps:=#[.func (.yield l) #[] #[],.pointer (some ⟨V,0,none⟩),undef,.slice (some ⟨B,O,none⟩) (j+1) c,.int .i64 (j:Int),.slice (some ⟨B,O,none⟩) r c,.int .i64 (r:Int),.bool true,.slice (some ⟨B,O,none⟩) r c,.int .i64 (j:Int),.int .i64 (j:Int),.bool true,u12,u13,u14,.slice (some ⟨B,O,none⟩) (j+1) c,u16,u17,u18,V2,u20,u21,u22,u23,u24,u25,u26,u27,u28,u29],defers:=[] } (w2.drew.setCell ⟨V,0,none⟩ V2)):=by
     intro V2 hV2 u12 u13 u14 u16 u17 u18;have HV:=Z3 hV2;have Cn:=ik.out k _ V2 HS2.out;have hB3:=kX.out _ V2 HB2.out;have DE:=Z3 (AL.out.set V2);have qQ:=A.out _ Cn hB3;clear HS HB HX HS2 HB2 AL B2 Cn hB3 cS;generalize w2.drew.setCell _ _=w3 at *;refine Ku _ _ ?_;clear Ku hV2;obtain ⟨fn,tmps,assign,body,hy,hR⟩:=qQ;gi_wp2;refine hR.mono ?_;rintro e W3 ⟨rfl,Cn,hB3,hK3⟩;have NX:=E.out W3 V2 Cn hB3 (hK3.trans DE.out) HV.out;have Tq:=Z3 NX;clear Cn hB3 hy hR hK3 NX;gi_wp2
     go_roundw
     case rel=>exact Tq.out.1
     case measure=>rw [HM.out];exact Tq.out.2
    clear HS HB HX HS2 HB2 A E HM;have cS:=AL.out.cell;refine wpIn_wide.2 ?_;refine ZH (S:=fun _=>True) (by kernel_rfl) trivial (fun Z9=>?_);generalize w2.drew=w3 at *;refine TO (i:=1) (oi:=⟨some 13,_,_,_,_,_⟩) (v:=?v1) rfl (by kernel_rfl) (fun _ _ _ h=>h) (Or.inl ⟨by rfl,?hy1⟩) trivial ?jv
    case hy1 =>
     intro w9 Z0;clear Z0;go_simp
     try with_reducible rfl
    refine TO (i:=2) (oi:=⟨some 14,_,_,_,_,_⟩) (v:=?v2) rfl (by kernel_rfl) (fun _ _ _ h=>h) (Or.inl ⟨by rfl,?hy2⟩) trivial ?qh
    case hy2 =>
     intro w9 Z0;clear Z0;go_simp
     try with_reducible rfl
    refine TO (i:=5) (oi:=⟨some 17,_,_,_,_,_⟩) (v:=?v3) rfl (by kernel_rfl) (fun _ _ _ h=>h) (Or.inl ⟨by rfl,?hy3⟩) trivial ?ju
    case hy3 =>
     intro w9 Z0;clear Z0;go_simp
     try with_reducible rfl
    refine TO (i:=6) (oi:=⟨some 18,_,_,_,_,_⟩) (v:=?v4) rfl (by kernel_rfl) (fun _ _ _ h=>h) (Or.inl ⟨by rfl,?hy4⟩) trivial ?jt
    case hy4 =>
     intro w9 Z0;clear Z0;go_simp
     try with_reducible rfl
    refine UY 0 4 rfl rfl (by kernel_rfl) (fun K hK=>?_) (fun K hK=>?_)
    · go_simp
      refine hK.out _ _ trivial (fun ZM=>?_);clear hK K ZM;refine TO (i:=3) (oi:=⟨some 15,_,_,_,_,_⟩) (v:=?v5) rfl (by kernel_rfl) (fun _ _ _ h=>h) (Or.inl ⟨by rfl,?FE⟩) trivial ?qg
      case FE =>
       intro w9 Z0;clear Z0;go_simp
       try with_reducible rfl
      refine TO (i:=8) (oi:=⟨some 3,_,_,_,_,_⟩) (v:=?v6) rfl (by kernel_rfl) (fun _ _ _ h=>h) (Or.inl ⟨by rfl,?tV⟩) trivial ?js
      case tV =>
       intro w9 Z0;clear Z0;go_simp
       try with_reducible rfl
      refine ZU 4 rfl (by kernel_rfl) (fun K hK=>?_);go_simp;refine hK.out _ _ trivial (fun ZM=>?_);clear hK K ZM;refine TO (i:=7) (oi:=⟨some 19,_,_,_,_,_⟩) (v:=?v7) rfl (by kernel_rfl) (fun _ _ _ h=>h) (Or.inl ⟨by rfl,?tU⟩) trivial ?jr
      case tU =>
       intro w9 Z0;clear Z0;go_simp
       try with_reducible rfl
      refine ZU 9 rfl (by kernel_rfl) (fun K hK=>?_);have f0:=AL.out.frozen;go_simp;clear f0;refine hK.out _ _ trivial (fun ZM=>?_);clear hK K ZM;exact ZP (by kernel_rfl) (REST.out _ rfl _ _ _ _ _ _) _
    go_simp;refine hK.out _ _ trivial (fun ZM=>?_);clear hK K ZM;refine TO (i:=7) (oi:=⟨some 19,_,_,_,_,_⟩) (v:=?v8) rfl (by kernel_rfl) (fun _ _ _ h=>h) (Or.inl ⟨by rfl,?sW⟩) trivial ?jq
    case sW =>
     intro w9 Z0;clear Z0;go_simp
     try with_reducible rfl
    refine ZU 0 rfl (by kernel_rfl) (fun K hK=>?_);go_simp;refine hK.out _ _ trivial (fun ZM=>?_);clear hK K ZM;refine TO (i:=3) (oi:=⟨some 15,_,_,_,_,_⟩) (v:=?v9) rfl (by kernel_rfl) (fun _ _ _ h=>h) (Or.inl ⟨by rfl,?ot⟩) trivial ?jp
    case ot =>
     intro w9 Z0;clear Z0;go_simp
     try with_reducible rfl
    refine TO (i:=8) (oi:=⟨some 3,_,_,_,_,_⟩) (v:=?v10) rfl (by kernel_rfl) (fun _ _ _ h=>h) (Or.inl ⟨by rfl,?Fg⟩) trivial ?mH
    case Fg =>
     intro w9 Z0;clear Z0;go_simp
     try with_reducible rfl
    refine ZU 9 rfl (by kernel_rfl) (fun K hK=>?_);have f0:=AL.out.frozen;go_simp;clear f0;refine hK.out _ _ trivial (fun ZM=>?_);clear hK K ZM;exact ZP (by kernel_rfl) (REST.out _ rfl _ _ _ _ _ _) _
  subst hk;have cS:=HX.out.cell;gi_wp2;refine bodyPost_end (Rs rfl _ _ _) rfl ?_;exact ⟨⟨_,rfl⟩,HS.out,HB.out⟩
theorem mG (s:ByteArray) (y z:Nat):tl s [y,z]=tl s [y]++(⟨#[32]⟩++Et z):=by
 unfold tl Yx
 simp only [FQ,uk,TX]
 rw [←YM,SP,show ((32:Int) :: UU z)=[32]++UU z from rfl,SP [32]]
 rfl
theorem mF:∀z,z<200→(1≤(Et z).size∧(Et z).size≤3)∧(10:UInt8) ∉ (Et z).data.toList:=by decide +kernel
def Na (lo hi:Nat) (b:ByteArray):Prop:=lo≤b.size∧b.size≤hi∧(10:UInt8) ∉ b.data.toList
theorem Na.say {b:ByteArray} (h:Na lo hi b) (hz:z<200):Na (lo+2) (hi+4) (b++(⟨#[32]⟩++Et z)):=by
 obtain ⟨⟨d1,d2⟩,d3⟩:=mF z hz;have e:(⟨#[32]⟩++Et z:ByteArray).size=1+(Et z).size:=by rw [uo];rfl
 refine ⟨by rw [uo,e];have:=h.1;omega,by rw [uo,e];have:=h.2.1;omega,?_⟩;rw [Lo,Lo,uq,uq];intro hm
 rcases XP.1 hm with hm | hm
 · exact h.2.2 hm
 rcases XP.1 hm with hm | hm
 · exact absurd hm (by decide)
 exact d3 hm
theorem Na.mono {lo' hi':Nat} {b:ByteArray} (h:Na lo hi b) (h1:lo'≤lo) (h2:hi≤hi'):Na lo' hi' b:=⟨ZF h1 h.1,ZF h.2.1 h2,h.2.2⟩
theorem U2 (h:Na 5 8 s) (hz:z<200):Na 5 20 (tl s [z]):=by rw [Es];exact (h.say hz).mono (by omega) (by omega)
theorem Ep (h:Na 5 8 s) {y:Nat} (hy:y<200) (hz:z<200):Na 5 20 (tl s [y,z]):=by rw [mG,Es];exact ((h.say hy).say hz).mono (by omega) (by omega)
theorem vf:Na 5 8 wQ:=by unfold Na;decide
theorem CO:Na 5 8 wE:=by unfold Na;decide
theorem uZ:Na 5 8 wF:=by unfold Na;decide
theorem qf:Na 5 8 wS:=by unfold Na;decide
theorem qe:Na 5 8 wL:=by unfold Na;decide
theorem jo:Na 5 8 wU:=by unfold Na;decide
theorem J0 (S L n k:Nat):Na 5 20 (YA S L n k):=by
 have ht:YC L n≤110:=Mp _ _;unfold YA
 by_cases h9:Zp n≤L*64
 · rw [ZZ h9]
   by_cases h0:k=0
   · rw [ZZ h0];exact U2 vf (by omega)
   rw [Z1 h0]
   by_cases h1:k=1
   · rw [ZZ h1];exact Ep uZ (by omega) (by omega)
   rw [Z1 h1]
   by_cases h2:k<112
   · rw [ZZ h2]
     by_cases h3:k - 2<Ym L n
     · rw [ZZ h3];exact U2 vf (by omega)
     rw [Z1 h3];exact U2 CO (by omega)
   rw [Z1 h2]
   by_cases h3:k=112
   · rw [ZZ h3];exact Ep uZ (by omega) (by omega)
   rw [Z1 h3]
   by_cases h4:k=113
   · rw [ZZ h4];exact U2 qf (by omega)
   rw [Z1 h4]
   by_cases h5:k=114
   · rw [ZZ h5]
     by_cases h6:47+n≤S*64
     · rw [ZZ h6];exact U2 qe (by omega)
     rw [Z1 h6];exact jo.mono (by omega) (by omega)
   rw [Z1 h5]
   by_cases h6:47+n≤S*64∨110<Ym L n
   · rw [ZZ h6];exact U2 vf (by omega)
   rw [Z1 h6];exact U2 CO (by omega)
 rw [Z1 h9]
 by_cases h0:k=0
 · rw [ZZ h0];exact U2 CO (by omega)
 rw [Z1 h0]
 by_cases h1:k=1∨k=112
 · rw [ZZ h1];exact Ep uZ (by omega) (by omega)
 rw [Z1 h1]
 by_cases h4:k=113
 · rw [ZZ h4];exact U2 qf (by omega)
 rw [Z1 h4]
 by_cases h5:k=114
 · rw [ZZ h5];exact U2 qe (by omega)
 rw [Z1 h5];exact U2 CO (by omega)
def PR (S L n k:Nat):List ByteArray:=(List.range k).map (YA S L n)
theorem JZ (S L n k:Nat):(PR S L n k).length=k:=by simp [PR]
theorem uY (S L n k:Nat):PR S L n (k+1)=PR S L n k++[YA S L n k]:=by unfold PR;rw [zP,Wn];rfl
theorem mD (S L n k i:Nat) (h:i<k):(PR S L n k).getD i ⟨#[]⟩=YA S L n i:=by
 unfold PR
 simp [List.getD,h]
theorem Gq (S L n k:Nat):Zv (PR S L n (k+1))=(Zv (PR S L n k)++XS (YA S L n k))++XS ⟨#[10]⟩:=by
 rw [uY,PU,Ug]
 simp [Zv,XS]
theorem mC (S L n k:Nat):∀s ∈ PR S L n k,(10:UInt8) ∉ s.data.toList:=by
 intro s hs;obtain ⟨i,-,rfl⟩:=List.mem_map.1 hs;exact (J0 S L n i).2.2
theorem M9 (S L n:Nat):∀k,k*6≤(Zv (PR S L n k)).length∧(Zv (PR S L n k)).length≤k*21
 | 0=>by simp [PR,Zv]
 | k+1=>by
  obtain ⟨h1,h2⟩:=M9 S L n k;obtain ⟨h3,h4,-⟩:=J0 S L n k;rw [Gq,ZA,ZA,YP,YP];have:(⟨#[10]⟩:ByteArray).size=1:=rfl;omega
theorem CM (n:Nat) (hn:n≤64):∀s ∈ UI n,(10:UInt8) ∉ s.data.toList∧s.size≤80:=by
 have hx:(10:UInt8) ∉ xL n:=fun h=>absurd (List.mem_replicate.1 h).2 (by decide)
 have h1:(10:UInt8) ∉ (Gy n).data.toList∧(Gy n).size≤80:=by
  refine ⟨?_,by simp [Gy,Xv,ByteArray.size,xL];omega⟩;unfold Gy;rw [UJ]
  simp [hx]
 have h2:(10:UInt8) ∉ (J7 n).data.toList∧(J7 n).size≤80:=by
  refine ⟨?_,by simp [J7,Xv,ByteArray.size,xL];omega⟩;unfold J7;rw [UJ]
  simp [hx]
 have h3:(10:UInt8) ∉ RF.data.toList∧RF.size≤80:=by decide
 have h4:(10:UInt8) ∉ FU.data.toList∧FU.size≤80:=by decide
 have h5:(10:UInt8) ∉ CY.data.toList∧CY.size≤80:=by decide
 intro s hs;unfold UI at hs
 rcases XP.1 hs with hs | hs
 · rcases XP.1 hs with hs | hs
   · simp only [Yz,zQ,Me] at hs
     rcases hs with rfl | rfl
     · exact h1
     exact h3
   rw [(List.mem_replicate.1 hs).2];exact h2
 simp only [Yz,zQ,Me] at hs
 rcases hs with rfl | rfl | rfl | rfl
 · exact h3
 · exact h4
 · exact h5
 exact h2
theorem JY:∀(ls:List ByteArray),(∀s ∈ ls,s.size≤80)→(Zv ls).length≤81*ls.length
 | [],_=>by simp [Zv]
 | s :: ls,h=>by
  rw [Ug,ZA,YP,Yr,Yr];have:=JY ls (fun t ht=>h t (Yl _ ht));have:=h s (Wk ..);omega
theorem FY.frozen (h:FY W b r vt v1 v2) (j:Nat):W.frozen? ⟨b,j,none⟩=false:=by
 unfold FY at h
 simp [World.frozen?,h]
def Us (w:World) (b:Nat) (r:Dq) (vt v1 v2:Value):World:=((((((((((((w).setCell ⟨b,0,none⟩ (.int .i64 r.code)).setCell ⟨b,1,none⟩ (.int .i64 r.sp.g)).setCell ⟨b,2,none⟩ (.int .i64 r.sp.b)).setCell ⟨b,3,none⟩ (.int .i64 r.sp.s)).setCell ⟨b,4,none⟩ (.int .i64 r.sp.l)).setCell ⟨b,5,none⟩ (.int .i64 r.sp.c)).setCell ⟨b,6,none⟩ (.int .i64 r.zx)).setCell ⟨b,7,none⟩ (vt)).setCell ⟨b,8,none⟩ (.int .i64 r.used)).setCell ⟨b,9,none⟩ (.int .i64 r.ops)).setCell ⟨b,10,none⟩ (v1)).setCell ⟨b,11,none⟩ (v2)
theorem Xt (h:w.cell? ⟨b,j,none⟩=some u):(w.setCell ⟨b,j,none⟩ v).cell? ⟨b,j,none⟩=some v:=Xo _ _ _ h
theorem ZY (h:w.cell? ⟨b,i,none⟩=some u) (hne:i≠j):(w.setCell ⟨b,j,none⟩ v).cell? ⟨b,i,none⟩=some u:=(Zs _ _ _ _ (by intro e;injection e with e1 e2;first | exact hne e2 | exact hne e2.symm)).trans h
theorem Eo {q:Dq} {ut u1 u2:Value} (h:FY w b q ut u1 u2):(Us w b r vt v1 v2).cell? ⟨b,0,none⟩=some (.int .i64 r.code)∧(Us w b r vt v1 v2).cell? ⟨b,1,none⟩=some (.int .i64 r.sp.g)∧(Us w b r vt v1 v2).cell? ⟨b,2,none⟩=some (.int .i64 r.sp.b)∧(Us w b r vt v1 v2).cell? ⟨b,3,none⟩=some (.int .i64 r.sp.s)∧(Us w b r vt v1 v2).cell? ⟨b,4,none⟩=some (.int .i64 r.sp.l)∧(Us w b r vt v1 v2).cell? ⟨b,5,none⟩=some (.int .i64 r.sp.c)∧(Us w b r vt v1 v2).cell? ⟨b,6,none⟩=some (.int .i64 r.zx)∧(Us w b r vt v1 v2).cell? ⟨b,7,none⟩=some (vt)∧(Us w b r vt v1 v2).cell? ⟨b,8,none⟩=some (.int .i64 r.used)∧(Us w b r vt v1 v2).cell? ⟨b,9,none⟩=some (.int .i64 r.ops)∧(Us w b r vt v1 v2).cell? ⟨b,10,none⟩=some (v1)∧(Us w b r vt v1 v2).cell? ⟨b,11,none⟩=some (v2):=by
 obtain ⟨c0,c1,c2,c3,c4,c5,c6,c7,c8,c9,c10,c11⟩:=h.cells;unfold Us;exact ⟨(ZY (ZY (ZY (ZY (ZY (ZY (ZY (ZY (ZY (ZY (ZY (Xt c0) (by decide)) (by decide)) (by decide)) (by decide)) (by decide)) (by decide)) (by decide)) (by decide)) (by decide)) (by decide)) (by decide)),(ZY (ZY (ZY (ZY (ZY (ZY (ZY (ZY (ZY (ZY (Xt (ZY c1 (by decide))) (by decide)) (by decide)) (by decide)) (by decide)) (by decide)) (by decide)) (by decide)) (by decide)) (by decide)) (by decide)),(ZY (ZY (ZY (ZY (ZY (ZY (ZY (ZY (ZY (Xt (ZY (ZY c2 (by decide)) (by decide))) (by decide)) (by decide)) (by decide)) (by decide)) (by decide)) (by decide)) (by decide)) (by decide)) (by decide)),(ZY (ZY (ZY (ZY (ZY (ZY (ZY (ZY (Xt (ZY (ZY (ZY c3 (by decide)) (by decide)) (by decide))) (by decide)) (by decide)) (by decide)) (by decide)) (by decide)) (by decide)) (by decide)) (by decide)),(ZY (ZY (ZY (ZY (ZY (ZY (ZY (Xt (ZY (ZY (ZY (ZY c4 (by decide)) (by decide)) (by decide)) (by decide))) (by decide)) (by decide)) (by decide)) (by decide)) (by decide)) (by decide)) (by decide)),(ZY (ZY (ZY (ZY (ZY (ZY (Xt (ZY (ZY (ZY (ZY (ZY c5 (by decide)) (by decide)) (by decide)) (by decide)) (by decide))) (by decide)) (by decide)) (by decide)) (by decide)) (by decide)) (by decide)),(ZY (ZY (ZY (ZY (ZY (Xt (ZY (ZY (ZY (ZY (ZY (ZY c6 (by decide)) (by decide)) (by decide)) (by decide)) (by decide)) (by decide))) (by decide)) (by decide)) (by decide)) (by decide)) (by decide)),(ZY (ZY (ZY (ZY (Xt (ZY (ZY (ZY (ZY (ZY (ZY (ZY c7 (by decide)) (by decide)) (by decide)) (by decide)) (by decide)) (by decide)) (by decide))) (by decide)) (by decide)) (by decide)) (by decide)),(ZY (ZY (ZY (Xt (ZY (ZY (ZY (ZY (ZY (ZY (ZY (ZY c8 (by decide)) (by decide)) (by decide)) (by decide)) (by decide)) (by decide)) (by decide)) (by decide))) (by decide)) (by decide)) (by decide)),(ZY (ZY (Xt (ZY (ZY (ZY (ZY (ZY (ZY (ZY (ZY (ZY c9 (by decide)) (by decide)) (by decide)) (by decide)) (by decide)) (by decide)) (by decide)) (by decide)) (by decide))) (by decide)) (by decide)),(ZY (Xt (ZY (ZY (ZY (ZY (ZY (ZY (ZY (ZY (ZY (ZY c10 (by decide)) (by decide)) (by decide)) (by decide)) (by decide)) (by decide)) (by decide)) (by decide)) (by decide)) (by decide))) (by decide)),(Xt (ZY (ZY (ZY (ZY (ZY (ZY (ZY (ZY (ZY (ZY (ZY c11 (by decide)) (by decide)) (by decide)) (by decide)) (by decide)) (by decide)) (by decide)) (by decide)) (by decide)) (by decide)) (by decide)))⟩
structure Ad (w:World) (v1 v2:Value) (S L:Int) (W:World):Prop where
 YU:ZX w W
 lt:w.heap.size+3≤W.heap.size
 d0:W.cell? ⟨w.heap.size,0,none⟩=some v1
 d1:W.cell? ⟨w.heap.size,1,none⟩=some v2
 c0:W.cell? ⟨w.heap.size+1,0,none⟩=some (.int .i64 S)
 c1:W.cell? ⟨w.heap.size+1,1,none⟩=some (.int .i64 L)
 rx:FY W (w.heap.size+1+1) (oA 0) (.slice none 0 0) (.slice none 0 0) (.slice none 0 0)
 fd:∀j,W.frozen? ⟨w.heap.size,j,none⟩=false
 fc:∀j,W.frozen? ⟨w.heap.size+1,j,none⟩=false
theorem Ad.Zc {m:Nat} (h:Ad w v1 v2 S L W) (hb:Below m W W') (hm:w.heap.size+3≤m):Ad w v1 v2 S L W':=by
 have hl:=h.lt;have q:∀b j,b<w.heap.size+3→W'.cell? ⟨b,j,none⟩=W.cell? ⟨b,j,none⟩:=fun b j h9=>hb.cell (p:=⟨b,j,none⟩) (show b<_ by omega)
 exact ⟨h.YU.trans (hb.mono (by omega)),ZF hl hb.size,(q _ _ (by omega)).trans h.d0,(q _ _ (by omega)).trans h.d1,(q _ _ (by omega)).trans h.c0,(q _ _ (by omega)).trans h.c1,(hb.block _ (by omega)).trans h.rx,fun j=>(hb.frozen (p:=⟨w.heap.size,j,none⟩) (show w.heap.size<_ by omega)).trans (h.fd j),fun j=>(hb.frozen (p:=⟨w.heap.size+1,j,none⟩) (show w.heap.size+1<_ by omega)).trans (h.fc j)⟩
theorem Ad.below (h:Ad w v1 v2 S L W) (hb:ZX W W'):Ad w v1 v2 S L W':=h.Zc hb h.lt
theorem Ad.new (w:World) (v1 v2:Value) (S L:Int):Ad w v1 v2 S L (((w.alloc (.cells #[v1,v2] 52)).alloc (.cells #[.int .i64 S,.int .i64 L] 25)).alloc (.cells #[.int .i64 0,.int .i64 0,.int .i64 0,.int .i64 0,.int .i64 0,.int .i64 0,.int .i64 0,.slice none 0 0,.int .i64 0,.int .i64 0,.slice none 0 0,.slice none 0 0] 65)):=by
 have b:ZX w (((w.alloc (.cells #[v1,v2] 52)).alloc (.cells #[.int .i64 S,.int .i64 L] 25)).alloc (.cells #[.int .i64 0,.int .i64 0,.int .i64 0,.int .i64 0,.int .i64 0,.int .i64 0,.int .i64 0,.slice none 0 0,.int .i64 0,.int .i64 0,.slice none 0 0,.slice none 0 0] 65)):=((ZJ.alloc ZT _).alloc (by simp) _).alloc (by simp;omega) _;refine ⟨b,by simp,by go_simp,by go_simp,by go_simp,by go_simp,?_,fun j=>by go_simp,fun j=>by go_simp⟩;have h9:=FY.new ((w.alloc (.cells #[v1,v2] 52)).alloc (.cells #[.int .i64 S,.int .i64 L] 25)) (oA 0) (.slice none 0 0) (.slice none 0 0) (.slice none 0 0)
 simp only [Wg] at h9
 exact h9
theorem En {g:Nat} (r:Dq) (vt v1 v2:Value) (h:g≠B):(Us W B r vt v1 v2).heap[g]?=W.heap[g]?:=by
 unfold Us
 iterate 12 refine (Below.heap_setCell _ _ _ g h).trans ?_
 rfl
structure Kp (a b:Nat) (W W':World):Prop where
 os:W'.os=W.os
 tape:W'.tape=W.tape
 output:W'.output=W.output
 size:W.heap.size≤W'.heap.size
 block:∀q,q<W.heap.size→q≠a→q≠b→W'.heap[q]?=W.heap[q]?
structure eW (ZQ:List Int) (ps:List (Int × List Int)) (S:Int) (sn N:Nat) (lim:Int):Prop where
 fit:NM S (sn:Int) ZQ.length ps=true
 n:ps.length≤1936
 eB:Wm (Qq ZQ ps)
 len:(Qq ZQ ps).length=N
 n9:N≤1048576
 lim:-9223372036854775808≤lim∧lim≤9223372036854775807
theorem eW.facts {ZQ:List Int} {ps:List (Int × List Int)} {sn N:Nat} {lim:Int} (h:eW ZQ ps S sn N lim):YO S (sn:Int)=true∧2+2*(S+(sn:Int))≤((N / 64:Nat):Int)∧128≤N∧(1≤S∧S≤64)∧1≤sn∧sn≤64:=by
 obtain ⟨hc,hv,hd⟩:=(VQ S sn ZQ.length ps).1 h.fit;obtain ⟨⟨hS1,hS2⟩,hL1,hL2⟩:=(Zg S sn).1 hc;have hl:=h.len;rw [NK hv] at hl;rw [hl] at hd;exact ⟨hc,by omega,by omega,⟨hS1,hS2⟩,by omega,by omega⟩
def uX (ops:Array Oper):Bool:=ops.all fun o=>match o.op with | .defer _=>false | _=>true
theorem El (h:uX ops=true) {o:Oper} (hi:ops[i]?=some o):∀c,o.op≠.defer c:=by
 intro c hc;unfold uX at h;obtain ⟨hlt,rfl⟩:=Yh.1 hi;have h2:=Array.all_eq_true.1 h i hlt;rw [hc] at h2
 cases h2
theorem Gp {F:Fence} {P:Program} {md:Region.Mode} {Q:Exit→Act→World→Prop} (l:Nat) (hro:F.round=none) (hd:uX ops=true) :
    ∀(fuel:Nat) (listed:Array Bool) (a:Act) (w:World),wpAnyIn F n P md ops Q fuel listed a w→wpAnyIn (F.inRound l) n P md ops Q fuel listed a w:=by
 intro fuel
 induction fuel with
 | zero=>intro listed a w h;exact h
 | succ fuel ih =>
  intro listed a w h;refine ⟨h.1,fun i hi=>?_⟩;have h2:=wpOpIn_mono (fun a w h=>ih _ a w h) (h.2 i hi);unfold wpOpIn at h2 ⊢
  cases ho:ops[i]? with
  | none=>rw [ho] at h2;exact h2
  | some o =>
   rw [ho] at h2;dsimp only at h2 ⊢
   split
   · rename_i hw
     rw [ZZ hw] at h2;refine ⟨h2.1,?_⟩;have h3:=h2.2;rw [hro,Oper.semAt_none] at h3;rw [Fence.inRound_round,VA _ _ _ (El hd ho)];exact h3
   rename_i hw;rw [Z1 hw] at h2;exact h2
attribute [local go_sem] VA
attribute [local go_sem] VA
theorem Gn (w:World) (blk o n cap:Nat) (h0:w.cell? ⟨blk,o,none⟩=some (.int .u8 0)) (hn:2≤n) (hc:n≤cap) (hc2:cap≤maxLen) :
    Calls Tryz.prog 207 #[.slice (some ⟨blk,o,none⟩) n cap] w (YI w (.tuple #[.agg #[.slice none 0 0],.int .i64 0])):=by
 have h1:=YJ w _ h0;unfold maxLen at hc2;have e1:¬((n:Int)<2):=by omega
 have e2:(0:Int)<(n:Int):=by omega
 go_enter Tryz.func207,Tryz.ntmps207
 go_wp2;refine ZS (v:=.tuple #[.agg #[.slice none 0 0],.int .i64 0]) (by simp [results,Tryz.results207,go_sem]) rfl ⟨rfl,?_⟩;exact ZJ.alloc ZT _
structure rp (w:World) (vt:Value) (Bo blk o n cap:Nat) (v:Value) (ns:List Nd) (W:World):Prop where
 head:Dr w vt W
 out:Qy W Bo v (.int .i64 0) (.int .i64 0) (.int .i64 0)
 own:Zz 147 W (w.heap.size+2) v ns
 ne:v.ownBlock≠some Bo
 M:Boxed W (Bo+2) 22 (.slice (some ⟨blk,o,none⟩) n cap)
 size:Bo+3≤W.heap.size
 low:w.heap.size+2≤Bo
theorem rp.later (h:rp w vt Bo blk o n cap v ns W) (hb:ZX W W'):rp w vt Bo blk o n cap v ns W' :=
 ⟨h.head.below hb,h.out.below hb,h.own.below hb,h.ne,(hb.block _ (by have:=h.size;omega)).trans h.M,ZF h.size hb.size,h.low⟩
theorem rp.Yj {row:Option Nat} (h:rp w vt Bo blk o n cap v ns W) (hg:W.grownBy W' row) (hr:∀r,row=some r→Bo+3≤r∧∃o:Obj,W.heap[r]?=some o∧o.isCells=false):rp w vt Bo blk o n cap v ns W':=by
 have hz:=h.size;have hl:=h.low;refine ⟨h.head.other hg (fun r e=>by have:=(hr r e).1;omega),h.out.other hg (fun e=>by have:=(hr _ e.symm).1;omega),Yn h.own hg (fun r e=>(hr r e).2),h.ne,(hg.block _ (by omega) (fun e=>by have:=(hr _ e.symm).1;omega)).trans h.M,ZF hz hg.size,hl⟩
theorem JX (nn:Nat) (hn1:1≤nn) (l Ba blk o n cap:Nat) (P:World→Prop) (hP:∀X Y,ZX X Y→P X→P Y) (W:World) (hW:P W) (hB:W.cell? ⟨Ba,0,none⟩=some (.slice (some ⟨blk,o,none⟩) n cap)) (h0:W.cell? ⟨blk,o,none⟩=some (.int .u8 0)) (hn:2≤n) (hc:n≤cap) (hc2:cap≤maxLen) :
    CallsIn Fence.wide nn Tryz.prog 206 #[.func (.yield l) #[] #[],.pointer (some ⟨Ba,0,none⟩)] W fun e W'=>(∃v,e=.returned v)∧P W':=by
 have HP:=Z3 hP;have H0:=Z3 hW;have HN:Hid (2≤n∧n≤cap∧cap≤maxLen):=⟨hn,hc,hc2⟩;have hcp:¬cap=0:=by omega
 have HZ:=Z3 h0;clear hP hW h0;unfold maxLen at hc2;refine SC Tryz.func206 rfl trivial ?_ rfl
 simp only [Tryz.ntmps206,Zm,Yr,Wo,Nat.reduceAdd,Nat.reduceSub,JO,JN,Wj,Ur,Yw,Vq]
 gi_wp2
 gi_loopw [3] (fun i wr=>i=.int .i64 0∧wr=W) (fun _ _=>0)
 case atStart=>exact ⟨rfl,rfl⟩
 case round =>
  obtain ⟨rfl,rfl⟩:=hrel
  gi_wp2_with fail
  refine ⟨trivial,?_⟩;refine (XM.2 (Gn wr blk o n cap HZ.out HN.out.1 HN.out.2.1 HN.out.2.2)).mono ?_;rintro e w2 ⟨rfl,b2⟩;have H2:=Z3 (HP.out _ _ ((b2.alloc b2.size (.cells #[.slice none 0 0] 263))) H0.out);clear b2;gi_wp2;refine ZS (Rs rfl _ _ _) rfl ?_;exact ⟨⟨_,rfl⟩,H2.out⟩
theorem Gm (w:World) (ta:Option Addr) (tc:Nat) (ns:List Nd) (blk o n cap:Nat) (ht:Wx w (.slice ta ns.length tc) ns) (hok:YY ns=true) (h0:w.cell? ⟨blk,o,none⟩=some (.int .u8 0)) (hn1:2≤n) (hc:n≤cap) (hc2:cap≤maxLen) (hn:n≤8192) :
    Calls Tryz.prog 134 #[.agg #[.slice ta ns.length tc],.int .i64 0,.slice (some ⟨blk,o,none⟩) n cap] w fun e w'=>∃va vc,e=.returned (.agg #[.slice va ns.length vc,.int .i64 0,.int .i64 0,.int .i64 0])∧Zz 147 w' w.heap.size (.slice va ns.length vc) ns∧ZX w w':=by
 have HN:=Z3 ht;have Ub:=Z3 hok;have H0:=Z3 h0;have HC:Hid (2≤n∧n≤cap∧cap≤maxLen):=⟨hn1,hc,hc2⟩;have hnl:ns.length≤1000:=by unfold YY at hok;simp only [Yg,Yt] at hok;exact hok.1
 have HG:=Z3 (Cc hok);have hn2:¬(8192:Int)<(n:Int):=by omega
 have Zo:decide ((8192:Int)<(n:Int))=false:=by simpa using hn2
 have hb0:=YJ w _ h0;clear ht hok h0 hc2;refine (XM (n:=6)).1 ?_;refine callsIn_of_wp_marks Tryz.func134 rfl trivial ?_ rfl
 simp only [Tryz.ntmps134,Zm,Yr,Wo,Nat.reduceAdd,Nat.reduceSub,JO,JN,Wj,Ur,Yw,Vq]
 gi_wp2_with fail
 have F0:Hid (Dr w (.slice ta ns.length tc) ((w.alloc (.cells #[.slice ta ns.length tc] 63)).alloc (.cells #[.slice none 0 0,.int .i64 0,.int .i64 0,.int .i64 0] 99))):=Dr.new _ _ _ _;generalize (w.alloc _).alloc _=w0 at *;refine ⟨trivial,?_⟩;refine (XM.2 (XE _ _ ns (HN.out.below F0.out.1) (ti HG.out))).mono ?_;rintro e w1 ⟨rfl,b1⟩;rw [Ub.out];have F1:=Z3 (F0.out.below b1);clear b1 F0
 gi_wp2_with fail
 refine ⟨trivial,?_⟩;refine (XM.2 (Ky _ 0)).mono ?_;rintro e wq ⟨rfl,hwq⟩;rw [show decide ((0:Int)≤0∧(0:Int)≤2147483647)=true by decide,hwq];clear hwq;obtain ⟨-,-,x0,-⟩:=F1.out
 gi_wp2_with fail
 clear x0;refine ⟨trivial,?_⟩;refine (XM.2 (Fj _ ta tc ns (HN.out.below F1.out.1) hnl)).mono ?_;rintro e w2 ⟨v2,rfl,o2,b2⟩;obtain ⟨na,nc,rfl⟩:=Zz.Vc o2;have F2:=Z3 (F1.out.below b2);have O2:=Z3 o2;have s1:=F1.out.2.1;clear o2 b2 F1
 gi_wp2_with fail
 refine ⟨trivial,?_⟩;refine (Cf Fence.wide _ trivial rfl _ _ _ _).mono ?_;rintro e w5 ⟨rfl,Rc⟩
 gi_wp2_with fail
 have s2:=F2.out.2.1;have Fv:Hid (rp w (.slice ta ns.length tc) w2.heap.size blk o n cap (.slice na ns.length nc) ns w5):=by
  rw [Rc];have bA:ZX w2 (w2.alloc (.cells #[.slice na ns.length nc,.int .i64 0,.int .i64 0,.int .i64 0] 99)):=ZJ.alloc ZT _;have hO:=O2.out.below bA;have hF:=F2.out.below bA;have hX:=Qy.new w2 (.slice na ns.length nc) (.int .i64 0) (.int .i64 0) (.int .i64 0) 99;have sA:(w2.alloc (.cells #[.slice na ns.length nc,.int .i64 0,.int .i64 0,.int .i64 0] 99)).heap.size=w2.heap.size+1:=by simp
  have hlt:=fun q hq=>ZD O2.out q hq
  generalize w2.alloc _=wA at *;have bB:ZX wA (wA.alloc (.cells #[.int .i64 0] 2)):=ZJ.alloc ZT _;have sB:(wA.alloc (.cells #[.int .i64 0] 2)).heap.size=w2.heap.size+2:=by simp [sA]
  generalize wA.alloc _=wB at *;have bC:ZX wB (wB.alloc (.cells #[.slice (some ⟨blk,o,none⟩) n cap] 22)):=ZJ.alloc ZT _;refine ⟨(hF.below bB).below bC,(hX.below bB).below bC,((hO.below bB).below bC).mono (by omega),fun e=>by have:=hlt _ e;omega,?_,by simp [sB],s2⟩;have:=Boxed.new wB 22 (.slice (some ⟨blk,o,none⟩) n cap);rw [sB] at this;exact this
 have s5:w5.heap.size=w2.heap.size+3:=by rw [Rc];simp
 rw [←Rc];clear Rc O2 F2;refine Ty (F:=Fence.wide) (n:=6) rfl (by omega) (gf:=206) (lb:=#[.pointer (some ⟨w2.heap.size+2,0,none⟩)]) rfl trivial (enters_of Tryz.func206 (by kernel_rfl) rfl)
  (fun (_:Unit) W=>rp w (.slice ta ns.length tc) w2.heap.size blk o n cap (.slice na ns.length nc) ns W) (fun _ _ _=>False) (fun s _=>s) (fun _ _=>True) (fun _=>True) ()
  (fun s X Y row hs hg hr=>hs.Yj hg (fun r e=>by have:=hr r e;rw [s5] at this;exact this)) (fun _ _=>trivial) (fun _ _ _ _ _ _ _ _=>trivial)
  (fun s vs W hp=>hp.elim) Fv.out (fun _ _ _ _=>False) (fun _ _ _ _ _ _ _ h=>h.elim) (fun _ _ _ _ _ _ h=>h.elim) (fun _ _ _ _ _ h=>h.elim) ?call ?done
 case call =>
  intro Bk W1 tG hY hb1 _ hs0 J;have hbw:=hs0.head.1;refine (JX _ (by omega) _ _ blk o n cap (fun W=>rp w (.slice ta ns.length tc) w2.heap.size blk o n cap (.slice na ns.length nc) ns W∧Bk W) (fun X Y hb h=>⟨h.1.later hb,tG X Y (XZ hb) h.2⟩) W1 ⟨hs0,J⟩ hs0.M.cell ((hbw.cell (p:=⟨blk,o,none⟩) hb0).trans H0.out) HC.out.1 HC.out.2.1 HC.out.2.2).mono ?_;rintro e W' ⟨h1,h2,h3⟩;exact ⟨h1,(),trivial,h2,h3⟩
 case done =>
  rintro D s W hD hfin hS hK;obtain ⟨hH,hX,hO,hlow,hsz⟩:=(⟨hS.head,hS.out,hS.own,hS.low,hS.size⟩:_∧_∧_∧_∧_);clear hS hfin;have HO:=Z3 hO;have HH:=Z3 hH;have Z6:=Z3 hK;have hB:=hH.1;obtain ⟨zo,⟨e0,e1,e2,e3⟩,-⟩:=hX;obtain ⟨zr,⟨d0,d1,d2,d3⟩,f0,f1,f2,f3⟩:=hH.2.2.2;clear hO hH hK;gi_wp2;have hK2:((((W.setCell ⟨w.heap.size+1,0,none⟩ (.slice na ns.length nc)).setCell ⟨w.heap.size+1,1,none⟩ (.int .i64 0)).setCell ⟨w.heap.size+1,2,none⟩ (.int .i64 0)).setCell ⟨w.heap.size+1,3,none⟩ (.int .i64 0)).heap[D]?=some (.deferred (some [])):=(KeepsOthers.setCell _ _ _).same D _ ((KeepsOthers.setCell _ _ _).same D _ ((KeepsOthers.setCell _ _ _).same D _ ((KeepsOthers.setCell _ _ _).same D _ Z6.out rfl) rfl) rfl) rfl;refine ⟨by simp,.inl ⟨_,_,rfl,run_takeDeferred hK2,?_⟩⟩;have XB:Qy ((((W.setCell ⟨w.heap.size+1,0,none⟩ (.slice na ns.length nc)).setCell ⟨w.heap.size+1,1,none⟩ (.int .i64 0)).setCell ⟨w.heap.size+1,2,none⟩ (.int .i64 0)).setCell ⟨w.heap.size+1,3,none⟩ (.int .i64 0)) (w.heap.size+1) (.slice na ns.length nc) (.int .i64 0) (.int .i64 0) (.int .i64 0):=(((HH.out.2.2.2.set0 _).set1 _).set2 _).gX _;have OX:Zz 147 ((((W.setCell ⟨w.heap.size+1,0,none⟩ (.slice na ns.length nc)).setCell ⟨w.heap.size+1,1,none⟩ (.int .i64 0)).setCell ⟨w.heap.size+1,2,none⟩ (.int .i64 0)).setCell ⟨w.heap.size+1,3,none⟩ (.int .i64 0)) (w.heap.size+2) (.slice na ns.length nc) ns:=(((HO.out.Yk (show w.heap.size+1<w.heap.size+2 by omega) _).Yk (show w.heap.size+1<w.heap.size+2 by omega) _).Yk (show w.heap.size+1<w.heap.size+2 by omega) _).Yk (show w.heap.size+1<w.heap.size+2 by omega) _;have BX:ZX w ((((W.setCell ⟨w.heap.size+1,0,none⟩ (.slice na ns.length nc)).setCell ⟨w.heap.size+1,1,none⟩ (.int .i64 0)).setCell ⟨w.heap.size+1,2,none⟩ (.int .i64 0)).setCell ⟨w.heap.size+1,3,none⟩ (.int .i64 0)):=(((hB.setCell (by simp) _).setCell (by simp) _).setCell (by simp) _).setCell (by simp) _;have SX:((((W.setCell ⟨w.heap.size+1,0,none⟩ (.slice na ns.length nc)).setCell ⟨w.heap.size+1,1,none⟩ (.int .i64 0)).setCell ⟨w.heap.size+1,2,none⟩ (.int .i64 0)).setCell ⟨w.heap.size+1,3,none⟩ (.int .i64 0)).heap.size=W.heap.size:=by simp
  generalize ((((W.setCell _ _).setCell _ _).setCell _ _).setCell _ _)=X at *;have GX:=grownBy_putObj' X D (.deferred none);have Zh:w.heap.size+1<D:=by omega
  have YB:=XB.other GX (by simp;omega);have OF:=OX.Yj GX (fun r e=>by injection e with e;subst e;exact ⟨_,hK2,rfl⟩);have BF:=BX.grown GX (by omega) (fun q e=>by injection e with e;omega);generalize X.putObj D (.deferred none)=Z at *;obtain ⟨-,⟨y0,y1,y2,y3⟩,-⟩:=YB;refine ⟨.agg #[.slice na ns.length nc,.int .i64 0,.int .i64 0,.int .i64 0],?_,na,nc,rfl,OF.mono (by omega),BF⟩
  simp [results,Tryz.results134,go_sem,y0,y1,y2,y3]
def M6 (w:World) (ms:List Nd) (z2:Int) (z3:Nat) (z4:Int) (e:Ending) (w':World):Prop :=
 ∃va vc,e=.returned (.agg #[.slice va ms.length vc,.int .i64 z2,.int .i64 ((z3:Nat):Int),.int .i64 z4])∧Zz 147 w' w.heap.size (.slice va ms.length vc) ms∧ZX w w'
theorem JW (w:World) (b g N C:Nat) (S L start xb:Int) (ta:Option Addr) (tc:Nat) (ns:List Nd) (cont:List Int) (ms:List Nd) (z2:Int) (z3:Nat) (z4:Int) (H:∀W,ZX w W→Calls Tryz.prog 134 #[.agg #[.slice ta ns.length tc],.int .i64 start,.slice (some ⟨g,(VJ S L xb true).toNat*64,none⟩) (L.toNat*64) (C - (VJ S L xb true).toNat*64)] W (M6 W ms z2 z3 z4)) (c0:w.cell? ⟨b,0,none⟩=some (.int .i64 S)) (c1:w.cell? ⟨b,1,none⟩=some (.int .i64 L)) (c6:w.cell? ⟨b,6,none⟩=some (.slice (some ⟨g,0,none⟩) N C)) (hlt:b<w.heap.size) (hr:Rd .u8 w (.slice (some ⟨g,0,none⟩) N C) cont) (hby:Wm cont) (hN:cont.length=N) (Dp:N≤1048576) (hc:YO S L=true) (xS:2+2*(S+L)≤((N / 64:Nat):Int)) (hb:0≤xb∧xb≤1) :
    Calls Tryz.prog 86 #[.pointer (some ⟨b,0,none⟩),.agg #[.slice ta ns.length tc],.int .i64 start,.int .i64 xb] w (M6 w ms z2 z3 z4):=by
 obtain ⟨⟨hS1,hS2⟩,hL1,hL2⟩:=(Zg S L).1 hc;obtain ⟨sn,rfl⟩:∃sn:Nat,L=(sn:Int):=⟨L.toNat,by omega⟩;rw [Ww] at H;obtain ⟨f,hf⟩:∃f:Nat,VJ S (sn:Int) xb true=(f:Int):=⟨(VJ S (sn:Int) xb true).toNat,by
  have hk:xb=0∨xb=1:=by omega
  unfold VJ
  rcases hk with rfl | rfl <;> simp <;> omega⟩
 have kD:(f+sn)*64≤N:=by
  have hk:xb=0∨xb=1:=by omega
  unfold VJ at hf;have h2:N / 64*64≤N:=Nat.div_mul_le_self _ _
  rcases hk with rfl | rfl <;> simp at hf <;> omega
 have lU:N≤C:=by
  obtain ⟨a8,c8,h8,h7,h6⟩:=hr.len
  simp only [Y4] at h8
  obtain ⟨-,h5,rfl⟩:=h8;omega
 rw [hf,Ww] at H;have hal:(PC cont f sn).length=sn*64:=RN _ _ _ (by omega);have S0:Hid (uD w (.slice ta ns.length tc) ((w.alloc (.cells #[.slice ta ns.length tc] 63)).alloc (.cells #[.slice none 0 0,.int .i64 0,.int .i64 0,.int .i64 0] 99))):=(uD.new _ _).1;have R0:Hid (St ((w.alloc (.cells #[.slice ta ns.length tc] 63)).alloc (.cells #[.slice none 0 0,.int .i64 0,.int .i64 0,.int .i64 0] 99)) (w.heap.size+1) [.slice none 0 0,.int .i64 0,.int .i64 0,.int .i64 0]):=(uD.new _ _).2;have uE:Hid (∀W,Calls Tryz.prog 79 #[.agg #[.int .i64 S,.int .i64 (sn:Int)],.int .i64 xb] W (YI W (.agg #[.int .i64 (f:Int),.int .i64 (sn:Int)]))):=by
  intro W;have h9:=VO W S (sn:Int) xb hc hb;rw [hf,show LM S (sn:Int) true=(sn:Int) from rfl] at h9;exact h9
 have Aq:Hid (∀W,Calls Tryz.prog 50 #[.agg #[.int .i64 (f:Int),.int .i64 (sn:Int)],.slice (some ⟨g,0,none⟩) N C] W (YI W (.slice (some ⟨g,f*64,none⟩) (PC cont f sn).length (C - f*64)))):=by
  intro W;rw [hal];exact U8 W g N C f sn kD (by omega) lU Dp
 have Z':Hid (∀W,ZX w W→Calls Tryz.prog 134 #[.agg #[.slice ta ns.length tc],.int .i64 start,.slice (some ⟨g,f*64,none⟩) (PC cont f sn).length (C - f*64)] W (M6 W ms z2 z3 z4)):=fun W hW=>by
  rw [hal];exact H W hW
 have WE:Hid (w.cell? ⟨b,0,none⟩=some (.int .i64 S)∧w.cell? ⟨b,1,none⟩=some (.int .i64 (sn:Int))∧w.cell? ⟨b,6,none⟩=some (.slice (some ⟨g,0,none⟩) N C)):=⟨c0,c1,c6⟩;clear hr c0 c1 c6 hc hf hby H hal;generalize PC cont f sn=IM at *;generalize IM.length=il at *;generalize C - f*64=c9 at *;generalize f*64=fo at *;clear kD lU xS hN Dp
 go_enter Tryz.func86,Tryz.ntmps86
 go_wp2_with fail
 generalize (w.alloc _).alloc _=w0 at *;have Sd:=Z3 (S0.out.below (below_drewN' w0 1));have Z8:=Z3 (R0.out.below (below_drewN' w0 1));refine ZH (S:=uD w (.slice ta ns.length tc)) (by kernel_rfl) (Sd.out) (fun Z9=>?_);refine ZW (.agg #[.slice ta ns.length tc]) (by kernel_rfl) (fun _=>id) Z9 ?_ ?_
 · intro w9 Z0;have k0:=(Z0.YU.cell (p:=⟨b,0,none⟩) hlt).trans WE.out.1;have k1:=(Z0.YU.cell (p:=⟨b,1,none⟩) hlt).trans WE.out.2.1;have k6:=(Z0.YU.cell (p:=⟨b,6,none⟩) hlt).trans WE.out.2.2;have x0:=Z0.sx.cl 0 _ rfl;clear Z0;go_simp
 iterate 4 (refine ZW ?_ (by kernel_rfl) (fun _=>id) Z9 ?_ ?_;rotate_left;· intro w9 Z0;have k0:=(Z0.YU.cell (p:=⟨b,0,none⟩) hlt).trans WE.out.1;have k1:=(Z0.YU.cell (p:=⟨b,1,none⟩) hlt).trans WE.out.2.1;have k6:=(Z0.YU.cell (p:=⟨b,6,none⟩) hlt).trans WE.out.2.2;have x0:=Z0.sx.cl 0 _ rfl;clear Z0;go_simp;try with_reducible rfl)
 refine ZW (.agg #[.int .i64 S,.int .i64 (sn:Int)]) (by kernel_rfl) (fun _=>id) Z9 ?_ ?_
 · intro w9 Z0;have k0:=(Z0.YU.cell (p:=⟨b,0,none⟩) hlt).trans WE.out.1;have k1:=(Z0.YU.cell (p:=⟨b,1,none⟩) hlt).trans WE.out.2.1;have k6:=(Z0.YU.cell (p:=⟨b,6,none⟩) hlt).trans WE.out.2.2;have x0:=Z0.sx.cl 0 _ rfl;clear Z0;go_simp
 refine ZW ?_ (by kernel_rfl) (fun _=>id) Z9 ?_ ?_
 rotate_left
 · intro w9 Z0;have k0:=(Z0.YU.cell (p:=⟨b,0,none⟩) hlt).trans WE.out.1;have k1:=(Z0.YU.cell (p:=⟨b,1,none⟩) hlt).trans WE.out.2.1;have k6:=(Z0.YU.cell (p:=⟨b,6,none⟩) hlt).trans WE.out.2.2;have x0:=Z0.sx.cl 0 _ rfl;clear Z0;go_simp;try with_reducible rfl
 refine ZG 8 ?v8 rfl (by kernel_rfl) (fun _=>id) Z9 ?sW ?_
 case sW =>
  intro w9 Z0;have k0:=(Z0.YU.cell (p:=⟨b,0,none⟩) hlt).trans WE.out.1;have k1:=(Z0.YU.cell (p:=⟨b,1,none⟩) hlt).trans WE.out.2.1;have k6:=(Z0.YU.cell (p:=⟨b,6,none⟩) hlt).trans WE.out.2.2;have x0:=Z0.sx.cl 0 _ rfl;clear Z0;go_simp
  try with_reducible rfl
 refine ZG 9 ?v9 rfl (by kernel_rfl) (fun _=>id) Z9 ?ot ?_
 case ot =>
  intro w9 Z0;have k0:=(Z0.YU.cell (p:=⟨b,0,none⟩) hlt).trans WE.out.1;have k1:=(Z0.YU.cell (p:=⟨b,1,none⟩) hlt).trans WE.out.2.1;have k6:=(Z0.YU.cell (p:=⟨b,6,none⟩) hlt).trans WE.out.2.2;have x0:=Z0.sx.cl 0 _ rfl;clear Z0;go_simp
  try with_reducible rfl
 refine ZG 10 ?v10 rfl (by kernel_rfl) (fun _=>id) Z9 ?Fg ?_
 case Fg =>
  intro w9 Z0;have k0:=(Z0.YU.cell (p:=⟨b,0,none⟩) hlt).trans WE.out.1;have k1:=(Z0.YU.cell (p:=⟨b,1,none⟩) hlt).trans WE.out.2.1;have k6:=(Z0.YU.cell (p:=⟨b,6,none⟩) hlt).trans WE.out.2.2;have x0:=Z0.sx.cl 0 _ rfl;clear Z0;go_simp
  try with_reducible rfl
 refine ZG 11 (.slice (some ⟨g,0,none⟩) N C) rfl (by kernel_rfl) (fun _=>id) Z9 ?NH ?_
 case NH =>
  intro w9 Z0;have k0:=(Z0.YU.cell (p:=⟨b,0,none⟩) hlt).trans WE.out.1;have k1:=(Z0.YU.cell (p:=⟨b,1,none⟩) hlt).trans WE.out.2.1;have k6:=(Z0.YU.cell (p:=⟨b,6,none⟩) hlt).trans WE.out.2.2;have x0:=Z0.sx.cl 0 _ rfl;clear Z0;go_simp
 refine ZU 7 rfl (by kernel_rfl) (fun K hK=>?_);go_simp;refine (uE.out _).mono ?_;rintro e w1 ⟨rfl,b1⟩;have N1:=Z9.below b1;have R1:=Z8.out.below b1;clear b1;refine hK.out _ _ N1 (fun ZM=>?_);clear hK K Z9;have Z9:=ZM;clear ZM;refine ZU 12 rfl (by kernel_rfl) (fun K hK=>?_);go_simp;refine (Aq.out _).mono ?_;rintro e w2 ⟨rfl,b2⟩;have N2:=Z9.below b2;have R2:=R1.below b2;clear b2;refine hK.out _ _ N2 (fun ZM=>?_);clear hK K Z9;have Z9:=ZM;clear ZM;refine ZU 13 rfl (by kernel_rfl) (fun K hK=>?_);go_simp;refine (Z'.out _ Z9.YU).mono ?_;rintro e w3 ⟨va,vc,rfl,o3,b3⟩;have N3:=Z9.below b3;have R3:=R2.below b3;have O3:=Z3 o3;clear b3 o3;refine hK.out _ _ N3 (fun ZM=>?_);clear hK K Z9;have Z9:=ZM;clear ZM;have t0:=R3.cl 0 _ rfl;have t1:=R3.cl 1 _ rfl;have t2:=R3.cl 2 _ rfl;have t3:=R3.cl 3 _ rfl;have f0:=R3.fz 0;have f1:=R3.fz 1;have f2:=R3.fz 2;have f3:=R3.fz 3;have SE:Hid (St ((((w3.setCell ⟨w.heap.size+1,0,none⟩ (.slice va ms.length vc)).setCell ⟨w.heap.size+1,1,none⟩ (.int .i64 z2)).setCell ⟨w.heap.size+1,2,none⟩ (.int .i64 ((z3:Nat):Int))).setCell ⟨w.heap.size+1,3,none⟩ (.int .i64 (z4))) (w.heap.size+1) [(.slice va ms.length vc),(.int .i64 z2),(.int .i64 ((z3:Nat):Int)),(.int .i64 (z4))]):=((((R3.set 0 (.slice va ms.length vc)).set 1 (.int .i64 z2)).set 2 (.int .i64 ((z3:Nat):Int))).set 3 (.int .i64 (z4)));have BE:Hid (ZX w ((((w3.setCell ⟨w.heap.size+1,0,none⟩ (.slice va ms.length vc)).setCell ⟨w.heap.size+1,1,none⟩ (.int .i64 z2)).setCell ⟨w.heap.size+1,2,none⟩ (.int .i64 ((z3:Nat):Int))).setCell ⟨w.heap.size+1,3,none⟩ (.int .i64 (z4)))):=by
  iterate 4 refine Below.setCell ?_ (by show w.heap.size≤w.heap.size+1;omega) _
  exact N3.YU
 have OE:Hid (Zz 147 ((((w3.setCell ⟨w.heap.size+1,0,none⟩ (.slice va ms.length vc)).setCell ⟨w.heap.size+1,1,none⟩ (.int .i64 z2)).setCell ⟨w.heap.size+1,2,none⟩ (.int .i64 ((z3:Nat):Int))).setCell ⟨w.heap.size+1,3,none⟩ (.int .i64 (z4))) w.heap.size (.slice va ms.length vc) ms):=by
  have hne:(Value.slice va ms.length vc).ownBlock=none∨(Value.slice va ms.length vc).ownBlock≠some (w.heap.size+1):=.inr (fun e=>by have:=(ZD O3.out _ e).1;have:=R2.lt;omega);have o5:=Zz.mono O3.out N2.YU.size;exact Yu (Yu (Yu (Yu o5 (grownBy_set _ _ (w.heap.size+1) 0 _ (YT _ _)) hne) (grownBy_set _ _ (w.heap.size+1) 1 _ (YT _ _)) hne) (grownBy_set _ _ (w.heap.size+1) 2 _ (YT _ _)) hne) (grownBy_set _ _ (w.heap.size+1) 3 _ (YT _ _)) hne
 refine ZU 14 rfl (by kernel_rfl) (fun K hK=>?_);clear uE Aq Z' S0 Sd WE;have TW:Hid (∀wE va vc,Zz 147 wE w.heap.size (.slice va ms.length vc) ms→ZX w wE→M6 w ms z2 z3 z4 (.returned (.agg #[.slice va ms.length vc,.int .i64 z2,.int .i64 ((z3:Nat):Int),.int .i64 (z4)])) wE):=fun wE va vc ho hb=>⟨va,vc,rfl,ho,hb⟩
 clear O3;generalize hr1:ms.length=rl at *;go_simp;have NE:uD w (.slice ta ns.length tc) ((((w3.setCell ⟨w.heap.size+1,0,none⟩ (.slice va rl vc)).setCell ⟨w.heap.size+1,1,none⟩ (.int .i64 z2)).setCell ⟨w.heap.size+1,2,none⟩ (.int .i64 (z3:Int))).setCell ⟨w.heap.size+1,3,none⟩ (.int .i64 z4)):=⟨BE.out,(((N3.sx.other (by omega)).other (by omega)).other (by omega)).other (by omega)⟩;refine hK.out _ _ NE (fun ZM=>?_);clear hK K ZM;refine ZP (by kernel_rfl) ?_ _
 try simp only [Act.put,Y8,Y7,Y6]
 clear t0 t1 t2 t3 f0 f1 f2 f3 NE N1 N2 N3 R1 R2 R3 Z9 R0 Z8;generalize (((w3.setCell _ _).setCell _ _).setCell _ _).setCell _ _=wE at *;go_wp2;have e0:=SE.out.cl 0 _ rfl;have e1:=SE.out.cl 1 _ rfl;have e2:=SE.out.cl 2 _ rfl;have e3:=SE.out.cl 3 _ rfl;refine ZS (v:=.agg #[.slice va rl vc,.int .i64 z2,.int .i64 (z3:Int),.int .i64 z4]) (by simp [results,Tryz.results86,go_sem,e0,e1,e2,e3]) rfl ?_;exact TW.out wE va vc OE.out BE.out
def CL (w:World) (b:Nat) (S L:Int) (vd vp:Value) (lim made:Int) (vc:Value) (cg:Bool) (c:Uz) (og:Bool) (o:Uz) (ms:List Nd) (z2:Int) (z3:Nat) (z4:Int) (e:Ending) (w':World):Prop :=
 Tw w b none w' none∧∃va JC,e=.returned (.int .i64 3)∧St w' b (So S L vd vp lim made vc cg c og o 0 (.slice va ms.length JC) z2 ((z3:Nat):Int) z4)∧Zz 147 w' w.heap.size (.slice va ms.length JC) ms
theorem Gk (w:World) (b g N C:Nat) (S L:Int) (vd vp:Value) (lim made:Int) (vc:Value) (cg:Bool) (c:Uz) (og:Bool) (o:Uz) (code:Int) (vt:Value) (zx cnt en:Int) (cont:List Int) (hs:St w b (So S L vd vp lim made vc cg c og o code vt zx cnt en)) (ol:vc=.slice (some ⟨g,0,none⟩) N C) (hr:∀W,Tw w b none W none→Rd .u8 W (.slice (some ⟨g,0,none⟩) N C) cont) (hby:Wm cont) (hN:cont.length=N) (Dp:N≤1048576) (hc:YO S L=true) (xS:2+2*(S+L)≤((N / 64:Nat):Int)) (ht:TF w) (hb0:0<b) (ns:List Nd) (hSD:qF ((PC cont (VJ S L c.b false).toNat S.toNat).take c.l.toNat) c.c=some ns) (ms:List Nd) (z2:Int) (z3:Nat) (z4:Int) (Z5:∀W ta tc,Tw w b none W none→Wx W (.slice ta ns.length tc) ns→St W b (So S L vd vp lim made vc cg c og o 0 vt zx cnt en)→Calls Tryz.prog 86 #[.pointer (some ⟨b,0,none⟩),.agg #[.slice ta ns.length tc],.int .i64 c.s,.int .i64 c.b] W (M6 W ms z2 z3 z4)) (hcb:0≤c.b∧c.b≤1) (hcl:0≤c.l∧c.l≤S*64) :
    Calls Tryz.prog 40 #[.pointer (some ⟨b,0,none⟩)] w (CL w b S L vd vp lim made vc cg c og o ms z2 z3 z4):=by
 have hlt:=hs.lt;obtain ⟨ln,hln⟩:∃n:Nat,c.l=(n:Int):=⟨c.l.toNat,by omega⟩;have xQ:Hid (∀W,ZX w W→Calls Tryz.prog 85 #[.pointer (some ⟨b,0,none⟩),.agg #[.int .i64 c.g,.int .i64 c.b,.int .i64 c.s,.int .i64 c.l,.int .i64 c.c]] W (xT W (qF ((PC cont (VJ S L c.b false).toNat S.toNat).take c.l.toNat) c.c))):=by
  intro W hW;have hs':=hs.Zc hW hlt;have h9:=BU W b g N C ln S L c.g c.b c.s c.l c.c cont (hs'.cl 0 _ rfl) (hs'.cl 1 _ rfl) (by rw [←ol];exact hs'.cl 6 _ rfl) hs'.lt (hr W (Tw.ZV hW _ _)) hby hN Dp hc xS hcb hln hcl.2 (ht.below (by omega) hW) (by have:=hs'.lt;omega);rw [show ln=c.l.toNat by omega] at h9;exact h9
 have Fz:=Z3 Z5;have HS:=Z3 hs;clear hs hr ht hc hby hN xS hln ol;rw [hSD] at xQ;clear hSD;have q8:=HS.out.cl 8 _ rfl;have q9:=HS.out.cl 9 _ rfl;have iK:=HS.out.cl 10 _ rfl;have iJ:=HS.out.cl 11 _ rfl;have gU:=HS.out.cl 12 _ rfl;have BA:Hid (ZX w (w.alloc (.cells #[.int .i64 c.g,.int .i64 c.b,.int .i64 c.s,.int .i64 c.l,.int .i64 c.c] 60))):=ZJ.alloc ZT _;have XA:Hid (St (w.alloc (.cells #[.int .i64 c.g,.int .i64 c.b,.int .i64 c.s,.int .i64 c.l,.int .i64 c.c] 60)) w.heap.size [.int .i64 c.g,.int .i64 c.b,.int .i64 c.s,.int .i64 c.l,.int .i64 c.c]):=St.new _ _ _
 go_enter Tryz.func40,Tryz.ntmps40
 go_wp2_with fail
 clear q8 q9 iK iJ gU;generalize w.alloc _=w0 at *;refine (xQ.out _ BA.out).mono ?_;rintro e w1 ⟨b1,h1⟩;have B1:=Z3 (YV BA.out b1);have X1:=Z3 (XA.out.below b1);have Zf:=b1.size;clear b1 BA xQ
 rcases h1 with ⟨hn,rfl⟩ | ⟨Z4,v,hsm,rfl,o1⟩
 · cases hn
 obtain rfl:ns=Z4:=Yv hsm;clear hsm;obtain ⟨va,JC,ZO⟩:=Zz.Vc o1;subst ZO;have O1:=Z3 o1;have BA:ZX w1 (w1.alloc (.cells #[.bool true,.slice va ns.length JC] 135)):=ZJ.alloc ZT _;have B2:Hid (ZX w (w1.alloc (.cells #[.bool true,.slice va ns.length JC] 135))):=B1.out.alloc B1.out.size _;have S2:=Z3 (HS.out.Zc B2.out hlt);have X2:=Z3 (X1.out.below BA);have Y2:Hid (St (w1.alloc (.cells #[.bool true,.slice va ns.length JC] 135)) w1.heap.size [.bool true,.slice va ns.length JC]):=St.new _ _ _;have O2:=Z3 (Zz.below O1.out BA);have hw1:=B1.out.size;have hw0:b<w0.heap.size:=by have:=XA.out.lt;omega
 clear HS B1 X1 XA O1 o1 BA;have ZK:=S2.out.cl 19 _ rfl;have f19:=S2.out.fz 19;have hx1:=X2.out.cl 1 _ rfl;have hx2:=X2.out.cl 2 _ rfl;have hy0:=Y2.out.cl 0 _ rfl;have hy1:=Y2.out.cl 1 _ rfl;have SA:Hid (St ((w1.alloc (.cells #[.bool true,.slice va ns.length JC] 135)).setCell ⟨b,19,none⟩ (.int .i64 0)) b (So S L vd vp lim made vc cg c og o 0 vt zx cnt en)):=S2.out.set 19 _;have ZE:((w1.alloc (.cells #[.bool true,.slice va ns.length JC] 135)).setCell ⟨b,19,none⟩ (.int .i64 0)).cell? ⟨w.heap.size,1,none⟩=some (.int .i64 c.b):=(X2.out.other (by omega)).cl 1 _ rfl;have ZC:((w1.alloc (.cells #[.bool true,.slice va ns.length JC] 135)).setCell ⟨b,19,none⟩ (.int .i64 0)).cell? ⟨w.heap.size,2,none⟩=some (.int .i64 c.s):=(X2.out.other (by omega)).cl 2 _ rfl;have Zy:((w1.alloc (.cells #[.bool true,.slice va ns.length JC] 135)).setCell ⟨b,19,none⟩ (.int .i64 0)).cell? ⟨w1.heap.size,1,none⟩=some (.slice va ns.length JC):=(Y2.out.other (by omega)).cl 1 _ rfl;have TA:Hid (Tw w b none ((w1.alloc (.cells #[.bool true,.slice va ns.length JC] 135)).setCell ⟨b,19,none⟩ (.int .i64 0)) none):=(Tw.ZV B2.out b none).set;have OA:Hid (Zz 147 ((w1.alloc (.cells #[.bool true,.slice va ns.length JC] 135)).setCell ⟨b,19,none⟩ (.int .i64 0)) w0.heap.size (.slice va ns.length JC) ns):=Yu O2.out (grownBy_set _ _ b 19 _ (YT _ _)) (.inr (fun e=>by have:=(ZD O2.out _ e).1;omega));clear S2 X2 Y2 O2 B2
 go_wp2_with fail
 clear ZK f19 hx1 hx2 hy0 hy1 ZE ZC Zy;generalize (w1.alloc _).setCell _ _=w3 at *;refine (Fz.out w3 va JC TA.out OA.out.rd SA.out).mono ?_;rintro e w4 ⟨ra,rc,rfl,o4,b4⟩;have S4:=Z3 (SA.out.below b4);have T4:=Z3 (TA.out.trans (Tw.ZV b4 b none));have O4:=Z3 (Zz.mono o4 TA.out.size);have hnb:(Value.slice ra ms.length rc).ownBlock≠some b:=fun e=>by have:=(ZD o4 _ e).1;have:=SA.out.lt;omega
 have TW:Hid (∀wE,St wE b (So S L vd vp lim made vc cg c og o 0 (.slice ra ms.length rc) z2 ((z3:Nat):Int) z4)→Zz 147 wE w.heap.size (.slice ra ms.length rc) ms→Tw w b none wE none→CL w b S L vd vp lim made vc cg c og o ms z2 z3 z4 (.returned (.int .i64 3)) wE):=fun wE h1 h2 h3=>⟨h3,ra,rc,rfl,h1,h2⟩
 clear o4 b4 SA TA OA Fz;generalize hrl:ms.length=rl at *;have g20:=S4.out.fz 20;have g21:=S4.out.fz 21;have g22:=S4.out.fz 22;have g23:=S4.out.fz 23;have k21:=S4.out.cl 21 _ rfl;have k22:=S4.out.cl 22 _ rfl;have k23:=S4.out.cl 23 _ rfl;have k20:=S4.out.cl 20 _ rfl;have SE:Hid (St ((((w4.setCell ⟨b,20,none⟩ (.slice ra rl rc)).setCell ⟨b,21,none⟩ (.int .i64 z2)).setCell ⟨b,22,none⟩ (.int .i64 ((z3:Nat):Int))).setCell ⟨b,23,none⟩ (.int .i64 z4)) b (So S L vd vp lim made vc cg c og o 0 (.slice ra rl rc) z2 ((z3:Nat):Int) z4)):=(((S4.out.set 20 _).set 21 _).set 22 _).set 23 _;have TE:Hid (Tw w b none ((((w4.setCell ⟨b,20,none⟩ (.slice ra rl rc)).setCell ⟨b,21,none⟩ (.int .i64 z2)).setCell ⟨b,22,none⟩ (.int .i64 ((z3:Nat):Int))).setCell ⟨b,23,none⟩ (.int .i64 z4)) none):=T4.out.set.set.set.set;have OE:Hid (Zz 147 ((((w4.setCell ⟨b,20,none⟩ (.slice ra rl rc)).setCell ⟨b,21,none⟩ (.int .i64 z2)).setCell ⟨b,22,none⟩ (.int .i64 ((z3:Nat):Int))).setCell ⟨b,23,none⟩ (.int .i64 z4)) w.heap.size (.slice ra rl rc) ms):=Yu (Yu (Yu (Yu O4.out (grownBy_set _ _ b 20 _ (YT _ _)) (.inr hnb)) (grownBy_set _ _ b 21 _ (YT _ _)) (.inr hnb)) (grownBy_set _ _ b 22 _ (YT _ _)) (.inr hnb)) (grownBy_set _ _ b 23 _ (YT _ _)) (.inr hnb);clear S4 T4 O4;go_wp2;go_ret;exact TW.out _ SE.out OE.out TE.out
attribute [local go_sem] VA
theorem AC (nn:Nat) (hn1:1≤nn) (l Ba tb c:Nat) (a:Option Addr) (P:World→Prop) (hP:∀X Y,ZX X Y→P X→P Y) (W:World) (hW:P W) (h0:W.cell? ⟨Ba,0,none⟩=some (.pointer (some ⟨tb,0,none⟩))) (h1:W.cell? ⟨tb,0,none⟩=some (.slice a 0 c)) :
    CallsIn Fence.wide nn Tryz.prog 137 #[.func (.yield l) #[] #[],.pointer (some ⟨Ba,0,none⟩)] W fun e W'=>(∃v,e=.returned v)∧P W':=by
 have H0:=Z3 hW;clear hP hW;refine SC Tryz.func137 rfl trivial ?_ rfl
 simp only [Tryz.ntmps137,Zm,Yr,Wo,Nat.reduceAdd,Nat.reduceSub,JO,JN,Wj,Ur,Yw,Vq]
 gi_wp2
 gi_loopw [10] (fun i wr=>i=.int .i64 0∧wr=W) (fun _ _=>0)
 case atStart=>exact ⟨rfl,rfl⟩
 case round =>
  obtain ⟨rfl,rfl⟩:=hrel;gi_wp2;exact ⟨rfl,_,Rs rfl _ _ _,⟨_,rfl⟩,H0.out⟩
structure Cz (w w1 w2:World) (tb c:Nat) (a:Option Addr) (W:World):Prop where
 YU:ZX w W
 res:St W (w.heap.size+1) [.int .i64 0]
 bx:W.cell? ⟨w1.heap.size,0,none⟩=some (.pointer (some ⟨tb,0,none⟩))
 rows:W.cell? ⟨tb,0,none⟩=some (.slice a 0 c)
 sz:w2.heap.size≤W.heap.size
theorem MA (w:World) (b:Nat) (ou:∀W,ZX w W→Calls Tryz.prog 87 #[.pointer (some ⟨b,0,none⟩)] W (xK W [])) :
    Calls Tryz.prog 42 #[.pointer (some ⟨b,0,none⟩)] w (YI w (.int .i64 6)):=by
 have ou:=Z3 ou;have BA:Hid (ZX w ((w.alloc (.cells #[.pointer (some ⟨b,0,none⟩)] 93)).alloc (.cells #[.int .i64 0] 102))):=(ZJ.alloc ZT _).alloc (by simp) _;have Y0:Hid (St ((w.alloc (.cells #[.pointer (some ⟨b,0,none⟩)] 93)).alloc (.cells #[.int .i64 0] 102)) (w.heap.size+1) [.int .i64 0]):=by
  have h9:=St.new (w.alloc (.cells #[.pointer (some ⟨b,0,none⟩)] 93)) #[.int .i64 0] 102;rw [Wg] at h9;exact h9
 refine (XM (n:=6)).1 ?_;refine callsIn_of_wp_marks Tryz.func42 rfl trivial ?_ rfl
 simp only [Tryz.ntmps42,Zm,Yr,Wo,Nat.reduceAdd,Nat.reduceSub,JO,JN,Wj,Ur,Yw,Vq]
 gi_wp2_with fail
 refine ⟨trivial,?_⟩;generalize (w.alloc _).alloc _=w0 at *;refine (XM.2 (ou.out _ BA.out)).mono ?_;rintro e w1 ⟨tb,mb,v,rfl,t1,b1⟩;have s0:=Y0.out.lt;have B1:=Z3 (YV BA.out b1);have Y1:=Z3 (Y0.out.below b1);obtain ⟨⟨tz,td,-⟩,-⟩:=t1.box;obtain ⟨a,c,rfl⟩:∃a c,v=.slice a 0 c:=by
  rcases t1.rows.2 with ⟨rfl,-⟩ | ⟨g,cap,cur,rfl,-⟩
  · exact ⟨_,_,rfl⟩
  exact ⟨_,_,rfl⟩
 have TD:=Z3 td;have s1:=b1.size;clear b1 t1 BA Y0 ou td
 gi_wp2_with fail
 refine ⟨trivial,?_⟩;refine (all_in Fence.wide _ trivial rfl _ _).mono ?_;rintro e w2 ⟨rfl,hw2⟩;have s2:w2.heap.size=w1.heap.size+1:=by rw [hw2];simp
 have b2:ZX w1 w2:=by rw [hw2];exact ZJ.alloc ZT _
 have Z2:Hid (Cz w w1 w2 tb c a w2):=⟨YV B1.out b2,Y1.out.below b2,by rw [hw2];simp,(b2.cell (p:=⟨tb,0,none⟩) tz).trans TD.out,ZT⟩;have s3:=B1.out.size;clear hw2 b2 B1 Y1 TD;have ZB:∀X Y,ZX X Y→Cz w w1 w2 tb c a X→Cz w w1 w2 tb c a Y:=fun X Y hb h =>
  ⟨h.YU.trans (hb.mono h.YU.size),h.res.below hb,(hb.cell (p:=⟨w1.heap.size,0,none⟩) (by have:=h.sz;show w1.heap.size<_;omega)).trans h.bx,(hb.cell (p:=⟨tb,0,none⟩) (by have:=h.sz;show tb<_;omega)).trans h.rows,ZF h.sz hb.size⟩
 have ZN:∀X Y row,Cz w w1 w2 tb c a X→X.grownBy Y row→(∀r,row=some r→w2.heap.size≤r)→Cz w w1 w2 tb c a Y:=fun X Y row h hg hr =>
  have hb:∀q,q<w2.heap.size→Y.heap[q]?=X.heap[q]?:=fun q hq=>hg.block q (ZL hq h.sz) (fun e=>by have:=hr q e.symm;omega)
  ⟨h.YU.grown hg (by have:=h.YU.size;omega) (fun q e=>by have:=hr q e;omega),h.res.xJ hg (fun e=>by have:=hr _ e.symm;omega),(Zj (w:=X) (a:=⟨w1.heap.size,0,none⟩) (hb _ (by show w1.heap.size<_;omega))).trans h.bx,(Zj (w:=X) (a:=⟨tb,0,none⟩) (hb _ (by show tb<_;omega))).trans h.rows,ZF h.sz hg.size⟩
 have Z7:=Z3 ZB;have Zx:=Z3 ZN;clear ZB ZN
 gi_wp2_with fail
 refine Ty (F:=Fence.wide) (n:=6) rfl (by omega) (gf:=137) (lb:=#[.pointer (some ⟨w1.heap.size,0,none⟩)]) rfl trivial (enters_of Tryz.func137 (by kernel_rfl) rfl)
  (fun (_:Unit) W=>Cz w w1 w2 tb c a W) (fun _ _ _=>False) (fun s _=>s) (fun _ _=>True) (fun _=>True) ()
  (fun s X Y row hs hg hr=>Zx.out X Y row hs hg (fun r e=>(hr r e).1)) (fun _ _=>trivial) (fun _ _ _ _ _ _ _ _=>trivial)
  (fun s vs W hp=>hp.elim) Z2.out (fun _ _ _ _=>False) (fun _ _ _ _ _ _ _ h=>h.elim) (fun _ _ _ _ _ _ h=>h.elim) (fun _ _ _ _ _ h=>h.elim) ?call ?done
 case call =>
  intro Bk W1 tG hY hb1 _ hs0 J;refine (AC _ (by omega) _ _ tb c a (fun W=>Cz w w1 w2 tb c a W∧Bk W) (fun X Y hb h=>⟨Z7.out X Y hb h.1,tG X Y (XZ hb) h.2⟩) W1 ⟨hs0,J⟩ hs0.bx hs0.rows).mono ?_;rintro e W' ⟨h1,h2,h3⟩;exact ⟨h1,(),trivial,h2,h3⟩
 case done =>
  rintro D s W hD hfin hS hK;have HS:=Z3 hS;have HK:=Z3 hK;clear hS hK hfin
  gi_wp2_with fail
  refine ⟨trivial,?_⟩;refine (XM.2 (BP W tb _ [] HS.out.rows ⟨a,c,rfl⟩)).mono ?_;rintro e Wy ⟨rfl,G⟩;have I:=Z3 (Z7.out _ _ G HS.out);have Zw:Hid (Wy.heap[D]?=some (.deferred (some []))):=(G.block D (Yh.mp HK.out).1).trans HK.out;clear G HS HK;have y0:=I.out.res.cl 0 _ rfl;have yf:=I.out.res.fz 0;gi_wp2;refine ⟨trivial,?_⟩;gi_wp2;have Zt:(Wy.setCell ⟨w.heap.size+1,0,none⟩ (.int .i64 6)).heap[D]?=some (.deferred (some [])):=(KeepsOthers.setCell _ _ _).same D _ Zw.out rfl;refine ⟨by simp,.inl ⟨_,_,rfl,run_takeDeferred Zt,?_⟩⟩;have GX:=grownBy_putObj' (Wy.setCell ⟨w.heap.size+1,0,none⟩ (.int .i64 6)) D (.deferred none);have YX:=(I.out.res.set 0 (.int .i64 6)).xJ GX (by simp;omega);have hsy:=I.out.sz;have BX:ZX w ((Wy.setCell ⟨w.heap.size+1,0,none⟩ (.int .i64 6)).putObj D (.deferred none)):=(I.out.YU.setCell (by simp) _).grown GX (by simp;omega) (fun q e=>by injection e with e;omega);generalize (Wy.setCell _ _).putObj D (.deferred none)=Z at *;have z0:=YX.cl 0 _ rfl;exact ⟨.int .i64 6,by simp [results,Tryz.results42,go_sem,z0],rfl,BX⟩
theorem JU (w:World) (va:Option Addr) (dl ca:Nat) (ZQ:List Int) (hd:Rd .u8 w (.slice va dl ca) ZQ) (hdl:ZQ.length=dl) (hd1:dl≤1048576) :
    Calls Tryz.prog 37 #[.agg #[.slice va dl ca,.slice none 0 0]] w fun e w'=>∃a c g,e=.returned (.agg #[.slice a dl c,.slice (some ⟨g,0,none⟩) 0 1])∧Own .u8 5 w' w.heap.size (.slice a dl c) ZQ∧w.heap.size≤g∧w'.heap[g]?=some (.cells #[.int .i64 0,.slice none 0 0] 132 (0,0))∧ZX w w':=by
 obtain ⟨i0,hi,hz0,hz1,hz2⟩:=Yq Tryz.qS;have hmk:=run_make (P:=Tryz.prog) ((w.alloc (.cells #[.slice va dl ca,.slice none 0 0] 52)).alloc (.cells #[.slice none 0 0,.slice none 0 0] 52)) 50 132 i0 (.agg #[.int .i64 0,.slice none 0 0]) Tryz.underlying50 hi hz0 .i64 .i64 0 1 (by decide) (by decide) (by rw [hz2];decide) (by decide);have hmc:madeCells (Value.agg #[.int .i64 0,.slice none 0 0]).cells ((1:Int).toNat*i0.size)=#[.int .i64 0,.slice none 0 0]:=by rw [hz1];kernel_rfl
 rw [hmc] at hmk;have HD:=Z3 hd;have SM:=Z3 hdl;clear hd hdl hmc
 go_enter Tryz.func37,Tryz.ntmps37
 go_wp2;clear hmk;have B3:Hid (ZX w (((w.alloc (.cells #[.slice va dl ca,.slice none 0 0] 52)).alloc (.cells #[.slice none 0 0,.slice none 0 0] 52)).alloc (.cells #[.int .i64 0,.slice none 0 0] 132))):=((ZJ.alloc ZT _).alloc (by simp) _).alloc (by simp;omega) _;have X0:Hid (St (((w.alloc (.cells #[.slice va dl ca,.slice none 0 0] 52)).alloc (.cells #[.slice none 0 0,.slice none 0 0] 52)).alloc (.cells #[.int .i64 0,.slice none 0 0] 132)) w.heap.size [.slice va dl ca,.slice none 0 0]):=((St.new w _ _).below (ZJ.alloc ZT _)).below (ZJ.alloc ZT _);have oX:Hid ((((w.alloc (.cells #[.slice va dl ca,.slice none 0 0] 52)).alloc (.cells #[.slice none 0 0,.slice none 0 0] 52)).alloc (.cells #[.int .i64 0,.slice none 0 0] 132)).heap[w.heap.size+2]?=some (.cells #[.int .i64 0,.slice none 0 0] 132 (0,0))):=by
  have:=Y9 ((w.alloc (.cells #[.slice va dl ca,.slice none 0 0] 52)).alloc (.cells #[.slice none 0 0,.slice none 0 0] 52)) (.cells #[.int .i64 0,.slice none 0 0] 132);show _=_
  simpa using this
 have X1:Hid (WI (((w.alloc (.cells #[.slice va dl ca,.slice none 0 0] 52)).alloc (.cells #[.slice none 0 0,.slice none 0 0] 52)).alloc (.cells #[.int .i64 0,.slice none 0 0] 132)) (w.heap.size+1) (.slice none 0 0) (.slice none 0 0)):=by
  have:=(WI.new (w.alloc (.cells #[.slice va dl ca,.slice none 0 0] 52)) (.slice none 0 0) (.slice none 0 0) 52).below (ZJ.alloc ZT (.cells #[.int .i64 0,.slice none 0 0] 132));show WI _ _ _ _
  simpa using this
 generalize ((w.alloc _).alloc _).alloc _=w3 at *
 go_loopw [3,14] (fun v i wr=>v=.slice (some ⟨w.heap.size+1+1,0,none⟩) 0 1∧i=.int .i64 0∧wr=w3) (fun _ _ _=>0)
 case atStart=>exact ⟨rfl,rfl,rfl⟩
 case round =>
  obtain ⟨rfl,rfl,rfl⟩:=hrel;have c0:=X0.out.cl 0 _ rfl
  go_wp2_with fail
  refine (L8 _ _ ZQ (HD.out.below B3.out) (by have:=SM.out;omega)).mono ?_;rintro e w7 ⟨v7,rfl,o7,b7⟩;obtain ⟨a7,c7,rfl⟩:=o7.slice;rw [SM.out];have B7:=Z3 (YV B3.out b7);have O7:Hid (Own .u8 5 w7 wr.heap.size (.slice a7 dl c7) ZQ):=by rw [←SM.out];exact o7
  have g3:=oX.out;have l3:=(Yh.mp g3).1;have G7:Hid (w7.heap[w.heap.size+2]?=some (.cells #[.int .i64 0,.slice none 0 0] 132 (0,0))):=(b7.block _ l3).trans g3;have Zr:=Z3 (X1.out.below b7);have hb3:=B3.out.size;clear o7 b7 g3 c0;obtain ⟨⟨z7,d0,d1⟩,f0,f1⟩:=Zr.out;go_wp2;refine ZS (v:=.agg #[.slice a7 dl c7,.slice (some ⟨w.heap.size+1+1,0,none⟩) 0 1]) (by simp [results,Tryz.results37,go_sem,d0,d1]) rfl ⟨_,_,w.heap.size+1+1,rfl,?_,by omega,?_,?_⟩
  · have hl:∀j (u:Value) (W:World),Own .u8 5 W wr.heap.size (.slice a7 dl c7) ZQ→Own .u8 5 (W.setCell ⟨w.heap.size+1,j,none⟩ u) wr.heap.size (.slice a7 dl c7) ZQ:=fun j u W h=>Own.Yk h (by show w.heap.size+1<wr.heap.size;omega) u
    exact Own.mono (hl _ _ _ (hl _ _ _ O7.out)) (by omega)
  · rw [Below.heap_setCell _ _ _ _ (by simp),Below.heap_setCell _ _ _ _ (by simp)]
    exact G7.out
  repeat (first | exact B7.out | refine Below.setCell ?_ (by simp;try omega) _)
end
end Go.Proofs.YtpmjnbmkippaiaaGreatDoor


