import Derived.Test.YtmmmffcbfepghaaGreatDoorJ08
import Derived.Test.YtmmmffcbfepghaaGreatDoorJ07
set_option maxRecDepth 100000
set_option maxHeartbeats 16000000
set_option linter.unusedVariables false
set_option linter.unusedSimpArgs false
namespace Go.Proofs.YtmmmffcbfepghaaGreatDoor
open Go.RowKit Go.Shelf
variable {e:Ending} {start:Int} {a:List Int} {ns:List Nd} {w w':World}
def Qj (ns:List Nd) (start:Int) (n:Nat):Bool:=Zp ns && Uc start && decide (n≤8192)
def Y6 (ns:List Nd) (start:Int) (a:List Int):List Nd × Int × Nat:=if Qj ns start a.length then TY start 0 ((Yl a.length a).map (·.1)) ns start 0 else ([],0,0)
def SM (ns:List Nd) (start:Int) (a:List Int):Int:=if Qj ns start a.length then ((pos (Yl a.length a) (Y6 ns start a).2.2:Nat):Int) else 0
def VG (w:World) (ns:List Nd) (start:Int) (a:List Int) (e:Ending) (w':World):Prop :=
 ∃va vc,e=.returned (.agg #[.slice va (Y6 ns start a).1.length vc,.int .i64 (Y6 ns start a).2.1,.int .i64 (((Y6 ns start a).2.2:Nat):Int),.int .i64 (SM ns start a)])∧ZU 134 w' w.heap.size (.slice va (Y6 ns start a).1.length vc) (Y6 ns start a).1∧ZX w w'
theorem zB (hok:Qj ns start a.length=true) (h:FJ w (Yl a.length a) (TY start 0 ((Yl a.length a).map (·.1)) ns start 0) e w'):VG w ns start a e w':=by
 have e1:Y6 ns start a=TY start 0 ((Yl a.length a).map (·.1)) ns start 0:=ZY hok;have e2:SM ns start a=((pos (Yl a.length a) (Y6 ns start a).2.2:Nat):Int):=ZY hok;obtain ⟨v,rfl,o,b⟩:=h;rw [←e1] at o ⊢;obtain ⟨va,vc,rfl⟩:=ZU.YW o;exact ⟨va,vc,by rw [e2],o,b⟩
theorem uM (hok:Qj ns start a.length=false) (h:e=.returned (.agg #[.slice none 0 0,.int .i64 0,.int .i64 0,.int .i64 0])∧ZX w w'):VG w ns start a e w':=by
 have e1:Y6 ns start a=([],0,0):=Z3 (by rw [hok];simp);have e2:SM ns start a=0:=Z3 (by rw [hok];simp);unfold VG;rw [e1,e2];exact ⟨none,0,h.1,Yf _ _ _ _,h.2⟩
theorem zv :(Y6 ns start a).1.length≤2000∧Good (Y6 ns start a).1:=by
 have key:∀(R:List (List Int)) (k:Nat) (ns:List Nd) (zx last:Int),ns.length≤1000→Good ns→(TY start k R ns zx last).1.length≤2000∧Good (TY start k R ns zx last).1:=by
  intro R
  induction R with
  | nil=>intro k ns zx last h1 h2;exact ⟨by simp only [TY];omega,by simp only [TY];exact h2⟩
  | cons p R ih =>
   intro k ns zx last h1 h2;rw [TY]
   split
   · exact ⟨by simp only;omega,h2⟩
   rename_i z es hd;generalize (if k=0 then decide (start+1<z) else decide (z≠last+1))=c
   split
   · exact ⟨by simp only;omega,h2⟩
   split
   · split
     · exact ⟨by simp only;omega,h2⟩
     exact ih _ _ _ _ (by omega) (SN h2 (Vf hd))
   exact ih _ _ _ _ h1 h2
 unfold Y6
 split
 · rename_i h
   unfold Qj at h
   simp only [Yg] at h
   refine key _ _ _ _ _ ?_ (SO h.1.1);have h3:=h.1.1;unfold Zp at h3
   simp only [Yg,Zg] at h3
   exact h3.1
 exact ⟨by simp,fun n hn=>by simp at hn⟩
theorem My (w:World) (ta:Option Addr) (tc:Nat) (ns:List Nd) (start:Int) (ao:Option Addr) (n cap:Nat) (ht:VL w (.slice ta ns.length tc) ns) (hn:ns.length≤1048576) (hsz:∀i,(Zy ns i).path.size≤1048576∧(Zy ns i).data.size≤1048576) (hm:n≤1048576) (hno:Qj ns start n=false) :
    Calls Tryz.prog 21 #[.agg #[.slice ta ns.length tc],.int .i64 start,.slice ao n cap] w (Ze w (.agg #[.slice none 0 0,.int .i64 0,.int .i64 0,.int .i64 0])):=by
 have HN:=Z8 ht;have OO:=Z8 hsz;have Su:=Z8 hno;clear ht hsz hno
 go_enter Tryz.func21,Tryz.ntmps21
 go_wp2_with fail
 have F0:Hid (RD w (.slice ta ns.length tc) ((w.alloc (.cells #[.slice ta ns.length tc] 33)).alloc (.cells #[.slice none 0 0,.int .i64 0,.int .i64 0,.int .i64 0] 60))):=RD.new _ _ _ _;generalize (w.alloc _).alloc _=w0 at *;refine (Vh _ _ ns (HN.out.below F0.out.1) hn OO.out).mono ?_;rintro e w1 ⟨rfl,b1⟩;have F1:=Z8 (F0.out.below b1);clear b1 F0;obtain ⟨zr,⟨d0,d1,d2,d3⟩,f0,f1,f2,f3⟩:=F1.out.2.2.2
 cases hT:Zp ns with
 | false =>
  clear hT;go_wp2;refine ZT (v:=.agg #[.slice none 0 0,.int .i64 0,.int .i64 0,.int .i64 0]) (by simp [results,Tryz.results21,go_sem,d0,d1,d2,d3]) rfl ⟨rfl,?_⟩
  repeat (first | exact F1.out.1 | refine Zf ?_ (by simp) _)
 | true =>
  have HT:=Z8 hT;clear hT
  go_wp2_with fail
  refine (U8 _ start).mono ?_;rintro e wq ⟨rfl,hwq⟩;rw [hwq];clear hwq;obtain ⟨b,hb⟩:∃b,b=Uc start:=⟨_,rfl⟩;rw [←hb];have HB:=Z8 hb.symm;clear hb
  cases b with
  | false =>
   go_wp2;refine ZT (v:=.agg #[.slice none 0 0,.int .i64 0,.int .i64 0,.int .i64 0]) (by simp [results,Tryz.results21,go_sem,d0,d1,d2,d3]) rfl ⟨rfl,?_⟩
   repeat (first | exact F1.out.1 | refine Zf ?_ (by simp) _)
  | true =>
   have hbig:¬n≤8192:=fun h=>by
    have h2:=Su.out;unfold Qj at h2;rw [HT.out,HB.out,YS h] at h2
    cases h2
   have qT:(8192:Int)<(n:Int):=by omega
   have hbD:decide ((8192:Int)<(n:Int))=true:=by simpa using qT
   clear hbig;go_wp2;refine ZT (v:=.agg #[.slice none 0 0,.int .i64 0,.int .i64 0,.int .i64 0]) (by simp [results,Tryz.results21,go_sem,d0,d1,d2,d3]) rfl ⟨rfl,?_⟩
   repeat (first | exact F1.out.1 | refine Zf ?_ (by simp) _)
theorem Mx (w:World) (ta:Option Addr) (tc:Nat) (ns:List Nd) (start:Int) (ao:Option Addr) (n cap:Nat) (ht:VL w (.slice ta ns.length tc) ns) (_hn:ns.length≤1048576) (hsz:∀i,(Zy ns i).path.size≤1048576∧(Zy ns i).data.size≤1048576) (hm:n≤1048576) (hno:Qj ns start n=false) :
    Calls Tryz.prog 106 #[.agg #[.slice ta ns.length tc],.int .i64 start,.slice ao n cap] w (Ze w (.agg #[.slice none 0 0,.int .i64 0,.int .i64 0,.int .i64 0])):=by
 have HN:=Z8 ht;have OO:=Z8 hsz;have Su:=Z8 hno;clear ht hsz hno
 go_enter Tryz.func106,Tryz.ntmps106
 go_wp2_with fail
 have F0:Hid (RD w (.slice ta ns.length tc) ((w.alloc (.cells #[.slice ta ns.length tc] 33)).alloc (.cells #[.slice none 0 0,.int .i64 0,.int .i64 0,.int .i64 0] 60))):=RD.new _ _ _ _;generalize (w.alloc _).alloc _=w0 at *;refine (Vg _ _ ns (HN.out.below F0.out.1) OO.out).mono ?_;rintro e w1 ⟨rfl,b1⟩;have F1:=Z8 (F0.out.below b1);clear b1 F0;obtain ⟨zr,⟨d0,d1,d2,d3⟩,f0,f1,f2,f3⟩:=F1.out.2.2.2
 cases hT:Zp ns with
 | false =>
  clear hT;go_wp2;refine ZT (v:=.agg #[.slice none 0 0,.int .i64 0,.int .i64 0,.int .i64 0]) (by simp [results,Tryz.results106,go_sem,d0,d1,d2,d3]) rfl ⟨rfl,?_⟩
  repeat (first | exact F1.out.1 | refine Zf ?_ (by simp) _)
 | true =>
  have HT:=Z8 hT;clear hT
  go_wp2_with fail
  refine (QO _ start).mono ?_;rintro e wq ⟨rfl,hwq⟩;rw [hwq];clear hwq;obtain ⟨b,hb⟩:∃b,b=Uc start:=⟨_,rfl⟩;rw [show decide (0≤start∧start≤2147483647)=b by rw [hb];unfold Uc;rw [Bool.decide_and]];have HB:=Z8 hb.symm;clear hb
  cases b with
  | false =>
   go_wp2;refine ZT (v:=.agg #[.slice none 0 0,.int .i64 0,.int .i64 0,.int .i64 0]) (by simp [results,Tryz.results106,go_sem,d0,d1,d2,d3]) rfl ⟨rfl,?_⟩
   repeat (first | exact F1.out.1 | refine Zf ?_ (by simp) _)
  | true =>
   have hbig:¬n≤8192:=fun h=>by
    have h2:=Su.out;unfold Qj at h2;rw [HT.out,HB.out,YS h] at h2
    cases h2
   have qT:(8192:Int)<(n:Int):=by omega
   have hbD:decide ((8192:Int)<(n:Int))=true:=by simpa using qT
   clear hbig;go_wp2;refine ZT (v:=.agg #[.slice none 0 0,.int .i64 0,.int .i64 0,.int .i64 0]) (by simp [results,Tryz.results106,go_sem,d0,d1,d2,d3]) rfl ⟨rfl,?_⟩
   repeat (first | exact F1.out.1 | refine Zf ?_ (by simp) _)
theorem U5 (w:World) (ta:Option Addr) (tc:Nat) (ns:List Nd) (start:Int) (ao:Option Addr) (cap:Nat) (a:List Int) (ht:VL w (.slice ta ns.length tc) ns) (hn:ns.length≤1048576) (hsz:∀i,(Zy ns i).path.size≤1048576∧(Zy ns i).data.size≤1048576) (hr:Rd .u8 w (.slice ao a.length cap) a) (hby:YL a) (hm:a.length≤1048576) :
    Calls Tryz.prog 21 #[.agg #[.slice ta ns.length tc],.int .i64 start,.slice ao a.length cap] w (VG w ns start a):=by
 cases h:Qj ns start a.length with
 | true =>
  have h2:=h;unfold Qj at h2
  simp only [Yg,Zg] at h2
  exact (NL w ta tc ns start ao a.length cap a ht h2.1.1 h2.1.2 hr rfl hby h2.2).mono (fun e w' hp=>zB h hp)
 | false=>exact (My w ta tc ns start ao a.length cap ht hn hsz hm h).mono (fun e w' hp=>uM h hp)
theorem NK (w:World) (ta:Option Addr) (tc:Nat) (ns:List Nd) (start:Int) (ao:Option Addr) (cap:Nat) (a:List Int) (ht:VL w (.slice ta ns.length tc) ns) (hn:ns.length≤1048576) (hsz:∀i,(Zy ns i).path.size≤1048576∧(Zy ns i).data.size≤1048576) (hr:Rd .u8 w (.slice ao a.length cap) a) (hby:YL a) (hm:a.length≤1048576) (hform:(ao=none∧a.length=0∧cap=0)∨∃blk o,ao=some ⟨blk,o,none⟩) :
    Calls Tryz.prog 106 #[.agg #[.slice ta ns.length tc],.int .i64 start,.slice ao a.length cap] w (VG w ns start a):=by
 cases h:Qj ns start a.length with
 | true =>
  have h2:=h;unfold Qj at h2
  simp only [Yg,Zg] at h2
  exact (NM w ta tc ns start ao a.length cap a ht h2.1.1 h2.1.2 hr rfl hby h2.2 hform).mono (fun e w' hp=>zB h hp)
 | false=>exact (Mx w ta tc ns start ao a.length cap ht hn hsz hm h).mono (fun e w' hp=>uM h hp)
end Go.Proofs.YtmmmffcbfepghaaGreatDoor


