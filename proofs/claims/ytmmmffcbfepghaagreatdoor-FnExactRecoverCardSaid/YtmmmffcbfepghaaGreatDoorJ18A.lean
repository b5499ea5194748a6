import Derived.Test.YtmmmffcbfepghaaGreatDoorJ17A
import Derived.OrdersIn
import Derived.WalkMore
set_option maxRecDepth 100000
set_option maxHeartbeats 16000000
set_option linter.unusedVariables false
set_option linter.unusedSimpArgs false
namespace Go.Proofs.YtmmmffcbfepghaaGreatDoor
open Go.RowKit Go.Shelf
variable {ops:Array Oper} {cg og yg:Bool} {L L9 S S9 cnt code e en lim V limit made zx:Int} {Q ps q rs:List (Int × List Int)} {D Z7 xs:List Int} {ns:List Nd} {us:List Value} {BW C N b ca cap cb dl g hi k lo n sn tc tl:Nat} {ao bo ta:Option Addr} {o' row:Option Nat} {P:Program} {RES r:UD} {c o x y:YU} {a1 a2 u v v1 v2 vc vd vp vt:Value} {W W' w w' w1 w2 w5:World}
def Mn (w:World) (row:Option Nat) (w':World):Prop:=w.heap.size≤w'.heap.size∧∀b,b<w.heap.size→some b≠row→w'.heap[b]?=w.heap[b]?
theorem Mn.refl (w:World) (row:Option Nat):Mn w row w:=⟨ZW,fun _ _ _=>rfl⟩
theorem Mn.grown (h:Mn w row w1) (hg:w1.grownBy w2 row):Mn w row w2:=⟨ZP h.1 hg.size,fun b hb hne=>(hg.block b (ZB hb h.1) hne).trans (h.2 b hb hne)⟩
theorem Mn.below (h:Mn w row w1) (hb:ZX w1 w2):Mn w row w2:=⟨ZP h.1 hb.size,fun b hl hne=>(hb.block b (ZB hl h.1)).trans (h.2 b hl hne)⟩
theorem Mn.after (hb:ZX w w1) (h:Mn w1 row w2):Mn w row w2:=⟨ZP hb.size h.1,fun b hl hne=>(h.2 b (ZB hl hb.size) hne).trans (hb.block b hl)⟩
def QB (w:World) (lo g n cap:Nat) (us:List Value) (w':World):Prop:=w'.ownsRow lo 134 7 (.slice (some ⟨g,0,none⟩) n cap) n us∧Below lo w w'∧KT 134 w w'∧Mn w (some g) w'
theorem QB.set (h:QB w lo g n cap us w') (i:Nat) (u:Value):QB w lo g n cap (us.set i u) (w'.setCell ⟨g,i,none⟩ u):=by
 obtain ⟨h1,h2,h3,h4⟩:=h;have hs:=OV h1 i u;exact ⟨hs.1,h2.setCell (ZO h1 g rfl).1 _,h3.grown h1 hs.2,h4.grown hs.2⟩
theorem QB.below (h:QB w lo g n cap us w') (hb:ZX w' w2):QB w lo g n cap us w2:=by
 obtain ⟨h1,h2,h3,h4⟩:=h;refine ⟨yw h1 hb,h2.trans (hb.mono ?_),h3.below hb,h4.below hb⟩;have:=ZO h1 g rfl;omega
theorem QB.cell (h:QB w lo g n cap us w') (i:Nat) (hi:i<n*7):∃u,w'.cell? ⟨g,i,none⟩=some u∧w'.frozen? ⟨g,i,none⟩=false:=vL h.1 i hi
theorem Mm (w:World) (lo g n cap k:Nat) (ns:List Nd) (hp:ns.length=n) (ho:w.ownsRow lo 134 7 (.slice (some ⟨g,0,none⟩) n cap) n (Yd ns)) (hk:k≤1048576) (hn:n≤1048576) :
    Calls Tryz.prog 82 #[.slice (some ⟨g,0,none⟩) n cap,.int .i64 k] w fun e w'=>e=.returned (.int .i64 ((k+7*n:Nat):Int))∧QB w lo g n cap (Yd (UU k n)) w':=by
 have R0:Hid (QB w lo g n cap (Yd (Uz k ns 0)) w):=⟨by unfold Uz UU;simpa using ho,ZR,KT.refl _ _,Mn.refl _ _⟩;have HP:=Z8 hp;clear ho hp
 go_enter Tryz.func82,Tryz.ntmps82
 go_wp2
 go_loopw [1,5] (fun vk vi wr=>∃j K:Nat,j≤n∧K=k+7*j∧vi=.int .i64 j∧vk=.int .i64 K∧Hid (QB w lo g n cap (Yd (Uz k ns j)) wr)) (fun _ i _=>n - (intOf i).toNat)
 case atStart=>exact ⟨0,k,ZQ _,by omega,rfl,rfl,R0⟩
 case round =>
  obtain ⟨j,K,hj,hK,rfl,rfl,HR⟩:=hrel;have rU:=Z8 hK
  by_cases hlt:j<n
  · have YN:(j:Int)<(n:Int):=by omega
    have hK2:K≤10000000:=by omega
    have HS:Hid (AT (Yd (Uz k ns j)) (j*7) (sH K)=Yd (Uz k ns (j+1))):=by
     show _=_;rw [I5 _ _ _ (by rw [Ce _ _ _ (by rw [HP.out];omega),HP.out];exact hlt),hK,Cd _ _ _ (by rw [HP.out];exact hlt)]
    generalize Yd (Uz k ns j)=us at *;clear hK
    go_wp2_with fail
    refine (Ve _ K (by omega)).mono ?_;rintro e w1 ⟨rfl,b1⟩;have R1:=Z8 (HR.out.below b1);clear b1 HR;obtain ⟨x0,d0,f0⟩:=R1.out.cell (j*7) (by omega);have R2:Hid (QB w lo g n cap (us.set (j*7) (.string (Ju K))) (w1.setCell ⟨g,j*7,none⟩ (.string (Ju K)))):=R1.out.set _ _
    go_wp2_with fail
    generalize w1.setCell _ _=w2 at *;clear d0 f0 R1;have hm:=Ve w2 (K+1) (by omega);rw [show ((K+1:Nat):Int)=(K:Int)+1 by omega] at hm;refine hm.mono ?_;clear hm;rintro e w3 ⟨rfl,b3⟩;have R3:=Z8 (R2.out.below b3);clear b3 R2;obtain ⟨x1,d1,f1⟩:=R3.out.cell (j*7+1) (by omega);obtain ⟨x2,d2,f2⟩:=R3.out.cell (j*7+2) (by omega);obtain ⟨x3,d3,f3⟩:=R3.out.cell (j*7+3) (by omega);obtain ⟨x4,d4,f4⟩:=R3.out.cell (j*7+4) (by omega);obtain ⟨x5,d5,f5⟩:=R3.out.cell (j*7+5) (by omega);obtain ⟨x6,d6,f6⟩:=R3.out.cell (j*7+6) (by omega);go_wp2;refine ⟨⟨j+1,K+7,by omega,by have:=rU.out;omega,by go_num,by go_num,?_⟩,by simp [intOf];omega⟩;show QB _ _ _ _ _ _ _;rw [←HS.out];exact ((((((R3.out.set _ _).set _ _).set _ _).set _ _).set _ _).set _ _)
  have hjn:j=n:=by omega
  subst hjn;subst hK;have HF:Hid (QB w lo g j cap (Yd (UU k j)) wr):=by have:=HR.out;rw [←HP.out,Cc,HP.out] at this;exact this
  go_wp2;go_ret;exact ⟨rfl,HF.out⟩
theorem Ml (w:World) (lo k:Nat) (v:Value) (ns:List Nd) (h:ZU 134 w lo v ns) (hk:k≤1048576) (hn:ns.length≤1048576) :
    Calls Tryz.prog 82 #[v,.int .i64 k] w fun e w'=>e=.returned (.int .i64 ((k+7*ns.length:Nat):Int))∧ZU 134 w' lo v (UU k ns.length)∧Below lo w w'∧KT 134 w w'∧Mn w v.ownBlock w':=by
 have h0:=h
 rcases h.2 with ⟨rfl,h1⟩ | ⟨g,cap,cur,rfl,rest⟩
 · refine (Sb w none 0 k).mono ?_
   rintro e w' ⟨rfl,rfl⟩;rw [h1];exact ⟨rfl,Yf _ _ _ _,ZR,KT.refl _ _,Mn.refl _ _⟩
 refine (Mm w lo g ns.length cap k ns rfl h0 hk hn).mono ?_;rintro e w' ⟨rfl,h1,h2,h3,h4⟩;exact ⟨rfl,by unfold ZU;rw [VT];exact h1,h2,h3,h4⟩
theorem Mk (w:World) (lo k:Nat) (v:Value) (ns:List Nd) (h:ZU 134 w lo v ns) (hl:lo≤w.heap.size) (hk:k≤1048576) (hn:ns.length≤1048576) :
    Calls Tryz.prog 44 #[.agg #[v],.int .i64 k] w fun e w'=>e=.returned (.int .i64 ((k+7*ns.length:Nat):Int))∧ZU 134 w' lo v (UU k ns.length)∧Below lo w w'∧KT 134 w w'∧Mn w v.ownBlock w':=by
 have H:=Z8 h;clear h
 go_enter Tryz.func44,Tryz.ntmps44
 go_wp2_with fail
 refine (Ml _ lo k v ns (H.out.below (ZR.alloc ZW _)) hk hn).mono ?_;rintro e w1 ⟨rfl,o1,b1,k1,n1⟩;have O1:=Z8 o1;have B1:=Z8 ((ZR.alloc hl _).trans b1);have K1:=Z8 (((KT.refl _ _).alloc _).trans k1);have N1:=Z8 (Mn.after (ZR.alloc ZW _) n1);clear b1 k1 o1 n1;go_wp2;go_ret;exact ⟨rfl,O1.out,B1.out,K1.out,N1.out⟩
theorem Rt (h:WK w lo v xs) (hx:0<xs.length) (hg:v.ownBlock=some g):∃z,w.cell? ⟨g,0,none⟩=some (.int .u8 z):=by
 obtain ⟨te,h⟩:=h;have hr:=h.rd
 rcases h.2 with ⟨rfl,h0⟩ | ⟨g',cap,cur,rfl,-⟩
 · omega
 obtain rfl:g'=g:=by simpa [Value.ownBlock] using hg
 obtain ⟨ao,c,e,-,-,h9⟩:=hr
 rcases h9 with h9 | ⟨b,off,e2,-,hc⟩
 · rw [h9] at hx;simp at hx
 subst e2
 simp only [Zc,Xu,uC] at e
 obtain ⟨⟨rfl,rfl,-⟩,-⟩:=e;exact ⟨_,by have:=hc 0 hx;simpa using this⟩
theorem Fh (h:ZU 134 w lo v ns) (hx:0<ns.length) (hg:v.ownBlock=some g):∃z,w.cell? ⟨g,0,none⟩=some (.string z):=by
 have hr:=h.rd
 rcases h.2 with ⟨rfl,h0⟩ | ⟨g',cap,cur,rfl,-⟩
 · omega
 obtain rfl:g'=g:=by simpa [Value.ownBlock] using hg
 obtain ⟨ao,c,e,-,-,h9⟩:=hr
 rcases h9 with h9 | ⟨b,off,e2,-,hc⟩
 · rw [h9] at hx;simp at hx
 subst e2
 simp only [Zc,Xu,uC] at e
 obtain ⟨⟨rfl,rfl,-⟩,-⟩:=e;exact ⟨_,by have:=(hc 0 hx).c0;simpa using this⟩
theorem Nn {lo':Nat} {dv:Nat→Value} (h:ZU 134 w lo vt ns) (k:Zz w lo' hi vd vp Z7 ps dv) (hn:0<ns.length) (hp:∀i,i<ps.length→0<(pD ps i).length) :
    ∀g,vt.ownBlock=some g→vd.ownBlock≠some g∧vp.ownBlock≠some g∧∀i,i<ps.length→(dv i).ownBlock≠some g:=by
 intro g hg;have hT:∃cur,w.heap[g]?=some (.cells cur 134 (0,0)):=by
  rcases h.2 with ⟨rfl,h0⟩ | ⟨g',cap,cur,rfl,-,hgg,-⟩
  · omega
  obtain rfl:g'=g:=by simpa [Value.ownBlock] using hg
  exact ⟨_,hgg⟩
 obtain ⟨cur,hT⟩:=hT;refine ⟨fun e=>?_,fun e=>?_,fun i hi e=>?_⟩
 · rcases k.d.2 with ⟨rfl,-⟩ | ⟨g',cap,cur',rfl,-,hgg,-⟩
   · simp [Value.ownBlock] at e
   obtain rfl:g'=g:=by simpa [Value.ownBlock] using e
   rw [hT] at hgg
   injection hgg with hgg
   injection hgg with _ h2
   exact absurd h2 (by decide)
 · rcases k.p.1.2 with ⟨rfl,-⟩ | ⟨g',cap,cur',rfl,-,hgg,-⟩
   · simp [Value.ownBlock] at e
   obtain rfl:g'=g:=by simpa [Value.ownBlock] using e
   rw [hT] at hgg
   injection hgg with hgg
   injection hgg with _ h2
   exact absurd h2 (by decide)
 obtain ⟨z,hz⟩:=Rt (k.p.2.1 i hi) (hp i hi) e;obtain ⟨y,hy⟩:=Fh h hn hg;rw [hz] at hy
 injection hy with hy
 cases hy
theorem Zz.JJ {dv:Nat→Value} (k:Zz w lo hi vd vp Z7 ps dv) (ho:Mn w row w') (hne:∀g,row=some g→vd.ownBlock≠some g∧vp.ownBlock≠some g∧∀i,i<ps.length→(dv i).ownBlock≠some g):Zz w' lo hi vd vp Z7 ps dv:=by
 have key:∀ {e:TypeId} {m n:Nat} {v:Value} {us:List Value},w.ownsRow lo e m v n us→(∀g,row=some g→v.ownBlock≠some g)→w'.ownsRow lo e m v n us:=by
  intro e m n v us h h2;refine ⟨h.1,?_⟩
  rcases h.2 with hn | ⟨g,cap,cur,rfl,hbg,hgg,rest⟩
  · exact .inl hn
  exact .inr ⟨g,cap,cur,rfl,hbg,(ho.2 g (Array.getElem?_eq_some_iff.1 hgg).1 (fun e=>h2 g e.symm rfl)).trans hgg,rest⟩
 exact ⟨key k.d (fun g hg=>(hne g hg).1),⟨key k.p.1 (fun g hg=>(hne g hg).2.1),fun i hi=>(k.p.2.1 i hi).elim fun te h=>⟨te,key h (fun g hg=>(hne g hg).2.2 i hi)⟩,k.p.2.2.1,k.p.2.2.2⟩,k.NY,k.Pm,k.MK,k.dp,k.dq⟩
theorem Mj (w:World) (lo hi:Nat) (vd vp:Value) (Z7:List Int) (ps:List (Int × List Int)) (dv:Nat→Value) (k:Int) (ho:Zz w lo hi vd vp Z7 ps dv) (hhi:hi≤w.heap.size) (hk0:0≤k) (hk1:k≤2097152) (hl:Z7.length≤1048576) (hn:ps.length≤1048576) (ht:tot ps≤1048576) :
    Calls Tryz.prog 11 #[.agg #[vd,vp],.int .i64 k] w fun e w'=>e=.returned (.int .i64 (ks ps (k+Z7.length) ps.length))∧Zz w' lo hi vd vp (marks k Z7.length) (Pv ps (k+Z7.length)) dv∧Within lo hi w w'∧(∀q,q<w.heap.size→vd.ownBlock≠some q→vp.ownBlock≠some q→(∀i,i<ps.length→(dv i).ownBlock≠some q)→w'.heap[q]?=w.heap[q]?):=by
 have BA:Hid (ZX w (w.alloc (.cells #[vd,vp] 36))):=ZR.alloc ZW _;have HO:=Z8 (ho.below BA.out);have X0:Hid (YK (w.alloc (.cells #[vd,vp] 36)) w.heap.size vd vp):=YK.new _ _ _ _
 go_enter Tryz.func11,Tryz.ntmps11
 go_wp2_with fail
 generalize w.alloc _=w0 at *;refine (Sk _ lo _ Z7 k HO.out.d hk0 (by omega) (by omega)).mono ?_;rintro e w1 ⟨rfl,o1,g1⟩;have W1:=Z8 (Within.QV g1 (fun q hq=>⟨(HO.out.d.lt q hq).1,HO.out.NY q hq⟩));have O1:=Z8 o1;have P1:Hid (VQ 91 w1 lo vp ps dv):=⟨Yy HO.out.p.1 g1 HO.out.dp,fun i hi=>(HO.out.p.2.1 i hi).other g1 (HO.out.dq i hi),HO.out.p.2.2⟩;have X1:=Z8 (W1.out.qW X0.out (.inr hhi));have F1:Hid (∀q,q<w.heap.size→vd.ownBlock≠some q→w1.heap[q]?=w.heap[q]?):=fun q hq hne=>(g1.block q (ZB hq BA.out.size) (fun e=>hne e.symm)).trans (BA.out.block q hq)
 obtain ⟨z1,c0,c1⟩:=X1.out
 go_wp2_with fail
 refine (Tq _ lo hi _ ps dv (k+Z7.length) P1.out HO.out.Pm HO.out.MK (by omega) (by omega) hn ht).mono ?_;rintro e w2 ⟨rfl,o2,g2,f2⟩;have FIN:Hid (Zz w2 lo hi vd vp (marks k Z7.length) (Pv ps (k+Z7.length)) dv∧Within lo hi w w2∧(∀q,q<w.heap.size→vd.ownBlock≠some q→vp.ownBlock≠some q→(∀i,i<ps.length→(dv i).ownBlock≠some q)→w2.heap[q]?=w.heap[q]?)):=by
  refine ⟨⟨?_,o2,HO.out.NY,HO.out.Pm,fun i hi=>HO.out.MK i (by rw [Wx] at hi;exact hi),HO.out.dp,fun i hi=>HO.out.dq i (by rw [Wx] at hi;exact hi)⟩,((Within.of_below BA.out).trans W1.out).trans g2,fun q hq h1 h2 h3=>(f2 q (ZB hq (ZP BA.out.size W1.out.size)) (fun e=>h2 e.symm) h3).trans (F1.out q hq h1)⟩;refine ⟨O1.out.1,?_⟩
  rcases O1.out.2 with hn | ⟨g,cap,cur,hv,hbg,hgg,rest⟩
  · exact .inl hn
  refine .inr ⟨g,cap,cur,hv,hbg,?_,rest⟩;have hb:vd.ownBlock=some g:=by rw [hv];rfl
  rw [f2 g (Array.getElem?_eq_some_iff.1 hgg).1 ?_ ?_]
  · exact hgg
  · rcases HO.out.dp with h | h
    · rw [h];simp
    rw [←hb];exact fun e=>h e.symm
  intro i hi
  rcases HO.out.dq i hi with h | h
  · rw [h];simp
  rw [←hb];exact h
 go_wp2;go_ret;exact ⟨rfl,FIN.out⟩
theorem JI (w:World) (a:Option Addr) (c k:Nat) :
    Calls Tryz.prog 44 #[.agg #[.slice a 0 c],.int .i64 k] w (Ze w (.int .i64 k)):=by
 have B0:Hid (ZX w (w.alloc (.cells #[.slice a 0 c] 33))):=ZR.alloc ZW _
 go_enter Tryz.func44,Tryz.ntmps44
 go_wp2_with fail
 refine (Sb _ a c k).mono ?_;rintro e w1 ⟨rfl,rfl⟩;go_wp2;go_ret;exact ⟨rfl,B0.out⟩
theorem Mi (w:World) (lo:Nat) (vt v1 v2:Value) (ns:List Nd) (Z7:List Int) (ps:List (Int × List Int)) (dv:Nat→Value) (h:ZU 134 w lo vt ns) (hD:Zz w lo w.heap.size v1 v2 Z7 ps dv) (hl:lo≤w.heap.size) (hn:ns.length≤1048576) (hp:∀i,i<ps.length→0<(pD ps i).length) :
    Calls Tryz.prog 44 #[.agg #[vt],.int .i64 1] w fun e w'=>e=.returned (.int .i64 ((1+7*ns.length:Nat):Int))∧ZU 134 w' lo vt (UU 1 ns.length)∧Zz w' lo w.heap.size v1 v2 Z7 ps dv∧Below lo w w'∧Mn w vt.ownBlock w':=by
 by_cases h0:ns.length=0
 · obtain rfl:ns=[]:=Vj h0
   obtain ⟨a,c,rfl⟩:=ZU.YW h;refine (JI w a c 1).mono ?_;rintro e w' ⟨rfl,b⟩;exact ⟨rfl,h.below b,hD.below b,b.mono hl,⟨b.size,fun q hq _=>b.block q hq⟩⟩
 refine (Mk w lo 1 vt ns h hl (by omega) hn).mono ?_;rintro e w' ⟨rfl,o,b,k,n⟩;exact ⟨rfl,o,hD.JJ n (Nn h hD (by omega) hp),b,n⟩
theorem GZ (w:World) (lo:Nat) (r:UD) (vt v1 v2:Value) (dv:Nat→Value) (h:ZU 134 w lo vt r.ns) (hD:Zz w lo w.heap.size v1 v2 r.Z7 r.ps dv) (hl:lo≤w.heap.size) (hn:r.ns.length≤100000) (hdl:r.Z7.length≤1048576) (hpn:r.ps.length≤1048576) (htp:tot r.ps≤1048576) (hp:∀i,i<r.ps.length→0<(pD r.ps i).length) (K:Nat) (hK:1+7*r.ns.length=K) :
    Calls Tryz.prog 12 #[.agg (Wg r vt v1 v2),.int .i64 1] w fun e w'=>e=.returned (.int .i64 (ks r.ps ((K:Int)+r.Z7.length) r.ps.length))∧VL w' vt (UU 1 r.ns.length)∧Rd .u8 w' v1 (marks (K:Int) r.Z7.length)∧XP w' v2 (Pv r.ps ((K:Int)+r.Z7.length))∧Below lo w w'∧(∀q,q<w.heap.size→vt.ownBlock≠some q→v1.ownBlock≠some q→v2.ownBlock≠some q→(∀i,i<r.ps.length→(dv i).ownBlock≠some q)→w'.heap[q]?=w.heap[q]?):=by
 obtain ⟨ta,tc,rfl⟩:=ZU.YW h;obtain ⟨da,dc,rfl⟩:=hD.d.slice;obtain ⟨pa,pc,rfl⟩:=hD.p.slice;have B0:Hid (ZX w (w.alloc (.cells (Wg r (.slice ta r.ns.length tc) (.slice da r.Z7.length dc) (.slice pa r.ps.length pc)) 38))):=ZR.alloc ZW _;have X0:Hid (TL (w.alloc (.cells (Wg r (.slice ta r.ns.length tc) (.slice da r.Z7.length dc) (.slice pa r.ps.length pc)) 38)) w.heap.size r (.slice ta r.ns.length tc) (.slice da r.Z7.length dc) (.slice pa r.ps.length pc)):=TL.new _ _ _ _ _;have HT:=Z8 h;have HD:=Z8 hD;have HP:=Z8 hp;have Zr:Hid (∀g,Value.ownBlock (.slice ta r.ns.length tc)=some g→g<w.heap.size):=fun g hg=>(ZO h g hg).2
 have HK:=Z8 hK;unfold Wg at B0 X0 ⊢
 go_enter Tryz.func12,Tryz.ntmps12
 go_wp2_with fail
 generalize w.alloc _=w0 at *;have s0:=B0.out.size;refine (Mi w0 lo _ _ _ r.ns r.Z7 r.ps dv (HT.out.below B0.out) ((HD.out.below B0.out).mono ZW s0) (by omega) (by omega) HP.out).mono ?_;rintro e w1 ⟨he,o1,d1,b1,n1⟩;rw [HK.out] at he;subst he;have X1:Hid (TL w1 w.heap.size r (.slice ta r.ns.length tc) (.slice da r.Z7.length dc) (.slice pa r.ps.length pc)):=(n1.2 _ (TL.lt X0.out) (fun e=>by have:=Zr.out _ e.symm;omega)).trans X0.out;have O1:=Z8 o1;have D1:=Z8 d1;have B1:=Z8 ((B0.out.mono hl).trans b1);have s1:=n1.1;have F1:Hid (∀q,q<w.heap.size→Value.ownBlock (.slice ta r.ns.length tc)≠some q→w1.heap[q]?=w.heap[q]?):=fun q hq hne=>(n1.2 q (by omega) (fun e=>hne e.symm)).trans (B0.out.block q hq)
 obtain ⟨c0,c1,c2,c3,c4,c5,c6,c7,c8,c9,c10,c11⟩:=X1.out.cells;have Zp:(0:Int)≤(K:Int):=by omega
 have hK1:(K:Int)≤2097152:=by omega
 go_wp2_with fail
 refine (Mj w1 lo w0.heap.size _ _ r.Z7 r.ps dv (K:Int) D1.out s1 Zp hK1 hdl hpn htp).mono ?_;rintro e w2 ⟨rfl,o2,J,f2⟩;have FIN:Hid (VL w2 (.slice ta r.ns.length tc) (UU 1 r.ns.length)∧Rd .u8 w2 (.slice da r.Z7.length dc) (marks (K:Int) r.Z7.length)∧XP w2 (.slice pa r.ps.length pc) (Pv r.ps ((K:Int)+r.Z7.length))∧Below lo w w2∧(∀q,q<w.heap.size→Value.ownBlock (.slice ta r.ns.length tc)≠some q→Value.ownBlock (.slice da r.Z7.length dc)≠some q→Value.ownBlock (.slice pa r.ps.length pc)≠some q→(∀i,i<r.ps.length→(dv i).ownBlock≠some q)→w2.heap[q]?=w.heap[q]?)):=by
  refine ⟨?_,o2.d.rd,o2.p.rd,B1.out.trans ⟨J.os,J.tape,J.output,J.size,fun q hq=>J.block q (by have:=B1.out.size;omega) (.inl hq)⟩,fun q hq a1 a2 a3 a4=>(f2 q (by omega) a2 a3 a4).trans (F1.out q hq a1)⟩
  by_cases h0:r.ns.length=0
  · have h9:=O1.out.rd
    have e9:UU 1 r.ns.length=[]:=Vj (by rw [VT];exact h0);rw [e9] at h9 ⊢;obtain ⟨ao,cap,h1,h2,h3,-⟩:=h9;exact ⟨ao,cap,h1,h2,h3,.inl rfl⟩
  have hap:=Nn O1.out D1.out (by rw [VT];omega) HP.out;refine ZU.rd (e:=134) (w:=w2) (lo:=lo) ⟨O1.out.1,?_⟩
  rcases O1.out.2 with rT | ⟨g,cap,cur,hv,hbg,hgg,rest⟩
  · exact .inl rT
  have hb:Value.ownBlock (.slice ta r.ns.length tc)=some g:=by rw [hv];rfl
  obtain ⟨a1,a2,a3⟩:=hap g hb;exact .inr ⟨g,cap,cur,hv,hbg,(f2 g (Array.getElem?_eq_some_iff.1 hgg).1 a1 a2 a3).trans hgg,rest⟩
 go_wp2;go_ret;exact ⟨rfl,FIN.out⟩
theorem GY (w:World) (r:UD) (vt v1 v2:Value) (K:Nat) (hK:1+7*r.ns.length=K) (h:VL w vt (UU 1 r.ns.length)) (h1:Rd .u8 w v1 (marks (K:Int) r.Z7.length)) (h2:XP w v2 (Pv r.ps ((K:Int)+r.Z7.length))) (hn:r.ns.length≤100000) (hdl:r.Z7.length≤1048576) (hpn:r.ps.length≤1048576) (htp:tot r.ps≤1048576) :
    Calls Tryz.prog 13 #[.agg (Wg r vt v1 v2),.int .i64 1] w (Ze w (.int .i64 (ks r.ps ((K:Int)+r.Z7.length) r.ps.length))):=by
 obtain ⟨ta,tc,rfl,-⟩:=h.len;obtain ⟨da,dc,rfl,-⟩:=h1.len;obtain ⟨pa,pc,hv2,-⟩:=id h2;subst hv2;rw [VT] at h ⊢;have Ik:(marks (K:Int) r.Z7.length).length=r.Z7.length:=by unfold marks;simp
 rw [Ik] at h1 ⊢;rw [Wx] at h2 ⊢;have B0:Hid (ZX w (w.alloc (.cells (Wg r (.slice ta r.ns.length tc) (.slice da r.Z7.length dc) (.slice pa r.ps.length pc)) 38))):=ZR.alloc ZW _;have X0:Hid (TL (w.alloc (.cells (Wg r (.slice ta r.ns.length tc) (.slice da r.Z7.length dc) (.slice pa r.ps.length pc)) 38)) w.heap.size r (.slice ta r.ns.length tc) (.slice da r.Z7.length dc) (.slice pa r.ps.length pc)):=TL.new _ _ _ _ _;have HT:=Z8 h;have HD:Hid (Rd .u8 w (.slice da r.Z7.length dc) (marks (K:Int) r.Z7.length)∧XP w (.slice pa r.ps.length pc) (Pv r.ps ((K:Int)+r.Z7.length))):=⟨h1,h2⟩;unfold Wg at B0 X0 ⊢
 go_enter Tryz.func13,Tryz.ntmps13
 go_wp2_with fail
 generalize w.alloc _=w0 at *;refine (JK w0 1 r.ns.length _ (HT.out.below B0.out) (by omega) (by omega)).mono ?_;rintro e w1 ⟨he,b1⟩;rw [hK] at he;subst he;have B1:=Z8 (Ye B0.out b1);obtain ⟨c0,c1,c2,c3,c4,c5,c6,c7,c8,c9,c10,c11⟩:=(TL.below X0.out b1).cells;have hk0:¬(K:Int)<0:=by omega
 go_wp2_with fail
 refine (Kt w1 _ _ r.Z7.length r.ps (K:Int) (HD.out.1.below B1.out) (HD.out.2.below B1.out) (by omega) (by omega) hdl hpn htp).mono ?_;rintro e w2 ⟨rfl,b2⟩;have B2:=Z8 (Ye B1.out b2);have h1:¬ks r.ps ((K:Int)+r.Z7.length) r.ps.length<0:=by unfold ks;omega
 go_wp2;go_ret;exact ⟨rfl,B2.out⟩
def QA (lim:Int) (rs:List (Int × List Int)) (Z7:List Int) (ps:List (Int × List Int)):Int × Int × List Int × List (Int × List Int) :=
 if rs.length=0 then (6,0,Z7,ps)
 else if 0≤lim∧lim≤(rs.length:Int) then (5,lim,Z7,ps++rs.take lim.toNat)
 else (6,(rs.length:Int)+1,ZC Z7 (ps++rs),[])
def Qb (w:World) (b lo:Nat) (S L:Int) (vp:Value) (lim:Int) (vc:Value) (cg:Bool) (c:YU) (og:Bool) (o:YU) (code:Int) (vt:Value) (zx cnt en:Int) (Z7:List Int) (ps rs:List (Int × List Int)) (e:Ending) (w':World):Prop :=
 ∃Z2 TW QE o',e=.returned (.int .i64 (QA lim rs Z7 ps).1)∧St w' b (WY S L Z2 TW lim (QA lim rs Z7 ps).2.1 vc cg c og o code vt zx cnt en)∧Zz w' lo w'.heap.size Z2 TW (QA lim rs Z7 ps).2.2.1 (QA lim rs Z7 ps).2.2.2 QE∧Tw w b vp.ownBlock w' o'
theorem St.Vo {L:List Value} (h:St W b L) (hg:W.grownBy W' row) (hne:some b≠row):St W' b L:=by
 have e:=hg.block b h.lt hne;refine ⟨ZB h.lt hg.size,fun j=>?_,fun j v hv=>(YI (w:=W) (a:=⟨b,j,none⟩) e).trans (h.cl j v hv)⟩;have:=h.fz j;unfold World.frozen? at this ⊢;rw [e];exact this
theorem Zz.Yq {dv:Nat→Value} (h:Zz W lo hi vd vp Z7 ps dv) (hg:W.grownBy W' row) (hr:∀r,row=some r→∃o:Obj,W.heap[r]?=some o∧o.isCells=false):Zz W' lo hi vd vp Z7 ps dv :=
 ⟨XX h.d hg hr,⟨XX h.p.1 hg hr,fun i hi=>(h.p.2.1 i hi).elim fun te o=>⟨te,XX o hg hr⟩,h.p.2.2.1,h.p.2.2.2⟩,h.NY,h.Pm,h.MK,h.dp,h.dq⟩
theorem Tw.Vo {o:Option Nat} (h:Tw w b o W o') (hg:W.grownBy W' row) (hr:∀r,row=some r→w.heap.size≤r):Tw w b o W' o' :=
 ⟨hg.os.trans h.os,hg.tape.trans h.tape,hg.output.trans h.output,ZP h.size hg.size,fun q hq hb ho=>(hg.block q (ZB hq h.size) (fun e=>by have:=hr q e.symm;omega)).trans (h.block q hq hb ho),h.own⟩
theorem Tw.JJ (h:Tw w b none w' none):Mn w (some b) w':=⟨h.size,fun q hq hne=>h.block q hq (fun e=>hne (by rw [e])) (by simp)⟩
theorem Own.JJ (h:Own .u8 5 w lo v xs) (ho:Mn w row w') (hne:∀g,row=some g→v.ownBlock≠some g):Own .u8 5 w' lo v xs:=by
 refine ⟨h.1,?_⟩
 rcases h.2 with hn | ⟨g,cap,cur,rfl,hbg,hgg,rest⟩
 · exact .inl hn
 exact .inr ⟨g,cap,cur,rfl,hbg,(ho.2 g (Array.getElem?_eq_some_iff.1 hgg).1 (fun e=>hne g e.symm rfl)).trans hgg,rest⟩
theorem Cb (w:World) (tb:Nat) (v:Value) (rs:List (Int × List Int)) (c0:w.cell? ⟨tb,0,none⟩=some v) (hv:∃a c,v=.slice a rs.length c) :
    Calls Tryz.prog 78 #[.pointer (some ⟨tb,0,none⟩)] w (Ze w (.bool ((rs.length:Int) == 0))):=by
 obtain ⟨a,c,rfl⟩:=hv;have B0:Hid (ZX w w):=ZR
 go_enter Tryz.func78,Tryz.ntmps78
 go_wp2;go_ret;exact ⟨rfl,B0.out⟩
def Fg (w5:World) (b lo:Nat) (S L:Int) (vd vp:Value) (lim:Int) (vc:Value) (cg:Bool) (c:YU) (og:Bool) (o:YU) (code:Int) (vt:Value) (zx cnt en:Int) (Z7:List Int) (ps q:List (Int × List Int)) (W:World):Prop :=
 ∃TW QE,St W b (WY S L vd TW lim (q.length:Int) vc cg c og o code vt zx cnt en)∧Zz W lo W.heap.size vd TW Z7 (ps++q) QE∧TW.ownBlock≠some b∧(∀i,i<(ps++q).length→(QE i).ownBlock≠some b)∧Tw w5 b vp.ownBlock W TW.ownBlock∧(0≤lim→(q.length:Int)≤lim)
theorem Fg.grown (h:Fg w5 b lo S L vd vp lim vc cg c og o code vt zx cnt en Z7 ps q W) (hg:W.grownBy W' row) (hb:b<w5.heap.size) (hr:∀r,row=some r→w5.heap.size≤r∧∃o:Obj,W.heap[r]?=some o∧o.isCells=false):Fg w5 b lo S L vd vp lim vc cg c og o code vt zx cnt en Z7 ps q W':=by
 obtain ⟨TW,QE,h1,h2,h3,h4,h5,h6⟩:=h;exact ⟨TW,QE,h1.Vo hg (fun e=>by have:=(hr b e.symm).1;omega),(h2.Yq hg (fun r e=>(hr r e).2)).mono ZW hg.size,h3,h4,h5.Vo hg (fun r e=>(hr r e).1),h6⟩
theorem Fg.below (h:Fg w5 b lo S L vd vp lim vc cg c og o code vt zx cnt en Z7 ps q W) (hb:ZX W W'):Fg w5 b lo S L vd vp lim vc cg c og o code vt zx cnt en Z7 ps q W':=by
 obtain ⟨TW,QE,h1,h2,h3,h4,h5,h6⟩:=h;exact ⟨TW,QE,h1.below hb,(h2.below hb).mono ZW hb.size,h3,h4,h5.trans (Tw.Za hb _ _),h6⟩
def Ca (w:World) (b lo:Nat) (S L:Int) (vd vp:Value) (lim:Int) (vc:Value) (cg:Bool) (c:YU) (og:Bool) (o:YU) (code:Int) (vt:Value) (zx cnt en:Int) (Z7:List Int) (ps q:List (Int × List Int)) (W:World):Prop :=
 ∃TW QE o',St W b (WY S L vd TW lim (q.length:Int) vc cg c og o code vt zx cnt en)∧Zz W lo W.heap.size vd TW Z7 (ps++q) QE∧Tw w b vp.ownBlock W o'
theorem Ca.grown (h:Ca w b lo S L vd vp lim vc cg c og o code vt zx cnt en Z7 ps q W) (hg:W.grownBy W' row) (hb:b<w.heap.size) (hr:∀r,row=some r→w.heap.size≤r∧∃o:Obj,W.heap[r]?=some o∧o.isCells=false):Ca w b lo S L vd vp lim vc cg c og o code vt zx cnt en Z7 ps q W':=by
 obtain ⟨TW,QE,o',h1,h2,h5⟩:=h;exact ⟨TW,QE,o',h1.Vo hg (fun e=>by have:=(hr b e.symm).1;omega),(h2.Yq hg (fun r e=>(hr r e).2)).mono ZW hg.size,h5.Vo hg (fun r e=>(hr r e).1)⟩
theorem Tw.yv {q j:Nat} {o:Option Nat} {x:Value} (h:Tw w b o W o') (hq:w.heap.size≤q):Tw w b o (W.setCell ⟨q,j,none⟩ x) o':=by
 refine ⟨h.os,h.tape,h.output,by simpa using h.size,fun k hk hb ho=>?_,h.own⟩;rw [Mh W ⟨q,j,none⟩ x k (by show k≠q;omega)];exact h.block k hk hb ho
theorem Fg.res {q9:Nat} {z:Int} (h:Fg w5 b lo S L vd vp lim vc cg c og o code vt zx cnt en Z7 ps q W) (c0:W.cell? ⟨q9,0,none⟩=some (.int .i64 z)) (hB:ZX w w5) (hq:w.heap.size≤q9) (Y':q9<w5.heap.size) (hb:b<w.heap.size) (hvp:∀g,vp.ownBlock=some g→g<w.heap.size) (hd:0<Z7.length) (hp:∀r ∈ ps++q,0<r.2.length):Ca w b lo S L vd vp lim vc cg c og o code vt zx cnt en Z7 ps q (W.setCell ⟨q9,0,none⟩ u):=by
 obtain ⟨TW,QE,h1,h2,h3,h4,h5,h6⟩:=h;have k1:vd.ownBlock≠some q9:=fun e=>by
  obtain ⟨y,hy⟩:=Rt h2.d.b hd e;rw [c0] at hy
  injection hy with hy
  cases hy
 have k2:TW.ownBlock≠some q9:=fun e=>by
  rcases h5.own with h | h | ⟨g,h,hg⟩
  · rw [h] at e;have:=hvp _ e;omega
  · rw [h] at e;cases e
  rw [h] at e;injection e with e;omega
 have k3:∀i,i<(ps++q).length→(QE i).ownBlock≠some q9:=fun i hi e=>by
  have hl:0<(pD (ps++q) i).length:=by
   unfold pD;rw [DT,VM hi];exact hp _ (Na hi)
  obtain ⟨y,hy⟩:=Rt (h2.p.2.1 i hi) hl e;rw [c0] at hy
  injection hy with hy
  cases hy
 refine ⟨TW,QE,TW.ownBlock,h1.other (by omega),?_,((Tw.Za hB _ _).trans h5).yv hq⟩;have h9:=h2.Xj (j:=0) (u:=u) k1 k2 k3;exact h9.mono ZW (by simp)
theorem Nm (h:Vq lim (k:Int)=0):0≤lim∧lim=(k:Int):=by
 unfold Vq at h
 split at h <;> omega
theorem Ls (h:Vq lim (k:Int)≠0) (hk:0≤lim→(k:Int)≤lim):0≤lim→((k+1:Nat):Int)≤lim:=by
 unfold Vq at h
 split at h <;> omega
theorem yu (f:Nat) (lg wn:List Int) (n0:Nat) (hw:wn.length=n0*64) (hf:f≤1000) (hn0:n0≤64):∀n b,b+n≤n0→∀r ∈ WZ (f:Int) lg wn b n,Fits 1000000 r:=by
 intro n
 induction n with
 | zero=>intro b _ r hr;simp [WZ] at hr
 | succ n ih =>
  intro b hb r hr;rw [WZ] at hr
  rcases Sw.1 hr with h | h
  · split at h
    · simp at h
    obtain rfl:=un.1 h;exact ⟨f+b,by simp,by omega,Nv hw (by omega)⟩
  exact ih (b+1) (by omega) r h
theorem Ca.stopped (h:Ca w b lo S L vd vp lim vc cg c og o code vt zx cnt en Z7 ps (rs.take k) W) (hk:k≤rs.length) (h0:rs.length≠0) (hl:lim=(k:Int)):Qb w b lo S L vp lim vc cg c og o code vt zx cnt en Z7 ps rs (.returned (.int .i64 5)) W:=by
 have e:QA lim rs Z7 ps=(5,lim,Z7,ps++rs.take k):=by
  unfold QA;rw [Z3 h0,ZY ⟨by omega,by omega⟩,hl,XT]
 obtain ⟨TW,QE,o',h1,h2,h3⟩:=h;rw [YC,So hk,←hl] at h1;unfold Qb;rw [e];exact ⟨vd,TW,QE,o',rfl,h1,h2,h3⟩
theorem Ca.clean (h:Ca w b lo S L vd vp lim vc cg c og o code vt zx cnt en Z7 ps rs W) (h0:rs.length=0):Qb w b lo S L vp lim vc cg c og o code vt zx cnt en Z7 ps rs (.returned (.int .i64 6)) W:=by
 obtain rfl:rs=[]:=Vj h0;obtain ⟨TW,QE,o',h1,h2,h3⟩:=h;rw [Sz] at h2;exact ⟨vd,TW,QE,o',rfl,h1,h2,h3⟩
theorem GW (h1:St W b (WY S L u (.slice none 0 0) lim ((rs.length:Int)+1) vc cg c og o code vt zx cnt en)) (h2:Own .u8 5 W lo u (ZC Z7 (ps++rs))) (h3:Tw w b vp.ownBlock W o') (h0:rs.length≠0) (hl:¬(0≤lim∧lim≤(rs.length:Int))):Qb w b lo S L vp lim vc cg c og o code vt zx cnt en Z7 ps rs (.returned (.int .i64 6)) W:=by
 have e:QA lim rs Z7 ps=(6,(rs.length:Int)+1,ZC Z7 (ps++rs),[]):=by
  unfold QA;rw [Z3 h0,Z3 hl]
 unfold Qb;rw [e];exact ⟨u,_,_,o',rfl,h1,SJ h2,h3⟩
theorem yt (hS:1≤S) (ys:List Int):Xw S (TK S ys):=by
 cases h:Ww S ys with
 | true =>
  rw [Ph h];obtain ⟨h1,h2,h3,-⟩:=Wo h;exact ⟨⟨by show 0≤nG ys;omega,h1.2⟩,h2,h3⟩
 | false =>
  rw [JR h];exact ⟨⟨by decide,by decide⟩,⟨by decide,by decide⟩,by decide,by show (0:Int)≤S*64;omega⟩
structure uG (Z7:List Int) (ps:List (Int × List Int)) (S:Int) (sn N:Nat) (lim:Int):Prop where
 fit:WR S (sn:Int) Z7.length ps=true
 n:ps.length≤1936
 Z1:YL (ZC Z7 ps)
 len:(ZC Z7 ps).length=N
 n9:N≤1048576
 lim:-9223372036854775808≤lim∧lim≤9223372036854775807
theorem uG.facts (h:uG Z7 ps S sn N lim):Xh S (sn:Int)=true∧2+2*(S+(sn:Int))≤((N / 64:Nat):Int)∧128≤N∧(1≤S∧S≤64)∧1≤sn∧sn≤64:=by
 obtain ⟨hc,hv,hd⟩:=(XU S sn Z7.length ps).1 h.fit;obtain ⟨⟨hS1,hS2⟩,hL1,hL2⟩:=(Zs S sn).1 hc;have hl:=h.len;rw [VF hv] at hl;rw [hl] at hd;exact ⟨hc,by omega,by omega,⟨hS1,hS2⟩,by omega,by omega⟩
structure Rv (w W:World) (b g N C:Nat) (vd vp:Value) (dv:Nat→Value) (Z7:List Int) (ps:List (Int × List Int)):Prop where
 YJ:ZX w W
 dk:Zz W w.heap.size W.heap.size vd vp Z7 ps dv
 ct:Own .u8 5 W w.heap.size (.slice (some ⟨g,0,none⟩) N C) (ZC Z7 ps)
 tab:U1 W
 lo:w.heap.size≤b
 b0:0<b
 ne1:vd.ownBlock≠some b
 Z0:vp.ownBlock≠some b
 ZZ:∀i,i<ps.length→(dv i).ownBlock≠some b
 ZK:g≠b
theorem Rv.tw {dv:Nat→Value} (h:Rv w W b g N C vd vp dv Z7 ps) (t:Tw W b none W' none) (hz:0<W.heap.size):Rv w W' b g N C vd vp dv Z7 ps:=by
 refine ⟨h.YJ.trans (t.below h.YJ.size (by have:=h.lo;omega) (fun g e=>by cases e)),?_,?_,?_,h.lo,h.b0,h.ne1,h.Z0,h.ZZ,h.ZK⟩
 · exact (h.dk.JJ t.JJ (fun g e=>by cases e;exact ⟨h.ne1,h.Z0,h.ZZ⟩)).mono ZW t.size
 · exact h.ct.JJ t.JJ (fun q e=>by cases e;simpa [Value.ownBlock] using h.ZK)
 intro i hi;have hb:=h.b0;exact (YI (w:=W) (a:=⟨0,i,none⟩) (t.block 0 hz (by omega) (by simp))).trans (h.tab i hi)
def JH (w:World) (b g N C:Nat) (vd vp:Value) (dv:Nat→Value) (Z7:List Int) (ps:List (Int × List Int)) (S:Int) (sn:Nat) (lim:Int) (RES:UD) (n:Int) (W:World):Prop :=
 (n=0∧Rv w W b g N C vd vp dv Z7 ps∧St W b (WY S (sn:Int) vd vp lim 0 (.slice (some ⟨g,0,none⟩) N C) false ⟨0,0,0,0,0⟩ false ⟨0,0,0,0,0⟩ 0 (.slice none 0 0) 0 0 0)) ∨
 (n=1∧∃(x y:YU) (yg:Bool),Rv w W b g N C vd vp dv Z7 ps∧St W b (WY S (sn:Int) vd vp lim 0 (.slice (some ⟨g,0,none⟩) N C) true x yg y 0 (.slice none 0 0) 0 0 0)∧RES=Xx Z7 ps S (sn:Int) lim x y yg∧Xw S x∧Xw S y) ∨
 (n=2∧∃(x y:YU) (yg:Bool),Rv w W b g N C vd vp dv Z7 ps∧St W b (WY S (sn:Int) vd vp lim 0 (.slice (some ⟨g,0,none⟩) N C) true x yg y 0 (.slice none 0 0) 0 0 0)∧RES=Xx Z7 ps S (sn:Int) lim x y yg∧Xw S x∧Xw S y∧TQ Z7 ps S (sn:Int) x=none) ∨
 (n=3∧∃(x y:YU) (yg:Bool) (code e:Int) (ta:Option Addr) (tc:Nat) (r:List Nd × Int × Nat),Rv w W b g N C vd vp dv Z7 ps∧St W b (WY S (sn:Int) vd vp lim 0 (.slice (some ⟨g,0,none⟩) N C) true x yg y code (.slice ta r.1.length tc) r.2.1 ((r.2.2:Nat):Int) e)∧ZU 134 W w.heap.size (.slice ta r.1.length tc) r.1∧Value.ownBlock (.slice ta r.1.length tc)≠some b∧RES=UC Z7 ps S (sn:Int) lim code x (Yo Z7 ps S (sn:Int) x.b true) r e∧Xw S x∧(0≤e∧e≤((Yo Z7 ps S (sn:Int) x.b true).length:Int))) ∨
 (n=4∧∃(S9 L9 V made:Int) (da pa ta:Option Addr) (dl dc pl pc tl tc:Nat) (vc:Value) (cg og:Bool) (c o:YU) (code zx cnt en:Int),ZX w W∧St W b (WY S9 L9 (.slice da dl dc) (.slice pa pl pc) V made vc cg c og o code (.slice ta tl tc) zx cnt en)∧RES=Zq 3) ∨
 (n=5∧∃(S9 L9 V made:Int) (ta:Option Addr) (tl tc:Nat) (v1 v2 vc:Value) (T:Nat→Value) (cg og:Bool) (c o:YU) (code zx cnt en:Int) (D:List Int) (Q:List (Int × List Int)),ZX w W∧St W b (WY S9 L9 v1 v2 V made vc cg c og o code (.slice ta tl tc) zx cnt en)∧Zz W w.heap.size W.heap.size v1 v2 D Q T∧RES={ Zq 2 with ops:=made,Z7:=D,ps:=Q }) ∨
 (n=6∧∃(S9 L9 V made:Int) (ta:Option Addr) (tc:Nat) (v1 v2 vc:Value) (T:Nat→Value) (cg og:Bool) (c o:YU) (code zx cnt en:Int) (ns:List Nd) (D:List Int) (Q:List (Int × List Int)),ZX w W∧St W b (WY S9 L9 v1 v2 V made vc cg c og o code (.slice ta ns.length tc) zx cnt en)∧ZU 134 W w.heap.size (.slice ta ns.length tc) ns∧Zz W w.heap.size W.heap.size v1 v2 D Q T∧RES=⟨code,c,zx,ns,en,made,D,Q⟩)
theorem JH.pick {dv:Nat→Value}  (h:Rv w W b g N C vd vp dv Z7 ps) (hs:St W b (WY S (sn:Int) vd vp lim 0 (.slice (some ⟨g,0,none⟩) N C) false ⟨0,0,0,0,0⟩ false ⟨0,0,0,0,0⟩ 0 (.slice none 0 0) 0 0 0)):JH w b g N C vd vp dv Z7 ps S sn lim RES 0 W :=
 .inl ⟨rfl,h,hs⟩
theorem JH.cur {dv:Nat→Value} (h:Rv w W b g N C vd vp dv Z7 ps) (hs:St W b (WY S (sn:Int) vd vp lim 0 (.slice (some ⟨g,0,none⟩) N C) true x yg y 0 (.slice none 0 0) 0 0 0)) (hr:RES=Xx Z7 ps S (sn:Int) lim x y yg) (fx:Xw S x) (fy:Xw S y):JH w b g N C vd vp dv Z7 ps S sn lim RES 1 W :=
 .inr (.inl ⟨rfl,x,y,yg,h,hs,hr,fx,fy⟩)
theorem JH.old {dv:Nat→Value} (h:Rv w W b g N C vd vp dv Z7 ps) (hs:St W b (WY S (sn:Int) vd vp lim 0 (.slice (some ⟨g,0,none⟩) N C) true x yg y 0 (.slice none 0 0) 0 0 0)) (hr:RES=Xx Z7 ps S (sn:Int) lim x y yg) (fx:Xw S x) (fy:Xw S y) (hn:TQ Z7 ps S (sn:Int) x=none):JH w b g N C vd vp dv Z7 ps S sn lim RES 2 W :=
 .inr (.inr (.inl ⟨rfl,x,y,yg,h,hs,hr,fx,fy,hn⟩))
theorem JH.oB {dv:Nat→Value} {r:List Nd × Int × Nat} (h:Rv w W b g N C vd vp dv Z7 ps) (hs:St W b (WY S (sn:Int) vd vp lim 0 (.slice (some ⟨g,0,none⟩) N C) true x yg y code (.slice ta r.1.length tc) r.2.1 ((r.2.2:Nat):Int) e)) (hn:ZU 134 W w.heap.size (.slice ta r.1.length tc) r.1) (hne:Value.ownBlock (.slice ta r.1.length tc)≠some b) (hr:RES=UC Z7 ps S (sn:Int) lim code x (Yo Z7 ps S (sn:Int) x.b true) r e) (fx:Xw S x) (he:0≤e∧e≤((Yo Z7 ps S (sn:Int) x.b true).length:Int)):JH w b g N C vd vp dv Z7 ps S sn lim RES 3 W :=
 .inr (.inr (.inr (.inl ⟨rfl,x,y,yg,code,e,ta,tc,r,h,hs,hn,hne,hr,fx,he⟩)))
theorem JH.lost {dv:Nat→Value} {da pa:Option Addr} {dc pl pc:Nat} (hb:ZX w W) (hs:St W b (WY S9 L9 (.slice da dl dc) (.slice pa pl pc) V made vc cg c og o code (.slice ta tl tc) zx cnt en)) (hr:RES=Zq 3):JH w b g N C vd vp dv Z7 ps S sn lim RES 4 W :=
 .inr (.inr (.inr (.inr (.inl ⟨rfl,S9,L9,V,made,da,pa,ta,dl,dc,pl,pc,tl,tc,vc,cg,og,c,o,code,zx,cnt,en,hb,hs,hr⟩))))
theorem JH.stop {dv:Nat→Value} {T:Nat→Value} (hb:ZX w W) (hs:St W b (WY S9 L9 v1 v2 V made vc cg c og o code (.slice ta tl tc) zx cnt en)) (hd:Zz W w.heap.size W.heap.size v1 v2 D Q T) (hr:RES={ Zq 2 with ops:=made,Z7:=D,ps:=Q }):JH w b g N C vd vp dv Z7 ps S sn lim RES 5 W :=
 .inr (.inr (.inr (.inr (.inr (.inl ⟨rfl,S9,L9,V,made,ta,tl,tc,v1,v2,vc,T,cg,og,c,o,code,zx,cnt,en,D,Q,hb,hs,hd,hr⟩)))))
theorem JH.up {dv:Nat→Value} {T:Nat→Value} (hb:ZX w W) (hs:St W b (WY S9 L9 v1 v2 V made vc cg c og o code (.slice ta ns.length tc) zx cnt en)) (hn:ZU 134 W w.heap.size (.slice ta ns.length tc) ns) (hd:Zz W w.heap.size W.heap.size v1 v2 D Q T) (hr:RES=⟨code,c,zx,ns,en,made,D,Q⟩):JH w b g N C vd vp dv Z7 ps S sn lim RES 6 W :=
 .inr (.inr (.inr (.inr (.inr (.inr ⟨rfl,S9,L9,V,made,ta,tc,v1,v2,vc,T,cg,og,c,o,code,zx,cnt,en,ns,D,Q,hb,hs,hn,hd,hr⟩)))))
def Tg (w:World) (b g N C:Nat) (vd vp:Value) (dv:Nat→Value) (Z7:List Int) (ps:List (Int × List Int)) (S:Int) (sn:Nat) (lim:Int) (RES:UD) (n:Int) (e:Ending) (w':World):Prop :=
 ∃n',e=.returned (.int .i64 n')∧n<n'∧n'≤6∧JH w b g N C vd vp dv Z7 ps S sn lim RES n' w'
theorem Zz.Xv {dv:Nat→Value} (h:Zz w lo hi vd vp Z7 ps dv):∃a n c a' n' c',vd=.slice a n c∧vp=.slice a' n' c':=by
 obtain ⟨a,c,e⟩:=h.d.slice;obtain ⟨a',c',e'⟩:=h.p.slice;exact ⟨a,_,c,a',_,c',e,e'⟩
theorem vJ {dv:Nat→Value} (H:uG Z7 ps S sn N lim) (h:Rv w W b g N C vd vp dv Z7 ps)
    (hs:St W b (WY S (sn:Int) vd vp lim 0 (.slice (some ⟨g,0,none⟩) N C) false ⟨0,0,0,0,0⟩ false ⟨0,0,0,0,0⟩ 0 (.slice none 0 0) 0 0 0)) :
    Calls Tryz.prog 33 #[.pointer (some ⟨b,0,none⟩)] W (Tg w b g N C vd vp dv Z7 ps S sn lim (rcv Z7 ps S (sn:Int) lim) 0):=by
 obtain ⟨hc,Hf,Dc,hS,hs1,hs2⟩:=H.facts;refine (yJ W b g N C S sn vd vp lim 0 _ false _ false _ 0 _ 0 0 0 (ZC Z7 ps) rfl hs h.ct.rd H.Z1 H.len H.n9 Dc hS).mono ?_;rintro e w' ⟨xg,x,yg,y,rfl,s',t',hp⟩;have hrc:=yI (limit:=lim) (L:=(sn:Int)) H.fit H.n hp;have fx:Xw S x∧Xw S y:=by
  rcases hp with ⟨-,-,rfl,-,rfl⟩ | ⟨-,-,rfl,-,rfl⟩ <;> exact ⟨yt hS.1 _,yt hS.1 _⟩
 have hz:=Sp (ZQ _) hs.lt
 cases xg with
 | true=>exact ⟨1,by simp,by omega,by omega,.cur (h.tw t' hz) s' (by rw [hrc];simp) fx.1 fx.2⟩
 | false =>
  obtain ⟨a,n,c,a',n',c',rfl,rfl⟩:=h.dk.Xv;exact ⟨4,by simp,by omega,by omega,.lost (h.tw t' hz).YJ s' (by rw [hrc];simp)⟩
theorem sG {dv:Nat→Value} (H:uG Z7 ps S sn N lim) (h:Rv w W b g N C vd vp dv Z7 ps) (hs:St W b (WY S (sn:Int) vd vp lim 0 (.slice (some ⟨g,0,none⟩) N C) true x yg y 0 (.slice none 0 0) 0 0 0)) (hr:RES=Xx Z7 ps S (sn:Int) lim x y yg) (fx:Xw S x) (fy:Xw S y) :
    Calls Tryz.prog 34 #[.pointer (some ⟨b,0,none⟩)] W (Tg w b g N C vd vp dv Z7 ps S sn lim RES 1):=by
 obtain ⟨hc,Hf,Dc,hS,hs1,hs2⟩:=H.facts;have hz:=Sp (ZQ _) hs.lt;refine (JO W b g N C S sn vd vp lim 0 _ true x yg y 0 _ 0 0 0 (ZC Z7 ps) hs rfl (fun W' t=>(h.tw t hz).ct.rd) H.Z1 H.len H.n9 hc Hf h.tab h.b0 fx.b fx.l).mono ?_;rintro e w' ⟨t',⟨hn,rfl,s'⟩ | ⟨ns,va,WP,hn,rfl,s',o'⟩⟩
 · rw [←Pj H.fit fx.b] at hn
   exact ⟨2,rfl,by omega,by omega,.old (h.tw t' hz) s' hr fx fy hn⟩
 rw [←Pj H.fit fx.b] at hn;have ha:=Pi H.fit fx.b;rw [XT] at ha s' o';rw [←ha] at s' o';have hR:RES=UC Z7 ps S (sn:Int) lim 0 x (Yo Z7 ps S (sn:Int) x.b true) (Y6 ns x.s (Yo Z7 ps S (sn:Int) x.b true)) (SM ns x.s (Yo Z7 ps S (sn:Int) x.b true)):=by
  rw [hr];unfold Xx;rw [hn]
 refine ⟨3,rfl,by omega,by omega,.oB (h.tw t' hz) s' (ZU.mono o' (by have:=h.lo;have:=hs.lt;omega)) ?_ hR fx (SI _ _ _)⟩;intro e;have:=(ZO o' b e).1;have:=hs.lt;omega
theorem sF {dv:Nat→Value} (H:uG Z7 ps S sn N lim) (h:Rv w W b g N C vd vp dv Z7 ps) (hs:St W b (WY S (sn:Int) vd vp lim 0 (.slice (some ⟨g,0,none⟩) N C) true x yg y 0 (.slice none 0 0) 0 0 0)) (hr:RES=Xx Z7 ps S (sn:Int) lim x y yg) (fx:Xw S x) (fy:Xw S y) (hno:TQ Z7 ps S (sn:Int) x=none) :
    Calls Tryz.prog 35 #[.pointer (some ⟨b,0,none⟩)] W (Tg w b g N C vd vp dv Z7 ps S sn lim RES 2):=by
 obtain ⟨hc,Hf,Dc,hS,hs1,hs2⟩:=H.facts;have hz:=Sp (ZQ _) hs.lt;refine (Fm W b g N C S sn vd vp lim 0 _ true x yg y 0 _ 0 0 0 (ZC Z7 ps) hs rfl (fun W' t=>(h.tw t hz).ct.rd) H.Z1 H.len H.n9 hc Hf h.tab h.b0 fx.b fx.g fy.b fy.l).mono ?_;rw [hr];unfold Xx;rw [hno];dsimp only;rintro e w' ⟨t',⟨hn,rfl,s'⟩ | ⟨hy,hg,hb,ns,va,WP,hn,rfl,s',o'⟩⟩
 · rw [←Pj H.fit fy.b] at hn
   obtain ⟨a,n,c,a',n',c',rfl,rfl⟩:=h.dk.Xv;refine ⟨4,rfl,by omega,by omega,.lost (h.tw t' hz).YJ s' ?_⟩
   by_cases hk:yg=false∨y.g+1≠x.g∨y.b=x.b
   · rw [ZY hk]
   rw [Z3 hk];have:TQ Z7 ps S (sn:Int) y=none:=by
    rcases hn with h1 | h1 | h1 | h1
    · exact absurd (.inl h1) hk
    · exact absurd (.inr (.inl h1)) hk
    · exact absurd (.inr (.inr h1)) hk
    exact h1
   rw [this]
 rw [←Pj H.fit fy.b] at hn;have ha:=Pi H.fit fx.b;have ha2:=Pi H.fit fy.b;rw [XT] at ha ha2 s' o';rw [←ha,←ha2] at s' o';have hk:¬(yg=false∨y.g+1≠x.g∨y.b=x.b):=by
  rintro (h1 | h1 | h1)
  · rw [hy] at h1;cases h1
  · exact h1 hg
  exact hb h1
 rw [Z3 hk,hn];dsimp only;refine ⟨3,rfl,by omega,by omega,.oB (h.tw t' hz) s' (ZU.mono o' (by have:=h.lo;have:=hs.lt;omega)) ?_ rfl fx (SI _ _ _)⟩;intro e;have:=(ZO o' b e).1;have:=hs.lt;omega
theorem sE {dv:Nat→Value} {n:Int} (h:JH w b g N C vd vp dv Z7 ps S sn lim RES n W) (h4:4≤n) :
    Calls Tryz.prog 37 #[.pointer (some ⟨b,0,none⟩),.int .i64 n] W (Yn w RES):=by
 rcases h with ⟨rfl,-⟩ | ⟨rfl,-⟩ | ⟨rfl,-⟩ | ⟨rfl,-⟩ | ⟨rfl,S9,L9,V,made,da,pa,ta,dl,dc,pl,pc,tl,tc,vc,cg,og,c,o,code,zx,cnt,en,hb,hs,hr⟩ | ⟨rfl,S9,L9,V,made,ta,tl,tc,v1,v2,vc,T,cg,og,c,o,code,zx,cnt,en,D,Q,hb,hs,hd,hr⟩ | ⟨rfl,S9,L9,V,made,ta,tc,v1,v2,vc,T,cg,og,c,o,code,zx,cnt,en,ns,D,Q,hb,hs,hn,hd,hr⟩
 iterate 4 omega
 · skip
   refine (Hb _ _ _ _ _ _ _ _ _ _ _ _ _ _ _ _ _ _ _ _ _ _ _ _ hs).mono ?_;rintro e w' ⟨rfl,b'⟩;rw [hr];exact ⟨.slice none 0 0,.slice none 0 0,.slice none 0 0,fun _=>.slice none 0 0,rfl,Yf _ _ _ _,SJ (Yf _ _ _ _),Ye hb b'⟩
 · skip
   obtain ⟨a,n,c,a',n',c',rfl,rfl⟩:=hd.Xv;refine (Nq _ _ _ _ _ _ _ _ _ _ _ _ _ _ _ _ _ _ _ _ _ _ _ _ hs).mono ?_;rintro e w' ⟨rfl,b'⟩;rw [hr];exact ⟨.slice none 0 0,_,_,_,rfl,Yf _ _ _ _,(hd.below b').mono ZW b'.size,Ye hb b'⟩
 skip
 obtain ⟨a,n,c,a',n',c',rfl,rfl⟩:=hd.Xv;refine (Ch _ _ _ _ _ _ _ _ _ _ _ _ _ _ _ _ _ _ _ _ _ _ _ _ hs).mono ?_;rintro e w' ⟨rfl,b'⟩;rw [hr];exact ⟨_,_,_,_,rfl,hn.below b',(hd.below b').mono ZW b'.size,Ye hb b'⟩
def yr (ops:Array Oper):Bool:=ops.all fun o=>match o.op with | .defer _=>false | _=>true
theorem Ff (h:yr ops=true) {i:Nat} {o:Oper} (hi:ops[i]?=some o):∀c,o.op≠.defer c:=by
 intro c hc;unfold yr at h;obtain ⟨hlt,rfl⟩:=Array.getElem?_eq_some_iff.1 hi;have h2:=Array.all_eq_true.1 h i hlt;rw [hc] at h2
 cases h2
theorem GV {F:Fence} {md:Region.Mode} {Q:Exit→Act→World→Prop} (l:Nat) (hro:F.round=none) (hd:yr ops=true) :
    ∀(fuel:Nat) (listed:Array Bool) (a:Act) (w:World),wpAnyIn F n P md ops Q fuel listed a w→wpAnyIn (F.inRound l) n P md ops Q fuel listed a w:=by
 intro fuel
 induction fuel with
 | zero=>intro listed a w h;exact h
 | succ fuel ih =>
  intro listed a w h;refine ⟨h.1,fun i hi=>?_⟩;have h2:=wpOpIn_mono (fun a w h=>ih _ a w h) (h.2 i hi);unfold wpOpIn at h2 ⊢
  cases ho:ops[i]? with
  | none=>rw [ho] at h2;exact h2
  | some o =>
   rw [ho] at h2;dsimp only at h2 ⊢
   split
   · rename_i hw
     rw [ZY hw] at h2;refine ⟨h2.1,?_⟩;have h3:=h2.2;rw [hro,Oper.semAt_none] at h3;rw [Fence.inRound_round,Uf _ _ _ (Ff hd ho)];exact h3
   rename_i hw;rw [Z3 hw] at h2;exact h2
theorem Sa {F:Fence} {nF:Nat} {op:Oper} {a:Act} {K:Act→World→Prop} {Q:Exit→Act→World→Prop} (hro:F.round=none) (ty:TypeId) (x:Operand) (ho:op.op=.load ty x) (b o:Nat) (hx:a.eval x=.pointer (some ⟨b,o,none⟩)) (cs:List Value) (d:TypeDesc) (hc:w.rangeAt b o cs) (hu:P.underlying ty=some d) (hd:d.isRow=true) (hi:(P.info? ty).map (·.size)=some cs.length) (h:K (a.put op.dst (.agg cs.toArray)) w):op.wpIn F nF P a w K Q:=by
 have hrun:=run_loadAt_mid (P:=P) w b o ty cs d hc hu hd hi;unfold Oper.wpIn;refine ⟨by simp [Oper.about,ho],?_⟩;rw [hro,Oper.semAt_none]
 simp only [execOp,ho,hx,Jj,hrun,Jk]
 exact h
attribute [local go_sem] Uf
theorem JG (w:World) (b g N C f lo:Nat) (S:Int) (sn:Nat) (vd vp:Value) (lim:Int) (vc:Value) (cg:Bool) (c:YU) (og:Bool) (o:YU) (code:Int) (vt:Value) (zx cnt:Int) (en:Nat) (cont Z7:List Int) (ps:List (Int × List Int)) (dv:Nat→Value) (hs:St w b (WY S (sn:Int) vd vp lim 0 vc cg c og o code vt zx cnt (en:Int))) (Fq:vc=.slice (some ⟨g,0,none⟩) N C) (hr:∀W,ZX w W→Rd .u8 W (.slice (some ⟨g,0,none⟩) N C) cont) (hN:cont.length=N) (NA:N≤1048576) (hc:Xh S (sn:Int)=true) (hcb:0≤c.b∧c.b≤1) (hf:YM S (sn:Int) c.b true=(f:Int)) (rR:(f+sn)*64≤N) (hen:en≤sn*64) (hsn:sn≤64) (tj:f≤1000)
    (hD:Zz w lo w.heap.size vd vp Z7 ps dv) (hlo:lo≤w.heap.size) (hne:vp.ownBlock≠some b) (hnd:vd.ownBlock≠some b) (hnq:∀i,i<ps.length→(dv i).ownBlock≠some b) (hl:-9223372036854775808≤lim∧lim≤9223372036854775807) (hps:ps.length≤1936) (hdl:Z7.length≤1048576) (hdp:0<Z7.length) (Qr:∀r ∈ ps,0<r.2.length) (XV:∀i,(pD (ps++WZ (f:Int) (YR cont f sn) (Zu (YR cont f sn) en) 0 sn) i).length≤1048576) :
    Calls Tryz.prog 36 #[.pointer (some ⟨b,0,none⟩)] w (Qb w b lo S (sn:Int) vp lim vc cg c og o code vt zx cnt (en:Int) Z7 ps (WZ (f:Int) (YR cont f sn) (Zu (YR cont f sn) en) 0 sn)):=by
 have hlt:=hs.lt;have qA:Hid (∀W,ZX w W→Calls Tryz.prog 75 #[.pointer (some ⟨b,0,none⟩)] W (yA W (WZ (f:Int) (YR cont f sn) (Zu (YR cont f sn) en) 0 sn))):=fun W hW =>
  G9 W b g N C f S sn vd vp lim 0 vc cg c og o code vt zx cnt en cont (hs.ZL hW hlt) Fq (hr W hW) hN NA hc hcb hf rR hen hsn tj
 have HS:=Z8 hs;have HD:=Z8 hD;have hrl:(WZ (f:Int) (YR cont f sn) (Zu (YR cont f sn) en) 0 sn).length≤64:=ZP (Ui _ _ _ _ _) hsn;have ZJ:Hid (∀r ∈ WZ (f:Int) (YR cont f sn) (Zu (YR cont f sn) en) 0 sn,Fits 1000000 r):=by
  have h9:=yu f (YR cont f sn) (Zu (YR cont f sn) en) sn (by rw [SH,VE _ _ _ (by omega)]) tj hsn sn 0 (by omega);exact h9
 have Xd:=Z8 XV;have U:=HD.out.Pm;have Zo:=Z8 hnq;clear hs hr hD hf hcb hc Fq hnq XV;generalize WZ (f:Int) (YR cont f sn) (Zu (YR cont f sn) en) 0 sn=rs at *;have BA:Hid (ZX w ((w.alloc (.cells #[.pointer (some ⟨b,0,none⟩)] 69)).alloc (.cells #[.int .i64 0] 75))):=(ZR.alloc ZW _).alloc (by simp) _;have X0:Hid (St ((w.alloc (.cells #[.pointer (some ⟨b,0,none⟩)] 69)).alloc (.cells #[.int .i64 0] 75)) w.heap.size [.pointer (some ⟨b,0,none⟩)]):=(St.new w _ _).below (ZR.alloc ZW _);have Y0:Hid (St ((w.alloc (.cells #[.pointer (some ⟨b,0,none⟩)] 69)).alloc (.cells #[.int .i64 0] 75)) (w.heap.size+1) [.int .i64 0]):=by
  have h9:=St.new (w.alloc (.cells #[.pointer (some ⟨b,0,none⟩)] 69)) #[.int .i64 0] 75;rw [XE] at h9;exact h9
 refine (Xq (n:=6)).1 ?_;refine callsIn_of_wp_marks Tryz.func36 rfl trivial ?_ rfl
 simp only [Tryz.ntmps36,WW,XQ,Wv,Nat.reduceAdd,Nat.reduceSub,DV,DU,Qv,Qz,TJ,Qy]
 gi_wp2_with fail
 refine ⟨trivial,?_⟩;generalize (w.alloc _).alloc _=w0 at *;refine (Xq.2 (qA.out _ BA.out)).mono ?_;rintro e w1 ⟨tb,mb,v,rfl,t1,b1⟩;have s0:=Y0.out.lt;have B1:=Z8 (Ye BA.out b1);have X1:=Z8 (X0.out.below b1);have Y1:=Z8 (Y0.out.below b1);have T1:=Z8 t1;have s1:=b1.size;clear b1 t1 BA X0 Y0 qA
 gi_wp2_with fail
 refine ⟨trivial,?_⟩;refine (all_in Fence.wide _ trivial rfl _ _).mono ?_;rintro e w2 ⟨rfl,hw2⟩;have s2:w2.heap.size=w1.heap.size+1:=by rw [hw2];simp
 have b2:ZX w1 w2:=by rw [hw2];exact ZR.alloc ZW _
 have Zn:Hid (w2.cell? ⟨w1.heap.size,0,none⟩=some (.pointer (some ⟨tb,0,none⟩))):=by rw [hw2];show _=_;simp
 have B2:=Z8 (Ye B1.out b2);have X2:=Z8 (X1.out.below b2);have Y2:=Z8 (Y1.out.below b2);have T2:=Z8 (T1.out.below b2);have S2:=Z8 (HS.out.ZL B2.out hlt);have D2:=Z8 ((HD.out.below B2.out).mono ZW B2.out.size);have Y9:=B2.out.size;clear hw2 b2 B1 X1 Y1 T1 HS HD
 gi_wp2_with fail
 have Z6:Hid (∀pre:List (J5 1000000),∀r ∈ ps++pre.map (·.1),0<r.2.length):=by
  intro pre r hr
  rcases Sw.1 hr with h | h
  · exact Qr r h
  obtain ⟨x,-,rfl⟩:=List.mem_map.1 h;obtain ⟨y,-,-,h3⟩:=x.2;rw [h3];omega
 have hvb:∀q,v.ownBlock=some q→q<w2.heap.size∧¬(q=b∨vp.ownBlock=some q):=fun q hq=>by
  have h9:=ZO T2.out.rows q hq;refine ⟨h9.2,?_⟩;rintro (e | e)
  · omega
  have:=U q e;omega
 have htb:tb<w2.heap.size∧tb≠b∧vp.ownBlock≠some tb:=by
  have h9:=T2.out.lot;refine ⟨T2.out.box.1.1,by omega,fun e=>?_⟩;have:=U tb e;omega
 refine wpIn_rangeFunc_ownH (F:=Fence.wide) (n:=6) rfl (by omega) (gf:=110) (lb:=#[.pointer (some ⟨w1.heap.size,0,none⟩)]) rfl trivial (enters_of Tryz.func110 (by kernel_rfl) rfl)
  (Fi Fence.wide (6 - 1) trivial rfl (by omega) w1.heap.size w2.heap.size (fun q=>q=b∨vp.ownBlock=some q) _ _ _ 1000000 v rs ZJ.out w2 ZW (by omega) hvb Zn.out T2.out (by omega))
  (fun h k=>KC.trans h k)
  (fun W l o o' hl h _ _=>⟨(grownBy_putObj' W l o').size,fun q hq _=>(grownBy_putObj' W l o').block q (by have:=(Array.getElem?_eq_some_iff.1 h).1;omega) (fun e=>by injection e with e;omega)⟩)
  ZR (fun _=>rfl)
  (fun pre W=>Fg w2 b lo S (sn:Int) vd vp lim vc cg c og o code vt zx cnt (en:Int) Z7 ps (pre.map (·.1)) W)
  (fun cc pre W=>cc=.ret∧∃k:Nat,pre.length=k+1∧lim=(k:Int)∧Ca w b lo S (sn:Int) vd vp lim vc cg c og o code vt zx cnt (en:Int) Z7 ps ((pre.map (·.1)).take k) W∧St W (w.heap.size+1) [.int .i64 5])
  (fun s X Y row hs hg hr=>hs.grown hg (by omega) hr)
  (fun cc s X Y row hs hg hr=>by
   obtain ⟨h1,k,h2,h3,h4,h5⟩:=hs;exact ⟨h1,k,h2,h3,h4.grown hg hlt (fun r e=>⟨by have:=(hr r e).1;omega,(hr r e).2⟩),h5.Vo hg (fun e=>by have:=(hr _ e.symm).1;omega)⟩)
  ⟨vp,dv,S2.out,by rw [DQ,Sz];exact D2.out,hne,by rw [DQ,Sz];exact Zo.out,Tw.refl _ _ _,fun h=>by simpa using h⟩
  (fun x a' W=>∃Bx,w2.heap.size≤Bx∧W.heap[Bx]?=some (.cells (x.1.2.map (Value.int .u8)).toArray 125 (0,0))∧a'={ tmps:=#[.pointer (some ⟨b,0,none⟩),.pointer (some ⟨w.heap.size,0,none⟩),.pointer (some ⟨w.heap.size+1,0,none⟩),.pointer (some ⟨tb,0,none⟩),.int .i64 x.1.1,.pointer (some ⟨Bx,0,none⟩),.pointer (some ⟨b,0,none⟩),.pointer (some ⟨tb,0,none⟩),.pointer (some ⟨tb,0,none⟩),.func (.func 110) #[] #[.pointer (some ⟨w1.heap.size,0,none⟩)],.int .i64 x.1.1,.agg (x.1.2.map (Value.int .u8)).toArray,undef,undef,undef,undef,undef,undef,undef,undef,undef,undef,undef,undef,undef,undef,undef,undef,undef],defers:=[] })
  (fun x a' _ X Y row hs hg hr=>by
   obtain ⟨Bx,h1,h2,h3⟩:=hs;exact ⟨Bx,h1,(hg.block Bx (Array.getElem?_eq_some_iff.1 h2).1 (fun e=>by obtain ⟨-,o,ho,hc⟩:=hr Bx e.symm;rw [h2] at ho;injection ho with ho;rw [←ho] at hc;cases hc)).trans h2,h3⟩)
  ?assign ?body ?done ?stop
 case assign =>
  rintro l pre ⟨⟨key,Vb⟩,bb,hb1,hb2,QK⟩ W K hi hK;unfold encR;dsimp only at hb1 QK ⊢;subst hb1;have VR:Hid ((Vb.map (Value.int .u8)).length=64):=by show _=_;rw [Vi];exact QK
  have HI:=Z8 hi;have I:w2.heap.size≤W.heap.size:=by obtain ⟨_,_,_,_,_,_,h5,_⟩:=HI.out;exact h5.size
  clear hi
  gi_wp2_with (refine VA rfl 125 _ _ rfl (Vb.map (Value.int .u8)).toArray rfl rfl (by rw [WW,VR.out];rfl) (by rw [WW];exact Yk _ VR.out) (Sn (Wc _ _)) ?_)
  refine hK _ _ ((KeepsOthers.alloc _ _).from _) ((KC.refl _ _ W).alloc I _) (HI.out.below (ZR.alloc ZW _)) ⟨W.heap.size,I,WJ W _,rfl⟩
 case body =>
  rintro l pre ⟨⟨key,Vb⟩,bb,hb1,hb2,QK⟩ a' W Nc ⟨r,hr⟩ ⟨TW,QE,h1,h2,h3,h4,h5,h6⟩ ⟨Bx,hBx,hcell,rfl⟩ hpl;dsimp only at hb1 QK hcell ⊢;subst hb1;have Z':(pre.map (·.1)).length=pre.length:=Vi _;have Z5:Hid (∀x:J5 1000000,(pre++[x]).map (·.1)=pre.map (·.1)++[x.1]):=fun x=>by show _=_;rw [WX];rfl
  have xV:=Z8 Z';have hk10:pre.length≤64:=by omega
  rw [Z'] at h1 h6;have S5:=Z8 h1;have D5:=Z8 h2;have T5:=Z8 h5;have Q5:=Z8 h4;have L5:=Z8 h6;have X5:=Z8 (h5.st X2.out (by omega) (fun e=>by have:=U _ e;omega));have Y5:=Z8 (h5.st Y2.out (by omega) (fun e=>by have:=U _ e;omega));have I:=h5.size;have hbl:(ps++pre.map (·.1)).length≤2000:=by rw [YE,Z'];omega
  have RG:Hid (W.rangeAt Bx 0 (Vb.map (Value.int .u8))):=by
   intro j u hu;rw [Wn,Re W Bx j _ _ _ hcell]
   simpa using hu
  have VR:Hid ((Vb.map (Value.int .u8)).length=64):=by show _=_;rw [Vi];exact QK
  clear h1 h2 h4 h5 h6 hcell Z';have bd:ZX W W.drew:=below_drewN' W 1;have CW:Hid (Calls Tryz.prog 77 #[.pointer (some ⟨b,2,none⟩),.int .i64 (bb:Int),.agg (Vb.map (Value.int .u8)).toArray] W.drew fun e w'=>∃t,e=.returned (.bool t)∧KeepsFrom w2.heap.size W w'∧KC w2.heap.size (fun q=>q=b∨vp.ownBlock=some q) W w'∧(t=true→Fg w2 b lo S (sn:Int) vd vp lim vc cg c og o code vt zx cnt (en:Int) Z7 ps (pre.map (·.1)++[((bb:Int),Vb)]) w')∧(t=false→lim=(pre.length:Int)∧Fg w2 b lo S (sn:Int) vd vp lim vc cg c og o code vt zx cnt (en:Int) Z7 ps (pre.map (·.1)) w'∧St w' (w.heap.size+1) [.int .i64 0])):=by
   have S6:=S5.out.below bd;have D6:=(D5.out.below bd).mono ZW bd.size
   by_cases hz:Vq lim (pre.length:Int)=0
   · refine (C5 W.drew b 2 lim pre.length bb Vb QK (S6.cl 4 _ rfl) (S6.cl 5 _ rfl) S6.lt hl (by omega) hz).mono ?_
     rintro e w' ⟨rfl,b'⟩;have bW:=Ye bd b';refine ⟨false,rfl,⟨bW.size,fun k o9 hk h0 ho=>(bW.block k (Array.getElem?_eq_some_iff.1 h0).1).trans h0⟩,⟨bW.size,fun q hq _=>bW.block q (by omega)⟩,(fun e=>by cases e),fun _=>⟨(Nm hz).2,⟨TW,QE,?_⟩,Y5.out.below bW⟩⟩;rw [xV.out];exact ⟨S5.out.below bW,(D5.out.below bW).mono ZW bW.size,h3,Q5.out,T5.out.trans (Tw.Za bW _ _),L5.out⟩
   refine (Fs W.drew b 2 lo vd TW Z7 (ps++pre.map (·.1)) QE lim pre.length bb Vb _ QK S6 rfl rfl rfl D6 (by have:=bd.size;omega) h3 hnd Q5.out hl (by omega) (by omega) hz).mono ?_;rintro e w' ⟨rfl,Zl,Zh,s',d',n',q',t'⟩;have t0:=(Tw.Za bd _ _).trans t';refine ⟨true,rfl,⟨t0.size,fun k o9 hk h0 ho=>?_⟩,⟨t0.size,fun q hq hn=>?_⟩,fun _=>⟨Zl,Zh,?_⟩,(fun e=>by cases e)⟩
   · refine (t0.block k (Array.getElem?_eq_some_iff.1 h0).1 (by omega) (fun e=>?_)).trans h0
     rcases D5.out.p.1.2 with ⟨e9,-⟩ | ⟨g9,cap,cur,e9,-,vU,-⟩
     · rw [e9] at e;cases e
     rw [e9] at e;obtain rfl:g9=k:=by simpa [Value.ownBlock] using e
     rw [h0] at vU
     injection vU with vU
     rw [vU] at ho
     cases ho
   · refine t0.block q (by omega) (fun e=>hn (.inl e)) (fun e=>?_)
     rcases T5.out.own with h | h | ⟨g9,h,hg⟩
     · exact hn (.inr (h ▸ e))
     · rw [h] at e;cases e
     rw [h] at e;injection e with e;omega
   have e1:((pre.map (·.1)++[((bb:Int),Vb)]).length:Int)=(pre.length:Int)+1:=by rw [YE,xV.out];simp
   have e2:ps++(pre.map (·.1)++[((bb:Int),Vb)])=(ps++pre.map (·.1))++[((bb:Int),Vb)]:=(R9 _ _ _).symm;rw [e1,e2];exact ⟨s',d',n',q',T5.out.trans t0,fun h9=>by have:=Ls hz L5.out h9;omega⟩
  clear bd S5 D5 T5 Q5 L5
  gi_wp2_with fail
  rename_i KK sK;have REST:Hid (∀(t:Bool) (W':World),KeepsFrom w2.heap.size W W'→KC w2.heap.size (fun q=>q=b∨vp.ownBlock=some q) W W'→(t=true→Fg w2 b lo S (sn:Int) vd vp lim vc cg c og o code vt zx cnt (en:Int) Z7 ps (pre.map (·.1)++[((bb:Int),Vb)]) W')→(t=false→lim=(pre.length:Int)∧Fg w2 b lo S (sn:Int) vd vp lim vc cg c og o code vt zx cnt (en:Int) Z7 ps (pre.map (·.1)) W'∧St W' (w.heap.size+1) [.int .i64 0])→KK { tmps:=#[.pointer (some ⟨b,0,none⟩),.pointer (some ⟨w.heap.size,0,none⟩),.pointer (some ⟨w.heap.size+1,0,none⟩),.pointer (some ⟨tb,0,none⟩),.int .i64 (bb:Int),.pointer (some ⟨Bx,0,none⟩),.pointer (some ⟨b,0,none⟩),.pointer (some ⟨tb,0,none⟩),.pointer (some ⟨tb,0,none⟩),.func (.func 110) #[] #[.pointer (some ⟨w1.heap.size,0,none⟩)],.int .i64 (bb:Int),.agg (Vb.map (Value.int .u8)).toArray,.pointer (some ⟨b,0,none⟩),.pointer (some ⟨b,0,none⟩),.pointer (some ⟨b,2,none⟩),.int .i64 (bb:Int),.agg (Vb.map (Value.int .u8)).toArray,.bool t,.bool (!t),undef,undef,undef,undef,undef,undef,undef,undef,undef,undef],defers:=[] } W'):=by
   intro t W' g1 g2 g3 g4;have G1:=Z8 g1;have G2:=Z8 g2;clear g1 g2 CW RG;refine sK _ _ ?_;clear sK
   cases t with
   | true =>
    have G3:=Z8 (g3 rfl);clear g3 g4;gi_wp2;refine ⟨G1.out,G2.out,?_⟩;have h9:Fg w2 b lo S (sn:Int) vd vp lim vc cg c og o code vt zx cnt (en:Int) Z7 ps ((pre++[(⟨((bb:Int),Vb),⟨bb,rfl,hb2,QK⟩⟩:J5 1000000)]).map (·.1)) W':=by rw [Z5.out];exact G3.out
    exact h9
   | false =>
    obtain ⟨g5,g6,g7⟩:=g4 rfl;have G6:=Z8 g6;have G7:=Z8 g7;have c2:=g7.cl 0 _ rfl;have f2:=g7.fz 0;clear g3 g4 g6 g7;gi_wp2;refine ⟨G1.out.trans ((KeepsOthers.setCell _ _ _).from _),rfl,pre.length,by simp,g5,?_,G7.out.set 0 _⟩;have h9:((pre++[(⟨((bb:Int),Vb),⟨bb,rfl,hb2,QK⟩⟩:J5 1000000)]).map (·.1)).take pre.length=pre.map (·.1):=by rw [Z5.out,List.take_left' xV.out]
    show Ca _ _ _ _ _ _ _ _ _ _ _ _ _ _ _ _ _ _ _ _ _ _;rw [h9];exact G6.out.res (z:=0) c2 B2.out (by omega) (by omega) hlt U hdp (Z6.out pre)
  refine wpIn_region_any (by kernel_rfl) ?_;refine GV l rfl (by kernel_rfl) _ _ _ _ ?_;have XD:=X5.out.cl 0 _ rfl;refine wpAnyIn_take (i:=3) (oi:=⟨some 15,_,_,_,_,_⟩) (v:=.int .i64 (bb:Int)) rfl rfl (by kernel_rfl) (by kernel_rfl) (by kernel_rfl) (fun _ _ _ h=>h) ⟨.inl ⟨by rfl,fun _=>rfl⟩,fun _=>rfl⟩ ?_;refine wpAnyIn_ready (rs:=[0,4]) (by kernel_rfl) (by simp) ?_;refine AllReadyIn.cons (o:=⟨some 12,_,_,_,_,_⟩) rfl (fun K9 Dj=>?_) (AllReadyIn.cons (o:=⟨some 16,_,_,_,_,_⟩) rfl (fun K9 Dj=>?_) AllReadyIn.nil)
  · rw [ZY (by rfl)]
    go_simp;refine Dj _ _ ?_;refine wpAnyIn_take (i:=1) (oi:=⟨some 13,_,_,_,_,_⟩) (v:=.pointer (some ⟨b,0,none⟩)) rfl rfl (by kernel_rfl) (by kernel_rfl) (by kernel_rfl) (fun _ _ _ h=>h) ⟨.inl ⟨by rfl,fun _=>rfl⟩,fun _=>rfl⟩ ?_;refine wpAnyIn_take (i:=2) (oi:=⟨some 14,_,_,_,_,_⟩) (v:=.pointer (some ⟨b,2,none⟩)) rfl rfl (by kernel_rfl) (by kernel_rfl) (by kernel_rfl) (fun _ _ _ h=>h) ⟨.inl ⟨by rfl,fun _=>rfl⟩,fun _=>rfl⟩ ?_;refine wpAnyIn_ready (rs:=[4]) (by kernel_rfl) (by simp) ?_;refine AllReadyIn.cons (o:=⟨some 16,_,_,_,_,_⟩) rfl (fun K9 Dj=>?_) AllReadyIn.nil;rw [ZY (by rfl)];refine Sa rfl 125 _ rfl Bx 0 rfl (Vb.map (Value.int .u8)) _ RG.out Tryz.underlying125 rfl (Yk _ VR.out) ?_;refine Dj _ _ ?_;refine wpAnyIn_ready (rs:=[5]) (by kernel_rfl) (by simp) ?_;refine AllReadyIn.cons (o:=⟨some 17,_,_,_,_,_⟩) rfl (fun K9 Dj=>?_) AllReadyIn.nil;rw [ZY (by rfl)];go_simp;refine ⟨trivial,(Xq.2 CW.out).mono ?_⟩;rintro e W' ⟨t,rfl,g1,g2,g3,g4⟩;refine Dj _ _ ?_;refine wpAnyIn_take (i:=6) (oi:=⟨some 18,_,_,_,_,_⟩) (v:=.bool (!t)) rfl rfl (by kernel_rfl) (by kernel_rfl) (by kernel_rfl) (fun _ _ _ h=>h) ⟨.inl ⟨by rfl,fun _=>rfl⟩,fun _=>rfl⟩ ?_;exact wpAnyIn_done (by kernel_rfl) (REST.out t W' g1 g2 g3 g4) _
  rw [ZY (by rfl)];refine Sa rfl 125 _ rfl Bx 0 rfl (Vb.map (Value.int .u8)) _ RG.out Tryz.underlying125 rfl (Yk _ VR.out) ?_;refine Dj _ _ ?_;refine wpAnyIn_ready (rs:=[0]) (by kernel_rfl) (by simp) ?_;refine AllReadyIn.cons (o:=⟨some 12,_,_,_,_,_⟩) rfl (fun K9 Dj=>?_) AllReadyIn.nil;rw [ZY (by rfl)];go_simp;refine Dj _ _ ?_;refine wpAnyIn_take (i:=1) (oi:=⟨some 13,_,_,_,_,_⟩) (v:=.pointer (some ⟨b,0,none⟩)) rfl rfl (by kernel_rfl) (by kernel_rfl) (by kernel_rfl) (fun _ _ _ h=>h) ⟨.inl ⟨by rfl,fun _=>rfl⟩,fun _=>rfl⟩ ?_;refine wpAnyIn_take (i:=2) (oi:=⟨some 14,_,_,_,_,_⟩) (v:=.pointer (some ⟨b,2,none⟩)) rfl rfl (by kernel_rfl) (by kernel_rfl) (by kernel_rfl) (fun _ _ _ h=>h) ⟨.inl ⟨by rfl,fun _=>rfl⟩,fun _=>rfl⟩ ?_;refine wpAnyIn_ready (rs:=[5]) (by kernel_rfl) (by simp) ?_;refine AllReadyIn.cons (o:=⟨some 17,_,_,_,_,_⟩) rfl (fun K9 Dj=>?_) AllReadyIn.nil;rw [ZY (by rfl)];go_simp;refine ⟨trivial,(Xq.2 CW.out).mono ?_⟩;rintro e W' ⟨t,rfl,g1,g2,g3,g4⟩;refine Dj _ _ ?_;refine wpAnyIn_take (i:=6) (oi:=⟨some 18,_,_,_,_,_⟩) (v:=.bool (!t)) rfl rfl (by kernel_rfl) (by kernel_rfl) (by kernel_rfl) (fun _ _ _ h=>h) ⟨.inl ⟨by rfl,fun _=>rfl⟩,fun _=>rfl⟩ ?_;exact wpAnyIn_done (by kernel_rfl) (REST.out t W' g1 g2 g3 g4) _
 case done =>
  rintro D xs W hD rfl hI hK;have hI2:Fg w2 b lo S (sn:Int) vd vp lim vc cg c og o code vt zx cnt (en:Int) Z7 ps rs W:=by
   have h9:=hI;rw [Vc] at h9;exact h9
  have HI:=Z8 hI2;obtain ⟨O,T,-,-,-,-,t9,-⟩:=HI.out;have ct:=(YI (w:=w2) (a:=⟨tb,0,none⟩) (t9.block tb htb.1 htb.2.1 htb.2.2)).trans T2.out.box.1.2.1;have hvs:∃a c,v=.slice a rs.length c:=by
   rcases T2.out.rows.2 with ⟨rfl,h1⟩ | ⟨g,cap,cur,rfl,-⟩
   · exact ⟨none,0,by rw [h1]⟩
   exact ⟨_,_,rfl⟩
  have X5:=Z8 (t9.st X2.out (by omega) (fun e=>by have:=U _ e;omega));have Y5:=Z8 (t9.st Y2.out (by omega) (fun e=>by have:=U _ e;omega));have I:=t9.size;have HE:=Z8 (Cb W tb v rs ct hvs);have HK:=Z8 hK;clear hI hI2 t9 ct hvs hK
  gi_wp2_with fail
  refine ⟨trivial,?_⟩;refine (Xq.2 HE.out).mono ?_;rintro e G ⟨rfl,b1⟩;have IZ:=Z8 (HI.out.below b1);have XZ:=Z8 (X5.out.below b1);have YZ:=Z8 (Y5.out.below b1);have KZ:=Z8 ((b1.block D (Array.getElem?_eq_some_iff.1 HK.out).1).trans HK.out);have ZN:=(Array.getElem?_eq_some_iff.1 KZ.out).1;have hsz:=ZP I b1.size;clear b1 HI X5 Y5 HK HE;have c1:=XZ.out.cl 0 _ rfl;have c2:=YZ.out.cl 0 _ rfl;have f2:=YZ.out.fz 0;have ZH:Hid (∀r ∈ ps++rs,0<r.2.length):=by
   have h9:=Z6.out (Xy rs ZJ.out);rw [Vc] at h9;exact h9
  by_cases h0:rs.length=0
  · have hz:((rs.length:Int) == 0)=true:=by simp [h0]
    rw [hz];have EZ:Hid (Ca w b lo S (sn:Int) vd vp lim vc cg c og o code vt zx cnt (en:Int) Z7 ps rs (G.setCell ⟨w.heap.size+1,0,none⟩ (.int .i64 6))):=IZ.out.res (z:=0) c2 B2.out (by omega) (by omega) hlt U hdp ZH.out;clear hz
    gi_wp2_with fail
    refine ⟨trivial,?_⟩;gi_wp2;have R:(G.setCell ⟨w.heap.size+1,0,none⟩ (.int .i64 6)).heap[D]?=some (.deferred (some [])):=(KeepsOthers.setCell _ _ _).same D _ KZ.out rfl;refine ⟨by simp,.inl ⟨_,_,rfl,run_takeDeferred R,?_⟩⟩;have GX:=grownBy_putObj' (G.setCell ⟨w.heap.size+1,0,none⟩ (.int .i64 6)) D (.deferred none);have YX:=(YZ.out.set 0 (.int .i64 6)).Vo GX (by simp;omega);have PX:=(EZ.out.grown GX hlt (fun r e=>by injection e with e;subst e;exact ⟨by omega,_,R,rfl⟩)).clean h0;generalize (G.setCell _ _).putObj D (.deferred none)=Z at *;have y0:=YX.cl 0 _ rfl;exact ⟨.int .i64 6,by simp [results,Tryz.results36,go_sem,y0],PX⟩
  have hz:((rs.length:Int) == 0)=false:=by rw [Xz];omega
  rw [hz];clear hz
  gi_wp2_with fail
  refine ⟨trivial,?_⟩;obtain ⟨O,T,h1,h2,h3,h4,h5,h6⟩:=IZ.out
  by_cases hz:Vq lim (rs.length:Int)=0
  · have HC:Hid (Calls Tryz.prog 79 #[.pointer (some ⟨b,2,none⟩)] G (Ze G (.bool false))):=yN G b 2 lim rs.length (h1.cl 4 _ rfl) (h1.cl 5 _ rfl) hl (by omega) hz
    have hlk:=(Nm hz).2;clear h1 h2 h3 h4 h5 h6 hz c1 c2 f2;refine (Xq.2 HC.out).mono ?_;rintro e E ⟨rfl,b1⟩;have YY:=Z8 (YZ.out.below b1);have KY:=Z8 ((b1.block D ZN).trans KZ.out);have c2:=YY.out.cl 0 _ rfl;have f2:=YY.out.fz 0;have EZ:Hid (Ca w b lo S (sn:Int) vd vp lim vc cg c og o code vt zx cnt (en:Int) Z7 ps (rs.take rs.length) (E.setCell ⟨w.heap.size+1,0,none⟩ (.int .i64 5))):=by
     rw [ui];exact (IZ.out.below b1).res (z:=0) c2 B2.out (by omega) (by omega) hlt U hdp ZH.out
    clear b1 HC;gi_wp2;have R:(E.setCell ⟨w.heap.size+1,0,none⟩ (.int .i64 5)).heap[D]?=some (.deferred (some [])):=(KeepsOthers.setCell _ _ _).same D _ KY.out rfl;refine ⟨by simp,.inl ⟨_,_,rfl,run_takeDeferred R,?_⟩⟩;have GX:=grownBy_putObj' (E.setCell ⟨w.heap.size+1,0,none⟩ (.int .i64 5)) D (.deferred none);have YX:=(YY.out.set 0 (.int .i64 5)).Vo GX (by simp;omega);have PX:=(EZ.out.grown GX hlt (fun r e=>by injection e with e;subst e;exact ⟨by omega,_,R,rfl⟩)).stopped ZW h0 hlk;generalize (E.setCell _ _).putObj D (.deferred none)=Z at *;have y0:=YX.cl 0 _ rfl;exact ⟨.int .i64 5,by simp [results,Tryz.results36,go_sem,y0],PX⟩
  have hlk:¬(0≤lim∧lim≤(rs.length:Int)):=fun h=>by
   have:=Ls hz h6 h.1;omega
  have HC:Hid (Calls Tryz.prog 79 #[.pointer (some ⟨b,2,none⟩)] G fun e w'=>e=.returned (.bool true)∧∃u,St w' b (WY S (sn:Int) u (.slice none 0 0) lim ((rs.length:Int)+1) vc cg c og o code vt zx cnt (en:Int))∧Own .u8 5 w' G.heap.size u (ZC Z7 (ps++rs))∧Tw G b O.ownBlock w' O.ownBlock):=by
   refine CZ G b 2 vd O Z7 (ps++rs) lim rs.length _ h1 rfl rfl rfl rfl (fun W' t=>?_) hdl (by rw [YE];omega) Xd.out hl (by omega) hz;have h9:=h2.JJ t.JJ (fun q e=>by cases e;exact ⟨hnd,h3,h4⟩);exact ⟨h9.d.rd,h9.p.rd⟩
  have T9:=Z8 ((Tw.Za B2.out _ _).trans h5);have yQ:O.ownBlock≠some (w.heap.size+1):=fun e=>by
   rcases h5.own with h | h | ⟨g9,h,hg⟩
   · rw [h] at e;have:=U _ e;omega
   · rw [h] at e;cases e
   rw [h] at e;injection e with e;omega
  have ZG:O.ownBlock≠some D:=fun e=>by
   rcases h2.p.1.2 with ⟨e9,-⟩ | ⟨g9,cap,cur,e9,-,vU,-⟩
   · rw [e9] at e;cases e
   rw [e9] at e;obtain rfl:g9=D:=by simpa [Value.ownBlock] using e
   rw [KZ.out] at vU
   cases vU
  clear h1 h2 h3 h4 h5 h6 hz c1 c2 f2;refine (Xq.2 HC.out).mono ?_;rintro e E ⟨rfl,u,s1,o1,t1⟩;have YY:=Z8 (t1.st YZ.out (by omega) yQ);have KY:=Z8 ((t1.block D ZN (by omega) ZG).trans KZ.out);have SZ:Hid (St (E.setCell ⟨w.heap.size+1,0,none⟩ (.int .i64 6)) b (WY S (sn:Int) u (.slice none 0 0) lim ((rs.length:Int)+1) vc cg c og o code vt zx cnt (en:Int))):=s1.other (by omega);have OZ:Hid (Own .u8 5 (E.setCell ⟨w.heap.size+1,0,none⟩ (.int .i64 6)) lo u (ZC Z7 (ps++rs))):=(o1.mono (by omega)).setAt (.inr (fun e=>by have:=(o1.lt _ e).1;omega));have TZ:Hid (Tw w b vp.ownBlock (E.setCell ⟨w.heap.size+1,0,none⟩ (.int .i64 6)) O.ownBlock):=(T9.out.trans t1).yv (by omega);have c2:=YY.out.cl 0 _ rfl;have f2:=YY.out.fz 0;clear s1 o1 t1 HC T9 yQ ZG;gi_wp2;have R:(E.setCell ⟨w.heap.size+1,0,none⟩ (.int .i64 6)).heap[D]?=some (.deferred (some [])):=(KeepsOthers.setCell _ _ _).same D _ KY.out rfl;refine ⟨by simp,.inl ⟨_,_,rfl,run_takeDeferred R,?_⟩⟩;have GX:=grownBy_putObj' (E.setCell ⟨w.heap.size+1,0,none⟩ (.int .i64 6)) D (.deferred none);have YX:=(YY.out.set 0 (.int .i64 6)).Vo GX (by simp;omega);have PX:=GW (SZ.out.Vo GX (by simp;omega)) (XX OZ.out GX (fun r e=>by injection e with e;subst e;exact ⟨_,R,rfl⟩)) (TZ.out.Vo GX (fun r e=>by injection e with e;omega)) h0 hlk;generalize (E.setCell _ _).putObj D (.deferred none)=Z at *;have y0:=YX.cl 0 _ rfl;exact ⟨.int .i64 6,by simp [results,Tryz.results36,go_sem,y0],PX⟩
 case stop =>
  rintro D cc pre W hD ⟨k9,Y8,hpre⟩ ⟨rfl,k,h2,h3,h4,h5⟩ hK;have hkk:k=k9:=by
   have h9:pre.length=min (k9+1) rs.length:=by rw [hpre,YC];unfold Xy;rw [List.length_pmap]
   omega
  subst hkk;have E5:Hid (Ca w b lo S (sn:Int) vd vp lim vc cg c og o code vt zx cnt (en:Int) Z7 ps (rs.take k) W):=by
   have e9:(pre.map (·.1)).take k=rs.take k:=by rw [hpre,DP,Vc,uh,So (by omega)]
   rw [e9] at h4;exact h4
  have Y5:=Z8 h5;have HK:=Z8 hK;have ZN:=(Array.getElem?_eq_some_iff.1 hK).1;clear h4 h5 hpre hK;gi_wp2;refine ⟨by simp,.inl ⟨_,_,rfl,run_takeDeferred HK.out,?_⟩⟩;have GX:=grownBy_putObj' W D (.deferred none);have YX:=Y5.out.Vo GX (by simp;omega);have PX:=(E5.out.grown GX hlt (fun r e=>by injection e with e;subst e;exact ⟨by omega,_,HK.out,rfl⟩)).stopped (by omega) (by omega) h3;generalize W.putObj D (.deferred none)=Z at *;have y0:=YX.cl 0 _ rfl;exact ⟨.int .i64 5,by simp [results,Tryz.results36,go_sem,y0],PX⟩
theorem sC {dv:Nat→Value} (H:uG Z7 ps S sn N lim) {r:List Nd × Int × Nat} (h:Rv w W b g N C vd vp dv Z7 ps) (hs:St W b (WY S (sn:Int) vd vp lim 0 (.slice (some ⟨g,0,none⟩) N C) true x yg y code (.slice ta r.1.length tc) r.2.1 ((r.2.2:Nat):Int) e)) (hn:ZU 134 W w.heap.size (.slice ta r.1.length tc) r.1) (hne:Value.ownBlock (.slice ta r.1.length tc)≠some b) (hr:RES=UC Z7 ps S (sn:Int) lim code x (Yo Z7 ps S (sn:Int) x.b true) r e) (fx:Xw S x) (he:0≤e∧e≤((Yo Z7 ps S (sn:Int) x.b true).length:Int)) :
    Calls Tryz.prog 36 #[.pointer (some ⟨b,0,none⟩)] W (Tg w b g N C vd vp dv Z7 ps S sn lim RES 3):=by
 obtain ⟨hc,Hf,Dc,hS,hs1,hs2⟩:=H.facts;obtain ⟨-,hv,hdz⟩:=(XU S sn Z7.length ps).1 H.fit;obtain ⟨en,rfl⟩:∃en:Nat,e=(en:Int):=⟨e.toNat,by omega⟩;obtain ⟨r1,r2,r3,-⟩:=Pg (b:=sn - 1) H.fit fx.b (by rw [XT];omega);obtain ⟨f,hf⟩:∃f:Nat,YM S (sn:Int) x.b true=(f:Int):=⟨(YM S (sn:Int) x.b true).toNat,by omega⟩;rw [hf] at r1 r2 r3;have Y7:Z7.length=N:=by rw [←VF hv];exact H.len
 have rR:(f+sn)*64≤N:=by omega
 have ha:Yo Z7 ps S (sn:Int) x.b true=YR (ZC Z7 ps) f sn:=by rw [Pi H.fit fx.b,hf,XT,XT]
 have hal:=VE _ _ _ (by rw [H.len];exact rR);rw [ha] at he hr;rw [hal] at he;have hwl:(Zu (YR (ZC Z7 ps) f sn) en).length=((sn:Int)).toNat*64:=by rw [SH,hal,XT]
 have hV:=(Fp (YR (ZC Z7 ps) f sn) (Zu (YR (ZC Z7 ps) f sn) en) H.fit H.n fx.b hwl sn (by rw [XT];omega)).1;rw [hf] at hV;have Z8:=(Yv Z7.length ps).1 hv;have Qr:∀q ∈ ps,0<q.2.length:=by
  intro q hq;obtain ⟨i,hi,rfl⟩:=ur hq;have h9:=(Z8.2.2.2.2 i hi).2.2;unfold pD at h9;rw [DT,VM hi] at h9;have:(ps[i]).2.length=64:=h9;omega
 refine (JG W b g N C f w.heap.size S sn vd vp lim _ true x yg y code _ r.2.1 _ en (ZC Z7 ps) Z7 ps dv hs rfl (fun W' hW=>(h.ct.below hW).rd) H.len H.n9 hc fx.b hf rR (by omega) hs2 (by omega) h.dk (by have:=h.lo;have:=hs.lt;omega) h.Z0 h.ne1 h.ZZ H.lim H.n (by have:=H.n9;omega) (by omega) Qr (uI hV)).mono ?_;have hn':∀(w':World) (o':Option Nat),Tw W b vp.ownBlock w' o'→ZU 134 w' w.heap.size (.slice ta r.1.length tc) r.1:=by
  intro w' o' t;refine ⟨hn.1,?_⟩
  rcases hn.2 with h9 | ⟨q,cap,cur,yQ,hbg,hgg,rest⟩
  · exact .inl h9
  have e9:Value.ownBlock (.slice ta r.1.length tc)=some q:=by rw [yQ];rfl
  refine .inr ⟨q,cap,cur,yQ,hbg,(t.block q (Array.getElem?_eq_some_iff.1 hgg).1 (fun e=>hne (by rw [e9,e])) (fun e=>?_)).trans hgg,rest⟩
  rcases h.dk.p.1.2 with ⟨h1,-⟩ | ⟨g',cap',cur',h1,-,hg',-⟩
  · rw [h1] at e;cases e
  rw [h1] at e;obtain rfl:g'=q:=by simpa [Value.ownBlock] using e
  rw [hgg] at hg'
  injection hg' with hg'
  injection hg' with _ h2
  exact absurd h2 (by decide)
 have hb':∀(w':World) (o':Option Nat),Tw W b vp.ownBlock w' o'→ZX w w':=fun w' o' t =>
  h.YJ.trans (t.below h.YJ.size (by have:=h.lo;omega) (fun q hq=>by have:=(ZO h.dk.p.1 q hq).1;omega))
 unfold UC at hr;rw [hf,XT,XT] at hr;generalize WZ (f:Int) (YR (ZC Z7 ps) f sn) (Zu (YR (ZC Z7 ps) f sn) en) 0 sn=rs at *;rintro e' w' ⟨Z2,TW,QE,o',rfl,s',d',t'⟩;unfold QA at *
 by_cases h0:rs.length=0
 · rw [ZY h0] at hr s' d' ⊢
   exact ⟨6,rfl,by omega,by omega,.up (hb' _ _ t') s' (hn' _ _ t') d' hr⟩
 rw [Z3 h0] at hr s' d' ⊢
 by_cases h1:0≤lim∧lim≤(rs.length:Int)
 · rw [ZY h1] at hr s' d' ⊢
   exact ⟨5,rfl,by omega,by omega,.stop (hb' _ _ t') s' d' hr⟩
 rw [Z3 h1] at hr s' d' ⊢;exact ⟨6,rfl,by omega,by omega,.up (hb' _ _ t') s' (hn' _ _ t') d' hr⟩
theorem JF (w:World) (va vb:Option Addr) (dl ca n cb:Nat) (Z7:List Int) (ps:List (Int × List Int)) (hd:Rd .u8 w (.slice va dl ca) Z7) (hdl:Z7.length=dl) (hp:XP w (.slice vb n cb) ps) (hl:ps.length=n)
    (hn:n≤1048576) (hd1:dl≤1048576) (XV:∀i,(pD ps i).length≤1048576) :
    Calls Tryz.prog 31 #[.agg #[.slice va dl ca,.slice vb n cb]] w fun e w'=>∃a c g dv,e=.returned (.agg #[.slice a dl c,.slice (some ⟨g,0,none⟩) n (n+1)])∧Zz w' w.heap.size w'.heap.size (.slice a dl c) (.slice (some ⟨g,0,none⟩) n (n+1)) Z7 ps dv∧ZX w w':=by
 obtain ⟨i0,hi,hz0,hz1,hz2⟩:=YH Tryz.LD;have HD:=Z8 hd;have HP:=Z8 hp;have HL:=Z8 hl;have Uo:=Z8 hdl;have Xd:=Z8 XV;have BA:Hid (∀o1 o2,ZX w ((w.alloc o1).alloc o2)):=fun o1 o2=>(ZR.alloc ZW _).alloc (by simp) _
 clear hd hp hl hdl XV
 go_enter Tryz.func31,Tryz.ntmps31
 go_wp2_with (at_make;go_must (refine LW _ rfl _ _ 34 rfl (w.heap.size+2) 91 i0 (.agg #[.int .i64 0,.slice none 0 0]) 2 Tryz.underlying34 hi hz0 hz1 _ _ _ (n+1) rfl rfl ?b1 ?b2 ?b3 ?b4 ?_))
 case b1=>omega
 case b2=>rw [hz2];omega
 case b3=>unfold maxLen;omega
 case b4=>simp
 intro w3 hown hgrow;have GH:Hid (Zm ((w.alloc (.cells #[.slice va dl ca,.slice vb n cb] 36)).alloc (.cells #[.slice none 0 0,.slice none 0 0] 36)) w.heap.size (.slice va dl ca) (.slice vb n cb)):=(Zm.new w _ _ _).below (ZR.alloc ZW _);have GG:Hid (Zm ((w.alloc (.cells #[.slice va dl ca,.slice vb n cb] 36)).alloc (.cells #[.slice none 0 0,.slice none 0 0] 36)) (w.heap.size+1) (.slice none 0 0) (.slice none 0 0)):=by
  have:=Zm.new (w.alloc (.cells #[.slice va dl ca,.slice vb n cb] 36)) (.slice none 0 0) (.slice none 0 0) 36;show Zm _ _ _ _
  simpa using this
 have HB2:Hid (ZX w ((w.alloc (.cells #[.slice va dl ca,.slice vb n cb] 36)).alloc (.cells #[.slice none 0 0,.slice none 0 0] 36))):=BA.out _ _;clear BA;have hs2:((w.alloc (.cells #[.slice va dl ca,.slice vb n cb] 36)).alloc (.cells #[.slice none 0 0,.slice none 0 0] 36)).heap.size=w.heap.size+2:=by simp
 generalize (w.alloc _).alloc _=w2 at *;rw [show w.heap.size+1+1=w2.heap.size by omega] at hown;have HS2:=Z8 hs2;clear hs2;have s2:=HB2.out.size;obtain ⟨⟨z1,c0,c1⟩,-⟩:=GH.out;have zr:=GG.out.1.1;have B3:=Z8 (ZR.grown hgrow ZW (by simp));have M3:Hid (Made w3 w2.heap.size w2.heap.size 0 (n+1) ps (fun _=>.slice none 0 0)):=⟨hown,fun i hi=>by omega,fun i j hi=>by omega⟩;have c03:=(B3.out.cell (p:=⟨w.heap.size,0,none⟩) z1).trans c0;have c13:=(B3.out.cell (p:=⟨w.heap.size,1,none⟩) z1).trans c1;clear hown hgrow c0 c1;go_wp2;clear c03 c13
 go_loopw [3,14] (fun v i wr=>∃(k:Nat) (dv:Nat→Value),k≤n∧i=.int .i64 k∧v=.slice (some ⟨w2.heap.size,0,none⟩) k (n+1)∧Hid (Made wr w2.heap.size w2.heap.size k (n+1) ps dv)∧ZX w2 wr) (fun _ i _=>n - (intOf i).toNat)
 case atStart=>exact ⟨0,_,ZQ _,rfl,by rw [HS2.out],M3,B3.out⟩
 case round =>
  clear M3 B3;obtain ⟨k,dv,hk,rfl,rfl,HM,hg⟩:=hrel
  by_cases hlt:k<n
  · obtain ⟨b,o,rfl,hb,e1,da,dc,e2,r⟩:=HP.out.recAt HL.out hlt
    have BW:=Z8 (HB2.out.trans (hg.mono s2));have uS:=(BW.out.cell (p:=⟨b,o+k*2,none⟩) hb).trans e1;have e2':=(BW.out.cell (p:=⟨b,o+k*2+1,none⟩) hb).trans e2;have RK:=Z8 (r.below BW.out);have HG:=Z8 hg;have sg:=hg.size;have YN:(k:Int)<(n:Int):=by omega
    clear e1 e2 r hg;have hpk:=Xd.out k
    go_wp2_with fail
    have uL:ZX wr (wr.alloc (.cells #[.int .i64 (pB ps k),.slice da (pD ps k).length dc] 91)):=ZR.alloc ZW _;have Jw:Hid (Calls Tryz.prog 70 #[.slice da (pD ps k).length dc] (wr.alloc (.cells #[.int .i64 (pB ps k),.slice da (pD ps k).length dc] 91)).drew fun e w'=>∃a c,e=.returned (.slice a (pD ps k).length c)∧Hid (Own .u8 5 w' (wr.heap.size+1) (.slice a (pD ps k).length c) (pD ps k)) ∧
        w'.cell? ⟨wr.heap.size,0,none⟩=some (.int .i64 (pB ps k))∧w'.cell? ⟨wr.heap.size,1,none⟩=some (.slice da (pD ps k).length dc)∧Hid (ZX wr w')):=by
     refine (Qm _ _ (pD ps k) ((RK.out.below uL).drewN 1) (by omega)).mono ?_;rintro e w' ⟨v',rfl,o',b'⟩;obtain ⟨a,c,rfl⟩:=o'.slice;have b2:Below (wr.alloc (.cells #[.int .i64 (pB ps k),.slice da (pD ps k).length dc] 91)).heap.size (wr.alloc (.cells #[.int .i64 (pB ps k),.slice da (pD ps k).length dc] 91)) w':=(below_drewN' _ 1).trans b';have X:=(YK.new wr (.int .i64 (pB ps k)) (.slice da (pD ps k).length dc) 91).below b2;exact ⟨a,c,rfl,by have:=o';simp at this;exact this,X.2.1,X.2.2,uL.trans (b2.mono (by simp))⟩
    have HOW:Hid (∀W',ZX wr W'→W'.ownsRow w2.heap.size 91 2 (.slice (some ⟨w2.heap.size,0,none⟩) k (n+1)) k (Yt k (pB ps) dv)):=fun W' hW' =>
     Yy HM.out.1 (row:=none) ⟨hW'.os,hW'.tape,hW'.output,hW'.size,fun q hq _=>hW'.block q hq⟩ (.inr (by simp [Value.ownBlock]))
    clear uL uS e2'
    go_region_law (first | (refine Ds rfl _ _ 34 rfl w2.heap.size 91 i0 2 Tryz.underlying34 hi hz1 w2.heap.size k (n+1) _ rfl ((HOW.out _ bw.out).alloc _) ⟨w'.heap.size,0,none⟩ 1 1 [.int .i64 (pB ps k),.slice a (pD ps k).length c] rfl rfl (Jg _ _ _ _) (by intro u hu;simp at hu;rcases hu with rfl | rfl <;> rfl) (by omega) ?_;intro w4 ST hg4) | (go_simp;go_at_call 70;refine Jw.out.mono ?_;rintro e w' ⟨a,c,rfl,o',k0,k1,bw⟩))
    all_goals
     have Zg:Hid (Made w4 w2.heap.size w2.heap.size (k+1) (n+1) ps (Zb dv k (.slice a (pD ps k).length c))):=by
      refine Dq HM.out (ZO HM.out.1 _ rfl).2 bw.out ?_ ?_ hg4
      · exact o'.out.mono (by omega)
      exact ST
     have zK:=Z8 (((HG.out.trans (bw.out.mono sg)).alloc (by have:=bw.out.size;omega) _).grown hg4 (by have:=bw.out.size;simp;omega) (by intro q hq;simp at hq;omega));clear ST hg4 o' k0 k1 bw Jw HOW HM HG;go_wp2
     go_roundw
     case rel=>exact ⟨k+1,_,by omega,by go_num,rfl,Zg,zK.out⟩
     case measure=>simp [intOf];omega
  have hkn:k=n:=by omega
  subst hkn;have BW:=Z8 (HB2.out.trans (hg.mono s2));have HG:=Z8 hg;have sg:=hg.size;have ZE:=Z8 (GH.out.ZL HG.out z1);have qJ:=Z8 (GG.out.ZL HG.out zr);clear hg;obtain ⟨⟨z6,c0,c1⟩,-⟩:=ZE.out
  go_wp2_with fail
  refine (Qm _ _ Z7 (HD.out.below BW.out) (by have:=Uo.out;omega)).mono ?_;rintro e w7 ⟨v7,rfl,o7,b7⟩;obtain ⟨a7,c7,rfl⟩:=o7.slice;rw [Uo.out];have B7:=Z8 (Ye BW.out b7);have D7:Hid (Zz w7 w2.heap.size w7.heap.size (.slice a7 dl c7) (.slice (some ⟨w2.heap.size,0,none⟩) k (k+1)) Z7 ps dv):=by
   have:=Dp HM.out HL.out b7 o7 ZW;rw [Uo.out] at this;exact this
  have Zd:=Z8 (qJ.out.below b7);clear o7 b7 HM qJ ZE c0 c1 z6;obtain ⟨⟨z7,d0,d1⟩,f0,f1⟩:=Zd.out;go_wp2;refine ZT (v:=.agg #[.slice a7 dl c7,.slice (some ⟨w2.heap.size,0,none⟩) k (k+1)]) (by simp [results,Tryz.results31,go_sem,d0,d1]) rfl ⟨_,_,_,dv,rfl,?_,?_⟩
  · refine Zz.mono (lo:=w2.heap.size) (hi:=w7.heap.size) ?_ s2 (by simp)
    repeat (first | exact D7.out | refine Zz.within (l:=w.heap.size+1) (h:=w.heap.size+2) ?_ (Within.setCell _ ZW (by omega) _ _) (.inr (by have:=HS2.out;omega)))
  repeat (first | exact B7.out | refine Zf ?_ (by simp;try omega) _)
theorem vI {dv:Nat→Value} {n:Int} (H:uG Z7 ps S sn N lim) (hR:RES=rcv Z7 ps S (sn:Int) lim) (h:JH w b g N C vd vp dv Z7 ps S sn lim RES n W) (h4:n<4) :
    (n=0∧Calls Tryz.prog 33 #[.pointer (some ⟨b,0,none⟩)] W (Tg w b g N C vd vp dv Z7 ps S sn lim RES 0))∨(n=1∧Calls Tryz.prog 34 #[.pointer (some ⟨b,0,none⟩)] W (Tg w b g N C vd vp dv Z7 ps S sn lim RES 1))∨(n=2∧Calls Tryz.prog 35 #[.pointer (some ⟨b,0,none⟩)] W (Tg w b g N C vd vp dv Z7 ps S sn lim RES 2))∨(n=3∧Calls Tryz.prog 36 #[.pointer (some ⟨b,0,none⟩)] W (Tg w b g N C vd vp dv Z7 ps S sn lim RES 3)):=by
 rcases h with ⟨rfl,h,hs⟩ | ⟨rfl,x,y,yg,h,hs,hr,fx,fy⟩ | ⟨rfl,x,y,yg,h,hs,hr,fx,fy,hn⟩ | ⟨rfl,x,y,yg,code,e,ta,tc,r,h,hs,hn,hne,hr,fx,he⟩ | ⟨rfl,-⟩ | ⟨rfl,-⟩ | ⟨rfl,-⟩
 · rw [hR];exact .inl ⟨rfl,vJ H h hs⟩
 · exact .inr (.inl ⟨rfl,sG H h hs hr fx fy⟩)
 · exact .inr (.inr (.inl ⟨rfl,sF H h hs hr fx fy hn⟩))
 · exact .inr (.inr (.inr ⟨rfl,sC H h hs hn hne hr fx he⟩))
 all_goals omega
theorem GU (w:World) (v1 v2:Value) (Z7:List Int) (ps:List (Int × List Int)) (S:Int) (sn:Nat) (limit:Int) (hd:Rd .u8 w v1 Z7) (hp:XP w v2 ps) (hdl:Z7.length≤1048576) (hn:ps.length≤1936) (XV:∀i,(pD ps i).length≤1048576) (hby:YL (ZC Z7 ps)) (hf:WR S (sn:Int) Z7.length ps=true) (htab:U1 w) (h0:0<w.heap.size) (hlim:-9223372036854775808≤limit∧limit≤9223372036854775807) :
    Calls Tryz.prog 8 #[.agg #[v1,v2],.agg #[.int .i64 S,.int .i64 (sn:Int)],.int .i64 limit] w (Yn w (rcv Z7 ps S (sn:Int) limit)):=by
 obtain ⟨ao,ca,rfl,-⟩:=hd.len;obtain ⟨bo,cb,hv2,-⟩:=id hp;subst hv2;obtain ⟨hcf,hv,hdz⟩:=(XU S sn Z7.length ps).1 hf;have HH:Hid (uG Z7 ps S sn Z7.length limit):=⟨hf,hn,hby,VF hv,hdl,hlim⟩;have S0:Hid (PE w (.slice ao Z7.length ca) (.slice bo ps.length cb) S (sn:Int) (((w.alloc (.cells #[.slice ao Z7.length ca,.slice bo ps.length cb] 36)).alloc (.cells #[.int .i64 S,.int .i64 (sn:Int)] 41)).alloc (.cells #[.int .i64 0,.int .i64 0,.int .i64 0,.int .i64 0,.int .i64 0,.int .i64 0,.int .i64 0,.slice none 0 0,.int .i64 0,.int .i64 0,.slice none 0 0,.slice none 0 0] 38))):=PE.new _ _ _ _ _;have HF:Hid (∀W,ZX w W→Calls Tryz.prog 30 #[.agg #[.slice ao Z7.length ca,.slice bo ps.length cb],.agg #[.int .i64 S,.int .i64 (sn:Int)]] W (Ze W (.bool true))):=by
  intro W hW;have h9:=Se W ao bo Z7.length ca ps.length cb ps S sn (hp.below hW) rfl hdl (by omega) XV;rw [hf] at h9;exact h9
 have rX:Hid (∀W,ZX w W→Calls Tryz.prog 31 #[.agg #[.slice ao Z7.length ca,.slice bo ps.length cb]] W fun e w'=>∃a c g dv,e=.returned (.agg #[.slice a Z7.length c,.slice (some ⟨g,0,none⟩) ps.length (ps.length+1)])∧Zz w' W.heap.size w'.heap.size (.slice a Z7.length c) (.slice (some ⟨g,0,none⟩) ps.length (ps.length+1)) Z7 ps dv∧ZX W w'):=fun W hW=>JF W ao bo Z7.length ca ps.length cb Z7 ps (hd.below hW) rfl (hp.below hW) rfl (by omega) hdl XV
 have ZD:Hid (∀W,ZX w W→Calls Tryz.prog 32 #[.agg #[.slice ao Z7.length ca,.slice bo ps.length cb]] W fun e w'=>∃u,e=.returned u∧Own .u8 5 w' W.heap.size u (ZC Z7 ps)∧ZX W w'):=fun W hW=>Hg W _ _ Z7 ps (hd.below hW) (hp.below hW) hdl (by omega) XV
 have ud:¬(1936:Int)<(ps.length:Int):=by omega
 obtain ⟨⟨hS1,hS2⟩,hL1,hL2⟩:=(Zs S sn).1 hcf;have hpos:0<Z7.length:=by omega
 obtain ⟨RES,Ms⟩:∃r,r=rcv Z7 ps S (sn:Int) limit:=⟨_,rfl⟩;rw [←Ms];have Um:=Z8 Ms;have p6:=Z8 (VF hv);have Zy:=Z8 htab;clear Ms hd hp XV hby htab hv hf hdz hcf
 go_enter Tryz.func8,Tryz.ntmps8
 go_wp2_with fail
 refine wp_scope_straight ?_
 go_wp2_with fail
 generalize ((w.alloc _).alloc _).alloc _=w0 at *;refine (HF.out _ S0.out.YJ).mono ?_;rintro e w1 ⟨rfl,b1⟩;have S1:=Z8 (S0.out.below b1);clear b1 S0 HF;have q1:=S1.out.d1
 go_wp2_with fail
 clear q1;have qn:=Z8 (S1.out.below (below_drewN' w1 1));refine ZF (S:=PE w (.slice ao Z7.length ca) (.slice bo ps.length cb) S (sn:Int)) (by kernel_rfl) (qn.out) (fun Z9=>?_)
 iterate 2 (refine ZV ?_ (by kernel_rfl) (fun _=>id) Z9 ?_ ?_;rotate_left;· intro w9 Z4;obtain ⟨-,-,d0,d1,c0,c1,-⟩:=Z4;go_simp;try with_reducible rfl)
 refine ZA 3 (.int .i64 limit) rfl (by kernel_rfl) (fun _=>id) Z9 ?hy3 ?_
 case hy3=>intro w9 Z4;obtain ⟨-,-,d0,d1,c0,c1,-⟩:=Z4;go_simp
 refine ZA 5 (.agg #[.slice ao Z7.length ca,.slice bo ps.length cb]) rfl (by kernel_rfl) (fun _=>id) Z9 ?hy4 ?_
 case hy4=>intro w9 Z4;obtain ⟨-,-,d0,d1,c0,c1,-⟩:=Z4;go_simp
 refine ZS 2 rfl (by kernel_rfl) (fun K hK=>?_);go_simp;refine (rX.out _ Z9.YJ).mono ?_;rintro e w3 ⟨da,dc,A,dv,rfl,o3,b3⟩;have hN:=Z9.below b3;have B3:=Z8 ((below_drewN' w1 1).trans (b3.mono ZW));have D3:Hid (Zz w3 w1.heap.size w3.heap.size (.slice da Z7.length dc) (.slice (some ⟨A,0,none⟩) ps.length (ps.length+1)) Z7 ps dv):=o3;clear o3 b3;refine hK.out _ _ hN (fun ZI=>?_);clear hK K Z9;have Z9:=ZI;clear ZI;refine ZA 4 (.agg #[.slice da Z7.length dc,.slice (some ⟨A,0,none⟩) ps.length (ps.length+1),.int .i64 limit,.int .i64 0]) rfl (by kernel_rfl) (fun _=>id) Z9 ?tU ?_
 case tU=>intro w9 Z4;obtain ⟨-,-,d0,d1,c0,c1,-⟩:=Z4;go_simp
 refine ZS 6 rfl (by kernel_rfl) (fun K hK=>?_);go_simp;refine (ZD.out _ Z9.YJ).mono ?_;rintro e w4 ⟨u4,rfl,o4,b4⟩;obtain ⟨cg,C,rfl,Zx,Zw⟩:=o4.pos p6.out hpos;have hN:=Z9.below b4;have s3:=B3.out.size;have B4:=Z8 (B3.out.trans (b4.mono s3));have C4:=Z8 (o4.mono s3);have D4:=Z8 ((D3.out.below b4).mono ZW b4.size);clear o4 b4 B3 D3;refine hK.out _ _ hN (fun ZI=>?_);clear hK K Z9;have Z9:=ZI;clear ZI;refine ZV ?_ (by kernel_rfl) (fun _=>id) Z9 ?_ ?_
 rotate_left
 · intro w9 Z4;obtain ⟨-,-,d0,d1,c0,c1,-⟩:=Z4;go_simp;try with_reducible rfl
 refine ZS 8 rfl (by kernel_rfl) (fun K hK=>?_);have bA:ZX w4 (w4.alloc (.cells #[.int .i64 S,.int .i64 (sn:Int),.slice da Z7.length dc,.slice (some ⟨A,0,none⟩) ps.length (ps.length+1),.int .i64 limit,.int .i64 0,.slice (some ⟨cg,0,none⟩) Z7.length C,.bool false,.int .i64 0,.int .i64 0,.int .i64 0,.int .i64 0,.int .i64 0,.bool false,.int .i64 0,.int .i64 0,.int .i64 0,.int .i64 0,.int .i64 0,.int .i64 0,.slice none 0 0,.int .i64 0,.int .i64 0,.int .i64 0] 74)):=ZR.alloc ZW _;have hN:=Z9.below bA;have s4:=B4.out.size;have s5:w4.heap.size<(w4.alloc (.cells #[.int .i64 S,.int .i64 (sn:Int),.slice da Z7.length dc,.slice (some ⟨A,0,none⟩) ps.length (ps.length+1),.int .i64 limit,.int .i64 0,.slice (some ⟨cg,0,none⟩) Z7.length C,.bool false,.int .i64 0,.int .i64 0,.int .i64 0,.int .i64 0,.int .i64 0,.bool false,.int .i64 0,.int .i64 0,.int .i64 0,.int .i64 0,.int .i64 0,.int .i64 0,.slice none 0 0,.int .i64 0,.int .i64 0,.int .i64 0] 74)).heap.size:=by simp
 have Zv:Hid (JH w1 w4.heap.size cg Z7.length C (.slice da Z7.length dc) (.slice (some ⟨A,0,none⟩) ps.length (ps.length+1)) dv Z7 ps S sn limit RES 0 (w4.alloc (.cells #[.int .i64 S,.int .i64 (sn:Int),.slice da Z7.length dc,.slice (some ⟨A,0,none⟩) ps.length (ps.length+1),.int .i64 limit,.int .i64 0,.slice (some ⟨cg,0,none⟩) Z7.length C,.bool false,.int .i64 0,.int .i64 0,.int .i64 0,.int .i64 0,.int .i64 0,.bool false,.int .i64 0,.int .i64 0,.int .i64 0,.int .i64 0,.int .i64 0,.int .i64 0,.slice none 0 0,.int .i64 0,.int .i64 0,.int .i64 0] 74))):=by
  have hs:St (w4.alloc (.cells #[.int .i64 S,.int .i64 (sn:Int),.slice da Z7.length dc,.slice (some ⟨A,0,none⟩) ps.length (ps.length+1),.int .i64 limit,.int .i64 0,.slice (some ⟨cg,0,none⟩) Z7.length C,.bool false,.int .i64 0,.int .i64 0,.int .i64 0,.int .i64 0,.int .i64 0,.bool false,.int .i64 0,.int .i64 0,.int .i64 0,.int .i64 0,.int .i64 0,.int .i64 0,.slice none 0 0,.int .i64 0,.int .i64 0,.int .i64 0] 74)) w4.heap.size (WY S (sn:Int) (.slice da Z7.length dc) (.slice (some ⟨A,0,none⟩) ps.length (ps.length+1)) limit 0 (.slice (some ⟨cg,0,none⟩) Z7.length C) false ⟨0,0,0,0,0⟩ false ⟨0,0,0,0,0⟩ 0 (.slice none 0 0) 0 0 0):=St.new w4 _ _;have bW:=B4.out.trans (bA.mono s4);have hz1:=S1.out.lt;have Zt:=Zy.out.below h0 (S1.out.YJ.trans (bW.mono S1.out.YJ.size));have Qh:∀v:Value,(∀g,v.ownBlock=some g→g<w4.heap.size)→v.ownBlock≠some w4.heap.size:=fun v h e=>by have:=h _ e;omega
  exact .pick ⟨bW,(D4.out.below bA).mono ZW bA.size,C4.out.below bA,Zt,s4,by omega,Qh _ D4.out.NY,Qh _ D4.out.Pm,fun i hi=>Qh _ (D4.out.MK i hi),by omega⟩ hs
 clear bA;go_simp;refine hK.out _ _ hN (fun ZI=>?_);clear hK K Z9;have Z9:=ZI;clear ZI;refine ZV (.pointer (some ⟨w4.heap.size,0,none⟩)) (by kernel_rfl) (fun _=>id) Z9 ?oO ?_
 case oO =>
  intro w9 Z4;clear Z4;go_simp
 refine ZM (by kernel_rfl) ?_ _
 try simp only [Act.put,Zk,Zj,Zi]
 have S5:Hid (PE w (.slice ao Z7.length ca) (.slice bo ps.length cb) S (sn:Int) (w4.alloc (.cells #[.int .i64 S,.int .i64 (sn:Int),.slice da Z7.length dc,.slice (some ⟨A,0,none⟩) ps.length (ps.length+1),.int .i64 limit,.int .i64 0,.slice (some ⟨cg,0,none⟩) Z7.length C,.bool false,.int .i64 0,.int .i64 0,.int .i64 0,.int .i64 0,.int .i64 0,.bool false,.int .i64 0,.int .i64 0,.int .i64 0,.int .i64 0,.int .i64 0,.int .i64 0,.slice none 0 0,.int .i64 0,.int .i64 0,.int .i64 0] 74))):=Z9;clear Z9 hN rX ZD qn B4 C4 D4 p6 Zy Zx Zw;generalize w4.alloc _=w5 at *;generalize hrb:w4.heap.size=rb at *;clear hrb;have hz1:=S1.out.lt;go_wp2;refine wp_label ?_;go_wp2
 go_loopw [8] (fun vn wr=>∃n:Int,vn=.int .i64 n∧0≤n∧n≤6∧Hid (JH w1 rb cg Z7.length C (.slice da Z7.length dc) (.slice (some ⟨A,0,none⟩) ps.length (ps.length+1)) dv Z7 ps S sn limit RES n wr)) (fun vn _=>(7 - intOf vn).toNat)
 case atStart=>exact ⟨0,rfl,by omega,by omega,Zv⟩
 case round =>
  clear Zv S5;obtain ⟨n,rfl,hn0,Y4,RV⟩:=hrel
  by_cases h4:n<4
  · rcases vI HH.out Um.out RV.out h4 with ⟨hk,hc⟩ | ⟨hk,hc⟩ | ⟨hk,hc⟩ | ⟨hk,hc⟩
    · subst hk
      have HC:=Z8 hc;clear hc RV
      go_wp2_with fail
      refine HC.out.mono ?_;rintro e w7 ⟨n',rfl,q1,q2,r7⟩;have R7:=Z8 r7;clear HC r7;go_wp2
      go_roundw
      case rel=>exact ⟨n',rfl,by omega,q2,R7⟩
      case measure=>simp [intOf];omega
    · subst hk
      have HC:=Z8 hc;clear hc RV
      go_wp2_with fail
      refine HC.out.mono ?_;rintro e w7 ⟨n',rfl,q1,q2,r7⟩;have R7:=Z8 r7;clear HC r7;go_wp2
      go_roundw
      case rel=>exact ⟨n',rfl,by omega,q2,R7⟩
      case measure=>simp [intOf];omega
    · subst hk
      have HC:=Z8 hc;clear hc RV
      go_wp2_with fail
      refine HC.out.mono ?_;rintro e w7 ⟨n',rfl,q1,q2,r7⟩;have R7:=Z8 r7;clear HC r7;go_wp2
      go_roundw
      case rel=>exact ⟨n',rfl,by omega,q2,R7⟩
      case measure=>simp [intOf];omega
    subst hk;have HC:=Z8 hc;clear hc RV
    go_wp2_with fail
    refine HC.out.mono ?_;rintro e w7 ⟨n',rfl,q1,q2,r7⟩;have R7:=Z8 r7;clear HC r7;go_wp2
    go_roundw
    case rel=>exact ⟨n',rfl,by omega,q2,R7⟩
    case measure=>simp [intOf];omega
  have e0:(n == 0)=false:=by rw [Xz];omega
  have e1:(n == 1)=false:=by rw [Xz];omega
  have e2:(n == 2)=false:=by rw [Xz];omega
  have e3:(n == 3)=false:=by rw [Xz];omega
  have HE:=Z8 (sE RV.out (by omega));clear RV HH Um
  go_wp2_with fail
  clear e0 e1 e2 e3;refine HE.out.mono ?_;rintro e w7 ⟨vt,x1,x2,T,rfl,o7,d7,b7⟩;obtain ⟨xa,xl,xc,ya,yl,yc,rfl,rfl⟩:=d7.Xv;obtain ⟨ta,tl,tc,rfl⟩:∃a n c,vt=.slice a n c:=by
   obtain ⟨a,c,e⟩:=ZU.YW o7;exact ⟨a,_,c,e⟩
  have X7:=TL.below S1.out.rx b7;have FIN:Hid (Yn w RES (.returned (.agg (Wg RES (.slice ta tl tc) (.slice xa xl xc) (.slice ya yl yc)))) (Xt w7 (w.heap.size+1+1) RES (.slice ta tl tc) (.slice xa xl xc) (.slice ya yl yc))):=Uh (S1.out.YJ.trans (b7.mono S1.out.YJ.size)) (by omega) (by omega) o7 d7;obtain ⟨c0,c1,c2,c3,c4,c5,c6,c7,c8,c9,c10,c11⟩:=X7.cells;dsimp only [Zq] at c0 c1 c2 c3 c4 c5 c6 c7 c8 c9 c10 c11;have fz:=X7.frozen;have f0:=fz 0;have f1:=fz 1;have f2:=fz 2;have f3:=fz 3;have f4:=fz 4;have f5:=fz 5;have f6:=fz 6;have f7:=fz 7;have f8:=fz 8;have f9:=fz 9;have f10:=fz 10;have f11:=fz 11;obtain ⟨e0,e1,e2,e3,e4,e5,e6,e7,e8,e9,e10,e11⟩:=Xl (r:=RES) (vt:=.slice ta tl tc) (v1:=.slice xa xl xc) (v2:=.slice ya yl yc) X7;unfold Xt Wg at FIN;unfold Xt at e0 e1 e2 e3 e4 e5 e6 e7 e8 e9 e10 e11;unfold Wg;clear fz X7 HE o7 d7 b7;go_wp2;generalize ((((((((((((w7).setCell _ _).setCell _ _).setCell _ _).setCell _ _).setCell _ _).setCell _ _).setCell _ _).setCell _ _).setCell _ _).setCell _ _).setCell _ _).setCell _ _=wE at *;unfold Exit.noGoto;dsimp only;exact ZT (v:=.agg #[.int .i64 RES.code,.int .i64 RES.sp.g,.int .i64 RES.sp.b,.int .i64 RES.sp.s,.int .i64 RES.sp.l,.int .i64 RES.sp.c,.int .i64 RES.zx,.slice ta tl tc,.int .i64 RES.used,.int .i64 RES.ops,.slice xa xl xc,.slice ya yl yc]) (by simp [results,Tryz.results8,go_sem,e0,e1,e2,e3,e4,e5,e6,e7,e8,e9,e10,e11]) rfl FIN.out
theorem GT (w:World) (v1 v2:Value) (Z7:List Int) (ps:List (Int × List Int)) (S L limit:Int) (hd:Rd .u8 w v1 Z7) (hp:XP w v2 ps) (hdl:Z7.length≤1048576) (hn:ps.length≤1048576) (XV:∀i,(pD ps i).length≤1048576) (hbad:WR S L Z7.length ps=false∨1936<ps.length) :
    Calls Tryz.prog 8 #[.agg #[v1,v2],.agg #[.int .i64 S,.int .i64 L],.int .i64 limit] w (Ze w (.agg (Wg (Zq 4) (.slice none 0 0) (.slice none 0 0) (.slice none 0 0)))):=by
 obtain ⟨ao,ca,rfl,-⟩:=hd.len;obtain ⟨bo,cb,hv2,-⟩:=id hp;subst hv2;have HF:Hid (∀W,ZX w W→Calls Tryz.prog 30 #[.agg #[.slice ao Z7.length ca,.slice bo ps.length cb],.agg #[.int .i64 S,.int .i64 L]] W (Ze W (.bool (WR S L Z7.length ps)))):=fun W hW=>Se W ao bo Z7.length ca ps.length cb ps S L (hp.below hW) rfl hdl hn XV
 have B0:Hid (ZX w (((w.alloc (.cells #[.slice ao Z7.length ca,.slice bo ps.length cb] 36)).alloc (.cells #[.int .i64 S,.int .i64 L] 41)).alloc (.cells (Wg (Zq 0) (.slice none 0 0) (.slice none 0 0) (.slice none 0 0)) 38))):=((ZR.alloc ZW _).alloc (by simp) _).alloc (by simp;omega) _;have p1:Hid ((((w.alloc (.cells #[.slice ao Z7.length ca,.slice bo ps.length cb] 36)).alloc (.cells #[.int .i64 S,.int .i64 L] 41)).alloc (.cells (Wg (Zq 0) (.slice none 0 0) (.slice none 0 0) (.slice none 0 0)) 38)).cell? ⟨w.heap.size,1,none⟩=some (.slice bo ps.length cb)):=by show _=_;go_simp
 have X0:Hid (TL (((w.alloc (.cells #[.slice ao Z7.length ca,.slice bo ps.length cb] 36)).alloc (.cells #[.int .i64 S,.int .i64 L] 41)).alloc (.cells (Wg (Zq 0) (.slice none 0 0) (.slice none 0 0) (.slice none 0 0)) 38)) (w.heap.size+1+1) (Zq 0) (.slice none 0 0) (.slice none 0 0) (.slice none 0 0)):=by
  have h9:=TL.new ((w.alloc (.cells #[.slice ao Z7.length ca,.slice bo ps.length cb] 36)).alloc (.cells #[.int .i64 S,.int .i64 L] 41)) (Zq 0) (.slice none 0 0) (.slice none 0 0) (.slice none 0 0)
  simp only [XE] at h9
  exact h9
 have hz:w.heap.size+3≤(((w.alloc (.cells #[.slice ao Z7.length ca,.slice bo ps.length cb] 36)).alloc (.cells #[.int .i64 S,.int .i64 L] 41)).alloc (.cells (Wg (Zq 0) (.slice none 0 0) (.slice none 0 0) (.slice none 0 0)) 38)).heap.size:=by simp
 unfold Wg Zq at B0 p1 X0 hz ⊢;dsimp only at B0 p1 X0 hz ⊢;clear hd hp XV
 go_enter Tryz.func8,Tryz.ntmps8
 go_wp2_with fail
 refine wp_scope_straight ?_
 go_wp2_with fail
 generalize ((w.alloc _).alloc _).alloc _=w0 at *;refine (HF.out _ B0.out).mono ?_;rintro e w1 ⟨rfl,b1⟩;have B1:=Z8 (Ye B0.out b1);have q1:=(b1.cell (p:=⟨w.heap.size,1,none⟩) (show w.heap.size<_ by omega)).trans p1.out;have X1:=TL.below X0.out b1;obtain ⟨c0,c1,c2,c3,c4,c5,c6,c7,c8,c9,c10,c11⟩:=X1.cells;dsimp only at c0 c1 c2 c3 c4 c5 c6 c7 c8 c9 c10 c11;have fz:=X1.frozen;have f0:=fz 0;have f1:=fz 1;have f2:=fz 2;have f3:=fz 3;have f4:=fz 4;have f5:=fz 5;have f6:=fz 6;have f7:=fz 7;have f8:=fz 8;have f9:=fz 9;have f10:=fz 10;have f11:=fz 11;have FIN:Hid (∀W',Below w.heap.size w1 W'→ZX w W'):=fun W' hW=>B1.out.trans hW
 have BE:Hid (ZX w (Xt w1 (w.heap.size+1+1) (Zq 4) (.slice none 0 0) (.slice none 0 0) (.slice none 0 0))):=B1.out.trans ((VD _ _ _ _ _ _).mono (by omega));obtain ⟨e0,e1,e2,e3,e4,e5,e6,e7,e8,e9,e10,e11⟩:=Xl (r:=Zq 4) (vt:=.slice none 0 0) (v1:=.slice none 0 0) (v2:=.slice none 0 0) X1;unfold Xt Zq at BE e0 e1 e2 e3 e4 e5 e6 e7 e8 e9 e10 e11;dsimp only at BE e0 e1 e2 e3 e4 e5 e6 e7 e8 e9 e10 e11;clear fz X1 X0 b1 B0 B1 p1
 cases hfit:WR S L Z7.length ps with
 | false =>
  go_wp2;generalize ((((((((((((w1).setCell _ _).setCell _ _).setCell _ _).setCell _ _).setCell _ _).setCell _ _).setCell _ _).setCell _ _).setCell _ _).setCell _ _).setCell _ _).setCell _ _=wE at *;unfold Exit.noGoto;dsimp only;exact ZT (v:=.agg #[.int .i64 4,.int .i64 0,.int .i64 0,.int .i64 0,.int .i64 0,.int .i64 0,.int .i64 0,.slice none 0 0,.int .i64 0,.int .i64 0,.slice none 0 0,.slice none 0 0]) (by simp [results,Tryz.results8,go_sem,e0,e1,e2,e3,e4,e5,e6,e7,e8,e9,e10,e11]) rfl ⟨rfl,BE.out⟩
 | true =>
  have hlong:1936<ps.length:=by
   rcases hbad with h | h
   · rw [hfit] at h;cases h
   exact h
  have ud:(1936:Int)<(ps.length:Int):=by omega
  have hld:decide ((1936:Int)<(ps.length:Int))=true:=by simpa using ud
  go_wp2;generalize ((((((((((((w1).setCell _ _).setCell _ _).setCell _ _).setCell _ _).setCell _ _).setCell _ _).setCell _ _).setCell _ _).setCell _ _).setCell _ _).setCell _ _).setCell _ _=wE at *;unfold Exit.noGoto;dsimp only;exact ZT (v:=.agg #[.int .i64 4,.int .i64 0,.int .i64 0,.int .i64 0,.int .i64 0,.int .i64 0,.int .i64 0,.slice none 0 0,.int .i64 0,.int .i64 0,.slice none 0 0,.slice none 0 0]) (by simp [results,Tryz.results8,go_sem,e0,e1,e2,e3,e4,e5,e6,e7,e8,e9,e10,e11]) rfl ⟨rfl,BE.out⟩
def oz (w:World) (vd vp:Value) (Z7:List Int) (ps:List (Int × List Int)):Prop:=Rd .u8 w vd Z7∧XP w vp ps∧YL Z7∧∀i,i<ps.length→YL (pD ps i)∧-9223372036854775808≤pB ps i∧pB ps i≤9223372036854775807
theorem sy (ps:List (Int × List Int)) (i:Nat):(pD ps i).length≤tot ps:=by
 by_cases h:i<ps.length
 · have h1:=WG ps i h
   have h2:tot (ps.take (i+1))≤tot ps:=by
    unfold tot
    conv=>rhs;rw [←DO (i+1) ps,WX,xE]
    omega
   omega
 unfold pD;rw [List.getD,Sy (by omega)];simp
theorem WK.far {base:Nat} (h:WK w base v xs) (hu:∀g,u.ownBlock=some g→g<base):v.ownBlock=none∨v.ownBlock≠u.ownBlock:=h.elim fun _ h=>h.far hu
theorem Wj (w:World) (vd vp:Value) (Z7:List Int) (ps:List (Int × List Int)) (h:Rd .u8 w vd Z7) (hp:XP w vp ps) (hl:Z7.length≤1048576) (hn:ps.length≤1048576) (hd:∀i,(pD ps i).length≤1048576) :
    Calls Tryz.prog 6 #[.agg #[vd,vp]] w fun e w'=>∃va ca vb cb dv,e=.returned (.agg #[.slice va Z7.length ca,.slice vb ps.length cb])∧Zz w' w.heap.size w'.heap.size (.slice va Z7.length ca) (.slice vb ps.length cb) Z7 ps dv∧ZX w w':=by
 refine (FT w vd vp Z7 ps h hp hl hn hd).mono ?_;rintro e w' ⟨va,ca,vb,cb,dv,mid,rfl,o,hlt,q,hm,b⟩;refine ⟨va,ca,vb,cb,dv,rfl,⟨o,q.mono hm,fun g hg=>(o.lt g hg).2,fun g hg=>(ZO q.1 g hg).2,fun i hi g hg=>((q.2.1 i hi).lt g hg).2,?_,fun i hi=>?_⟩,b⟩
 · unfold PL
   cases hv:Value.ownBlock (.slice vb ps.length cb) with
   | none=>exact .inl rfl
   | some g =>
    right;intro e
    have:=(ZO q.1 g hv).1;have:=hlt g e.symm;omega
 exact (q.2.1 i hi).far hlt
theorem uF:∀(ps:List (Int × List Int)),(∀p ∈ ps,p.2.length≤64)→tot ps≤64*ps.length
 | [],_=>by simp [tot]
 | p :: ps,h=>by
  have h1:=uF ps (fun q hq=>h q (Jp _ hq));have h2:=h p (uq ..)
  simp only [tot,Pc,Bp,XQ] at h1 ⊢
  omega
end Go.Proofs.YtmmmffcbfepghaaGreatDoor
