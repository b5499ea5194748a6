import Derived.Test.YtpmjnbmkippaiaaGreatDoorJ08
import Derived.Test.YtpmjnbmkippaiaaGreatDoorJ05
import Derived.Test.YtpmjnbmkippaiaaGreatDoorJ04
import Derived.Test.YtpmjnbmkippaiaaGreatDoorJ12
import Derived.ArgAppend
set_option maxRecDepth 100000
set_option maxHeartbeats 16000000
set_option linter.all false
namespace Go.Proofs.YtpmjnbmkippaiaaGreatDoor
open Go.RowKit Go.Shelf
def MZ (D:Nat):List Value:=[.nilFunc,.func (.func 229) #[.pointer (some ⟨D,0,none⟩)] #[],.func (.func 230) #[.pointer (some ⟨D,0,none⟩)] #[],.func (.func 231) #[.pointer (some ⟨D,0,none⟩)] #[],.func (.func 232) #[.pointer (some ⟨D,0,none⟩)] #[]]
theorem CH (w:World) (D:Nat) :
    Calls Tryz.prog 200 #[.pointer (some ⟨D,0,none⟩)] w (Wj w (.agg (MZ D).toArray)):=by
 have o1:∀(W:World) (a:Addr) (m:Mode),(store a .nilFunc m).run Tryz.prog W=stored Tryz.prog W a .nilFunc m:=fun W a m=>run_store _ W a _ m rfl
 have o2:∀(W:World) (a:Addr) (m:Mode) (f:Fn) (x y:Array Value),(store a (.func f x y) m).run Tryz.prog W=stored Tryz.prog W a (.func f x y) m:=fun W a m f x y=>run_store _ W a _ m rfl
 go_enter Tryz.func200,Tryz.ntmps200
 go_wp2;exact ZW (v:=.agg (MZ D).toArray) (by simp [results,Tryz.results200,go_sem,MZ]) rfl ⟨rfl,Yy.alloc YR _⟩
theorem St.grown {W W':World} {b:Nat} {L:List Value} {r:Option Nat} (h:St W b L) (hg:W.grownBy W' r) (hr:some b≠r):St W' b L:=by
 have e:=hg.block b h.lt hr;refine ⟨ZY h.lt hg.size,fun j=>?_,fun j v hv=>(ZP (w:=W) (a:=⟨b,j,none⟩) e).trans (h.cl j v hv)⟩;have:=h.fz j;unfold World.frozen? at this ⊢;rw [e];exact this
theorem Df.grown {W W':World} {D lo:Nat} {z:Int} {v:Value} {ns:List Nd} {r:Option Nat} (h:Df W D lo z v ns) (hg:W.grownBy W' r) (hr:some D≠r) (hv:∀g,v.ownBlock=some g→some g≠r):Df W' D lo z v ns :=
 ⟨h.s.grown hg hr,Zn h.o hg (by
  cases hb:v.ownBlock with
  | none=>exact .inl rfl
  | some g=>exact .inr (hv g hb)),h.ne,h.n⟩
theorem Ki {w:World} {lo lo' n n' k k':Nat} {e e':TypeId} {v v':Value} {xs xs':List Value} (h:w.ownsRow lo e k v n xs) (h':w.ownsRow lo' e' k' v' n' xs') (hne:e≠e'):∀g,v.ownBlock=some g→some g≠v'.ownBlock:=by
 intro g hg e9
 rcases h.2 with ⟨rfl,_⟩ | ⟨g1,c1,W4,rfl,_,h1,_⟩
 · cases hg
 rcases h'.2 with ⟨rfl,_⟩ | ⟨g2,c2,W3,rfl,_,h2,_⟩
 · cases e9
 simp only [Value.ownBlock,ZK] at hg e9
 subst hg;subst e9;rw [h1] at h2
 simp at h2
 exact hne h2.2
theorem He {w w':World} {b lo k n:Nat} {o o':Option Nat} {e:TypeId} {v:Value} {xs:List Value} (h:w.ownsRow lo e k v n xs) (t:Tw w b o w' o') (hb:∀g,v.ownBlock=some g→g≠b) (ho:∀g,v.ownBlock=some g→o≠some g):w'.ownsRow lo e k v n xs:=by
 refine ⟨h.1,?_⟩
 rcases h.2 with hn | ⟨g,cap,cur,rfl,hbg,hgg,rest⟩
 · exact .inl hn
 exact .inr ⟨g,cap,cur,rfl,hbg,by rw [t.block g (Z3.1 hgg).1 (hb g rfl) (ho g rfl)];exact hgg,rest⟩
theorem zd (W:World) (D lo:Nat) (z:Int) (v:Value) (ns:List Nd) (o:TK) (h:Df W D lo z v ns) (hw:OO o=true) (hz:PR z=true) (hlo:lo≤W.heap.size)
    (oe:∀W',Zi W W'→∀n:Int,0≤n→n≤2147483647→Calls Tryz.prog 249 #[.int .i64 n] W' (Wj W' (.string ⟨(six 12 n.toNat 6).toArray⟩))) :
    (o.kind=1→Calls Tryz.prog 229 #[.pointer (some ⟨D,0,none⟩),.agg #[.int .i64 o.kind,.string o.path,.string o.data,.int .i64 o.XT,.bool o.seq]] W (JP W D lo z v (Ry ns o z))) ∧
    (o.kind=2→Calls Tryz.prog 230 #[.pointer (some ⟨D,0,none⟩),.agg #[.int .i64 o.kind,.string o.path,.string o.data,.int .i64 o.XT,.bool o.seq]] W (JP W D lo z v (Ry ns o z))) ∧
    (o.kind=3→Calls Tryz.prog 231 #[.pointer (some ⟨D,0,none⟩),.agg #[.int .i64 o.kind,.string o.path,.string o.data,.int .i64 o.XT,.bool o.seq]] W (JP W D lo z v (Ry ns o z))) ∧
    (o.kind=4→Calls Tryz.prog 232 #[.pointer (some ⟨D,0,none⟩),.agg #[.int .i64 o.kind,.string o.path,.string o.data,.int .i64 o.XT,.bool o.seq]] W (JP W D lo z v (Ry ns o z))) :=
 ⟨fun hk=>Il W D lo z v ns o h hw hk hz hlo oe,fun hk=>Im W D lo z v ns o h hw hk hz,fun hk=>zZ W D lo z v ns o h hw hk hz,fun hk=>Fo W D lo z v ns o h hw hk⟩
def gh (w0:World) (lb D:Nat) (z:Int) (res:Int × Nat × List Nd × List ByteArray) (e:Ending) (w':World):Prop :=
 Zi w0 w' ∧
  ((res.1≠0∧e=.returned (.tuple #[.slice none 0 0,.iface 281 (.agg #[.int .i64 (res.2.1:Int),Ss res.1])])) ∨
   (res.1=0∧∃vn v',e=.returned (.tuple #[vn,.nilIface])∧w'.ownsRow lb 9 1 vn res.2.2.2.length (res.2.2.2.map Value.string)∧Df w' D w0.heap.size z v' res.2.2.1))
theorem zc (w0 w:World) (D:Nat) (z:Int) (v vo:Value) (ns:List Nd) (os:List TK) (hB:Zi w0 w) (h:Df w D w0.heap.size z v ns) (Yv:w0.heap.size≤D) (ho:JZ w0 vo os) (hos:∀i,i<os.length→(Ql os i).path.size≤1048576∧(Ql os i).data.size≤1048576) (hz:PR z=true) (h1:1≤os.length) (h2:os.length≤64)
    (oe:∀W,Zi w0 W→∀n:Int,0≤n→n≤2147483647→Calls Tryz.prog 249 #[.int .i64 n] W (Wj W (.string ⟨(six 12 n.toNat 6).toArray⟩))) :
    Calls Tryz.prog 167 #[.pointer (some ⟨D,0,none⟩),vo] w (gh w0 w.heap.size D z (R9 z os ns 0 [])):=by
 obtain ⟨i0,hi,hz0,hz1,hz2⟩:=YN Tryz.wT;obtain ⟨bo,cb,rfl,_,_⟩:=ho.len;obtain ⟨res,hres⟩:∃res,res=R9 z os ns 0 []:=⟨_,rfl⟩;have uW:Hid (R9 z (os.drop 0) ns 0 []=res):=hres.symm;rw [←hres];have HB:=ZU hB;have HD:=ZU h;have lS:=ZU hos;have HZ:=ZU hz;have lK:=ZU oe;obtain ⟨bb,WA,rfl,hbb,HC⟩:∃b off,bo=some ⟨b,off,none⟩∧b<w0.heap.size∧Hid (∀i,i<os.length→Lc w0 b (off+i*5) (Ql os i)):=by
  obtain ⟨nY,cap',e',-,-,h3⟩:=ho
  simp only [ZC] at e'
  obtain ⟨rfl,-,-⟩:=e'
  rcases h3 with h3 | ⟨b,o,rfl,hb,hc⟩
  · rw [h3] at h1;simp at h1
  exact ⟨b,o,rfl,hb,hc⟩
 clear h ho hos hres hz hB oe;have hlt:=HD.out.s.lt
 go_enter Tryz.func167,Tryz.ntmps167
 go_wp2_with fail
 refine (CH w D).mono ?_;rintro e w1 ⟨rfl,b1⟩;have B1:=ZU b1;have J2:Hid (St (w1.alloc (.cells (MZ D).toArray 287)) w1.heap.size (MZ D)):=St.new _ _ _;have B2:Hid (Zi w (w1.alloc (.cells (MZ D).toArray 287))):=B1.out.alloc B1.out.size _;unfold MZ;clear b1;have o1:∀(W:World) (a:Addr) (m:Mode),(store a .nilFunc m).run Tryz.prog W=stored Tryz.prog W a .nilFunc m:=fun W a m=>run_store _ W a _ m rfl
 have o2:∀(W:World) (a:Addr) (m:Mode) (f:Fn) (x y:Array Value),(store a (.func f x y) m).run Tryz.prog W=stored Tryz.prog W a (.func f x y) m:=fun W a m f x y=>run_store _ W a _ m rfl
 go_wp2_with (at_make;go_must (refine Vh _ rfl _ _ 26 rfl (w1.heap.size+1) 9 i0 (.string ByteArray.empty) 1 Tryz.underlying26 hi hz0 hz1 _ _ _ os.length rfl rfl ?b1 ?b2 ?b3 ?b4 ?_))
 case b1=>omega
 case b2=>rw [hz2];omega
 case b3=>unfold maxLen;omega
 case b4=>simp
 intro w3 hown hgrow;clear o1 o2;have hs2:(w1.alloc (.cells (MZ D).toArray 287)).heap.size=w1.heap.size+1:=by simp
 have HS2:=ZU hs2
 change Hid (St _ _ _) at J2
 have B3:Hid (Below (w1.heap.size+1) (w1.alloc (.cells (MZ D).toArray 287)) w3):=Yy.grown hgrow (by rw [hs2];exact YR) (by simp);have J3:=ZU (J2.out.Xe B3.out (WK _));have B:=ZU (B2.out.trans (B3.out.mono (by have:=B1.out.size;omega)));have D3:=ZU (HD.out.below B.out);have Yu:=ZU (WD HB.out B.out);have Wy:D<w1.heap.size:=by have:=B1.out.size;omega
 have O3:=ZU hown;have OM:=ZU HD.out.o;clear hgrow hs2 B3 J2 B2 hown HD;have Yt:Hid (∀g,v.ownBlock=some g→g≠w1.heap.size):=fun g hg=>by have:=(ZT OM.out g hg).2;have:=B1.out.size;omega
 go_wp2_with fail
 go_loopw [7,19] (fun vn i wr=>∃(j:Nat) (un uv:Value) (I:List Nd) (nm:List ByteArray),j≤os.length∧un=vn∧i=.int .i64 j∧Hid (Df wr D w0.heap.size z uv I)∧Hid (St wr w1.heap.size (MZ D))∧Hid (nm.length=j)∧Hid (wr.ownsRow (w1.heap.size+1) 9 1 un j (nm.map Value.string))∧Hid (R9 z (os.drop j) I j nm=res)∧Hid (Zi w0 wr)∧Hid (∀g,uv.ownBlock=some g→g≠w1.heap.size)) (fun _ i _=>os.length - (intOf i).toNat)
 case atStart=>exact ⟨0,_,v,ns,[],Zu _,rfl,rfl,D3,J3,(show _=_ from rfl),O3,uW,Yu,Yt⟩
 case round =>
  clear uW D3 J3 O3 Yu Yt B;obtain ⟨j,un,uv,I,nm,hj,rfl,rfl,DK,JK,NL,ON,GP,BK,NJ⟩:=hrel
  by_cases hlt:j<os.length
  · have Rj:(j:Int)<(os.length:Int):=by omega
    obtain ⟨q0,q1,q2,q3,q4⟩:=(HC.out j hlt).below BK.out hbb;have ZN:Hid ((Ry I (Ql os j) z).1≠0→((Ry I (Ql os j) z).1,j,I,nm)=res):=fun hne=>(xN hlt hne).symm.trans GP.out
    have Zp:Hid ((Ry I (Ql os j) z).1=0→R9 z (os.drop (j+1)) (Ry I (Ql os j) z).2.1 (j+1) (nm++[(Ry I (Ql os j) z).2.2])=res):=fun he=>(AF hlt he).symm.trans GP.out
    have Yq:Hid (∀W,Calls Tryz.prog 201 #[.agg #[.int .i64 (Ql os j).kind,.string (Ql os j).path,.string (Ql os j).data,.int .i64 (Ql os j).XT,.bool (Ql os j).seq]] W (Wj W (.bool (OO (Ql os j))))):=fun W=>At W _ (lS.out j hlt).2
    clear GP;generalize Ql os j=oj at *;have BA:Hid (Zi wr (wr.alloc (.cells #[.int .i64 oj.kind,.string oj.path,.string oj.data,.int .i64 oj.XT,.bool oj.seq] 159))):=Yy.alloc YR _;have XA:Hid (St (wr.alloc (.cells #[.int .i64 oj.kind,.string oj.path,.string oj.data,.int .i64 oj.XT,.bool oj.seq] 159)) wr.heap.size [.int .i64 oj.kind,.string oj.path,.string oj.data,.int .i64 oj.XT,.bool oj.seq]):=St.new _ _ _
    go_wp2_with fail
    clear q0 q1 q2 q3 q4;generalize wr.alloc _=wa at *;refine (Yq.out _).mono ?_;rintro e w2 ⟨rfl,b2⟩;have X2:=ZU (XA.out.below b2);have B2:=ZU (WD BA.out b2);clear b2 XA BA Yq;have D2:=ZU (DK.out.below B2.out);have J2:=ZU (JK.out.below B2.out);have O2:=ZU (KX ON.out B2.out);have BW:=ZU (WD BK.out B2.out);have Wx:w1.heap.size<wr.heap.size:=JK.out.lt;have Xu:Hid (∀g,uv.ownBlock=some g→g<wr.heap.size):=fun g hg=>(ZT DK.out.o g hg).2
    clear DK JK ON BK B2
    cases hwf:OO oj with
    | false =>
     have Xt:Hid ((1,j,I,nm)=res):=by
      have e9:Ry I oj z=(1,I,⟨#[]⟩):=by unfold Ry;rw [hwf];rfl
      have:=ZN.out;rw [e9] at this;exact this (show (1:Int)≠0 by decide)
     clear ZN Zp hwf
     go_wp2_with fail
     rw [←Xt.out];exact ZW (v:=.tuple #[.slice none 0 0,.iface 281 (.agg #[.int .i64 (j:Int),Ss 1])]) (by simp [results,Tryz.results167,go_sem,Ss]) rfl ⟨BW.out,.inl ⟨show (1:Int)≠0 by decide,rfl⟩⟩
    | true =>
     obtain ⟨kk,pp,da,vv,sq⟩:=oj;have D3:Hid (Df w2.drew D w0.heap.size z uv I):=D2.out.below (below_drewN' w2 1);have J3:Hid (St w2.drew w1.heap.size (MZ D)):=J2.out.below (below_drewN' w2 1);have O3:Hid (w2.drew.ownsRow (w1.heap.size+1) 9 1 un j (nm.map Value.string)):=O2.out;have X3:Hid (St w2.drew wr.heap.size [.int .i64 kk,.string pp,.string da,.int .i64 vv,.bool sq]):=X2.out.below (below_drewN' w2 1);have B3:Hid (Zi w0 w2.drew):=BW.out.trans ((below_drewN' w2 1).mono BW.out.size);obtain ⟨Yh,Yg,Yf,Yd⟩:Hid _∧Hid _∧Hid _∧Hid _:=zd w2.drew D w0.heap.size z uv I ⟨kk,pp,da,vv,sq⟩ D3.out hwf HZ.out B3.out.size (fun W' hW'=>lK.out W' (WD B3.out hW'));have hkk:kk=1∨kk=2∨kk=3∨kk=4:=xP hwf;clear D2 J2 O2 X2 BW hwf
     go_wp2_with fail
     generalize Ry I ⟨kk,pp,da,vv,sq⟩ z=dd at *;have Yc:Hid (∃F,w2.drew.cell? ⟨w1.heap.size,kk.toNat,none⟩=some F∧F=(MZ D).getD kk.toNat undef):=by
      rcases hkk with rfl | rfl | rfl | rfl
      · exact ⟨_,J3.out.cl 1 _ rfl,rfl⟩
      · exact ⟨_,J3.out.cl 2 _ rfl,rfl⟩
      · exact ⟨_,J3.out.cl 3 _ rfl,rfl⟩
      exact ⟨_,J3.out.cl 4 _ rfl,rfl⟩
     obtain ⟨F,hF,hF2⟩:=Yc.out;have Ze:Hid (∀W:World,St W wr.heap.size [.int .i64 kk,.string pp,.string da,.int .i64 vv,.bool sq]→St W w1.heap.size (MZ D)→W.cell? ⟨wr.heap.size,0,none⟩=some (.int .i64 kk)∧W.cell? ⟨wr.heap.size,1,none⟩=some (.string pp)∧W.cell? ⟨wr.heap.size,2,none⟩=some (.string da)∧W.cell? ⟨wr.heap.size,3,none⟩=some (.int .i64 vv)∧W.cell? ⟨wr.heap.size,4,none⟩=some (.bool sq)∧W.cell? ⟨w1.heap.size,kk.toNat,none⟩=some F):=by
      intro W hx hj;refine ⟨hx.cl 0 _ rfl,hx.cl 1 _ rfl,hx.cl 2 _ rfl,hx.cl 3 _ rfl,hx.cl 4 _ rfl,hj.cl _ _ ?_⟩;rw [hF2]
      rcases hkk with rfl | rfl | rfl | rfl <;> rfl
     clear Yc hF;refine ZX (S:=fun W=>W.cell? ⟨wr.heap.size,0,none⟩=some (.int .i64 kk)∧W.cell? ⟨wr.heap.size,1,none⟩=some (.string pp)∧W.cell? ⟨wr.heap.size,2,none⟩=some (.string da)∧W.cell? ⟨wr.heap.size,3,none⟩=some (.int .i64 vv)∧W.cell? ⟨wr.heap.size,4,none⟩=some (.bool sq)∧W.cell? ⟨w1.heap.size,kk.toNat,none⟩=some F) (by kernel_rfl) (Ze.out _ X3.out J3.out) (fun Z9=>?_);generalize w2.drew=w3 at *;have i6:wr.heap.size≠D:=by omega
     have Xs:w1.heap.size≠D:=by omega
     rcases hkk with rfl | rfl | rfl | rfl
     all_goals
      simp only [MZ,Uq,XM,show Int.toNat 1=1 from rfl,show Int.toNat 2=2 from rfl,show Int.toNat 3=3 from rfl,show Int.toNat 4=4 from rfl] at hF2
      subst hF2
      iterate 5 (refine Zf ?_ (by kernel_rfl) (fun _=>id) Z9 ?_ ?_;rotate_left;· intro w9 ZQ;obtain ⟨k0,k1,k2,k3,k4,k5⟩:=ZQ;simp only [show Int.toNat 1=1 from rfl,show Int.toNat 2=2 from rfl,show Int.toNat 3=3 from rfl,show Int.toNat 4=4 from rfl] at k5;go_simp;try with_reducible rfl)
      refine YS 5 rfl (by kernel_rfl) (fun K hK=>?_);go_simp
      first | refine (Yh.out rfl).mono ?_ | refine (Yg.out rfl).mono ?_ | refine (Yf.out rfl).mono ?_ | refine (Yd.out rfl).mono ?_
      rintro e w4 ⟨v4,rfl,d4,t4⟩;have X4:=ZU (t4.st X3.out i6 (fun e=>by have:=Xu.out _ e;omega));have J4:=ZU (t4.st J3.out Xs (fun e=>NJ.out _ e rfl));have O4:=ZU (He O3.out t4 (fun g hg=>by have:=(ZT O3.out g hg).1;omega) (fun g hg e=>Ki O3.out D3.out.o (by decide) g hg e.symm));have B4:=ZU (B3.out.trans (t4.below B3.out.size Yv (fun g hg=>(ZT D3.out.o g hg).1)));have Xr:Hid (∀g,v4.ownBlock=some g→g≠w1.heap.size):=fun g hg=>by
       rcases t4.own with e | e | ⟨q,e,hq⟩
       · exact NJ.out g (e ▸ hg)
       · rw [e] at hg;cases hg
       rw [e] at hg;have:=Zc hg;have:=J3.out.lt;omega
      have D4:=ZU d4;clear d4 t4 Z9 Yh Yg Yf Yd;refine hK.out _ _ (Ze.out _ X4.out J4.out) (fun Z9=>?_);clear hK K
      by_cases hc:dd.1=0
      · have PB:=ZU (Zp.out hc)
        have ZL:JV dd=#[.string dd.2.2,.nilIface]:=by unfold JV;rw [Z0 hc]
        rw [ZL];clear ZN Zp ZL hc
        iterate 5 (refine Zf ?_ (by kernel_rfl) (fun _=>id) Z9 ?_ ?_;rotate_left;· intro w9 ZQ;clear ZQ;go_simp;try with_reducible rfl)
        refine ZR (by kernel_rfl) ?_ _
        simp only [Act.put,WV,WU,WT]
        clear Z9 Ze X3 J3 O3 B3 D3 X4;have Wv:=J4.out.lt
        go_wp2_with (at_builtin;go_must (refine wpList_append_lies _ rfl _ _ 26 rfl (w1.heap.size+1) 9 i0 (.string ByteArray.empty) 1 16 Tryz.underlying26 hi hz0 hz1 hz2 rfl (by decide) _ _ _ rfl (O4.out.alloc _) ⟨w4.heap.size,0,none⟩ 1 1 [.string dd.2.2] rfl rfl (XW _ _ _) (by intro u hu;simp at hu;subst hu;rfl) (by decide) ?c3 ?c4 ?c5 (w4.heap.size+1) (by simp) ?_))
        case c3=>unfold maxLen;omega
        case c4=>omega
        case c5=>simp;omega
        intro g5 cap5 w5 Rb hg5 hat _;have A5:Zi w4 (w4.alloc (.cells #[.string dd.2.2] 9)):=Yy.alloc YR _;have D5:=ZU ((D4.out.below A5).grown hg5 (fun e=>by have:=(ZT O4.out D e.symm).1;omega) (fun g hg e=>Ki O4.out D4.out.o (by decide) g e.symm hg.symm));have J5:=ZU ((J4.out.below A5).grown hg5 (fun e=>by have:=(ZT O4.out _ e.symm).1;omega));have B5:=ZU ((WD B4.out A5).grown hg5 (ZJ B4.out.size A5.size) (fun k hk=>by have:=(ZT O4.out k hk).1;omega));have Xq:Hid ((nm++[dd.2.2]).length=j+1):=by show _=_;rw [ZZ,NL.out];rfl
        have O5:Hid (w5.ownsRow (w1.heap.size+1) 9 1 (.slice (some ⟨g5,0,none⟩) (j+1) cap5) (j+1) ((nm++[dd.2.2]).map Value.string)):=by
         show World.ownsRow _ _ _ _ _ _ _;rw [Y6];exact Rb
        clear Rb hg5 hat A5 D4 J4 O4 B4;go_wp2
        go_roundw
        case rel=>exact ⟨j+1,_,v4,dd.2.1,nm++[dd.2.2],by omega,rfl,by go_num,D5,J5,Xq,O5,PB,B5,Xr⟩
        case measure=>simp [intOf];omega
      have PB:=ZU (ZN.out hc);have ZL:JV dd=#[.string ByteArray.empty,Ss dd.1]:=by unfold JV;rw [Z1 hc]
      rw [ZL];clear ZN Zp ZL;unfold Ss
      iterate 5 (refine Zf ?_ (by kernel_rfl) (fun _=>id) Z9 ?_ ?_;rotate_left;· intro w9 ZQ;clear ZQ;go_simp;try with_reducible rfl)
      refine ZR (by kernel_rfl) ?_ _
      simp only [Act.put,WV,WU,WT]
      clear Z9 Ze X3 J3 O3 B3 D3 X4
      go_wp2_with fail
      rw [←PB.out];exact ZW (v:=.tuple #[.slice none 0 0,.iface 281 (.agg #[.int .i64 (j:Int),Ss dd.1])]) (by simp [results,Tryz.results167,go_sem,Ss]) rfl ⟨B4.out,.inl ⟨hc,rfl⟩⟩
  have hjn:j=os.length:=by omega
  have PB:Hid ((0,j,I,nm)=res):=by
   have:=GP.out;rw [XS (by omega)] at this;exact this
  subst hjn;have hun:∃ua uc,un=.slice ua os.length uc:=by
   rcases ON.out.2 with ⟨rfl,h0⟩ | ⟨g,cap,cur,rfl,-⟩
   · exact ⟨_,_,by rw [h0]⟩
   exact ⟨_,_,rfl⟩
  obtain ⟨ua,uc,rfl⟩:=hun
  go_wp2_with fail
  rw [←PB.out];refine ZW (v:=.tuple #[.slice ua os.length uc,.nilIface]) (by simp [results,Tryz.results167,go_sem]) rfl ⟨BK.out,.inr ⟨rfl,_,uv,rfl,?_,DK.out⟩⟩;show World.ownsRow _ _ _ _ _ nm.length (nm.map Value.string);rw [NL.out];exact MD ON.out (by have:=B1.out.size;omega)
end Go.Proofs.YtpmjnbmkippaiaaGreatDoor
namespace Go.Proofs.YtpmjnbmkippaiaaGreatDoor
open Go.RowKit Go.Extern.Stop Go.Stop Go.Extern
structure iS (w W:World):Prop where
 b:Zi w W
 r:St W w.heap.size [.int .i64 0,.int .i64 0,.slice none 0 0,.int .i64 0,.slice none 0 0]
 y:St W (w.heap.size+1) [.int .i64 0]
 z:St W (w.heap.size+2) [.int .i64 0,.nilIface]
 p:St W (w.heap.size+3) [.int .i64 0,.int .i64 0,.slice none 0 0,.int .i64 0,.slice none 0 0]
theorem iS.new (w:World):iS w ((((w.alloc (.cells #[.int .i64 0,.int .i64 0,.slice none 0 0,.int .i64 0,.slice none 0 0] 194)).alloc (.cells #[.int .i64 0] 240)).alloc (.cells #[.int .i64 0,.nilIface] 281)).alloc (.cells #[.int .i64 0,.int .i64 0,.slice none 0 0,.int .i64 0,.slice none 0 0] 194)):=by
 have e1:(w.alloc (.cells #[.int .i64 0,.int .i64 0,.slice none 0 0,.int .i64 0,.slice none 0 0] 194)).heap.size=w.heap.size+1:=by simp
 have e2:((w.alloc (.cells #[.int .i64 0,.int .i64 0,.slice none 0 0,.int .i64 0,.slice none 0 0] 194)).alloc (.cells #[.int .i64 0] 240)).heap.size=w.heap.size+2:=by simp
 have e3:(((w.alloc (.cells #[.int .i64 0,.int .i64 0,.slice none 0 0,.int .i64 0,.slice none 0 0] 194)).alloc (.cells #[.int .i64 0] 240)).alloc (.cells #[.int .i64 0,.nilIface] 281)).heap.size=w.heap.size+3:=by simp
 have a1:∀(W:World) (o:Obj),Zi W (W.alloc o):=fun W o=>Yy.alloc YR _
 have s0:=St.new w #[.int .i64 0,.int .i64 0,.slice none 0 0,.int .i64 0,.slice none 0 0] 194;have s1:=St.new (w.alloc (.cells #[.int .i64 0,.int .i64 0,.slice none 0 0,.int .i64 0,.slice none 0 0] 194)) #[.int .i64 0] 240;have s2:=St.new ((w.alloc (.cells #[.int .i64 0,.int .i64 0,.slice none 0 0,.int .i64 0,.slice none 0 0] 194)).alloc (.cells #[.int .i64 0] 240)) #[.int .i64 0,.nilIface] 281;have s3:=St.new (((w.alloc (.cells #[.int .i64 0,.int .i64 0,.slice none 0 0,.int .i64 0,.slice none 0 0] 194)).alloc (.cells #[.int .i64 0] 240)).alloc (.cells #[.int .i64 0,.nilIface] 281)) #[.int .i64 0,.int .i64 0,.slice none 0 0,.int .i64 0,.slice none 0 0] 194;rw [e1] at s1;rw [e2] at s2;rw [e3] at s3;exact ⟨oH w _ _ _ _,((s0.below (a1 _ _)).below (a1 _ _)).below (a1 _ _),(s1.below (a1 _ _)).below (a1 _ _),s2.below (a1 _ _),s3⟩
theorem zb (w:World) (c:Int) (hg:w.cell? ⟨5,0,none⟩=some (.iface 345 (.agg #[.pointer (some ⟨11,182,none⟩)]))) (h0:5<w.heap.size) :
    Calls Tryz.prog 165 #[.iface 240 (.agg #[.int .i64 c])] w (Wj w (.agg #[.int .i64 c,.int .i64 0,.slice none 0 0,.int .i64 0,.slice none 0 0])):=by
 have R4:=ZU (iS.new w);have HG:=ZU hg;clear hg
 go_enter Tryz.func165,Tryz.ntmps165
 go_wp2_with fail
 generalize ((((w.alloc _).alloc _).alloc _).alloc _)=w4 at *;have qm:=(R4.out.b.cell (p:=⟨5,0,none⟩) h0).trans HG.out;refine (fC w4 _ _ (w.heap.size+1) true (fun w'=>St w' (w.heap.size+1) [.int .i64 c]∧Tw w4 (w.heap.size+1) none w' none) qm (by have:=R4.out.b.size;omega) (fun W hW hc hl=>?_)).mono ?_
 · refine (kK W c (w.heap.size+1) w4.heap.size _ hc hl (R4.out.y.below hW)).mono ?_
   rintro e w' ⟨rfl,s9,t9⟩;exact ⟨rfl,s9,(Tw.YZ hW _ none).trans t9⟩
 clear qm;rintro e w5 ⟨rfl,y5,t5⟩;have M:=ZU y5;have B5:=ZU (R4.out.b.trans (t5.below R4.out.b.size (by omega) (fun g h=>by cases h)));have P5:=ZU (t5.st R4.out.p (by omega) (by simp));have Z5:=ZU (t5.st R4.out.z (by omega) (by simp));have R5:=ZU (t5.st R4.out.r (by omega) (by simp));clear y5 t5 R4;have y0:=M.out.cl 0 _ rfl;have p0:=P5.out.cl 0 _ rfl;have pf:=P5.out.fz 0;have P6:=ZU (P5.out.set 0 (.int .i64 c));have Z6:=ZU (Z5.out.other (c:=w.heap.size+3) (j:=0) (x:=.int .i64 c) (by omega));have R6:=ZU (R5.out.other (c:=w.heap.size+3) (j:=0) (x:=.int .i64 c) (by omega));have B6:Hid (Zi w (w5.setCell ⟨w.heap.size+3,0,none⟩ (.int .i64 c))):=Below.setCell B5.out (by simp) _
 go_wp2_with fail
 clear y0 p0 pf P5 Z5 R5 B5 M;generalize w5.setCell _ _=w6 at *;have ZD:=(B6.out.cell (p:=⟨5,0,none⟩) h0).trans HG.out;refine (fB w6 _ _ (w.heap.size+2) false (fun w'=>Zi w6 w') ZD (by have:=B6.out.size;omega) (fun W hW hc hl=>?_)).mono ?_
 · refine (kI W c w6.heap.size _).mono ?_
   rintro e w' ⟨rfl,b9⟩;exact ⟨rfl,WD hW b9⟩
 clear ZD;rintro e w7 ⟨rfl,b7⟩;have B7:=ZU (WD B6.out b7);have P7:=P6.out.below b7;have R7:=R6.out.below b7;have p0:=P7.cl 0 _ rfl;have p1:=P7.cl 1 _ rfl;have p2:=P7.cl 2 _ rfl;have p3:=P7.cl 3 _ rfl;have p4:=P7.cl 4 _ rfl;have q1:=P7.fz 1;have r0:=R7.cl 0 _ rfl;have r1:=R7.cl 1 _ rfl;have r2:=R7.cl 2 _ rfl;have r3:=R7.cl 3 _ rfl;have r4:=R7.cl 4 _ rfl;have g0:=R7.fz 0;have g1:=R7.fz 1;have g2:=R7.fz 2;have g3:=R7.fz 3;have g4:=R7.fz 4;clear P6 Z6 R6 B6
 go_wp2_with fail
 refine ZW (v:=.agg #[.int .i64 c,.int .i64 0,.slice none 0 0,.int .i64 0,.slice none 0 0]) (by simp [results,Tryz.results165,go_sem,p0,p1,p2,p3,p4,r0,r1,r2,r3,r4]) rfl ⟨rfl,?_⟩
 repeat (first | exact B7.out | refine Below.setCell ?_ (by simp;try omega) _)
theorem za (w:World) (j c:Int) (hg:w.cell? ⟨5,0,none⟩=some (.iface 345 (.agg #[.pointer (some ⟨11,182,none⟩)]))) (h0:5<w.heap.size) :
    Calls Tryz.prog 165 #[.iface 281 (.agg #[.int .i64 j,.iface 240 (.agg #[.int .i64 c])])] w (Wj w (.agg #[.int .i64 c,.int .i64 j,.slice none 0 0,.int .i64 0,.slice none 0 0])):=by
 have R4:=ZU (iS.new w);have HG:=ZU hg;clear hg
 go_enter Tryz.func165,Tryz.ntmps165
 go_wp2_with fail
 generalize ((((w.alloc _).alloc _).alloc _).alloc _)=w4 at *;have qm:=(R4.out.b.cell (p:=⟨5,0,none⟩) h0).trans HG.out;refine (fC w4 _ _ (w.heap.size+1) true (fun w'=>St w' (w.heap.size+1) [.int .i64 c]∧Tw w4 (w.heap.size+1) none w' none) qm (by have:=R4.out.b.size;omega) (fun W hW hc hl=>?_)).mono ?_
 · refine (kH W j c (w.heap.size+1) w4.heap.size _ hc hl (R4.out.y.below hW)).mono ?_
   rintro e w' ⟨rfl,s9,t9⟩;exact ⟨rfl,s9,(Tw.YZ hW _ none).trans t9⟩
 clear qm;rintro e w5 ⟨rfl,y5,t5⟩;have M:=ZU y5;have B5:=ZU (R4.out.b.trans (t5.below R4.out.b.size (by omega) (fun g h=>by cases h)));have P5:=ZU (t5.st R4.out.p (by omega) (by simp));have Z5:=ZU (t5.st R4.out.z (by omega) (by simp));have R5:=ZU (t5.st R4.out.r (by omega) (by simp));clear y5 t5 R4;have y0:=M.out.cl 0 _ rfl;have p0:=P5.out.cl 0 _ rfl;have pf:=P5.out.fz 0;have P6:=ZU (P5.out.set 0 (.int .i64 c));have Z6:=ZU (Z5.out.other (c:=w.heap.size+3) (j:=0) (x:=.int .i64 c) (by omega));have R6:=ZU (R5.out.other (c:=w.heap.size+3) (j:=0) (x:=.int .i64 c) (by omega));have B6:Hid (Zi w (w5.setCell ⟨w.heap.size+3,0,none⟩ (.int .i64 c))):=Below.setCell B5.out (by simp) _
 go_wp2_with fail
 clear y0 p0 pf P5 Z5 R5 B5 M;generalize w5.setCell _ _=w6 at *;have ZD:=(B6.out.cell (p:=⟨5,0,none⟩) h0).trans HG.out;refine (fB w6 _ _ (w.heap.size+2) true (fun w'=>St w' (w.heap.size+2) [.int .i64 j,.iface 240 (.agg #[.int .i64 c])]∧Tw w6 (w.heap.size+2) none w' none) ZD (by have:=B6.out.size;omega) (fun W hW hc hl=>?_)).mono ?_
 · refine (kJ W j c (w.heap.size+2) w6.heap.size _ hc hl (Z6.out.below hW)).mono ?_
   rintro e w' ⟨rfl,s9,t9⟩;exact ⟨rfl,s9,(Tw.YZ hW _ none).trans t9⟩
 clear ZD;rintro e w7 ⟨rfl,z7,t7⟩;have B7:=ZU (B6.out.trans (t7.below B6.out.size (by omega) (fun g h=>by cases h)));have P7:=t7.st P6.out (by omega) (by simp);have R7:=t7.st R6.out (by omega) (by simp);have z0:=z7.cl 0 _ rfl;have p0:=P7.cl 0 _ rfl;have p1:=P7.cl 1 _ rfl;have p2:=P7.cl 2 _ rfl;have p3:=P7.cl 3 _ rfl;have p4:=P7.cl 4 _ rfl;have q1:=P7.fz 1;have r0:=R7.cl 0 _ rfl;have r1:=R7.cl 1 _ rfl;have r2:=R7.cl 2 _ rfl;have r3:=R7.cl 3 _ rfl;have r4:=R7.cl 4 _ rfl;have g0:=R7.fz 0;have g1:=R7.fz 1;have g2:=R7.fz 2;have g3:=R7.fz 3;have g4:=R7.fz 4;clear P6 Z6 R6 B6
 go_wp2_with fail
 refine ZW (v:=.agg #[.int .i64 c,.int .i64 j,.slice none 0 0,.int .i64 0,.slice none 0 0]) (by simp [results,Tryz.results165,go_sem,p0,p1,p2,p3,p4,r0,r1,r2,r3,r4]) rfl ⟨rfl,?_⟩
 repeat (first | exact B7.out | refine Below.setCell ?_ (by simp;try omega) _)
end Go.Proofs.YtpmjnbmkippaiaaGreatDoor
namespace Go.Proofs.YtpmjnbmkippaiaaGreatDoor
open Go.RowKit Go.Shelf
theorem SK.y8 {w:World} {ao:Option Addr} {c:Nat} {R:List Nd} (h:SK w (.slice ao R.length c) R):∀ad,ao=some ad→∀j u,(YE R)[j]?=some u→w.cell? (ad.add j)=some u:=by
 obtain ⟨a',c',e,-,-,h3⟩:=h
 simp only [ZC] at e
 obtain ⟨rfl,-,-⟩:=e;intro ad had j u hu;have hj:=(Zh.1 hu).1;rw [Xw] at hj
 rcases h3 with rfl | ⟨b,off,rfl,hb,hc⟩
 · simp at hj
 obtain rfl:=Zc had;have hi:j / 7<R.length:=by omega
 have hm:j % 7<7:=Wg _ (by omega);rw [show j=j / 7*7+j % 7 by omega,NQ R (j / 7) (j % 7) hi hm] at hu;obtain ⟨k0,k1,k2,k3,k4,k5,k6⟩:=hc (j / 7) hi;rw [YY,show off+j=off+j / 7*7+j % 7 by omega];generalize j % 7=m at *
 match m,hm with
 | 0,_=>exact k0.trans hu
 | 1,_=>exact k1.trans hu
 | 2,_=>exact k2.trans hu
 | 3,_=>exact k3.trans hu
 | 4,_=>exact k4.trans hu
 | 5,_=>exact k5.trans hu
 | 6,_=>exact k6.trans hu
theorem qU (w:World) (ao:Option Addr) (cap:Nat) (ns:List Nd) (h:SK w (.slice ao ns.length cap) ns) (hn:ns.length≤1000) :
    Calls Tryz.prog 166 #[.slice ao ns.length cap] w fun e w'=>∃v',e=.returned v'∧XU 147 w' w.heap.size v' ns∧Zi w w':=by
 obtain ⟨i0,hi,hz0,hz1,hz2⟩:=YN Tryz.Ml;have q22:∀(w:World) (a:Option Addr) (n c n' c':Nat),(binOp .eql 61 (.slice a n c) (.slice none n' c')).run Tryz.prog w=.ok (.bool a.isNone) w:=fun w a n c n' c'=>U7 w _ _ a n c n' c' Tryz.underlying61
 have HE:Hid ((w.alloc (.cells #[] 147)).ownsRow w.heap.size 147 7 (.slice (some ⟨w.heap.size,0,none⟩) 0 0) 0 []):=WX w #[] 0 YR (Zu _) rfl;have HB:Hid (Zi w (w.alloc (.cells #[] 147))):=Yy.alloc YR _;have HR:=ZU h
 cases ao with
 | none =>
  have hx:ns=[]:=by
   obtain ⟨a',c',e,-,-,h3⟩:=h
   simp only [ZC] at e
   rcases h3 with h3 | ⟨b,o,e2,_⟩
   · exact h3
   rw [←e.1] at e2;cases e2
  subst hx;clear h HR
  go_enter Tryz.func166,Tryz.ntmps166
  go_wp2;go_ret;exact ⟨_,rfl,ZH _ _ _ _,Yy⟩
 | some a =>
  have kx:Hid (∀j u,(YE ns)[j]?=some u→(w.alloc (.cells #[] 147)).cell? (a.add j)=some u):=fun j u hu=>(HR.out.below HB.out).y8 a rfl j u hu
  clear h;generalize hl:ns.length=m at *;have HL:=ZU hl;clear hl
  go_enter Tryz.func166,Tryz.ntmps166
  go_wp2_with (at_builtin;go_must (refine Yn _ rfl _ _ 61 rfl w.heap.size 147 i0 _ 7 72 Tryz.underlying61 hi hz0 hz1 hz2 rfl (by decide) _ _ _ rfl HE.out a m cap (YE ns) rfl ?c0 kx.out (OU _) ?c3 ?c4 ?c5 ?_))
  case c0=>rw [Xw,HL.out]
  case c3=>unfold maxLen;omega
  case c4=>omega
  case c5=>simp
  intro v2 w2 ho2 hg2 _;have DT:Hid (XU 147 w2 w.heap.size v2 ns):=by
   show World.ownsRow _ _ _ _ _ _ _;rw [HL.out];exact ho2
  have HG2:=ZU (HB.out.grown hg2 (by simp) (by intro q hq;simp [Value.ownBlock] at hq;omega));clear ho2 hg2;go_wp2;go_ret;exact ⟨_,rfl,DT.out,HG2.out⟩
theorem Ey (w:World) (z:Int):Calls Tryz.prog 164 #[.int .i64 z] w fun e w'=>e=.returned (.bool (decide (1≤z) && decide (z≤2147483647)))∧w'=w:=by
 obtain ⟨r,hr⟩:∃r,r=(decide (1≤z) && decide (z≤2147483647)):=⟨_,rfl⟩;rw [←hr]
 by_cases h1:1≤z
 · by_cases h2:z≤2147483647
   · rw [Zm h1,Zm h2] at hr
     have HR:=ZU hr;clear hr
     go_enter Tryz.func164,Tryz.ntmps164
     go_wp2;go_ret;exact ⟨by rw [HR.out];rfl,rfl⟩
   rw [Zm h1,Zo h2] at hr;have HR:=ZU hr;clear hr
   go_enter Tryz.func164,Tryz.ntmps164
   go_wp2;go_ret;exact ⟨by rw [HR.out];rfl,rfl⟩
 rw [Zo h1] at hr;have HR:=ZU hr;clear hr
 go_enter Tryz.func164,Tryz.ntmps164
 go_wp2;go_ret;exact ⟨by rw [HR.out];rfl,rfl⟩
theorem Ra {w W:World} {nm:String} {k:IntKind} {zs:List Int} (h:Lib.TabIs Tryz.prog w nm k zs) (hb:Zi w W):Lib.TabIs Tryz.prog W nm k zs:=by
 unfold Lib.TabIs World.var? at *
 cases hg:Tryz.prog.globalNamed nm with
 | none=>rw [hg] at h;cases h
 | some g =>
  rw [hg] at h
  simp only [Option.bind_some] at h ⊢
  by_cases hl:g<w.heap.size
  · rw [hb.block g hl];exact h
  rw [Ts (by omega)] at h;cases h
theorem Hd (w:World) (v vo:Value) (ns:List Nd) (os:List TK) (z:Int) (h:SK w v ns) (ho:JZ w vo os) (hsz:∀i,(Ye ns i).path.size≤1048576∧(Ye ns i).data.size≤1048576) (hb:RZ ns os z=false)
    (hg:w.cell? ⟨5,0,none⟩=some (.iface 345 (.agg #[.pointer (some ⟨11,182,none⟩)]))) (h0:5<w.heap.size) :
    Calls Tryz.prog 125 #[.agg #[v],.agg #[vo],.int .i64 z] w (Wj w (.agg #[.int .i64 9,.int .i64 0,.slice none 0 0,.int .i64 0,.slice none 0 0])):=by
 obtain ⟨ao,ca,rfl,_,_⟩:=h.len;obtain ⟨bo,cb,rfl,_,_⟩:=ho.len;have HR:=ZU h;have LY:=ZU hsz;have HG:=ZU hg;have HBAD:=ZU hb;have X0:Hid (AE w (.slice ao ns.length ca) (.slice bo os.length cb) (((w.alloc (.cells #[.slice ao ns.length ca] 63)).alloc (.cells #[.slice bo os.length cb] 41)).alloc (.cells #[.int .i64 0,.int .i64 0,.slice none 0 0,.int .i64 0,.slice none 0 0] 194))):=AE.new _ _ _ _ _ _;clear h ho hsz hb hg
 go_enter Tryz.func125,Tryz.ntmps125
 go_wp2_with fail
 generalize ((w.alloc _).alloc _).alloc _=w0 at *;refine (UM _ _ ns (HR.out.below X0.out.1) LY.out).mono ?_;rintro e w1 ⟨rfl,b1⟩;have X1:=ZU (X0.out.below b1);clear b1 X0;obtain ⟨-,zz,a0,a1,-⟩:=X1.out;have Z':=ZU (zb w1 9 ((X1.out.1.cell (p:=⟨5,0,none⟩) h0).trans HG.out) (by omega));have rA:Hid (∀W,Calls Tryz.prog 164 #[.int .i64 z] W fun e w'=>e=.returned (.bool (decide (1≤z) && decide (z≤2147483647)))∧w'=W):=fun W=>Ey W z
 have hB:=HBAD.out;unfold RZ at hB;clear HBAD
 cases ht:WE ns with
 | false =>
  clear hB
  go_wp2_with (first | (go_at_call 164;refine (rA.out _).mono ?_;rintro e w' ⟨rfl,rfl⟩) | (go_at_call 165;refine Z'.out.mono ?_))
  rintro e w2 ⟨rfl,b2⟩;have X2:=ZU (X1.out.below b2);clear b2;obtain ⟨-,zz,-,-,⟨d0,d1,d2,d3,d4⟩,Z⟩:=X2.out;have f0:=Z 0;have f1:=Z 1;have f2:=Z 2;have f3:=Z 3;have f4:=Z 4;clear Z
  go_wp2_with fail
  refine ZW (v:=.agg #[.int .i64 9,.int .i64 0,.slice none 0 0,.int .i64 0,.slice none 0 0]) (by simp [results,Tryz.results125,go_sem,d0,d1,d2,d3,d4]) rfl ⟨rfl,X2.out.1.trans ?_⟩
  repeat (first | exact Yy | refine Below.setCell ?_ (by simp;try omega) _)
 | true =>
  rw [ht,Xz] at hB;clear ht
  by_cases h1:1≤os.length
  · rw [Zm h1,Xz] at hB
    have yo:¬(os.length:Int)<1:=by omega
    by_cases h2:os.length≤64
    · rw [Zm h2,Xz] at hB
      have lR:¬(64:Int)<(os.length:Int):=by omega
      rw [hB] at rA;clear hB
      go_wp2_with (first | (go_at_call 164;refine (rA.out _).mono ?_;rintro e w' ⟨rfl,rfl⟩) | (go_at_call 165;refine Z'.out.mono ?_))
      rintro e w2 ⟨rfl,b2⟩;have X2:=ZU (X1.out.below b2);clear b2;obtain ⟨-,zz,-,-,⟨d0,d1,d2,d3,d4⟩,Z⟩:=X2.out;have f0:=Z 0;have f1:=Z 1;have f2:=Z 2;have f3:=Z 3;have f4:=Z 4;clear Z
      go_wp2_with fail
      refine ZW (v:=.agg #[.int .i64 9,.int .i64 0,.slice none 0 0,.int .i64 0,.slice none 0 0]) (by simp [results,Tryz.results125,go_sem,d0,d1,d2,d3,d4]) rfl ⟨rfl,X2.out.1.trans ?_⟩
      repeat (first | exact Yy | refine Below.setCell ?_ (by simp;try omega) _)
    have lR:(64:Int)<(os.length:Int):=by omega
    clear hB
    go_wp2_with (first | (go_at_call 164;refine (rA.out _).mono ?_;rintro e w' ⟨rfl,rfl⟩) | (go_at_call 165;refine Z'.out.mono ?_))
    rintro e w2 ⟨rfl,b2⟩;have X2:=ZU (X1.out.below b2);clear b2;obtain ⟨-,zz,-,-,⟨d0,d1,d2,d3,d4⟩,Z⟩:=X2.out;have f0:=Z 0;have f1:=Z 1;have f2:=Z 2;have f3:=Z 3;have f4:=Z 4;clear Z
    go_wp2_with fail
    refine ZW (v:=.agg #[.int .i64 9,.int .i64 0,.slice none 0 0,.int .i64 0,.slice none 0 0]) (by simp [results,Tryz.results125,go_sem,d0,d1,d2,d3,d4]) rfl ⟨rfl,X2.out.1.trans ?_⟩
    repeat (first | exact Yy | refine Below.setCell ?_ (by simp;try omega) _)
  have yo:(os.length:Int)<1:=by omega
  clear hB
  go_wp2_with (first | (go_at_call 164;refine (rA.out _).mono ?_;rintro e w' ⟨rfl,rfl⟩) | (go_at_call 165;refine Z'.out.mono ?_))
  rintro e w2 ⟨rfl,b2⟩;have X2:=ZU (X1.out.below b2);clear b2;obtain ⟨-,zz,-,-,⟨d0,d1,d2,d3,d4⟩,Z⟩:=X2.out;have f0:=Z 0;have f1:=Z 1;have f2:=Z 2;have f3:=Z 3;have f4:=Z 4;clear Z
  go_wp2_with fail
  refine ZW (v:=.agg #[.int .i64 9,.int .i64 0,.slice none 0 0,.int .i64 0,.slice none 0 0]) (by simp [results,Tryz.results125,go_sem,d0,d1,d2,d3,d4]) rfl ⟨rfl,X2.out.1.trans ?_⟩
  repeat (first | exact Yy | refine Below.setCell ?_ (by simp;try omega) _)
theorem Ul.rd {w:World} {base:Nat} {v:Value} {xs:List Int} (h:Ul w base v xs):Rd .u8 w v xs:=by
 obtain ⟨g,cap,rfl,h2,h3,h4,h5,h6,h7⟩:=h;refine ⟨_,cap,rfl,h4,h5,.inr ⟨g,0,rfl,h3,fun i hi=>?_⟩⟩;refine h6 i _ ?_;rw [Yo,ZF hi]
 simp [List.getD,hi]
theorem mS (w:World) (s:ByteArray) (hs:s.size≤1000) :
    ∃v W,(convert 9 22 (.string s)).run Tryz.prog w=.ok v W∧Zi w W∧Ul W w.heap.size v (U0 s):=by
 have hr:=Lib.run_convert_string_bytes (P:=Tryz.prog) w 9 22 5 s Tryz.underlying9 Tryz.underlying22 Tryz.underlying5;have hge:=Tq w s.size 0 5;have hle:=We w s.size 0 5 (by unfold maxLen;omega);have hsz:=Lib.bytesWorld_size w 5 s;have hn:=Lib.bytesWorld_at_new w 5 s;have hq:(Lib.bytesCells w 5 s).size=grownCap w s.size 0 5:=by
  unfold Lib.bytesCells;rw [TJ,Array.size_map,Wz];have:s.data.size=s.size:=rfl;omega
 refine ⟨_,_,hr,⟨rfl,rfl,rfl,by omega,fun k hk=>Lib.bytesWorld_at_old w _ _ k hk⟩,w.heap.size,_,by rw [Wq],YR,by omega,by rw [Wq];exact hge,hle,?_,?_⟩
 · intro j u hj
   have hlt:j<s.size:=by
    have:=(Zh.1 hj).1;rw [Zl,Wq] at this;exact this
   rw [Za,Lib.bytesWorld_cell w 5 s j hlt,←hj];unfold U0;have h2:j<s.data.toList.length:=by rw [YJ];exact hlt
   rw [Yo,Yo,ZF h2]
   simp [List.getD,Xj (show j<s.data.size from hlt)]
 intro j hj;rw [Za,Yz _ w.heap.size j _ _ _ hn];refine ⟨by rw [Xj (by omega)];rfl,?_⟩
 simp [World.frozen?,hn]
 omega
def VS (s:ByteArray) (zs:List Nat):List Int:=U0 s++zs.flatMap fun z=>32 :: QC z
theorem jU {u:Nat} (h:u<1000000):Lib.nDigits u≤20:=by
 rcases Nat.eq_zero_or_pos u with rfl | h0
 · rw [Lib.nDigits_small (by omega)];omega
 have:=Lib.numDigits_eq u (by omega) (by omega);split at this <;> omega
theorem Ex (zs:List Nat) (hz:∀z ∈ zs,z<1000000):(zs.flatMap fun z=>32 :: QC z).length≤21*zs.length:=by
 induction zs with
 | nil=>simp
 | cons z zs ih =>
  rw [WY,ZZ,ZE,Km,ZE];have:=ih (fun z hz'=>hz z (by simp [hz']));have:=jU (hz z (by simp));omega
theorem Ew (w : World) (s : ByteArray) (v : Value) (zs : List Nat) (h : Rd .i64 w v (zs.map fun z : Nat => (z : Int))) (hs : s.size ≤ 1000) (hn : zs.length ≤ 1000) (hz : ∀ z ∈ zs, z < 1000000) (htab : Lib.TabIs Tryz.prog w "internal/strconv.uint64pow10" .u64 Lib.pow10Tab) :
    Calls Tryz.prog 71 #[.string s,v] w (Wj w (.string (strOfNums (VS s zs)))):=by
 obtain ⟨v5,w1,hr,hb1,ho1⟩:=mS w s hs;obtain ⟨ao,cp,rfl,hl1,hl2,hl3⟩:=h;rw [Zl] at hl1 hl3 ⊢;have HL:=ZU hl3;have HT:=ZU htab;have HZ:=ZU hz;have O1:=ZU ho1;have B1:=ZU hb1;clear hl3 htab hz hb1 ho1
 go_enter Tryz.func71,Tryz.ntmps71
 go_wp2_with fail
 clear hr
 go_loopw [5,12] (fun v5 v12 wr=>∃i:Nat,v12=.int .i64 (i:Int)∧i≤zs.length∧Hid (Ul wr w.heap.size v5 (VS s (zs.take i)))∧Hid (Zi w wr)) (fun _ v _=>((zs.length:Int) - intOf v).toNat)
 case atStart=>exact ⟨0,rfl,Zu _,by show Ul _ _ _ _;unfold VS;rw [WI,UU,YD];exact O1.out,B1⟩
 case round =>
  obtain ⟨i,rfl,hi,OH,BH⟩:=hrel
  by_cases hc:i<zs.length
  · have hlen:(VS s (zs.take i)).length≤1000+21*1000:=by
     unfold VS;rw [ZZ,Wq];have:=Ex (zs.take i) (fun z hz=>HZ.out z (Xa hz));have:(zs.take i).length≤zs.length:=by rw [Zw];omega
     omega
    have YM:Hid (VS s (zs.take (i+1))=VS s (zs.take i)++U0 ⟨#[32]⟩++QC zs[i]):=by
     show _=_;unfold VS;rw [YW hc,XZ,WY,UU,YD]
     simp [U0]
    have hzi:=HZ.out zs[i] (YP hc);obtain ⟨b,off,rfl,hb,hcl⟩:=HL.out.resolve_left (fun e=>by rw [List.map_eq_nil_iff] at e;rw [e] at hc;simp at hc);have hci:wr.cell? ⟨b,off+i,none⟩=some (.int .i64 (zs[i]:Int)):=by
     rw [BH.out.cell (p:=⟨b,off+i,none⟩) hb,hcl i hc]
     simp [List.getD,hc]
    clear hcl;have sB:=BH.out.size;generalize zs[i]=z at *
    go_wp2_with (at_builtin;go_must (refine Rr rfl _ _ rfl w.heap.size _ (VS s (zs.take i)) ⟨#[32]⟩ rfl rfl OH.out sB (ZJ (Nat.add_le_add_right hlen 1) (by decide)) ?_))
    intro v2 w2 o2 g2;have O2:=ZU o2;have B2:=ZU (BH.out.grown g2 sB OH.out.lt);have s2:=B2.out.size;have HI:=ZU (C6 w2 w.heap.size v2 _ z hzi O2.out s2 (by rw [ZZ];exact ZJ (Nat.add_le_add_right hlen 1) (by decide)) (Ra HT.out B2.out));clear o2 g2 OH BH sB
    go_wp2_with fail
    refine HI.out.mono ?_;rintro e w3 ⟨v3,rfl,o3,b3⟩;have O3:=ZU o3;have B3:=ZU (B2.out.trans b3);clear o3 b3 HI O2 B2
    go_wp2_with fail
    refine ⟨⟨i+1,by go_num,by omega,?_,B3⟩,by simp [intOf];omega⟩;show Ul _ _ _ _;rw [YM.out];exact O3.out
  have hie:i=zs.length:=by omega
  subst hie;rw [Xp] at OH;have hcv:=To OH.out.rd;go_wp2;go_ret;exact ⟨rfl,BH.out⟩
end Go.Proofs.YtpmjnbmkippaiaaGreatDoor
namespace Go.Proofs.YtpmjnbmkippaiaaGreatDoor
open Go.RowKit Go.Conc
theorem uR {w:World} {v:Value} {ns:List Nd} {g:Nat} (h:SK w v ns) (hn:ns≠[]) (hb:w.heap[g]?=some (.cells #[.int .i64 0,.slice none 0 0] 132 (0,0))):∀q,v.ownBlock=some q→q≠g:=by
 obtain ⟨ao,cp,rfl,h1,h2,h3⟩:=h;obtain ⟨b,off,rfl,hlt,hcl⟩:=h3.resolve_left hn;rintro q hq rfl
 simp only [Value.ownBlock,ZK] at hq
 subst hq;have c0:=(hcl 0 (List.length_pos_iff.2 hn)).c0;rw [cell_of hb] at c0
 simp only [Xg,Yj] at c0
 match off,c0 with
 | 0,c0=>simp at c0
 | 1,c0=>simp at c0
 | k+2,c0=>simp at c0
theorem jT {w:World} {v:Value} {xs:List Int} {g:Nat} (h:Rd .u8 w v xs) (hn:0<xs.length) (hb:w.heap[g]?=some (.cells #[.int .i64 0,.slice none 0 0] 132 (0,0))):∀q,v.ownBlock=some q→q≠g:=by
 obtain ⟨ao,cp,rfl,h1,h2,h3⟩:=h;obtain ⟨b,off,rfl,hlt,hcl⟩:=h3.resolve_left (fun e=>by rw [e] at hn;simp at hn);rintro q hq rfl
 simp only [Value.ownBlock,ZK] at hq
 subst hq;have c0:=hcl 0 hn;rw [cell_of hb] at c0
 simp only [Yj] at c0
 match off,c0 with
 | 0,c0=>simp at c0
 | 1,c0=>simp at c0
 | k+2,c0=>simp at c0
theorem IX {w w':World} {v:Value} {ns:List Nd} (h:SK w v ns) (hs:w.heap.size≤w'.heap.size) (hb:ns≠[]→∀q,v.ownBlock=some q→q<w.heap.size→w'.heap[q]?=w.heap[q]?):SK w' v ns:=by
 by_cases e:ns=[]
 · obtain ⟨ao,cp,rfl,h1,h2,h3⟩:=h
   exact ⟨ao,cp,rfl,h1,h2,.inl e⟩
 exact VM h hs (hb e)
theorem Sv.pq {κ:Sc} {σ:Sx} {w:World} (h:Sv κ σ w):∃v0,Pg κ v0∧Ph σ.pw w κ.sB (.pointer (some ⟨κ.mB,0,none⟩)) κ.S κ.L v0 σ.k w:=by
 obtain ⟨vd,made,YL,a1,a2,a3,a4,a5⟩:=h.dk;refine ⟨vd,a5,vd,nj σ.pw,made,YL,[],fun _=>.slice none 0 0,a1,?_,a3,Zu _,fun i=>by simp [pD],a4,?_,.inl rfl,Gr.refl _,a1.lt⟩
 · cases hp:σ.pw with
   | none=>exact I4 a2
   | some g =>
    obtain ⟨q1,q2,q3,q4,q5,q6⟩:=h.pw g hp;have hr:w.ownsRow (κ.sB+1) 132 2 (.slice (some ⟨g,0,none⟩) 0 1) 0 []:=⟨rfl,.inr ⟨g,1,_,rfl,q2,q1,Zu _,by decide,rfl,rfl⟩⟩;refine ⟨a2,⟨hr,fun i hi=>by simp at hi,fun i j hi=>by simp at hi,fun i hi=>by simp at hi⟩,fun q hq=>(ZT a2 q hq).2,fun q hq=>?_,fun i hi=>by simp at hi,?_,fun i hi=>by simp at hi⟩
    · exact (ZT hr q hq).2
    refine .inr (fun e=>?_)
    rcases a2.2 with ⟨rfl,-⟩ | ⟨g9,cap,cur,rfl,-,np,-⟩
    · simp [nj,Value.ownBlock] at e
    simp only [nj,Value.ownBlock,ZK] at e
    subst e;rw [np] at q1
    injection q1 with q1
    injection q1 with _ h2
    exact absurd h2 (by decide)
 intro g hg
 cases hp:σ.pw with
 | none=>rw [hp] at hg;simp [nj,Value.ownBlock] at hg
 | some g9=>rw [hp] at hg;simp only [nj,Value.ownBlock,ZK] at hg;exact .inr (by rw [hg])
theorem Sv.ended {κ:Sc} {σ:Sx} {w w':World} {v0:Value} {k:Nat} (h:Sv κ σ w) (hv:Pg κ v0) (hp:Pq σ.pw w κ.sB (.pointer (some ⟨κ.mB,0,none⟩)) κ.S κ.L v0 k w') (hsp:σ.pw=none∨σ.sn=none):Sv κ { σ with k:=k,pw:=none } w'∧Gw κ w w':=by
 obtain ⟨vd,made,YL,h1,h2,h3,h4,h5,h6,h7⟩:=hp;obtain ⟨vt,vq,cp,b1,b2,b3,b4,b5,b6,b7,b8⟩:=h.mm;obtain ⟨Lv,s,r,c1,c2,c3⟩:=h.ch;have hne:=h.ne;have hs:=h6.size;have hbl:∀q,q<w.heap.size→q≠κ.sB→(∀g,σ.pw=some g→q≠g)→w'.heap[q]?=w.heap[q]?:=fun q hq hn hg=>h6.block q hq hn (fun e=>hg q e.symm rfl)
 have hlb:κ.lb<w.heap.size:=(b7.lt κ.lb rfl).2;have hcb:κ.c<w.heap.size:=(Z3.mp c1).1;have hmb:=b1.lt;refine ⟨⟨hne,fun x hx=>⟨ZY (h.fx x hx).1 hs,(h.fx x hx).2⟩,⟨vd,made,YL,h1,h2,h3,h4,?_⟩,⟨vt,vq,cp,Wo b1 hs (hbl _ b1.lt hne.1.symm (fun g hg=>Ne.symm (h.pw g hg).2.2.1)),IX b2 hs (fun e q hq hl=>hbl q hl (b5 q hq).1 (fun g hg=>uR b2 e (h.pw g hg).1 q hq)),IX b3 hs (fun e q hq hl=>hbl q hl (b6 q hq).1 (fun g hg=>uR b3 e (h.pw g hg).1 q hq)),b4,b5,b6,?_,b8⟩,⟨Lv,s,r,(hbl _ hcb hne.2.1.symm (fun g hg=>Ne.symm (h.pw g hg).2.2.2.1)).trans c1,⟨c2.1,fun i hi=>⟨Rg (c2.2 i hi).1 hs (fun q hq hl=>hbl q hl (c3 i hi q hq).1 (fun g hg=>jT (c2.2 i hi).1 (c2.2 i hi).2 (h.pw g hg).1 q hq)),(c2.2 i hi).2⟩⟩,c3⟩,fun p hp=>?_,ni.none⟩,⟨h6.os,h6.tape,h6.output,hs,fun q hq a _ _ _ _ e=>hbl q hq a (fun g hg e9=>e (by rw [e9];exact (h.pw g hg).2.1) (by rw [e9,cell_of (h.pw g hg).1];rfl))⟩⟩
 · rcases h5 with rfl | h5
   · exact hv
   intro q hq;have:=h5 q hq;have h8:=Mw h2 q hq;refine ⟨by omega,by omega,by omega,by omega,fun hx=>?_⟩;have:=(h.fx q hx).1;omega
 · obtain ⟨g9,lo,ge,pre,e1,e2,e3⟩:=b7
   refine ⟨g9,lo,ge,pre,e1,e2,e3.1,e3.2.imp id ?_⟩;rintro ⟨q,cap,cur,e4,e5,e6,e7⟩;have hq:q=κ.lb:=by
    simp only [ZC,ZK,Ym] at e4 e1
    omega
   refine ⟨q,cap,cur,e4,e5,(hbl q (Z3.mp e6).1 (by rw [hq];exact hne.2.2.1.symm) (fun g hg=>by rw [hq];exact Ne.symm (h.pw g hg).2.2.2.2.1)).trans e6,e7⟩
 obtain ⟨p1,p2⟩:=h.sn p hp;refine ⟨p1.same (hbl _ p1.lt (Q2 p2.1) (fun g hg=>?_)),p2⟩
 rcases hsp with e | e
 · rw [e] at hg;cases hg
 rw [show σ.sn=some p from hp] at e;cases e
def iR (κ : Sc) (w : World) : Prop := ∀ W, Gw κ w W → Lib.TabIs Tryz.prog W "internal/strconv.uint64pow10" .u64 Lib.pow10Tab
theorem Pf (w : World) (s : ByteArray) (z : Nat) (hs : s.size ≤ 1000) (hz : z < 1000000) (htab : Lib.TabIs Tryz.prog w "internal/strconv.uint64pow10" .u64 Lib.pow10Tab) :
    Calls Tryz.prog 71 #[.string s,.slice (some ⟨w.heap.size,0,none⟩) 1 1] (w.alloc (.cells #[.int .i64 (z:Int)] 2)) (Wj w (.string (strOfNums (VS s [z])))):=by
 have hb:=(Below.refl w.heap.size w).alloc YR (.cells #[.int .i64 (z:Int)] 2);refine (Ew _ s _ [z] ⟨_,1,rfl,YR,by decide,.inr ⟨w.heap.size,0,rfl,by simp,fun i hi=>?_⟩⟩ hs (by simp) (by simpa using hz) (Ra htab hb)).mono ?_
 · have:i=0:=by simpa using hi
   subst this;rw [Yz _ w.heap.size (0+0) _ _ _ (Zs w _)]
   rfl
 rintro e w' ⟨rfl,b⟩;exact ⟨rfl,WD hb b⟩
theorem Sv.qT {κ:Sc} {σ:Sx} {w W:World} {x y:Nat} (h:Sv κ σ w) (hb:Zi w W) (hn:σ.sn=none) (hp:tB (W.setCell ⟨κ.mB,12,none⟩ (.pointer (some ⟨w.heap.size,0,none⟩))) (w.heap.size,x,y) false) :
    Sv κ { σ with sn:=some (w.heap.size,x,y),em:=false } (W.setCell ⟨κ.mB,12,none⟩ (.pointer (some ⟨w.heap.size,0,none⟩)))∧Gs κ w (W.setCell ⟨κ.mB,12,none⟩ (.pointer (some ⟨w.heap.size,0,none⟩))):=by
 obtain ⟨vd,made,YL,a1,a2,a3,a4,a5⟩:=h.dk;obtain ⟨vt,vq,cp,b1,b2,b3,b4,b5,b6,b7,b8⟩:=h.mm;obtain ⟨Lv,s,r,c1,c2,c3⟩:=h.ch;have hne:=h.ne;have hs:w.heap.size≤(W.setCell ⟨κ.mB,12,none⟩ (.pointer (some ⟨w.heap.size,0,none⟩))).heap.size:=by simpa using hb.size
 have hbl:∀q,q<w.heap.size→q≠κ.mB→(W.setCell ⟨κ.mB,12,none⟩ (.pointer (some ⟨w.heap.size,0,none⟩))).heap[q]?=w.heap[q]?:=fun q hq hn=>(Below.heap_setCell W ⟨κ.mB,12,none⟩ _ q hn).trans (hb.block q hq)
 have hlb:κ.lb<w.heap.size:=(b7.lt κ.lb rfl).2;have hcb:κ.c<w.heap.size:=(Z3.mp c1).1;have hmb:=b1.lt;have hsb:=a1.lt;refine ⟨⟨hne,fun x hx=>⟨ZY (h.fx x hx).1 hs,(h.fx x hx).2⟩,⟨vd,made,YL,Wo a1 hs (hbl _ hsb hne.1),(a2.below hb).setAt (.inr (fun e=>(a5 _ e).2.1 rfl)),a3,a4,a5⟩,⟨vt,vq,cp,(b1.below hb).set 12 _,VM b2 hs (fun q hq hl=>hbl q hl (b5 q hq).2.1),VM b3 hs (fun q hq hl=>hbl q hl (b6 q hq).2.1),b4,b5,b6,(b7.below hb).setAt (.inr (by simp [Value.ownBlock];exact fun e=>hne.2.2.2.2.1 e.symm)),b8⟩,⟨Lv,s,r,(hbl _ hcb hne.2.2.2.1.symm).trans c1,⟨c2.1,fun i hi=>⟨Rg (c2.2 i hi).1 hs (fun q hq hl=>hbl q hl (c3 i hi q hq).2.1),(c2.2 i hi).2⟩⟩,c3⟩,fun p hp'=>?_,h.pw.keep (fun g hl _ h2 _ _ _ _=>hbl g hl h2)⟩,⟨hb.os,hb.tape,hb.output,hs,fun q hq _ h2 _ _=>hbl q hq h2⟩⟩
 cases hp'
 exact ⟨hp,by omega,by omega,by omega,by omega,fun hx=>by have:=(h.fx _ hx).1;omega⟩
theorem uQ (κ:Sc) (σ:Sx) (w:World) (h:Sv κ σ w) (hk:σ.k≤9000) (hsn:σ.sn=none) (hz:σ.zf<1000000) (hfl:σ.full.length≤4096) (htab:iR κ w) :
    Calls Tryz.prog 76 #[.pointer (some ⟨κ.sB,0,none⟩)] w fun e w'=>e=.returned (.string (strOfNums (VS ⟨#[115,116,97,114,116,101,100]⟩ [σ.zf])))∧Gw κ w w'∧∃pB,Sv κ { σ with k:=σ.k+1,pw:=none,sn:=some (pB,σ.zf,σ.full.length - σ.off),em:=false } w':=by
 obtain ⟨v0,hv0,hp⟩:=h.pq;obtain ⟨vt,vq,cp,b1,-⟩:=h.mm;obtain ⟨vd,made,YL,a1,-⟩:=h.dk;have c0:=a1.cl 0 _ rfl;have m13:=b1.cl 13 _ rfl;have m12:=b1.cl 12 _ rfl;rw [hsn] at m12;have Yb:Hid (Calls Tryz.prog 114 #[.pointer (some ⟨κ.sB,0,none⟩)] w fun e w'=>e=.returned (.tuple #[])∧Pq σ.pw w κ.sB (.pointer (some ⟨κ.mB,0,none⟩)) κ.S κ.L v0 (σ.k+1) w'∧KW κ.sB w w'):=Ho hp hk;have HV:=ZU h;clear hp a1 b1 h
 go_enter Tryz.func76,Tryz.ntmps76
 go_wp2_with fail
 refine Yb.out.mono ?_;rintro e w1 ⟨rfl,p1,-⟩;obtain ⟨V1,G1⟩:=HV.out.ended hv0 p1 (.inr hsn);obtain ⟨YK,YH,V,b1,-⟩:=V1.mm;obtain ⟨YG,H,Y0,a1,-⟩:=V1.dk;have A1:Hid (St w1.drew κ.sB (Hp (.pointer (some ⟨κ.mB,0,none⟩)) κ.S κ.L YG (.slice none 0 0) H)):=a1.below (below_drewN' w1 1);have M1:Hid (St w1.drew κ.mB (yG κ { σ with k:=σ.k+1,pw:=none } YK YH V)):=b1.below (below_drewN' w1 1);have V2:Hid (Sv κ { σ with k:=σ.k+1,pw:=none } w1.drew):=V1.below (below_drewN' w1 1);have G2:Hid (Gw κ w w1.drew):=G1.trans (Gs.YZ (below_drewN' w1 1)).gw;clear c0 m13 m12 p1 a1 b1 Yb V1 G1 HV;have c0:w1.drew.cell? ⟨κ.sB,0,none⟩=some (.pointer (some ⟨κ.mB,0,none⟩)):=A1.out.cl 0 _ rfl;have m1:w1.drew.cell? ⟨κ.mB,1,none⟩=some (.int .i64 (σ.zf:Int)):=M1.out.cl 1 _ rfl;obtain ⟨la,hla⟩:∃x,x=κ.lo+(if σ.off=V then 0 else σ.off):=⟨_,rfl⟩;have m11:w1.drew.cell? ⟨κ.mB,11,none⟩=some (.slice (some ⟨κ.lb,la,none⟩) (σ.full.length - σ.off) (V - σ.off)):=by rw [hla];exact M1.out.cl 11 _ rfl
 have Ow:=ZU hla;clear hla
 go_wp2_with fail
 refine ZX (S:=fun W=>W.cell? ⟨κ.sB,0,none⟩=some (.pointer (some ⟨κ.mB,0,none⟩))∧W.cell? ⟨κ.mB,1,none⟩=some (.int .i64 (σ.zf:Int))∧W.cell? ⟨κ.mB,11,none⟩=some (.slice (some ⟨κ.lb,la,none⟩) (σ.full.length - σ.off) (V - σ.off))) (by kernel_rfl) ⟨c0,m1,m11⟩ (fun Z9=>?_);clear c0 m1 m11;generalize w1.drew=w2 at *
 iterate 21 (refine Zf ?_ (by kernel_rfl) (fun _=>id) (by assumption) ?_ ?_;rotate_left;· intro w9 ZQ;obtain ⟨k0,k1,k2⟩:=ZQ;go_simp;try with_reducible rfl)
 refine YS 21 rfl (by kernel_rfl) (fun K hK=>?_);go_simp;have bA:=(Below.refl w2.heap.size w2).alloc YR (.cells #[.int .i64 (σ.zf:Int),.int .i64 ((σ.full.length - σ.off:Nat):Int),.string ⟨#[]⟩,.slice none 0 0] 186);refine hK.out _ _ ⟨(bA.cell (p:=⟨κ.sB,0,none⟩) A1.out.lt).trans Z9.1,(bA.cell (p:=⟨κ.mB,1,none⟩) M1.out.lt).trans Z9.2.1,(bA.cell (p:=⟨κ.mB,11,none⟩) M1.out.lt).trans Z9.2.2⟩ (fun YA=>?_);clear hK K
 iterate 2 (refine Zf ?_ (by kernel_rfl) (fun _=>id) (by assumption) ?_ ?_;rotate_left;· intro w9 ZQ;obtain ⟨k0,k1,k2⟩:=ZQ;go_simp;try with_reducible rfl)
 refine YS 24 rfl (by kernel_rfl) (fun K hK=>?_);have M2:=M1.out.Xe bA M1.out.lt;have A2:=A1.out.Xe bA A1.out.lt;have m12:=M2.cl 12 _ rfl;have f12:=M2.fz 12;go_simp;have M3:=M2.set 12 (.pointer (some ⟨w2.heap.size,0,none⟩));have A3:=A2.other (c:=κ.mB) (j:=12) (x:=.pointer (some ⟨w2.heap.size,0,none⟩)) V2.out.ne.1;have P3:=(St.new w2 #[.int .i64 (σ.zf:Int),.int .i64 ((σ.full.length - σ.off:Nat):Int),.string ⟨#[]⟩,.slice none 0 0] 186).other (c:=κ.mB) (j:=12) (x:=.pointer (some ⟨w2.heap.size,0,none⟩)) (by have:=M1.out.lt;omega);have SB:tB ((w2.alloc (.cells #[.int .i64 (σ.zf:Int),.int .i64 ((σ.full.length - σ.off:Nat):Int),.string ⟨#[]⟩,.slice none 0 0] 186)).setCell ⟨κ.mB,12,none⟩ (.pointer (some ⟨w2.heap.size,0,none⟩))) (w2.heap.size,σ.zf,σ.full.length - σ.off) false:=⟨by simp,fun _=>(Below.heap_setCell _ ⟨κ.mB,12,none⟩ _ w2.heap.size (by have:=M1.out.lt;show w2.heap.size≠κ.mB;omega)).trans (Zs w2 _)⟩;have F3:=ZU (V2.out.qT bA hsn SB);have T3:=ZU (htab _ (G2.out.trans F3.out.2.gw));have G3:=ZU (G2.out.trans F3.out.2.gw);refine hK.out _ _ ⟨A3.cl 0 _ rfl,M3.cl 1 _ rfl,by rw [Ow.out];exact M3.cl 11 _ rfl⟩ (fun YA=>?_);have c0:=A3.cl 0 _ rfl;have W2:=M3.cl 12 _ rfl;have p0:=P3.cl 0 _ rfl;clear hK K SB m12 f12 bA M2 A2 M3 A3 P3 Z9 YA;refine ZR (by kernel_rfl) ?_ _
 try simp only [Act.put,WV,WU,WT]
 generalize (w2.alloc _).setCell _ _=w3 at *
 go_wp2_with fail
 refine (Pf w3 ⟨#[115,116,97,114,116,101,100]⟩ σ.zf (by decide) hz T3.out).mono ?_;rintro e w4 ⟨rfl,b4⟩;have FIN:=ZU (And.intro (G3.out.trans (Gs.YZ b4).gw) (F3.out.1.below b4));clear b4 F3 T3 G3;go_wp2;go_ret;exact ⟨rfl,FIN.out.1,_,FIN.out.2⟩
theorem On (w:World) (sB mB:Nat) (b:Int) (hb:0≤b∧b≤1) (h0:w.cell? ⟨sB,0,none⟩=some (.pointer (some ⟨mB,0,none⟩))) (h7:w.cell? ⟨mB,7,none⟩=some (.int .i64 b)) :
    Calls Tryz.prog 123 #[.pointer (some ⟨sB,0,none⟩)] w (Wj w (.int .i64 (1 - b))):=by
 go_enter Tryz.func123,Tryz.ntmps123
 go_wp2;go_ret;exact ⟨rfl,Yy⟩
theorem JI (w:World) (pB:Nat) (v:Value) (ns:List Nd) (h2:w.cell? ⟨pB,2,none⟩=some (.string ⟨#[]⟩)) (h:SK w v ns) (hn:ns.length≤1000) (hL:Low ns ⟨#[]⟩ 0) (hf:NM ns ⟨#[]⟩ 0=false) :
    Calls Tryz.prog 121 #[.pointer (some ⟨pB,0,none⟩),v] w (Wj w v):=by
 have HF:=ZU (P9 w v ns ⟨#[]⟩ 0 h hn hL);rw [hf] at HF;obtain ⟨ao,cp,rfl,h1,h3⟩:=h.len;clear h hL hf
 go_enter Tryz.func121,Tryz.ntmps121
 go_wp2_with fail
 refine HF.out.mono ?_;rintro e w1 ⟨rfl,b1⟩;have B1:=ZU b1;clear b1 HF h2
 go_wp2_with fail
 exact ⟨rfl,_,by kernel_rfl,rfl,B1.out⟩
theorem uP (w:World) (pB:Nat) (c0 c1:Value) (v:Value) (ns:List Nd) (hs:St w pB [c0,c1,.string ⟨#[]⟩,.slice none 0 0]) (h:SK w v ns) (hn:ns.length≤1000) (hp:∀q,v.ownBlock=some q→q≠pB) (hok:∀i,i<ns.length→Wl (Ye ns i)=true) (hl:(ns.flatMap Vy).length≤1000000) :
    Calls Tryz.prog 122 #[.pointer (some ⟨pB,0,none⟩),v] w fun e w'=>e=.returned (.tuple #[])∧∃l' v',St w' pB [c0,c1,.string l',v']∧Own .u8 5 w' w.heap.size v' (ns.flatMap Vy)∧w.grownBy w' (some pB):=by
 obtain ⟨ao,cp,rfl,h1,h3,h4⟩:=h;have HR:=ZU h4;have HS:=ZU hs;have HP:=ZU hp;have HK:=ZU hok;have HL:=ZU hl;have hlt:=hs.lt;clear h4 hs hp hok hl
 go_enter Tryz.func122,Tryz.ntmps122
 go_wp2_with fail
 go_loopw [9] (fun v9 wr=>∃(i:Nat) (l':ByteArray) (v':Value),v9=.int .i64 (i:Int)∧i≤ns.length∧Hid (St wr pB [c0,c1,.string l',v'])∧Hid (Own .u8 5 wr w.heap.size v' ((ns.take i).flatMap Vy))∧Hid (w.grownBy wr (some pB))) (fun v _=>((ns.length:Int) - intOf v).toNat)
 case atStart=>exact ⟨0,⟨#[]⟩,.slice none 0 0,rfl,Zu _,HS,ZH _ _ _ _,Zz _ _⟩
 case round =>
  obtain ⟨i,l',v',rfl,hi,SH,OH,GH⟩:=hrel
  by_cases hc:i<ns.length
  · obtain ⟨b,off,rfl,hb,hcl⟩:=HR.out.resolve_left (fun e=>by rw [e] at hc;simp at hc)
    have hbp:=HP.out b rfl;have e9:∀j,wr.cell? ⟨b,j,none⟩=w.cell? ⟨b,j,none⟩:=fun j=>ZP (w:=w) (a:=⟨b,j,none⟩) (GH.out.block b hb (fun e=>hbp (by injection e)))
    have hN:=hcl i hc;have k0:=(e9 _).trans hN.c0;have k1:=(e9 _).trans hN.c1;have k2:=(e9 _).trans hN.c2;have k3:=(e9 _).trans hN.c3;have k4:=(e9 _).trans hN.c4;have k5:=(e9 _).trans hN.c5;have k6:=(e9 _).trans hN.c6;have Xo:=HK.out i hc;have p3:=SH.out.cl 3 _ rfl;have hle:((ns.take (i+1)).flatMap Vy)=((ns.take i).flatMap Vy)++Vy (Ye ns i):=by
     rw [YW hc,XZ,WF hc];simp
    have hll:((ns.take i).flatMap Vy).length≤1000000:=by
     refine ZJ ?_ HL.out
     conv=>rhs;rw [←YQ i ns,XZ,ZZ]
     omega
    have lX:=ZU hle;have Xn:=ZU hll;have gs:=GH.out.size;have hpw:=SH.out.lt;clear hcl e9 hN hle hll;generalize hnd:Ye ns i=nd at *;have HB:=ZU (Lo.new wr (.cells #[.string nd.path,.string nd.data,.int .i64 nd.XT,.int .i64 nd.XQ,.int .i64 nd.cz,.int .i64 nd.mz,.int .i64 nd.pz] 147) nd);have hb2:=((Below.refl wr.heap.size wr).alloc YR (.cells #[.string nd.path,.string nd.data,.int .i64 nd.XT,.int .i64 nd.XQ,.int .i64 nd.cz,.int .i64 nd.mz,.int .i64 nd.pz] 147)).alloc (by simp) (.cells #[.string nd.path,.string nd.data,.int .i64 nd.XT,.int .i64 nd.XQ,.int .i64 nd.cz,.int .i64 nd.mz,.int .i64 nd.pz] 149);have PB:Hid (((wr.alloc (.cells #[.string nd.path,.string nd.data,.int .i64 nd.XT,.int .i64 nd.XQ,.int .i64 nd.cz,.int .i64 nd.mz,.int .i64 nd.pz] 147)).alloc (.cells #[.string nd.path,.string nd.data,.int .i64 nd.XT,.int .i64 nd.XQ,.int .i64 nd.cz,.int .i64 nd.mz,.int .i64 nd.pz] 149)).heap[wr.heap.size]?=some (.cells #[.string nd.path,.string nd.data,.int .i64 nd.XT,.int .i64 nd.XQ,.int .i64 nd.cz,.int .i64 nd.mz,.int .i64 nd.pz] 147)):=(Below.heap_alloc _ _ _ (by simp)).trans (Zs wr _);have HC:=ZU (PC _ w.heap.size v' _ (wr.heap.size+1) nd (OH.out.below hb2) (ZJ gs hb2.size) Xn.out HB.out Xo);have Ya:=ZU (SH.out.below hb2);have Z8:=ZU hb2;clear hb2
    go_wp2_with fail
    refine HC.out.mono ?_;rintro e w3 ⟨v3,rfl,o3,b3,X'⟩;obtain ⟨a3,q3,rfl⟩:=o3.slice;have Zb:=Ya.out.Xe b3 hlt;have n3:=X'.box PB.out (by decide);have X9:w.grownBy w3 (some pB):=⟨b3.os.trans (Z8.out.os.trans GH.out.os),b3.tape.trans (Z8.out.tape.trans GH.out.tape),b3.output.trans (Z8.out.output.trans GH.out.output),ZJ gs (ZJ Z8.out.size b3.size),fun q hq hne=>(b3.block q hq).trans ((Z8.out.block q (ZY hq gs)).trans (GH.out.block q hq hne))⟩;have hnb:wr.heap.size≠pB:=by omega
    have f3:=Zb.fz 3;have Wu:=Zb.cl 3 _ rfl;have Y':=Zb.set 3 (.slice a3 (((ns.take i).flatMap Vy)++Vy nd).length q3);have n4:(w3.setCell ⟨pB,3,none⟩ (.slice a3 (((ns.take i).flatMap Vy)++Vy nd).length q3)).cell? ⟨wr.heap.size,0,none⟩=some (.string nd.path):=by
     rw [ZV _ _ _ _ (by intro e;injection e with e1;first | exact hnb e1 | exact hnb e1.symm),cell_of n3 0]
     rfl
    have f2:=Y'.fz 2;have Wt:=Y'.cl 2 _ rfl;have Xm:=ZU (Y'.set 2 (.string nd.path));have Xl:=ZU (grownBy_set w _ pB 2 (.string nd.path) (grownBy_set w w3 pB 3 (.slice a3 (((ns.take i).flatMap Vy)++Vy nd).length q3) X9));have O5:=ZU ((o3.setAt (g:=pB) (j:=3) (u:=.slice a3 (((ns.take i).flatMap Vy)++Vy nd).length q3) (.inr (above o3 hlt))).setAt (g:=pB) (j:=2) (u:=.string nd.path) (.inr (above o3 hlt)));generalize hX:((ns.take i).flatMap Vy)++Vy nd=X at *;clear Zb Y' o3 b3 X' n3 X9 HC HB PB Ya Z8 SH OH GH k0 k1 k2 k3 k4 k5 k6
    go_wp2_with fail
    refine ⟨⟨i+1,_,_,by go_num,by omega,Xm,?_,Xl⟩,by simp [intOf];omega⟩;show Own _ _ _ _ _ _;rw [lX.out];exact O5.out
  have hie:i=ns.length:=by omega
  subst hie;rw [Xp] at OH
  go_wp2_with fail
  exact ⟨rfl,_,by kernel_rfl,rfl,l',v',SH.out,OH.out,GH.out⟩
theorem uO {P:Program} {c:Code} {Q Q':Exit→Act→World→Prop} {a:Act} {w:World} (h:GI P c Q a w) (hq:∀e a w,Q e a w→Q' e a w):GI P c Q' a w:=fun b k cs hb =>
 let ⟨e,a',w',q,r⟩:=h b k cs hb
 ⟨e,a',w',hq _ _ _ q,r⟩
theorem qS {P:Program} {x y:Code} {Q:Exit→Act→World→Prop} {a:Act} {w:World} (R:Act→World→Prop) (h2:∀a w,R a w→GI P y Q a w) (h1:GI P x (Exit.then R Q) a w):GI P (Code.seq x y) Q a w :=
 Bj (uO h1 fun e a w h=>by
  cases e with
  | normal=>exact h2 a w h
  | _=>exact h)
theorem y7 {ns:List Nd} (h:∀i,i<ns.length→0<(Ye ns i).path.size):Low ns ⟨#[]⟩ 0∧NM ns ⟨#[]⟩ 0=false:=by
 have hc:∀p:ByteArray,0<p.size→¬PD p ⟨#[]⟩<0∧PD p ⟨#[]⟩≠0:=by
  intro p hp;unfold PD;have:0<p.data.toList.length:=by rw [YJ];exact hp
  cases hl:p.data.toList with
  | nil=>rw [hl] at this;simp at this
  | cons x xs=>constructor <;> simp [Lib.compareBytes]
 refine ⟨⟨Zu _,fun i hi=>by omega,fun i _ hi=>(hc _ (h i hi)).1⟩,?_⟩;unfold NM
 by_cases h0:0<ns.length
 · have:=(hc _ (h 0 h0)).2
   simp [this]
 simp at h0
 simp [h0]
theorem IW {w:World} {v:Value} {ns:List Nd} (h:SK w v ns) (hn:ns≠[]):∀q,v.ownBlock=some q→q<w.heap.size:=by
 obtain ⟨ao,cp,rfl,h1,h2,h3⟩:=h;obtain ⟨b,off,rfl,hb,-⟩:=h3.resolve_left hn;intro q hq
 simp only [Value.ownBlock,ZK] at hq
 omega
theorem uN {k:IntKind} {w:World} {v:Value} {xs:List Int} (h:Rd k w v xs) (hn:0<xs.length):∀q,v.ownBlock=some q→q<w.heap.size:=by
 obtain ⟨ao,cp,rfl,h1,h2,h3⟩:=h;obtain ⟨b,off,rfl,hb,-⟩:=h3.resolve_left (fun e=>by rw [e] at hn;simp at hn);intro q hq
 simp only [Value.ownBlock,ZK] at hq
 omega
theorem Sv.boxed {κ:Sc} {σ:Sx} {w W:World} {b:Nat} (h:Sv κ σ w) (hb:Zi w W) (h1:w.heap.size≤b) (h2:b<W.heap.size) (hT:σ.T≠[]) (hQ:σ.Q≠[]):Sv { κ with X:=b :: κ.X } σ W:=by
 have hW:=h.below hb;obtain ⟨vd,made,YL,a1,a2,a3,a4,a5⟩:=h.dk;obtain ⟨vt,vq,cp,b1,b2,b3,b4,b5,b6,b7,b8⟩:=h.mm;obtain ⟨Lv,s,r,c1,c2,c3⟩:=h.ch;have hlb:κ.lb<w.heap.size:=(b7.lt κ.lb rfl).2;have hcb:κ.c<w.heap.size:=(Z3.mp c1).1;have hmb:=b1.lt;have hsb:=a1.lt;have far:∀v,Pg κ v→(∀q,v.ownBlock=some q→q<w.heap.size)→Pg { κ with X:=b :: κ.X } v:=fun v hv hl q hq =>
  ⟨(hv q hq).1,(hv q hq).2.1,(hv q hq).2.2.1,(hv q hq).2.2.2.1,by
   have:=hl q hq
   simp only [Y9,not_or]
   exact ⟨by omega,(hv q hq).2.2.2.2⟩⟩
 refine ⟨h.ne,fun x hx=>?_,⟨vd,made,YL,a1.below hb,a2.below hb,a3,a4,far vd a5 (fun q hq=>(ZT a2 q hq).2)⟩,⟨vt,vq,cp,b1.below hb,b2.below hb,b3.below hb,b4,far vt b5 (IW b2 hT),far vq b6 (IW b3 hQ),b7.below hb,b8⟩,⟨Lv,s,r,(hb.block _ hcb).trans c1,⟨c2.1,fun i hi=>⟨(c2.2 i hi).1.below hb,(c2.2 i hi).2⟩⟩,fun i hi=>far _ (c3 i hi) (uN (c2.2 i hi).1 (c2.2 i hi).2)⟩,fun p hp=>?_,fun g hg=>?_⟩
 · simp only [Y9] at hx
   rcases hx with rfl | hx
   · exact ⟨h2,by show _≠κ.sB;omega,by show _≠κ.mB;omega,by show _≠κ.c;omega,by show _≠κ.lb;omega⟩
   exact ⟨ZY (h.fx x hx).1 hb.size,(h.fx x hx).2⟩
 · obtain ⟨p1,p2,p3,p4,p5,p6⟩:=h.sn p hp
   refine ⟨p1.same (hb.block _ p1.lt),p2,p3,p4,p5,?_⟩;have:=p1.lt
   simp only [Y9,not_or]
   exact ⟨by omega,p6⟩
 obtain ⟨q1,q2,q3,q4,q5,q6⟩:=h.pw g hg;have hl:=(Z3.mp q1).1;refine ⟨(hb.block g hl).trans q1,q2,q3,q4,q5,?_⟩
 simp only [Y9,not_or]
 exact ⟨by omega,q6⟩
theorem Sv.qR {κ:Sc} {σ:Sx} {w:World} {b j:Nat} {x:Value} (h:Sv { κ with X:=b :: κ.X } σ w):Sv κ σ (w.setCell ⟨b,j,none⟩ x):=by
 obtain ⟨vd,made,YL,a1,a2,a3,a4,a5⟩:=h.dk;obtain ⟨vt,vq,cp,b1,b2,b3,b4,b5,b6,b7,b8⟩:=h.mm;obtain ⟨Lv,s,r,c1,c2,c3⟩:=h.ch;obtain ⟨f0,f1,f2,f3,f4⟩:=h.fx b (by simp);have hs:w.heap.size≤(w.setCell ⟨b,j,none⟩ x).heap.size:=by simp
 have hbl:∀q,q≠b→(w.setCell ⟨b,j,none⟩ x).heap[q]?=w.heap[q]?:=fun q hn=>Below.heap_setCell w ⟨b,j,none⟩ x q hn
 have nb:∀v,Pg { κ with X:=b :: κ.X } v→∀q,v.ownBlock=some q→q≠b:=fun v hv q hq e=>(hv q hq).2.2.2.2 (by rw [e];simp)
 have far:∀v,Pg { κ with X:=b :: κ.X } v→Pg κ v:=fun v hv q hq=>⟨(hv q hq).1,(hv q hq).2.1,(hv q hq).2.2.1,(hv q hq).2.2.2.1,fun e=>(hv q hq).2.2.2.2 (by simp [e])⟩
 refine ⟨h.ne,fun y hy=>?_,⟨vd,made,YL,Wo a1 hs (hbl _ (Ne.symm f1)),a2.setAt (.inr (fun e=>nb vd a5 b e rfl)),a3,a4,far vd a5⟩,⟨vt,vq,cp,Wo b1 hs (hbl _ (Ne.symm f2)),VM b2 hs (fun q hq _=>hbl q (nb vt b5 q hq)),VM b3 hs (fun q hq _=>hbl q (nb vq b6 q hq)),b4,far vt b5,far vq b6,b7.setAt (.inr (by simp [Value.ownBlock];exact fun e=>f4 e.symm)),b8⟩,⟨Lv,s,r,(hbl _ (Ne.symm f3)).trans c1,⟨c2.1,fun i hi=>⟨Rg (c2.2 i hi).1 hs (fun q hq _=>hbl q (nb _ (c3 i hi) q hq)),(c2.2 i hi).2⟩⟩,fun i hi=>far _ (c3 i hi)⟩,fun p hp=>?_,fun g hg=>?_⟩
 · have:=h.fx y (by simp [hy])
   exact ⟨ZY this.1 hs,this.2⟩
 · obtain ⟨p1,p2,p3,p4,p5,p6⟩:=h.sn p hp
   exact ⟨p1.same (hbl _ (fun e=>p6 (by simp [e]))),p2,p3,p4,p5,fun e=>p6 (by simp [e])⟩
 obtain ⟨q1,q2,q3,q4,q5,q6⟩:=h.pw g hg;exact ⟨(hbl g (fun e=>q6 (by simp [e]))).trans q1,q2,q3,q4,q5,fun e=>q6 (by simp [e])⟩
theorem Sv.other {κ:Sc} {σ:Sx} {w w':World} {b:Nat} (h:Sv κ σ w) (hx:b ∈ κ.X) (hg:w.grownBy w' (some b)):Sv κ σ w':=by
 obtain ⟨vd,made,YL,a1,a2,a3,a4,a5⟩:=h.dk;obtain ⟨vt,vq,cp,b1,b2,b3,b4,b5,b6,b7,b8⟩:=h.mm;obtain ⟨Lv,s,r,c1,c2,c3⟩:=h.ch;obtain ⟨f0,f1,f2,f3,f4⟩:=h.fx b hx;have hs:=hg.size;have hbl:∀q,q<w.heap.size→q≠b→w'.heap[q]?=w.heap[q]?:=fun q hq hn=>hg.block q hq (fun e=>hn (by injection e))
 have nb:∀v,Pg κ v→∀q,v.ownBlock=some q→q≠b:=fun v hv q hq e=>(hv q hq).2.2.2.2 (by rw [e];exact hx)
 have hcb:κ.c<w.heap.size:=(Z3.mp c1).1;refine ⟨h.ne,fun y hy=>⟨ZY (h.fx y hy).1 hs,(h.fx y hy).2⟩,⟨vd,made,YL,Wo a1 hs (hbl _ a1.lt (Ne.symm f1)),Zn a2 hg (.inr (fun e=>nb vd a5 b e rfl)),a3,a4,a5⟩,⟨vt,vq,cp,Wo b1 hs (hbl _ b1.lt (Ne.symm f2)),VM b2 hs (fun q hq hl=>hbl q hl (nb vt b5 q hq)),VM b3 hs (fun q hq hl=>hbl q hl (nb vq b6 q hq)),b4,b5,b6,UI.kept b7 hg (.inr (by simp [Value.ownBlock];exact fun e=>f4 e.symm)),b8⟩,⟨Lv,s,r,(hbl _ hcb (Ne.symm f3)).trans c1,⟨c2.1,fun i hi=>⟨Rg (c2.2 i hi).1 hs (fun q hq hl=>hbl q hl (nb _ (c3 i hi) q hq)),(c2.2 i hi).2⟩⟩,c3⟩,fun p hp=>?_,fun g np=>?_⟩
 · obtain ⟨p1,p2,p3,p4,p5,p6⟩:=h.sn p hp
   exact ⟨p1.same (hbl _ p1.lt (fun e=>p6 (by rw [e];exact hx))),p2,p3,p4,p5,p6⟩
 obtain ⟨q1,q2,q3,q4,q5,q6⟩:=h.pw g np;exact ⟨(hbl g (Z3.mp q1).1 (fun e=>q6 (by rw [e];exact hx))).trans q1,q2,q3,q4,q5,q6⟩
theorem Om (w:World) (base:Nat) (ty:TypeId) (v:Value) (xs:List Int) (s:ByteArray) (h:Own .u8 5 w base v xs) (hs:0<s.size) (hl:xs.length+s.size≤1048576) (hb:base≤w.heap.size) :
    ∃v' w',(Builtin.append_ #[22,9] ty #[v,.string s]).run Tryz.prog w=.ok v' w'∧Own .u8 5 w' base v' (xs++U0 s) ∧
     ((v'.ownBlock=v.ownBlock∧w.grownBy w' v.ownBlock)∨(Zi w w'∧∀g,v'.ownBlock=some g→w.heap.size≤g)):=by
 obtain ⟨i0,hi,hz0,hz1,hz2⟩:=YN Tryz.QZ;have h63:xs.length+s.size≤maxLen:=by unfold maxLen;omega
 have hxl:(xs.map (Value.int .u8)).length=xs.length:=Zl ..;have hlen:(xs.map (Value.int .u8)++Lib.strCells s).length=(xs.length+s.size)*1:=by rw [ZZ,hxl,Us,Yr]
 have eO:∀(W:World) (u:Value),W.ownsRow base 5 1 u (xs.length+s.size) (xs.map (Value.int .u8)++Lib.strCells s)→Own .u8 5 W base u (xs++U0 s):=fun W u hu=>by
  show World.ownsRow _ _ _ _ _ _ _;rw [ZZ,Wq,Y6,←Qb];exact hu
 have grown:∀(old:Nat),old<xs.length+s.size →
     (w.drew.alloc (.cells ((xs.map (Value.int .u8)).toArray++(Lib.strCells s).toArray++Builtin.zeroCells (Value.int .u8 0).cells (grownCap w (xs.length+s.size) old 5 - (xs.length+s.size))) 5)).ownsRow base 5 1
      (.slice (some ⟨w.heap.size,0,none⟩) (xs.length+s.size) (grownCap w (xs.length+s.size) old 5)) (xs.length+s.size) (xs.map (Value.int .u8)++Lib.strCells s) ∧
     Zi w (w.drew.alloc (.cells ((xs.map (Value.int .u8)).toArray++(Lib.strCells s).toArray++Builtin.zeroCells (Value.int .u8 0).cells (grownCap w (xs.length+s.size) old 5 - (xs.length+s.size))) 5)):=by
  intro old ho;have hge:=Tq w (xs.length+s.size) old 5;have hcm:grownCap w (xs.length+s.size) old 5≤maxLen:=We w (xs.length+s.size) old 5 h63;refine ⟨⟨hlen,.inr ⟨w.heap.size,_,_,rfl,hb,Zs w.drew _,hge,hcm,?_,?_⟩⟩,⟨rfl,rfl,rfl,by simp,fun k hk=>Below.heap_alloc w.drew _ k hk⟩⟩
  · have hz1':(Value.int IntKind.u8 0).cells.size=1:=rfl
    simp only [TJ,ZI,TO,hz1',hxl,Us]
    omega
  simp only [Vx,ZO]
  rw [←ZO,←hlen];exact W8
 have h':=h
 rcases h.2 with ⟨rfl,h0⟩ | ⟨g,cap,cur,rfl,hbg,hg,hnc,hcm,hcs,htake⟩
 · have hx:xs=[]:=Zg h0
   subst hx;have hr:=run_append_nil_string (P:=Tryz.prog) w 22 9 ty 5 i0 (.int .u8 0) Tryz.underlying22 Tryz.underlying9 hi hz0 s (by omega) (by simp at hl;omega) (by rw [hz2];simp at hl;omega);have hgr:=grown 0 (by simp;omega);have e1:(s.data.map fun b=>Value.int .u8 b.toNat)=(Lib.strCells s).toArray:=by
    apply UW
    simp [Lib.strCells]
   rw [e1] at hr
   simp only [Y7,Za,WO,Zd,Array.empty_append] at hgr
   refine ⟨_,_,hr,eO _ _ ?_,.inr ⟨hgr.2,fun g hg=>?_⟩⟩
   · simpa using hgr.1
   simp only [Value.ownBlock,ZK] at hg;omega
 by_cases hroom:xs.length+s.size≤cap
 · have hcs':cur.size=cap:=by simpa using hcs
   have hr:=Lib.run_append_room_string (P:=Tryz.prog) w 22 9 ty 5 i0 Tryz.underlying22 Tryz.underlying9 hi hz1 g xs.length cap cur hg s hroom (by omega);refine ⟨_,_,hr,eO _ _ ⟨hlen,.inr ⟨g,cap,_,rfl,hbg,WB w g cur _ 5 _ hg,hroom,hcm,?_,?_⟩⟩,.inl ⟨rfl,⟨rfl,rfl,rfl,by simp,fun k _ hk=>Ua w g k _ (fun e=>hk (by simp [Value.ownBlock,e]))⟩⟩⟩
   · simp only [ZI,ZZ,Zw,ZS,YJ,Us]
     omega
   have ht':cur.toList.take xs.length=xs.map (Value.int .u8):=by simpa using htake
   rw [ht',←hlen];exact W8
 have holds:∀j u,(xs.map (Value.int .u8))[j]?=some u→w.cell? ((⟨g,0,none⟩:Addr).add j)=some u:=Ys (g:=g) h' rfl;have hr:=UE (P:=Tryz.prog) w 22 9 ty 5 i0 (.int .u8 0) Tryz.underlying22 Tryz.underlying9 hi hz0 ⟨g,0,none⟩ xs.length cap (xs.map (Value.int .u8)) (by rw [hz1,hxl,Yr]) holds s (by omega) (by omega) (by rw [hz2];exact U2 (by omega) (by omega));have hgr:=grown cap (by omega);refine ⟨_,_,hr,eO _ _ hgr.1,.inr ⟨hgr.2,fun g hg=>?_⟩⟩
 simp only [Value.ownBlock,ZK] at hg;omega
theorem OI {F:Fence} {n:Nat} {w:World} {ops:Array Oper} {rest:List Oper} {o:Oper} {a:Act} {Q:Exit→Act→World→Prop}
    (hg:o.guard=none) (sl x:Operand) (hop:o.op=Op.call { callee:=Callee.builtin Builtin.append,args:=#[sl,x],argTypes:=#[22,9] })
    (base:Nat) (v:Value) (xs:List Int) (s:ByteArray) (hs:a.eval sl=v) (hx:a.eval x=.string s) (h:Own .u8 5 w base v xs) (hs0:0<s.size) (hl:xs.length+s.size≤1048576) (hb:base≤w.heap.size)
    (hK:∀v' w',Own .u8 5 w' base v' (xs++U0 s)→((v'.ownBlock=v.ownBlock∧w.grownBy w' v.ownBlock)∨(Zi w w'∧∀g,v'.ownBlock=some g→w.heap.size≤g))→wpListIn F n Tryz.prog ops Q rest (a.put o.dst v') w') :
    wpListIn F n Tryz.prog ops Q (o :: rest) a w:=by
 refine Sf hg fun K hK'=>?_
 obtain ⟨v',w',hrun,r1,r2⟩:=Om w base o.type v xs s h hs0 hl hb;unfold Oper.wpIn;refine ⟨?_,?_⟩
 · simp [Oper.about,hop,resolve,Target.leads,Ww]
 rw [Oper.semAt_plain F _ _ (by rw [hop];intro c hc';cases hc')]
 simp [execOp,hop,resolve,invoke,builtin,hs,hx,hrun,Result.andThen]
 exact hK' _ _ (hK v' w' r1 r2)
theorem LP {F:Fence} {nF:Nat} {op:Oper} {a:Act} {w:World} {K:Act→World→Prop} {Q:Exit→Act→World→Prop} (hro:F.round=none) (sl x:Operand) (hop:op.op=Op.call { callee:=Callee.builtin Builtin.append,args:=#[sl,x],argTypes:=#[22,9] })
    (base:Nat) (v:Value) (xs:List Int) (s:ByteArray) (hs:a.eval sl=v) (hx:a.eval x=.string s) (h:Own .u8 5 w base v xs) (hs0:0<s.size) (hl:xs.length+s.size≤1048576) (hb:base≤w.heap.size)
    (hK:∀v' w',Own .u8 5 w' base v' (xs++U0 s)→((v'.ownBlock=v.ownBlock∧w.grownBy w' v.ownBlock)∨(Zi w w'∧∀g,v'.ownBlock=some g→w.heap.size≤g))→K (a.put op.dst v') w') :
    op.wpIn F nF Tryz.prog a w K Q:=by
 obtain ⟨v',w',hrun,r1,r2⟩:=Om w base op.type v xs s h hs0 hl hb;unfold Oper.wpIn;refine ⟨?_,?_⟩
 · simp [Oper.about,hop,resolve,Target.leads,Ww]
 rw [hro,Oper.semAt_none]
 simp [execOp,hop,resolve,invoke,builtin,hs,hx,hrun,Result.andThen]
 exact hK v' w' r1 r2
theorem Rz (κ:Sc) (σ:Sx) (p:Sx→Prop) (w:World) (h:Sv κ σ w) (hT:σ.T≠[]) (hQ:σ.Q≠[]) (kd:Int) (k0:kd≠0) (k8:kd≠8) (k10:kd≠10) (k11:kd≠11) (vo vn:Value) (mu:Bool) (pa s:ByteArray)
    (hU:∀W,Sv { κ with X:=(w.heap.size+2) :: κ.X } σ W→Zi w W→Calls Tryz.prog 34 #[.pointer (some ⟨κ.sB,0,none⟩),.agg #[.int .i64 kd,vo,.bool mu,.string pa,vn]] W fun e w'=>e=.returned (.string s)∧Gw { κ with X:=(w.heap.size+2) :: κ.X } W w'∧∃ σ',p σ'∧Sv { κ with X:=(w.heap.size+2) :: κ.X } σ' w') :
    Calls Tryz.prog 14 #[.pointer (some ⟨κ.sB,0,none⟩),.agg #[.int .i64 kd,vo,.bool mu,.string pa,vn]] w fun e w'=>e=.returned (.string s)∧Gw κ w w'∧∃ σ',p σ'∧Sv κ σ' w':=by
 have HU:=ZU hU;have HV:=ZU h;obtain ⟨vd,made,YL,a1,-⟩:=h.dk;have c0:w.cell? ⟨κ.sB,0,none⟩=some (.pointer (some ⟨κ.mB,0,none⟩)):=a1.cl 0 _ rfl;have hsb:=a1.lt;have hb3:=(((Below.refl w.heap.size w).alloc YR (.cells #[.pointer (some ⟨κ.sB,0,none⟩)] 34)).alloc (by simp) (.cells #[.int .i64 kd,vo,.bool mu,.string pa,vn] 43)).alloc (by simp;omega) (.cells #[.string ⟨#[]⟩] 9);have c3:=(hb3.cell (p:=⟨κ.sB,0,none⟩) hsb).trans c0;have V3:=ZU (HV.out.boxed hb3 (show w.heap.size≤w.heap.size+2 by omega) (by simp) hT hQ);have HC:=ZU (HU.out _ V3.out hb3);have W1:=hb3.size;clear hU h a1 c0;refine calls_of_wp_defers Tryz.func14 rfl ?_
 simp only [Tryz.ntmps14,ZI,ZE,Y7,Nat.reduceAdd,Nat.reduceSub,YV,YU,YI,YT,Zd,Y3]
 go_wp2_with fail
 refine HC.out.mono ?_;rintro e w4 ⟨rfl,G4,σ',hp',V4⟩;obtain ⟨f0,f1,f2,f3,f4⟩:=V3.out.fx (w.heap.size+2) (by simp);have n4:w4.heap[w.heap.size+1+1]?=some (.cells #[.string ⟨#[]⟩] 9):=by
  have n3:(((w.alloc (.cells #[.pointer (some ⟨κ.sB,0,none⟩)] 34)).alloc (.cells #[.int .i64 kd,vo,.bool mu,.string pa,vn] 43)).alloc (.cells #[.string ⟨#[]⟩] 9)).heap[w.heap.size+2]?=some (.cells #[.string ⟨#[]⟩] 9):=by
   have:=Zs ((w.alloc (.cells #[.pointer (some ⟨κ.sB,0,none⟩)] 34)).alloc (.cells #[.int .i64 kd,vo,.bool mu,.string pa,vn] 43)) (.cells #[.string ⟨#[]⟩] 9)
   simpa using this
  refine (G4.block (w.heap.size+2) f0 f1 f2 f3 f4 (by rw [cell_of n3 3];simp) (by rw [cell_of n3 1];simp)).trans ?_;have:=Zs ((w.alloc (.cells #[.pointer (some ⟨κ.sB,0,none⟩)] 34)).alloc (.cells #[.int .i64 kd,vo,.bool mu,.string pa,vn] 43)) (.cells #[.string ⟨#[]⟩] 9)
  simpa using this
 have n5:w4.cell? ⟨w.heap.size+1+1,0,none⟩=some (.string ⟨#[]⟩):=cell_of n4 0;have n6:w4.frozen? ⟨w.heap.size+1+1,0,none⟩=false:=by simp [World.frozen?,n4]
 have V5:Hid (Sv κ σ' (w4.setCell ⟨w.heap.size+1+1,0,none⟩ (.string s))):=V4.qR;have G5:Hid (Gw κ w (w4.setCell ⟨w.heap.size+1+1,0,none⟩ (.string s))):=by
  have g:Gw κ w w4:=(Gs.YZ hb3).gw.trans ⟨G4.os,G4.tape,G4.output,G4.size,G4.block⟩;exact ⟨g.os,g.tape,g.output,by simpa using g.size,fun q hq a b c d e9 e8=>(Below.heap_setCell w4 ⟨w.heap.size+1+1,0,none⟩ _ q (by show q≠w.heap.size+1+1;exact fun e=>absurd hq (by rw [e];omega))).trans (g.block q hq a b c d e9 e8)⟩
 have n7:Hid ((w4.setCell ⟨w.heap.size+1+1,0,none⟩ (.string s)).cell? ⟨w.heap.size+1+1,0,none⟩=some (.string s)):=Zk _ _ _ n5;have n8:Hid (w.heap.size+1+1<(w4.setCell ⟨w.heap.size+1+1,0,none⟩ (.string s)).heap.size):=by
  have:=(Z3.mp n4).1;show _<_
  simpa using this
 clear G4 V4 V3 HC c3 hb3 HU HV n4
 go_wp2_with fail
 refine XE (f:=28) (args:=#[.pointer (some ⟨w.heap.size,0,none⟩),.pointer (some ⟨w.heap.size+1+1,0,none⟩)]) (by simp) (by simp [go_sem]) ?_;refine (zj _ _ _).mono ?_;rintro e u' w6 ⟨rfl,rfl,b6⟩;have n9:=(b6.cell (p:=⟨w.heap.size+1+1,0,none⟩) n8.out).trans n7.out;have FIN:=ZU (And.intro (G5.out.trans (Gs.YZ b6).gw) (show ∃ σ',p σ'∧Sv κ σ' w6 from ⟨σ',hp',V5.out.below b6⟩));clear b6 n7 n8 G5 V5
 simp [Leaves,settle,results,Tryz.results14,go_sem,n9]
 exact FIN.out
theorem Ev (w : World) (s : ByteArray) (y z : Nat) (hs : s.size ≤ 1000) (hy : y < 1000000) (hz : z < 1000000) (htab : Lib.TabIs Tryz.prog w "internal/strconv.uint64pow10" .u64 Lib.pow10Tab) :
    Calls Tryz.prog 71 #[.string s,.slice (some ⟨w.heap.size,0,none⟩) 2 2] (w.alloc (.cells #[.int .i64 (y:Int),.int .i64 (z:Int)] 2)) (Wj w (.string (strOfNums (VS s [y,z])))):=by
 have hb:=(Below.refl w.heap.size w).alloc YR (.cells #[.int .i64 (y:Int),.int .i64 (z:Int)] 2);refine (Ew _ s _ [y,z] ⟨_,2,rfl,YR,by decide,.inr ⟨w.heap.size,0,rfl,by simp,fun i hi=>?_⟩⟩ hs (by simp) (by simpa using ⟨hy,hz⟩) (Ra htab hb)).mono ?_
 · have:i=0∨i=1:=by simp at hi;omega
   rcases this with rfl | rfl
   all_goals
    rw [Yz _ w.heap.size _ _ _ _ (Zs w _)]
    rfl
 rintro e w' ⟨rfl,b⟩;exact ⟨rfl,WD hb b⟩
theorem Sv.taken {κ:Sc} {σ:Sx} {w w1:World} {s r:Nat} (h:Sv κ σ w) (hg:w.grownBy w1 (some κ.c)) (hc:w1.heap[κ.c]?=some (.chan κ.cap #[] false s r false)):Sv κ { σ with fs:=[] } w1∧Gs κ w w1:=by
 have G:=Gs.I1 (κ:=κ) hg (.inr (.inr (.inl rfl)));have hne:=h.ne;obtain ⟨vd,made,YL,a1,-⟩:=h.dk;refine ⟨h.re G rfl (hg.block _ a1.lt (by simp;exact fun e=>hne.2.1 e)) rfl (fun vt vq cp b1 b2 b3 b4 b5 b6 b7 b8=>⟨vt,vq,cp,Wo b1 hg.size (hg.block _ b1.lt (by simp;exact fun e=>hne.2.2.2.1 e)),b2,b3,b4,b5,b6,UI.kept b7 hg (.inr (by simp [Value.ownBlock];exact fun e=>hne.2.2.2.2.2 e.symm)),b8⟩) (fun Lv s' r' _ _ _=>⟨[],s,r,hc,⟨rfl,fun i hi=>by simp at hi⟩,fun i hi=>by simp at hi⟩),G⟩
theorem CG (κ:Sc) (σ:Sx) (w:World) (h:Sv κ σ w) (hf:σ.fs=[]) (hz:σ.zf<1000000) (htab:iR κ w) :
    Calls Tryz.prog 72 #[.pointer (some ⟨κ.sB,0,none⟩)] w fun e w'=>e=.returned (.string (strOfNums (VS ⟨#[102,108,117,115,104,101,100]⟩ [0,σ.zf])))∧Gs κ w w'∧Sv κ σ w':=by
 obtain ⟨vt,vq,cp,b1,-⟩:=h.mm;obtain ⟨vd,made,YL,a1,-⟩:=h.dk;obtain ⟨Lv,s,r,c1,c2,c3⟩:=h.ch;have HQ:=ZU (p9 w κ.sB κ.mB κ.c κ.cap s r false Lv σ.fs (a1.cl 0 _ rfl) (b1.cl 4 _ rfl) c1 c2 (by rw [hf];simp) (by rw [hf];simp));have HV:=ZU h;clear a1 b1 c1 c2 c3 h
 go_enter Tryz.func72,Tryz.ntmps72
 go_wp2_with fail
 refine HQ.out.mono ?_;rintro e w1 ⟨v3,rfl,-,g1,r',c1⟩;obtain ⟨V1,G1⟩:=HV.out.taken g1 c1;have Y8:Sv κ σ w1:=by
  have e:{ σ with fs:=[] }=σ:=by cases σ;simp at hf;subst hf;rfl
  rw [e] at V1;exact V1
 obtain ⟨YK,YH,V,b1,-⟩:=Y8.mm;obtain ⟨YG,H,Y0,a1,-⟩:=Y8.dk;have c0:=a1.cl 0 _ rfl;have m1:=b1.cl 1 _ rfl;have T1:=ZU (htab _ G1.gw);have F1:=ZU (And.intro G1 Y8);clear g1 c1 V1 G1 Y8 a1 b1 HQ HV;rw [hf]
 go_wp2_with fail
 refine (Ev w1 ⟨#[102,108,117,115,104,101,100]⟩ 0 σ.zf (by decide) (by decide) hz T1.out).mono ?_;rintro e w4 ⟨rfl,b4⟩;have FIN:=ZU (And.intro (F1.out.1.trans (Gs.YZ b4)) (F1.out.2.below b4));clear b4 F1 T1;go_wp2;go_ret;exact ⟨rfl,FIN.out⟩
theorem CF {P:Program} {w:World} {ops:Array Oper} {o:Oper} {a:Act} {K:Act→World→Prop} {Q:Exit→Act→World→Prop} {E:Prop} (hgd:o.guard=none) (s x:Operand) (t:TypeId)
    (ho:o.op=.call { callee:=.builtin .append,args:=#[s,x],argTypes:=#[t,t] }) (i:TypeInfo) (ht:P.underlying t=some (.slice 5)) (hi:P.info? 5=some i) (hsize:i.size=1)
    (g lo n cap:Nat) (xs:List Int) (hs:a.eval s=.slice (some ⟨g,lo,none⟩) n cap) (hn:xs.length=n) (hown:UI w (.slice (some ⟨g,lo,none⟩) n cap) xs)
    (ad:Addr) (c:Nat) (F:List Int) (hx:a.eval x=.slice (some ad) F.length c) (hnews:∀j u,(F.map (Value.int .u8))[j]?=some u→w.cell? (ad.add j)=some u) (hroom:n+F.length≤cap)
    (h:∀w',UI w' (.slice (some ⟨g,lo,none⟩) (n+F.length) cap) (xs++F)→w.grownBy w' (some g)→K (a.put o.dst (.slice (some ⟨g,lo,none⟩) (n+F.length) cap)) w') :
    if Region.wanted o (yielded ops a.tmps)=true then Oper.wp P o a w K Q else E:=by
 have hw:Region.wanted o (yielded ops a.tmps)=true:=by simp [Region.wanted,hgd]
 rw [Z0 hw];obtain ⟨g',lo',cp',pre,e1,h2,h3⟩:=hown
 simp only [ZC,ZK,Ym,VB] at e1
 obtain ⟨⟨rfl,rfl⟩,-,rfl⟩:=e1;rw [hn] at h3;have h3':w.ownsRow 0 5 1 (.slice (some ⟨g,0,none⟩) (lo+n) (lo+cap)) (lo+n) ((pre++xs).map (Value.int .u8)):=by
  have:=h3;unfold Own at this
  simpa [hn,h2] using this
 have hl:(F.map (Value.int .u8)).length=F.length*i.size:=by rw [hsize];simp
 have h1:∀u ∈ F.map (Value.int .u8),u.oneCell'=true:=Yi _ _;obtain ⟨w',hr,h4,h5⟩:=run_append_fits (P:=P) w 0 t o.type 5 i 1 ht hi hsize g (lo+n) (lo+cap) _ h3' ad F.length c (F.map (Value.int .u8)) (by simp) hnews h1 (by omega);have hcell:∀j,j<F.length→(w.cell? ⟨g,lo+n+j,none⟩).isSome=true∧w.frozen? ⟨g,lo+n+j,none⟩=false:=by
  rcases h3'.2 with ⟨e9,-⟩ | ⟨g9,gk,cur,e9,-,np,-,-,hcs,-⟩
  · simp at e9
  simp only [ZC,ZK,Ym,VB,Q0] at e9
  obtain ⟨rfl,rfl⟩:=e9;intro j hj
  constructor
  · rw [cell_of np]
    rw [Xj (by rw [hcs];omega)];rfl
  simp [World.frozen?,np]
 have r1:=run_append_room_cells (P:=P) (w:=w) t o.type 5 i ht hi g lo n cap ad F.length c (F.map (Value.int .u8)) hl hnews h1 hroom (fun j hj=>by rw [hsize,Yr];exact (hcell j (by simpa using hj)).1) (fun j hj=>by rw [hsize,Yr];exact (hcell j (by simpa using hj)).2);have r2:=run_append_room_cells (P:=P) (w:=w) t o.type 5 i ht hi g 0 (lo+n) (lo+cap) ad F.length c (F.map (Value.int .u8)) hl hnews h1 (by omega) (fun j hj=>by rw [hsize,Yr,Za];exact (hcell j (by simpa using hj)).1) (fun j hj=>by rw [hsize,Yr,Za];exact (hcell j (by simpa using hj)).2);have ew:w'=w.setCells g (lo+n*i.size) (F.map (Value.int .u8)):=by
  rw [hr] at r2;have e8:=r2
  simp only [Result.ok.injEq] at e8
  rw [e8.2,hsize,Yr,Yr,Za]
 rw [←ew] at r1;unfold Oper.wp execOp
 simp only [ho,resolve,invoke,builtin,XX,Ww,XH,WL,Yl,WO,hs,hx,r1]
 refine h w' ⟨g,lo,cap,pre,by rw [ZZ,hn],h2,?_⟩ h5;have e7:lo+(xs++F).length=lo+n+F.length:=by rw [ZZ,hn];omega
 rw [e7];exact QY (q:=lo+n+F.length) (by simp [h2,hn];omega) rfl (by rw [←ZO,Y6];exact h4)
theorem UI.gr {w W:World} {v:Value} {xs:List Int} {r0:Option Nat} {sB:Nat} (h:UI w v xs) (hg:Gr r0 sB w W) (hs:v.ownBlock≠some sB) (hr:v.ownBlock≠r0):UI W v xs:=by
 obtain ⟨g,lo,cp,pre,rfl,h2,h3⟩:=h;refine ⟨g,lo,cp,pre,rfl,h2,h3.1,h3.2.imp id ?_⟩;rintro ⟨q,cap,cur,e4,e5,e6,e7⟩;have hq:q=g:=by
  simp only [ZC,ZK,Ym] at e4
  omega
 subst hq;exact ⟨q,cap,cur,e4,e5,(hg.block q (Z3.mp e6).1 (fun e=>hs (by rw [←e];rfl)) (fun e=>hr e)).trans e6,e7⟩
theorem Sv.grown {κ:Sc} {σ:Sx} {w W:World} {cp:Nat} {F:List Int} (h:Sv κ σ w) (h0:σ.off=0) (hcp:κ.L*64≤(cp:Int)) (hg:w.grownBy W (some κ.lb)) (hw:UI W (.slice (some ⟨κ.lb,κ.lo,none⟩) (σ.full.length+F.length) cp) (σ.full++F)) :
    Sv κ { σ with full:=σ.full++F } (W.setCell ⟨κ.mB,11,none⟩ (.slice (some ⟨κ.lb,κ.lo,none⟩) (σ.full.length+F.length) cp))∧Gs κ w (W.setCell ⟨κ.mB,11,none⟩ (.slice (some ⟨κ.lb,κ.lo,none⟩) (σ.full.length+F.length) cp)):=by
 have hne:=h.ne;obtain ⟨vd,made,YL,a1,-⟩:=h.dk;have hs:w.heap.size≤(W.setCell ⟨κ.mB,11,none⟩ (.slice (some ⟨κ.lb,κ.lo,none⟩) (σ.full.length+F.length) cp)).heap.size:=by simpa using hg.size
 have hbl:∀q,q<w.heap.size→q≠κ.mB→q≠κ.lb→(W.setCell ⟨κ.mB,11,none⟩ (.slice (some ⟨κ.lb,κ.lo,none⟩) (σ.full.length+F.length) cp)).heap[q]?=w.heap[q]?:=fun q hq hn hl=>(Below.heap_setCell W ⟨κ.mB,11,none⟩ _ q hn).trans (hg.block q hq (fun e=>hl (by injection e)))
 have G:Gs κ w (W.setCell ⟨κ.mB,11,none⟩ (.slice (some ⟨κ.lb,κ.lo,none⟩) (σ.full.length+F.length) cp)):=⟨hg.os,hg.tape,hg.output,hs,fun q hq _ h2 _ h4=>hbl q hq h2 h4⟩;refine ⟨h.re G rfl (hbl _ a1.lt hne.1 hne.2.2.1) rfl (fun vt vq O b1 b2 b3 b4 b5 b6 b7 b8=>⟨vt,vq,cp,?_,b2,b3,b4,b5,b6,?_,hcp⟩) (fun Lv s r c1 c2 c3=>⟨Lv,s,r,(hbl _ (Z3.mp c1).1 hne.2.2.2.1.symm hne.2.2.2.2.2).trans c1,c2,c3⟩),G⟩
 · have e:=(Wo b1 hg.size (hg.block _ b1.lt (fun e=>hne.2.2.2.2.1 (by injection e)))).set 11 (.slice (some ⟨κ.lb,κ.lo,none⟩) (σ.full.length+F.length) cp)
   have e2:yG κ { σ with full:=σ.full++F } vt vq cp=(yG κ σ vt vq O).set 11 (.slice (some ⟨κ.lb,κ.lo,none⟩) (σ.full.length+F.length) cp):=by
    unfold yG
    simp only [h0,Si,Yj,ZZ,XY,List.set_cons_succ,List.set_cons_zero]
   rw [e2];exact e
 show UI _ (.slice _ (σ.full++F).length _) _;rw [ZZ];exact hw.setAt (.inr (by simp [Value.ownBlock];exact fun e=>hne.2.2.2.2.1 e.symm))
theorem Sv.qQ {κ:Sc} {σ:Sx} {w:World} {vt vq:Value} {cp:Nat} (h:Sv κ σ w) (hb:St w κ.mB (yG κ σ vt vq cp)):Sv κ { σ with T:=σ.Q,zf:=σ.zq } ((w.setCell ⟨κ.mB,0,none⟩ vq).setCell ⟨κ.mB,1,none⟩ (.int .i64 (σ.zq:Int)))∧Gs κ w ((w.setCell ⟨κ.mB,0,none⟩ vq).setCell ⟨κ.mB,1,none⟩ (.int .i64 (σ.zq:Int))):=by
 have hne:=h.ne;obtain ⟨vd,made,YL,a1,-⟩:=h.dk;have hbl:∀q,q≠κ.mB→((w.setCell ⟨κ.mB,0,none⟩ vq).setCell ⟨κ.mB,1,none⟩ (.int .i64 (σ.zq:Int))).heap[q]?=w.heap[q]?:=fun q hn=>(Below.heap_setCell _ ⟨κ.mB,1,none⟩ _ q hn).trans (Below.heap_setCell w ⟨κ.mB,0,none⟩ _ q hn)
 have G:Gs κ w ((w.setCell ⟨κ.mB,0,none⟩ vq).setCell ⟨κ.mB,1,none⟩ (.int .i64 (σ.zq:Int))):=⟨rfl,rfl,rfl,by simp,fun q hq _ h2 _ _=>hbl q h2⟩;refine ⟨h.re G rfl (hbl _ hne.1) rfl (fun Z7 J O b1 b2 b3 b4 b5 b6 b7 b8=>?_) (fun Lv s r c1 c2 c3=>⟨Lv,s,r,(hbl _ hne.2.2.2.1.symm).trans c1,c2,c3⟩),G⟩;obtain rfl:J=vq:=by
  have e1:=b1.cl 2 _ rfl;have e2:=hb.cl 2 _ rfl;exact Zc (e1.symm.trans e2)
 exact ⟨J,J,O,(b1.set 0 _).set 1 _,b3,b3,b4,b6,b6,(b7.setAt (.inr (by simp [Value.ownBlock];exact fun e=>hne.2.2.2.2.1 e.symm))).setAt (.inr (by simp [Value.ownBlock];exact fun e=>hne.2.2.2.2.1 e.symm)),b8⟩
theorem Sv.qP {κ:Sc} {σ:Sx} {w:World} (h:Sv κ σ w):Sv κ { σ with ql:=0 } (w.setCell ⟨κ.mB,5,none⟩ (.int .i64 0))∧Gs κ w (w.setCell ⟨κ.mB,5,none⟩ (.int .i64 0)):=by
 have hne:=h.ne;have hbl:∀q,q≠κ.mB→(w.setCell ⟨κ.mB,5,none⟩ (.int .i64 0)).heap[q]?=w.heap[q]?:=fun q hn=>Below.heap_setCell w ⟨κ.mB,5,none⟩ _ q hn
 have G:Gs κ w (w.setCell ⟨κ.mB,5,none⟩ (.int .i64 0)):=⟨rfl,rfl,rfl,by simp,fun q hq _ h2 _ _=>hbl q h2⟩;exact ⟨h.re G rfl (hbl _ hne.1) rfl (fun Z7 J O b1 b2 b3 b4 b5 b6 b7 b8=>⟨Z7,J,O,b1.set 5 _,b2,b3,b4,b5,b6,b7.setAt (.inr (by simp [Value.ownBlock];exact fun e=>hne.2.2.2.2.1 e.symm)),b8⟩) (fun Lv s r c1 c2 c3=>⟨Lv,s,r,(hbl _ hne.2.2.2.1.symm).trans c1,c2,c3⟩),G⟩
theorem uM {S L b:Int} (hc:Wp S L=true) (hb:0≤b∧b≤1):0≤Rx S L b true∧Rx S L b true≤100000:=by
 obtain ⟨⟨hS1,hS2⟩,hL1,hL2⟩:=(Xk S L).1 hc;have:b=0∨b=1:=by omega
 rcases this with rfl | rfl <;> unfold Rx <;> simp <;> omega
theorem CE (κ:Sc) (σ:Sx) (w:World) (h:Sv κ σ w) (hf:0<σ.fs.length) (hN:σ.fs.length≤4096) (h0:σ.off=0) (hroom:((σ.full.length+σ.fs.flatten.length:Nat):Int)≤κ.L*64) (hc:Wp κ.S κ.L=true) (hb:0≤σ.b∧σ.b≤1) (hk:σ.k≤8000) (hz:σ.zq<1000000) (hsp:σ.pw=none∨σ.sn=none) (htab:iR κ w) :
    Calls Tryz.prog 72 #[.pointer (some ⟨κ.sB,0,none⟩)] w fun e w'=>e=.returned (.string (strOfNums (VS ⟨#[102,108,117,115,104,101,100]⟩ [σ.fs.length,σ.zq])))∧Gw κ w w'∧Sv κ { σ with T:=σ.Q,zf:=σ.zq,fs:=[],ql:=0,full:=σ.full++σ.fs.flatten,k:=σ.k+66,pw:=none } w':=by
 obtain ⟨i0,hi,hz0,hz1,hz2⟩:=YN Tryz.QZ;obtain ⟨⟨hS1,hS2⟩,hL1,hL2⟩:=(Xk κ.S κ.L).1 hc;obtain ⟨vt,vq,cp,b1,-⟩:=h.mm;obtain ⟨vd,made,YL,a1,-⟩:=h.dk;obtain ⟨Lv,s,r,c1,c2,c3⟩:=h.ch;have Xi:0<σ.fs.flatten.length:=by
  have hlv:Lv.length=σ.fs.length:=c2.1;have h9:=(c2.2 0 (by omega)).2
  cases hfs:σ.fs with
  | nil=>rw [hfs] at hf;simp at hf
  | cons f fs =>
   rw [hfs] at h9
   simp only [XM] at h9
   simp only [TI,ZZ];omega
 have HQ:=ZU (p9 w κ.sB κ.mB κ.c κ.cap s r false Lv σ.fs (a1.cl 0 _ rfl) (b1.cl 4 _ rfl) c1 c2 (by omega) (by omega));have HV:=ZU h;clear a1 b1 c1 c2 c3 h
 go_enter Tryz.func72,Tryz.ntmps72
 go_wp2_with fail
 refine HQ.out.mono ?_;rintro e w1 ⟨v3,rfl,o1,g1,r',c1⟩;obtain ⟨V1,G1⟩:=HV.out.taken g1 c1;generalize hF:σ.fs.flatten=F at *;obtain ⟨g3,ZB,rfl,hg3,WZ⟩:=World.ownsRow.form o1 Xi;obtain ⟨YK,YH,V,b1,-,-,-,-,-,l1,l2⟩:=V1.mm;obtain ⟨YG,H,Y0,a1,-⟩:=V1.dk;have c0:=a1.cl 0 _ rfl;have m11:w1.cell? ⟨κ.mB,11,none⟩=some (.slice (some ⟨κ.lb,κ.lo,none⟩) σ.full.length V):=by
  have e:=b1.cl 11 _ rfl
  simp only [h0,Si,Yj,XY] at e
  exact e
 have mR:(0:Int)<(σ.fs.length:Int):=by omega
 have C0:=ZU c0;have X8:=ZU m11;have V2:Hid (Sv κ { σ with fs:=[] } w1.drew):=V1.below (below_drewN' w1 1);have G2:Hid (Gs κ w w1.drew):=G1.trans (Gs.YZ (below_drewN' w1 1));have L1:Hid (UI w1.drew (.slice (some ⟨κ.lb,κ.lo,none⟩) σ.full.length V) σ.full):=l1.below (below_drewN' w1 1);have O1:Hid (∀j u,(F.map (Value.int .u8))[j]?=some u→w1.drew.cell? ((⟨g3,0,none⟩:Addr).add j)=some u):=Ys o1 rfl;clear g1 c1 V1 G1 a1 b1 HQ HV o1 l1
 go_wp2_with fail
 refine ZX (S:=fun W=>W.cell? ⟨κ.sB,0,none⟩=some (.pointer (some ⟨κ.mB,0,none⟩))) (by kernel_rfl) C0.out (fun Z9=>?_);have YF:Hid (w1.drew.cell? ⟨κ.mB,11,none⟩=some (.slice (some ⟨κ.lb,κ.lo,none⟩) σ.full.length V)):=X8.out;clear c0 m11 C0 X8;generalize w1.drew=w2 at *
 iterate 10 (refine Zf ?_ (by kernel_rfl) (fun _=>id) Z9 ?_ ?_;rotate_left;· intro w9 ZQ;go_simp;try with_reducible rfl)
 refine Yp 11 ?v11 rfl (by kernel_rfl) (fun _=>id) Z9 ?Ks ?_
 case Ks=>intro w9 ZQ;go_simp;try with_reducible rfl
 refine YS 10 rfl (by kernel_rfl) (fun K hK=>?_);have k1:=YF.out;go_simp;refine hK.out _ _ Z9 (fun YA=>?_);clear hK K k1;refine YS 12 rfl (by kernel_rfl) (fun K hK=>?_);refine CF rfl (.tmp 31) (.tmp 32) 22 rfl i0 Tryz.underlying22 hi hz1 κ.lb κ.lo σ.full.length V σ.full rfl rfl L1.out ⟨g3,0,none⟩ ZB F rfl O1.out (by omega) ?_;intro w3 o3 g3';have hne:=V2.out.ne;obtain ⟨Ws,Wr,cp2,b2,-⟩:=V2.out.mm;obtain ⟨Wn,Xh,WW,a2,-⟩:=V2.out.dk;have B3:=Wo b2 g3'.size (g3'.block _ b2.lt (fun e=>hne.2.2.2.2.1 (by injection e)));have A3:=Wo a2 g3'.size (g3'.block _ a2.lt (fun e=>hne.2.2.1 (by injection e)));have O3:=o3;have k11:w3.cell? ⟨κ.mB,11,none⟩=some (.slice (some ⟨κ.lb,κ.lo,none⟩) σ.full.length V):=(ZP (w:=w2) (a:=⟨κ.mB,11,none⟩) (g3'.block _ b2.lt (fun e=>hne.2.2.2.2.1 (by injection e)))).trans YF.out;clear Z9;refine hK.out _ _ (A3.cl 0 _ rfl) (fun Z9=>?_);clear hK K
 iterate 2 (refine Zf ?_ (by kernel_rfl) (fun _=>id) Z9 ?_ ?_;rotate_left;· intro w9 ZQ;go_simp;try with_reducible rfl)
 refine YS 15 rfl (by kernel_rfl) (fun K hK=>?_);have f11:=B3.fz 11;go_simp;have F4:=ZU (V2.out.grown h0 l2 g3' O3);have A4:=A3.other (c:=κ.mB) (j:=11) (x:=.slice (some ⟨κ.lb,κ.lo,none⟩) (σ.full.length+F.length) V) hne.1;refine hK.out _ _ (A4.cl 0 _ rfl) (fun YA=>?_);have G4:=ZU (G2.out.trans F4.out.2);have V4:=ZU F4.out.1;clear hK K YA Z9 F4 A4 k11 f11 O3 B3 A3 b2 a2 o3 g3' V2 G2 L1 O1 YF;refine ZR (by kernel_rfl) ?_ _
 try simp only [Act.put,WV,WU,WT]
 generalize w3.setCell _ _=w4 at *;have hDl:(σ.full++F).length=σ.full.length+F.length:=ZZ;generalize hD:σ.full++F=D at *;have HD:=ZU hD;have OM:=ZU hDl;clear hD hDl;obtain ⟨fZ,fY,pY,b4,-,-,-,-,-,l4,-⟩:=V4.out.mm;obtain ⟨X7,Zx,XV,a4,-⟩:=V4.out.dk;have A5:Hid (St w4.drew κ.sB (Hp (.pointer (some ⟨κ.mB,0,none⟩)) κ.S κ.L X7 (nj σ.pw) Zx)):=a4.below (below_drewN' w4 1);have B5:Hid (St w4.drew κ.mB (yG κ { σ with fs:=[],full:=D } fZ fY pY)):=b4.below (below_drewN' w4 1);have V5:Hid (Sv κ { σ with fs:=[],full:=D } w4.drew):=V4.out.below (below_drewN' w4 1);have G5:Hid (Gs κ w w4.drew):=G4.out.trans (Gs.YZ (below_drewN' w4 1));clear a4 b4 l4 V4 G4;have m11:w4.drew.cell? ⟨κ.mB,11,none⟩=some (.slice (some ⟨κ.lb,κ.lo,none⟩) D.length pY):=by
  have e:=B5.out.cl 11 _ rfl
  simp only [h0,Si,Yj,XY] at e
  exact e
 have S5:w4.drew.cell? ⟨κ.sB,0,none⟩=some (.pointer (some ⟨κ.mB,0,none⟩))∧w4.drew.cell? ⟨κ.sB,1,none⟩=some (.int .i64 κ.S)∧w4.drew.cell? ⟨κ.sB,2,none⟩=some (.int .i64 κ.L)∧w4.drew.cell? ⟨κ.mB,7,none⟩=some (.int .i64 σ.b)∧w4.drew.cell? ⟨κ.mB,11,none⟩=some (.slice (some ⟨κ.lb,κ.lo,none⟩) D.length pY):=⟨A5.out.cl 0 _ rfl,A5.out.cl 1 _ rfl,A5.out.cl 2 _ rfl,B5.out.cl 7 _ rfl,m11⟩
 go_wp2_with fail
 refine ZX (S:=fun W=>W.cell? ⟨κ.sB,0,none⟩=some (.pointer (some ⟨κ.mB,0,none⟩))∧W.cell? ⟨κ.sB,1,none⟩=some (.int .i64 κ.S)∧W.cell? ⟨κ.sB,2,none⟩=some (.int .i64 κ.L)∧W.cell? ⟨κ.mB,7,none⟩=some (.int .i64 σ.b)∧W.cell? ⟨κ.mB,11,none⟩=some (.slice (some ⟨κ.lb,κ.lo,none⟩) D.length pY)) (by kernel_rfl) S5 (fun Z9=>?_);clear S5 m11;generalize w4.drew=w5 at *
 iterate 13 (refine Zf ?_ (by kernel_rfl) (fun _=>id) Z9 ?_ ?_;rotate_left;· intro w9 ZQ;obtain ⟨k0,k1,k2,k3,k4⟩:=ZQ;go_simp;try with_reducible rfl)
 refine Yp 14 ?v27 rfl (by kernel_rfl) (fun _=>id) Z9 ?hy27 ?_
 case hy27=>intro w9 ZQ;obtain ⟨k0,k1,k2,k3,k4⟩:=ZQ;go_simp;try with_reducible rfl
 refine Yp 15 ?v28 rfl (by kernel_rfl) (fun _=>id) Z9 ?hy28 ?_
 case hy28=>intro w9 ZQ;obtain ⟨k0,k1,k2,k3,k4⟩:=ZQ;go_simp;try with_reducible rfl
 refine Yp 16 ?v29 rfl (by kernel_rfl) (fun _=>id) Z9 ?hy29 ?_
 case hy29=>intro w9 ZQ;obtain ⟨k0,k1,k2,k3,k4⟩:=ZQ;go_simp;try with_reducible rfl
 refine Yp 17 ?v30 rfl (by kernel_rfl) (fun _=>id) Z9 ?uL ?_
 case uL=>intro w9 ZQ;obtain ⟨k0,k1,k2,k3,k4⟩:=ZQ;go_simp;try with_reducible rfl
 refine Yp 18 ?v31 rfl (by kernel_rfl) (fun _=>id) Z9 ?hy31 ?_
 case hy31=>intro w9 ZQ;obtain ⟨k0,k1,k2,k3,k4⟩:=ZQ;go_simp;try with_reducible rfl
 refine Yp 19 ?v32 rfl (by kernel_rfl) (fun _=>id) Z9 ?hy32 ?_
 case hy32=>intro w9 ZQ;obtain ⟨k0,k1,k2,k3,k4⟩:=ZQ;go_simp;try with_reducible rfl
 refine Yp 20 ?v33 rfl (by kernel_rfl) (fun _=>id) Z9 ?uK ?_
 case uK=>intro w9 ZQ;obtain ⟨k0,k1,k2,k3,k4⟩:=ZQ;go_simp;try with_reducible rfl
 refine Yp 21 ?v34 rfl (by kernel_rfl) (fun _=>id) Z9 ?hy34 ?_
 case hy34=>intro w9 ZQ;obtain ⟨k0,k1,k2,k3,k4⟩:=ZQ;go_simp;try with_reducible rfl
 refine YS 13 rfl (by kernel_rfl) (fun K hK=>?_);go_simp;refine (RF w5 κ.S κ.L σ.b hc hb).mono ?_;rintro e w6 ⟨rfl,b6⟩;have hs0:=A5.out.lt;have hm0:=B5.out.lt;have S6:w6.cell? ⟨κ.sB,0,none⟩=some (.pointer (some ⟨κ.mB,0,none⟩))∧w6.cell? ⟨κ.sB,1,none⟩=some (.int .i64 κ.S)∧w6.cell? ⟨κ.sB,2,none⟩=some (.int .i64 κ.L)∧w6.cell? ⟨κ.mB,7,none⟩=some (.int .i64 σ.b)∧w6.cell? ⟨κ.mB,11,none⟩=some (.slice (some ⟨κ.lb,κ.lo,none⟩) D.length pY):=⟨(b6.cell (p:=⟨κ.sB,0,none⟩) hs0).trans Z9.1,(b6.cell (p:=⟨κ.sB,1,none⟩) hs0).trans Z9.2.1,(b6.cell (p:=⟨κ.sB,2,none⟩) hs0).trans Z9.2.2.1,(b6.cell (p:=⟨κ.mB,7,none⟩) hm0).trans Z9.2.2.2.1,(b6.cell (p:=⟨κ.mB,11,none⟩) hm0).trans Z9.2.2.2.2⟩;have V6:=ZU (V5.out.below b6);have G6:=ZU (G5.out.trans (Gs.YZ b6));refine hK.out _ _ S6 (fun YA=>?_);clear hK K Z9 YA b6 V5 G5 A5 B5 hs0 hm0;obtain ⟨v0,hv0,q6⟩:=V6.out.pq;obtain ⟨Wm,Wk,XR,b6,-,-,-,-,-,l6,-⟩:=V6.out.mm;have hne:=V6.out.ne;have XP:XR=pY:=by
  have e:=b6.cl 11 _ rfl
  simp only [h0,Si,Yj,XY] at e
  rw [S6.2.2.2.2] at e
  simp at e
  exact e.symm
 subst XP;have HW:=ZU (M9 (Rx κ.S κ.L σ.b true) (I9 κ.S κ.L true) (.slice (some ⟨κ.lb,κ.lo,none⟩) D.length XR) D σ.full.length q6 hk (uM hc hb) (fun W hW=>(UI.gr l6 hW (by simp [Value.ownBlock];exact fun e=>hne.2.2.1 e.symm) (fun e=>by simp only [Value.ownBlock] at e;exact (V6.out.pw _ e.symm).2.2.2.2.1 rfl)).rd) (by have:=OM.out;omega) (by have:=OM.out;omega));refine YS 22 rfl (by kernel_rfl) (fun K hK=>?_);go_simp;refine HW.out.mono ?_;rintro e w7 ⟨rfl,p7,-⟩;have P7:=ZU p7;obtain ⟨Xf,Wi,YC,XO,Wh,Wf,a7,-,-,-,-,-,-,-,g7,-⟩:=p7;have hmw:some κ.mB≠σ.pw:=fun e=>(V6.out.pw _ e.symm).2.2.1 rfl
 have b7:=Wo b6 g7.size (g7.block _ b6.lt hne.1.symm hmw);refine hK.out _ _ ⟨a7.cl 0 _ rfl,a7.cl 1 _ rfl,a7.cl 2 _ rfl,b7.cl 7 _ rfl,(ZP (w:=w6) (a:=⟨κ.mB,11,none⟩) (g7.block _ b6.lt hne.1.symm hmw)).trans S6.2.2.2.2⟩ (fun YA=>?_);clear hK K YA a7 b7 g7 b6 l6 S6 HW q6;refine ZR (by kernel_rfl) ?_ _
 try simp only [Act.put,WV,WU,WT]
 go_wp2_with fail
 refine (Ho P7.out (by omega)).mono ?_;rintro e w8 ⟨rfl,p8,-⟩;obtain ⟨V8,G8⟩:=V6.out.ended hv0 p8 hsp;have V9:Hid (Sv κ { σ with fs:=[],full:=D,k:=σ.k+66,pw:=none } w8.drew):=V8.below (below_drewN' w8 1);have G9:Hid (Gw κ w w8.drew):=(G6.out.gw.trans G8).trans (Gs.YZ (below_drewN' w8 1)).gw;clear V8 G8 p8 P7 V6 G6;obtain ⟨Wd,Wc,ge,b9,-,r9,-⟩:=V9.out.mm;obtain ⟨aq,cq,rfl,-,-⟩:=r9.len;obtain ⟨Wb,Xd,WS,a9,-⟩:=V9.out.dk;have B9:=ZU b9;have A9:=ZU a9;have S9:w8.drew.cell? ⟨κ.sB,0,none⟩=some (.pointer (some ⟨κ.mB,0,none⟩))∧w8.drew.cell? ⟨κ.mB,2,none⟩=some (.slice aq σ.Q.length cq)∧w8.drew.cell? ⟨κ.mB,3,none⟩=some (.int .i64 (σ.zq:Int)):=⟨a9.cl 0 _ rfl,b9.cl 2 _ rfl,b9.cl 3 _ rfl⟩;clear a9 b9
 go_wp2_with fail
 refine ZX (S:=fun W=>W.cell? ⟨κ.sB,0,none⟩=some (.pointer (some ⟨κ.mB,0,none⟩))∧W.cell? ⟨κ.mB,2,none⟩=some (.slice aq σ.Q.length cq)∧W.cell? ⟨κ.mB,3,none⟩=some (.int .i64 (σ.zq:Int))) (by kernel_rfl) S9 (fun Z9=>?_);clear S9;generalize w8.drew=w9 at *
 iterate 13 (refine Zf ?_ (by kernel_rfl) (fun _=>id) Z9 ?_ ?_;rotate_left;· intro w9 ZQ;obtain ⟨k0,k1,k2⟩:=ZQ;go_simp;try with_reducible rfl)
 refine YS 13 rfl (by kernel_rfl) (fun K hK=>?_);have m0:=B9.out.cl 0 _ rfl;have m1:=B9.out.cl 1 _ rfl;have f0:=B9.out.fz 0;have f1:=B9.out.fz 1;go_simp;have F9:=ZU (V9.out.qQ B9.out);have YB:=(A9.out.other (c:=κ.mB) (j:=0) (x:=.slice aq σ.Q.length cq) V9.out.ne.1).other (c:=κ.mB) (j:=1) (x:=.int .i64 (σ.zq:Int)) V9.out.ne.1;have B10:=(B9.out.set 0 (.slice aq σ.Q.length cq)).set 1 (.int .i64 (σ.zq:Int));have Z4:=ZU (G9.out.trans F9.out.2.gw);have Zv:=ZU F9.out.1;refine hK.out _ _ ⟨YB.cl 0 _ rfl,B10.cl 2 _ rfl,B10.cl 3 _ rfl⟩ (fun YA=>?_);have Yx:=ZU YB;have B11:=ZU B10;clear hK K YA m0 m1 f0 f1 F9 YB B10 A9 B9 V9 G9 Z9;refine ZR (by kernel_rfl) ?_ _
 try simp only [Act.put,WV,WU,WT]
 generalize (w9.setCell _ _).setCell _ _=Jg at *;have c0:=Yx.out.cl 0 _ rfl;have m5:=B11.out.cl 5 _ rfl;have f5:=B11.out.fz 5;have XN:=Yx.out.other (c:=κ.mB) (j:=5) (x:=.int .i64 0) Zv.out.ne.1;have C:=B11.out.set 5 (.int .i64 0);have c0':=XN.cl 0 _ rfl;have Xc:=C.cl 1 _ rfl;have FZ:=ZU Zv.out.qP;have XL:=ZU (htab _ (Z4.out.trans FZ.out.2.gw))
 go_wp2_with fail
 have TT:=Ev (Jg.setCell ⟨κ.mB,5,none⟩ (.int .i64 0)) ⟨#[102,108,117,115,104,101,100]⟩ σ.fs.length σ.zq (by decide) (by omega) hz XL.out;have hsz:(Jg.setCell ⟨κ.mB,5,none⟩ (.int .i64 0)).heap.size=Jg.heap.size:=by simp
 have FIN:Hid (∀W,Below Jg.heap.size (Jg.setCell ⟨κ.mB,5,none⟩ (.int .i64 0)) W→Gw κ w W∧Sv κ { σ with T:=σ.Q,zf:=σ.zq,fs:=[],ql:=0,full:=D,k:=σ.k+66,pw:=none } W):=fun W hW=>by
  rw [←hsz] at hW;exact ⟨(Z4.out.trans FZ.out.2.gw).trans (Gs.YZ hW).gw,FZ.out.1.below hW⟩
 rw [hsz] at TT;refine TT.mono ?_;rintro e tP ⟨rfl,b12⟩;have Xb:=ZU (FIN.out _ (b12.mono (by simp)));clear b12 FIN TT XL FZ Zv Z4 Yx B11 XN C c0 m5 f5 c0' Xc hsz;go_wp2;go_ret;refine ⟨rfl,?_⟩;rw [hF,HD.out];exact Xb.out
 end Go.Proofs.YtpmjnbmkippaiaaGreatDoor
namespace Go.Proofs.YtpmjnbmkippaiaaGreatDoor
open Go.RowKit Go.Shelf
theorem Eu (w:World) (v vo:Value) (ns:List Nd) (os:List TK) (z:Int) (h:SK w v ns) (ho:JZ w vo os) (hos:∀i,i<os.length→(Ql os i).path.size≤1048576∧(Ql os i).data.size≤1048576) (hb:RZ ns os z=true)
    (hg : w.cell? ⟨5, 0, none⟩ = some (.iface 345 (.agg #[.pointer (some ⟨11, 182, none⟩)]))) (h0 : 5 < w.heap.size) (htab : Lib.TabIs Tryz.prog w "internal/strconv.uint64pow10" .u64 Lib.pow10Tab) :
    Calls Tryz.prog 125 #[.agg #[v],.agg #[vo],.int .i64 z] w fun e w'=>oJ w ns z (R9 z os ns 0 []) e w':=by
 unfold RZ at hb
 simp only [ZA,Zj] at hb
 obtain ⟨hok,h1,h2,h3,h4⟩:=hb;have Zt:=ZU (P4.1 hok);have PX:=ZU hok;have hn:ns.length≤1000:=Zt.out.2.2;obtain ⟨ao,ca,rfl,_,_⟩:=h.len;obtain ⟨bo,cb,rfl,_,_⟩:=ho.len;have HR:=ZU h;have W9:=ZU ho;have lS:=ZU hos;have HG:=ZU hg;have HT:=ZU htab;have LY:Hid (∀i,(Ye ns i).path.size≤1048576∧(Ye ns i).data.size≤1048576):=by
  intro i
  by_cases hi:i<ns.length
  · have:=TX (Zt.out.2.1 _ (YP hi))
    rw [WF hi];omega
  have:Ye ns i=nd0:=by unfold Ye;simp [List.getD,Yk (show ns.length≤i by omega)]
  rw [this];simp [nd0]
 have lK:Hid (∀W,Zi w W→∀n:Int,0≤n→n≤2147483647→Calls Tryz.prog 249 #[.int .i64 n] W (Wj W (.string ⟨(six 12 n.toNat 6).toArray⟩))):=fun W hW n a b=>Do W n a b (Ra HT.out hW)
 have yo:¬(os.length:Int)<1:=by omega
 have lR:¬(64:Int)<(os.length:Int):=by omega
 have HZ:Hid (PR z=true):=by show _=_;unfold PR;simp;omega
 have rA:Hid (∀W,Calls Tryz.prog 164 #[.int .i64 z] W fun e w'=>e=.returned (.bool true)∧W=w'):=fun W=>by
  have:=Ey W z;rw [Zm h3,Zm h4] at this;exact this.mono fun e w' h9=>⟨h9.1,h9.2.symm⟩
 have X0:Hid (AE w (.slice ao ns.length ca) (.slice bo os.length cb) (((w.alloc (.cells #[.slice ao ns.length ca] 63)).alloc (.cells #[.slice bo os.length cb] 41)).alloc (.cells #[.int .i64 0,.int .i64 0,.slice none 0 0,.int .i64 0,.slice none 0 0] 194))):=AE.new _ _ _ _ _ _;obtain ⟨res,hres⟩:∃res,res=R9 z os ns 0 []:=⟨_,rfl⟩;rw [←hres];have iZ:=ZU hres;clear h ho hos hok hg htab hres
 go_enter Tryz.func125,Tryz.ntmps125
 go_wp2_with fail
 generalize ((w.alloc _).alloc _).alloc _=w0 at *;refine (UM _ _ ns (HR.out.below X0.out.1) LY.out).mono ?_;rintro e w1 ⟨rfl,b1⟩;rw [PX.out];have X1:=ZU (X0.out.below b1);clear b1 X0 PX;have zz:w.heap.size+3≤w1.heap.size:=X1.out.2.1;obtain ⟨-,-,a0,a1,-⟩:=X1.out;have Qs:=ZU (qU w1 ao ca ns (HR.out.below X1.out.1) hn)
 go_wp2_with (first | (go_at_call 164;refine (rA.out _).mono ?_;rintro e w' ⟨rfl,rfl⟩) | (go_at_call 166;refine Qs.out.mono ?_))
 rintro e w2 ⟨v2,rfl,o2,b2⟩;have X2:=ZU (X1.out.below b2);have B2:=ZU b2;have O2:=ZU o2;have V2:Hid (∀g,v2.ownBlock=some g→g<w2.heap.size):=fun g hg=>(ZT o2 g hg).2
 have s2:=b2.size;obtain ⟨Y4,Y2,rfl⟩:=o2.QW;clear o2 b2 Qs a0 a1;have B3:Hid (Zi w2 (w2.alloc (.cells #[.slice Y4 ns.length Y2,.int .i64 z] 243))):=Yy.alloc YR _;have D3:Hid (Df (w2.alloc (.cells #[.slice Y4 ns.length Y2,.int .i64 z] 243)) w2.heap.size w1.heap.size z (.slice Y4 ns.length Y2) ns):=⟨St.new _ _ _,O2.out.below B3.out,fun e=>by have:=V2.out _ e;omega,Zt.out⟩;have X3:=ZU (X2.out.below B3.out);have e3:(w2.alloc (.cells #[.slice Y4 ns.length Y2,.int .i64 z] 243)).heap.size=w2.heap.size+1:=by simp
 have E3:=ZU e3;clear e3 O2 V2 X2;obtain ⟨-,-,a0,a1,-⟩:=X3.out
 go_wp2_with fail
 clear a0 a1;generalize w2.alloc _=w3 at *;have B:=ZU (WD B2.out B3.out);refine (zc w1 w3 w2.heap.size z _ _ ns os B.out D3.out B2.out.size (W9.out.below X1.out.1) lS.out HZ.out h1 h2 (fun W hW=>lK.out W (X1.out.1.trans (hW.mono X1.out.1.size)))).mono ?_;rw [←iZ.out];rintro e w4 ⟨b4,hA | hA⟩
 · obtain ⟨hne,rfl⟩:=hA
   have X4:=ZU (X1.out.Xe b4 zz);have Z':=ZU (za w4 (res.2.1:Int) res.1 ((X4.out.1.cell (p:=⟨5,0,none⟩) h0).trans HG.out) (by have:=b4.size;omega));clear b4;unfold Ss
   go_wp2_with (go_at_call 165;refine Z'.out.mono ?_)
   rintro e w5 ⟨rfl,b5⟩;have X5:=ZU (X4.out.below b5);clear b5;obtain ⟨-,z5,-,-,⟨d0,d1,d2,d3,d4⟩,Z⟩:=X5.out;have f0:=Z 0;have f1:=Z 1;have f2:=Z 2;have f3:=Z 3;have f4:=Z 4;clear Z
   go_wp2_with fail
   refine ZW (v:=.agg #[.int .i64 res.1,.int .i64 (res.2.1:Int),.slice none 0 0,.int .i64 0,.slice none 0 0]) (by simp [results,Tryz.results125,go_sem,d0,d1,d2,d3,d4]) rfl ⟨X5.out.1.trans ?_,.inl ⟨hne,rfl⟩⟩
   repeat (first | exact Yy | refine Below.setCell ?_ (by simp;try omega) _)
 obtain ⟨he0,vn,v4,rfl,mQ,d4⟩:=hA;have X4:=ZU (X1.out.Xe b4 zz);have s4:=b4.size;have D4:=ZU d4;have N4:=ZU mQ;clear b4 d4 mQ
 go_wp2_with fail
 have s3:=B.out.size;have e3:=E3.out;have X5:Hid (AE w (.slice ao ns.length ca) (.slice bo os.length cb) w4.drew):=X4.out.below (below_drewN' w4 1);have D5:Hid (Df w4.drew w2.heap.size w1.heap.size z v4 res.2.2.1):=D4.out.below (below_drewN' w4 1);have N5:Hid (w4.drew.ownsRow w3.heap.size 9 1 vn res.2.2.2.length (res.2.2.2.map Value.string)):=N4.out;have s5:w1.heap.size≤w4.drew.heap.size:=s4;clear X4 D4 N4 s4;refine ZX (S:=fun W=>W.cell? ⟨w.heap.size,0,none⟩=some (.slice ao ns.length ca)∧W.cell? ⟨w2.heap.size,0,none⟩=some v4) (by kernel_rfl) ⟨X5.out.2.2.1,D5.out.s.cl 0 _ rfl⟩ (fun Z9=>?_);generalize w4.drew=w5 at *
 iterate 8 (refine Zf ?_ (by kernel_rfl) (fun _=>id) Z9 ?_ ?_;rotate_left;· intro w9 ZQ;obtain ⟨k0,k1⟩:=ZQ;go_simp;try with_reducible rfl)
 refine YS 8 rfl (by kernel_rfl) (fun K hK=>?_);go_simp;refine (zY w5 _ _ ns res.2.2.1 (HR.out.below X5.out.1) D5.out.o.rd hn D5.out.n.2.2).mono ?_;rintro e w6 ⟨v6,rfl,o6,b6⟩;have X6:=ZU (X5.out.below b6);have D6:=ZU (D5.out.below b6);have N6:=ZU (KX N5.out b6);obtain ⟨ea,ec,rfl⟩:=o6.QW;have E6:=ZU o6;have s6:=b6.size;clear o6 b6 Z9 X5 D5 N5;refine hK.out _ _ ⟨X6.out.2.2.1,D6.out.s.cl 0 _ rfl⟩ (fun Z9=>?_);clear hK K;have hun:∃ua uc,vn=.slice ua res.2.2.2.length uc:=by
  rcases N6.out.2 with ⟨rfl,hx⟩ | ⟨g,cap,cur,rfl,-⟩
  · exact ⟨_,_,by rw [hx]⟩
  exact ⟨_,_,rfl⟩
 obtain ⟨ua,uc,rfl⟩:=hun
 iterate 2 (refine Zf ?_ (by kernel_rfl) (fun _=>id) Z9 ?_ ?_;rotate_left;· intro w9 ZQ;clear ZQ;go_simp;try with_reducible rfl)
 obtain ⟨-,z6,-,-,⟨d0,d1,d2,d3,d4⟩,Z⟩:=X6.out;have f0:=Z 0;have f1:=Z 1;have f2:=Z 2;have f3:=Z 3;have f4:=Z 4;clear Z;refine YS 11 rfl (by kernel_rfl) (fun K hK=>?_);go_simp;have T9:=ZU ((((((Tw.refl w6 (w.heap.size+1+1) none).set (j:=0) (x:=.int .i64 0)).set (j:=1) (x:=.int .i64 0)).set (j:=2) (x:=.slice ua res.2.2.2.length uc)).set (j:=3) (x:=.int .i64 z)).set (j:=4) (x:=.slice ea (UY ns res.2.2.1).length ec));have k0:=(ZP (w:=w6) (a:=⟨w.heap.size,0,none⟩) (T9.out.block w.heap.size (by omega) (by omega) (by simp))).trans X6.out.2.2.1;have k1:=(T9.out.st D6.out.s (by omega) (by simp)).cl 0 _ rfl;refine hK.out _ _ ⟨k0,k1⟩ (fun Z9=>?_);clear hK K k0 k1;refine ZR (by kernel_rfl) ?_ _
 try simp only [Act.put,WV,WU,WT]
 clear Z9;have HF:Hid (oJ w ns z res (.returned (.agg #[.int .i64 0,.int .i64 0,.slice ua res.2.2.2.length uc,.int .i64 z,.slice ea (UY ns res.2.2.1).length ec])) (((((w6.setCell ⟨w.heap.size+1+1,0,none⟩ (.int .i64 0)).setCell ⟨w.heap.size+1+1,1,none⟩ (.int .i64 0)).setCell ⟨w.heap.size+1+1,2,none⟩ (.slice ua res.2.2.2.length uc)).setCell ⟨w.heap.size+1+1,3,none⟩ (.int .i64 z)).setCell ⟨w.heap.size+1+1,4,none⟩ (.slice ea (UY ns res.2.2.1).length ec))):=by
  refine ⟨X6.out.1.trans (T9.out.below (by omega) (by omega) (fun g h=>by cases h)),.inr ⟨he0,_,_,rfl,?_,?_⟩⟩
  · refine MD (lo:=w3.heap.size) (He N6.out T9.out (fun g hg=>?_) (fun g hg=>by simp)) (by omega)
    have:=(ZT N6.out g hg).1;omega
  unfold UN;refine MD (lo:=w5.heap.size) (He E6.out T9.out (fun g hg=>?_) (fun g hg=>by simp)) (by omega);have:=(ZT E6.out g hg).1;omega
 clear T9 N6 E6 X6 D6
 go_wp2_with fail
 exact ZW (v:=.agg #[.int .i64 0,.int .i64 0,.slice ua res.2.2.2.length uc,.int .i64 z,.slice ea (UY ns res.2.2.1).length ec]) (by simp [results,Tryz.results125,go_sem,d0,d1,d2,d3,d4]) rfl HF.out
def mP (nm:List ByteArray):List (List UInt8):=nm.map fun s=>s.data.toList
theorem qO (nm:List ByteArray):(mP nm).map sV=nm.map Value.string:=by
 unfold mP;rw [SF];apply Vw;intro s _
 simp [sV]
structure Pa where
 c:Int
 i:Int
 z:Int
 L:List (List UInt8)
 es:List Ef
def CD (ns:List Nd) (os:List TK) (z:Int):Pa :=
 if RZ ns os z=true then
  (if (R9 z os ns 0 []).1=0 then ⟨0,0,z,mP (R9 z os ns 0 []).2.2.2,UY ns (R9 z os ns 0 []).2.2.1⟩
   else ⟨(R9 z os ns 0 []).1,((R9 z os ns 0 []).2.1:Nat),0,[],[]⟩)
 else ⟨9,0,0,[],[]⟩
def PA (w:World) (a:Pa) (e:Ending) (w':World):Prop :=
 ∃vn ve,e=.returned (.agg #[.int .i64 a.c,.int .i64 a.i,vn,.int .i64 a.z,ve])∧iD w' w.heap.size vn a.L∧UN 249 w' w.heap.size ve a.es∧Zi w w'
theorem PA.bad {w w':World} {c i z:Int} {e:Ending} (he:e=.returned (.agg #[.int .i64 c,.int .i64 i,.slice none 0 0,.int .i64 z,.slice none 0 0])) (hb:Zi w w'):PA w ⟨c,i,z,[],[]⟩ e w' :=
 ⟨_,_,he,ZH _ _ _ _,ZH _ _ _ _,hb⟩
theorem PA.ok {w w':World} {ns:List Nd} {os:List TK} {z:Int} {e:Ending} (hk:RZ ns os z=true) (h:oJ w ns z (R9 z os ns 0 []) e w'):PA w (CD ns os z) e w':=by
 obtain ⟨hb,h⟩:=h;unfold CD;rw [Z0 hk]
 rcases h with ⟨h0,he⟩ | ⟨h0,vn,ve,he,h1,h2⟩
 · rw [Z1 h0]
   exact PA.bad he hb
 rw [Z0 h0];refine ⟨vn,ve,he,?_,h2,hb⟩;show World.ownsRow _ _ _ _ _ _ _;rw [qO];have:(mP (R9 z os ns 0 []).2.2.2).length=(R9 z os ns 0 []).2.2.2.length:=by simp [mP]
 rw [this];exact h1
theorem yZ (w:World) (v vo:Value) (ns:List Nd) (os:List TK) (z:Int) (h:SK w v ns) (ho:JZ w vo os) (hsz:∀i,(Ye ns i).path.size≤1048576∧(Ye ns i).data.size≤1048576) (hos:∀i,(Ql os i).path.size≤1048576∧(Ql os i).data.size≤1048576)
    (hg : w.cell? ⟨5, 0, none⟩ = some (.iface 345 (.agg #[.pointer (some ⟨11, 182, none⟩)]))) (h0 : 5 < w.heap.size) (htab : Lib.TabIs Tryz.prog w "internal/strconv.uint64pow10" .u64 Lib.pow10Tab) :
    Calls Tryz.prog 125 #[.agg #[v],.agg #[vo],.int .i64 z] w fun e w'=>PA w (CD ns os z) e w':=by
 by_cases hk:RZ ns os z=true
 · exact (Eu w v vo ns os z h ho (fun i _=>hos i) hk hg h0 htab).mono fun e w' h9=>PA.ok hk h9
 refine (Hd w v vo ns os z h ho hsz (by simpa using hk) hg h0).mono fun e w' h9=>?_
 unfold CD;rw [Z1 hk];exact PA.bad h9.1 h9.2
end Go.Proofs.YtpmjnbmkippaiaaGreatDoor
namespace Go.Proofs.YtpmjnbmkippaiaaGreatDoor
open Go.RowKit Go.Conc
theorem Sv.sent {κ:Sc} {σ:Sx} {W:World} {Lv:List Value} {s r:Nat} {v:Value} {f:List Int} (h:Sv κ σ W) (hc:W.heap[κ.c]?=some (.chan κ.cap Lv.toArray false s r false)) (hv:Rd .u8 W v f) (h0:0<f.length) (Mu:Pg κ v) :
    Sv κ { σ with fs:=σ.fs++[f] } (W.setChan κ.c κ.cap (Lv.toArray.push v) false (s+1) r false)∧Gs κ W (W.setChan κ.c κ.cap (Lv.toArray.push v) false (s+1) r false):=by
 have hg:=Hm W κ.c κ.cap (Lv.toArray.push v) false (s+1) r false;have G:=Gs.I1 (κ:=κ) hg (.inr (.inr (.inl rfl)));have hne:=h.ne;obtain ⟨vd,made,YL,a1,-⟩:=h.dk;have hlt:=(Z3.mp hc).1;refine ⟨h.re G rfl (hg.block _ a1.lt (by simp;exact fun e=>hne.2.1 e)) rfl (fun vt vq cp b1 b2 b3 b4 b5 b6 b7 b8=>⟨vt,vq,cp,Wo b1 hg.size (hg.block _ b1.lt (by simp;exact fun e=>hne.2.2.2.1 e)),b2,b3,b4,b5,b6,UI.kept b7 hg (.inr (by simp [Value.ownBlock];exact fun e=>hne.2.2.2.2.2 e.symm)),b8⟩) (fun lA s' r' c1 c2 c3=>⟨Lv++[v],s+1,r,?_,?_,?_⟩),G⟩
 · have:=heap_setChan W κ.c κ.cap (Lv.toArray.push v) false (s+1) r false hlt
   rw [this]
   simp
 all_goals
  rw [hc] at c1
  simp only [ZK,Obj.chan.injEq] at c1
  obtain ⟨-,e9,-⟩:=c1;have e8:Lv=lA:=by simpa using ZM Array.toList e9
  subst e8
 · refine ⟨by simp [c2.1],fun i hi=>?_⟩
   by_cases e:i<Lv.length
   · have e1:(Lv++[v]).getD i undef=Lv.getD i undef:=by simp [List.getD,Zy e]
     have e2:(σ.fs++[f]).getD i []=σ.fs.getD i []:=by simp [List.getD,Zy (show i<σ.fs.length by have:=c2.1;omega)]
     rw [e1,e2];exact c2.2 i e
   have e3:i=Lv.length:=by simp at hi;omega
   subst e3;have e1:(Lv++[v]).getD Lv.length undef=v:=by simp [List.getD]
   have e2:(σ.fs++[f]).getD Lv.length []=f:=by rw [c2.1];simp [List.getD]
   rw [e1,e2];exact ⟨qb hg hc hv,h0⟩
 intro i hi
 by_cases e:i<Lv.length
 · have e1:(Lv++[v]).getD i undef=Lv.getD i undef:=by simp [List.getD,Zy e]
   rw [e1];exact c3 i e
 have e3:i=Lv.length:=by simp at hi;omega
 subst e3;have e1:(Lv++[v]).getD Lv.length undef=v:=by simp [List.getD]
 rw [e1];exact Mu
theorem Sv.fX {κ:Sc} {σ:Sx} {w:World} (n:Nat) (h:Sv κ σ w):Sv κ { σ with ql:=n } (w.setCell ⟨κ.mB,5,none⟩ (.int .i64 (n:Int)))∧Gs κ w (w.setCell ⟨κ.mB,5,none⟩ (.int .i64 (n:Int))):=by
 have hne:=h.ne;have hbl:∀q,q≠κ.mB→(w.setCell ⟨κ.mB,5,none⟩ (.int .i64 (n:Int))).heap[q]?=w.heap[q]?:=fun q hn=>Below.heap_setCell w ⟨κ.mB,5,none⟩ _ q hn
 have G:Gs κ w (w.setCell ⟨κ.mB,5,none⟩ (.int .i64 (n:Int))):=⟨rfl,rfl,rfl,by simp,fun q hq _ h2 _ _=>hbl q h2⟩;exact ⟨h.re G rfl (hbl _ hne.1) rfl (fun Z7 J O b1 b2 b3 b4 b5 b6 b7 b8=>⟨Z7,J,O,b1.set 5 _,b2,b3,b4,b5,b6,b7.setAt (.inr (by simp [Value.ownBlock];exact fun e=>hne.2.2.2.2.1 e.symm)),b8⟩) (fun Lv s r c1 c2 c3=>⟨Lv,s,r,(hbl _ hne.2.2.2.1.symm).trans c1,c2,c3⟩),G⟩
theorem Sv.mO {κ:Sc} {σ:Sx} {w:World} {v:Value} {Q:List Nd} {z:Nat} (h:Sv κ σ w) (hr:SK w v Q) (hn:PU v) (hf:Pg κ v):Sv κ { σ with Q:=Q,zq:=z } ((w.setCell ⟨κ.mB,2,none⟩ v).setCell ⟨κ.mB,3,none⟩ (.int .i64 (z:Int)))∧Gs κ w ((w.setCell ⟨κ.mB,2,none⟩ v).setCell ⟨κ.mB,3,none⟩ (.int .i64 (z:Int))):=by
 have hne:=h.ne;have hbl:∀q,q≠κ.mB→((w.setCell ⟨κ.mB,2,none⟩ v).setCell ⟨κ.mB,3,none⟩ (.int .i64 (z:Int))).heap[q]?=w.heap[q]?:=fun q hn=>(Below.heap_setCell _ ⟨κ.mB,3,none⟩ _ q hn).trans (Below.heap_setCell w ⟨κ.mB,2,none⟩ _ q hn)
 have G:Gs κ w ((w.setCell ⟨κ.mB,2,none⟩ v).setCell ⟨κ.mB,3,none⟩ (.int .i64 (z:Int))):=⟨rfl,rfl,rfl,by simp,fun q hq _ h2 _ _=>hbl q h2⟩;exact ⟨h.re G rfl (hbl _ hne.1) rfl (fun Z7 J O b1 b2 b3 b4 b5 b6 b7 b8=>⟨Z7,v,O,(b1.set 2 _).set 3 _,b2,VM hr G.size (fun q hq hl=>hbl q (hf q hq).2.1),hn,b5,hf,(b7.setAt (.inr (by simp [Value.ownBlock];exact fun e=>hne.2.2.2.2.1 e.symm))).setAt (.inr (by simp [Value.ownBlock];exact fun e=>hne.2.2.2.2.1 e.symm)),b8⟩) (fun Lv s r c1 c2 c3=>⟨Lv,s,r,(hbl _ hne.2.2.2.1.symm).trans c1,c2,c3⟩),G⟩
theorem uJ {w w':World} {v:Value} {ns:List Ef} (h:Gu w v ns) (hs:w.heap.size≤w'.heap.size) (hb:∀q,v.ownBlock=some q→q<w.heap.size→w'.heap[q]?=w.heap[q]?):Gu w' v ns:=by
 obtain ⟨ao,cp,rfl,h1,h2,h3⟩:=h;refine ⟨ao,cp,rfl,h1,h2,h3.imp id ?_⟩;rintro ⟨b,off,rfl,hlt,hcl⟩;refine ⟨b,off,rfl,ZY hlt hs,fun i hi=>?_⟩;have e:∀j,w'.cell? ⟨b,j,none⟩=w.cell? ⟨b,j,none⟩:=fun j=>ZP (w:=w) (a:=⟨b,j,none⟩) (hb b rfl hlt)
 have h9:=hcl i hi;exact ⟨(e _).trans h9.c0,(e _).trans h9.c1,(e _).trans h9.c2,(e _).trans h9.c3,(e _).trans h9.c4,(e _).trans h9.c5,(e _).trans h9.c6,(e _).trans h9.c7⟩
theorem uI {w w':World} {v:Value} {os:List TK} (h:JZ w v os) (hs:w.heap.size≤w'.heap.size) (hb:∀q,v.ownBlock=some q→q<w.heap.size→w'.heap[q]?=w.heap[q]?):JZ w' v os:=by
 obtain ⟨ao,cp,rfl,h1,h2,h3⟩:=h;refine ⟨ao,cp,rfl,h1,h2,h3.imp id ?_⟩;rintro ⟨b,off,rfl,hlt,hcl⟩;refine ⟨b,off,rfl,ZY hlt hs,fun i hi=>?_⟩;have e:∀j,w'.cell? ⟨b,j,none⟩=w.cell? ⟨b,j,none⟩:=fun j=>ZP (w:=w) (a:=⟨b,j,none⟩) (hb b rfl hlt)
 have h9:=hcl i hi;exact ⟨(e _).trans h9.1,(e _).trans h9.2.1,(e _).trans h9.2.2.1,(e _).trans h9.2.2.2.1,(e _).trans h9.2.2.2.2⟩
theorem Sv.jS {κ:Sc} {σ:Sx} {w:World} (h:Sv κ σ w):κ.sB<w.heap.size∧κ.mB<w.heap.size∧κ.c<w.heap.size∧κ.lb<w.heap.size:=by
 obtain ⟨vd,made,YL,a1,-⟩:=h.dk;obtain ⟨vt,vq,cp,b1,b2,b3,b4,b5,b6,b7,b8⟩:=h.mm;obtain ⟨Lv,s,r,c1,c2,c3⟩:=h.ch;exact ⟨a1.lt,b1.lt,(Z3.mp c1).1,(b7.lt κ.lb rfl).2⟩
theorem Sv.far {κ:Sc} {σ:Sx} {w:World} (h:Sv κ σ w) {v:Value} (hv:∀q,v.ownBlock=some q→w.heap.size≤q):Pg κ v:=by
 obtain ⟨h1,h2,h3,h4⟩:=h.jS;intro q hq;have:=hv q hq;exact ⟨by omega,by omega,by omega,by omega,fun hx=>by have:=(h.fx q hx).1;omega⟩
structure lz (κ:Sc) (N:Nat) (vo vn ve vx:Value) (os:List TK) (pa:ByteArray) (A:Pa) (b5:Nat) (W:World):Prop where
 hk:κ.sB<N∧κ.mB<N∧κ.c<N∧κ.lb<N
 ln:St W N [.int .i64 1,vo,.bool false,.string pa,vn]
 pr:St W b5 [.int .i64 A.c,.int .i64 A.i,ve,.int .i64 A.z,vx]
 lo:N<b5
 es:Gu W vx A.es
 xf:∀q,vx.ownBlock=some q→N≤q
 op:JZ W vo os
 oF:Pg κ vo
theorem lz.gs {κ:Sc} {N:Nat} {vo vn ve vx:Value} {os:List TK} {pa:ByteArray} {A:Pa} {b5:Nat} {W W':World} (h:lz κ N vo vn ve vx os pa A b5 W) (hg:Gs κ W W'):lz κ N vo vn ve vx os pa A b5 W':=by
 obtain ⟨k1,k2,k3,k4⟩:=h.hk;have hl:=h.lo;have hb:∀q,N≤q→q<W.heap.size→W'.heap[q]?=W.heap[q]?:=fun q hq hl=>hg.block q hl (by omega) (by omega) (by omega) (by omega)
 exact ⟨h.hk,Wo h.ln hg.size (hb _ YR h.ln.lt),Wo h.pr hg.size (hb _ (Nat.le_of_lt hl) h.pr.lt),hl,uJ h.es hg.size (fun q hq hl=>hb q (h.xf q hq) hl),h.xf,uI h.op hg.size (fun q hq hl=>hg.block q hl (h.oF q hq).1 (h.oF q hq).2.1 (h.oF q hq).2.2.1 (h.oF q hq).2.2.2.1),h.oF⟩
theorem qN (s:ByteArray) (z:Nat) (hs:s.size≤1000) (hz:z<1000000):(strOfNums (VS s [z])).size≤3000:=by
 have e:(strOfNums (VS s [z])).size=(VS s [z]).length:=by simp [strOfNums,ByteArray.size]
 have:=Ex [z] (by simpa using hz);rw [e];unfold VS;rw [ZZ,Wq]
 simp at this ⊢
 omega
theorem Et (s:ByteArray):s++⟨#[]⟩=s:=by
 apply WM
 simp
end Go.Proofs.YtpmjnbmkippaiaaGreatDoor
namespace Go.Proofs.YtpmjnbmkippaiaaGreatDoor
open Go.RowKit Go.Shelf
theorem Es (w:World) (vo vn:Value) (os:List TK) (h:JZ w vo os) (hs:∀i,(Ql os i).seq=false) (hl:os.length≤1000) :
    Calls Tryz.prog 129 #[vo,vn] w (Wj w (.string ⟨#[]⟩)):=by
 obtain ⟨ao,cp,rfl,h1,h2,h3⟩:=h;have HR:=ZU h3;have HS:=ZU hs;clear h3 hs
 go_enter Tryz.func129,Tryz.ntmps129
 go_wp2_with fail
 have W0:Hid ((w.alloc (.cells #[.pointer none,.slice none 0 0] 180)).heap[w.heap.size]?=some (.cells #[.pointer none,.slice none 0 0] 180)):=Zs _ _;have B0:Hid (Zi w (w.alloc (.cells #[.pointer none,.slice none 0 0] 180))):=Yy.alloc YR _;generalize w.alloc _=w1 at *
 go_loopw [10] (fun v wr=>∃i:Nat,v=.int .i64 (i:Int)∧i≤os.length∧Hid (wr.heap[w.heap.size]?=some (.cells #[.pointer none,.slice none 0 0] 180))∧Hid (Zi w wr)) (fun v _=>((os.length:Int) - intOf v).toNat)
 case atStart=>exact ⟨0,rfl,Zu _,W0,B0⟩
 case round =>
  obtain ⟨i,rfl,hi,WH,BH⟩:=hrel
  by_cases hc:i<os.length
  · obtain ⟨b,off,rfl,hb,hcl⟩:=HR.out.resolve_left (fun e=>by rw [e] at hc;simp at hc)
    obtain ⟨k0,k1,k2,k3,k4⟩:=(hcl i hc).below BH.out hb;rw [HS.out i] at k4;clear hcl
    go_wp2_with fail
    have hw:=(Z3.mp WH.out).1;exact ⟨⟨i+1,by go_num,by omega,(Below.heap_alloc _ _ _ hw).trans WH.out,BH.out.alloc BH.out.size _⟩,by simp [intOf];omega⟩
  go_wp2_with fail
  refine (Tryz.Builder_String_empty w.heap.size w.heap.size wr (.inl ⟨YR,.slice none 0 0,WH.out,ZH _ _ _ _,by simp [Value.ownBlock]⟩) BH.out.size).mono ?_;rintro e w' ⟨rfl,b'⟩;have B2:=ZU (BH.out.trans b');clear b';go_wp2;go_ret;exact ⟨rfl,B2.out⟩
end Go.Proofs.YtpmjnbmkippaiaaGreatDoor
namespace Go.Proofs.YtpmjnbmkippaiaaGreatDoor
open Go.RowKit Go.Conc
def CC (κ:Sc) (σ:Sx) (A:Pa):ByteArray × Sx :=
 if A.c≠0 then (strOfNums (VS ⟨#[101,114,114,111,114]⟩ [A.c.toNat]),σ)
 else if κ.L*64<(((σ.full.length - σ.off)+(σ.ql+(fr (Va A.z A.es)).length):Nat):Int) then (strOfNums (VS ⟨#[101,114,114,111,114]⟩ [8]),σ)
 else (strOfNums (VS ⟨#[113,117,101,117,101,100]⟩ [A.z.toNat]),{ σ with Q:=PQ σ.Q A.z A.es,zq:=A.z.toNat,fs:=σ.fs++[fr (Va A.z A.es)],ql:=σ.ql+(fr (Va A.z A.es)).length })
structure jR (w:World) (vo vn ve vx:Value) (pa:ByteArray) (A:Pa) (b5:Nat) (W:World):Prop where
 WC:Zi w W
 ln:St W w.heap.size [.int .i64 1,vo,.bool false,.string pa,vn]
 pr:St W b5 [.int .i64 A.c,.int .i64 A.i,ve,.int .i64 A.z,vx]
 lo:w.heap.size<b5
 es:Gu W vx A.es
 xf:∀q,vx.ownBlock=some q→w.heap.size≤q
theorem jR.below {w:World} {vo vn ve vx:Value} {pa:ByteArray} {A:Pa} {b5:Nat} {W W':World} (h:jR w vo vn ve vx pa A b5 W) (hb:Zi W W'):jR w vo vn ve vx pa A b5 W' :=
 ⟨h.WC.trans (hb.mono h.WC.size),h.ln.below hb,h.pr.below hb,h.lo,h.es.below hb,h.xf⟩
theorem Er (κ:Sc) (σ:Sx) (w:World) (h:Sv κ σ w) (vo vn:Value) (pa:ByteArray) (os:List TK) (ho:JZ w vo os) (CA:Pg κ vo) (hseq:∀i,(Ql os i).seq=false) (hol:os.length≤1000) (hos:∀i,(Ql os i).path.size≤1048576∧(Ql os i).data.size≤1048576)
    (hQ:∀i,(Ye σ.Q i).path.size≤1048576∧(Ye σ.Q i).data.size≤1048576) (hz:σ.zq<900000) (A:Pa) (hA:CD σ.Q os ((σ.zq:Int)+1)=A) (fW:0≤A.c∧A.c<1000) (fV:0≤A.z∧A.z<1000000)
    (hes:∀i,(Vr A.es i).nd.path.size≤1048576∧(Vr A.es i).nd.data.size≤1048576) (him:A.c=0→0<(Va A.z A.es).length∧(Va A.z A.es).length≤2000) (hL:0≤κ.L∧κ.L≤64) (hfl:σ.full.length≤4096) (pX:σ.ql≤4096)
    (hroom:A.c=0→(((σ.full.length - σ.off)+(σ.ql+(fr (Va A.z A.es)).length):Nat):Int)≤κ.L*64→σ.fs.length<κ.cap)
    (hg:w.cell? ⟨5,0,none⟩=some (.iface 345 (.agg #[.pointer (some ⟨11,182,none⟩)]))) (htab:iR κ w) :
    Calls Tryz.prog 78 #[.pointer (some ⟨κ.sB,0,none⟩),.agg #[.int .i64 1,vo,.bool false,.string pa,vn]] w fun e w'=>e=.returned (.string (CC κ σ A).1)∧Gs κ w w'∧Sv κ (CC κ σ A).2 w':=by
 obtain ⟨vt,vq,cp,b1,b2,b3,b4,b5,b6,b7,b8⟩:=h.mm;obtain ⟨vd,made,YL,a1,-⟩:=h.dk;obtain ⟨qa,qc,rfl,-⟩:=SK.len b3;obtain ⟨oa,oc,rfl,-⟩:=ho.len;have hsb:=a1.lt;have hmb:=b1.lt;have hgb:=ZG w _ hg;have hb1:=(Below.refl w.heap.size w).alloc YR (.cells #[.int .i64 1,.slice oa os.length oc,.bool false,.string pa,vn] 43);have BL:Hid (Zi w (w.alloc (.cells #[.int .i64 1,.slice oa os.length oc,.bool false,.string pa,vn] 43))):=hb1;have LN:Hid (St (w.alloc (.cells #[.int .i64 1,.slice oa os.length oc,.bool false,.string pa,vn] 43)) w.heap.size [.int .i64 1,.slice oa os.length oc,.bool false,.string pa,vn]):=St.new _ _ _;have lJ:Hid (∀W,Zi w W→Calls Tryz.prog 125 #[.agg #[.slice qa σ.Q.length qc],.agg #[.slice oa os.length oc],.int .i64 ((σ.zq:Int)+1)] W fun e w'=>PA W A e w'):=fun W hW=>by
  rw [←hA];exact yZ W _ _ σ.Q os _ (b3.below hW) (ho.below hW) hQ hos ((hW.cell (p:=⟨5,0,none⟩) hgb).trans hg) (ZY hgb hW.size) (Ra (htab w (Gs.YZ Yy).gw) hW)
 have A1:=ZU a1;have B1:=ZU b1;have HV:=ZU h;have HO:=ZU ho;clear h a1 b1 b2 b3 b7 ho hb1;refine M6 Tryz.func78 rfl ?_
 simp only [Tryz.ntmps78,ZI,ZE,Y7,Nat.reduceAdd,Nat.reduceSub,YV,YU,YI,YT,Zd,Y3]
 refine VT (fun K hK=>Tu ?_);have HK:Hid _:=hK;clear hK
 go_wp2_with fail
 refine HK.out _ _ ?_;clear HK K;generalize w.alloc _=w1 at *;refine qS (fun a W=>∃(b5:Nat) (ve vx:Value) (u9 u10 u11 u12 u13 u14 u15 u16 u17 u18 u19 u20 u21 u22 u23 u24 u25 u26 u27 u28:Value),a={ tmps:=#[.pointer (some ⟨κ.sB,0,none⟩),.agg #[.int .i64 1,.slice oa os.length oc,.bool false,.string pa,vn],undef,.pointer (some ⟨w.heap.size,0,none⟩),.string ⟨#[]⟩,.pointer (some ⟨b5,0,none⟩),undef,undef,undef,u9,u10,u11,u12,u13,u14,u15,u16,u17,u18,u19,u20,u21,u22,u23,u24,u25,u26,u27,u28,undef,undef,undef,undef,undef,undef,undef,undef,undef,undef,undef,undef,undef,undef,undef,undef,undef,undef,undef,undef,undef,undef,undef,undef,undef,undef,undef,undef,undef,undef,undef,undef,undef,undef,undef,undef,undef,undef,undef,undef,undef,undef,undef,undef,undef,undef,undef,undef,undef,undef,undef,undef,undef,undef,undef,undef,undef,undef,undef,undef,undef,undef,undef,undef,undef,undef,undef,undef,undef,undef,undef,undef,undef,undef,undef,undef,undef,undef,undef,undef,undef,undef,undef,undef,undef,undef,undef,undef,undef,undef,undef,undef,undef,undef,undef,undef,undef,undef,undef,undef,undef,undef,undef,undef,undef,undef,undef],defers:=[] }∧Hid (jR w (.slice oa os.length oc) vn ve vx pa A b5 W)) ?rest (Tu ?_)
 case rest =>
  clear lJ BL LN;rintro a W ⟨b5,ve,vx,u9,u10,u11,u12,u13,u14,u15,u16,u17,u18,u19,u20,u21,u22,u23,u24,u25,u26,u27,u28,rfl,HR⟩;obtain ⟨c,i,z,NL,es⟩:=A
  simp only at hA fW fV hes him hroom HR
  obtain ⟨cn,rfl⟩:∃cn:Nat,c=(cn:Int):=⟨c.toNat,by omega⟩;obtain ⟨Y,rfl⟩:∃Y:Nat,z=(Y:Int):=⟨z.toNat,by omega⟩;have V1:=ZU (HV.out.below HR.out.WC);have G1:Hid (Gs κ w W):=Gs.YZ HR.out.WC;have p0:=HR.out.pr.cl 0 _ rfl;have l2:=HR.out.ln.cl 2 _ rfl
  by_cases hc:cn=0
  · subst hc
    obtain ⟨hi0,hi1⟩:=him rfl;have hroom':=hroom rfl;have XK:=ZU hroom';obtain ⟨xa,xc,rfl,-⟩:=Gu.len HR.out.es;have p3:=HR.out.pr.cl 3 _ rfl;have p4:=HR.out.pr.cl 4 _ rfl;have HE:=ZU (CY W (Y:Int) _ es HR.out.es hes);clear him hroom hroom';refine VT (fun K hK=>Tu ?_);have HK:Hid _:=hK;clear hK
    go_wp2_with fail
    refine HK.out _ _ ?_;clear HK K;refine VT (fun K hK=>Tu ?_);have HK:Hid _:=hK;clear hK
    go_wp2_with fail
    refine HK.out _ _ ?_;clear HK K;refine VT (fun K hK=>Tu ?_);have HK:Hid _:=hK;clear hK
    go_wp2_with fail
    refine HE.out.mono ?_;rintro e w2 ⟨v6,rfl,o6,b2⟩;have R2:=ZU (HR.out.below b2);have hz2:=R2.out.WC.size;have V2:=ZU (V1.out.below b2);have G2:=ZU (G1.out.trans (Gs.YZ b2));obtain ⟨ia,ic,rfl⟩:=Own.slice o6;have HF:=ZU (JR w2 _ _ o6.rd (vh _ _) (by omega));have YX:0<(fr (Va (Y:Int) es)).length∧(fr (Va (Y:Int) es)).length≤2300:=by rw [CW hi0 hi1];omega
    clear HE V1 G1 HR p0 l2 p3 p4 b2 o6;obtain ⟨il,hil⟩:∃n,n=(Va (Y:Int) es).length:=⟨_,rfl⟩;rw [←hil] at hi0 hi1 HF;rw [←hil];obtain ⟨F,hF⟩:∃F,F=fr (Va (Y:Int) es):=⟨_,rfl⟩;rw [←hF] at YX HF XK;have XJ:=ZU hF;clear hF hil;have WR:¬(2000:Int)<(il:Int):=by omega
    go_wp2_with fail
    refine HK.out _ _ ?_;clear HK K;refine VT (fun K hK=>Tu ?_);have HK:Hid _:=hK;clear hK
    go_wp2_with fail
    refine HK.out _ _ ?_;clear HK K;refine VT (fun K hK=>Tu ?_);have HK:Hid _:=hK;clear hK
    go_wp2_with fail
    refine HF.out.mono ?_;rintro e w3 ⟨v7,rfl,o7,b3⟩;have R3:=ZU (R2.out.below b3);have V3:=ZU (V2.out.below b3);have G3:=ZU (G2.out.trans (Gs.YZ b3));have s3:=b3.size;obtain ⟨fg,fc,rfl,WQ,WP⟩:=o7.pos rfl (by omega);have O7:=ZU o7;clear HF V2 G2 R2 b3 o7;obtain ⟨Wa,V',ZB,m3,q2,q3,q4,q5,q6,q7,q8⟩:=V3.out.mm;obtain ⟨V0,W7,WN,s3',-⟩:=V3.out.dk;have c0:=s3'.cl 0 _ rfl;have m5:=m3.cl 5 _ rfl;have hw1:IntKind.i64.wrap ((σ.ql:Int)+(F.length:Int))=(σ.ql:Int)+(F.length:Int):=by rw [Zq];omega
    go_wp2_with fail
    refine HK.out _ _ ?_;clear HK K;refine VT (fun K hK=>Tu ?_);have HK:Hid _:=hK;clear hK
    go_wp2_with fail
    refine HK.out _ _ ?_;clear HK K;refine VT (fun K hK=>Tu ?_);have HK:Hid _:=hK;clear hK
    go_wp2_with fail
    have b4:=below_drewN' w3 1;have R4:Hid (jR w (.slice oa os.length oc) vn ve (.slice xa es.length xc) pa ⟨0,i,(Y:Int),NL,es⟩ b5 w3.drew):=R3.out.below b4;have V4:Hid (Sv κ σ w3.drew):=V3.out.below b4;have G4:Hid (Gs κ w w3.drew):=G3.out.trans (Gs.YZ b4);have O8:Hid (Own .u8 5 w3.drew w2.heap.size (.slice (some ⟨fg,0,none⟩) F.length fc) F):=Own.below O7.out b4;obtain ⟨lg,lL⟩:∃n,n=σ.full.length - σ.off:=⟨_,rfl⟩;obtain ⟨la,hla⟩:∃x,x=κ.lo+(if σ.off=ZB then 0 else σ.off):=⟨_,rfl⟩;have m11:w3.cell? ⟨κ.mB,11,none⟩=some (.slice (some ⟨κ.lb,la,none⟩) lg (ZB - σ.off)):=by rw [lL,hla];exact m3.cl 11 _ rfl
    clear hla;have c2:=s3'.cl 2 _ rfl;have WJ:lg≤4096:=by omega
    have Yw:=ZU lL;clear lL V3 G3 R3 O7 m5 q2 q3 q4 q5 q6 q7 q8;refine ZX (S:=fun W=>W.cell? ⟨κ.sB,0,none⟩=some (.pointer (some ⟨κ.mB,0,none⟩))∧W.cell? ⟨κ.sB,2,none⟩=some (.int .i64 κ.L)∧W.cell? ⟨κ.mB,11,none⟩=some (.slice (some ⟨κ.lb,la,none⟩) lg (ZB - σ.off))) (by kernel_rfl) ⟨c0,c2,m11⟩ (fun Z9=>?_);clear c0 c2 m11 m3 s3' b4;generalize w3.drew=w4 at *
    iterate 9 (refine Zf ?_ (by kernel_rfl) (fun _=>id) Z9 ?_ ?_;rotate_left;· intro w9 ZQ;obtain ⟨k0,k1,k2⟩:=ZQ;go_simp;try with_reducible rfl)
    refine Zf (.int .i64 ((lg:Int)+((σ.ql:Int)+(F.length:Int)))) (by kernel_rfl) (fun _=>id) Z9 ?_ ?_
    · intro w9 ZQ;obtain ⟨k0,k1,k2⟩:=ZQ;go_simp;rw [Zq];omega
    iterate 5 (refine Zf ?_ (by kernel_rfl) (fun _=>id) Z9 ?_ ?_;rotate_left;· intro w9 ZQ;obtain ⟨k0,k1,k2⟩:=ZQ;go_simp;try with_reducible rfl)
    refine Zf (.int .i64 (κ.L*64)) (by kernel_rfl) (fun _=>id) Z9 ?_ ?_
    · intro w9 ZQ;obtain ⟨k0,k1,k2⟩:=ZQ;go_simp;rw [Zq];omega
    refine Zf ?_ (by kernel_rfl) (fun _=>id) Z9 ?_ ?_
    rotate_left
    · intro w9 ZQ;obtain ⟨k0,k1,k2⟩:=ZQ;go_simp;try with_reducible rfl
    refine ZR (by kernel_rfl) ?_ _
    try simp only [Act.put,WV,WU,WT]
    clear Z9
    by_cases hbig:κ.L*64<(lg:Int)+((σ.ql:Int)+(F.length:Int))
    · go_wp2_with fail
      have TT:Calls Tryz.prog 71 #[.string ⟨#[101,114,114,111,114]⟩,.slice (some ⟨w4.heap.size,0,none⟩) 1 1] (w4.alloc (.cells #[.int .i64 8] 2)) (Wj w4 (.string (strOfNums (VS ⟨#[101,114,114,111,114]⟩ [8])))):=Pf w4 _ 8 (by decide) (by decide) (htab _ G4.out.gw);refine TT.mono ?_;rintro e w5 ⟨rfl,XI⟩;clear TT
      go_wp2_with fail
      go_ret;have e:CC κ σ ⟨((0:Nat):Int),i,(Y:Int),NL,es⟩=(strOfNums (VS ⟨#[101,114,114,111,114]⟩ [8]),σ):=by
       unfold CC;rw [Z1 (by simp),←XJ.out,←Yw.out,Z0 (by show κ.L*64<((lg+(σ.ql+F.length):Nat):Int);omega)]
      rw [e];exact ⟨rfl,G4.out.trans (Gs.YZ XI),V4.out.below XI⟩
    go_wp2_with fail
    refine HK.out _ _ ?_;clear HK K;obtain ⟨fZ,fY,pY,m4,-⟩:=V4.out.mm;obtain ⟨X7,Zx,XV,s4,-⟩:=V4.out.dk;obtain ⟨Lv,ss,rr,c1,c2,c3⟩:=V4.out.ch;have k0:=s4.cl 0 _ rfl;have k4:=m4.cl 4 _ rfl;have hcap:Lv.toArray.size<κ.cap:=by
     have:=XK.out (by rw [←Yw.out];show ((lg+(σ.ql+F.length):Nat):Int)≤κ.L*64;omega);have e:=c2.1
     simp only [ZI];omega
    refine VT (fun K hK=>?_);have HK:Hid _:=hK;clear hK;refine Ko (pre:=[0,1,2,3,4,5,6,7]) (suf:=[]) 8 rfl rfl ?_;refine ⟨_,.pointer (some ⟨κ.sB,0,none⟩),w4,rfl,by kernel_rfl,by kernel_rfl,?_⟩;refine ⟨_,.pointer (some ⟨κ.sB,0,none⟩),w4,rfl,by kernel_rfl,by kernel_rfl,?_⟩;refine ⟨_,.pointer (some ⟨κ.sB,0,none⟩),w4,rfl,by kernel_rfl,by kernel_rfl,?_⟩;refine ⟨_,.pointer (some ⟨κ.mB,0,none⟩),w4,rfl,by kernel_rfl,?_,?_⟩
    · go_simp
    refine ⟨_,.pointer (some ⟨κ.mB,0,none⟩),w4,rfl,by kernel_rfl,by kernel_rfl,?_⟩;refine ⟨_,.pointer (some ⟨κ.mB,4,none⟩),w4,rfl,by kernel_rfl,by kernel_rfl,?_⟩;refine ⟨_,.chan (some κ.c),w4,rfl,by kernel_rfl,?_,?_⟩
    · go_simp
    refine ⟨_,.slice (some ⟨fg,0,none⟩) F.length fc,w4,rfl,by kernel_rfl,by kernel_rfl,?_⟩;refine ⟨by kernel_rfl,#[scase κ.c (.slice (some ⟨fg,0,none⟩) F.length fc) undef],true,.send,undef,w4.setChan κ.c κ.cap (Lv.toArray.push (.slice (some ⟨fg,0,none⟩) F.length fc)) false (ss+1) rr false,?_,vD c1 hcap,?_⟩
    · kernel_rfl
    show K _ _;refine HK.out _ _ ?_;clear HK K;have Mu:Pg κ (.slice (some ⟨fg,0,none⟩) F.length fc):=HV.out.far (fun q hq=>by
     simp only [Value.ownBlock,ZK] at hq
     have:=R4.out.WC.size;omega)
    obtain ⟨V5,G5⟩:=V4.out.sent c1 O8.out.rd YX.1 Mu;have V5:=ZU V5;have Q4:lz κ w.heap.size (.slice oa os.length oc) vn ve (.slice xa es.length xc) os pa ⟨0,i,(Y:Int),NL,es⟩ b5 w4:=⟨HV.out.jS,R4.out.ln,R4.out.pr,R4.out.lo,R4.out.es,R4.out.xf,HO.out.below R4.out.WC,CA⟩;have Q5:=ZU (Q4.gs G5);have G5:=ZU (G4.out.trans G5);clear Q4 V4 G4 R4 O8 c1 c2 c3 k0 k4 m4 s4 hcap Mu HO;generalize w4.setChan κ.c κ.cap (Lv.toArray.push (.slice (some ⟨fg,0,none⟩) F.length fc)) false (ss+1) rr false=w5 at *;obtain ⟨V6,G6⟩:=V5.out.fX (σ.ql+F.length);rw [Int.natCast_add] at V6 G6;have V6:=ZU V6;have Q6:=ZU (Q5.out.gs G6);have G6:=ZU (G5.out.trans G6);obtain ⟨fq,fp,fU,m5,-⟩:=V5.out.mm;obtain ⟨VZ,W6,WG,s5,-⟩:=V5.out.dk;have k0:=s5.cl 0 _ rfl;have k5:=m5.cl 5 _ rfl;have f5:=m5.fz 5;clear V5 G5 Q5 m5 s5;refine Tu ?_
    go_wp2_with fail
    clear k0 k5 f5;generalize w5.setCell _ _=w6 at *;have b7:=below_drewN' w6 1;have V7:Hid (Sv κ { σ with fs:=σ.fs++[F],ql:=σ.ql+F.length } w6.drew):=V6.out.below b7;have G7:Hid (Gs κ w w6.drew):=G6.out.trans (Gs.YZ b7);have Q7:Hid (lz κ w.heap.size (.slice oa os.length oc) vn ve (.slice xa es.length xc) os pa ⟨0,i,(Y:Int),NL,es⟩ b5 w6.drew):=Q6.out.gs (Gs.YZ b7);clear V6 G6 Q6 b7;obtain ⟨VY,VX,VW,m7,-,r7,n7,-,f7,-⟩:=V7.out.mm;obtain ⟨Xf,YC,XO,s7,-⟩:=V7.out.dk;obtain ⟨ya,yc,rfl,-⟩:=SK.len r7;have M7:=ZU m7;have S7:=ZU s7;have jQ:=ZU (JQ w6.drew _ σ.Q (Y:Int) _ es r7 n7 Q7.out.es hQ hes);have k2:w6.drew.cell? ⟨κ.mB,2,none⟩=some (.slice ya σ.Q.length yc):=M7.out.cl 2 _ rfl;have K2:=ZU k2;clear k2 r7 n7 f7 m7 s7;refine ZX (S:=fun W=>W.cell? ⟨κ.sB,0,none⟩=some (.pointer (some ⟨κ.mB,0,none⟩))∧W.cell? ⟨b5,3,none⟩=some (.int .i64 (Y:Int))∧W.cell? ⟨b5,4,none⟩=some (.slice xa es.length xc)) (by kernel_rfl) ⟨S7.out.cl 0 _ rfl,Q7.out.pr.cl 3 _ rfl,Q7.out.pr.cl 4 _ rfl⟩ (fun Z9=>?_);generalize w6.drew=w7 at *
    iterate 11 (refine Zf ?_ (by kernel_rfl) (fun _=>id) Z9 ?_ ?_;rotate_left;· intro w9 ZQ;obtain ⟨k0,k1,k2⟩:=ZQ;go_simp;try with_reducible rfl)
    refine Yp 12 ?v29 rfl (by kernel_rfl) (fun _=>id) Z9 ?hy29 ?_
    case hy29=>intro w9 ZQ;obtain ⟨k0,k1,k2⟩:=ZQ;go_simp;try with_reducible rfl
    refine Yp 13 ?v30 rfl (by kernel_rfl) (fun _=>id) Z9 ?uL ?_
    case uL=>intro w9 ZQ;obtain ⟨k0,k1,k2⟩:=ZQ;go_simp;try with_reducible rfl
    refine Yp 15 ?v31 rfl (by kernel_rfl) (fun _=>id) Z9 ?hy31 ?_
    case hy31=>intro w9 ZQ;obtain ⟨k0,k1,k2⟩:=ZQ;go_simp;try with_reducible rfl
    refine Yp 16 ?v32 rfl (by kernel_rfl) (fun _=>id) Z9 ?hy32 ?_
    case hy32=>intro w9 ZQ;obtain ⟨k0,k1,k2⟩:=ZQ;go_simp;try with_reducible rfl
    refine Yp 17 ?v33 rfl (by kernel_rfl) (fun _=>id) Z9 ?uK ?_
    case uK=>intro w9 ZQ;obtain ⟨k0,k1,k2⟩:=ZQ;go_simp;try with_reducible rfl
    refine YS 11 rfl (by kernel_rfl) (fun K hK=>?_);have k2:=K2.out;go_simp;refine hK.out _ _ Z9 (fun YA=>?_);clear hK K k2 YA;refine YS 14 rfl (by kernel_rfl) (fun K hK=>?_);go_simp;refine jQ.out.mono ?_;rintro e w8 ⟨v8,rfl,o8,U⟩;have hs7:=S7.out.lt;have Y1:=Q7.out.pr.lt;have VV:=M7.out.lt;obtain ⟨ra,rc,rfl⟩:=XU.QW o8;refine hK.out _ _ ⟨(U.cell (p:=⟨κ.sB,0,none⟩) hs7).trans Z9.1,(U.cell (p:=⟨b5,3,none⟩) Y1).trans Z9.2.1,(U.cell (p:=⟨b5,4,none⟩) Y1).trans Z9.2.2⟩ (fun YA=>?_);have XG:w8.cell? ⟨κ.sB,0,none⟩=some (.pointer (some ⟨κ.mB,0,none⟩))∧w8.cell? ⟨b5,3,none⟩=some (.int .i64 (Y:Int))∧w8.cell? ⟨b5,4,none⟩=some (.slice xa es.length xc):=⟨(U.cell (p:=⟨κ.sB,0,none⟩) hs7).trans Z9.1,(U.cell (p:=⟨b5,3,none⟩) Y1).trans Z9.2.1,(U.cell (p:=⟨b5,4,none⟩) Y1).trans Z9.2.2⟩;have Zr:Pg κ (.slice ra (PQ σ.Q (Y:Int) es).length rc):=V7.out.far (fun q hq=>(ZT o8 q hq).1);have V8:=V7.out.below U;obtain ⟨V9,G9⟩:=V8.mO (z:=Y) (XU.rd o8) (XU.qi o8) Zr;have V9:=ZU V9;have Q9:=ZU ((Q7.out.gs (Gs.YZ U)).gs G9);have G9:=ZU ((G7.out.trans (Gs.YZ U)).trans G9);have M8:=M7.out.below U;have S8:=S7.out.below U;have S9:=(S8.other (c:=κ.mB) (j:=2) (x:=.slice ra (PQ σ.Q (Y:Int) es).length rc) HV.out.ne.1).other (c:=κ.mB) (j:=3) (x:=.int .i64 (Y:Int)) HV.out.ne.1;have k3:=M8.cl 2 _ rfl;have k4:=M8.cl 3 _ rfl;have f2:=M8.fz 2;have f3:=M8.fz 3;clear hK K YA Z9 jQ o8 U V7 G7 Q7 M7 S7 K2 V8 Zr;have Z9:=XG;clear XG
    iterate 3 (refine Zf ?_ (by kernel_rfl) (fun _=>id) Z9 ?_ ?_;rotate_left;· intro w9 ZQ;obtain ⟨k0,k1,k2⟩:=ZQ;go_simp;try with_reducible rfl)
    refine YS 21 rfl (by kernel_rfl) (fun K hK=>?_);go_simp;refine hK.out _ _ ⟨S9.cl 0 _ rfl,Q9.out.pr.cl 3 _ rfl,Q9.out.pr.cl 4 _ rfl⟩ (fun YA=>?_);clear hK K YA Z9 k3 k4 f2 f3 M8 S8 S9;refine ZR (by kernel_rfl) ?_ _
    try simp only [Act.put,WV,WU,WT]
    generalize (w8.setCell _ _).setCell _ _=w9 at *;have b10:=below_drewN' w9 1;have Zv:Hid (Sv κ { σ with Q:=PQ σ.Q (Y:Int) es,zq:=Y,fs:=σ.fs++[F],ql:=σ.ql+F.length } w9.drew):=V9.out.below b10;have Z4:Hid (Gs κ w w9.drew):=G9.out.trans (Gs.YZ b10);have Z2:Hid (lz κ w.heap.size (.slice oa os.length oc) vn ve (.slice xa es.length xc) os pa ⟨0,i,(Y:Int),NL,es⟩ b5 w9.drew):=Q9.out.gs (Gs.YZ b10);clear V9 G9 Q9 b10
    go_wp2_with fail
    refine ZX (S:=fun W=>W.cell? ⟨b5,3,none⟩=some (.int .i64 (Y:Int))∧W.cell? ⟨b5,2,none⟩=some ve∧W.cell? ⟨w.heap.size,1,none⟩=some (.slice oa os.length oc)) (by kernel_rfl) ⟨Z2.out.pr.cl 3 _ rfl,Z2.out.pr.cl 2 _ rfl,Z2.out.ln.cl 1 _ rfl⟩ (fun Z9=>?_);generalize w9.drew=Jg at *
    iterate 3 (refine Zf ?_ (by kernel_rfl) (fun _=>id) Z9 ?_ ?_;rotate_left;· intro w9 ZQ;obtain ⟨k0,k1,k2⟩:=ZQ;go_simp;try with_reducible rfl)
    refine Yp 5 ?v40 rfl (by kernel_rfl) (fun _=>id) Z9 ?XD ?_
    case XD=>intro w9 ZQ;obtain ⟨k0,k1,k2⟩:=ZQ;go_simp;try with_reducible rfl
    refine Yp 6 ?v41 rfl (by kernel_rfl) (fun _=>id) Z9 ?XC ?_
    case XC=>intro w9 ZQ;obtain ⟨k0,k1,k2⟩:=ZQ;go_simp;try with_reducible rfl
    refine Yp 7 ?v42 rfl (by kernel_rfl) (fun _=>id) Z9 ?XB ?_
    case XB=>intro w9 ZQ;obtain ⟨k0,k1,k2⟩:=ZQ;go_simp;try with_reducible rfl
    refine Yp 8 ?v43 rfl (by kernel_rfl) (fun _=>id) Z9 ?Xy ?_
    case Xy=>intro w9 ZQ;obtain ⟨k0,k1,k2⟩:=ZQ;go_simp;try with_reducible rfl
    refine Yp 9 ?v44 rfl (by kernel_rfl) (fun _=>id) Z9 ?Xx ?_
    case Xx=>intro w9 ZQ;obtain ⟨k0,k1,k2⟩:=ZQ;go_simp;try with_reducible rfl
    refine YS 3 rfl (by kernel_rfl) (fun K hK=>?_);go_simp;have TT:=ZU (Pf Jg ⟨#[113,117,101,117,101,100]⟩ Y (by decide) (by omega) (htab _ Z4.out.gw));have ba:Zi Jg (Jg.alloc (.cells #[.int .i64 (Y:Int)] 2)):=Yy.alloc YR _;have YO:=Z2.out.pr.lt;have Xv:=Z2.out.ln.lt;have hH1:∀W,Zi Jg W→W.cell? ⟨b5,3,none⟩=some (.int .i64 (Y:Int))∧W.cell? ⟨b5,2,none⟩=some ve∧W.cell? ⟨w.heap.size,1,none⟩=some (.slice oa os.length oc):=fun W hW=>⟨(hW.cell (p:=⟨b5,3,none⟩) YO).trans Z9.1,(hW.cell (p:=⟨b5,2,none⟩) YO).trans Z9.2.1,(hW.cell (p:=⟨w.heap.size,1,none⟩) Xv).trans Z9.2.2⟩
    refine hK.out _ _ (hH1 _ ba) (fun YA=>?_);clear hK K YA Z9 ba;refine YS 4 rfl (by kernel_rfl) (fun K hK=>?_);have Cy:=ZU hH1;clear hH1;go_simp;refine TT.out.mono ?_;rintro e gC ⟨rfl,b11⟩;refine hK.out _ _ (Cy.out _ b11) (fun YA=>?_);have Z9:=Cy.out _ b11;have W5:=ZU (qN ⟨#[113,117,101,117,101,100]⟩ Y (by decide) (by omega));have SN:=ZU (Es gC _ ve os (Z2.out.op.below b11) hseq hol);have B11:=ZU b11;clear hK K YA TT b11;refine YS 10 rfl (by kernel_rfl) (fun K hK=>?_);go_simp;refine SN.out.mono ?_;rintro e tP ⟨rfl,b12⟩;have C:=ZU (WD B11.out b12);refine hK.out _ _ (Cy.out _ C.out) (fun YA=>?_);clear Z9;have Z9:=Cy.out _ C.out;clear hK K YA SN b12 B11 Cy;refine Zf (.string (strOfNums (VS ⟨#[113,117,101,117,101,100]⟩ [Y]))) (by kernel_rfl) (fun _=>id) Z9 ?_ ?_
    · intro w9 ZQ;clear ZQ;go_simp;rw [Z1 (by have:=W5.out;omega),Et]
    refine Zf ?_ (by kernel_rfl) (fun _=>id) Z9 ?_ ?_
    rotate_left
    · intro w9 ZQ;obtain ⟨k0,k1,k2⟩:=ZQ;go_simp;try with_reducible rfl
    refine ZR (by kernel_rfl) ?_ _
    try simp only [Act.put,WV,WU,WT]
    clear Z9
    go_wp2_with fail
    go_ret;have e:CC κ σ ⟨((0:Nat):Int),i,(Y:Int),NL,es⟩=(strOfNums (VS ⟨#[113,117,101,117,101,100]⟩ [Y]),{ σ with Q:=PQ σ.Q (Y:Int) es,zq:=Y,fs:=σ.fs++[F],ql:=σ.ql+F.length }):=by
     unfold CC;rw [Z1 (by simp),←XJ.out,←Yw.out,Z1 (by show ¬κ.L*64<((lg+(σ.ql+F.length):Nat):Int);omega)]
     simp
    rw [e];exact ⟨rfl,Z4.out.trans (Gs.YZ C.out),Zv.out.below C.out⟩
  have hci:¬(cn:Int)=0:=by omega
  have hcb:((cn:Int) == 0)=false:=by simpa using hci
  have HC:=ZU hc;clear hc him hroom;refine VT (fun K hK=>Tu ?_);have HK:Hid _:=hK;clear hK
  go_wp2_with fail
  refine HK.out _ _ ?_;clear HK K;refine VT (fun K hK=>Tu ?_);have HK:Hid _:=hK;clear hK
  go_wp2_with fail
  have TT:=Pf W ⟨#[101,114,114,111,114]⟩ cn (by decide) (by omega) (htab _ G1.out.gw);refine TT.mono ?_;rintro e w3 ⟨rfl,b3⟩;clear TT
  go_wp2_with fail
  go_ret;have e:CC κ σ ⟨(cn:Int),i,(Y:Int),NL,es⟩=(strOfNums (VS ⟨#[101,114,114,111,114]⟩ [cn]),σ):=by
   unfold CC;rw [Z0 (by simpa using HC.out)]
   simp
  rw [e];exact ⟨rfl,G1.out.trans (Gs.YZ b3),V1.out.below b3⟩
 have BD:Hid (Zi w w1.drew):=BL.out.trans ((below_drewN' w1 1).mono BL.out.size);have LD:Hid (St w1.drew w.heap.size [.int .i64 1,.slice oa os.length oc,.bool false,.string pa,vn]):=LN.out.below (below_drewN' w1 1);refine ZX (S:=fun W=>Zi w W∧St W w.heap.size [.int .i64 1,.slice oa os.length oc,.bool false,.string pa,vn]) (by kernel_rfl) ⟨BD.out,LD.out⟩ (fun Z9=>?_);clear BD LD BL LN;generalize w1.drew=w2 at *
 iterate 18 (refine Zf ?_ (by kernel_rfl) (fun _=>id) Z9 ?_ ?_;rotate_left;· intro w9 ZQ;obtain ⟨kb,kl⟩:=ZQ;have k0:=(kb.cell (p:=⟨κ.sB,0,none⟩) hsb).trans (A1.out.cl 0 _ rfl);have k1:=(kb.cell (p:=⟨κ.mB,2,none⟩) hmb).trans (B1.out.cl 2 _ rfl);have k2:=(kb.cell (p:=⟨κ.mB,3,none⟩) hmb).trans (B1.out.cl 3 _ rfl);have k3:=kl.cl 1 _ rfl;clear kb kl;go_simp;try with_reducible rfl)
 refine Zf (.int .i64 ((σ.zq:Int)+1)) (by kernel_rfl) (fun _=>id) Z9 ?_ ?_
 · intro w9 ZQ;obtain ⟨kb,kl⟩:=ZQ;have k0:=(kb.cell (p:=⟨κ.sB,0,none⟩) hsb).trans (A1.out.cl 0 _ rfl);have k1:=(kb.cell (p:=⟨κ.mB,2,none⟩) hmb).trans (B1.out.cl 2 _ rfl);have k2:=(kb.cell (p:=⟨κ.mB,3,none⟩) hmb).trans (B1.out.cl 3 _ rfl);have k3:=kl.cl 1 _ rfl;clear kb kl;go_simp;rw [Zq];omega
 refine QG 19 20 rfl rfl (by kernel_rfl) (fun K hK=>?_) (fun K hK=>?_)
 · go_simp
   refine (lJ.out _ Z9.1).mono ?_;rintro e w4 ⟨ve,vx,rfl,o1,o2,h4⟩;obtain ⟨xa,xc,rfl⟩:=UN.QW o2;obtain ⟨na,nl,nc,rfl⟩:∃a l c,ve=.slice a l c:=by rcases o1.2 with ⟨rfl,-⟩ | ⟨g,cap,cur,rfl,-⟩ <;> exact ⟨_,_,_,rfl⟩
   have I8:Zi w w4∧St w4 w.heap.size [.int .i64 1,.slice oa os.length oc,.bool false,.string pa,vn]:=⟨Z9.1.trans (h4.mono Z9.1.size),Z9.2.below h4⟩;refine hK.out _ _ I8 (fun YA=>?_);have RE:=ZU (UN.rd o2);have XF:Hid (∀q,(Value.slice xa A.es.length xc).ownBlock=some q→w.heap.size≤q):=fun q hq=>by have:=(ZT o2 q hq).1;have:=Z9.1.size;omega
   clear hK K Z9 YA o1 o2 h4;refine YS 20 rfl (by kernel_rfl) (fun K hK=>?_);go_simp;have bA:Zi w4 (w4.alloc (.cells #[.int .i64 0,.int .i64 0,.slice none 0 0,.int .i64 0,.slice none 0 0] 194)):=Yy.alloc YR _;have yE:Zi w (w4.alloc (.cells #[.int .i64 0,.int .i64 0,.slice none 0 0,.int .i64 0,.slice none 0 0] 194))∧St (w4.alloc (.cells #[.int .i64 0,.int .i64 0,.slice none 0 0,.int .i64 0,.slice none 0 0] 194)) w.heap.size [.int .i64 1,.slice oa os.length oc,.bool false,.string pa,vn]:=⟨I8.1.trans (bA.mono I8.1.size),I8.2.below bA⟩;refine hK.out _ _ yE (fun YA=>?_);clear hK K YA;refine YS 21 rfl (by kernel_rfl) (fun K hK=>?_);have hzz:=I8.2.lt;have hne:w4.heap.size≠w.heap.size:=by omega
   have X5:=St.new w4 #[.int .i64 0,.int .i64 0,.slice none 0 0,.int .i64 0,.slice none 0 0] 194;have t0:=X5.cl 0 _ rfl;have t1:=X5.cl 1 _ rfl;have t2:=X5.cl 2 _ rfl;have t3:=X5.cl 3 _ rfl;have t4:=X5.cl 4 _ rfl;have f0:=X5.fz 0;have f1:=X5.fz 1;have f2:=X5.fz 2;have f3:=X5.fz 3;have f4:=X5.fz 4;have X6:=ZU (St.new w4 #[.int .i64 A.c,.int .i64 A.i,.slice na nl nc,.int .i64 A.z,.slice xa A.es.length xc] 194);have b6:Hid (Zi w4 (w4.alloc (.cells #[.int .i64 A.c,.int .i64 A.i,.slice na nl nc,.int .i64 A.z,.slice xa A.es.length xc] 194))):=Yy.alloc YR _;clear X5 bA;go_simp;refine hK.out _ _ ⟨I8.1.trans (b6.out.mono I8.1.size),I8.2.below b6.out⟩ (fun YA=>?_);clear hK K YA t0 t1 t2 t3 t4 f0 f1 f2 f3 f4;refine ZR (by kernel_rfl) ?_ _
   try simp only [Act.put,WV,WU,WT]
   exact ⟨w4.heap.size,_,_,_,_,_,_,_,_,_,_,_,_,_,_,_,_,_,_,_,_,_,_,rfl,I8.1.trans (b6.out.mono I8.1.size),I8.2.below b6.out,X6.out,hzz,RE.out.below b6.out,XF.out⟩
 · go_simp
   have bA:Zi w2 (w2.alloc (.cells #[.int .i64 0,.int .i64 0,.slice none 0 0,.int .i64 0,.slice none 0 0] 194)):=Yy.alloc YR _;have yE:Zi w (w2.alloc (.cells #[.int .i64 0,.int .i64 0,.slice none 0 0,.int .i64 0,.slice none 0 0] 194))∧St (w2.alloc (.cells #[.int .i64 0,.int .i64 0,.slice none 0 0,.int .i64 0,.slice none 0 0] 194)) w.heap.size [.int .i64 1,.slice oa os.length oc,.bool false,.string pa,vn]:=⟨Z9.1.trans (bA.mono Z9.1.size),Z9.2.below bA⟩;have X5:=ZU (St.new w2 #[.int .i64 0,.int .i64 0,.slice none 0 0,.int .i64 0,.slice none 0 0] 194);have hzz:=Z9.2.lt;refine hK.out _ _ yE (fun YA=>?_);clear hK K YA Z9 bA;generalize hb5:w2.heap.size=b5 at *;have Nv:b5<(w2.alloc (.cells #[.int .i64 0,.int .i64 0,.slice none 0 0,.int .i64 0,.slice none 0 0] 194)).heap.size:=by simp [hb5]
   generalize w2.alloc _=w3 at *;refine YS 19 rfl (by kernel_rfl) (fun K hK=>?_);go_simp;refine (lJ.out _ yE.1).mono ?_;rintro e w4 ⟨ve,vx,rfl,o1,o2,h4⟩;obtain ⟨xa,xc,rfl⟩:=UN.QW o2;obtain ⟨na,nl,nc,rfl⟩:∃a l c,ve=.slice a l c:=by rcases o1.2 with ⟨rfl,-⟩ | ⟨g,cap,cur,rfl,-⟩ <;> exact ⟨_,_,_,rfl⟩
   have I8:Zi w w4∧St w4 w.heap.size [.int .i64 1,.slice oa os.length oc,.bool false,.string pa,vn]:=⟨yE.1.trans (h4.mono yE.1.size),yE.2.below h4⟩;refine hK.out _ _ I8 (fun YA=>?_);have M:=X5.out.below h4;have XF:Hid (∀q,(Value.slice xa A.es.length xc).ownBlock=some q→w.heap.size≤q):=fun q hq=>by have:=(ZT o2 q hq).1;have:=yE.1.size;omega
   have hxe:(Value.slice xa A.es.length xc).ownBlock=none∨(Value.slice xa A.es.length xc).ownBlock≠some b5:=.inr (fun e=>by have:=(ZT o2 _ e).1;omega);have RE:=ZU (Zn (Zn (Zn (Zn (Zn o2 (grownBy_set _ _ b5 0 (.int .i64 A.c) (Zz _ _)) hxe) (grownBy_set _ _ b5 1 (.int .i64 A.i) (Zz _ _)) hxe) (grownBy_set _ _ b5 2 (.slice na nl nc) (Zz _ _)) hxe) (grownBy_set _ _ b5 3 (.int .i64 A.z) (Zz _ _)) hxe) (grownBy_set _ _ b5 4 (.slice xa A.es.length xc) (Zz _ _)) hxe);clear hK K YA o1 o2 h4 hxe yE X5;refine YS 21 rfl (by kernel_rfl) (fun K hK=>?_);have t0:=M.cl 0 _ rfl;have t1:=M.cl 1 _ rfl;have t2:=M.cl 2 _ rfl;have t3:=M.cl 3 _ rfl;have t4:=M.cl 4 _ rfl;have f0:=M.fz 0;have f1:=M.fz 1;have f2:=M.fz 2;have f3:=M.fz 3;have f4:=M.fz 4;have X6:=ZU (((((M.set 0 (.int .i64 A.c)).set 1 (.int .i64 A.i)).set 2 (.slice na nl nc)).set 3 (.int .i64 A.z)).set 4 (.slice xa A.es.length xc));have b6:Hid (Zi w (((((w4.setCell ⟨b5,0,none⟩ (.int .i64 A.c)).setCell ⟨b5,1,none⟩ (.int .i64 A.i)).setCell ⟨b5,2,none⟩ (.slice na nl nc)).setCell ⟨b5,3,none⟩ (.int .i64 A.z)).setCell ⟨b5,4,none⟩ (.slice xa A.es.length xc))):=by
    show Below _ _ _
    iterate 5 refine Below.setCell ?_ (Nat.le_of_lt hzz) _
    exact I8.1
   have hne:w.heap.size≠b5:=by omega
   have l6:=ZU (((((I8.2.other (c:=b5) (j:=0) (x:=.int .i64 A.c) hne).other (c:=b5) (j:=1) (x:=.int .i64 A.i) hne).other (c:=b5) (j:=2) (x:=.slice na nl nc) hne).other (c:=b5) (j:=3) (x:=.int .i64 A.z) hne).other (c:=b5) (j:=4) (x:=.slice xa A.es.length xc) hne);clear M;go_simp;refine hK.out _ _ ⟨b6.out,l6.out⟩ (fun YA=>?_);clear hK K YA t0 t1 t2 t3 t4 f0 f1 f2 f3 f4;refine ZR (by kernel_rfl) ?_ _
   try simp only [Act.put,WV,WU,WT]
   exact ⟨b5,_,_,_,_,_,_,_,_,_,_,_,_,_,_,_,_,_,_,_,_,_,_,rfl,b6.out,l6.out,X6.out,hzz,UN.rd RE.out,XF.out⟩
 end Go.Proofs.YtpmjnbmkippaiaaGreatDoor
namespace Go.Proofs.YtpmjnbmkippaiaaGreatDoor
open Go.RowKit Go.Conc
theorem Mr {w:World} {v:Value} {ns:List Nd} {pB:Nat} {z o:Nat} (h:SK w v ns) (hn:ns≠[]) (hb:w.heap[pB]?=some (.cells #[.int .i64 (z:Int),.int .i64 (o:Int),.string ⟨#[]⟩,.slice none 0 0] 186 (0,0))):∀q,v.ownBlock=some q→q≠pB:=by
 obtain ⟨ao,cp,rfl,h1,h2,h3⟩:=h;obtain ⟨b,off,rfl,hlt,hcl⟩:=h3.resolve_left hn;rintro q hq rfl
 simp only [Value.ownBlock,ZK] at hq
 subst hq;have h9:=hcl 0 (List.length_pos_iff.2 hn);have c0:=h9.c0;have c1:=h9.c1;rw [cell_of hb] at c0 c1
 simp only [Xg,Yj] at c0 c1
 match off,c0,c1 with
 | 0,c0,_=>simp at c0
 | 1,c0,_=>simp at c0
 | 2,_,c1=>simp at c1
 | 3,c0,_=>simp at c0
 | k+4,c0,_=>simp at c0
theorem IV {w:World} {lo pB:Nat} {v:Value} {xs:List Int} {cs:Array Value} (h:Own .u8 5 w lo v xs) (hb:w.heap[pB]?=some (.cells cs 186 (0,0))):v.ownBlock≠some pB:=by
 rcases h.2 with ⟨rfl,-⟩ | ⟨g,cap,cur,rfl,-,hg,-⟩
 · simp [Value.ownBlock]
 intro e
 simp only [Value.ownBlock,ZK] at e
 subst e;rw [hg] at hb
 injection hb with hb
 injection hb with _ h2
 exact absurd h2 (by decide)
theorem UI.apart {w:World} {pB:Nat} {v:Value} {xs:List Int} {cs:Array Value} (h:UI w v xs) (hb:w.heap[pB]?=some (.cells cs 186 (0,0))):v.ownBlock≠some pB:=by
 obtain ⟨g,lo,cp,pre,rfl,h2,h3⟩:=h;have h9:=IV h3 hb
 simp only [Value.ownBlock] at h9 ⊢
 exact h9
theorem Sv.qM {κ:Sc} {σ:Sx} {w w':World} {pB z o:Nat} (h:Sv κ σ w) (hsn:σ.sn=some (pB,z,o)) (hem:σ.em=false) (hT:σ.T≠[]) (hQ:σ.Q≠[]) (hfs:σ.fs=[]) (hg:w.grownBy w' (some pB)):Sv κ { σ with em:=true } w'∧Gw κ w w':=by
 obtain ⟨vd,made,YL,a1,a2,a3,a4,a5⟩:=h.dk;obtain ⟨vt,vq,cp,b1,b2,b3,b4,b5,b6,b7,b8⟩:=h.mm;obtain ⟨Lv,s,r,c1,c2,c3⟩:=h.ch;obtain ⟨p1,p2,p3,p4,p5,p6⟩:=h.sn _ hsn;have hb:=p1.2 hem;have hs:=hg.size;have hbl:∀q,q<w.heap.size→q≠pB→w'.heap[q]?=w.heap[q]?:=fun q hq hn=>hg.block q hq (fun e=>hn (by injection e))
 have hL:Lv=[]:=Zg (by rw [c2.1,hfs];rfl);subst hL;obtain ⟨l1,l2,l3,l4⟩:=h.jS;refine ⟨⟨h.ne,fun x hx=>⟨ZY (h.fx x hx).1 hs,(h.fx x hx).2⟩,⟨vd,made,YL,Wo a1 hs (hbl _ l1 (Nat.ne_of_lt p2)),Zn a2 hg (.inr (IV a2 hb)),a3,a4,a5⟩,⟨vt,vq,cp,Wo b1 hs (hbl _ l2 (Ne.symm p3)),VM b2 hs (fun q hq hl=>hbl q hl (Mr b2 hT hb q hq)),VM b3 hs (fun q hq hl=>hbl q hl (Mr b3 hQ hb q hq)),b4,b5,b6,UI.kept b7 hg (.inr (UI.apart b7 hb)),b8⟩,⟨[],s,r,(hbl _ l3 (Ne.symm p4)).trans c1,⟨c2.1,fun i hi=>absurd hi (by simp)⟩,c3⟩,fun p hp=>?_,h.pw.keep (fun g hl _ _ _ _ _ e=>hbl g hl (fun e9=>by rw [e9,hb] at e;simp at e))⟩,⟨hg.os,hg.tape,hg.output,hs,fun q hq _ _ _ _ e _=>hbl q hq (fun e9=>?_)⟩⟩
 · rw [hsn] at hp
   cases hp
   exact ⟨⟨ZY p1.1 hs,fun e=>by cases e⟩,p2,p3,p4,p5,p6⟩
 subst e9;exact e p2 (by rw [cell_of hb];rfl)
theorem Sv.mN {κ:Sc} {σ:Sx} {w:World} (h:Sv κ σ w):Sv κ { σ with sn:=none } (w.setCell ⟨κ.mB,12,none⟩ (.pointer none))∧Gs κ w (w.setCell ⟨κ.mB,12,none⟩ (.pointer none)):=by
 have hne:=h.ne;obtain ⟨vd,made,YL,a1,a2,a3,a4,a5⟩:=h.dk;obtain ⟨vt,vq,cp,b1,b2,b3,b4,b5,b6,b7,b8⟩:=h.mm;obtain ⟨Lv,s,r,c1,c2,c3⟩:=h.ch;have hs:w.heap.size≤(w.setCell ⟨κ.mB,12,none⟩ (.pointer none)).heap.size:=by simp
 have hbl:∀q,q≠κ.mB→(w.setCell ⟨κ.mB,12,none⟩ (.pointer none)).heap[q]?=w.heap[q]?:=fun q hn=>Below.heap_setCell w ⟨κ.mB,12,none⟩ _ q hn
 have G:Gs κ w (w.setCell ⟨κ.mB,12,none⟩ (.pointer none)):=⟨rfl,rfl,rfl,hs,fun q hq _ h2 _ _=>hbl q h2⟩;refine ⟨⟨hne,fun x hx=>⟨ZY (h.fx x hx).1 hs,(h.fx x hx).2⟩,⟨vd,made,YL,Wo a1 hs (hbl _ hne.1),a2.setAt (.inr (fun e=>(a5 _ e).2.1 rfl)),a3,a4,a5⟩,⟨vt,vq,cp,b1.set 12 _,VM b2 hs (fun q hq _=>hbl q (b5 q hq).2.1),VM b3 hs (fun q hq _=>hbl q (b6 q hq).2.1),b4,b5,b6,b7.setAt (.inr (by simp [Value.ownBlock];exact fun e=>hne.2.2.2.2.1 e.symm)),b8⟩,⟨Lv,s,r,(hbl _ hne.2.2.2.1.symm).trans c1,⟨c2.1,fun i hi=>⟨Rg (c2.2 i hi).1 hs (fun q hq _=>hbl q (c3 i hi q hq).2.1),(c2.2 i hi).2⟩⟩,c3⟩,(fun p hp=>by cases hp),h.pw.keep (fun g _ _ h2 _ _ _ _=>hbl g h2)⟩,G⟩
theorem Sv.mM {κ:Sc} {σ:Sx} {w:World} {cp:Nat} {g b s l r:Int} (o:Nat) (h:Sv κ σ w) (ho:σ.off+o≤σ.full.length) (hcp:∀vt vq cp',St w κ.mB (yG κ σ vt vq cp')→cp'=cp) :
    Sv κ { σ with g:=g,b:=b,s:=s,l:=l,r:=r,off:=σ.off+o,sn:=none } (((((((w.setCell ⟨κ.mB,6,none⟩ (.int .i64 g)).setCell ⟨κ.mB,7,none⟩ (.int .i64 b)).setCell ⟨κ.mB,8,none⟩ (.int .i64 s)).setCell ⟨κ.mB,9,none⟩ (.int .i64 l)).setCell ⟨κ.mB,10,none⟩ (.int .i64 r)).setCell ⟨κ.mB,11,none⟩ (.slice (some ⟨κ.lb,κ.lo+(if σ.off+o=cp then 0 else σ.off+o),none⟩) (σ.full.length - (σ.off+o)) (cp - (σ.off+o)))).setCell ⟨κ.mB,12,none⟩ (.pointer none)) ∧
    Gs κ w (((((((w.setCell ⟨κ.mB,6,none⟩ (.int .i64 g)).setCell ⟨κ.mB,7,none⟩ (.int .i64 b)).setCell ⟨κ.mB,8,none⟩ (.int .i64 s)).setCell ⟨κ.mB,9,none⟩ (.int .i64 l)).setCell ⟨κ.mB,10,none⟩ (.int .i64 r)).setCell ⟨κ.mB,11,none⟩ (.slice (some ⟨κ.lb,κ.lo+(if σ.off+o=cp then 0 else σ.off+o),none⟩) (σ.full.length - (σ.off+o)) (cp - (σ.off+o)))).setCell ⟨κ.mB,12,none⟩ (.pointer none)):=by
 have hne:=h.ne;obtain ⟨vd,made,YL,a1,a2,a3,a4,a5⟩:=h.dk;obtain ⟨vt,vq,cp',b1,b2,b3,b4,b5,b6,b7,b8⟩:=h.mm;obtain ⟨Lv,s',r',c1,c2,c3⟩:=h.ch;obtain rfl:=hcp _ _ _ b1;have b9:=(((((((b1.set 6 (.int .i64 g)).set 7 (.int .i64 b)).set 8 (.int .i64 s)).set 9 (.int .i64 l)).set 10 (.int .i64 r)).set 11 (.slice (some ⟨κ.lb,κ.lo+(if σ.off+o=cp' then 0 else σ.off+o),none⟩) (σ.full.length - (σ.off+o)) (cp' - (σ.off+o)))).set 12 (.pointer none));have hg:=grownBy_set _ _ κ.mB 12 (.pointer none) (grownBy_set _ _ κ.mB 11 (.slice (some ⟨κ.lb,κ.lo+(if σ.off+o=cp' then 0 else σ.off+o),none⟩) (σ.full.length - (σ.off+o)) (cp' - (σ.off+o))) (grownBy_set _ _ κ.mB 10 (.int .i64 r) (grownBy_set _ _ κ.mB 9 (.int .i64 l) (grownBy_set _ _ κ.mB 8 (.int .i64 s) (grownBy_set _ _ κ.mB 7 (.int .i64 b) (grownBy_set _ _ κ.mB 6 (.int .i64 g) (Zz w (some κ.mB))))))));generalize (((((((w.setCell _ _).setCell _ _).setCell _ _).setCell _ _).setCell _ _).setCell _ _).setCell _ _)=w' at *;have hs:=hg.size;obtain ⟨l1,l2,l3,l4⟩:=h.jS;have hbl:∀q,q<w.heap.size→q≠κ.mB→w'.heap[q]?=w.heap[q]?:=fun q hq hn=>hg.block q hq (fun e=>hn (by injection e))
 exact ⟨⟨hne,fun x hx=>⟨ZY (h.fx x hx).1 hs,(h.fx x hx).2⟩,⟨vd,made,YL,Wo a1 hs (hbl _ l1 hne.1),Zn a2 hg (.inr (fun e=>(a5 _ e).2.1 rfl)),a3,a4,a5⟩,⟨vt,vq,cp',b9,VM b2 hs (fun q hq hl=>hbl q hl (b5 q hq).2.1),VM b3 hs (fun q hq hl=>hbl q hl (b6 q hq).2.1),b4,b5,b6,UI.kept b7 hg (.inr (by simp [Value.ownBlock];exact fun e=>hne.2.2.2.2.1 e.symm)),b8⟩,⟨Lv,s',r',(hbl _ l3 hne.2.2.2.1.symm).trans c1,⟨c2.1,fun i hi=>⟨Rg (c2.2 i hi).1 hs (fun q hq hl=>hbl q hl (c3 i hi q hq).2.1),(c2.2 i hi).2⟩⟩,c3⟩,(fun p hp=>by cases hp),h.pw.keep (fun g hl _ h2 _ _ _ _=>hbl g hl h2)⟩,Gs.I1 hg (.inr (.inl rfl))⟩
end Go.Proofs.YtpmjnbmkippaiaaGreatDoor


