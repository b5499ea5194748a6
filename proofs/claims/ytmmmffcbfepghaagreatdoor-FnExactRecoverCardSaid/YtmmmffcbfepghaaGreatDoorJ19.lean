import Derived.Test.YtmmmffcbfepghaaGreatDoorJ18B
import Derived.Test.YtmmmffcbfepghaaGreatDoorCards
import Derived.Test.YtmmmffcbfepghaaGreatDoorTie
import Derived.Deep.DeepHandedRow
import Derived.Lib.LaidIn
import Derived.ShutString
import Derived.ChangeOld
import Derived.ChangeMaps5
import Derived.Lib.LaidTab
import Derived.Lib.SmallJoins
import Derived.Deep.Slices
set_option maxRecDepth 100000
set_option maxHeartbeats 16000000
set_option linter.unusedVariables false
set_option linter.unusedSimpArgs false
namespace Go.Proofs.YtmmmffcbfepghaaGreatDoor
open Go.RowKit Go.Shelf
variable {L S limit:Int} {ps:List (Int × List Int)} {Z7:List Int} {B BW GB M XB ca cb ZT hi len lo n xc xe Zp Zn:Nat} {ao bo xa xb:Option Addr} {r:UD} {a1 a2 c g1 g2 gt t0 t1 t10 t11 t12 t13 t14 t15 t16 t17 t18 t19 t20 t21 t22 t23 t24 t25 t26 t27 t28 t29 t30 t31 t32 t33 t34 t35 t36 t37 t38 t39 t40 t41 t42 t43 t44 t45 t46 t47 t48 t49 t5 t50 t51 t52 t53 t54 t55 t56 t57 t58 t59 t6 t60 t61 t62 t63 t64 t65 t66 t67 t68 t69 t7 t70 t71 t72 t73 t9 u0 u1 u10 u11 u2 u3 u4 u5 u6 u7 u8 u9 v v1 v2 vt z0 z1 Z2 Z1 z2 z3 z4 z5 z6 z7 z8 z9:Value} {W W' w:World}
theorem JB {HB:Nat} {ut:Value} (hW:Jt w ao bo Z7.length ca ps.length cb S L BW M r vt a1 a2 W) (hB:St W HB (Wg r ut u1 u2).toList) (ht:VL W ut r.ns) (h1:Rd .u8 W u1 r.Z7) (h2:XP W u2 r.ps) (hr:BY r) :
    (Zd 25 60 (Yh Tryz.f3)).wp Tryz.prog (bodyPost Tryz.prog Tryz.f3 (Ze w (.bool true))) { tmps:=#[t0,t1,.int .i64 limit,.pointer (some ⟨w.heap.size,0,none⟩),.pointer (some ⟨w.heap.size+1,0,none⟩),t5,t6,t7,.pointer (some ⟨BW,0,none⟩),t9,t10,t11,t12,t13,.pointer (some ⟨HB,0,none⟩),t15,t16,t17,t18,t19,t20,t21,t22,t23,t24,t25,t26,t27,t28,t29,t30,t31,t32,t33,t34,t35,t36,t37,t38,t39,t40,t41,t42,t43,t44,t45,t46,t47,t48,t49,t50,t51,t52,t53,t54,t55,t56,t57,t58,t59,t60,t61,t62,t63,t64,t65,t66,t67,t68,t69,t70,t71,t72,t73],defers:=[] } W:=by
 have HE:Hid (Calls Tryz.prog 9 #[.agg #[.int .i64 r.code,.int .i64 r.sp.g,.int .i64 r.sp.b,.int .i64 r.sp.s,.int .i64 r.sp.l,.int .i64 r.sp.c,.int .i64 r.zx,ut,.int .i64 r.used,.int .i64 r.ops,u1,u2],.agg #[.int .i64 r.code,.int .i64 r.sp.g,.int .i64 r.sp.b,.int .i64 r.sp.s,.int .i64 r.sp.l,.int .i64 r.sp.c,.int .i64 r.zx,vt,.int .i64 r.used,.int .i64 r.ops,a1,a2]] W (Ze W (.bool true))):=Qa W r ut u1 u2 vt a1 a2 ht hW.t h1 hW.d h2 hW.p hr;have rF:=Z8 hW.f.1.out.1;have c0:=hW.b.cl 0 _ rfl;have c1:=hW.b.cl 1 _ rfl;have c2:=hW.b.cl 2 _ rfl;have c3:=hW.b.cl 3 _ rfl;have c4:=hW.b.cl 4 _ rfl;have c5:=hW.b.cl 5 _ rfl;have c6:=hW.b.cl 6 _ rfl;have c7:=hW.b.cl 7 _ rfl;have c8:=hW.b.cl 8 _ rfl;have c9:=hW.b.cl 9 _ rfl;have c10:=hW.b.cl 10 _ rfl;have c11:=hW.b.cl 11 _ rfl;have d0:=hB.cl 0 _ rfl;have d1:=hB.cl 1 _ rfl;have d2:=hB.cl 2 _ rfl;have d3:=hB.cl 3 _ rfl;have d4:=hB.cl 4 _ rfl;have d5:=hB.cl 5 _ rfl;have d6:=hB.cl 6 _ rfl;have d7:=hB.cl 7 _ rfl;have d8:=hB.cl 8 _ rfl;have d9:=hB.cl 9 _ rfl;have d10:=hB.cl 10 _ rfl;have d11:=hB.cl 11 _ rfl;clear hW hB ht h1 h2 hr
 conv in (Zd _ _ _)=>simp only [Yh,Tryz.f3,Zd,Nat.reduceBEq]
 go_wp2_with fail
 clear c0 c1 c2 c3 c4 c5 c6 c7 c8 c9 c10 c11 d0 d1 d2 d3 d4 d5 d6 d7 d8 d9 d10 d11;refine HE.out.mono ?_;rintro e w1 ⟨rfl,b1⟩;have B1:=Z8 (Ye rF.out b1);clear b1;go_wp2;go_ret;exact ⟨rfl,B1.out⟩
@[reducible] def s12 (W:World) (B:Nat) (u0 u1 u2 u3 u4 u5 u6 u7 u8 u9 u10 u11:Value):World:=(((((((((((W.setCell ⟨B,0,none⟩ u0).setCell ⟨B,1,none⟩ u1).setCell ⟨B,2,none⟩ u2).setCell ⟨B,3,none⟩ u3).setCell ⟨B,4,none⟩ u4).setCell ⟨B,5,none⟩ u5).setCell ⟨B,6,none⟩ u6).setCell ⟨B,7,none⟩ u7).setCell ⟨B,8,none⟩ u8).setCell ⟨B,9,none⟩ u9).setCell ⟨B,10,none⟩ u10).setCell ⟨B,11,none⟩ u11
theorem sv (h:St W B [z0,z1,z2,z3,z4,z5,z6,z7,z8,z9,Z2,Z1]):St (s12 W B u0 u1 u2 u3 u4 u5 u6 u7 u8 u9 u10 u11) B [u0,u1,u2,u3,u4,u5,u6,u7,u8,u9,u10,u11]:=(((((((((((h.set 0 u0).set 1 u1).set 2 u2).set 3 u3).set 4 u4).set 5 u5).set 6 u6).set 7 u7).set 8 u8).set 9 u9).set 10 u10).set 11 u11
theorem vE :Below B W (s12 W B u0 u1 u2 u3 u4 u5 u6 u7 u8 u9 u10 u11):=by
 iterate 12 refine Zf ?_ (by show B≤B;exact ZW) _
 exact ZR
theorem St.Nl {b:Nat} (h:St W b [z0,z1,z2,z3,z4,z5,z6,z7,z8,z9,Z2,Z1]):W.cell? ⟨b,0,none⟩=some z0∧W.frozen? ⟨b,0,none⟩=false∧W.cell? ⟨b,1,none⟩=some z1∧W.frozen? ⟨b,1,none⟩=false∧W.cell? ⟨b,2,none⟩=some z2∧W.frozen? ⟨b,2,none⟩=false∧W.cell? ⟨b,3,none⟩=some z3∧W.frozen? ⟨b,3,none⟩=false∧W.cell? ⟨b,4,none⟩=some z4∧W.frozen? ⟨b,4,none⟩=false∧W.cell? ⟨b,5,none⟩=some z5∧W.frozen? ⟨b,5,none⟩=false∧W.cell? ⟨b,6,none⟩=some z6∧W.frozen? ⟨b,6,none⟩=false∧W.cell? ⟨b,7,none⟩=some z7∧W.frozen? ⟨b,7,none⟩=false∧W.cell? ⟨b,8,none⟩=some z8∧W.frozen? ⟨b,8,none⟩=false∧W.cell? ⟨b,9,none⟩=some z9∧W.frozen? ⟨b,9,none⟩=false∧W.cell? ⟨b,10,none⟩=some Z2∧W.frozen? ⟨b,10,none⟩=false∧W.cell? ⟨b,11,none⟩=some Z1∧W.frozen? ⟨b,11,none⟩=false :=
 ⟨h.cl 0 _ rfl,h.fz 0,h.cl 1 _ rfl,h.fz 1,h.cl 2 _ rfl,h.fz 2,h.cl 3 _ rfl,h.fz 3,h.cl 4 _ rfl,h.fz 4,h.cl 5 _ rfl,h.fz 5,h.cl 6 _ rfl,h.fz 6,h.cl 7 _ rfl,h.fz 7,h.cl 8 _ rfl,h.fz 8,h.cl 9 _ rfl,h.fz 9,h.cl 10 _ rfl,h.fz 10,h.cl 11 _ rfl,h.fz 11⟩
theorem Tf (w:World):ZX w (w.alloc (.cells #[.int .i64 0,.int .i64 0,.int .i64 0,.int .i64 0,.int .i64 0,.int .i64 0,.int .i64 0,.slice none 0 0,.int .i64 0,.int .i64 0,.slice none 0 0,.slice none 0 0] 38))∧Hid (St (w.alloc (.cells #[.int .i64 0,.int .i64 0,.int .i64 0,.int .i64 0,.int .i64 0,.int .i64 0,.int .i64 0,.slice none 0 0,.int .i64 0,.int .i64 0,.slice none 0 0,.slice none 0 0] 38)) w.heap.size [.int .i64 0,.int .i64 0,.int .i64 0,.int .i64 0,.int .i64 0,.int .i64 0,.int .i64 0,.slice none 0 0,.int .i64 0,.int .i64 0,.slice none 0 0,.slice none 0 0]):=⟨ZR.alloc ZW _,St.new _ _ _⟩
theorem BV {ns:List Nd} (h:ZU 134 W lo v ns) (hne:v.ownBlock≠some B):ZU 134 (s12 W B u0 u1 u2 u3 u4 u5 u6 u7 u8 u9 u10 u11) lo v ns :=
 ((((((((((((h.Yu hne u0).Yu hne u1).Yu hne u2).Yu hne u3).Yu hne u4).Yu hne u5).Yu hne u6).Yu hne u7).Yu hne u8).Yu hne u9).Yu hne u10).Yu hne u11)
theorem SG {dv:Nat→Value} (h:Zz W lo hi v1 v2 Z7 ps dv) (hne:∀g,(v1.ownBlock=some g∨v2.ownBlock=some g∨∃i,i<ps.length∧(dv i).ownBlock=some g)→g≠B):Zz (s12 W B u0 u1 u2 u3 u4 u5 u6 u7 u8 u9 u10 u11) lo hi v1 v2 Z7 ps dv:=by
 have a1:v1.ownBlock≠some B:=fun e=>hne B (.inl e) rfl
 have a2:v2.ownBlock≠some B:=fun e=>hne B (.inr (.inl e)) rfl
 have a3:∀i,i<ps.length→(dv i).ownBlock≠some B:=fun i hi e=>hne B (.inr (.inr ⟨i,hi,e⟩)) rfl
 exact (((((((((((h.Xj (j:=0) (u:=u0) a1 a2 a3).Xj (j:=1) (u:=u1) a1 a2 a3).Xj (j:=2) (u:=u2) a1 a2 a3).Xj (j:=3) (u:=u3) a1 a2 a3).Xj (j:=4) (u:=u4) a1 a2 a3).Xj (j:=5) (u:=u5) a1 a2 a3).Xj (j:=6) (u:=u6) a1 a2 a3).Xj (j:=7) (u:=u7) a1 a2 a3).Xj (j:=8) (u:=u8) a1 a2 a3).Xj (j:=9) (u:=u9) a1 a2 a3).Xj (j:=10) (u:=u10) a1 a2 a3).Xj (j:=11) (u:=u11) a1 a2 a3
theorem VS {l1 l2:Nat} {v3:Value} {dv:Nat→Value} (ho:St W B [z0,z1,z2,z3,z4,z5,z6,z7,z8,z9,Z2,Z1]) (hA:ZU 134 W lo v1 r.ns) (h1:v1.ownBlock≠some B) (hD:Zz W l1 l2 v2 v3 r.Z7 r.ps dv) (h2:∀g,(v2.ownBlock=some g∨v3.ownBlock=some g∨∃i,i<r.ps.length∧(dv i).ownBlock=some g)→g≠B) :
    Hid (Below B W (s12 W B (.int .i64 r.code) (.int .i64 r.sp.g) (.int .i64 r.sp.b) (.int .i64 r.sp.s) (.int .i64 r.sp.l) (.int .i64 r.sp.c) (.int .i64 r.zx) v1 (.int .i64 r.used) (.int .i64 r.ops) v2 v3)∧St (s12 W B (.int .i64 r.code) (.int .i64 r.sp.g) (.int .i64 r.sp.b) (.int .i64 r.sp.s) (.int .i64 r.sp.l) (.int .i64 r.sp.c) (.int .i64 r.zx) v1 (.int .i64 r.used) (.int .i64 r.ops) v2 v3) B [.int .i64 r.code,.int .i64 r.sp.g,.int .i64 r.sp.b,.int .i64 r.sp.s,.int .i64 r.sp.l,.int .i64 r.sp.c,.int .i64 r.zx,v1,.int .i64 r.used,.int .i64 r.ops,v2,v3]∧ZU 134 (s12 W B (.int .i64 r.code) (.int .i64 r.sp.g) (.int .i64 r.sp.b) (.int .i64 r.sp.s) (.int .i64 r.sp.l) (.int .i64 r.sp.c) (.int .i64 r.zx) v1 (.int .i64 r.used) (.int .i64 r.ops) v2 v3) lo v1 r.ns∧Zz (s12 W B (.int .i64 r.code) (.int .i64 r.sp.g) (.int .i64 r.sp.b) (.int .i64 r.sp.s) (.int .i64 r.sp.l) (.int .i64 r.sp.c) (.int .i64 r.zx) v1 (.int .i64 r.used) (.int .i64 r.ops) v2 v3) l1 l2 v2 v3 r.Z7 r.ps dv) :=
 ⟨vE,sv ho,BV hA h1,SG hD h2⟩
theorem su {YX:Act→World→Prop} (YV:∀a w',(Zd 25 60 (Yh Tryz.f3)).wp Tryz.prog (bodyPost Tryz.prog Tryz.f3 (Ze w (.bool true))) a w'→YX a w') (hW:Jt w ao bo Z7.length ca ps.length cb S L BW M r vt a1 a2 W) (HR:Hid (Rd .u8 w (.slice ao Z7.length ca) Z7)) (HP:Hid (XP w (.slice bo ps.length cb) ps)) (Xd:Hid (∀i,(pD ps i).length≤1048576)) (hdl:Z7.length≤1048576) (hn:ps.length≤1048576) (hr:BY r) (HI:Hid (∀W' v1 v2,Rd .u8 W' v1 Z7→XP W' v2 ps→U1 W'→0<W'.heap.size→Calls Tryz.prog 8 #[.agg #[v1,v2],.agg #[.int .i64 S,.int .i64 L],.int .i64 limit] W' (Yn W' r))) :
    (Ug (Zd 24 60 (Yh Tryz.f3))).wp Tryz.prog (Exit.then YX (bodyPost Tryz.prog Tryz.f3 (Ze w (.bool true)))) { tmps:=#[t0,t1,.int .i64 limit,.pointer (some ⟨w.heap.size,0,none⟩),.pointer (some ⟨w.heap.size+1,0,none⟩),t5,t6,t7,.pointer (some ⟨BW,0,none⟩),t9,t10,t11,t12,t13,t14,t15,t16,t17,t18,t19,t20,t21,t22,t23,t24,t25,t26,t27,t28,t29,t30,t31,t32,t33,t34,t35,t36,t37,t38,t39,t40,t41,t42,t43,t44,t45,t46,t47,t48,t49,t50,t51,t52,t53,t54,t55,t56,t57,t58,t59,t60,t61,t62,t63,t64,t65,t66,t67,t68,t69,t70,t71,t72,t73],defers:=[] } W:=by
 have Y2:Hid _:=YV
 conv in (Ug _)=>simp only [Yh,Tryz.f3,Zd,Ug,Nat.reduceBEq]
 refine ZF (S:=XM w ao bo Z7.length ca ps.length cb S L) (by kernel_rfl) ((hW.below (below_drewN' W 1)).f) (fun Z9=>?_);have ZN:Hid (Jt w ao bo Z7.length ca ps.length cb S L BW M r vt a1 a2 W.drew):=hW.below (below_drewN' W 1);generalize W.drew=wa at *;refine ZV ?_ (by kernel_rfl) (fun _=>id) Z9 ?_ ?_
 rotate_left
 · intro w9 Z4;obtain ⟨-,y0,y1,y2,y3⟩:=Z4;go_simp;try with_reducible rfl
 refine ZA 2 (.agg #[.int .i64 S,.int .i64 L]) rfl (by kernel_rfl) (fun _=>id) Z9 (fun w9 Z4=>by (obtain ⟨-,y0,y1,y2,y3⟩:=Z4;go_simp;try with_reducible rfl)) ?_;refine ZA 4 (.int .i64 limit) rfl (by kernel_rfl) (fun _=>id) Z9 (fun w9 Z4=>by (clear Z4;go_simp;try with_reducible rfl)) ?_;refine Wu 1 6 rfl rfl (by kernel_rfl) (fun K hK=>?_) (fun K hK=>?_)
 · skip
   go_simp;refine (Wj _ _ _ Z7 ps (HR.out.below (ZN.out.f.1.out.1)) (HP.out.below (ZN.out.f.1.out.1)) hdl hn Xd.out).mono ?_;rintro e wb ⟨ta,tc,tb,te,td,rfl,oT,bb⟩;have Za:=Z8 oT.d.rd;have Y':=Z8 oT.p.rd;have E:=Z8 (ZN.out.below bb);clear Z9;refine hK.out _ _ (E.out.f) (fun Z9=>?_);refine Wu 3 6 rfl rfl (by kernel_rfl) (fun K hK=>?_) (fun K hK=>?_)
   · skip
     go_simp;refine (XH _ S L).mono ?_;rintro e wc ⟨rfl,bc⟩;have R:=Z8 (E.out.below bc);have ZK:=Z8 (Za.out.below bc);have ZJ:=Z8 (Y'.out.below bc);clear Z9;refine hK.out _ _ (R.out.f) (fun Z9=>?_);refine Wu 5 6 rfl rfl (by kernel_rfl) (fun K hK=>?_) (fun K hK=>?_)
     · skip
       go_simp;refine (HI.out _ _ _ ZK.out ZJ.out R.out.k (Sp (ZQ _) R.out.b.lt)).mono ?_;rintro e wd ⟨vh,x1,x2,dh,rfl,oN,oD,bd⟩;obtain ⟨ha,Nc,N,J,I,G,rfl,rfl⟩:=oD.Xv;obtain ⟨U,T,WP,rfl⟩:∃a n c,vh=.slice a n c:=by
        obtain ⟨a,c,e⟩:=ZU.YW oN;exact ⟨a,_,c,e⟩
       have ZH:=Z8 oN;have Z6:=Z8 oD;have Y:∀g,Value.ownBlock (.slice U T WP)=some g→wc.heap.size≤g∧g<wd.heap.size:=fun g hg=>ZO ZH.out g hg
       unfold Wg;have Q:=Z8 (R.out.below bd);clear Z9;refine hK.out _ _ (Q.out.f) (fun Z9=>?_);refine ZS 6 rfl (by kernel_rfl) (fun K hK=>?_);obtain ⟨be,Ro⟩:=Tf wd;have C:=Z8 (Q.out.below be);have Y9:=ZH.out.below be;have Y8:=Z6.out.below be;go_simp;clear Z9;refine hK.out _ _ (C.out.f) (fun Z9=>?_);generalize wd.alloc _=we at *;have O:=Ro;have Z3:=C;have F:Hid _:=Y9;have V:Hid _:=Y8;have hbw:=Q.out.m;have hne1:Value.ownBlock (.slice U T WP)≠some wd.heap.size:=fun e=>by have:=(Y _ e).2;omega
       have hne2:∀g,(Value.ownBlock (.slice ha Nc N)=some g∨Value.ownBlock (.slice J I G)=some g∨∃i,i<r.ps.length∧(dh i).ownBlock=some g)→g≠wd.heap.size:=fun g hg=>by
        have h1:=V.out.NY g;have h2:=V.out.Pm g
        rcases hg with h | h | ⟨i,hi,h⟩
        · have:=h1 h;omega
        · have:=h2 h;omega
        have:=V.out.MK i hi g h;omega
       refine ZS 7 rfl (by kernel_rfl) (fun K hK=>?_);obtain ⟨z0,y0,z1,y1,z2,y2,z3,y3,z4,y4,z5,y5,z6,y6,z7,y7,z8,y8,z9,y9,Z2,Zv,Z1,Zu⟩:=O.out.Nl;have ZZ:=VS O.out F.out hne1 V.out hne2;go_simp;refine hK.out _ _ (Z3.out.ZL ZZ.out.1 hbw).f (fun ZI=>?_);refine ZM (by kernel_rfl) ?_ _
       try simp only [Act.put,Zk,Zj,Zi]
       refine Y2.out _ _ ?_;exact JB (Z3.out.ZL ZZ.out.1 hbw) ZZ.out.2.1 ZZ.out.2.2.1.rd ZZ.out.2.2.2.d.rd ZZ.out.2.2.2.p.rd hr
     skip
     obtain ⟨bd,Ro⟩:=Tf wc;have C:=Z8 (R.out.below bd);have Zc:=Z8 (ZK.out.below bd);have Zb:=Z8 (ZJ.out.below bd);go_simp;clear Z9;refine hK.out _ _ (C.out.f) (fun Z9=>?_);generalize wc.alloc _=wd at *;have VN:=Ro;have Q:=C;have ZD:=Zc;have ZC:=Zb;refine ZS 5 rfl (by kernel_rfl) (fun K hK=>?_);go_simp;refine (HI.out _ _ _ ZD.out ZC.out Q.out.k (Sp (ZQ _) Q.out.b.lt)).mono ?_;rintro e we ⟨vh,x1,x2,dh,rfl,oN,oD,be⟩;obtain ⟨ha,Nc,N,J,I,G,rfl,rfl⟩:=oD.Xv;obtain ⟨U,T,WP,rfl⟩:∃a n c,vh=.slice a n c:=by
      obtain ⟨a,c,e⟩:=ZU.YW oN;exact ⟨a,_,c,e⟩
     have F:=Z8 oN;have V:=Z8 oD;have Y:∀g,Value.ownBlock (.slice U T WP)=some g→wd.heap.size≤g∧g<we.heap.size:=fun g hg=>ZO F.out g hg
     unfold Wg;have Z3:=Z8 (Q.out.below be);have O:=Z8 (VN.out.below be);clear Z9;refine hK.out _ _ (Z3.out.f) (fun Z9=>?_);have hbw:=R.out.m;have hol:=VN.out.lt;have hne1:Value.ownBlock (.slice U T WP)≠some wc.heap.size:=fun e=>by have:=(Y _ e).1;omega
     have hne2:∀g,(Value.ownBlock (.slice ha Nc N)=some g∨Value.ownBlock (.slice J I G)=some g∨∃i,i<r.ps.length∧(dh i).ownBlock=some g)→g≠wc.heap.size:=fun g hg=>by
      rcases hg with h | h | ⟨i,hi,h⟩
      · have:=(V.out.d.lt g h).1;omega
      · have:=(ZO V.out.p.1 g h).1;omega
      have:=((V.out.p.2.1 i hi).lt g h).1;omega
     refine ZS 7 rfl (by kernel_rfl) (fun K hK=>?_);obtain ⟨z0,y0,z1,y1,z2,y2,z3,y3,z4,y4,z5,y5,z6,y6,z7,y7,z8,y8,z9,y9,Z2,Zv,Z1,Zu⟩:=O.out.Nl;have ZZ:=VS O.out F.out hne1 V.out hne2;go_simp;refine hK.out _ _ (Z3.out.ZL ZZ.out.1 hbw).f (fun ZI=>?_);refine ZM (by kernel_rfl) ?_ _
     try simp only [Act.put,Zk,Zj,Zi]
     refine Y2.out _ _ ?_;exact JB (Z3.out.ZL ZZ.out.1 hbw) ZZ.out.2.1 ZZ.out.2.2.1.rd ZZ.out.2.2.2.d.rd ZZ.out.2.2.2.p.rd hr
   skip
   obtain ⟨bc,Ro⟩:=Tf wb;have C:=Z8 (E.out.below bc);have Zc:=Z8 (Za.out.below bc);have Zb:=Z8 (Y'.out.below bc);go_simp;clear Z9;refine hK.out _ _ (C.out.f) (fun Z9=>?_);generalize wb.alloc _=wc at *;have JM:=Ro;have R:=C;have ZK:=Zc;have ZJ:=Zb;refine ZS 3 rfl (by kernel_rfl) (fun K hK=>?_);go_simp;refine (XH _ S L).mono ?_;rintro e wd ⟨rfl,bd⟩;have Q:=Z8 (R.out.below bd);have ZD:=Z8 (ZK.out.below bd);have ZC:=Z8 (ZJ.out.below bd);have VN:=Z8 (JM.out.below bd);clear Z9;refine hK.out _ _ (Q.out.f) (fun Z9=>?_);refine ZS 5 rfl (by kernel_rfl) (fun K hK=>?_);go_simp;refine (HI.out _ _ _ ZD.out ZC.out Q.out.k (Sp (ZQ _) Q.out.b.lt)).mono ?_;rintro e we ⟨vh,x1,x2,dh,rfl,oN,oD,be⟩;obtain ⟨ha,Nc,N,J,I,G,rfl,rfl⟩:=oD.Xv;obtain ⟨U,T,WP,rfl⟩:∃a n c,vh=.slice a n c:=by
    obtain ⟨a,c,e⟩:=ZU.YW oN;exact ⟨a,_,c,e⟩
   have F:=Z8 oN;have V:=Z8 oD;have Y:∀g,Value.ownBlock (.slice U T WP)=some g→wd.heap.size≤g∧g<we.heap.size:=fun g hg=>ZO F.out g hg
   unfold Wg;have Z3:=Z8 (Q.out.below be);have O:=Z8 (VN.out.below be);clear Z9;refine hK.out _ _ (Z3.out.f) (fun Z9=>?_);have hbw:=E.out.m;have hol:=VN.out.lt;have hne1:Value.ownBlock (.slice U T WP)≠some wb.heap.size:=fun e=>by have:=(Y _ e).1;omega
   have hne2:∀g,(Value.ownBlock (.slice ha Nc N)=some g∨Value.ownBlock (.slice J I G)=some g∨∃i,i<r.ps.length∧(dh i).ownBlock=some g)→g≠wb.heap.size:=fun g hg=>by
    rcases hg with h | h | ⟨i,hi,h⟩
    · have:=(V.out.d.lt g h).1;omega
    · have:=(ZO V.out.p.1 g h).1;omega
    have:=((V.out.p.2.1 i hi).lt g h).1;omega
   refine ZS 7 rfl (by kernel_rfl) (fun K hK=>?_);obtain ⟨z0,y0,z1,y1,z2,y2,z3,y3,z4,y4,z5,y5,z6,y6,z7,y7,z8,y8,z9,y9,Z2,Zv,Z1,Zu⟩:=O.out.Nl;have ZZ:=VS O.out F.out hne1 V.out hne2;go_simp;refine hK.out _ _ (Z3.out.ZL ZZ.out.1 hbw).f (fun ZI=>?_);refine ZM (by kernel_rfl) ?_ _
   try simp only [Act.put,Zk,Zj,Zi]
   refine Y2.out _ _ ?_;exact JB (Z3.out.ZL ZZ.out.1 hbw) ZZ.out.2.1 ZZ.out.2.2.1.rd ZZ.out.2.2.2.d.rd ZZ.out.2.2.2.p.rd hr
 skip
 obtain ⟨bb,Ro⟩:=Tf wa;have C:=Z8 (ZN.out.below bb);go_simp;clear Z9;refine hK.out _ _ (C.out.f) (fun Z9=>?_);generalize wa.alloc _=wb at *;have sJ:=Ro;have E:=C;refine ZS 1 rfl (by kernel_rfl) (fun K hK=>?_);go_simp;refine (Wj _ _ _ Z7 ps (HR.out.below (E.out.f.1.out.1)) (HP.out.below (E.out.f.1.out.1)) hdl hn Xd.out).mono ?_;rintro e wc ⟨ta,tc,tb,te,td,rfl,oT,bc⟩;have ZK:=Z8 oT.d.rd;have ZJ:=Z8 oT.p.rd;have R:=Z8 (E.out.below bc);have JM:=Z8 (sJ.out.below bc);clear Z9;refine hK.out _ _ (R.out.f) (fun Z9=>?_);refine ZS 3 rfl (by kernel_rfl) (fun K hK=>?_);go_simp;refine (XH _ S L).mono ?_;rintro e wd ⟨rfl,bd⟩;have Q:=Z8 (R.out.below bd);have ZD:=Z8 (ZK.out.below bd);have ZC:=Z8 (ZJ.out.below bd);have VN:=Z8 (JM.out.below bd);clear Z9;refine hK.out _ _ (Q.out.f) (fun Z9=>?_);refine ZS 5 rfl (by kernel_rfl) (fun K hK=>?_);go_simp;refine (HI.out _ _ _ ZD.out ZC.out Q.out.k (Sp (ZQ _) Q.out.b.lt)).mono ?_;rintro e we ⟨vh,x1,x2,dh,rfl,oN,oD,be⟩;obtain ⟨ha,Nc,N,J,I,G,rfl,rfl⟩:=oD.Xv;obtain ⟨U,T,WP,rfl⟩:∃a n c,vh=.slice a n c:=by
  obtain ⟨a,c,e⟩:=ZU.YW oN;exact ⟨a,_,c,e⟩
 have F:=Z8 oN;have V:=Z8 oD;have Y:∀g,Value.ownBlock (.slice U T WP)=some g→wd.heap.size≤g∧g<we.heap.size:=fun g hg=>ZO F.out g hg
 unfold Wg;have Z3:=Z8 (Q.out.below be);have O:=Z8 (VN.out.below be);clear Z9;refine hK.out _ _ (Z3.out.f) (fun Z9=>?_);have hbw:=ZN.out.m;have hol:=VN.out.lt;have hne1:Value.ownBlock (.slice U T WP)≠some wa.heap.size:=fun e=>by have:=(Y _ e).1;omega
 have hne2:∀g,(Value.ownBlock (.slice ha Nc N)=some g∨Value.ownBlock (.slice J I G)=some g∨∃i,i<r.ps.length∧(dh i).ownBlock=some g)→g≠wa.heap.size:=fun g hg=>by
  rcases hg with h | h | ⟨i,hi,h⟩
  · have:=(V.out.d.lt g h).1;omega
  · have:=(ZO V.out.p.1 g h).1;omega
  have:=((V.out.p.2.1 i hi).lt g h).1;omega
 refine ZS 7 rfl (by kernel_rfl) (fun K hK=>?_);obtain ⟨z0,y0,z1,y1,z2,y2,z3,y3,z4,y4,z5,y5,z6,y6,z7,y7,z8,y8,z9,y9,Z2,Zv,Z1,Zu⟩:=O.out.Nl;have ZZ:=VS O.out F.out hne1 V.out hne2;go_simp;refine hK.out _ _ (Z3.out.ZL ZZ.out.1 hbw).f (fun ZI=>?_);refine ZM (by kernel_rfl) ?_ _
 try simp only [Act.put,Zk,Zj,Zi]
 refine Y2.out _ _ ?_;exact JB (Z3.out.ZL ZZ.out.1 hbw) ZZ.out.2.1 ZZ.out.2.2.1.rd ZZ.out.2.2.2.d.rd ZZ.out.2.2.2.p.rd hr
structure Gx (W:World) (GB ZT:Nat) (r:UD) (gt g1 g2:Value) (gd:Nat→Value):Prop where
 b:St W GB (Wg r gt g1 g2).toList
 t:ZU 134 W ZT gt r.ns
 d:Zz W ZT W.heap.size g1 g2 r.Z7 r.ps gd
 lo:ZT≤GB
 n1:gt.ownBlock≠some GB
 n2:∀g,(g1.ownBlock=some g∨g2.ownBlock=some g∨∃i,i<r.ps.length∧(gd i).ownBlock=some g)→g≠GB
theorem Gx.below {gd:Nat→Value} (h:Gx W GB ZT r gt g1 g2 gd) (hb:ZX W W'):Gx W' GB ZT r gt g1 g2 gd:=⟨h.b.below hb,h.t.below hb,(h.d.below hb).mono ZW hb.size,h.lo,h.n1,h.n2⟩
theorem Gx.within {gd:Nat→Value} (h:Gx W GB ZT r gt g1 g2 gd) (hw:Within lo hi W W') (hl:hi≤ZT):Gx W' GB ZT r gt g1 g2 gd:=by
 have e:=hw.block GB h.b.lt (.inr (by have:=h.lo;omega));refine ⟨⟨ZB h.b.lt hw.size,fun j=>?_,fun j v hv=>(YI (w:=W) (a:=⟨GB,j,none⟩) e).trans (h.b.cl j v hv)⟩,⟨h.t.1,?_⟩,(h.d.within hw (.inr hl)).mono ZW hw.size,h.lo,h.n1,h.n2⟩
 · have:=h.b.fz j
   unfold World.frozen? at this ⊢;rw [e];exact this
 rcases h.t.2 with hn | ⟨g,cap,cur,rfl,hbg,hgg,rest⟩
 · exact .inl hn
 exact .inr ⟨g,cap,cur,rfl,hbg,(hw.block g (Array.getElem?_eq_some_iff.1 hgg).1 (.inr (by omega))).trans hgg,rest⟩
theorem Within.oM (h:Within lo hi W W') (hl:lo≤W.heap.size):Below lo W W':=⟨h.os,h.tape,h.output,h.size,fun q hq=>h.block q (by omega) (.inl hq)⟩
theorem yo {gl gc hl hc il ic:Nat} {ga ha ia:Option Addr} {xd gd:Nat→Value} (hW:Jt w ao bo Z7.length ca ps.length cb S L BW M r vt a1 a2 W) (hX:St W XB [.slice xa Z7.length xc,.slice xb ps.length xe]) (hD:Zz W Zn Zp (.slice xa Z7.length xc) (.slice xb ps.length xe) Z7 ps xd) (hG:Gx W GB ZT r (.slice ga gl gc) (.slice ha hl hc) (.slice ia il ic) gd) (hm1:M≤Zn) (hm2:Zn≤Zp) (Y1:Zp≤XB) (Yt:XB<ZT) (htot:tot ps≤1048576) (HR:Hid (Rd .u8 w (.slice ao Z7.length ca) Z7)) (HP:Hid (XP w (.slice bo ps.length cb) ps)) (Xd:Hid (∀i,(pD ps i).length≤1048576)) (hdl:Z7.length≤1048576) (hn:ps.length≤1048576) (hr:BY r) (HI:Hid (∀W' v1 v2,Rd .u8 W' v1 Z7→XP W' v2 ps→U1 W'→0<W'.heap.size→Calls Tryz.prog 8 #[.agg #[v1,v2],.agg #[.int .i64 S,.int .i64 L],.int .i64 limit] W' (Yn W' r))) :
    (Zd 8 60 (Yh Tryz.f3)).wp Tryz.prog (bodyPost Tryz.prog Tryz.f3 (Ze w (.bool true))) { tmps:=#[t0,t1,.int .i64 limit,.pointer (some ⟨w.heap.size,0,none⟩),.pointer (some ⟨w.heap.size+1,0,none⟩),t5,t6,t7,.pointer (some ⟨BW,0,none⟩),.pointer (some ⟨XB,0,none⟩),.pointer (some ⟨GB,0,none⟩),t11,t12,t13,t14,t15,t16,t17,t18,t19,t20,t21,t22,t23,t24,t25,t26,t27,t28,t29,t30,t31,t32,t33,t34,t35,t36,t37,t38,t39,t40,t41,t42,t43,t44,t45,t46,t47,t48,t49,t50,t51,t52,t53,t54,t55,t56,t57,t58,t59,t60,t61,t62,t63,t64,t65,t66,t67,t68,t69,t70,t71,t72,t73],defers:=[] } W:=by
 have ZN:=Z8 hW;have Y0:=Z8 hG;have YZ:=Z8 hD;have Y7:=Z8 hX;have YP:Hid (Calls Tryz.prog 9 #[.agg #[.int .i64 r.code,.int .i64 r.sp.g,.int .i64 r.sp.b,.int .i64 r.sp.s,.int .i64 r.sp.l,.int .i64 r.sp.c,.int .i64 r.zx,.slice ga gl gc,.int .i64 r.used,.int .i64 r.ops,.slice ha hl hc,.slice ia il ic],.agg #[.int .i64 r.code,.int .i64 r.sp.g,.int .i64 r.sp.b,.int .i64 r.sp.s,.int .i64 r.sp.l,.int .i64 r.sp.c,.int .i64 r.zx,vt,.int .i64 r.used,.int .i64 r.ops,a1,a2]] W (Ze W (.bool true))):=Qa W r _ _ _ vt a1 a2 Y0.out.t.rd ZN.out.t Y0.out.d.d.rd ZN.out.d Y0.out.d.p.rd ZN.out.p hr;have c0:=hW.b.cl 0 _ rfl;have c1:=hW.b.cl 1 _ rfl;have c2:=hW.b.cl 2 _ rfl;have c3:=hW.b.cl 3 _ rfl;have c4:=hW.b.cl 4 _ rfl;have c5:=hW.b.cl 5 _ rfl;have c6:=hW.b.cl 6 _ rfl;have c7:=hW.b.cl 7 _ rfl;have c8:=hW.b.cl 8 _ rfl;have c9:=hW.b.cl 9 _ rfl;have c10:=hW.b.cl 10 _ rfl;have c11:=hW.b.cl 11 _ rfl;have d0:=hG.b.cl 0 _ rfl;have d1:=hG.b.cl 1 _ rfl;have d2:=hG.b.cl 2 _ rfl;have d3:=hG.b.cl 3 _ rfl;have d4:=hG.b.cl 4 _ rfl;have d5:=hG.b.cl 5 _ rfl;have d6:=hG.b.cl 6 _ rfl;have d7:=hG.b.cl 7 _ rfl;have d8:=hG.b.cl 8 _ rfl;have d9:=hG.b.cl 9 _ rfl;have d10:=hG.b.cl 10 _ rfl;have d11:=hG.b.cl 11 _ rfl
 conv in (Zd _ _ _)=>simp only [Yh,Tryz.f3,Zd,Nat.reduceBEq]
 go_wp2_with fail
 refine YP.out.mono ?_;rintro e wb ⟨rfl,bb⟩;generalize W=wa at *;have E:=Z8 (ZN.out.below bb);have YO:=Z8 (Y0.out.below bb);have Zm:=Z8 (YZ.out.below bb);have Zt:=Z8 (Y7.out.below bb)
 go_wp2_with fail
 have bP:ZX wb wb.drew:=below_drewN' wb 1;refine ZF (S:=fun W'=>XM w ao bo Z7.length ca ps.length cb S L W'∧St W' XB [.slice xa Z7.length xc,.slice xb ps.length xe]) (by kernel_rfl) ⟨(E.out.below bP).f,Zt.out.below bP⟩ (fun Z9=>?_);generalize wb.drew=wc at *;have R:=Z8 (E.out.below bP);have YN:=Z8 (YO.out.below bP);have Zy:=Z8 (Zm.out.below bP);have Zs:=Z8 (Zt.out.below bP);refine ZV ?_ (by kernel_rfl) (fun _=>id) Z9 ?_ ?_
 rotate_left
 · intro w9 Z4;have q0:=Z4.2.cl 0 _ rfl;have q1:=Z4.2.cl 1 _ rfl;clear Z4;go_simp;try with_reducible rfl
 refine ZV ?_ (by kernel_rfl) (fun _=>id) Z9 ?_ ?_
 rotate_left
 · intro w9 Z4;obtain ⟨⟨-,y0,y1,y2,y3⟩,-⟩:=Z4;go_simp;try with_reducible rfl
 refine ZS 2 rfl (by kernel_rfl) (fun K hK=>?_);go_simp;refine (Wj _ _ _ Z7 ps (HR.out.below R.out.f.1.out.1) (HP.out.below R.out.f.1.out.1) hdl hn Xd.out).mono ?_;rintro e wd ⟨ta,tc,tb,te,td,rfl,oT,bd⟩;have TR:=Z8 oT.d.rd;have TP:=Z8 oT.p.rd;have Q:=Z8 (R.out.below bd);have YM:=Z8 (YN.out.below bd);have Z5:=Z8 (Zy.out.below bd);have Zr:=Z8 (Zs.out.below bd);refine hK.out _ _ ⟨Q.out.f,Zr.out⟩ (fun ZI=>?_);have Z9:=ZI;refine ZS 3 rfl (by kernel_rfl) (fun K hK=>?_);go_simp;refine (Ob _ _ _ _ _ Z7 Z7 ps ps Z5.out.d.rd TR.out Z5.out.p.rd TP.out hn).mono ?_;rintro e we ⟨rfl,be⟩;rw [show decide (Z7=Z7∧ps=ps)=true by simp];have Z3:=Z8 (Q.out.below be);have YJ:=Z8 (YM.out.below be);have YH:=Z8 (Z5.out.below be);have YY:=Z8 (Zr.out.below be);refine hK.out _ _ ⟨Z3.out.f,YY.out⟩ (fun ZI=>?_);have Z9:=ZI;refine ZV ?_ (by kernel_rfl) (fun _=>id) Z9 ?_ ?_
 rotate_left
 · intro w9 Z4;clear Z4;go_simp;try with_reducible rfl
 refine ZM (by kernel_rfl) ?_ _
 try simp only [Act.put,Zk,Zj,Zi]
 clear Z9;have q0:=YY.out.cl 0 _ rfl;have q1:=YY.out.cl 1 _ rfl
 go_wp2_with fail
 have YU:Zp≤we.heap.size:=by have:=YY.out.lt;omega
 refine (Ku we Zn Zp _ _ Z7 ps xd 1 YH.out YU (by omega) (by omega) hdl hn htot).mono ?_;rintro e wf ⟨rfl,-,wi⟩;have Z0:=Z8 (Z3.out.ZL (wi.oM (by omega)) hm1);have ZY:=Z8 (YJ.out.within wi (by omega));have hks:¬ks ps (1+Z7.length) ps.length<0:=by unfold ks;omega
 have Yw:decide (ks ps (1+(Z7.length:Int)) ps.length<0)=false:=by simpa using hks
 have YG:Hid (Calls Tryz.prog 9 #[.agg #[.int .i64 r.code,.int .i64 r.sp.g,.int .i64 r.sp.b,.int .i64 r.sp.s,.int .i64 r.sp.l,.int .i64 r.sp.c,.int .i64 r.zx,.slice ga gl gc,.int .i64 r.used,.int .i64 r.ops,.slice ha hl hc,.slice ia il ic],.agg #[.int .i64 r.code,.int .i64 r.sp.g,.int .i64 r.sp.b,.int .i64 r.sp.s,.int .i64 r.sp.l,.int .i64 r.sp.c,.int .i64 r.zx,vt,.int .i64 r.used,.int .i64 r.ops,a1,a2]] wf (Ze wf (.bool true))):=Qa wf r _ _ _ vt a1 a2 ZY.out.t.rd Z0.out.t ZY.out.d.d.rd Z0.out.d ZY.out.d.p.rd Z0.out.p hr;have c0:=Z0.out.b.cl 0 _ rfl;have c1:=Z0.out.b.cl 1 _ rfl;have c2:=Z0.out.b.cl 2 _ rfl;have c3:=Z0.out.b.cl 3 _ rfl;have c4:=Z0.out.b.cl 4 _ rfl;have c5:=Z0.out.b.cl 5 _ rfl;have c6:=Z0.out.b.cl 6 _ rfl;have c7:=Z0.out.b.cl 7 _ rfl;have c8:=Z0.out.b.cl 8 _ rfl;have c9:=Z0.out.b.cl 9 _ rfl;have c10:=Z0.out.b.cl 10 _ rfl;have c11:=Z0.out.b.cl 11 _ rfl;have d0:=ZY.out.b.cl 0 _ rfl;have d1:=ZY.out.b.cl 1 _ rfl;have d2:=ZY.out.b.cl 2 _ rfl;have d3:=ZY.out.b.cl 3 _ rfl;have d4:=ZY.out.b.cl 4 _ rfl;have d5:=ZY.out.b.cl 5 _ rfl;have d6:=ZY.out.b.cl 6 _ rfl;have d7:=ZY.out.b.cl 7 _ rfl;have d8:=ZY.out.b.cl 8 _ rfl;have d9:=ZY.out.b.cl 9 _ rfl;have d10:=ZY.out.b.cl 10 _ rfl;have d11:=ZY.out.b.cl 11 _ rfl
 go_wp2_with fail
 refine YG.out.mono ?_;rintro e wg ⟨rfl,bg⟩;have YF:=Z8 (Z0.out.below bg);have A:=Z8 (ZY.out.below bg);have d0:=A.out.b.cl 0 _ rfl;have d1:=A.out.b.cl 1 _ rfl;have d2:=A.out.b.cl 2 _ rfl;have d3:=A.out.b.cl 3 _ rfl;have d4:=A.out.b.cl 4 _ rfl;have d5:=A.out.b.cl 5 _ rfl;have d6:=A.out.b.cl 6 _ rfl;have d7:=A.out.b.cl 7 _ rfl;have d8:=A.out.b.cl 8 _ rfl;have d9:=A.out.b.cl 9 _ rfl;have d10:=A.out.b.cl 10 _ rfl;have d11:=A.out.b.cl 11 _ rfl
 go_wp2_with fail
 have YT:ZT≤wg.heap.size:=by have:=A.out.lo;have:=A.out.b.lt;omega
 have hnn:=hr.n;obtain ⟨K1,hK1⟩:∃K,1+7*r.ns.length=K:=⟨_,rfl⟩;have YE:Hid (Calls Tryz.prog 12 #[.agg #[.int .i64 r.code,.int .i64 r.sp.g,.int .i64 r.sp.b,.int .i64 r.sp.s,.int .i64 r.sp.l,.int .i64 r.sp.c,.int .i64 r.zx,.slice ga gl gc,.int .i64 r.used,.int .i64 r.ops,.slice ha hl hc,.slice ia il ic],.int .i64 1] wg fun e w'=>e=.returned (.int .i64 (ks r.ps ((K1:Int)+r.Z7.length) r.ps.length))∧VL w' (.slice ga gl gc) (UU 1 r.ns.length)∧Rd .u8 w' (.slice ha hl hc) (marks (K1:Int) r.Z7.length)∧XP w' (.slice ia il ic) (Pv r.ps ((K1:Int)+r.Z7.length))∧Below ZT wg w'∧(∀q,q<wg.heap.size→Value.ownBlock (.slice ga gl gc)≠some q→Value.ownBlock (.slice ha hl hc)≠some q→Value.ownBlock (.slice ia il ic)≠some q→(∀i,i<r.ps.length→(gd i).ownBlock≠some q)→w'.heap[q]?=wg.heap[q]?)):=GZ wg ZT r _ _ _ gd A.out.t A.out.d YT hnn hr.d hr.p hr.t hr.q K1 hK1;refine YE.out.mono ?_;rintro e wh ⟨rfl,m1,m2,m3,bh,fh⟩;have YD:=Z8 (YF.out.ZL bh (by omega));have ZG:Hid (St wh GB [.int .i64 r.code,.int .i64 r.sp.g,.int .i64 r.sp.b,.int .i64 r.sp.s,.int .i64 r.sp.l,.int .i64 r.sp.c,.int .i64 r.zx,.slice ga gl gc,.int .i64 r.used,.int .i64 r.ops,.slice ha hl hc,.slice ia il ic]):=by
  have hb:=A.out.b;have n2:=A.out.n2;have e9:=fh GB hb.lt A.out.n1 (fun e=>n2 GB (.inl e) rfl) (fun e=>n2 GB (.inr (.inl e)) rfl) (fun i hi e=>n2 GB (.inr (.inr ⟨i,hi,e⟩)) rfl);refine ⟨ZB hb.lt bh.size,fun j=>?_,fun j v hv=>(YI (w:=wg) (a:=⟨GB,j,none⟩) e9).trans (hb.cl j v hv)⟩;have:=hb.fz j;unfold World.frozen? at this ⊢;rw [e9];exact this
 have YC:Hid (Calls Tryz.prog 13 #[.agg #[.int .i64 r.code,.int .i64 r.sp.g,.int .i64 r.sp.b,.int .i64 r.sp.s,.int .i64 r.sp.l,.int .i64 r.sp.c,.int .i64 r.zx,.slice ga gl gc,.int .i64 r.used,.int .i64 r.ops,.slice ha hl hc,.slice ia il ic],.int .i64 1] wh (Ze wh (.int .i64 (ks r.ps ((K1:Int)+r.Z7.length) r.ps.length)))):=GY wh r _ _ _ K1 hK1 m1 m2 m3 hnn hr.d hr.p hr.t;have hkk:¬ks r.ps ((K1:Int)+r.Z7.length) r.ps.length<0:=by unfold ks;omega
 generalize ks r.ps ((K1:Int)+r.Z7.length) r.ps.length=KK at *;have d0:=ZG.out.cl 0 _ rfl;have d1:=ZG.out.cl 1 _ rfl;have d2:=ZG.out.cl 2 _ rfl;have d3:=ZG.out.cl 3 _ rfl;have d4:=ZG.out.cl 4 _ rfl;have d5:=ZG.out.cl 5 _ rfl;have d6:=ZG.out.cl 6 _ rfl;have d7:=ZG.out.cl 7 _ rfl;have d8:=ZG.out.cl 8 _ rfl;have d9:=ZG.out.cl 9 _ rfl;have d10:=ZG.out.cl 10 _ rfl;have d11:=ZG.out.cl 11 _ rfl
 go_wp2_with fail
 refine YC.out.mono ?_;rintro e wi ⟨rfl,bi⟩;have YB:=Z8 (YD.out.below bi)
 go_wp2_with fail
 rename_i YX YV;exact su YV YB.out HR HP Xd hdl hn hr HI
theorem qj {xd:Nat→Value} {K8:Act→World→Prop} (h8:∀a w',(Zd 8 60 (Yh Tryz.f3)).wp Tryz.prog (bodyPost Tryz.prog Tryz.f3 (Ze w (.bool true))) a w'→K8 a w') (hW:Jt w ao bo Z7.length ca ps.length cb S L BW M r vt a1 a2 W) (hX:St W XB [.slice xa Z7.length xc,.slice xb ps.length xe]) (hD:Zz W Zn Zp (.slice xa Z7.length xc) (.slice xb ps.length xe) Z7 ps xd) (hm1:M≤Zn) (hm2:Zn≤Zp) (Y1:Zp≤XB) (htot:tot ps≤1048576) (HR:Hid (Rd .u8 w (.slice ao Z7.length ca) Z7)) (HP:Hid (XP w (.slice bo ps.length cb) ps)) (Xd:Hid (∀i,(pD ps i).length≤1048576)) (hdl:Z7.length≤1048576) (hn:ps.length≤1048576) (hr:BY r) (HI:Hid (∀W' v1 v2,Rd .u8 W' v1 Z7→XP W' v2 ps→U1 W'→0<W'.heap.size→Calls Tryz.prog 8 #[.agg #[v1,v2],.agg #[.int .i64 S,.int .i64 L],.int .i64 limit] W' (Yn W' r))) :
    (Ug (Zd 7 60 (Yh Tryz.f3))).wp Tryz.prog (Exit.then K8 (bodyPost Tryz.prog Tryz.f3 (Ze w (.bool true)))) { tmps:=#[t0,t1,.int .i64 limit,.pointer (some ⟨w.heap.size,0,none⟩),.pointer (some ⟨w.heap.size+1,0,none⟩),t5,t6,t7,.pointer (some ⟨BW,0,none⟩),.pointer (some ⟨XB,0,none⟩),t10,t11,t12,t13,t14,t15,t16,t17,t18,t19,t20,t21,t22,t23,t24,t25,t26,t27,t28,t29,t30,t31,t32,t33,t34,t35,t36,t37,t38,t39,t40,t41,t42,t43,t44,t45,t46,t47,t48,t49,t50,t51,t52,t53,t54,t55,t56,t57,t58,t59,t60,t61,t62,t63,t64,t65,t66,t67,t68,t69,t70,t71,t72,t73],defers:=[] } W:=by
 have H8:Hid _:=h8
 conv in (Ug _)=>simp only [Yh,Tryz.f3,Zd,Ug,Nat.reduceBEq]
 have bP:ZX W W.drew:=below_drewN' W 1;refine ZF (S:=fun W'=>XM w ao bo Z7.length ca ps.length cb S L W'∧St W' XB [.slice xa Z7.length xc,.slice xb ps.length xe]) (by kernel_rfl) (⟨(hW.below bP).f,hX.below bP⟩) (fun Z9=>?_);have ZN:=Z8 (hW.below bP);have Y7:=Z8 (hX.below bP);have YZ:=Z8 (hD.below bP);generalize W.drew=wa at *;refine ZV ?_ (by kernel_rfl) (fun _=>id) Z9 ?_ ?_
 rotate_left
 · intro w9 Z4;have q0:=Z4.2.cl 0 _ rfl;have q1:=Z4.2.cl 1 _ rfl;clear Z4;go_simp;try with_reducible rfl
 refine ZV ?_ (by kernel_rfl) (fun _=>id) Z9 ?_ ?_
 rotate_left
 · intro w9 Z4;obtain ⟨⟨-,y0,y1,y2,y3⟩,-⟩:=Z4;go_simp;try with_reducible rfl
 refine ZA 3 (.int .i64 limit) rfl (by kernel_rfl) (fun _=>id) Z9 (fun w9 Z4=>by (clear Z4;go_simp;try with_reducible rfl)) ?_;refine Wu 2 5 rfl rfl (by kernel_rfl) (fun K hK=>?_) (fun K hK=>?_)
 · skip
   go_simp;refine (XH _ S L).mono ?_;rintro e wb ⟨rfl,bb⟩;have E:=Z8 (ZN.out.below bb);have Zm:=Z8 (YZ.out.below bb);have Zt:=Z8 (Y7.out.below bb);clear Z9;refine hK.out _ _ (⟨E.out.f,Zt.out⟩) (fun Z9=>?_);refine Wu 4 5 rfl rfl (by kernel_rfl) (fun K hK=>?_) (fun K hK=>?_)
   · skip
     go_simp;refine (HI.out _ _ _ Zm.out.d.rd Zm.out.p.rd E.out.k (Sp (ZQ _) E.out.b.lt)).mono ?_;rintro e wc ⟨vh,x1,x2,dh,rfl,oN,oD,bc⟩;obtain ⟨ha,Nc,N,J,I,G,rfl,rfl⟩:=oD.Xv;obtain ⟨U,T,WP,rfl⟩:∃a n c,vh=.slice a n c:=by
      obtain ⟨a,c,e⟩:=ZU.YW oN;exact ⟨a,_,c,e⟩
     have YS:=Z8 oN;have YA:=Z8 oD;have Y:∀g,Value.ownBlock (.slice U T WP)=some g→wb.heap.size≤g∧g<wc.heap.size:=fun g hg=>ZO YS.out g hg
     unfold Wg;have R:=Z8 (E.out.below bc);have Zy:=Z8 (Zm.out.below bc);have Zs:=Z8 (Zt.out.below bc);clear Z9;refine hK.out _ _ (⟨R.out.f,Zs.out⟩) (fun Z9=>?_);have hbc:=bc.size;have Yv:=Zt.out.lt;refine ZS 5 rfl (by kernel_rfl) (fun K hK=>?_);obtain ⟨bd,Ro⟩:=Tf wc;have C:=Z8 (R.out.below bd);have Y6:=Z8 (Zy.out.below bd);have Zl:=Z8 (Zs.out.below bd);have Y9:=YS.out.below bd;have Y8:=YA.out.below bd;go_simp;clear Z9;refine hK.out _ _ (⟨C.out.f,Zl.out⟩) (fun Z9=>?_);generalize wc.alloc _=wd at *;have VN:=Ro;have Q:=C;have Z5:=Y6;have Zr:=Zl;have ZH:Hid _:=Y9;have Z6:Hid _:=Y8;have hcd:=bd.size;have hbw:=R.out.m;have Y5:=Zs.out.lt;have hne1:Value.ownBlock (.slice U T WP)≠some wc.heap.size:=fun e=>by have:=(Y _ e).2;omega
     have hne2:∀g,(Value.ownBlock (.slice ha Nc N)=some g∨Value.ownBlock (.slice J I G)=some g∨∃i,i<r.ps.length∧(dh i).ownBlock=some g)→g≠wc.heap.size:=fun g hg=>by
      rcases hg with h | h | ⟨i,hi,h⟩
      · have:=Z6.out.NY g h;omega
      · have:=Z6.out.Pm g h;omega
      have:=Z6.out.MK i hi g h;omega
     refine ZS 6 rfl (by kernel_rfl) (fun K hK=>?_);obtain ⟨z0,y0,z1,y1,z2,y2,z3,y3,z4,y4,z5,y5,z6,y6,z7,y7,z8,y8,z9,y9,Z2,Zv,Z1,Zu⟩:=VN.out.Nl;have ZZ:=VS VN.out ZH.out hne1 Z6.out hne2;have LZ:=Z8 (Q.out.ZL ZZ.out.1 hbw);have XZ:=Z8 (Zr.out.ZL ZZ.out.1 Y5);have hsz:=ZZ.out.1.size;go_simp;refine hK.out _ _ ⟨LZ.out.f,XZ.out⟩ (fun ZI=>?_);refine ZM (by kernel_rfl) ?_ _
     try simp only [Act.put,Zk,Zj,Zi]
     refine H8.out _ _ ?_;refine yo LZ.out XZ.out (SG Z5.out (fun g hg=>by
      rcases hg with h | h | ⟨i,hi,h⟩
      · have:=Z5.out.NY g h;omega
      · have:=Z5.out.Pm g h;omega
      · have:=Z5.out.MK i hi g h;omega))
      (show Gx _ _ wb.heap.size r _ _ _ _ from ⟨ZZ.out.2.1,ZZ.out.2.2.1.mono (by omega),ZZ.out.2.2.2.mono (by omega) (ZP (by omega) hsz),by omega,hne1,hne2⟩) hm1 hm2 Y1 (by omega) htot HR HP Xd hdl hn hr HI
   skip
   obtain ⟨bc,Ro⟩:=Tf wb;have C:=Z8 (E.out.below bc);have Y6:=Z8 (Zm.out.below bc);have Zl:=Z8 (Zt.out.below bc);go_simp;clear Z9;refine hK.out _ _ (⟨C.out.f,Zl.out⟩) (fun Z9=>?_);generalize wb.alloc _=wc at *;have JM:=Ro;have R:=C;have Zy:=Y6;have Zs:=Zl;refine ZS 4 rfl (by kernel_rfl) (fun K hK=>?_);go_simp;refine (HI.out _ _ _ Zy.out.d.rd Zy.out.p.rd R.out.k (Sp (ZQ _) R.out.b.lt)).mono ?_;rintro e wd ⟨vh,x1,x2,dh,rfl,oN,oD,bd⟩;obtain ⟨ha,Nc,N,J,I,G,rfl,rfl⟩:=oD.Xv;obtain ⟨U,T,WP,rfl⟩:∃a n c,vh=.slice a n c:=by
    obtain ⟨a,c,e⟩:=ZU.YW oN;exact ⟨a,_,c,e⟩
   have ZH:=Z8 oN;have Z6:=Z8 oD;have Y:∀g,Value.ownBlock (.slice U T WP)=some g→wc.heap.size≤g∧g<wd.heap.size:=fun g hg=>ZO ZH.out g hg
   unfold Wg;have Q:=Z8 (R.out.below bd);have Z5:=Z8 (Zy.out.below bd);have Zr:=Z8 (Zs.out.below bd);have VN:=Z8 (JM.out.below bd);clear Z9;refine hK.out _ _ (⟨Q.out.f,Zr.out⟩) (fun Z9=>?_);have hbw:=E.out.m;have Y5:=Zt.out.lt;have hol:=JM.out.lt;have hne1:Value.ownBlock (.slice U T WP)≠some wb.heap.size:=fun e=>by have:=(Y _ e).1;omega
   have hne2:∀g,(Value.ownBlock (.slice ha Nc N)=some g∨Value.ownBlock (.slice J I G)=some g∨∃i,i<r.ps.length∧(dh i).ownBlock=some g)→g≠wb.heap.size:=fun g hg=>by
    rcases hg with h | h | ⟨i,hi,h⟩
    · have:=(Z6.out.d.lt g h).1;omega
    · have:=(ZO Z6.out.p.1 g h).1;omega
    have:=((Z6.out.p.2.1 i hi).lt g h).1;omega
   refine ZS 6 rfl (by kernel_rfl) (fun K hK=>?_);obtain ⟨z0,y0,z1,y1,z2,y2,z3,y3,z4,y4,z5,y5,z6,y6,z7,y7,z8,y8,z9,y9,Z2,Zv,Z1,Zu⟩:=VN.out.Nl;have ZZ:=VS VN.out ZH.out hne1 Z6.out hne2;have LZ:=Z8 (Q.out.ZL ZZ.out.1 hbw);have XZ:=Z8 (Zr.out.ZL ZZ.out.1 Y5);have hsz:=ZZ.out.1.size;go_simp;refine hK.out _ _ ⟨LZ.out.f,XZ.out⟩ (fun ZI=>?_);refine ZM (by kernel_rfl) ?_ _
   try simp only [Act.put,Zk,Zj,Zi]
   refine H8.out _ _ ?_;refine yo LZ.out XZ.out (SG Z5.out (fun g hg=>by
    rcases hg with h | h | ⟨i,hi,h⟩
    · have:=Z5.out.NY g h;omega
    · have:=Z5.out.Pm g h;omega
    · have:=Z5.out.MK i hi g h;omega))
    (show Gx _ _ wb.heap.size r _ _ _ _ from ⟨ZZ.out.2.1,ZZ.out.2.2.1.mono (by omega),ZZ.out.2.2.2.mono (by omega) (ZP (by omega) hsz),by omega,hne1,hne2⟩) hm1 hm2 Y1 (by omega) htot HR HP Xd hdl hn hr HI
 skip
 obtain ⟨bb,Ro⟩:=Tf wa;have C:=Z8 (ZN.out.below bb);have Y6:=Z8 (YZ.out.below bb);have Zl:=Z8 (Y7.out.below bb);go_simp;clear Z9;refine hK.out _ _ (⟨C.out.f,Zl.out⟩) (fun Z9=>?_);generalize wa.alloc _=wb at *;have sJ:=Ro;have E:=C;have Zm:=Y6;have Zt:=Zl;refine ZS 2 rfl (by kernel_rfl) (fun K hK=>?_);go_simp;refine (XH _ S L).mono ?_;rintro e wc ⟨rfl,bc⟩;have R:=Z8 (E.out.below bc);have Zy:=Z8 (Zm.out.below bc);have Zs:=Z8 (Zt.out.below bc);have JM:=Z8 (sJ.out.below bc);clear Z9;refine hK.out _ _ (⟨R.out.f,Zs.out⟩) (fun Z9=>?_);refine ZS 4 rfl (by kernel_rfl) (fun K hK=>?_);go_simp;refine (HI.out _ _ _ Zy.out.d.rd Zy.out.p.rd R.out.k (Sp (ZQ _) R.out.b.lt)).mono ?_;rintro e wd ⟨vh,x1,x2,dh,rfl,oN,oD,bd⟩;obtain ⟨ha,Nc,N,J,I,G,rfl,rfl⟩:=oD.Xv;obtain ⟨U,T,WP,rfl⟩:∃a n c,vh=.slice a n c:=by
  obtain ⟨a,c,e⟩:=ZU.YW oN;exact ⟨a,_,c,e⟩
 have ZH:=Z8 oN;have Z6:=Z8 oD;have Y:∀g,Value.ownBlock (.slice U T WP)=some g→wc.heap.size≤g∧g<wd.heap.size:=fun g hg=>ZO ZH.out g hg
 unfold Wg;have Q:=Z8 (R.out.below bd);have Z5:=Z8 (Zy.out.below bd);have Zr:=Z8 (Zs.out.below bd);have VN:=Z8 (JM.out.below bd);clear Z9;refine hK.out _ _ (⟨Q.out.f,Zr.out⟩) (fun Z9=>?_);have hbw:=ZN.out.m;have Y5:=Y7.out.lt;have hol:=JM.out.lt;have hne1:Value.ownBlock (.slice U T WP)≠some wa.heap.size:=fun e=>by have:=(Y _ e).1;omega
 have hne2:∀g,(Value.ownBlock (.slice ha Nc N)=some g∨Value.ownBlock (.slice J I G)=some g∨∃i,i<r.ps.length∧(dh i).ownBlock=some g)→g≠wa.heap.size:=fun g hg=>by
  rcases hg with h | h | ⟨i,hi,h⟩
  · have:=(Z6.out.d.lt g h).1;omega
  · have:=(ZO Z6.out.p.1 g h).1;omega
  have:=((Z6.out.p.2.1 i hi).lt g h).1;omega
 refine ZS 6 rfl (by kernel_rfl) (fun K hK=>?_);obtain ⟨z0,y0,z1,y1,z2,y2,z3,y3,z4,y4,z5,y5,z6,y6,z7,y7,z8,y8,z9,y9,Z2,Zv,Z1,Zu⟩:=VN.out.Nl;have ZZ:=VS VN.out ZH.out hne1 Z6.out hne2;have LZ:=Z8 (Q.out.ZL ZZ.out.1 hbw);have XZ:=Z8 (Zr.out.ZL ZZ.out.1 Y5);have hsz:=ZZ.out.1.size;go_simp;refine hK.out _ _ ⟨LZ.out.f,XZ.out⟩ (fun ZI=>?_);refine ZM (by kernel_rfl) ?_ _
 try simp only [Act.put,Zk,Zj,Zi]
 refine H8.out _ _ ?_;refine yo LZ.out XZ.out (SG Z5.out (fun g hg=>by
  rcases hg with h | h | ⟨i,hi,h⟩
  · have:=Z5.out.NY g h;omega
  · have:=Z5.out.Pm g h;omega
  · have:=Z5.out.MK i hi g h;omega))
  (show Gx _ _ wa.heap.size r _ _ _ _ from ⟨ZZ.out.2.1,ZZ.out.2.2.1.mono (by omega),ZZ.out.2.2.2.mono (by omega) (ZP (by omega) hsz),by omega,hne1,hne2⟩) hm1 hm2 Y1 (by omega) htot HR HP Xd hdl hn hr HI
theorem DY (hW:Jt w ao bo Z7.length ca ps.length cb S L BW M r vt a1 a2 W) (htot:tot ps≤1048576) (HR:Hid (Rd .u8 w (.slice ao Z7.length ca) Z7)) (HP:Hid (XP w (.slice bo ps.length cb) ps)) (Xd:Hid (∀i,(pD ps i).length≤1048576)) (hdl:Z7.length≤1048576) (hn:ps.length≤1048576) (hr:BY r) (HI:Hid (∀W' v1 v2,Rd .u8 W' v1 Z7→XP W' v2 ps→U1 W'→0<W'.heap.size→Calls Tryz.prog 8 #[.agg #[v1,v2],.agg #[.int .i64 S,.int .i64 L],.int .i64 limit] W' (Yn W' r))) :
    (Zd 6 60 (Yh Tryz.f3)).wp Tryz.prog (bodyPost Tryz.prog Tryz.f3 (Ze w (.bool true))) { tmps:=#[t0,t1,.int .i64 limit,.pointer (some ⟨w.heap.size,0,none⟩),.pointer (some ⟨w.heap.size+1,0,none⟩),t5,t6,t7,.pointer (some ⟨BW,0,none⟩),t9,t10,t11,t12,t13,t14,t15,t16,t17,t18,t19,t20,t21,t22,t23,t24,t25,t26,t27,t28,t29,t30,t31,t32,t33,t34,t35,t36,t37,t38,t39,t40,t41,t42,t43,t44,t45,t46,t47,t48,t49,t50,t51,t52,t53,t54,t55,t56,t57,t58,t59,t60,t61,t62,t63,t64,t65,t66,t67,t68,t69,t70,t71,t72,t73],defers:=[] } W:=by
 obtain ⟨-,y0,y1,y2,y3⟩:=hW.f;have Y4:=Z8 hW;clear hW
 conv in (Zd _ _ _)=>simp only [Yh,Tryz.f3,Zd,Nat.reduceBEq]
 go_wp2_with fail
 clear y0 y1 y2 y3;refine (Wj _ _ _ Z7 ps (HR.out.below Y4.out.f.1.out.1) (HP.out.below Y4.out.f.1.out.1) hdl hn Xd.out).mono ?_;rintro e w1 ⟨xa,xc,xb,xe,xd,rfl,oX,b1⟩;have YR:=Z8 (Y4.out.below b1);have YQ:=Z8 oX;have hm:=Y4.out.m;have s1:=b1.size;clear oX b1 Y4
 go_wp2_with fail
 have bA:ZX w1 (w1.alloc (.cells #[.slice xa Z7.length xc,.slice xb ps.length xe] 36)):=ZR.alloc ZW _;have Yz:=Z8 (YR.out.below bA);have Yy:Hid (St (w1.alloc (.cells #[.slice xa Z7.length xc,.slice xb ps.length xe] 36)) w1.heap.size [.slice xa Z7.length xc,.slice xb ps.length xe]):=St.new _ _ _;have Yx:=Z8 (YQ.out.below bA);clear bA YR YQ;generalize w1.alloc _=w2 at *;rename_i K8 h8;exact qj h8 Yz.out Yy.out Yx.out hm s1 ZW htot HR HP Xd hdl hn hr HI
theorem qi {K6:Act→World→Prop} {t8:Value} (h6:∀a w',(Zd 6 60 (Yh Tryz.f3)).wp Tryz.prog (bodyPost Tryz.prog Tryz.f3 (Ze w (.bool true))) a w'→K6 a w') (hW:vF w ao bo Z7.length ca ps.length cb S L W) (htot:tot ps≤1048576) (HR:Hid (Rd .u8 w (.slice ao Z7.length ca) Z7)) (HP:Hid (XP w (.slice bo ps.length cb) ps)) (Xd:Hid (∀i,(pD ps i).length≤1048576)) (hdl:Z7.length≤1048576) (hn:ps.length≤1048576) (hr:BY r) (HI:Hid (∀W' v1 v2,Rd .u8 W' v1 Z7→XP W' v2 ps→U1 W'→0<W'.heap.size→Calls Tryz.prog 8 #[.agg #[v1,v2],.agg #[.int .i64 S,.int .i64 L],.int .i64 limit] W' (Yn W' r))) (HS:Hid (∀W' v1 v2,Rd .u8 W' v1 Z7→XP W' v2 ps→Calls Tryz.prog 5 #[.agg #[v1,v2],.agg #[.int .i64 S,.int .i64 L],.int .i64 limit] W' (Yn W' r))) :
    (Ug (Zd 5 60 (Yh Tryz.f3))).wp Tryz.prog (Exit.then K6 (bodyPost Tryz.prog Tryz.f3 (Ze w (.bool true)))) { tmps:=#[t0,t1,.int .i64 limit,.pointer (some ⟨w.heap.size,0,none⟩),.pointer (some ⟨w.heap.size+1,0,none⟩),t5,t6,t7,t8,t9,t10,t11,t12,t13,t14,t15,t16,t17,t18,t19,t20,t21,t22,t23,t24,t25,t26,t27,t28,t29,t30,t31,t32,t33,t34,t35,t36,t37,t38,t39,t40,t41,t42,t43,t44,t45,t46,t47,t48,t49,t50,t51,t52,t53,t54,t55,t56,t57,t58,t59,t60,t61,t62,t63,t64,t65,t66,t67,t68,t69,t70,t71,t72,t73],defers:=[] } W:=by
 have H6:Hid _:=h6
 conv in (Ug _)=>simp only [Yh,Tryz.f3,Zd,Ug,Nat.reduceBEq]
 refine ZF (S:=XM w ao bo Z7.length ca ps.length cb S L) (by kernel_rfl) ((hW.below (below_drewN' W 1)).f) (fun Z9=>?_);have Y3:Hid (vF w ao bo Z7.length ca ps.length cb S L W.drew):=hW.below (below_drewN' W 1);generalize W.drew=wa at *;refine ZV ?_ (by kernel_rfl) (fun _=>id) Z9 ?_ ?_
 rotate_left
 · intro w9 Z4;obtain ⟨-,y0,y1,y2,y3⟩:=Z4;go_simp;try with_reducible rfl
 refine ZA 2 (.agg #[.int .i64 S,.int .i64 L]) rfl (by kernel_rfl) (fun _=>id) Z9 (fun w9 Z4=>by (obtain ⟨-,y0,y1,y2,y3⟩:=Z4;go_simp;try with_reducible rfl)) ?_;refine ZA 4 (.int .i64 limit) rfl (by kernel_rfl) (fun _=>id) Z9 (fun w9 Z4=>by (clear Z4;go_simp;try with_reducible rfl)) ?_;refine Wu 1 6 rfl rfl (by kernel_rfl) (fun K hK=>?_) (fun K hK=>?_)
 · skip
   go_simp;refine (Wj _ _ _ Z7 ps (HR.out.below (Y3.out.f.1.out.1)) (HP.out.below (Y3.out.f.1.out.1)) hdl hn Xd.out).mono ?_;rintro e wb ⟨ta,tc,tb,te,td,rfl,oT,bb⟩;have Za:=Z8 oT.d.rd;have Y':=Z8 oT.p.rd;have Zh:=Z8 (Y3.out.below bb);clear Z9;refine hK.out _ _ (Zh.out.f) (fun Z9=>?_);refine Wu 3 6 rfl rfl (by kernel_rfl) (fun K hK=>?_) (fun K hK=>?_)
   · skip
     go_simp;refine (XH _ S L).mono ?_;rintro e wc ⟨rfl,bc⟩;have Zo:=Z8 (Zh.out.below bc);have ZK:=Z8 (Za.out.below bc);have ZJ:=Z8 (Y'.out.below bc);clear Z9;refine hK.out _ _ (Zo.out.f) (fun Z9=>?_);refine Wu 5 6 rfl rfl (by kernel_rfl) (fun K hK=>?_) (fun K hK=>?_)
     · skip
       go_simp;refine (HS.out _ _ _ ZK.out ZJ.out).mono ?_;rintro e wd ⟨vh,x1,x2,dh,rfl,oN,oD,bd⟩;obtain ⟨ha,Nc,N,J,I,G,rfl,rfl⟩:=oD.Xv;obtain ⟨U,T,WP,rfl⟩:∃a n c,vh=.slice a n c:=by
        obtain ⟨a,c,e⟩:=ZU.YW oN;exact ⟨a,_,c,e⟩
       have ZH:=Z8 oN;have Z6:=Z8 oD;have Y:∀g,Value.ownBlock (.slice U T WP)=some g→wc.heap.size≤g∧g<wd.heap.size:=fun g hg=>ZO ZH.out g hg
       unfold Wg;have Zx:=Z8 (Zo.out.below bd);clear Z9;refine hK.out _ _ (Zx.out.f) (fun Z9=>?_);refine ZS 6 rfl (by kernel_rfl) (fun K hK=>?_);obtain ⟨be,Ro⟩:=Tf wd;have Zw:=Z8 (Zx.out.below be);have Y9:=ZH.out.below be;have Y8:=Z6.out.below be;go_simp;clear Z9;refine hK.out _ _ (Zw.out.f) (fun Z9=>?_);generalize wd.alloc _=we at *;have O:=Ro;have Zq:=Zw;have F:Hid _:=Y9;have V:Hid _:=Y8;have hbw:=Zx.out.wm;have hne1:Value.ownBlock (.slice U T WP)≠some wd.heap.size:=fun e=>by have:=(Y _ e).2;omega
       have hne2:∀g,(Value.ownBlock (.slice ha Nc N)=some g∨Value.ownBlock (.slice J I G)=some g∨∃i,i<r.ps.length∧(dh i).ownBlock=some g)→g≠wd.heap.size:=fun g hg=>by
        rcases hg with h | h | ⟨i,hi,h⟩
        · have:=V.out.NY g h;omega
        · have:=V.out.Pm g h;omega
        have:=V.out.MK i hi g h;omega
       refine ZS 7 rfl (by kernel_rfl) (fun K hK=>?_);obtain ⟨z0,y0,z1,y1,z2,y2,z3,y3,z4,y4,z5,y5,z6,y6,z7,y7,z8,y8,z9,y9,Z2,Zv,Z1,Zu⟩:=O.out.Nl;have ZZ:=VS O.out F.out hne1 V.out hne2;have Z':=Z8 (Zq.out.ZL ZZ.out.1 hbw);go_simp;refine hK.out _ _ Z'.out.f (fun ZI=>?_);refine ZM (by kernel_rfl) ?_ _
       try simp only [Act.put,Zk,Zj,Zi]
       refine H6.out _ _ ?_;exact DY ⟨Z'.out.f,ZZ.out.2.1,ZW,ZZ.out.2.1.lt,Z'.out.wm,fun W' hb=>⟨(ZZ.out.2.2.1.below hb).rd,(ZZ.out.2.2.2.below hb).d.rd,(ZZ.out.2.2.2.below hb).p.rd⟩,Z'.out.k⟩ htot HR HP Xd hdl hn hr HI
     skip
     obtain ⟨bd,Ro⟩:=Tf wc;have Zw:=Z8 (Zo.out.below bd);have Zc:=Z8 (ZK.out.below bd);have Zb:=Z8 (ZJ.out.below bd);go_simp;clear Z9;refine hK.out _ _ (Zw.out.f) (fun Z9=>?_);generalize wc.alloc _=wd at *;have VN:=Ro;have Zx:=Zw;have ZD:=Zc;have ZC:=Zb;refine ZS 5 rfl (by kernel_rfl) (fun K hK=>?_);go_simp;refine (HS.out _ _ _ ZD.out ZC.out).mono ?_;rintro e we ⟨vh,x1,x2,dh,rfl,oN,oD,be⟩;obtain ⟨ha,Nc,N,J,I,G,rfl,rfl⟩:=oD.Xv;obtain ⟨U,T,WP,rfl⟩:∃a n c,vh=.slice a n c:=by
      obtain ⟨a,c,e⟩:=ZU.YW oN;exact ⟨a,_,c,e⟩
     have F:=Z8 oN;have V:=Z8 oD;have Y:∀g,Value.ownBlock (.slice U T WP)=some g→wd.heap.size≤g∧g<we.heap.size:=fun g hg=>ZO F.out g hg
     unfold Wg;have Zq:=Z8 (Zx.out.below be);have O:=Z8 (VN.out.below be);clear Z9;refine hK.out _ _ (Zq.out.f) (fun Z9=>?_);have hbw:=Zo.out.wm;have hol:=VN.out.lt;have hne1:Value.ownBlock (.slice U T WP)≠some wc.heap.size:=fun e=>by have:=(Y _ e).1;omega
     have hne2:∀g,(Value.ownBlock (.slice ha Nc N)=some g∨Value.ownBlock (.slice J I G)=some g∨∃i,i<r.ps.length∧(dh i).ownBlock=some g)→g≠wc.heap.size:=fun g hg=>by
      rcases hg with h | h | ⟨i,hi,h⟩
      · have:=(V.out.d.lt g h).1;omega
      · have:=(ZO V.out.p.1 g h).1;omega
      have:=((V.out.p.2.1 i hi).lt g h).1;omega
     refine ZS 7 rfl (by kernel_rfl) (fun K hK=>?_);obtain ⟨z0,y0,z1,y1,z2,y2,z3,y3,z4,y4,z5,y5,z6,y6,z7,y7,z8,y8,z9,y9,Z2,Zv,Z1,Zu⟩:=O.out.Nl;have ZZ:=VS O.out F.out hne1 V.out hne2;have Z':=Z8 (Zq.out.ZL ZZ.out.1 hbw);go_simp;refine hK.out _ _ Z'.out.f (fun ZI=>?_);refine ZM (by kernel_rfl) ?_ _
     try simp only [Act.put,Zk,Zj,Zi]
     refine H6.out _ _ ?_;exact DY ⟨Z'.out.f,ZZ.out.2.1,ZW,ZZ.out.2.1.lt,Z'.out.wm,fun W' hb=>⟨(ZZ.out.2.2.1.below hb).rd,(ZZ.out.2.2.2.below hb).d.rd,(ZZ.out.2.2.2.below hb).p.rd⟩,Z'.out.k⟩ htot HR HP Xd hdl hn hr HI
   skip
   obtain ⟨bc,Ro⟩:=Tf wb;have Zw:=Z8 (Zh.out.below bc);have Zc:=Z8 (Za.out.below bc);have Zb:=Z8 (Y'.out.below bc);go_simp;clear Z9;refine hK.out _ _ (Zw.out.f) (fun Z9=>?_);generalize wb.alloc _=wc at *;have JM:=Ro;have Zo:=Zw;have ZK:=Zc;have ZJ:=Zb;refine ZS 3 rfl (by kernel_rfl) (fun K hK=>?_);go_simp;refine (XH _ S L).mono ?_;rintro e wd ⟨rfl,bd⟩;have Zx:=Z8 (Zo.out.below bd);have ZD:=Z8 (ZK.out.below bd);have ZC:=Z8 (ZJ.out.below bd);have VN:=Z8 (JM.out.below bd);clear Z9;refine hK.out _ _ (Zx.out.f) (fun Z9=>?_);refine ZS 5 rfl (by kernel_rfl) (fun K hK=>?_);go_simp;refine (HS.out _ _ _ ZD.out ZC.out).mono ?_;rintro e we ⟨vh,x1,x2,dh,rfl,oN,oD,be⟩;obtain ⟨ha,Nc,N,J,I,G,rfl,rfl⟩:=oD.Xv;obtain ⟨U,T,WP,rfl⟩:∃a n c,vh=.slice a n c:=by
    obtain ⟨a,c,e⟩:=ZU.YW oN;exact ⟨a,_,c,e⟩
   have F:=Z8 oN;have V:=Z8 oD;have Y:∀g,Value.ownBlock (.slice U T WP)=some g→wd.heap.size≤g∧g<we.heap.size:=fun g hg=>ZO F.out g hg
   unfold Wg;have Zq:=Z8 (Zx.out.below be);have O:=Z8 (VN.out.below be);clear Z9;refine hK.out _ _ (Zq.out.f) (fun Z9=>?_);have hbw:=Zh.out.wm;have hol:=VN.out.lt;have hne1:Value.ownBlock (.slice U T WP)≠some wb.heap.size:=fun e=>by have:=(Y _ e).1;omega
   have hne2:∀g,(Value.ownBlock (.slice ha Nc N)=some g∨Value.ownBlock (.slice J I G)=some g∨∃i,i<r.ps.length∧(dh i).ownBlock=some g)→g≠wb.heap.size:=fun g hg=>by
    rcases hg with h | h | ⟨i,hi,h⟩
    · have:=(V.out.d.lt g h).1;omega
    · have:=(ZO V.out.p.1 g h).1;omega
    have:=((V.out.p.2.1 i hi).lt g h).1;omega
   refine ZS 7 rfl (by kernel_rfl) (fun K hK=>?_);obtain ⟨z0,y0,z1,y1,z2,y2,z3,y3,z4,y4,z5,y5,z6,y6,z7,y7,z8,y8,z9,y9,Z2,Zv,Z1,Zu⟩:=O.out.Nl;have ZZ:=VS O.out F.out hne1 V.out hne2;have Z':=Z8 (Zq.out.ZL ZZ.out.1 hbw);go_simp;refine hK.out _ _ Z'.out.f (fun ZI=>?_);refine ZM (by kernel_rfl) ?_ _
   try simp only [Act.put,Zk,Zj,Zi]
   refine H6.out _ _ ?_;exact DY ⟨Z'.out.f,ZZ.out.2.1,ZW,ZZ.out.2.1.lt,Z'.out.wm,fun W' hb=>⟨(ZZ.out.2.2.1.below hb).rd,(ZZ.out.2.2.2.below hb).d.rd,(ZZ.out.2.2.2.below hb).p.rd⟩,Z'.out.k⟩ htot HR HP Xd hdl hn hr HI
 skip
 obtain ⟨bb,Ro⟩:=Tf wa;have Zw:=Z8 (Y3.out.below bb);go_simp;clear Z9;refine hK.out _ _ (Zw.out.f) (fun Z9=>?_);generalize wa.alloc _=wb at *;have sJ:=Ro;have Zh:=Zw;refine ZS 1 rfl (by kernel_rfl) (fun K hK=>?_);go_simp;refine (Wj _ _ _ Z7 ps (HR.out.below (Zh.out.f.1.out.1)) (HP.out.below (Zh.out.f.1.out.1)) hdl hn Xd.out).mono ?_;rintro e wc ⟨ta,tc,tb,te,td,rfl,oT,bc⟩;have ZK:=Z8 oT.d.rd;have ZJ:=Z8 oT.p.rd;have Zo:=Z8 (Zh.out.below bc);have JM:=Z8 (sJ.out.below bc);clear Z9;refine hK.out _ _ (Zo.out.f) (fun Z9=>?_);refine ZS 3 rfl (by kernel_rfl) (fun K hK=>?_);go_simp;refine (XH _ S L).mono ?_;rintro e wd ⟨rfl,bd⟩;have Zx:=Z8 (Zo.out.below bd);have ZD:=Z8 (ZK.out.below bd);have ZC:=Z8 (ZJ.out.below bd);have VN:=Z8 (JM.out.below bd);clear Z9;refine hK.out _ _ (Zx.out.f) (fun Z9=>?_);refine ZS 5 rfl (by kernel_rfl) (fun K hK=>?_);go_simp;refine (HS.out _ _ _ ZD.out ZC.out).mono ?_;rintro e we ⟨vh,x1,x2,dh,rfl,oN,oD,be⟩;obtain ⟨ha,Nc,N,J,I,G,rfl,rfl⟩:=oD.Xv;obtain ⟨U,T,WP,rfl⟩:∃a n c,vh=.slice a n c:=by
  obtain ⟨a,c,e⟩:=ZU.YW oN;exact ⟨a,_,c,e⟩
 have F:=Z8 oN;have V:=Z8 oD;have Y:∀g,Value.ownBlock (.slice U T WP)=some g→wd.heap.size≤g∧g<we.heap.size:=fun g hg=>ZO F.out g hg
 unfold Wg;have Zq:=Z8 (Zx.out.below be);have O:=Z8 (VN.out.below be);clear Z9;refine hK.out _ _ (Zq.out.f) (fun Z9=>?_);have hbw:=Y3.out.wm;have hol:=VN.out.lt;have hne1:Value.ownBlock (.slice U T WP)≠some wa.heap.size:=fun e=>by have:=(Y _ e).1;omega
 have hne2:∀g,(Value.ownBlock (.slice ha Nc N)=some g∨Value.ownBlock (.slice J I G)=some g∨∃i,i<r.ps.length∧(dh i).ownBlock=some g)→g≠wa.heap.size:=fun g hg=>by
  rcases hg with h | h | ⟨i,hi,h⟩
  · have:=(V.out.d.lt g h).1;omega
  · have:=(ZO V.out.p.1 g h).1;omega
  have:=((V.out.p.2.1 i hi).lt g h).1;omega
 refine ZS 7 rfl (by kernel_rfl) (fun K hK=>?_);obtain ⟨z0,y0,z1,y1,z2,y2,z3,y3,z4,y4,z5,y5,z6,y6,z7,y7,z8,y8,z9,y9,Z2,Zv,Z1,Zu⟩:=O.out.Nl;have ZZ:=VS O.out F.out hne1 V.out hne2;have Z':=Z8 (Zq.out.ZL ZZ.out.1 hbw);go_simp;refine hK.out _ _ Z'.out.f (fun ZI=>?_);refine ZM (by kernel_rfl) ?_ _
 try simp only [Act.put,Zk,Zj,Zi]
 refine H6.out _ _ ?_;exact DY ⟨Z'.out.f,ZZ.out.2.1,ZW,ZZ.out.2.1.lt,Z'.out.wm,fun W' hb=>⟨(ZZ.out.2.2.1.below hb).rd,(ZZ.out.2.2.2.below hb).d.rd,(ZZ.out.2.2.2.below hb).p.rd⟩,Z'.out.k⟩ htot HR HP Xd hdl hn hr HI
theorem GP (w:World) (vd vp:Value) (Z7:List Int) (ps:List (Int × List Int)) (h:oz w vd vp Z7 ps) (S L limit:Int) (hwf:(Lit.int .i64 limit).wf=true) (hT:U1 w) (h0:0<w.heap.size) :
    Calls Tryz.prog 3 #[.agg #[vd,vp],.agg #[.int .i64 S,.int .i64 L],.int .i64 limit] w (Ze w (.bool true)):=by
 obtain ⟨hr,hp,hb1,hb2⟩:=h;obtain ⟨ao,ca,rfl,_,_⟩:=hr.len;obtain ⟨bo,cb,rfl,_,_⟩:=hp.len;have hlim:-9223372036854775808≤limit∧limit≤9223372036854775807:=by
  unfold Lit.wf at hwf
  simp only [Yg,Zg] at hwf
  exact hwf
 have Xe:=Z8 (vG hb1 (fun i hi=>(hb2 i hi).1));have HR:=Z8 hr;have HP:=Z8 hp;have bA:ZX w ((w.alloc (.cells #[.slice ao Z7.length ca,.slice bo ps.length cb] 25)).alloc (.cells #[.int .i64 S,.int .i64 L] 27)):=(ZR.alloc ZW _).alloc (by simp) _;have F0:Hid (vF w ao bo Z7.length ca ps.length cb S L ((w.alloc (.cells #[.slice ao Z7.length ca,.slice bo ps.length cb] 25)).alloc (.cells #[.int .i64 S,.int .i64 L] 27))):=by
  refine ⟨XM.mk bA ((YK.new _ _ _ _).below (ZR.alloc ZW _)) ?_,hT.below h0 bA,by simp⟩;have:=YK.new (w.alloc (.cells #[.slice ao Z7.length ca,.slice bo ps.length cb] 25)) (.int .i64 S) (.int .i64 L) 27;show YK _ _ _ _
  simpa using this
 go_enter Tryz.func3,Tryz.ntmps3
 go_wp2_with fail
 generalize (w.alloc _).alloc _=w0 at *;refine (FV _ _ _ Z7 ps (HR.out.below F0.out.f.1.out.1) (HP.out.below F0.out.f.1.out.1)).mono ?_;rintro e w1 ⟨q,rfl,hsz,b1⟩;have F1:=Z8 (F0.out.below b1)
 by_cases hneg:q<0
 · clear hsz
   go_wp2;go_ret;exact ⟨rfl,F1.out.f.1.out.1⟩
 have hsz':q+Z7.length+ps.length+tot ps=1048576:=by omega
 have hdl:Z7.length≤1048576:=by omega
 have hn:ps.length≤1048576:=by omega
 have ht:tot ps≤1048576:=by omega
 have Xd:Hid (∀i,(pD ps i).length≤1048576):=fun i=>by have:=sy ps i;omega
 have HS:Hid (∀W' v1 v2,Rd .u8 W' v1 Z7→XP W' v2 ps→Calls Tryz.prog 5 #[.agg #[v1,v2],.agg #[.int .i64 S,.int .i64 L],.int .i64 limit] W' (Yn W' (rcv Z7 ps S L limit))):=fun W' v1 v2 h1 h2=>GS W' v1 v2 Z7 ps S L limit h1 h2 hdl hn Xd.out Xe.out
 have HI:Hid (∀W' v1 v2,Rd .u8 W' v1 Z7→XP W' v2 ps→U1 W'→0<W'.heap.size→Calls Tryz.prog 8 #[.agg #[v1,v2],.agg #[.int .i64 S,.int .i64 L],.int .i64 limit] W' (Yn W' (rcv Z7 ps S L limit))):=fun W' v1 v2 h1 h2 h3 h4=>GR W' v1 v2 Z7 ps S L limit h1 h2 hdl hn Xd.out Xe.out h3 h4 hlim
 have hrb:BY (rcv Z7 ps S L limit):=vH hdl
 go_wp2_with fail
 rename_i K6 h6;exact qi h6 F1.out ht HR HP Xd hdl hn hrb HI HS
end Go.Proofs.YtmmmffcbfepghaaGreatDoor
namespace Go.Proofs.YtmmmffcbfepghaaGreatDoor
open Go.ChangeShapes Go.WideShapes Go.ChangeAt Go.RowKit
variable {ps:List (Int × List Int)} {Z7 zs:List Int} {b0 hi len n:Nat} {r:UD} {c u8 v:Value} {W w:World}
theorem knob:ownKnob Tryz.prog.godebug=none:=by kernel_rfl
theorem laidOut:laidOutB Tryz.prog=true:=by kernel_rfl
def yn (P : Program) : Nat := (P.globalNamed "unicode/utf8.first").getD 0
def DX (P : Program) : Nat := (P.globalNamed "unicode/utf8.acceptRanges").getD 0
def BU (P:Program) (os:Os):World :=
 let w0:=World.holding P os ⟨#[],#[],[]⟩
 let put (h:Array Obj) (g:Nat) (cs:Array Value):Array Obj:=h.modify g fun
  | .cells _ t frozen=>.cells cs t frozen
  | o=>o
 let h1:=put w0.heap (yn P) (Go.Pinned.utf8FirstZ.map fun (z:Nat)=>Value.int .u8 (z:Int)).toArray
 let h2:=put h1 (DX P) ((([128,191,160,191,128,159,144,191,128,143]:List Int)++List.replicate 22 0).map fun (z:Int)=>Value.int .u8 z).toArray
 { w0 with heap:=h2 }
theorem ss : Tryz.prog.globalNamed "loop.example/s01594/impl.crcTable" = some 0 := by kernel_rfl
theorem GO:(Tryz.prog.globals[0]?).map (·.type)=some 173:=by kernel_rfl
theorem sq:Tryz.prog.cellsOf 173=16:=by kernel_rfl
theorem cellsE:Tryz.prog.cellsOf 172=1:=by kernel_rfl
def Uy:Array Value:=#[.int .u32 0,.int .u32 274646895,.int .u32 549293790,.int .u32 820201905,.int .u32 1098587580,.int .u32 1361435347,.int .u32 1640403810,.int .u32 1905808397,.int .u32 2197175160,.int .u32 2460548119,.int .u32 2722870694,.int .u32 2987750089,.int .u32 3280807620,.int .u32 3553878443,.int .u32 3811616794,.int .u32 4084100981]
abbrev Fd {H:Type}:DataW H:=.agg [.lit (.int .u32 0),.lit (.int .u32 274646895),.lit (.int .u32 549293790),.lit (.int .u32 820201905),.lit (.int .u32 1098587580),.lit (.int .u32 1361435347),.lit (.int .u32 1640403810),.lit (.int .u32 1905808397),.lit (.int .u32 2197175160),.lit (.int .u32 2460548119),.lit (.int .u32 2722870694),.lit (.int .u32 2987750089),.lit (.int .u32 3280807620),.lit (.int .u32 3553878443),.lit (.int .u32 3811616794),.lit (.int .u32 4084100981)]
theorem PC {H:Type} (enc:TypeId × Value→H) (W:World) (sp:Nat→Bool):DataW.trod enc Tryz.prog W 0 sp true 3 173 Uy.toList=some (Fd,[]):=by kernel_rfl
theorem ym:∀i,i<16→some (Value.int .u32 (([0,274646895,549293790,820201905,1098587580,1361435347,1640403810,1905808397,2197175160,2460548119,2722870694,2987750089,3280807620,3553878443,3811616794,4084100981]:List Int).getD i 0))=some (.int .u32 ((Ps.getD i 0:Nat):Int)):=by
 intro i hi;have:∀i,i<16→([0,274646895,549293790,820201905,1098587580,1361435347,1640403810,1905808397,2197175160,2460548119,2722870694,2987750089,3280807620,3553878443,3811616794,4084100981]:List Int).getD i 0=((Ps.getD i 0:Nat):Int):=by decide +kernel
 rw [this i hi]
def Rs (P:Program) (os:Os):World :=
 let w0:=BU P os
 { w0 with heap:=w0.heap.modify 0 fun
  | .cells _ t frozen=>.cells Uy t frozen
  | o=>o }
theorem BT (os : Os) (args : Array Value) : laidMet Tryz.prog [("unicode/utf8.acceptRanges", Rows.laid_unicode_utf8_acceptRanges), ("loop.example/s01594/impl.crcTable", Rows.laid_loop_example_s01594_impl_crcTable), ("unicode/utf8.first", Rows.laid_unicode_utf8_first)] ((Rs Tryz.prog os).forCall (fun _ _ => 0) ⟨#[], args, []⟩).memory :=
 (LaidIn.of_run (l := [("unicode/utf8.acceptRanges", Rows.laid_unicode_utf8_acceptRanges), ("loop.example/s01594/impl.crcTable", Rows.laid_loop_example_s01594_impl_crcTable), ("unicode/utf8.first", Rows.laid_unicode_utf8_first)]) [DX Tryz.prog, 0, yn Tryz.prog] 8 (by kernel_rfl) (by kernel_rfl) (by kernel_rfl) (by kernel_rfl)).met
theorem oL (h : laidMet Tryz.prog [("unicode/utf8.acceptRanges", Rows.laid_unicode_utf8_acceptRanges), ("loop.example/s01594/impl.crcTable", Rows.laid_loop_example_s01594_impl_crcTable), ("unicode/utf8.first", Rows.laid_unicode_utf8_first)] W) : Lib.TabIs Tryz.prog W "loop.example/s01594/impl.crcTable" .u32 [0, 274646895, 549293790, 820201905, 1098587580, 1361435347, 1640403810, 1905808397, 2197175160, 2460548119, 2722870694, 2987750089, 3280807620, 3553878443, 3811616794, 4084100981] := by
 obtain ⟨ps,⟨_,_,_,_,_,_,_,_,_,_,⟨g',t',cs,fuel,p,q,hg',ht',hvar,hd,_,_⟩,_⟩,_⟩:=h;obtain rfl:=UR (ss.symm.trans hg');obtain rfl:=UR (GO.symm.trans ht');unfold Lib.TabIs;rw [hvar,←Lib.cells_of_tab Tryz.underlying173 Tryz.underlying172 cellsE sq (zs:=[0,274646895,549293790,820201905,1098587580,1361435347,1640403810,1905808397,2197175160,2460548119,2722870694,2987750089,3280807620,3553878443,3811616794,4084100981]) (k:=.u32) hd]
theorem yk:Tryz.prog.cellsOf 27=2:=by kernel_rfl
theorem GN:Tryz.prog.cellsOf 2=1:=by kernel_rfl
theorem array2 {α:Type} {cs:Array α} (h:cs.size=2):∃c0 c1,cs=#[c0,c1]:=by
 obtain ⟨l⟩:=cs
 match l,h with
 | [c0,c1],_=>exact ⟨c0,c1,rfl⟩
section
variable {H:Type} {enc:TypeId × Value→H} {W:World} {base:Nat} {held:Bool}
theorem BR {d:DataW H} {p:List MemPlace} (hv:Value.okWide Tryz.prog W .any b0 27 v) (h:DataW.Trod enc Tryz.prog W base (fun _=>true) held 27 v d p) :
    ∃g b:Int,v=.agg #[.int .i64 g,.int .i64 b]:=by
 obtain ⟨cs,rfl,hsz⟩:=okWide_struct Tryz.underlying27 hv;obtain ⟨c0,c1,rfl⟩:=array2 (hsz.trans yk);obtain ⟨fuel,hf⟩:=h;obtain ⟨xs,n,-,-,hl,hlen,hfs⟩:=DataW.trod_struct Tryz.underlying27 hf
 match xs,hlen with
 | [y0,y1],_ =>
  have h0:DataW.trod enc Tryz.prog W base (fun _=>true) held n 2 [c0]=some y0:=by
   have:=hfs 0 _ rfl
   simpa [GN,Value.cells] using this
  have h1:DataW.trod enc Tryz.prog W base (fun _=>true) held n 2 [c1]=some y1:=by
   have:=hfs 1 _ rfl
   simpa [GN,Value.cells] using this
  obtain ⟨g,e0,-,-⟩:=uB Tryz.underlying2 h0;obtain ⟨b,e1,-,-⟩:=uB Tryz.underlying2 h1
  simp only [List.cons.injEq,and_true] at e0 e1
  subst e0 e1;exact ⟨g,b,rfl⟩
end
theorem UT (b o i:Nat):(⟨b,o,none⟩:Addr).add i=⟨b,o+i,none⟩:=GM ..
theorem qh {k:IntKind} {x:Addr} {cap:Nat} (hl:len≤cap) (hm:cap≤maxLen) (hz:zs.length=cap)
    (hcell:∀i,i<zs.length→w.cell? (x.add i)=some (.int k (zs.getD i 0))):Rd k w (.slice (some x) len cap) (zs.take len):=by
 have hlen:(zs.take len).length=len:=by simp;omega
 refine ⟨some x,cap,by rw [hlen],by rw [hlen];exact hl,hm,?_⟩
 by_cases h0:len=0
 · subst h0;exact .inl rfl
 right
 obtain ⟨b,off,spot⟩:=x;have hc:=hcell 0 (by omega);have hspot:spot=none:=by simpa [Addr.add] using World.cell?_spot hc
 subst hspot;refine ⟨b,off,rfl,?_,fun i hi=>?_⟩
 · have:=A7 w _ hc
   simpa [Addr.add] using this
 rw [hlen] at hi;have:=hcell i (by omega);rw [UT] at this;rw [this]
 simp [List.getD,Sx hi]
theorem sm (h:∀n ∈ zs,(Lit.int .u8 n).wf=true):YL (zs.take len):=by
 intro x hx;have:=h x (Vp hx);have b:=bounds_u8 this;omega
theorem vD:Tryz.prog.cellsOf 25=2:=by kernel_rfl
theorem DW:Tryz.prog.cellsOf 85=2:=by kernel_rfl
section
variable {H:Type} {enc:TypeId × Value→H} {W:World} {base:Nat} {held:Bool}
theorem TV {y:DataW H × List MemPlace} (h:DataW.trod enc Tryz.prog W base (fun _=>true) held n 22 [c]=some y):∃xs,Rd .u8 W c xs∧YL xs:=by
 rcases open_ints Tryz.underlying22 Tryz.underlying5 (by kernel_rfl) h with ⟨hcs,_⟩ | ⟨x,l,cp,zs,hcs,_,hl,hm,hz,_,hcell,hwz⟩
 · simp at hcs
   subst hcs;exact ⟨[],⟨none,0,rfl,ZW,ZQ _,.inl rfl⟩,fun x hx=>by cases hx⟩
 simp at hcs
 subst hcs;exact ⟨zs.take l,qh hl hm (by simpa using hz) hcell,sm hwz⟩
theorem P9 {cs:List Value} {y:DataW H × List MemPlace} (h:DataW.trod enc Tryz.prog W base (fun _=>true) held n 85 cs=some y) :
    ∃(x:Int) (c:Value) (xs:List Int),cs=[.int .i64 x,c]∧Rd .u8 W c xs∧YL xs∧-9223372036854775808≤x∧x≤9223372036854775807:=by
 obtain ⟨y0,y1,m,_,hlen,h0,h1⟩:=trod_struct2 Tryz.underlying85 h;rw [DW] at hlen
 match cs,hlen with
 | [c0,c1],_ =>
  obtain ⟨x,hx,_,hw⟩:=uB Tryz.underlying2 h0;have e0:c0=.int .i64 x:=by
   have e:Tryz.prog.cellsOf 2=1:=by kernel_rfl
   rw [e] at hx
   simpa using hx
  have e1:Tryz.prog.cellsOf 22=1:=by kernel_rfl
  rw [e1] at h1;obtain ⟨xs,r,by'⟩:=TV (c:=c1) (by simpa using h1);have bd:=bounds_i64 hw;exact ⟨x,c1,xs,by rw [e0],r,by',bd.1,bd.2⟩
theorem uE (X:Nat→Int) (D:Nat→List Int) (i:Nat) (h:i<n):pB ((List.range n).map fun i=>(X i,D i)) i=X i:=by unfold pB;simp [List.getD,h]
theorem uD (X:Nat→Int) (D:Nat→List Int) (i:Nat) (h:i<n):pD ((List.range n).map fun i=>(X i,D i)) i=D i:=by unfold pD;simp [List.getD,h]
theorem P8 {y:DataW H × List MemPlace} (h:DataW.trod enc Tryz.prog W base (fun _=>true) held n 23 [c]=some y) :
    ∃ps,XP W c ps∧∀i,i<ps.length→YL (pD ps i)∧-9223372036854775808≤pB ps i∧pB ps i≤9223372036854775807:=by
 rcases Deep.open_slice Tryz.underlying23 h with ⟨hcs,_⟩ | ⟨a,len,cap,m,q,D,Pl,hcs,hb,hl,hm,hme,_,hall⟩
 · simp at hcs
   subst hcs;exact ⟨[],⟨none,0,rfl,ZW,ZQ _,.inl rfl⟩,fun i hi=>absurd hi (Jn _)⟩
 simp at hcs
 subst hcs;rw [DW] at hall
 simp only [Rb] at hme
 subst hme
 by_cases h0:len=0
 · subst h0
   exact ⟨[],⟨some a,m,rfl,ZQ _,hm,.inl rfl⟩,fun i hi=>absurd hi (Jn _)⟩
 have hex:∀i,i<len→∃z:Int × Value × List Int,W.cell? (a.add (i*2))=some (.int .i64 z.1)∧W.cell? ((a.add (i*2)).add 1)=some z.2.1∧Rd .u8 W z.2.1 z.2.2∧YL z.2.2∧-9223372036854775808≤z.1∧z.1≤9223372036854775807:=by
  intro i hi;obtain ⟨cs',hc,ht⟩:=hall i (by omega);obtain ⟨x,c,xs,rfl,r,by',b1,b2⟩:=P9 ht;have hs:=(World.cells?_some hc).2;have c0:W.cell? ((a.add (i*2)).add 0)=some (.int .i64 x):=hs.2 0 (by omega);have c1:W.cell? ((a.add (i*2)).add 1)=some c:=hs.2 1 (by omega);have e:(a.add (i*2)).add 0=a.add (i*2):=by unfold Addr.add;simp
  rw [e] at c0;exact ⟨(x,c,xs),c0,c1,r,by',b1,b2⟩
 obtain ⟨Z,hZ⟩:=Deep.choose_lt (α:=Int × Value × List Int) hex;obtain ⟨b,off,spot⟩:=a;have hspot:spot=none:=by
  have:=World.cell?_spot (hZ 0 (by omega)).1
  simpa [Addr.add] using this
 subst hspot;have hblt:b<W.heap.size:=by
  have:=A7 W _ (hZ 0 (by omega)).1
  simpa [Addr.add] using this
 refine ⟨(List.range len).map fun i=>((Z i).1,(Z i).2.2),⟨some ⟨b,off,none⟩,m,by simp,by simpa using hl,hm,.inr ⟨b,off,rfl,hblt,fun i hi=>?_⟩⟩,fun i hi=>?_⟩
 · have hi':i<len:=by simpa using hi
   obtain ⟨c0,c1,r,_⟩:=hZ i hi';rw [uE _ _ i hi',uD _ _ i hi'];rw [UT] at c0 c1;rw [UT] at c1;obtain ⟨a',c',e',_⟩:=r.len;refine ⟨c0,a',c',?_,?_⟩
   · rw [←e'];exact c1
   rw [←e'];exact r
 have hi':i<len:=by simpa using hi
 rw [uE _ _ i hi',uD _ _ i hi'];obtain ⟨_,_,_,by',b1,b2⟩:=hZ i hi';exact ⟨by',b1,b2⟩
theorem BM {d:DataW H} {p:List MemPlace} (hv:Value.okWide Tryz.prog W .any b0 25 v) (h:DataW.Trod enc Tryz.prog W base (fun _=>true) held 25 v d p) :
    ∃vd vp Z7 ps,v=.agg #[vd,vp]∧oz W vd vp Z7 ps:=by
 obtain ⟨c0,c1,y0,y1,m,rfl,_,_,h0,h1⟩:=Go.Joins.open_agg2 Tryz.underlying25 (by kernel_rfl) vD hv h;obtain ⟨Z7,r,by'⟩:=TV h0;obtain ⟨ps,rp,hps⟩:=P8 h1;exact ⟨c0,c1,Z7,ps,rfl,r,rp,by',hps⟩
end
end Go.Proofs.YtmmmffcbfepghaaGreatDoor


