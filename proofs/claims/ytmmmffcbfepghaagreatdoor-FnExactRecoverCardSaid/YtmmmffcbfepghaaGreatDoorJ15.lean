import Derived.Test.YtmmmffcbfepghaaGreatDoorJ13
import Derived.Test.YtmmmffcbfepghaaGreatDoorJ14
set_option maxRecDepth 100000
set_option maxHeartbeats 16000000
set_option linter.unusedVariables false
set_option linter.unusedSimpArgs false
namespace Go.Proofs.YtmmmffcbfepghaaGreatDoor
open Go.RowKit Go.Shelf
variable {S code:Int} {log:List Int} {NB OB lo tc:Nat} {ta:Option Addr} {x:YU} {t0 t1 t10 t100 t101 t102 t103 t104 t105 t106 t107 t108 t109 t110 t111 t112 t113 t114 t115 t116 t117 t118 t119 t120 t121 t122 t123 t124 t125 t126 t127 t128 t129 t13 t130 t131 t132 t133 t134 t135 t136 t137 t138 t139 t14 t140 t141 t142 t143 t144 t145 t146 t147 t148 t149 t150 t151 t152 t153 t154 t155 t156 t157 t158 t159 t16 t160 t161 t162 t163 t164 t165 t166 t167 t168 t169 t17 t170 t171 t172 t173 t174 t175 t176 t177 t178 t179 t18 t180 t181 t182 t183 t184 t185 t186 t187 t188 t189 t19 t190 t191 t192 t193 t194 t195 t196 t197 t198 t199 t20 t200 t201 t202 t203 t204 t205 t206 t207 t208 t209 t21 t210 t211 t212 t213 t214 t215 t216 t217 t218 t219 t22 t220 t221 t222 t223 t224 t225 t226 t227 t228 t229 t23 t230 t231 t232 t233 t234 t235 t236 t237 t238 t239 t24 t240 t241 t242 t243 CN CM CK CJ CI CH t25 CG CF CE CD CC CB CA Cz Cy Cx t26 Cw Cv Cu Ct Cs Cr Cq Cp Co Cn t27 Cm Cl Ck Cj t28 t29 t30 t31 t32 t33 t34 t35 t36 t37 t38 t39 t40 t41 t42 t43 t44 t45 t46 t47 t48 t49 t5 t50 t51 t52 t53 t54 t55 t56 t57 t58 t59 t60 t61 t62 t63 t64 t65 t66 t67 t68 t69 t7 t70 t71 t72 t73 t74 t75 t76 t77 t78 t79 t8 t80 t81 t82 t83 t84 t85 t86 t87 t88 t89 t90 t91 t92 t93 t94 t95 t96 t97 t98 t99:Value} {W w:World}
theorem Nu {L zx en ops:Int} {ns:List Nd} {Ru va vb:Value} {D:List Int} {Q:List (Int × List Int)} {t2 t4 t9 t12 t15:Value}
    (hM:Md w S L NB OB lo x [.int .i64 code,.int .i64 x.g,.int .i64 x.b,.int .i64 x.s,.int .i64 x.l,.int .i64 x.c,.int .i64 zx,.slice ta ns.length tc,.int .i64 en,.int .i64 ops,.slice none 0 0,.slice none 0 0] (.slice ta ns.length tc) ns Ru log va vb D Q W) (hlo:OB<lo) (hD:D.length≤1048576) (hQ:Q.length≤1048576) (XV:∀i,(pD Q i).length≤1048576) :
    (Zd 46 60 (Yh Tryz.f5)).wp Tryz.prog (bodyPost Tryz.prog Tryz.f5 (Yn w ⟨code,x,zx,ns,en,ops,D,Q⟩)) { tmps:=#[t0,t1,t2,.pointer (some ⟨w.heap.size,0,none⟩),t4,t5,.pointer (some ⟨w.heap.size+1+1,0,none⟩),t7,t8,t9,t10,.pointer (some ⟨OB,0,none⟩),t12,t13,t14,t15,t16,t17,t18,t19,t20,t21,t22,t23,t24,t25,t26,t27,t28,t29,t30,t31,t32,t33,t34,t35,t36,t37,t38,t39,t40,t41,t42,t43,t44,t45,t46,t47,t48,t49,t50,t51,t52,t53,t54,t55,t56,t57,t58,t59,t60,t61,t62,t63,t64,t65,t66,t67,t68,t69,t70,t71,t72,t73,t74,t75,t76,t77,t78,t79,t80,t81,t82,t83,t84,t85,t86,t87,t88,t89,t90,t91,t92,t93,t94,t95,t96,t97,t98,t99,t100,t101,t102,t103,t104,t105,t106,t107,t108,t109,t110,t111,t112,t113,t114,t115,t116,t117,t118,t119,t120,t121,t122,t123,t124,t125,t126,t127,t128,t129,t130,t131,t132,t133,t134,t135,t136,t137,t138,t139,t140,t141,t142,t143,t144,t145,t146,t147,t148,t149,t150,t151,t152,t153,t154,t155,t156,t157,t158,t159,t160,t161,t162,t163,t164,t165,t166,t167,t168,t169,t170,t171,t172,t173,t174,t175,t176,t177,t178,t179,t180,t181,t182,t183,t184,t185,t186,t187,t188,t189,t190,t191,t192,t193,t194,t195,t196,t197,t198,t199,t200,t201,t202,t203,t204,t205,t206,t207,t208,t209,t210,t211,t212,t213,t214,t215,t216,t217,t218,t219,t220,t221,t222,t223,t224,t225,t226,t227,t228,t229,t230,t231,t232,t233,t234,t235,t236,t237,t238,t239,t240,t241,t242,t243,CN,CM,CK,CJ,CI,CH,CG,CF,CE,CD,CC,CB,CA,Cz,Cy,Cx,Cw,Cv,Cu,Ct,Cs,Cr,Cq,Cp,Co,Cn,Cm,Cl,Ck,Cj],defers:=[] } W:=by
 obtain ⟨r1,-,r3,r4⟩:=hM.rows W (Kp.refl _ _ _);obtain ⟨a1,c1,rfl,-⟩:=r3.len;obtain ⟨a2,c2,hb2,-⟩:=id r4;subst hb2;have HC:=Z8 (VV W _ _ D.length c1 Q.length c2 D Q r3 rfl r4 rfl hQ hD XV);have M0:=Z8 hM;have hnb:=hM.nb;have KN:=hM.ob;have sM:=hM.o.lt;have p0:=hM.d.cl 0 _ rfl;have p1:=hM.d.cl 1 _ rfl;generalize ZB:bodyPost Tryz.prog Tryz.f5 (Yn w ⟨code,x,zx,ns,en,ops,D,Q⟩)=QQ;have Zy:=Z8 ZB
 simp only [Yh,Tryz.f5,Zd,Nat.reduceBEq]
 go_wp2_with fail
 refine HC.out.mono ?_;rintro e w1 ⟨y1,y2,dv,rfl,o1,b1⟩;obtain ⟨u1,e1,rfl⟩:=o1.d.slice;obtain ⟨u2,e2,rfl⟩:=o1.p.slice;have M1:=M0.out.below b1;have M2:Hid (Md w S L NB OB lo x [.int .i64 code,.int .i64 x.g,.int .i64 x.b,.int .i64 x.s,.int .i64 x.l,.int .i64 x.c,.int .i64 zx,.slice ta ns.length tc,.int .i64 en,.int .i64 ops,.slice u1 D.length e1,.slice u2 Q.length e2] (.slice ta ns.length tc) ns (Ru) log (.slice a1 D.length c1) (.slice a2 Q.length c2) D Q ((w1.setCell ⟨OB,10,none⟩ (.slice u1 D.length e1)).setCell ⟨OB,11,none⟩ (.slice u2 Q.length e2))):=(M1.Yu 10 (.slice u1 D.length e1)).Yu 11 (.slice u2 Q.length e2);have Y7:=M1.o.cl 10 _ rfl;have pd:=M1.o.cl 11 _ rfl;have g10:=M1.o.fz 10;have g11:=M1.o.fz 11;have k0:=M2.out.o.cl 0 _ rfl;have k1:=M2.out.o.cl 1 _ rfl;have k2:=M2.out.o.cl 2 _ rfl;have k3:=M2.out.o.cl 3 _ rfl;have k4:=M2.out.o.cl 4 _ rfl;have k5:=M2.out.o.cl 5 _ rfl;have k6:=M2.out.o.cl 6 _ rfl;have k7:=M2.out.o.cl 7 _ rfl;have k8:=M2.out.o.cl 8 _ rfl;have k9:=M2.out.o.cl 9 _ rfl;have k10:=M2.out.o.cl 10 _ rfl;have k11:=M2.out.o.cl 11 _ rfl;have X2:=M2.out.rx;have Zx:=(M2.out.rows _ (Kp.refl _ _ _)).1;have Zw:Kp w.heap.size OB w1 ((w1.setCell ⟨OB,10,none⟩ (.slice u1 D.length e1)).setCell ⟨OB,11,none⟩ (.slice u2 Q.length e2)):=(Kp.yF _ _ _ _ _).trans (Kp.yF _ _ _ _ _);have Zv:=(Zw.qy o1 (by omega) sM).mono (lo':=w.heap.size+3) (hi':=((w1.setCell ⟨OB,10,none⟩ (.slice u1 D.length e1)).setCell ⟨OB,11,none⟩ (.slice u2 Q.length e2)).heap.size) (by omega) (by simp);have FIN:Hid (Yn w ⟨code,x,zx,ns,en,ops,D,Q⟩ (.returned (.agg (Wg ⟨code,x,zx,ns,en,ops,D,Q⟩ (.slice ta ns.length tc) (.slice u1 D.length e1) (.slice u2 Q.length e2)))) (Xt ((w1.setCell ⟨OB,10,none⟩ (.slice u1 D.length e1)).setCell ⟨OB,11,none⟩ (.slice u2 Q.length e2)) (w.heap.size+1+1) ⟨code,x,zx,ns,en,ops,D,Q⟩ (.slice ta ns.length tc) (.slice u1 D.length e1) (.slice u2 Q.length e2))):=Uh M2.out.YJ (by omega) (by omega) (Zx.mono (by omega)) Zv;obtain ⟨c0,c1',c2',c3,c4,c5,c6,c7,c8,c9,c10,c11⟩:=X2.cells;dsimp only [Zq] at c0 c1' c2' c3 c4 c5 c6 c7 c8 c9 c10 c11;have fz:=X2.frozen;have f0:=fz 0;have f1:=fz 1;have f2:=fz 2;have f3:=fz 3;have f4:=fz 4;have f5:=fz 5;have f6:=fz 6;have f7:=fz 7;have f8:=fz 8;have f9:=fz 9;have f10:=fz 10;have f11:=fz 11;obtain ⟨q0,q1,q2,q3,q4,q5,q6,q7,q8,q9,He,Hd⟩:=Xl (r:=⟨code,x,zx,ns,en,ops,D,Q⟩) (vt:=.slice ta ns.length tc) (v1:=.slice u1 D.length e1) (v2:=.slice u2 Q.length e2) X2;unfold Xt Wg at FIN;unfold Xt at q0 q1 q2 q3 q4 q5 q6 q7 q8 q9 He Hd;dsimp only at FIN q0 q1 q2 q3 q4 q5 q6 q7 q8 q9 He Hd;go_wp2;generalize (((((((((((((w1.setCell _ _).setCell _ _).setCell _ _).setCell _ _).setCell _ _).setCell _ _).setCell _ _).setCell _ _).setCell _ _).setCell _ _).setCell _ _).setCell _ _).setCell _ _).setCell _ _=wE at *;rw [←Zy.out];exact ZT (v:=.agg #[.int .i64 code,.int .i64 x.g,.int .i64 x.b,.int .i64 x.s,.int .i64 x.l,.int .i64 x.c,.int .i64 zx,.slice ta ns.length tc,.int .i64 en,.int .i64 ops,.slice u1 D.length e1,.slice u2 Q.length e2]) (by simp [results,Tryz.results5,go_sem,q0,q1,q2,q3,q4,q5,q6,q7,q8,q9,He,Hd]) rfl FIN.out
def qw:Value→Nat
 | .slice _ n _=>n
 | _=>0
theorem Ci (w:World) (v:Value) (xs:List Int) (N:Nat) (h:Rd .u8 w v xs) (hx:xs.length≤N) (hN:N≤1048576) :
    Calls Tryz.prog 22 #[v,.int .i64 (N:Int)] w fun e w'=>∃v',e=.returned v'∧Own .u8 5 w' w.heap.size v' (xs++zeros (N - xs.length))∧ZX w w':=by
 obtain ⟨i0,hi,hz0,hz1,hz2⟩:=YH Tryz.Vv;obtain ⟨va,ca,rfl,-⟩:=h.len;have HR:=Z8 h;clear h;generalize hm:xs.length=m at *;have HM:=Z8 hm;clear hm
 go_enter Tryz.func22,Tryz.ntmps22
 go_wp2_with fail
 refine (Wq _ _ xs HR.out (by rw [HM.out];omega)).mono ?_;rintro e w1 ⟨v1,rfl,o1,b1⟩;have O1:Hid (Own .u8 5 w1 w.heap.size v1 (xs++zeros 0)):=by show Own _ _ _ _ _ _;unfold zeros;simpa using o1
 have B1:=Z8 b1;clear o1 b1;go_wp2
 go_loopw [5] (fun u wr=>∃k a c,m+k≤N∧u=.slice a (m+k) c∧Hid (Own .u8 5 wr w.heap.size (.slice a (m+k) c) (xs++zeros k))∧Hid (ZX w wr)) (fun u _=>N - qw u)
 case atStart =>
  have ho:=O1.out;obtain ⟨a,c,hv⟩:=Own.slice ho;rw [YE,Qo,HM.out] at hv;subst hv;exact ⟨0,a,c,by omega,rfl,ho,B1.out⟩
 case round =>
  clear O1 B1;obtain ⟨k,a,c,hk,rfl,HO,HB⟩:=hrel
  by_cases hlt:m+k<N
  · have YN:((m+k:Nat):Int)<(N:Int):=by omega
    have Z':(m:Int)+(k:Int)<(N:Int):=by omega
    have HW:Hid ((wr.alloc (.cells #[.int .u8 0] 5)).ownsRow w.heap.size 5 1 (.slice a (m+k) c) (m+k) ((xs++zeros k).map (Value.int .u8))):=by
     have:=HO.out;unfold Own at this;rw [YE,Qo,HM.out] at this;exact Ud this _
    have sB:=HB.out.size
    go_wp2_with (at_builtin;go_must (refine XS _ rfl _ _ 22 rfl w.heap.size 5 i0 (.int .u8 0) 1 1 Tryz.underlying22 hi hz0 hz1 hz2 rfl (by decide) _ _ _ rfl HW.out ⟨wr.heap.size,0,none⟩ 1 1 [.int .u8 0] rfl rfl (Vy _ _ _) (by intro u hu;simp at hu;subst hu;rfl) ?c3 ?c4 ?c5 ?_))
    case c3=>unfold maxLen;omega
    case c4=>omega
    case c5=>simp;omega
    intro v2 w2 ho2 hg2 _;obtain ⟨a2,c2,rfl⟩:∃a2 c2,v2=.slice a2 (m+k+1) c2:=by
     rcases ho2.2 with ⟨-,h⟩ | ⟨g,gc,cur,rfl,-⟩
     · omega
     exact ⟨_,gc,rfl⟩
    have O2:Hid (Own .u8 5 w2 w.heap.size (.slice a2 (m+(k+1)) c2) (xs++zeros (k+1))):=by
     refine WI (q:=m+k+1) (ys:=(xs++zeros k)++[0]) (by rw [YE,YE,Qo,HM.out];rfl) ?_ ?_
     · unfold zeros;rw [R9,um]
     rw [WX,WX,R9];exact ho2
    have B2:=Z8 ((HB.out.alloc sB _).grown hg2 (by simp;omega) (fun q hq=>(ZO HW.out q hq).1));clear ho2 hg2 HW HO HB;go_wp2;exact ⟨⟨k+1,a2,c2,by omega,rfl,O2,B2⟩,by simp [qw];omega⟩
  have hkn:m+k=N:=by omega
  have YN:¬((m+k:Nat):Int)<(N:Int):=by omega
  have HK:Hid (N - m=k):=by show _=_;omega
  clear hkn;have Z':¬(m:Int)+(k:Int)<(N:Int):=by omega
  go_wp2;go_ret;rw [HK.out];exact ⟨_,rfl,HO.out,HB.out⟩
theorem Mu (w:World) (va vb vx:Option Addr) (dl ca n cb cx:Nat) (Z7 xs:List Int) (ps:List (Int × List Int)) (x:Int) (hd:Rd .u8 w (.slice va dl ca) Z7) (hdl:Z7.length=dl) (hp:XP w (.slice vb n cb) ps) (hl:ps.length=n)
    (hx:Rd .u8 w (.slice vx 64 cx) xs) (hxl:xs.length=64) (hv:XY dl ps=true) (hn:n<2000) (hx0:0≤x) (hx1:x<(dl / 64:Nat)) (hd1:dl≤1048576) (XV:∀i,(pD ps i).length≤1048576) :
    Calls Tryz.prog 25 #[.agg #[.slice va dl ca,.slice vb n cb],.int .i64 x,.slice vx 64 cx] w fun e w'=>∃v1 v2 dv,e=.returned (.agg #[v1,v2])∧Zz w' w.heap.size w'.heap.size v1 v2 Z7 (ps++[(x,xs)]) dv∧ZX w w':=by
 obtain ⟨i0,hi,hz0,hz1,hz2⟩:=YH Tryz.LD;have HD:=Z8 hd;have HP:=Z8 hp;have HX:=Z8 hx;have HL:=Z8 hl;have oZ:=Z8 hxl;have Uo:=Z8 hdl;have Xd:=Z8 XV;have BA:Hid (∀o1 o2,ZX w ((w.alloc o1).alloc o2)):=fun o1 o2=>(ZR.alloc ZW _).alloc (by simp) _
 have HV:=Z8 hv;clear hd hp hx hl hxl hdl XV hv;obtain ⟨qs,Z6⟩:∃qs,qs=ps++[(x,xs)]:=⟨_,rfl⟩;have HQ:Hid (qs.length=n+1∧(∀i,i<n→pB qs i=pB ps i)∧pB qs n=x∧pD qs n=xs∧qs.take n=ps∧qs.take (n+1)=qs):=by
  have hl:=HL.out;subst Z6;subst hl;exact ⟨by simp,fun i hi=>Xc _ _ _ hi,Xa _ _,SR _ _,by simp,We (by simp)⟩
 rw [←Z6];clear Z6
 go_enter Tryz.func25,Tryz.ntmps25
 go_wp2_with fail
 have GI:Hid (Zm ((w.alloc (.cells #[.slice va dl ca,.slice vb n cb] 36)).alloc (.cells #[.slice none 0 0,.slice none 0 0] 36)) w.heap.size (.slice va dl ca) (.slice vb n cb)):=(Zm.new w _ _ _).below (ZR.alloc ZW _);have Ni:Hid (Zm ((w.alloc (.cells #[.slice va dl ca,.slice vb n cb] 36)).alloc (.cells #[.slice none 0 0,.slice none 0 0] 36)) (w.heap.size+1) (.slice none 0 0) (.slice none 0 0)):=by
  have:=Zm.new (w.alloc (.cells #[.slice va dl ca,.slice vb n cb] 36)) (.slice none 0 0) (.slice none 0 0) 36;show Zm _ _ _ _
  simpa using this
 have B0:=BA.out (.cells #[.slice va dl ca,.slice vb n cb] 36) (.cells #[.slice none 0 0,.slice none 0 0] 36);have HB0:=Z8 B0;clear B0 BA;generalize (w.alloc _).alloc _=w0 at *;refine (XG _ va vb dl ca n cb ps (HP.out.below HB0.out) HL.out hd1 (by omega) Xd.out).mono ?_;rintro e w1 ⟨rfl,b1⟩;rw [HV.out];have HB1:=Z8 (Ye HB0.out b1);have Ko:=Z8 (GI.out.below b1);have Nh:=Z8 (Ni.out.below b1);clear b1 GI Ni HB0;obtain ⟨⟨z1,c0,c1⟩,-⟩:=Ko.out;have t1:¬(n:Int)=2000:=by omega
 have Z5:=EY t1;have t2:¬x<0:=by omega
 have rV:decide (x<0)=false:=by simpa using t2
 have Fz:=Z8 hx1;clear hx1
 go_wp2_with fail
 refine (Xm _ va dl ca _ hd1).mono ?_;rintro e w2 ⟨rfl,b2⟩;have HB2:=Z8 (Ye HB1.out b2);have GH:=Z8 (Ko.out.below b2);have GG:=Z8 (Nh.out.below b2);clear b2 Ko Nh HB1 z1 c0 c1 t2 rV;obtain ⟨⟨z1,c0,c1⟩,-⟩:=GH.out;have t3:¬((dl / 64:Nat):Int)≤x:=by have:=Fz.out;omega
 have qU:decide (((dl / 64:Nat):Int)≤x)=false:=by simpa using t3
 clear Fz;generalize ((dl / 64:Nat):Int)=q at *
 go_wp2_with fail
 refine (VV _ va vb dl ca n cb Z7 ps (HD.out.below HB2.out) Uo.out (HP.out.below HB2.out) HL.out (by omega) hd1 Xd.out).mono ?_;rintro e w3 ⟨v1,v2,dv,rfl,o3,b3⟩;obtain ⟨a1,d1,rfl⟩:=o3.d.slice;obtain ⟨a2,d2,rfl⟩:=o3.p.slice;have HB3:=Z8 (Ye HB2.out b3);have qK:=Z8 (GG.out.below b3);have s3:=b3.size;have s2:=HB2.out.size;have zr:=GG.out.1.1;have O3:=Z8 o3;clear b3 o3 GH GG HB2 z1 c0 c1 t3 qU t1 Z5
 go_wp2_with fail
 have CO:Hid (Th (w3.alloc (.cells #[.slice a1 Z7.length d1,.slice a2 ps.length d2] 36)) w2.heap.size w3.heap.size n (.slice a1 Z7.length d1) (.slice a2 ps.length d2) Z7 qs dv):=by
  have B2:ZX w3 (w3.alloc (.cells #[.slice a1 Z7.length d1,.slice a2 ps.length d2] 36)):=ZR.alloc ZW _;have o:=O3.out;refine ⟨Zm.new _ _ _ _,by rw [HQ.out.2.2.2.2.1];exact (o.below B2).mono ZW (by simp),?_,?_,?_⟩
  · intro e;have:=(o.d.lt _ e).2;omega
  · intro e;have:=(ZO o.p.1 _ e).2;omega
  intro i hi e;have:=((o.p.2.1 i (by rw [HL.out];exact hi)).lt _ e).2;omega
 have BO:Hid (ZX w (w3.alloc (.cells #[.slice a1 Z7.length d1,.slice a2 ps.length d2] 36))):=HB3.out.alloc HB3.out.size _;have Zt:Hid (Zm (w3.alloc (.cells #[.slice a1 Z7.length d1,.slice a2 ps.length d2] 36)) (w.heap.size+1) (.slice none 0 0) (.slice none 0 0)):=qK.out.below (ZR.alloc ZW _);have so:(w3.alloc (.cells #[.slice a1 Z7.length d1,.slice a2 ps.length d2] 36)).heap.size=w3.heap.size+1:=by simp
 have HL2:=Z8 HL.out;clear O3 HB3 qK HL HP Xd;generalize w3.alloc _=wr at *;obtain ⟨⟨z4,y0,y1⟩,-,y2⟩:=CO.out.box;have Jw:Hid (Calls Tryz.prog 53 #[.slice vx 64 cx] wr.drew fun e w'=>∃a c,e=.returned (.slice a xs.length c)∧Hid (Own .u8 5 w' wr.heap.size (.slice a xs.length c) xs) ∧
     w'.cell? ⟨w3.heap.size,1,none⟩=some (.slice a2 ps.length d2)∧w'.frozen? ⟨w3.heap.size,1,none⟩=false∧(w'.alloc (.cells #[.int .i64 x,.slice a xs.length c] 91)).cell? ⟨w3.heap.size,1,none⟩=some (.slice a2 ps.length d2)∧Hid (ZX wr w')):=by
  refine (Wq _ _ xs ((HX.out.below BO.out).drewN 1) (by have:=oZ.out;omega)).mono ?_;rintro e w' ⟨v',rfl,o',b'⟩;obtain ⟨a,c,rfl⟩:=o'.slice;have b2:ZX wr w':=(below_drewN' _ 1).trans b';have k4:=(b2.cell (p:=⟨w3.heap.size,1,none⟩) z4).trans y1;exact ⟨a,c,rfl,o',k4,(b2.frozen (p:=⟨w3.heap.size,1,none⟩) z4).trans y2,(World.cell?_alloc_some _ _ _ (by rw [k4];rfl)).trans k4,b2⟩
 have HOW:Hid (∀W' ob,ZX wr W'→(W'.alloc ob).ownsRow w2.heap.size 91 2 (.slice a2 ps.length d2) n (Yt n (pB qs) dv)):=by
  intro W' ob hW';have h0:=CO.out.own.p.1;rw [HQ.out.2.2.2.2.1,HL2.out,show Yt n (pB ps) dv=Yt n (pB qs) dv from WS (fun i hi=>(HQ.out.2.1 i hi).symm) (fun _ _=>rfl)] at h0;rw [HL2.out];refine Ud (Yy h0 (row:=none) ⟨hW'.os,hW'.tape,hW'.output,hW'.size,fun q hq _=>hW'.block q hq⟩ ?_) ob
  cases Value.ownBlock (.slice a2 n d2) with
  | none=>exact .inl rfl
  | some q=>exact .inr (by simp)
 have ZU:Hid (∀W' W4 ob,ZX wr W'→(World.alloc W' ob).grownBy W4 (Value.ownBlock (.slice a2 ps.length d2))→W4.cell? ⟨w3.heap.size,1,none⟩=some (.slice a2 ps.length d2)∧W4.frozen? ⟨w3.heap.size,1,none⟩=false):=by
  intro W' W4 ob hW' hG;have hs:=hW'.size;have hp2:w3.heap.size<(World.alloc W' ob).heap.size:=by simp;omega
  have hb2:ZX wr (World.alloc W' ob):=hW'.alloc hs _;exact ⟨(hG.cell_far ⟨w3.heap.size,1,none⟩ hp2 (Ne.symm CO.out.p)).trans ((hb2.cell (p:=⟨w3.heap.size,1,none⟩) z4).trans y1),(hG.frozen_far ⟨w3.heap.size,1,none⟩ hp2 (Ne.symm CO.out.p)).trans ((hb2.frozen (p:=⟨w3.heap.size,1,none⟩) z4).trans y2)⟩
 have OT:Hid (∀(W' W4:World) (ob:Obj) (g cap:Nat) (v:Value),ZX wr W'→Own .u8 5 W' wr.heap.size v xs→W4.ownsRow w2.heap.size 91 2 (.slice (some ⟨g,0,none⟩) (n+1) cap) (n+1) (Yt n (pB qs) dv++[.int .i64 x,v])→(W'.alloc ob).grownBy W4 (Value.ownBlock (.slice a2 ps.length d2))→(Value.ownBlock (.slice a2 ps.length d2)=some g∨g=W'.heap.size+1) →
     Hid (Th (W4.setCell ⟨w3.heap.size,1,none⟩ (.slice (some ⟨g,0,none⟩) (n+1) cap)) w2.heap.size w3.heap.size (n+1) (.slice a1 Z7.length d1) (.slice (some ⟨g,0,none⟩) (n+1) cap) Z7 qs (Zb dv n v))∧Hid (Below w2.heap.size wr (W4.setCell ⟨w3.heap.size,1,none⟩ (.slice (some ⟨g,0,none⟩) (n+1) cap)))):=by
  intro W' W4 ob g cap v hW o4 r4 g4 at4;have hs:w2.heap.size≤wr.heap.size:=by omega
  refine ⟨CO.out.step (by rw [HQ.out.1];omega) hs hW (by rw [HQ.out.2.2.2.1];exact o4) (by rw [HQ.out.2.2.1];exact r4) g4 at4,?_⟩;have:=((hW.mono hs).alloc (ZP hs hW.size) ob).grown g4 (by have:=hW.size;simp;omega) (fun q hq=>(ZO CO.out.own.p.1 q hq).1);exact this.setCell (by show w2.heap.size≤w3.heap.size;exact s3) _
 have Lz:n+1≤maxLen:=by unfold maxLen;omega
 have Ly:(n+1)*32≤140737488355328:=by omega
 have hs2:w2.heap.size≤wr.heap.size:=by omega
 clear y0
 go_region_law (first
     | (refine step_append_lies _ (by rfl) _ _ _ (by rfl) w2.heap.size 91 i0 _ 2 32 Tryz.underlying34 hi hz0 hz1 hz2 rfl (by omega) (.slice a2 ps.length d2) n (Yt n (pB qs) dv) (by rfl) (HOW.out w' _ bw.out) ⟨w'.heap.size,0,none⟩ 1 1 [.int .i64 x,.slice a xs.length c] (by rfl) (by rfl) (Jg _ _ _ _) (by intro u hu;simp at hu;rcases hu with rfl | rfl <;> rfl)
         (by omega) Lz Ly (by have:=bw.out.size;simp;omega) (w'.heap.size+1) (by simp) ?_;intro g4 cap4 w4 ST hg4 UE Qh;obtain ⟨q4,q5⟩:=ZU.out _ _ _ bw.out hg4)
     | (go_simp;go_at_call 53;refine Jw.out.mono ?_;rintro e w' ⟨a,c,rfl,o',k4,k5,k6,bw⟩))
 all_goals
  obtain ⟨C4,G4⟩:=OT.out _ _ _ _ _ _ bw.out o'.out ST hg4 UE;clear ST hg4 UE Qh q4 q5 o' bw k4 k5 k6 ZU HOW Jw OT CO y1 y2;generalize w4.setCell _ _=w5 at *;obtain ⟨⟨z5,y0,y1⟩,-⟩:=C4.out.box;obtain ⟨⟨z6,r0,r1⟩,f0,f1⟩:=Zt.out.ZL G4.out (by omega);have HB:=Z8 (BO.out.trans (G4.out.mono s2));have OD:Hid (Zz w5 w2.heap.size w5.heap.size (.slice a1 Z7.length d1) (.slice (some ⟨g4,0,none⟩) (n+1) cap4) Z7 qs (Zb dv n (.slice a xs.length c))):=by
   have:=C4.out.own;rw [HQ.out.2.2.2.2.2] at this;exact this
  clear C4 G4;go_wp2;refine ZT (v:=.agg #[.slice a1 Z7.length d1,.slice (some ⟨g4,0,none⟩) (n+1) cap4]) (by simp [results,Tryz.results25,go_sem,r0,r1]) rfl ⟨_,_,Zb dv n (.slice a xs.length c),rfl,?_,?_⟩
  · refine Zz.mono (lo:=w2.heap.size) (hi:=w5.heap.size) ?_ s2 (by simp)
    repeat (first | exact OD.out | refine Zz.within (l:=w.heap.size+1) (h:=w.heap.size+2) ?_ (Within.setCell _ ZW (by omega) _ _) (.inr (by omega)))
  repeat (first | exact HB.out | refine Zf ?_ (by simp;try omega) _)
theorem JP (w:World) (va vb vx:Option Addr) (dl ca n cb m cx:Nat) (ps:List (Int × List Int)) (x:Int) (hp:XP w (.slice vb n cb) ps) (hl:ps.length=n)
    (hno:Ql dl ps x m=false) (hn:n≤1048576) (hd1:dl≤1048576) (XV:∀i,(pD ps i).length≤1048576) :
    Calls Tryz.prog 25 #[.agg #[.slice va dl ca,.slice vb n cb],.int .i64 x,.slice vx m cx] w (Ze w (.agg #[.slice none 0 0,.slice none 0 0])):=by
 have HP:=Z8 hp;have HL:=Z8 hl;have Xd:=Z8 XV;have BA:Hid (∀o1 o2,ZX w ((w.alloc o1).alloc o2)):=fun o1 o2=>(ZR.alloc ZW _).alloc (by simp) _
 have Su:=Z8 hno
 go_enter Tryz.func25,Tryz.ntmps25
 go_wp2_with fail
 have GI:Hid (Zm ((w.alloc (.cells #[.slice va dl ca,.slice vb n cb] 36)).alloc (.cells #[.slice none 0 0,.slice none 0 0] 36)) w.heap.size (.slice va dl ca) (.slice vb n cb)):=(Zm.new w _ _ _).below (ZR.alloc ZW _);have Ni:Hid (Zm ((w.alloc (.cells #[.slice va dl ca,.slice vb n cb] 36)).alloc (.cells #[.slice none 0 0,.slice none 0 0] 36)) (w.heap.size+1) (.slice none 0 0) (.slice none 0 0)):=by
  have:=Zm.new (w.alloc (.cells #[.slice va dl ca,.slice vb n cb] 36)) (.slice none 0 0) (.slice none 0 0) 36;show Zm _ _ _ _
  simpa using this
 have B0:=BA.out (.cells #[.slice va dl ca,.slice vb n cb] 36) (.cells #[.slice none 0 0,.slice none 0 0] 36);have HB0:=Z8 B0;generalize (w.alloc _).alloc _=w0 at *;refine (XG _ va vb dl ca n cb ps (HP.out.below HB0.out) HL.out hd1 hn Xd.out).mono ?_;rintro e w1 ⟨rfl,b1⟩;have HB1:=Z8 (Ye HB0.out b1);have Ko:=Z8 (GI.out.below b1);have Nh:=Z8 (Ni.out.below b1);obtain ⟨⟨z1,c0,c1⟩,-⟩:=Ko.out;obtain ⟨⟨zr,d0,d1⟩,f0,f1⟩:=Nh.out
 by_cases hv:XY dl ps=true
 · rw [hv]
   have HV:=Z8 hv;have Zr:n≤2000:=by have:=((Yv dl ps).1 hv).2.2.2.1;have:=HL.out;omega
   by_cases t1:(n:Int)=2000
   · have Z5:=Vn.2 t1
     go_wp2;refine ZT (v:=.agg #[.slice none 0 0,.slice none 0 0]) (by simp [results,Tryz.results25,go_sem,d0,d1]) rfl ⟨rfl,?_⟩
     repeat (first | exact HB1.out | refine Zf ?_ (by simp;try omega) _)
   have Z5:=EY t1;have HT:Hid (n<2000):=by show _<_;omega
   by_cases t2:x<0
   · have rV:decide (x<0)=true:=by simpa using t2
     go_wp2;refine ZT (v:=.agg #[.slice none 0 0,.slice none 0 0]) (by simp [results,Tryz.results25,go_sem,d0,d1]) rfl ⟨rfl,?_⟩
     repeat (first | exact HB1.out | refine Zf ?_ (by simp;try omega) _)
   have rV:decide (x<0)=false:=by simpa using t2
   go_wp2_with fail
   refine (Xm _ va dl ca _ hd1).mono ?_;rintro e w2 ⟨rfl,b2⟩;have HB2:=Z8 (Ye HB1.out b2);have GG:=Z8 (Nh.out.below b2);obtain ⟨⟨zr,d0,d1⟩,f0,f1⟩:=GG.out
   by_cases t3:((dl / 64:Nat):Int)≤x
   · have qU:decide (((dl / 64:Nat):Int)≤x)=true:=by simpa using t3
     generalize ((dl / 64:Nat):Int)=q at *;go_wp2;refine ZT (v:=.agg #[.slice none 0 0,.slice none 0 0]) (by simp [results,Tryz.results25,go_sem,d0,d1]) rfl ⟨rfl,?_⟩
     repeat (first | exact HB2.out | refine Zf ?_ (by simp;try omega) _)
   have Zn:¬m=64:=by
    intro e;have h:Ql dl ps x m=true:=by
     unfold Ql
     simp only [Yg,Zg]
     exact ⟨⟨⟨HV.out,by have:=HL.out;have:=HT.out;omega⟩,by omega,by omega⟩,e⟩
    rw [Su.out] at h
    cases h
   have oI:¬(m:Int)=64:=by omega
   have hmb:=EY oI;have qU:decide (((dl / 64:Nat):Int)≤x)=false:=by simpa using t3
   generalize ((dl / 64:Nat):Int)=q at *;go_wp2;refine ZT (v:=.agg #[.slice none 0 0,.slice none 0 0]) (by simp [results,Tryz.results25,go_sem,d0,d1]) rfl ⟨rfl,?_⟩
   repeat (first | exact HB2.out | refine Zf ?_ (by simp;try omega) _)
 have hv':XY dl ps=false:=by simpa using hv
 rw [hv'];go_wp2;refine ZT (v:=.agg #[.slice none 0 0,.slice none 0 0]) (by simp [results,Tryz.results25,go_sem,d0,d1]) rfl ⟨rfl,?_⟩
 repeat (first | exact HB1.out | refine Zf ?_ (by simp;try omega) _)
theorem Mt (w:World) (v1 v2 v3:Value) (Z7 xs:List Int) (ps:List (Int × List Int)) (x:Int) (hd:Rd .u8 w v1 Z7) (hp:XP w v2 ps) (hx:Rd .u8 w v3 xs) (hdl:Z7.length≤1048576) (hn:ps.length≤1048576) (XV:∀i,(pD ps i).length≤1048576) :
    Calls Tryz.prog 25 #[.agg #[v1,v2],.int .i64 x,v3] w fun e w'=>∃u1 u2 dv,e=.returned (.agg #[u1,u2])∧Zz w' w.heap.size w'.heap.size u1 u2 (zO Z7 ps x xs) (FN Z7 ps x xs) dv∧ZX w w':=by
 obtain ⟨va,ca,rfl,-⟩:=hd.len;obtain ⟨vx,cx,rfl,-⟩:=hx.len;obtain ⟨vb,cb,rfl,-⟩:=id hp;unfold zO FN
 cases h:Ql Z7.length ps x xs.length with
 | true =>
  simp only [Rb]
  unfold Ql at h
  simp only [Yg,Zg] at h
  obtain ⟨⟨⟨h1,h2⟩,h3,h4⟩,h5⟩:=h;rw [h5] at hx ⊢;exact Mu w va vb vx Z7.length ca ps.length cb cx Z7 xs ps x hd rfl hp rfl hx h5 h1 h2 h3 h4 hdl XV
 | false =>
  simp only [Pe,Sm]
  refine (JP w va vb vx Z7.length ca ps.length cb xs.length cx ps x hp rfl h hn hdl XV).mono ?_;rintro e w' ⟨rfl,b⟩;exact ⟨_,_,_,rfl,zP _ _ _,b⟩
theorem Nt {RB lg lc ln ca cb en:Nat} {limit cnt:Int} {ao bo:Option Addr} {r:List Nd × Int × Nat} {Z7:List Int} {ps:List (Int × List Int)} {RES:UD} 
    (hM:Md w S (ln:Int) NB OB lo x [.int .i64 code,.int .i64 x.g,.int .i64 x.b,.int .i64 x.s,.int .i64 x.l,.int .i64 x.c,.int .i64 0,.slice none 0 0,.int .i64 0,.int .i64 0,.slice none 0 0,.slice none 0 0] (.slice ta r.1.length tc) r.1 (.slice (some ⟨lg,0,none⟩) (ln*64) lc) log (.slice ao Z7.length ca) (.slice bo ps.length cb) Z7 ps W) (hR:St W RB [.slice ta r.1.length tc,.int .i64 r.2.1,.int .i64 cnt,.int .i64 (en:Int)]) (Y6:OB<RB) (hlo:RB<lo)
    (hf:WR S (ln:Int) Z7.length ps=true) (hn:ps.length≤1936) (hdl:Z7.length≤1048576) (hxb:0≤x.b∧x.b≤1) (hby:YL log) (hll:log.length=ln*64) (hen:en≤ln*64) (Ms:RES=UC Z7 ps S (ln:Int) limit code x log r (en:Int)) :
    (Zd 29 60 (Yh Tryz.f5)).wp Tryz.prog (bodyPost Tryz.prog Tryz.f5 (Yn w RES)) { tmps:=#[t0,t1,.int .i64 limit,.pointer (some ⟨w.heap.size,0,none⟩),.pointer (some ⟨w.heap.size+1,0,none⟩),t5,.pointer (some ⟨w.heap.size+1+1,0,none⟩),t7,t8,.pointer (some ⟨NB,0,none⟩),t10,.pointer (some ⟨OB,0,none⟩),.slice (some ⟨lg,0,none⟩) (ln*64) lc,t13,t14,.pointer (some ⟨RB,0,none⟩),t16,t17,t18,t19,t20,t21,t22,t23,t24,t25,t26,t27,t28,t29,t30,t31,t32,t33,t34,t35,t36,t37,t38,t39,t40,t41,t42,t43,t44,t45,t46,t47,t48,t49,t50,t51,t52,t53,t54,t55,t56,t57,t58,t59,t60,t61,t62,t63,t64,t65,t66,t67,t68,t69,t70,t71,t72,t73,t74,t75,t76,t77,t78,t79,t80,t81,t82,t83,t84,t85,t86,t87,t88,t89,t90,t91,t92,t93,t94,t95,t96,t97,t98,t99,t100,t101,t102,t103,t104,t105,t106,t107,t108,t109,t110,t111,t112,t113,t114,t115,t116,t117,t118,t119,t120,t121,t122,t123,t124,t125,t126,t127,t128,t129,t130,t131,t132,t133,t134,t135,t136,t137,t138,t139,t140,t141,t142,t143,t144,t145,t146,t147,t148,t149,t150,t151,t152,t153,t154,t155,t156,t157,t158,t159,t160,t161,t162,t163,t164,t165,t166,t167,t168,t169,t170,t171,t172,t173,t174,t175,t176,t177,t178,t179,t180,t181,t182,t183,t184,t185,t186,t187,t188,t189,t190,t191,t192,t193,t194,t195,t196,t197,t198,t199,t200,t201,t202,t203,t204,t205,t206,t207,t208,t209,t210,t211,t212,t213,t214,t215,t216,t217,t218,t219,t220,t221,t222,t223,t224,t225,t226,t227,t228,t229,t230,t231,t232,t233,t234,t235,t236,t237,t238,t239,t240,t241,t242,t243,CN,CM,CK,CJ,CI,CH,CG,CF,CE,CD,CC,CB,CA,Cz,Cy,Cx,Cw,Cv,Cu,Ct,Cs,Cr,Cq,Cp,Co,Cn,Cm,Cl,Ck,Cj],defers:=[] } W:=by
 obtain ⟨hcf,hv,hdz⟩:=(XU S ln Z7.length ps).1 hf;obtain ⟨⟨hS1,hS2⟩,hL1,hL2⟩:=(Zs S ln).1 hcf;have M0:=Z8 hM;have hnb:=hM.nb;have KN:=hM.ob;have oQ:=hR.lt;have p0:=hR.cl 0 _ rfl;have p1:=hR.cl 1 _ rfl;have p3:=hR.cl 3 _ rfl;have o6:=hM.o.cl 6 _ rfl;have o7:=hM.o.cl 7 _ rfl;have o8:=hM.o.cl 8 _ rfl;have g6:=hM.o.fz 6;have g7:=hM.o.fz 7;have g8:=hM.o.fz 8;have hne1:RB≠OB:=by omega
 have hne2:OB≠RB:=by omega
 clear hM hR;have hcap:ln*64≤lc∧lc≤maxLen:=by
  obtain ⟨a9,c9,e9,h1,h2,-⟩:=(M0.out.rows W (Kp.refl _ _ _)).2.1
  simp only [Zc] at e9
  obtain ⟨-,-,rfl⟩:=e9;rw [hll] at h1;exact ⟨h1,h2⟩
 have henc:en≤lc:=by omega
 unfold maxLen at hcap
 conv in (Zd _ _ _)=>simp only [Yh,Tryz.f5,Zd,Nat.reduceBEq]
 go_wp2_with fail
 clear p0 p1 p3 o6 o7 o8 g6 g7 g8;have M1:Hid (Md w S (ln:Int) NB OB lo x [.int .i64 code,.int .i64 x.g,.int .i64 x.b,.int .i64 x.s,.int .i64 x.l,.int .i64 x.c,.int .i64 r.2.1,.slice ta r.1.length tc,.int .i64 (en:Int),.int .i64 0,.slice none 0 0,.slice none 0 0] (.slice ta r.1.length tc) r.1 (.slice (some ⟨lg,0,none⟩) (ln*64) lc) log (.slice ao Z7.length ca) (.slice bo ps.length cb) Z7 ps (((W.setCell ⟨OB,7,none⟩ (.slice ta r.1.length tc)).setCell ⟨OB,6,none⟩ (.int .i64 r.2.1)).setCell ⟨OB,8,none⟩ (.int .i64 (en:Int)))):=((M0.out.Yu 7 (.slice ta r.1.length tc)).Yu 6 (.int .i64 r.2.1)).Yu 8 (.int .i64 (en:Int));clear M0;generalize (((W.setCell _ _).setCell _ _).setCell _ _)=w1 at *;have hrd:=(M1.out.rows w1 (Kp.refl _ _ _)).2.1;refine (Ci w1 _ (log.take en) (ln*64) (Eg hrd en hen) (by rw [YC];omega) (by omega)).mono ?_;clear hrd;rintro e w2 ⟨v2,rfl,o2,b2⟩;have ZN:log.take en++zeros (ln*64 - (log.take en).length)=Zu log en:=by unfold Zu;rw [hll]
 rw [ZN] at o2;have hwl:(Zu log en).length=ln*64:=by rw [SH];exact hll
 obtain ⟨wg,wc,rfl,Zh,Za⟩:=o2.pos hwl (by omega);have hwc:ln*64≤wc∧wc≤maxLen:=by
  obtain ⟨a9,c9,e9,h1,h2,-⟩:=o2.rd
  simp only [Zc] at e9
  obtain ⟨-,-,rfl⟩:=e9;rw [hwl] at h1;exact ⟨h1,h2⟩
 unfold maxLen at hwc;have M2:=Z8 (M1.out.below b2);have sM:=M1.out.o.lt;have t:Hid (∀W',Kp w.heap.size OB w2 W'→Rd .u8 W' (.slice (some ⟨wg,0,none⟩) (ln*64) wc) (Zu log en)):=fun W' k=>Own.rd (vR k o2 (by omega) (by omega))
 clear M1 o2 b2 ZN;go_wp2;obtain ⟨f,hfa⟩:∃f:Nat,YM S (ln:Int) x.b true=(f:Int):=⟨(YM S (ln:Int) x.b true).toNat,by have:=(Pg (b:=0) hf hxb (by rw [XT];omega)).1;omega⟩;obtain ⟨TN,X⟩:∃g:Nat→List (Int × List Int),g=fun n=>WZ (f:Int) log (Zu log en) 0 n:=⟨_,rfl⟩
 have VR:Hid (∀b,b≤ln→XY Z7.length (ps++TN b)=true∧(b<ln→Ql Z7.length (ps++TN b) ((f:Int)+(b:Int)) (blk (Zu log en) b).length=true)):=by
  intro b hb;have h9:=Fp log (Zu log en) hf hn hxb (by rw [hwl,XT]) b (by rw [XT];exact hb);rw [hfa,XT] at h9;rw [X];exact h9
 have Qc:Hid (∀b,TN (b+1)=TN b++(if blk log b=blk (Zu log en) b then [] else [((f:Int)+(b:Int),blk (Zu log en) b)])):=fun b=>by show _=_;rw [X];exact WQ _ _ _ b
 have xm:Hid (∀b,b≤ln→(TN b).length≤b∧(TN ln).take (TN b).length=TN b):=fun b hb=>by rw [X];exact ⟨Ui _ _ _ _ _,yH _ _ _ _ _ hb⟩
 have Zp:Hid (∀b,b<ln→blk log b≠blk (Zu log en) b→(TN b).length<(TN ln).length):=fun b hb hd=>by rw [X];exact yG _ _ _ _ _ hb hd
 have r9:Hid (RES=if (TN ln).length=0 then ⟨code,x,r.2.1,r.1,(en:Int),0,Z7,ps⟩ else if 0≤limit∧limit≤((TN ln).length:Int) then { Zq 2 with ops:=limit,Z7:=Z7,ps:=ps++(TN ln).take limit.toNat } else ⟨code,x,r.2.1,r.1,(en:Int),((TN ln).length:Int)+1,ZC Z7 (ps++TN ln),[]⟩):=by
  show _=_;rw [Ms];unfold UC;rw [hfa,XT,XT,X]
 have ZK:Hid (TN 0=[]):=by show _=_;rw [X];rfl
 have qv:=Z8 hfa;have F:=(Pg (b:=0) hf hxb (by rw [XT];omega)).2.1;rw [hfa] at F;clear X Ms hf hfa;rename_i Y5 h46;have ZJ:Hid _:=h46;clear h46
 go_loopw [18,19] (fun vw vb wr=>∃(bb ops:Nat) (va Z:Value) (D:List Int) (Q:List (Int × List Int)),vb=.int .i64 (bb:Int)∧vw=.bool (decide (0<ops))∧Hid (Md w S (ln:Int) NB OB lo x [.int .i64 code,.int .i64 x.g,.int .i64 x.b,.int .i64 x.s,.int .i64 x.l,.int .i64 x.c,.int .i64 r.2.1,.slice ta r.1.length tc,.int .i64 (en:Int),.int .i64 (ops:Int),.slice none 0 0,.slice none 0 0] (.slice ta r.1.length tc) r.1 (.slice (some ⟨lg,0,none⟩) (ln*64) lc) log (va) (Z) D Q wr)∧Hid (∀W',Kp w.heap.size OB wr W'→Rd .u8 W' (.slice (some ⟨wg,0,none⟩) (ln*64) wc) (Zu log en))∧Hid (ou Z7 ps limit TN ln bb ops D Q)) (fun _ vb _=>ln+2 - (intOf vb).toNat)
 case atStart=>exact ⟨0,0,_,_,Z7,ps,rfl,by simp,M2,t,.inl ⟨ZQ _,rfl,by rw [ZK.out,Sz],by rw [ZK.out];rfl,fun h=>by omega⟩⟩
 case round =>
  clear M2 t;obtain ⟨bb,ops,va,Z,D,Q,rfl,rfl,j,t,ZH⟩:=hrel;have cL:=j.out.c.cl 1 _ rfl
  rcases ZH.out with ⟨V,rfl,E,hops,hlm⟩ | ⟨rfl,hpos,rfl,rfl,rfl,hlm⟩
  · clear ZH
    have Y:=Z8 hops;clear hops;have P:=Z8 E;have J:Hid (∀i,(pD Q i).length≤1048576):=by rw [E];exact uI (VR.out bb V).1
    have Y4:Q.length≤2000:=by rw [E,YE];have:=(xm.out bb V).1;omega
    clear E;have Y':(bb:Int)≤(ln:Int):=by omega
    by_cases hbl:bb<ln
    · have YN:(bb:Int)<(ln:Int):=by omega
      have Y9:((bb:Int) == (ln:Int))=false:=by rw [Xz];omega
      have hbb:(bb+1)*64≤ln*64:=by omega
      have E1:Hid (((bb:Int)*64).toNat=bb*64):=by show _=_;omega
      have E2:Hid ((((bb:Int)+1)*64).toNat=(bb+1)*64):=by show _=_;omega
      have qu:Hid (Calls Tryz.prog 23 #[.slice (some ⟨lg,bb*64,none⟩) ((bb+1)*64 - bb*64) (lc - bb*64),.slice (some ⟨wg,bb*64,none⟩) ((bb+1)*64 - bb*64) (wc - bb*64)] wr.drew fun e w'=>e=.returned (.bool (decide (blk log bb=blk (Zu log en) bb)))∧w'=wr.drew):=by
       have k9:Kp w.heap.size OB wr wr.drew:=Kp.below _ _ (below_drewN' wr 1);exact UW _ _ _ _ _ (JQ (j.out.rows _ k9).2.1 hbb) (JQ (t.out _ k9) hbb) (fun y hy=>hby y (Wf (Vp hy))) (fun y hy=>CS hby en y (Wf (Vp hy)))
      go_wp2_with fail
      refine ZF (S:=fun W=>W.cell? ⟨w.heap.size+1,1,none⟩=some (.int .i64 (ln:Int))) (by kernel_rfl) cL (fun Z9=>?_)
      iterate 2 (refine ZV ?_ (by kernel_rfl) (fun _=>id) Z9 ?_ ?_;rotate_left;· intro w9 Z4;clear Z4;go_simp;try with_reducible rfl)
      refine ZV ?_ (by kernel_rfl) (fun _=>id) Z9 ?_ ?_
      rotate_left
      · intro w9 Z4;have Zo:=Z4;go_simp;try with_reducible rfl
      iterate 4 (refine ZV ?_ (by kernel_rfl) (fun _=>id) Z9 ?_ ?_;rotate_left;· intro w9 Z4;clear Z4;go_simp;try with_reducible rfl)
      refine ZV (.int .i64 ((bb*64:Nat):Int)) (by kernel_rfl) (fun _=>id) Z9 (fun w9 Z4=>by (clear Z4;go_simp;first | (rw [Xf] <;> omega) | (congr 2 <;> omega))) ?_;refine ZV ?_ (by kernel_rfl) (fun _=>id) Z9 ?_ ?_
      rotate_left
      · intro w9 Z4;clear Z4;go_simp;try with_reducible rfl
      refine ZV (.int .i64 ((bb+1:Nat):Int)) (by kernel_rfl) (fun _=>id) Z9 (fun w9 Z4=>by (clear Z4;go_simp;first | (rw [Xf] <;> omega) | (congr 2 <;> omega))) ?_;refine ZV (.int .i64 (((bb+1)*64:Nat):Int)) (by kernel_rfl) (fun _=>id) Z9 (fun w9 Z4=>by (clear Z4;go_simp;first | (rw [Xf] <;> omega) | (congr 2 <;> omega))) ?_;refine ZV (.slice (some ⟨lg,bb*64,none⟩) ((bb+1)*64 - bb*64) (lc - bb*64)) (by kernel_rfl) (fun _=>id) Z9 (fun w9 Z4=>by (clear Z4;go_simp;rw [ZY ⟨by omega,by omega⟩,ZY ⟨by omega,by omega⟩,Z3 (by omega),E1.out,E2.out])) ?_
      iterate 2 (refine ZV ?_ (by kernel_rfl) (fun _=>id) Z9 ?_ ?_;rotate_left;· intro w9 Z4;clear Z4;go_simp;try with_reducible rfl)
      refine ZV (.int .i64 ((bb*64:Nat):Int)) (by kernel_rfl) (fun _=>id) Z9 (fun w9 Z4=>by (clear Z4;go_simp;first | (rw [Xf] <;> omega) | (congr 2 <;> omega))) ?_;refine ZV ?_ (by kernel_rfl) (fun _=>id) Z9 ?_ ?_
      rotate_left
      · intro w9 Z4;clear Z4;go_simp;try with_reducible rfl
      refine ZV (.int .i64 ((bb+1:Nat):Int)) (by kernel_rfl) (fun _=>id) Z9 (fun w9 Z4=>by (clear Z4;go_simp;first | (rw [Xf] <;> omega) | (congr 2 <;> omega))) ?_;refine ZV (.int .i64 (((bb+1)*64:Nat):Int)) (by kernel_rfl) (fun _=>id) Z9 (fun w9 Z4=>by (clear Z4;go_simp;first | (rw [Xf] <;> omega) | (congr 2 <;> omega))) ?_;refine ZV (.slice (some ⟨wg,bb*64,none⟩) ((bb+1)*64 - bb*64) (wc - bb*64)) (by kernel_rfl) (fun _=>id) Z9 (fun w9 Z4=>by (clear Z4;go_simp;rw [ZY ⟨by omega,by omega⟩,ZY ⟨by omega,by omega⟩,Z3 (by omega),E1.out,E2.out])) ?_;refine ZS 19 rfl (by kernel_rfl) (fun K hK=>?_);go_simp;refine qu.out.mono ?_;rintro e w5 ⟨rfl,PY⟩;subst PY;refine hK.out _ _ Z9 (fun ZI=>?_);clear hK K ZI;refine ZV ?_ (by kernel_rfl) (fun _=>id) Z9 ?_ ?_
      rotate_left
      · intro w9 Z4;clear Z4;go_simp;try with_reducible rfl
      refine ZM (by kernel_rfl) ?_ _
      try simp only [Act.put,Zk,Zj,Zi]
      clear Z9;have M5:Hid (Md w S (ln:Int) NB OB lo x [.int .i64 code,.int .i64 x.g,.int .i64 x.b,.int .i64 x.s,.int .i64 x.l,.int .i64 x.c,.int .i64 r.2.1,.slice ta r.1.length tc,.int .i64 (en:Int),.int .i64 (ops:Int),.slice none 0 0,.slice none 0 0] (.slice ta r.1.length tc) r.1 (.slice (some ⟨lg,0,none⟩) (ln*64) lc) log (va) (Z) Z7 Q wr.drew):=j.out.below (below_drewN' wr 1);have U:Hid (∀W',Kp w.heap.size OB wr.drew W'→Rd .u8 W' (.slice (some ⟨wg,0,none⟩) (ln*64) wc) (Zu log en)):=fun W' k=>t.out W' ((Kp.below _ _ (below_drewN' wr 1)).trans k)
      clear j t cL;generalize wr.drew=w5 at *;have cL:=M5.out.c.cl 1 _ rfl;clear qu
      by_cases hsm:blk log bb=blk (Zu log en) bb
      · rw [YS hsm]
        go_wp2
        go_roundw
        case rel=>exact ⟨bb+1,ops,va,Z,Z7,_,by go_num,rfl,M5,U,.inl ⟨by omega,rfl,by rw [Qc.out,ZY hsm,Sz];exact P.out,by rw [Qc.out,ZY hsm,Sz];exact Y.out,hlm⟩⟩
        case measure=>simp [intOf];omega
      rw [Zl hsm];have hmr:=Zp.out bb hbl hsm;have A:=Y.out
      by_cases hst:0≤limit∧(ops:Int)=limit
      · have z:0<(TN ln).length:=by omega
        have ZG:limit≤((TN ln).length:Int):=by omega
        clear A;have I:((ops:Int) == limit)=true:=by rw [Vn];exact hst.2
        have hge:=hst.1;have xQ:RES=({ Zq 2 with ops:=limit,Z7:=Z7,ps:=Q }:UD):=by
         have h9:=(xm.out bb V).2;have h8:=Y.out;rw [r9.out,Z3 (by omega),ZY ⟨hge,by omega⟩,show limit.toNat=(TN bb).length by omega,h9,←P.out]
        obtain ⟨r3,r4⟩:=(M5.out.rows _ (Kp.refl _ _ _)).2.2;obtain ⟨a1,c1,rfl,-⟩:=r3.len;obtain ⟨a2,c2,hb2,-⟩:=id r4;subst hb2;have HC:=Z8 (VV w5 _ _ Z7.length c1 Q.length c2 Z7 Q r3 rfl r4 rfl (by omega) hdl J.out);have o9:=M5.out.o.cl 9 _ rfl;have d0:=M5.out.d.cl 0 _ rfl;have d1:=M5.out.d.cl 1 _ rfl;clear r3 r4
        go_wp2_with fail
        clear o9 d0 d1;refine HC.out.mono ?_;rintro e w6 ⟨y1,y2,dv,rfl,o6,b6⟩;obtain ⟨u1,e1,rfl⟩:=o6.d.slice;obtain ⟨u2,e2,rfl⟩:=o6.p.slice;have X6:=M5.out.rx.below b6;have Z2:=M5.out.o.lt;have FIN:Hid (Yn w ({ Zq 2 with ops:=limit,Z7:=Z7,ps:=Q }:UD) (.returned (.agg (Wg ({ Zq 2 with ops:=limit,Z7:=Z7,ps:=Q }:UD) (.slice none 0 0) (.slice u1 Z7.length e1) (.slice u2 Q.length e2)))) (Xt w6 (w.heap.size+1+1) ({ Zq 2 with ops:=limit,Z7:=Z7,ps:=Q }:UD) (.slice none 0 0) (.slice u1 Z7.length e1) (.slice u2 Q.length e2))):=Uh (lo:=w.heap.size+3) (M5.out.below b6).YJ (by omega) (by omega) (Yf _ _ _ _) (o6.mono (by omega) ZW);obtain ⟨k0,k1,k2,k3,k4,k5,k6,k7,k8,k9,k10,k11⟩:=X6.cells;dsimp only [Zq] at k0 k1 k2 k3 k4 k5 k6 k7 k8 k9 k10 k11;have fz:=X6.frozen;have f0:=fz 0;have f1:=fz 1;have f2:=fz 2;have f3:=fz 3;have f4:=fz 4;have f5:=fz 5;have f6:=fz 6;have f7:=fz 7;have f8:=fz 8;have f9:=fz 9;have f10:=fz 10;have f11:=fz 11;obtain ⟨q0,q1,q2,q3,q4,q5,q6,q7,q8,q9,He,Hd⟩:=Xl (r:=({ Zq 2 with ops:=limit,Z7:=Z7,ps:=Q }:UD)) (vt:=.slice none 0 0) (v1:=.slice u1 Z7.length e1) (v2:=.slice u2 Q.length e2) X6;unfold Xt Wg Zq at FIN;unfold Xt Zq at q0 q1 q2 q3 q4 q5 q6 q7 q8 q9 He Hd;dsimp only at FIN q0 q1 q2 q3 q4 q5 q6 q7 q8 q9 He Hd;clear fz X6 HC o6 b6 M5 U;go_wp2;generalize ((((((((((((w6).setCell _ _).setCell _ _).setCell _ _).setCell _ _).setCell _ _).setCell _ _).setCell _ _).setCell _ _).setCell _ _).setCell _ _).setCell _ _).setCell _ _=wE at *;rw [xQ];unfold Zq;exact ZT (v:=.agg #[.int .i64 2,.int .i64 0,.int .i64 0,.int .i64 0,.int .i64 0,.int .i64 0,.int .i64 0,.slice none 0 0,.int .i64 0,.int .i64 limit,.slice u1 Z7.length e1,.slice u2 Q.length e2]) (by simp [results,Tryz.results5,go_sem,q0,q1,q2,q3,q4,q5,q6,q7,q8,q9,He,Hd]) rfl FIN.out
      clear A;have ZE:Hid (∀W,Md w S (ln:Int) NB OB lo x [.int .i64 code,.int .i64 x.g,.int .i64 x.b,.int .i64 x.s,.int .i64 x.l,.int .i64 x.c,.int .i64 r.2.1,.slice ta r.1.length tc,.int .i64 (en:Int),.int .i64 ((ops:Int)+1),.slice none 0 0,.slice none 0 0] (.slice ta r.1.length tc) r.1 (.slice (some ⟨lg,0,none⟩) (ln*64) lc) log (va) (Z) Z7 Q W→Rd .u8 W (.slice (some ⟨wg,0,none⟩) (ln*64) wc) (Zu log en)→Calls Tryz.prog 25 #[.agg #[va,Z],.int .i64 ((f:Int)+(bb:Int)),.slice (some ⟨wg,bb*64,none⟩) ((bb+1)*64 - bb*64) (wc - bb*64)] W fun e w'=>∃a1 n1 c1 a2 n2 c2 dv,e=.returned (.agg #[.slice a1 n1 c1,.slice a2 n2 c2])∧Zz w' W.heap.size w'.heap.size (.slice a1 n1 c1) (.slice a2 n2 c2) Z7 (ps++TN (bb+1)) dv∧ZX W w'):=by
       intro W hM hW;obtain ⟨r3,r4⟩:=(hM.rows _ (Kp.refl _ _ _)).2.2;refine (Mt W va Z _ Z7 (blk (Zu log en) bb) Q ((f:Int)+(bb:Int)) r3 r4 (JQ hW hbb) hdl (by omega) J.out).mono ?_;have hok:=(VR.out bb V).2 hbl;rw [←P.out] at hok;unfold zO FN;rw [ZY hok,ZY hok];rintro e w' ⟨u1,u2,dv,rfl,o9,b9⟩;obtain ⟨a1,c1,rfl⟩:=o9.d.slice;obtain ⟨a2,c2,rfl⟩:=o9.p.slice;refine ⟨a1,_,c1,a2,_,c2,dv,rfl,?_,b9⟩;rw [Qc.out,Z3 hsm,←R9,←P.out];exact o9
      have Dd:Hid (∀W,Calls Tryz.prog 26 #[.agg #[.int .i64 S,.int .i64 (ln:Int)],.int .i64 x.b,.bool true] W (Ze W (.int .i64 (f:Int)))):=fun W=>by rw [←qv.out];exact PI W S ln x.b true hcf hxb
      have o9:=M5.out.o.cl 9 _ rfl;have g9:=M5.out.o.fz 9;have M6:Hid (Md w S (ln:Int) NB OB lo x [.int .i64 code,.int .i64 x.g,.int .i64 x.b,.int .i64 x.s,.int .i64 x.l,.int .i64 x.c,.int .i64 r.2.1,.slice ta r.1.length tc,.int .i64 (en:Int),.int .i64 ((ops:Int)+1),.slice none 0 0,.slice none 0 0] (.slice ta r.1.length tc) r.1 (.slice (some ⟨lg,0,none⟩) (ln*64) lc) log (va) (Z) Z7 Q (w5.setCell ⟨OB,9,none⟩ (.int .i64 ((ops:Int)+1)))):=M5.out.Yu 9 (.int .i64 ((ops:Int)+1));have H:Hid (∀W',Kp w.heap.size OB (w5.setCell ⟨OB,9,none⟩ (.int .i64 ((ops:Int)+1))) W'→Rd .u8 W' (.slice (some ⟨wg,0,none⟩) (ln*64) wc) (Zu log en)):=fun W' k=>U.out W' ((Kp.yF _ _ _ _ _).trans k)
      have hfr:f≤1000:=by omega
      have Z1:ops≤64:=by have:=(xm.out bb V).1;have:=Y.out;omega
      clear M5 U;have hlc:¬0≤limit∨(0≤limit∧((ops:Int) == limit)=false):=by
       by_cases h0:0≤limit
       · exact .inr ⟨h0,by rw [Xz];exact fun e=>hst ⟨h0,e⟩⟩
       exact .inl h0
      have Z0:Hid (0≤limit→((ops:Int)+1)≤limit):=fun h=>by
       have h1:=hlm h;have h2:(ops:Int)≠limit:=fun e=>hst ⟨h,e⟩
       omega
      rcases hlc with hl0 | ⟨hl0,I⟩
      all_goals (
       go_wp2_with fail
       clear o9 g9 cL;generalize w5.setCell _ _=w6 at *;refine ZF (S:=fun W=>W.cell? ⟨w.heap.size+1,0,none⟩=some (.int .i64 S)∧W.cell? ⟨w.heap.size+1,1,none⟩=some (.int .i64 (ln:Int))∧W.cell? ⟨NB,2,none⟩=some (.int .i64 x.b)) (by kernel_rfl) ⟨M6.out.c.cl 0 _ rfl,M6.out.c.cl 1 _ rfl,M6.out.n.cl 2 _ rfl⟩ (fun Z9=>?_);have M7:Hid (Md w S (ln:Int) NB OB lo x [.int .i64 code,.int .i64 x.g,.int .i64 x.b,.int .i64 x.s,.int .i64 x.l,.int .i64 x.c,.int .i64 r.2.1,.slice ta r.1.length tc,.int .i64 (en:Int),.int .i64 ((ops:Int)+1),.slice none 0 0,.slice none 0 0] (.slice ta r.1.length tc) r.1 (.slice (some ⟨lg,0,none⟩) (ln*64) lc) log (va) (Z) Z7 Q w6.drew):=M6.out.below (below_drewN' w6 1);have C:Hid (∀W',Kp w.heap.size OB w6.drew W'→Rd .u8 W' (.slice (some ⟨wg,0,none⟩) (ln*64) wc) (Zu log en)):=fun W' k=>H.out W' ((Kp.below _ _ (below_drewN' w6 1)).trans k)
       clear M6 H;generalize w6.drew=w7 at *;refine ZA 1 (.agg #[.int .i64 S,.int .i64 (ln:Int)]) rfl (by kernel_rfl) (fun _=>id) Z9 (fun w9 Z4=>by (obtain ⟨y0,y1,y2⟩:=Z4;go_simp;try with_reducible rfl)) ?_;refine ZA 2 (.pointer (some ⟨NB,1,none⟩)) rfl (by kernel_rfl) (fun _=>id) Z9 (fun w9 Z4=>by (clear Z4;go_simp;try with_reducible rfl)) ?_;refine ZA 3 (.pointer (some ⟨NB,2,none⟩)) rfl (by kernel_rfl) (fun _=>id) Z9 (fun w9 Z4=>by (clear Z4;go_simp;try with_reducible rfl)) ?_;refine ZA 4 (.int .i64 x.b) rfl (by kernel_rfl) (fun _=>id) Z9 (fun w9 Z4=>by (obtain ⟨y0,y1,y2⟩:=Z4;go_simp;try with_reducible rfl)) ?_;refine ZA 6 (.int .i64 (bb:Int)) rfl (by kernel_rfl) (fun _=>id) Z9 (fun w9 Z4=>by (clear Z4;go_simp;try with_reducible rfl)) ?_;refine ZA 8 (.slice (some ⟨wg,0,none⟩) (ln*64) wc) rfl (by kernel_rfl) (fun _=>id) Z9 (fun w9 Z4=>by (clear Z4;go_simp;try with_reducible rfl)) ?_;refine ZA 9 (.int .i64 (bb:Int)) rfl (by kernel_rfl) (fun _=>id) Z9 (fun w9 Z4=>by (clear Z4;go_simp;try with_reducible rfl)) ?_;refine ZA 10 (.int .i64 ((bb*64:Nat):Int)) rfl (by kernel_rfl) (fun _=>id) Z9 (fun w9 Z4=>by (clear Z4;go_simp;first | (rw [Xf] <;> omega) | (congr 2 <;> omega))) ?_;refine ZA 11 (.int .i64 (bb:Int)) rfl (by kernel_rfl) (fun _=>id) Z9 (fun w9 Z4=>by (clear Z4;go_simp;try with_reducible rfl)) ?_;refine ZA 12 (.int .i64 ((bb+1:Nat):Int)) rfl (by kernel_rfl) (fun _=>id) Z9 (fun w9 Z4=>by (clear Z4;go_simp;first | (rw [Xf] <;> omega) | (congr 2 <;> omega))) ?_;refine ZA 13 (.int .i64 (((bb+1)*64:Nat):Int)) rfl (by kernel_rfl) (fun _=>id) Z9 (fun w9 Z4=>by (clear Z4;go_simp;first | (rw [Xf] <;> omega) | (congr 2 <;> omega))) ?_;refine ZA 14 (.slice (some ⟨wg,bb*64,none⟩) ((bb+1)*64 - bb*64) (wc - bb*64)) rfl (by kernel_rfl) (fun _=>id) Z9 (fun w9 Z4=>by (clear Z4;go_simp;rw [ZY ⟨by omega,by omega⟩,ZY ⟨by omega,by omega⟩,Z3 (by omega),E1.out,E2.out])) ?_;refine Wu 0 5 rfl rfl (by kernel_rfl) (fun K hK=>?_) (fun K hK=>?_);have d0:=M7.out.d.cl 0 _ rfl;have d1:=M7.out.d.cl 1 _ rfl;go_simp;clear d0 d1;refine hK.out _ _ Z9 (fun ZI=>?_);clear hK K ZI;refine ZS 5 rfl (by kernel_rfl) (fun K hK=>?_);go_simp;refine (Dd.out _).mono ?_;rintro e w8 ⟨rfl,b8⟩;have M:=Z8 (M7.out.below b8);have B:Hid (∀W',Kp w.heap.size OB w8 W'→Rd .u8 W' (.slice (some ⟨wg,0,none⟩) (ln*64) wc) (Zu log en)):=fun W' k=>C.out W' ((Kp.below _ _ b8).trans k)
       refine hK.out _ _ ⟨M.out.c.cl 0 _ rfl,M.out.c.cl 1 _ rfl,M.out.n.cl 2 _ rfl⟩ (fun ZI=>?_);clear hK K Z9 b8 M7 C;have Z9:=ZI;clear ZI;refine ZA 7 (.int .i64 ((f:Int)+(bb:Int))) rfl (by kernel_rfl) (fun _=>id) Z9 (fun w9 Z4=>by (clear Z4;go_simp;first | with_reducible rfl | (rw [Xf] <;> omega) | (congr 2 <;> omega))) ?_
       rotate_left
       go_simp;refine (Dd.out _).mono ?_;rintro e w8 ⟨rfl,b8⟩;have M:=Z8 (M7.out.below b8);have B:Hid (∀W',Kp w.heap.size OB w8 W'→Rd .u8 W' (.slice (some ⟨wg,0,none⟩) (ln*64) wc) (Zu log en)):=fun W' k=>C.out W' ((Kp.below _ _ b8).trans k)
       refine hK.out _ _ ⟨M.out.c.cl 0 _ rfl,M.out.c.cl 1 _ rfl,M.out.n.cl 2 _ rfl⟩ (fun ZI=>?_);clear hK K Z9 b8 M7 C;have Z9:=ZI;clear ZI;refine ZA 7 (.int .i64 ((f:Int)+(bb:Int))) rfl (by kernel_rfl) (fun _=>id) Z9 (fun w9 Z4=>by (clear Z4;go_simp;first | with_reducible rfl | (rw [Xf] <;> omega) | (congr 2 <;> omega))) ?_;refine ZS 0 rfl (by kernel_rfl) (fun K hK=>?_);have d0:=M.out.d.cl 0 _ rfl;have d1:=M.out.d.cl 1 _ rfl;go_simp;clear d0 d1;refine hK.out _ _ Z9 (fun ZI=>?_);clear hK K ZI
       all_goals (
        refine ZS 15 rfl (by kernel_rfl) (fun K hK=>?_);go_simp;refine (ZE.out _ M.out (B.out _ (Kp.refl _ _ _))).mono ?_;rintro e w9 ⟨a1,n1,c1,a2,n2,c2,dv,rfl,o9,b9⟩;have R:=Z8 (M.out.below b9);have G:Hid (∀W',Kp w.heap.size OB w9 W'→Rd .u8 W' (.slice (some ⟨wg,0,none⟩) (ln*64) wc) (Zu log en)):=fun W' k=>B.out W' ((Kp.below _ _ b9).trans k)
        have O:=M.out.o.lt;have MA:=Z8 (R.out.qx o9 O);have ZZ:Hid (∀W',Kp w.heap.size OB ((w9.setCell ⟨w.heap.size,0,none⟩ (.slice a1 n1 c1)).setCell ⟨w.heap.size,1,none⟩ (.slice a2 n2 c2)) W'→Rd .u8 W' (.slice (some ⟨wg,0,none⟩) (ln*64) wc) (Zu log en)):=fun W' k=>G.out W' (((Kp.CQ _ _ _ _ _).trans (Kp.CQ _ _ _ _ _)).trans k)
        refine hK.out _ _ ⟨R.out.c.cl 0 _ rfl,R.out.c.cl 1 _ rfl,R.out.n.cl 2 _ rfl⟩ (fun ZI=>?_);clear hK K Z9 ZI o9 b9 M B;refine ZS 16 rfl (by kernel_rfl) (fun K hK=>?_);have d0:=R.out.d.cl 0 _ rfl;have d1:=R.out.d.cl 1 _ rfl;have i0:=R.out.d.fz 0;have i1:=R.out.d.fz 1;go_simp;clear d0 d1 i0 i1;refine hK.out _ _ ⟨MA.out.c.cl 0 _ rfl,MA.out.c.cl 1 _ rfl,MA.out.n.cl 2 _ rfl⟩ (fun ZI=>?_);clear hK K ZI R G;refine ZM (by kernel_rfl) ?_ _
        try simp only [Act.put,Zk,Zj,Zi]
        generalize (w9.setCell _ _).setCell _ _=wA at *;have MB:Hid (Md w S (ln:Int) NB OB lo x [.int .i64 code,.int .i64 x.g,.int .i64 x.b,.int .i64 x.s,.int .i64 x.l,.int .i64 x.c,.int .i64 r.2.1,.slice ta r.1.length tc,.int .i64 (en:Int),.int .i64 ((ops+1:Nat):Int),.slice none 0 0,.slice none 0 0] (.slice ta r.1.length tc) r.1 (.slice (some ⟨lg,0,none⟩) (ln*64) lc) log (.slice a1 n1 c1) (.slice a2 n2 c2) Z7 (ps++TN (bb+1)) wA):=MA.out;clear MA ZE Dd O;go_wp2
        go_roundw
        case rel=>exact ⟨bb+1,ops+1,_,_,Z7,_,by go_num,by simp,MB,ZZ,.inl ⟨by omega,rfl,rfl,by rw [Qc.out,Z3 hsm,YE,←Y.out];rfl,fun h=>by have:=Z0.out h;omega⟩⟩
        case measure=>simp [intOf];omega))
    have T:Hid (bb=ln):=by show _=_;omega
    have YN:¬(bb:Int)<(ln:Int):=by omega
    have Y8:((bb:Int) == (ln:Int))=true:=by rw [Vn];omega
    by_cases h0:ops=0
    · have Y3:¬0<ops:=by omega
      have hz:(TN ln).length=0:=by rw [←T.out];have:=Y.out;omega
      have xQ:RES=⟨code,x,r.2.1,r.1,(en:Int),(ops:Int),Z7,Q⟩:=by
       rw [r9.out,ZY hz,P.out,T.out,Vj hz,Sz,h0]
       rfl
      go_wp2_with fail
      refine ZJ.out _ _ ?_;rw [xQ];exact Nu j.out (by omega) hdl (by omega) J.out
    have Y2:0<ops:=by omega
    go_wp2_with fail
    refine ZF (S:=fun W=>W.cell? ⟨w.heap.size+1,1,none⟩=some (.int .i64 (ln:Int))) (by kernel_rfl) cL (fun Z9=>?_)
    iterate 2 (refine ZV ?_ (by kernel_rfl) (fun _=>id) Z9 ?_ ?_;rotate_left;· intro w9 Z4;clear Z4;go_simp;try with_reducible rfl)
    refine ZV ?_ (by kernel_rfl) (fun _=>id) Z9 ?_ ?_
    rotate_left
    · intro w9 Z4;have Zo:=Z4;go_simp;try with_reducible rfl
    iterate 2 (refine ZV ?_ (by kernel_rfl) (fun _=>id) Z9 ?_ ?_;rotate_left;· intro w9 Z4;clear Z4;go_simp;try with_reducible rfl)
    iterate 15 (refine TU (by kernel_rfl) (fun _=>id) Z9 ?_)
    refine ZV ?_ (by kernel_rfl) (fun _=>id) Z9 ?_ ?_
    rotate_left
    · intro w9 Z4;clear Z4;go_simp;try with_reducible rfl
    refine ZM (by kernel_rfl) ?_ _
    try simp only [Act.put,Zk,Zj,Zi]
    clear Z9;have M5:Hid (Md w S (ln:Int) NB OB lo x [.int .i64 code,.int .i64 x.g,.int .i64 x.b,.int .i64 x.s,.int .i64 x.l,.int .i64 x.c,.int .i64 r.2.1,.slice ta r.1.length tc,.int .i64 (en:Int),.int .i64 (ops:Int),.slice none 0 0,.slice none 0 0] (.slice ta r.1.length tc) r.1 (.slice (some ⟨lg,0,none⟩) (ln*64) lc) log (va) (Z) Z7 Q wr.drew):=j.out.below (below_drewN' wr 1);have U:Hid (∀W',Kp w.heap.size OB wr.drew W'→Rd .u8 W' (.slice (some ⟨wg,0,none⟩) (ln*64) wc) (Zu log en)):=fun W' k=>t.out W' ((Kp.below _ _ (below_drewN' wr 1)).trans k)
    clear j t cL;generalize wr.drew=w5 at *;have cL:=M5.out.c.cl 1 _ rfl;have z:0<(TN ln).length:=by rw [←T.out];have:=Y.out;omega
    by_cases hst:0≤limit∧(ops:Int)=limit
    · have ZG:limit≤((TN ln).length:Int):=by rw [←T.out];have:=Y.out;omega
      have I:((ops:Int) == limit)=true:=by rw [Vn];exact hst.2
      have hge:=hst.1;have xQ:RES=({ Zq 2 with ops:=limit,Z7:=Z7,ps:=Q }:UD):=by
       have h9:=(xm.out bb V).2;have h8:=Y.out;rw [r9.out,Z3 (by omega),ZY ⟨hge,by omega⟩,show limit.toNat=(TN bb).length by omega,h9,←P.out]
      obtain ⟨r3,r4⟩:=(M5.out.rows _ (Kp.refl _ _ _)).2.2;obtain ⟨a1,c1,rfl,-⟩:=r3.len;obtain ⟨a2,c2,hb2,-⟩:=id r4;subst hb2;have HC:=Z8 (VV w5 _ _ Z7.length c1 Q.length c2 Z7 Q r3 rfl r4 rfl (by omega) hdl J.out);have o9:=M5.out.o.cl 9 _ rfl;have d0:=M5.out.d.cl 0 _ rfl;have d1:=M5.out.d.cl 1 _ rfl;clear r3 r4
      go_wp2_with fail
      clear o9 d0 d1;refine HC.out.mono ?_;rintro e w6 ⟨y1,y2,dv,rfl,o6,b6⟩;obtain ⟨u1,e1,rfl⟩:=o6.d.slice;obtain ⟨u2,e2,rfl⟩:=o6.p.slice;have X6:=M5.out.rx.below b6;have Z2:=M5.out.o.lt;have FIN:Hid (Yn w ({ Zq 2 with ops:=limit,Z7:=Z7,ps:=Q }:UD) (.returned (.agg (Wg ({ Zq 2 with ops:=limit,Z7:=Z7,ps:=Q }:UD) (.slice none 0 0) (.slice u1 Z7.length e1) (.slice u2 Q.length e2)))) (Xt w6 (w.heap.size+1+1) ({ Zq 2 with ops:=limit,Z7:=Z7,ps:=Q }:UD) (.slice none 0 0) (.slice u1 Z7.length e1) (.slice u2 Q.length e2))):=Uh (lo:=w.heap.size+3) (M5.out.below b6).YJ (by omega) (by omega) (Yf _ _ _ _) (o6.mono (by omega) ZW);obtain ⟨k0,k1,k2,k3,k4,k5,k6,k7,k8,k9,k10,k11⟩:=X6.cells;dsimp only [Zq] at k0 k1 k2 k3 k4 k5 k6 k7 k8 k9 k10 k11;have fz:=X6.frozen;have f0:=fz 0;have f1:=fz 1;have f2:=fz 2;have f3:=fz 3;have f4:=fz 4;have f5:=fz 5;have f6:=fz 6;have f7:=fz 7;have f8:=fz 8;have f9:=fz 9;have f10:=fz 10;have f11:=fz 11;obtain ⟨q0,q1,q2,q3,q4,q5,q6,q7,q8,q9,He,Hd⟩:=Xl (r:=({ Zq 2 with ops:=limit,Z7:=Z7,ps:=Q }:UD)) (vt:=.slice none 0 0) (v1:=.slice u1 Z7.length e1) (v2:=.slice u2 Q.length e2) X6;unfold Xt Wg Zq at FIN;unfold Xt Zq at q0 q1 q2 q3 q4 q5 q6 q7 q8 q9 He Hd;dsimp only at FIN q0 q1 q2 q3 q4 q5 q6 q7 q8 q9 He Hd;clear fz X6 HC o6 b6 M5 U;go_wp2;generalize ((((((((((((w6).setCell _ _).setCell _ _).setCell _ _).setCell _ _).setCell _ _).setCell _ _).setCell _ _).setCell _ _).setCell _ _).setCell _ _).setCell _ _).setCell _ _=wE at *;rw [xQ];unfold Zq;exact ZT (v:=.agg #[.int .i64 2,.int .i64 0,.int .i64 0,.int .i64 0,.int .i64 0,.int .i64 0,.int .i64 0,.slice none 0 0,.int .i64 0,.int .i64 limit,.slice u1 Z7.length e1,.slice u2 Q.length e2]) (by simp [results,Tryz.results5,go_sem,q0,q1,q2,q3,q4,q5,q6,q7,q8,q9,He,Hd]) rfl FIN.out
    have qE:Hid (∀W,Md w S (ln:Int) NB OB lo x [.int .i64 code,.int .i64 x.g,.int .i64 x.b,.int .i64 x.s,.int .i64 x.l,.int .i64 x.c,.int .i64 r.2.1,.slice ta r.1.length tc,.int .i64 (en:Int),.int .i64 ((ops:Int)+1),.slice none 0 0,.slice none 0 0] (.slice ta r.1.length tc) r.1 (.slice (some ⟨lg,0,none⟩) (ln*64) lc) log (va) (Z) Z7 Q W→Calls Tryz.prog 27 #[.agg #[va,Z]] W fun e w'=>∃a1 n1 c1,e=.returned (.agg #[.slice a1 n1 c1,.slice none 0 0])∧Own .u8 5 w' W.heap.size (.slice a1 n1 c1) (ZC Z7 Q)∧ZX W w'):=by
     intro W hM;obtain ⟨r3,r4⟩:=(hM.rows _ (Kp.refl _ _ _)).2.2;refine (J2 W va Z Z7 Q r3 r4 hdl (by omega) J.out).mono ?_;rintro e w' ⟨u,rfl,o9,b9⟩;obtain ⟨a1,c1,rfl⟩:=o9.slice;exact ⟨a1,_,c1,rfl,o9,b9⟩
    have o9:=M5.out.o.cl 9 _ rfl;have g9:=M5.out.o.fz 9;have M6:Hid (Md w S (ln:Int) NB OB lo x [.int .i64 code,.int .i64 x.g,.int .i64 x.b,.int .i64 x.s,.int .i64 x.l,.int .i64 x.c,.int .i64 r.2.1,.slice ta r.1.length tc,.int .i64 (en:Int),.int .i64 ((ops:Int)+1),.slice none 0 0,.slice none 0 0] (.slice ta r.1.length tc) r.1 (.slice (some ⟨lg,0,none⟩) (ln*64) lc) log (va) (Z) Z7 Q (w5.setCell ⟨OB,9,none⟩ (.int .i64 ((ops:Int)+1)))):=M5.out.Yu 9 (.int .i64 ((ops:Int)+1));have H:Hid (∀W',Kp w.heap.size OB (w5.setCell ⟨OB,9,none⟩ (.int .i64 ((ops:Int)+1))) W'→Rd .u8 W' (.slice (some ⟨wg,0,none⟩) (ln*64) wc) (Zu log en)):=fun W' k=>U.out W' ((Kp.yF _ _ _ _ _).trans k)
    have d0:=M6.out.d.cl 0 _ rfl;have d1:=M6.out.d.cl 1 _ rfl;have Z1:ops≤64:=by have:=(xm.out bb V).1;have:=Y.out;omega
    have hlc:¬0≤limit∨(0≤limit∧((ops:Int) == limit)=false):=by
     by_cases h0:0≤limit
     · exact .inr ⟨h0,by rw [Xz];exact fun e=>hst ⟨h0,e⟩⟩
     exact .inl h0
    have Z0:Hid (¬(0≤limit∧limit≤((TN ln).length:Int))):=fun h=>by
     rw [←T.out] at h;have h1:=hlm h.1;have h2:(ops:Int)≠limit:=fun e=>hst ⟨h.1,e⟩
     have:=Y.out;omega
    clear M5 U
    rcases hlc with hl0 | ⟨hl0,I⟩
    all_goals (
     go_wp2_with fail
     clear o9 g9 cL d0 d1;generalize w5.setCell _ _=w6 at *;refine (qE.out _ M6.out).mono ?_;rintro e w9 ⟨a1,n1,c1,rfl,o9,b9⟩;have R:=Z8 (M6.out.below b9);have O:=M6.out.o.lt;have G:Hid (∀W',Kp w.heap.size OB w9 W'→Rd .u8 W' (.slice (some ⟨wg,0,none⟩) (ln*64) wc) (Zu log en)):=fun W' k=>H.out W' ((Kp.below _ _ b9).trans k)
     have MA:=Z8 (R.out.qx (SJ o9) O);have ZZ:Hid (∀W',Kp w.heap.size OB ((w9.setCell ⟨w.heap.size,0,none⟩ (.slice a1 n1 c1)).setCell ⟨w.heap.size,1,none⟩ (.slice none 0 0)) W'→Rd .u8 W' (.slice (some ⟨wg,0,none⟩) (ln*64) wc) (Zu log en)):=fun W' k=>G.out W' (((Kp.CQ _ _ _ _ _).trans (Kp.CQ _ _ _ _ _)).trans k)
     have d0:=R.out.d.cl 0 _ rfl;have d1:=R.out.d.cl 1 _ rfl;have i0:=R.out.d.fz 0;have i1:=R.out.d.fz 1;clear o9 b9 M6 H qE;go_wp2;clear d0 d1 i0 i1;generalize (w9.setCell _ _).setCell _ _=wA at *;have MB:Hid (Md w S (ln:Int) NB OB lo x [.int .i64 code,.int .i64 x.g,.int .i64 x.b,.int .i64 x.s,.int .i64 x.l,.int .i64 x.c,.int .i64 r.2.1,.slice ta r.1.length tc,.int .i64 (en:Int),.int .i64 ((ops+1:Nat):Int),.slice none 0 0,.slice none 0 0] (.slice ta r.1.length tc) r.1 (.slice (some ⟨lg,0,none⟩) (ln*64) lc) log (.slice a1 n1 c1) (.slice none 0 0) (ZC Z7 Q) [] wA):=MA.out;clear MA R G
     go_roundw
     case rel=>exact ⟨bb+1,ops+1,_,_,_,_,by go_num,by simp,MB,ZZ,.inr ⟨by rw [T.out],z,by rw [P.out,T.out],rfl,by rw [Y.out,T.out],Z0.out⟩⟩
     case measure=>simp [intOf];omega)
  have hgt:¬(((ln+1:Nat):Int)≤(ln:Int)):=by omega
  have ZD:(ZC Z7 (ps++TN ln)).length≤1048576:=ZP (Er _ _) hdl;have xQ:RES=⟨code,x,r.2.1,r.1,(en:Int),(((TN ln).length+1:Nat):Int),ZC Z7 (ps++TN ln),[]⟩:=by
   rw [r9.out,Z3 (by omega),Z3 hlm]
   rfl
  go_wp2_with fail
  refine ZJ.out _ _ ?_;rw [xQ];exact Nu j.out (by omega) ZD (by simp) (fun i=>by unfold pD;simp)
end Go.Proofs.YtmmmffcbfepghaaGreatDoor


