import Derived.Test.YtpmjnbmkippaiaaGreatDoorJ08
import Derived.Test.YtpmjnbmkippaiaaGreatDoorJ06
import Derived.ArgAppend
set_option maxRecDepth 100000
set_option maxHeartbeats 16000000
set_option linter.unusedVariables false
set_option linter.unusedSimpArgs false
namespace Go.Proofs.YtpmjnbmkippaiaaGreatDoor
open Go.RowKit Go.Extern.Stop Go.Stop Go.Extern
theorem eJ (w:World) (et:TypeId) (ex:Value) (t:Nat) (b:Bool) (Q:World→Prop) (hg:w.cell? ⟨5,0,none⟩=some (.iface 345 (.agg #[.pointer (some ⟨11,182,none⟩)]))) (h0:5<w.heap.size)
    (h:∀W,ZX w W→W.cell? ⟨w.heap.size,0,none⟩=some (.pointer (some ⟨t,0,none⟩))→w.heap.size<W.heap.size→Calls Tryz.prog 228 #[.iface et ex,.iface 283 (.pointer (some ⟨t,0,none⟩)),.agg #[.pointer (some ⟨11,283,none⟩),.pointer (some ⟨w.heap.size,0,none⟩),.int .u64 150],.iface 345 (.agg #[.pointer (some ⟨11,240,none⟩)])] W fun e w'=>e=.returned (.bool b)∧Q w') :
    Calls Tryz.prog 199 #[.iface et ex,.iface 283 (.pointer (some ⟨t,0,none⟩))] w fun e w'=>e=.returned (.bool b)∧Q w':=by
 have hx1:=Bj;have hx2:=Bh;have hx3:=Bg;have hx4:=Bf;have hx5:=Bc;have hx6:=Bb;have hx7:=A8;have ma:=A7;have ZM:=A6;have wP:=LE;have mK:=Tryz.lH;have mE:=Tryz.lG;have mI:=Tryz.lF;have mA:=Tryz.lE;have f1:=Tryz.gD;have f2:=Tryz.gC;have k1:=Tryz.gB;have k2:=Tryz.gA;have e1:=Tryz.gy;have i1:=Tryz.gx;have B1:Hid (ZX w ((w.alloc (.cells #[.pointer (some ⟨t,0,none⟩)] 283)).alloc (.cells #[.pointer (some ⟨11,283,none⟩),.pointer (some ⟨w.heap.size,0,none⟩),.int .u64 150] 321))):=Tg w _ _;have hg2:=(B1.out.cell (p:=⟨5,0,none⟩) h0).trans hg;have hc2:((w.alloc (.cells #[.pointer (some ⟨t,0,none⟩)] 283)).alloc (.cells #[.pointer (some ⟨11,283,none⟩),.pointer (some ⟨w.heap.size,0,none⟩),.int .u64 150] 321)).cell? ⟨w.heap.size,0,none⟩=some (.pointer (some ⟨t,0,none⟩)):=by go_simp
 have n8:=Tryz.gz ⟨w.heap.size,0,none⟩ ⟨t,0,none⟩ ((w.alloc (.cells #[.pointer (some ⟨t,0,none⟩)] 283)).alloc (.cells #[.pointer (some ⟨11,283,none⟩),.pointer (some ⟨w.heap.size,0,none⟩),.int .u64 150] 321)) hc2;have HC:=Z3 (h _ B1.out hc2 (by simp;omega));clear h hc2 hg
 go_enter Tryz.func199,Tryz.ntmps199
 go_wp2_with (go_at_call 228;refine HC.out.mono ?_)
 rintro e w5 ⟨rfl,q5⟩;have Q5:=Z3 q5;clear q5 HC
 go_wp2_with fail
 exact ZS (v:=.bool b) (by simp [results,Tryz.results199,go_sem]) rfl ⟨rfl,Q5.out⟩
theorem eI (w:World) (et:TypeId) (ex:Value) (t:Nat) (b:Bool) (Q:World→Prop) (hg:w.cell? ⟨5,0,none⟩=some (.iface 345 (.agg #[.pointer (some ⟨11,182,none⟩)]))) (h0:5<w.heap.size)
    (h:∀W,ZX w W→W.cell? ⟨w.heap.size,0,none⟩=some (.pointer (some ⟨t,0,none⟩))→w.heap.size<W.heap.size→Calls Tryz.prog 228 #[.iface et ex,.iface 284 (.pointer (some ⟨t,0,none⟩)),.agg #[.pointer (some ⟨11,284,none⟩),.pointer (some ⟨w.heap.size,0,none⟩),.int .u64 150],.iface 345 (.agg #[.pointer (some ⟨11,281,none⟩)])] W fun e w'=>e=.returned (.bool b)∧Q w') :
    Calls Tryz.prog 199 #[.iface et ex,.iface 284 (.pointer (some ⟨t,0,none⟩))] w fun e w'=>e=.returned (.bool b)∧Q w':=by
 have hx1:=Bj;have hx2:=Bh;have hx3:=Bg;have hx4:=Bf;have hx5:=Bc;have hx6:=Bb;have hx7:=A8;have ma:=A7;have ZM:=A6;have wP:=LE;have mK:=Tryz.lH;have mE:=Tryz.lG;have mI:=Tryz.lF;have mA:=Tryz.lE;have f1:=Tryz.gn;have f2:=Tryz.gm;have k1:=Tryz.gl;have k2:=Tryz.gk;have e1:=Tryz.gi;have i1:=Tryz.gh;have B1:Hid (ZX w ((w.alloc (.cells #[.pointer (some ⟨t,0,none⟩)] 284)).alloc (.cells #[.pointer (some ⟨11,284,none⟩),.pointer (some ⟨w.heap.size,0,none⟩),.int .u64 150] 321))):=Tg w _ _;have hg2:=(B1.out.cell (p:=⟨5,0,none⟩) h0).trans hg;have hc2:((w.alloc (.cells #[.pointer (some ⟨t,0,none⟩)] 284)).alloc (.cells #[.pointer (some ⟨11,284,none⟩),.pointer (some ⟨w.heap.size,0,none⟩),.int .u64 150] 321)).cell? ⟨w.heap.size,0,none⟩=some (.pointer (some ⟨t,0,none⟩)):=by go_simp
 have n8:=Tryz.gj ⟨w.heap.size,0,none⟩ ⟨t,0,none⟩ ((w.alloc (.cells #[.pointer (some ⟨t,0,none⟩)] 284)).alloc (.cells #[.pointer (some ⟨11,284,none⟩),.pointer (some ⟨w.heap.size,0,none⟩),.int .u64 150] 321)) hc2;have HC:=Z3 (h _ B1.out hc2 (by simp;omega));clear h hc2 hg
 go_enter Tryz.func199,Tryz.ntmps199
 go_wp2_with (go_at_call 228;refine HC.out.mono ?_)
 rintro e w5 ⟨rfl,q5⟩;have Q5:=Z3 q5;clear q5 HC
 go_wp2_with fail
 exact ZS (v:=.bool b) (by simp [results,Tryz.results199,go_sem]) rfl ⟨rfl,Q5.out⟩
structure iE (w W:World):Prop where
 b:ZX w W
 r:St W w.heap.size [.int .i64 0,.int .i64 0,.slice none 0 0,.int .i64 0,.slice none 0 0]
 y:St W (w.heap.size+1) [.int .i64 0]
 z:St W (w.heap.size+2) [.int .i64 0,.nilIface]
 p:St W (w.heap.size+3) [.int .i64 0,.int .i64 0,.slice none 0 0,.int .i64 0,.slice none 0 0]
theorem iE.new (w:World):iE w ((((w.alloc (.cells #[.int .i64 0,.int .i64 0,.slice none 0 0,.int .i64 0,.slice none 0 0] 194)).alloc (.cells #[.int .i64 0] 240)).alloc (.cells #[.int .i64 0,.nilIface] 281)).alloc (.cells #[.int .i64 0,.int .i64 0,.slice none 0 0,.int .i64 0,.slice none 0 0] 194)):=by
 have e1:(w.alloc (.cells #[.int .i64 0,.int .i64 0,.slice none 0 0,.int .i64 0,.slice none 0 0] 194)).heap.size=w.heap.size+1:=by simp
 have e2:((w.alloc (.cells #[.int .i64 0,.int .i64 0,.slice none 0 0,.int .i64 0,.slice none 0 0] 194)).alloc (.cells #[.int .i64 0] 240)).heap.size=w.heap.size+2:=by simp
 have e3:(((w.alloc (.cells #[.int .i64 0,.int .i64 0,.slice none 0 0,.int .i64 0,.slice none 0 0] 194)).alloc (.cells #[.int .i64 0] 240)).alloc (.cells #[.int .i64 0,.nilIface] 281)).heap.size=w.heap.size+3:=by simp
 have a1:∀(W:World) (o:Obj),ZX W (W.alloc o):=fun W o=>ZJ.alloc ZT _
 have s0:=St.new w #[.int .i64 0,.int .i64 0,.slice none 0 0,.int .i64 0,.slice none 0 0] 194;have s1:=St.new (w.alloc (.cells #[.int .i64 0,.int .i64 0,.slice none 0 0,.int .i64 0,.slice none 0 0] 194)) #[.int .i64 0] 240;have s2:=St.new ((w.alloc (.cells #[.int .i64 0,.int .i64 0,.slice none 0 0,.int .i64 0,.slice none 0 0] 194)).alloc (.cells #[.int .i64 0] 240)) #[.int .i64 0,.nilIface] 281;have s3:=St.new (((w.alloc (.cells #[.int .i64 0,.int .i64 0,.slice none 0 0,.int .i64 0,.slice none 0 0] 194)).alloc (.cells #[.int .i64 0] 240)).alloc (.cells #[.int .i64 0,.nilIface] 281)) #[.int .i64 0,.int .i64 0,.slice none 0 0,.int .i64 0,.slice none 0 0] 194;rw [e1] at s1;rw [e2] at s2;rw [e3] at s3;exact ⟨nH w _ _ _ _,((s0.below (a1 _ _)).below (a1 _ _)).below (a1 _ _),(s1.below (a1 _ _)).below (a1 _ _),s2.below (a1 _ _),s3⟩
theorem A0 (w:World) (c:Int) (hg:w.cell? ⟨5,0,none⟩=some (.iface 345 (.agg #[.pointer (some ⟨11,182,none⟩)]))) (h0:5<w.heap.size) :
    Calls Tryz.prog 165 #[.iface 240 (.agg #[.int .i64 c])] w (YI w (.agg #[.int .i64 c,.int .i64 0,.slice none 0 0,.int .i64 0,.slice none 0 0])):=by
 have R4:=Z3 (iE.new w);have HG:=Z3 hg;clear hg
 go_enter Tryz.func165,Tryz.ntmps165
 go_wp2_with fail
 generalize ((((w.alloc _).alloc _).alloc _).alloc _)=w4 at *;have qA:=(R4.out.b.cell (p:=⟨5,0,none⟩) h0).trans HG.out;refine (eJ w4 _ _ (w.heap.size+1) true (fun w'=>St w' (w.heap.size+1) [.int .i64 c]∧Tw w4 (w.heap.size+1) none w' none) qA (by have:=R4.out.b.size;omega) (fun W hW hc hl=>?_)).mono ?_
 · refine (j9 W c (w.heap.size+1) w4.heap.size _ hc hl (R4.out.y.below hW)).mono ?_
   rintro e w' ⟨rfl,s9,t9⟩;exact ⟨rfl,s9,(Tw.ZV hW _ none).trans t9⟩
 clear qA;rintro e w5 ⟨rfl,y5,t5⟩;have Y5:=Z3 y5;have B5:=Z3 (R4.out.b.trans (t5.below R4.out.b.size (by omega) (fun g h=>by cases h)));have P5:=Z3 (t5.st R4.out.p (by omega) (by simp));have Z5:=Z3 (t5.st R4.out.z (by omega) (by simp));have R5:=Z3 (t5.st R4.out.r (by omega) (by simp));clear y5 t5 R4;have y0:=Y5.out.cl 0 _ rfl;have p0:=P5.out.cl 0 _ rfl;have pf:=P5.out.fz 0;have P6:=Z3 (P5.out.set 0 (.int .i64 c));have Z6:=Z3 (Z5.out.other (c:=w.heap.size+3) (j:=0) (x:=.int .i64 c) (by omega));have R6:=Z3 (R5.out.other (c:=w.heap.size+3) (j:=0) (x:=.int .i64 c) (by omega));have B6:Hid (ZX w (w5.setCell ⟨w.heap.size+3,0,none⟩ (.int .i64 c))):=Below.setCell B5.out (by simp) _
 go_wp2_with fail
 clear y0 p0 pf P5 Z5 R5 B5 Y5;generalize w5.setCell _ _=w6 at *;have H:=(B6.out.cell (p:=⟨5,0,none⟩) h0).trans HG.out;refine (eI w6 _ _ (w.heap.size+2) false (fun w'=>ZX w6 w') H (by have:=B6.out.size;omega) (fun W hW hc hl=>?_)).mono ?_
 · refine (j7 W c w6.heap.size _).mono ?_
   rintro e w' ⟨rfl,b9⟩;exact ⟨rfl,YV hW b9⟩
 clear H;rintro e w7 ⟨rfl,b7⟩;have B7:=Z3 (YV B6.out b7);have P7:=P6.out.below b7;have R7:=R6.out.below b7;have p0:=P7.cl 0 _ rfl;have p1:=P7.cl 1 _ rfl;have p2:=P7.cl 2 _ rfl;have p3:=P7.cl 3 _ rfl;have p4:=P7.cl 4 _ rfl;have q1:=P7.fz 1;have r0:=R7.cl 0 _ rfl;have r1:=R7.cl 1 _ rfl;have r2:=R7.cl 2 _ rfl;have r3:=R7.cl 3 _ rfl;have r4:=R7.cl 4 _ rfl;have g0:=R7.fz 0;have g1:=R7.fz 1;have g2:=R7.fz 2;have g3:=R7.fz 3;have g4:=R7.fz 4;clear P6 Z6 R6 B6
 go_wp2_with fail
 refine ZS (v:=.agg #[.int .i64 c,.int .i64 0,.slice none 0 0,.int .i64 0,.slice none 0 0]) (by simp [results,Tryz.results165,go_sem,p0,p1,p2,p3,p4,r0,r1,r2,r3,r4]) rfl ⟨rfl,?_⟩
 repeat (first | exact B7.out | refine Below.setCell ?_ (by simp;try omega) _)
theorem AZ (w:World) (j c:Int) (hg:w.cell? ⟨5,0,none⟩=some (.iface 345 (.agg #[.pointer (some ⟨11,182,none⟩)]))) (h0:5<w.heap.size) :
    Calls Tryz.prog 165 #[.iface 281 (.agg #[.int .i64 j,.iface 240 (.agg #[.int .i64 c])])] w (YI w (.agg #[.int .i64 c,.int .i64 j,.slice none 0 0,.int .i64 0,.slice none 0 0])):=by
 have R4:=Z3 (iE.new w);have HG:=Z3 hg;clear hg
 go_enter Tryz.func165,Tryz.ntmps165
 go_wp2_with fail
 generalize ((((w.alloc _).alloc _).alloc _).alloc _)=w4 at *;have qA:=(R4.out.b.cell (p:=⟨5,0,none⟩) h0).trans HG.out;refine (eJ w4 _ _ (w.heap.size+1) true (fun w'=>St w' (w.heap.size+1) [.int .i64 c]∧Tw w4 (w.heap.size+1) none w' none) qA (by have:=R4.out.b.size;omega) (fun W hW hc hl=>?_)).mono ?_
 · refine (j6 W j c (w.heap.size+1) w4.heap.size _ hc hl (R4.out.y.below hW)).mono ?_
   rintro e w' ⟨rfl,s9,t9⟩;exact ⟨rfl,s9,(Tw.ZV hW _ none).trans t9⟩
 clear qA;rintro e w5 ⟨rfl,y5,t5⟩;have Y5:=Z3 y5;have B5:=Z3 (R4.out.b.trans (t5.below R4.out.b.size (by omega) (fun g h=>by cases h)));have P5:=Z3 (t5.st R4.out.p (by omega) (by simp));have Z5:=Z3 (t5.st R4.out.z (by omega) (by simp));have R5:=Z3 (t5.st R4.out.r (by omega) (by simp));clear y5 t5 R4;have y0:=Y5.out.cl 0 _ rfl;have p0:=P5.out.cl 0 _ rfl;have pf:=P5.out.fz 0;have P6:=Z3 (P5.out.set 0 (.int .i64 c));have Z6:=Z3 (Z5.out.other (c:=w.heap.size+3) (j:=0) (x:=.int .i64 c) (by omega));have R6:=Z3 (R5.out.other (c:=w.heap.size+3) (j:=0) (x:=.int .i64 c) (by omega));have B6:Hid (ZX w (w5.setCell ⟨w.heap.size+3,0,none⟩ (.int .i64 c))):=Below.setCell B5.out (by simp) _
 go_wp2_with fail
 clear y0 p0 pf P5 Z5 R5 B5 Y5;generalize w5.setCell _ _=w6 at *;have H:=(B6.out.cell (p:=⟨5,0,none⟩) h0).trans HG.out;refine (eI w6 _ _ (w.heap.size+2) true (fun w'=>St w' (w.heap.size+2) [.int .i64 j,.iface 240 (.agg #[.int .i64 c])]∧Tw w6 (w.heap.size+2) none w' none) H (by have:=B6.out.size;omega) (fun W hW hc hl=>?_)).mono ?_
 · refine (j8 W j c (w.heap.size+2) w6.heap.size _ hc hl (Z6.out.below hW)).mono ?_
   rintro e w' ⟨rfl,s9,t9⟩;exact ⟨rfl,s9,(Tw.ZV hW _ none).trans t9⟩
 clear H;rintro e w7 ⟨rfl,z7,t7⟩;have B7:=Z3 (B6.out.trans (t7.below B6.out.size (by omega) (fun g h=>by cases h)));have P7:=t7.st P6.out (by omega) (by simp);have R7:=t7.st R6.out (by omega) (by simp);have z0:=z7.cl 0 _ rfl;have p0:=P7.cl 0 _ rfl;have p1:=P7.cl 1 _ rfl;have p2:=P7.cl 2 _ rfl;have p3:=P7.cl 3 _ rfl;have p4:=P7.cl 4 _ rfl;have q1:=P7.fz 1;have r0:=R7.cl 0 _ rfl;have r1:=R7.cl 1 _ rfl;have r2:=R7.cl 2 _ rfl;have r3:=R7.cl 3 _ rfl;have r4:=R7.cl 4 _ rfl;have g0:=R7.fz 0;have g1:=R7.fz 1;have g2:=R7.fz 2;have g3:=R7.fz 3;have g4:=R7.fz 4;clear P6 Z6 R6 B6
 go_wp2_with fail
 refine ZS (v:=.agg #[.int .i64 c,.int .i64 j,.slice none 0 0,.int .i64 0,.slice none 0 0]) (by simp [results,Tryz.results165,go_sem,p0,p1,p2,p3,p4,r0,r1,r2,r3,r4]) rfl ⟨rfl,?_⟩
 repeat (first | exact B7.out | refine Below.setCell ?_ (by simp;try omega) _)
end Go.Proofs.YtpmjnbmkippaiaaGreatDoor
namespace Go.Proofs.YtpmjnbmkippaiaaGreatDoor
open Go.RowKit Go.Shelf
theorem Wx.AY {w:World} {ao:Option Addr} {c:Nat} {R:List Nd} (h:Wx w (.slice ao R.length c) R):∀ad,ao=some ad→∀j u,(ZO R)[j]?=some u→w.cell? (ad.add j)=some u:=by
 obtain ⟨a',c',e,-,-,h3⟩:=h
 simp only [Y4] at e
 obtain ⟨rfl,-,-⟩:=e;intro ad had j u hu;have hj:=(UG.1 hu).1;rw [Zq] at hj
 rcases h3 with rfl | ⟨b,off,rfl,hb,hc⟩
 · simp at hj
 obtain rfl:=Yv had;have hi:j / 7<R.length:=by omega
 have hm:j % 7<7:=SG _ (by omega);rw [show j=j / 7*7+j % 7 by omega,Q8 R (j / 7) (j % 7) hi hm] at hu;obtain ⟨k0,k1,k2,k3,k4,k5,k6⟩:=hc (j / 7) hi;rw [Sg,show off+j=off+j / 7*7+j % 7 by omega];generalize j % 7=m at *
 match m,hm with
 | 0,_=>exact k0.trans hu
 | 1,_=>exact k1.trans hu
 | 2,_=>exact k2.trans hu
 | 3,_=>exact k3.trans hu
 | 4,_=>exact k4.trans hu
 | 5,_=>exact k5.trans hu
 | 6,_=>exact k6.trans hu
theorem sd (w:World) (ao:Option Addr) (cap:Nat) (ns:List Nd) (h:Wx w (.slice ao ns.length cap) ns) (hn:ns.length≤1000) :
    Calls Tryz.prog 166 #[.slice ao ns.length cap] w fun e w'=>∃v',e=.returned v'∧Zz 147 w' w.heap.size v' ns∧ZX w w':=by
 obtain ⟨i0,hi,hz0,hz1,hz2⟩:=Yq Tryz.PG;have q22:∀(w:World) (a:Option Addr) (n c n' c':Nat),(binOp .eql 61 (.slice a n c) (.slice none n' c')).run Tryz.prog w=.ok (.bool a.isNone) w:=fun w a n c n' c'=>pU w _ _ a n c n' c' Tryz.underlying61
 have HE:Hid ((w.alloc (.cells #[] 147)).ownsRow w.heap.size 147 7 (.slice (some ⟨w.heap.size,0,none⟩) 0 0) 0 []):=OO w #[] 0 ZT (Zu _) rfl;have HB:Hid (ZX w (w.alloc (.cells #[] 147))):=ZJ.alloc ZT _;have HR:=Z3 h
 cases ao with
 | none =>
  have hx:ns=[]:=by
   obtain ⟨a',c',e,-,-,h3⟩:=h
   simp only [Y4] at e
   rcases h3 with h3 | ⟨b,o,e2,_⟩
   · exact h3
   rw [←e.1] at e2;cases e2
  subst hx;clear h HR
  go_enter Tryz.func166,Tryz.ntmps166
  go_wp2;go_ret;exact ⟨_,rfl,Zl _ _ _ _,ZJ⟩
 | some a =>
  have lj:Hid (∀j u,(ZO ns)[j]?=some u→(w.alloc (.cells #[] 147)).cell? (a.add j)=some u):=fun j u hu=>(HR.out.below HB.out).AY a rfl j u hu
  clear h;generalize hl:ns.length=m at *;have HL:=Z3 hl;clear hl
  go_enter Tryz.func166,Tryz.ntmps166
  go_wp2_with (at_builtin;go_must (refine UF _ rfl _ _ 61 rfl w.heap.size 147 i0 _ 7 72 Tryz.underlying61 hi hz0 hz1 hz2 rfl (by decide) _ _ _ rfl HE.out a m cap (ZO ns) rfl ?c0 lj.out (SR _) ?c3 ?c4 ?c5 ?_))
  case c0=>rw [Zq,HL.out]
  case c3=>unfold maxLen;omega
  case c4=>omega
  case c5=>simp
  intro v2 w2 ho2 hg2 _;have FK:Hid (Zz 147 w2 w.heap.size v2 ns):=by
   show World.ownsRow _ _ _ _ _ _ _;rw [HL.out];exact ho2
  have HG2:=Z3 (HB.out.grown hg2 (by simp) (by intro q hq;simp [Value.ownBlock] at hq;omega));clear ho2 hg2;go_wp2;go_ret;exact ⟨_,rfl,FK.out,HG2.out⟩
theorem Hn (w:World) (z:Int):Calls Tryz.prog 164 #[.int .i64 z] w fun e w'=>e=.returned (.bool (decide (1≤z) && decide (z≤2147483647)))∧w'=w:=by
 obtain ⟨r,hr⟩:∃r,r=(decide (1≤z) && decide (z≤2147483647)):=⟨_,rfl⟩;rw [←hr]
 by_cases h1:1≤z
 · by_cases h2:z≤2147483647
   · rw [Y3 h1,Y3 h2] at hr
     have HR:=Z3 hr;clear hr
     go_enter Tryz.func164,Tryz.ntmps164
     go_wp2;go_ret;exact ⟨by rw [HR.out];rfl,rfl⟩
   rw [Y3 h1,YW h2] at hr;have HR:=Z3 hr;clear hr
   go_enter Tryz.func164,Tryz.ntmps164
   go_wp2;go_ret;exact ⟨by rw [HR.out];rfl,rfl⟩
 rw [YW h1] at hr;have HR:=Z3 hr;clear hr
 go_enter Tryz.func164,Tryz.ntmps164
 go_wp2;go_ret;exact ⟨by rw [HR.out];rfl,rfl⟩
theorem Vi {w W:World} {nm:String} {k:IntKind} {zs:List Int} (h:Lib.TabIs Tryz.prog w nm k zs) (hb:ZX w W):Lib.TabIs Tryz.prog W nm k zs:=by
 unfold Lib.TabIs World.var? at *
 cases hg:Tryz.prog.globalNamed nm with
 | none=>rw [hg] at h;cases h
 | some g =>
  rw [hg] at h
  simp only [Option.bind_some] at h ⊢
  by_cases hl:g<w.heap.size
  · rw [hb.block g hl];exact h
  rw [eT (by omega)] at h;cases h
theorem Kg (w:World) (v vo:Value) (ns:List Nd) (os:List Xd) (z:Int) (h:Wx w v ns) (ho:MJ w vo os) (hsz:∀i,(ZC ns i).path.size≤1048576∧(ZC ns i).data.size≤1048576) (hb:VW ns os z=false)
    (hg:w.cell? ⟨5,0,none⟩=some (.iface 345 (.agg #[.pointer (some ⟨11,182,none⟩)]))) (h0:5<w.heap.size) :
    Calls Tryz.prog 125 #[.agg #[v],.agg #[vo],.int .i64 z] w (YI w (.agg #[.int .i64 9,.int .i64 0,.slice none 0 0,.int .i64 0,.slice none 0 0])):=by
 obtain ⟨ao,ca,rfl,_,_⟩:=h.len;obtain ⟨bo,cb,rfl,_,_⟩:=ho.len;have HR:=Z3 h;have Pm:=Z3 hsz;have HG:=Z3 hg;have HBAD:=Z3 hb;have X0:Hid (Bq w (.slice ao ns.length ca) (.slice bo os.length cb) (((w.alloc (.cells #[.slice ao ns.length ca] 63)).alloc (.cells #[.slice bo os.length cb] 41)).alloc (.cells #[.int .i64 0,.int .i64 0,.slice none 0 0,.int .i64 0,.slice none 0 0] 194))):=Bq.new _ _ _ _ _ _;clear h ho hsz hb hg
 go_enter Tryz.func125,Tryz.ntmps125
 go_wp2_with fail
 generalize ((w.alloc _).alloc _).alloc _=w0 at *;refine (XE _ _ ns (HR.out.below X0.out.1) Pm.out).mono ?_;rintro e w1 ⟨rfl,b1⟩;have X1:=Z3 (X0.out.below b1);clear b1 X0;obtain ⟨-,zz,a0,a1,-⟩:=X1.out;have M:=Z3 (A0 w1 9 ((X1.out.1.cell (p:=⟨5,0,none⟩) h0).trans HG.out) (by omega));have tj:Hid (∀W,Calls Tryz.prog 164 #[.int .i64 z] W fun e w'=>e=.returned (.bool (decide (1≤z) && decide (z≤2147483647)))∧w'=W):=fun W=>Hn W z
 have hB:=HBAD.out;unfold VW at hB;clear HBAD
 cases ht:YY ns with
 | false =>
  clear hB
  go_wp2_with (first | (go_at_call 164;refine (tj.out _).mono ?_;rintro e w' ⟨rfl,rfl⟩) | (go_at_call 165;refine M.out.mono ?_))
  rintro e w2 ⟨rfl,b2⟩;have X2:=Z3 (X1.out.below b2);clear b2;obtain ⟨-,zz,-,-,⟨d0,d1,d2,d3,d4⟩,Z⟩:=X2.out;have f0:=Z 0;have f1:=Z 1;have f2:=Z 2;have f3:=Z 3;have f4:=Z 4;clear Z
  go_wp2_with fail
  refine ZS (v:=.agg #[.int .i64 9,.int .i64 0,.slice none 0 0,.int .i64 0,.slice none 0 0]) (by simp [results,Tryz.results125,go_sem,d0,d1,d2,d3,d4]) rfl ⟨rfl,X2.out.1.trans ?_⟩
  repeat (first | exact ZJ | refine Below.setCell ?_ (by simp;try omega) _)
 | true =>
  rw [ht,Qv] at hB;clear ht
  by_cases h1:1≤os.length
  · rw [Y3 h1,Qv] at hB
    have yC:¬(os.length:Int)<1:=by omega
    by_cases h2:os.length≤64
    · rw [Y3 h2,Qv] at hB
      have lD:¬(64:Int)<(os.length:Int):=by omega
      rw [hB] at tj;clear hB
      go_wp2_with (first | (go_at_call 164;refine (tj.out _).mono ?_;rintro e w' ⟨rfl,rfl⟩) | (go_at_call 165;refine M.out.mono ?_))
      rintro e w2 ⟨rfl,b2⟩;have X2:=Z3 (X1.out.below b2);clear b2;obtain ⟨-,zz,-,-,⟨d0,d1,d2,d3,d4⟩,Z⟩:=X2.out;have f0:=Z 0;have f1:=Z 1;have f2:=Z 2;have f3:=Z 3;have f4:=Z 4;clear Z
      go_wp2_with fail
      refine ZS (v:=.agg #[.int .i64 9,.int .i64 0,.slice none 0 0,.int .i64 0,.slice none 0 0]) (by simp [results,Tryz.results125,go_sem,d0,d1,d2,d3,d4]) rfl ⟨rfl,X2.out.1.trans ?_⟩
      repeat (first | exact ZJ | refine Below.setCell ?_ (by simp;try omega) _)
    have lD:(64:Int)<(os.length:Int):=by omega
    clear hB
    go_wp2_with (first | (go_at_call 164;refine (tj.out _).mono ?_;rintro e w' ⟨rfl,rfl⟩) | (go_at_call 165;refine M.out.mono ?_))
    rintro e w2 ⟨rfl,b2⟩;have X2:=Z3 (X1.out.below b2);clear b2;obtain ⟨-,zz,-,-,⟨d0,d1,d2,d3,d4⟩,Z⟩:=X2.out;have f0:=Z 0;have f1:=Z 1;have f2:=Z 2;have f3:=Z 3;have f4:=Z 4;clear Z
    go_wp2_with fail
    refine ZS (v:=.agg #[.int .i64 9,.int .i64 0,.slice none 0 0,.int .i64 0,.slice none 0 0]) (by simp [results,Tryz.results125,go_sem,d0,d1,d2,d3,d4]) rfl ⟨rfl,X2.out.1.trans ?_⟩
    repeat (first | exact ZJ | refine Below.setCell ?_ (by simp;try omega) _)
  have yC:(os.length:Int)<1:=by omega
  clear hB
  go_wp2_with (first | (go_at_call 164;refine (tj.out _).mono ?_;rintro e w' ⟨rfl,rfl⟩) | (go_at_call 165;refine M.out.mono ?_))
  rintro e w2 ⟨rfl,b2⟩;have X2:=Z3 (X1.out.below b2);clear b2;obtain ⟨-,zz,-,-,⟨d0,d1,d2,d3,d4⟩,Z⟩:=X2.out;have f0:=Z 0;have f1:=Z 1;have f2:=Z 2;have f3:=Z 3;have f4:=Z 4;clear Z
  go_wp2_with fail
  refine ZS (v:=.agg #[.int .i64 9,.int .i64 0,.slice none 0 0,.int .i64 0,.slice none 0 0]) (by simp [results,Tryz.results125,go_sem,d0,d1,d2,d3,d4]) rfl ⟨rfl,X2.out.1.trans ?_⟩
  repeat (first | exact ZJ | refine Below.setCell ?_ (by simp;try omega) _)
theorem Xp.rd {w:World} {base:Nat} {v:Value} {xs:List Int} (h:Xp w base v xs):Rd .u8 w v xs:=by
 obtain ⟨g,cap,rfl,h2,h3,h4,h5,h6,h7⟩:=h;refine ⟨_,cap,rfl,h4,h5,.inr ⟨g,0,rfl,h3,fun i hi=>?_⟩⟩;refine h6 i _ ?_;rw [Qs,Xc hi]
 simp [List.getD,hi]
theorem nE (w:World) (s:ByteArray) (hs:s.size≤1000) :
    ∃v W,(convert 9 22 (.string s)).run Tryz.prog w=.ok v W∧ZX w W∧Xp W w.heap.size v (XS s):=by
 have hr:=Lib.run_convert_string_bytes (P:=Tryz.prog) w 9 22 5 s Tryz.underlying9 Tryz.underlying22 Tryz.underlying5;have hge:=Jl w s.size 0 5;have hle:=Jk w s.size 0 5 (by unfold maxLen;omega);have hsz:=Lib.bytesWorld_size w 5 s;have hn:=Lib.bytesWorld_at_new w 5 s;have hq:(Lib.bytesCells w 5 s).size=grownCap w s.size 0 5:=by
  unfold Lib.bytesCells;rw [p9,Array.size_map,Ae];have:s.data.size=s.size:=rfl;omega
 refine ⟨_,_,hr,⟨rfl,rfl,rfl,by omega,fun k hk=>Lib.bytesWorld_at_old w _ _ k hk⟩,w.heap.size,_,by rw [YP],ZT,by omega,by rw [YP];exact hge,hle,?_,?_⟩
 · intro j u hj
   have hlt:j<s.size:=by
    have:=(UG.1 hj).1;rw [XJ,YP] at this;exact this
   rw [YK,Lib.bytesWorld_cell w 5 s j hlt,←hj];unfold XS;have h2:j<s.data.toList.length:=by rw [Gd];exact hlt
   rw [Qs,Qs,Xc h2]
   simp [List.getD,lu (show j<s.data.size from hlt)]
 intro j hj;rw [YK,Xn _ w.heap.size j _ _ _ hn];refine ⟨by rw [lu (by omega)];rfl,?_⟩
 simp [World.frozen?,hn]
 omega
def Yx (s:ByteArray) (zs:List Nat):List Int:=XS s++zs.flatMap fun z=>32 :: UU z
theorem j5 {u:Nat} (h:u<1000000):Lib.nDigits u≤20:=by
 rcases Nat.eq_zero_or_pos u with rfl | h0
 · rw [Lib.nDigits_small (by omega)];omega
 have:=Lib.numDigits_eq u (by omega) (by omega);split at this <;> omega
theorem Hm (zs:List Nat) (hz:∀z ∈ zs,z<1000000):(zs.flatMap fun z=>32 :: UU z).length≤21*zs.length:=by
 induction zs with
 | nil=>simp
 | cons z zs ih =>
  rw [FR,ZA,Yr,Nz,Yr];have:=ih (fun z hz'=>hz z (by simp [hz']));have:=j5 (hz z (by simp));omega
theorem Hl (w : World) (s : ByteArray) (v : Value) (zs : List Nat) (h : Rd .i64 w v (zs.map fun z : Nat => (z : Int))) (hs : s.size ≤ 1000) (hn : zs.length ≤ 1000) (hz : ∀ z ∈ zs, z < 1000000) (htab : Lib.TabIs Tryz.prog w "internal/strconv.uint64pow10" .u64 Lib.pow10Tab) :
    Calls Tryz.prog 71 #[.string s,v] w (YI w (.string (strOfNums (Yx s zs)))):=by
 obtain ⟨v5,w1,hr,hb1,ho1⟩:=nE w s hs;obtain ⟨ao,cp,rfl,hl1,hl2,hl3⟩:=h;rw [XJ] at hl1 hl3 ⊢;have HL:=Z3 hl3;have HT:=Z3 htab;have HZ:=Z3 hz;have O1:=Z3 ho1;have B1:=Z3 hb1;clear hl3 htab hz hb1 ho1
 go_enter Tryz.func71,Tryz.ntmps71
 go_wp2_with fail
 clear hr
 go_loopw [5,12] (fun v5 v12 wr=>∃i:Nat,v12=.int .i64 (i:Int)∧i≤zs.length∧Hid (Xp wr w.heap.size v5 (Yx s (zs.take i)))∧Hid (ZX w wr)) (fun _ v _=>((zs.length:Int) - intOf v).toNat)
 case atStart=>exact ⟨0,rfl,Zu _,by show Xp _ _ _ _;unfold Yx;rw [PO,uo,TX];exact O1.out,B1⟩
 case round =>
  obtain ⟨i,rfl,hi,OH,BH⟩:=hrel
  by_cases hc:i<zs.length
  · have hlen:(Yx s (zs.take i)).length≤1000+21*1000:=by
     unfold Yx;rw [ZA,YP];have:=Hm (zs.take i) (fun z hz=>HZ.out z (Ms hz));have:(zs.take i).length≤zs.length:=by rw [XU];omega
     omega
    have Z2:Hid (Yx s (zs.take (i+1))=Yx s (zs.take i)++XS ⟨#[32]⟩++UU zs[i]):=by
     show _=_;unfold Yx;rw [TL hc,MY,FR,uo,TX]
     simp [XS]
    have hzi:=HZ.out zs[i] (UO hc);obtain ⟨b,off,rfl,hb,hcl⟩:=HL.out.resolve_left (fun e=>by rw [List.map_eq_nil_iff] at e;rw [e] at hc;simp at hc);have hci:wr.cell? ⟨b,off+i,none⟩=some (.int .i64 (zs[i]:Int)):=by
     rw [BH.out.cell (p:=⟨b,off+i,none⟩) hb,hcl i hc]
     simp [List.getD,hc]
    clear hcl;have sB:=BH.out.size;generalize zs[i]=z at *
    go_wp2_with (at_builtin;go_must (refine VD rfl _ _ rfl w.heap.size _ (Yx s (zs.take i)) ⟨#[32]⟩ rfl rfl OH.out sB (ZF (Nat.add_le_add_right hlen 1) (by decide)) ?_))
    intro v2 w2 o2 g2;have O2:=Z3 o2;have B2:=Z3 (BH.out.grown g2 sB OH.out.lt);have s2:=B2.out.size;have HI:=Z3 (Fc w2 w.heap.size v2 _ z hzi O2.out s2 (by rw [ZA];exact ZF (Nat.add_le_add_right hlen 1) (by decide)) (Vi HT.out B2.out));clear o2 g2 OH BH sB
    go_wp2_with fail
    refine HI.out.mono ?_;rintro e w3 ⟨v3,rfl,o3,b3⟩;have O3:=Z3 o3;have B3:=Z3 (B2.out.trans b3);clear o3 b3 HI O2 B2
    go_wp2_with fail
    refine ⟨⟨i+1,by go_num,by omega,?_,B3⟩,by simp [intOf];omega⟩;show Xp _ _ _ _;rw [Z2.out];exact O3.out
  have hie:i=zs.length:=by omega
  subst hie;rw [Rw] at OH;have hcv:=WS OH.out.rd;go_wp2;go_ret;exact ⟨rfl,BH.out⟩
end Go.Proofs.YtpmjnbmkippaiaaGreatDoor
namespace Go.Proofs.YtpmjnbmkippaiaaGreatDoor
open Go.RowKit Go.Conc
theorem wO {w:World} {v:Value} {ns:List Nd} {g:Nat} (h:Wx w v ns) (hn:ns≠[]) (hb:w.heap[g]?=some (.cells #[.int .i64 0,.slice none 0 0] 132 (0,0))):∀q,v.ownBlock=some q→q≠g:=by
 obtain ⟨ao,cp,rfl,h1,h2,h3⟩:=h;obtain ⟨b,off,rfl,hlt,hcl⟩:=h3.resolve_left hn;rintro q hq rfl
 simp only [Value.ownBlock,Zo] at hq
 subst hq;have c0:=(hcl 0 (List.length_pos_iff.2 hn)).c0;rw [cell_of hb] at c0
 simp only [TK,Wi] at c0
 match off,c0 with
 | 0,c0=>simp at c0
 | 1,c0=>simp at c0
 | k+2,c0=>simp at c0
theorem j0 {w:World} {v:Value} {xs:List Int} {g:Nat} (h:Rd .u8 w v xs) (hn:0<xs.length) (hb:w.heap[g]?=some (.cells #[.int .i64 0,.slice none 0 0] 132 (0,0))):∀q,v.ownBlock=some q→q≠g:=by
 obtain ⟨ao,cp,rfl,h1,h2,h3⟩:=h;obtain ⟨b,off,rfl,hlt,hcl⟩:=h3.resolve_left (fun e=>by rw [e] at hn;simp at hn);rintro q hq rfl
 simp only [Value.ownBlock,Zo] at hq
 subst hq;have c0:=hcl 0 hn;rw [cell_of hb] at c0
 simp only [Wi] at c0
 match off,c0 with
 | 0,c0=>simp at c0
 | 1,c0=>simp at c0
 | k+2,c0=>simp at c0
theorem LB {w w':World} {v:Value} {ns:List Nd} (h:Wx w v ns) (hs:w.heap.size≤w'.heap.size) (hb:ns≠[]→∀q,v.ownBlock=some q→q<w.heap.size→w'.heap[q]?=w.heap[q]?):Wx w' v ns:=by
 by_cases e:ns=[]
 · obtain ⟨ao,cp,rfl,h1,h2,h3⟩:=h
   exact ⟨ao,cp,rfl,h1,h2,.inl e⟩
 exact Ys h hs (hb e)
theorem Sv.pq {κ:Sc} {σ:Sx} {w:World} (h:Sv κ σ w):∃v0,Tk κ v0∧Ph σ.pw w κ.sB (.pointer (some ⟨κ.mB,0,none⟩)) κ.S κ.L v0 σ.k w:=by
 obtain ⟨vd,made,ZQ,a1,a2,a3,a4,a5⟩:=h.dk;refine ⟨vd,a5,vd,od σ.pw,made,ZQ,[],fun _=>.slice none 0 0,a1,?_,a3,Zu _,fun i=>by simp [pD],a4,?_,.inl rfl,Gr.refl _,a1.lt⟩
 · cases hp:σ.pw with
   | none=>exact LL a2
   | some g =>
    obtain ⟨q1,q2,q3,q4,q5,q6⟩:=h.pw g hp;have hr:w.ownsRow (κ.sB+1) 132 2 (.slice (some ⟨g,0,none⟩) 0 1) 0 []:=⟨rfl,.inr ⟨g,1,_,rfl,q2,q1,Zu _,by decide,rfl,rfl⟩⟩;refine ⟨a2,⟨hr,fun i hi=>by simp at hi,fun i j hi=>by simp at hi,fun i hi=>by simp at hi⟩,fun q hq=>(ZD a2 q hq).2,fun q hq=>?_,fun i hi=>by simp at hi,?_,fun i hi=>by simp at hi⟩
    · exact (ZD hr q hq).2
    refine .inr (fun e=>?_)
    rcases a2.2 with ⟨rfl,-⟩ | ⟨g9,cap,cur,rfl,-,oe,-⟩
    · simp [od,Value.ownBlock] at e
    simp only [od,Value.ownBlock,Zo] at e
    subst e;rw [oe] at q1
    injection q1 with q1
    injection q1 with _ h2
    exact absurd h2 (by decide)
 intro g hg
 cases hp:σ.pw with
 | none=>rw [hp] at hg;simp [od,Value.ownBlock] at hg
 | some g9=>rw [hp] at hg;simp only [od,Value.ownBlock,Zo] at hg;exact .inr (by rw [hg])
theorem Sv.ended {κ:Sc} {σ:Sx} {w w':World} {v0:Value} {k:Nat} (h:Sv κ σ w) (hv:Tk κ v0) (hp:Pq σ.pw w κ.sB (.pointer (some ⟨κ.mB,0,none⟩)) κ.S κ.L v0 k w') (hsp:σ.pw=none∨σ.sn=none):Sv κ { σ with k:=k,pw:=none } w'∧Gw κ w w':=by
 obtain ⟨vd,made,ZQ,h1,h2,h3,h4,h5,h6,h7⟩:=hp;obtain ⟨vt,vq,cp,b1,b2,b3,b4,b5,b6,b7,b8⟩:=h.mm;obtain ⟨Lv,s,r,c1,c2,c3⟩:=h.ch;have hne:=h.ne;have hs:=h6.size;have hbl:∀q,q<w.heap.size→q≠κ.sB→(∀g,σ.pw=some g→q≠g)→w'.heap[q]?=w.heap[q]?:=fun q hq hn hg=>h6.block q hq hn (fun e=>hg q e.symm rfl)
 have hlb:κ.lb<w.heap.size:=(b7.lt κ.lb rfl).2;have hcb:κ.c<w.heap.size:=(Yh.mp c1).1;have hmb:=b1.lt;refine ⟨⟨hne,fun x hx=>⟨ZL (h.fx x hx).1 hs,(h.fx x hx).2⟩,⟨vd,made,ZQ,h1,h2,h3,h4,?_⟩,⟨vt,vq,cp,YN b1 hs (hbl _ b1.lt hne.1.symm (fun g hg=>Ne.symm (h.pw g hg).2.2.1)),LB b2 hs (fun e q hq hl=>hbl q hl (b5 q hq).1 (fun g hg=>wO b2 e (h.pw g hg).1 q hq)),LB b3 hs (fun e q hq hl=>hbl q hl (b6 q hq).1 (fun g hg=>wO b3 e (h.pw g hg).1 q hq)),b4,b5,b6,?_,b8⟩,⟨Lv,s,r,(hbl _ hcb hne.2.1.symm (fun g hg=>Ne.symm (h.pw g hg).2.2.2.1)).trans c1,⟨c2.1,fun i hi=>⟨Vo (c2.2 i hi).1 hs (fun q hq hl=>hbl q hl (c3 i hi q hq).1 (fun g hg=>j0 (c2.2 i hi).1 (c2.2 i hi).2 (h.pw g hg).1 q hq)),(c2.2 i hi).2⟩⟩,c3⟩,fun p hp=>?_,nZ.none⟩,⟨h6.os,h6.tape,h6.output,hs,fun q hq a _ _ _ _ e=>hbl q hq a (fun g hg e9=>e (by rw [e9];exact (h.pw g hg).2.1) (by rw [e9,cell_of (h.pw g hg).1];rfl))⟩⟩
 · rcases h5 with rfl | h5
   · exact hv
   intro q hq;have:=h5 q hq;have h8:=Qe h2 q hq;refine ⟨by omega,by omega,by omega,by omega,fun hx=>?_⟩;have:=(h.fx q hx).1;omega
 · obtain ⟨g9,lo,fQ,pre,e1,e2,e3⟩:=b7
   refine ⟨g9,lo,fQ,pre,e1,e2,e3.1,e3.2.imp id ?_⟩;rintro ⟨q,cap,cur,e4,e5,e6,e7⟩;have hq:q=κ.lb:=by
    simp only [Y4,Zo,JD] at e4 e1
    omega
   refine ⟨q,cap,cur,e4,e5,(hbl q (Yh.mp e6).1 (by rw [hq];exact hne.2.2.1.symm) (fun g hg=>by rw [hq];exact Ne.symm (h.pw g hg).2.2.2.2.1)).trans e6,e7⟩
 obtain ⟨p1,p2⟩:=h.sn p hp;refine ⟨p1.same (hbl _ p1.lt (zG p2.1) (fun g hg=>?_)),p2⟩
 rcases hsp with e | e
 · rw [e] at hg;cases hg
 rw [show σ.sn=some p from hp] at e;cases e
def iD (κ : Sc) (w : World) : Prop := ∀ W, Gw κ w W → Lib.TabIs Tryz.prog W "internal/strconv.uint64pow10" .u64 Lib.pow10Tab
theorem Tf (w : World) (s : ByteArray) (z : Nat) (hs : s.size ≤ 1000) (hz : z < 1000000) (htab : Lib.TabIs Tryz.prog w "internal/strconv.uint64pow10" .u64 Lib.pow10Tab) :
    Calls Tryz.prog 71 #[.string s,.slice (some ⟨w.heap.size,0,none⟩) 1 1] (w.alloc (.cells #[.int .i64 (z:Int)] 2)) (YI w (.string (strOfNums (Yx s [z])))):=by
 have hb:=(Below.refl w.heap.size w).alloc ZT (.cells #[.int .i64 (z:Int)] 2);refine (Hl _ s _ [z] ⟨_,1,rfl,ZT,by decide,.inr ⟨w.heap.size,0,rfl,by simp,fun i hi=>?_⟩⟩ hs (by simp) (by simpa using hz) (Vi htab hb)).mono ?_
 · have:i=0:=by simpa using hi
   subst this;rw [Xn _ w.heap.size (0+0) _ _ _ (Y9 w _)]
   rfl
 rintro e w' ⟨rfl,b⟩;exact ⟨rfl,YV hb b⟩
theorem Sv.sc {κ:Sc} {σ:Sx} {w W:World} {x y:Nat} (h:Sv κ σ w) (hb:ZX w W) (hn:σ.sn=none) (hp:uD (W.setCell ⟨κ.mB,12,none⟩ (.pointer (some ⟨w.heap.size,0,none⟩))) (w.heap.size,x,y) false) :
    Sv κ { σ with sn:=some (w.heap.size,x,y),em:=false } (W.setCell ⟨κ.mB,12,none⟩ (.pointer (some ⟨w.heap.size,0,none⟩)))∧Gs κ w (W.setCell ⟨κ.mB,12,none⟩ (.pointer (some ⟨w.heap.size,0,none⟩))):=by
 obtain ⟨vd,made,ZQ,a1,a2,a3,a4,a5⟩:=h.dk;obtain ⟨vt,vq,cp,b1,b2,b3,b4,b5,b6,b7,b8⟩:=h.mm;obtain ⟨Lv,s,r,c1,c2,c3⟩:=h.ch;have hne:=h.ne;have hs:w.heap.size≤(W.setCell ⟨κ.mB,12,none⟩ (.pointer (some ⟨w.heap.size,0,none⟩))).heap.size:=by simpa using hb.size
 have hbl:∀q,q<w.heap.size→q≠κ.mB→(W.setCell ⟨κ.mB,12,none⟩ (.pointer (some ⟨w.heap.size,0,none⟩))).heap[q]?=w.heap[q]?:=fun q hq hn=>(Below.heap_setCell W ⟨κ.mB,12,none⟩ _ q hn).trans (hb.block q hq)
 have hlb:κ.lb<w.heap.size:=(b7.lt κ.lb rfl).2;have hcb:κ.c<w.heap.size:=(Yh.mp c1).1;have hmb:=b1.lt;have hsb:=a1.lt;refine ⟨⟨hne,fun x hx=>⟨ZL (h.fx x hx).1 hs,(h.fx x hx).2⟩,⟨vd,made,ZQ,YN a1 hs (hbl _ hsb hne.1),(a2.below hb).setAt (.inr (fun e=>(a5 _ e).2.1 rfl)),a3,a4,a5⟩,⟨vt,vq,cp,(b1.below hb).set 12 _,Ys b2 hs (fun q hq hl=>hbl q hl (b5 q hq).2.1),Ys b3 hs (fun q hq hl=>hbl q hl (b6 q hq).2.1),b4,b5,b6,(b7.below hb).setAt (.inr (by simp [Value.ownBlock];exact fun e=>hne.2.2.2.2.1 e.symm)),b8⟩,⟨Lv,s,r,(hbl _ hcb hne.2.2.2.1.symm).trans c1,⟨c2.1,fun i hi=>⟨Vo (c2.2 i hi).1 hs (fun q hq hl=>hbl q hl (c3 i hi q hq).2.1),(c2.2 i hi).2⟩⟩,c3⟩,fun p hp'=>?_,h.pw.keep (fun g hl _ h2 _ _ _ _=>hbl g hl h2)⟩,⟨hb.os,hb.tape,hb.output,hs,fun q hq _ h2 _ _=>hbl q hq h2⟩⟩
 cases hp'
 exact ⟨hp,by omega,by omega,by omega,by omega,fun hx=>by have:=(h.fx _ hx).1;omega⟩
theorem wN (κ:Sc) (σ:Sx) (w:World) (h:Sv κ σ w) (hk:σ.k≤9000) (hsn:σ.sn=none) (hz:σ.zf<1000000) (hfl:σ.full.length≤4096) (htab:iD κ w) :
    Calls Tryz.prog 76 #[.pointer (some ⟨κ.sB,0,none⟩)] w fun e w'=>e=.returned (.string (strOfNums (Yx ⟨#[115,116,97,114,116,101,100]⟩ [σ.zf])))∧Gw κ w w'∧∃pB,Sv κ { σ with k:=σ.k+1,pw:=none,sn:=some (pB,σ.zf,σ.full.length - σ.off),em:=false } w':=by
 obtain ⟨v0,hv0,hp⟩:=h.pq;obtain ⟨vt,vq,cp,b1,-⟩:=h.mm;obtain ⟨vd,made,ZQ,a1,-⟩:=h.dk;have c0:=a1.cl 0 _ rfl;have m13:=b1.cl 13 _ rfl;have m12:=b1.cl 12 _ rfl;rw [hsn] at m12;have Zx:Hid (Calls Tryz.prog 114 #[.pointer (some ⟨κ.sB,0,none⟩)] w fun e w'=>e=.returned (.tuple #[])∧Pq σ.pw w κ.sB (.pointer (some ⟨κ.mB,0,none⟩)) κ.S κ.L v0 (σ.k+1) w'∧KW κ.sB w w'):=Kt hp hk;have HV:=Z3 h;clear hp a1 b1 h
 go_enter Tryz.func76,Tryz.ntmps76
 go_wp2_with fail
 refine Zx.out.mono ?_;rintro e w1 ⟨rfl,p1,-⟩;obtain ⟨V1,G1⟩:=HV.out.ended hv0 p1 (.inr hsn);obtain ⟨ZY,ZN,Y,b1,-⟩:=V1.mm;obtain ⟨ZK,O,Z4,a1,-⟩:=V1.dk;have A1:Hid (St w1.drew κ.sB (Ku (.pointer (some ⟨κ.mB,0,none⟩)) κ.S κ.L ZK (.slice none 0 0) O)):=a1.below (below_drewN' w1 1);have M1:Hid (St w1.drew κ.mB (Ai κ { σ with k:=σ.k+1,pw:=none } ZY ZN Y)):=b1.below (below_drewN' w1 1);have V2:Hid (Sv κ { σ with k:=σ.k+1,pw:=none } w1.drew):=V1.below (below_drewN' w1 1);have G2:Hid (Gw κ w w1.drew):=G1.trans (Gs.ZV (below_drewN' w1 1)).gw;clear c0 m13 m12 p1 a1 b1 Zx V1 G1 HV;have c0:w1.drew.cell? ⟨κ.sB,0,none⟩=some (.pointer (some ⟨κ.mB,0,none⟩)):=A1.out.cl 0 _ rfl;have m1:w1.drew.cell? ⟨κ.mB,1,none⟩=some (.int .i64 (σ.zf:Int)):=M1.out.cl 1 _ rfl;obtain ⟨la,hla⟩:∃x,x=κ.lo+(if σ.off=Y then 0 else σ.off):=⟨_,rfl⟩;have m11:w1.drew.cell? ⟨κ.mB,11,none⟩=some (.slice (some ⟨κ.lb,la,none⟩) (σ.full.length - σ.off) (Y - σ.off)):=by rw [hla];exact M1.out.cl 11 _ rfl
 have Sn:=Z3 hla;clear hla
 go_wp2_with fail
 refine ZH (S:=fun W=>W.cell? ⟨κ.sB,0,none⟩=some (.pointer (some ⟨κ.mB,0,none⟩))∧W.cell? ⟨κ.mB,1,none⟩=some (.int .i64 (σ.zf:Int))∧W.cell? ⟨κ.mB,11,none⟩=some (.slice (some ⟨κ.lb,la,none⟩) (σ.full.length - σ.off) (Y - σ.off))) (by kernel_rfl) ⟨c0,m1,m11⟩ (fun Z9=>?_);clear c0 m1 m11;generalize w1.drew=w2 at *
 iterate 21 (refine ZW ?_ Z9 ?_ ?_;rotate_left;· intro w9 Z0;obtain ⟨k0,k1,k2⟩:=Z0;go_simp;try with_reducible rfl)
 refine ZU 21 rfl (fun K hK=>?_);go_simp;have bA:=(Below.refl w2.heap.size w2).alloc ZT (.cells #[.int .i64 (σ.zf:Int),.int .i64 ((σ.full.length - σ.off:Nat):Int),.string ⟨#[]⟩,.slice none 0 0] 186);refine hK.out _ _ ⟨(bA.cell (p:=⟨κ.sB,0,none⟩) A1.out.lt).trans Z9.1,(bA.cell (p:=⟨κ.mB,1,none⟩) M1.out.lt).trans Z9.2.1,(bA.cell (p:=⟨κ.mB,11,none⟩) M1.out.lt).trans Z9.2.2⟩ (fun ZM=>?_);clear hK K
 iterate 2 (refine ZW ?_ Z9 ?_ ?_;rotate_left;· intro w9 Z0;obtain ⟨k0,k1,k2⟩:=Z0;go_simp;try with_reducible rfl)
 refine ZU 24 rfl (fun K hK=>?_);have M2:=M1.out.Zc bA M1.out.lt;have A2:=A1.out.Zc bA A1.out.lt;have m12:=M2.cl 12 _ rfl;have f12:=M2.fz 12;go_simp;have M3:=M2.set 12 (.pointer (some ⟨w2.heap.size,0,none⟩));have A3:=A2.other (c:=κ.mB) (j:=12) (x:=.pointer (some ⟨w2.heap.size,0,none⟩)) V2.out.ne.1;have P3:=(St.new w2 #[.int .i64 (σ.zf:Int),.int .i64 ((σ.full.length - σ.off:Nat):Int),.string ⟨#[]⟩,.slice none 0 0] 186).other (c:=κ.mB) (j:=12) (x:=.pointer (some ⟨w2.heap.size,0,none⟩)) (by have:=M1.out.lt;omega);have SB:uD ((w2.alloc (.cells #[.int .i64 (σ.zf:Int),.int .i64 ((σ.full.length - σ.off:Nat):Int),.string ⟨#[]⟩,.slice none 0 0] 186)).setCell ⟨κ.mB,12,none⟩ (.pointer (some ⟨w2.heap.size,0,none⟩))) (w2.heap.size,σ.zf,σ.full.length - σ.off) false:=⟨by simp,fun _=>(Below.heap_setCell _ ⟨κ.mB,12,none⟩ _ w2.heap.size (by have:=M1.out.lt;show w2.heap.size≠κ.mB;omega)).trans (Y9 w2 _)⟩;have F3:=Z3 (V2.out.sc bA hsn SB);have T3:=Z3 (htab _ (G2.out.trans F3.out.2.gw));have G3:=Z3 (G2.out.trans F3.out.2.gw);refine hK.out _ _ ⟨A3.cl 0 _ rfl,M3.cl 1 _ rfl,by rw [Sn.out];exact M3.cl 11 _ rfl⟩ (fun ZM=>?_);have c0:=A3.cl 0 _ rfl;have YS:=M3.cl 12 _ rfl;have p0:=P3.cl 0 _ rfl;clear hK K SB m12 f12 bA M2 A2 M3 A3 P3 Z9 ZM;refine ZP (by kernel_rfl) ?_ _
 try simp only [Act.put,Y8,Y7,Y6]
 generalize (w2.alloc _).setCell _ _=w3 at *
 go_wp2_with fail
 refine (Tf w3 ⟨#[115,116,97,114,116,101,100]⟩ σ.zf (by decide) hz T3.out).mono ?_;rintro e w4 ⟨rfl,b4⟩;have FIN:=Z3 (And.intro (G3.out.trans (Gs.ZV b4).gw) (F3.out.1.below b4));clear b4 F3 T3 G3;go_wp2;go_ret;exact ⟨rfl,FIN.out.1,_,FIN.out.2⟩
theorem Sk (w:World) (sB mB:Nat) (b:Int) (hb:0≤b∧b≤1) (h0:w.cell? ⟨sB,0,none⟩=some (.pointer (some ⟨mB,0,none⟩))) (h7:w.cell? ⟨mB,7,none⟩=some (.int .i64 b)) :
    Calls Tryz.prog 123 #[.pointer (some ⟨sB,0,none⟩)] w (YI w (.int .i64 (1 - b))):=by
 go_enter Tryz.func123,Tryz.ntmps123
 go_wp2;go_ret;exact ⟨rfl,ZJ⟩
theorem MI (w:World) (pB:Nat) (v:Value) (ns:List Nd) (h2:w.cell? ⟨pB,2,none⟩=some (.string ⟨#[]⟩)) (h:Wx w v ns) (hn:ns.length≤1000) (hL:Low ns ⟨#[]⟩ 0) (hf:Q1 ns ⟨#[]⟩ 0=false) :
    Calls Tryz.prog 121 #[.pointer (some ⟨pB,0,none⟩),v] w (YI w v):=by
 have HF:=Z3 (Ul w v ns ⟨#[]⟩ 0 h hn hL);rw [hf] at HF;obtain ⟨ao,cp,rfl,h1,h3⟩:=h.len;clear h hL hf
 go_enter Tryz.func121,Tryz.ntmps121
 go_wp2_with fail
 refine HF.out.mono ?_;rintro e w1 ⟨rfl,b1⟩;have B1:=Z3 b1;clear b1 HF h2
 go_wp2_with fail
 exact ⟨rfl,_,by kernel_rfl,rfl,B1.out⟩
theorem wM (w:World) (pB:Nat) (c0 c1:Value) (v:Value) (ns:List Nd) (hs:St w pB [c0,c1,.string ⟨#[]⟩,.slice none 0 0]) (h:Wx w v ns) (hn:ns.length≤1000) (hp:∀q,v.ownBlock=some q→q≠pB) (hok:∀i,i<ns.length→YL (ZC ns i)=true) (hl:(ns.flatMap Yi).length≤1000000) :
    Calls Tryz.prog 122 #[.pointer (some ⟨pB,0,none⟩),v] w fun e w'=>e=.returned (.tuple #[])∧∃l' v',St w' pB [c0,c1,.string l',v']∧Own .u8 5 w' w.heap.size v' (ns.flatMap Yi)∧w.grownBy w' (some pB):=by
 obtain ⟨ao,cp,rfl,h1,h3,h4⟩:=h;have HR:=Z3 h4;have HS:=Z3 hs;have HP:=Z3 hp;have HK:=Z3 hok;have HL:=Z3 hl;have hlt:=hs.lt;clear h4 hs hp hok hl
 go_enter Tryz.func122,Tryz.ntmps122
 go_wp2_with fail
 go_loopw [9] (fun v9 wr=>∃(i:Nat) (l':ByteArray) (v':Value),v9=.int .i64 (i:Int)∧i≤ns.length∧Hid (St wr pB [c0,c1,.string l',v'])∧Hid (Own .u8 5 wr w.heap.size v' ((ns.take i).flatMap Yi))∧Hid (w.grownBy wr (some pB))) (fun v _=>((ns.length:Int) - intOf v).toNat)
 case atStart=>exact ⟨0,⟨#[]⟩,.slice none 0 0,rfl,Zu _,HS,Zl _ _ _ _,YT _ _⟩
 case round =>
  obtain ⟨i,l',v',rfl,hi,SH,OH,GH⟩:=hrel
  by_cases hc:i<ns.length
  · obtain ⟨b,off,rfl,hb,hcl⟩:=HR.out.resolve_left (fun e=>by rw [e] at hc;simp at hc)
    have hbp:=HP.out b rfl;have e9:∀j,wr.cell? ⟨b,j,none⟩=w.cell? ⟨b,j,none⟩:=fun j=>Zj (w:=w) (a:=⟨b,j,none⟩) (GH.out.block b hb (fun e=>hbp (by injection e)))
    have hN:=hcl i hc;have k0:=(e9 _).trans hN.c0;have k1:=(e9 _).trans hN.c1;have k2:=(e9 _).trans hN.c2;have k3:=(e9 _).trans hN.c3;have k4:=(e9 _).trans hN.c4;have k5:=(e9 _).trans hN.c5;have k6:=(e9 _).trans hN.c6;have Zf:=HK.out i hc;have p3:=SH.out.cl 3 _ rfl;have hle:((ns.take (i+1)).flatMap Yi)=((ns.take i).flatMap Yi)++Yi (ZC ns i):=by
     rw [TL hc,MY,YZ hc];simp
    have hll:((ns.take i).flatMap Yi).length≤1000000:=by
     refine ZF ?_ HL.out
     conv=>rhs;rw [←VC i ns,MY,ZA]
     omega
    have lW:=Z3 hle;have Ze:=Z3 hll;have gs:=GH.out.size;have hpw:=SH.out.lt;clear hcl e9 hN hle hll;generalize hnd:ZC ns i=nd at *;have HB:=Z3 (Of.new wr (.cells #[.string nd.path,.string nd.data,.int .i64 nd.Zy,.int .i64 nd.Zw,.int .i64 nd.cz,.int .i64 nd.mz,.int .i64 nd.pz] 147) nd);have hb2:=((Below.refl wr.heap.size wr).alloc ZT (.cells #[.string nd.path,.string nd.data,.int .i64 nd.Zy,.int .i64 nd.Zw,.int .i64 nd.cz,.int .i64 nd.mz,.int .i64 nd.pz] 147)).alloc (by simp) (.cells #[.string nd.path,.string nd.data,.int .i64 nd.Zy,.int .i64 nd.Zw,.int .i64 nd.cz,.int .i64 nd.mz,.int .i64 nd.pz] 149);have Tq:Hid (((wr.alloc (.cells #[.string nd.path,.string nd.data,.int .i64 nd.Zy,.int .i64 nd.Zw,.int .i64 nd.cz,.int .i64 nd.mz,.int .i64 nd.pz] 147)).alloc (.cells #[.string nd.path,.string nd.data,.int .i64 nd.Zy,.int .i64 nd.Zw,.int .i64 nd.cz,.int .i64 nd.mz,.int .i64 nd.pz] 149)).heap[wr.heap.size]?=some (.cells #[.string nd.path,.string nd.data,.int .i64 nd.Zy,.int .i64 nd.Zw,.int .i64 nd.cz,.int .i64 nd.mz,.int .i64 nd.pz] 147)):=(Below.heap_alloc _ _ _ (by simp)).trans (Y9 wr _);have HC:=Z3 (Tr _ w.heap.size v' _ (wr.heap.size+1) nd (OH.out.below hb2) (ZF gs hb2.size) Ze.out HB.out Zf);have Zv:=Z3 (SH.out.below hb2);have J:=Z3 hb2;clear hb2
    go_wp2_with fail
    refine HC.out.mono ?_;rintro e w3 ⟨v3,rfl,o3,b3,Zt⟩;obtain ⟨a3,q3,rfl⟩:=o3.slice;have B:=Zv.out.Zc b3 hlt;have n3:=Zt.box Tq.out (by decide);have Zr:w.grownBy w3 (some pB):=⟨b3.os.trans (J.out.os.trans GH.out.os),b3.tape.trans (J.out.tape.trans GH.out.tape),b3.output.trans (J.out.output.trans GH.out.output),ZF gs (ZF J.out.size b3.size),fun q hq hne=>(b3.block q hq).trans ((J.out.block q (ZL hq gs)).trans (GH.out.block q hq hne))⟩;have hnb:wr.heap.size≠pB:=by omega
    have f3:=B.fz 3;have YF:=B.cl 3 _ rfl;have l:=B.set 3 (.slice a3 (((ns.take i).flatMap Yi)++Yi nd).length q3);have n4:(w3.setCell ⟨pB,3,none⟩ (.slice a3 (((ns.take i).flatMap Yi)++Yi nd).length q3)).cell? ⟨wr.heap.size,0,none⟩=some (.string nd.path):=by
     rw [Zs _ _ _ _ (by intro e;injection e with e1;first | exact hnb e1 | exact hnb e1.symm),cell_of n3 0]
     rfl
    have f2:=l.fz 2;have YE:=l.cl 2 _ rfl;have Zb:=Z3 (l.set 2 (.string nd.path));have Za:=Z3 (grownBy_set w _ pB 2 (.string nd.path) (grownBy_set w w3 pB 3 (.slice a3 (((ns.take i).flatMap Yi)++Yi nd).length q3) Zr));have O5:=Z3 ((o3.setAt (g:=pB) (j:=3) (u:=.slice a3 (((ns.take i).flatMap Yi)++Yi nd).length q3) (.inr (above o3 hlt))).setAt (g:=pB) (j:=2) (u:=.string nd.path) (.inr (above o3 hlt)));generalize hX:((ns.take i).flatMap Yi)++Yi nd=X at *;clear B l o3 b3 Zt n3 Zr HC HB Tq Zv J SH OH GH k0 k1 k2 k3 k4 k5 k6
    go_wp2_with fail
    refine ⟨⟨i+1,_,_,by go_num,by omega,Zb,?_,Za⟩,by simp [intOf];omega⟩;show Own _ _ _ _ _ _;rw [lW.out];exact O5.out
  have hie:i=ns.length:=by omega
  subst hie;rw [Rw] at OH
  go_wp2_with fail
  exact ⟨rfl,_,by kernel_rfl,rfl,l',v',SH.out,OH.out,GH.out⟩
theorem wK {P:Program} {c:Code} {Q Q':Exit→Act→World→Prop} {a:Act} {w:World} (h:JG P c Q a w) (hq:∀e a w,Q e a w→Q' e a w):JG P c Q' a w:=fun b k cs hb =>
 let ⟨e,a',w',q,r⟩:=h b k cs hb
 ⟨e,a',w',hq _ _ _ q,r⟩
theorem rZ {P:Program} {x y:Code} {Q:Exit→Act→World→Prop} {a:Act} {w:World} (R:Act→World→Prop) (h2:∀a w,R a w→JG P y Q a w) (h1:JG P x (Exit.then R Q) a w):JG P (Code.seq x y) Q a w :=
 Dp (wK h1 fun e a w h=>by
  cases e with
  | normal=>exact h2 a w h
  | _=>exact h)
theorem AX {ns:List Nd} (h:∀i,i<ns.length→0<(ZC ns i).path.size):Low ns ⟨#[]⟩ 0∧Q1 ns ⟨#[]⟩ 0=false:=by
 have hc:∀p:ByteArray,0<p.size→¬Ts p ⟨#[]⟩<0∧Ts p ⟨#[]⟩≠0:=by
  intro p hp;unfold Ts;have:0<p.data.toList.length:=by rw [Gd];exact hp
  cases hl:p.data.toList with
  | nil=>rw [hl] at this;simp at this
  | cons x xs=>constructor <;> simp [Lib.compareBytes]
 refine ⟨⟨Zu _,fun i hi=>by omega,fun i _ hi=>(hc _ (h i hi)).1⟩,?_⟩;unfold Q1
 by_cases h0:0<ns.length
 · have:=(hc _ (h 0 h0)).2
   simp [this]
 simp at h0
 simp [h0]
end Go.Proofs.YtpmjnbmkippaiaaGreatDoor
namespace Go.Proofs.YtpmjnbmkippaiaaGreatDoor
open Go.RowKit Go.Shelf
theorem Hk (w:World):Calls Tryz.prog 29 #[.nilIface] w (YI w (.tuple #[.agg #[.slice none 0 0],.bool false])):=by
 go_enter Tryz.func29,Tryz.ntmps29
 go_wp2_with fail
 refine ZS (v:=.tuple #[.agg #[.slice none 0 0],.bool false]) (by simp [results,Tryz.results29,go_sem]) rfl ⟨rfl,?_⟩;exact ZJ.alloc ZT _
theorem AW (w:World) (p q:Value) :
    CallsD Tryz.prog 28 #[p,q] .returning w fun e u' w'=>e=.returned (.tuple #[])∧u'=.returning∧ZX w w':=by
 refine Jm Tryz.func28 rfl fun c₀ cs hu=>?_
 refine wpS_seq ?_;apply Mc
 simp [wpOpsS,go_sem,recoverD,hu,Tryz.ntmps28]
 refine (Hk w).mono ?_;rintro e w1 ⟨rfl,b1⟩
 simp [go_sem]
 have B2:ZX w (w1.alloc (.cells #[.slice none 0 0] 79)):=b1.alloc b1.size _;refine wpS_seq ?_;apply Mc
 simp [wpOpsS,go_sem]
 refine wpS_cond (t:=false) (by simp [go_sem]) ?_;refine wpS_of_wp ?_
 go_wp2_with fail
 cases c₀
 simp_all [bodyPostS,results,Tryz.results28]
end Go.Proofs.YtpmjnbmkippaiaaGreatDoor
namespace Go.Proofs.YtpmjnbmkippaiaaGreatDoor
open Go.RowKit Go.Conc
theorem LA {w:World} {v:Value} {ns:List Nd} (h:Wx w v ns) (hn:ns≠[]):∀q,v.ownBlock=some q→q<w.heap.size:=by
 obtain ⟨ao,cp,rfl,h1,h2,h3⟩:=h;obtain ⟨b,off,rfl,hb,-⟩:=h3.resolve_left hn;intro q hq
 simp only [Value.ownBlock,Zo] at hq
 omega
theorem wJ {k:IntKind} {w:World} {v:Value} {xs:List Int} (h:Rd k w v xs) (hn:0<xs.length):∀q,v.ownBlock=some q→q<w.heap.size:=by
 obtain ⟨ao,cp,rfl,h1,h2,h3⟩:=h;obtain ⟨b,off,rfl,hb,-⟩:=h3.resolve_left (fun e=>by rw [e] at hn;simp at hn);intro q hq
 simp only [Value.ownBlock,Zo] at hq
 omega
theorem Sv.boxed {κ:Sc} {σ:Sx} {w W:World} {b:Nat} (h:Sv κ σ w) (hb:ZX w W) (h1:w.heap.size≤b) (h2:b<W.heap.size) (hT:σ.T≠[]) (hQ:σ.Q≠[]):Sv { κ with X:=b :: κ.X } σ W:=by
 have hW:=h.below hb;obtain ⟨vd,made,ZQ,a1,a2,a3,a4,a5⟩:=h.dk;obtain ⟨vt,vq,cp,b1,b2,b3,b4,b5,b6,b7,b8⟩:=h.mm;obtain ⟨Lv,s,r,c1,c2,c3⟩:=h.ch;have hlb:κ.lb<w.heap.size:=(b7.lt κ.lb rfl).2;have hcb:κ.c<w.heap.size:=(Yh.mp c1).1;have hmb:=b1.lt;have hsb:=a1.lt;have far:∀v,Tk κ v→(∀q,v.ownBlock=some q→q<w.heap.size)→Tk { κ with X:=b :: κ.X } v:=fun v hv hl q hq =>
  ⟨(hv q hq).1,(hv q hq).2.1,(hv q hq).2.2.1,(hv q hq).2.2.2.1,by
   have:=hl q hq
   simp only [Yz,not_or]
   exact ⟨by omega,(hv q hq).2.2.2.2⟩⟩
 refine ⟨h.ne,fun x hx=>?_,⟨vd,made,ZQ,a1.below hb,a2.below hb,a3,a4,far vd a5 (fun q hq=>(ZD a2 q hq).2)⟩,⟨vt,vq,cp,b1.below hb,b2.below hb,b3.below hb,b4,far vt b5 (LA b2 hT),far vq b6 (LA b3 hQ),b7.below hb,b8⟩,⟨Lv,s,r,(hb.block _ hcb).trans c1,⟨c2.1,fun i hi=>⟨(c2.2 i hi).1.below hb,(c2.2 i hi).2⟩⟩,fun i hi=>far _ (c3 i hi) (wJ (c2.2 i hi).1 (c2.2 i hi).2)⟩,fun p hp=>?_,fun g hg=>?_⟩
 · simp only [Yz] at hx
   rcases hx with rfl | hx
   · exact ⟨h2,by show _≠κ.sB;omega,by show _≠κ.mB;omega,by show _≠κ.c;omega,by show _≠κ.lb;omega⟩
   exact ⟨ZL (h.fx x hx).1 hb.size,(h.fx x hx).2⟩
 · obtain ⟨p1,p2,p3,p4,p5,p6⟩:=h.sn p hp
   refine ⟨p1.same (hb.block _ p1.lt),p2,p3,p4,p5,?_⟩;have:=p1.lt
   simp only [Yz,not_or]
   exact ⟨by omega,p6⟩
 obtain ⟨q1,q2,q3,q4,q5,q6⟩:=h.pw g hg;have hl:=(Yh.mp q1).1;refine ⟨(hb.block g hl).trans q1,q2,q3,q4,q5,?_⟩
 simp only [Yz,not_or]
 exact ⟨by omega,q6⟩
theorem Sv.rY {κ:Sc} {σ:Sx} {w:World} {b j:Nat} {x:Value} (h:Sv { κ with X:=b :: κ.X } σ w):Sv κ σ (w.setCell ⟨b,j,none⟩ x):=by
 obtain ⟨vd,made,ZQ,a1,a2,a3,a4,a5⟩:=h.dk;obtain ⟨vt,vq,cp,b1,b2,b3,b4,b5,b6,b7,b8⟩:=h.mm;obtain ⟨Lv,s,r,c1,c2,c3⟩:=h.ch;obtain ⟨f0,f1,f2,f3,f4⟩:=h.fx b (by simp);have hs:w.heap.size≤(w.setCell ⟨b,j,none⟩ x).heap.size:=by simp
 have hbl:∀q,q≠b→(w.setCell ⟨b,j,none⟩ x).heap[q]?=w.heap[q]?:=fun q hn=>Below.heap_setCell w ⟨b,j,none⟩ x q hn
 have nb:∀v,Tk { κ with X:=b :: κ.X } v→∀q,v.ownBlock=some q→q≠b:=fun v hv q hq e=>(hv q hq).2.2.2.2 (by rw [e];simp)
 have far:∀v,Tk { κ with X:=b :: κ.X } v→Tk κ v:=fun v hv q hq=>⟨(hv q hq).1,(hv q hq).2.1,(hv q hq).2.2.1,(hv q hq).2.2.2.1,fun e=>(hv q hq).2.2.2.2 (by simp [e])⟩
 refine ⟨h.ne,fun y hy=>?_,⟨vd,made,ZQ,YN a1 hs (hbl _ (Ne.symm f1)),a2.setAt (.inr (fun e=>nb vd a5 b e rfl)),a3,a4,far vd a5⟩,⟨vt,vq,cp,YN b1 hs (hbl _ (Ne.symm f2)),Ys b2 hs (fun q hq _=>hbl q (nb vt b5 q hq)),Ys b3 hs (fun q hq _=>hbl q (nb vq b6 q hq)),b4,far vt b5,far vq b6,b7.setAt (.inr (by simp [Value.ownBlock];exact fun e=>f4 e.symm)),b8⟩,⟨Lv,s,r,(hbl _ (Ne.symm f3)).trans c1,⟨c2.1,fun i hi=>⟨Vo (c2.2 i hi).1 hs (fun q hq _=>hbl q (nb _ (c3 i hi) q hq)),(c2.2 i hi).2⟩⟩,fun i hi=>far _ (c3 i hi)⟩,fun p hp=>?_,fun g hg=>?_⟩
 · have:=h.fx y (by simp [hy])
   exact ⟨ZL this.1 hs,this.2⟩
 · obtain ⟨p1,p2,p3,p4,p5,p6⟩:=h.sn p hp
   exact ⟨p1.same (hbl _ (fun e=>p6 (by simp [e]))),p2,p3,p4,p5,fun e=>p6 (by simp [e])⟩
 obtain ⟨q1,q2,q3,q4,q5,q6⟩:=h.pw g hg;exact ⟨(hbl g (fun e=>q6 (by simp [e]))).trans q1,q2,q3,q4,q5,fun e=>q6 (by simp [e])⟩
theorem jZ {k:IntKind} {w w':World} {v:Value} {xs:List Int} (h:Rd k w v xs) (hs:w.heap.size≤w'.heap.size) (hc:∀p u,w.cell? p=some u→w'.cell? p=some u):Rd k w' v xs:=by
 obtain ⟨ao,cp,rfl,h1,h2,h3⟩:=h;refine ⟨ao,cp,rfl,h1,h2,h3.imp id ?_⟩;rintro ⟨b,off,rfl,hlt,hcl⟩;exact ⟨b,off,rfl,ZL hlt hs,fun i hi=>hc _ _ (hcl i hi)⟩
theorem wI {w w':World} {v:Value} {ns:List Nd} (h:Wx w v ns) (hs:w.heap.size≤w'.heap.size) (hc:∀p u,w.cell? p=some u→w'.cell? p=some u):Wx w' v ns:=by
 obtain ⟨ao,cp,rfl,h1,h2,h3⟩:=h;refine ⟨ao,cp,rfl,h1,h2,h3.imp id ?_⟩;rintro ⟨b,off,rfl,hlt,hcl⟩;refine ⟨b,off,rfl,ZL hlt hs,fun i hi=>?_⟩;have h9:=hcl i hi;exact ⟨hc _ _ h9.c0,hc _ _ h9.c1,hc _ _ h9.c2,hc _ _ h9.c3,hc _ _ h9.c4,hc _ _ h9.c5,hc _ _ h9.c6⟩
theorem Xy.Yj {W W':World} {v:Value} {xs:List Int} {row:Option Nat} (h:Xy W v xs) (hg:W.grownBy W' row) (hr:∀r,row=some r→∃o:Obj,W.heap[r]?=some o∧o.isCells=false):Xy W' v xs:=by
 obtain ⟨g,lo,cp,pre,h1,h2,h3⟩:=h;exact ⟨g,lo,cp,pre,h1,h2,Yn h3 hg hr⟩
theorem nD {W W':World} {row:Option Nat} {c:Nat} {p:Nat × Nat × Nat} {em:Bool} (h:uD W p em) (hs:W.heap.size≤W'.heap.size) (hg:W.grownBy W' row) (hr:∀r,row=some r→r≠c∧∃o:Obj,W.heap[r]?=some o∧o.isCells=false):uD W' p em:=by
 refine ⟨ZL h.1 hs,fun h9=>?_⟩;have e:=h.2 h9;refine (hg.block _ h.1 (fun e9=>?_)).trans e;obtain ⟨-,o,ho,hc⟩:=hr _ e9.symm;rw [e] at ho
 injection ho with ho
 rw [←ho] at hc
 cases hc
theorem Sv.Yj {κ:Sc} {σ:Sx} {W W':World} {row:Option Nat} (h:Sv κ σ W) (hg:W.grownBy W' row) (hr:∀r,row=some r→r≠κ.c∧∃o:Obj,W.heap[r]?=some o∧o.isCells=false):Sv κ σ W':=by
 have hs:=hg.size;have hb:∀(p:Addr) (u:Value),W.cell? p=some u→W'.heap[p.block]?=W.heap[p.block]?:=by
  intro p u hp;refine hg.block _ (YJ W _ hp) (fun e=>?_);obtain ⟨-,o,ho,hc⟩:=hr _ e.symm;unfold World.cell? at hp;rw [ho] at hp
  cases o <;> first | (simp at hp;done) | (cases hc)
 have hc:∀p u,W.cell? p=some u→W'.cell? p=some u:=fun p u hp=>(Zj (w:=W) (a:=p) (hb p u hp)).trans hp
 obtain ⟨vd,made,ZQ,a1,a2,a3,a4,a5⟩:=h.dk;obtain ⟨vt,vq,cp,b1,b2,b3,b4,b5,b6,b7,b8⟩:=h.mm;obtain ⟨Lv,s,r,c1,c2,c3⟩:=h.ch;refine ⟨h.ne,fun x hx=>⟨ZL (h.fx x hx).1 hs,(h.fx x hx).2⟩,⟨vd,made,ZQ,YN a1 hs (hb ⟨κ.sB,0,none⟩ _ (a1.cl 0 _ rfl)),Yn a2 hg (fun r e=>(hr r e).2),a3,a4,a5⟩,⟨vt,vq,cp,YN b1 hs (hb ⟨κ.mB,0,none⟩ _ (b1.cl 0 _ rfl)),wI b2 hs hc,wI b3 hs hc,b4,b5,b6,Xy.Yj b7 hg (fun r e=>(hr r e).2),b8⟩,⟨Lv,s,r,(hg.block _ (Yh.mp c1).1 (fun e=>(hr _ e.symm).1 rfl)).trans c1,⟨c2.1,fun i hi=>⟨jZ (c2.2 i hi).1 hs hc,(c2.2 i hi).2⟩⟩,c3⟩,fun p hp=>⟨nD (h.sn p hp).1 (by omega) hg hr,(h.sn p hp).2⟩,h.pw.keep (fun g hl _ _ _ _ _ e=>hg.block g hl (fun e9=>by obtain ⟨-,o,ho,hc⟩:=hr g e9.symm;rw [e] at ho;injection ho with ho;rw [←ho] at hc;cases hc))⟩
theorem Sv.other {κ:Sc} {σ:Sx} {w w':World} {b:Nat} (h:Sv κ σ w) (hx:b ∈ κ.X) (hg:w.grownBy w' (some b)):Sv κ σ w':=by
 obtain ⟨vd,made,ZQ,a1,a2,a3,a4,a5⟩:=h.dk;obtain ⟨vt,vq,cp,b1,b2,b3,b4,b5,b6,b7,b8⟩:=h.mm;obtain ⟨Lv,s,r,c1,c2,c3⟩:=h.ch;obtain ⟨f0,f1,f2,f3,f4⟩:=h.fx b hx;have hs:=hg.size;have hbl:∀q,q<w.heap.size→q≠b→w'.heap[q]?=w.heap[q]?:=fun q hq hn=>hg.block q hq (fun e=>hn (by injection e))
 have nb:∀v,Tk κ v→∀q,v.ownBlock=some q→q≠b:=fun v hv q hq e=>(hv q hq).2.2.2.2 (by rw [e];exact hx)
 have hcb:κ.c<w.heap.size:=(Yh.mp c1).1;refine ⟨h.ne,fun y hy=>⟨ZL (h.fx y hy).1 hs,(h.fx y hy).2⟩,⟨vd,made,ZQ,YN a1 hs (hbl _ a1.lt (Ne.symm f1)),Yu a2 hg (.inr (fun e=>nb vd a5 b e rfl)),a3,a4,a5⟩,⟨vt,vq,cp,YN b1 hs (hbl _ b1.lt (Ne.symm f2)),Ys b2 hs (fun q hq hl=>hbl q hl (nb vt b5 q hq)),Ys b3 hs (fun q hq hl=>hbl q hl (nb vq b6 q hq)),b4,b5,b6,Xy.kept b7 hg (.inr (by simp [Value.ownBlock];exact fun e=>f4 e.symm)),b8⟩,⟨Lv,s,r,(hbl _ hcb (Ne.symm f3)).trans c1,⟨c2.1,fun i hi=>⟨Vo (c2.2 i hi).1 hs (fun q hq hl=>hbl q hl (nb _ (c3 i hi) q hq)),(c2.2 i hi).2⟩⟩,c3⟩,fun p hp=>?_,fun g oe=>?_⟩
 · obtain ⟨p1,p2,p3,p4,p5,p6⟩:=h.sn p hp
   exact ⟨p1.same (hbl _ p1.lt (fun e=>p6 (by rw [e];exact hx))),p2,p3,p4,p5,p6⟩
 obtain ⟨q1,q2,q3,q4,q5,q6⟩:=h.pw g oe;exact ⟨(hbl g (Yh.mp q1).1 (fun e=>q6 (by rw [e];exact hx))).trans q1,q2,q3,q4,q5,q6⟩
theorem Sj (w:World) (base:Nat) (ty:TypeId) (v:Value) (xs:List Int) (s:ByteArray) (h:Own .u8 5 w base v xs) (hs:0<s.size) (hl:xs.length+s.size≤1048576) (hb:base≤w.heap.size) :
    ∃v' w',(Builtin.append_ #[22,9] ty #[v,.string s]).run Tryz.prog w=.ok v' w'∧Own .u8 5 w' base v' (xs++XS s) ∧
     ((v'.ownBlock=v.ownBlock∧w.grownBy w' v.ownBlock)∨(ZX w w'∧∀g,v'.ownBlock=some g→w.heap.size≤g)):=by
 obtain ⟨i0,hi,hz0,hz1,hz2⟩:=Yq Tryz.Vh;have h63:xs.length+s.size≤maxLen:=by unfold maxLen;omega
 have hxl:(xs.map (Value.int .u8)).length=xs.length:=XJ ..;have hlen:(xs.map (Value.int .u8)++Lib.strCells s).length=(xs.length+s.size)*1:=by rw [ZA,hxl,pT,WV]
 have eO:∀(W:World) (u:Value),W.ownsRow base 5 1 u (xs.length+s.size) (xs.map (Value.int .u8)++Lib.strCells s)→Own .u8 5 W base u (xs++XS s):=fun W u hu=>by
  show World.ownsRow _ _ _ _ _ _ _;rw [ZA,YP,Wn,←Un];exact hu
 have grown:∀(old:Nat),old<xs.length+s.size →
     (w.drew.alloc (.cells ((xs.map (Value.int .u8)).toArray++(Lib.strCells s).toArray++Builtin.zeroCells (Value.int .u8 0).cells (grownCap w (xs.length+s.size) old 5 - (xs.length+s.size))) 5)).ownsRow base 5 1
      (.slice (some ⟨w.heap.size,0,none⟩) (xs.length+s.size) (grownCap w (xs.length+s.size) old 5)) (xs.length+s.size) (xs.map (Value.int .u8)++Lib.strCells s) ∧
     ZX w (w.drew.alloc (.cells ((xs.map (Value.int .u8)).toArray++(Lib.strCells s).toArray++Builtin.zeroCells (Value.int .u8 0).cells (grownCap w (xs.length+s.size) old 5 - (xs.length+s.size))) 5)):=by
  intro old ho;have hge:=Jl w (xs.length+s.size) old 5;have hcm:grownCap w (xs.length+s.size) old 5≤maxLen:=Jk w (xs.length+s.size) old 5 h63;refine ⟨⟨hlen,.inr ⟨w.heap.size,_,_,rfl,hb,Y9 w.drew _,hge,hcm,?_,?_⟩⟩,⟨rfl,rfl,rfl,by simp,fun k hk=>Below.heap_alloc w.drew _ k hk⟩⟩
  · have hz1':(Value.int IntKind.u8 0).cells.size=1:=rfl
    simp only [p9,Zm,DT,hz1',hxl,pT]
    omega
  simp only [uu,YM]
  rw [←YM,←hlen];exact Rx
 have h':=h
 rcases h.2 with ⟨rfl,h0⟩ | ⟨g,cap,cur,rfl,hbg,hg,hnc,hcm,hcs,htake⟩
 · have hx:xs=[]:=TN h0
   subst hx;have hr:=run_append_nil_string (P:=Tryz.prog) w 22 9 ty 5 i0 (.int .u8 0) Tryz.underlying22 Tryz.underlying9 hi hz0 s (by omega) (by simp at hl;omega) (by rw [hz2];simp at hl;omega);have hgr:=grown 0 (by simp;omega);have e1:(s.data.map fun b=>Value.int .u8 b.toNat)=(Lib.strCells s).toArray:=by
    apply qb
    simp [Lib.strCells]
   rw [e1] at hr
   simp only [Wo,YK,MV,Yw,Array.empty_append] at hgr
   refine ⟨_,_,hr,eO _ _ ?_,.inr ⟨hgr.2,fun g hg=>?_⟩⟩
   · simpa using hgr.1
   simp only [Value.ownBlock,Zo] at hg;omega
 by_cases hroom:xs.length+s.size≤cap
 · have hcs':cur.size=cap:=by simpa using hcs
   have hr:=Lib.run_append_room_string (P:=Tryz.prog) w 22 9 ty 5 i0 Tryz.underlying22 Tryz.underlying9 hi hz1 g xs.length cap cur hg s hroom (by omega);refine ⟨_,_,hr,eO _ _ ⟨hlen,.inr ⟨g,cap,_,rfl,hbg,Sz w g cur _ 5 _ hg,hroom,hcm,?_,?_⟩⟩,.inl ⟨rfl,⟨rfl,rfl,rfl,by simp,fun k _ hk=>Jh w g k _ (fun e=>hk (by simp [Value.ownBlock,e]))⟩⟩⟩
   · simp only [Zm,ZA,XU,Zd,Gd,pT]
     omega
   have ht':cur.toList.take xs.length=xs.map (Value.int .u8):=by simpa using htake
   rw [ht',←hlen];exact Rx
 have holds:∀j u,(xs.map (Value.int .u8))[j]?=some u→w.cell? ((⟨g,0,none⟩:Addr).add j)=some u:=Ud (g:=g) h' rfl;have hr:=lp (P:=Tryz.prog) w 22 9 ty 5 i0 (.int .u8 0) Tryz.underlying22 Tryz.underlying9 hi hz0 ⟨g,0,none⟩ xs.length cap (xs.map (Value.int .u8)) (by rw [hz1,hxl,WV]) holds s (by omega) (by omega) (by rw [hz2];exact Jj (by omega) (by omega));have hgr:=grown cap (by omega);refine ⟨_,_,hr,eO _ _ hgr.1,.inr ⟨hgr.2,fun g hg=>?_⟩⟩
 simp only [Value.ownBlock,Zo] at hg;omega
theorem SI {F:Fence} {n:Nat} {w:World} {ops:Array Oper} {rest:List Oper} {o:Oper} {a:Act} {Q:Exit→Act→World→Prop}
    (hg:o.guard=none) (sl x:Operand) (hop:o.op=Op.call { callee:=Callee.builtin Builtin.append,args:=#[sl,x],argTypes:=#[22,9] })
    (base:Nat) (v:Value) (xs:List Int) (s:ByteArray) (hs:a.eval sl=v) (hx:a.eval x=.string s) (h:Own .u8 5 w base v xs) (hs0:0<s.size) (hl:xs.length+s.size≤1048576) (hb:base≤w.heap.size)
    (hK:∀v' w',Own .u8 5 w' base v' (xs++XS s)→((v'.ownBlock=v.ownBlock∧w.grownBy w' v.ownBlock)∨(ZX w w'∧∀g,v'.ownBlock=some g→w.heap.size≤g))→wpListIn F n Tryz.prog ops Q rest (a.put o.dst v') w') :
    wpListIn F n Tryz.prog ops Q (o :: rest) a w:=by
 refine zu hg fun K hK'=>?_
 obtain ⟨v',w',hrun,r1,r2⟩:=Sj w base o.type v xs s h hs0 hl hb;unfold Oper.wpIn;refine ⟨?_,?_⟩
 · simp [Oper.about,hop,resolve,Target.leads,Rv]
 rw [Oper.semAt_plain F _ _ (by rw [hop];intro c hc';cases hc')]
 simp [execOp,hop,resolve,invoke,builtin,hs,hx,hrun,Result.andThen]
 exact hK' _ _ (hK v' w' r1 r2)
theorem Pg {F:Fence} {nF:Nat} {op:Oper} {a:Act} {w:World} {K:Act→World→Prop} {Q:Exit→Act→World→Prop} (hro:F.round=none) (sl x:Operand) (hop:op.op=Op.call { callee:=Callee.builtin Builtin.append,args:=#[sl,x],argTypes:=#[22,9] })
    (base:Nat) (v:Value) (xs:List Int) (s:ByteArray) (hs:a.eval sl=v) (hx:a.eval x=.string s) (h:Own .u8 5 w base v xs) (hs0:0<s.size) (hl:xs.length+s.size≤1048576) (hb:base≤w.heap.size)
    (hK:∀v' w',Own .u8 5 w' base v' (xs++XS s)→((v'.ownBlock=v.ownBlock∧w.grownBy w' v.ownBlock)∨(ZX w w'∧∀g,v'.ownBlock=some g→w.heap.size≤g))→K (a.put op.dst v') w') :
    op.wpIn F nF Tryz.prog a w K Q:=by
 obtain ⟨v',w',hrun,r1,r2⟩:=Sj w base op.type v xs s h hs0 hl hb;unfold Oper.wpIn;refine ⟨?_,?_⟩
 · simp [Oper.about,hop,resolve,Target.leads,Rv]
 rw [hro,Oper.semAt_none]
 simp [execOp,hop,resolve,invoke,builtin,hs,hx,hrun,Result.andThen]
 exact hK v' w' r1 r2
theorem VM (κ:Sc) (σ:Sx) (p:Sx→Prop) (w:World) (h:Sv κ σ w) (hT:σ.T≠[]) (hQ:σ.Q≠[]) (kd:Int) (k0:kd≠0) (k8:kd≠8) (k10:kd≠10) (k11:kd≠11) (vo vn:Value) (mu:Bool) (pa s:ByteArray)
    (hU:∀W,Sv { κ with X:=(w.heap.size+2) :: κ.X } σ W→ZX w W→Calls Tryz.prog 34 #[.pointer (some ⟨κ.sB,0,none⟩),.agg #[.int .i64 kd,vo,.bool mu,.string pa,vn]] W fun e w'=>e=.returned (.string s)∧Gw { κ with X:=(w.heap.size+2) :: κ.X } W w'∧∃ σ',p σ'∧Sv { κ with X:=(w.heap.size+2) :: κ.X } σ' w') :
    Calls Tryz.prog 14 #[.pointer (some ⟨κ.sB,0,none⟩),.agg #[.int .i64 kd,vo,.bool mu,.string pa,vn]] w fun e w'=>e=.returned (.string s)∧Gw κ w w'∧∃ σ',p σ'∧Sv κ σ' w':=by
 have HU:=Z3 hU;have HV:=Z3 h;obtain ⟨vd,made,ZQ,a1,-⟩:=h.dk;have c0:w.cell? ⟨κ.sB,0,none⟩=some (.pointer (some ⟨κ.mB,0,none⟩)):=a1.cl 0 _ rfl;have hsb:=a1.lt;have hb3:=(((Below.refl w.heap.size w).alloc ZT (.cells #[.pointer (some ⟨κ.sB,0,none⟩)] 34)).alloc (by simp) (.cells #[.int .i64 kd,vo,.bool mu,.string pa,vn] 43)).alloc (by simp;omega) (.cells #[.string ⟨#[]⟩] 9);have c3:=(hb3.cell (p:=⟨κ.sB,0,none⟩) hsb).trans c0;have V3:=Z3 (HV.out.boxed hb3 (show w.heap.size≤w.heap.size+2 by omega) (by simp) hT hQ);have HC:=Z3 (HU.out _ V3.out hb3);have YR:=hb3.size;clear hU h a1 c0;refine calls_of_wp_defers Tryz.func14 rfl ?_
 simp only [Tryz.ntmps14,Zm,Yr,Wo,Nat.reduceAdd,Nat.reduceSub,JQ,JO,Wj,Ur,Yw,Vq]
 go_wp2_with fail
 refine HC.out.mono ?_;rintro e w4 ⟨rfl,G4,σ',hp',V4⟩;obtain ⟨f0,f1,f2,f3,f4⟩:=V3.out.fx (w.heap.size+2) (by simp);have n4:w4.heap[w.heap.size+1+1]?=some (.cells #[.string ⟨#[]⟩] 9):=by
  have n3:(((w.alloc (.cells #[.pointer (some ⟨κ.sB,0,none⟩)] 34)).alloc (.cells #[.int .i64 kd,vo,.bool mu,.string pa,vn] 43)).alloc (.cells #[.string ⟨#[]⟩] 9)).heap[w.heap.size+2]?=some (.cells #[.string ⟨#[]⟩] 9):=by
   have:=Y9 ((w.alloc (.cells #[.pointer (some ⟨κ.sB,0,none⟩)] 34)).alloc (.cells #[.int .i64 kd,vo,.bool mu,.string pa,vn] 43)) (.cells #[.string ⟨#[]⟩] 9)
   simpa using this
  refine (G4.block (w.heap.size+2) f0 f1 f2 f3 f4 (by rw [cell_of n3 3];simp) (by rw [cell_of n3 1];simp)).trans ?_;have:=Y9 ((w.alloc (.cells #[.pointer (some ⟨κ.sB,0,none⟩)] 34)).alloc (.cells #[.int .i64 kd,vo,.bool mu,.string pa,vn] 43)) (.cells #[.string ⟨#[]⟩] 9)
  simpa using this
 have n5:w4.cell? ⟨w.heap.size+1+1,0,none⟩=some (.string ⟨#[]⟩):=cell_of n4 0;have n6:w4.frozen? ⟨w.heap.size+1+1,0,none⟩=false:=by simp [World.frozen?,n4]
 have V5:Hid (Sv κ σ' (w4.setCell ⟨w.heap.size+1+1,0,none⟩ (.string s))):=V4.rY;have G5:Hid (Gw κ w (w4.setCell ⟨w.heap.size+1+1,0,none⟩ (.string s))):=by
  have g:Gw κ w w4:=(Gs.ZV hb3).gw.trans ⟨G4.os,G4.tape,G4.output,G4.size,G4.block⟩;exact ⟨g.os,g.tape,g.output,by simpa using g.size,fun q hq a b c d e9 e8=>(Below.heap_setCell w4 ⟨w.heap.size+1+1,0,none⟩ _ q (by show q≠w.heap.size+1+1;exact fun e=>absurd hq (by rw [e];omega))).trans (g.block q hq a b c d e9 e8)⟩
 have n7:Hid ((w4.setCell ⟨w.heap.size+1+1,0,none⟩ (.string s)).cell? ⟨w.heap.size+1+1,0,none⟩=some (.string s)):=Xo _ _ _ n5;have n8:Hid (w.heap.size+1+1<(w4.setCell ⟨w.heap.size+1+1,0,none⟩ (.string s)).heap.size):=by
  have:=(Yh.mp n4).1;show _<_
  simpa using this
 clear G4 V4 V3 HC c3 hb3 HU HV n4
 go_wp2_with fail
 refine Vv (f:=28) (args:=#[.pointer (some ⟨w.heap.size,0,none⟩),.pointer (some ⟨w.heap.size+1+1,0,none⟩)]) (by simp) (by simp [go_sem]) ?_;refine (AW _ _ _).mono ?_;rintro e u' w6 ⟨rfl,rfl,b6⟩;have n9:=(b6.cell (p:=⟨w.heap.size+1+1,0,none⟩) n8.out).trans n7.out;have FIN:=Z3 (And.intro (G5.out.trans (Gs.ZV b6).gw) (show ∃ σ',p σ'∧Sv κ σ' w6 from ⟨σ',hp',V5.out.below b6⟩));clear b6 n7 n8 G5 V5
 simp [Leaves,settle,results,Tryz.results14,go_sem,n9]
 exact FIN.out
end Go.Proofs.YtpmjnbmkippaiaaGreatDoor
namespace Go.Proofs.YtpmjnbmkippaiaaGreatDoor
open Go.RowKit Go.Shelf
section
variable (w:World) (p:Value) (vo vn:Value) (mu:Bool) (pa s:ByteArray) (R:World→Prop)
theorem Hj (hU:∀W,ZX w W→Calls Tryz.prog 72 #[p] W fun e w'=>e=.returned (.string s)∧R w') :
    Calls Tryz.prog 34 #[p,.agg #[.int .i64 2,vo,.bool mu,.string pa,vn]] w fun e w'=>e=.returned (.string s)∧R w':=by
 have HU:=Z3 (hU _ ((Below.refl w.heap.size w).alloc ZT (.cells #[.int .i64 2,vo,.bool mu,.string pa,vn] 43)));clear hU
 go_enter Tryz.func34,Tryz.ntmps34
 go_wp2_with fail
 refine HU.out.mono ?_;rintro e w4 ⟨rfl,r4⟩;have F:=Z3 r4;clear r4;go_wp2;go_ret;exact ⟨rfl,F.out⟩
theorem rX (hU:∀W,ZX w W→Calls Tryz.prog 76 #[p] W fun e w'=>e=.returned (.string s)∧R w') :
    Calls Tryz.prog 34 #[p,.agg #[.int .i64 6,vo,.bool mu,.string pa,vn]] w fun e w'=>e=.returned (.string s)∧R w':=by
 have HU:=Z3 (hU _ ((Below.refl w.heap.size w).alloc ZT (.cells #[.int .i64 6,vo,.bool mu,.string pa,vn] 43)));clear hU
 go_enter Tryz.func34,Tryz.ntmps34
 go_wp2_with fail
 refine HU.out.mono ?_;rintro e w4 ⟨rfl,r4⟩;have F:=Z3 r4;clear r4;go_wp2;go_ret;exact ⟨rfl,F.out⟩
theorem ER (hU:∀W,ZX w W→Calls Tryz.prog 78 #[p,.agg #[.int .i64 1,vo,.bool mu,.string pa,vn]] W fun e w'=>e=.returned (.string s)∧R w') :
    Calls Tryz.prog 34 #[p,.agg #[.int .i64 1,vo,.bool mu,.string pa,vn]] w fun e w'=>e=.returned (.string s)∧R w':=by
 have HU:=Z3 (hU _ ((Below.refl w.heap.size w).alloc ZT (.cells #[.int .i64 1,vo,.bool mu,.string pa,vn] 43)));clear hU
 go_enter Tryz.func34,Tryz.ntmps34
 go_wp2_with fail
 refine HU.out.mono ?_;rintro e w4 ⟨rfl,r4⟩;have F:=Z3 r4;clear r4;go_wp2;go_ret;exact ⟨rfl,F.out⟩
theorem rW (z:Int) (hv:Rd .i64 w vn [z]) (hU:∀W,ZX w W→Calls Tryz.prog 77 #[p,.int .i64 z] W fun e w'=>e=.returned (.string s)∧R w') :
    Calls Tryz.prog 34 #[p,.agg #[.int .i64 7,vo,.bool mu,.string pa,vn]] w fun e w'=>e=.returned (.string s)∧R w':=by
 obtain ⟨ao,cp,rfl,h1,h2,h3⟩:=hv;obtain ⟨b,off,rfl,hb,hc⟩:=h3.resolve_left (by simp);have hc0:w.cell? ⟨b,off,none⟩=some (.int .i64 z):=hc 0 (by simp);have hb1:=(Below.refl w.heap.size w).alloc ZT (.cells #[.int .i64 7,vo,.bool mu,.string pa,.slice (some ⟨b,off,none⟩) 1 cp] 43);have HU:=Z3 (hU _ hb1);have c1:=(hb1.cell (p:=⟨b,off,none⟩) hb).trans hc0;have h1':1≤cp:=h1;clear hU hc h1 hb1;show Calls _ _ #[p,.agg #[.int .i64 7,vo,.bool mu,.string pa,.slice (some ⟨b,off,none⟩) 1 cp]] _ _
 go_enter Tryz.func34,Tryz.ntmps34
 go_wp2_with fail
 refine HU.out.mono ?_;rintro e w4 ⟨rfl,r4⟩;have F:=Z3 r4;clear r4;go_wp2;go_ret;exact ⟨rfl,F.out⟩
end
end Go.Proofs.YtpmjnbmkippaiaaGreatDoor
namespace Go.Proofs.YtpmjnbmkippaiaaGreatDoor
open Go.RowKit Go.Conc
theorem Hi (w : World) (s : ByteArray) (y z : Nat) (hs : s.size ≤ 1000) (hy : y < 1000000) (hz : z < 1000000) (htab : Lib.TabIs Tryz.prog w "internal/strconv.uint64pow10" .u64 Lib.pow10Tab) :
    Calls Tryz.prog 71 #[.string s,.slice (some ⟨w.heap.size,0,none⟩) 2 2] (w.alloc (.cells #[.int .i64 (y:Int),.int .i64 (z:Int)] 2)) (YI w (.string (strOfNums (Yx s [y,z])))):=by
 have hb:=(Below.refl w.heap.size w).alloc ZT (.cells #[.int .i64 (y:Int),.int .i64 (z:Int)] 2);refine (Hl _ s _ [y,z] ⟨_,2,rfl,ZT,by decide,.inr ⟨w.heap.size,0,rfl,by simp,fun i hi=>?_⟩⟩ hs (by simp) (by simpa using ⟨hy,hz⟩) (Vi htab hb)).mono ?_
 · have:i=0∨i=1:=by simp at hi;omega
   rcases this with rfl | rfl
   all_goals
    rw [Xn _ w.heap.size _ _ _ _ (Y9 w _)]
    rfl
 rintro e w' ⟨rfl,b⟩;exact ⟨rfl,YV hb b⟩
theorem Sv.taken {κ:Sc} {σ:Sx} {w w1:World} {s r:Nat} (h:Sv κ σ w) (hg:w.grownBy w1 (some κ.c)) (hc:w1.heap[κ.c]?=some (.chan κ.cap #[] false s r false)):Sv κ { σ with fs:=[] } w1∧Gs κ w w1:=by
 have G:=Gs.LI (κ:=κ) hg (.inr (.inr (.inl rfl)));have hne:=h.ne;obtain ⟨vd,made,ZQ,a1,-⟩:=h.dk;refine ⟨h.re G rfl (hg.block _ a1.lt (by simp;exact fun e=>hne.2.1 e)) rfl (fun vt vq cp b1 b2 b3 b4 b5 b6 b7 b8=>⟨vt,vq,cp,YN b1 hg.size (hg.block _ b1.lt (by simp;exact fun e=>hne.2.2.2.1 e)),b2,b3,b4,b5,b6,Xy.kept b7 hg (.inr (by simp [Value.ownBlock];exact fun e=>hne.2.2.2.2.2 e.symm)),b8⟩) (fun Lv s' r' _ _ _=>⟨[],s,r,hc,⟨rfl,fun i hi=>by simp at hi⟩,fun i hi=>by simp at hi⟩),G⟩
theorem EQ (κ:Sc) (σ:Sx) (w:World) (h:Sv κ σ w) (hf:σ.fs=[]) (hz:σ.zf<1000000) (htab:iD κ w) :
    Calls Tryz.prog 72 #[.pointer (some ⟨κ.sB,0,none⟩)] w fun e w'=>e=.returned (.string (strOfNums (Yx ⟨#[102,108,117,115,104,101,100]⟩ [0,σ.zf])))∧Gs κ w w'∧Sv κ σ w':=by
 obtain ⟨vt,vq,cp,b1,-⟩:=h.mm;obtain ⟨vd,made,ZQ,a1,-⟩:=h.dk;obtain ⟨Lv,s,r,c1,c2,c3⟩:=h.ch;have HQ:=Z3 (qD w κ.sB κ.mB κ.c κ.cap s r false Lv σ.fs (a1.cl 0 _ rfl) (b1.cl 4 _ rfl) c1 c2 (by rw [hf];simp) (by rw [hf];simp));have HV:=Z3 h;clear a1 b1 c1 c2 c3 h
 go_enter Tryz.func72,Tryz.ntmps72
 go_wp2_with fail
 refine HQ.out.mono ?_;rintro e w1 ⟨v3,rfl,-,g1,r',c1⟩;obtain ⟨V1,G1⟩:=HV.out.taken g1 c1;have Z':Sv κ σ w1:=by
  have e:{ σ with fs:=[] }=σ:=by cases σ;simp at hf;subst hf;rfl
  rw [e] at V1;exact V1
 obtain ⟨ZY,ZN,Y,b1,-⟩:=Z'.mm;obtain ⟨ZK,O,Z4,a1,-⟩:=Z'.dk;have c0:=a1.cl 0 _ rfl;have m1:=b1.cl 1 _ rfl;have T1:=Z3 (htab _ G1.gw);have F1:=Z3 (And.intro G1 Z');clear g1 c1 V1 G1 Z' a1 b1 HQ HV;rw [hf]
 go_wp2_with fail
 refine (Hi w1 ⟨#[102,108,117,115,104,101,100]⟩ 0 σ.zf (by decide) (by decide) hz T1.out).mono ?_;rintro e w4 ⟨rfl,b4⟩;have FIN:=Z3 (And.intro (F1.out.1.trans (Gs.ZV b4)) (F1.out.2.below b4));clear b4 F1 T1;go_wp2;go_ret;exact ⟨rfl,FIN.out⟩
theorem EP {P:Program} {w:World} {ops:Array Oper} {o:Oper} {a:Act} {K:Act→World→Prop} {Q:Exit→Act→World→Prop} {E:Prop} (hgd:o.guard=none) (s x:Operand) (t:TypeId)
    (ho:o.op=.call { callee:=.builtin .append,args:=#[s,x],argTypes:=#[t,t] }) (i:TypeInfo) (ht:P.underlying t=some (.slice 5)) (hi:P.info? 5=some i) (hsize:i.size=1)
    (g lo n cap:Nat) (xs:List Int) (hs:a.eval s=.slice (some ⟨g,lo,none⟩) n cap) (hn:xs.length=n) (hown:Xy w (.slice (some ⟨g,lo,none⟩) n cap) xs)
    (ad:Addr) (c:Nat) (F:List Int) (hx:a.eval x=.slice (some ad) F.length c) (hnews:∀j u,(F.map (Value.int .u8))[j]?=some u→w.cell? (ad.add j)=some u) (hroom:n+F.length≤cap)
    (h:∀w',Xy w' (.slice (some ⟨g,lo,none⟩) (n+F.length) cap) (xs++F)→w.grownBy w' (some g)→K (a.put o.dst (.slice (some ⟨g,lo,none⟩) (n+F.length) cap)) w') :
    if Region.wanted o (yielded ops a.tmps)=true then Oper.wp P o a w K Q else E:=by
 have hw:Region.wanted o (yielded ops a.tmps)=true:=by simp [Region.wanted,hgd]
 rw [ZZ hw];obtain ⟨g',lo',cp',pre,e1,h2,h3⟩:=hown
 simp only [Y4,Zo,JD,TJ] at e1
 obtain ⟨⟨rfl,rfl⟩,-,rfl⟩:=e1;rw [hn] at h3;have h3':w.ownsRow 0 5 1 (.slice (some ⟨g,0,none⟩) (lo+n) (lo+cap)) (lo+n) ((pre++xs).map (Value.int .u8)):=by
  have:=h3;unfold Own at this
  simpa [hn,h2] using this
 have hl:(F.map (Value.int .u8)).length=F.length*i.size:=by rw [hsize];simp
 have h1:∀u ∈ F.map (Value.int .u8),u.oneCell'=true:=Wf _ _;obtain ⟨w',hr,h4,h5⟩:=run_append_fits (P:=P) w 0 t o.type 5 i 1 ht hi hsize g (lo+n) (lo+cap) _ h3' ad F.length c (F.map (Value.int .u8)) (by simp) hnews h1 (by omega);have hcell:∀j,j<F.length→(w.cell? ⟨g,lo+n+j,none⟩).isSome=true∧w.frozen? ⟨g,lo+n+j,none⟩=false:=by
  rcases h3'.2 with ⟨e9,-⟩ | ⟨g9,gO,cur,e9,-,oe,-,-,hcs,-⟩
  · simp at e9
  simp only [Y4,Zo,JD,TJ,Jg] at e9
  obtain ⟨rfl,rfl⟩:=e9;intro j hj
  constructor
  · rw [cell_of oe]
    rw [lu (by rw [hcs];omega)];rfl
  simp [World.frozen?,oe]
 have r1:=run_append_room_cells (P:=P) (w:=w) t o.type 5 i ht hi g lo n cap ad F.length c (F.map (Value.int .u8)) hl hnews h1 hroom (fun j hj=>by rw [hsize,WV];exact (hcell j (by simpa using hj)).1) (fun j hj=>by rw [hsize,WV];exact (hcell j (by simpa using hj)).2);have r2:=run_append_room_cells (P:=P) (w:=w) t o.type 5 i ht hi g 0 (lo+n) (lo+cap) ad F.length c (F.map (Value.int .u8)) hl hnews h1 (by omega) (fun j hj=>by rw [hsize,WV,YK];exact (hcell j (by simpa using hj)).1) (fun j hj=>by rw [hsize,WV,YK];exact (hcell j (by simpa using hj)).2);have ew:w'=w.setCells g (lo+n*i.size) (F.map (Value.int .u8)):=by
  rw [hr] at r2;have e8:=r2
  simp only [Result.ok.injEq] at e8
  rw [e8.2,hsize,WV,WV,YK]
 rw [←ew] at r1;unfold Oper.wp execOp
 simp only [ho,resolve,invoke,builtin,Vz,Rv,SF,FO,TM,MV,hs,hx,r1]
 refine h w' ⟨g,lo,cap,pre,by rw [ZA,hn],h2,?_⟩ h5;have e7:lo+(xs++F).length=lo+n+F.length:=by rw [ZA,hn];omega
 rw [e7];exact Vg (q:=lo+n+F.length) (by simp [h2,hn];omega) rfl (by rw [←YM,Wn];exact h4)
theorem Xy.gr {w W:World} {v:Value} {xs:List Int} {r0:Option Nat} {sB:Nat} (h:Xy w v xs) (hg:Gr r0 sB w W) (hs:v.ownBlock≠some sB) (hr:v.ownBlock≠r0):Xy W v xs:=by
 obtain ⟨g,lo,cp,pre,rfl,h2,h3⟩:=h;refine ⟨g,lo,cp,pre,rfl,h2,h3.1,h3.2.imp id ?_⟩;rintro ⟨q,cap,cur,e4,e5,e6,e7⟩;have hq:q=g:=by
  simp only [Y4,Zo,JD] at e4
  omega
 subst hq;exact ⟨q,cap,cur,e4,e5,(hg.block q (Yh.mp e6).1 (fun e=>hs (by rw [←e];rfl)) (fun e=>hr e)).trans e6,e7⟩
theorem Sv.grown {κ:Sc} {σ:Sx} {w W:World} {cp:Nat} {F:List Int} (h:Sv κ σ w) (h0:σ.off=0) (hcp:κ.L*64≤(cp:Int)) (hg:w.grownBy W (some κ.lb)) (hw:Xy W (.slice (some ⟨κ.lb,κ.lo,none⟩) (σ.full.length+F.length) cp) (σ.full++F)) :
    Sv κ { σ with full:=σ.full++F } (W.setCell ⟨κ.mB,11,none⟩ (.slice (some ⟨κ.lb,κ.lo,none⟩) (σ.full.length+F.length) cp))∧Gs κ w (W.setCell ⟨κ.mB,11,none⟩ (.slice (some ⟨κ.lb,κ.lo,none⟩) (σ.full.length+F.length) cp)):=by
 have hne:=h.ne;obtain ⟨vd,made,ZQ,a1,-⟩:=h.dk;have hs:w.heap.size≤(W.setCell ⟨κ.mB,11,none⟩ (.slice (some ⟨κ.lb,κ.lo,none⟩) (σ.full.length+F.length) cp)).heap.size:=by simpa using hg.size
 have hbl:∀q,q<w.heap.size→q≠κ.mB→q≠κ.lb→(W.setCell ⟨κ.mB,11,none⟩ (.slice (some ⟨κ.lb,κ.lo,none⟩) (σ.full.length+F.length) cp)).heap[q]?=w.heap[q]?:=fun q hq hn hl=>(Below.heap_setCell W ⟨κ.mB,11,none⟩ _ q hn).trans (hg.block q hq (fun e=>hl (by injection e)))
 have G:Gs κ w (W.setCell ⟨κ.mB,11,none⟩ (.slice (some ⟨κ.lb,κ.lo,none⟩) (σ.full.length+F.length) cp)):=⟨hg.os,hg.tape,hg.output,hs,fun q hq _ h2 _ h4=>hbl q hq h2 h4⟩;refine ⟨h.re G rfl (hbl _ a1.lt hne.1 hne.2.2.1) rfl (fun vt vq V b1 b2 b3 b4 b5 b6 b7 b8=>⟨vt,vq,cp,?_,b2,b3,b4,b5,b6,?_,hcp⟩) (fun Lv s r c1 c2 c3=>⟨Lv,s,r,(hbl _ (Yh.mp c1).1 hne.2.2.2.1.symm hne.2.2.2.2.2).trans c1,c2,c3⟩),G⟩
 · have e:=(YN b1 hg.size (hg.block _ b1.lt (fun e=>hne.2.2.2.2.1 (by injection e)))).set 11 (.slice (some ⟨κ.lb,κ.lo,none⟩) (σ.full.length+F.length) cp)
   have e2:Ai κ { σ with full:=σ.full++F } vt vq cp=(Ai κ σ vt vq V).set 11 (.slice (some ⟨κ.lb,κ.lo,none⟩) (σ.full.length+F.length) cp):=by
    unfold Ai
    simp only [h0,Mh,Wi,ZA,VB,List.set_cons_succ,List.set_cons_zero]
   rw [e2];exact e
 show Xy _ (.slice _ (σ.full++F).length _) _;rw [ZA];exact hw.setAt (.inr (by simp [Value.ownBlock];exact fun e=>hne.2.2.2.2.1 e.symm))
theorem Sv.rV {κ:Sc} {σ:Sx} {w:World} {vt vq:Value} {cp:Nat} (h:Sv κ σ w) (hb:St w κ.mB (Ai κ σ vt vq cp)):Sv κ { σ with T:=σ.Q,zf:=σ.zq } ((w.setCell ⟨κ.mB,0,none⟩ vq).setCell ⟨κ.mB,1,none⟩ (.int .i64 (σ.zq:Int)))∧Gs κ w ((w.setCell ⟨κ.mB,0,none⟩ vq).setCell ⟨κ.mB,1,none⟩ (.int .i64 (σ.zq:Int))):=by
 have hne:=h.ne;obtain ⟨vd,made,ZQ,a1,-⟩:=h.dk;have hbl:∀q,q≠κ.mB→((w.setCell ⟨κ.mB,0,none⟩ vq).setCell ⟨κ.mB,1,none⟩ (.int .i64 (σ.zq:Int))).heap[q]?=w.heap[q]?:=fun q hn=>(Below.heap_setCell _ ⟨κ.mB,1,none⟩ _ q hn).trans (Below.heap_setCell w ⟨κ.mB,0,none⟩ _ q hn)
 have G:Gs κ w ((w.setCell ⟨κ.mB,0,none⟩ vq).setCell ⟨κ.mB,1,none⟩ (.int .i64 (σ.zq:Int))):=⟨rfl,rfl,rfl,by simp,fun q hq _ h2 _ _=>hbl q h2⟩;refine ⟨h.re G rfl (hbl _ hne.1) rfl (fun I U V b1 b2 b3 b4 b5 b6 b7 b8=>?_) (fun Lv s r c1 c2 c3=>⟨Lv,s,r,(hbl _ hne.2.2.2.1.symm).trans c1,c2,c3⟩),G⟩;obtain rfl:U=vq:=by
  have e1:=b1.cl 2 _ rfl;have e2:=hb.cl 2 _ rfl;exact Yv (e1.symm.trans e2)
 exact ⟨U,U,V,(b1.set 0 _).set 1 _,b3,b3,b4,b6,b6,(b7.setAt (.inr (by simp [Value.ownBlock];exact fun e=>hne.2.2.2.2.1 e.symm))).setAt (.inr (by simp [Value.ownBlock];exact fun e=>hne.2.2.2.2.1 e.symm)),b8⟩
theorem Sv.rU {κ:Sc} {σ:Sx} {w:World} (h:Sv κ σ w):Sv κ { σ with ql:=0 } (w.setCell ⟨κ.mB,5,none⟩ (.int .i64 0))∧Gs κ w (w.setCell ⟨κ.mB,5,none⟩ (.int .i64 0)):=by
 have hne:=h.ne;have hbl:∀q,q≠κ.mB→(w.setCell ⟨κ.mB,5,none⟩ (.int .i64 0)).heap[q]?=w.heap[q]?:=fun q hn=>Below.heap_setCell w ⟨κ.mB,5,none⟩ _ q hn
 have G:Gs κ w (w.setCell ⟨κ.mB,5,none⟩ (.int .i64 0)):=⟨rfl,rfl,rfl,by simp,fun q hq _ h2 _ _=>hbl q h2⟩;exact ⟨h.re G rfl (hbl _ hne.1) rfl (fun I U V b1 b2 b3 b4 b5 b6 b7 b8=>⟨I,U,V,b1.set 5 _,b2,b3,b4,b5,b6,b7.setAt (.inr (by simp [Value.ownBlock];exact fun e=>hne.2.2.2.2.1 e.symm)),b8⟩) (fun Lv s r c1 c2 c3=>⟨Lv,s,r,(hbl _ hne.2.2.2.1.symm).trans c1,c2,c3⟩),G⟩
theorem wH {S L b:Int} (hc:YO S L=true) (hb:0≤b∧b≤1):0≤VJ S L b true∧VJ S L b true≤100000:=by
 obtain ⟨⟨hS1,hS2⟩,hL1,hL2⟩:=(Zg S L).1 hc;have:b=0∨b=1:=by omega
 rcases this with rfl | rfl <;> unfold VJ <;> simp <;> omega
theorem EO (κ:Sc) (σ:Sx) (w:World) (h:Sv κ σ w) (hf:0<σ.fs.length) (hN:σ.fs.length≤4096) (h0:σ.off=0) (hroom:((σ.full.length+σ.fs.flatten.length:Nat):Int)≤κ.L*64) (hc:YO κ.S κ.L=true) (hb:0≤σ.b∧σ.b≤1) (hk:σ.k≤8000) (hz:σ.zq<1000000) (hsp:σ.pw=none∨σ.sn=none) (htab:iD κ w) :
    Calls Tryz.prog 72 #[.pointer (some ⟨κ.sB,0,none⟩)] w fun e w'=>e=.returned (.string (strOfNums (Yx ⟨#[102,108,117,115,104,101,100]⟩ [σ.fs.length,σ.zq])))∧Gw κ w w'∧Sv κ { σ with T:=σ.Q,zf:=σ.zq,fs:=[],ql:=0,full:=σ.full++σ.fs.flatten,k:=σ.k+66,pw:=none } w':=by
 obtain ⟨i0,hi,hz0,hz1,hz2⟩:=Yq Tryz.Vh;obtain ⟨⟨hS1,hS2⟩,hL1,hL2⟩:=(Zg κ.S κ.L).1 hc;obtain ⟨vt,vq,cp,b1,-⟩:=h.mm;obtain ⟨vd,made,ZQ,a1,-⟩:=h.dk;obtain ⟨Lv,s,r,c1,c2,c3⟩:=h.ch;have Y':0<σ.fs.flatten.length:=by
  have hlv:Lv.length=σ.fs.length:=c2.1;have h9:=(c2.2 0 (by omega)).2
  cases hfs:σ.fs with
  | nil=>rw [hfs] at hf;simp at hf
  | cons f fs =>
   rw [hfs] at h9
   simp only [Lm] at h9
   simp only [pK,ZA];omega
 have HQ:=Z3 (qD w κ.sB κ.mB κ.c κ.cap s r false Lv σ.fs (a1.cl 0 _ rfl) (b1.cl 4 _ rfl) c1 c2 (by omega) (by omega));have HV:=Z3 h;clear a1 b1 c1 c2 c3 h
 go_enter Tryz.func72,Tryz.ntmps72
 go_wp2_with fail
 refine HQ.out.mono ?_;rintro e w1 ⟨v3,rfl,o1,g1,r',c1⟩;obtain ⟨V1,G1⟩:=HV.out.taken g1 c1;generalize hF:σ.fs.flatten=F at *;obtain ⟨g3,jY,rfl,hg3,YQ⟩:=World.ownsRow.form o1 Y';obtain ⟨ZY,ZN,Y,b1,-,-,-,-,-,l1,l2⟩:=V1.mm;obtain ⟨ZK,O,Z4,a1,-⟩:=V1.dk;have c0:=a1.cl 0 _ rfl;have m11:w1.cell? ⟨κ.mB,11,none⟩=some (.slice (some ⟨κ.lb,κ.lo,none⟩) σ.full.length Y):=by
  have e:=b1.cl 11 _ rfl
  simp only [h0,Mh,Wi,VB] at e
  exact e
 have nz:(0:Int)<(σ.fs.length:Int):=by omega
 have C0:=Z3 c0;have Zp:=Z3 m11;have V2:Hid (Sv κ { σ with fs:=[] } w1.drew):=V1.below (below_drewN' w1 1);have G2:Hid (Gs κ w w1.drew):=G1.trans (Gs.ZV (below_drewN' w1 1));have L1:Hid (Xy w1.drew (.slice (some ⟨κ.lb,κ.lo,none⟩) σ.full.length Y) σ.full):=l1.below (below_drewN' w1 1);have O1:Hid (∀j u,(F.map (Value.int .u8))[j]?=some u→w1.drew.cell? ((⟨g3,0,none⟩:Addr).add j)=some u):=Ud o1 rfl;clear g1 c1 V1 G1 a1 b1 HQ HV o1 l1
 go_wp2_with fail
 refine ZH (S:=fun W=>W.cell? ⟨κ.sB,0,none⟩=some (.pointer (some ⟨κ.mB,0,none⟩))) (by kernel_rfl) C0.out (fun Z9=>?_);have ZI:Hid (w1.drew.cell? ⟨κ.mB,11,none⟩=some (.slice (some ⟨κ.lb,κ.lo,none⟩) σ.full.length Y)):=Zp.out;clear c0 m11 C0 Zp;generalize w1.drew=w2 at *
 iterate 10 (refine ZW ?_ Z9 ?_ ?_;rotate_left;· intro w9 Z0;go_simp;try with_reducible rfl)
 refine ZG 11 ?v11 rfl Z9 ?NH ?_
 case NH=>intro w9 Z0;go_simp;try with_reducible rfl
 refine ZU 10 rfl (fun K hK=>?_);have k1:=ZI.out;go_simp;refine hK.out _ _ Z9 (fun ZM=>?_);clear hK K k1;refine ZU 12 rfl (fun K hK=>?_);refine EP rfl (.tmp 31) (.tmp 32) 22 rfl i0 Tryz.underlying22 hi hz1 κ.lb κ.lo σ.full.length Y σ.full rfl rfl L1.out ⟨g3,0,none⟩ jY F rfl O1.out (by omega) ?_;intro w3 o3 g3';have hne:=V2.out.ne;obtain ⟨YD,YC,cp2,b2,-⟩:=V2.out.mm;obtain ⟨YB,Y2,YH,a2,-⟩:=V2.out.dk;have B3:=YN b2 g3'.size (g3'.block _ b2.lt (fun e=>hne.2.2.2.2.1 (by injection e)));have A3:=YN a2 g3'.size (g3'.block _ a2.lt (fun e=>hne.2.2.1 (by injection e)));have O3:=o3;have k11:w3.cell? ⟨κ.mB,11,none⟩=some (.slice (some ⟨κ.lb,κ.lo,none⟩) σ.full.length Y):=(Zj (w:=w2) (a:=⟨κ.mB,11,none⟩) (g3'.block _ b2.lt (fun e=>hne.2.2.2.2.1 (by injection e)))).trans ZI.out;refine hK.out _ _ (A3.cl 0 _ rfl) (fun ZM=>?_);clear hK K Z9
 iterate 2 (refine ZW ?_ Z9 ?_ ?_;rotate_left;· intro w9 Z0;go_simp;try with_reducible rfl)
 refine ZU 15 rfl (fun K hK=>?_);have f11:=B3.fz 11;go_simp;have F4:=Z3 (V2.out.grown h0 l2 g3' O3);have A4:=A3.other (c:=κ.mB) (j:=11) (x:=.slice (some ⟨κ.lb,κ.lo,none⟩) (σ.full.length+F.length) Y) hne.1;refine hK.out _ _ (A4.cl 0 _ rfl) (fun ZM=>?_);have G4:=Z3 (G2.out.trans F4.out.2);have V4:=Z3 F4.out.1;clear hK K ZM F4 A4 k11 f11 O3 B3 A3 b2 a2 o3 g3' V2 G2 L1 O1 ZI;refine ZP (by kernel_rfl) ?_ _
 try simp only [Act.put,Y8,Y7,Y6]
 generalize w3.setCell _ _=w4 at *;have hDl:(σ.full++F).length=σ.full.length+F.length:=ZA;generalize hD:σ.full++F=D at *;have HD:=Z3 hD;have SM:=Z3 hDl;clear hD hDl;obtain ⟨fP,fO,qy,b4,-,-,-,-,-,l4,-⟩:=V4.out.mm;obtain ⟨eH,qx,fN,a4,-⟩:=V4.out.dk;have A5:Hid (St w4.drew κ.sB (Ku (.pointer (some ⟨κ.mB,0,none⟩)) κ.S κ.L eH (od σ.pw) qx)):=a4.below (below_drewN' w4 1);have B5:Hid (St w4.drew κ.mB (Ai κ { σ with fs:=[],full:=D } fP fO qy)):=b4.below (below_drewN' w4 1);have V5:Hid (Sv κ { σ with fs:=[],full:=D } w4.drew):=V4.out.below (below_drewN' w4 1);have G5:Hid (Gs κ w w4.drew):=G4.out.trans (Gs.ZV (below_drewN' w4 1));clear a4 b4 l4 V4 G4;have m11:w4.drew.cell? ⟨κ.mB,11,none⟩=some (.slice (some ⟨κ.lb,κ.lo,none⟩) D.length qy):=by
  have e:=B5.out.cl 11 _ rfl
  simp only [h0,Mh,Wi,VB] at e
  exact e
 have S5:w4.drew.cell? ⟨κ.sB,0,none⟩=some (.pointer (some ⟨κ.mB,0,none⟩))∧w4.drew.cell? ⟨κ.sB,1,none⟩=some (.int .i64 κ.S)∧w4.drew.cell? ⟨κ.sB,2,none⟩=some (.int .i64 κ.L)∧w4.drew.cell? ⟨κ.mB,7,none⟩=some (.int .i64 σ.b)∧w4.drew.cell? ⟨κ.mB,11,none⟩=some (.slice (some ⟨κ.lb,κ.lo,none⟩) D.length qy):=⟨A5.out.cl 0 _ rfl,A5.out.cl 1 _ rfl,A5.out.cl 2 _ rfl,B5.out.cl 7 _ rfl,m11⟩
 go_wp2_with fail
 refine ZH (S:=fun W=>W.cell? ⟨κ.sB,0,none⟩=some (.pointer (some ⟨κ.mB,0,none⟩))∧W.cell? ⟨κ.sB,1,none⟩=some (.int .i64 κ.S)∧W.cell? ⟨κ.sB,2,none⟩=some (.int .i64 κ.L)∧W.cell? ⟨κ.mB,7,none⟩=some (.int .i64 σ.b)∧W.cell? ⟨κ.mB,11,none⟩=some (.slice (some ⟨κ.lb,κ.lo,none⟩) D.length qy)) (by kernel_rfl) S5 (fun Z9=>?_);clear S5 m11;generalize w4.drew=w5 at *
 iterate 13 (refine ZW ?_ Z9 ?_ ?_;rotate_left;· intro w9 Z0;obtain ⟨k0,k1,k2,k3,k4⟩:=Z0;go_simp;try with_reducible rfl)
 refine ZG 14 ?v27 rfl Z9 ?hy27 ?_
 case hy27=>intro w9 Z0;obtain ⟨k0,k1,k2,k3,k4⟩:=Z0;go_simp;try with_reducible rfl
 refine ZG 15 ?v28 rfl Z9 ?hy28 ?_
 case hy28=>intro w9 Z0;obtain ⟨k0,k1,k2,k3,k4⟩:=Z0;go_simp;try with_reducible rfl
 refine ZG 16 ?v29 rfl Z9 ?hy29 ?_
 case hy29=>intro w9 Z0;obtain ⟨k0,k1,k2,k3,k4⟩:=Z0;go_simp;try with_reducible rfl
 refine ZG 17 ?v30 rfl Z9 ?wG ?_
 case wG=>intro w9 Z0;obtain ⟨k0,k1,k2,k3,k4⟩:=Z0;go_simp;try with_reducible rfl
 refine ZG 18 ?v31 rfl Z9 ?hy31 ?_
 case hy31=>intro w9 Z0;obtain ⟨k0,k1,k2,k3,k4⟩:=Z0;go_simp;try with_reducible rfl
 refine ZG 19 ?v32 rfl Z9 ?hy32 ?_
 case hy32=>intro w9 Z0;obtain ⟨k0,k1,k2,k3,k4⟩:=Z0;go_simp;try with_reducible rfl
 refine ZG 20 ?v33 rfl Z9 ?wD ?_
 case wD=>intro w9 Z0;obtain ⟨k0,k1,k2,k3,k4⟩:=Z0;go_simp;try with_reducible rfl
 refine ZG 21 ?v34 rfl Z9 ?hy34 ?_
 case hy34=>intro w9 Z0;obtain ⟨k0,k1,k2,k3,k4⟩:=Z0;go_simp;try with_reducible rfl
 refine ZU 13 rfl (fun K hK=>?_);go_simp;refine (VO w5 κ.S κ.L σ.b hc hb).mono ?_;rintro e w6 ⟨rfl,b6⟩;have hs0:=A5.out.lt;have hm0:=B5.out.lt;have S6:w6.cell? ⟨κ.sB,0,none⟩=some (.pointer (some ⟨κ.mB,0,none⟩))∧w6.cell? ⟨κ.sB,1,none⟩=some (.int .i64 κ.S)∧w6.cell? ⟨κ.sB,2,none⟩=some (.int .i64 κ.L)∧w6.cell? ⟨κ.mB,7,none⟩=some (.int .i64 σ.b)∧w6.cell? ⟨κ.mB,11,none⟩=some (.slice (some ⟨κ.lb,κ.lo,none⟩) D.length qy):=⟨(b6.cell (p:=⟨κ.sB,0,none⟩) hs0).trans Z9.1,(b6.cell (p:=⟨κ.sB,1,none⟩) hs0).trans Z9.2.1,(b6.cell (p:=⟨κ.sB,2,none⟩) hs0).trans Z9.2.2.1,(b6.cell (p:=⟨κ.mB,7,none⟩) hm0).trans Z9.2.2.2.1,(b6.cell (p:=⟨κ.mB,11,none⟩) hm0).trans Z9.2.2.2.2⟩;have V6:=Z3 (V5.out.below b6);have G6:=Z3 (G5.out.trans (Gs.ZV b6));refine hK.out _ _ S6 (fun ZM=>?_);clear hK K Z9 ZM b6 V5 G5 A5 B5 hs0 hm0;obtain ⟨v0,hv0,q6⟩:=V6.out.pq;obtain ⟨YA,Yy,Zn,b6,-,-,-,-,-,l6,-⟩:=V6.out.mm;have hne:=V6.out.ne;have Zk:Zn=qy:=by
  have e:=b6.cl 11 _ rfl
  simp only [h0,Mh,Wi,VB] at e
  rw [S6.2.2.2.2] at e
  simp at e
  exact e.symm
 subst Zk;have HW:=Z3 (QU (VJ κ.S κ.L σ.b true) (LO κ.S κ.L true) (.slice (some ⟨κ.lb,κ.lo,none⟩) D.length Zn) D σ.full.length q6 hk (wH hc hb) (fun W hW=>(Xy.gr l6 hW (by simp [Value.ownBlock];exact fun e=>hne.2.2.1 e.symm) (fun e=>by simp only [Value.ownBlock] at e;exact (V6.out.pw _ e.symm).2.2.2.2.1 rfl)).rd) (by have:=SM.out;omega) (by have:=SM.out;omega));refine ZU 22 rfl (fun K hK=>?_);go_simp;refine HW.out.mono ?_;rintro e w7 ⟨rfl,p7,-⟩;have P7:=Z3 p7;obtain ⟨dY,Yp,jX,fM,Yo,Ym,a7,-,-,-,-,-,-,-,g7,-⟩:=p7;have hmw:some κ.mB≠σ.pw:=fun e=>(V6.out.pw _ e.symm).2.2.1 rfl
 have b7:=YN b6 g7.size (g7.block _ b6.lt hne.1.symm hmw);refine hK.out _ _ ⟨a7.cl 0 _ rfl,a7.cl 1 _ rfl,a7.cl 2 _ rfl,b7.cl 7 _ rfl,(Zj (w:=w6) (a:=⟨κ.mB,11,none⟩) (g7.block _ b6.lt hne.1.symm hmw)).trans S6.2.2.2.2⟩ (fun ZM=>?_);clear hK K ZM a7 b7 g7 b6 l6 S6 HW q6;refine ZP (by kernel_rfl) ?_ _
 try simp only [Act.put,Y8,Y7,Y6]
 go_wp2_with fail
 refine (Kt P7.out (by omega)).mono ?_;rintro e w8 ⟨rfl,p8,-⟩;obtain ⟨V8,G8⟩:=V6.out.ended hv0 p8 hsp;have V9:Hid (Sv κ { σ with fs:=[],full:=D,k:=σ.k+66,pw:=none } w8.drew):=V8.below (below_drewN' w8 1);have G9:Hid (Gw κ w w8.drew):=(G6.out.gw.trans G8).trans (Gs.ZV (below_drewN' w8 1)).gw;clear V8 G8 p8 P7 V6 G6;obtain ⟨Yl,Yk,fQ,b9,-,r9,-⟩:=V9.out.mm;obtain ⟨aq,cq,rfl,-,-⟩:=r9.len;obtain ⟨Yf,Y1,YG,a9,-⟩:=V9.out.dk;have B9:=Z3 b9;have A9:=Z3 a9;have S9:w8.drew.cell? ⟨κ.sB,0,none⟩=some (.pointer (some ⟨κ.mB,0,none⟩))∧w8.drew.cell? ⟨κ.mB,2,none⟩=some (.slice aq σ.Q.length cq)∧w8.drew.cell? ⟨κ.mB,3,none⟩=some (.int .i64 (σ.zq:Int)):=⟨a9.cl 0 _ rfl,b9.cl 2 _ rfl,b9.cl 3 _ rfl⟩;clear a9 b9
 go_wp2_with fail
 refine ZH (S:=fun W=>W.cell? ⟨κ.sB,0,none⟩=some (.pointer (some ⟨κ.mB,0,none⟩))∧W.cell? ⟨κ.mB,2,none⟩=some (.slice aq σ.Q.length cq)∧W.cell? ⟨κ.mB,3,none⟩=some (.int .i64 (σ.zq:Int))) (by kernel_rfl) S9 (fun Z9=>?_);clear S9;generalize w8.drew=w9 at *
 iterate 13 (refine ZW ?_ Z9 ?_ ?_;rotate_left;· intro w9 Z0;obtain ⟨k0,k1,k2⟩:=Z0;go_simp;try with_reducible rfl)
 refine ZU 13 rfl (fun K hK=>?_);have m0:=B9.out.cl 0 _ rfl;have m1:=B9.out.cl 1 _ rfl;have f0:=B9.out.fz 0;have f1:=B9.out.fz 1;go_simp;have F9:=Z3 (V9.out.rV B9.out);have ZE:=(A9.out.other (c:=κ.mB) (j:=0) (x:=.slice aq σ.Q.length cq) V9.out.ne.1).other (c:=κ.mB) (j:=1) (x:=.int .i64 (σ.zq:Int)) V9.out.ne.1;have B10:=(B9.out.set 0 (.slice aq σ.Q.length cq)).set 1 (.int .i64 (σ.zq:Int));have lC:=Z3 (G9.out.trans F9.out.2.gw);have jW:=Z3 F9.out.1;refine hK.out _ _ ⟨ZE.cl 0 _ rfl,B10.cl 2 _ rfl,B10.cl 3 _ rfl⟩ (fun ZM=>?_);have ZB:=Z3 ZE;have B11:=Z3 B10;clear hK K ZM m0 m1 f0 f1 F9 ZE B10 A9 B9 V9 G9 Z9;refine ZP (by kernel_rfl) ?_ _
 try simp only [Act.put,Y8,Y7,Y6]
 generalize (w9.setCell _ _).setCell _ _=LF at *;have c0:=ZB.out.cl 0 _ rfl;have m5:=B11.out.cl 5 _ rfl;have f5:=B11.out.fz 5;have Zi:=ZB.out.other (c:=κ.mB) (j:=5) (x:=.int .i64 0) jW.out.ne.1;have ny:=B11.out.set 5 (.int .i64 0);have c0':=Zi.cl 0 _ rfl;have Y0:=ny.cl 1 _ rfl;have FZ:=Z3 jW.out.rU;have Zh:=Z3 (htab _ (lC.out.trans FZ.out.2.gw))
 go_wp2_with fail
 have TT:=Hi (LF.setCell ⟨κ.mB,5,none⟩ (.int .i64 0)) ⟨#[102,108,117,115,104,101,100]⟩ σ.fs.length σ.zq (by decide) (by omega) hz Zh.out;have hsz:(LF.setCell ⟨κ.mB,5,none⟩ (.int .i64 0)).heap.size=LF.heap.size:=by simp
 have FIN:Hid (∀W,Below LF.heap.size (LF.setCell ⟨κ.mB,5,none⟩ (.int .i64 0)) W→Gw κ w W∧Sv κ { σ with T:=σ.Q,zf:=σ.zq,fs:=[],ql:=0,full:=D,k:=σ.k+66,pw:=none } W):=fun W hW=>by
  rw [←hsz] at hW;exact ⟨(lC.out.trans FZ.out.2.gw).trans (Gs.ZV hW).gw,FZ.out.1.below hW⟩
 rw [hsz] at TT;refine TT.mono ?_;rintro e uC ⟨rfl,b12⟩;have YX:=Z3 (FIN.out _ b12);clear b12 FIN TT Zh FZ jW lC ZB B11 Zi ny c0 m5 f5 c0' Y0 hsz;go_wp2;go_ret;refine ⟨rfl,?_⟩;rw [hF,HD.out];exact YX.out
 end Go.Proofs.YtpmjnbmkippaiaaGreatDoor
namespace Go.Proofs.YtpmjnbmkippaiaaGreatDoor
open Go.RowKit Go.Shelf
theorem Hh (w:World) (v vo:Value) (ns:List Nd) (os:List Xd) (z:Int) (h:Wx w v ns) (ho:MJ w vo os) (hos:∀i,i<os.length→(Ut os i).path.size≤1048576∧(Ut os i).data.size≤1048576) (hb:VW ns os z=true)
    (hg : w.cell? ⟨5, 0, none⟩ = some (.iface 345 (.agg #[.pointer (some ⟨11, 182, none⟩)]))) (h0 : 5 < w.heap.size) (htab : Lib.TabIs Tryz.prog w "internal/strconv.uint64pow10" .u64 Lib.pow10Tab) :
    Calls Tryz.prog 125 #[.agg #[v],.agg #[vo],.int .i64 z] w fun e w'=>nJ w ns z (VX z os ns 0 []) e w':=by
 unfold VW at hb
 simp only [Yg,Yt] at hb
 obtain ⟨hok,h1,h2,h3,h4⟩:=hb;have C:=Z3 (Uj.1 hok);have Ub:=Z3 hok;have hn:ns.length≤1000:=C.out.2.2;obtain ⟨ao,ca,rfl,_,_⟩:=h.len;obtain ⟨bo,cb,rfl,_,_⟩:=ho.len;have HR:=Z3 h;have YU:=Z3 ho;have lJ:=Z3 hos;have HG:=Z3 hg;have HT:=Z3 htab;have Pm:Hid (∀i,(ZC ns i).path.size≤1048576∧(ZC ns i).data.size≤1048576):=by
  intro i
  by_cases hi:i<ns.length
  · have:=Xj (C.out.2.1 _ (UO hi))
    rw [YZ hi];omega
  have:ZC ns i=nd0:=by unfold ZC;simp [List.getD,MX (show ns.length≤i by omega)]
  rw [this];simp [nd0]
 have lL:Hid (∀W,ZX w W→∀n:Int,0≤n→n≤2147483647→Calls Tryz.prog 249 #[.int .i64 n] W (YI W (.string ⟨(six 12 n.toNat 6).toArray⟩))):=fun W hW n a b=>ET W n a b (Vi HT.out hW)
 have yC:¬(os.length:Int)<1:=by omega
 have lD:¬(64:Int)<(os.length:Int):=by omega
 have HZ:Hid (TU z=true):=by show _=_;unfold TU;simp;omega
 have tj:Hid (∀W,Calls Tryz.prog 164 #[.int .i64 z] W fun e w'=>e=.returned (.bool true)∧W=w'):=fun W=>by
  have:=Hn W z;rw [Y3 h3,Y3 h4] at this;exact this.mono fun e w' h9=>⟨h9.1,h9.2.symm⟩
 have X0:Hid (Bq w (.slice ao ns.length ca) (.slice bo os.length cb) (((w.alloc (.cells #[.slice ao ns.length ca] 63)).alloc (.cells #[.slice bo os.length cb] 41)).alloc (.cells #[.int .i64 0,.int .i64 0,.slice none 0 0,.int .i64 0,.slice none 0 0] 194))):=Bq.new _ _ _ _ _ _;obtain ⟨res,hres⟩:∃res,res=VX z os ns 0 []:=⟨_,rfl⟩;rw [←hres];have iF:=Z3 hres;clear h ho hos hok hg htab hres
 go_enter Tryz.func125,Tryz.ntmps125
 go_wp2_with fail
 generalize ((w.alloc _).alloc _).alloc _=w0 at *;refine (XE _ _ ns (HR.out.below X0.out.1) Pm.out).mono ?_;rintro e w1 ⟨rfl,b1⟩;rw [Ub.out];have X1:=Z3 (X0.out.below b1);clear b1 X0 Ub;have zz:w.heap.size+3≤w1.heap.size:=X1.out.2.1;obtain ⟨-,-,a0,a1,-⟩:=X1.out;have UH:=Z3 (sd w1 ao ca ns (HR.out.below X1.out.1) hn)
 go_wp2_with (first | (go_at_call 164;refine (tj.out _).mono ?_;rintro e w' ⟨rfl,rfl⟩) | (go_at_call 166;refine UH.out.mono ?_))
 rintro e w2 ⟨v2,rfl,o2,b2⟩;have X2:=Z3 (X1.out.below b2);have B2:=Z3 b2;have O2:=Z3 o2;have V2:Hid (∀g,v2.ownBlock=some g→g<w2.heap.size):=fun g hg=>(ZD o2 g hg).2
 have s2:=b2.size;obtain ⟨Z8,Z7,rfl⟩:=o2.Vc;clear o2 b2 UH a0 a1;have B3:Hid (ZX w2 (w2.alloc (.cells #[.slice Z8 ns.length Z7,.int .i64 z] 243))):=ZJ.alloc ZT _;have D3:Hid (Df (w2.alloc (.cells #[.slice Z8 ns.length Z7,.int .i64 z] 243)) w2.heap.size w1.heap.size z (.slice Z8 ns.length Z7) ns):=⟨St.new _ _ _,O2.out.below B3.out,fun e=>by have:=V2.out _ e;omega,C.out⟩;have X3:=Z3 (X2.out.below B3.out);have e3:(w2.alloc (.cells #[.slice Z8 ns.length Z7,.int .i64 z] 243)).heap.size=w2.heap.size+1:=by simp
 have E3:=Z3 e3;clear e3 O2 V2 X2;obtain ⟨-,-,a0,a1,-⟩:=X3.out
 go_wp2_with fail
 clear a0 a1;generalize w2.alloc _=w3 at *;have lI:=Z3 (YV B2.out B3.out);refine (Bn w1 w3 w2.heap.size z _ _ ns os lI.out D3.out B2.out.size (YU.out.below X1.out.1) lJ.out HZ.out h1 h2 (fun W hW=>lL.out W (X1.out.1.trans (hW.mono X1.out.1.size)))).mono ?_;rw [←iF.out];rintro e w4 ⟨b4,hA | hA⟩
 · obtain ⟨hne,rfl⟩:=hA
   have X4:=Z3 (X1.out.Zc b4 zz);have M:=Z3 (AZ w4 (res.2.1:Int) res.1 ((X4.out.1.cell (p:=⟨5,0,none⟩) h0).trans HG.out) (by have:=b4.size;omega));clear b4;unfold Wq
   go_wp2_with (go_at_call 165;refine M.out.mono ?_)
   rintro e w5 ⟨rfl,b5⟩;have X5:=Z3 (X4.out.below b5);clear b5;obtain ⟨-,z5,-,-,⟨d0,d1,d2,d3,d4⟩,Z⟩:=X5.out;have f0:=Z 0;have f1:=Z 1;have f2:=Z 2;have f3:=Z 3;have f4:=Z 4;clear Z
   go_wp2_with fail
   refine ZS (v:=.agg #[.int .i64 res.1,.int .i64 (res.2.1:Int),.slice none 0 0,.int .i64 0,.slice none 0 0]) (by simp [results,Tryz.results125,go_sem,d0,d1,d2,d3,d4]) rfl ⟨X5.out.1.trans ?_,.inl ⟨hne,rfl⟩⟩
   repeat (first | exact ZJ | refine Below.setCell ?_ (by simp;try omega) _)
 obtain ⟨he0,vn,v4,rfl,nx,d4⟩:=hA;have X4:=Z3 (X1.out.Zc b4 zz);have s4:=b4.size;have D4:=Z3 d4;have N4:=Z3 nx;clear b4 d4 nx
 go_wp2_with fail
 have s3:=lI.out.size;have e3:=E3.out;have X5:Hid (Bq w (.slice ao ns.length ca) (.slice bo os.length cb) w4.drew):=X4.out.below (below_drewN' w4 1);have D5:Hid (Df w4.drew w2.heap.size w1.heap.size z v4 res.2.2.1):=D4.out.below (below_drewN' w4 1);have N5:Hid (w4.drew.ownsRow w3.heap.size 9 1 vn res.2.2.2.length (res.2.2.2.map Value.string)):=N4.out;have s5:w1.heap.size≤w4.drew.heap.size:=s4;clear X4 D4 N4 s4;refine ZH (S:=fun W=>W.cell? ⟨w.heap.size,0,none⟩=some (.slice ao ns.length ca)∧W.cell? ⟨w2.heap.size,0,none⟩=some v4) (by kernel_rfl) ⟨X5.out.2.2.1,D5.out.s.cl 0 _ rfl⟩ (fun Z9=>?_);generalize w4.drew=w5 at *
 iterate 8 (refine ZW ?_ Z9 ?_ ?_;rotate_left;· intro w9 Z0;obtain ⟨k0,k1⟩:=Z0;go_simp;try with_reducible rfl)
 refine ZU 8 rfl (fun K hK=>?_);go_simp;refine (Bm w5 _ _ ns res.2.2.1 (HR.out.below X5.out.1) D5.out.o.rd hn D5.out.n.2.2).mono ?_;rintro e w6 ⟨v6,rfl,o6,b6⟩;have X6:=Z3 (X5.out.below b6);have D6:=Z3 (D5.out.below b6);have N6:=Z3 (Nu N5.out b6);obtain ⟨ea,ec,rfl⟩:=o6.Vc;have E6:=Z3 o6;have s6:=b6.size;clear o6 b6 Z9 X5 D5 N5;refine hK.out _ _ ⟨X6.out.2.2.1,D6.out.s.cl 0 _ rfl⟩ (fun Z9=>?_);clear hK K;have hun:∃ua uc,vn=.slice ua res.2.2.2.length uc:=by
  rcases N6.out.2 with ⟨rfl,hx⟩ | ⟨g,cap,cur,rfl,-⟩
  · exact ⟨_,_,by rw [hx]⟩
  exact ⟨_,_,rfl⟩
 obtain ⟨ua,uc,rfl⟩:=hun
 iterate 2 (refine ZW ?_ Z9 ?_ ?_;rotate_left;· intro w9 Z0;clear Z0;go_simp;try with_reducible rfl)
 obtain ⟨-,z6,-,-,⟨d0,d1,d2,d3,d4⟩,Z⟩:=X6.out;have f0:=Z 0;have f1:=Z 1;have f2:=Z 2;have f3:=Z 3;have f4:=Z 4;clear Z;refine ZU 11 rfl (fun K hK=>?_);go_simp;have T9:=Z3 ((((((Tw.refl w6 (w.heap.size+1+1) none).set (j:=0) (x:=.int .i64 0)).set (j:=1) (x:=.int .i64 0)).set (j:=2) (x:=.slice ua res.2.2.2.length uc)).set (j:=3) (x:=.int .i64 z)).set (j:=4) (x:=.slice ea (XQ ns res.2.2.1).length ec));have k0:=(Zj (w:=w6) (a:=⟨w.heap.size,0,none⟩) (T9.out.block w.heap.size (by omega) (by omega) (by simp))).trans X6.out.2.2.1;have k1:=(T9.out.st D6.out.s (by omega) (by simp)).cl 0 _ rfl;refine hK.out _ _ ⟨k0,k1⟩ (fun Z9=>?_);clear hK K k0 k1;refine ZP (by kernel_rfl) ?_ _
 try simp only [Act.put,Y8,Y7,Y6]
 clear Z9;have HF:Hid (nJ w ns z res (.returned (.agg #[.int .i64 0,.int .i64 0,.slice ua res.2.2.2.length uc,.int .i64 z,.slice ea (XQ ns res.2.2.1).length ec])) (((((w6.setCell ⟨w.heap.size+1+1,0,none⟩ (.int .i64 0)).setCell ⟨w.heap.size+1+1,1,none⟩ (.int .i64 0)).setCell ⟨w.heap.size+1+1,2,none⟩ (.slice ua res.2.2.2.length uc)).setCell ⟨w.heap.size+1+1,3,none⟩ (.int .i64 z)).setCell ⟨w.heap.size+1+1,4,none⟩ (.slice ea (XQ ns res.2.2.1).length ec))):=by
  refine ⟨X6.out.1.trans (T9.out.below (by omega) (by omega) (fun g h=>by cases h)),.inr ⟨he0,_,_,rfl,?_,?_⟩⟩
  · refine Qa (lo:=w3.heap.size) (Ki N6.out T9.out (fun g hg=>?_) (fun g hg=>by simp)) (by omega)
    have:=(ZD N6.out g hg).1;omega
  unfold XH;refine Qa (lo:=w5.heap.size) (Ki E6.out T9.out (fun g hg=>?_) (fun g hg=>by simp)) (by omega);have:=(ZD E6.out g hg).1;omega
 clear T9 N6 E6 X6 D6
 go_wp2_with fail
 exact ZS (v:=.agg #[.int .i64 0,.int .i64 0,.slice ua res.2.2.2.length uc,.int .i64 z,.slice ea (XQ ns res.2.2.1).length ec]) (by simp [results,Tryz.results125,go_sem,d0,d1,d2,d3,d4]) rfl HF.out
def nw (nm:List ByteArray):List (List UInt8):=nm.map fun s=>s.data.toList
theorem rT (nm:List ByteArray):(nw nm).map sV=nm.map Value.string:=by
 unfold nw;rw [uj];apply uk;intro s _
 simp [sV]
structure Pa where
 c:Int
 i:Int
 z:Int
 L:List (List UInt8)
 es:List Ef
def EN (ns:List Nd) (os:List Xd) (z:Int):Pa :=
 if VW ns os z=true then
  (if (VX z os ns 0 []).1=0 then ⟨0,0,z,nw (VX z os ns 0 []).2.2.2,XQ ns (VX z os ns 0 []).2.2.1⟩
   else ⟨(VX z os ns 0 []).1,((VX z os ns 0 []).2.1:Nat),0,[],[]⟩)
 else ⟨9,0,0,[],[]⟩
def PA (w:World) (a:Pa) (e:Ending) (w':World):Prop :=
 ∃vn ve,e=.returned (.agg #[.int .i64 a.c,.int .i64 a.i,vn,.int .i64 a.z,ve])∧gM w' w.heap.size vn a.L∧XH 249 w' w.heap.size ve a.es∧ZX w w'
theorem PA.bad {w w':World} {c i z:Int} {e:Ending} (he:e=.returned (.agg #[.int .i64 c,.int .i64 i,.slice none 0 0,.int .i64 z,.slice none 0 0])) (hb:ZX w w'):PA w ⟨c,i,z,[],[]⟩ e w' :=
 ⟨_,_,he,Zl _ _ _ _,Zl _ _ _ _,hb⟩
theorem PA.ok {w w':World} {ns:List Nd} {os:List Xd} {z:Int} {e:Ending} (hk:VW ns os z=true) (h:nJ w ns z (VX z os ns 0 []) e w'):PA w (EN ns os z) e w':=by
 obtain ⟨hb,h⟩:=h;unfold EN;rw [ZZ hk]
 rcases h with ⟨h0,he⟩ | ⟨h0,vn,ve,he,h1,h2⟩
 · rw [Z1 h0]
   exact PA.bad he hb
 rw [ZZ h0];refine ⟨vn,ve,he,?_,h2,hb⟩;show World.ownsRow _ _ _ _ _ _ _;rw [rT];have:(nw (VX z os ns 0 []).2.2.2).length=(VX z os ns 0 []).2.2.2.length:=by simp [nw]
 rw [this];exact h1
theorem AV (w:World) (v vo:Value) (ns:List Nd) (os:List Xd) (z:Int) (h:Wx w v ns) (ho:MJ w vo os) (hsz:∀i,(ZC ns i).path.size≤1048576∧(ZC ns i).data.size≤1048576) (hos:∀i,(Ut os i).path.size≤1048576∧(Ut os i).data.size≤1048576)
    (hg : w.cell? ⟨5, 0, none⟩ = some (.iface 345 (.agg #[.pointer (some ⟨11, 182, none⟩)]))) (h0 : 5 < w.heap.size) (htab : Lib.TabIs Tryz.prog w "internal/strconv.uint64pow10" .u64 Lib.pow10Tab) :
    Calls Tryz.prog 125 #[.agg #[v],.agg #[vo],.int .i64 z] w fun e w'=>PA w (EN ns os z) e w':=by
 by_cases hk:VW ns os z=true
 · exact (Hh w v vo ns os z h ho (fun i _=>hos i) hk hg h0 htab).mono fun e w' h9=>PA.ok hk h9
 refine (Kg w v vo ns os z h ho hsz (by simpa using hk) hg h0).mono fun e w' h9=>?_
 unfold EN;rw [Z1 hk];exact PA.bad h9.1 h9.2
end Go.Proofs.YtpmjnbmkippaiaaGreatDoor
namespace Go.Proofs.YtpmjnbmkippaiaaGreatDoor
open Go.RowKit Go.Conc
theorem Sv.sent {κ:Sc} {σ:Sx} {W:World} {Lv:List Value} {s r:Nat} {v:Value} {f:List Int} (h:Sv κ σ W) (hc:W.heap[κ.c]?=some (.chan κ.cap Lv.toArray false s r false)) (hv:Rd .u8 W v f) (h0:0<f.length) (Qc:Tk κ v) :
    Sv κ { σ with fs:=σ.fs++[f] } (W.setChan κ.c κ.cap (Lv.toArray.push v) false (s+1) r false)∧Gs κ W (W.setChan κ.c κ.cap (Lv.toArray.push v) false (s+1) r false):=by
 have hg:=Kr W κ.c κ.cap (Lv.toArray.push v) false (s+1) r false;have G:=Gs.LI (κ:=κ) hg (.inr (.inr (.inl rfl)));have hne:=h.ne;obtain ⟨vd,made,ZQ,a1,-⟩:=h.dk;have hlt:=(Yh.mp hc).1;refine ⟨h.re G rfl (hg.block _ a1.lt (by simp;exact fun e=>hne.2.1 e)) rfl (fun vt vq cp b1 b2 b3 b4 b5 b6 b7 b8=>⟨vt,vq,cp,YN b1 hg.size (hg.block _ b1.lt (by simp;exact fun e=>hne.2.2.2.1 e)),b2,b3,b4,b5,b6,Xy.kept b7 hg (.inr (by simp [Value.ownBlock];exact fun e=>hne.2.2.2.2.2 e.symm)),b8⟩) (fun lP s' r' c1 c2 c3=>⟨Lv++[v],s+1,r,?_,?_,?_⟩),G⟩
 · have:=heap_setChan W κ.c κ.cap (Lv.toArray.push v) false (s+1) r false hlt
   rw [this]
   simp
 all_goals
  rw [hc] at c1
  simp only [Zo,Obj.chan.injEq] at c1
  obtain ⟨-,e9,-⟩:=c1;have e8:Lv=lP:=by simpa using ZR Array.toList e9
  subst e8
 · refine ⟨by simp [c2.1],fun i hi=>?_⟩
   by_cases e:i<Lv.length
   · have e1:(Lv++[v]).getD i undef=Lv.getD i undef:=by simp [List.getD,Wd e]
     have e2:(σ.fs++[f]).getD i []=σ.fs.getD i []:=by simp [List.getD,Wd (show i<σ.fs.length by have:=c2.1;omega)]
     rw [e1,e2];exact c2.2 i e
   have e3:i=Lv.length:=by simp at hi;omega
   subst e3;have e1:(Lv++[v]).getD Lv.length undef=v:=by simp [List.getD]
   have e2:(σ.fs++[f]).getD Lv.length []=f:=by rw [c2.1];simp [List.getD]
   rw [e1,e2];exact ⟨qE hg hc hv,h0⟩
 intro i hi
 by_cases e:i<Lv.length
 · have e1:(Lv++[v]).getD i undef=Lv.getD i undef:=by simp [List.getD,Wd e]
   rw [e1];exact c3 i e
 have e3:i=Lv.length:=by simp at hi;omega
 subst e3;have e1:(Lv++[v]).getD Lv.length undef=v:=by simp [List.getD]
 rw [e1];exact Qc
theorem Sv.fL {κ:Sc} {σ:Sx} {w:World} (n:Nat) (h:Sv κ σ w):Sv κ { σ with ql:=n } (w.setCell ⟨κ.mB,5,none⟩ (.int .i64 (n:Int)))∧Gs κ w (w.setCell ⟨κ.mB,5,none⟩ (.int .i64 (n:Int))):=by
 have hne:=h.ne;have hbl:∀q,q≠κ.mB→(w.setCell ⟨κ.mB,5,none⟩ (.int .i64 (n:Int))).heap[q]?=w.heap[q]?:=fun q hn=>Below.heap_setCell w ⟨κ.mB,5,none⟩ _ q hn
 have G:Gs κ w (w.setCell ⟨κ.mB,5,none⟩ (.int .i64 (n:Int))):=⟨rfl,rfl,rfl,by simp,fun q hq _ h2 _ _=>hbl q h2⟩;exact ⟨h.re G rfl (hbl _ hne.1) rfl (fun I U V b1 b2 b3 b4 b5 b6 b7 b8=>⟨I,U,V,b1.set 5 _,b2,b3,b4,b5,b6,b7.setAt (.inr (by simp [Value.ownBlock];exact fun e=>hne.2.2.2.2.1 e.symm)),b8⟩) (fun Lv s r c1 c2 c3=>⟨Lv,s,r,(hbl _ hne.2.2.2.1.symm).trans c1,c2,c3⟩),G⟩
theorem Sv.nv {κ:Sc} {σ:Sx} {w:World} {v:Value} {Q:List Nd} {z:Nat} (h:Sv κ σ w) (hr:Wx w v Q) (hn:T0 v) (hf:Tk κ v):Sv κ { σ with Q:=Q,zq:=z } ((w.setCell ⟨κ.mB,2,none⟩ v).setCell ⟨κ.mB,3,none⟩ (.int .i64 (z:Int)))∧Gs κ w ((w.setCell ⟨κ.mB,2,none⟩ v).setCell ⟨κ.mB,3,none⟩ (.int .i64 (z:Int))):=by
 have hne:=h.ne;have hbl:∀q,q≠κ.mB→((w.setCell ⟨κ.mB,2,none⟩ v).setCell ⟨κ.mB,3,none⟩ (.int .i64 (z:Int))).heap[q]?=w.heap[q]?:=fun q hn=>(Below.heap_setCell _ ⟨κ.mB,3,none⟩ _ q hn).trans (Below.heap_setCell w ⟨κ.mB,2,none⟩ _ q hn)
 have G:Gs κ w ((w.setCell ⟨κ.mB,2,none⟩ v).setCell ⟨κ.mB,3,none⟩ (.int .i64 (z:Int))):=⟨rfl,rfl,rfl,by simp,fun q hq _ h2 _ _=>hbl q h2⟩;exact ⟨h.re G rfl (hbl _ hne.1) rfl (fun I U V b1 b2 b3 b4 b5 b6 b7 b8=>⟨I,v,V,(b1.set 2 _).set 3 _,b2,Ys hr G.size (fun q hq hl=>hbl q (hf q hq).2.1),hn,b5,hf,(b7.setAt (.inr (by simp [Value.ownBlock];exact fun e=>hne.2.2.2.2.1 e.symm))).setAt (.inr (by simp [Value.ownBlock];exact fun e=>hne.2.2.2.2.1 e.symm)),b8⟩) (fun Lv s r c1 c2 c3=>⟨Lv,s,r,(hbl _ hne.2.2.2.1.symm).trans c1,c2,c3⟩),G⟩
theorem wC {w w':World} {v:Value} {ns:List Ef} (h:IJ w v ns) (hs:w.heap.size≤w'.heap.size) (hb:∀q,v.ownBlock=some q→q<w.heap.size→w'.heap[q]?=w.heap[q]?):IJ w' v ns:=by
 obtain ⟨ao,cp,rfl,h1,h2,h3⟩:=h;refine ⟨ao,cp,rfl,h1,h2,h3.imp id ?_⟩;rintro ⟨b,off,rfl,hlt,hcl⟩;refine ⟨b,off,rfl,ZL hlt hs,fun i hi=>?_⟩;have e:∀j,w'.cell? ⟨b,j,none⟩=w.cell? ⟨b,j,none⟩:=fun j=>Zj (w:=w) (a:=⟨b,j,none⟩) (hb b rfl hlt)
 have h9:=hcl i hi;exact ⟨(e _).trans h9.c0,(e _).trans h9.c1,(e _).trans h9.c2,(e _).trans h9.c3,(e _).trans h9.c4,(e _).trans h9.c5,(e _).trans h9.c6,(e _).trans h9.c7⟩
theorem wz {w w':World} {v:Value} {os:List Xd} (h:MJ w v os) (hs:w.heap.size≤w'.heap.size) (hb:∀q,v.ownBlock=some q→q<w.heap.size→w'.heap[q]?=w.heap[q]?):MJ w' v os:=by
 obtain ⟨ao,cp,rfl,h1,h2,h3⟩:=h;refine ⟨ao,cp,rfl,h1,h2,h3.imp id ?_⟩;rintro ⟨b,off,rfl,hlt,hcl⟩;refine ⟨b,off,rfl,ZL hlt hs,fun i hi=>?_⟩;have e:∀j,w'.cell? ⟨b,j,none⟩=w.cell? ⟨b,j,none⟩:=fun j=>Zj (w:=w) (a:=⟨b,j,none⟩) (hb b rfl hlt)
 have h9:=hcl i hi;exact ⟨(e _).trans h9.1,(e _).trans h9.2.1,(e _).trans h9.2.2.1,(e _).trans h9.2.2.2.1,(e _).trans h9.2.2.2.2⟩
theorem Sv.jV {κ:Sc} {σ:Sx} {w:World} (h:Sv κ σ w):κ.sB<w.heap.size∧κ.mB<w.heap.size∧κ.c<w.heap.size∧κ.lb<w.heap.size:=by
 obtain ⟨vd,made,ZQ,a1,-⟩:=h.dk;obtain ⟨vt,vq,cp,b1,b2,b3,b4,b5,b6,b7,b8⟩:=h.mm;obtain ⟨Lv,s,r,c1,c2,c3⟩:=h.ch;exact ⟨a1.lt,b1.lt,(Yh.mp c1).1,(b7.lt κ.lb rfl).2⟩
theorem Sv.far {κ:Sc} {σ:Sx} {w:World} (h:Sv κ σ w) {v:Value} (hv:∀q,v.ownBlock=some q→w.heap.size≤q):Tk κ v:=by
 obtain ⟨h1,h2,h3,h4⟩:=h.jV;intro q hq;have:=hv q hq;exact ⟨by omega,by omega,by omega,by omega,fun hx=>by have:=(h.fx q hx).1;omega⟩
structure lB (κ:Sc) (N:Nat) (vo vn ve vx:Value) (os:List Xd) (pa:ByteArray) (A:Pa) (b5:Nat) (W:World):Prop where
 hk:κ.sB<N∧κ.mB<N∧κ.c<N∧κ.lb<N
 ln:St W N [.int .i64 1,vo,.bool false,.string pa,vn]
 pr:St W b5 [.int .i64 A.c,.int .i64 A.i,ve,.int .i64 A.z,vx]
 lo:N<b5
 es:IJ W vx A.es
 xf:∀q,vx.ownBlock=some q→N≤q
 op:MJ W vo os
 oF:Tk κ vo
theorem lB.gs {κ:Sc} {N:Nat} {vo vn ve vx:Value} {os:List Xd} {pa:ByteArray} {A:Pa} {b5:Nat} {W W':World} (h:lB κ N vo vn ve vx os pa A b5 W) (hg:Gs κ W W'):lB κ N vo vn ve vx os pa A b5 W':=by
 obtain ⟨k1,k2,k3,k4⟩:=h.hk;have hl:=h.lo;have hb:∀q,N≤q→q<W.heap.size→W'.heap[q]?=W.heap[q]?:=fun q hq hl=>hg.block q hl (by omega) (by omega) (by omega) (by omega)
 exact ⟨h.hk,YN h.ln hg.size (hb _ ZT h.ln.lt),YN h.pr hg.size (hb _ (Nat.le_of_lt hl) h.pr.lt),hl,wC h.es hg.size (fun q hq hl=>hb q (h.xf q hq) hl),h.xf,wz h.op hg.size (fun q hq hl=>hg.block q hl (h.oF q hq).1 (h.oF q hq).2.1 (h.oF q hq).2.2.1 (h.oF q hq).2.2.2.1),h.oF⟩
theorem rS (s:ByteArray) (z:Nat) (hs:s.size≤1000) (hz:z<1000000):(strOfNums (Yx s [z])).size≤3000:=by
 have e:(strOfNums (Yx s [z])).size=(Yx s [z]).length:=by simp [strOfNums,ByteArray.size]
 have:=Hm [z] (by simpa using hz);rw [e];unfold Yx;rw [ZA,YP]
 simp at this ⊢
 omega
theorem Hg (s:ByteArray):s++⟨#[]⟩=s:=by
 apply Lo
 simp
end Go.Proofs.YtpmjnbmkippaiaaGreatDoor


