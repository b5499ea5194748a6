import Derived.Test.YtpmjnbmkippaiaaGreatDoorJ18
import Derived.Deep.DeepHandedRow
import Derived.ShutString
import Derived.ChangeOld
import Derived.ChangeMaps5
set_option maxRecDepth 100000
set_option maxHeartbeats 16000000
set_option linter.unusedVariables false
set_option linter.unusedSimpArgs false
namespace Go.Proofs.YtpmjnbmkippaiaaGreatDoor
section
open Go.RowKit Go.Shelf
variable {m:Int} {zs:List Int} {V L S base g gc len n:Nat} {te:TypeId} {pe t0 t1 t100 t101 t102 t103 t104 t105 t106 t107 t108 t109 t11 t110 t111 t112 t113 t114 t115 t116 t117 t118 t119 t12 t120 t121 t122 t123 t124 t125 t126 t127 t128 t129 t13 t130 t131 t132 t133 t134 t135 t136 t137 t138 t139 t140 t141 t142 t143 t144 t145 t146 t147 t148 t149 t15 t150 t151 t152 t153 t154 t155 t156 t157 t158 t159 t16 t160 t161 t162 t163 t164 t165 t166 t167 t168 t169 t17 t170 t171 t172 t173 t174 t175 t176 t177 t178 t179 t18 t180 t181 t182 t19 t2 t20 t21 t22 t23 t24 t25 t26 t27 t28 t29 t30 t31 t32 t33 t34 t35 t36 t37 t38 t39 t40 t41 t42 t43 t44 t45 t46 t47 t48 t49 t5 t50 t51 t52 t53 t54 t55 t56 t57 t58 t59 t6 t60 t61 t62 t63 t64 t65 t66 t67 t68 t69 t7 t70 t71 t72 t73 t74 t75 t76 t77 t78 t79 t8 t80 t81 t82 t83 t84 t85 t86 t87 t88 t89 t9 t90 t91 t92 t93 t94 t95 t96 t97 t98 t99:Value} {W w:World}
def Cl:Code→Code
 | .seq a _=>a
 | c=>c
theorem pt {A:Act→World→Prop} {f:Nat} {t3 t4:Value} (X:∀a w',Code.ret.wp Tryz.prog (bodyPost Tryz.prog Tryz.f3 (Wj w (.bool true))) a w'→A a w') (hf:f≤110) (h4:W.cell? ⟨g,114,none⟩=some (.string (tl wL [f+1]))) (hb:Zi w W) :
    (Cl (QJ 44 80 (Mn Tryz.f3))).wp Tryz.prog (Exit.then A (bodyPost Tryz.prog Tryz.f3 (Wj w (.bool true)))) { tmps:=#[t0,t1,t2,t3,t4,t5,t6,t7,t8,t9,.slice (some ⟨g,0,none⟩) 116 gc,t11,t12,t13,.int .i64 (f:Int),t15,t16,.string (tl wQ [f+2]),t18,t19,t20,t21,t22,t23,t24,t25,t26,t27,t28,t29,t30,t31,t32,t33,t34,t35,t36,t37,t38,t39,t40,t41,t42,t43,t44,t45,t46,t47,t48,t49,t50,t51,t52,t53,t54,t55,t56,t57,t58,t59,t60,t61,t62,t63,t64,t65,t66,t67,t68,t69,t70,t71,t72,t73,t74,t75,t76,t77,t78,t79,t80,t81,t82,t83,t84,t85,t86,t87,t88,t89,t90,t91,t92,t93,t94,t95,t96,t97,t98,t99,t100,t101,t102,t103,t104,t105,t106,t107,t108,t109,t110,t111,t112,t113,t114,t115,t116,t117,t118,t119,t120,t121,t122,t123,t124,t125,t126,t127,t128,t129,t130,t131,t132,t133,t134,t135,t136,t137,t138,t139,t140,t141,t142,t143,t144,t145,t146,t147,t148,t149,t150,t151,t152,t153,t154,t155,t156,t157,t158,t159,t160,t161,t162,t163,t164,t165,t166,t167,t168,t169,t170,t171,t172,t173,t174,t175,t176,t177,t178,t179,t180,t181,t182],defers:=[] } W:=by
 have hk4:=ZG W _ h4;obtain ⟨a4,Z8⟩:∃a,a=tl wL [f+1]:=⟨_,rfl⟩;obtain ⟨a5,Z7⟩:∃a,a=tl wQ [f+2]:=⟨_,rfl⟩;rw [←Z8] at h4;rw [←Z7];have A4:=ZU Z8;have A5:=ZU Z7;have B0:Zi w W.drew:=hb.trans ((below_drewN' W 1).mono hb.size);have h4':W.drew.cell? ⟨g,114,none⟩=some (.string a4):=h4;have t:=ZU X;have hw0:IntKind.i64.wrap 114=114:=by rw [Zq];rfl
 have hw1:IntKind.i64.wrap (1+(f:Int))=1+(f:Int):=by rw [Zq];omega
 have hw2:IntKind.i64.wrap (2+(f:Int))=2+(f:Int):=by rw [Zq];omega
 clear Z8 Z7 hb h4 X
 conv in (Cl _)=>simp only [Mn,Tryz.f3,QJ,Cl,Nat.reduceBEq]
 refine ZX (S:=fun W'=>W'.cell? ⟨g,114,none⟩=some (.string a4)∧Zi w W') (by kernel_rfl) ⟨h4',B0⟩ (fun Z9=>?_);generalize W.drew=w1 at *;refine PM (i:=0) (oi:=⟨some 164,_,_,_,_,_⟩) (v:=?v1) rfl (by kernel_rfl) (fun _ _ _ h=>h) (Or.inl ⟨by rfl,?hy1⟩) Z9 ?jt
 case hy1 =>
  intro w9 ZQ;have e9:=ZQ.1;clear ZQ;go_simp
  try with_reducible rfl
 refine PM (i:=1) (oi:=⟨some 165,_,_,_,_,_⟩) (v:=?v2) rfl (by kernel_rfl) (fun _ _ _ h=>h) (Or.inl ⟨by rfl,?hy2⟩) Z9 ?py
 case hy2 =>
  intro w9 ZQ;have e9:=ZQ.1;clear ZQ;go_simp
  try with_reducible rfl
 refine PM (i:=2) (oi:=⟨some 166,_,_,_,_,_⟩) (v:=?v3) rfl (by kernel_rfl) (fun _ _ _ h=>h) (Or.inl ⟨by rfl,?hy3⟩) Z9 ?js
 case hy3 =>
  intro w9 ZQ;have e9:=ZQ.1;clear ZQ;go_simp
  try with_reducible rfl
 refine PM (i:=3) (oi:=⟨some 167,_,_,_,_,_⟩) (v:=?v4) rfl (by kernel_rfl) (fun _ _ _ h=>h) (Or.inl ⟨by rfl,?hy4⟩) Z9 ?jr
 case hy4 =>
  intro w9 ZQ;have e9:=ZQ.1;clear ZQ;go_simp
  try with_reducible rfl
 refine PM (i:=4) (oi:=⟨some 168,_,_,_,_,_⟩) (v:=?v5) rfl (by kernel_rfl) (fun _ _ _ h=>h) (Or.inl ⟨by rfl,?DN⟩) Z9 ?px
 case DN =>
  intro w9 ZQ;have e9:=ZQ.1;clear ZQ;go_simp
  try with_reducible rfl
 refine PM (i:=5) (oi:=⟨some 169,_,_,_,_,_⟩) (v:=?v6) rfl (by kernel_rfl) (fun _ _ _ h=>h) (Or.inl ⟨by rfl,?sU⟩) Z9 ?jq
 case sU =>
  intro w9 ZQ;have e9:=ZQ.1;clear ZQ;go_simp
  try with_reducible rfl
 refine PM (i:=6) (oi:=⟨some 170,_,_,_,_,_⟩) (v:=?v7) rfl (by kernel_rfl) (fun _ _ _ h=>h) (Or.inl ⟨by rfl,?sS⟩) Z9 ?jp
 case sS =>
  intro w9 ZQ;have e9:=ZQ.1;clear ZQ;go_simp
  try with_reducible rfl
 refine PM (i:=7) (oi:=⟨some 171,_,_,_,_,_⟩) (v:=?v8) rfl (by kernel_rfl) (fun _ _ _ h=>h) (Or.inl ⟨by rfl,?rR⟩) Z9 ?jo
 case rR =>
  intro w9 ZQ;have e9:=ZQ.1;clear ZQ;go_simp
  try with_reducible rfl
 refine YS 8 rfl (by kernel_rfl) (fun K hK=>?_);have N9:Zi w1 (w1.alloc (.cells #[.int .i64 (1+(f:Int))] 2)):=Yy.alloc YR _;have C9:Hid ((w1.alloc (.cells #[.int .i64 (1+(f:Int))] 2)).cell? ⟨w1.heap.size,0,none⟩=some (.int .i64 ((f+1:Nat):Int))):=by
  show _=_;rw [Yz _ w1.heap.size 0 _ _ _ (Zs w1 _),show ((f+1:Nat):Int)=1+(f:Int) by omega]
  rfl
 go_simp;have hH2:(w1.alloc (.cells #[.int .i64 (1+(f:Int))] 2)).cell? ⟨g,114,none⟩=some (.string a4)∧Zi w (w1.alloc (.cells #[.int .i64 (1+(f:Int))] 2)):=⟨(N9.cell (ZG w1 _ Z9.1)).trans Z9.1,Z9.2.trans (N9.mono Z9.2.size)⟩;refine hK.out _ _ hH2 (fun YA=>?_);clear hK K YA N9 Z9;have Z9:=hH2;clear hH2;have S9:=ZU (Mr _ wL _ 0 1 (f+1) C9.out (by omega) (by decide));clear C9;generalize w1.alloc _=w2 at *;refine YS 9 rfl (by kernel_rfl) (fun K hK=>?_);go_simp;refine S9.out.mono ?_;rintro e w3 ⟨rfl,b3⟩;rw [show tl wL [f+1]=a4 from A4.out.symm];have hH2:w3.cell? ⟨g,114,none⟩=some (.string a4)∧Zi w w3:=⟨(b3.cell (ZG w2 _ Z9.1)).trans Z9.1,Z9.2.trans (b3.mono Z9.2.size)⟩;refine hK.out _ _ hH2 (fun YA=>?_);clear hK K YA b3 Z9 S9;have Z9:=hH2;clear hH2;generalize w3=w1 at *;refine PM (i:=10) (oi:=⟨some 174,_,_,_,_,_⟩) (v:=?v9) rfl (by kernel_rfl) (fun _ _ _ h=>h) (Or.inl ⟨by rfl,?nY⟩) Z9 ?jn
 case nY =>
  intro w9 ZQ;have e9:=ZQ.1;clear ZQ;go_simp
  try with_reducible rfl
 refine PM (i:=11) (oi:=⟨some 175,_,_,_,_,_⟩) (v:=?v10) rfl (by kernel_rfl) (fun _ _ _ h=>h) (Or.inl ⟨by rfl,?Dr⟩) Z9 ?mt
 case Dr =>
  intro w9 ZQ;have e9:=ZQ.1;clear ZQ;go_simp
  try with_reducible rfl
 refine PM (i:=12) (oi:=⟨some 176,_,_,_,_,_⟩) (v:=?v11) rfl (by kernel_rfl) (fun _ _ _ h=>h) (Or.inl ⟨by rfl,?KI⟩) Z9 ?ZH
 case KI =>
  intro w9 ZQ;have e9:=ZQ.1;clear ZQ;go_simp
  try with_reducible rfl
 refine PM (i:=13) (oi:=⟨some 177,_,_,_,_,_⟩) (v:=?v12) rfl (by kernel_rfl) (fun _ _ _ h=>h) (Or.inl ⟨by rfl,?Ds⟩) Z9 ?ZE
 case Ds =>
  intro w9 ZQ;have e9:=ZQ.1;clear ZQ;go_simp
  try with_reducible rfl
 refine PM (i:=14) (oi:=⟨some 178,_,_,_,_,_⟩) (v:=?v13) rfl (by kernel_rfl) (fun _ _ _ h=>h) (Or.inl ⟨by rfl,?oh⟩) Z9 ?ZD
 case oh =>
  intro w9 ZQ;have e9:=ZQ.1;clear ZQ;go_simp
  try with_reducible rfl
 refine YS 15 rfl (by kernel_rfl) (fun K hK=>?_);have N9:Zi w1 (w1.alloc (.cells #[.int .i64 (2+(f:Int))] 2)):=Yy.alloc YR _;have C9:Hid ((w1.alloc (.cells #[.int .i64 (2+(f:Int))] 2)).cell? ⟨w1.heap.size,0,none⟩=some (.int .i64 ((f+2:Nat):Int))):=by
  show _=_;rw [Yz _ w1.heap.size 0 _ _ _ (Zs w1 _),show ((f+2:Nat):Int)=2+(f:Int) by omega]
  rfl
 go_simp;have hH2:(w1.alloc (.cells #[.int .i64 (2+(f:Int))] 2)).cell? ⟨g,114,none⟩=some (.string a4)∧Zi w (w1.alloc (.cells #[.int .i64 (2+(f:Int))] 2)):=⟨(N9.cell (ZG w1 _ Z9.1)).trans Z9.1,Z9.2.trans (N9.mono Z9.2.size)⟩;refine hK.out _ _ hH2 (fun YA=>?_);clear hK K YA N9 Z9;have Z9:=hH2;clear hH2;have S9:=ZU (Mr _ wQ _ 0 1 (f+2) C9.out (by omega) (by decide));clear C9;generalize w1.alloc _=w2 at *;refine YS 16 rfl (by kernel_rfl) (fun K hK=>?_);go_simp;refine S9.out.mono ?_;rintro e w3 ⟨rfl,b3⟩;rw [show tl wQ [f+2]=a5 from A5.out.symm];have hH2:w3.cell? ⟨g,114,none⟩=some (.string a4)∧Zi w w3:=⟨(b3.cell (ZG w2 _ Z9.1)).trans Z9.1,Z9.2.trans (b3.mono Z9.2.size)⟩;refine hK.out _ _ hH2 (fun YA=>?_);clear hK K YA b3 Z9 S9;have Z9:=hH2;clear hH2;generalize w3=w1 at *;refine PM (i:=17) (oi:=⟨some 181,_,_,_,_,_⟩) (v:=?v14) rfl (by kernel_rfl) (fun _ _ _ h=>h) (Or.inl ⟨by rfl,?oe⟩) Z9 ?ZC
 case oe =>
  intro w9 ZQ;have e9:=ZQ.1;clear ZQ;go_simp
  try with_reducible rfl
 refine PM (i:=18) (oi:=⟨some 182,_,_,_,_,_⟩) (v:=?v15) rfl (by kernel_rfl) (fun _ _ _ h=>h) (Or.inl ⟨by rfl,?Z5⟩) Z9 ?ZB
 case Z5 =>
  intro w9 ZQ;have e9:=ZQ.1;clear ZQ;go_simp
  try with_reducible rfl
 refine PM (i:=19) (oi:=⟨some 2,_,_,_,_,_⟩) (v:=?v16) rfl (by kernel_rfl) (fun _ _ _ h=>h) (Or.inl ⟨by rfl,?nX⟩) Z9 ?ZA
 case nX =>
  intro w9 ZQ;have e9:=ZQ.1;clear ZQ;go_simp
  try with_reducible rfl
 refine ZR (by kernel_rfl) (t.out _ _ ?_) _
 try simp only [Act.put,WV,WU,WT]
 have FIN:=ZU Z9.2;clear Z9 t;go_wp2;go_ret;exact ⟨rfl,FIN.out⟩
theorem tS (h:Xv n≤L*64) :
    (47+n≤S*64→VY S L n 114=tl wL [VZ L n+1]∧VY S L n 115=tl wQ [VZ L n+2]) ∧
    (¬47+n≤S*64→VY S L n 114=wU∧VY S L n 115=if 110<VC L n then tl wQ [VZ L n+2] else tl wE [8]):=by
 constructor
 · intro h1
   constructor
   · unfold VY;rw [Z0 h];show (if 47+n≤S*64 then _ else _)=_;rw [Z0 h1]
   unfold VY;rw [Z0 h];show (if 47+n≤S*64∨110<VC L n then _ else _)=_;rw [Z0 (.inl h1)]
 intro h1
 constructor
 · unfold VY;rw [Z0 h];show (if 47+n≤S*64 then _ else _)=_;rw [Z1 h1]
 unfold VY;rw [Z0 h];show (if 47+n≤S*64∨110<VC L n then _ else _)=_
 by_cases h2:110<VC L n
 · rw [Z0 (.inr h2),Z0 h2]
 rw [Z1 (by omega),Z1 h2]
theorem pn:tl wE [8]=⟨#[101,114,114,111,114,32,56]⟩:=by decide +kernel
theorem i8:tl wE [2]=⟨#[101,114,114,111,114,32,50]⟩:=by decide +kernel
theorem i7:tl wQ [1]=⟨#[113,117,101,117,101,100,32,49]⟩:=by decide +kernel
theorem i6:tl wF [1,1]=⟨#[102,108,117,115,104,101,100,32,49,32,49]⟩:=by decide +kernel
theorem iZ:∀z,z<200→((tl wQ [z]).toList == [101,114,114,111,114,32,56])=false:=by decide +kernel
theorem iY (hn:n≤64) (hS:1≤S∧S≤64) (hL:1≤L∧L≤64) (hm:Xv n≤L*64) (cS:W.cell? ⟨V,0,none⟩=some (.int .i64 (S:Int))) (h4:W.cell? ⟨g,114,none⟩=some (.string (VY S L n 114))) (h5:W.cell? ⟨g,115,none⟩=some (.string (VY S L n 115))) (hb:Zi w W) :
    (QJ 39 80 (Mn Tryz.f3)).wp Tryz.prog (bodyPost Tryz.prog Tryz.f3 (Wj w (.bool true))) { tmps:=#[t0,t1,t2,.pointer (some ⟨V,0,none⟩),.int .i64 (n:Int),t5,t6,t7,t8,t9,.slice (some ⟨g,0,none⟩) 116 gc,t11,t12,t13,.int .i64 (VC L n:Int),t15,t16,t17,t18,t19,t20,t21,t22,t23,t24,t25,t26,t27,t28,t29,t30,t31,t32,t33,t34,t35,t36,t37,t38,t39,t40,t41,t42,t43,t44,t45,t46,t47,t48,t49,t50,t51,t52,t53,t54,t55,t56,t57,t58,t59,t60,t61,t62,t63,t64,t65,t66,t67,t68,t69,t70,t71,t72,t73,t74,t75,t76,t77,t78,t79,t80,t81,t82,t83,t84,t85,t86,t87,t88,t89,t90,t91,t92,t93,t94,t95,t96,t97,t98,t99,t100,t101,t102,t103,t104,t105,t106,t107,t108,t109,t110,t111,t112,t113,t114,t115,t116,t117,t118,t119,t120,t121,t122,t123,t124,t125,t126,t127,t128,t129,t130,t131,t132,t133,t134,t135,t136,t137,t138,t139,t140,t141,t142,t143,t144,t145,t146,t147,t148,t149,t150,t151,t152,t153,t154,t155,t156,t157,t158,t159,t160,t161,t162,t163,t164,t165,t166,t167,t168,t169,t170,t171,t172,t173,t174,t175,t176,t177,t178,t179,t180,t181,t182],defers:=[] } W:=by
 obtain ⟨l1,l2⟩:=tS (S:=S) hm;have ht:VZ L n≤110:=VV _ _;have hft:VZ L n=min 110 (VC L n):=rfl;have Zz:VC L n≤4096:=by unfold VC;exact ZJ (Uk _ _) (by omega)
 have hk4:=ZG W _ h4;have HB:=ZU hb;have Zn:IntKind.i64.wrap ((S:Int)*64)=(S:Int)*64:=by rw [Zq];omega
 clear hb
 conv in (QJ _ _ _)=>simp only [Mn,Tryz.f3,QJ,Nat.reduceBEq]
 by_cases hc:47+n≤S*64
 · obtain ⟨e4,e5⟩:=l1 hc
   rw [e4] at h4;rw [e5] at h5;have hcI:¬(S:Int)*64<47+(n:Int):=by omega
   clear l1 l2 e4 e5 hm
   by_cases hf:110<VC L n
   · have ni:(110:Int)<(VC L n:Int):=by omega
     have e9:VZ L n=110:=by omega
     rw [e9] at h4 h5;clear hft ht e9;have H4:=ZU h4;clear h4
     go_wp2_with fail
     rename_i A X;exact pt (f:=110) X (by omega) H4.out HB.out
   have ni:¬(110:Int)<(VC L n:Int):=by omega
   have e9:VZ L n=VC L n:=by omega
   rw [e9] at h4 h5;clear hft ht e9;have H4:=ZU h4;clear h4
   go_wp2_with fail
   rename_i A X;exact pt (f:=VC L n) X (by omega) H4.out HB.out
 obtain ⟨e4,e5⟩:=l2 hc;rw [e4] at h4;rw [e5] at h5;have hcI:(S:Int)*64<47+(n:Int):=by omega
 have hU:(wU.toList == [115,110,97,112,102,117,108,108])=true:=by decide +kernel
 clear l1 l2 e4 e5 hm hft;generalize wU=u at *
 by_cases hf:110<VC L n
 · rw [Z0 hf] at h5
   have ni:¬(VC L n:Int)≤110:=by omega
   have hE:=iZ (VZ L n+2) (by omega);generalize tl wQ [VZ L n+2]=a5 at *;go_wp2;go_ret;exact ⟨rfl,HB.out⟩
 rw [Z1 hf] at h5;have ni:(VC L n:Int)≤110:=by omega
 have hE:((tl wE [8]).toList == [101,114,114,111,114,32,56])=true:=by decide +kernel
 generalize tl wE [8]=a5 at *;go_wp2;go_ret;exact ⟨rfl,HB.out⟩
theorem iX {lc:Nat} {la:Option Addr} {t14:Value} (hn:n≤64) (hS:1≤S∧S≤64) (hL:1≤L∧L≤64) (cS:W.cell? ⟨V,0,none⟩=some (.int .i64 (S:Int))) (cL:W.cell? ⟨V,1,none⟩=some (.int .i64 (L:Int))) (hg:∀i,i<116→W.cell? ⟨g,i,none⟩=some (.string (VY S L n i))) (hb:Zi w W) :
    (QJ 21 80 (Mn Tryz.f3)).wp Tryz.prog (bodyPost Tryz.prog Tryz.f3 (Wj w (.bool true))) { tmps:=#[t0,t1,t2,.pointer (some ⟨V,0,none⟩),.int .i64 (n:Int),t5,t6,t7,.slice la 116 lc,t9,.slice (some ⟨g,0,none⟩) 116 gc,t11,t12,t13,t14,t15,t16,t17,t18,t19,t20,t21,t22,t23,t24,t25,t26,t27,t28,t29,t30,t31,t32,t33,t34,t35,t36,t37,t38,t39,t40,t41,t42,t43,t44,t45,t46,t47,t48,t49,t50,t51,t52,t53,t54,t55,t56,t57,t58,t59,t60,t61,t62,t63,t64,t65,t66,t67,t68,t69,t70,t71,t72,t73,t74,t75,t76,t77,t78,t79,t80,t81,t82,t83,t84,t85,t86,t87,t88,t89,t90,t91,t92,t93,t94,t95,t96,t97,t98,t99,t100,t101,t102,t103,t104,t105,t106,t107,t108,t109,t110,t111,t112,t113,t114,t115,t116,t117,t118,t119,t120,t121,t122,t123,t124,t125,t126,t127,t128,t129,t130,t131,t132,t133,t134,t135,t136,t137,t138,t139,t140,t141,t142,t143,t144,t145,t146,t147,t148,t149,t150,t151,t152,t153,t154,t155,t156,t157,t158,t159,t160,t161,t162,t163,t164,t165,t166,t167,t168,t169,t170,t171,t172,t173,t174,t175,t176,t177,t178,t179,t180,t181,t182],defers:=[] } W:=by
 have Zm:IntKind.i64.wrap ((L:Int)*64)=(L:Int)*64:=by rw [Zq];omega
 have HG:=ZU hg;have HB:=ZU hb;have CS:=ZU cS;have h0:=hg 0 (by omega);have h1:=hg 1 (by omega);have h2:=hg 2 (by omega);clear hg hb cS
 conv in (QJ _ _ _)=>simp only [Mn,Tryz.f3,QJ,Nat.reduceBEq]
 go_upto_region 26 with fail
 have e1:(2+(8*(55+(n:Int))+6) / 7)=(Xv n:Int):=by unfold Xv;omega
 have e2:(2+(8*(31+(n:Int))+6) / 7)=(Xh n:Int):=by unfold Xh;omega
 rw [e1,e2];clear e1 e2;have hmb:Xv n≤139:=by unfold Xv;omega
 have Zy:2≤Xh n∧Xh n≤111:=by unfold Xh;omega
 by_cases hm:Xv n≤L*64
 · have ii:¬(L:Int)*64<(Xv n:Int):=by omega
   have a0:VY S L n 0=tl wQ [1]:=by unfold VY;rw [Z0 hm];rfl
   have a1:VY S L n 1=tl wF [1,1]:=by unfold VY;rw [Z0 hm];rfl
   rw [a0,i7] at h0;rw [a1,i6] at h1;have HM:=ZU hm;have hq:((L:Int)*64 - (Xv n:Int)) / (Xh n:Int)=(VC L n:Int):=by
    unfold VC;rw [show (L:Int)*64 - (Xv n:Int)=((L*64 - Xv n:Nat):Int) by omega,←Int.natCast_ediv]
   have HQ:=ZU hq;have hd0:0≤(L:Int)*64 - (Xv n:Int):=by omega
   have hws:IntKind.i64.wrap ((L:Int)*64 - (Xv n:Int))=(L:Int)*64 - (Xv n:Int):=by rw [Zq];omega
   have Z4:((Xh n:Int) == 0)=false:=VU (by omega);clear a0 a1 hm h2 hq;obtain ⟨md,hmd⟩:∃x,x=Xv n:=⟨_,rfl⟩;obtain ⟨ea,ix⟩:∃x,x=Xh n:=⟨_,rfl⟩;rw [←hmd] at hmb ii hd0 hws HQ ⊢;rw [←ix] at Zy Z4 HQ ⊢;clear hmd ix
   go_upto_region 31 with fail
   rw [HQ.out];rename_i KR U KL Zl;have y:=ZU U;have Zz:VC L n≤4096:=by unfold VC;exact ZJ (Uk _ _) (by omega)
   have Zx:Hid (∀i,i<110→VY S L n (i+2)=if i<VC L n then tl wQ [i+2] else ⟨#[101,114,114,111,114,32,56]⟩):=fun i hi=>by
    unfold VY;rw [Z0 HM.out,Z1 (by omega),Z1 (by omega),Z0 (by omega),←pn]
    rfl
   clear U HQ h0 h1 cL hws Z4 hd0
   go_wp2_with fail
   go_loopw [15,16] (fun v15 v16 wr=>∃i:Nat,v15=.int .i64 (i:Int)∧i≤110∧Hid (Zi W wr)) (fun v _ _=>110 - (intOf v).toNat)
   case atStart=>exact ⟨0,rfl,by omega,Yy⟩
   case round =>
    obtain ⟨i,rfl,hi,HR⟩:=hrel
    by_cases hlt:i<110
    · have Rj:(i:Int)<110:=by omega
      have hc:=(HR.out.cell (ZG W _ (HG.out (i+2) (by omega)))).trans (HG.out (i+2) (by omega));rw [Zx.out i hlt] at hc;have hw2:IntKind.i64.wrap (2+(i:Int))=2+(i:Int):=by rw [Zq];omega
      have hix:0≤2+(i:Int):=by omega
      have Zr:2+(i:Int)<116:=by omega
      have hto:(2+(i:Int)).toNat=i+2:=by omega
      by_cases hf:i<VC L n
      · have ni:(i:Int)<(VC L n:Int):=by omega
        rw [Z0 hf] at hc;have S9:Hid (Calls Tryz.prog 8 #[.string wQ,.slice (some ⟨wr.heap.size,0,none⟩) 1 1] (wr.alloc (.cells #[.int .i64 (2+(i:Int))] 2)) (Wj wr (.string (tl wQ [i+2])))):=by
         have N9:Zi wr (wr.alloc (.cells #[.int .i64 (2+(i:Int))] 2)):=Yy.alloc YR _;refine (Mr _ wQ _ 0 1 (i+2) ?_ (by omega) (by decide)).mono (fun e w' h=>⟨h.1,WD N9 h.2⟩);rw [Yz _ wr.heap.size 0 _ _ _ (Zs wr _),show ((i+2:Nat):Int)=2+(i:Int) by omega]
         rfl
        generalize tl wQ [i+2]=a9 at *;have HC:=ZU hc;clear hc
        go_wp2_with fail
        refine S9.out.mono ?_;rintro e w3 ⟨rfl,b3⟩;have hc:=(b3.cell (ZG wr _ HC.out)).trans HC.out;have R3:=ZU (WD HR.out b3);clear b3 S9 HC
        go_wp2_with fail
        exact ⟨⟨i+1,by go_num,by omega,R3⟩,by simp [intOf];omega⟩
      have ni:¬(i:Int)<(VC L n:Int):=by omega
      rw [Z1 hf] at hc
      go_wp2_with fail
      exact ⟨⟨i+1,by go_num,by omega,HR⟩,by simp [intOf];omega⟩
    have hie:i=110:=by omega
    subst hie
    go_wp2_with fail
    refine y.out _ _ ?_;have b9:=HR.out;exact iY hn hS hL HM.out ((b9.cell (ZG W _ CS.out)).trans CS.out) ((b9.cell (ZG W _ (HG.out 114 (by omega)))).trans (HG.out 114 (by omega))) ((b9.cell (ZG W _ (HG.out 115 (by omega)))).trans (HG.out 115 (by omega))) (WD HB.out b9)
 have ii:(L:Int)*64<(Xv n:Int):=by omega
 have a0:VY S L n 0=tl wE [8]:=by unfold VY;rw [Z1 hm];rfl
 have a2:VY S L n 2=tl wE [2]:=by unfold VY;rw [Z1 hm];rfl
 rw [a0,pn] at h0;rw [a2,i8] at h2;clear a0 a2 hm h1;generalize Xv n=md at *;generalize Xh n=ea at *;go_wp2;go_ret;exact ⟨rfl,HB.out⟩
theorem qw (i:Nat):xB i++⟨#[120]⟩=xB (i+1):=by
 apply WM;rw [Yd];unfold xB;rw [US,←YT]
theorem qv (n:Nat):((⟨#[115,101,116,32,47,97,32]⟩++xB n)++⟨#[32,45,49]⟩:ByteArray)=Hf n:=by
 apply WM;rw [Yd,Yd];unfold xB Hf UG xL;apply UW
 simp
theorem qu (n:Nat):(⟨#[99,114,101,97,116,101,32,47,97,32]⟩++xB n:ByteArray)=Et n:=by
 apply WM;rw [Yd];unfold xB Et UG xL;apply UW
 simp
theorem Ul.eT {v:Value} {xs:List Int} (h:Ul w base v xs):∃g c,v=.slice (some ⟨g,0,none⟩) xs.length c∧Rd .u8 w (.slice (some ⟨g,0,none⟩) xs.length c) xs:=by
 obtain ⟨g,cap,rfl,h1,h2,h3,h4,h5,h6⟩:=h;refine ⟨g,cap,rfl,_,cap,rfl,h3,h4,.inr ⟨g,0,rfl,h2,fun i hi=>?_⟩⟩;refine h5 i _ ?_;rw [Yo,ZF hi,List.getD,ZF hi]
 rfl
theorem tR (w:World) (v:Value) (S L n:Nat) (hn:n≤64) (hn1:1≤n) (hc:Wp (S:Int) (L:Int)=true) (hG:qH m te pe w) (h:ju w v (Qt n)) :
    Calls Tryz.prog 7 #[v] w fun e w1=>∃v1,e=.returned v1∧Zi w w1∧∀W1,Zi w1 W1 →
     Calls Tryz.prog 6 #[v1,.agg #[.int .i64 (S:Int),.int .i64 (L:Int)]] W1 fun e w2=>∃v2,e=.returned v2∧Zi W1 w2∧∀W2,Zi w2 W2 →
      Calls Tryz.prog 5 #[v2] W2 fun e w3=>∃g c,e=.returned (.slice (some ⟨g,0,none⟩) 116 c)∧Zi W2 w3∧∀i,i<116→w3.cell? ⟨g,i,none⟩=some (.string (VY S L n i)):=by
 have hj:(XI (Qt n)).length≤9396:=by
  have:=Ha (Qt n) (fun s hs=>(AS n hn s hs).2);rw [Re] at this;omega
 refine (Cu w v (Qt n) h (by rw [Re];omega) (by omega)).mono ?_;rintro e w1 ⟨v1,rfl,o1,b1⟩;refine ⟨v1,rfl,b1,fun W1 hW1=>?_⟩;obtain ⟨g1,c1,rfl,r1⟩:=o1.eT;refine (yN W1 g1 0 _ c1 S L n hn hn1 hc (hG.later (WD b1 hW1)) rfl (r1.below hW1)).mono ?_;rintro e w2 ⟨v2,rfl,o2,b2⟩;refine ⟨v2,rfl,b2,fun W2 hW2=>?_⟩;have hs:=Kd S L n 116;have hz:(pE (Mo S L n 116)).size=(XI (Mo S L n 116)).length:=by rw [←QO,uk]
 refine (Es W2 v2 (pE (Mo S L n 116)) (Mo S L n 116) (by rw [uk];exact (Own.rd o2).below hW2) (by omega) (by omega) (AU _ (ml S L n 116))).mono ?_;rintro e w3 ⟨v3,rfl,o3,b3⟩;obtain ⟨g,c,rfl,-,-,-,-,hcl⟩:=o3.cells (by rw [Hb];omega);rw [Hb] at hcl;refine ⟨g,c,by rw [Hb],b3,fun i hi=>?_⟩;rw [hcl i hi];unfold Yh;rw [mn S L n 116 i hi]
theorem yM (w:World) (v:Value) (xs:List Int) (h:Rd .u8 w v xs) (hby:Sn xs) (hG:qH m te pe w) :
    Calls Tryz.prog 3 #[v] w (Wj w (.bool true)):=by
 have HR:=ZU h;have HG:=ZU hG;have Lc:=ZU hby
 obtain ⟨ao,cap,rfl,-,-⟩:=h;clear hby hG
 by_cases hbig:1048576<xs.length
 · have oR:(1048576:Int)<(xs.length:Int):=by omega
   go_enter Tryz.func3,Tryz.ntmps3
   go_wp2;go_ret;exact ⟨rfl,Yy⟩
 have oR:¬(1048576:Int)<(xs.length:Int):=by omega
 have HX:Hid (xs.length≤1048576):=by show _≤_;omega
 have HAT:Hid (∀(W:World) (i:Nat),Zi w W→i≤2→Calls Tryz.prog 4 #[.slice ao xs.length cap,.int .i64 (i:Int),.int .i64 64] W fun e w'=>∃r:Nat,e=.returned (.int .i64 (r:Int))∧r<64∧Zi W w'):=fun W i hW hi =>
  (tT W _ xs i 64 (HR.out.below hW) Lc.out (by have:=HX.out;omega) (by omega) (by omega)).mono (fun e w' ⟨h1,q,h3⟩=>⟨_,h1,ja xs i 64 (by omega),by rw [h3];exact below_drewN' W q⟩)
 clear hbig HX HR Lc;generalize xs.length=xl at *;obtain ⟨iq,qK,hq0,qJ,qI⟩:=YM Tryz.uO
 go_enter Tryz.func3,Tryz.ntmps3
 go_wp2_with fail
 refine (HAT.out w 0 Yy (by omega)).mono ?_;rintro e w1 ⟨r0,rfl,hr0,b1⟩;obtain ⟨S,hS0⟩:∃S:Nat,(S:Int)=1+(r0:Int):=⟨1+r0,by omega⟩;have hw0:IntKind.i64.wrap (1+(r0:Int))=1+(r0:Int):=by rw [Zq];omega
 have B1:=ZU b1;have oJ:=ZU hS0;clear b1 hS0
 go_wp2_with fail
 refine (HAT.out w1 1 B1.out (by omega)).mono ?_;rintro e w2 ⟨r1,rfl,hr1,b2⟩;obtain ⟨L,hL0⟩:∃L:Nat,(L:Int)=1+(r1:Int):=⟨1+r1,by omega⟩;have hw1:IntKind.i64.wrap (1+(r1:Int))=1+(r1:Int):=by rw [Zq];omega
 have B2:=ZU (WD B1.out b2);have Z6:=ZU hL0;clear b2 B1 hL0
 go_wp2_with fail
 rw [←oJ.out,←Z6.out];have bA:Zi w2 (w2.alloc (.cells #[.int .i64 (S:Int),.int .i64 (L:Int)] 25)):=Yy.alloc YR _;have XA:=St.new w2 #[.int .i64 (S:Int),.int .i64 (L:Int)] 25;refine (HAT.out _ 2 (WD B2.out bA) (by omega)).mono ?_;rintro e w3 ⟨r2,rfl,hr2,b3⟩;obtain ⟨n,hn0⟩:∃n:Nat,(n:Int)=1+(r2:Int):=⟨1+r2,by omega⟩;have hw2:IntKind.i64.wrap (1+(r2:Int))=(n:Int):=by rw [Zq];omega
 have B3:Hid (Zi w w3):=(WD B2.out bA).trans (b3.mono (WD B2.out bA).size);have X3:=ZU (XA.below b3);have hS:1≤S∧S≤64:=by have:=oJ.out;omega
 have hL:1≤L∧L≤64:=by have:=Z6.out;omega
 have hn:1≤n∧n≤64:=by omega
 have Z3:Hid (Wp (S:Int) (L:Int)=true):=(Xk _ _).2 ⟨by omega,by omega⟩;clear b3 bA XA B2 hn0 HAT oJ Z6 hw0 hw1 hr0 hr1;generalize w2.heap.size=V at *
 go_wp2_with fail
 clear hw2 hr2;rename_i KR U;have y:=ZU U;clear U;have X0:Hid (xB 0=⟨#[]⟩):=rfl
 go_loopw [5,6] (fun v5 v6 wr=>∃(i:Nat) (d:ByteArray),v6=.int .i64 (i:Int)∧v5=.string d∧i≤n∧Hid (d=xB i)∧wr=w3) (fun _ v _=>n - (intOf v).toNat)
 case atStart=>exact ⟨0,_,rfl,rfl,Zu _,rfl,rfl⟩
 case round =>
  obtain ⟨i,d,rfl,rfl,hi,HD,hwr⟩:=hrel
  replace hwr:=hwr.symm
  subst hwr;have hds:d.size=i:=by rw [HD.out,Tf]
  have kX:Hid (d.size≤64):=by show _≤_;omega
  by_cases hlt:i<n
  · have Rj:(i:Int)<(n:Int):=by omega
    have HD2:Hid (d++⟨#[120]⟩=xB (i+1)):=by show _=_;rw [HD.out,qw]
    have hdz:d.size≤64:=kX.out;clear hds
    go_wp2_with fail
    exact ⟨⟨i+1,_,by go_num,rfl,by omega,HD2,trivial⟩,by simp [intOf];omega⟩
  have hin:i=n:=by omega
  subst hin;have Rj:¬(i:Int)<(i:Int):=by omega
  clear hds;have hdz:d.size≤64:=kX.out
  go_wp2_with fail
  refine y.out _ _ ?_
  go_upto_region 12 with fail
  have est:(⟨#[115,101,116,32,47,97,32]⟩++d++⟨#[32,45,49]⟩:ByteArray)=Hf i:=by rw [HD.out];exact qv i
  have Z2:(⟨#[99,114,101,97,116,101,32,47,97,32]⟩++d:ByteArray)=Et i:=by rw [HD.out];exact qu i
  rw [est,Z2];clear est Z2;rename_i Zk p Zj Zp;have Z':=ZU p;clear p y;obtain ⟨sl,hsl⟩:∃s,s=Hf i:=⟨_,rfl⟩;obtain ⟨cl,hcl⟩:∃s,s=Et i:=⟨_,rfl⟩;rw [←hsl,←hcl];have nD:Hid (Qt i=cl :: NW :: (List.replicate 110 sl++[NW,DW,AY,sl])):=by show _=_;rw [hsl,hcl];rfl
  clear hsl hcl;have O0:Hid (Ro (w3.alloc (.cells #[.string cl,.string ⟨#[102,108,117,115,104]⟩] 9)) w3.heap.size (.slice (some ⟨w3.heap.size,0,none⟩) 2 2) (cl :: NW :: List.replicate 0 sl)):=WX (base:=w3.heap.size) (e:=9) (size:=1) w3 #[.string cl,.string ⟨#[102,108,117,115,104]⟩] 2 YR (by decide) rfl;have B0:Hid (Zi w3 (w3.alloc (.cells #[.string cl,.string ⟨#[102,108,117,115,104]⟩] 9))):=Yy.alloc YR _;generalize w3.alloc _=w4 at *
  go_wp2_with fail
  go_loopw [8,9] (fun v8 v9 wr=>∃(j g co:Nat),v9=.int .i64 (j:Int)∧v8=.slice (some ⟨g,0,none⟩) (j+2) co∧j≤110∧Hid (Ro wr w3.heap.size (.slice (some ⟨g,0,none⟩) (j+2) co) (cl :: NW :: List.replicate j sl))∧Hid (Zi w3 wr)) (fun _ v _=>110 - (intOf v).toNat)
  case atStart=>exact ⟨0,w3.heap.size,2,rfl,rfl,by omega,O0,B0⟩
  case round =>
   obtain ⟨j,g,co,rfl,rfl,hj,HO,HB⟩:=hrel;clear O0 B0;have sB:=HB.out.size;have OR:Hid (wr.ownsRow w3.heap.size 9 1 (.slice (some ⟨g,0,none⟩) (j+2) co) (j+2) ((cl :: NW :: List.replicate j sl).map Value.string)):=by
    have h9:=HO.out;unfold Ro at h9
    rwa [show (cl :: NW :: List.replicate j sl).length=j+2 by simp] at h9
   by_cases hlt2:j<110
   · have Zo:(j:Int)<110:=by omega
     generalize hD:(cl :: NW :: List.replicate j sl).map Value.string=D at OR;have oI:=ZU hD;clear hD HO
     go_wp2_with (at_builtin;go_must (refine wpList_append_lies _ rfl _ _ 26 rfl w3.heap.size 9 iq (.string ByteArray.empty) 1 16 Tryz.underlying26 qK hq0 qJ qI rfl (by decide) _ _ _ rfl (OR.out.alloc _) ⟨wr.heap.size,0,none⟩ 1 1 [.string sl] rfl rfl (XW _ _ _) (by intro u hu;simp at hu;subst hu;rfl) (by decide) ?c3 ?c4 ?c5 _ rfl ?_))
     case c3=>unfold maxLen;omega
     case c4=>omega
     case c5=>first | omega | (simp;omega)
     intro g5 k5 w5 Rb hg5 Mw Ng;have O5:Hid (Ro w5 w3.heap.size (.slice (some ⟨g5,0,none⟩) (j+1+2) k5) (cl :: NW :: List.replicate (j+1) sl)):=by
      have e9:(cl :: NW :: List.replicate (j+1) sl).map Value.string=D++[.string sl]:=by rw [←oI.out,US];simp
      show World.ownsRow _ _ _ _ _ _ _;rw [e9,show (cl :: NW :: List.replicate (j+1) sl).length=j+2+1 by simp,show j+1+2=j+2+1 by omega];exact Rb
     have B5:Hid (Zi w3 w5):=(HB.out.alloc sB _).grown hg5 (by simp;omega) (fun q hq=>(ZT OR.out q hq).1);clear Rb hg5 Mw Ng OR HB
     go_wp2_with fail
     exact ⟨⟨j+1,g5,k5,by go_num,rfl,by omega,O5,B5⟩,by simp [intOf];omega⟩
   have Zw:j=110:=by omega
   subst Zw;clear HO;have oI:Hid ((cl :: NW :: (List.replicate 110 sl++[NW,DW,AY,sl])).map Value.string=(cl :: NW :: List.replicate 110 sl).map Value.string++[.string NW,.string DW,.string AY,.string sl]):=by show _=_;simp
   generalize (cl :: NW :: List.replicate 110 sl).map Value.string=D at OR oI
   go_wp2_with fail
   refine Z'.out _ _ ?_;clear Z'
   go_wp2_with (at_builtin;go_must (refine wpList_append_lies _ rfl _ _ 26 rfl w3.heap.size 9 iq (.string ByteArray.empty) 1 16 Tryz.underlying26 qK hq0 qJ qI rfl (by decide) _ _ _ rfl (OR.out.alloc _) ⟨wr.heap.size,0,none⟩ 1 1 [.string ⟨#[102,108,117,115,104]⟩] rfl rfl (XW _ _ _) (by intro u hu;simp at hu;subst hu;rfl) (by decide) ?c3 ?c4 ?c5 _ rfl ?_))
   case c3=>unfold maxLen;omega
   case c4=>omega
   case c5=>first | omega | (simp;omega)
   intro ZZ ZW T Rb hg5 Mw Ng;have R:Hid (Zi w3 T):=(HB.out.alloc sB _).grown hg5 (by simp;omega) (fun q hq=>(ZT OR.out q hq).1);have Q:Hid (T.ownsRow w3.heap.size 9 1 (.slice (some ⟨ZZ,0,none⟩) 113 ZW) 113 (D++[.string NW])):=Rb;clear Rb hg5 Mw Ng OR HB sB;have HB:=R;have OR:=Q;have sB:=HB.out.size;clear R Q
   go_wp2_with (at_builtin;go_must (refine wpList_append_lies _ rfl _ _ 26 rfl w3.heap.size 9 iq (.string ByteArray.empty) 1 16 Tryz.underlying26 qK hq0 qJ qI rfl (by decide) _ _ _ rfl (OR.out.alloc _) ⟨T.heap.size,0,none⟩ 1 1 [.string ⟨#[115,110,97,112]⟩] rfl rfl (XW _ _ _) (by intro u hu;simp at hu;subst hu;rfl) (by decide) ?c3 ?c4 ?c5 _ rfl ?_))
   case c3=>unfold maxLen;omega
   case c4=>omega
   case c5=>first | omega | (simp;omega)
   intro ZV ZS P Rb hg5 Mw Ng;have O:Hid (Zi w3 P):=(HB.out.alloc sB _).grown hg5 (by simp;omega) (fun q hq=>(ZT OR.out q hq).1);have N:Hid (P.ownsRow w3.heap.size 9 1 (.slice (some ⟨ZV,0,none⟩) 114 ZS) 114 (D++[.string NW,.string DW])):=Rb;clear Rb hg5 Mw Ng OR HB sB;have HB:=O;have OR:=N;have sB:=HB.out.size;clear O N
   go_wp2_with (at_builtin;go_must (refine wpList_append_lies _ rfl _ _ 26 rfl w3.heap.size 9 iq (.string ByteArray.empty) 1 16 Tryz.underlying26 qK hq0 qJ qI rfl (by decide) _ _ _ rfl (OR.out.alloc _) ⟨P.heap.size,0,none⟩ 1 1 [.string ⟨#[115,116,101,112,32,49,48,48,48]⟩] rfl rfl (XW _ _ _) (by intro u hu;simp at hu;subst hu;rfl) (by decide) ?c3 ?c4 ?c5 _ rfl ?_))
   case c3=>unfold maxLen;omega
   case c4=>omega
   case c5=>first | omega | (simp;omega)
   intro ZP ZO M Rb hg5 Mw Ng;have J:Hid (Zi w3 M):=(HB.out.alloc sB _).grown hg5 (by simp;omega) (fun q hq=>(ZT OR.out q hq).1);have I:Hid (M.ownsRow w3.heap.size 9 1 (.slice (some ⟨ZP,0,none⟩) 115 ZO) 115 (D++[.string NW,.string DW,.string AY])):=Rb;clear Rb hg5 Mw Ng OR HB sB;have HB:=J;have OR:=I;have sB:=HB.out.size;clear J I
   go_wp2_with (at_builtin;go_must (refine wpList_append_lies _ rfl _ _ 26 rfl w3.heap.size 9 iq (.string ByteArray.empty) 1 16 Tryz.underlying26 qK hq0 qJ qI rfl (by decide) _ _ _ rfl (OR.out.alloc _) ⟨M.heap.size,0,none⟩ 1 1 [.string sl] rfl rfl (XW _ _ _) (by intro u hu;simp at hu;subst hu;rfl) (by decide) ?c3 ?c4 ?c5 _ rfl ?_))
   case c3=>unfold maxLen;omega
   case c4=>omega
   case c5=>first | omega | (simp;omega)
   intro G F Z Rb hg5 Mw Ng;have E:Hid (Zi w3 Z):=(HB.out.alloc sB _).grown hg5 (by simp;omega) (fun q hq=>(ZT OR.out q hq).1);have C:Hid (Z.ownsRow w3.heap.size 9 1 (.slice (some ⟨G,0,none⟩) 116 F) 116 (D++[.string NW,.string DW,.string AY,.string sl])):=Rb;clear Rb hg5 Mw Ng OR HB sB;have HB:=E;have OR:=C;have sB:=HB.out.size;clear E C
   go_wp2_with fail
   rename_i KK Ib;have ZN:ju Z (.slice (some ⟨G,0,none⟩) 116 F) (Qt i):=by
    refine Ro.DB (lo:=w3.heap.size) ?_;show World.ownsRow _ _ _ _ _ _ _;rw [Re,nD.out,oI.out];exact OR.out
   have bD:Zi Z Z.drew:=below_drewN' Z 1;have BW:Hid (Zi w Z.drew):=(WD B3.out HB.out).trans (bD.mono (WD B3.out HB.out).size);have B:=X3.out.lt;have c0:Z.drew.cell? ⟨V,0,none⟩=some (.int .i64 (S:Int)):=(bD.cell (ZY B sB)).trans ((HB.out.cell B).trans (X3.out.cl 0 _ rfl));have c1:Z.drew.cell? ⟨V,1,none⟩=some (.int .i64 (L:Int)):=(bD.cell (ZY B sB)).trans ((HB.out.cell B).trans (X3.out.cl 1 _ rfl));have Pu:=ZU (tR Z.drew _ S L i hn.2 hn.1 Z3.out (HG.out.later BW.out) (show ju Z.drew (.slice (some ⟨G,0,none⟩) 116 F) (Qt i) by
    obtain ⟨a1,a2,a3,a4,a5,a6⟩:=ZN;exact ⟨a1,a2,a3,a4,a5,a6⟩))
   have HKK:=ZU Ib;clear Ib ZN bD HB OR sB B X3 B3 oI nD hlt2;refine ZX (S:=fun W'=>W'.cell? ⟨V,0,none⟩=some (.int .i64 (S:Int))∧W'.cell? ⟨V,1,none⟩=some (.int .i64 (L:Int))) (by kernel_rfl) ⟨c0,c1⟩ (fun Z9=>?_);generalize Z.drew=u1 at *;clear c0 c1;refine PM (i:=0) (oi:=⟨some 65,_,_,_,_,_⟩) (v:=?v0) rfl (by kernel_rfl) (fun _ _ _ h=>h) (Or.inl ⟨by rfl,?hy0⟩) Z9 ?Zv
   case hy0=>intro w9 ZQ;obtain ⟨e0,e1⟩:=ZQ;go_simp;try with_reducible rfl
   refine PM (i:=2) (oi:=⟨some 67,_,_,_,_,_⟩) (v:=?v2) rfl (by kernel_rfl) (fun _ _ _ h=>h) (Or.inl ⟨by rfl,?hy2⟩) Z9 ?py
   case hy2=>intro w9 ZQ;obtain ⟨e0,e1⟩:=ZQ;go_simp;try with_reducible rfl
   refine YS 1 rfl (by kernel_rfl) (fun K hK=>?_);go_simp;refine Pu.out.mono ?_;rintro e u2 ⟨v1,rfl,b2,h2⟩;have Y:u2.cell? ⟨V,0,none⟩=some (.int .i64 (S:Int))∧u2.cell? ⟨V,1,none⟩=some (.int .i64 (L:Int)):=⟨(b2.cell (ZG u1 _ Z9.1)).trans Z9.1,(b2.cell (ZG u1 _ Z9.2)).trans Z9.2⟩;refine hK.out _ _ Y (fun YA=>?_);have ZM:=ZU (WD BW.out b2);have ZL:=ZU (h2 u2 Yy);clear hK K YA Pu b2 h2 Z9 BW;have Z9:=Y;clear Y;refine YS 3 rfl (by kernel_rfl) (fun K hK=>?_);go_simp;refine ZL.out.mono ?_;rintro e u3 ⟨v2,rfl,b3,h3⟩;have Y:u3.cell? ⟨V,0,none⟩=some (.int .i64 (S:Int))∧u3.cell? ⟨V,1,none⟩=some (.int .i64 (L:Int)):=⟨(b3.cell (ZG u2 _ Z9.1)).trans Z9.1,(b3.cell (ZG u2 _ Z9.2)).trans Z9.2⟩;refine hK.out _ _ Y (fun YA=>?_);have ZK:=ZU (WD ZM.out b3);have ZI:=ZU (h3 u3 Yy);clear hK K YA ZL b3 h3 Z9 ZM;have Z9:=Y;clear Y;refine YS 4 rfl (by kernel_rfl) (fun K hK=>?_);go_simp;refine ZI.out.mono ?_;rintro e u4 ⟨gg,gc,rfl,b4,h4⟩;have Y:u4.cell? ⟨V,0,none⟩=some (.int .i64 (S:Int))∧u4.cell? ⟨V,1,none⟩=some (.int .i64 (L:Int)):=⟨(b4.cell (ZG u3 _ Z9.1)).trans Z9.1,(b4.cell (ZG u3 _ Z9.2)).trans Z9.2⟩;refine hK.out _ _ Y (fun YA=>?_);have Zt:=ZU (WD ZK.out b4);have H4:=ZU h4;clear hK K YA ZI b4 h4 Z9 ZK;have Z9:=Y;clear Y;refine PM (i:=5) (oi:=⟨some 10,_,_,_,_,_⟩) (v:=?v5) rfl (by kernel_rfl) (fun _ _ _ h=>h) (Or.inl ⟨by rfl,?DN⟩) Z9 ?px
   case DN =>
    intro w9 ZQ;clear ZQ;go_simp
    try with_reducible rfl
   refine ZR (by kernel_rfl) (HKK.out _ _ ?_) _
   try simp only [Act.put,WV,WU,WT]
   exact iX hn.2 hS hL Z9.1 Z9.2 H4.out Zt.out
end
section
open Go.ChangeShapes Go.WideShapes Go.ChangeAt Go.RowKit
variable {m:Int} {zs:List Int} {V L S base g gc len n:Nat} {te:TypeId} {pe t0 t1 t100 t101 t102 t103 t104 t105 t106 t107 t108 t109 t11 t110 t111 t112 t113 t114 t115 t116 t117 t118 t119 t12 t120 t121 t122 t123 t124 t125 t126 t127 t128 t129 t13 t130 t131 t132 t133 t134 t135 t136 t137 t138 t139 t140 t141 t142 t143 t144 t145 t146 t147 t148 t149 t15 t150 t151 t152 t153 t154 t155 t156 t157 t158 t159 t16 t160 t161 t162 t163 t164 t165 t166 t167 t168 t169 t17 t170 t171 t172 t173 t174 t175 t176 t177 t178 t179 t18 t180 t181 t182 t19 t2 t20 t21 t22 t23 t24 t25 t26 t27 t28 t29 t30 t31 t32 t33 t34 t35 t36 t37 t38 t39 t40 t41 t42 t43 t44 t45 t46 t47 t48 t49 t5 t50 t51 t52 t53 t54 t55 t56 t57 t58 t59 t6 t60 t61 t62 t63 t64 t65 t66 t67 t68 t69 t7 t70 t71 t72 t73 t74 t75 t76 t77 t78 t79 t8 t80 t81 t82 t83 t84 t85 t86 t87 t88 t89 t9 t90 t91 t92 t93 t94 t95 t96 t97 t98 t99:Value} {W w:World}
theorem JE (b o i:Nat):(⟨b,o,none⟩:Addr).add i=⟨b,o+i,none⟩:=YY ..
theorem iW {k:IntKind} {x:Addr} {cap:Nat} (hl:len≤cap) (hm:cap≤maxLen) (hz:zs.length=cap)
    (hcell:∀i,i<zs.length→w.cell? (x.add i)=some (.int k (zs.getD i 0))):Rd k w (.slice (some x) len cap) (zs.take len):=by
 have hlen:(zs.take len).length=len:=by simp;omega
 refine ⟨some x,cap,by rw [hlen],by rw [hlen];exact hl,hm,?_⟩
 by_cases h0:len=0
 · subst h0;exact .inl rfl
 right
 obtain ⟨b,off,spot⟩:=x;have hc:=hcell 0 (by omega);have hspot:spot=none:=by simpa [Addr.add] using World.cell?_spot hc
 subst hspot;refine ⟨b,off,rfl,?_,fun i hi=>?_⟩
 · have:=ZG w _ hc
   simpa [Addr.add] using this
 rw [hlen] at hi;have:=hcell i (by omega);rw [JE] at this;rw [this]
 simp [List.getD,XP hi]
theorem lZ (h:∀n ∈ zs,(Lit.int .u8 n).wf=true):Sn (zs.take len):=by
 intro x hx;have:=h x (Xa hx);have b:=bounds_u8 this;omega
theorem Ck {H:Type} {enc:TypeId × Value→H} {a0:Option Addr} {qt cap0:Nat} {d0:DataW H} {p0:List MemPlace} {b:Bool}
    (h0:DataW.Trod enc Tryz.prog W base (fun _=>true) b 22 (.slice a0 qt cap0) d0 p0):∃xs,Rd .u8 W (.slice a0 qt cap0) xs∧Sn xs:=by
 obtain ⟨fuel,hf⟩:=h0
 rcases open_ints Tryz.underlying22 Tryz.underlying5 (by kernel_rfl) hf with ⟨hcs,_⟩ | ⟨x,l,c,zs,hcs,_,hl,hm,hz,_,hcell,hwz⟩
 · simp [Value.cells] at hcs
   obtain ⟨rfl,rfl,rfl⟩:=hcs;exact ⟨[],⟨none,0,rfl,YR,Zu _,.inl rfl⟩,fun x hx=>by cases hx⟩
 simp [Value.cells] at hcs
 obtain ⟨rfl,rfl,rfl⟩:=hcs;exact ⟨zs.take qt,iW hl hm (by simpa using hz) hcell,lZ hwz⟩
end
end Go.Proofs.YtpmjnbmkippaiaaGreatDoor


