import Derived.Test.YtmmmffcbfepghaaGreatDoorJ10
import Derived.Test.YtmmmffcbfepghaaGreatDoorJ07
set_option maxRecDepth 100000
set_option maxHeartbeats 16000000
set_option linter.unusedVariables false
set_option linter.unusedSimpArgs false
namespace Go.Proofs.YtmmmffcbfepghaaGreatDoor
open Go.RowKit Go.Shelf
variable {log:Bool} {L S b ZN c g l s:Int} {ps:List (Int × List Int)} {xs ys zs:List Int} {ns:List Nd} {ca cb dl j n p q:Nat} {ao bo:Option Addr} {e:TypeId} {u v v1 v2 vt:Value} {W W' w:World}
theorem Fx (w:World) (S L:Int) :
    Calls Tryz.prog 48 #[.agg #[.int .i64 S,.int .i64 L]] w (Ze w (.bool (Xh S L))):=by
 have B0:Hid (ZX w (w.alloc (.cells #[.int .i64 S,.int .i64 L] 41))):=ZR.alloc ZW _
 by_cases h1:1≤S
 · by_cases h2:S≤64
   · by_cases h3:1≤L
     · by_cases h4:L≤64
       · have H:Hid (Xh S L=true):=(Zs S L).2 ⟨⟨h1,h2⟩,h3,h4⟩
         go_enter Tryz.func48,Tryz.ntmps48
         go_wp2;go_ret;exact ⟨ZJ H.out.symm,B0.out⟩
       have H:Hid (Xh S L=false):=by show _=_;rw [←xM,Zs];omega
       have d4:decide (L≤64)=false:=by simpa using h4
       go_enter Tryz.func48,Tryz.ntmps48
       go_wp2;go_ret;exact ⟨ZJ H.out.symm,B0.out⟩
     have H:Hid (Xh S L=false):=by show _=_;rw [←xM,Zs];omega
     have d3:decide (1≤L)=false:=by simpa using h3
     go_enter Tryz.func48,Tryz.ntmps48
     go_wp2;go_ret;exact ⟨ZJ H.out.symm,B0.out⟩
   have H:Hid (Xh S L=false):=by show _=_;rw [←xM,Zs];omega
   have d2:decide (S≤64)=false:=by simpa using h2
   go_enter Tryz.func48,Tryz.ntmps48
   go_wp2;go_ret;exact ⟨ZJ H.out.symm,B0.out⟩
 have H:Hid (Xh S L=false):=by show _=_;rw [←xM,Zs];omega
 have d1:decide (1≤S)=false:=by simpa using h1
 go_enter Tryz.func48,Tryz.ntmps48
 go_wp2;go_ret;exact ⟨ZJ H.out.symm,B0.out⟩
theorem Sf (w:World) (S:Int) :
    Calls Tryz.prog 95 #[.int .i64 S] w fun e w'=>e=.returned (.bool (decide (1≤S∧S≤64)))∧w'=w:=by
 by_cases h1:1≤S
 · by_cases h2:S≤64
   · go_enter Tryz.func95,Tryz.ntmps95
     go_wp2;go_ret;exact ⟨ZJ (by first | rfl | (symm;rw [Zg];exact ⟨h1,h2⟩)),rfl⟩
   have d2:decide (S≤64)=false:=by simpa using h2
   go_enter Tryz.func95,Tryz.ntmps95
   go_wp2;go_ret;exact ⟨ZJ (by first | rfl | (symm;rw [Rc];omega)),rfl⟩
 have d1:decide (1≤S)=false:=by simpa using h1
 go_enter Tryz.func95,Tryz.ntmps95
 go_wp2;go_ret;exact ⟨ZJ (by first | rfl | (symm;rw [Rc];omega)),rfl⟩
theorem Pt (w:World) (S L:Int) :
    Calls Tryz.prog 66 #[.agg #[.int .i64 S,.int .i64 L]] w (Ze w (.bool (Xh S L))):=by
 have B0:Hid (ZX w (w.alloc (.cells #[.int .i64 S,.int .i64 L] 41))):=ZR.alloc ZW _;obtain ⟨t,ht⟩:∃t,t=decide (1≤S∧S≤64):=⟨_,rfl⟩;obtain ⟨u,hu⟩:∃u,u=decide (1≤L∧L≤64):=⟨_,rfl⟩;have H:Hid (Xh S L=(t && u)):=by show _=_;rw [ht,hu];rfl
 have V1:Hid (∀W,Calls Tryz.prog 95 #[.int .i64 S] W fun e w'=>e=.returned (.bool t)∧w'=W):=fun W=>by rw [ht];exact Sf W S
 have V2:Hid (∀W,Calls Tryz.prog 95 #[.int .i64 L] W fun e w'=>e=.returned (.bool u)∧w'=W):=fun W=>by rw [hu];exact Sf W L
 clear ht hu
 go_enter Tryz.func66,Tryz.ntmps66
 go_wp2_with fail
 cases t with
 | true =>
  refine (V1.out _).mono ?_;rintro e w1 ⟨rfl,rfl⟩
  go_wp2_with fail
  refine (V2.out _).mono ?_;rintro e w1 ⟨rfl,rfl⟩;go_wp2;go_ret;exact ⟨ZJ (by rw [H.out];simp),B0.out⟩
 | false =>
  refine (V1.out _).mono ?_;rintro e w1 ⟨rfl,rfl⟩;go_wp2;go_ret;exact ⟨ZJ (by rw [H.out];simp),B0.out⟩
theorem Tl (w:World) (S L:Int) (hS:1≤S) (hS2:S≤64) (hL:1≤L) (hL2:L≤64) :
    Calls Tryz.prog 97 #[.agg #[.int .i64 S,.int .i64 L]] w (Ze w (.int .i64 (S+L))):=by
 have B0:Hid (ZX w (w.alloc (.cells #[.int .i64 S,.int .i64 L] 41))):=ZR.alloc ZW _
 go_enter Tryz.func97,Tryz.ntmps97
 go_wp2;go_ret;exact ⟨rfl,B0.out⟩
theorem ND (w:World) (S L:Int) (hS:1≤S) (hS2:S≤64) (hL:1≤L) (hL2:L≤64) :
    Calls Tryz.prog 69 #[.agg #[.int .i64 S,.int .i64 L]] w (Ze w (.int .i64 (2+2*(S+L)))):=by
 have B0:Hid (ZX w (w.alloc (.cells #[.int .i64 S,.int .i64 L] 41))):=ZR.alloc ZW _
 go_enter Tryz.func69,Tryz.ntmps69
 go_wp2_with fail
 refine (Tl _ S L hS hS2 hL hL2).mono ?_;rintro e w1 ⟨rfl,b1⟩;have B1:=Z8 (Ye B0.out b1);clear b1 B0;go_wp2;go_ret;exact ⟨rfl,B1.out⟩
def XM (w:World) (ao bo:Option Addr) (dl ca n cb:Nat) (S L:Int) (W:World):Prop :=
 Hid (ZX w W∧YK W w.heap.size (.slice ao dl ca) (.slice bo n cb)∧YK W (w.heap.size+1) (.int .i64 S) (.int .i64 L)) ∧
  W.cell? ⟨w.heap.size,0,none⟩=some (.slice ao dl ca)∧W.cell? ⟨w.heap.size,1,none⟩=some (.slice bo n cb)∧W.cell? ⟨w.heap.size+1,0,none⟩=some (.int .i64 S)∧W.cell? ⟨w.heap.size+1,1,none⟩=some (.int .i64 L)
theorem XM.mk (h1:ZX w W) (h2:YK W w.heap.size (.slice ao dl ca) (.slice bo n cb)) (h3:YK W (w.heap.size+1) (.int .i64 S) (.int .i64 L)):XM w ao bo dl ca n cb S L W :=
 ⟨⟨h1,h2,h3⟩,h2.2.1,h2.2.2,h3.2.1,h3.2.2⟩
theorem XM.below (h:XM w ao bo dl ca n cb S L W) (hb:ZX W W'):XM w ao bo dl ca n cb S L W' :=
 XM.mk (h.1.out.1.trans (hb.mono h.1.out.1.size)) (h.1.out.2.1.below hb) (h.1.out.2.2.below hb)
theorem Uk (w:World) (ao bo:Option Addr) (dl ca n cb:Nat) (ps:List (Int × List Int)) (S L:Int) (hp:XP w (.slice bo n cb) ps) (hl:ps.length=n) (hd1:dl≤1048576) (hn:n≤1048576) (XV:∀i,(pD ps i).length≤1048576) :
    Calls Tryz.prog 16 #[.agg #[.slice ao dl ca,.slice bo n cb],.agg #[.int .i64 S,.int .i64 L]] w (Ze w (.bool (WR S L dl ps))):=by
 have HP:=Z8 hp;have HL:=Z8 hl;have Xd:=Z8 XV;have B0:Hid (ZX w ((w.alloc (.cells #[.slice ao dl ca,.slice bo n cb] 36)).alloc (.cells #[.int .i64 S,.int .i64 L] 41))):=(ZR.alloc ZW _).alloc (by simp) _;have XD:Hid (YK ((w.alloc (.cells #[.slice ao dl ca,.slice bo n cb] 36)).alloc (.cells #[.int .i64 S,.int .i64 L] 41)) w.heap.size (.slice ao dl ca) (.slice bo n cb)):=(YK.new w _ _ _).below (ZR.alloc ZW _);have XC:Hid (YK ((w.alloc (.cells #[.slice ao dl ca,.slice bo n cb] 36)).alloc (.cells #[.int .i64 S,.int .i64 L] 41)) (w.heap.size+1) (.int .i64 S) (.int .i64 L)):=by
  have:=YK.new (w.alloc (.cells #[.slice ao dl ca,.slice bo n cb] 36)) (.int .i64 S) (.int .i64 L) 41;show YK _ _ _ _
  simpa using this
 obtain ⟨t,ht⟩:∃t,t=Xh S L:=⟨_,rfl⟩;obtain ⟨u,hu⟩:∃u,u=XY dl ps:=⟨_,rfl⟩;have H:Hid (WR S L dl ps=(t && (u && decide (((dl / 64:Nat):Int)=2+2*(S+L))))):=by show _=_;rw [ht,hu];rfl
 have HB:Hid (t=true→(1≤S∧S≤64)∧1≤L∧L≤64):=fun e=>(Zs S L).1 (ht ▸ e)
 have Q:Hid (∀W W',XM w ao bo dl ca n cb S L W→ZX W W'→XM w ao bo dl ca n cb S L W'):=fun W W' h1 h4=>h1.below h4
 have V1:Hid (∀W,Calls Tryz.prog 48 #[.agg #[.int .i64 S,.int .i64 L]] W (Ze W (.bool t))):=fun W=>by rw [ht];exact Fx W S L
 have V2:Hid (∀W,XM w ao bo dl ca n cb S L W→Calls Tryz.prog 49 #[.agg #[.slice ao dl ca,.slice bo n cb]] W (Ze W (.bool u))):=fun W hW=>by rw [hu];exact XG W ao bo dl ca n cb ps (HP.out.below hW.1.out.1) HL.out hd1 hn Xd.out
 clear ht hu hp hl XV
 go_enter Tryz.func16,Tryz.ntmps16
 go_wp2_with fail
 have S0:=Z8 (XM.mk B0.out XD.out XC.out);clear B0 XD XC;generalize (w.alloc _).alloc _=w0 at *
 cases t with
 | false =>
  refine ZF (S:=XM w ao bo dl ca n cb S L) (by kernel_rfl) (S0.out.below (below_drewN' w0 1)) (fun Z9=>?_);refine ZV ?_ (by kernel_rfl) (fun _=>id) Z9 ?_ ?_
  rotate_left
  · intro w9 Z4;obtain ⟨-,k0,k1,k2,k3⟩:=Z4;go_simp;try with_reducible rfl
  refine ZS 1 rfl (by kernel_rfl) (fun K hK=>?_);go_simp;refine (V1.out _).mono ?_;rintro e w1 ⟨rfl,b1⟩;have hN1:=Q.out _ _ Z9 b1;clear b1;clear Z9;refine hK.out _ _ (hN1) (fun Z9=>?_);clear hK K;refine ZV ?_ (by kernel_rfl) (fun _=>id) Z9 ?_ ?_
  rotate_left
  · intro w9 Z4;obtain ⟨-,k0,k1,k2,k3⟩:=Z4;go_simp;try with_reducible rfl
  iterate 2 (refine TU (by kernel_rfl) (fun _=>id) Z9 ?_)
  iterate 2 (refine ZV ?_ (by kernel_rfl) (fun _=>id) Z9 ?_ ?_;rotate_left;· intro w9 Z4;obtain ⟨-,k0,k1,k2,k3⟩:=Z4;go_simp;try with_reducible rfl)
  iterate 10 (refine TU (by kernel_rfl) (fun _=>id) Z9 ?_)
  iterate 2 (refine ZV ?_ (by kernel_rfl) (fun _=>id) Z9 ?_ ?_;rotate_left;· intro w9 Z4;obtain ⟨-,k0,k1,k2,k3⟩:=Z4;go_simp;try with_reducible rfl)
  refine ZM (by kernel_rfl) ?_ _
  try simp only [Act.put,Zk,Zj,Zi]
  have BE:=Z9.1;clear Z9;go_wp2;go_ret;exact ⟨ZJ (by rw [H.out];simp <;> rfl),BE.out.1⟩
 | true =>
  obtain ⟨⟨hS1,hS2⟩,hL1,hL2⟩:=HB.out rfl
  cases u with
  | false =>
   refine ZF (S:=XM w ao bo dl ca n cb S L) (by kernel_rfl) (S0.out.below (below_drewN' w0 1)) (fun Z9=>?_);refine ZV ?_ (by kernel_rfl) (fun _=>id) Z9 ?_ ?_
   rotate_left
   · intro w9 Z4;obtain ⟨-,k0,k1,k2,k3⟩:=Z4;go_simp;try with_reducible rfl
   refine ZS 1 rfl (by kernel_rfl) (fun K hK=>?_);go_simp;refine (V1.out _).mono ?_;rintro e w1 ⟨rfl,b1⟩;have hN1:=Q.out _ _ Z9 b1;clear b1;clear Z9;refine hK.out _ _ (hN1) (fun Z9=>?_);clear hK K
   iterate 2 (refine ZV ?_ (by kernel_rfl) (fun _=>id) Z9 ?_ ?_;rotate_left;· intro w9 Z4;obtain ⟨-,k0,k1,k2,k3⟩:=Z4;go_simp;try with_reducible rfl)
   refine ZS 4 rfl (by kernel_rfl) (fun K hK=>?_);go_simp;refine (V2.out _ Z9).mono ?_;rintro e w2 ⟨rfl,b2⟩;have Dc:=Q.out _ _ Z9 b2;clear b2;clear Z9;refine hK.out _ _ (Dc) (fun Z9=>?_);clear hK K
   iterate 2 (refine ZV ?_ (by kernel_rfl) (fun _=>id) Z9 ?_ ?_;rotate_left;· intro w9 Z4;obtain ⟨-,k0,k1,k2,k3⟩:=Z4;go_simp;try with_reducible rfl)
   iterate 10 (refine TU (by kernel_rfl) (fun _=>id) Z9 ?_)
   iterate 2 (refine ZV ?_ (by kernel_rfl) (fun _=>id) Z9 ?_ ?_;rotate_left;· intro w9 Z4;obtain ⟨-,k0,k1,k2,k3⟩:=Z4;go_simp;try with_reducible rfl)
   refine ZM (by kernel_rfl) ?_ _
   try simp only [Act.put,Zk,Zj,Zi]
   have BE:=Z9.1;clear Z9;go_wp2;go_ret;exact ⟨ZJ (by rw [H.out];simp <;> rfl),BE.out.1⟩
  | true =>
   refine ZF (S:=XM w ao bo dl ca n cb S L) (by kernel_rfl) (S0.out.below (below_drewN' w0 1)) (fun Z9=>?_);refine ZV ?_ (by kernel_rfl) (fun _=>id) Z9 ?_ ?_
   rotate_left
   · intro w9 Z4;obtain ⟨-,k0,k1,k2,k3⟩:=Z4;go_simp;try with_reducible rfl
   refine ZS 1 rfl (by kernel_rfl) (fun K hK=>?_);go_simp;refine (V1.out _).mono ?_;rintro e w1 ⟨rfl,b1⟩;have hN1:=Q.out _ _ Z9 b1;clear b1;clear Z9;refine hK.out _ _ (hN1) (fun Z9=>?_);clear hK K
   iterate 2 (refine ZV ?_ (by kernel_rfl) (fun _=>id) Z9 ?_ ?_;rotate_left;· intro w9 Z4;obtain ⟨-,k0,k1,k2,k3⟩:=Z4;go_simp;try with_reducible rfl)
   refine ZS 4 rfl (by kernel_rfl) (fun K hK=>?_);go_simp;refine (V2.out _ Z9).mono ?_;rintro e w2 ⟨rfl,b2⟩;have Dc:=Q.out _ _ Z9 b2;clear b2;clear Z9;refine hK.out _ _ (Dc) (fun Z9=>?_);clear hK K
   iterate 3 (refine ZV ?_ (by kernel_rfl) (fun _=>id) Z9 ?_ ?_;rotate_left;· intro w9 Z4;obtain ⟨-,k0,k1,k2,k3⟩:=Z4;go_simp;try with_reducible rfl)
   refine ZA 9 ?v20 rfl (by kernel_rfl) (fun _=>id) Z9 ?sZ ?_
   case sZ=>intro w9 Z4;obtain ⟨-,k0,k1,k2,k3⟩:=Z4;go_simp;try with_reducible rfl
   refine ZA 10 ?v21 rfl (by kernel_rfl) (fun _=>id) Z9 ?sY ?_
   case sY=>intro w9 Z4;obtain ⟨-,k0,k1,k2,k3⟩:=Z4;go_simp;try with_reducible rfl
   refine ZA 11 ?v22 rfl (by kernel_rfl) (fun _=>id) Z9 ?yX ?_
   case yX=>intro w9 Z4;obtain ⟨-,k0,k1,k2,k3⟩:=Z4;go_simp;try with_reducible rfl
   refine ZA 12 ?v23 rfl (by kernel_rfl) (fun _=>id) Z9 ?yW ?_
   case yW=>intro w9 Z4;obtain ⟨-,k0,k1,k2,k3⟩:=Z4;go_simp;try with_reducible rfl
   refine ZA 13 (.int .i64 (S+L)) rfl (by kernel_rfl) (fun _=>id) Z9 ?hy24 ?_
   case hy24 =>
    intro w9 Z4;go_simp
    try (rw [Xf];omega)
   refine ZA 14 (.int .i64 (2*(S+L))) rfl (by kernel_rfl) (fun _=>id) Z9 ?hy25 ?_
   case hy25 =>
    intro w9 Z4;go_simp
    try (rw [Xf];omega)
   refine ZA 15 (.int .i64 (2+2*(S+L))) rfl (by kernel_rfl) (fun _=>id) Z9 ?Z0 ?_
   case Z0 =>
    intro w9 Z4;go_simp
    try (rw [Xf];omega)
   refine ZS 8 rfl (by kernel_rfl) (fun K hK=>?_);go_simp;refine (Xm _ ao dl ca _ hd1).mono ?_;rintro e w3 ⟨rfl,b3⟩;have p7:=Q.out _ _ Z9 b3;clear b3;clear Z9;refine hK.out _ _ (p7) (fun Z9=>?_);clear hK K
   iterate 3 (refine ZV ?_ (by kernel_rfl) (fun _=>id) Z9 ?_ ?_;rotate_left;· intro w9 Z4;obtain ⟨-,k0,k1,k2,k3⟩:=Z4;go_simp;try with_reducible rfl)
   refine ZM (by kernel_rfl) ?_ _
   try simp only [Act.put,Zk,Zj,Zi]
   have BE:=Z9.1;clear Z9;go_wp2;go_ret;exact ⟨ZJ (by rw [H.out];simp <;> rfl),BE.out.1⟩
theorem Se (w:World) (ao bo:Option Addr) (dl ca n cb:Nat) (ps:List (Int × List Int)) (S L:Int) (hp:XP w (.slice bo n cb) ps) (hl:ps.length=n) (hd1:dl≤1048576) (hn:n≤1048576) (XV:∀i,(pD ps i).length≤1048576) :
    Calls Tryz.prog 30 #[.agg #[.slice ao dl ca,.slice bo n cb],.agg #[.int .i64 S,.int .i64 L]] w (Ze w (.bool (WR S L dl ps))):=by
 have HP:=Z8 hp;have HL:=Z8 hl;have Xd:=Z8 XV;have B0:Hid (ZX w ((w.alloc (.cells #[.slice ao dl ca,.slice bo n cb] 36)).alloc (.cells #[.int .i64 S,.int .i64 L] 41))):=(ZR.alloc ZW _).alloc (by simp) _;have XD:Hid (YK ((w.alloc (.cells #[.slice ao dl ca,.slice bo n cb] 36)).alloc (.cells #[.int .i64 S,.int .i64 L] 41)) w.heap.size (.slice ao dl ca) (.slice bo n cb)):=(YK.new w _ _ _).below (ZR.alloc ZW _);have XC:Hid (YK ((w.alloc (.cells #[.slice ao dl ca,.slice bo n cb] 36)).alloc (.cells #[.int .i64 S,.int .i64 L] 41)) (w.heap.size+1) (.int .i64 S) (.int .i64 L)):=by
  have:=YK.new (w.alloc (.cells #[.slice ao dl ca,.slice bo n cb] 36)) (.int .i64 S) (.int .i64 L) 41;show YK _ _ _ _
  simpa using this
 obtain ⟨t,ht⟩:∃t,t=Xh S L:=⟨_,rfl⟩;obtain ⟨u,hu⟩:∃u,u=XY dl ps:=⟨_,rfl⟩;have H:Hid (WR S L dl ps=(t && (u && decide (((dl / 64:Nat):Int)=2+2*(S+L))))):=by show _=_;rw [ht,hu];rfl
 have HB:Hid (t=true→(1≤S∧S≤64)∧1≤L∧L≤64):=fun e=>(Zs S L).1 (ht ▸ e)
 have Q:Hid (∀W W',XM w ao bo dl ca n cb S L W→ZX W W'→XM w ao bo dl ca n cb S L W'):=fun W W' h1 h4=>h1.below h4
 have V1:Hid (∀W,Calls Tryz.prog 66 #[.agg #[.int .i64 S,.int .i64 L]] W (Ze W (.bool t))):=fun W=>by rw [ht];exact Pt W S L
 have V2:Hid (∀W,XM w ao bo dl ca n cb S L W→Calls Tryz.prog 67 #[.agg #[.slice ao dl ca,.slice bo n cb]] W (Ze W (.bool u))):=fun W hW=>by rw [hu];exact UV W ao bo dl ca n cb ps (HP.out.below hW.1.out.1) HL.out hd1 hn Xd.out
 clear ht hu hp hl XV
 go_enter Tryz.func30,Tryz.ntmps30
 go_wp2_with fail
 have S0:=Z8 (XM.mk B0.out XD.out XC.out);clear B0 XD XC;generalize (w.alloc _).alloc _=w0 at *
 cases t with
 | false =>
  refine ZF (S:=XM w ao bo dl ca n cb S L) (by kernel_rfl) (S0.out.below (below_drewN' w0 1)) (fun Z9=>?_);refine ZV ?_ (by kernel_rfl) (fun _=>id) Z9 ?_ ?_
  rotate_left
  · intro w9 Z4;obtain ⟨-,k0,k1,k2,k3⟩:=Z4;go_simp;try with_reducible rfl
  refine ZS 1 rfl (by kernel_rfl) (fun K hK=>?_);go_simp;refine (V1.out _).mono ?_;rintro e w1 ⟨rfl,b1⟩;have hN1:=Q.out _ _ Z9 b1;clear b1;clear Z9;refine hK.out _ _ (hN1) (fun Z9=>?_);clear hK K;refine ZV ?_ (by kernel_rfl) (fun _=>id) Z9 ?_ ?_
  rotate_left
  · intro w9 Z4;obtain ⟨-,k0,k1,k2,k3⟩:=Z4;go_simp;try with_reducible rfl
  iterate 2 (refine TU (by kernel_rfl) (fun _=>id) Z9 ?_)
  iterate 2 (refine ZV ?_ (by kernel_rfl) (fun _=>id) Z9 ?_ ?_;rotate_left;· intro w9 Z4;obtain ⟨-,k0,k1,k2,k3⟩:=Z4;go_simp;try with_reducible rfl)
  iterate 5 (refine TU (by kernel_rfl) (fun _=>id) Z9 ?_)
  iterate 2 (refine ZV ?_ (by kernel_rfl) (fun _=>id) Z9 ?_ ?_;rotate_left;· intro w9 Z4;obtain ⟨-,k0,k1,k2,k3⟩:=Z4;go_simp;try with_reducible rfl)
  refine ZM (by kernel_rfl) ?_ _
  try simp only [Act.put,Zk,Zj,Zi]
  have BE:=Z9.1;clear Z9;go_wp2;go_ret;exact ⟨ZJ (by rw [H.out];simp <;> rfl),BE.out.1⟩
 | true =>
  obtain ⟨⟨hS1,hS2⟩,hL1,hL2⟩:=HB.out rfl
  cases u with
  | false =>
   refine ZF (S:=XM w ao bo dl ca n cb S L) (by kernel_rfl) (S0.out.below (below_drewN' w0 1)) (fun Z9=>?_);refine ZV ?_ (by kernel_rfl) (fun _=>id) Z9 ?_ ?_
   rotate_left
   · intro w9 Z4;obtain ⟨-,k0,k1,k2,k3⟩:=Z4;go_simp;try with_reducible rfl
   refine ZS 1 rfl (by kernel_rfl) (fun K hK=>?_);go_simp;refine (V1.out _).mono ?_;rintro e w1 ⟨rfl,b1⟩;have hN1:=Q.out _ _ Z9 b1;clear b1;clear Z9;refine hK.out _ _ (hN1) (fun Z9=>?_);clear hK K
   iterate 2 (refine ZV ?_ (by kernel_rfl) (fun _=>id) Z9 ?_ ?_;rotate_left;· intro w9 Z4;obtain ⟨-,k0,k1,k2,k3⟩:=Z4;go_simp;try with_reducible rfl)
   refine ZS 4 rfl (by kernel_rfl) (fun K hK=>?_);go_simp;refine (V2.out _ Z9).mono ?_;rintro e w2 ⟨rfl,b2⟩;have Dc:=Q.out _ _ Z9 b2;clear b2;clear Z9;refine hK.out _ _ (Dc) (fun Z9=>?_);clear hK K
   iterate 2 (refine ZV ?_ (by kernel_rfl) (fun _=>id) Z9 ?_ ?_;rotate_left;· intro w9 Z4;obtain ⟨-,k0,k1,k2,k3⟩:=Z4;go_simp;try with_reducible rfl)
   iterate 5 (refine TU (by kernel_rfl) (fun _=>id) Z9 ?_)
   iterate 2 (refine ZV ?_ (by kernel_rfl) (fun _=>id) Z9 ?_ ?_;rotate_left;· intro w9 Z4;obtain ⟨-,k0,k1,k2,k3⟩:=Z4;go_simp;try with_reducible rfl)
   refine ZM (by kernel_rfl) ?_ _
   try simp only [Act.put,Zk,Zj,Zi]
   have BE:=Z9.1;clear Z9;go_wp2;go_ret;exact ⟨ZJ (by rw [H.out];simp <;> rfl),BE.out.1⟩
  | true =>
   refine ZF (S:=XM w ao bo dl ca n cb S L) (by kernel_rfl) (S0.out.below (below_drewN' w0 1)) (fun Z9=>?_);refine ZV ?_ (by kernel_rfl) (fun _=>id) Z9 ?_ ?_
   rotate_left
   · intro w9 Z4;obtain ⟨-,k0,k1,k2,k3⟩:=Z4;go_simp;try with_reducible rfl
   refine ZS 1 rfl (by kernel_rfl) (fun K hK=>?_);go_simp;refine (V1.out _).mono ?_;rintro e w1 ⟨rfl,b1⟩;have hN1:=Q.out _ _ Z9 b1;clear b1;clear Z9;refine hK.out _ _ (hN1) (fun Z9=>?_);clear hK K
   iterate 2 (refine ZV ?_ (by kernel_rfl) (fun _=>id) Z9 ?_ ?_;rotate_left;· intro w9 Z4;obtain ⟨-,k0,k1,k2,k3⟩:=Z4;go_simp;try with_reducible rfl)
   refine ZS 4 rfl (by kernel_rfl) (fun K hK=>?_);go_simp;refine (V2.out _ Z9).mono ?_;rintro e w2 ⟨rfl,b2⟩;have Dc:=Q.out _ _ Z9 b2;clear b2;clear Z9;refine hK.out _ _ (Dc) (fun Z9=>?_);clear hK K
   iterate 3 (refine ZV ?_ (by kernel_rfl) (fun _=>id) Z9 ?_ ?_;rotate_left;· intro w9 Z4;obtain ⟨-,k0,k1,k2,k3⟩:=Z4;go_simp;try with_reducible rfl)
   refine ZA 9 ?v49 rfl (by kernel_rfl) (fun _=>id) Z9 ?ZZ ?_
   case ZZ=>intro w9 Z4;obtain ⟨-,k0,k1,k2,k3⟩:=Z4;go_simp;try with_reducible rfl
   refine ZS 8 rfl (by kernel_rfl) (fun K hK=>?_);go_simp;refine (VX _ ao dl ca _ hd1).mono ?_;rintro e w3 ⟨rfl,b3⟩;have p7:=Q.out _ _ Z9 b3;clear b3;clear Z9;refine hK.out _ _ (p7) (fun Z9=>?_);clear hK K;refine ZS 10 rfl (by kernel_rfl) (fun K hK=>?_);go_simp;refine (ND _ S L hS1 hS2 hL1 hL2).mono ?_;rintro e w4 ⟨rfl,b4⟩;have Zx:=Q.out _ _ Z9 b4;clear b4;clear Z9;refine hK.out _ _ (Zx) (fun Z9=>?_);clear hK K
   iterate 3 (refine ZV ?_ (by kernel_rfl) (fun _=>id) Z9 ?_ ?_;rotate_left;· intro w9 Z4;obtain ⟨-,k0,k1,k2,k3⟩:=Z4;go_simp;try with_reducible rfl)
   refine ZM (by kernel_rfl) ?_ _
   try simp only [Act.put,Zk,Zj,Zi]
   have BE:=Z9.1;clear Z9;go_wp2;go_ret;exact ⟨ZJ (by rw [H.out];simp <;> rfl),BE.out.1⟩
theorem PI (w:World) (S L ZN:Int) (log:Bool) (hc:Xh S L=true) (hb:0≤ZN∧ZN≤1) :
    Calls Tryz.prog 26 #[.agg #[.int .i64 S,.int .i64 L],.int .i64 ZN,.bool log] w (Ze w (.int .i64 (YM S L ZN log))):=by
 have B0:Hid (ZX w (w.alloc (.cells #[.int .i64 S,.int .i64 L] 41))):=ZR.alloc ZW _;obtain ⟨⟨hS1,hS2⟩,hL1,hL2⟩:=(Zs S L).1 hc;unfold YM;have hb':ZN=0∨ZN=1:=by omega
 rcases hb' with rfl | rfl <;> cases log
 all_goals
  go_enter Tryz.func26,Tryz.ntmps26
  go_wp2;go_ret;exact ⟨Xo (by simp <;> omega),B0.out⟩
theorem J1 (w:World) (S L:Int) (log:Bool) :
    Calls Tryz.prog 54 #[.agg #[.int .i64 S,.int .i64 L],.bool log] w (Ze w (.int .i64 (Rx S L log))):=by
 have B0:Hid (ZX w (w.alloc (.cells #[.int .i64 S,.int .i64 L] 41))):=ZR.alloc ZW _;unfold Rx
 cases log
 all_goals
  go_enter Tryz.func54,Tryz.ntmps54
  go_wp2;go_ret;exact ⟨Xo (by simp),B0.out⟩
theorem Tk (S L:Int) (dl:Nat) (ps:List (Int × List Int)) (ZN:Int):Qf S L dl ps ZN=true↔WR S L dl ps=true∧0≤ZN∧ZN≤1:=by
 unfold Qf;simp only [Yg,Zg]
theorem qI (h:Qf S L dl ps ZN=true) :
    ∃f l:Nat,YM S L ZN log=f∧Rx S L log=l∧2≤f∧1≤l∧l≤64∧f+l≤dl / 64∧(f+l)*64≤dl∧dl / 64≤258:=by
 obtain ⟨h1,h2,h3⟩:=(Tk ..).1 h;obtain ⟨hc,hv,hn⟩:=(XU ..).1 h1;obtain ⟨⟨hS1,hS2⟩,hL1,hL2⟩:=(Zs S L).1 hc;have hm:=((Yv _ _).1 hv).1;have hb:ZN=0∨ZN=1:=by omega
 refine ⟨(YM S L ZN log).toNat,(Rx S L log).toNat,?_⟩;unfold YM Rx
 rcases hb with rfl | rfl <;> cases log <;> simp <;> omega
theorem Db {base:Nat} (h:Own .u8 e w base v xs) (hn:0<xs.length):∃g c,v=.slice (some ⟨g,0,none⟩) xs.length c:=by
 rcases h.2 with ⟨-,h0⟩ | ⟨g,cap,cur,rfl,-⟩
 · omega
 exact ⟨g,cap,rfl⟩
theorem XM.ZL (h:XM w ao bo dl ca n cb S L W) (hb:Below (w.heap.size+2) W W'):XM w ao bo dl ca n cb S L W' :=
 XM.mk (h.1.out.1.trans (hb.mono (by omega))) ⟨ZB h.1.out.2.1.1 hb.size,(hb.cell (p:=⟨w.heap.size,0,none⟩) (by show w.heap.size<_;omega)).trans h.1.out.2.1.2.1,(hb.cell (p:=⟨w.heap.size,1,none⟩) (by show w.heap.size<_;omega)).trans h.1.out.2.1.2.2⟩
  ⟨ZB h.1.out.2.2.1 hb.size,(hb.cell (p:=⟨w.heap.size+1,0,none⟩) (by show w.heap.size+1<_;omega)).trans h.1.out.2.2.2.1,(hb.cell (p:=⟨w.heap.size+1,1,none⟩) (by show w.heap.size+1<_;omega)).trans h.1.out.2.2.2.2⟩
theorem XM.lt (h:XM w ao bo dl ca n cb S L W):w.heap.size+2≤W.heap.size:=h.1.out.2.2.1
theorem XM.new (w:World) (ao bo:Option Addr) (dl ca n cb:Nat) (S L:Int) (t1 t2:TypeId):XM w ao bo dl ca n cb S L ((w.alloc (.cells #[.slice ao dl ca,.slice bo n cb] t1)).alloc (.cells #[.int .i64 S,.int .i64 L] t2)):=by
 refine XM.mk ((ZR.alloc ZW _).alloc (by simp) _) ((YK.new w _ _ _).below (ZR.alloc ZW _)) ?_;have:=YK.new (w.alloc (.cells #[.slice ao dl ca,.slice bo n cb] t1)) (.int .i64 S) (.int .i64 L) t2
 simpa using this
theorem J0 (w:World) (ao bo:Option Addr) (dl ca n cb:Nat) (Z7:List Int) (ps:List (Int × List Int)) (S L ZN:Int) (log:Bool) (hd:Rd .u8 w (.slice ao dl ca) Z7) (hdl:Z7.length=dl) (hp:XP w (.slice bo n cb) ps) (hl:ps.length=n) (hd1:dl≤1048576) (hn:n≤1048576) (XV:∀i,(pD ps i).length≤1048576)
    (hok:Qf S L dl ps ZN=true) :
    Calls Tryz.prog 19 #[.agg #[.slice ao dl ca,.slice bo n cb],.agg #[.int .i64 S,.int .i64 L],.int .i64 ZN,.bool log] w fun e w'=>∃v',e=.returned v'∧Own .u8 5 w' w.heap.size v' (YR (ZC Z7 ps) (YM S L ZN log).toNat (Rx S L log).toNat)∧ZX w w':=by
 obtain ⟨i0,hi,hz0,hz1,hz2⟩:=YH Tryz.Vv;have HD:=Z8 hd;have Uo:=Z8 hdl;have HP:=Z8 hp;have HL:=Z8 hl;have Xd:=Z8 XV;obtain ⟨f,l,hf,hl',hf2,hl1,hl2,hfl,Zb,Y'⟩:=qI (log:=log) hok;have h1:=((Tk ..).1 hok).1;have hb0:=((Tk ..).1 hok).2.1;have hb1:=((Tk ..).1 hok).2.2;have HF:=Z8 h1;have HC:=Z8 (((XU ..).1 h1).1);have HV:=Z8 (((XU ..).1 h1).2.1);rw [hf,hl',XT,XT];have xm:Hid (∀W,Calls Tryz.prog 54 #[.agg #[.int .i64 S,.int .i64 L],.bool log] W (Ze W (.int .i64 (l:Int)))):=fun W=>by rw [←hl'];exact J1 W S L log
 have Dd:Hid (∀W,Calls Tryz.prog 26 #[.agg #[.int .i64 S,.int .i64 L],.int .i64 ZN,.bool log] W (Ze W (.int .i64 (f:Int)))):=fun W=>by rw [←hf];exact PI W S L ZN log HC.out ⟨hb0,hb1⟩
 have p6:Hid ((ZC Z7 ps).length=dl):=by show _=_;rw [VF (by rw [Uo.out];exact HV.out),Uo.out]
 have xV:Hid (∀k,k≤l→(YR (ZC Z7 ps) f k).length=k*64):=fun k hk=>VE _ _ _ (by rw [p6.out];omega)
 have vZ:Hid (∀k,k<l→(blk (ZC Z7 ps) (f+k)).length=64):=fun k hk=>by
  have h1:=xV.out (k+1) hk;rw [H9,YE,xV.out k (by omega)] at h1;omega
 have Ua:Hid (∀(W:World) (k:Nat),k<l→XM w ao bo dl ca n cb S L W→Calls Tryz.prog 18 #[.agg #[.slice ao dl ca,.slice bo n cb],.int .i64 ((f:Int)+(k:Int))] W fun e w'=>∃g c,e=.returned (.slice (some ⟨g,0,none⟩) 64 c)∧Hid (∀j u,((blk (ZC Z7 ps) (f+k)).map (Value.int .u8))[j]?=some u→w'.cell? ((⟨g,0,none⟩:Addr).add j)=some u)∧ZX W w'):=by
  intro W k hk hF;refine (QU W _ _ Z7 ps _ (HD.out.below hF.1.out.1) (HP.out.below hF.1.out.1) (by rw [Uo.out];exact hd1) (by rw [HL.out];exact hn) Xd.out).mono ?_;rintro e w' ⟨v',rfl,o,b⟩;rw [show (f:Int)+(k:Int)=((f+k:Nat):Int) by omega,Ei (by rw [Uo.out];exact HV.out) (by rw [Uo.out];omega)] at o;have hbl:=vZ.out k hk;obtain ⟨g,c,hv⟩:=Db o (by omega);rw [hbl] at hv;subst hv;exact ⟨g,c,rfl,Va o rfl,b⟩
 go_enter Tryz.func19,Tryz.ntmps19
 go_wp2_with fail
 have F0:Hid (XM w ao bo dl ca n cb S L ((w.alloc (.cells #[.slice ao dl ca,.slice bo n cb] 36)).alloc (.cells #[.int .i64 S,.int .i64 L] 41))):=XM.new _ _ _ _ _ _ _ _ _ _ _;have O0:Hid (Own .u8 5 (((w.alloc (.cells #[.slice ao dl ca,.slice bo n cb] 36)).alloc (.cells #[.int .i64 S,.int .i64 L] 41)).alloc (.cells #[] 5)) (w.heap.size+2) (.slice (some ⟨w.heap.size+1+1,0,none⟩) 0 0) []):=by
  have:=Xb (base:=w.heap.size+2) (e:=5) (size:=1) ((w.alloc (.cells #[.slice ao dl ca,.slice bo n cb] 36)).alloc (.cells #[.int .i64 S,.int .i64 L] 41)) #[] 0 (by simp) (ZQ _) rfl;rw [show ((w.alloc (.cells #[.slice ao dl ca,.slice bo n cb] 36)).alloc (.cells #[.int .i64 S,.int .i64 L] 41)).heap.size=w.heap.size+1+1 by simp] at this;exact this
 have F1:Hid (XM w ao bo dl ca n cb S L (((w.alloc (.cells #[.slice ao dl ca,.slice bo n cb] 36)).alloc (.cells #[.int .i64 S,.int .i64 L] 41)).alloc (.cells #[] 5))):=F0.out.below (ZR.alloc ZW _);generalize ((w.alloc _).alloc _).alloc _=w1 at *;refine (Uk _ ao bo dl ca n cb ps S L (HP.out.below F1.out.1.out.1) HL.out hd1 hn Xd.out).mono ?_;rintro e w2 ⟨rfl,b2⟩;rw [HF.out];have F2:=Z8 (F1.out.below b2);have O2:=Z8 (O0.out.below b2);have t0:¬ZN<0:=by omega
 have ZH:decide (ZN<0)=false:=by simpa using t0
 have t1:¬1<ZN:=by omega
 have t1d:decide (1<ZN)=false:=by simpa using t1
 go_wp2
 go_loopw [9,10] (fun u i wr=>∃k:Nat,k≤l∧i=.int .i64 k∧Hid (Own .u8 5 wr (w.heap.size+2) u (YR (ZC Z7 ps) f k))∧Hid (XM w ao bo dl ca n cb S L wr)) (fun _ i _=>l - (intOf i).toNat)
 case atStart=>exact ⟨0,ZQ _,rfl,by rw [yY];exact O2,F2⟩
 case round =>
  obtain ⟨k,hk,rfl,HO,qQ⟩:=hrel;obtain ⟨-,c0,c1,c2,c3⟩:=qQ.out
  go_wp2_with fail
  refine (xm.out _).mono ?_;rintro e Z' ⟨rfl,b1⟩;have F1:=Z8 (qQ.out.below b1);have O0:=Z8 (HO.out.below b1)
  by_cases hlt:k<l
  · have YN:(k:Int)<(l:Int):=by omega
    go_wp2_with fail
    refine ZF (S:=XM w ao bo dl ca n cb S L) (by kernel_rfl) (F1.out.below (below_drewN' Z' 1)) (fun Z9=>?_);have O1:Hid (Own .u8 5 Z'.drew (w.heap.size+2) u9 (YR (ZC Z7 ps) f k)):=O0.out.below (below_drewN' Z' 1)
    iterate 5 (refine ZV ?_ (by kernel_rfl) (fun _=>id) Z9 ?_ ?_;rotate_left;· intro w9 Z4;obtain ⟨-,k0,k1,k2,k3⟩:=Z4;go_simp;try with_reducible rfl)
    refine ZA 6 ?v6 rfl (by kernel_rfl) (fun _=>id) Z9 ?sX ?_
    case sX=>intro w9 Z4;obtain ⟨-,k0,k1,k2,k3⟩:=Z4;go_simp;try with_reducible rfl
    refine ZS 5 rfl (by kernel_rfl) (fun K hK=>?_);go_simp;refine (Dd.out _).mono ?_;rintro e w2 ⟨rfl,b2⟩;have F2:=Z8 (Z9.below b2);have O2:=Z8 (O1.out.below b2);clear Z9;refine hK.out _ _ (F2.out) (fun Z9=>?_);refine ZV (.int .i64 ((f:Int)+(k:Int))) (by kernel_rfl) (fun _=>id) Z9 ?_ ?_
    · intro w9 Z4;go_simp;try (rw [Xf];omega)
    refine ZS 8 rfl (by kernel_rfl) (fun K hK=>?_);go_simp;refine (Ua.out _ k hlt F2.out).mono ?_;rintro e w3 ⟨g3,c3,rfl,N3,b3⟩;have F3:=Z8 (F2.out.below b3);have O3:Hid (w3.ownsRow (w.heap.size+2) 5 1 u9 (k*64) ((YR (ZC Z7 ps) f k).map (Value.int .u8))):=by have:=O2.out.below b3;unfold Own at this;rw [xV.out k (by omega)] at this;exact this
    have s3:=F3.out.lt;clear Z9;refine hK.out _ _ (F3.out) (fun Z9=>?_);refine ZS 9 rfl (by kernel_rfl) (fun K hK=>?_);refine zQ rfl (.tmp 32) (.tmp 40) 22 rfl (w.heap.size+2) 5 i0 (.int .u8 0) 1 1 Tryz.underlying22 hi hz0 hz1 hz2 rfl (by decide) u9 (k*64) _ rfl O3.out ⟨g3,0,none⟩ 64 c3 ((blk (ZC Z7 ps) (f+k)).map (Value.int .u8)) rfl (by rw [Vi,vZ.out k hlt,Jo]) N3.out (by intro u hu;simp only [List.mem_map] at hu;obtain ⟨_,_,rfl⟩:=hu;rfl) (by unfold maxLen;omega) (by omega) s3 ?_;intro u4 w4 ST hg4;have b4:=ZR.grown hg4 s3 (fun q hq=>(ZO O3.out q hq).1);have F4:=Z8 (F3.out.ZL b4);have O4:Hid (Own .u8 5 w4 (w.heap.size+2) u4 (YR (ZC Z7 ps) f (k+1))):=by
     refine WI (q:=k*64+64) (ys:=YR (ZC Z7 ps) f k++blk (ZC Z7 ps) (f+k)) (by rw [YE,xV.out k (by omega),vZ.out k hlt]) (H9 _ _ _) ?_;rw [WX];exact ST
    clear Z9;refine hK.out _ _ (F4.out) (fun Z9=>?_);refine ZV ?_ (by kernel_rfl) (fun _=>id) Z9 ?_ ?_
    rotate_left
    · intro w9 Z4;obtain ⟨-,k0,k1,k2,k3⟩:=Z4;go_simp;try with_reducible rfl
    refine ZM (by kernel_rfl) ?_ _
    try simp only [Act.put,Zk,Zj,Zi]
    clear Z9;go_wp2;exact ⟨⟨k+1,by omega,by go_num,O4,F4⟩,by simp [intOf];omega⟩
  have hkl:k=l:=by omega
  subst hkl;go_wp2;go_ret;exact ⟨_,rfl,O0.out.mono (by omega),F1.out.1.out.1⟩
theorem H7 (w:World) (ao bo:Option Addr) (dl ca n cb:Nat) (Z7:List Int) (ps:List (Int × List Int)) (S L ZN:Int) (log:Bool) (hd:Rd .u8 w (.slice ao dl ca) Z7) (hdl:Z7.length=dl) (hp:XP w (.slice bo n cb) ps) (hl:ps.length=n) (hd1:dl≤1048576) (hn:n≤1048576) (XV:∀i,(pD ps i).length≤1048576)
    (hok:Qf S L dl ps ZN=false) :
    Calls Tryz.prog 19 #[.agg #[.slice ao dl ca,.slice bo n cb],.agg #[.int .i64 S,.int .i64 L],.int .i64 ZN,.bool log] w fun e w'=>∃v',e=.returned v'∧Own .u8 5 w' w.heap.size v' []∧ZX w w':=by
 have HD:=Z8 hd;have Uo:=Z8 hdl;have HP:=Z8 hp;have HL:=Z8 hl;have Xd:=Z8 XV;have WC:=Z8 hok
 go_enter Tryz.func19,Tryz.ntmps19
 go_wp2_with fail
 have F0:Hid (XM w ao bo dl ca n cb S L ((w.alloc (.cells #[.slice ao dl ca,.slice bo n cb] 36)).alloc (.cells #[.int .i64 S,.int .i64 L] 41))):=XM.new _ _ _ _ _ _ _ _ _ _ _;have O0:Hid (Own .u8 5 (((w.alloc (.cells #[.slice ao dl ca,.slice bo n cb] 36)).alloc (.cells #[.int .i64 S,.int .i64 L] 41)).alloc (.cells #[] 5)) (w.heap.size+2) (.slice (some ⟨w.heap.size+1+1,0,none⟩) 0 0) []):=by
  have:=Xb (base:=w.heap.size+2) (e:=5) (size:=1) ((w.alloc (.cells #[.slice ao dl ca,.slice bo n cb] 36)).alloc (.cells #[.int .i64 S,.int .i64 L] 41)) #[] 0 (by simp) (ZQ _) rfl;rw [show ((w.alloc (.cells #[.slice ao dl ca,.slice bo n cb] 36)).alloc (.cells #[.int .i64 S,.int .i64 L] 41)).heap.size=w.heap.size+1+1 by simp] at this;exact this
 have F1:Hid (XM w ao bo dl ca n cb S L (((w.alloc (.cells #[.slice ao dl ca,.slice bo n cb] 36)).alloc (.cells #[.int .i64 S,.int .i64 L] 41)).alloc (.cells #[] 5))):=F0.out.below (ZR.alloc ZW _);generalize ((w.alloc _).alloc _).alloc _=w1 at *;refine (Uk _ ao bo dl ca n cb ps S L (HP.out.below F1.out.1.out.1) HL.out hd1 hn Xd.out).mono ?_;rintro e w2 ⟨rfl,b2⟩;have F2:=Z8 (F1.out.below b2);have O2:Hid (Own .u8 5 w2 w.heap.size (.slice (some ⟨w.heap.size+1+1,0,none⟩) 0 0) []):=(O0.out.below b2).mono (by omega)
 cases hF:WR S L dl ps with
 | false =>
  go_wp2;go_ret;exact ⟨_,rfl,O2.out,F2.out.1.out.1⟩
 | true =>
  have hnb:¬(0≤ZN∧ZN≤1):=fun h=>by
   have h2:=(Tk S L dl ps ZN).2 ⟨hF,h⟩;rw [WC.out] at h2;cases h2
  by_cases t0:ZN<0
  · have ZH:decide (ZN<0)=true:=by simpa using t0
    go_wp2;go_ret;exact ⟨_,rfl,O2.out,F2.out.1.out.1⟩
  have ZH:decide (ZN<0)=false:=by simpa using t0
  have t1:1<ZN:=by omega
  have t1d:decide (1<ZN)=true:=by simpa using t1
  go_wp2;go_ret;exact ⟨_,rfl,O2.out,F2.out.1.out.1⟩
theorem Uj (w:World) (v1 v2:Value) (Z7:List Int) (ps:List (Int × List Int)) (S L ZN:Int) (log:Bool) (hd:Rd .u8 w v1 Z7) (hp:XP w v2 ps) (hdl:Z7.length≤1048576) (hn:ps.length≤1048576) (XV:∀i,(pD ps i).length≤1048576) :
    Calls Tryz.prog 19 #[.agg #[v1,v2],.agg #[.int .i64 S,.int .i64 L],.int .i64 ZN,.bool log] w fun e w'=>∃v',e=.returned v'∧Own .u8 5 w' w.heap.size v' (Yo Z7 ps S L ZN log)∧ZX w w':=by
 obtain ⟨va,ca,rfl,-⟩:=hd.len;obtain ⟨vb,cb,rfl,-⟩:=id hp;unfold Yo
 cases h:Qf S L Z7.length ps ZN with
 | true =>
  simp only [Rb]
  exact J0 w va vb Z7.length ca ps.length cb Z7 ps S L ZN log hd rfl hp rfl hdl hn XV h
 | false =>
  simp only [Pe,Sm]
  exact H7 w va vb Z7.length ca ps.length cb Z7 ps S L ZN log hd rfl hp rfl hdl hn XV h
def SS (w:World) (ys:List Int) (W:World) (v:Value) (ns:List Nd) (p:Nat):Prop :=
 EH ys ns (ys.drop p)∧rq ns∧ZX w W∧Zt W w.heap.size∧B1 W (w.heap.size+1) v∧ZU 134 W (w.heap.size+2) v ns
theorem SS.later (h:SS w ys W v ns p) (hb:ZX W W'):SS w ys W' v ns p:=by
 obtain ⟨t1,t2,t3,t4,t5,t6⟩:=h;exact ⟨t1,t2,Ye t3 hb,t4.turn (grown_of hb none) (by simp),t5.turn (grown_of hb none) (by simp),t6.below hb⟩
theorem SS.push {W3:World} {v3:Value} {n:Nd} (h:SS w ys W v ns p) (hb:YL ys) (hr:WM (ys.drop p)=some (n,ys.drop q)) (hg:W.grownBy W3 v.ownBlock) (ho:W3.ownsRow (w.heap.size+2) 134 7 v3 (ns.length+1) (Yd ns++Rr n)) :
    SS w ys (W3.setCell ⟨w.heap.size+1,0,none⟩ v3) v3 (ns++[n]) q:=by
 obtain ⟨t1,t2,t3,t4,t5,t6⟩:=h;have hne:∀k,k<w.heap.size+2→some k≠v.ownBlock:=fun k hk e=>by have:=(ZO t6 k e.symm).1;omega
 have hlo:∀g,v.ownBlock=some g→w.heap.size≤g:=fun g e=>by have:=(ZO t6 g e).1;omega
 have b6:=t5.turn hg (hne _ (by omega));have hby:=Yw hb p;have hsz:=UL hr hby
 refine ⟨t1.step hby hr,?_,(t3.grown hg t3.size hlo).setCell (p:=⟨w.heap.size+1,0,none⟩) (Pb _) _,(t4.turn hg (hne _ (by omega))).set (by omega) _ _,⟨by simpa using b6.1,Ys _ _ _ b6.2.1,by rw [Yb];exact b6.2.2⟩,?_⟩
 · intro m hm
   rcases Sw.1 hm with hm | hm
   · exact t2 m hm
   simp at hm;subst hm;exact hsz.2.2
 have:ZU 134 W3 (w.heap.size+2) v3 (ns++[n]):=by unfold ZU;rw [VZ,YE];exact ho
 exact ZU.ZK this (by show w.heap.size+1<w.heap.size+2;omega) _
theorem JZ (w:World) (v:Value) (ys:List Int) (h:Rd .u8 w v ys) (hby:YL ys) (hl:ys.length≤1048576) :
    Calls Tryz.prog 55 #[v] w fun e w'=>Oy w ys e w':=by
 obtain ⟨i0,hi,hz0,hz1,hz2⟩:=YH Tryz.LP;obtain ⟨ao,cap,rfl,-,-⟩:=h.len;have HR:=Z8 h;have Xe:=Z8 hby
 have S0:Hid (SS w ys ((w.alloc (.cells #[.bool false,.slice none 0 0] 94)).alloc (.cells #[.slice none 0 0] 33)) (.slice none 0 0) [] 0):=by
  refine ⟨by rw [Jq];exact EH.start ys,(fun n hn=>by cases hn),(ZR.alloc ZW _).alloc (by simp) _,⟨by simp;omega,(by go_simp),(by go_simp),fun j=>(by go_simp)⟩,⟨by simp,(by go_simp),(by go_simp)⟩,Yf _ _ _ _⟩
 go_enter Tryz.func55,Tryz.ntmps55
 go_wp2;generalize (w.alloc _).alloc _=W0 at *
 go_loopw [4] (fun va wr=>∃p v ns,va=.int .i64 (p:Nat)∧p≤ys.length∧Hid (SS w ys wr v ns p)) (fun i _=>ys.length - (intOf i).toNat)
 case atStart=>exact ⟨0,_,_,rfl,ZQ _,S0⟩
 case round =>
  obtain ⟨p,v,ns,rfl,hp,D⟩:=hrel;obtain ⟨va,vc,hva⟩:=D.out.2.2.2.2.2.slice;subst hva
  by_cases hlt:p<ys.length
  · have YN:(p:Int)<(ys.length:Int):=by omega
    have oH:Hid (ys.drop p≠[]):=fun e=>by have:=Wd List.length e;rw [Zv] at this;simp at this;omega
    have hns:ns.length≤1048576:=by obtain ⟨f,-,-,h⟩:=D.out.1;omega
    go_wp2_with fail
    refine (Af wr _ ys p (HR.out.below D.out.2.2.1) Xe.out hl).mono ?_;rintro e w1 ⟨b1,Qr⟩;have D1:=Z8 (D.out.later b1)
    rcases Qr with ⟨hr,rfl⟩ | ⟨n,q,hr,hpq,hq,rfl⟩
    · have Su:Hid (Ty ys=none):=by show _=_;unfold Ty;rw [D1.out.1.bad oH.out hr]
      obtain ⟨-,z0,z1,zf⟩:=D1.out.2.2.2.1;have f0:=zf 0;have f1:=zf 1;have zl:=D1.out.2.2.2.1.1;unfold Py nd0;have E:∀(j:Nat) (ob:Obj),(((w1.setCell ⟨w.heap.size,0,none⟩ (.bool false)).setCell ⟨w.heap.size,1,none⟩ (.slice none 0 0)).alloc ob).cell? ⟨w.heap.size,j,none⟩=((w1.setCell ⟨w.heap.size,0,none⟩ (.bool false)).setCell ⟨w.heap.size,1,none⟩ (.slice none 0 0)).cell? ⟨w.heap.size,j,none⟩ :=
       fun j ob=>(ZR.alloc ZW ob).cell (p:=⟨w.heap.size,j,none⟩) (by simpa using zl)
      have E0:((w1.setCell ⟨w.heap.size,0,none⟩ (.bool false)).setCell ⟨w.heap.size,1,none⟩ (.slice none 0 0)).cell? ⟨w.heap.size,0,none⟩=some (.bool false):=by
       rw [ZG _ _ _ _ (by intro e;injection e with _ e;omega)];exact Ys _ _ _ z0
      have E1:((w1.setCell ⟨w.heap.size,0,none⟩ (.bool false)).setCell ⟨w.heap.size,1,none⟩ (.slice none 0 0)).cell? ⟨w.heap.size,1,none⟩=some (.slice none 0 0) :=
       Ys _ _ _ ((ZG _ _ _ _ (by intro e;injection e with _ e;omega)).trans z1)
      have HE:Hid (∀ob:Obj,(((w1.setCell ⟨w.heap.size,0,none⟩ (.bool false)).setCell ⟨w.heap.size,1,none⟩ (.slice none 0 0)).alloc ob).cell? ⟨w.heap.size,0,none⟩=some (.bool false)∧(((w1.setCell ⟨w.heap.size,0,none⟩ (.bool false)).setCell ⟨w.heap.size,1,none⟩ (.slice none 0 0)).alloc ob).cell? ⟨w.heap.size,1,none⟩=some (.slice none 0 0)):=fun ob=>⟨(E 0 ob).trans E0,(E 1 ob).trans E1⟩
      go_wp2;refine ZT (v:=.agg #[.bool false,.slice none 0 0]) (by simp [results,Tryz.results55,go_sem,(HE.out _).1,(HE.out _).2]) rfl ⟨((D1.out.2.2.1.setCell (p:=⟨w.heap.size,0,none⟩) ZW _).setCell (p:=⟨w.heap.size,1,none⟩) ZW _).alloc (by simp;omega) _,.inl ⟨Su.out,rfl⟩⟩
    have Ua:Hid (WM (ys.drop p)=some (n,ys.drop q)):=hr;have D2:Hid (SS w ys (w1.alloc (.cells #[.string n.path,.string n.data,.int .i64 n.Ym,.int .i64 n.ZD,.int .i64 n.cz,.int .i64 n.mz,.int .i64 n.pz] 134)) (.slice va ns.length vc) ns p):=D1.out.later (ZR.alloc ZW _);have D3:Hid (SS w ys ((w1.alloc (.cells #[.string n.path,.string n.data,.int .i64 n.Ym,.int .i64 n.ZD,.int .i64 n.cz,.int .i64 n.mz,.int .i64 n.pz] 134)).alloc (.cells #[.string n.path,.string n.data,.int .i64 n.Ym,.int .i64 n.ZD,.int .i64 n.cz,.int .i64 n.mz,.int .i64 n.pz] 134)) (.slice va ns.length vc) ns p):=D2.out.later (ZR.alloc ZW _);obtain ⟨zt,c0,-⟩:=D1.out.2.2.2.2.1;unfold Py;have oF:¬(q:Int)<0:=by omega
    go_wp2_with (at_builtin;go_must (refine XS _ rfl _ _ 31 rfl (w.heap.size+2) 134 i0 (.agg #[.string ByteArray.empty,.string ByteArray.empty,.int .i64 0,.int .i64 0,.int .i64 0,.int .i64 0,.int .i64 0]) 7 72 Tryz.underlying31 hi hz0 hz1 hz2 rfl (by decide) _ _ _ rfl D3.out.2.2.2.2.2 ⟨w1.heap.size+1,0,none⟩ 1 1 (Rr n) rfl rfl ?n1 (WL n) ?n2 ?n3 ?n4 ?_))
    case n1 =>
     have:=XL (w1.alloc (.cells #[.string n.path,.string n.data,.int .i64 n.Ym,.int .i64 n.ZD,.int .i64 n.cz,.int .i64 n.mz,.int .i64 n.pz] 134)) n 134;rw [show (w1.alloc (.cells #[.string n.path,.string n.data,.int .i64 n.Ym,.int .i64 n.ZD,.int .i64 n.cz,.int .i64 n.mz,.int .i64 n.pz] 134)).heap.size=w1.heap.size+1 by simp] at this;exact this
    case n2=>unfold maxLen;omega
    case n3=>omega
    case n4=>simp;omega
    intro v3 W3 ho3 hg3 _;have D4:=Z8 (D3.out.push Xe.out Ua.out hg3 ho3);obtain ⟨a3,q3,hv3⟩:=D4.out.2.2.2.2.2.slice;rw [show (ns++[n]).length=ns.length+1 by simp] at hv3;subst hv3;obtain ⟨-,c3,f3⟩:=D3.out.2.2.2.2.1.turn hg3 (fun e=>by have:=(ZO D3.out.2.2.2.2.2 _ e.symm).1;omega);go_wp2;exact ⟨⟨q,_,_,rfl,hq,D4⟩,by simp [intOf];omega⟩
  have hpn:ys.drop p=[]:=Qx (by omega);obtain ⟨t1,t2,t3,t4,⟨-,b0,-⟩,t6⟩:=D.out;rw [hpn] at t1;have Xd:=Z8 t1.done;have OO:=Z8 t2;have ye:=Z8 t6;have hns:ns.length≤1048576:=by obtain ⟨f,-,-,h⟩:=t1;omega
  go_wp2_with fail
  refine (Vh _ _ ns ye.out.rd hns OO.out.at).mono ?_;rintro e w2 ⟨rfl,b2⟩;have Gj:=Z8 (ye.out.below b2);have D2:=Z8 (D.out.later b2);obtain ⟨-,z0,z1,zf⟩:=D2.out.2.2.2.1;obtain ⟨-,d0,-⟩:=D2.out.2.2.2.2.1;have f0:=zf 0;have f1:=zf 1
  by_cases hok:Zp ns=true
  · have Da:Hid (Ty ys=some ns):=by show _=_;unfold Ty;rw [Xd.out];simp only;rw [ZY hok]
    rw [hok];go_wp2;refine ZT (v:=.agg #[.bool true,.slice va ns.length vc]) (by simp [results,Tryz.results55,go_sem,z0,z1]) rfl ⟨(D2.out.2.2.1.setCell (p:=⟨w.heap.size,0,none⟩) ZW _).setCell (p:=⟨w.heap.size,1,none⟩) ZW _,.inr ⟨ns,_,Da.out,rfl,?_⟩⟩;exact ZU.mono (ZU.ZK (ZU.ZK Gj.out (by show w.heap.size<w.heap.size+2;omega) _) (by show w.heap.size<w.heap.size+2;omega) _) (by omega)
  have hok':Zp ns=false:=by simpa using hok
  have Da:Hid (Ty ys=none):=by show _=_;unfold Ty;rw [Xd.out];simp only;rw [Z3 hok]
  rw [hok'];go_wp2;refine ZT (v:=.agg #[.bool false,.slice none 0 0]) (by simp [results,Tryz.results55,go_sem,z0,z1]) rfl ⟨(D2.out.2.2.1.setCell (p:=⟨w.heap.size,0,none⟩) ZW _).setCell (p:=⟨w.heap.size,1,none⟩) ZW _,.inl ⟨Da.out,rfl⟩⟩
end Go.Proofs.YtmmmffcbfepghaaGreatDoor
namespace Go.Proofs.YtmmmffcbfepghaaGreatDoor
variable {log:Bool} {L S b ZN c g l s:Int} {ps:List (Int × List Int)} {xs ys zs:List Int} {ns:List Nd} {ca cb dl j n p q:Nat} {ao bo:Option Addr} {e:TypeId} {u v v1 v2 vt:Value} {W W' w:World}
def cP:Nat:=2197175160
def cT (r:Nat):Nat:=(r / 2) ^^^ (if r % 2=1 then cP else 0)
theorem H5 (a b:Nat):(a ^^^ b) / 2=a / 2 ^^^ b / 2:=by
 have:=Nat.xor_div_two (a:=a) (b:=b);exact this
theorem Hz (a b:Nat):(a ^^^ b) % 2=(a+b) % 2:=by
 have:=Nat.xor_mod_two_eq_one (a:=a) (b:=b);omega
theorem sU (a b:Nat):cT (a ^^^ b)=cT a ^^^ cT b:=by
 unfold cT;rw [H5,Hz]
 rcases Bg a with ha | ha <;> rcases Bg b with hb | hb
 · rw [Z3 (by omega),Z3 (by omega),Z3 (by omega)];simp
 · rw [ZY (by omega),Z3 (by omega),ZY (by omega)];simp [Pa]
 · rw [ZY (by omega),ZY (by omega),Z3 (by omega),Jl,Pa,A9 (b / 2),←Pa]
 rw [Z3 (by omega),ZY (by omega),ZY (by omega)];rw [Jl,A9 (b / 2) cP,←Pa,Pa (a / 2) cP cP,Nat.xor_self,Jl]
def Bw (r:Nat):Nat:=cT (cT (cT (cT r)))
theorem vY (a b:Nat):Bw (a ^^^ b)=Bw a ^^^ Bw b:=by unfold Bw;simp only [sU]
theorem Pk (q:Nat):cT (2*q)=q:=by unfold cT;rw [Z3 (by omega)];simp
theorem sS (q:Nat):Bw (16*q)=q:=by
 unfold Bw;rw [show 16*q=2*(2*(2*(2*q))) by omega,Pk,Pk,Pk,Pk]
theorem vX (r:Nat):r=16*(r / 16) ^^^ r % 16:=by
 apply Nat.eq_of_testBit_eq;intro k;rw [Nat.testBit_xor,show 16*(r / 16)=r / 2 ^ 4*2 ^ 4 by simp only [Nat.reducePow];omega,Nat.testBit_mul_two_pow,show r % 16=r % 2 ^ 4 by rfl,Nat.testBit_mod_two_pow]
 by_cases h:4≤k
 · have h2:¬k<4:=by omega
   simp only [h,h2,decide_true,decide_false,Bq,Bool.false_and,Bool.xor_false,Nat.testBit_div_two_pow]
   congr 1;omega
 have h2:k<4:=by omega
 simp [h,h2]
def Ps:List Nat:=[0,274646895,549293790,820201905,1098587580,1361435347,1640403810,1905808397,2197175160,2460548119,2722870694,2987750089,3280807620,3553878443,3811616794,4084100981]
theorem sR:∀i,i<16→Ps.getD i 0=Bw i:=by decide +kernel
theorem yV (r:Nat):Bw r=r / 16 ^^^ Ps.getD (r % 16) 0:=by
 rw [sR _ (Rk _ (by omega))]
 conv=>lhs;rw [vX r]
 rw [vY,sS]
def cB (r x:Nat):Nat:=Bw (Bw (r ^^^ x))
def cS (r x:Nat):Nat→Nat
 | 0=>r
 | j+1=>(cS r x j / 2) ^^^ (if (cS r x j+x / 2 ^ j) % 2=1 then cP else 0)
def pZ:Nat→Nat→Nat
 | 0,r=>r
 | j+1,r=>cT (pZ j r)
theorem ph (r x j:Nat):pZ j (r ^^^ x)=cS r x j ^^^ x / 2 ^ j:=by
 induction j with
 | zero=>simp [pZ,cS]
 | succ j ih =>
  rw [pZ,ih];unfold cT;rw [H5,Hz,Mf,←Rj,cS];rw [Pa,A9 (x / 2 ^ (j+1)),←Pa]
theorem pf (r x:Nat) (hx:x<256):cS r x 8=cB r x:=by
 have h:=ph r x 8;rw [show x / 2 ^ 8=0 from Nat.div_eq_of_lt hx,Jl] at h;rw [←h];rfl
def Tj (r:Nat) (xs:List Int):Nat:=xs.foldl (fun a x=>cB a x.toNat) r
theorem Lw (r:Nat) (xs:List Int) (x:Int):Tj r (xs++[x])=cB (Tj r xs) x.toNat:=by simp [Tj,GD]
theorem QF {a b:Nat} (ha:a<4294967296) (hb:b<4294967296):a ^^^ b<4294967296:=by
 have:=Nat.xor_lt_two_pow (n:=32) (by simpa using ha) (by simpa using hb)
 simpa using this
end Go.Proofs.YtmmmffcbfepghaaGreatDoor
namespace Go.Proofs.YtmmmffcbfepghaaGreatDoor
open Go.RowKit Go.Shelf
variable {log:Bool} {L S b ZN c g l s:Int} {ps:List (Int × List Int)} {xs ys zs:List Int} {ns:List Nd} {ca cb dl j n p q:Nat} {ao bo:Option Addr} {e:TypeId} {u v v1 v2 vt:Value} {W W' w:World}
theorem take_snoc' (xs:List Int) (k:Nat) (h:k<xs.length):xs.take (k+1)=xs.take k++[xs.getD k 0]:=by
 rw [Rm h];simp [List.getD,h]
def Qe:Nat:=4294967296
theorem Hy (a b:Nat) (ha:a<Qe) (hb:b<Qe):∃z:Nat,z<Qe∧bits .xor .u32 (a:Int) (b:Int)=(z:Int)∧z=a ^^^ b :=
 ⟨a ^^^ b,QF ha hb,u32_xor_nat a b ha hb,rfl⟩
theorem Hx (a:Nat) (ha:a<Qe):∃i:Nat,i<16∧bits .and .u32 (a:Int) 15=(i:Int)∧i=a % 16 :=
 ⟨a % 16,Rk _ (by omega),by rw [show (15:Int)=((15:Nat):Int) from rfl,u32_and_nat a 15 ha (by unfold Qe at *;omega),nat_mask4],rfl⟩
theorem PH (a b:Nat) (ha:a<Qe) (hb:b<Qe):∃z:Nat,z<Qe∧bits .xor .u32 ((a:Int) / 16) (b:Int)=(z:Int)∧z=a / 16 ^^^ b:=by
 refine ⟨a / 16 ^^^ b,QF (by unfold Qe at *;omega) hb,?_,rfl⟩;have e:(a:Int) / 16=((a / 16:Nat):Int):=by omega
 rw [e,u32_xor_nat (a / 16) b (by unfold Qe at *;omega) hb]
theorem C9 (R:Nat) (h:R<Qe):4294967295 ^^^ R=4294967295 - R:=by
 have e:=Wd BitVec.toNat (BitVec.allOnes_xor (x:=BitVec.ofNat 32 R));rw [BitVec.toNat_xor,BitVec.toNat_not,BitVec.toNat_allOnes,BitVec.toNat_ofNat,Bh (show R<2 ^ 32 from h)] at e
 simpa using e
theorem uJ (R:Nat) (h:R<Qe):wrap64 (bits .xor .u32 IntKind.u32.max (R:Int))=((4294967295 - R:Nat):Int):=by
 rw [show IntKind.u32.max=((4294967295:Nat):Int) from by decide,u32_xor_nat 4294967295 R (by decide) h,C9 R h];have hz:4294967295 - R≤4294967295:=Nat.sub_le _ _;generalize 4294967295 - R=z at *;exact uA _ ⟨by omega,by omega⟩
theorem Hw (a b:Nat) (ha:a<Qe) (hb:b<Qe):bits .xor .i64 (a:Int) (b:Int)=((a ^^^ b:Nat):Int):=by
 have key:(BitVec.ofInt 64 (a:Int) ^^^ BitVec.ofInt 64 (b:Int)).toNat=a ^^^ b:=by
  unfold Qe at ha hb;rw [BitVec.toNat_xor,xN,xN]
  congr 1 <;> omega
 have hz:=QF ha hb;show IntKind.i64.wrap ((BitVec.ofInt 64 (a:Int) ^^^ BitVec.ofInt 64 (b:Int)).toNat:Nat)=_;rw [key,Xf];generalize a ^^^ b=z at *;omega
theorem yU (x t:Nat) (hx:x<256):∃D:Nat,D≤255∧wrap64 ((x:Int) / 2 ^ t)=(D:Int)∧D=x / 2 ^ t:=by
 have h:=Bl x (2 ^ t);have e:(x:Int) / 2 ^ t=((x / 2 ^ t:Nat):Int):=by simp
 refine ⟨x / 2 ^ t,by omega,?_,rfl⟩;rw [e];generalize x / 2 ^ t=y at *;exact uA _ ⟨by omega,by omega⟩
theorem JY (S:Nat) (h:S≤4294967295):∃Z:Nat,Z≤4294967295∧bits .xor .i64 ((S:Int) / 2) 2197175160=(Z:Int)∧Z=S / 2 ^^^ 2197175160:=by
 have hz:=QF (a:=S / 2) (b:=2197175160) (by omega) (by decide);refine ⟨S / 2 ^^^ 2197175160,by omega,?_,rfl⟩;have e:(S:Int) / 2=((S / 2:Nat):Int):=by omega
 rw [e,show (2197175160:Int)=((2197175160:Nat):Int) from rfl,Hw (S / 2) 2197175160 (by unfold Qe;omega) (by decide)]
def U1 (w:World):Prop:=∀i,i<16→w.cell? ⟨0,i,none⟩=some (.int .u32 ((Ps.getD i 0:Nat):Int))
theorem U1.below {w':World} (h:U1 w) (h0:0<w.heap.size) (hb:ZX w w'):U1 w':=fun i hi=>(hb.cell (p:=⟨0,i,none⟩) h0).trans (h i hi)
theorem Eh (i:Nat):Ps.getD i 0<Qe:=by
 by_cases h:i<16
 · exact (show ∀i,i<16→Ps.getD i 0<Qe by decide +kernel) i h
 rw [show Ps.getD i 0=0 by rw [List.getD,Sy (show Ps.length≤i by simp [Ps];omega)];rfl];decide
theorem Hv (w:World) (b o n cap:Nat) (xs:List Int) (hx:xs.length=n) (hc:∀i,i<n→w.cell? ⟨b,o+i,none⟩=some (.int .u8 (xs.getD i 0))) (hby:YL xs) (hn:n≤1099511627776) (ht:U1 w) :
    Calls Tryz.prog 104 #[.slice (some ⟨b,o,none⟩) n cap] w fun e w'=>e=.returned (.int .i64 ((4294967295 - Tj 4294967295 xs:Nat):Int))∧w'=w:=by
 have HC:=Z8 hc;have HX:=Z8 hx;have HT:=Z8 ht;clear hc hx ht
 go_enter Tryz.func104,Tryz.ntmps104
 go_wp2
 go_loop [3,8] (fun r i=>∃k R:Nat,k≤n∧i=.int .i64 k∧Hid (R<Qe)∧r=.int .u32 R∧Hid (R=Tj 4294967295 (xs.take k))) (fun _ i=>n - (intOf i).toNat)
 case atStart=>exact ⟨0,4294967295,ZQ _,rfl,(by show _<Qe;decide),rfl,rfl⟩
 case round =>
  obtain ⟨k,R,hk,rfl,HR,rfl,HE⟩:=hrel
  by_cases hlt:k<n
  · obtain ⟨x,hx,hxe⟩:=Wr hby k
    have hsrc:w.cell? ⟨b,o+k,none⟩=some (.int .u8 (x:Int)):=by rw [←hxe];exact HC.out k hlt
    have YN:(k:Int)<(n:Int):=by omega
    obtain ⟨Y,hY,e1,y1⟩:=Hy R x HR.out (by unfold Qe;omega);obtain ⟨I,hI,e2,y2⟩:=Hx Y hY;have c1:=HT.out I hI;obtain ⟨T1,hT1⟩:∃t,t=Ps.getD I 0:=⟨_,rfl⟩;rw [←hT1] at c1;obtain ⟨Z,hZ,e3,y3⟩:=PH Y T1 hY (by rw [hT1];exact Eh _);obtain ⟨J,hJ,e4,y4⟩:=Hx Z hZ;have c2:=HT.out J hJ;obtain ⟨T2,P⟩:∃t,t=Ps.getD J 0:=⟨_,rfl⟩;rw [←P] at c2;obtain ⟨V,hV,e5,y5⟩:=PH Z T2 hZ (by rw [P];exact Eh _);have HV:Hid (V=Tj 4294967295 (xs.take (k+1))):=by
     show _=_;rw [take_snoc' xs k (by rw [HX.out];exact hlt),Lw,←HE.out,hxe,XT];have z1:Z=Bw Y:=by rw [yV,y3,hT1,y2]
     have v1:V=Bw Z:=by rw [yV,y5,P,y4]
     rw [v1,z1,y1]
     rfl
    have VR:=Z8 hV;clear hV y1 y2 y3 y4 y5 hT1 P hY hZ hxe HE HR;go_wp2
    go_round
    case rel=>exact ⟨k+1,V,by omega,by go_num,VR,rfl,HV⟩
    case measure=>simp [intOf];omega
  go_wp2;go_ret;exact ⟨Xo (by rw [uJ R HR.out,HE.out,We (by rw [HX.out];omega)]),rfl⟩
theorem Hu (w:World) (ao:Option Addr) (cap:Nat) :
    Calls Tryz.prog 104 #[.slice ao 0 cap] w fun e w'=>e=.returned (.int .i64 0)∧w'=w:=by
 go_enter Tryz.func104,Tryz.ntmps104
 go_wp2
 go_rounds 1
 go_ret;exact ⟨Xo (uJ 4294967295 (by decide)),rfl⟩
theorem Ht (w:World) (v:Value) (xs:List Int) (h:Rd .u8 w v xs) (hby:YL xs) (hn:xs.length≤1099511627776) (ht:U1 w) :
    Calls Tryz.prog 104 #[v] w fun e w'=>e=.returned (.int .i64 ((4294967295 - Tj 4294967295 xs:Nat):Int))∧w'=w:=by
 obtain ⟨ao,cap,rfl,h1,h2,h3⟩:=h
 rcases h3 with rfl | ⟨b,o,rfl,hb,hc⟩
 · exact Hu w ao cap
 exact Hv w b o xs.length cap xs rfl hc hby hn ht
theorem Hs (w:World) (ao:Option Addr) (cap:Nat) :
    Calls Tryz.prog 56 #[.slice ao 0 cap] w fun e w'=>e=.returned (.int .i64 0)∧w'=w:=by
 go_enter Tryz.func56,Tryz.ntmps56
 go_wp2
 go_rounds 1
 go_ret;exact ⟨rfl,rfl⟩
theorem Hr (w:World) (b o n cap:Nat) (xs:List Int) (hx:xs.length=n) (hc:∀i,i<n→w.cell? ⟨b,o+i,none⟩=some (.int .u8 (xs.getD i 0))) (hby:YL xs) (hn:n≤1099511627776) :
    Calls Tryz.prog 56 #[.slice (some ⟨b,o,none⟩) n cap] w fun e w'=>e=.returned (.int .i64 ((4294967295 - Tj 4294967295 xs:Nat):Int))∧w'=w:=by
 have HC:=Z8 hc;have HX:=Z8 hx;clear hc hx
 go_enter Tryz.func56,Tryz.ntmps56
 go_wp2
 go_loop [3,4] (fun r i=>∃k R:Nat,k≤n∧i=.int .i64 k∧Hid (R<Qe)∧r=.int .i64 R∧Hid (R=Tj 4294967295 (xs.take k))) (fun _ i=>n - (intOf i).toNat)
 case atStart=>exact ⟨0,4294967295,ZQ _,rfl,(by show _<Qe;decide),rfl,rfl⟩
 case round =>
  obtain ⟨k,R,hk,rfl,HR,rfl,HE⟩:=hrel
  by_cases hlt:k<n
  · obtain ⟨x,hx,hxe⟩:=Wr hby k
    have hsrc:w.cell? ⟨b,o+k,none⟩=some (.int .u8 (x:Int)):=by rw [←hxe];exact HC.out k hlt
    have YN:(k:Int)<(n:Int):=by omega
    have rv:=Z8 hxe;clear hxe;go_wp2
    go_loop [3,5] (fun r j=>∃t S:Nat,t≤8∧j=.int .i64 t∧S≤4294967295∧r=.int .i64 S∧Hid (S=cS R x t)) (fun _ j=>8 - (intOf j).toNat)
    case atStart=>exact ⟨0,R,by omega,rfl,by have:=HR.out;unfold Qe at this;omega,rfl,rfl⟩
    case round =>
     obtain ⟨t,S,ht,rfl,hS,rfl,HS⟩:=hrel
     by_cases pE:t<8
     · obtain ⟨D,hD,hDe,O⟩:=yU x t hx
       have Za:(t:Int)<8:=by omega
       obtain ⟨Z,hZ,Zw,Z5⟩:=JY S hS
       by_cases hbit:(S+D) % 2=1
       · have hb:(((S:Int)+(D:Int)) % 2 == 1)=true:=by rw [Vn];omega
         have HZ:Hid (Z=cS R x (t+1)):=by
          show _=_;rw [cS,←HS.out,←O,ZY hbit,Z5];rfl
         clear O Z5 hbit;go_wp2
         go_round
         case rel=>exact ⟨t+1,Z,by omega,by go_num,hZ,rfl,HZ⟩
         case measure=>simp [intOf];omega
       have hb:(((S:Int)+(D:Int)) % 2 == 1)=false:=by rw [Xz];omega
       have HZ:Hid (S / 2=cS R x (t+1)):=by
        show _=_;rw [cS,←HS.out,←O,Z3 hbit,Jl]
       clear O Z5 hbit Zw;go_wp2
       go_round
       case rel=>exact ⟨t+1,S / 2,by omega,by go_num,by omega,by go_num,HZ⟩
       case measure=>simp [intOf];omega
     have pC:t=8:=by omega
     subst pC;go_wp2
     go_round
     case rel=>exact ⟨k+1,S,by omega,by go_num,(by show S<Qe;unfold Qe;omega),rfl,(by show _=_;rw [HS.out,pf R x hx,take_snoc' xs k (by rw [HX.out];exact hlt),Lw,←HE.out,rv.out,XT])⟩
     case measure=>simp [intOf];omega
  have hR:R≤4294967295:=by have:=HR.out;unfold Qe at this;omega
  go_wp2;go_ret;exact ⟨Xo (by rw [HE.out,We (by rw [HX.out];omega)] at *;omega),rfl⟩
theorem Hq (w:World) (v:Value) (xs:List Int) (h:Rd .u8 w v xs) (hby:YL xs) (hn:xs.length≤1099511627776) :
    Calls Tryz.prog 56 #[v] w fun e w'=>e=.returned (.int .i64 ((4294967295 - Tj 4294967295 xs:Nat):Int))∧w'=w:=by
 obtain ⟨ao,cap,rfl,h1,h2,h3⟩:=h
 rcases h3 with rfl | ⟨b,o,rfl,hb,hc⟩
 · exact Hs w ao cap
 exact Hr w b o xs.length cap xs rfl hc hby hn
theorem UB (older:List PanicEntry) (w:World) :
    CallsD Tryz.prog 117 #[] (.panicking ({ v:=.iface 185 (.agg #[]),recovered:=false } :: older)) w fun e u' w' =>
     e=.returned (.tuple #[])∧u'=.panicking ({ v:=.iface 185 (.agg #[]),recovered:=true } :: older)∧ZX w w':=by
 refine L4 Tryz.func117 rfl fun c₀ cs hu=>?_
 apply LU
 simp [wpOpsS,go_sem,recoverD,hu,Tryz.ntmps117]
 refine (KX w).mono ?_;rintro e w' ⟨rfl,bw⟩
 simp_all [bodyPostS,results,Tryz.results117]
theorem Nz (w:World) :
    CallsD Tryz.prog 117 #[] .returning w fun e u' w'=>e=.returned (.tuple #[])∧u'=.returning∧w'=w:=by
 refine L4 Tryz.func117 rfl fun c₀ cs hu=>?_
 apply LU
 simp [wpOpsS,go_sem,recoverD,hu,Tryz.ntmps117]
 refine (K4 w).mono ?_;rintro e w' ⟨rfl,rfl⟩
 cases c₀
 simp_all [bodyPostS,results,Tryz.results117]
def zeroV:Value:=.agg #[.bool false,.int .i64 0,.int .i64 0,.int .i64 0,.int .i64 0,.int .i64 0]
def Zr (W:World) (k:Nat):Prop :=
 W.cell? ⟨k,0,none⟩=some (.bool false)∧W.cell? ⟨k,1,none⟩=some (.int .i64 0)∧W.cell? ⟨k,2,none⟩=some (.int .i64 0)∧W.cell? ⟨k,3,none⟩=some (.int .i64 0)∧W.cell? ⟨k,4,none⟩=some (.int .i64 0)∧W.cell? ⟨k,5,none⟩=some (.int .i64 0)
theorem Zr.same {k:Nat} (h:Zr W k) (he:∀j,W'.cell? ⟨k,j,none⟩=W.cell? ⟨k,j,none⟩):Zr W' k:=by
 obtain ⟨h0,h1,h2,h3,h4,h5⟩:=h;exact ⟨(he 0).trans h0,(he 1).trans h1,(he 2).trans h2,(he 3).trans h3,(he 4).trans h4,(he 5).trans h5⟩
def DS (w W:World) (zs:List Int) (g b s l c:Int):Prop :=
 RS w W (w.heap.size+1) zs∧Zr W w.heap.size∧Kf W (w.heap.size+1+1) g b s l c∧(∀j,W.frozen? ⟨w.heap.size+1+1,j,none⟩=false)∧∀j,W.frozen? ⟨w.heap.size,j,none⟩=false
theorem DS.below (h:DS w W zs g b s l c):ZX w W:=h.1.2.2.2.1
theorem DS.number {zs':List Int} {v':Value} (h:DS w W zs g b s l c) (hr:RS w ((W.setCell ⟨w.heap.size+1,0,none⟩ v').drewN q) (w.heap.size+1) zs'):DS w ((W.setCell ⟨w.heap.size+1,0,none⟩ v').drewN q) zs' g b s l c:=by
 obtain ⟨-,hz,hx,hf,hf0⟩:=h;refine ⟨hr,?_,?_,?_,?_⟩
 · exact Zr.same hz (fun j=>ZG _ _ _ _ (by intro e;injection e with e;omega))
 · obtain ⟨x0,x1,x2,x3,x4,x5⟩:=hx
   have e:∀j,((W.setCell ⟨w.heap.size+1,0,none⟩ v').drewN q).cell? ⟨w.heap.size+1+1,j,none⟩=W.cell? ⟨w.heap.size+1+1,j,none⟩:=fun j=>ZG _ _ _ _ (by intro e;injection e with e;omega)
   exact ⟨by show _<(W.setCell _ _).heap.size;simpa using x0,(e 0).trans x1,(e 1).trans x2,(e 2).trans x3,(e 3).trans x4,(e 4).trans x5⟩
 · intro j;show (W.setCell _ _).frozen? _=false;rw [Yb];exact hf j
 intro j;show (W.setCell _ _).frozen? _=false;rw [Yb];exact hf0 j
theorem DS.put {g' b' s' l' c':Int} (i:Nat) (z:Int) (h:DS w W zs g b s l c)
    (hx:Kf (W.setCell ⟨w.heap.size+1+1,i,none⟩ (.int .i64 z)) (w.heap.size+1+1) g' b' s' l' c'):DS w (W.setCell ⟨w.heap.size+1+1,i,none⟩ (.int .i64 z)) zs g' b' s' l' c':=by
 obtain ⟨⟨r1,r2,r3,r4,v,r5,r6⟩,hz,-,hf,hf0⟩:=h;refine ⟨⟨r1,by simpa using r2,by rw [Yb];exact r3,r4.setCell (by show _≤w.heap.size+1+1;omega) _,v,?_,r6⟩,?_,hx,?_,?_⟩
 · rw [ZG _ _ _ _ (by intro e;injection e with e;omega)];exact r5
 · exact Zr.same hz (fun j=>ZG _ _ _ _ (by intro e;injection e with e;omega))
 · intro j;rw [Yb];exact hf j
 intro j;rw [Yb];exact hf0 j
theorem DS.Au (z:Int) (h:DS w W zs g b s l c):DS w (W.setCell ⟨w.heap.size+1+1,0,none⟩ (.int .i64 z)) zs z b s l c:=by
 obtain ⟨x0,x1,x2,x3,x4,x5⟩:=h.2.2.1;exact h.put 0 z ⟨by simpa using x0,Ys _ _ _ x1,(ZG _ _ _ _ (by intro e;injection e with _ e;omega)).trans x2,(ZG _ _ _ _ (by intro e;injection e with _ e;omega)).trans x3,(ZG _ _ _ _ (by intro e;injection e with _ e;omega)).trans x4,(ZG _ _ _ _ (by intro e;injection e with _ e;omega)).trans x5⟩
theorem DS.xt (z:Int) (h:DS w W zs g b s l c):DS w (W.setCell ⟨w.heap.size+1+1,1,none⟩ (.int .i64 z)) zs g z s l c:=by
 obtain ⟨x0,x1,x2,x3,x4,x5⟩:=h.2.2.1;exact h.put 1 z ⟨by simpa using x0,(ZG _ _ _ _ (by intro e;injection e with _ e;omega)).trans x1,Ys _ _ _ x2,(ZG _ _ _ _ (by intro e;injection e with _ e;omega)).trans x3,(ZG _ _ _ _ (by intro e;injection e with _ e;omega)).trans x4,(ZG _ _ _ _ (by intro e;injection e with _ e;omega)).trans x5⟩
theorem DS.xr (z:Int) (h:DS w W zs g b s l c):DS w (W.setCell ⟨w.heap.size+1+1,2,none⟩ (.int .i64 z)) zs g b z l c:=by
 obtain ⟨x0,x1,x2,x3,x4,x5⟩:=h.2.2.1;exact h.put 2 z ⟨by simpa using x0,(ZG _ _ _ _ (by intro e;injection e with _ e;omega)).trans x1,(ZG _ _ _ _ (by intro e;injection e with _ e;omega)).trans x2,Ys _ _ _ x3,(ZG _ _ _ _ (by intro e;injection e with _ e;omega)).trans x4,(ZG _ _ _ _ (by intro e;injection e with _ e;omega)).trans x5⟩
theorem DS.xq (z:Int) (h:DS w W zs g b s l c):DS w (W.setCell ⟨w.heap.size+1+1,3,none⟩ (.int .i64 z)) zs g b s z c:=by
 obtain ⟨x0,x1,x2,x3,x4,x5⟩:=h.2.2.1;exact h.put 3 z ⟨by simpa using x0,(ZG _ _ _ _ (by intro e;injection e with _ e;omega)).trans x1,(ZG _ _ _ _ (by intro e;injection e with _ e;omega)).trans x2,(ZG _ _ _ _ (by intro e;injection e with _ e;omega)).trans x3,Ys _ _ _ x4,(ZG _ _ _ _ (by intro e;injection e with _ e;omega)).trans x5⟩
theorem DS.xp (z:Int) (h:DS w W zs g b s l c):DS w (W.setCell ⟨w.heap.size+1+1,4,none⟩ (.int .i64 z)) zs g b s l z:=by
 obtain ⟨x0,x1,x2,x3,x4,x5⟩:=h.2.2.1;exact h.put 4 z ⟨by simpa using x0,(ZG _ _ _ _ (by intro e;injection e with _ e;omega)).trans x1,(ZG _ _ _ _ (by intro e;injection e with _ e;omega)).trans x2,(ZG _ _ _ _ (by intro e;injection e with _ e;omega)).trans x3,(ZG _ _ _ _ (by intro e;injection e with _ e;omega)).trans x4,Ys _ _ _ x5⟩
theorem DS.start (w:World) (ao:Option Addr) (ys:List Int) (cap:Nat) (h:Rd .u8 w (.slice ao ys.length cap) ys) :
    DS w (((w.alloc (.cells #[.bool false,.int .i64 0,.int .i64 0,.int .i64 0,.int .i64 0,.int .i64 0] 52)).alloc (.cells #[.slice ao ys.length cap] 170)).alloc (.cells #[.int .i64 0,.int .i64 0,.int .i64 0,.int .i64 0,.int .i64 0] 30)) ys 0 0 0 0 0:=by
 refine ⟨⟨by omega,by simp,(by go_simp),((ZR.alloc ZW _).alloc (by simp) _).alloc (by simp;omega) _,_,(by go_simp),h⟩,⟨(by go_simp),(by go_simp),(by go_simp),(by go_simp),(by go_simp),(by go_simp)⟩,⟨by simp,(by go_simp),(by go_simp),(by go_simp),(by go_simp),(by go_simp)⟩,fun j=>(by go_simp),fun j=>(by go_simp)⟩
theorem UA (h:ys.length<21):UM ys=zeroV:=by
 unfold UM;rw [Z3 (fun h'=>by have:=h'.1;omega)];rfl
theorem DS.keep (h:DS w W zs g b s l c) (hb:ZX W W'):DS w W' zs g b s l c:=by
 have hs:=h.2.2.1.1;obtain ⟨hr,hz,hx,hf,hf0⟩:=h;exact ⟨hr.keep hb hr.2.1,Zr.same hz (fun j=>hb.cell (p:=⟨w.heap.size,j,none⟩) (by show w.heap.size<_;omega)),hx.below hb hs,fun j=>(hb.frozen (p:=⟨w.heap.size+1+1,j,none⟩) hs).trans (hf j),fun j=>(hb.frozen (p:=⟨w.heap.size,j,none⟩) (by show w.heap.size<_;omega)).trans (hf0 j)⟩
theorem Ee (g b s l c:Int):YL (sup g b s l c):=by
 unfold sup
 split
 · unfold Ld
   intro x hx
   simp only [Sw] at hx
   rcases hx with (((((hx | hx) | hx) | hx) | hx) | hx) | hx
   · exact U7 _ _ x hx
   · exact U7 _ _ x hx
   · exact U7 _ _ x hx
   · exact U7 _ _ x hx
   · exact U7 _ _ x hx
   · have:=rN hx;omega
   exact U7 _ _ x hx
 intro x hx;cases hx
theorem wrap_small (h:YL ys) (n:Nat) (hn:n≤4):wrap64 ((YV (ys.take n):Nat):Int)=((YV (ys.take n):Nat):Int):=by
 have hb:=(UN (ys.take n).length (ys.take n) rfl (fun x hx=>h x (Vp hx))).2;have h1:256 ^ (ys.take n).length≤256 ^ 4:=Me (by omega) (by rw [YC];omega);have h2:YV (ys.take n)<4294967296:=ZB hb h1;unfold wrap64;omega
theorem yR (h:YL ys) (hl:21≤ys.length) {z0 z1 z2 z3 z4:Int} (h0:z0=wrap64 ((YV (ys.take 8):Nat):Int)) (h1:z1=wrap64 ((YV ((ys.drop 8).take 1):Nat):Int))
    (h2:z2=wrap64 ((YV ((ys.drop 9).take 4):Nat):Int)) (h3:z3=wrap64 ((YV ((ys.drop 13).take 4):Nat):Int)) (h4:z4=wrap64 ((YV ((ys.drop 17).take 4):Nat):Int)) :
    UM ys=if sup z0 z1 z2 z3 z4=ys then .agg #[.bool true,.int .i64 z0,.int .i64 z1,.int .i64 z2,.int .i64 z3,.int .i64 z4] else zeroV:=by
 have hd:∀k,YL (ys.drop k):=fun k x hx=>h x (Wf hx)
 rw [wrap_small (hd 8) 1 (by omega)] at h1;rw [wrap_small (hd 9) 4 (by omega)] at h2;rw [wrap_small (hd 13) 4 (by omega)] at h3;rw [wrap_small (hd 17) 4 (by omega)] at h4;have e0:z0=nG ys:=h0;have e1:z1=nB ys:=h1;have e2:z2=nS ys:=h2;have e3:z3=nL ys:=h3;have e4:z4=nC ys:=h4;rw [e0,e1,e2,e3,e4];unfold UM
 by_cases hs:sup (nG ys) (nB ys) (nS ys) (nL ys) (nC ys)=ys
 · rw [ZY hs,ZY (show Ub ys from ⟨DE hs (fun e=>by rw [e] at hl;simp at hl),hs⟩)]
 rw [Z3 hs,Z3 (show ¬Ub ys from fun h=>hs h.2)];rfl
theorem Hn (w:World) (v:Value) (ys:List Int) (h:Rd .u8 w v ys) (hby:YL ys) :
    Calls Tryz.prog 101 #[v] w fun e w'=>e=.returned (UM ys)∧ZX w w':=by
 obtain ⟨ao,cap,rfl,-,-⟩:=h.len;have HR:=Z8 h;have Xe:=Z8 hby
 have D0:=Z8 (DS.start w ao ys cap h);clear h hby
 have hm:=pI
 go_enter_defers Tryz.func101,Tryz.ntmps101
 go_wp2_with fail
 generalize (((w.alloc _).alloc _).alloc _)=W0 at *
 by_cases hl0:8≤ys.length
 rotate_left
 · refine (YD w _ (w.heap.size+1) 8 (ys) D0.out.1 (by omega)).mono ?_
   rintro e W ⟨rfl,rfl⟩;refine WH (f:=117) (args:=#[]) (by simp) (by simp [go_sem]) ?_;refine (UB [] _).mono ?_;rintro e u' w2 ⟨rfl,rfl,b2⟩;have Z2:=Zr.same D0.out.2.1 (fun q=>b2.cell (p:=⟨w.heap.size,q,none⟩) (by have:=D0.out.1.2.1;show w.heap.size<_;omega));obtain ⟨z0,z1,z2,z3,z4,z5⟩:=Z2;rw [UA (by omega)];have B2:=D0.out.below.trans (b2.mono D0.out.below.size)
   simp [Leaves,settle,results,Tryz.results101,go_sem,z0,z1,z2,z3,z4,z5,B2,zeroV]
 refine (Yj w _ (w.heap.size+1) 8 (ys) D0.out.1 (by omega) (by omega) (by omega) (Xe.out)).mono ?_;rintro e W ⟨rfl,hr,v',q,rfl⟩;have F:Hid (DS w ((W0.setCell ⟨w.heap.size+1,0,none⟩ v').drewN q) (ys.drop 8) 0 0 0 0 0):=by
  have:=D0.out.number hr;exact this
 clear hr;generalize (W0.setCell _ _).drewN q=V0 at *;obtain ⟨z0,hz0⟩:∃z,z=(wrap64 ((YV ((ys).take 8):Nat):Int)):=⟨_,rfl⟩;rw [←hz0];have HZ0:=Z8 hz0;clear hz0 D0;obtain ⟨y0,y1,y2,y3,y4,y5⟩:=F.out.2.2.1;have yf:=F.out.2.2.2.1 0;have D1:=Z8 (F.out.Au z0)
 go_wp2_with fail
 clear y0 y1 y2 y3 y4 y5 yf F;generalize V0.setCell _ _=W1 at *
 by_cases hl1:9≤ys.length
 rotate_left
 · refine (YD w _ (w.heap.size+1) 1 (ys.drop 8) D1.out.1 (by rw [Zv];omega)).mono ?_
   rintro e W ⟨rfl,rfl⟩;refine WH (f:=117) (args:=#[]) (by simp) (by simp [go_sem]) ?_;refine (UB [] _).mono ?_;rintro e u' w2 ⟨rfl,rfl,b2⟩;have Z2:=Zr.same D1.out.2.1 (fun q=>b2.cell (p:=⟨w.heap.size,q,none⟩) (by have:=D1.out.1.2.1;show w.heap.size<_;omega));obtain ⟨z0,z1,z2,z3,z4,z5⟩:=Z2;rw [UA (by omega)];have B2:=D1.out.below.trans (b2.mono D1.out.below.size)
   simp [Leaves,settle,results,Tryz.results101,go_sem,z0,z1,z2,z3,z4,z5,B2,zeroV]
 refine (Yj w _ (w.heap.size+1) 1 (ys.drop 8) D1.out.1 (by rw [Zv];omega) (by omega) (by omega) (fun x hx=>Xe.out x (Wf hx))).mono ?_;rintro e W ⟨rfl,hr,v',q,rfl⟩;have C:Hid (DS w ((W1.setCell ⟨w.heap.size+1,0,none⟩ v').drewN q) (ys.drop 9) z0 0 0 0 0):=by
  have:=D1.out.number hr;rw [US] at this;exact this
 clear hr;generalize (W1.setCell _ _).drewN q=V1 at *;obtain ⟨z1,hz1⟩:∃z,z=(wrap64 ((YV ((ys.drop 8).take 1):Nat):Int)):=⟨_,rfl⟩;rw [←hz1];have HZ1:=Z8 hz1;clear hz1 D1;obtain ⟨y0,y1,y2,y3,y4,y5⟩:=C.out.2.2.1;have yf:=C.out.2.2.2.1 1;have D2:=Z8 (C.out.xt z1)
 go_wp2_with fail
 clear y0 y1 y2 y3 y4 y5 yf C;generalize V1.setCell _ _=W2 at *
 by_cases hl2:13≤ys.length
 rotate_left
 · refine (YD w _ (w.heap.size+1) 4 (ys.drop 9) D2.out.1 (by rw [Zv];omega)).mono ?_
   rintro e W ⟨rfl,rfl⟩;refine WH (f:=117) (args:=#[]) (by simp) (by simp [go_sem]) ?_;refine (UB [] _).mono ?_;rintro e u' w2 ⟨rfl,rfl,b2⟩;have Z2:=Zr.same D2.out.2.1 (fun q=>b2.cell (p:=⟨w.heap.size,q,none⟩) (by have:=D2.out.1.2.1;show w.heap.size<_;omega));obtain ⟨z0,z1,z2,z3,z4,z5⟩:=Z2;rw [UA (by omega)];have B2:=D2.out.below.trans (b2.mono D2.out.below.size)
   simp [Leaves,settle,results,Tryz.results101,go_sem,z0,z1,z2,z3,z4,z5,B2,zeroV]
 refine (Yj w _ (w.heap.size+1) 4 (ys.drop 9) D2.out.1 (by rw [Zv];omega) (by omega) (by omega) (fun x hx=>Xe.out x (Wf hx))).mono ?_;rintro e W ⟨rfl,hr,v',q,rfl⟩;have B:Hid (DS w ((W2.setCell ⟨w.heap.size+1,0,none⟩ v').drewN q) (ys.drop 13) z0 z1 0 0 0):=by
  have:=D2.out.number hr;rw [US] at this;exact this
 clear hr;generalize (W2.setCell _ _).drewN q=V2 at *;obtain ⟨z2,hz2⟩:∃z,z=(wrap64 ((YV ((ys.drop 9).take 4):Nat):Int)):=⟨_,rfl⟩;rw [←hz2];have HZ2:=Z8 hz2;clear hz2 D2;obtain ⟨y0,y1,y2,y3,y4,y5⟩:=B.out.2.2.1;have yf:=B.out.2.2.2.1 2;have D3:=Z8 (B.out.xr z2)
 go_wp2_with fail
 clear y0 y1 y2 y3 y4 y5 yf B;generalize V2.setCell _ _=W3 at *
 by_cases hl3:17≤ys.length
 rotate_left
 · refine (YD w _ (w.heap.size+1) 4 (ys.drop 13) D3.out.1 (by rw [Zv];omega)).mono ?_
   rintro e W ⟨rfl,rfl⟩;refine WH (f:=117) (args:=#[]) (by simp) (by simp [go_sem]) ?_;refine (UB [] _).mono ?_;rintro e u' w2 ⟨rfl,rfl,b2⟩;have Z2:=Zr.same D3.out.2.1 (fun q=>b2.cell (p:=⟨w.heap.size,q,none⟩) (by have:=D3.out.1.2.1;show w.heap.size<_;omega));obtain ⟨z0,z1,z2,z3,z4,z5⟩:=Z2;rw [UA (by omega)];have B2:=D3.out.below.trans (b2.mono D3.out.below.size)
   simp [Leaves,settle,results,Tryz.results101,go_sem,z0,z1,z2,z3,z4,z5,B2,zeroV]
 refine (Yj w _ (w.heap.size+1) 4 (ys.drop 13) D3.out.1 (by rw [Zv];omega) (by omega) (by omega) (fun x hx=>Xe.out x (Wf hx))).mono ?_;rintro e W ⟨rfl,hr,v',q,rfl⟩;have A:Hid (DS w ((W3.setCell ⟨w.heap.size+1,0,none⟩ v').drewN q) (ys.drop 17) z0 z1 z2 0 0):=by
  have:=D3.out.number hr;rw [US] at this;exact this
 clear hr;generalize (W3.setCell _ _).drewN q=V3 at *;obtain ⟨z3,hz3⟩:∃z,z=(wrap64 ((YV ((ys.drop 13).take 4):Nat):Int)):=⟨_,rfl⟩;rw [←hz3];have HZ3:=Z8 hz3;clear hz3 D3;obtain ⟨y0,y1,y2,y3,y4,y5⟩:=A.out.2.2.1;have yf:=A.out.2.2.2.1 3;have D4:=Z8 (A.out.xq z3)
 go_wp2_with fail
 clear y0 y1 y2 y3 y4 y5 yf A;generalize V3.setCell _ _=W4 at *
 by_cases hl4:21≤ys.length
 rotate_left
 · refine (YD w _ (w.heap.size+1) 4 (ys.drop 17) D4.out.1 (by rw [Zv];omega)).mono ?_
   rintro e W ⟨rfl,rfl⟩;refine WH (f:=117) (args:=#[]) (by simp) (by simp [go_sem]) ?_;refine (UB [] _).mono ?_;rintro e u' w2 ⟨rfl,rfl,b2⟩;have Z2:=Zr.same D4.out.2.1 (fun q=>b2.cell (p:=⟨w.heap.size,q,none⟩) (by have:=D4.out.1.2.1;show w.heap.size<_;omega));obtain ⟨z0,z1,z2,z3,z4,z5⟩:=Z2;rw [UA (by omega)];have B2:=D4.out.below.trans (b2.mono D4.out.below.size)
   simp [Leaves,settle,results,Tryz.results101,go_sem,z0,z1,z2,z3,z4,z5,B2,zeroV]
 refine (Yj w _ (w.heap.size+1) 4 (ys.drop 17) D4.out.1 (by rw [Zv];omega) (by omega) (by omega) (fun x hx=>Xe.out x (Wf hx))).mono ?_;rintro e W ⟨rfl,hr,v',q,rfl⟩;have d:Hid (DS w ((W4.setCell ⟨w.heap.size+1,0,none⟩ v').drewN q) (ys.drop 21) z0 z1 z2 z3 0):=by
  have:=D4.out.number hr;rw [US] at this;exact this
 clear hr;generalize (W4.setCell _ _).drewN q=V4 at *;obtain ⟨z4,wx⟩:∃z,z=(wrap64 ((YV ((ys.drop 17).take 4):Nat):Int)):=⟨_,rfl⟩;rw [←wx];have Zd:=Z8 wx;clear wx D4;obtain ⟨y0,y1,y2,y3,y4,y5⟩:=d.out.2.2.1;have yf:=d.out.2.2.2.1 4;have D5:=Z8 (d.out.xp z4)
 go_wp2_with fail
 clear y0 y1 y2 y3 y4 y5 yf d;generalize V4.setCell _ _=W5 at *;have vV:=Z8 (yR Xe.out hl4 HZ0.out HZ1.out HZ2.out HZ3.out Zd.out);refine (Mz _ z0 z1 z2 z3 z4).mono ?_;rintro e W6 ⟨v6,rfl,o6,b6⟩;have s5:=D5.out.1.2.1;have Y8:=D5.out.2.2.1.1;have D6:=Z8 (D5.out.keep b6);have O6:=Z8 o6;have Ft:=Z8 (HR.out.below D6.out.below);clear o6 b6 D5
 go_wp2_with fail
 refine (Tt _ _ _ (sup z0 z1 z2 z3 z4) ys O6.out.rd Ft.out (Ee _ _ _ _ _) Xe.out).mono ?_;rintro e W7 ⟨rfl,rfl⟩;obtain ⟨y0,y1,y2,y3,y4,y5⟩:=D6.out.2.2.1;obtain ⟨x0,x1,x2,x3,x4,x5⟩:=D6.out.2.1;have f0:=D6.out.2.2.2.2 0;have f1:=D6.out.2.2.2.2 1;have f2:=D6.out.2.2.2.2 2;have f3:=D6.out.2.2.2.2 3;have f4:=D6.out.2.2.2.2 4;have f5:=D6.out.2.2.2.2 5;have BB:=Z8 D6.out.below
 by_cases hd:sup z0 z1 z2 z3 z4=ys
 · have Da:Hid (UM ys=.agg #[.bool true,.int .i64 z0,.int .i64 z1,.int .i64 z2,.int .i64 z3,.int .i64 z4]):=by show _=_;rw [vV.out,ZY hd]
   rw [YS hd];clear hd vV;go_wp2;refine WH (f:=117) (args:=#[]) (by simp) (by simp [go_sem]) ?_;refine (Nz _).mono ?_;rintro e u' w2 ⟨rfl,rfl,rfl⟩;rw [Da.out];have BW:=(((((BB.out.setCell (p:=⟨w.heap.size,0,none⟩) ZW (.bool true)).setCell (p:=⟨w.heap.size,1,none⟩) ZW (.int .i64 z0)).setCell (p:=⟨w.heap.size,2,none⟩) ZW (.int .i64 z1)).setCell (p:=⟨w.heap.size,3,none⟩) ZW (.int .i64 z2)).setCell (p:=⟨w.heap.size,4,none⟩) ZW (.int .i64 z3)).setCell (p:=⟨w.heap.size,5,none⟩) ZW (.int .i64 z4)
   simp [Leaves,settle,results,Tryz.results101,go_sem,x0,x1,x2,x3,x4,x5,BW]
 have Da:Hid (UM ys=zeroV):=by show _=_;rw [vV.out,Z3 hd]
 rw [Zl hd];clear hd vV;go_wp2;refine WH (f:=117) (args:=#[]) (by simp) (by simp [go_sem]) ?_;refine (Nz _).mono ?_;rintro e u' w2 ⟨rfl,rfl,rfl⟩;rw [Da.out];have BW:=(((((BB.out.setCell (p:=⟨w.heap.size,0,none⟩) ZW (.bool false)).setCell (p:=⟨w.heap.size,1,none⟩) ZW (.int .i64 0)).setCell (p:=⟨w.heap.size,2,none⟩) ZW (.int .i64 0)).setCell (p:=⟨w.heap.size,3,none⟩) ZW (.int .i64 0)).setCell (p:=⟨w.heap.size,4,none⟩) ZW (.int .i64 0)).setCell (p:=⟨w.heap.size,5,none⟩) ZW (.int .i64 0)
 simp [Leaves,settle,results,Tryz.results101,go_sem,x0,x1,x2,x3,x4,x5,BW,zeroV]
theorem Ny (w:World) (g b s l c:Int) :
    Calls Tryz.prog 86 #[.agg #[.int .i64 g,.int .i64 b,.int .i64 s,.int .i64 l,.int .i64 c]] w (Ze w (.bool (VP g b s l c))):=by
 go_enter Tryz.func86,Tryz.ntmps86
 go_wp2
 all_goals
  go_ret;refine ⟨ZJ ?_,ZR.alloc ZW _⟩;unfold VP;rw [Bu]
  simp only [Yg,Jr,Zg,Pe,false_iff]
  omega
theorem Xk:∀(n:Nat) (w:World) (N:Nat),n≤8→N<9223372036854775808 →
    Calls Tryz.prog 87 #[.int .i64 N,.int .i64 n] w fun e w'=>∃v',e=.returned v'∧Own .u8 5 w' w.heap.size v' (Zo N n)∧ZX w w'
 | 0,w,N,_,_=>by
  go_enter Tryz.func87,Tryz.ntmps87
  go_wp2;go_ret;exact ⟨_,rfl,Xb w #[] 0 ZW (ZQ _) rfl,ZR.alloc ZW _⟩
 | n+1,w,N,hn,hN=>by
  obtain ⟨i0,hi,hz0,hz1,hz2⟩:=YH Tryz.Vv;have HI:Hid (Calls Tryz.prog 87 #[.int .i64 ((N:Int) / 256),.int .i64 n] w fun e w'=>∃v',e=.returned v'∧Own .u8 5 w' w.heap.size v' (Zo (N / 256) n)∧ZX w w'):=by
   have:=Xk n w (N / 256) (by omega) (by omega);rw [show ((N / 256:Nat):Int)=(N:Int) / 256 by omega] at this;exact this
  have h0:(((n+1:Nat):Int) == 0)=false:=Xz.2 (by omega);have hw:wrap64 ((N:Int) / 256)=((N / 256:Nat):Int):=by unfold wrap64;omega
  clear hN
  go_enter Tryz.func87,Tryz.ntmps87
  go_wp2_with fail
  refine HI.out.mono ?_;rintro e w1 ⟨v1,rfl,o1,b1⟩;have s1:=b1.size;obtain ⟨ys,hys⟩:∃ys,ys=Zo (N / 256) n:=⟨_,rfl⟩;have hyl:ys.length=n:=by rw [hys,Zn]
  have pq:=Z8 hys;have O1:Hid (w1.ownsRow w.heap.size 5 1 v1 n (ys.map (Value.int .u8))):=by have:=o1;unfold Own at this;rw [←hys,hyl] at this;exact this
  have qG:=Z8 hyl;have B1:=Z8 b1;have HV:Hid ((N:Int) % 256=((N % 256:Nat):Int)):=by show _=_;omega
  clear o1 b1 hys hyl HI hw
  go_wp2_with (at_builtin;go_must (refine XS _ rfl _ _ 22 rfl w.heap.size 5 i0 (.int .u8 0) 1 1 Tryz.underlying22 hi hz0 hz1 hz2 rfl (by decide) _ _ _ rfl (O1.out.alloc _) ⟨w1.heap.size,0,none⟩ 1 1 [.int .u8 ((N:Int) % 256)] rfl rfl (Vy _ _ _) (by intro u hu;simp at hu;subst hu;rfl) ?c3 ?c4 ?c5 ?_))
  case c3=>unfold maxLen;omega
  case c4=>omega
  case c5=>simp;omega
  intro v2 w2 ho2 hg2 _;have O2:Hid (Own .u8 5 w2 w.heap.size v2 (Zo N (n+1))):=by
   rw [HV.out] at ho2;refine WI (q:=n+1) (ys:=ys++[((N % 256:Nat):Int)]) (by simp [qG.out]) ?_ (by rw [WX];exact ho2);rw [pq.out];rfl
  have B2:=Z8 ((B1.out.alloc s1 _).grown hg2 (by simp;omega) (fun q hq=>(ZO O1.out q hq).1));clear ho2 hg2;go_wp2;go_ret;exact ⟨_,rfl,O2.out,B2.out⟩
end Go.Proofs.YtmmmffcbfepghaaGreatDoor
