import Derived.Test.YtpmjnbmkippaiaaGreatDoorJ05
import Derived.ChangeKeysEq
import Derived.Lib.SliceRun
import Derived.Deep.CutRange
import Derived.Conc.LoneSelectN
import Derived.Conc.LoneCalls
set_option maxRecDepth 100000
set_option maxHeartbeats 16000000
set_option linter.unusedVariables false
set_option linter.unusedSimpArgs false
namespace Go.Proofs.YtpmjnbmkippaiaaGreatDoor
section
open Go.RowKit Go.Shelf
variable {ops:Array Oper} {buf:Array Value} {cl tm:Bool} {L S x:Int} {ps rs:List (Int × List Int)} {ZQ xs ys:List Int} {b c cap id k lo n o r s sB z:Nat} {r0 row:Option Nat} {e:TypeId} {P v v0:Value} {W W' w w' w0 w1 w2:World}
def So (S L:Int) (vd vp:Value) (lim made:Int) (vc:Value) (cg:Bool) (c:Uz) (og:Bool) (o:Uz) (code:Int) (vt:Value) (zx cnt en:Int):List Value:=[.int .i64 S,.int .i64 L,vd,vp,.int .i64 lim,.int .i64 made,vc,.bool cg,.int .i64 c.g,.int .i64 c.b,.int .i64 c.s,.int .i64 c.l,.int .i64 c.c,.bool og,.int .i64 o.g,.int .i64 o.b,.int .i64 o.s,.int .i64 o.l,.int .i64 o.c,.int .i64 code,vt,.int .i64 zx,.int .i64 cnt,.int .i64 en]
def Qf (S:Int) (ys:List Int):Uz:=if Kw S ys=true then tf ys else ⟨0,0,0,0,0⟩
theorem om (S:Int) (ys:List Int):kF S ys=.agg #[.bool (Kw S ys),.int .i64 (Qf S ys).g,.int .i64 (Qf S ys).b,.int .i64 (Qf S ys).s,.int .i64 (Qf S ys).l,.int .i64 (Qf S ys).c]:=by
 unfold kF Qf
 by_cases h:Ss ys∧nL ys≤S*64
 · have h2:Kw S ys=true:=by unfold Kw;simp [h.1,h.2]
   rw [ZZ h,ZZ h2,h2];rfl
 have h2:Kw S ys=false:=by
  unfold Kw
  cases h3:decide (Ss ys) with
  | false=>rfl
  | true =>
   have:¬nL ys≤S*64:=fun h4=>h ⟨Mf h3,h4⟩
   simp [this]
 rw [Z1 h,Z1 (by rw [h2];simp),h2]
def xP (w:World) (b:Nat) (S L:Int) (vd vp:Value) (lim made:Int) (vc:Value) (code:Int) (vt:Value) (zx cnt en:Int) (g0 g1:Bool) (x0 x1:Uz) (e:Ending) (w':World):Prop :=
 ∃(xg:Bool) (x:Uz) (yg:Bool) (y:Uz),e=.returned (.int .i64 (if xg=true then 1 else 4))∧St w' b (So S L vd vp lim made vc xg x yg y code vt zx cnt en)∧Tw w b none w' none ∧
     ((¬x0.g<x1.g∧xg=g0∧x=x0∧yg=g1∧y=x1)∨(x0.g<x1.g∧xg=g1∧x=x1∧yg=g0∧y=x0))
theorem xO (w:World) (b g N C:Nat) (S L:Int) (vd vp:Value) (lim made:Int) (vc:Value) (cg:Bool) (c:Uz) (og:Bool) (o:Uz) (code:Int) (vt:Value) (zx cnt en:Int) (cont:List Int) (ol:vc=.slice (some ⟨g,0,none⟩) N C) (hs:St w b (So S L vd vp lim made vc cg c og o code vt zx cnt en)) (hr:Rd .u8 w (.slice (some ⟨g,0,none⟩) N C) cont) (hby:Wm cont) (hN:cont.length=N) (Dp:N≤1048576) (uG:128≤N) (hS:1≤S∧S≤64) :
    Calls Tryz.prog 39 #[.pointer (some ⟨b,0,none⟩)] w (xP w b S L vd vp lim made vc code vt zx cnt en (Kw S (blk cont 0)) (Kw S (blk cont 1)) (Qf S (blk cont 0)) (Qf S (blk cont 1))):=by
 subst ol;have HG:Hid (∀W (i:Nat),i≤1→ZX w W→Calls Tryz.prog 84 #[.pointer (some ⟨b,0,none⟩),.int .i64 (i:Int)] W (YI W (.agg #[.bool (Kw S (blk cont i)),.int .i64 (Qf S (blk cont i)).g,.int .i64 (Qf S (blk cont i)).b,.int .i64 (Qf S (blk cont i)).s,.int .i64 (Qf S (blk cont i)).l,.int .i64 (Qf S (blk cont i)).c]))):=by
  intro W i hi hW;have hs':=hs.Zc hW hs.lt;have h9:=Kv W b i g 0 N C S cont (hs'.cl 0 _ rfl) (hs'.cl 6 _ rfl) hs'.lt (hr.below hW) hby hN (by omega) Dp hS;rw [om] at h9;exact h9
 have HS:=Z3 hs;have yz:Hid (∀W,ZX w W→Calls Tryz.prog 84 #[.pointer (some ⟨b,0,none⟩),.int .i64 0] W (YI W (.agg #[.bool (Kw S (blk cont 0)),.int .i64 (Qf S (blk cont 0)).g,.int .i64 (Qf S (blk cont 0)).b,.int .i64 (Qf S (blk cont 0)).s,.int .i64 (Qf S (blk cont 0)).l,.int .i64 (Qf S (blk cont 0)).c]))):=fun W hW=>HG.out W 0 (by omega) hW
 have xN:Hid (∀W,ZX w W→Calls Tryz.prog 84 #[.pointer (some ⟨b,0,none⟩),.int .i64 1] W (YI W (.agg #[.bool (Kw S (blk cont 1)),.int .i64 (Qf S (blk cont 1)).g,.int .i64 (Qf S (blk cont 1)).b,.int .i64 (Qf S (blk cont 1)).s,.int .i64 (Qf S (blk cont 1)).l,.int .i64 (Qf S (blk cont 1)).c]))):=fun W hW=>HG.out W 1 (by omega) hW
 have hlt:=hs.lt;generalize Kw S (blk cont 0)=g0 at *;generalize Kw S (blk cont 1)=g1 at *;generalize Qf S (blk cont 0)=x0 at *;generalize Qf S (blk cont 1)=x1 at *
 go_enter Tryz.func39,Tryz.ntmps39
 go_wp2_with fail
 refine (yz.out _ ZJ).mono ?_;rintro e w1 ⟨rfl,b1⟩
 go_wp2_with fail
 refine (xN.out _ b1).mono ?_;rintro e w2 ⟨rfl,b2⟩;have B2:=Z3 (YV b1 b2);have S2:=Z3 (HS.out.Zc B2.out hlt);have q7:=S2.out.cl 7 _ rfl;have f7:=S2.out.fz 7;have q8:=S2.out.cl 8 _ rfl;have f8:=S2.out.fz 8;have q9:=S2.out.cl 9 _ rfl;have f9:=S2.out.fz 9;have iK:=S2.out.cl 10 _ rfl;have f10:=S2.out.fz 10;have iJ:=S2.out.cl 11 _ rfl;have f11:=S2.out.fz 11;have gU:=S2.out.cl 12 _ rfl;have f12:=S2.out.fz 12;have Zp:=S2.out.cl 13 _ rfl;have f13:=S2.out.fz 13;have Zv:=S2.out.cl 14 _ rfl;have f14:=S2.out.fz 14;have Zn:=S2.out.cl 15 _ rfl;have f15:=S2.out.fz 15;have q16:=S2.out.cl 16 _ rfl;have f16:=S2.out.fz 16;have Zk:=S2.out.cl 17 _ rfl;have f17:=S2.out.fz 17;have Zi:=S2.out.cl 18 _ rfl;have f18:=S2.out.fz 18;have S3:Hid (St ((((((((((((w2.setCell ⟨b,7,none⟩ (.bool g0)).setCell ⟨b,8,none⟩ (.int .i64 x0.g)).setCell ⟨b,9,none⟩ (.int .i64 x0.b)).setCell ⟨b,10,none⟩ (.int .i64 x0.s)).setCell ⟨b,11,none⟩ (.int .i64 x0.l)).setCell ⟨b,12,none⟩ (.int .i64 x0.c)).setCell ⟨b,13,none⟩ (.bool g1)).setCell ⟨b,14,none⟩ (.int .i64 x1.g)).setCell ⟨b,15,none⟩ (.int .i64 x1.b)).setCell ⟨b,16,none⟩ (.int .i64 x1.s)).setCell ⟨b,17,none⟩ (.int .i64 x1.l)).setCell ⟨b,18,none⟩ (.int .i64 x1.c)) b (So S L vd vp lim made (.slice (some ⟨g,0,none⟩) N C) g0 x0 g1 x1 code vt zx cnt en)):=((((((((((((S2.out.set 7 (.bool g0)).set 8 (.int .i64 x0.g)).set 9 (.int .i64 x0.b)).set 10 (.int .i64 x0.s)).set 11 (.int .i64 x0.l)).set 12 (.int .i64 x0.c)).set 13 (.bool g1)).set 14 (.int .i64 x1.g)).set 15 (.int .i64 x1.b)).set 16 (.int .i64 x1.s)).set 17 (.int .i64 x1.l)).set 18 (.int .i64 x1.c));have T3:Hid (Tw w b none ((((((((((((w2.setCell ⟨b,7,none⟩ (.bool g0)).setCell ⟨b,8,none⟩ (.int .i64 x0.g)).setCell ⟨b,9,none⟩ (.int .i64 x0.b)).setCell ⟨b,10,none⟩ (.int .i64 x0.s)).setCell ⟨b,11,none⟩ (.int .i64 x0.l)).setCell ⟨b,12,none⟩ (.int .i64 x0.c)).setCell ⟨b,13,none⟩ (.bool g1)).setCell ⟨b,14,none⟩ (.int .i64 x1.g)).setCell ⟨b,15,none⟩ (.int .i64 x1.b)).setCell ⟨b,16,none⟩ (.int .i64 x1.s)).setCell ⟨b,17,none⟩ (.int .i64 x1.l)).setCell ⟨b,18,none⟩ (.int .i64 x1.c)) none):=(Tw.ZV B2.out b none).set.set.set.set.set.set.set.set.set.set.set.set
 go_wp2_with fail
 generalize ((((((((((((w2.setCell _ _).setCell _ _).setCell _ _).setCell _ _).setCell _ _).setCell _ _).setCell _ _).setCell _ _).setCell _ _).setCell _ _).setCell _ _).setCell _ _)=w3 at *;have Zv:=S3.out.cl 14 _ rfl;have q8:=S3.out.cl 8 _ rfl
 go_quiet (fail)
 have S4:=Z3 (S3.out.below (below_drewN' w3 nq));have T4:=Z3 (T3.out.trans (Tw.ZV (below_drewN' w3 nq) b none));generalize w3.drewN nq=w4 at *
 by_cases hx:x0.g<x1.g
 · go_wp2_with fail
   refine ZH (S:=fun _=>True) (by kernel_rfl) trivial (fun Z9=>?_);have S5:Hid (St w4.drew b (So S L vd vp lim made (.slice (some ⟨g,0,none⟩) N C) g0 x0 g1 x1 code vt zx cnt en)):=S4.out.below (below_drewN' w4 1);have T5:Hid (Tw w b none w4.drew none):=T4.out.trans (Tw.ZV (below_drewN' w4 1) b none);generalize w4.drew=w5 at *
   iterate 5 (refine ZW ?_ (by kernel_rfl) (fun _=>id) Z9 ?_ ?_;rotate_left;· intro w9 Z0;clear Z0;go_simp;try with_reducible rfl)
   refine ZG 6 ?v6 rfl (by kernel_rfl) (fun _=>id) Z9 ?tV ?_
   case tV =>
    intro w9 Z0;go_simp
    try with_reducible rfl
   refine ZG 7 ?v7 rfl (by kernel_rfl) (fun _=>id) Z9 ?tU ?_
   case tU =>
    intro w9 Z0;go_simp
    try with_reducible rfl
   refine ZG 8 ?v8 rfl (by kernel_rfl) (fun _=>id) Z9 ?sW ?_
   case sW =>
    intro w9 Z0;go_simp
    try with_reducible rfl
   have q7:=S5.out.cl 7 _ rfl;have f7:=S5.out.fz 7;have q8:=S5.out.cl 8 _ rfl;have f8:=S5.out.fz 8;have q9:=S5.out.cl 9 _ rfl;have f9:=S5.out.fz 9;have iK:=S5.out.cl 10 _ rfl;have f10:=S5.out.fz 10;have iJ:=S5.out.cl 11 _ rfl;have f11:=S5.out.fz 11;have gU:=S5.out.cl 12 _ rfl;have f12:=S5.out.fz 12;have Zp:=S5.out.cl 13 _ rfl;have f13:=S5.out.fz 13;have Zv:=S5.out.cl 14 _ rfl;have f14:=S5.out.fz 14;have Zn:=S5.out.cl 15 _ rfl;have f15:=S5.out.fz 15;have q16:=S5.out.cl 16 _ rfl;have f16:=S5.out.fz 16;have Zk:=S5.out.cl 17 _ rfl;have f17:=S5.out.fz 17;have Zi:=S5.out.cl 18 _ rfl;have f18:=S5.out.fz 18;have SE:Hid (St ((((((((((((w5.setCell ⟨b,7,none⟩ (.bool g1)).setCell ⟨b,8,none⟩ (.int .i64 x1.g)).setCell ⟨b,9,none⟩ (.int .i64 x1.b)).setCell ⟨b,10,none⟩ (.int .i64 x1.s)).setCell ⟨b,11,none⟩ (.int .i64 x1.l)).setCell ⟨b,12,none⟩ (.int .i64 x1.c)).setCell ⟨b,13,none⟩ (.bool g0)).setCell ⟨b,14,none⟩ (.int .i64 x0.g)).setCell ⟨b,15,none⟩ (.int .i64 x0.b)).setCell ⟨b,16,none⟩ (.int .i64 x0.s)).setCell ⟨b,17,none⟩ (.int .i64 x0.l)).setCell ⟨b,18,none⟩ (.int .i64 x0.c)) b (So S L vd vp lim made (.slice (some ⟨g,0,none⟩) N C) g1 x1 g0 x0 code vt zx cnt en)):=((((((((((((S5.out.set 7 (.bool g1)).set 8 (.int .i64 x1.g)).set 9 (.int .i64 x1.b)).set 10 (.int .i64 x1.s)).set 11 (.int .i64 x1.l)).set 12 (.int .i64 x1.c)).set 13 (.bool g0)).set 14 (.int .i64 x0.g)).set 15 (.int .i64 x0.b)).set 16 (.int .i64 x0.s)).set 17 (.int .i64 x0.l)).set 18 (.int .i64 x0.c));have TE:Hid (Tw w b none ((((((((((((w5.setCell ⟨b,7,none⟩ (.bool g1)).setCell ⟨b,8,none⟩ (.int .i64 x1.g)).setCell ⟨b,9,none⟩ (.int .i64 x1.b)).setCell ⟨b,10,none⟩ (.int .i64 x1.s)).setCell ⟨b,11,none⟩ (.int .i64 x1.l)).setCell ⟨b,12,none⟩ (.int .i64 x1.c)).setCell ⟨b,13,none⟩ (.bool g0)).setCell ⟨b,14,none⟩ (.int .i64 x0.g)).setCell ⟨b,15,none⟩ (.int .i64 x0.b)).setCell ⟨b,16,none⟩ (.int .i64 x0.s)).setCell ⟨b,17,none⟩ (.int .i64 x0.l)).setCell ⟨b,18,none⟩ (.int .i64 x0.c)) none):=T5.out.set.set.set.set.set.set.set.set.set.set.set.set;refine UY 5 9 rfl rfl (by kernel_rfl) (fun K hK=>?_) (fun K hK=>?_)
   · skip
     go_simp;refine hK.out _ _ trivial (fun ZM=>?_);refine ZU 9 rfl (by kernel_rfl) (fun K hK=>?_);go_simp;refine hK.out _ _ trivial (fun ZM=>?_)
     iterate 2 (refine ZW ?_ (by kernel_rfl) (fun _=>id) Z9 ?_ ?_;rotate_left;· intro w9 Z0;clear Z0;go_simp;try with_reducible rfl)
     refine ZU 12 rfl (by kernel_rfl) (fun K hK=>?_);go_simp;refine hK.out _ _ trivial (fun ZM=>?_)
     iterate 2 (refine ZW ?_ (by kernel_rfl) (fun _=>id) Z9 ?_ ?_;rotate_left;· intro w9 Z0;clear Z0;go_simp;try with_reducible rfl)
     refine ZU 15 rfl (by kernel_rfl) (fun K hK=>?_);go_simp;refine hK.out _ _ trivial (fun ZM=>?_);refine ZP (by kernel_rfl) ?_ _
     try simp only [Act.put,Y8,Y7,Y6]
     generalize ((((((((((((w5.setCell _ _).setCell _ _).setCell _ _).setCell _ _).setCell _ _).setCell _ _).setCell _ _).setCell _ _).setCell _ _).setCell _ _).setCell _ _).setCell _ _)=w6 at *;have q7:=SE.out.cl 7 _ rfl
     cases g1 with
     | true =>
      go_wp2;go_ret;exact ⟨true,x1,g0,x0,rfl,SE.out,TE.out,.inr ⟨by omega,rfl,rfl,rfl,rfl⟩⟩
     | false =>
      go_wp2;go_ret;exact ⟨false,x1,g0,x0,rfl,SE.out,TE.out,.inr ⟨by omega,rfl,rfl,rfl,rfl⟩⟩
   skip
   go_simp;refine hK.out _ _ trivial (fun ZM=>?_);refine ZU 5 rfl (by kernel_rfl) (fun K hK=>?_);go_simp;refine hK.out _ _ trivial (fun ZM=>?_)
   iterate 2 (refine ZW ?_ (by kernel_rfl) (fun _=>id) Z9 ?_ ?_;rotate_left;· intro w9 Z0;clear Z0;go_simp;try with_reducible rfl)
   refine ZU 12 rfl (by kernel_rfl) (fun K hK=>?_);go_simp;refine hK.out _ _ trivial (fun ZM=>?_)
   iterate 2 (refine ZW ?_ (by kernel_rfl) (fun _=>id) Z9 ?_ ?_;rotate_left;· intro w9 Z0;clear Z0;go_simp;try with_reducible rfl)
   refine ZU 15 rfl (by kernel_rfl) (fun K hK=>?_);go_simp;refine hK.out _ _ trivial (fun ZM=>?_);refine ZP (by kernel_rfl) ?_ _
   try simp only [Act.put,Y8,Y7,Y6]
   generalize ((((((((((((w5.setCell _ _).setCell _ _).setCell _ _).setCell _ _).setCell _ _).setCell _ _).setCell _ _).setCell _ _).setCell _ _).setCell _ _).setCell _ _).setCell _ _)=w6 at *;have q7:=SE.out.cl 7 _ rfl
   cases g1 with
   | true =>
    go_wp2;go_ret;exact ⟨true,x1,g0,x0,rfl,SE.out,TE.out,.inr ⟨by omega,rfl,rfl,rfl,rfl⟩⟩
   | false =>
    go_wp2;go_ret;exact ⟨false,x1,g0,x0,rfl,SE.out,TE.out,.inr ⟨by omega,rfl,rfl,rfl,rfl⟩⟩
 have q7:=S4.out.cl 7 _ rfl
 cases g0 with
 | true =>
  go_wp2;go_ret;exact ⟨true,x0,g1,x1,rfl,S4.out,T4.out,.inl ⟨by omega,rfl,rfl,rfl,rfl⟩⟩
 | false =>
  go_wp2;go_ret;exact ⟨false,x0,g1,x1,rfl,S4.out,T4.out,.inl ⟨by omega,rfl,rfl,rfl,rfl⟩⟩
theorem Tw.gT {ns:List Nd} (h:Tw w b none w' none) (ho:Zz 147 w lo v ns) (hne:v.ownBlock≠some b):Zz 147 w' lo v ns :=
 Yu ho ⟨h.os,h.tape,h.output,h.size,fun q hq hq2=>h.block q hq (fun e=>hq2 (by rw [e])) (by simp)⟩ (.inr hne)
theorem BT (w:World) (b:Nat) (S L lim made:Int) (da pa ta:Option Addr) (dl dc pl pc tl tc:Nat) (vc:Value) (cg:Bool) (c:Uz) (og:Bool) (o:Uz) (code zx cnt en:Int) (hs:St w b (So S L (.slice da dl dc) (.slice pa pl pc) lim made vc cg c og o code (.slice ta tl tc) zx cnt en)) :
    Calls Tryz.prog 43 #[.pointer (some ⟨b,0,none⟩),.int .i64 6] w (YI w (.agg #[.int .i64 code,.int .i64 c.g,.int .i64 c.b,.int .i64 c.s,.int .i64 c.l,.int .i64 c.c,.int .i64 zx,.slice ta tl tc,.int .i64 en,.int .i64 made,.slice da dl dc,.slice pa pl pc])):=by
 have hlt:=hs.lt;have B0:Hid (ZX w (w.alloc (.cells #[.int .i64 0,.int .i64 0,.int .i64 0,.int .i64 0,.int .i64 0,.int .i64 0,.int .i64 0,.slice none 0 0,.int .i64 0,.int .i64 0,.slice none 0 0,.slice none 0 0] 65))):=ZJ.alloc ZT _;have R0:Hid (St (w.alloc (.cells #[.int .i64 0,.int .i64 0,.int .i64 0,.int .i64 0,.int .i64 0,.int .i64 0,.int .i64 0,.slice none 0 0,.int .i64 0,.int .i64 0,.slice none 0 0,.slice none 0 0] 65)) w.heap.size [.int .i64 0,.int .i64 0,.int .i64 0,.int .i64 0,.int .i64 0,.int .i64 0,.int .i64 0,.slice none 0 0,.int .i64 0,.int .i64 0,.slice none 0 0,.slice none 0 0]):=St.new _ _ _;have N0:=Z3 (hs.Zc B0.out hlt)
 go_enter Tryz.func43,Tryz.ntmps43
 go_wp2_with fail
 generalize (w.alloc _)=w0 at *;have Nd:Hid (St w0.drew b (So S L (.slice da dl dc) (.slice pa pl pc) lim made vc cg c og o code (.slice ta tl tc) zx cnt en)):=N0.out.below (below_drewN' w0 1);have T:Hid (St w0.drew w.heap.size [.int .i64 0,.int .i64 0,.int .i64 0,.int .i64 0,.int .i64 0,.int .i64 0,.int .i64 0,.slice none 0 0,.int .i64 0,.int .i64 0,.slice none 0 0,.slice none 0 0]):=R0.out.below (below_drewN' w0 1);have Bd:Hid (ZX w w0.drew):=B0.out.trans ((below_drewN' w0 1).mono B0.out.size);refine ZH (S:=fun W=>St W b (So S L (.slice da dl dc) (.slice pa pl pc) lim made vc cg c og o code (.slice ta tl tc) zx cnt en)) (by kernel_rfl) (Nd.out) (fun Z9=>?_)
 iterate 35 (refine ZW ?_ (by kernel_rfl) (fun _=>id) Z9 ?_ ?_;rotate_left;· intro w9 Z0;have k2:=Z0.cl 2 _ rfl;have k3:=Z0.cl 3 _ rfl;have k5:=Z0.cl 5 _ rfl;have k8:=Z0.cl 8 _ rfl;have k9:=Z0.cl 9 _ rfl;have k10:=Z0.cl 10 _ rfl;have k11:=Z0.cl 11 _ rfl;have k12:=Z0.cl 12 _ rfl;have k19:=Z0.cl 19 _ rfl;have k20:=Z0.cl 20 _ rfl;have k21:=Z0.cl 21 _ rfl;have k23:=Z0.cl 23 _ rfl;clear Z0;go_simp;try with_reducible rfl)
 clear Z9;generalize w0.drew=w1 at *;have q0:=T.out.cl 0 _ rfl;have f0:=T.out.fz 0;have q1:=T.out.cl 1 _ rfl;have f1:=T.out.fz 1;have q2:=T.out.cl 2 _ rfl;have f2:=T.out.fz 2;have q3:=T.out.cl 3 _ rfl;have f3:=T.out.fz 3;have q4:=T.out.cl 4 _ rfl;have f4:=T.out.fz 4;have q5:=T.out.cl 5 _ rfl;have f5:=T.out.fz 5;have q6:=T.out.cl 6 _ rfl;have f6:=T.out.fz 6;have q7:=T.out.cl 7 _ rfl;have f7:=T.out.fz 7;have q8:=T.out.cl 8 _ rfl;have f8:=T.out.fz 8;have q9:=T.out.cl 9 _ rfl;have f9:=T.out.fz 9;have iK:=T.out.cl 10 _ rfl;have f10:=T.out.fz 10;have iJ:=T.out.cl 11 _ rfl;have f11:=T.out.fz 11;have SE:Hid (St ((((((((((((w1.setCell ⟨w.heap.size,0,none⟩ (.int .i64 code)).setCell ⟨w.heap.size,1,none⟩ (.int .i64 c.g)).setCell ⟨w.heap.size,2,none⟩ (.int .i64 c.b)).setCell ⟨w.heap.size,3,none⟩ (.int .i64 c.s)).setCell ⟨w.heap.size,4,none⟩ (.int .i64 c.l)).setCell ⟨w.heap.size,5,none⟩ (.int .i64 c.c)).setCell ⟨w.heap.size,6,none⟩ (.int .i64 zx)).setCell ⟨w.heap.size,7,none⟩ (.slice ta tl tc)).setCell ⟨w.heap.size,8,none⟩ (.int .i64 en)).setCell ⟨w.heap.size,9,none⟩ (.int .i64 made)).setCell ⟨w.heap.size,10,none⟩ (.slice da dl dc)).setCell ⟨w.heap.size,11,none⟩ (.slice pa pl pc)) w.heap.size [.int .i64 code,.int .i64 c.g,.int .i64 c.b,.int .i64 c.s,.int .i64 c.l,.int .i64 c.c,.int .i64 zx,.slice ta tl tc,.int .i64 en,.int .i64 made,.slice da dl dc,.slice pa pl pc]):=((((((((((((T.out.set 0 (.int .i64 code)).set 1 (.int .i64 c.g)).set 2 (.int .i64 c.b)).set 3 (.int .i64 c.s)).set 4 (.int .i64 c.l)).set 5 (.int .i64 c.c)).set 6 (.int .i64 zx)).set 7 (.slice ta tl tc)).set 8 (.int .i64 en)).set 9 (.int .i64 made)).set 10 (.slice da dl dc)).set 11 (.slice pa pl pc));have BE:Hid (ZX w ((((((((((((w1.setCell ⟨w.heap.size,0,none⟩ (.int .i64 code)).setCell ⟨w.heap.size,1,none⟩ (.int .i64 c.g)).setCell ⟨w.heap.size,2,none⟩ (.int .i64 c.b)).setCell ⟨w.heap.size,3,none⟩ (.int .i64 c.s)).setCell ⟨w.heap.size,4,none⟩ (.int .i64 c.l)).setCell ⟨w.heap.size,5,none⟩ (.int .i64 c.c)).setCell ⟨w.heap.size,6,none⟩ (.int .i64 zx)).setCell ⟨w.heap.size,7,none⟩ (.slice ta tl tc)).setCell ⟨w.heap.size,8,none⟩ (.int .i64 en)).setCell ⟨w.heap.size,9,none⟩ (.int .i64 made)).setCell ⟨w.heap.size,10,none⟩ (.slice da dl dc)).setCell ⟨w.heap.size,11,none⟩ (.slice pa pl pc))):=by
  iterate 12 refine Below.setCell ?_ (by show w.heap.size≤w.heap.size;omega) _
  exact Bd.out
 have NE:St ((((((((((((w1.setCell ⟨w.heap.size,0,none⟩ (.int .i64 code)).setCell ⟨w.heap.size,1,none⟩ (.int .i64 c.g)).setCell ⟨w.heap.size,2,none⟩ (.int .i64 c.b)).setCell ⟨w.heap.size,3,none⟩ (.int .i64 c.s)).setCell ⟨w.heap.size,4,none⟩ (.int .i64 c.l)).setCell ⟨w.heap.size,5,none⟩ (.int .i64 c.c)).setCell ⟨w.heap.size,6,none⟩ (.int .i64 zx)).setCell ⟨w.heap.size,7,none⟩ (.slice ta tl tc)).setCell ⟨w.heap.size,8,none⟩ (.int .i64 en)).setCell ⟨w.heap.size,9,none⟩ (.int .i64 made)).setCell ⟨w.heap.size,10,none⟩ (.slice da dl dc)).setCell ⟨w.heap.size,11,none⟩ (.slice pa pl pc)) b (So S L (.slice da dl dc) (.slice pa pl pc) lim made vc cg c og o code (.slice ta tl tc) zx cnt en):=((((((((((((Nd.out.other (by omega)).other (by omega)).other (by omega)).other (by omega)).other (by omega)).other (by omega)).other (by omega)).other (by omega)).other (by omega)).other (by omega)).other (by omega)).other (by omega));refine ZU 35 rfl (by kernel_rfl) (fun K hK=>?_);go_simp;refine hK.out _ _ NE (fun ZM=>?_);refine ZP (by kernel_rfl) ?_ _
 try simp only [Act.put,Y8,Y7,Y6]
 generalize ((((((((((((w1.setCell _ _).setCell _ _).setCell _ _).setCell _ _).setCell _ _).setCell _ _).setCell _ _).setCell _ _).setCell _ _).setCell _ _).setCell _ _).setCell _ _)=wE at *;go_wp2;have e0:=SE.out.cl 0 _ rfl;have e1:=SE.out.cl 1 _ rfl;have e2:=SE.out.cl 2 _ rfl;have e3:=SE.out.cl 3 _ rfl;have e4:=SE.out.cl 4 _ rfl;have e5:=SE.out.cl 5 _ rfl;have e6:=SE.out.cl 6 _ rfl;have e7:=SE.out.cl 7 _ rfl;have e8:=SE.out.cl 8 _ rfl;have e9:=SE.out.cl 9 _ rfl;have e10:=SE.out.cl 10 _ rfl;have e11:=SE.out.cl 11 _ rfl;exact ZS (v:=.agg #[.int .i64 code,.int .i64 c.g,.int .i64 c.b,.int .i64 c.s,.int .i64 c.l,.int .i64 c.c,.int .i64 zx,.slice ta tl tc,.int .i64 en,.int .i64 made,.slice da dl dc,.slice pa pl pc]) (by simp [results,Tryz.results43,go_sem,e0,e1,e2,e3,e4,e5,e6,e7,e8,e9,e10,e11]) rfl ⟨rfl,BE.out⟩
theorem BS (f:Int) (log want:List Int) (m:Nat):∀(n b:Nat),U9 f log want b (m+n)=U9 f log want b m++U9 f log want (b+m) n:=by
 induction m with
 | zero=>intro n b;simp [U9]
 | succ m ih =>
  intro n b;rw [show m+1+n=(m+n)+1 by omega,U9,U9,ih,show b+(m+1)=b+1+m by omega,YM]
theorem VN (f:Int) (log want:List Int) (b:Nat):U9 f log want 0 (b+1)=U9 f log want 0 b++(if blk log b=blk want b then [] else [(f+b,blk want b)]):=by
 rw [BS];simp [U9]
theorem OY (f:Int) (log want:List Int):∀(n b:Nat),(U9 f log want b n).length≤n:=by
 intro n
 induction n with
 | zero=>intro b;simp [U9]
 | succ n ih=>intro b;rw [U9,ZA];have:=ih (b+1);split <;> simp <;> omega
theorem BR (log:List Int) (n e i:Nat) (hl:log.length=n*64) (he:e≤log.length) (hi:i<n) :
    blk (QW log e) i=(blk log i).take (min (e - i*64) 64)++zeros (64 - min (e - i*64) 64):=by
 have hbl:(blk log i).length=64:=by unfold blk;simp;omega
 apply pL
 · simp [blk,QW,zeros];omega
 intro j h1 h2;have hj:j<64:=by simp [blk,QW,zeros] at h1;omega
 simp only [blk,QW,zeros,List.getElem_take,List.getElem_drop,List.getElem_append,XU]
 by_cases h:i*64+j<e
 · have h3:j<min (e - i*64) 64:=by omega
   rw [dif_pos (by omega),dif_pos (by simp;omega)]
 rw [dif_neg (by omega),dif_neg (by simp;omega)]
 simp
theorem xM {i:Nat} (h:xs.length=n*64) (hi:i<n):(blk xs i).length=64:=by unfold blk;simp;omega
theorem sU (D:List Int) (f l i:Nat) (hi:i<l):blk (PC D f l) i=blk D (f+i):=by
 unfold blk PC;rw [List.drop_take,Jt,Rz,Wh (by omega),show f*64+i*64=(f+i)*64 by omega]
theorem plain8:Tryz.prog.plainKey 5=true:=by kernel_rfl
theorem oh:Tryz.prog.underlying 5=some (.int .u8):=by kernel_rfl
theorem NG (w:World) (d:Nat) (X Y:List Int):∀(is:List Nat),(∀i ∈ is,i<X.length∧i<Y.length)→(Op.eqItems (d+1) 5 1 (X.map (Value.int .u8)).toArray (Y.map (Value.int .u8)).toArray is).run Tryz.prog w=.ok (is.all (fun i=>X.getD i 0 == Y.getD i 0)) w
 | [],_=>by simp [Op.eqItems]
 | i :: is,h=>by
  obtain ⟨h1,h2⟩:=h i (by simp);have ih:=NG w d X Y is (fun j hj=>h j (by simp [hj]));have p1:(X.map (Value.int .u8)).toArray[i*1]?=some (.int .u8 (X.getD i 0)):=by simp [List.getD,h1]
  have p2:(Y.map (Value.int .u8)).toArray[i*1]?=some (.int .u8 (Y.getD i 0)):=by simp [List.getD,h2]
  simp only [Op.eqItems,Vz,run_part_plain w plain8 p1,run_part_plain w plain8 p2,SF,run_equalIn_int w d 5 .u8 .u8 _ _ oh]
  cases e:(X.getD i 0 == Y.getD i 0) with
  | false=>simp only [FT,e,Bool.false_and,Bool.not_false,Uc,Rv]
  | true =>
   simp only [FT,e,Qv,Bool.not_true,Qw,Vw]
   exact ih
theorem Ij (w:World) (X Y:List Int) (hX:X.length=64) (hY:Y.length=64):(Op.equalIn 10000 117 (.agg (X.map (Value.int .u8)).toArray) (.agg (Y.map (Value.int .u8)).toArray)).run Tryz.prog w=.ok (decide (X=Y)) w:=by
 obtain ⟨i,hi⟩:∃i,Tryz.prog.info? 5=some i:=by
  cases h:Tryz.prog.info? 5 with
  | none=>exact absurd h (by
      have:(Tryz.prog.info? 5).isSome=true:=by kernel_rfl
      intro e;rw [e] at this;cases this)
  | some i=>exact ⟨i,rfl⟩
 rw [run_equalIn_array w 9999 _ _ Tryz.underlying117 hi];have hc:Tryz.prog.cellsOf 5=1:=by kernel_rfl
 have hb:((List.range 64).all (fun i=>X.getD i 0 == Y.getD i 0))=decide (X=Y):=by
  rw [pW,Se,Yt]
  constructor
  · intro h
    apply pL (by omega);intro j h1 h2;have:=h j (by rw [UT];omega)
    simpa [List.getD,h1,h2] using this
  rintro rfl j _
  simp
 rw [hc,←hb];exact NG w 9998 X Y _ (fun i hi=>by rw [UT] at hi;omega)
theorem kB (w:World):(zeroValue 5).run Tryz.prog w=.ok (.int .u8 0) w:=by kernel_rfl
theorem sS (w7:World) (b:Nat) (V:List Value) (hV:V.length=64) (ht:w7.there b 0 64) (hR:w7.rangeAt b 0 V) (k c:Nat) (hk:k<64) :
    (Builtin.clear_ #[22] 0 #[.slice (some ⟨b,k,none⟩) (64 - k) c]).run Tryz.prog w7=.ok (.tuple #[]) (w7.setCells b k (List.replicate (64 - k) (.int .u8 0)))
    ∧ (w7.setCells b k (List.replicate (64 - k) (.int .u8 0))).rangeAt b 0 (V.take k++List.replicate (64 - k) (.int .u8 0)):=by
 have hc:∀j,j<64 - k→(w7.cell? ⟨b,k+j,none⟩).isSome=true:=fun j hj=>by
  have h9:=(ht (k+j) (by omega)).1;rw [YK] at h9;exact h9
 refine ⟨Go.Lib.run_clear_slice _ 22 5 0 (.int .u8 0) Tryz.underlying22 kB rfl rfl b k (64 - k) c (by omega) hc (fun j hj=>by
  have h9:=(ht (k+j) (by omega)).2;rw [YK] at h9;exact h9),fun j u hu=>?_⟩
 have hj:j<64:=by have:=(UG.1 hu).1;simp [hV] at this;omega
 by_cases hjk:j<k
 · rw [qV _ _ _ _ _ (fun _ _=>.inl (by show 0+j<k;omega))]
   refine hR j u ?_;rw [Wd (by simp [hV];omega),FO hjk] at hu;exact hu
 have h9:=World.cell?_setCells_in b (List.replicate (64 - k) (Value.int .u8 0)) k _ (by rw [Ju];exact hc) (j - k) (by rw [Ju];omega);rw [show k+(j - k)=0+j by omega] at h9;rw [h9];rw [VG (by simp [hV];omega)] at hu;have h8:u=.int .u8 0:=by
  have:=zR hu;exact (List.mem_replicate.1 this).2
 rw [h8]
 simp
theorem kA (w:World) (q:Nat):(Builtin.clear_ #[22] 0 #[.slice (some ⟨q,0,none⟩) 0 0]).run Tryz.prog w=.ok (.tuple #[]) w:=by
 simp [Builtin.clear_,go_sem,US (P:=Tryz.prog) Tryz.underlying22]
theorem BQ (h:w.there b o n) (hc:w'.heap[b]?=w.heap[b]?):w'.there b o n:=fun j hj=>by
 obtain ⟨h1,h2⟩:=h j hj;refine ⟨?_,?_⟩
 · rw [Zj (w:=w) (a:=⟨b,o+j,none⟩) hc];exact h1
 unfold World.frozen? at h2 ⊢;rw [hc];exact h2
theorem QV {rs':List (Int × List Int)} {V:List Int} (h:Put rs x V rs') (hno:∀i,i<rs.length→pB rs i≠x):rs'=rs++[(x,V)]:=by
 rcases h with ⟨i,hi,e,-⟩ | ⟨-,h⟩
 · exact absurd e (hno i hi)
 exact h
theorem UM.kz {lo' tb mb:Nat} (h:UM w lo tb mb v rs) (hl:lo'≤lo):UM w lo' tb mb v rs:=by
 refine ⟨h.box,⟨h.rows.1,?_⟩,h.map,h.full,h.apart,ZF hl h.lot,ZF hl h.ld,h.ne,h.vt,h.vm⟩
 rcases h.rows.2 with hn | ⟨g,cap,cur,rfl,hbg,rest⟩
 · exact .inl hn
 exact .inr ⟨g,cap,cur,rfl,by omega,rest⟩
theorem OV (f:Int) (lg wn:List Int):∀(n b i:Nat),i<(U9 f lg wn b n).length→∃k,b≤k∧k<b+n∧pB (U9 f lg wn b n) i=f+k:=by
 intro n
 induction n with
 | zero=>intro b i hi;simp [U9] at hi
 | succ n ih =>
  intro b i hi;rw [U9] at hi ⊢
  by_cases hc:blk lg b=blk wn b
  · rw [ZZ hc,Yw] at hi ⊢
    obtain ⟨k,h1,h2,h3⟩:=ih (b+1) i hi;exact ⟨k,by omega,by omega,h3⟩
  rw [Z1 hc] at hi ⊢
  cases i with
  | zero=>exact ⟨b,by omega,by omega,rfl⟩
  | succ i =>
   obtain ⟨k,h1,h2,h3⟩:=ih (b+1) i (by simpa using hi);refine ⟨k,by omega,by omega,?_⟩;rw [←h3];rfl
def xK (w:World) (rs:List (Int × List Int)) (e:Ending) (w':World):Prop:=∃tb mb v,e=.returned (.pointer (some ⟨tb,0,none⟩))∧UM w' w.heap.size tb mb v rs∧ZX w w'
theorem Ii (w:World) (b g N C f:Nat) (S:Int) (sn:Nat) (vd vp:Value) (lim made:Int) (vc:Value) (cg:Bool) (c:Uz) (og:Bool) (o:Uz) (code:Int) (vt:Value) (zx cnt:Int) (en:Nat) (cont:List Int) (hs:St w b (So S (sn:Int) vd vp lim made vc cg c og o code vt zx cnt (en:Int))) (ol:vc=.slice (some ⟨g,0,none⟩) N C) (hr:Rd .u8 w (.slice (some ⟨g,0,none⟩) N C) cont) (hN:cont.length=N) (Dp:N≤1048576) (hc:YO S (sn:Int)=true) (hcb:0≤c.b∧c.b≤1) (hf:VJ S (sn:Int) c.b true=(f:Int)) (Zh:(f+sn)*64≤N) (hen:en≤sn*64) (hsn:sn≤64) (eK:f≤1000) :
    Calls Tryz.prog 87 #[.pointer (some ⟨b,0,none⟩)] w (xK w (U9 (f:Int) (PC cont f sn) (QW (PC cont f sn) en) 0 sn)):=by
 have hlt:=hs.lt;have HS:=Z3 hs;have Sn:Hid (∀W,Calls Tryz.prog 79 #[.agg #[.int .i64 S,.int .i64 (sn:Int)],.int .i64 c.b] W (YI W (.agg #[.int .i64 (f:Int),.int .i64 (sn:Int)]))):=by
  intro W;have h9:=VO W S (sn:Int) c.b hc hcb;rw [hf,show LM S (sn:Int) true=(sn:Int) from rfl] at h9;exact h9
 have kE:Hid (∀W (j:Nat),j<sn→ZX w W→Calls Tryz.prog 108 #[vc,.int .i64 ((f:Int)+(j:Int))] W (YI W (.agg ((blk (PC cont f sn) j).map (Value.int .u8)).toArray))):=by
  intro W j hj hW;have h9:=PJ W g 0 N C (f+j) cont (hr.below hW) hN (by omega) Dp;rw [ol,sU _ _ _ _ hj];rw [show ((f+j:Nat):Int)=(f:Int)+(j:Int) by omega] at h9;exact h9
 have hll:(PC cont f sn).length=sn*64:=RN _ _ _ (by omega);have kX:Hid (∀j,j<sn→(blk (PC cont f sn) j).length=64∧blk (QW (PC cont f sn) en) j=(blk (PC cont f sn) j).take (min (en - j*64) 64)++zeros (64 - min (en - j*64) 64)):=fun j hj=>⟨xM hll hj,BR _ sn en j hll (by omega) hj⟩
 clear hs hr ol hN Dp hc hf Zh hll;generalize (QW (PC cont f sn) en)=O at *;generalize (PC cont f sn)=H at *
 go_enter Tryz.func87,Tryz.ntmps87
 go_wp2_with fail
 rename_i KK Ku;have REST:Hid (∀(b3:Nat) (W:World),St W b (So S (sn:Int) vd vp lim made vc cg c og o code vt zx cnt (en:Int))→St W b3 [.int .i64 (f:Int),.int .i64 (sn:Int)]→ZX w W→w.heap.size≤b3→KK { tmps:=#[.pointer (some ⟨b,0,none⟩),undef,.pointer none,.pointer (some ⟨b3,0,none⟩),undef,undef,undef,undef,.pointer (some ⟨b,0,none⟩),.pointer (some ⟨b,0,none⟩),.pointer (some ⟨b,0,none⟩),.agg #[.int .i64 S,.int .i64 (sn:Int)],.pointer (some ⟨b,0,none⟩),.pointer (some ⟨b,0,none⟩),.pointer (some ⟨b,7,none⟩),.pointer (some ⟨b,8,none⟩),.pointer (some ⟨b,9,none⟩),.int .i64 c.b,.agg #[.int .i64 (f:Int),.int .i64 (sn:Int)],undef,undef,undef,undef,undef,undef,undef,undef,undef,undef,undef,undef,undef,undef,undef,undef,undef,undef,undef,undef,undef,undef,undef,undef,undef,undef,undef,undef,undef,undef,undef,undef,undef,undef,undef,undef,undef,undef,undef],defers:=[] } W):=by
  clear HS Sn;intro b3 W N0 X0 B0 hb3;refine Ku _ _ ?_;have tW:=Z3 N0;have HX0:=Z3 X0;have HB0:=Z3 B0;have Z4:=X0.lt;clear N0 X0 B0 Ku
  go_wp2_with fail
  refine (Ri W).mono ?_;rintro e w1 ⟨rfl,t1,b1⟩;have N1:=Z3 (tW.out.below b1);have X1:=Z3 (HX0.out.below b1);have B1:=Z3 (YV HB0.out b1);have T1:=Z3 t1;have hbW:=tW.out.lt;have hW:=HB0.out.size;have x1:=X1.out.cl 1 _ rfl;clear t1 b1 tW HX0 HB0;go_wp2
  go_loopw [22] (fun vi wr=>∃(j:Nat) (v:Value),j≤sn∧vi=.int .i64 (j:Int)∧Hid (St wr b (So S (sn:Int) vd vp lim made vc cg c og o code vt zx cnt (en:Int)))∧Hid (St wr b3 [.int .i64 (f:Int),.int .i64 (sn:Int)])∧Hid (ZX w wr)∧Hid (UM wr W.heap.size (W.heap.size+1) W.heap.size v (U9 (f:Int) H O 0 j))∧Hid (W.heap.size+2≤wr.heap.size)) (fun i _=>sn - (intOf i).toNat)
  case atStart=>exact ⟨0,_,by omega,rfl,N1,X1,B1,T1,by have:=T1.out.box.1.1;show _≤_;omega⟩
  case round =>
   clear N1 X1 B1 T1;obtain ⟨j,v,hj,rfl,N2,X2,B2,T2,Z2⟩:=hrel
   by_cases hlt2:j<sn
   · have Vp:(j:Int)<(sn:Int):=by omega
     go_wp2_with fail
     rename_i Zg Zt;have U:=kX.out j hlt2;obtain ⟨V,hV⟩:∃V,V=(blk H j).map (Value.int .u8):=⟨_,rfl⟩;have HV:=Z3 hV;have UZ:Hid (V.length=64):=by rw [hV];show _=_;rw [XJ];exact U.1
     have tN:Hid (∀v ∈ V,v.oneCell'=true):=by rw [hV];exact Wf _ _
     clear hV;have Z5:Hid (∀(b6:Nat) (W':World),St W' b (So S (sn:Int) vd vp lim made vc cg c og o code vt zx cnt (en:Int))→St W' b3 [.int .i64 (f:Int),.int .i64 (sn:Int)]→ZX w W'→UM W' W.heap.size (W.heap.size+1) W.heap.size v (U9 (f:Int) H O 0 j)→W'.rangeAt b6 0 V→b6<W'.heap.size→wr.heap.size≤b6→wr.heap.size≤W'.heap.size→Zg { tmps:=#[.pointer (some ⟨b,0,none⟩),undef,.pointer none,.pointer (some ⟨b3,0,none⟩),.pointer (some ⟨W.heap.size+1,0,none⟩),.int .i64 (j:Int),.pointer (some ⟨b6,0,none⟩),u7,.pointer (some ⟨b,0,none⟩),.pointer (some ⟨b,0,none⟩),.pointer (some ⟨b,0,none⟩),.agg #[.int .i64 S,.int .i64 (sn:Int)],.pointer (some ⟨b,0,none⟩),.pointer (some ⟨b,0,none⟩),.pointer (some ⟨b,7,none⟩),.pointer (some ⟨b,8,none⟩),.pointer (some ⟨b,9,none⟩),.int .i64 c.b,.agg #[.int .i64 (f:Int),.int .i64 (sn:Int)],.pointer (some ⟨W.heap.size+1,0,none⟩),.pointer (some ⟨b3,1,none⟩),.int .i64 (sn:Int),.int .i64 (j:Int),.bool true,.int .i64 (j:Int),.pointer (some ⟨b,0,none⟩),.pointer (some ⟨b,0,none⟩),.pointer (some ⟨b,6,none⟩),vc,.pointer (some ⟨b3,0,none⟩),.int .i64 (f:Int),.int .i64 (j:Int),.int .i64 ((f:Int)+(j:Int)),.agg V.toArray,u34,u35,u36,u37,u38,u39,u40,u41,u42,u43,u44,u45,u46,u47,u48,u49,u50,u51,u52,u53,u54,u55,u56,undef],defers:=[] } W'):=by
      intro b6 W' hN hX hB hT hR h6 Yz ZY;refine Zt _ _ ?_;have HN:=Z3 hN;have HX:=Z3 hX;have HB:=Z3 hB;have HT:=Z3 hT;have HR:=Z3 hR;have hw1:IntKind.i64.wrap ((en:Int) - (j:Int)*64)=(en:Int) - (j:Int)*64:=by rw [XK];omega
      have hw2:IntKind.i64.wrap ((j:Int)*64)=(j:Int)*64:=by rw [XK];omega
      have hw3:IntKind.i64.wrap ((f:Int)+(j:Int))=(f:Int)+(j:Int):=by rw [XK];omega
      clear hN hX hB hT hR
      go_wp2_with (first | (refine WT rfl 117 _ rfl b6 0 rfl V _ HR.out Tryz.underlying117 rfl (YH _ UZ.out) ?_) | (refine WT rfl 117 _ rfl b6 0 rfl V _ (Jm HR.out _) Tryz.underlying117 rfl (YH _ UZ.out) ?_) | (refine DQ rfl 117 _ _ rfl W'.heap.size 0 V.toArray rfl rfl ?s1 ?s2 ?s3 (Hid.out ?wall)))
      case s1 =>
       have e:V.toArray.size=64:=by rw [Zm];exact UZ.out
       rw [e];exact Yc _ _ _ _ rfl
      case s2=>rw [Zm];exact YH _ UZ.out
      case s3=>exact Ru tN.out
      case wall =>
       unfold Hid;generalize ZO:World.setCells _ _ _ _=w7;have B7:Hid (ZX W' w7):=by subst ZO;exact below_setCells ZT _ _ _ (ZJ.alloc ZT _)
       have Z6:Hid (w7.rangeAt W'.heap.size 0 V):=by
        subst ZO;exact OM _ _ _ _ (Yc _ _ _ _ (by rw [UZ.out];rfl))
       have T7:Hid (w7.there W'.heap.size 0 64):=by
        subst ZO;exact World.there_setCells (Yc _ _ _ _ rfl) _ _ _
       clear ZO;have k23:=(HN.out.below B7.out).cl 23 _ rfl;obtain ⟨V8,ZI⟩:∃V8,V8=(blk O j).map (Value.int .u8):=⟨_,rfl⟩;have E:=Z3 ZI;have A:Hid ((blk O j).length=64):=by
        show _=_;rw [U.2,ZA,XU,U.1];unfold zeros;rw [Ju];omega
       have t:Hid (V8.length=64):=by show _=_;rw [ZI,XJ];exact A.out
       clear ZI
       by_cases hA:en<j*64
       · have Yx:(en:Int) - (j:Int)*64<0:=by omega
         obtain ⟨w8,hw8⟩:∃w8,w8=w7.setCells W'.heap.size 0 (List.replicate (64 - 0) (.int .u8 0)):=⟨_,rfl⟩;have UH:(Builtin.clear_ #[22] 0 #[.slice (some ⟨W'.heap.size,0,none⟩) 64 64]).run Tryz.prog w7=.ok (.tuple #[]) w8:=by rw [hw8];exact (sS w7 _ V UZ.out T7.out Z6.out 0 64 (by omega)).1
         have Z':Hid (w8.rangeAt W'.heap.size 0 V8):=by
          have e9:V8=V.take 0++List.replicate (64 - 0) (.int .u8 0):=by
           rw [E.out,U.2,show min (en - j*64) 64=0 by omega,HV.out,Wn,←zU];unfold zeros;rw [pE]
          rw [e9,hw8];exact (sS w7 _ V UZ.out T7.out Z6.out 0 64 (by omega)).2
         have Z:Hid (ZX W' w8):=by rw [hw8];exact below_setCells ZT _ _ _ B7.out
         clear hw8;have BY:=Z3 (YF HR.out (Z.out.block b6 h6));have x30:=(HX.out.below Z.out).cl 0 _ rfl;have N8:=Z3 (HN.out.below Z.out);have X8:=Z3 (HX.out.below Z.out);have T8:=Z3 (HT.out.below Z.out);have B8:=Z3 (YV HB.out Z.out);have z8:=ZF ZY Z.out.size
         by_cases heq:blk O j=blk H j
         · have Z8:∀w9:World,(Op.equalIn 10000 117 (.agg V8.toArray) (.agg V.toArray)).run Tryz.prog w9=.ok true w9:=fun w9=>by
            rw [E.out,HV.out,Ij w9 _ _ A.out U.1,Y3 heq]
           have RM:Hid (U9 (f:Int) H O 0 (j+1)=U9 (f:Int) H O 0 j):=by show _=_;rw [VN,ZZ heq.symm,TX]
           clear heq
           go_wp2_with (first | (refine WT rfl 117 _ rfl W'.heap.size 0 rfl V8 _ Z'.out Tryz.underlying117 rfl (YH _ t.out) ?_) | (refine WT rfl 117 _ rfl b6 0 rfl V _ BY.out Tryz.underlying117 rfl (YH _ UZ.out) ?_))
           go_roundw
           case rel=>exact ⟨j+1,v,by omega,by go_num,N8,X8,B8,by rw [RM.out];exact T8,by show _≤_;have:=Z2.out;omega⟩
           case measure=>simp [intOf];omega
         have Z8:∀w9:World,(Op.equalIn 10000 117 (.agg V8.toArray) (.agg V.toArray)).run Tryz.prog w9=.ok false w9:=fun w9=>by
          rw [E.out,HV.out,Ij w9 _ _ A.out U.1,YW heq]
         have RM:Hid (U9 (f:Int) H O 0 (j+1)=U9 (f:Int) H O 0 j++[((f:Int)+(j:Int),blk O j)]):=by show _=_;rw [VN,Z1 (fun e=>heq e.symm)]
         clear heq
         go_wp2_with (first | (refine WT rfl 117 _ rfl W'.heap.size 0 rfl V8 _ Z'.out Tryz.underlying117 rfl (YH _ t.out) ?_) | (refine WT rfl 117 _ rfl b6 0 rfl V _ BY.out Tryz.underlying117 rfl (YH _ UZ.out) ?_))
         have hpt:=Rh w8 W.heap.size _ _ v (U9 (f:Int) H O 0 j) ((f:Int)+(j:Int)) (blk O j) T8.out (by omega) (by omega) A.out (by have:=OY (f:Int) H O j 0;omega) (by have:=Z2.out;omega);rw [←E.out] at hpt;refine hpt.mono ?_;clear hpt;rintro e w9 ⟨rfl,⟨v',rs',hput,hT'⟩,hB',-⟩;have hrs:=QV hput (fun i hi=>by
          obtain ⟨q,-,h2,h3⟩:=OV (f:Int) H O j 0 i hi;rw [h3];omega)
         have T9:Hid (UM w9 W.heap.size (W.heap.size+1) W.heap.size v' (U9 (f:Int) H O 0 (j+1))):=by rw [RM.out,←hrs];exact hT'
         have N9:=Z3 (N8.out.Zc hB' hbW);have X9:=Z3 (X8.out.Zc hB' Z4);have B9:=Z3 (B8.out.trans (hB'.mono hW));have z9:=hB'.size;clear hput hT' hB' hrs RM Z8 UH x30;go_wp2
         go_roundw
         case rel=>exact ⟨j+1,v',by omega,by go_num,N9,X9,B9,T9,by show _≤_;have:=Z2.out;omega⟩
         case measure=>simp [intOf];omega
       obtain ⟨k,hk⟩:∃k,en=j*64+k:=⟨en - j*64,by omega⟩;have ZE:(en:Int) - (j:Int)*64=(k:Int):=by omega
       have HK:=Z3 hk;clear hk;rw [ZE] at hw1
       by_cases hB:k<64
       · have hBI:(k:Int)<64:=by omega
         have hB1:k≤64:=by omega
         have hB2:(k:Int)≤64:=by omega
         have hB3:¬64=k:=by omega
         have hB4:¬k=64:=by omega
         have Yv:¬(64 - k=0):=by omega
         have Ys:¬(64:Int)<(k:Int):=by omega
         obtain ⟨w8,hw8⟩:∃w8,w8=w7.setCells W'.heap.size k (List.replicate (64 - k) (.int .u8 0)):=⟨_,rfl⟩;have UH:(Builtin.clear_ #[22] 0 #[.slice (some ⟨W'.heap.size,k,none⟩) (64 - k) (64 - k)]).run Tryz.prog w7=.ok (.tuple #[]) w8:=by rw [hw8];exact (sS w7 _ V UZ.out T7.out Z6.out k _ hB).1
         have Z':Hid (w8.rangeAt W'.heap.size 0 V8):=by
          have e9:V8=V.take k++List.replicate (64 - k) (.int .u8 0):=by
           rw [E.out,U.2,show min (en - j*64) 64=k by have:=HK.out;omega,HV.out,Wn,←zU];unfold zeros;rw [pE]
          rw [e9,hw8];exact (sS w7 _ V UZ.out T7.out Z6.out k 64 (by omega)).2
         have Z:Hid (ZX W' w8):=by rw [hw8];exact below_setCells ZT _ _ _ B7.out
         clear hw8;have BY:=Z3 (YF HR.out (Z.out.block b6 h6));have x30:=(HX.out.below Z.out).cl 0 _ rfl;have N8:=Z3 (HN.out.below Z.out);have X8:=Z3 (HX.out.below Z.out);have T8:=Z3 (HT.out.below Z.out);have B8:=Z3 (YV HB.out Z.out);have z8:=ZF ZY Z.out.size
         by_cases heq:blk O j=blk H j
         · have Z8:∀w9:World,(Op.equalIn 10000 117 (.agg V8.toArray) (.agg V.toArray)).run Tryz.prog w9=.ok true w9:=fun w9=>by
            rw [E.out,HV.out,Ij w9 _ _ A.out U.1,Y3 heq]
           have RM:Hid (U9 (f:Int) H O 0 (j+1)=U9 (f:Int) H O 0 j):=by show _=_;rw [VN,ZZ heq.symm,TX]
           clear heq
           go_wp2_with (first | (refine WT rfl 117 _ rfl W'.heap.size 0 rfl V8 _ Z'.out Tryz.underlying117 rfl (YH _ t.out) ?_) | (refine WT rfl 117 _ rfl b6 0 rfl V _ BY.out Tryz.underlying117 rfl (YH _ UZ.out) ?_))
           go_roundw
           case rel=>exact ⟨j+1,v,by omega,by go_num,N8,X8,B8,by rw [RM.out];exact T8,by show _≤_;have:=Z2.out;omega⟩
           case measure=>simp [intOf];omega
         have Z8:∀w9:World,(Op.equalIn 10000 117 (.agg V8.toArray) (.agg V.toArray)).run Tryz.prog w9=.ok false w9:=fun w9=>by
          rw [E.out,HV.out,Ij w9 _ _ A.out U.1,YW heq]
         have RM:Hid (U9 (f:Int) H O 0 (j+1)=U9 (f:Int) H O 0 j++[((f:Int)+(j:Int),blk O j)]):=by show _=_;rw [VN,Z1 (fun e=>heq e.symm)]
         clear heq
         go_wp2_with (first | (refine WT rfl 117 _ rfl W'.heap.size 0 rfl V8 _ Z'.out Tryz.underlying117 rfl (YH _ t.out) ?_) | (refine WT rfl 117 _ rfl b6 0 rfl V _ BY.out Tryz.underlying117 rfl (YH _ UZ.out) ?_))
         have hpt:=Rh w8 W.heap.size _ _ v (U9 (f:Int) H O 0 j) ((f:Int)+(j:Int)) (blk O j) T8.out (by omega) (by omega) A.out (by have:=OY (f:Int) H O j 0;omega) (by have:=Z2.out;omega);rw [←E.out] at hpt;refine hpt.mono ?_;clear hpt;rintro e w9 ⟨rfl,⟨v',rs',hput,hT'⟩,hB',-⟩;have hrs:=QV hput (fun i hi=>by
          obtain ⟨q,-,h2,h3⟩:=OV (f:Int) H O j 0 i hi;rw [h3];omega)
         have T9:Hid (UM w9 W.heap.size (W.heap.size+1) W.heap.size v' (U9 (f:Int) H O 0 (j+1))):=by rw [RM.out,←hrs];exact hT'
         have N9:=Z3 (N8.out.Zc hB' hbW);have X9:=Z3 (X8.out.Zc hB' Z4);have B9:=Z3 (B8.out.trans (hB'.mono hW));have z9:=hB'.size;clear hput hT' hB' hrs RM Z8 UH x30;go_wp2
         go_roundw
         case rel=>exact ⟨j+1,v',by omega,by go_num,N9,X9,B9,T9,by show _≤_;have:=Z2.out;omega⟩
         case measure=>simp [intOf];omega
       by_cases hC:k=64
       · subst hC
         have ZE:(en:Int) - (j:Int)*64=64:=ZE;have hw1:IntKind.i64.wrap 64=64:=hw1;obtain ⟨w8,hw8⟩:∃w8,w8=w7:=⟨_,rfl⟩;have UH:(Builtin.clear_ #[22] 0 #[.slice (some ⟨W'.heap.size,0,none⟩) 0 0]).run Tryz.prog w7=.ok (.tuple #[]) w8:=by rw [hw8];exact kA _ _
         have Z':Hid (w8.rangeAt W'.heap.size 0 V8):=by
          have h8:V8=V:=by
           rw [E.out,U.2,show min (en - j*64) 64=64 by have:=HK.out;omega,Wv (by rw [U.1];omega),HV.out]
           simp [zeros]
          rw [h8,hw8];exact Z6.out
         have Z:Hid (ZX W' w8):=by rw [hw8];exact B7.out
         clear hw8;have BY:=Z3 (YF HR.out (Z.out.block b6 h6));have x30:=(HX.out.below Z.out).cl 0 _ rfl;have N8:=Z3 (HN.out.below Z.out);have X8:=Z3 (HX.out.below Z.out);have T8:=Z3 (HT.out.below Z.out);have B8:=Z3 (YV HB.out Z.out);have z8:=ZF ZY Z.out.size
         by_cases heq:blk O j=blk H j
         · have Z8:∀w9:World,(Op.equalIn 10000 117 (.agg V8.toArray) (.agg V.toArray)).run Tryz.prog w9=.ok true w9:=fun w9=>by
            rw [E.out,HV.out,Ij w9 _ _ A.out U.1,Y3 heq]
           have RM:Hid (U9 (f:Int) H O 0 (j+1)=U9 (f:Int) H O 0 j):=by show _=_;rw [VN,ZZ heq.symm,TX]
           clear heq
           go_wp2_with (first | (refine WT rfl 117 _ rfl W'.heap.size 0 rfl V8 _ Z'.out Tryz.underlying117 rfl (YH _ t.out) ?_) | (refine WT rfl 117 _ rfl b6 0 rfl V _ BY.out Tryz.underlying117 rfl (YH _ UZ.out) ?_))
           go_roundw
           case rel=>exact ⟨j+1,v,by omega,by go_num,N8,X8,B8,by rw [RM.out];exact T8,by show _≤_;have:=Z2.out;omega⟩
           case measure=>simp [intOf];omega
         have Z8:∀w9:World,(Op.equalIn 10000 117 (.agg V8.toArray) (.agg V.toArray)).run Tryz.prog w9=.ok false w9:=fun w9=>by
          rw [E.out,HV.out,Ij w9 _ _ A.out U.1,YW heq]
         have RM:Hid (U9 (f:Int) H O 0 (j+1)=U9 (f:Int) H O 0 j++[((f:Int)+(j:Int),blk O j)]):=by show _=_;rw [VN,Z1 (fun e=>heq e.symm)]
         clear heq
         go_wp2_with (first | (refine WT rfl 117 _ rfl W'.heap.size 0 rfl V8 _ Z'.out Tryz.underlying117 rfl (YH _ t.out) ?_) | (refine WT rfl 117 _ rfl b6 0 rfl V _ BY.out Tryz.underlying117 rfl (YH _ UZ.out) ?_))
         have hpt:=Rh w8 W.heap.size _ _ v (U9 (f:Int) H O 0 j) ((f:Int)+(j:Int)) (blk O j) T8.out (by omega) (by omega) A.out (by have:=OY (f:Int) H O j 0;omega) (by have:=Z2.out;omega);rw [←E.out] at hpt;refine hpt.mono ?_;clear hpt;rintro e w9 ⟨rfl,⟨v',rs',hput,hT'⟩,hB',-⟩;have hrs:=QV hput (fun i hi=>by
          obtain ⟨q,-,h2,h3⟩:=OV (f:Int) H O j 0 i hi;rw [h3];omega)
         have T9:Hid (UM w9 W.heap.size (W.heap.size+1) W.heap.size v' (U9 (f:Int) H O 0 (j+1))):=by rw [RM.out,←hrs];exact hT'
         have N9:=Z3 (N8.out.Zc hB' hbW);have X9:=Z3 (X8.out.Zc hB' Z4);have B9:=Z3 (B8.out.trans (hB'.mono hW));have z9:=hB'.size;clear hput hT' hB' hrs RM Z8 UH x30;go_wp2
         go_roundw
         case rel=>exact ⟨j+1,v',by omega,by go_num,N9,X9,B9,T9,by show _≤_;have:=Z2.out;omega⟩
         case measure=>simp [intOf];omega
       have Yp:(64:Int)<(k:Int):=by omega
       obtain ⟨w8,hw8⟩:∃w8,w8=w7:=⟨_,rfl⟩;have UH:(Builtin.clear_ #[22] 0 #[.slice (some ⟨W'.heap.size,0,none⟩) 0 0]).run Tryz.prog w7=.ok (.tuple #[]) w8:=by rw [hw8];exact kA _ _
       have Z':Hid (w8.rangeAt W'.heap.size 0 V8):=by
        have h8:V8=V:=by
         rw [E.out,U.2,show min (en - j*64) 64=64 by have:=HK.out;omega,Wv (by rw [U.1];omega),HV.out]
         simp [zeros]
        rw [h8,hw8];exact Z6.out
       have Z:Hid (ZX W' w8):=by rw [hw8];exact B7.out
       clear hw8;have BY:=Z3 (YF HR.out (Z.out.block b6 h6));have x30:=(HX.out.below Z.out).cl 0 _ rfl;have N8:=Z3 (HN.out.below Z.out);have X8:=Z3 (HX.out.below Z.out);have T8:=Z3 (HT.out.below Z.out);have B8:=Z3 (YV HB.out Z.out);have z8:=ZF ZY Z.out.size
       by_cases heq:blk O j=blk H j
       · have Z8:∀w9:World,(Op.equalIn 10000 117 (.agg V8.toArray) (.agg V.toArray)).run Tryz.prog w9=.ok true w9:=fun w9=>by
          rw [E.out,HV.out,Ij w9 _ _ A.out U.1,Y3 heq]
         have RM:Hid (U9 (f:Int) H O 0 (j+1)=U9 (f:Int) H O 0 j):=by show _=_;rw [VN,ZZ heq.symm,TX]
         clear heq
         go_wp2_with (first | (refine WT rfl 117 _ rfl W'.heap.size 0 rfl V8 _ Z'.out Tryz.underlying117 rfl (YH _ t.out) ?_) | (refine WT rfl 117 _ rfl b6 0 rfl V _ BY.out Tryz.underlying117 rfl (YH _ UZ.out) ?_))
         go_roundw
         case rel=>exact ⟨j+1,v,by omega,by go_num,N8,X8,B8,by rw [RM.out];exact T8,by show _≤_;have:=Z2.out;omega⟩
         case measure=>simp [intOf];omega
       have Z8:∀w9:World,(Op.equalIn 10000 117 (.agg V8.toArray) (.agg V.toArray)).run Tryz.prog w9=.ok false w9:=fun w9=>by
        rw [E.out,HV.out,Ij w9 _ _ A.out U.1,YW heq]
       have RM:Hid (U9 (f:Int) H O 0 (j+1)=U9 (f:Int) H O 0 j++[((f:Int)+(j:Int),blk O j)]):=by show _=_;rw [VN,Z1 (fun e=>heq e.symm)]
       clear heq
       go_wp2_with (first | (refine WT rfl 117 _ rfl W'.heap.size 0 rfl V8 _ Z'.out Tryz.underlying117 rfl (YH _ t.out) ?_) | (refine WT rfl 117 _ rfl b6 0 rfl V _ BY.out Tryz.underlying117 rfl (YH _ UZ.out) ?_))
       have hpt:=Rh w8 W.heap.size _ _ v (U9 (f:Int) H O 0 j) ((f:Int)+(j:Int)) (blk O j) T8.out (by omega) (by omega) A.out (by have:=OY (f:Int) H O j 0;omega) (by have:=Z2.out;omega);rw [←E.out] at hpt;refine hpt.mono ?_;clear hpt;rintro e w9 ⟨rfl,⟨v',rs',hput,hT'⟩,hB',-⟩;have hrs:=QV hput (fun i hi=>by
        obtain ⟨q,-,h2,h3⟩:=OV (f:Int) H O j 0 i hi;rw [h3];omega)
       have T9:Hid (UM w9 W.heap.size (W.heap.size+1) W.heap.size v' (U9 (f:Int) H O 0 (j+1))):=by rw [RM.out,←hrs];exact hT'
       have N9:=Z3 (N8.out.Zc hB' hbW);have X9:=Z3 (X8.out.Zc hB' Z4);have B9:=Z3 (B8.out.trans (hB'.mono hW));have z9:=hB'.size;clear hput hT' hB' hrs RM Z8 UH x30;go_wp2
       go_roundw
       case rel=>exact ⟨j+1,v',by omega,by go_num,N9,X9,B9,T9,by show _≤_;have:=Z2.out;omega⟩
       case measure=>simp [intOf];omega
     have ZN:Hid (St wr.drew b (So S (sn:Int) vd vp lim made vc cg c og o code vt zx cnt (en:Int))):=N2.out.below (below_drewN' wr 1);have ZK:Hid (St wr.drew b3 [.int .i64 (f:Int),.int .i64 (sn:Int)]):=X2.out.below (below_drewN' wr 1);have ZD:Hid (ZX w wr.drew):=B2.out.trans ((below_drewN' wr 1).mono B2.out.size);have ZC:Hid (UM wr.drew W.heap.size (W.heap.size+1) W.heap.size v (U9 (f:Int) H O 0 j)):=T2.out.below (below_drewN' wr 1);have hwd:wr.drew.heap.size=wr.heap.size:=rfl;have hw3:IntKind.i64.wrap ((f:Int)+(j:Int))=(f:Int)+(j:Int):=by rw [XK];omega
     refine ZH (S:=fun W9=>St W9 b (So S (sn:Int) vd vp lim made vc cg c og o code vt zx cnt (en:Int))∧St W9 b3 [.int .i64 (f:Int),.int .i64 (sn:Int)]) (by kernel_rfl) ⟨ZN.out,ZK.out⟩ (fun Z9=>?_);refine ZW ?Yo (by kernel_rfl) (fun _=>id) Z9 ?hz1 ?YR
     case hz1 =>
      intro w9 Z0;have k6:=Z0.1.cl 6 _ rfl;have y0:=Z0.2.cl 0 _ rfl;clear Z0;go_simp
      try with_reducible rfl
     refine ZW ?Yn (by kernel_rfl) (fun _=>id) Z9 ?hz2 ?YQ
     case hz2 =>
      intro w9 Z0;have k6:=Z0.1.cl 6 _ rfl;have y0:=Z0.2.cl 0 _ rfl;clear Z0;go_simp
      try with_reducible rfl
     refine ZW ?Ym (by kernel_rfl) (fun _=>id) Z9 ?hz3 ?YP
     case hz3 =>
      intro w9 Z0;have k6:=Z0.1.cl 6 _ rfl;have y0:=Z0.2.cl 0 _ rfl;clear Z0;go_simp
      try with_reducible rfl
     refine ZW vc (by kernel_rfl) (fun _=>id) Z9 ?qO ?YN
     case qO =>
      intro w9 Z0;have k6:=Z0.1.cl 6 _ rfl;have y0:=Z0.2.cl 0 _ rfl;clear Z0;go_simp
     refine ZW ?Yl (by kernel_rfl) (fun _=>id) Z9 ?Zf ?YL
     case Zf =>
      intro w9 Z0;have k6:=Z0.1.cl 6 _ rfl;have y0:=Z0.2.cl 0 _ rfl;clear Z0;go_simp
      try with_reducible rfl
     refine ZW (.int .i64 (f:Int)) (by kernel_rfl) (fun _=>id) Z9 ?Ze ?YG
     case Ze =>
      intro w9 Z0;have k6:=Z0.1.cl 6 _ rfl;have y0:=Z0.2.cl 0 _ rfl;clear Z0;go_simp
     refine ZW ?Yk (by kernel_rfl) (fun _=>id) Z9 ?Zb ?YE
     case Zb =>
      intro w9 Z0;have k6:=Z0.1.cl 6 _ rfl;have y0:=Z0.2.cl 0 _ rfl;clear Z0;go_simp
      try with_reducible rfl
     refine ZW (.int .i64 ((f:Int)+(j:Int))) (by kernel_rfl) (fun _=>id) Z9 ?Y' ?YD
     case Y' =>
      intro w9 Z0;have k6:=Z0.1.cl 6 _ rfl;have y0:=Z0.2.cl 0 _ rfl;clear Z0;go_simp
     clear Z9;generalize wr.drew=wd at *;refine UY 8 9 rfl rfl (by kernel_rfl) (fun K hK=>?_) (fun K hK=>?_)
     · go_simp
       refine (kE.out wd j hlt2 ZD.out).mono ?_;rintro e w1 ⟨rfl,b1⟩;rw [←HV.out];have N3:=ZN.out.below b1;have X3:=ZK.out.below b1;refine hK.out _ _ ⟨N3,X3⟩ (fun ZM=>?_);clear hK K ZM;have B3:=YV ZD.out b1;have T3:=ZC.out.below b1;have z3:=b1.size;refine ZU 9 rfl (by kernel_rfl) (fun K hK=>?_);go_simp;refine hK.out _ _ ⟨N3.below (ZJ.alloc ZT _),X3.below (ZJ.alloc ZT _)⟩ (fun ZM=>?_);clear hK K ZM;generalize Aj:World.alloc _ _=w4;have b4:ZX w1 w4:=by subst Aj;exact ZJ.alloc ZT _
       have t4:w4.there w1.heap.size 0 64:=by subst Aj;exact Yc _ _ _ _ rfl
       have s4:w1.heap.size<w4.heap.size:=by subst Aj;simp
       clear Aj;refine ZU 10 rfl (by kernel_rfl) (fun K hK=>?_);have hb5:ZX w1 (w4.setCells w1.heap.size 0 V):=below_setCells ZT _ _ _ b4;refine Ve rfl 117 _ _ rfl w1.heap.size 0 V.toArray rfl rfl ?t1 ?t2 (Ru tN.out) ?_
       case t1 =>
        have e:V.toArray.size=64:=by rw [Zm];exact UZ.out
        rw [e];exact t4
       case t2=>rw [Zm];exact YH _ UZ.out
       refine hK.out _ _ ⟨N3.below hb5,X3.below hb5⟩ (fun ZM=>?_);clear hK K ZM
       try simp only [Act.put]
       refine ZP (by kernel_rfl) ?_ _
       try simp only [Act.put,Y8,Y7,Y6]
       exact Z5.out _ _ (N3.below hb5) (X3.below hb5) (YV B3 hb5) (T3.below hb5) (OM _ _ _ _ (by rw [UZ.out];exact t4)) (by rw [XT];exact s4) (by omega) (by rw [XT];omega)
     go_simp;refine hK.out _ _ ⟨ZN.out.below (ZJ.alloc ZT _),ZK.out.below (ZJ.alloc ZT _)⟩ (fun ZM=>?_);clear hK K ZM;generalize Aj:World.alloc _ _=w4;have b4:ZX wd w4:=by subst Aj;exact ZJ.alloc ZT _
     have t4:w4.there wr.heap.size 0 64:=by subst Aj;rw [←hwd];exact Yc _ _ _ _ rfl
     have s4:wr.heap.size<w4.heap.size:=by subst Aj;simp;omega
     clear Aj;have B4:=YV ZD.out b4;refine ZU 8 rfl (by kernel_rfl) (fun K hK=>?_);go_simp;refine (kE.out w4 j hlt2 B4).mono ?_;rintro e w5 ⟨rfl,b5⟩;rw [←HV.out];have N5:=(ZN.out.below b4).below b5;have X5:=(ZK.out.below b4).below b5;have T5:=(ZC.out.below b4).below b5;have B5:=YV B4 b5;have t5:=BQ t4 (b5.block _ s4);have z5:=b5.size;refine hK.out _ _ ⟨N5,X5⟩ (fun ZM=>?_);clear hK K ZM;refine ZU 10 rfl (by kernel_rfl) (fun K hK=>?_);have Y5:=X2.out.lt;have hbr:=N2.out.lt;have hb6:Below wr.heap.size w5 (w5.setCells wr.heap.size 0 V):=below_setCells ZT _ _ _ ZJ;have N6:=N5.Zc hb6 hbr;have X6:=X5.Zc hb6 Y5;have Y4:=((b4.mono (Mr hwd.symm)).trans (b5.mono (by omega))).trans hb6;have T6:=ZC.out.below (Y4.mono (Mr hwd));refine Ve rfl 117 _ _ rfl wr.heap.size 0 V.toArray rfl rfl ?t1 ?t2 (Ru tN.out) ?_
     case t1 =>
      have e:V.toArray.size=64:=by rw [Zm];exact UZ.out
      rw [e];exact t5
     case t2=>rw [Zm];exact YH _ UZ.out
     refine hK.out _ _ ⟨N6,X6⟩ (fun ZM=>?_);clear hK K ZM
     try simp only [Act.put]
     refine ZP (by kernel_rfl) ?_ _
     try simp only [Act.put,Y8,Y7,Y6]
     exact Z5.out _ _ N6 X6 (B5.trans (hb6.mono (by have:=B2.out.size;omega))) T6 (OM _ _ _ _ (by rw [UZ.out];exact t5)) (by rw [XT];omega) ZT (by rw [XT];omega)
   have Vp:¬(j:Int)<(sn:Int):=by omega
   have hjn:j=sn:=by omega
   subst hjn;go_wp2;go_ret;exact ⟨_,_,_,rfl,T2.out.kz hW,B2.out⟩
 have Sd:Hid (St w.drew b (So S (sn:Int) vd vp lim made vc cg c og o code vt zx cnt (en:Int))):=HS.out.Zc (below_drewN' w 1) hlt;have hwd:w.drew.heap.size=w.heap.size:=rfl;have Bd:Hid (ZX w w.drew):=below_drewN' w 1;refine ZH (S:=fun W=>St W b (So S (sn:Int) vd vp lim made vc cg c og o code vt zx cnt (en:Int))) (by kernel_rfl) (Sd.out) (fun Z9=>?_)
 iterate 10 (refine ZW ?_ (by kernel_rfl) (fun _=>id) Z9 ?_ ?_;rotate_left;· intro w9 Z0;have k0:=Z0.cl 0 _ rfl;have k1:=Z0.cl 1 _ rfl;have k9:=Z0.cl 9 _ rfl;clear Z0;go_simp;try with_reducible rfl)
 clear Z9;generalize w.drew=wd at *;refine UY 10 11 rfl rfl (by kernel_rfl) (fun K hK=>?_) (fun K hK=>?_)
 · skip
   go_simp;refine (Sn.out _).mono ?_;rintro e w1 ⟨rfl,b1⟩;have N1:=Sd.out.below b1;refine hK.out _ _ N1 (fun ZM=>?_);clear hK K ZM;refine ZU 11 rfl (by kernel_rfl) (fun K hK=>?_);have bA:ZX w1 (w1.alloc (.cells #[.int .i64 0,.int .i64 0] 111)):=ZJ.alloc ZT _;have N2:=N1.below bA;have X2:St (w1.alloc (.cells #[.int .i64 0,.int .i64 0] 111)) w1.heap.size [.int .i64 0,.int .i64 0]:=St.new _ _ _;have B2:=(Bd.out.trans (b1.mono (by omega))).trans (bA.mono (by have:=b1.size;omega));have hbl:=N1.lt;have hbw:w.heap.size≤w1.heap.size:=by have:=b1.size;omega
   clear bA b1;go_simp;refine hK.out _ _ N2 (fun ZM=>?_);clear hK K ZM N1;generalize w1.alloc _=W2 at *;have p0:=X2.cl 0 _ rfl;have p1:=X2.cl 1 _ rfl;have ZB:=X2.fz 0;have Zy:=X2.fz 1;have N3:St ((W2.setCell ⟨w1.heap.size,0,none⟩ (.int .i64 (f:Int))).setCell ⟨w1.heap.size,1,none⟩ (.int .i64 (sn:Int))) b (So S (sn:Int) vd vp lim made vc cg c og o code vt zx cnt (en:Int)):=(N2.other (by omega)).other (by omega);have X3:St ((W2.setCell ⟨w1.heap.size,0,none⟩ (.int .i64 (f:Int))).setCell ⟨w1.heap.size,1,none⟩ (.int .i64 (sn:Int))) w1.heap.size [.int .i64 (f:Int),.int .i64 (sn:Int)]:=(X2.set 0 _).set 1 _;have B3:ZX w ((W2.setCell ⟨w1.heap.size,0,none⟩ (.int .i64 (f:Int))).setCell ⟨w1.heap.size,1,none⟩ (.int .i64 (sn:Int))):=(B2.setCell (by show w.heap.size≤w1.heap.size;omega) _).setCell (by show w.heap.size≤w1.heap.size;omega) _;refine ZU 12 rfl (by kernel_rfl) (fun K hK=>?_);go_simp;refine hK.out _ _ N3 (fun ZM=>?_);clear hK K ZM N2 X2 B2 p0 p1 ZB Zy;refine ZP (by kernel_rfl) ?_ _
   try simp only [Act.put,Y8,Y7,Y6]
   generalize ((W2.setCell _ _).setCell _ _)=W3 at *;exact REST.out _ W3 N3 X3 B3 hbw
 skip
 have bA:ZX wd (wd.alloc (.cells #[.int .i64 0,.int .i64 0] 111)):=ZJ.alloc ZT _;have N1:=Sd.out.below bA;have X1:St (wd.alloc (.cells #[.int .i64 0,.int .i64 0] 111)) w.heap.size [.int .i64 0,.int .i64 0]:=by
  have h9:=St.new wd #[.int .i64 0,.int .i64 0] 111;rw [hwd] at h9;exact h9
 have hbl:=hlt;have B1:=Bd.out.trans (bA.mono (by omega));clear bA;go_simp;refine hK.out _ _ N1 (fun ZM=>?_);clear hK K ZM;generalize wd.alloc _=w1 at *;refine ZU 10 rfl (by kernel_rfl) (fun K hK=>?_);go_simp;refine (Sn.out _).mono ?_;rintro e W2 ⟨rfl,b2⟩;have N2:=N1.below b2;have X2:=X1.below b2;have B2:=YV B1 b2;have hbw:w.heap.size≤w.heap.size:=ZT;refine hK.out _ _ N2 (fun ZM=>?_);clear hK K ZM N1 X1 b2 B1;have p0:=X2.cl 0 _ rfl;have p1:=X2.cl 1 _ rfl;have ZB:=X2.fz 0;have Zy:=X2.fz 1;have N3:St ((W2.setCell ⟨w.heap.size,0,none⟩ (.int .i64 (f:Int))).setCell ⟨w.heap.size,1,none⟩ (.int .i64 (sn:Int))) b (So S (sn:Int) vd vp lim made vc cg c og o code vt zx cnt (en:Int)):=(N2.other (by omega)).other (by omega);have X3:St ((W2.setCell ⟨w.heap.size,0,none⟩ (.int .i64 (f:Int))).setCell ⟨w.heap.size,1,none⟩ (.int .i64 (sn:Int))) w.heap.size [.int .i64 (f:Int),.int .i64 (sn:Int)]:=(X2.set 0 _).set 1 _;have B3:ZX w ((W2.setCell ⟨w.heap.size,0,none⟩ (.int .i64 (f:Int))).setCell ⟨w.heap.size,1,none⟩ (.int .i64 (sn:Int))):=(B2.setCell (by show w.heap.size≤w.heap.size;omega) _).setCell (by show w.heap.size≤w.heap.size;omega) _;refine ZU 12 rfl (by kernel_rfl) (fun K hK=>?_);go_simp;refine hK.out _ _ N3 (fun ZM=>?_);clear hK K ZM N2 X2 B2 p0 p1 ZB Zy;refine ZP (by kernel_rfl) ?_ _
 try simp only [Act.put,Y8,Y7,Y6]
 generalize ((W2.setCell _ _).setCell _ _)=W3 at *;exact REST.out _ W3 N3 X3 B3 hbw
attribute [local go_sem] VA
theorem Do {Za:Int} (hf:NM S L ZQ.length ps=true) (hb:0≤Za∧Za≤1):gW ZQ ps S L Za true=PC (Qq ZQ ps) (VJ S L Za true).toNat L.toNat:=by
 have ho:Im S L ZQ.length ps Za=true:=by unfold Im;rw [hf];simpa using hb
 unfold gW;rw [ZZ ho]
 rfl
theorem sR (h:Kw S ys=true):Qf S ys=tf ys:=ZZ h
theorem oe (h:Kw S ys=false):Qf S ys=⟨0,0,0,0,0⟩:=Z1 (by rw [h];simp)
def gQ (w:World) (row:Option Nat) (w':World):Prop:=w.heap.size≤w'.heap.size∧∀b,b<w.heap.size→some b≠row→w'.heap[b]?=w.heap[b]?
theorem Wc.Pj {hi:Nat} {vd vp:Value} {dv:Nat→Value} (k:Wc w lo hi vd vp ZQ ps dv) (ho:gQ w row w') (hne:∀g,row=some g→vd.ownBlock≠some g∧vp.ownBlock≠some g∧∀i,i<ps.length→(dv i).ownBlock≠some g):Wc w' lo hi vd vp ZQ ps dv:=by
 have key:∀ {e:TypeId} {m n:Nat} {v:Value} {us:List Value},w.ownsRow lo e m v n us→(∀g,row=some g→v.ownBlock≠some g)→w'.ownsRow lo e m v n us:=by
  intro e m n v us h h2;refine ⟨h.1,?_⟩
  rcases h.2 with hn | ⟨g,cap,cur,rfl,hbg,hgg,rest⟩
  · exact .inl hn
  exact .inr ⟨g,cap,cur,rfl,hbg,(ho.2 g (Yh.1 hgg).1 (fun e=>h2 g e.symm rfl)).trans hgg,rest⟩
 exact ⟨key k.d (fun g hg=>(hne g hg).1),⟨key k.p.1 (fun g hg=>(hne g hg).2.1),fun i hi=>(k.p.2.1 i hi).elim fun te h=>⟨te,key h (fun g hg=>(hne g hg).2.2 i hi)⟩,k.p.2.2.1,k.p.2.2.2⟩,k.me,k.pn,k.iU,k.dp,k.dq⟩
theorem St.xJ {L:List Value} (h:St W b L) (hg:W.grownBy W' row) (hne:some b≠row):St W' b L:=by
 have e:=hg.block b h.lt hne;refine ⟨ZL h.lt hg.size,fun j=>?_,fun j v hv=>(Zj (w:=W) (a:=⟨b,j,none⟩) e).trans (h.cl j v hv)⟩;have:=h.fz j;unfold World.frozen? at this ⊢;rw [e];exact this
theorem Tw.Pj (h:Tw w b none w' none):gQ w (some b) w':=⟨h.size,fun q hq hne=>h.block q hq (fun e=>hne (by rw [e])) (by simp)⟩
theorem Own.Pj (h:Own .u8 5 w lo v xs) (ho:gQ w row w') (hne:∀g,row=some g→v.ownBlock≠some g):Own .u8 5 w' lo v xs:=by
 refine ⟨h.1,?_⟩
 rcases h.2 with hn | ⟨g,cap,cur,rfl,hbg,hgg,rest⟩
 · exact .inl hn
 exact .inr ⟨g,cap,cur,rfl,hbg,(ho.2 g (Yh.1 hgg).1 (fun e=>hne g e.symm rfl)).trans hgg,rest⟩
theorem BP (w:World) (tb:Nat) (v:Value) (rs:List (Int × List Int)) (c0:w.cell? ⟨tb,0,none⟩=some v) (hv:∃a c,v=.slice a rs.length c) :
    Calls Tryz.prog 90 #[.pointer (some ⟨tb,0,none⟩)] w (YI w (.bool ((rs.length:Int) == 0))):=by
 obtain ⟨a,c,rfl⟩:=hv;have B0:Hid (ZX w w):=ZJ
 go_enter Tryz.func90,Tryz.ntmps90
 go_wp2;go_ret;exact ⟨rfl,B0.out⟩
def Kt (P:Value) (S L:Int) (vd vp:Value) (made:Int):List Value:=[P,.int .i64 S,.int .i64 L,vd,vp,.int .i64 (-1),.int .i64 made,.slice none 0 0]
structure Gr (r0:Option Nat) (sB:Nat) (w0 w:World):Prop where
 os:w.os=w0.os
 tape:w.tape=w0.tape
 output:w.output=w0.output
 size:w0.heap.size≤w.heap.size
 block:∀q,q<w0.heap.size→q≠sB→some q≠r0→w.heap[q]?=w0.heap[q]?
theorem Gr.refl (w:World):Gr r0 sB w w:=⟨rfl,rfl,rfl,ZT,fun _ _ _ _=>rfl⟩
theorem Gr.gb (h:Gr none sB w0 w):w0.grownBy w (some sB):=⟨h.os,h.tape,h.output,h.size,fun q hq hn=>h.block q hq (fun e=>hn (by rw [e])) (by simp)⟩
def Ph (r0:Option Nat) (w0:World) (sB:Nat) (P:Value) (S L:Int) (v0:Value) (k:Nat) (w:World):Prop :=
 ∃vd vp made ZQ ps dv,St w sB (Kt P S L vd vp made)∧Wc w (sB+1) w.heap.size vd vp ZQ ps dv∧ZQ.length≤1048576∧ps.length≤k∧(∀i,(pD ps i).length≤1048576)∧(0≤made∧made≤k) ∧
  (∀g,vp.ownBlock=some g→w0.heap.size≤g∨some g=r0)∧(vd=v0∨∀g,vd.ownBlock=some g→w0.heap.size≤g)∧Gr r0 sB w0 w∧sB<w0.heap.size
def Pq (r0:Option Nat) (w0:World) (sB:Nat) (P:Value) (S L:Int) (v0:Value) (k:Nat) (w:World):Prop :=
 ∃vd made ZQ,St w sB (Kt P S L vd (.slice none 0 0) made)∧Own .u8 5 w (sB+1) vd ZQ∧ZQ.length≤1048576∧(0≤made∧made≤k)∧(vd=v0∨∀g,vd.ownBlock=some g→w0.heap.size≤g)∧Gr r0 sB w0 w∧sB<w0.heap.size
theorem sQ {C:List Int} (h:∀i,(pD ps i).length≤n) (hC:C.length≤n):∀i,(pD (ps++[(x,C)]) i).length≤n:=by
 intro i;unfold pD at *
 rcases Nat.lt_trichotomy i ps.length with h1 | h1 | h1
 · have:=h i
   rw [CG] at this ⊢;rw [Wd h1];exact this
 · rw [CG,VG (by omega),h1,PN];exact hC
 rw [CG,MX (by simp;omega)];exact Zu _
structure KW (sB:Nat) (w w':World):Prop where
 size:w.heap.size≤w'.heap.size
 block:∀q,q<w.heap.size→q≠sB→(∀cs z,w.heap[q]?≠some (.cells cs 132 z))→w'.heap[q]?=w.heap[q]?
theorem KW.trans (h:KW sB w w1) (h':KW sB w1 w2):KW sB w w2 :=
 ⟨ZF h.size h'.size,fun q hq hs hn=>have e:=h.block q hq hs hn
  (h'.block q (ZL hq h.size) hs (by rw [e];exact hn)).trans e⟩
theorem KW.below (h:ZX w w'):KW sB w w':=⟨h.size,fun q hq _ _=>h.block q hq⟩
theorem KW.tw {xs:List Value} {o:Option Nat} (h:Tw w sB v.ownBlock w' o) (hr:w.ownsRow lo 132 z v n xs):KW sB w w':=by
 refine ⟨h.size,fun q hq hs hn=>h.block q hq hs (fun e=>?_)⟩
 rcases hr.2 with ⟨rfl,-⟩ | ⟨g,cap,cur,rfl,hb,hg,hx⟩
 · cases e
 simp only [Value.ownBlock,Zo] at e
 subst e;exact absurd hg (hn _ _)
section
variable {r0:Option Nat} {w0 w:World} {sB k:Nat} {P v0:Value} {S L:Int}
theorem Pq.ph (h:Pq r0 w0 sB P S L v0 k w):Ph r0 w0 sB P S L v0 k w:=by
 obtain ⟨vd,made,ZQ,h1,h2,h3,h4,h5,h6,h7⟩:=h;exact ⟨vd,_,made,ZQ,[],_,h1,LK h2,h3,Zu _,fun i=>by simp [pD],h4,fun g hg=>by simp [Value.ownBlock] at hg,h5,h6,h7⟩
theorem Ph.below (h:Ph r0 w0 sB P S L v0 k w) (hb:ZX w w'):Ph r0 w0 sB P S L v0 k w':=by
 obtain ⟨vd,vp,made,ZQ,ps,dv,h1,h2,h3,h4,h5,h6,h7,h8,h9,h10⟩:=h;exact ⟨vd,vp,made,ZQ,ps,dv,h1.below hb,(h2.below hb).mono ZT hb.size,h3,h4,h5,h6,h7,h8,⟨hb.os.trans h9.os,hb.tape.trans h9.tape,hb.output.trans h9.output,ZF h9.size hb.size,fun q hq hn hr=>(hb.block q (ZL hq h9.size)).trans (h9.block q hq hn hr)⟩,h10⟩
theorem Qe {xs:List Value} (h:W.ownsRow lo e z v n xs):∀g,v.ownBlock=some g→lo≤g:=by
 intro g hg
 rcases h.2 with ⟨rfl,h0⟩ | ⟨g',cap,cur,rfl,hb,hg',-⟩
 · simp [Value.ownBlock] at hg
 simp only [Value.ownBlock,Zo] at hg;omega
theorem above {xs:List Value} (h:W.ownsRow lo e z v n xs) (hb:b<lo):v.ownBlock≠some b:=fun e=>by have:=Qe h b e;omega
theorem qE (h:UX W lo v xs) (hb:b<lo):v.ownBlock≠some b:=fun e=>by have:=(h.lt b e).1;omega
theorem Ks (h:Ph r0 w0 sB P S L v0 k w) (hk:k≤9000) :
    Calls Tryz.prog 114 #[.pointer (some ⟨sB,0,none⟩)] w fun e w'=>e=.returned (.tuple #[])∧Pq r0 w0 sB P S L v0 (k+1) w'∧KW sB w w':=by
 obtain ⟨vd,vp,made,ZQ,ps,dv,h1,h2,h3,h4,h5,h6,h7,h8,h9,h10⟩:=h;have LJ:=h9.size;have HC:Hid (Calls Tryz.prog 91 #[.pointer (some ⟨sB,3,none⟩)] w fun e w'=>e=.returned (.bool true)∧∃u,St w' sB ((((Kt P S L vd vp made).set (3+3) (.int .i64 (made+1))).set 3 u).set (3+1) (.slice none 0 0))∧Own .u8 5 w' w.heap.size u (Qq ZQ ps)∧Tw w sB vp.ownBlock w' vp.ownBlock) :=
  Cp w sB 3 vd vp ZQ ps (-1) made _ h1 rfl rfl rfl rfl (fun W hW=>?_) h3 (by omega) h5 (by omega) (by omega) (by unfold Sw;rw [ZZ (by omega)];decide)
 rotate_left
 · have h9:=h2.Pj hW.Pj (fun q e=>by cases e;exact ⟨above h2.d (by omega),above h2.p.1 (by omega),fun i hi=>qE (h2.p.2.1 i hi) (by omega)⟩)
   exact ⟨h9.d.rd,h9.p.rd⟩
 have FIN:Hid (∀w' u,St w' sB ((((Kt P S L vd vp made).set (3+3) (.int .i64 (made+1))).set 3 u).set (3+1) (.slice none 0 0))→Own .u8 5 w' w.heap.size u (Qq ZQ ps)→Tw w sB vp.ownBlock w' vp.ownBlock→Pq r0 w0 sB P S L v0 (k+1) w'∧KW sB w w'):=fun w' u a1 a2 a3 =>
  ⟨⟨u,made+1,Qq ZQ ps,a1,a2.mono (by omega),ZF (tR _ _) h3,by omega,.inr (fun g hg=>ZF LJ (Qe a2 g hg)),⟨a3.os.trans h9.os,a3.tape.trans h9.tape,a3.output.trans h9.output,ZF LJ a3.size,fun q hq hne hr=>(a3.block q (by omega) hne (fun e=>(h7 q e).elim (fun h=>by omega) hr)).trans (h9.block q hq hne hr)⟩,h10⟩,KW.tw a3 h2.p.1⟩
 clear h1 h2 h3 h4 h5 h6 h7 h8 h9 h10
 go_enter Tryz.func114,Tryz.ntmps114
 go_wp2_with fail
 refine HC.out.mono ?_;rintro e w' ⟨rfl,u,a1,a2,a3⟩;have F:=Z3 (FIN.out w' u a1 a2 a3);clear a1 a2 a3 FIN HC
 go_wp2_with fail
 exact ⟨rfl,_,by kernel_rfl,rfl,F.out⟩
theorem Kr (x:Int) (C:List Int) (h:Ph r0 w0 sB P S L v0 k w) (hk:k≤9000) (hC:C.length=64) :
    Calls Tryz.prog 154 #[.pointer (some ⟨sB,0,none⟩),.int .i64 x,.agg (C.map (Value.int .u8)).toArray] w fun e w'=>e=.returned (.tuple #[])∧Ph r0 w0 sB P S L v0 (k+1) w'∧KW sB w w':=by
 have hb:=(Below.refl w.heap.size w).alloc ZT (.cells (C.map (Value.int .u8)).toArray 117);have RA:Hid ((w.alloc (.cells (C.map (Value.int .u8)).toArray 117)).rangeAt w.heap.size 0 (C.map (Value.int .u8))):=by
  have h9:=SZ w (C.map (Value.int .u8)).toArray 117;show World.rangeAt _ _ _ _
  simpa using h9
 have HW:Hid (∀W,ZX w W→w.heap.size<W.heap.size→Calls Tryz.prog 89 #[.pointer (some ⟨sB,3,none⟩),.int .i64 x,.agg (C.map (Value.int .u8)).toArray] W fun e w'=>e=.returned (.bool true)∧(Ph r0 w0 sB P S L v0 (k+1) w'∧KW sB w w')∧w'.heap[w.heap.size]?=W.heap[w.heap.size]?):=by
  intro W hW hlt;obtain ⟨vd,vp,made,ZQ,ps,dv,h1,h2,h3,h4,h5,h6,h7,h8,h9,h10⟩:=h;have LJ:=h9.size;have h2':=(h2.below hW).mono ZT hW.size;refine (Fy W sB 3 (sB+1) vd vp ZQ ps dv (-1) made x C _ hC (h1.below hW) rfl rfl rfl h2' (by omega) (above h2.p.1 (by omega)) (above h2.d (by omega)) (fun i hi=>qE (h2.p.2.1 i hi) (by omega)) (by omega) (by omega) (by omega) (by unfold Sw;rw [ZZ (by omega)];decide)).mono ?_;rintro e w' ⟨rfl,yH,oU,a1,a2,a3,a4,a5⟩;refine ⟨rfl,⟨⟨vd,yH,made+1,ZQ,_,oU,a1,a2,h3,by rw [ZA];simp;omega,sQ h5 (by omega),by omega,fun g hg=>?_,h8,⟨a5.os.trans (hW.os.trans h9.os),a5.tape.trans (hW.tape.trans h9.tape),a5.output.trans (hW.output.trans h9.output),ZF LJ (ZF hW.size a5.size),fun q hq hne hr=>(a5.block q (by omega) hne (fun e=>(h7 q e).elim (fun h=>by omega) hr)).trans ((hW.block q (by omega)).trans (h9.block q hq hne hr))⟩,h10⟩,(KW.below hW).trans (KW.tw a5 h2'.p.1)⟩,a5.block _ hlt (by omega) (fun e=>by have:=h2.pn _ e;omega)⟩
  rcases a5.own with e | e | ⟨q,e,hq⟩
  · rw [e] at hg;exact h7 g hg
  · rw [e] at hg;cases hg
  rw [e] at hg;cases hg;exact .inl (by omega)
 have JL:Hid ((C.map (Value.int .u8)).length=64):=by show _=_;simpa using hC
 have hsA:w.heap.size<(w.alloc (.cells (C.map (Value.int .u8)).toArray 117)).heap.size:=by simp
 generalize C.map (Value.int .u8)=X at *;have HB:=Z3 hb;clear hb h
 go_enter Tryz.func154,Tryz.ntmps154
 go_wp2_with fail
 have B2:Hid (ZX w (w.alloc (.cells X.toArray 117)).drew):=(HB.out.trans ((below_drewN' (w.alloc (.cells X.toArray 117)) 1).mono HB.out.size));refine ZH (S:=fun W=>W.rangeAt w.heap.size 0 X) (by kernel_rfl) RA.out (fun Z9=>?_);have z2:w.heap.size<(w.alloc (.cells X.toArray 117)).drew.heap.size:=hsA;clear HB RA hsA;generalize (w.alloc _).drew=w3 at *
 iterate 4 (refine ZW ?_ (by kernel_rfl) (fun _=>id) Z9 ?_ ?_;rotate_left;· intro w9 Z0;clear Z0;go_simp;try with_reducible rfl)
 refine TO (i:=4) (oi:=⟨some 10,_,_,_,_,_⟩) (v:=.agg (X).toArray) rfl (by kernel_rfl) (fun _ _ _ h=>h) (Jc (by rfl) _ _ rfl _ _ rfl (X) _ (fun w' hSw=>hSw) Tryz.underlying117 rfl (YH _ JL.out)) (by assumption) ?_;refine ZU 5 rfl (by kernel_rfl) (fun K hK=>?_);go_simp;refine (HW.out _ B2.out z2).mono ?_;rintro e w6 ⟨rfl,a1,a2⟩;have F:=Z3 a1;have R6:=YF Z9 a2;refine hK.out _ _ R6 (fun ZM=>?_);clear hK K Z9 a1 a2;refine ZG 6 ?v5 rfl (by kernel_rfl) (fun _=>id) Z9 ?FE ?_
 case FE =>
  intro w9 Z0;clear Z0;go_simp
  try with_reducible rfl
 refine ZP (by kernel_rfl) ?_ _
 try simp only [Act.put,Y8,Y7,Y6]
 clear ZM R6
 go_wp2_with fail
 exact ⟨rfl,_,by kernel_rfl,rfl,F.out⟩
end
theorem NF {R:Nat} (e:W'.heap[R]?=W.heap[R]?) (h:W.there R o n):W'.there R o n:=fun j hj =>
 ⟨(ZR Option.isSome (Zj (w:=W) (a:=⟨R,o+j,none⟩) e)).trans (h j hj).1,by have:=(h j hj).2;unfold World.frozen? at this ⊢;rw [e];exact this⟩
def Bo (w:World) (R B:Nat) (W:World):Prop:=∃C:List Int,C.length=64∧W.heap[B]?=some (.cells (C.map (Value.int .u8)).toArray 117 (0,0))∧W.there R 0 64∧ZX w W
theorem Pz (w:World) (v:Value) (ys:List Int) (i:Nat) (h:Rd .u8 w v ys) (hl:ys.length≤1048576) (hi:i≤4096) :
    Calls Tryz.prog 155 #[v,.int .i64 (i:Int)] w fun e w'=>(∃C:List Int,C.length=64∧e=.returned (.agg (C.map (Value.int .u8)).toArray))∧ZX w w':=by
 obtain ⟨ao,cp,rfl,h1,h2,h3⟩:=h;have HR:=Z3 h3;clear h3
 go_enter Tryz.func155,Tryz.ntmps155
 go_upto_if 12 with fail
 generalize hW:World.alloc _ _=W0;have B0:Hid (Bo w w.heap.size (w.heap.size+1) W0):=by
  refine ⟨List.replicate 64 0,by decide,?_,?_,?_⟩ <;> subst hW
  · have:=Y9 (w.alloc (.cells (List.replicate 64 (Value.int .u8 0)).toArray 117)) (.cells (List.replicate 64 (Value.int .u8 0)).toArray 117)
    rw [Wg] at this;exact this
  · have:=Yc w (List.replicate 64 (Value.int .u8 0)).toArray 117 64 rfl
    have e:((w.alloc (.cells (List.replicate 64 (Value.int .u8 0)).toArray 117)).alloc (.cells (List.replicate 64 (Value.int .u8 0)).toArray 117)).heap[w.heap.size]?=(w.alloc (.cells (List.replicate 64 (Value.int .u8 0)).toArray 117)).heap[w.heap.size]?:=Below.heap_alloc _ _ _ (by simp);exact NF e this
  exact (ZJ.alloc ZT _).alloc (by simp) _
 clear hW;obtain ⟨q,hq⟩:∃q:Nat,q=i*64:=⟨_,rfl⟩;rw [show (i:Int)*64=(q:Int) by omega];clear hq
 go_cut [] from 12 to 18 (fun wx=>Hid (Bo w w.heap.size (w.heap.size+1) wx))
 case first =>
  rename_i J K9 UV hJ
  by_cases hc:q<ys.length
  · obtain ⟨C,c1,c2,c3,c4⟩:=B0.out
    have C1:Hid ((C.map (Value.int .u8)).length=64):=by show _=_;simpa using c1
    have C2:=Z3 c2;obtain ⟨b,off,rfl,hb,hcl⟩:∃b off,ao=some ⟨b,off,none⟩∧b<w.heap.size∧∀j,j<ys.length→w.cell? ⟨b,off+j,none⟩=some (.int .u8 (ys.getD j 0)):=HR.out.resolve_left (fun e=>by rw [e] at hc;simp at hc);have hq1:(q:Int)≤ys.length:=by omega
    have hq2:¬cp=q:=by omega
    have HZ:Hid ((((ys.drop (q)).take 64).map (Value.int .u8)).length=Nat.min (ys.length - q) 64):=by
     show _=_;rw [XJ,XU,Zd];exact Nat.min_comm _ _
    have HL:Hid ((((ys.drop (q)).take 64).map (Value.int .u8)).length≤64):=by
     show _≤_;rw [HZ.out];exact DZ _ _
    have UH:Hid (∀(j:Nat) (v:Value),(((ys.drop (q)).take 64).map (Value.int .u8))[j]?=some v→W0.cell? ((⟨b,off+q,none⟩:Addr).add j)=some v):=by
     intro j v hj;rw [Qs,CE] at hj
     split at hj
     · rename_i Yj
       rw [Qt] at hj
       rcases hx:ys[q+j]? with _ | x
       · rw [hx] at hj;cases hj
       rw [hx] at hj;obtain rfl:Value.int .u8 x=v:=by simpa using hj
       have uC:=(UG.mp hx).1;have e:=hcl (q+j) uC;rw [CG,hx] at e;rw [Addr.add_mid,c4.cell (p:=⟨b,off+q+j,none⟩) hb,Ue];exact e
     cases hj
    clear c1 c2 hcl HR
    go_wp2_with fail
    go_region_law (refine VF rfl (.tmp 13) (.tmp 16) 22 22 rfl 5 Tryz.underlying22 yS _ _ _ _ _ _ rfl rfl (w.heap.size+1) 0 _ 117 C2.out (((ys.drop (q)).take 64).map (Value.int .u8)) HZ.out (fun _=>⟨rfl,⟨b,off+q,none⟩,rfl,UH.out⟩) (by rw [C1.out];have:=HL.out;omega) (Wf _ _) ?_;intro w4 hg4 hb4)
    refine hJ _ _ (UV _ _  ⟨_,_,_,_,_,_,_,⟨splice C 0 ((ys.drop q).take 64),?_,?_,?_,?_⟩,rfl⟩)
    · have e:=HL.out
      have e1:=C1.out;rw [XJ] at e e1;rw [length_splice _ _ _ (by omega),e1]
    · have e:=hg4.out
      rw [←Sb] at e;exact e
    · exact NF (hb4.out.block w.heap.size (by have:=c4.size;show _<W0.heap.size;have:=(Yh.mp C2.out).1;omega) (by simp)) c3
    exact (c4.trans ((below_drewN' W0 1).mono c4.size)).grown (show W0.drew.grownBy w4 (some (w.heap.size+1)) from hb4.out) c4.size (by intro g hg;simp at hg;omega)
  go_wp2_with fail
  go_meet
  exact B0
 case rest =>
  rename_i K hK;obtain ⟨C,c1,c2,c3,c4⟩:=hcut.out;have H1:Hid (∀v ∈ C.map (Value.int .u8),v.oneCell'=true):=Wf _ _;have HLEN:Hid ((C.map (Value.int .u8)).length=64):=by show _=_;simpa using c1
  have RG:Hid (wc.rangeAt (w.heap.size+1) 0 (C.map (Value.int .u8))):=by
   intro j v h;rw [YK,Xn wc _ j _ _ _ c2]
   simpa using h
  have TR:=Z3 c3;have B4:=Z3 c4;have FIN:Hid (∃C':List Int,C'.length=64∧(Ending.returned (.agg (C.map (Value.int .u8)).toArray))=.returned (.agg (C'.map (Value.int .u8)).toArray)):=⟨C,c1,rfl⟩;generalize C.map (Value.int .u8)=V at *;refine hK _ _ ?_;clear hK K c1 c2 c3 c4 hcut B0
  go_wp2_with (first | (refine WT rfl 117 _ rfl (w.heap.size+1) 0 rfl V _ RG.out Tryz.underlying117 rfl (YH _ HLEN.out) ?_) | (refine DQ rfl 117 _ _ rfl w.heap.size 0 V.toArray rfl rfl ?s1 ?s2 ?s3 ?_))
  case s1 =>
   have e:V.toArray.size=64:=by rw [Zm];exact HLEN.out
   rw [e];exact TR.out
  case s2=>rw [Zm];exact YH _ HLEN.out
  case s3=>exact Ru H1.out
  refine ZS (v:=.agg V.toArray) ?_ rfl ⟨FIN.out,?_⟩
  · have LV:(loadVar 117 ⟨w.heap.size,0,none⟩).run Tryz.prog (wc.setCells w.heap.size 0 V)=.ok (.agg V.toArray) (wc.setCells w.heap.size 0 V) :=
     run_loadVar_mid (P:=Tryz.prog) _ w.heap.size 0 117 _ _ (OM _ _ _ _ (by rw [HLEN.out];exact TR.out)) Tryz.underlying117 rfl (YH _ HLEN.out)
    simp [results,Tryz.results155,Act.put,asAddr]
    exact LV
  exact below_setCells ZT _ _ _ B4.out
theorem Ph.more {k':Nat} (h:Ph r0 w0 sB P S L v0 k w) (hk:k≤k'):Ph r0 w0 sB P S L v0 k' w:=by
 obtain ⟨vd,vp,made,ZQ,ps,dv,h1,h2,h3,h4,h5,h6,h7,h8,h9,h10⟩:=h;exact ⟨vd,vp,made,ZQ,ps,dv,h1,h2,h3,by omega,h5,by omega,h7,h8,h9,h10⟩
theorem Ph.gb (h:Ph r0 w0 sB P S L v0 k w):Gr r0 sB w0 w∧sB<w0.heap.size:=by
 obtain ⟨vd,vp,made,ZQ,ps,dv,h1,h2,h3,h4,h5,h6,h7,h8,h9,h10⟩:=h;exact ⟨h9,h10⟩
theorem QU (fi bl:Int) (v:Value) (ys:List Int) (f:Nat) (h:Ph r0 w0 sB P S L v0 k w) (hk:k≤8000) (hf:0≤fi∧fi≤100000) (hv:∀W,Gr r0 sB w0 W→Rd .u8 W v ys) (hl:ys.length≤4096) (hfl:f≤ys.length) :
    Calls Tryz.prog 113 #[.pointer (some ⟨sB,0,none⟩),.agg #[.int .i64 fi,.int .i64 bl],v,.int .i64 (f:Int)] w fun e w'=>e=.returned (.tuple #[])∧Ph r0 w0 sB P S L v0 (k+65) w'∧KW sB w w':=by
 obtain ⟨ao,cp,Y2,-⟩:∃ao cp,v=.slice ao ys.length cp∧True:=by
  obtain ⟨ao,cp,e,-⟩:=hv w h.gb.1;exact ⟨ao,cp,e,trivial⟩
 have hbx:=(Below.refl w.heap.size w).alloc ZT (.cells #[.int .i64 fi,.int .i64 bl] 111);have HP:Hid (Ph r0 w0 sB P S L v0 k (w.alloc (.cells #[.int .i64 fi,.int .i64 bl] 111))):=h.below hbx;have qD:Hid (KW sB w (w.alloc (.cells #[.int .i64 fi,.int .i64 bl] 111))):=KW.below hbx;have oC:Hid ((w.alloc (.cells #[.int .i64 fi,.int .i64 bl] 111)).heap[w.heap.size]?=some (.cells #[.int .i64 fi,.int .i64 bl] 111)):=Y9 _ _;have Yi:Hid (w.heap.size<(w.alloc (.cells #[.int .i64 fi,.int .i64 bl] 111)).heap.size):=by show _<_;simp
 have Y1:Hid (∀W k' x (C:List Int),Ph r0 w0 sB P S L v0 k' W→k'≤9000→C.length=64→Calls Tryz.prog 154 #[.pointer (some ⟨sB,0,none⟩),.int .i64 x,.agg (C.map (Value.int .u8)).toArray] W fun e w'=>e=.returned (.tuple #[])∧Ph r0 w0 sB P S L v0 (k'+1) w'∧KW sB W w'):=fun W k' x C a b c=>Kr x C a b c
 have Y0:Hid (∀W k' (i:Nat),Ph r0 w0 sB P S L v0 k' W→i≤4096→Calls Tryz.prog 155 #[v,.int .i64 (i:Int)] W fun e w'=>(∃C:List Int,C.length=64∧e=.returned (.agg (C.map (Value.int .u8)).toArray))∧ZX W w'):=fun W k' i a b=>Pz W v ys i (hv W a.gb.1) (by omega) b
 have YZ:sB≠w.heap.size:=by have:=h.gb;have:=this.1.size;omega
 subst Y2;clear h hv hbx
 go_enter Tryz.func113,Tryz.ntmps113
 go_wp2_with fail
 · exact ⟨rfl,_,by kernel_rfl,rfl,HP.out.more (by omega),qD.out⟩
 generalize w.alloc _=w1 at *;rw [show ((f:Int) == (ys.length:Int))=false by assumption]
 go_loopw [8] (fun v8 wr=>∃i:Nat,v8=.int .i64 (i:Int)∧f / 64≤i∧i≤64∧Hid (Ph r0 w0 sB P S L v0 (k+i) wr)∧Hid (KW sB w wr)∧Hid (wr.heap[w.heap.size]?=some (.cells #[.int .i64 fi,.int .i64 bl] 111))) (fun v _=>(64 - intOf v).toNat)
 case atStart=>exact ⟨f / 64,by simp,ZT,by omega,HP.out.more (by omega),qD,oC⟩
 case round =>
  obtain ⟨i,rfl,hi1,hi2,PH,KH,BH⟩:=hrel
  by_cases hc:i*64<ys.length
  · have hcI:(i:Int)*64<(ys.length:Int):=by omega
    go_wp2_with fail
    have Zx:Hid (Ph r0 w0 sB P S L v0 (k+i) wr.drew):=PH.out.below (below_drewN' wr 1);have Zs:Hid (KW sB w wr.drew):=KH.out.trans (KW.below (below_drewN' wr 1));have S0:wr.drew.cell? ⟨w.heap.size,0,none⟩=some (.int .i64 fi)∧wr.drew.heap[w.heap.size]?=some (.cells #[.int .i64 fi,.int .i64 bl] 111 (0,0)):=⟨by rw [Xn wr.drew w.heap.size 0 #[.int .i64 fi,.int .i64 bl] 111 (0,0) BH.out];rfl,BH.out⟩;have hwz:w.heap.size<wr.drew.heap.size:=(Yh.mp S0.2).1;refine ZH (S:=fun W=>W.cell? ⟨w.heap.size,0,none⟩=some (.int .i64 fi)∧W.heap[w.heap.size]?=some (.cells #[.int .i64 fi,.int .i64 bl] 111 (0,0))) (by kernel_rfl) S0 (fun Z9=>?_);clear PH KH BH S0;generalize wr.drew=w3 at *
    iterate 7 (refine ZW ?_ (by kernel_rfl) (fun _=>id) Z9 ?_ ?_;rotate_left;· intro w9 Z0;have Yg:=Z0.1;clear Z0;go_simp;try with_reducible rfl)
    refine ZU 7 rfl (by kernel_rfl) (fun K hK=>?_);go_simp;refine (Y0.out _ _ i Zx.out (by omega)).mono ?_;rintro e w4 ⟨⟨C,hC,rfl⟩,b4⟩;have S4:w4.cell? ⟨w.heap.size,0,none⟩=some (.int .i64 fi)∧w4.heap[w.heap.size]?=some (.cells #[.int .i64 fi,.int .i64 bl] 111 (0,0)):=⟨(b4.cell (p:=⟨w.heap.size,0,none⟩) hwz).trans Z9.1,(b4.block _ hwz).trans Z9.2⟩;have Zr:=Z3 (Zx.out.below b4);have Zq:=Z3 (Zs.out.trans (KW.below b4));have z4:=ZL hwz b4.size;refine hK.out _ _ S4 (fun ZM=>?_);clear hK K Z9 Zx Zs b4 hwz;refine ZU 8 rfl (by kernel_rfl) (fun K hK=>?_);go_simp;refine (Y1.out _ _ _ C Zr.out (by omega) hC).mono ?_;rintro e w5 ⟨rfl,p5,k5⟩;have e5:=k5.block _ z4 YZ.symm (by rw [S4.2];intro cs z e9;simp at e9);have S5:w5.cell? ⟨w.heap.size,0,none⟩=some (.int .i64 fi)∧w5.heap[w.heap.size]?=some (.cells #[.int .i64 fi,.int .i64 bl] 111 (0,0)):=⟨(Zj (w:=w4) (a:=⟨w.heap.size,0,none⟩) e5).trans S4.1,e5.trans S4.2⟩;have YY:=Z3 p5;have YX:=Z3 (Zq.out.trans k5);have B5:=Z3 S5.2;refine hK.out _ _ S5 (fun ZM=>?_);clear hK K Zr Zq S4 p5 k5 e5 S5 z4;refine ZP (by kernel_rfl) ?_ _
    try simp only [Act.put,Y8,Y7,Y6]
    clear ZM
    go_wp2_with fail
    exact ⟨⟨i+1,by go_num,by omega,by omega,YY,YX,B5⟩,by simp [intOf];omega⟩
  have hcI:¬(i:Int)*64<(ys.length:Int):=by omega
  go_wp2_with fail
  exact ⟨rfl,_,by kernel_rfl,rfl,PH.out.more (by omega),KH.out⟩
end
section
open Go.RowKit Go.Conc
variable {ops:Array Oper} {buf:Array Value} {cl tm:Bool} {L S x:Int} {ps rs:List (Int × List Int)} {ZQ xs ys:List Int} {b c cap id k lo n o r s sB z:Nat} {r0 row:Option Nat} {e:TypeId} {P v v0:Value} {W W' w w' w0 w1 w2:World}
def JF (P:Program) (c:Code) (Q:Exit→Act→World→Prop) (a:Act) (w:World):Prop :=
 ∀(b:Frame) (k:List Item) (cs:List Frame),b.kind=.normal→∃e a' w',Q e a' w'∧Arrives P (lone (b.at a (.code c :: k)) cs w) b k cs e a' w'
section
variable {P:Program} {Q:Exit→Act→World→Prop} {a:Act} {w:World}
theorem WY {c:Code} (h:c.wp P Q a w):JF P c Q a w:=fun b k cs _=>h b k cs
theorem Dn {x y:Code} (h:JF P x (Exit.then (JF P y Q) Q) a w):JF P (Code.seq x y) Q a w:=by
 intro b k cs hb;obtain ⟨e,a₁,w₁,hq,harr⟩:=h b (.code y :: k) cs hb
 cases e with
 | normal =>
  obtain ⟨e₂,a₂,w₂,hq₂,harr₂⟩:=hq b k cs hb;exact ⟨e₂,a₂,w₂,hq₂,.of_steps (.head Md harr) harr₂⟩
 | exit id=>exact ⟨_,a₁,w₁,hq,.of_steps (.one Md) (.pass (x:=.code y) rfl (fun _ _=>.inl (by simp)) harr)⟩
 | goto l=>exact ⟨_,a₁,w₁,hq,.of_steps (.one Md) (.pass (x:=.code y) rfl (fun _ _=>.inl (by simp)) harr)⟩
 | ret=>exact ⟨_,a₁,w₁,hq,.of_steps (.one Md) (.pass (x:=.code y) rfl (fun _ _=>.inl (by simp)) harr)⟩
 | panic ch=>exact ⟨_,a₁,w₁,hq,.of_steps (.one Md) (.pass (x:=.code y) rfl (fun _ _=>.inl (by simp)) harr)⟩
 | outgrown=>exact ⟨_,a₁,w₁,hq,.of_steps (.one Md) (.pass (x:=.code y) rfl (fun _ _=>.inl (by simp)) harr)⟩
theorem Yy {x y:Code} (h:∀K:Act→World→Prop,(∀a w,JF P y Q a w→K a w)→JF P x (Exit.then K Q) a w):JF P (Code.seq x y) Q a w:=Dn (h _ fun _ _ h=>h)
theorem LI {c:Code} (h:JF P c (Exit.inBlock id Q) a w):JF P (Code.block id c) Q a w:=by
 intro b k cs hb;obtain ⟨e,a₁,w₁,hq,harr⟩:=h b (.inBlock id :: k) cs hb
 cases e with
 | normal=>exact ⟨.normal,a₁,w₁,hq,.head OL (Steps.trans harr (.one step_inBlock))⟩
 | exit id' =>
  by_cases hid:id'=id
  · simp only [Exit.inBlock,hid,Uc] at hq
    exact ⟨.normal,a₁,w₁,hq,.head OL (harr k (by simp [exitTo,hid]))⟩
  simp only [Exit.inBlock,hid,Vw] at hq
  refine ⟨.exit id',a₁,w₁,hq,fun k' hk=>.head OL (harr k' ?_)⟩;have:(id == id')=false:=by simp;exact fun h=>hid h.symm
  simp [exitTo,this,hk]
 | goto l=>exact ⟨_,a₁,w₁,hq,fun k' hk=>.head OL (harr k' (by simp [gotoIn,hk]))⟩
 | ret=>exact ⟨_,a₁,w₁,hq,.of_steps (.one OL) harr⟩
 | panic ch=>exact ⟨_,a₁,w₁,hq,.of_steps (.one OL) harr⟩
 | outgrown=>exact ⟨_,a₁,w₁,hq,.of_steps (b:=b) (k:=k) (cs:=cs) (e:=.outgrown) (.one OL) harr⟩
theorem xI {c:Code} (I:Act→World→Prop) (μ:Act→World→Nat) (h₀:I a w)
    (round:∀a w,I a w→JF P c (Exit.then (fun a' w'=>I a' w'∧μ a' w'<μ a w) Q) a w):JF P (Code.loop c) Q a w:=by
 intro b k cs hb;have key:∀n a w,μ a w=n→I a w →
     ∃e a' w',Q e a' w'∧Arrives P (lone (b.at a (.code c :: .inLoop c :: k)) cs w) b k cs e a' w':=by
  intro n
  induction n using Nat.strongRecOn with
  | _ n ih =>
   intro a w hn hI;obtain ⟨e,a₁,w₁,hq,harr⟩:=round a w hI b (.inLoop c :: k) cs hb
   cases e with
   | normal =>
    obtain ⟨hI₁,hlt⟩:=hq;obtain ⟨e₂,a₂,w₂,hq₂,harr₂⟩:=ih (μ a₁ w₁) (hn ▸ hlt) a₁ w₁ rfl hI₁;exact ⟨e₂,a₂,w₂,hq₂,.of_steps (Steps.trans harr (.one step_inLoop)) harr₂⟩
   | exit id=>exact ⟨_,a₁,w₁,hq,.pass (x:=.inLoop c) rfl (fun _ _=>.inl (by simp)) harr⟩
   | goto l=>exact ⟨_,a₁,w₁,hq,.pass (x:=.inLoop c) rfl (fun _ _=>.inl (by simp)) harr⟩
   | ret=>exact ⟨_,a₁,w₁,hq,.pass (x:=.inLoop c) rfl (fun _ _=>.inl (by simp)) harr⟩
   | panic ch=>exact ⟨_,a₁,w₁,hq,.pass (x:=.inLoop c) rfl (fun _ _=>.inl (by simp)) harr⟩
   | outgrown=>exact ⟨_,a₁,w₁,hq,.pass (x:=.inLoop c) rfl (fun _ _=>.inl (by simp)) harr⟩
 obtain ⟨e,a',w',hq,harr⟩:=key _ a w rfl h₀;exact ⟨e,a',w',hq,.of_steps (.one step_loop) harr⟩
theorem QT {f:FuncId} {fn:Func} {c:Code} {args:Array Value} {R:Ending→World→Prop}
    (hf:P.funcs[f]?=some fn) (hb:fn.body=some c)
    (h:JF P c (bodyPost P fn R) { tmps:=args++Array.replicate (fn.ntmps - args.size) undef,defers:=[] } w):Calls P f args w R:=by
 intro cs
 let b:Frame:={ (default:Frame) with fn:=f,kind:=.normal }
 have henter:Frame.enter P f args .normal=b.at { tmps:=args++Array.replicate (fn.ntmps - args.size) undef,defers:=[] } [.code c]:=by
  simp [Frame.enter,Frame.at,hf,hb,b]
 obtain ⟨e,a',w',hq,harr⟩:=h b [] cs rfl;rw [←henter] at harr
 cases e with
 | normal =>
  obtain ⟨hd,v,hr,hR⟩:=hq;exact ⟨.returned v,w',_,hR,Steps.trans harr (.one step_end),rfl,rfl,hd,rfl,fn,hf,hr⟩
 | ret =>
  obtain ⟨hd,v,hr,hR⟩:=hq;obtain ⟨todo,hs⟩:=harr;exact ⟨.returned v,w',_,hR,hs,rfl,rfl,hd,rfl,fn,hf,hr⟩
 | panic chain =>
  obtain ⟨hd,hR⟩:=hq;obtain ⟨todo,hs⟩:=harr;exact ⟨.panicked chain,w',_,hR,hs,rfl,rfl,hd,fn,hf⟩
 | exit id=>exact hq.elim
 | goto l=>exact hq.elim
 | outgrown=>exact ⟨.outgrown,w',b,hq,harr.resolve_left (by simp [b]),rfl,trivial⟩
def sP (P:Program) (ops:Array Oper):List Nat→Act→World→(Act→World→Prop)→Prop
 | [],a,w,K=>K a w
 | i :: r,a,w,K=>∃o v w1,ops[i]?=some o∧Region.wanted o (yielded ops a.tmps)=true∧(execOp a.eval o).run P w=.ok (.value v) w1∧sP P ops r (a.put o.dst v) w1 K
theorem Qd {K:Act→World→Prop} (b:Frame) (k:List Item) (cs:List Frame) (suf:List Nat):∀(pre:List Nat) (a:Act) (w:World),sP P ops pre a w K →
    ∃a' w',K a' w'∧Steps P (lone (b.at a (.inRegion ops (pre++suf) :: k)) cs w) (lone (b.at a' (.inRegion ops suf :: k)) cs w')
 | [],a,w,h=>⟨a,w,h,Steps.refl _ _⟩
 | i :: r,a,w,h=>by
  obtain ⟨o,v,w1,ho,hw,hr,h2⟩:=h;obtain ⟨a',w',hK,hs⟩:=Qd b k cs suf r _ _ h2;refine ⟨a',w',hK,DY (step_lone_go ?_) hs⟩;have hg:=stepG_op (P:=P) (b:=b) (k:=k) (cs:=cs) (w:=w) (rest:=r++suf) ho hw;have hfin:(b.at a (.inRegion ops (i :: (r++suf)) :: k)).finish v=b.at (a.put o.dst v) (.inRegion ops (r++suf) :: k):=by
   rw [Frame.finish_at,ho];rfl
  show (stepG P true { frame:=b.at a (.inRegion ops (i :: (r++suf)) :: k),callers:=cs,status:=.running,dying:=none } w).bare=_;rw [hg,←hfin];simp [stepG.apply,hr]
theorem ND {o:Oper} {pre suf:List Nat} (m:Nat) (hm:List.range ops.size=pre++m :: suf) (ho:ops[m]?=some o)
    (h:sP P ops pre a w (fun a1 w1=>Region.wanted o (yielded ops a1.tmps)=true∧∃cases blocking shape v w2,(execOp a1.eval o).run P w1=.ok (.comm cases blocking shape) w1 ∧
     (∀(fr:Frame) (cs:List Frame) (es:Array Event),stepG P true (G fr cs) w1=.comm (G fr cs) cases blocking shape w1 es→step P (solo (G fr cs) w1)=.next (solo (G (fr.finish v) cs) w2)) ∧
     sP P ops suf (a1.put o.dst v) w2 (fun a2 w3=>Q .normal a2 w3))):JF P (Code.region id ops false) Q a w:=by
 intro b k cs hb;obtain ⟨a1,w1,⟨hw,cases,blocking,shape,v,w2,hr,hst,h2⟩,hs⟩:=Qd b k cs (m :: suf) _ _ _ h;obtain ⟨a2,w3,hq,hs2⟩:=Qd b k cs [] _ _ _ h2;rw [TX] at hs2;refine ⟨.normal,_,_,hq,?_⟩;have hx:=hst _ _ _ (stepG_comm (P:=P) (main:=true) (b:=b) (a:=a1) (k:=k) (cs:=cs) (w:=w1) (rest:=suf) ho hw (by rw [hb];decide) hr);rw [Frame.finish_at,ho] at hx;refine DY step_region ?_;rw [hm];exact hs.trans (DY hx (hs2.trans (DY step_region_end (Steps.refl _ _))))
section
variable {c cap s r:Nat} {buf:Array Value} {v z:Value} {tm:Bool}
theorem xH (hc:w.heap[c]?=some (.chan cap buf false s r tm)) (hroom:buf.size<cap) (fr:Frame) (cs:List Frame) (es:Array Event) (h:stepG P true (G fr cs) w=.comm (G fr cs) #[scase c v z] true .send w es) :
    step P (solo (G fr cs) w)=.next (solo (G (fr.finish undef) cs) (w.setChan c cap (buf.push v) false (s+1) r tm)):=step_lone_send_room h hc hroom
theorem xG (hc:w.heap[c]?=some (.chan cap buf false s r tm)) (hsome:0<buf.size) (fr:Frame) (cs:List Frame) (es:Array Event) (h:stepG P true (G fr cs) w=.comm (G fr cs) #[rcase c z] false .select w es) :
    step P (solo (G fr cs) w)=.next (solo (G (fr.finish (.tuple #[goInt 0,.bool true,buf.getD 0 undef])) cs) (w.setChan c cap (buf.extract 1 buf.size) false s (r+1) tm)):=by
 have hst:=step_lone_sel_recv_buf (k:=0) h rfl (fun n c' hn hc'=>by
  cases n with
  | zero=>exact absurd rfl hn
  | succ n=>simp at hc') hc hsome
 have e:commResult #[rcase c z] .select ((0:Nat):Int) (buf.getD 0 undef) true=.tuple #[goInt 0,.bool true,buf.getD 0 undef]:=by simp [commResult,rcase]
 rwa [e] at hst
theorem Ih (hc:w.heap[c]?=some (.chan cap #[] false s r tm)) (fr:Frame) (cs:List Frame) (es:Array Event) (h:stepG P true (G fr cs) w=.comm (G fr cs) #[rcase c z] false .select w es) :
    step P (solo (G fr cs) w)=.next (solo (G (fr.finish (.tuple #[goInt (-1),.bool false,z])) cs) w):=step_lone_select_default h hc
end
end
theorem xF {c g:Option Nat} (h:w.grownBy w1 c) (h2:w1.grownBy w2 g) (hg:∀q,g=some q→w.heap.size≤q∨c=some q):w.grownBy w2 c :=
 ⟨h2.os.trans h.os,h2.tape.trans h.tape,h2.output.trans h.output,ZF h.size h2.size,fun q hq hne=>(h2.block q (ZL hq h.size) (fun e=>by
  rcases hg q e.symm with h9 | h9
  · omega
  exact hne h9.symm)).trans (h.block q hq hne)⟩
theorem Kq (w:World) (c cap:Nat) (buf:Array Value) (cl:Bool) (s r:Nat) (tm:Bool):w.grownBy (w.setChan c cap buf cl s r tm) (some c) :=
 ⟨rfl,rfl,rfl,by simp [World.setChan],fun q hq hne=>by simp only [World.setChan];rw [Array.getElem?_setIfInBounds_ne (fun e=>hne (by rw [e]))]⟩
theorem Ko (h:w.grownBy w' (some c)) (hc:w.heap[c]?=some (.chan cap buf cl s r tm)) {p:Addr} (hp:w.cell? p=some v):w'.cell? p=some v:=by
 have hl:=YJ w _ hp;have hne:some p.block≠some c:=fun e=>by
  injection e with e
  unfold World.cell? at hp;rw [e,hc] at hp
  simp at hp
 exact (Zj (w:=w) (a:=p) (h.block _ hl hne)).trans hp
theorem qC (h:w.grownBy w' (some c)) (hc:w.heap[c]?=some (.chan cap buf cl s r tm)) (hr:Rd .u8 w v xs):Rd .u8 w' v xs:=by
 obtain ⟨ao,cp,e,h1,h2,h3⟩:=hr;refine ⟨ao,cp,e,h1,h2,h3.imp id ?_⟩;rintro ⟨b,off,e1,hb,hcl⟩;exact ⟨b,off,e1,ZL hb h.size,fun i hi=>Ko h hc (hcl i hi)⟩
theorem Dm {k:IntKind} {base:Nat} (h:Own k e w base v xs) (hc:c<base):v.ownBlock=none∨v.ownBlock≠some c:=by
 rcases h.2 with ⟨rfl,h0⟩ | ⟨g,cap,cur,rfl,hb,hg,hn,hm,hs,ht⟩
 · exact .inl rfl
 exact .inr (fun e=>by simp only [Value.ownBlock,Zo] at e;omega)
def ky (w:World) (L:List Value) (fs:List (List Int)):Prop:=L.length=fs.length∧∀i,i<L.length→Rd .u8 w (L.getD i undef) (fs.getD i [])∧0<(fs.getD i []).length
def od (w:World) (c:Nat):Nat:=match w.heap[c]? with | some (.chan _ b _ _ _ _)=>b.size | _=>0
theorem Dl (h:w.heap[c]?=some (.chan cap buf cl s r tm)):od w c=buf.size:=by unfold od;rw [h]
def dZ (w:World) (c cap s r:Nat) (tm:Bool) (fs:List (List Int)) (e:Ending) (w':World):Prop :=
 ∃v,e=.returned (.tuple #[v,.int .i64 (fs.length:Int)])∧Own .u8 5 w' w.heap.size v fs.flatten∧w.grownBy w' (some c)∧∃r',w'.heap[c]?=some (.chan cap #[] false s r' tm)
theorem qB (w:World) (sB mB c cap s r:Nat) (tm:Bool) (L:List Value) (fs:List (List Int)) (h1:w.cell? ⟨sB,0,none⟩=some (.pointer (some ⟨mB,0,none⟩))) (h2:w.cell? ⟨mB,4,none⟩=some (.chan (some c))) (hc:w.heap[c]?=some (.chan cap L.toArray false s r tm)) (hq:ky w L fs) (hT:fs.flatten.length≤1048576) (hN:fs.length≤1048576) :
    Calls Tryz.prog 112 #[.pointer (some ⟨sB,0,none⟩)] w fun e w'=>dZ w c cap s r tm fs e w':=by
 obtain ⟨i0,hi,hz0,hz1,hz2⟩:=Yq Tryz.Vh;have HC:=Z3 hc;have Z7:Hid (c<w.heap.size):=(Yh.mp hc).1;have HQ:=Z3 hq;have HT:=Z3 hT;have H1:=Z3 h1;have H2:=Z3 h2;clear hc hq h1 h2;refine QT Tryz.func112 rfl ?_
 simp only [Tryz.ntmps112,Zm,Yr,Wo,Nat.reduceAdd,Nat.reduceSub,JO,JN,Wj,Ur,Yw,Vq]
 iterate 3 (refine Yy (fun K hK=>WY ?_);have HK:Hid _:=hK;clear hK;go_wp2_with fail;refine HK.out _ _ ?_;clear HK K)
 refine LI (xI (fun a wr=>∃(k:Nat) (v4:Value) (xs:List Int) (M:List Value) (gs:List (List Int)) (r':Nat) (u6 u7 u8 u9 u10 u11 u12 u13 u14 u15 u16 u17 u18 u19 u20 u21 u22 u23 u24:Value),
     a={ tmps:=#[.pointer (some ⟨sB,0,none⟩),undef,.slice none 0 0,.int .i64 0,v4,.int .i64 (k:Int),u6,u7,u8,u9,u10,u11,u12,u13,u14,u15,u16,u17,u18,u19,u20,u21,u22,u23,u24],defers:=[] } ∧
     k+M.length=fs.length∧Hid (xs++gs.flatten=fs.flatten)∧Hid (ky w M gs)∧Hid (Own .u8 5 wr w.heap.size v4 xs)∧Hid (w.grownBy wr (some c))∧Hid (wr.heap[c]?=some (.chan cap M.toArray false s r' tm)))
  (fun a wr=>od wr c) ?_ ?_)
 · exact ⟨0,.slice none 0 0,[],L,fs,r,undef,undef,undef,undef,undef,undef,undef,undef,undef,undef,undef,undef,undef,undef,undef,undef,undef,undef,undef,rfl,by have:=HQ.out.1;omega,rfl,HQ,Zl _ _ _ _,YT _ _,HC⟩
 intro a wr hI;obtain ⟨k,v4,xs,M,gs,r',u6,u7,u8,u9,u10,u11,u12,u13,u14,u15,u16,u17,u18,u19,u20,u21,u22,u23,u24,rfl,hk,HX,HM,HO,HG,qA⟩:=hI;have c1:=Ko HG.out HC.out H1.out;have c2:=Ko HG.out HC.out H2.out;refine LI ?_;refine Yy (fun K hK=>WY ?_);have HK:Hid _:=hK;clear hK
 go_wp2_with fail
 refine HK.out _ _ ?_;clear HK K c1 c2;refine Yy (fun K hK=>?_);have HK:Hid _:=hK;clear hK
 cases M with
 | nil =>
  refine ND (pre:=[]) (suf:=[1,2]) 0 rfl rfl ?_;refine ⟨by kernel_rfl,#[rcase c (.slice none 0 0)],false,.select,.tuple #[goInt (-1),.bool false,.slice none 0 0],wr,?_,Ih qA.out,?_⟩
  · kernel_rfl
  refine ⟨_,goInt (-1),wr,rfl,by kernel_rfl,by kernel_rfl,?_⟩;refine ⟨_,.bool false,wr,rfl,by kernel_rfl,by kernel_rfl,?_⟩;show K _ _;refine HK.out _ _ ?_;clear HK K;refine WY ?_
  go_wp2_with fail
  refine ⟨rfl,.tuple #[v4,.int .i64 (k:Int)],by kernel_rfl,v4,?_,?_,HG.out,r',qA.out⟩
  · rw [show fs.length=k from hk.symm]
  have e:gs=[]:=TN HM.out.1.symm;have e2:=HX.out;rw [e] at e2
  simp only [List.flatten_nil,TX] at e2
  rw [←e2];exact HO.out
 | cons m M =>
  obtain ⟨g,gs',rfl⟩:∃g gs',gs=g :: gs':=by
   cases gs with
   | nil=>exact absurd HM.out.1 (by simp)
   | cons g gs'=>exact ⟨g,gs',rfl⟩
  have hR:=HM.out.2 0 (by simp)
  simp only [Ll] at hR
  obtain ⟨hR,hg0⟩:=hR;obtain ⟨wc,hwc⟩:∃W,W=wr.setChan c cap M.toArray false s (r'+1) tm:=⟨_,rfl⟩;have YU:Hid (wc=wr.setChan c cap M.toArray false s (r'+1) tm):=hwc;have ov:Hid (w.grownBy wc (some c)):=by
   rw [hwc];exact xF HG.out (Kq wr c cap M.toArray false s (r'+1) tm) (fun q e=>.inr e)
  have hR2:=qC ov.out HC.out hR;obtain ⟨ao,mc,em,hm1,hm2,YS⟩:=hR2
  rcases YS with h0 | ⟨mb,mo,rfl,hmb,hmc⟩
  · rw [h0] at hg0;simp at hg0
  have Ra:Hid (g.length≤1048576∧xs.length+g.length≤1048576):=by
   have e:=ZR List.length HX.out
   simp only [ZA,pI] at e
   constructor <;> omega
  refine ND (pre:=[]) (suf:=[1,2]) 0 rfl rfl ?_;refine ⟨by kernel_rfl,#[rcase c (.slice none 0 0)],false,.select,.tuple #[goInt 0,.bool true,m],wc,by kernel_rfl,fun fr cs es h=>?_,?_⟩
  · have h9:=xG qA.out (by simp) fr cs es h
    have e:((m :: M).toArray).extract 1 ((m :: M).toArray).size=M.toArray:=by
     apply Array.toList_inj.mp;simp
    rw [e] at h9;rw [hwc];exact h9
  refine ⟨_,goInt 0,wc,rfl,by kernel_rfl,by kernel_rfl,?_⟩;refine ⟨_,.bool true,wc,rfl,by kernel_rfl,by kernel_rfl,?_⟩;show K _ _;refine HK.out _ _ ?_;clear HK K;refine WY ?_;subst em;have Zw:Hid (Own .u8 5 wc w.heap.size v4 xs):=by rw [hwc];exact Yu HO.out (Kq wr c cap M.toArray false s (r'+1) tm) (Dm HO.out Z7.out)
  have UH:Hid (∀j u,(g.map (Value.int .u8))[j]?=some u→wc.cell? ((⟨mb,mo,none⟩:Addr).add j)=some u):=by
   intro j u hj;rw [Qs] at hj
   rcases hx:g[j]? with _ | x
   · rw [hx] at hj;exact absurd hj (by simp)
   rw [hx] at hj
   simp only [zC,Zo] at hj
   have hjl:=(UG.mp hx).1;have e:=hmc j hjl;rw [CG,hx] at e;rw [←hj];have e2:(⟨mb,mo,none⟩:Addr).add j=⟨mb,mo+j,none⟩:=by
    unfold Addr.add
    by_cases h0:j=0
    · rw [ZZ h0,h0,Wi]
    rw [Z1 h0]
   rw [e2];exact e
  have Pm:Hid (w.heap.size≤wc.heap.size):=ov.out.size;clear hmc hwc hR hm1 hm2 hmb;have Yf:=Ra.out
  go_wp2_with (at_builtin;go_must (refine wpList_append_lies _ rfl _ _ 22 rfl w.heap.size 5 i0 (.int .u8 0) 1 1 Tryz.underlying22 hi hz0 hz1 hz2 rfl (by decide) v4 xs.length (xs.map (Value.int .u8)) rfl Zw.out ⟨mb,mo,none⟩ g.length mc (g.map (Value.int .u8)) rfl (by simp) UH.out (Wf _ _) (by omega) (by unfold maxLen;omega) (by omega) Pm.out _ rfl ?_))
  intro g2 cap2 w2 ho2 hg2 hb2 hl2;have FJ:=Z3 ho2;have HG2:=Z3 hg2;clear ho2 hg2 hb2 hl2;have uG:k+1≤1048576:=by have e:k+(M.length+1)=fs.length:=hk;omega
  go_wp2_with fail
  have yO:Hid (w2.heap[c]?=some (.chan cap M.toArray false s (r'+1) tm)):=by
   rw [show w2.heap[c]?=wc.heap[c]? from HG2.out.block c (ZL Z7.out Pm.out) (fun e=>by rcases Dm Zw.out Z7.out with h | h <;> rw [←e] at h <;> simp at h),YU.out];exact heap_setChan _ _ _ _ _ _ _ _ (ZL Z7.out HG.out.size)
  refine ⟨⟨k+1,_,xs++g,M,gs',r'+1,_,_,_,_,_,_,_,_,_,_,_,_,_,_,_,_,_,_,_,rfl,?_,?_,?_,?_,?_,yO⟩,?_⟩
  · have e:k+(M.length+1)=fs.length:=hk
    omega
  · have e:=HX.out
    rw [pI,←YM] at e;exact e
  · refine ⟨by have:=HM.out.1;simpa using this,fun i hi=>?_⟩
    have e:=HM.out.2 (i+1) (by simp;exact hi)
    simpa using e
  · exact Vg (q:=xs.length+g.length) (by simp) rfl (by rw [Wn];exact FJ.out)
  · exact xF ov.out HG2.out (fun q e=>.inl (by
     rcases Zw.out.2 with ⟨e9,h0⟩ | ⟨g9,gP,YC,e9,ST,nZ,-⟩
     · rw [e9] at e;simp [Value.ownBlock] at e
     rw [e9] at e;simp [Value.ownBlock] at e;omega))
  rw [Dl yO.out,Dl qA.out];simp
end
end Go.Proofs.YtpmjnbmkippaiaaGreatDoor


