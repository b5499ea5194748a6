import Derived.Test.YtpmjnbmkippaiaaGreatDoorJ05
import Derived.ChangeKeysEq
import Derived.Lib.SliceRun
import Derived.Deep.CutRange
import Derived.Conc.LoneSelectN
import Derived.Conc.LoneCalls
set_option maxRecDepth 100000
set_option maxHeartbeats 16000000
set_option linter.unusedVariables false
set_option linter.unusedSimpArgs false
namespace Go.Proofs.YtpmjnbmkippaiaaGreatDoor
section
open Go.RowKit Go.Shelf
variable {ops:Array Oper} {buf:Array Value} {cl tm:Bool} {L S x:Int} {ps rs:List (Int × List Int)} {YN xs ys:List Int} {b c cap id k lo n o r s sB z:Nat} {r0 row:Option Nat} {e:TypeId} {P v v0:Value} {W W' w w' w0 w1 w2:World}
def Ow (S L:Int) (vd vp:Value) (lim made:Int) (vc:Value) (cg:Bool) (c:Qm) (og:Bool) (o:Qm) (code:Int) (vt:Value) (zx cnt en:Int):List Value:=[.int .i64 S,.int .i64 L,vd,vp,.int .i64 lim,.int .i64 made,vc,.bool cg,.int .i64 c.g,.int .i64 c.b,.int .i64 c.s,.int .i64 c.l,.int .i64 c.c,.bool og,.int .i64 o.g,.int .i64 o.b,.int .i64 o.s,.int .i64 o.l,.int .i64 o.c,.int .i64 code,vt,.int .i64 zx,.int .i64 cnt,.int .i64 en]
def MI (S:Int) (ys:List Int):Qm:=if Id S ys=true then rU ys else ⟨0,0,0,0,0⟩
theorem nW (S:Int) (ys:List Int):kD S ys=.agg #[.bool (Id S ys),.int .i64 (MI S ys).g,.int .i64 (MI S ys).b,.int .i64 (MI S ys).s,.int .i64 (MI S ys).l,.int .i64 (MI S ys).c]:=by
 unfold kD MI
 by_cases h:OB ys∧nL ys≤S*64
 · have h2:Id S ys=true:=by unfold Id;simp [h.1,h.2]
   rw [Z0 h,Z0 h2,h2];rfl
 have h2:Id S ys=false:=by
  unfold Id
  cases h3:decide (OB ys) with
  | false=>rfl
  | true =>
   have:¬nL ys≤S*64:=fun h4=>h ⟨Wm h3,h4⟩
   simp [this]
 rw [Z1 h,Z1 (by rw [h2];simp),h2]
def wI (w:World) (b:Nat) (S L:Int) (vd vp:Value) (lim made:Int) (vc:Value) (code:Int) (vt:Value) (zx cnt en:Int) (g0 g1:Bool) (x0 x1:Qm) (e:Ending) (w':World):Prop :=
 ∃(xg:Bool) (x:Qm) (yg:Bool) (y:Qm),e=.returned (.int .i64 (if xg=true then 1 else 4))∧St w' b (Ow S L vd vp lim made vc xg x yg y code vt zx cnt en)∧Tw w b none w' none ∧
     ((¬x0.g<x1.g∧xg=g0∧x=x0∧yg=g1∧y=x1)∨(x0.g<x1.g∧xg=g1∧x=x1∧yg=g0∧y=x0))
theorem wH (w:World) (b g N C:Nat) (S L:Int) (vd vp:Value) (lim made:Int) (vc:Value) (cg:Bool) (c:Qm) (og:Bool) (o:Qm) (code:Int) (vt:Value) (zx cnt en:Int) (cont:List Int) (nV:vc=.slice (some ⟨g,0,none⟩) N C) (hs:St w b (Ow S L vd vp lim made vc cg c og o code vt zx cnt en)) (hr:Rd .u8 w (.slice (some ⟨g,0,none⟩) N C) cont) (hby:Sn cont) (hN:cont.length=N) (Bw:N≤1048576) (tG:128≤N) (hS:1≤S∧S≤64) :
    Calls Tryz.prog 39 #[.pointer (some ⟨b,0,none⟩)] w (wI w b S L vd vp lim made vc code vt zx cnt en (Id S (blk cont 0)) (Id S (blk cont 1)) (MI S (blk cont 0)) (MI S (blk cont 1))):=by
 subst nV;have HG:Hid (∀W (i:Nat),i≤1→Zi w W→Calls Tryz.prog 84 #[.pointer (some ⟨b,0,none⟩),.int .i64 (i:Int)] W (Wj W (.agg #[.bool (Id S (blk cont i)),.int .i64 (MI S (blk cont i)).g,.int .i64 (MI S (blk cont i)).b,.int .i64 (MI S (blk cont i)).s,.int .i64 (MI S (blk cont i)).l,.int .i64 (MI S (blk cont i)).c]))):=by
  intro W i hi hW;have hs':=hs.Xe hW hs.lt;have h9:=Ic W b i g 0 N C S cont (hs'.cl 0 _ rfl) (hs'.cl 6 _ rfl) hs'.lt (hr.below hW) hby hN (by omega) Bw hS;rw [nW] at h9;exact h9
 have HS:=ZU hs;have xE:Hid (∀W,Zi w W→Calls Tryz.prog 84 #[.pointer (some ⟨b,0,none⟩),.int .i64 0] W (Wj W (.agg #[.bool (Id S (blk cont 0)),.int .i64 (MI S (blk cont 0)).g,.int .i64 (MI S (blk cont 0)).b,.int .i64 (MI S (blk cont 0)).s,.int .i64 (MI S (blk cont 0)).l,.int .i64 (MI S (blk cont 0)).c]))):=fun W hW=>HG.out W 0 (by omega) hW
 have wG:Hid (∀W,Zi w W→Calls Tryz.prog 84 #[.pointer (some ⟨b,0,none⟩),.int .i64 1] W (Wj W (.agg #[.bool (Id S (blk cont 1)),.int .i64 (MI S (blk cont 1)).g,.int .i64 (MI S (blk cont 1)).b,.int .i64 (MI S (blk cont 1)).s,.int .i64 (MI S (blk cont 1)).l,.int .i64 (MI S (blk cont 1)).c]))):=fun W hW=>HG.out W 1 (by omega) hW
 have hlt:=hs.lt;generalize Id S (blk cont 0)=g0 at *;generalize Id S (blk cont 1)=g1 at *;generalize MI S (blk cont 0)=x0 at *;generalize MI S (blk cont 1)=x1 at *
 go_enter Tryz.func39,Tryz.ntmps39
 go_wp2_with fail
 refine (xE.out _ Yy).mono ?_;rintro e w1 ⟨rfl,b1⟩
 go_wp2_with fail
 refine (wG.out _ b1).mono ?_;rintro e w2 ⟨rfl,b2⟩;have B2:=ZU (WD b1 b2);have S2:=ZU (HS.out.Xe B2.out hlt);have q7:=S2.out.cl 7 _ rfl;have f7:=S2.out.fz 7;have q8:=S2.out.cl 8 _ rfl;have f8:=S2.out.fz 8;have q9:=S2.out.cl 9 _ rfl;have f9:=S2.out.fz 9;have iI:=S2.out.cl 10 _ rfl;have f10:=S2.out.fz 10;have iH:=S2.out.cl 11 _ rfl;have f11:=S2.out.fz 11;have gT:=S2.out.cl 12 _ rfl;have f12:=S2.out.fz 12;have Y':=S2.out.cl 13 _ rfl;have f13:=S2.out.fz 13;have Zp:=S2.out.cl 14 _ rfl;have f14:=S2.out.fz 14;have Y9:=S2.out.cl 15 _ rfl;have f15:=S2.out.fz 15;have q16:=S2.out.cl 16 _ rfl;have f16:=S2.out.fz 16;have Y5:=S2.out.cl 17 _ rfl;have f17:=S2.out.fz 17;have Y4:=S2.out.cl 18 _ rfl;have f18:=S2.out.fz 18;have S3:Hid (St ((((((((((((w2.setCell ⟨b,7,none⟩ (.bool g0)).setCell ⟨b,8,none⟩ (.int .i64 x0.g)).setCell ⟨b,9,none⟩ (.int .i64 x0.b)).setCell ⟨b,10,none⟩ (.int .i64 x0.s)).setCell ⟨b,11,none⟩ (.int .i64 x0.l)).setCell ⟨b,12,none⟩ (.int .i64 x0.c)).setCell ⟨b,13,none⟩ (.bool g1)).setCell ⟨b,14,none⟩ (.int .i64 x1.g)).setCell ⟨b,15,none⟩ (.int .i64 x1.b)).setCell ⟨b,16,none⟩ (.int .i64 x1.s)).setCell ⟨b,17,none⟩ (.int .i64 x1.l)).setCell ⟨b,18,none⟩ (.int .i64 x1.c)) b (Ow S L vd vp lim made (.slice (some ⟨g,0,none⟩) N C) g0 x0 g1 x1 code vt zx cnt en)):=((((((((((((S2.out.set 7 (.bool g0)).set 8 (.int .i64 x0.g)).set 9 (.int .i64 x0.b)).set 10 (.int .i64 x0.s)).set 11 (.int .i64 x0.l)).set 12 (.int .i64 x0.c)).set 13 (.bool g1)).set 14 (.int .i64 x1.g)).set 15 (.int .i64 x1.b)).set 16 (.int .i64 x1.s)).set 17 (.int .i64 x1.l)).set 18 (.int .i64 x1.c));have T3:Hid (Tw w b none ((((((((((((w2.setCell ⟨b,7,none⟩ (.bool g0)).setCell ⟨b,8,none⟩ (.int .i64 x0.g)).setCell ⟨b,9,none⟩ (.int .i64 x0.b)).setCell ⟨b,10,none⟩ (.int .i64 x0.s)).setCell ⟨b,11,none⟩ (.int .i64 x0.l)).setCell ⟨b,12,none⟩ (.int .i64 x0.c)).setCell ⟨b,13,none⟩ (.bool g1)).setCell ⟨b,14,none⟩ (.int .i64 x1.g)).setCell ⟨b,15,none⟩ (.int .i64 x1.b)).setCell ⟨b,16,none⟩ (.int .i64 x1.s)).setCell ⟨b,17,none⟩ (.int .i64 x1.l)).setCell ⟨b,18,none⟩ (.int .i64 x1.c)) none):=(Tw.YZ B2.out b none).set.set.set.set.set.set.set.set.set.set.set.set
 go_wp2_with fail
 generalize ((((((((((((w2.setCell _ _).setCell _ _).setCell _ _).setCell _ _).setCell _ _).setCell _ _).setCell _ _).setCell _ _).setCell _ _).setCell _ _).setCell _ _).setCell _ _)=w3 at *;have Zp:=S3.out.cl 14 _ rfl;have q8:=S3.out.cl 8 _ rfl
 go_quiet (fail)
 have S4:=ZU (S3.out.below (below_drewN' w3 nq));have T4:=ZU (T3.out.trans (Tw.YZ (below_drewN' w3 nq) b none));generalize w3.drewN nq=w4 at *
 by_cases hx:x0.g<x1.g
 · go_wp2_with fail
   refine ZX (S:=fun _=>True) (by kernel_rfl) trivial (fun Z9=>?_);have S5:Hid (St w4.drew b (Ow S L vd vp lim made (.slice (some ⟨g,0,none⟩) N C) g0 x0 g1 x1 code vt zx cnt en)):=S4.out.below (below_drewN' w4 1);have T5:Hid (Tw w b none w4.drew none):=T4.out.trans (Tw.YZ (below_drewN' w4 1) b none);generalize w4.drew=w5 at *
   iterate 5 (refine Zf ?_ (by kernel_rfl) (fun _=>id) Z9 ?_ ?_;rotate_left;· intro w9 ZQ;clear ZQ;go_simp;try with_reducible rfl)
   refine Yp 6 ?v6 rfl (by kernel_rfl) (fun _=>id) Z9 ?sU ?_
   case sU =>
    intro w9 ZQ;go_simp
    try with_reducible rfl
   refine Yp 7 ?v7 rfl (by kernel_rfl) (fun _=>id) Z9 ?sS ?_
   case sS =>
    intro w9 ZQ;go_simp
    try with_reducible rfl
   refine Yp 8 ?v8 rfl (by kernel_rfl) (fun _=>id) Z9 ?rR ?_
   case rR =>
    intro w9 ZQ;go_simp
    try with_reducible rfl
   have q7:=S5.out.cl 7 _ rfl;have f7:=S5.out.fz 7;have q8:=S5.out.cl 8 _ rfl;have f8:=S5.out.fz 8;have q9:=S5.out.cl 9 _ rfl;have f9:=S5.out.fz 9;have iI:=S5.out.cl 10 _ rfl;have f10:=S5.out.fz 10;have iH:=S5.out.cl 11 _ rfl;have f11:=S5.out.fz 11;have gT:=S5.out.cl 12 _ rfl;have f12:=S5.out.fz 12;have Y':=S5.out.cl 13 _ rfl;have f13:=S5.out.fz 13;have Zp:=S5.out.cl 14 _ rfl;have f14:=S5.out.fz 14;have Y9:=S5.out.cl 15 _ rfl;have f15:=S5.out.fz 15;have q16:=S5.out.cl 16 _ rfl;have f16:=S5.out.fz 16;have Y5:=S5.out.cl 17 _ rfl;have f17:=S5.out.fz 17;have Y4:=S5.out.cl 18 _ rfl;have f18:=S5.out.fz 18;have SE:Hid (St ((((((((((((w5.setCell ⟨b,7,none⟩ (.bool g1)).setCell ⟨b,8,none⟩ (.int .i64 x1.g)).setCell ⟨b,9,none⟩ (.int .i64 x1.b)).setCell ⟨b,10,none⟩ (.int .i64 x1.s)).setCell ⟨b,11,none⟩ (.int .i64 x1.l)).setCell ⟨b,12,none⟩ (.int .i64 x1.c)).setCell ⟨b,13,none⟩ (.bool g0)).setCell ⟨b,14,none⟩ (.int .i64 x0.g)).setCell ⟨b,15,none⟩ (.int .i64 x0.b)).setCell ⟨b,16,none⟩ (.int .i64 x0.s)).setCell ⟨b,17,none⟩ (.int .i64 x0.l)).setCell ⟨b,18,none⟩ (.int .i64 x0.c)) b (Ow S L vd vp lim made (.slice (some ⟨g,0,none⟩) N C) g1 x1 g0 x0 code vt zx cnt en)):=((((((((((((S5.out.set 7 (.bool g1)).set 8 (.int .i64 x1.g)).set 9 (.int .i64 x1.b)).set 10 (.int .i64 x1.s)).set 11 (.int .i64 x1.l)).set 12 (.int .i64 x1.c)).set 13 (.bool g0)).set 14 (.int .i64 x0.g)).set 15 (.int .i64 x0.b)).set 16 (.int .i64 x0.s)).set 17 (.int .i64 x0.l)).set 18 (.int .i64 x0.c));have TE:Hid (Tw w b none ((((((((((((w5.setCell ⟨b,7,none⟩ (.bool g1)).setCell ⟨b,8,none⟩ (.int .i64 x1.g)).setCell ⟨b,9,none⟩ (.int .i64 x1.b)).setCell ⟨b,10,none⟩ (.int .i64 x1.s)).setCell ⟨b,11,none⟩ (.int .i64 x1.l)).setCell ⟨b,12,none⟩ (.int .i64 x1.c)).setCell ⟨b,13,none⟩ (.bool g0)).setCell ⟨b,14,none⟩ (.int .i64 x0.g)).setCell ⟨b,15,none⟩ (.int .i64 x0.b)).setCell ⟨b,16,none⟩ (.int .i64 x0.s)).setCell ⟨b,17,none⟩ (.int .i64 x0.l)).setCell ⟨b,18,none⟩ (.int .i64 x0.c)) none):=T5.out.set.set.set.set.set.set.set.set.set.set.set.set;refine QG 5 9 rfl rfl (by kernel_rfl) (fun K hK=>?_) (fun K hK=>?_)
   · skip
     go_simp;refine hK.out _ _ trivial (fun YA=>?_);refine YS 9 rfl (by kernel_rfl) (fun K hK=>?_);go_simp;refine hK.out _ _ trivial (fun YA=>?_)
     iterate 2 (refine Zf ?_ (by kernel_rfl) (fun _=>id) Z9 ?_ ?_;rotate_left;· intro w9 ZQ;clear ZQ;go_simp;try with_reducible rfl)
     refine YS 12 rfl (by kernel_rfl) (fun K hK=>?_);go_simp;refine hK.out _ _ trivial (fun YA=>?_)
     iterate 2 (refine Zf ?_ (by kernel_rfl) (fun _=>id) Z9 ?_ ?_;rotate_left;· intro w9 ZQ;clear ZQ;go_simp;try with_reducible rfl)
     refine YS 15 rfl (by kernel_rfl) (fun K hK=>?_);go_simp;refine hK.out _ _ trivial (fun YA=>?_);refine ZR (by kernel_rfl) ?_ _
     try simp only [Act.put,WV,WU,WT]
     generalize ((((((((((((w5.setCell _ _).setCell _ _).setCell _ _).setCell _ _).setCell _ _).setCell _ _).setCell _ _).setCell _ _).setCell _ _).setCell _ _).setCell _ _).setCell _ _)=w6 at *;have q7:=SE.out.cl 7 _ rfl
     cases g1 with
     | true =>
      go_wp2;go_ret;exact ⟨true,x1,g0,x0,rfl,SE.out,TE.out,.inr ⟨by omega,rfl,rfl,rfl,rfl⟩⟩
     | false =>
      go_wp2;go_ret;exact ⟨false,x1,g0,x0,rfl,SE.out,TE.out,.inr ⟨by omega,rfl,rfl,rfl,rfl⟩⟩
   skip
   go_simp;refine hK.out _ _ trivial (fun YA=>?_);refine YS 5 rfl (by kernel_rfl) (fun K hK=>?_);go_simp;refine hK.out _ _ trivial (fun YA=>?_)
   iterate 2 (refine Zf ?_ (by kernel_rfl) (fun _=>id) Z9 ?_ ?_;rotate_left;· intro w9 ZQ;clear ZQ;go_simp;try with_reducible rfl)
   refine YS 12 rfl (by kernel_rfl) (fun K hK=>?_);go_simp;refine hK.out _ _ trivial (fun YA=>?_)
   iterate 2 (refine Zf ?_ (by kernel_rfl) (fun _=>id) Z9 ?_ ?_;rotate_left;· intro w9 ZQ;clear ZQ;go_simp;try with_reducible rfl)
   refine YS 15 rfl (by kernel_rfl) (fun K hK=>?_);go_simp;refine hK.out _ _ trivial (fun YA=>?_);refine ZR (by kernel_rfl) ?_ _
   try simp only [Act.put,WV,WU,WT]
   generalize ((((((((((((w5.setCell _ _).setCell _ _).setCell _ _).setCell _ _).setCell _ _).setCell _ _).setCell _ _).setCell _ _).setCell _ _).setCell _ _).setCell _ _).setCell _ _)=w6 at *;have q7:=SE.out.cl 7 _ rfl
   cases g1 with
   | true =>
    go_wp2;go_ret;exact ⟨true,x1,g0,x0,rfl,SE.out,TE.out,.inr ⟨by omega,rfl,rfl,rfl,rfl⟩⟩
   | false =>
    go_wp2;go_ret;exact ⟨false,x1,g0,x0,rfl,SE.out,TE.out,.inr ⟨by omega,rfl,rfl,rfl,rfl⟩⟩
 have q7:=S4.out.cl 7 _ rfl
 cases g0 with
 | true =>
  go_wp2;go_ret;exact ⟨true,x0,g1,x1,rfl,S4.out,T4.out,.inl ⟨by omega,rfl,rfl,rfl,rfl⟩⟩
 | false =>
  go_wp2;go_ret;exact ⟨false,x0,g1,x1,rfl,S4.out,T4.out,.inl ⟨by omega,rfl,rfl,rfl,rfl⟩⟩
theorem Tw.gS {ns:List Nd} (h:Tw w b none w' none) (ho:XU 147 w lo v ns) (hne:v.ownBlock≠some b):XU 147 w' lo v ns :=
 Zn ho ⟨h.os,h.tape,h.output,h.size,fun q hq hq2=>h.block q hq (fun e=>hq2 (by rw [e])) (by simp)⟩ (.inr hne)
theorem Af (w:World) (b:Nat) (S L lim made:Int) (da pa ta:Option Addr) (dl dc pl pc tl tc:Nat) (vc:Value) (cg:Bool) (c:Qm) (og:Bool) (o:Qm) (code zx cnt en:Int) (hs:St w b (Ow S L (.slice da dl dc) (.slice pa pl pc) lim made vc cg c og o code (.slice ta tl tc) zx cnt en)) :
    Calls Tryz.prog 43 #[.pointer (some ⟨b,0,none⟩),.int .i64 6] w (Wj w (.agg #[.int .i64 code,.int .i64 c.g,.int .i64 c.b,.int .i64 c.s,.int .i64 c.l,.int .i64 c.c,.int .i64 zx,.slice ta tl tc,.int .i64 en,.int .i64 made,.slice da dl dc,.slice pa pl pc])):=by
 have hlt:=hs.lt;have B0:Hid (Zi w (w.alloc (.cells #[.int .i64 0,.int .i64 0,.int .i64 0,.int .i64 0,.int .i64 0,.int .i64 0,.int .i64 0,.slice none 0 0,.int .i64 0,.int .i64 0,.slice none 0 0,.slice none 0 0] 65))):=Yy.alloc YR _;have R0:Hid (St (w.alloc (.cells #[.int .i64 0,.int .i64 0,.int .i64 0,.int .i64 0,.int .i64 0,.int .i64 0,.int .i64 0,.slice none 0 0,.int .i64 0,.int .i64 0,.slice none 0 0,.slice none 0 0] 65)) w.heap.size [.int .i64 0,.int .i64 0,.int .i64 0,.int .i64 0,.int .i64 0,.int .i64 0,.int .i64 0,.slice none 0 0,.int .i64 0,.int .i64 0,.slice none 0 0,.slice none 0 0]):=St.new _ _ _;have N0:=ZU (hs.Xe B0.out hlt)
 go_enter Tryz.func43,Tryz.ntmps43
 go_wp2_with fail
 generalize (w.alloc _)=w0 at *;have Nd:Hid (St w0.drew b (Ow S L (.slice da dl dc) (.slice pa pl pc) lim made vc cg c og o code (.slice ta tl tc) zx cnt en)):=N0.out.below (below_drewN' w0 1);have T:Hid (St w0.drew w.heap.size [.int .i64 0,.int .i64 0,.int .i64 0,.int .i64 0,.int .i64 0,.int .i64 0,.int .i64 0,.slice none 0 0,.int .i64 0,.int .i64 0,.slice none 0 0,.slice none 0 0]):=R0.out.below (below_drewN' w0 1);have Bd:Hid (Zi w w0.drew):=B0.out.trans ((below_drewN' w0 1).mono B0.out.size);refine ZX (S:=fun W=>St W b (Ow S L (.slice da dl dc) (.slice pa pl pc) lim made vc cg c og o code (.slice ta tl tc) zx cnt en)) (by kernel_rfl) (Nd.out) (fun Z9=>?_)
 iterate 35 (refine Zf ?_ (by kernel_rfl) (fun _=>id) Z9 ?_ ?_;rotate_left;· intro w9 ZQ;have k2:=ZQ.cl 2 _ rfl;have k3:=ZQ.cl 3 _ rfl;have k5:=ZQ.cl 5 _ rfl;have k8:=ZQ.cl 8 _ rfl;have k9:=ZQ.cl 9 _ rfl;have k10:=ZQ.cl 10 _ rfl;have k11:=ZQ.cl 11 _ rfl;have k12:=ZQ.cl 12 _ rfl;have k19:=ZQ.cl 19 _ rfl;have k20:=ZQ.cl 20 _ rfl;have k21:=ZQ.cl 21 _ rfl;have k23:=ZQ.cl 23 _ rfl;clear ZQ;go_simp;try with_reducible rfl)
 clear Z9;generalize w0.drew=w1 at *;have q0:=T.out.cl 0 _ rfl;have f0:=T.out.fz 0;have q1:=T.out.cl 1 _ rfl;have f1:=T.out.fz 1;have q2:=T.out.cl 2 _ rfl;have f2:=T.out.fz 2;have q3:=T.out.cl 3 _ rfl;have f3:=T.out.fz 3;have q4:=T.out.cl 4 _ rfl;have f4:=T.out.fz 4;have q5:=T.out.cl 5 _ rfl;have f5:=T.out.fz 5;have q6:=T.out.cl 6 _ rfl;have f6:=T.out.fz 6;have q7:=T.out.cl 7 _ rfl;have f7:=T.out.fz 7;have q8:=T.out.cl 8 _ rfl;have f8:=T.out.fz 8;have q9:=T.out.cl 9 _ rfl;have f9:=T.out.fz 9;have iI:=T.out.cl 10 _ rfl;have f10:=T.out.fz 10;have iH:=T.out.cl 11 _ rfl;have f11:=T.out.fz 11;have SE:Hid (St ((((((((((((w1.setCell ⟨w.heap.size,0,none⟩ (.int .i64 code)).setCell ⟨w.heap.size,1,none⟩ (.int .i64 c.g)).setCell ⟨w.heap.size,2,none⟩ (.int .i64 c.b)).setCell ⟨w.heap.size,3,none⟩ (.int .i64 c.s)).setCell ⟨w.heap.size,4,none⟩ (.int .i64 c.l)).setCell ⟨w.heap.size,5,none⟩ (.int .i64 c.c)).setCell ⟨w.heap.size,6,none⟩ (.int .i64 zx)).setCell ⟨w.heap.size,7,none⟩ (.slice ta tl tc)).setCell ⟨w.heap.size,8,none⟩ (.int .i64 en)).setCell ⟨w.heap.size,9,none⟩ (.int .i64 made)).setCell ⟨w.heap.size,10,none⟩ (.slice da dl dc)).setCell ⟨w.heap.size,11,none⟩ (.slice pa pl pc)) w.heap.size [.int .i64 code,.int .i64 c.g,.int .i64 c.b,.int .i64 c.s,.int .i64 c.l,.int .i64 c.c,.int .i64 zx,.slice ta tl tc,.int .i64 en,.int .i64 made,.slice da dl dc,.slice pa pl pc]):=((((((((((((T.out.set 0 (.int .i64 code)).set 1 (.int .i64 c.g)).set 2 (.int .i64 c.b)).set 3 (.int .i64 c.s)).set 4 (.int .i64 c.l)).set 5 (.int .i64 c.c)).set 6 (.int .i64 zx)).set 7 (.slice ta tl tc)).set 8 (.int .i64 en)).set 9 (.int .i64 made)).set 10 (.slice da dl dc)).set 11 (.slice pa pl pc));have BE:Hid (Zi w ((((((((((((w1.setCell ⟨w.heap.size,0,none⟩ (.int .i64 code)).setCell ⟨w.heap.size,1,none⟩ (.int .i64 c.g)).setCell ⟨w.heap.size,2,none⟩ (.int .i64 c.b)).setCell ⟨w.heap.size,3,none⟩ (.int .i64 c.s)).setCell ⟨w.heap.size,4,none⟩ (.int .i64 c.l)).setCell ⟨w.heap.size,5,none⟩ (.int .i64 c.c)).setCell ⟨w.heap.size,6,none⟩ (.int .i64 zx)).setCell ⟨w.heap.size,7,none⟩ (.slice ta tl tc)).setCell ⟨w.heap.size,8,none⟩ (.int .i64 en)).setCell ⟨w.heap.size,9,none⟩ (.int .i64 made)).setCell ⟨w.heap.size,10,none⟩ (.slice da dl dc)).setCell ⟨w.heap.size,11,none⟩ (.slice pa pl pc))):=by
  iterate 12 refine Below.setCell ?_ (by show w.heap.size≤w.heap.size;omega) _
  exact Bd.out
 have NE:St ((((((((((((w1.setCell ⟨w.heap.size,0,none⟩ (.int .i64 code)).setCell ⟨w.heap.size,1,none⟩ (.int .i64 c.g)).setCell ⟨w.heap.size,2,none⟩ (.int .i64 c.b)).setCell ⟨w.heap.size,3,none⟩ (.int .i64 c.s)).setCell ⟨w.heap.size,4,none⟩ (.int .i64 c.l)).setCell ⟨w.heap.size,5,none⟩ (.int .i64 c.c)).setCell ⟨w.heap.size,6,none⟩ (.int .i64 zx)).setCell ⟨w.heap.size,7,none⟩ (.slice ta tl tc)).setCell ⟨w.heap.size,8,none⟩ (.int .i64 en)).setCell ⟨w.heap.size,9,none⟩ (.int .i64 made)).setCell ⟨w.heap.size,10,none⟩ (.slice da dl dc)).setCell ⟨w.heap.size,11,none⟩ (.slice pa pl pc)) b (Ow S L (.slice da dl dc) (.slice pa pl pc) lim made vc cg c og o code (.slice ta tl tc) zx cnt en):=((((((((((((Nd.out.other (by omega)).other (by omega)).other (by omega)).other (by omega)).other (by omega)).other (by omega)).other (by omega)).other (by omega)).other (by omega)).other (by omega)).other (by omega)).other (by omega));refine YS 35 rfl (by kernel_rfl) (fun K hK=>?_);go_simp;refine hK.out _ _ NE (fun YA=>?_);refine ZR (by kernel_rfl) ?_ _
 try simp only [Act.put,WV,WU,WT]
 generalize ((((((((((((w1.setCell _ _).setCell _ _).setCell _ _).setCell _ _).setCell _ _).setCell _ _).setCell _ _).setCell _ _).setCell _ _).setCell _ _).setCell _ _).setCell _ _)=wE at *;go_wp2;have e0:=SE.out.cl 0 _ rfl;have e1:=SE.out.cl 1 _ rfl;have e2:=SE.out.cl 2 _ rfl;have e3:=SE.out.cl 3 _ rfl;have e4:=SE.out.cl 4 _ rfl;have e5:=SE.out.cl 5 _ rfl;have e6:=SE.out.cl 6 _ rfl;have e7:=SE.out.cl 7 _ rfl;have e8:=SE.out.cl 8 _ rfl;have e9:=SE.out.cl 9 _ rfl;have e10:=SE.out.cl 10 _ rfl;have e11:=SE.out.cl 11 _ rfl;exact ZW (v:=.agg #[.int .i64 code,.int .i64 c.g,.int .i64 c.b,.int .i64 c.s,.int .i64 c.l,.int .i64 c.c,.int .i64 zx,.slice ta tl tc,.int .i64 en,.int .i64 made,.slice da dl dc,.slice pa pl pc]) (by simp [results,Tryz.results43,go_sem,e0,e1,e2,e3,e4,e5,e6,e7,e8,e9,e10,e11]) rfl ⟨rfl,BE.out⟩
theorem Ae (f:Int) (log want:List Int) (m:Nat):∀(n b:Nat),QS f log want b (m+n)=QS f log want b m++QS f log want (b+m) n:=by
 induction m with
 | zero=>intro n b;simp [QS]
 | succ m ih =>
  intro n b;rw [show m+1+n=(m+n)+1 by omega,QS,QS,ih,show b+(m+1)=b+1+m by omega,ZO]
theorem RH (f:Int) (log want:List Int) (b:Nat):QS f log want 0 (b+1)=QS f log want 0 b++(if blk log b=blk want b then [] else [(f+b,blk want b)]):=by
 rw [Ae];simp [QS]
theorem LI (f:Int) (log want:List Int):∀(n b:Nat),(QS f log want b n).length≤n:=by
 intro n
 induction n with
 | zero=>intro b;simp [QS]
 | succ n ih=>intro b;rw [QS,ZZ];have:=ih (b+1);split <;> simp <;> omega
theorem Ad (log:List Int) (n e i:Nat) (hl:log.length=n*64) (he:e≤log.length) (hi:i<n) :
    blk (Nq log e) i=(blk log i).take (min (e - i*64) 64)++zeros (64 - min (e - i*64) 64):=by
 have hbl:(blk log i).length=64:=by unfold blk;simp;omega
 apply Tb
 · simp [blk,Nq,zeros];omega
 intro j h1 h2;have hj:j<64:=by simp [blk,Nq,zeros] at h1;omega
 simp only [blk,Nq,zeros,List.getElem_take,List.getElem_drop,List.getElem_append,Zw]
 by_cases h:i*64+j<e
 · have h3:j<min (e - i*64) 64:=by omega
   rw [dif_pos (by omega),dif_pos (by simp;omega)]
 rw [dif_neg (by omega),dif_neg (by simp;omega)]
 simp
theorem wD {i:Nat} (h:xs.length=n*64) (hi:i<n):(blk xs i).length=64:=by unfold blk;simp;omega
theorem rQ (D:List Int) (f l i:Nat) (hi:i<l):blk (Me D f l) i=blk D (f+i):=by
 unfold blk Me;rw [List.drop_take,U6,Yc,YC (by omega),show f*64+i*64=(f+i)*64 by omega]
theorem plain8:Tryz.prog.plainKey 5=true:=by kernel_rfl
theorem nU:Tryz.prog.underlying 5=some (.int .u8):=by kernel_rfl
theorem KG (w:World) (d:Nat) (X Y:List Int):∀(is:List Nat),(∀i ∈ is,i<X.length∧i<Y.length)→(Op.eqItems (d+1) 5 1 (X.map (Value.int .u8)).toArray (Y.map (Value.int .u8)).toArray is).run Tryz.prog w=.ok (is.all (fun i=>X.getD i 0 == Y.getD i 0)) w
 | [],_=>by simp [Op.eqItems]
 | i :: is,h=>by
  obtain ⟨h1,h2⟩:=h i (by simp);have ih:=KG w d X Y is (fun j hj=>h j (by simp [hj]));have p1:(X.map (Value.int .u8)).toArray[i*1]?=some (.int .u8 (X.getD i 0)):=by simp [List.getD,h1]
  have p2:(Y.map (Value.int .u8)).toArray[i*1]?=some (.int .u8 (Y.getD i 0)):=by simp [List.getD,h2]
  simp only [Op.eqItems,XX,run_part_plain w plain8 p1,run_part_plain w plain8 p2,XH,run_equalIn_int w d 5 .u8 .u8 _ _ nU]
  cases e:(X.getD i 0 == Y.getD i 0) with
  | false=>simp only [VR,e,Bool.false_and,Bool.not_false,Vo,Ww]
  | true =>
   simp only [VR,e,Xz,Bool.not_true,Yu,WW]
   exact ih
theorem FB (w:World) (X Y:List Int) (hX:X.length=64) (hY:Y.length=64):(Op.equalIn 10000 117 (.agg (X.map (Value.int .u8)).toArray) (.agg (Y.map (Value.int .u8)).toArray)).run Tryz.prog w=.ok (decide (X=Y)) w:=by
 obtain ⟨i,hi⟩:∃i,Tryz.prog.info? 5=some i:=by
  cases h:Tryz.prog.info? 5 with
  | none=>exact absurd h (by
      have:(Tryz.prog.info? 5).isSome=true:=by kernel_rfl
      intro e;rw [e] at this;cases this)
  | some i=>exact ⟨i,rfl⟩
 rw [run_equalIn_array w 9999 _ _ Tryz.underlying117 hi];have hc:Tryz.prog.cellsOf 5=1:=by kernel_rfl
 have hb:((List.range 64).all (fun i=>X.getD i 0 == Y.getD i 0))=decide (X=Y):=by
  rw [SJ,Yw,Zj]
  constructor
  · intro h
    apply Tb (by omega);intro j h1 h2;have:=h j (by rw [Yb];omega)
    simpa [List.getD,h1,h2] using this
  rintro rfl j _
  simp
 rw [hc,←hb];exact KG w 9998 X Y _ (fun i hi=>by rw [Yb] at hi;omega)
theorem kz (w:World):(zeroValue 5).run Tryz.prog w=.ok (.int .u8 0) w:=by kernel_rfl
theorem rP (w7:World) (b:Nat) (V:List Value) (hV:V.length=64) (ht:w7.there b 0 64) (hR:w7.rangeAt b 0 V) (k c:Nat) (hk:k<64) :
    (Builtin.clear_ #[22] 0 #[.slice (some ⟨b,k,none⟩) (64 - k) c]).run Tryz.prog w7=.ok (.tuple #[]) (w7.setCells b k (List.replicate (64 - k) (.int .u8 0)))
    ∧ (w7.setCells b k (List.replicate (64 - k) (.int .u8 0))).rangeAt b 0 (V.take k++List.replicate (64 - k) (.int .u8 0)):=by
 have hc:∀j,j<64 - k→(w7.cell? ⟨b,k+j,none⟩).isSome=true:=fun j hj=>by
  have h9:=(ht (k+j) (by omega)).1;rw [Za] at h9;exact h9
 refine ⟨Go.Lib.run_clear_slice _ 22 5 0 (.int .u8 0) Tryz.underlying22 kz rfl rfl b k (64 - k) c (by omega) hc (fun j hj=>by
  have h9:=(ht (k+j) (by omega)).2;rw [Za] at h9;exact h9),fun j u hu=>?_⟩
 have hj:j<64:=by have:=(Zh.1 hu).1;simp [hV] at this;omega
 by_cases hjk:j<k
 · rw [Ub _ _ _ _ _ (fun _ _=>.inl (by show 0+j<k;omega))]
   refine hR j u ?_;rw [Zy (by simp [hV];omega),XP hjk] at hu;exact hu
 have h9:=World.cell?_setCells_in b (List.replicate (64 - k) (Value.int .u8 0)) k _ (by rw [XJ];exact hc) (j - k) (by rw [XJ];omega);rw [show k+(j - k)=0+j by omega] at h9;rw [h9];rw [Zv (by simp [hV];omega)] at hu;have h8:u=.int .u8 0:=by
  have:=UT hu;exact (List.mem_replicate.1 this).2
 rw [h8]
 simp
theorem ky (w:World) (q:Nat):(Builtin.clear_ #[22] 0 #[.slice (some ⟨q,0,none⟩) 0 0]).run Tryz.prog w=.ok (.tuple #[]) w:=by
 simp [Builtin.clear_,go_sem,Ya (P:=Tryz.prog) Tryz.underlying22]
theorem Ac (h:w.there b o n) (hc:w'.heap[b]?=w.heap[b]?):w'.there b o n:=fun j hj=>by
 obtain ⟨h1,h2⟩:=h j hj;refine ⟨?_,?_⟩
 · rw [ZP (w:=w) (a:=⟨b,o+j,none⟩) hc];exact h1
 unfold World.frozen? at h2 ⊢;rw [hc];exact h2
theorem Np {rs':List (Int × List Int)} {V:List Int} (h:Put rs x V rs') (hno:∀i,i<rs.length→pB rs i≠x):rs'=rs++[(x,V)]:=by
 rcases h with ⟨i,hi,e,-⟩ | ⟨-,h⟩
 · exact absurd e (hno i hi)
 exact h
theorem Qx.kx {lo' tb mb:Nat} (h:Qx w lo tb mb v rs) (hl:lo'≤lo):Qx w lo' tb mb v rs:=by
 refine ⟨h.box,⟨h.rows.1,?_⟩,h.map,h.full,h.apart,ZJ hl h.lot,ZJ hl h.kY,h.ne,h.vt,h.vm⟩
 rcases h.rows.2 with hn | ⟨g,cap,cur,rfl,hbg,rest⟩
 · exact .inl hn
 exact .inr ⟨g,cap,cur,rfl,by omega,rest⟩
theorem LH (f:Int) (lg wn:List Int):∀(n b i:Nat),i<(QS f lg wn b n).length→∃k,b≤k∧k<b+n∧pB (QS f lg wn b n) i=f+k:=by
 intro n
 induction n with
 | zero=>intro b i hi;simp [QS] at hi
 | succ n ih =>
  intro b i hi;rw [QS] at hi ⊢
  by_cases hc:blk lg b=blk wn b
  · rw [Z0 hc,Zd] at hi ⊢
    obtain ⟨k,h1,h2,h3⟩:=ih (b+1) i hi;exact ⟨k,by omega,by omega,h3⟩
  rw [Z1 hc] at hi ⊢
  cases i with
  | zero=>exact ⟨b,by omega,by omega,rfl⟩
  | succ i =>
   obtain ⟨k,h1,h2,h3⟩:=ih (b+1) i (by simpa using hi);refine ⟨k,by omega,by omega,?_⟩;rw [←h3];rfl
def wC (w:World) (rs:List (Int × List Int)) (e:Ending) (w':World):Prop:=∃tb mb v,e=.returned (.pointer (some ⟨tb,0,none⟩))∧Qx w' w.heap.size tb mb v rs∧Zi w w'
theorem Fz (w:World) (b g N C f:Nat) (S:Int) (sn:Nat) (vd vp:Value) (lim made:Int) (vc:Value) (cg:Bool) (c:Qm) (og:Bool) (o:Qm) (code:Int) (vt:Value) (zx cnt:Int) (en:Nat) (cont:List Int) (hs:St w b (Ow S (sn:Int) vd vp lim made vc cg c og o code vt zx cnt (en:Int))) (nV:vc=.slice (some ⟨g,0,none⟩) N C) (hr:Rd .u8 w (.slice (some ⟨g,0,none⟩) N C) cont) (hN:cont.length=N) (Bw:N≤1048576) (hc:Wp S (sn:Int)=true) (hcb:0≤c.b∧c.b≤1) (hf:Ry S (sn:Int) c.b true=(f:Int)) (Y2:(f+sn)*64≤N) (hen:en≤sn*64) (hsn:sn≤64) (eK:f≤1000) :
    Calls Tryz.prog 87 #[.pointer (some ⟨b,0,none⟩)] w (wC w (QS (f:Int) (Me cont f sn) (Nq (Me cont f sn) en) 0 sn)):=by
 have hlt:=hs.lt;have HS:=ZU hs;have Ov:Hid (∀W,Calls Tryz.prog 79 #[.agg #[.int .i64 S,.int .i64 (sn:Int)],.int .i64 c.b] W (Wj W (.agg #[.int .i64 (f:Int),.int .i64 (sn:Int)]))):=by
  intro W;have h9:=RI W S (sn:Int) c.b hc hcb;rw [hf,show Jg S (sn:Int) true=(sn:Int) from rfl] at h9;exact h9
 have kC:Hid (∀W (j:Nat),j<sn→Zi w W→Calls Tryz.prog 108 #[vc,.int .i64 ((f:Int)+(j:Int))] W (Wj W (.agg ((blk (Me cont f sn) j).map (Value.int .u8)).toArray))):=by
  intro W j hj hW;have h9:=Mk W g 0 N C (f+j) cont (hr.below hW) hN (by omega) Bw;rw [nV,rQ _ _ _ _ hj];rw [show ((f+j:Nat):Int)=(f:Int)+(j:Int) by omega] at h9;exact h9
 have hll:(Me cont f sn).length=sn*64:=Oe _ _ _ (by omega);have kV:Hid (∀j,j<sn→(blk (Me cont f sn) j).length=64∧blk (Nq (Me cont f sn) en) j=(blk (Me cont f sn) j).take (min (en - j*64) 64)++zeros (64 - min (en - j*64) 64)):=fun j hj=>⟨wD hll hj,Ad _ sn en j hll (by omega) hj⟩
 clear hs hr nV hN Bw hc hf Y2 hll;generalize (Nq (Me cont f sn) en)=O at *;generalize (Me cont f sn)=H at *
 go_enter Tryz.func87,Tryz.ntmps87
 go_wp2_with fail
 rename_i KK Ib;have REST:Hid (∀(b3:Nat) (W:World),St W b (Ow S (sn:Int) vd vp lim made vc cg c og o code vt zx cnt (en:Int))→St W b3 [.int .i64 (f:Int),.int .i64 (sn:Int)]→Zi w W→w.heap.size≤b3→KK { tmps:=#[.pointer (some ⟨b,0,none⟩),undef,.pointer none,.pointer (some ⟨b3,0,none⟩),undef,undef,undef,undef,.pointer (some ⟨b,0,none⟩),.pointer (some ⟨b,0,none⟩),.pointer (some ⟨b,0,none⟩),.agg #[.int .i64 S,.int .i64 (sn:Int)],.pointer (some ⟨b,0,none⟩),.pointer (some ⟨b,0,none⟩),.pointer (some ⟨b,7,none⟩),.pointer (some ⟨b,8,none⟩),.pointer (some ⟨b,9,none⟩),.int .i64 c.b,.agg #[.int .i64 (f:Int),.int .i64 (sn:Int)],undef,undef,undef,undef,undef,undef,undef,undef,undef,undef,undef,undef,undef,undef,undef,undef,undef,undef,undef,undef,undef,undef,undef,undef,undef,undef,undef,undef,undef,undef,undef,undef,undef,undef,undef,undef,undef,undef,undef],defers:=[] } W):=by
  clear HS Ov;intro b3 W N0 X0 B0 hb3;refine Ib _ _ ?_;have sW:=ZU N0;have HX0:=ZU X0;have HB0:=ZU B0;have Z4:=X0.lt;clear N0 X0 B0 Ib
  go_wp2_with fail
  refine (NM W).mono ?_;rintro e w1 ⟨rfl,t1,b1⟩;have N1:=ZU (sW.out.below b1);have X1:=ZU (HX0.out.below b1);have B1:=ZU (WD HB0.out b1);have T1:=ZU t1;have hbW:=sW.out.lt;have hW:=HB0.out.size;have x1:=X1.out.cl 1 _ rfl;clear t1 b1 sW HX0 HB0;go_wp2
  go_loopw [22] (fun vi wr=>∃(j:Nat) (v:Value),j≤sn∧vi=.int .i64 (j:Int)∧Hid (St wr b (Ow S (sn:Int) vd vp lim made vc cg c og o code vt zx cnt (en:Int)))∧Hid (St wr b3 [.int .i64 (f:Int),.int .i64 (sn:Int)])∧Hid (Zi w wr)∧Hid (Qx wr W.heap.size (W.heap.size+1) W.heap.size v (QS (f:Int) H O 0 j))∧Hid (W.heap.size+2≤wr.heap.size)) (fun i _=>sn - (intOf i).toNat)
  case atStart=>exact ⟨0,_,by omega,rfl,N1,X1,B1,T1,by have:=T1.out.box.1.1;show _≤_;omega⟩
  case round =>
   clear N1 X1 B1 T1;obtain ⟨j,v,hj,rfl,N2,X2,B2,T2,Z2⟩:=hrel
   by_cases hlt2:j<sn
   · have Rj:(j:Int)<(sn:Int):=by omega
     go_wp2_with fail
     rename_i Y1 Zk;have U:=kV.out j hlt2;obtain ⟨V,hV⟩:∃V,V=(blk H j).map (Value.int .u8):=⟨_,rfl⟩;have HV:=ZU hV;have QH:Hid (V.length=64):=by rw [hV];show _=_;rw [Zl];exact U.1
     have sL:Hid (∀v ∈ V,v.oneCell'=true):=by rw [hV];exact Yi _ _
     clear hV;have Z5:Hid (∀(b6:Nat) (W':World),St W' b (Ow S (sn:Int) vd vp lim made vc cg c og o code vt zx cnt (en:Int))→St W' b3 [.int .i64 (f:Int),.int .i64 (sn:Int)]→Zi w W'→Qx W' W.heap.size (W.heap.size+1) W.heap.size v (QS (f:Int) H O 0 j)→W'.rangeAt b6 0 V→b6<W'.heap.size→wr.heap.size≤b6→wr.heap.size≤W'.heap.size→Y1 { tmps:=#[.pointer (some ⟨b,0,none⟩),undef,.pointer none,.pointer (some ⟨b3,0,none⟩),.pointer (some ⟨W.heap.size+1,0,none⟩),.int .i64 (j:Int),.pointer (some ⟨b6,0,none⟩),u7,.pointer (some ⟨b,0,none⟩),.pointer (some ⟨b,0,none⟩),.pointer (some ⟨b,0,none⟩),.agg #[.int .i64 S,.int .i64 (sn:Int)],.pointer (some ⟨b,0,none⟩),.pointer (some ⟨b,0,none⟩),.pointer (some ⟨b,7,none⟩),.pointer (some ⟨b,8,none⟩),.pointer (some ⟨b,9,none⟩),.int .i64 c.b,.agg #[.int .i64 (f:Int),.int .i64 (sn:Int)],.pointer (some ⟨W.heap.size+1,0,none⟩),.pointer (some ⟨b3,1,none⟩),.int .i64 (sn:Int),.int .i64 (j:Int),.bool true,.int .i64 (j:Int),.pointer (some ⟨b,0,none⟩),.pointer (some ⟨b,0,none⟩),.pointer (some ⟨b,6,none⟩),vc,.pointer (some ⟨b3,0,none⟩),.int .i64 (f:Int),.int .i64 (j:Int),.int .i64 ((f:Int)+(j:Int)),.agg V.toArray,u34,u35,u36,u37,u38,u39,u40,u41,u42,u43,u44,u45,u46,u47,u48,u49,u50,u51,u52,u53,u54,u55,u56,undef],defers:=[] } W'):=by
      intro b6 W' hN hX hB hT hR h6 X7 ZV;refine Zk _ _ ?_;have HN:=ZU hN;have HX:=ZU hX;have HB:=ZU hB;have HT:=ZU hT;have HR:=ZU hR;have hw1:IntKind.i64.wrap ((en:Int) - (j:Int)*64)=(en:Int) - (j:Int)*64:=by rw [Zq];omega
      have hw2:IntKind.i64.wrap ((j:Int)*64)=(j:Int)*64:=by rw [Zq];omega
      have hw3:IntKind.i64.wrap ((f:Int)+(j:Int))=(f:Int)+(j:Int):=by rw [Zq];omega
      clear hN hX hB hT hR
      go_wp2_with (first | (refine YL rfl 117 _ rfl b6 0 rfl V _ HR.out Tryz.underlying117 rfl (Wi _ QH.out) ?_) | (refine YL rfl 117 _ rfl b6 0 rfl V _ (Wk HR.out _) Tryz.underlying117 rfl (Wi _ QH.out) ?_) | (refine UO rfl 117 _ _ rfl W'.heap.size 0 V.toArray rfl rfl ?s1 ?s2 ?s3 (Hid.out ?wall)))
      case s1 =>
       have e:V.toArray.size=64:=by rw [ZI];exact QH.out
       rw [e];exact Vn _ _ _ _ rfl
      case s2=>rw [ZI];exact Wi _ QH.out
      case s3=>exact XL sL.out
      case wall =>
       unfold Hid;generalize ZT:World.setCells _ _ _ _=w7;have B7:Hid (Zi W' w7):=by subst ZT;exact below_setCells YR _ _ _ (Yy.alloc YR _)
       have Z6:Hid (w7.rangeAt W'.heap.size 0 V):=by
        subst ZT;exact Yf _ _ _ _ (Vn _ _ _ _ (by rw [QH.out];rfl))
       have T7:Hid (w7.there W'.heap.size 0 64):=by
        subst ZT;exact World.there_setCells (Vn _ _ _ _ rfl) _ _ _
       clear ZT;have k23:=(HN.out.below B7.out).cl 23 _ rfl;obtain ⟨V8,ZF⟩:∃V8,V8=(blk O j).map (Value.int .u8):=⟨_,rfl⟩;have E:=ZU ZF;have A:Hid ((blk O j).length=64):=by
        show _=_;rw [U.2,ZZ,Zw,U.1];unfold zeros;rw [XJ];omega
       have t:Hid (V8.length=64):=by show _=_;rw [ZF,Zl];exact A.out
       clear ZF
       by_cases hA:en<j*64
       · have X4:(en:Int) - (j:Int)*64<0:=by omega
         obtain ⟨w8,hw8⟩:∃w8,w8=w7.setCells W'.heap.size 0 (List.replicate (64 - 0) (.int .u8 0)):=⟨_,rfl⟩;have Qs:(Builtin.clear_ #[22] 0 #[.slice (some ⟨W'.heap.size,0,none⟩) 64 64]).run Tryz.prog w7=.ok (.tuple #[]) w8:=by rw [hw8];exact (rP w7 _ V QH.out T7.out Z6.out 0 64 (by omega)).1
         have Z':Hid (w8.rangeAt W'.heap.size 0 V8):=by
          have e9:V8=V.take 0++List.replicate (64 - 0) (.int .u8 0):=by
           rw [E.out,U.2,show min (en - j*64) 64=0 by omega,HV.out,Y6,←UD];unfold zeros;rw [Uf]
          rw [e9,hw8];exact (rP w7 _ V QH.out T7.out Z6.out 0 64 (by omega)).2
         have Z:Hid (Zi W' w8):=by rw [hw8];exact below_setCells YR _ _ _ B7.out
         clear hw8;have Ai:=ZU (Wd HR.out (Z.out.block b6 h6));have x30:=(HX.out.below Z.out).cl 0 _ rfl;have N8:=ZU (HN.out.below Z.out);have X8:=ZU (HX.out.below Z.out);have T8:=ZU (HT.out.below Z.out);have B8:=ZU (WD HB.out Z.out);have z8:=ZJ ZV Z.out.size
         by_cases heq:blk O j=blk H j
         · have Z8:∀w9:World,(Op.equalIn 10000 117 (.agg V8.toArray) (.agg V.toArray)).run Tryz.prog w9=.ok true w9:=fun w9=>by
            rw [E.out,HV.out,FB w9 _ _ A.out U.1,Zm heq]
           have Oc:Hid (QS (f:Int) H O 0 (j+1)=QS (f:Int) H O 0 j):=by show _=_;rw [RH,Z0 heq.symm,YD]
           clear heq
           go_wp2_with (first | (refine YL rfl 117 _ rfl W'.heap.size 0 rfl V8 _ Z'.out Tryz.underlying117 rfl (Wi _ t.out) ?_) | (refine YL rfl 117 _ rfl b6 0 rfl V _ Ai.out Tryz.underlying117 rfl (Wi _ QH.out) ?_))
           go_roundw
           case rel=>exact ⟨j+1,v,by omega,by go_num,N8,X8,B8,by rw [Oc.out];exact T8,by show _≤_;have:=Z2.out;omega⟩
           case measure=>simp [intOf];omega
         have Z8:∀w9:World,(Op.equalIn 10000 117 (.agg V8.toArray) (.agg V.toArray)).run Tryz.prog w9=.ok false w9:=fun w9=>by
          rw [E.out,HV.out,FB w9 _ _ A.out U.1,Zo heq]
         have Oc:Hid (QS (f:Int) H O 0 (j+1)=QS (f:Int) H O 0 j++[((f:Int)+(j:Int),blk O j)]):=by show _=_;rw [RH,Z1 (fun e=>heq e.symm)]
         clear heq
         go_wp2_with (first | (refine YL rfl 117 _ rfl W'.heap.size 0 rfl V8 _ Z'.out Tryz.underlying117 rfl (Wi _ t.out) ?_) | (refine YL rfl 117 _ rfl b6 0 rfl V _ Ai.out Tryz.underlying117 rfl (Wi _ QH.out) ?_))
         have hpt:=NK w8 W.heap.size _ _ v (QS (f:Int) H O 0 j) ((f:Int)+(j:Int)) (blk O j) T8.out (by omega) (by omega) A.out (by have:=LI (f:Int) H O j 0;omega) (by have:=Z2.out;omega);rw [←E.out] at hpt;refine hpt.mono ?_;clear hpt;rintro e w9 ⟨rfl,⟨v',rs',hput,hT'⟩,hB',-⟩;have hrs:=Np hput (fun i hi=>by
          obtain ⟨q,-,h2,h3⟩:=LH (f:Int) H O j 0 i hi;rw [h3];omega)
         have T9:Hid (Qx w9 W.heap.size (W.heap.size+1) W.heap.size v' (QS (f:Int) H O 0 (j+1))):=by rw [Oc.out,←hrs];exact hT'
         have N9:=ZU (N8.out.Xe hB' hbW);have X9:=ZU (X8.out.Xe hB' Z4);have B9:=ZU (B8.out.trans (hB'.mono hW));have z9:=hB'.size;clear hput hT' hB' hrs Oc Z8 Qs x30;go_wp2
         go_roundw
         case rel=>exact ⟨j+1,v',by omega,by go_num,N9,X9,B9,T9,by show _≤_;have:=Z2.out;omega⟩
         case measure=>simp [intOf];omega
       obtain ⟨k,hk⟩:∃k,en=j*64+k:=⟨en - j*64,by omega⟩;have ZD:(en:Int) - (j:Int)*64=(k:Int):=by omega
       have HK:=ZU hk;clear hk;rw [ZD] at hw1
       by_cases hB:k<64
       · have hBI:(k:Int)<64:=by omega
         have hB1:k≤64:=by omega
         have hB2:(k:Int)≤64:=by omega
         have hB3:¬64=k:=by omega
         have hB4:¬k=64:=by omega
         have XZ:¬(64 - k=0):=by omega
         have XY:¬(64:Int)<(k:Int):=by omega
         obtain ⟨w8,hw8⟩:∃w8,w8=w7.setCells W'.heap.size k (List.replicate (64 - k) (.int .u8 0)):=⟨_,rfl⟩;have Qs:(Builtin.clear_ #[22] 0 #[.slice (some ⟨W'.heap.size,k,none⟩) (64 - k) (64 - k)]).run Tryz.prog w7=.ok (.tuple #[]) w8:=by rw [hw8];exact (rP w7 _ V QH.out T7.out Z6.out k _ hB).1
         have Z':Hid (w8.rangeAt W'.heap.size 0 V8):=by
          have e9:V8=V.take k++List.replicate (64 - k) (.int .u8 0):=by
           rw [E.out,U.2,show min (en - j*64) 64=k by have:=HK.out;omega,HV.out,Y6,←UD];unfold zeros;rw [Uf]
          rw [e9,hw8];exact (rP w7 _ V QH.out T7.out Z6.out k 64 (by omega)).2
         have Z:Hid (Zi W' w8):=by rw [hw8];exact below_setCells YR _ _ _ B7.out
         clear hw8;have Ai:=ZU (Wd HR.out (Z.out.block b6 h6));have x30:=(HX.out.below Z.out).cl 0 _ rfl;have N8:=ZU (HN.out.below Z.out);have X8:=ZU (HX.out.below Z.out);have T8:=ZU (HT.out.below Z.out);have B8:=ZU (WD HB.out Z.out);have z8:=ZJ ZV Z.out.size
         by_cases heq:blk O j=blk H j
         · have Z8:∀w9:World,(Op.equalIn 10000 117 (.agg V8.toArray) (.agg V.toArray)).run Tryz.prog w9=.ok true w9:=fun w9=>by
            rw [E.out,HV.out,FB w9 _ _ A.out U.1,Zm heq]
           have Oc:Hid (QS (f:Int) H O 0 (j+1)=QS (f:Int) H O 0 j):=by show _=_;rw [RH,Z0 heq.symm,YD]
           clear heq
           go_wp2_with (first | (refine YL rfl 117 _ rfl W'.heap.size 0 rfl V8 _ Z'.out Tryz.underlying117 rfl (Wi _ t.out) ?_) | (refine YL rfl 117 _ rfl b6 0 rfl V _ Ai.out Tryz.underlying117 rfl (Wi _ QH.out) ?_))
           go_roundw
           case rel=>exact ⟨j+1,v,by omega,by go_num,N8,X8,B8,by rw [Oc.out];exact T8,by show _≤_;have:=Z2.out;omega⟩
           case measure=>simp [intOf];omega
         have Z8:∀w9:World,(Op.equalIn 10000 117 (.agg V8.toArray) (.agg V.toArray)).run Tryz.prog w9=.ok false w9:=fun w9=>by
          rw [E.out,HV.out,FB w9 _ _ A.out U.1,Zo heq]
         have Oc:Hid (QS (f:Int) H O 0 (j+1)=QS (f:Int) H O 0 j++[((f:Int)+(j:Int),blk O j)]):=by show _=_;rw [RH,Z1 (fun e=>heq e.symm)]
         clear heq
         go_wp2_with (first | (refine YL rfl 117 _ rfl W'.heap.size 0 rfl V8 _ Z'.out Tryz.underlying117 rfl (Wi _ t.out) ?_) | (refine YL rfl 117 _ rfl b6 0 rfl V _ Ai.out Tryz.underlying117 rfl (Wi _ QH.out) ?_))
         have hpt:=NK w8 W.heap.size _ _ v (QS (f:Int) H O 0 j) ((f:Int)+(j:Int)) (blk O j) T8.out (by omega) (by omega) A.out (by have:=LI (f:Int) H O j 0;omega) (by have:=Z2.out;omega);rw [←E.out] at hpt;refine hpt.mono ?_;clear hpt;rintro e w9 ⟨rfl,⟨v',rs',hput,hT'⟩,hB',-⟩;have hrs:=Np hput (fun i hi=>by
          obtain ⟨q,-,h2,h3⟩:=LH (f:Int) H O j 0 i hi;rw [h3];omega)
         have T9:Hid (Qx w9 W.heap.size (W.heap.size+1) W.heap.size v' (QS (f:Int) H O 0 (j+1))):=by rw [Oc.out,←hrs];exact hT'
         have N9:=ZU (N8.out.Xe hB' hbW);have X9:=ZU (X8.out.Xe hB' Z4);have B9:=ZU (B8.out.trans (hB'.mono hW));have z9:=hB'.size;clear hput hT' hB' hrs Oc Z8 Qs x30;go_wp2
         go_roundw
         case rel=>exact ⟨j+1,v',by omega,by go_num,N9,X9,B9,T9,by show _≤_;have:=Z2.out;omega⟩
         case measure=>simp [intOf];omega
       by_cases hC:k=64
       · subst hC
         have ZD:(en:Int) - (j:Int)*64=64:=ZD;have hw1:IntKind.i64.wrap 64=64:=hw1;obtain ⟨w8,hw8⟩:∃w8,w8=w7:=⟨_,rfl⟩;have Qs:(Builtin.clear_ #[22] 0 #[.slice (some ⟨W'.heap.size,0,none⟩) 0 0]).run Tryz.prog w7=.ok (.tuple #[]) w8:=by rw [hw8];exact ky _ _
         have Z':Hid (w8.rangeAt W'.heap.size 0 V8):=by
          have h8:V8=V:=by
           rw [E.out,U.2,show min (en - j*64) 64=64 by have:=HK.out;omega,Y8 (by rw [U.1];omega),HV.out]
           simp [zeros]
          rw [h8,hw8];exact Z6.out
         have Z:Hid (Zi W' w8):=by rw [hw8];exact B7.out
         clear hw8;have Ai:=ZU (Wd HR.out (Z.out.block b6 h6));have x30:=(HX.out.below Z.out).cl 0 _ rfl;have N8:=ZU (HN.out.below Z.out);have X8:=ZU (HX.out.below Z.out);have T8:=ZU (HT.out.below Z.out);have B8:=ZU (WD HB.out Z.out);have z8:=ZJ ZV Z.out.size
         by_cases heq:blk O j=blk H j
         · have Z8:∀w9:World,(Op.equalIn 10000 117 (.agg V8.toArray) (.agg V.toArray)).run Tryz.prog w9=.ok true w9:=fun w9=>by
            rw [E.out,HV.out,FB w9 _ _ A.out U.1,Zm heq]
           have Oc:Hid (QS (f:Int) H O 0 (j+1)=QS (f:Int) H O 0 j):=by show _=_;rw [RH,Z0 heq.symm,YD]
           clear heq
           go_wp2_with (first | (refine YL rfl 117 _ rfl W'.heap.size 0 rfl V8 _ Z'.out Tryz.underlying117 rfl (Wi _ t.out) ?_) | (refine YL rfl 117 _ rfl b6 0 rfl V _ Ai.out Tryz.underlying117 rfl (Wi _ QH.out) ?_))
           go_roundw
           case rel=>exact ⟨j+1,v,by omega,by go_num,N8,X8,B8,by rw [Oc.out];exact T8,by show _≤_;have:=Z2.out;omega⟩
           case measure=>simp [intOf];omega
         have Z8:∀w9:World,(Op.equalIn 10000 117 (.agg V8.toArray) (.agg V.toArray)).run Tryz.prog w9=.ok false w9:=fun w9=>by
          rw [E.out,HV.out,FB w9 _ _ A.out U.1,Zo heq]
         have Oc:Hid (QS (f:Int) H O 0 (j+1)=QS (f:Int) H O 0 j++[((f:Int)+(j:Int),blk O j)]):=by show _=_;rw [RH,Z1 (fun e=>heq e.symm)]
         clear heq
         go_wp2_with (first | (refine YL rfl 117 _ rfl W'.heap.size 0 rfl V8 _ Z'.out Tryz.underlying117 rfl (Wi _ t.out) ?_) | (refine YL rfl 117 _ rfl b6 0 rfl V _ Ai.out Tryz.underlying117 rfl (Wi _ QH.out) ?_))
         have hpt:=NK w8 W.heap.size _ _ v (QS (f:Int) H O 0 j) ((f:Int)+(j:Int)) (blk O j) T8.out (by omega) (by omega) A.out (by have:=LI (f:Int) H O j 0;omega) (by have:=Z2.out;omega);rw [←E.out] at hpt;refine hpt.mono ?_;clear hpt;rintro e w9 ⟨rfl,⟨v',rs',hput,hT'⟩,hB',-⟩;have hrs:=Np hput (fun i hi=>by
          obtain ⟨q,-,h2,h3⟩:=LH (f:Int) H O j 0 i hi;rw [h3];omega)
         have T9:Hid (Qx w9 W.heap.size (W.heap.size+1) W.heap.size v' (QS (f:Int) H O 0 (j+1))):=by rw [Oc.out,←hrs];exact hT'
         have N9:=ZU (N8.out.Xe hB' hbW);have X9:=ZU (X8.out.Xe hB' Z4);have B9:=ZU (B8.out.trans (hB'.mono hW));have z9:=hB'.size;clear hput hT' hB' hrs Oc Z8 Qs x30;go_wp2
         go_roundw
         case rel=>exact ⟨j+1,v',by omega,by go_num,N9,X9,B9,T9,by show _≤_;have:=Z2.out;omega⟩
         case measure=>simp [intOf];omega
       have XW:(64:Int)<(k:Int):=by omega
       obtain ⟨w8,hw8⟩:∃w8,w8=w7:=⟨_,rfl⟩;have Qs:(Builtin.clear_ #[22] 0 #[.slice (some ⟨W'.heap.size,0,none⟩) 0 0]).run Tryz.prog w7=.ok (.tuple #[]) w8:=by rw [hw8];exact ky _ _
       have Z':Hid (w8.rangeAt W'.heap.size 0 V8):=by
        have h8:V8=V:=by
         rw [E.out,U.2,show min (en - j*64) 64=64 by have:=HK.out;omega,Y8 (by rw [U.1];omega),HV.out]
         simp [zeros]
        rw [h8,hw8];exact Z6.out
       have Z:Hid (Zi W' w8):=by rw [hw8];exact B7.out
       clear hw8;have Ai:=ZU (Wd HR.out (Z.out.block b6 h6));have x30:=(HX.out.below Z.out).cl 0 _ rfl;have N8:=ZU (HN.out.below Z.out);have X8:=ZU (HX.out.below Z.out);have T8:=ZU (HT.out.below Z.out);have B8:=ZU (WD HB.out Z.out);have z8:=ZJ ZV Z.out.size
       by_cases heq:blk O j=blk H j
       · have Z8:∀w9:World,(Op.equalIn 10000 117 (.agg V8.toArray) (.agg V.toArray)).run Tryz.prog w9=.ok true w9:=fun w9=>by
          rw [E.out,HV.out,FB w9 _ _ A.out U.1,Zm heq]
         have Oc:Hid (QS (f:Int) H O 0 (j+1)=QS (f:Int) H O 0 j):=by show _=_;rw [RH,Z0 heq.symm,YD]
         clear heq
         go_wp2_with (first | (refine YL rfl 117 _ rfl W'.heap.size 0 rfl V8 _ Z'.out Tryz.underlying117 rfl (Wi _ t.out) ?_) | (refine YL rfl 117 _ rfl b6 0 rfl V _ Ai.out Tryz.underlying117 rfl (Wi _ QH.out) ?_))
         go_roundw
         case rel=>exact ⟨j+1,v,by omega,by go_num,N8,X8,B8,by rw [Oc.out];exact T8,by show _≤_;have:=Z2.out;omega⟩
         case measure=>simp [intOf];omega
       have Z8:∀w9:World,(Op.equalIn 10000 117 (.agg V8.toArray) (.agg V.toArray)).run Tryz.prog w9=.ok false w9:=fun w9=>by
        rw [E.out,HV.out,FB w9 _ _ A.out U.1,Zo heq]
       have Oc:Hid (QS (f:Int) H O 0 (j+1)=QS (f:Int) H O 0 j++[((f:Int)+(j:Int),blk O j)]):=by show _=_;rw [RH,Z1 (fun e=>heq e.symm)]
       clear heq
       go_wp2_with (first | (refine YL rfl 117 _ rfl W'.heap.size 0 rfl V8 _ Z'.out Tryz.underlying117 rfl (Wi _ t.out) ?_) | (refine YL rfl 117 _ rfl b6 0 rfl V _ Ai.out Tryz.underlying117 rfl (Wi _ QH.out) ?_))
       have hpt:=NK w8 W.heap.size _ _ v (QS (f:Int) H O 0 j) ((f:Int)+(j:Int)) (blk O j) T8.out (by omega) (by omega) A.out (by have:=LI (f:Int) H O j 0;omega) (by have:=Z2.out;omega);rw [←E.out] at hpt;refine hpt.mono ?_;clear hpt;rintro e w9 ⟨rfl,⟨v',rs',hput,hT'⟩,hB',-⟩;have hrs:=Np hput (fun i hi=>by
        obtain ⟨q,-,h2,h3⟩:=LH (f:Int) H O j 0 i hi;rw [h3];omega)
       have T9:Hid (Qx w9 W.heap.size (W.heap.size+1) W.heap.size v' (QS (f:Int) H O 0 (j+1))):=by rw [Oc.out,←hrs];exact hT'
       have N9:=ZU (N8.out.Xe hB' hbW);have X9:=ZU (X8.out.Xe hB' Z4);have B9:=ZU (B8.out.trans (hB'.mono hW));have z9:=hB'.size;clear hput hT' hB' hrs Oc Z8 Qs x30;go_wp2
       go_roundw
       case rel=>exact ⟨j+1,v',by omega,by go_num,N9,X9,B9,T9,by show _≤_;have:=Z2.out;omega⟩
       case measure=>simp [intOf];omega
     have ZN:Hid (St wr.drew b (Ow S (sn:Int) vd vp lim made vc cg c og o code vt zx cnt (en:Int))):=N2.out.below (below_drewN' wr 1);have ZL:Hid (St wr.drew b3 [.int .i64 (f:Int),.int .i64 (sn:Int)]):=X2.out.below (below_drewN' wr 1);have ZC:Hid (Zi w wr.drew):=B2.out.trans ((below_drewN' wr 1).mono B2.out.size);have ZB:Hid (Qx wr.drew W.heap.size (W.heap.size+1) W.heap.size v (QS (f:Int) H O 0 j)):=T2.out.below (below_drewN' wr 1);have hwd:wr.drew.heap.size=wr.heap.size:=rfl;have hw3:IntKind.i64.wrap ((f:Int)+(j:Int))=(f:Int)+(j:Int):=by rw [Zq];omega
     refine ZX (S:=fun W9=>St W9 b (Ow S (sn:Int) vd vp lim made vc cg c og o code vt zx cnt (en:Int))∧St W9 b3 [.int .i64 (f:Int),.int .i64 (sn:Int)]) (by kernel_rfl) ⟨ZN.out,ZL.out⟩ (fun Z9=>?_);refine Zf ?XV (by kernel_rfl) (fun _=>id) Z9 ?hz1 ?Ys
     case hz1 =>
      intro w9 ZQ;have k6:=ZQ.1.cl 6 _ rfl;have y0:=ZQ.2.cl 0 _ rfl;clear ZQ;go_simp
      try with_reducible rfl
     refine Zf ?XT (by kernel_rfl) (fun _=>id) Z9 ?hz2 ?Yr
     case hz2 =>
      intro w9 ZQ;have k6:=ZQ.1.cl 6 _ rfl;have y0:=ZQ.2.cl 0 _ rfl;clear ZQ;go_simp
      try with_reducible rfl
     refine Zf ?XS (by kernel_rfl) (fun _=>id) Z9 ?hz3 ?Yq
     case hz3 =>
      intro w9 ZQ;have k6:=ZQ.1.cl 6 _ rfl;have y0:=ZQ.2.cl 0 _ rfl;clear ZQ;go_simp
      try with_reducible rfl
     refine Zf vc (by kernel_rfl) (fun _=>id) Z9 ?qk ?Yn
     case qk =>
      intro w9 ZQ;have k6:=ZQ.1.cl 6 _ rfl;have y0:=ZQ.2.cl 0 _ rfl;clear ZQ;go_simp
     refine Zf ?XR (by kernel_rfl) (fun _=>id) Z9 ?Y0 ?Ym
     case Y0 =>
      intro w9 ZQ;have k6:=ZQ.1.cl 6 _ rfl;have y0:=ZQ.2.cl 0 _ rfl;clear ZQ;go_simp
      try with_reducible rfl
     refine Zf (.int .i64 (f:Int)) (by kernel_rfl) (fun _=>id) Z9 ?YY ?Yl
     case YY =>
      intro w9 ZQ;have k6:=ZQ.1.cl 6 _ rfl;have y0:=ZQ.2.cl 0 _ rfl;clear ZQ;go_simp
     refine Zf ?XQ (by kernel_rfl) (fun _=>id) Z9 ?YX ?Yh
     case YX =>
      intro w9 ZQ;have k6:=ZQ.1.cl 6 _ rfl;have y0:=ZQ.2.cl 0 _ rfl;clear ZQ;go_simp
      try with_reducible rfl
     refine Zf (.int .i64 ((f:Int)+(j:Int))) (by kernel_rfl) (fun _=>id) Z9 ?YW ?Yg
     case YW =>
      intro w9 ZQ;have k6:=ZQ.1.cl 6 _ rfl;have y0:=ZQ.2.cl 0 _ rfl;clear ZQ;go_simp
     clear Z9;generalize wr.drew=wd at *;refine QG 8 9 rfl rfl (by kernel_rfl) (fun K hK=>?_) (fun K hK=>?_)
     · go_simp
       refine (kC.out wd j hlt2 ZC.out).mono ?_;rintro e w1 ⟨rfl,b1⟩;rw [←HV.out];have N3:=ZN.out.below b1;have X3:=ZL.out.below b1;refine hK.out _ _ ⟨N3,X3⟩ (fun YA=>?_);clear hK K YA;have B3:=WD ZC.out b1;have T3:=ZB.out.below b1;have z3:=b1.size;refine YS 9 rfl (by kernel_rfl) (fun K hK=>?_);go_simp;refine hK.out _ _ ⟨N3.below (Yy.alloc YR _),X3.below (Yy.alloc YR _)⟩ (fun YA=>?_);clear hK K YA;generalize yD:World.alloc _ _=w4;have b4:Zi w1 w4:=by subst yD;exact Yy.alloc YR _
       have t4:w4.there w1.heap.size 0 64:=by subst yD;exact Vn _ _ _ _ rfl
       have s4:w1.heap.size<w4.heap.size:=by subst yD;simp
       clear yD;refine YS 10 rfl (by kernel_rfl) (fun K hK=>?_);have hb5:Zi w1 (w4.setCells w1.heap.size 0 V):=below_setCells YR _ _ _ b4;refine QW rfl 117 _ _ rfl w1.heap.size 0 V.toArray rfl rfl ?t1 ?t2 (XL sL.out) ?_
       case t1 =>
        have e:V.toArray.size=64:=by rw [ZI];exact QH.out
        rw [e];exact t4
       case t2=>rw [ZI];exact Wi _ QH.out
       refine hK.out _ _ ⟨N3.below hb5,X3.below hb5⟩ (fun YA=>?_);clear hK K YA
       try simp only [Act.put]
       refine ZR (by kernel_rfl) ?_ _
       try simp only [Act.put,WV,WU,WT]
       exact Z5.out _ _ (N3.below hb5) (X3.below hb5) (WD B3 hb5) (T3.below hb5) (Yf _ _ _ _ (by rw [QH.out];exact t4)) (by rw [U1];exact s4) (by omega) (by rw [U1];omega)
     go_simp;refine hK.out _ _ ⟨ZN.out.below (Yy.alloc YR _),ZL.out.below (Yy.alloc YR _)⟩ (fun YA=>?_);clear hK K YA;generalize yD:World.alloc _ _=w4;have b4:Zi wd w4:=by subst yD;exact Yy.alloc YR _
     have t4:w4.there wr.heap.size 0 64:=by subst yD;rw [←hwd];exact Vn _ _ _ _ rfl
     have s4:wr.heap.size<w4.heap.size:=by subst yD;simp;omega
     clear yD;have B4:=WD ZC.out b4;refine YS 8 rfl (by kernel_rfl) (fun K hK=>?_);go_simp;refine (kC.out w4 j hlt2 B4).mono ?_;rintro e w5 ⟨rfl,b5⟩;rw [←HV.out];have N5:=(ZN.out.below b4).below b5;have X5:=(ZL.out.below b4).below b5;have T5:=(ZB.out.below b4).below b5;have B5:=WD B4 b5;have t5:=Ac t4 (b5.block _ s4);have z5:=b5.size;refine hK.out _ _ ⟨N5,X5⟩ (fun YA=>?_);clear hK K YA;refine YS 10 rfl (by kernel_rfl) (fun K hK=>?_);have YQ:=X2.out.lt;have hbr:=N2.out.lt;have hb6:Below wr.heap.size w5 (w5.setCells wr.heap.size 0 V):=below_setCells YR _ _ _ Yy;have N6:=N5.Xe hb6 hbr;have X6:=X5.Xe hb6 YQ;have YP:=((b4.mono (U5 hwd.symm)).trans (b5.mono (by omega))).trans hb6;have T6:=ZB.out.below (YP.mono (U5 hwd));refine QW rfl 117 _ _ rfl wr.heap.size 0 V.toArray rfl rfl ?t1 ?t2 (XL sL.out) ?_
     case t1 =>
      have e:V.toArray.size=64:=by rw [ZI];exact QH.out
      rw [e];exact t5
     case t2=>rw [ZI];exact Wi _ QH.out
     refine hK.out _ _ ⟨N6,X6⟩ (fun YA=>?_);clear hK K YA
     try simp only [Act.put]
     refine ZR (by kernel_rfl) ?_ _
     try simp only [Act.put,WV,WU,WT]
     exact Z5.out _ _ N6 X6 (B5.trans (hb6.mono (by have:=B2.out.size;omega))) T6 (Yf _ _ _ _ (by rw [QH.out];exact t5)) (by rw [U1];omega) YR (by rw [U1];omega)
   have Rj:¬(j:Int)<(sn:Int):=by omega
   have hjn:j=sn:=by omega
   subst hjn;go_wp2;go_ret;exact ⟨_,_,_,rfl,T2.out.kx hW,B2.out⟩
 have Sd:Hid (St w.drew b (Ow S (sn:Int) vd vp lim made vc cg c og o code vt zx cnt (en:Int))):=HS.out.Xe (below_drewN' w 1) hlt;have hwd:w.drew.heap.size=w.heap.size:=rfl;have Bd:Hid (Zi w w.drew):=below_drewN' w 1;refine ZX (S:=fun W=>St W b (Ow S (sn:Int) vd vp lim made vc cg c og o code vt zx cnt (en:Int))) (by kernel_rfl) (Sd.out) (fun Z9=>?_)
 iterate 10 (refine Zf ?_ (by kernel_rfl) (fun _=>id) Z9 ?_ ?_;rotate_left;· intro w9 ZQ;have k0:=ZQ.cl 0 _ rfl;have k1:=ZQ.cl 1 _ rfl;have k9:=ZQ.cl 9 _ rfl;clear ZQ;go_simp;try with_reducible rfl)
 clear Z9;generalize w.drew=wd at *;refine QG 10 11 rfl rfl (by kernel_rfl) (fun K hK=>?_) (fun K hK=>?_)
 · skip
   go_simp;refine (Ov.out _).mono ?_;rintro e w1 ⟨rfl,b1⟩;have N1:=Sd.out.below b1;refine hK.out _ _ N1 (fun YA=>?_);clear hK K YA;refine YS 11 rfl (by kernel_rfl) (fun K hK=>?_);have bA:Zi w1 (w1.alloc (.cells #[.int .i64 0,.int .i64 0] 111)):=Yy.alloc YR _;have N2:=N1.below bA;have X2:St (w1.alloc (.cells #[.int .i64 0,.int .i64 0] 111)) w1.heap.size [.int .i64 0,.int .i64 0]:=St.new _ _ _;have B2:=(Bd.out.trans (b1.mono (by omega))).trans (bA.mono (by have:=b1.size;omega));have hbl:=N1.lt;have hbw:w.heap.size≤w1.heap.size:=by have:=b1.size;omega
   clear bA b1;go_simp;refine hK.out _ _ N2 (fun YA=>?_);clear hK K YA N1;generalize w1.alloc _=W2 at *;have p0:=X2.cl 0 _ rfl;have p1:=X2.cl 1 _ rfl;have ZA:=X2.fz 0;have Zx:=X2.fz 1;have N3:St ((W2.setCell ⟨w1.heap.size,0,none⟩ (.int .i64 (f:Int))).setCell ⟨w1.heap.size,1,none⟩ (.int .i64 (sn:Int))) b (Ow S (sn:Int) vd vp lim made vc cg c og o code vt zx cnt (en:Int)):=(N2.other (by omega)).other (by omega);have X3:St ((W2.setCell ⟨w1.heap.size,0,none⟩ (.int .i64 (f:Int))).setCell ⟨w1.heap.size,1,none⟩ (.int .i64 (sn:Int))) w1.heap.size [.int .i64 (f:Int),.int .i64 (sn:Int)]:=(X2.set 0 _).set 1 _;have B3:Zi w ((W2.setCell ⟨w1.heap.size,0,none⟩ (.int .i64 (f:Int))).setCell ⟨w1.heap.size,1,none⟩ (.int .i64 (sn:Int))):=(B2.setCell (by show w.heap.size≤w1.heap.size;omega) _).setCell (by show w.heap.size≤w1.heap.size;omega) _;refine YS 12 rfl (by kernel_rfl) (fun K hK=>?_);go_simp;refine hK.out _ _ N3 (fun YA=>?_);clear hK K YA N2 X2 B2 p0 p1 ZA Zx;refine ZR (by kernel_rfl) ?_ _
   try simp only [Act.put,WV,WU,WT]
   generalize ((W2.setCell _ _).setCell _ _)=W3 at *;exact REST.out _ W3 N3 X3 B3 hbw
 skip
 have bA:Zi wd (wd.alloc (.cells #[.int .i64 0,.int .i64 0] 111)):=Yy.alloc YR _;have N1:=Sd.out.below bA;have X1:St (wd.alloc (.cells #[.int .i64 0,.int .i64 0] 111)) w.heap.size [.int .i64 0,.int .i64 0]:=by
  have h9:=St.new wd #[.int .i64 0,.int .i64 0] 111;rw [hwd] at h9;exact h9
 have hbl:=hlt;have B1:=Bd.out.trans (bA.mono (by omega));clear bA;go_simp;refine hK.out _ _ N1 (fun YA=>?_);clear hK K YA;generalize wd.alloc _=w1 at *;refine YS 10 rfl (by kernel_rfl) (fun K hK=>?_);go_simp;refine (Ov.out _).mono ?_;rintro e W2 ⟨rfl,b2⟩;have N2:=N1.below b2;have X2:=X1.below b2;have B2:=WD B1 b2;have hbw:w.heap.size≤w.heap.size:=YR;refine hK.out _ _ N2 (fun YA=>?_);clear hK K YA N1 X1 b2 B1;have p0:=X2.cl 0 _ rfl;have p1:=X2.cl 1 _ rfl;have ZA:=X2.fz 0;have Zx:=X2.fz 1;have N3:St ((W2.setCell ⟨w.heap.size,0,none⟩ (.int .i64 (f:Int))).setCell ⟨w.heap.size,1,none⟩ (.int .i64 (sn:Int))) b (Ow S (sn:Int) vd vp lim made vc cg c og o code vt zx cnt (en:Int)):=(N2.other (by omega)).other (by omega);have X3:St ((W2.setCell ⟨w.heap.size,0,none⟩ (.int .i64 (f:Int))).setCell ⟨w.heap.size,1,none⟩ (.int .i64 (sn:Int))) w.heap.size [.int .i64 (f:Int),.int .i64 (sn:Int)]:=(X2.set 0 _).set 1 _;have B3:Zi w ((W2.setCell ⟨w.heap.size,0,none⟩ (.int .i64 (f:Int))).setCell ⟨w.heap.size,1,none⟩ (.int .i64 (sn:Int))):=(B2.setCell (by show w.heap.size≤w.heap.size;omega) _).setCell (by show w.heap.size≤w.heap.size;omega) _;refine YS 12 rfl (by kernel_rfl) (fun K hK=>?_);go_simp;refine hK.out _ _ N3 (fun YA=>?_);clear hK K YA N2 X2 B2 p0 p1 ZA Zx;refine ZR (by kernel_rfl) ?_ _
 try simp only [Act.put,WV,WU,WT]
 generalize ((W2.setCell _ _).setCell _ _)=W3 at *;exact REST.out _ W3 N3 X3 B3 hbw
attribute [local go_sem] Yv
theorem Bu {Xc:Int} (hf:KN S L YN.length ps=true) (hb:0≤Xc∧Xc≤1):gV YN ps S L Xc true=Me (MT YN ps) (Ry S L Xc true).toNat L.toNat:=by
 have ho:FF S L YN.length ps Xc=true:=by unfold FF;rw [hf];simpa using hb
 unfold gV;rw [Z0 ho]
 rfl
theorem rO (h:Id S ys=true):MI S ys=rU ys:=Z0 h
theorem nT (h:Id S ys=false):MI S ys=⟨0,0,0,0,0⟩:=Z1 (by rw [h];simp)
def gP (w:World) (row:Option Nat) (w':World):Prop:=w.heap.size≤w'.heap.size∧∀b,b<w.heap.size→some b≠row→w'.heap[b]?=w.heap[b]?
theorem Se.LS {hi:Nat} {vd vp:Value} {dv:Nat→Value} (k:Se w lo hi vd vp YN ps dv) (ho:gP w row w') (hne:∀g,row=some g→vd.ownBlock≠some g∧vp.ownBlock≠some g∧∀i,i<ps.length→(dv i).ownBlock≠some g):Se w' lo hi vd vp YN ps dv:=by
 have key:∀ {e:TypeId} {m n:Nat} {v:Value} {us:List Value},w.ownsRow lo e m v n us→(∀g,row=some g→v.ownBlock≠some g)→w'.ownsRow lo e m v n us:=by
  intro e m n v us h h2;refine ⟨h.1,?_⟩
  rcases h.2 with hn | ⟨g,cap,cur,rfl,hbg,hgg,rest⟩
  · exact .inl hn
  exact .inr ⟨g,cap,cur,rfl,hbg,(ho.2 g (Z3.1 hgg).1 (fun e=>h2 g e.symm rfl)).trans hgg,rest⟩
 exact ⟨key k.d (fun g hg=>(hne g hg).1),⟨key k.p.1 (fun g hg=>(hne g hg).2.1),fun i hi=>(k.p.2.1 i hi).elim fun te h=>⟨te,key h (fun g hg=>(hne g hg).2.2 i hi)⟩,k.p.2.2.1,k.p.2.2.2⟩,k.lU,k.oX,k.iS,k.dp,k.dq⟩
theorem St.wz {L:List Value} (h:St W b L) (hg:W.grownBy W' row) (hne:some b≠row):St W' b L:=by
 have e:=hg.block b h.lt hne;refine ⟨ZY h.lt hg.size,fun j=>?_,fun j v hv=>(ZP (w:=W) (a:=⟨b,j,none⟩) e).trans (h.cl j v hv)⟩;have:=h.fz j;unfold World.frozen? at this ⊢;rw [e];exact this
theorem Tw.LS (h:Tw w b none w' none):gP w (some b) w':=⟨h.size,fun q hq hne=>h.block q hq (fun e=>hne (by rw [e])) (by simp)⟩
theorem Own.LS (h:Own .u8 5 w lo v xs) (ho:gP w row w') (hne:∀g,row=some g→v.ownBlock≠some g):Own .u8 5 w' lo v xs:=by
 refine ⟨h.1,?_⟩
 rcases h.2 with hn | ⟨g,cap,cur,rfl,hbg,hgg,rest⟩
 · exact .inl hn
 exact .inr ⟨g,cap,cur,rfl,hbg,(ho.2 g (Z3.1 hgg).1 (fun e=>hne g e.symm rfl)).trans hgg,rest⟩
theorem Ab (w:World) (tb:Nat) (v:Value) (rs:List (Int × List Int)) (c0:w.cell? ⟨tb,0,none⟩=some v) (hv:∃a c,v=.slice a rs.length c) :
    Calls Tryz.prog 90 #[.pointer (some ⟨tb,0,none⟩)] w (Wj w (.bool ((rs.length:Int) == 0))):=by
 obtain ⟨a,c,rfl⟩:=hv;have B0:Hid (Zi w w):=Yy
 go_enter Tryz.func90,Tryz.ntmps90
 go_wp2;go_ret;exact ⟨rfl,B0.out⟩
def Ia (P:Value) (S L:Int) (vd vp:Value) (made:Int):List Value:=[P,.int .i64 S,.int .i64 L,vd,vp,.int .i64 (-1),.int .i64 made,.slice none 0 0]
structure Gr (r0:Option Nat) (sB:Nat) (w0 w:World):Prop where
 os:w.os=w0.os
 tape:w.tape=w0.tape
 output:w.output=w0.output
 size:w0.heap.size≤w.heap.size
 block:∀q,q<w0.heap.size→q≠sB→some q≠r0→w.heap[q]?=w0.heap[q]?
theorem Gr.refl (w:World):Gr r0 sB w w:=⟨rfl,rfl,rfl,YR,fun _ _ _ _=>rfl⟩
theorem Gr.gb (h:Gr none sB w0 w):w0.grownBy w (some sB):=⟨h.os,h.tape,h.output,h.size,fun q hq hn=>h.block q hq (fun e=>hn (by rw [e])) (by simp)⟩
def Ph (r0:Option Nat) (w0:World) (sB:Nat) (P:Value) (S L:Int) (v0:Value) (k:Nat) (w:World):Prop :=
 ∃vd vp made YN ps dv,St w sB (Ia P S L vd vp made)∧Se w (sB+1) w.heap.size vd vp YN ps dv∧YN.length≤1048576∧ps.length≤k∧(∀i,(pD ps i).length≤1048576)∧(0≤made∧made≤k) ∧
  (∀g,vp.ownBlock=some g→w0.heap.size≤g∨some g=r0)∧(vd=v0∨∀g,vd.ownBlock=some g→w0.heap.size≤g)∧Gr r0 sB w0 w∧sB<w0.heap.size
def Pq (r0:Option Nat) (w0:World) (sB:Nat) (P:Value) (S L:Int) (v0:Value) (k:Nat) (w:World):Prop :=
 ∃vd made YN,St w sB (Ia P S L vd (.slice none 0 0) made)∧Own .u8 5 w (sB+1) vd YN∧YN.length≤1048576∧(0≤made∧made≤k)∧(vd=v0∨∀g,vd.ownBlock=some g→w0.heap.size≤g)∧Gr r0 sB w0 w∧sB<w0.heap.size
theorem rN {C:List Int} (h:∀i,(pD ps i).length≤n) (hC:C.length≤n):∀i,(pD (ps++[(x,C)]) i).length≤n:=by
 intro i;unfold pD at *
 rcases Nat.lt_trichotomy i ps.length with h1 | h1 | h1
 · have:=h i
   rw [Xy] at this ⊢;rw [Zy h1];exact this
 · rw [Xy,Zv (by omega),h1,Wf];exact hC
 rw [Xy,Yk (by simp;omega)];exact Zu _
structure KW (sB:Nat) (w w':World):Prop where
 size:w.heap.size≤w'.heap.size
 block:∀q,q<w.heap.size→q≠sB→(∀cs z,w.heap[q]?≠some (.cells cs 132 z))→w'.heap[q]?=w.heap[q]?
theorem KW.trans (h:KW sB w w1) (h':KW sB w1 w2):KW sB w w2 :=
 ⟨ZJ h.size h'.size,fun q hq hs hn=>have e:=h.block q hq hs hn
  (h'.block q (ZY hq h.size) hs (by rw [e];exact hn)).trans e⟩
theorem KW.below (h:Zi w w'):KW sB w w':=⟨h.size,fun q hq _ _=>h.block q hq⟩
theorem KW.tw {xs:List Value} {o:Option Nat} (h:Tw w sB v.ownBlock w' o) (hr:w.ownsRow lo 132 z v n xs):KW sB w w':=by
 refine ⟨h.size,fun q hq hs hn=>h.block q hq hs (fun e=>?_)⟩
 rcases hr.2 with ⟨rfl,-⟩ | ⟨g,cap,cur,rfl,hb,hg,hx⟩
 · cases e
 simp only [Value.ownBlock,ZK] at e
 subst e;exact absurd hg (hn _ _)
section
variable {r0:Option Nat} {w0 w:World} {sB k:Nat} {P v0:Value} {S L:Int}
theorem Pq.ph (h:Pq r0 w0 sB P S L v0 k w):Ph r0 w0 sB P S L v0 k w:=by
 obtain ⟨vd,made,YN,h1,h2,h3,h4,h5,h6,h7⟩:=h;exact ⟨vd,_,made,YN,[],_,h1,Je h2,h3,Zu _,fun i=>by simp [pD],h4,fun g hg=>by simp [Value.ownBlock] at hg,h5,h6,h7⟩
theorem Ph.below (h:Ph r0 w0 sB P S L v0 k w) (hb:Zi w w'):Ph r0 w0 sB P S L v0 k w':=by
 obtain ⟨vd,vp,made,YN,ps,dv,h1,h2,h3,h4,h5,h6,h7,h8,h9,h10⟩:=h;exact ⟨vd,vp,made,YN,ps,dv,h1.below hb,(h2.below hb).mono YR hb.size,h3,h4,h5,h6,h7,h8,⟨hb.os.trans h9.os,hb.tape.trans h9.tape,hb.output.trans h9.output,ZJ h9.size hb.size,fun q hq hn hr=>(hb.block q (ZY hq h9.size)).trans (h9.block q hq hn hr)⟩,h10⟩
theorem MH {xs:List Value} (h:W.ownsRow lo e z v n xs):∀g,v.ownBlock=some g→lo≤g:=by
 intro g hg
 rcases h.2 with ⟨rfl,h0⟩ | ⟨g',cap,cur,rfl,hb,hg',-⟩
 · simp [Value.ownBlock] at hg
 simp only [Value.ownBlock,ZK] at hg;omega
theorem above {xs:List Value} (h:W.ownsRow lo e z v n xs) (hb:b<lo):v.ownBlock≠some b:=fun e=>by have:=MH h b e;omega
theorem pZ (h:QF W lo v xs) (hb:b<lo):v.ownBlock≠some b:=fun e=>by have:=(h.lt b e).1;omega
theorem Hz (h:Ph r0 w0 sB P S L v0 k w) (hk:k≤9000) :
    Calls Tryz.prog 114 #[.pointer (some ⟨sB,0,none⟩)] w fun e w'=>e=.returned (.tuple #[])∧Pq r0 w0 sB P S L v0 (k+1) w'∧KW sB w w':=by
 obtain ⟨vd,vp,made,YN,ps,dv,h1,h2,h3,h4,h5,h6,h7,h8,h9,h10⟩:=h;have Jd:=h9.size;have HC:Hid (Calls Tryz.prog 91 #[.pointer (some ⟨sB,3,none⟩)] w fun e w'=>e=.returned (.bool true)∧∃u,St w' sB ((((Ia P S L vd vp made).set (3+3) (.int .i64 (made+1))).set 3 u).set (3+1) (.slice none 0 0))∧Own .u8 5 w' w.heap.size u (MT YN ps)∧Tw w sB vp.ownBlock w' vp.ownBlock) :=
  AD w sB 3 vd vp YN ps (-1) made _ h1 rfl rfl rfl rfl (fun W hW=>?_) h3 (by omega) h5 (by omega) (by omega) (by unfold OG;rw [Z0 (by omega)];decide)
 rotate_left
 · have h9:=h2.LS hW.LS (fun q e=>by cases e;exact ⟨above h2.d (by omega),above h2.p.1 (by omega),fun i hi=>pZ (h2.p.2.1 i hi) (by omega)⟩)
   exact ⟨h9.d.rd,h9.p.rd⟩
 have FIN:Hid (∀w' u,St w' sB ((((Ia P S L vd vp made).set (3+3) (.int .i64 (made+1))).set 3 u).set (3+1) (.slice none 0 0))→Own .u8 5 w' w.heap.size u (MT YN ps)→Tw w sB vp.ownBlock w' vp.ownBlock→Pq r0 w0 sB P S L v0 (k+1) w'∧KW sB w w'):=fun w' u a1 a2 a3 =>
  ⟨⟨u,made+1,MT YN ps,a1,a2.mono (by omega),ZJ (sP _ _) h3,by omega,.inr (fun g hg=>ZJ Jd (MH a2 g hg)),⟨a3.os.trans h9.os,a3.tape.trans h9.tape,a3.output.trans h9.output,ZJ Jd a3.size,fun q hq hne hr=>(a3.block q (by omega) hne (fun e=>(h7 q e).elim (fun h=>by omega) hr)).trans (h9.block q hq hne hr)⟩,h10⟩,KW.tw a3 h2.p.1⟩
 clear h1 h2 h3 h4 h5 h6 h7 h8 h9 h10
 go_enter Tryz.func114,Tryz.ntmps114
 go_wp2_with fail
 refine HC.out.mono ?_;rintro e w' ⟨rfl,u,a1,a2,a3⟩;have F:=ZU (FIN.out w' u a1 a2 a3);clear a1 a2 a3 FIN HC
 go_wp2_with fail
 exact ⟨rfl,_,by kernel_rfl,rfl,F.out⟩
theorem Hy (x:Int) (C:List Int) (h:Ph r0 w0 sB P S L v0 k w) (hk:k≤9000) (hC:C.length=64) :
    Calls Tryz.prog 154 #[.pointer (some ⟨sB,0,none⟩),.int .i64 x,.agg (C.map (Value.int .u8)).toArray] w fun e w'=>e=.returned (.tuple #[])∧Ph r0 w0 sB P S L v0 (k+1) w'∧KW sB w w':=by
 have hb:=(Below.refl w.heap.size w).alloc YR (.cells (C.map (Value.int .u8)).toArray 117);have RA:Hid ((w.alloc (.cells (C.map (Value.int .u8)).toArray 117)).rangeAt w.heap.size 0 (C.map (Value.int .u8))):=by
  have h9:=Pd w (C.map (Value.int .u8)).toArray 117;show World.rangeAt _ _ _ _
  simpa using h9
 have HW:Hid (∀W,Zi w W→w.heap.size<W.heap.size→Calls Tryz.prog 89 #[.pointer (some ⟨sB,3,none⟩),.int .i64 x,.agg (C.map (Value.int .u8)).toArray] W fun e w'=>e=.returned (.bool true)∧(Ph r0 w0 sB P S L v0 (k+1) w'∧KW sB w w')∧w'.heap[w.heap.size]?=W.heap[w.heap.size]?):=by
  intro W hW hlt;obtain ⟨vd,vp,made,YN,ps,dv,h1,h2,h3,h4,h5,h6,h7,h8,h9,h10⟩:=h;have Jd:=h9.size;have h2':=(h2.below hW).mono YR hW.size;refine (DI W sB 3 (sB+1) vd vp YN ps dv (-1) made x C _ hC (h1.below hW) rfl rfl rfl h2' (by omega) (above h2.p.1 (by omega)) (above h2.d (by omega)) (fun i hi=>pZ (h2.p.2.1 i hi) (by omega)) (by omega) (by omega) (by omega) (by unfold OG;rw [Z0 (by omega)];decide)).mono ?_;rintro e w' ⟨rfl,xN,oM,a1,a2,a3,a4,a5⟩;refine ⟨rfl,⟨⟨vd,xN,made+1,YN,_,oM,a1,a2,h3,by rw [ZZ];simp;omega,rN h5 (by omega),by omega,fun g hg=>?_,h8,⟨a5.os.trans (hW.os.trans h9.os),a5.tape.trans (hW.tape.trans h9.tape),a5.output.trans (hW.output.trans h9.output),ZJ Jd (ZJ hW.size a5.size),fun q hq hne hr=>(a5.block q (by omega) hne (fun e=>(h7 q e).elim (fun h=>by omega) hr)).trans ((hW.block q (by omega)).trans (h9.block q hq hne hr))⟩,h10⟩,(KW.below hW).trans (KW.tw a5 h2'.p.1)⟩,a5.block _ hlt (by omega) (fun e=>by have:=h2.oX _ e;omega)⟩
  rcases a5.own with e | e | ⟨q,e,hq⟩
  · rw [e] at hg;exact h7 g hg
  · rw [e] at hg;cases hg
  rw [e] at hg;cases hg;exact .inl (by omega)
 have GQ:Hid ((C.map (Value.int .u8)).length=64):=by show _=_;simpa using hC
 have hsA:w.heap.size<(w.alloc (.cells (C.map (Value.int .u8)).toArray 117)).heap.size:=by simp
 generalize C.map (Value.int .u8)=X at *;have HB:=ZU hb;clear hb h
 go_enter Tryz.func154,Tryz.ntmps154
 go_wp2_with fail
 have B2:Hid (Zi w (w.alloc (.cells X.toArray 117)).drew):=(HB.out.trans ((below_drewN' (w.alloc (.cells X.toArray 117)) 1).mono HB.out.size));refine ZX (S:=fun W=>W.rangeAt w.heap.size 0 X) (by kernel_rfl) RA.out (fun Z9=>?_);have z2:w.heap.size<(w.alloc (.cells X.toArray 117)).drew.heap.size:=hsA;clear HB RA hsA;generalize (w.alloc _).drew=w3 at *
 iterate 4 (refine Zf ?_ (by kernel_rfl) (fun _=>id) Z9 ?_ ?_;rotate_left;· intro w9 ZQ;clear ZQ;go_simp;try with_reducible rfl)
 refine PM (i:=4) (oi:=⟨some 10,_,_,_,_,_⟩) (v:=.agg (X).toArray) rfl (by kernel_rfl) (fun _ _ _ h=>h) (VN (by rfl) _ _ rfl _ _ rfl (X) _ (fun w' hSw=>hSw) Tryz.underlying117 rfl (Wi _ GQ.out)) (by assumption) ?_;refine YS 5 rfl (by kernel_rfl) (fun K hK=>?_);go_simp;refine (HW.out _ B2.out z2).mono ?_;rintro e w6 ⟨rfl,a1,a2⟩;have F:=ZU a1;have R6:=Wd Z9 a2;clear Z9;refine hK.out _ _ R6 (fun Z9=>?_);clear hK K a1 a2;refine Yp 6 ?v5 rfl (by kernel_rfl) (fun _=>id) Z9 ?DN ?_
 case DN =>
  intro w9 ZQ;clear ZQ;go_simp
  try with_reducible rfl
 refine ZR (by kernel_rfl) ?_ _
 try simp only [Act.put,WV,WU,WT]
 clear Z9 R6
 go_wp2_with fail
 exact ⟨rfl,_,by kernel_rfl,rfl,F.out⟩
end
theorem KF {R:Nat} (e:W'.heap[R]?=W.heap[R]?) (h:W.there R o n):W'.there R o n:=fun j hj =>
 ⟨(ZM Option.isSome (ZP (w:=W) (a:=⟨R,o+j,none⟩) e)).trans (h j hj).1,by have:=(h j hj).2;unfold World.frozen? at this ⊢;rw [e];exact this⟩
def Bo (w:World) (R B:Nat) (W:World):Prop:=∃C:List Int,C.length=64∧W.heap[B]?=some (.cells (C.map (Value.int .u8)).toArray 117 (0,0))∧W.there R 0 64∧Zi w W
theorem Mc (w:World) (v:Value) (ys:List Int) (i:Nat) (h:Rd .u8 w v ys) (hl:ys.length≤1048576) (hi:i≤4096) :
    Calls Tryz.prog 155 #[v,.int .i64 (i:Int)] w fun e w'=>(∃C:List Int,C.length=64∧e=.returned (.agg (C.map (Value.int .u8)).toArray))∧Zi w w':=by
 obtain ⟨ao,cp,rfl,h1,h2,h3⟩:=h;have HR:=ZU h3;clear h3
 go_enter Tryz.func155,Tryz.ntmps155
 go_upto_if 12 with fail
 generalize hW:World.alloc _ _=W0;have B0:Hid (Bo w w.heap.size (w.heap.size+1) W0):=by
  refine ⟨List.replicate 64 0,by decide,?_,?_,?_⟩ <;> subst hW
  · have:=Zs (w.alloc (.cells (List.replicate 64 (Value.int .u8 0)).toArray 117)) (.cells (List.replicate 64 (Value.int .u8 0)).toArray 117)
    rw [YF] at this;exact this
  · have:=Vn w (List.replicate 64 (Value.int .u8 0)).toArray 117 64 rfl
    have e:((w.alloc (.cells (List.replicate 64 (Value.int .u8 0)).toArray 117)).alloc (.cells (List.replicate 64 (Value.int .u8 0)).toArray 117)).heap[w.heap.size]?=(w.alloc (.cells (List.replicate 64 (Value.int .u8 0)).toArray 117)).heap[w.heap.size]?:=Below.heap_alloc _ _ _ (by simp);exact KF e this
  exact (Yy.alloc YR _).alloc (by simp) _
 clear hW;obtain ⟨q,hq⟩:∃q:Nat,q=i*64:=⟨_,rfl⟩;rw [show (i:Int)*64=(q:Int) by omega];clear hq
 go_cut [] from 12 to 18 (fun wx=>Hid (Bo w w.heap.size (w.heap.size+1) wx))
 case first =>
  rename_i J K9 QD hJ
  by_cases hc:q<ys.length
  · obtain ⟨C,c1,c2,c3,c4⟩:=B0.out
    have C1:Hid ((C.map (Value.int .u8)).length=64):=by show _=_;simpa using c1
    have C2:=ZU c2;obtain ⟨b,off,rfl,hb,hcl⟩:∃b off,ao=some ⟨b,off,none⟩∧b<w.heap.size∧∀j,j<ys.length→w.cell? ⟨b,off+j,none⟩=some (.int .u8 (ys.getD j 0)):=HR.out.resolve_left (fun e=>by rw [e] at hc;simp at hc);have hq1:(q:Int)≤ys.length:=by omega
    have hq2:¬cp=q:=by omega
    have HZ:Hid ((((ys.drop (q)).take 64).map (Value.int .u8)).length=Nat.min (ys.length - q) 64):=by
     show _=_;rw [Zl,Zw,ZS];exact Nat.min_comm _ _
    have HL:Hid ((((ys.drop (q)).take 64).map (Value.int .u8)).length≤64):=by
     show _≤_;rw [HZ.out];exact UR _ _
    have Qs:Hid (∀(j:Nat) (v:Value),(((ys.drop (q)).take 64).map (Value.int .u8))[j]?=some v→W0.cell? ((⟨b,off+q,none⟩:Addr).add j)=some v):=by
     intro j v hj;rw [Yo,WJ] at hj
     split at hj
     · rename_i XO
       rw [Yt] at hj
       rcases hx:ys[q+j]? with _ | x
       · rw [hx] at hj;cases hj
       rw [hx] at hj;obtain rfl:Value.int .u8 x=v:=by simpa using hj
       have tB:=(Zh.mp hx).1;have e:=hcl (q+j) tB;rw [Xy,hx] at e;rw [Addr.add_mid,c4.cell (p:=⟨b,off+q+j,none⟩) hb,Xu];exact e
     cases hj
    clear c1 c2 hcl HR
    go_wp2_with fail
    go_region_law (refine Ru rfl (.tmp 13) (.tmp 16) 22 22 rfl 5 Tryz.underlying22 xZ _ _ _ _ _ _ rfl rfl (w.heap.size+1) 0 _ 117 C2.out (((ys.drop (q)).take 64).map (Value.int .u8)) HZ.out (fun _=>⟨rfl,⟨b,off+q,none⟩,rfl,Qs.out⟩) (by rw [C1.out];have:=HL.out;omega) (Yi _ _) ?_;intro w4 hg4 hb4)
    refine hJ _ _ (QD _ _  ⟨_,_,_,_,_,_,_,⟨splice C 0 ((ys.drop q).take 64),?_,?_,?_,?_⟩,rfl⟩)
    · have e:=HL.out
      have e1:=C1.out;rw [Zl] at e e1;rw [length_splice _ _ _ (by omega),e1]
    · have e:=hg4.out
      rw [←Om] at e;exact e
    · exact KF (hb4.out.block w.heap.size (by have:=c4.size;show _<W0.heap.size;have:=(Z3.mp C2.out).1;omega) (by simp)) c3
    exact (c4.trans ((below_drewN' W0 1).mono c4.size)).grown (show W0.drew.grownBy w4 (some (w.heap.size+1)) from hb4.out) c4.size (by intro g hg;simp at hg;omega)
  go_wp2_with fail
  go_meet
  exact B0
 case rest =>
  rename_i K hK;obtain ⟨C,c1,c2,c3,c4⟩:=hcut.out;have H1:Hid (∀v ∈ C.map (Value.int .u8),v.oneCell'=true):=Yi _ _;have HLEN:Hid ((C.map (Value.int .u8)).length=64):=by show _=_;simpa using c1
  have RG:Hid (wc.rangeAt (w.heap.size+1) 0 (C.map (Value.int .u8))):=by
   intro j v h;rw [Za,Yz wc _ j _ _ _ c2]
   simpa using h
  have TR:=ZU c3;have B4:=ZU c4;have FIN:Hid (∃C':List Int,C'.length=64∧(Ending.returned (.agg (C.map (Value.int .u8)).toArray))=.returned (.agg (C'.map (Value.int .u8)).toArray)):=⟨C,c1,rfl⟩;generalize C.map (Value.int .u8)=V at *;refine hK _ _ ?_;clear hK K c1 c2 c3 c4 hcut B0
  go_wp2_with (first | (refine YL rfl 117 _ rfl (w.heap.size+1) 0 rfl V _ RG.out Tryz.underlying117 rfl (Wi _ HLEN.out) ?_) | (refine UO rfl 117 _ _ rfl w.heap.size 0 V.toArray rfl rfl ?s1 ?s2 ?s3 ?_))
  case s1 =>
   have e:V.toArray.size=64:=by rw [ZI];exact HLEN.out
   rw [e];exact TR.out
  case s2=>rw [ZI];exact Wi _ HLEN.out
  case s3=>exact XL H1.out
  refine ZW (v:=.agg V.toArray) ?_ rfl ⟨FIN.out,?_⟩
  · have LV:(loadVar 117 ⟨w.heap.size,0,none⟩).run Tryz.prog (wc.setCells w.heap.size 0 V)=.ok (.agg V.toArray) (wc.setCells w.heap.size 0 V) :=
     run_loadVar_mid (P:=Tryz.prog) _ w.heap.size 0 117 _ _ (Yf _ _ _ _ (by rw [HLEN.out];exact TR.out)) Tryz.underlying117 rfl (Wi _ HLEN.out)
    simp [results,Tryz.results155,Act.put,asAddr]
    exact LV
  exact below_setCells YR _ _ _ B4.out
theorem Ph.more {k':Nat} (h:Ph r0 w0 sB P S L v0 k w) (hk:k≤k'):Ph r0 w0 sB P S L v0 k' w:=by
 obtain ⟨vd,vp,made,YN,ps,dv,h1,h2,h3,h4,h5,h6,h7,h8,h9,h10⟩:=h;exact ⟨vd,vp,made,YN,ps,dv,h1,h2,h3,by omega,h5,by omega,h7,h8,h9,h10⟩
theorem Ph.gb (h:Ph r0 w0 sB P S L v0 k w):Gr r0 sB w0 w∧sB<w0.heap.size:=by
 obtain ⟨vd,vp,made,YN,ps,dv,h1,h2,h3,h4,h5,h6,h7,h8,h9,h10⟩:=h;exact ⟨h9,h10⟩
theorem No (fi bl:Int) (v:Value) (ys:List Int) (f:Nat) (h:Ph r0 w0 sB P S L v0 k w) (hk:k≤8000) (hf:0≤fi∧fi≤100000) (hv:∀W,Gr r0 sB w0 W→Rd .u8 W v ys) (hl:ys.length≤4096) (hfl:f≤ys.length) :
    Calls Tryz.prog 113 #[.pointer (some ⟨sB,0,none⟩),.agg #[.int .i64 fi,.int .i64 bl],v,.int .i64 (f:Int)] w fun e w'=>e=.returned (.tuple #[])∧Ph r0 w0 sB P S L v0 (k+65) w'∧KW sB w w':=by
 obtain ⟨ao,cp,YO,-⟩:∃ao cp,v=.slice ao ys.length cp∧True:=by
  obtain ⟨ao,cp,e,-⟩:=hv w h.gb.1;exact ⟨ao,cp,e,trivial⟩
 have hbx:=(Below.refl w.heap.size w).alloc YR (.cells #[.int .i64 fi,.int .i64 bl] 111);have HP:Hid (Ph r0 w0 sB P S L v0 k (w.alloc (.cells #[.int .i64 fi,.int .i64 bl] 111))):=h.below hbx;have pY:Hid (KW sB w (w.alloc (.cells #[.int .i64 fi,.int .i64 bl] 111))):=KW.below hbx;have ot:Hid ((w.alloc (.cells #[.int .i64 fi,.int .i64 bl] 111)).heap[w.heap.size]?=some (.cells #[.int .i64 fi,.int .i64 bl] 111)):=Zs _ _;have XN:Hid (w.heap.size<(w.alloc (.cells #[.int .i64 fi,.int .i64 bl] 111)).heap.size):=by show _<_;simp
 have YK:Hid (∀W k' x (C:List Int),Ph r0 w0 sB P S L v0 k' W→k'≤9000→C.length=64→Calls Tryz.prog 154 #[.pointer (some ⟨sB,0,none⟩),.int .i64 x,.agg (C.map (Value.int .u8)).toArray] W fun e w'=>e=.returned (.tuple #[])∧Ph r0 w0 sB P S L v0 (k'+1) w'∧KW sB W w'):=fun W k' x C a b c=>Hy x C a b c
 have YJ:Hid (∀W k' (i:Nat),Ph r0 w0 sB P S L v0 k' W→i≤4096→Calls Tryz.prog 155 #[v,.int .i64 (i:Int)] W fun e w'=>(∃C:List Int,C.length=64∧e=.returned (.agg (C.map (Value.int .u8)).toArray))∧Zi W w'):=fun W k' i a b=>Mc W v ys i (hv W a.gb.1) (by omega) b
 have YH:sB≠w.heap.size:=by have:=h.gb;have:=this.1.size;omega
 subst YO;clear h hv hbx
 go_enter Tryz.func113,Tryz.ntmps113
 go_wp2_with fail
 · exact ⟨rfl,_,by kernel_rfl,rfl,HP.out.more (by omega),pY.out⟩
 generalize w.alloc _=w1 at *;rw [show ((f:Int) == (ys.length:Int))=false by assumption]
 go_loopw [8] (fun v8 wr=>∃i:Nat,v8=.int .i64 (i:Int)∧f / 64≤i∧i≤64∧Hid (Ph r0 w0 sB P S L v0 (k+i) wr)∧Hid (KW sB w wr)∧Hid (wr.heap[w.heap.size]?=some (.cells #[.int .i64 fi,.int .i64 bl] 111))) (fun v _=>(64 - intOf v).toNat)
 case atStart=>exact ⟨f / 64,by simp,YR,by omega,HP.out.more (by omega),pY,ot⟩
 case round =>
  obtain ⟨i,rfl,hi1,hi2,PH,KH,BH⟩:=hrel
  by_cases hc:i*64<ys.length
  · have hcI:(i:Int)*64<(ys.length:Int):=by omega
    go_wp2_with fail
    have Zt:Hid (Ph r0 w0 sB P S L v0 (k+i) wr.drew):=PH.out.below (below_drewN' wr 1);have Ze:Hid (KW sB w wr.drew):=KH.out.trans (KW.below (below_drewN' wr 1));have S0:wr.drew.cell? ⟨w.heap.size,0,none⟩=some (.int .i64 fi)∧wr.drew.heap[w.heap.size]?=some (.cells #[.int .i64 fi,.int .i64 bl] 111 (0,0)):=⟨by rw [Yz wr.drew w.heap.size 0 #[.int .i64 fi,.int .i64 bl] 111 (0,0) BH.out];rfl,BH.out⟩;have hwz:w.heap.size<wr.drew.heap.size:=(Z3.mp S0.2).1;refine ZX (S:=fun W=>W.cell? ⟨w.heap.size,0,none⟩=some (.int .i64 fi)∧W.heap[w.heap.size]?=some (.cells #[.int .i64 fi,.int .i64 bl] 111 (0,0))) (by kernel_rfl) S0 (fun Z9=>?_);clear PH KH BH S0;generalize wr.drew=w3 at *
    iterate 7 (refine Zf ?_ (by kernel_rfl) (fun _=>id) Z9 ?_ ?_;rotate_left;· intro w9 ZQ;have XK:=ZQ.1;clear ZQ;go_simp;try with_reducible rfl)
    refine YS 7 rfl (by kernel_rfl) (fun K hK=>?_);go_simp;refine (YJ.out _ _ i Zt.out (by omega)).mono ?_;rintro e w4 ⟨⟨C,hC,rfl⟩,b4⟩;have S4:w4.cell? ⟨w.heap.size,0,none⟩=some (.int .i64 fi)∧w4.heap[w.heap.size]?=some (.cells #[.int .i64 fi,.int .i64 bl] 111 (0,0)):=⟨(b4.cell (p:=⟨w.heap.size,0,none⟩) hwz).trans Z9.1,(b4.block _ hwz).trans Z9.2⟩;have Zc:=ZU (Zt.out.below b4);have Zb:=ZU (Ze.out.trans (KW.below b4));have z4:=ZY hwz b4.size;refine hK.out _ _ S4 (fun YA=>?_);clear hK K Z9 Zt Ze b4 hwz;refine YS 8 rfl (by kernel_rfl) (fun K hK=>?_);go_simp;refine (YK.out _ _ _ C Zc.out (by omega) hC).mono ?_;rintro e w5 ⟨rfl,p5,k5⟩;have e5:=k5.block _ z4 YH.symm (by rw [S4.2];intro cs z e9;simp at e9);have S5:w5.cell? ⟨w.heap.size,0,none⟩=some (.int .i64 fi)∧w5.heap[w.heap.size]?=some (.cells #[.int .i64 fi,.int .i64 bl] 111 (0,0)):=⟨(ZP (w:=w4) (a:=⟨w.heap.size,0,none⟩) e5).trans S4.1,e5.trans S4.2⟩;have YG:=ZU p5;have YE:=ZU (Zb.out.trans k5);have B5:=ZU S5.2;refine hK.out _ _ S5 (fun YA=>?_);clear hK K Zc Zb S4 p5 k5 e5 S5 z4;refine ZR (by kernel_rfl) ?_ _
    try simp only [Act.put,WV,WU,WT]
    clear YA
    go_wp2_with fail
    exact ⟨⟨i+1,by go_num,by omega,by omega,YG,YE,B5⟩,by simp [intOf];omega⟩
  have hcI:¬(i:Int)*64<(ys.length:Int):=by omega
  go_wp2_with fail
  exact ⟨rfl,_,by kernel_rfl,rfl,PH.out.more (by omega),KH.out⟩
end
section
open Go.RowKit Go.Conc
variable {ops:Array Oper} {buf:Array Value} {cl tm:Bool} {L S x:Int} {ps rs:List (Int × List Int)} {YN xs ys:List Int} {b c cap id k lo n o r s sB z:Nat} {r0 row:Option Nat} {e:TypeId} {P v v0:Value} {W W' w w' w0 w1 w2:World}
def GL (P:Program) (c:Code) (Q:Exit→Act→World→Prop) (a:Act) (w:World):Prop :=
 ∀(b:Frame) (k:List Item) (cs:List Frame),b.kind=.normal→∃e a' w',Q e a' w'∧Arrives P (lone (b.at a (.code c :: k)) cs w) b k cs e a' w'
section
variable {P:Program} {Q:Exit→Act→World→Prop} {a:Act} {w:World}
theorem Tv {c:Code} (h:c.wp P Q a w):GL P c Q a w:=fun b k cs _=>h b k cs
theorem Bt {x y:Code} (h:GL P x (Exit.then (GL P y Q) Q) a w):GL P (Code.seq x y) Q a w:=by
 intro b k cs hb;obtain ⟨e,a₁,w₁,hq,harr⟩:=h b (.code y :: k) cs hb
 cases e with
 | normal =>
  obtain ⟨e₂,a₂,w₂,hq₂,harr₂⟩:=hq b k cs hb;exact ⟨e₂,a₂,w₂,hq₂,.of_steps (.head Sg harr) harr₂⟩
 | exit id=>exact ⟨_,a₁,w₁,hq,.of_steps (.one Sg) (.pass (x:=.code y) rfl (fun _ _=>.inl (by simp)) harr)⟩
 | goto l=>exact ⟨_,a₁,w₁,hq,.of_steps (.one Sg) (.pass (x:=.code y) rfl (fun _ _=>.inl (by simp)) harr)⟩
 | ret=>exact ⟨_,a₁,w₁,hq,.of_steps (.one Sg) (.pass (x:=.code y) rfl (fun _ _=>.inl (by simp)) harr)⟩
 | panic ch=>exact ⟨_,a₁,w₁,hq,.of_steps (.one Sg) (.pass (x:=.code y) rfl (fun _ _=>.inl (by simp)) harr)⟩
 | outgrown=>exact ⟨_,a₁,w₁,hq,.of_steps (.one Sg) (.pass (x:=.code y) rfl (fun _ _=>.inl (by simp)) harr)⟩
theorem VT {x y:Code} (h:∀K:Act→World→Prop,(∀a w,GL P y Q a w→K a w)→GL P x (Exit.then K Q) a w):GL P (Code.seq x y) Q a w:=Bt (h _ fun _ _ h=>h)
theorem Jc {c:Code} (h:GL P c (Exit.inBlock id Q) a w):GL P (Code.block id c) Q a w:=by
 intro b k cs hb;obtain ⟨e,a₁,w₁,hq,harr⟩:=h b (.inBlock id :: k) cs hb
 cases e with
 | normal=>exact ⟨.normal,a₁,w₁,hq,.head UP (Steps.trans harr (.one step_inBlock))⟩
 | exit id' =>
  by_cases hid:id'=id
  · simp only [Exit.inBlock,hid,Vo] at hq
    exact ⟨.normal,a₁,w₁,hq,.head UP (harr k (by simp [exitTo,hid]))⟩
  simp only [Exit.inBlock,hid,WW] at hq
  refine ⟨.exit id',a₁,w₁,hq,fun k' hk=>.head UP (harr k' ?_)⟩;have:(id == id')=false:=by simp;exact fun h=>hid h.symm
  simp [exitTo,this,hk]
 | goto l=>exact ⟨_,a₁,w₁,hq,fun k' hk=>.head UP (harr k' (by simp [gotoIn,hk]))⟩
 | ret=>exact ⟨_,a₁,w₁,hq,.of_steps (.one UP) harr⟩
 | panic ch=>exact ⟨_,a₁,w₁,hq,.of_steps (.one UP) harr⟩
 | outgrown=>exact ⟨_,a₁,w₁,hq,.of_steps (b:=b) (k:=k) (cs:=cs) (e:=.outgrown) (.one UP) harr⟩
theorem wy {c:Code} (I:Act→World→Prop) (μ:Act→World→Nat) (h₀:I a w)
    (round:∀a w,I a w→GL P c (Exit.then (fun a' w'=>I a' w'∧μ a' w'<μ a w) Q) a w):GL P (Code.loop c) Q a w:=by
 intro b k cs hb;have key:∀n a w,μ a w=n→I a w →
     ∃e a' w',Q e a' w'∧Arrives P (lone (b.at a (.code c :: .inLoop c :: k)) cs w) b k cs e a' w':=by
  intro n
  induction n using Nat.strongRecOn with
  | _ n ih =>
   intro a w hn hI;obtain ⟨e,a₁,w₁,hq,harr⟩:=round a w hI b (.inLoop c :: k) cs hb
   cases e with
   | normal =>
    obtain ⟨hI₁,hlt⟩:=hq;obtain ⟨e₂,a₂,w₂,hq₂,harr₂⟩:=ih (μ a₁ w₁) (hn ▸ hlt) a₁ w₁ rfl hI₁;exact ⟨e₂,a₂,w₂,hq₂,.of_steps (Steps.trans harr (.one step_inLoop)) harr₂⟩
   | exit id=>exact ⟨_,a₁,w₁,hq,.pass (x:=.inLoop c) rfl (fun _ _=>.inl (by simp)) harr⟩
   | goto l=>exact ⟨_,a₁,w₁,hq,.pass (x:=.inLoop c) rfl (fun _ _=>.inl (by simp)) harr⟩
   | ret=>exact ⟨_,a₁,w₁,hq,.pass (x:=.inLoop c) rfl (fun _ _=>.inl (by simp)) harr⟩
   | panic ch=>exact ⟨_,a₁,w₁,hq,.pass (x:=.inLoop c) rfl (fun _ _=>.inl (by simp)) harr⟩
   | outgrown=>exact ⟨_,a₁,w₁,hq,.pass (x:=.inLoop c) rfl (fun _ _=>.inl (by simp)) harr⟩
 obtain ⟨e,a',w',hq,harr⟩:=key _ a w rfl h₀;exact ⟨e,a',w',hq,.of_steps (.one step_loop) harr⟩
theorem Nn {f:FuncId} {fn:Func} {c:Code} {args:Array Value} {R:Ending→World→Prop}
    (hf:P.funcs[f]?=some fn) (hb:fn.body=some c)
    (h:GL P c (bodyPost P fn R) { tmps:=args++Array.replicate (fn.ntmps - args.size) undef,defers:=[] } w):Calls P f args w R:=by
 intro cs
 let b:Frame:={ (default:Frame) with fn:=f,kind:=.normal }
 have henter:Frame.enter P f args .normal=b.at { tmps:=args++Array.replicate (fn.ntmps - args.size) undef,defers:=[] } [.code c]:=by
  simp [Frame.enter,Frame.at,hf,hb,b]
 obtain ⟨e,a',w',hq,harr⟩:=h b [] cs rfl;rw [←henter] at harr
 cases e with
 | normal =>
  obtain ⟨hd,v,hr,hR⟩:=hq;exact ⟨.returned v,w',_,hR,Steps.trans harr (.one step_end),rfl,rfl,hd,rfl,fn,hf,hr⟩
 | ret =>
  obtain ⟨hd,v,hr,hR⟩:=hq;obtain ⟨todo,hs⟩:=harr;exact ⟨.returned v,w',_,hR,hs,rfl,rfl,hd,rfl,fn,hf,hr⟩
 | panic chain =>
  obtain ⟨hd,hR⟩:=hq;obtain ⟨todo,hs⟩:=harr;exact ⟨.panicked chain,w',_,hR,hs,rfl,rfl,hd,fn,hf⟩
 | exit id=>exact hq.elim
 | goto l=>exact hq.elim
 | outgrown=>exact ⟨.outgrown,w',b,hq,harr.resolve_left (by simp [b]),rfl,trivial⟩
def rM (P:Program) (ops:Array Oper):List Nat→Act→World→(Act→World→Prop)→Prop
 | [],a,w,K=>K a w
 | i :: r,a,w,K=>∃o v w1,ops[i]?=some o∧Region.wanted o (yielded ops a.tmps)=true∧(execOp a.eval o).run P w=.ok (.value v) w1∧rM P ops r (a.put o.dst v) w1 K
theorem MG {K:Act→World→Prop} (b:Frame) (k:List Item) (cs:List Frame) (suf:List Nat):∀(pre:List Nat) (a:Act) (w:World),rM P ops pre a w K →
    ∃a' w',K a' w'∧Steps P (lone (b.at a (.inRegion ops (pre++suf) :: k)) cs w) (lone (b.at a' (.inRegion ops suf :: k)) cs w')
 | [],a,w,h=>⟨a,w,h,Steps.refl _ _⟩
 | i :: r,a,w,h=>by
  obtain ⟨o,v,w1,ho,hw,hr,h2⟩:=h;obtain ⟨a',w',hK,hs⟩:=MG b k cs suf r _ _ h2;refine ⟨a',w',hK,Rl (step_lone_go ?_) hs⟩;have hg:=stepG_op (P:=P) (b:=b) (k:=k) (cs:=cs) (w:=w) (rest:=r++suf) ho hw;have hfin:(b.at a (.inRegion ops (i :: (r++suf)) :: k)).finish v=b.at (a.put o.dst v) (.inRegion ops (r++suf) :: k):=by
   rw [Frame.finish_at,ho];rfl
  show (stepG P true { frame:=b.at a (.inRegion ops (i :: (r++suf)) :: k),callers:=cs,status:=.running,dying:=none } w).bare=_;rw [hg,←hfin];simp [stepG.apply,hr]
theorem KE {o:Oper} {pre suf:List Nat} (m:Nat) (hm:List.range ops.size=pre++m :: suf) (ho:ops[m]?=some o)
    (h:rM P ops pre a w (fun a1 w1=>Region.wanted o (yielded ops a1.tmps)=true∧∃cases blocking shape v w2,(execOp a1.eval o).run P w1=.ok (.comm cases blocking shape) w1 ∧
     (∀(fr:Frame) (cs:List Frame) (es:Array Event),stepG P true (G fr cs) w1=.comm (G fr cs) cases blocking shape w1 es→step P (solo (G fr cs) w1)=.next (solo (G (fr.finish v) cs) w2)) ∧
     rM P ops suf (a1.put o.dst v) w2 (fun a2 w3=>Q .normal a2 w3))):GL P (Code.region id ops false) Q a w:=by
 intro b k cs hb;obtain ⟨a1,w1,⟨hw,cases,blocking,shape,v,w2,hr,hst,h2⟩,hs⟩:=MG b k cs (m :: suf) _ _ _ h;obtain ⟨a2,w3,hq,hs2⟩:=MG b k cs [] _ _ _ h2;rw [YD] at hs2;refine ⟨.normal,_,_,hq,?_⟩;have hx:=hst _ _ _ (stepG_comm (P:=P) (main:=true) (b:=b) (a:=a1) (k:=k) (cs:=cs) (w:=w1) (rest:=suf) ho hw (by rw [hb];decide) hr);rw [Frame.finish_at,ho] at hx;refine Rl step_region ?_;rw [hm];exact hs.trans (Rl hx (hs2.trans (Rl step_region_end (Steps.refl _ _))))
section
variable {c cap s r:Nat} {buf:Array Value} {v z:Value} {tm:Bool}
theorem ww (hc:w.heap[c]?=some (.chan cap buf false s r tm)) (hroom:buf.size<cap) (fr:Frame) (cs:List Frame) (es:Array Event) (h:stepG P true (G fr cs) w=.comm (G fr cs) #[scase c v z] true .send w es) :
    step P (solo (G fr cs) w)=.next (solo (G (fr.finish undef) cs) (w.setChan c cap (buf.push v) false (s+1) r tm)):=step_lone_send_room h hc hroom
theorem wv (hc:w.heap[c]?=some (.chan cap buf false s r tm)) (hsome:0<buf.size) (fr:Frame) (cs:List Frame) (es:Array Event) (h:stepG P true (G fr cs) w=.comm (G fr cs) #[rcase c z] false .select w es) :
    step P (solo (G fr cs) w)=.next (solo (G (fr.finish (.tuple #[goInt 0,.bool true,buf.getD 0 undef])) cs) (w.setChan c cap (buf.extract 1 buf.size) false s (r+1) tm)):=by
 have hst:=step_lone_sel_recv_buf (k:=0) h rfl (fun n c' hn hc'=>by
  cases n with
  | zero=>exact absurd rfl hn
  | succ n=>simp at hc') hc hsome
 have e:commResult #[rcase c z] .select ((0:Nat):Int) (buf.getD 0 undef) true=.tuple #[goInt 0,.bool true,buf.getD 0 undef]:=by simp [commResult,rcase]
 rwa [e] at hst
theorem Fy (hc:w.heap[c]?=some (.chan cap #[] false s r tm)) (fr:Frame) (cs:List Frame) (es:Array Event) (h:stepG P true (G fr cs) w=.comm (G fr cs) #[rcase c z] false .select w es) :
    step P (solo (G fr cs) w)=.next (solo (G (fr.finish (.tuple #[goInt (-1),.bool false,z])) cs) w):=step_lone_select_default h hc
end
end
theorem wu {c g:Option Nat} (h:w.grownBy w1 c) (h2:w1.grownBy w2 g) (hg:∀q,g=some q→w.heap.size≤q∨c=some q):w.grownBy w2 c :=
 ⟨h2.os.trans h.os,h2.tape.trans h.tape,h2.output.trans h.output,ZJ h.size h2.size,fun q hq hne=>(h2.block q (ZY hq h.size) (fun e=>by
  rcases hg q e.symm with h9 | h9
  · omega
  exact hne h9.symm)).trans (h.block q hq hne)⟩
theorem Hx (w:World) (c cap:Nat) (buf:Array Value) (cl:Bool) (s r:Nat) (tm:Bool):w.grownBy (w.setChan c cap buf cl s r tm) (some c) :=
 ⟨rfl,rfl,rfl,by simp [World.setChan],fun q hq hne=>by simp only [World.setChan];rw [Array.getElem?_setIfInBounds_ne (fun e=>hne (by rw [e]))]⟩
theorem Hw (h:w.grownBy w' (some c)) (hc:w.heap[c]?=some (.chan cap buf cl s r tm)) {p:Addr} (hp:w.cell? p=some v):w'.cell? p=some v:=by
 have hl:=ZG w _ hp;have hne:some p.block≠some c:=fun e=>by
  injection e with e
  unfold World.cell? at hp;rw [e,hc] at hp
  simp at hp
 exact (ZP (w:=w) (a:=p) (h.block _ hl hne)).trans hp
theorem pX (h:w.grownBy w' (some c)) (hc:w.heap[c]?=some (.chan cap buf cl s r tm)) (hr:Rd .u8 w v xs):Rd .u8 w' v xs:=by
 obtain ⟨ao,cp,e,h1,h2,h3⟩:=hr;refine ⟨ao,cp,e,h1,h2,h3.imp id ?_⟩;rintro ⟨b,off,e1,hb,hcl⟩;exact ⟨b,off,e1,ZY hb h.size,fun i hi=>Hw h hc (hcl i hi)⟩
theorem Br {k:IntKind} {base:Nat} (h:Own k e w base v xs) (hc:c<base):v.ownBlock=none∨v.ownBlock≠some c:=by
 rcases h.2 with ⟨rfl,h0⟩ | ⟨g,cap,cur,rfl,hb,hg,hn,hm,hs,ht⟩
 · exact .inl rfl
 exact .inr (fun e=>by simp only [Value.ownBlock,ZK] at e;omega)
def kw (w:World) (L:List Value) (fs:List (List Int)):Prop:=L.length=fs.length∧∀i,i<L.length→Rd .u8 w (L.getD i undef) (fs.getD i [])∧0<(fs.getD i []).length
def nR (w:World) (c:Nat):Nat:=match w.heap[c]? with | some (.chan _ b _ _ _ _)=>b.size | _=>0
theorem Bq (h:w.heap[c]?=some (.chan cap buf cl s r tm)):nR w c=buf.size:=by unfold nR;rw [h]
def dZ (w:World) (c cap s r:Nat) (tm:Bool) (fs:List (List Int)) (e:Ending) (w':World):Prop :=
 ∃v,e=.returned (.tuple #[v,.int .i64 (fs.length:Int)])∧Own .u8 5 w' w.heap.size v fs.flatten∧w.grownBy w' (some c)∧∃r',w'.heap[c]?=some (.chan cap #[] false s r' tm)
theorem pW (w:World) (sB mB c cap s r:Nat) (tm:Bool) (L:List Value) (fs:List (List Int)) (h1:w.cell? ⟨sB,0,none⟩=some (.pointer (some ⟨mB,0,none⟩))) (h2:w.cell? ⟨mB,4,none⟩=some (.chan (some c))) (hc:w.heap[c]?=some (.chan cap L.toArray false s r tm)) (hq:kw w L fs) (hT:fs.flatten.length≤1048576) (hN:fs.length≤1048576) :
    Calls Tryz.prog 112 #[.pointer (some ⟨sB,0,none⟩)] w fun e w'=>dZ w c cap s r tm fs e w':=by
 obtain ⟨i0,hi,hz0,hz1,hz2⟩:=YM Tryz.QZ;have HC:=ZU hc;have Z7:Hid (c<w.heap.size):=(Z3.mp hc).1;have HQ:=ZU hq;have HT:=ZU hT;have H1:=ZU h1;have H2:=ZU h2;clear hc hq h1 h2;refine Nn Tryz.func112 rfl ?_
 simp only [Tryz.ntmps112,ZI,ZE,Y7,Nat.reduceAdd,Nat.reduceSub,YV,YU,YI,YT,Zd,Y3]
 iterate 3 (refine VT (fun K hK=>Tv ?_);have HK:Hid _:=hK;clear hK;go_wp2_with fail;refine HK.out _ _ ?_;clear HK K)
 refine Jc (wy (fun a wr=>∃(k:Nat) (v4:Value) (xs:List Int) (M:List Value) (gs:List (List Int)) (r':Nat) (u6 u7 u8 u9 u10 u11 u12 u13 u14 u15 u16 u17 u18 u19 u20 u21 u22 u23 u24:Value),
     a={ tmps:=#[.pointer (some ⟨sB,0,none⟩),undef,.slice none 0 0,.int .i64 0,v4,.int .i64 (k:Int),u6,u7,u8,u9,u10,u11,u12,u13,u14,u15,u16,u17,u18,u19,u20,u21,u22,u23,u24],defers:=[] } ∧
     k+M.length=fs.length∧Hid (xs++gs.flatten=fs.flatten)∧Hid (kw w M gs)∧Hid (Own .u8 5 wr w.heap.size v4 xs)∧Hid (w.grownBy wr (some c))∧Hid (wr.heap[c]?=some (.chan cap M.toArray false s r' tm)))
  (fun a wr=>nR wr c) ?_ ?_)
 · exact ⟨0,.slice none 0 0,[],L,fs,r,undef,undef,undef,undef,undef,undef,undef,undef,undef,undef,undef,undef,undef,undef,undef,undef,undef,undef,undef,rfl,by have:=HQ.out.1;omega,rfl,HQ,ZH _ _ _ _,Zz _ _,HC⟩
 intro a wr hI;obtain ⟨k,v4,xs,M,gs,r',u6,u7,u8,u9,u10,u11,u12,u13,u14,u15,u16,u17,u18,u19,u20,u21,u22,u23,u24,rfl,hk,HX,HM,HO,HG,pV⟩:=hI;have c1:=Hw HG.out HC.out H1.out;have c2:=Hw HG.out HC.out H2.out;refine Jc ?_;refine VT (fun K hK=>Tv ?_);have HK:Hid _:=hK;clear hK
 go_wp2_with fail
 refine HK.out _ _ ?_;clear HK K c1 c2;refine VT (fun K hK=>?_);have HK:Hid _:=hK;clear hK
 cases M with
 | nil =>
  refine KE (pre:=[]) (suf:=[1,2]) 0 rfl rfl ?_;refine ⟨by kernel_rfl,#[rcase c (.slice none 0 0)],false,.select,.tuple #[goInt (-1),.bool false,.slice none 0 0],wr,?_,Fy pV.out,?_⟩
  · kernel_rfl
  refine ⟨_,goInt (-1),wr,rfl,by kernel_rfl,by kernel_rfl,?_⟩;refine ⟨_,.bool false,wr,rfl,by kernel_rfl,by kernel_rfl,?_⟩;show K _ _;refine HK.out _ _ ?_;clear HK K;refine Tv ?_
  go_wp2_with fail
  refine ⟨rfl,.tuple #[v4,.int .i64 (k:Int)],by kernel_rfl,v4,?_,?_,HG.out,r',pV.out⟩
  · rw [show fs.length=k from hk.symm]
  have e:gs=[]:=Zg HM.out.1.symm;have e2:=HX.out;rw [e] at e2
  simp only [List.flatten_nil,YD] at e2
  rw [←e2];exact HO.out
 | cons m M =>
  obtain ⟨g,gs',rfl⟩:∃g gs',gs=g :: gs':=by
   cases gs with
   | nil=>exact absurd HM.out.1 (by simp)
   | cons g gs'=>exact ⟨g,gs',rfl⟩
  have hR:=HM.out.2 0 (by simp)
  simp only [XM] at hR
  obtain ⟨hR,hg0⟩:=hR;obtain ⟨wc,hwc⟩:∃W,W=wr.setChan c cap M.toArray false s (r'+1) tm:=⟨_,rfl⟩;have YB:Hid (wc=wr.setChan c cap M.toArray false s (r'+1) tm):=hwc;have od:Hid (w.grownBy wc (some c)):=by
   rw [hwc];exact wu HG.out (Hx wr c cap M.toArray false s (r'+1) tm) (fun q e=>.inr e)
  have hR2:=pX od.out HC.out hR;obtain ⟨ao,mc,em,hm1,hm2,Yx⟩:=hR2
  rcases Yx with h0 | ⟨mb,mo,rfl,hmb,hmc⟩
  · rw [h0] at hg0;simp at hg0
  have ND:Hid (g.length≤1048576∧xs.length+g.length≤1048576):=by
   have e:=ZM List.length HX.out
   simp only [ZZ,TI] at e
   constructor <;> omega
  refine KE (pre:=[]) (suf:=[1,2]) 0 rfl rfl ?_;refine ⟨by kernel_rfl,#[rcase c (.slice none 0 0)],false,.select,.tuple #[goInt 0,.bool true,m],wc,by kernel_rfl,fun fr cs es h=>?_,?_⟩
  · have h9:=wv pV.out (by simp) fr cs es h
    have e:((m :: M).toArray).extract 1 ((m :: M).toArray).size=M.toArray:=by
     apply Array.toList_inj.mp;simp
    rw [e] at h9;rw [hwc];exact h9
  refine ⟨_,goInt 0,wc,rfl,by kernel_rfl,by kernel_rfl,?_⟩;refine ⟨_,.bool true,wc,rfl,by kernel_rfl,by kernel_rfl,?_⟩;show K _ _;refine HK.out _ _ ?_;clear HK K;refine Tv ?_;subst em;have Zr:Hid (Own .u8 5 wc w.heap.size v4 xs):=by rw [hwc];exact Zn HO.out (Hx wr c cap M.toArray false s (r'+1) tm) (Br HO.out Z7.out)
  have Qs:Hid (∀j u,(g.map (Value.int .u8))[j]?=some u→wc.cell? ((⟨mb,mo,none⟩:Addr).add j)=some u):=by
   intro j u hj;rw [Yo] at hj
   rcases hx:g[j]? with _ | x
   · rw [hx] at hj;exact absurd hj (by simp)
   rw [hx] at hj
   simp only [Sy,ZK] at hj
   have hjl:=(Zh.mp hx).1;have e:=hmc j hjl;rw [Xy,hx] at e;rw [←hj];have e2:(⟨mb,mo,none⟩:Addr).add j=⟨mb,mo+j,none⟩:=by
    unfold Addr.add
    by_cases h0:j=0
    · rw [Z0 h0,h0,Yj]
    rw [Z1 h0]
   rw [e2];exact e
  have LW:Hid (w.heap.size≤wc.heap.size):=od.out.size;clear hmc hwc hR hm1 hm2 hmb;have XI:=ND.out
  go_wp2_with (at_builtin;go_must (refine wpList_append_lies _ rfl _ _ 22 rfl w.heap.size 5 i0 (.int .u8 0) 1 1 Tryz.underlying22 hi hz0 hz1 hz2 rfl (by decide) v4 xs.length (xs.map (Value.int .u8)) rfl Zr.out ⟨mb,mo,none⟩ g.length mc (g.map (Value.int .u8)) rfl (by simp) Qs.out (Yi _ _) (by omega) (by unfold maxLen;omega) (by omega) LW.out _ rfl ?_))
  intro g2 cap2 w2 ho2 hg2 hb2 hl2;have DR:=ZU ho2;have HG2:=ZU hg2;clear ho2 hg2 hb2 hl2;have tG:k+1≤1048576:=by have e:k+(M.length+1)=fs.length:=hk;omega
  go_wp2_with fail
  have xV:Hid (w2.heap[c]?=some (.chan cap M.toArray false s (r'+1) tm)):=by
   rw [show w2.heap[c]?=wc.heap[c]? from HG2.out.block c (ZY Z7.out LW.out) (fun e=>by rcases Br Zr.out Z7.out with h | h <;> rw [←e] at h <;> simp at h),YB.out];exact heap_setChan _ _ _ _ _ _ _ _ (ZY Z7.out HG.out.size)
  refine ⟨⟨k+1,_,xs++g,M,gs',r'+1,_,_,_,_,_,_,_,_,_,_,_,_,_,_,_,_,_,_,_,rfl,?_,?_,?_,?_,?_,xV⟩,?_⟩
  · have e:k+(M.length+1)=fs.length:=hk
    omega
  · have e:=HX.out
    rw [TI,←ZO] at e;exact e
  · refine ⟨by have:=HM.out.1;simpa using this,fun i hi=>?_⟩
    have e:=HM.out.2 (i+1) (by simp;exact hi)
    simpa using e
  · exact QY (q:=xs.length+g.length) (by simp) rfl (by rw [Y6];exact DR.out)
  · exact wu od.out HG2.out (fun q e=>.inl (by
     rcases Zr.out.2 with ⟨e9,h0⟩ | ⟨g9,gO,Ye,e9,OY,nQ,-⟩
     · rw [e9] at e;simp [Value.ownBlock] at e
     rw [e9] at e;simp [Value.ownBlock] at e;omega))
  rw [Bq xV.out,Bq pV.out];simp
end
end Go.Proofs.YtpmjnbmkippaiaaGreatDoor


