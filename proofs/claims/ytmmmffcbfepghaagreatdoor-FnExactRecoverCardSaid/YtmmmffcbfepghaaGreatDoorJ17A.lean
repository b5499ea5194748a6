import Derived.Test.YtmmmffcbfepghaaGreatDoorJ16A
import Derived.ChangeKeysEq
import Derived.Lib.SliceRun
set_option maxRecDepth 100000
set_option maxHeartbeats 16000000
set_option linter.unusedVariables false
set_option linter.unusedSimpArgs false
namespace Go.Proofs.YtmmmffcbfepghaaGreatDoor
open Go.RowKit Go.Shelf
variable {g0 g1:Bool} {S:Int} {rs:List (Int × List Int)} {ys:List Int} {us:List Value} {M b lo n z:Nat} {x0 x1:YU} {e:TypeId} {v:Value} {A B W w w':World}
theorem Hb (w:World) (b:Nat) (S L lim made:Int) (da pa ta:Option Addr) (dl dc pl pc tl tc:Nat) (vc:Value) (cg:Bool) (c:YU) (og:Bool) (o:YU) (code zx cnt en:Int) (hs:St w b (WY S L (.slice da dl dc) (.slice pa pl pc) lim made vc cg c og o code (.slice ta tl tc) zx cnt en)) :
    Calls Tryz.prog 37 #[.pointer (some ⟨b,0,none⟩),.int .i64 4] w (Ze w (.agg #[.int .i64 3,.int .i64 0,.int .i64 0,.int .i64 0,.int .i64 0,.int .i64 0,.int .i64 0,.slice none 0 0,.int .i64 0,.int .i64 0,.slice none 0 0,.slice none 0 0])):=by
 have hlt:=hs.lt;have B0:Hid (ZX w (w.alloc (.cells #[.int .i64 0,.int .i64 0,.int .i64 0,.int .i64 0,.int .i64 0,.int .i64 0,.int .i64 0,.slice none 0 0,.int .i64 0,.int .i64 0,.slice none 0 0,.slice none 0 0] 38))):=ZR.alloc ZW _;have R0:Hid (St (w.alloc (.cells #[.int .i64 0,.int .i64 0,.int .i64 0,.int .i64 0,.int .i64 0,.int .i64 0,.int .i64 0,.slice none 0 0,.int .i64 0,.int .i64 0,.slice none 0 0,.slice none 0 0] 38)) w.heap.size [.int .i64 0,.int .i64 0,.int .i64 0,.int .i64 0,.int .i64 0,.int .i64 0,.int .i64 0,.slice none 0 0,.int .i64 0,.int .i64 0,.slice none 0 0,.slice none 0 0]):=St.new _ _ _;have N0:=Z8 (hs.ZL B0.out hlt)
 go_enter Tryz.func37,Tryz.ntmps37
 go_wp2_with fail
 have SE:Hid (St (w.alloc (.cells #[.int .i64 3,.int .i64 0,.int .i64 0,.int .i64 0,.int .i64 0,.int .i64 0,.int .i64 0,.slice none 0 0,.int .i64 0,.int .i64 0,.slice none 0 0,.slice none 0 0] 38)) w.heap.size [.int .i64 3,.int .i64 0,.int .i64 0,.int .i64 0,.int .i64 0,.int .i64 0,.int .i64 0,.slice none 0 0,.int .i64 0,.int .i64 0,.slice none 0 0,.slice none 0 0]):=St.new _ _ _;have BE:Hid (ZX w (w.alloc (.cells #[.int .i64 3,.int .i64 0,.int .i64 0,.int .i64 0,.int .i64 0,.int .i64 0,.int .i64 0,.slice none 0 0,.int .i64 0,.int .i64 0,.slice none 0 0,.slice none 0 0] 38))):=ZR.alloc ZW _;generalize (w.alloc _)=wE at *;have e0:=SE.out.cl 0 _ rfl;have e1:=SE.out.cl 1 _ rfl;have e2:=SE.out.cl 2 _ rfl;have e3:=SE.out.cl 3 _ rfl;have e4:=SE.out.cl 4 _ rfl;have e5:=SE.out.cl 5 _ rfl;have e6:=SE.out.cl 6 _ rfl;have e7:=SE.out.cl 7 _ rfl;have e8:=SE.out.cl 8 _ rfl;have e9:=SE.out.cl 9 _ rfl;have e10:=SE.out.cl 10 _ rfl;have e11:=SE.out.cl 11 _ rfl;exact ZT (v:=.agg #[.int .i64 3,.int .i64 0,.int .i64 0,.int .i64 0,.int .i64 0,.int .i64 0,.int .i64 0,.slice none 0 0,.int .i64 0,.int .i64 0,.slice none 0 0,.slice none 0 0]) (by simp [results,Tryz.results37,go_sem,e0,e1,e2,e3,e4,e5,e6,e7,e8,e9,e10,e11]) rfl ⟨rfl,BE.out⟩
theorem Nq (w:World) (b:Nat) (S L lim made:Int) (da pa ta:Option Addr) (dl dc pl pc tl tc:Nat) (vc:Value) (cg:Bool) (c:YU) (og:Bool) (o:YU) (code zx cnt en:Int) (hs:St w b (WY S L (.slice da dl dc) (.slice pa pl pc) lim made vc cg c og o code (.slice ta tl tc) zx cnt en)) :
    Calls Tryz.prog 37 #[.pointer (some ⟨b,0,none⟩),.int .i64 5] w (Ze w (.agg #[.int .i64 2,.int .i64 0,.int .i64 0,.int .i64 0,.int .i64 0,.int .i64 0,.int .i64 0,.slice none 0 0,.int .i64 0,.int .i64 made,.slice da dl dc,.slice pa pl pc])):=by
 have hlt:=hs.lt;have B0:Hid (ZX w (w.alloc (.cells #[.int .i64 0,.int .i64 0,.int .i64 0,.int .i64 0,.int .i64 0,.int .i64 0,.int .i64 0,.slice none 0 0,.int .i64 0,.int .i64 0,.slice none 0 0,.slice none 0 0] 38))):=ZR.alloc ZW _;have R0:Hid (St (w.alloc (.cells #[.int .i64 0,.int .i64 0,.int .i64 0,.int .i64 0,.int .i64 0,.int .i64 0,.int .i64 0,.slice none 0 0,.int .i64 0,.int .i64 0,.slice none 0 0,.slice none 0 0] 38)) w.heap.size [.int .i64 0,.int .i64 0,.int .i64 0,.int .i64 0,.int .i64 0,.int .i64 0,.int .i64 0,.slice none 0 0,.int .i64 0,.int .i64 0,.slice none 0 0,.slice none 0 0]):=St.new _ _ _;have N0:=Z8 (hs.ZL B0.out hlt)
 go_enter Tryz.func37,Tryz.ntmps37
 go_wp2_with fail
 generalize (w.alloc _)=w0 at *;have Nd:Hid (St w0.drew b (WY S L (.slice da dl dc) (.slice pa pl pc) lim made vc cg c og o code (.slice ta tl tc) zx cnt en)):=N0.out.below (below_drewN' w0 1);have Z:Hid (St w0.drew w.heap.size [.int .i64 0,.int .i64 0,.int .i64 0,.int .i64 0,.int .i64 0,.int .i64 0,.int .i64 0,.slice none 0 0,.int .i64 0,.int .i64 0,.slice none 0 0,.slice none 0 0]):=R0.out.below (below_drewN' w0 1);have Bd:Hid (ZX w w0.drew):=B0.out.trans ((below_drewN' w0 1).mono B0.out.size);refine ZF (S:=fun W=>St W b (WY S L (.slice da dl dc) (.slice pa pl pc) lim made vc cg c og o code (.slice ta tl tc) zx cnt en)) (by kernel_rfl) (Nd.out) (fun Z9=>?_)
 iterate 11 (refine ZV ?_ (by kernel_rfl) (fun _=>id) Z9 ?_ ?_;rotate_left;· intro w9 Z4;have k2:=Z4.cl 2 _ rfl;have k3:=Z4.cl 3 _ rfl;have k5:=Z4.cl 5 _ rfl;have k8:=Z4.cl 8 _ rfl;have k9:=Z4.cl 9 _ rfl;have k10:=Z4.cl 10 _ rfl;have k11:=Z4.cl 11 _ rfl;have k12:=Z4.cl 12 _ rfl;have k19:=Z4.cl 19 _ rfl;have k20:=Z4.cl 20 _ rfl;have k21:=Z4.cl 21 _ rfl;have k23:=Z4.cl 23 _ rfl;clear Z4;go_simp;try with_reducible rfl)
 clear Z9;generalize w0.drew=w1 at *;have q0:=Z.out.cl 0 _ rfl;have f0:=Z.out.fz 0;have q1:=Z.out.cl 1 _ rfl;have f1:=Z.out.fz 1;have q2:=Z.out.cl 2 _ rfl;have f2:=Z.out.fz 2;have q3:=Z.out.cl 3 _ rfl;have f3:=Z.out.fz 3;have q4:=Z.out.cl 4 _ rfl;have f4:=Z.out.fz 4;have q5:=Z.out.cl 5 _ rfl;have f5:=Z.out.fz 5;have q6:=Z.out.cl 6 _ rfl;have f6:=Z.out.fz 6;have q7:=Z.out.cl 7 _ rfl;have f7:=Z.out.fz 7;have q8:=Z.out.cl 8 _ rfl;have f8:=Z.out.fz 8;have q9:=Z.out.cl 9 _ rfl;have f9:=Z.out.fz 9;have He:=Z.out.cl 10 _ rfl;have f10:=Z.out.fz 10;have Hd:=Z.out.cl 11 _ rfl;have f11:=Z.out.fz 11;have SE:Hid (St ((((((((((((w1.setCell ⟨w.heap.size,0,none⟩ (.int .i64 2)).setCell ⟨w.heap.size,1,none⟩ (.int .i64 0)).setCell ⟨w.heap.size,2,none⟩ (.int .i64 0)).setCell ⟨w.heap.size,3,none⟩ (.int .i64 0)).setCell ⟨w.heap.size,4,none⟩ (.int .i64 0)).setCell ⟨w.heap.size,5,none⟩ (.int .i64 0)).setCell ⟨w.heap.size,6,none⟩ (.int .i64 0)).setCell ⟨w.heap.size,7,none⟩ (.slice none 0 0)).setCell ⟨w.heap.size,8,none⟩ (.int .i64 0)).setCell ⟨w.heap.size,9,none⟩ (.int .i64 made)).setCell ⟨w.heap.size,10,none⟩ (.slice da dl dc)).setCell ⟨w.heap.size,11,none⟩ (.slice pa pl pc)) w.heap.size [.int .i64 2,.int .i64 0,.int .i64 0,.int .i64 0,.int .i64 0,.int .i64 0,.int .i64 0,.slice none 0 0,.int .i64 0,.int .i64 made,.slice da dl dc,.slice pa pl pc]):=((((((((((((Z.out.set 0 (.int .i64 2)).set 1 (.int .i64 0)).set 2 (.int .i64 0)).set 3 (.int .i64 0)).set 4 (.int .i64 0)).set 5 (.int .i64 0)).set 6 (.int .i64 0)).set 7 (.slice none 0 0)).set 8 (.int .i64 0)).set 9 (.int .i64 made)).set 10 (.slice da dl dc)).set 11 (.slice pa pl pc));have BE:Hid (ZX w ((((((((((((w1.setCell ⟨w.heap.size,0,none⟩ (.int .i64 2)).setCell ⟨w.heap.size,1,none⟩ (.int .i64 0)).setCell ⟨w.heap.size,2,none⟩ (.int .i64 0)).setCell ⟨w.heap.size,3,none⟩ (.int .i64 0)).setCell ⟨w.heap.size,4,none⟩ (.int .i64 0)).setCell ⟨w.heap.size,5,none⟩ (.int .i64 0)).setCell ⟨w.heap.size,6,none⟩ (.int .i64 0)).setCell ⟨w.heap.size,7,none⟩ (.slice none 0 0)).setCell ⟨w.heap.size,8,none⟩ (.int .i64 0)).setCell ⟨w.heap.size,9,none⟩ (.int .i64 made)).setCell ⟨w.heap.size,10,none⟩ (.slice da dl dc)).setCell ⟨w.heap.size,11,none⟩ (.slice pa pl pc))):=by
  iterate 12 refine Zf ?_ (by show w.heap.size≤w.heap.size;omega) _
  exact Bd.out
 have NE:St ((((((((((((w1.setCell ⟨w.heap.size,0,none⟩ (.int .i64 2)).setCell ⟨w.heap.size,1,none⟩ (.int .i64 0)).setCell ⟨w.heap.size,2,none⟩ (.int .i64 0)).setCell ⟨w.heap.size,3,none⟩ (.int .i64 0)).setCell ⟨w.heap.size,4,none⟩ (.int .i64 0)).setCell ⟨w.heap.size,5,none⟩ (.int .i64 0)).setCell ⟨w.heap.size,6,none⟩ (.int .i64 0)).setCell ⟨w.heap.size,7,none⟩ (.slice none 0 0)).setCell ⟨w.heap.size,8,none⟩ (.int .i64 0)).setCell ⟨w.heap.size,9,none⟩ (.int .i64 made)).setCell ⟨w.heap.size,10,none⟩ (.slice da dl dc)).setCell ⟨w.heap.size,11,none⟩ (.slice pa pl pc)) b (WY S L (.slice da dl dc) (.slice pa pl pc) lim made vc cg c og o code (.slice ta tl tc) zx cnt en):=((((((((((((Nd.out.other (by omega)).other (by omega)).other (by omega)).other (by omega)).other (by omega)).other (by omega)).other (by omega)).other (by omega)).other (by omega)).other (by omega)).other (by omega)).other (by omega));refine ZS 11 rfl (by kernel_rfl) (fun K hK=>?_);go_simp;refine hK.out _ _ NE (fun ZI=>?_);refine ZM (by kernel_rfl) ?_ _
 try simp only [Act.put,Zk,Zj,Zi]
 generalize ((((((((((((w1.setCell _ _).setCell _ _).setCell _ _).setCell _ _).setCell _ _).setCell _ _).setCell _ _).setCell _ _).setCell _ _).setCell _ _).setCell _ _).setCell _ _)=wE at *;go_wp2;have e0:=SE.out.cl 0 _ rfl;have e1:=SE.out.cl 1 _ rfl;have e2:=SE.out.cl 2 _ rfl;have e3:=SE.out.cl 3 _ rfl;have e4:=SE.out.cl 4 _ rfl;have e5:=SE.out.cl 5 _ rfl;have e6:=SE.out.cl 6 _ rfl;have e7:=SE.out.cl 7 _ rfl;have e8:=SE.out.cl 8 _ rfl;have e9:=SE.out.cl 9 _ rfl;have e10:=SE.out.cl 10 _ rfl;have e11:=SE.out.cl 11 _ rfl;exact ZT (v:=.agg #[.int .i64 2,.int .i64 0,.int .i64 0,.int .i64 0,.int .i64 0,.int .i64 0,.int .i64 0,.slice none 0 0,.int .i64 0,.int .i64 made,.slice da dl dc,.slice pa pl pc]) (by simp [results,Tryz.results37,go_sem,e0,e1,e2,e3,e4,e5,e6,e7,e8,e9,e10,e11]) rfl ⟨rfl,BE.out⟩
theorem Ch (w:World) (b:Nat) (S L lim made:Int) (da pa ta:Option Addr) (dl dc pl pc tl tc:Nat) (vc:Value) (cg:Bool) (c:YU) (og:Bool) (o:YU) (code zx cnt en:Int) (hs:St w b (WY S L (.slice da dl dc) (.slice pa pl pc) lim made vc cg c og o code (.slice ta tl tc) zx cnt en)) :
    Calls Tryz.prog 37 #[.pointer (some ⟨b,0,none⟩),.int .i64 6] w (Ze w (.agg #[.int .i64 code,.int .i64 c.g,.int .i64 c.b,.int .i64 c.s,.int .i64 c.l,.int .i64 c.c,.int .i64 zx,.slice ta tl tc,.int .i64 en,.int .i64 made,.slice da dl dc,.slice pa pl pc])):=by
 have hlt:=hs.lt;have B0:Hid (ZX w (w.alloc (.cells #[.int .i64 0,.int .i64 0,.int .i64 0,.int .i64 0,.int .i64 0,.int .i64 0,.int .i64 0,.slice none 0 0,.int .i64 0,.int .i64 0,.slice none 0 0,.slice none 0 0] 38))):=ZR.alloc ZW _;have R0:Hid (St (w.alloc (.cells #[.int .i64 0,.int .i64 0,.int .i64 0,.int .i64 0,.int .i64 0,.int .i64 0,.int .i64 0,.slice none 0 0,.int .i64 0,.int .i64 0,.slice none 0 0,.slice none 0 0] 38)) w.heap.size [.int .i64 0,.int .i64 0,.int .i64 0,.int .i64 0,.int .i64 0,.int .i64 0,.int .i64 0,.slice none 0 0,.int .i64 0,.int .i64 0,.slice none 0 0,.slice none 0 0]):=St.new _ _ _;have N0:=Z8 (hs.ZL B0.out hlt)
 go_enter Tryz.func37,Tryz.ntmps37
 go_wp2_with fail
 generalize (w.alloc _)=w0 at *;have Nd:Hid (St w0.drew b (WY S L (.slice da dl dc) (.slice pa pl pc) lim made vc cg c og o code (.slice ta tl tc) zx cnt en)):=N0.out.below (below_drewN' w0 1);have Z:Hid (St w0.drew w.heap.size [.int .i64 0,.int .i64 0,.int .i64 0,.int .i64 0,.int .i64 0,.int .i64 0,.int .i64 0,.slice none 0 0,.int .i64 0,.int .i64 0,.slice none 0 0,.slice none 0 0]):=R0.out.below (below_drewN' w0 1);have Bd:Hid (ZX w w0.drew):=B0.out.trans ((below_drewN' w0 1).mono B0.out.size);refine ZF (S:=fun W=>St W b (WY S L (.slice da dl dc) (.slice pa pl pc) lim made vc cg c og o code (.slice ta tl tc) zx cnt en)) (by kernel_rfl) (Nd.out) (fun Z9=>?_)
 iterate 35 (refine ZV ?_ (by kernel_rfl) (fun _=>id) Z9 ?_ ?_;rotate_left;· intro w9 Z4;have k2:=Z4.cl 2 _ rfl;have k3:=Z4.cl 3 _ rfl;have k5:=Z4.cl 5 _ rfl;have k8:=Z4.cl 8 _ rfl;have k9:=Z4.cl 9 _ rfl;have k10:=Z4.cl 10 _ rfl;have k11:=Z4.cl 11 _ rfl;have k12:=Z4.cl 12 _ rfl;have k19:=Z4.cl 19 _ rfl;have k20:=Z4.cl 20 _ rfl;have k21:=Z4.cl 21 _ rfl;have k23:=Z4.cl 23 _ rfl;clear Z4;go_simp;try with_reducible rfl)
 clear Z9;generalize w0.drew=w1 at *;have q0:=Z.out.cl 0 _ rfl;have f0:=Z.out.fz 0;have q1:=Z.out.cl 1 _ rfl;have f1:=Z.out.fz 1;have q2:=Z.out.cl 2 _ rfl;have f2:=Z.out.fz 2;have q3:=Z.out.cl 3 _ rfl;have f3:=Z.out.fz 3;have q4:=Z.out.cl 4 _ rfl;have f4:=Z.out.fz 4;have q5:=Z.out.cl 5 _ rfl;have f5:=Z.out.fz 5;have q6:=Z.out.cl 6 _ rfl;have f6:=Z.out.fz 6;have q7:=Z.out.cl 7 _ rfl;have f7:=Z.out.fz 7;have q8:=Z.out.cl 8 _ rfl;have f8:=Z.out.fz 8;have q9:=Z.out.cl 9 _ rfl;have f9:=Z.out.fz 9;have He:=Z.out.cl 10 _ rfl;have f10:=Z.out.fz 10;have Hd:=Z.out.cl 11 _ rfl;have f11:=Z.out.fz 11;have SE:Hid (St ((((((((((((w1.setCell ⟨w.heap.size,0,none⟩ (.int .i64 code)).setCell ⟨w.heap.size,1,none⟩ (.int .i64 c.g)).setCell ⟨w.heap.size,2,none⟩ (.int .i64 c.b)).setCell ⟨w.heap.size,3,none⟩ (.int .i64 c.s)).setCell ⟨w.heap.size,4,none⟩ (.int .i64 c.l)).setCell ⟨w.heap.size,5,none⟩ (.int .i64 c.c)).setCell ⟨w.heap.size,6,none⟩ (.int .i64 zx)).setCell ⟨w.heap.size,7,none⟩ (.slice ta tl tc)).setCell ⟨w.heap.size,8,none⟩ (.int .i64 en)).setCell ⟨w.heap.size,9,none⟩ (.int .i64 made)).setCell ⟨w.heap.size,10,none⟩ (.slice da dl dc)).setCell ⟨w.heap.size,11,none⟩ (.slice pa pl pc)) w.heap.size [.int .i64 code,.int .i64 c.g,.int .i64 c.b,.int .i64 c.s,.int .i64 c.l,.int .i64 c.c,.int .i64 zx,.slice ta tl tc,.int .i64 en,.int .i64 made,.slice da dl dc,.slice pa pl pc]):=((((((((((((Z.out.set 0 (.int .i64 code)).set 1 (.int .i64 c.g)).set 2 (.int .i64 c.b)).set 3 (.int .i64 c.s)).set 4 (.int .i64 c.l)).set 5 (.int .i64 c.c)).set 6 (.int .i64 zx)).set 7 (.slice ta tl tc)).set 8 (.int .i64 en)).set 9 (.int .i64 made)).set 10 (.slice da dl dc)).set 11 (.slice pa pl pc));have BE:Hid (ZX w ((((((((((((w1.setCell ⟨w.heap.size,0,none⟩ (.int .i64 code)).setCell ⟨w.heap.size,1,none⟩ (.int .i64 c.g)).setCell ⟨w.heap.size,2,none⟩ (.int .i64 c.b)).setCell ⟨w.heap.size,3,none⟩ (.int .i64 c.s)).setCell ⟨w.heap.size,4,none⟩ (.int .i64 c.l)).setCell ⟨w.heap.size,5,none⟩ (.int .i64 c.c)).setCell ⟨w.heap.size,6,none⟩ (.int .i64 zx)).setCell ⟨w.heap.size,7,none⟩ (.slice ta tl tc)).setCell ⟨w.heap.size,8,none⟩ (.int .i64 en)).setCell ⟨w.heap.size,9,none⟩ (.int .i64 made)).setCell ⟨w.heap.size,10,none⟩ (.slice da dl dc)).setCell ⟨w.heap.size,11,none⟩ (.slice pa pl pc))):=by
  iterate 12 refine Zf ?_ (by show w.heap.size≤w.heap.size;omega) _
  exact Bd.out
 have NE:St ((((((((((((w1.setCell ⟨w.heap.size,0,none⟩ (.int .i64 code)).setCell ⟨w.heap.size,1,none⟩ (.int .i64 c.g)).setCell ⟨w.heap.size,2,none⟩ (.int .i64 c.b)).setCell ⟨w.heap.size,3,none⟩ (.int .i64 c.s)).setCell ⟨w.heap.size,4,none⟩ (.int .i64 c.l)).setCell ⟨w.heap.size,5,none⟩ (.int .i64 c.c)).setCell ⟨w.heap.size,6,none⟩ (.int .i64 zx)).setCell ⟨w.heap.size,7,none⟩ (.slice ta tl tc)).setCell ⟨w.heap.size,8,none⟩ (.int .i64 en)).setCell ⟨w.heap.size,9,none⟩ (.int .i64 made)).setCell ⟨w.heap.size,10,none⟩ (.slice da dl dc)).setCell ⟨w.heap.size,11,none⟩ (.slice pa pl pc)) b (WY S L (.slice da dl dc) (.slice pa pl pc) lim made vc cg c og o code (.slice ta tl tc) zx cnt en):=((((((((((((Nd.out.other (by omega)).other (by omega)).other (by omega)).other (by omega)).other (by omega)).other (by omega)).other (by omega)).other (by omega)).other (by omega)).other (by omega)).other (by omega)).other (by omega));refine ZS 35 rfl (by kernel_rfl) (fun K hK=>?_);go_simp;refine hK.out _ _ NE (fun ZI=>?_);refine ZM (by kernel_rfl) ?_ _
 try simp only [Act.put,Zk,Zj,Zi]
 generalize ((((((((((((w1.setCell _ _).setCell _ _).setCell _ _).setCell _ _).setCell _ _).setCell _ _).setCell _ _).setCell _ _).setCell _ _).setCell _ _).setCell _ _).setCell _ _)=wE at *;go_wp2;have e0:=SE.out.cl 0 _ rfl;have e1:=SE.out.cl 1 _ rfl;have e2:=SE.out.cl 2 _ rfl;have e3:=SE.out.cl 3 _ rfl;have e4:=SE.out.cl 4 _ rfl;have e5:=SE.out.cl 5 _ rfl;have e6:=SE.out.cl 6 _ rfl;have e7:=SE.out.cl 7 _ rfl;have e8:=SE.out.cl 8 _ rfl;have e9:=SE.out.cl 9 _ rfl;have e10:=SE.out.cl 10 _ rfl;have e11:=SE.out.cl 11 _ rfl;exact ZT (v:=.agg #[.int .i64 code,.int .i64 c.g,.int .i64 c.b,.int .i64 c.s,.int .i64 c.l,.int .i64 c.c,.int .i64 zx,.slice ta tl tc,.int .i64 en,.int .i64 made,.slice da dl dc,.slice pa pl pc]) (by simp [results,Tryz.results37,go_sem,e0,e1,e2,e3,e4,e5,e6,e7,e8,e9,e10,e11]) rfl ⟨rfl,BE.out⟩
theorem plain8:Tryz.prog.plainKey 5=true:=by kernel_rfl
theorem sI:Tryz.prog.underlying 5=some (.int .u8):=by kernel_rfl
theorem Np (w:World) (d:Nat) (X Y:List Int):∀(is:List Nat),(∀i ∈ is,i<X.length∧i<Y.length)→(Op.eqItems (d+1) 5 1 (X.map (Value.int .u8)).toArray (Y.map (Value.int .u8)).toArray is).run Tryz.prog w=.ok (is.all (fun i=>X.getD i 0 == Y.getD i 0)) w
 | [],_=>by simp [Op.eqItems]
 | i :: is,h=>by
  obtain ⟨h1,h2⟩:=h i (by simp);have ih:=Np w d X Y is (fun j hj=>h j (by simp [hj]));have p1:(X.map (Value.int .u8)).toArray[i*1]?=some (.int .u8 (X.getD i 0)):=by simp [List.getD,h1]
  have p2:(Y.map (Value.int .u8)).toArray[i*1]?=some (.int .u8 (Y.getD i 0)):=by simp [List.getD,h2]
  simp only [Op.eqItems,Jj,run_part_plain w plain8 p1,run_part_plain w plain8 p2,Jk,run_equalIn_int w d 5 .u8 .u8 _ _ sI]
  cases e:(X.getD i 0 == Y.getD i 0) with
  | false=>simp only [uz,e,Bool.false_and,Bool.not_false,Rb,Sem.run_pure]
  | true =>
   simp only [uz,e,Bq,Bool.not_true,Pe,Sm]
   exact ih
theorem Ha (w:World) (X Y:List Int) (hX:X.length=64) (hY:Y.length=64):(Op.equalIn 10000 125 (.agg (X.map (Value.int .u8)).toArray) (.agg (Y.map (Value.int .u8)).toArray)).run Tryz.prog w=.ok (decide (X=Y)) w:=by
 obtain ⟨i,hi⟩:∃i,Tryz.prog.info? 5=some i:=by
  cases h:Tryz.prog.info? 5 with
  | none=>exact absurd h (by
      have:(Tryz.prog.info? 5).isSome=true:=by kernel_rfl
      intro e;rw [e] at this;cases this)
  | some i=>exact ⟨i,rfl⟩
 rw [run_equalIn_array w 9999 _ _ Tryz.underlying125 hi];have hc:Tryz.prog.cellsOf 5=1:=by kernel_rfl
 have hb:((List.range 64).all (fun i=>X.getD i 0 == Y.getD i 0))=decide (X=Y):=by
  rw [Bu,Pz,Zg]
  constructor
  · intro h
    apply xJ (by omega);intro j h1 h2;have:=h j (by rw [RZ];omega)
    simpa [List.getD,h1,h2] using this
  rintro rfl j _
  simp
 rw [hc,←hb];exact Np w 9998 X Y _ (fun i hi=>by rw [RZ] at hi;omega)
theorem qm (w:World):(zeroValue 5).run Tryz.prog w=.ok (.int .u8 0) w:=by kernel_rfl
theorem vM (w7:World) (b:Nat) (V:List Value) (hV:V.length=64) (ht:w7.there b 0 64) (hR:w7.rangeAt b 0 V) (k c:Nat) (hk:k<64) :
    (Builtin.clear_ #[22] 0 #[.slice (some ⟨b,k,none⟩) (64 - k) c]).run Tryz.prog w7=.ok (.tuple #[]) (w7.setCells b k (List.replicate (64 - k) (.int .u8 0)))
    ∧ (w7.setCells b k (List.replicate (64 - k) (.int .u8 0))).rangeAt b 0 (V.take k++List.replicate (64 - k) (.int .u8 0)):=by
 have hc:∀j,j<64 - k→(w7.cell? ⟨b,k+j,none⟩).isSome=true:=fun j hj=>by
  have h9:=(ht (k+j) (by omega)).1;rw [Wn] at h9;exact h9
 refine ⟨Go.Lib.run_clear_slice _ 22 5 0 (.int .u8 0) Tryz.underlying22 qm rfl rfl b k (64 - k) c (by omega) hc (fun j hj=>by
  have h9:=(ht (k+j) (by omega)).2;rw [Wn] at h9;exact h9),fun j u hu=>?_⟩
 have hj:j<64:=by have:=(List.getElem?_eq_some_iff.1 hu).1;simp [hV] at this;omega
 by_cases hjk:j<k
 · rw [vA _ _ _ _ _ (fun _ _=>.inl (by show 0+j<k;omega))]
   refine hR j u ?_;rw [Qw (by simp [hV];omega),Sx hjk] at hu;exact hu
 have h9:=World.cell?_setCells_in b (List.replicate (64 - k) (Value.int .u8 0)) k _ (by rw [Gy];exact hc) (j - k) (by rw [Gy];omega);rw [show k+(j - k)=0+j by omega] at h9;rw [h9];rw [Nb (by simp [hV];omega)] at hu;have h8:u=.int .u8 0:=by
  have:=List.mem_of_getElem? hu;exact (List.mem_replicate.1 this).2
 rw [h8]
 simp
theorem ql (w:World) (q:Nat):(Builtin.clear_ #[22] 0 #[.slice (some ⟨q,0,none⟩) 0 0]).run Tryz.prog w=.ok (.tuple #[]) w:=by
 simp [Builtin.clear_,go_sem,Jf (P:=Tryz.prog) Tryz.underlying22]
theorem Cg {o:Nat} (h:w.there b o n) (hc:w'.heap[b]?=w.heap[b]?):w'.there b o n:=fun j hj=>by
 obtain ⟨h1,h2⟩:=h j hj;refine ⟨?_,?_⟩
 · rw [YI (w:=w) (a:=⟨b,o+j,none⟩) hc];exact h1
 unfold World.frozen? at h2 ⊢;rw [hc];exact h2
theorem QC {rs':List (Int × List Int)} {x:Int} {V:List Int} (h:Put rs x V rs') (hno:∀i,i<rs.length→pB rs i≠x):rs'=rs++[(x,V)]:=by
 rcases h with ⟨i,hi,e,-⟩ | ⟨-,h⟩
 · exact absurd e (hno i hi)
 exact h
theorem U2.qk {lo' tb mb:Nat} (h:U2 w lo tb mb v rs) (hl:lo'≤lo):U2 w lo' tb mb v rs:=by
 refine ⟨h.box,⟨h.rows.1,?_⟩,h.map,h.full,h.apart,ZP hl h.lot,ZP hl h.qN,h.ne,h.vt,h.vm⟩
 rcases h.rows.2 with hn | ⟨g,cap,cur,rfl,hbg,rest⟩
 · exact .inl hn
 exact .inr ⟨g,cap,cur,rfl,by omega,rest⟩
theorem Pf (f:Int) (lg wn:List Int):∀(n b i:Nat),i<(WZ f lg wn b n).length→∃k,b≤k∧k<b+n∧pB (WZ f lg wn b n) i=f+k:=by
 intro n
 induction n with
 | zero=>intro b i hi;simp [WZ] at hi
 | succ n ih =>
  intro b i hi;rw [WZ] at hi ⊢
  by_cases hc:blk lg b=blk wn b
  · rw [ZY hc,TJ] at hi ⊢
    obtain ⟨k,h1,h2,h3⟩:=ih (b+1) i hi;exact ⟨k,by omega,by omega,h3⟩
  rw [Z3 hc] at hi ⊢
  cases i with
  | zero=>exact ⟨b,by omega,by omega,rfl⟩
  | succ i =>
   obtain ⟨k,h1,h2,h3⟩:=ih (b+1) i (by simpa using hi);refine ⟨k,by omega,by omega,?_⟩;rw [←h3];rfl
def yA (w:World) (rs:List (Int × List Int)) (e:Ending) (w':World):Prop:=∃tb mb v,e=.returned (.pointer (some ⟨tb,0,none⟩))∧U2 w' w.heap.size tb mb v rs∧ZX w w'
theorem G9 (w:World) (b g N C f:Nat) (S:Int) (sn:Nat) (vd vp:Value) (lim made:Int) (vc:Value) (cg:Bool) (c:YU) (og:Bool) (o:YU) (code:Int) (vt:Value) (zx cnt:Int) (en:Nat) (cont:List Int) (hs:St w b (WY S (sn:Int) vd vp lim made vc cg c og o code vt zx cnt (en:Int))) (Fq:vc=.slice (some ⟨g,0,none⟩) N C) (hr:Rd .u8 w (.slice (some ⟨g,0,none⟩) N C) cont) (hN:cont.length=N) (NA:N≤1048576) (hc:Xh S (sn:Int)=true) (hcb:0≤c.b∧c.b≤1) (hf:YM S (sn:Int) c.b true=(f:Int)) (rR:(f+sn)*64≤N) (hen:en≤sn*64) (hsn:sn≤64) (tj:f≤1000) :
    Calls Tryz.prog 75 #[.pointer (some ⟨b,0,none⟩)] w (yA w (WZ (f:Int) (YR cont f sn) (Zu (YR cont f sn) en) 0 sn)):=by
 have hlt:=hs.lt;have HS:=Z8 hs;have Y9:Hid (∀W,Calls Tryz.prog 107 #[.agg #[.int .i64 S,.int .i64 (sn:Int)],.int .i64 c.b] W (Ze W (.agg #[.int .i64 (f:Int),.int .i64 (sn:Int)]))):=by
  intro W;have h9:=PF W S (sn:Int) c.b hc hcb;rw [hf,show Rx S (sn:Int) true=(sn:Int) from rfl] at h9;exact h9
 have vZ:Hid (∀W (j:Nat),j<sn→ZX w W→Calls Tryz.prog 100 #[vc,.int .i64 ((f:Int)+(j:Int))] W (Ze W (.agg ((blk (YR cont f sn) j).map (Value.int .u8)).toArray))):=by
  intro W j hj hW;have h9:=PK W g 0 N C (f+j) cont (hr.below hW) hN (by omega) NA;rw [Fq,vS _ _ _ _ hj];rw [show ((f+j:Nat):Int)=(f:Int)+(j:Int) by omega] at h9;exact h9
 have hll:(YR cont f sn).length=sn*64:=VE _ _ _ (by omega);have rF:Hid (∀j,j<sn→(blk (YR cont f sn) j).length=64∧blk (Zu (YR cont f sn) en) j=(blk (YR cont f sn) j).take (min (en - j*64) 64)++zeros (64 - min (en - j*64) 64)):=fun j hj=>⟨Nv hll hj,CU _ sn en j hll (by omega) hj⟩
 clear hs hr Fq hN NA hc hf rR hll;generalize (Zu (YR cont f sn) en)=I at *;generalize (YR cont f sn)=E at *
 go_enter Tryz.func75,Tryz.ntmps75
 go_wp2_with fail
 rename_i KK sK;have REST:Hid (∀(b3:Nat) (W:World),St W b (WY S (sn:Int) vd vp lim made vc cg c og o code vt zx cnt (en:Int))→St W b3 [.int .i64 (f:Int),.int .i64 (sn:Int)]→ZX w W→w.heap.size≤b3→KK { tmps:=#[.pointer (some ⟨b,0,none⟩),undef,.pointer none,.pointer (some ⟨b3,0,none⟩),undef,undef,undef,undef,.pointer (some ⟨b,0,none⟩),.pointer (some ⟨b,0,none⟩),.pointer (some ⟨b,0,none⟩),.agg #[.int .i64 S,.int .i64 (sn:Int)],.pointer (some ⟨b,0,none⟩),.pointer (some ⟨b,0,none⟩),.pointer (some ⟨b,7,none⟩),.pointer (some ⟨b,8,none⟩),.pointer (some ⟨b,9,none⟩),.int .i64 c.b,.agg #[.int .i64 (f:Int),.int .i64 (sn:Int)],undef,undef,undef,undef,undef,undef,undef,undef,undef,undef,undef,undef,undef,undef,undef,undef,undef,undef,undef,undef,undef,undef,undef,undef,undef,undef,undef,undef,undef,undef,undef,undef,undef,undef,undef,undef,undef,undef,undef],defers:=[] } W):=by
  clear HS Y9;intro b3 W N0 X0 B0 hb3;refine sK _ _ ?_;have rS:=Z8 N0;have HX0:=Z8 X0;have HB0:=Z8 B0;have qt:=X0.lt;clear N0 X0 B0 sK
  go_wp2_with fail
  refine (QL W).mono ?_;rintro e w1 ⟨rfl,t1,b1⟩;have N1:=Z8 (rS.out.below b1);have X1:=Z8 (HX0.out.below b1);have B1:=Z8 (Ye HB0.out b1);have T1:=Z8 t1;have hbW:=rS.out.lt;have hW:=HB0.out.size;have x1:=X1.out.cl 1 _ rfl;clear t1 b1 rS HX0 HB0;go_wp2
  go_loopw [22] (fun vi wr=>∃(j:Nat) (v:Value),j≤sn∧vi=.int .i64 (j:Int)∧Hid (St wr b (WY S (sn:Int) vd vp lim made vc cg c og o code vt zx cnt (en:Int)))∧Hid (St wr b3 [.int .i64 (f:Int),.int .i64 (sn:Int)])∧Hid (ZX w wr)∧Hid (U2 wr W.heap.size (W.heap.size+1) W.heap.size v (WZ (f:Int) E I 0 j))∧Hid (W.heap.size+2≤wr.heap.size)) (fun i _=>sn - (intOf i).toNat)
  case atStart=>exact ⟨0,_,by omega,rfl,N1,X1,B1,T1,by have:=T1.out.box.1.1;show _≤_;omega⟩
  case round =>
   clear N1 X1 B1 T1;obtain ⟨j,v,hj,rfl,N2,X2,B2,T2,Z2⟩:=hrel
   by_cases hlt2:j<sn
   · have YN:(j:Int)<(sn:Int):=by omega
     go_wp2_with fail
     rename_i Yu YO;have O:=rF.out j hlt2;obtain ⟨V,hV⟩:∃V,V=(blk E j).map (Value.int .u8):=⟨_,rfl⟩;have HV:=Z8 hV;have VR:Hid (V.length=64):=by rw [hV];show _=_;rw [Vi];exact O.1
     have ze:Hid (∀v ∈ V,v.oneCell'=true):=by rw [hV];exact Wc _ _
     clear hV;have Zt:Hid (∀(b6:Nat) (W':World),St W' b (WY S (sn:Int) vd vp lim made vc cg c og o code vt zx cnt (en:Int))→St W' b3 [.int .i64 (f:Int),.int .i64 (sn:Int)]→ZX w W'→U2 W' W.heap.size (W.heap.size+1) W.heap.size v (WZ (f:Int) E I 0 j)→W'.rangeAt b6 0 V→b6<W'.heap.size→wr.heap.size≤b6→wr.heap.size≤W'.heap.size→Yu { tmps:=#[.pointer (some ⟨b,0,none⟩),undef,.pointer none,.pointer (some ⟨b3,0,none⟩),.pointer (some ⟨W.heap.size+1,0,none⟩),.int .i64 (j:Int),.pointer (some ⟨b6,0,none⟩),u7,.pointer (some ⟨b,0,none⟩),.pointer (some ⟨b,0,none⟩),.pointer (some ⟨b,0,none⟩),.agg #[.int .i64 S,.int .i64 (sn:Int)],.pointer (some ⟨b,0,none⟩),.pointer (some ⟨b,0,none⟩),.pointer (some ⟨b,7,none⟩),.pointer (some ⟨b,8,none⟩),.pointer (some ⟨b,9,none⟩),.int .i64 c.b,.agg #[.int .i64 (f:Int),.int .i64 (sn:Int)],.pointer (some ⟨W.heap.size+1,0,none⟩),.pointer (some ⟨b3,1,none⟩),.int .i64 (sn:Int),.int .i64 (j:Int),.bool true,.int .i64 (j:Int),.pointer (some ⟨b,0,none⟩),.pointer (some ⟨b,0,none⟩),.pointer (some ⟨b,6,none⟩),vc,.pointer (some ⟨b3,0,none⟩),.int .i64 (f:Int),.int .i64 (j:Int),.int .i64 ((f:Int)+(j:Int)),.agg V.toArray,u34,u35,u36,u37,u38,u39,u40,u41,u42,u43,u44,u45,u46,u47,u48,u49,u50,u51,u52,u53,u54,u55,u56,undef],defers:=[] } W'):=by
      intro b6 W' hN hX hB hT hR h6 XZ Zr;refine YO _ _ ?_;have HN:=Z8 hN;have HX:=Z8 hX;have HB:=Z8 hB;have HT:=Z8 hT;have HR:=Z8 hR;have hw1:IntKind.i64.wrap ((en:Int) - (j:Int)*64)=(en:Int) - (j:Int)*64:=by rw [Xf];omega
      have hw2:IntKind.i64.wrap ((j:Int)*64)=(j:Int)*64:=by rw [Xf];omega
      have hw3:IntKind.i64.wrap ((f:Int)+(j:Int))=(f:Int)+(j:Int):=by rw [Xf];omega
      clear hN hX hB hT hR
      go_wp2_with (first | (refine Wb rfl 125 _ rfl b6 0 rfl V _ HR.out Tryz.underlying125 rfl (Yk _ VR.out) ?_) | (refine Wb rfl 125 _ rfl b6 0 rfl V _ (Ma HR.out _) Tryz.underlying125 rfl (Yk _ VR.out) ?_) | (refine A4 rfl 125 _ _ rfl W'.heap.size 0 V.toArray rfl rfl ?s1 ?s2 ?s3 (Hid.out ?wall)))
      case s1 =>
       have e:V.toArray.size=64:=by rw [WW];exact VR.out
       rw [e];exact Xg _ _ _ _ rfl
      case s2=>rw [WW];exact Yk _ VR.out
      case s3=>exact Sn ze.out
      case wall =>
       unfold Hid;generalize Zp:World.setCells _ _ _ _=w7;have B7:Hid (ZX W' w7):=by subst Zp;exact below_setCells ZW _ _ _ (ZR.alloc ZW _)
       have Zz:Hid (w7.rangeAt W'.heap.size 0 V):=by
        subst Zp;exact Jh _ _ _ _ (Xg _ _ _ _ (by rw [VR.out];rfl))
       have T7:Hid (w7.there W'.heap.size 0 64):=by
        subst Zp;exact World.there_setCells (Xg _ _ _ _ rfl) _ _ _
       clear Zp;have k23:=(HN.out.below B7.out).cl 23 _ rfl;obtain ⟨V8,Y8⟩:∃V8,V8=(blk I j).map (Value.int .u8):=⟨_,rfl⟩;have Z':=Z8 Y8;have Z1:Hid ((blk I j).length=64):=by
        show _=_;rw [O.2,YE,YC,O.1];unfold zeros;rw [Gy];omega
       have Z0:Hid (V8.length=64):=by show _=_;rw [Y8,Vi];exact Z1.out
       clear Y8
       by_cases hA:en<j*64
       · have XY:(en:Int) - (j:Int)*64<0:=by omega
         obtain ⟨w8,hw8⟩:∃w8,w8=w7.setCells W'.heap.size 0 (List.replicate (64 - 0) (.int .u8 0)):=⟨_,rfl⟩;have Jw:(Builtin.clear_ #[22] 0 #[.slice (some ⟨W'.heap.size,0,none⟩) 64 64]).run Tryz.prog w7=.ok (.tuple #[]) w8:=by rw [hw8];exact (vM w7 _ V VR.out T7.out Zz.out 0 64 (by omega)).1
         have ZO:Hid (w8.rangeAt W'.heap.size 0 V8):=by
          have e9:V8=V.take 0++List.replicate (64 - 0) (.int .u8 0):=by
           rw [Z'.out,O.2,show min (en - j*64) 64=0 by omega,HV.out,WX,←DP];unfold zeros;rw [xG]
          rw [e9,hw8];exact (vM w7 _ V VR.out T7.out Zz.out 0 64 (by omega)).2
         have R:Hid (ZX W' w8):=by rw [hw8];exact below_setCells ZW _ _ _ B7.out
         clear hw8;have Ft:=Z8 (Ya HR.out (R.out.block b6 h6));have x30:=(HX.out.below R.out).cl 0 _ rfl;have N8:=Z8 (HN.out.below R.out);have X8:=Z8 (HX.out.below R.out);have T8:=Z8 (HT.out.below R.out);have B8:=Z8 (Ye HB.out R.out);have z8:=ZP Zr R.out.size
         by_cases heq:blk I j=blk E j
         · have ZN:∀w9:World,(Op.equalIn 10000 125 (.agg V8.toArray) (.agg V.toArray)).run Tryz.prog w9=.ok true w9:=fun w9=>by
            rw [Z'.out,HV.out,Ha w9 _ _ Z1.out O.1,YS heq]
           have Qc:Hid (WZ (f:Int) E I 0 (j+1)=WZ (f:Int) E I 0 j):=by show _=_;rw [WQ,ZY heq.symm,Sz]
           clear heq
           go_wp2_with (first | (refine Wb rfl 125 _ rfl W'.heap.size 0 rfl V8 _ ZO.out Tryz.underlying125 rfl (Yk _ Z0.out) ?_) | (refine Wb rfl 125 _ rfl b6 0 rfl V _ Ft.out Tryz.underlying125 rfl (Yk _ VR.out) ?_))
           go_roundw
           case rel=>exact ⟨j+1,v,by omega,by go_num,N8,X8,B8,by rw [Qc.out];exact T8,by show _≤_;have:=Z2.out;omega⟩
           case measure=>simp [intOf];omega
         have ZN:∀w9:World,(Op.equalIn 10000 125 (.agg V8.toArray) (.agg V.toArray)).run Tryz.prog w9=.ok false w9:=fun w9=>by
          rw [Z'.out,HV.out,Ha w9 _ _ Z1.out O.1,Zl heq]
         have Qc:Hid (WZ (f:Int) E I 0 (j+1)=WZ (f:Int) E I 0 j++[((f:Int)+(j:Int),blk I j)]):=by show _=_;rw [WQ,Z3 (fun e=>heq e.symm)]
         clear heq
         go_wp2_with (first | (refine Wb rfl 125 _ rfl W'.heap.size 0 rfl V8 _ ZO.out Tryz.underlying125 rfl (Yk _ Z0.out) ?_) | (refine Wb rfl 125 _ rfl b6 0 rfl V _ Ft.out Tryz.underlying125 rfl (Yk _ VR.out) ?_))
         have hpt:=QJ w8 W.heap.size _ _ v (WZ (f:Int) E I 0 j) ((f:Int)+(j:Int)) (blk I j) T8.out (by omega) (by omega) Z1.out (by have:=Ui (f:Int) E I j 0;omega) (by have:=Z2.out;omega);rw [←Z'.out] at hpt;refine hpt.mono ?_;clear hpt;rintro e w9 ⟨rfl,⟨v',rs',hput,hT'⟩,hB',-⟩;have hrs:=QC hput (fun i hi=>by
          obtain ⟨q,-,h2,h3⟩:=Pf (f:Int) E I j 0 i hi;rw [h3];omega)
         have T9:Hid (U2 w9 W.heap.size (W.heap.size+1) W.heap.size v' (WZ (f:Int) E I 0 (j+1))):=by rw [Qc.out,←hrs];exact hT'
         have N9:=Z8 (N8.out.ZL hB' hbW);have X9:=Z8 (X8.out.ZL hB' qt);have B9:=Z8 (B8.out.trans (hB'.mono hW));have z9:=hB'.size;clear hput hT' hB' hrs Qc ZN Jw x30;go_wp2
         go_roundw
         case rel=>exact ⟨j+1,v',by omega,by go_num,N9,X9,B9,T9,by show _≤_;have:=Z2.out;omega⟩
         case measure=>simp [intOf];omega
       obtain ⟨k,hk⟩:∃k,en=j*64+k:=⟨en - j*64,by omega⟩;have qP:(en:Int) - (j:Int)*64=(k:Int):=by omega
       have HK:=Z8 hk;clear hk;rw [qP] at hw1
       by_cases hB:k<64
       · have hBI:(k:Int)<64:=by omega
         have hB1:k≤64:=by omega
         have hB2:(k:Int)≤64:=by omega
         have hB3:¬64=k:=by omega
         have hB4:¬k=64:=by omega
         have XX:¬(64 - k=0):=by omega
         have XW:¬(64:Int)<(k:Int):=by omega
         obtain ⟨w8,hw8⟩:∃w8,w8=w7.setCells W'.heap.size k (List.replicate (64 - k) (.int .u8 0)):=⟨_,rfl⟩;have Jw:(Builtin.clear_ #[22] 0 #[.slice (some ⟨W'.heap.size,k,none⟩) (64 - k) (64 - k)]).run Tryz.prog w7=.ok (.tuple #[]) w8:=by rw [hw8];exact (vM w7 _ V VR.out T7.out Zz.out k _ hB).1
         have ZO:Hid (w8.rangeAt W'.heap.size 0 V8):=by
          have e9:V8=V.take k++List.replicate (64 - k) (.int .u8 0):=by
           rw [Z'.out,O.2,show min (en - j*64) 64=k by have:=HK.out;omega,HV.out,WX,←DP];unfold zeros;rw [xG]
          rw [e9,hw8];exact (vM w7 _ V VR.out T7.out Zz.out k 64 (by omega)).2
         have R:Hid (ZX W' w8):=by rw [hw8];exact below_setCells ZW _ _ _ B7.out
         clear hw8;have Ft:=Z8 (Ya HR.out (R.out.block b6 h6));have x30:=(HX.out.below R.out).cl 0 _ rfl;have N8:=Z8 (HN.out.below R.out);have X8:=Z8 (HX.out.below R.out);have T8:=Z8 (HT.out.below R.out);have B8:=Z8 (Ye HB.out R.out);have z8:=ZP Zr R.out.size
         by_cases heq:blk I j=blk E j
         · have ZN:∀w9:World,(Op.equalIn 10000 125 (.agg V8.toArray) (.agg V.toArray)).run Tryz.prog w9=.ok true w9:=fun w9=>by
            rw [Z'.out,HV.out,Ha w9 _ _ Z1.out O.1,YS heq]
           have Qc:Hid (WZ (f:Int) E I 0 (j+1)=WZ (f:Int) E I 0 j):=by show _=_;rw [WQ,ZY heq.symm,Sz]
           clear heq
           go_wp2_with (first | (refine Wb rfl 125 _ rfl W'.heap.size 0 rfl V8 _ ZO.out Tryz.underlying125 rfl (Yk _ Z0.out) ?_) | (refine Wb rfl 125 _ rfl b6 0 rfl V _ Ft.out Tryz.underlying125 rfl (Yk _ VR.out) ?_))
           go_roundw
           case rel=>exact ⟨j+1,v,by omega,by go_num,N8,X8,B8,by rw [Qc.out];exact T8,by show _≤_;have:=Z2.out;omega⟩
           case measure=>simp [intOf];omega
         have ZN:∀w9:World,(Op.equalIn 10000 125 (.agg V8.toArray) (.agg V.toArray)).run Tryz.prog w9=.ok false w9:=fun w9=>by
          rw [Z'.out,HV.out,Ha w9 _ _ Z1.out O.1,Zl heq]
         have Qc:Hid (WZ (f:Int) E I 0 (j+1)=WZ (f:Int) E I 0 j++[((f:Int)+(j:Int),blk I j)]):=by show _=_;rw [WQ,Z3 (fun e=>heq e.symm)]
         clear heq
         go_wp2_with (first | (refine Wb rfl 125 _ rfl W'.heap.size 0 rfl V8 _ ZO.out Tryz.underlying125 rfl (Yk _ Z0.out) ?_) | (refine Wb rfl 125 _ rfl b6 0 rfl V _ Ft.out Tryz.underlying125 rfl (Yk _ VR.out) ?_))
         have hpt:=QJ w8 W.heap.size _ _ v (WZ (f:Int) E I 0 j) ((f:Int)+(j:Int)) (blk I j) T8.out (by omega) (by omega) Z1.out (by have:=Ui (f:Int) E I j 0;omega) (by have:=Z2.out;omega);rw [←Z'.out] at hpt;refine hpt.mono ?_;clear hpt;rintro e w9 ⟨rfl,⟨v',rs',hput,hT'⟩,hB',-⟩;have hrs:=QC hput (fun i hi=>by
          obtain ⟨q,-,h2,h3⟩:=Pf (f:Int) E I j 0 i hi;rw [h3];omega)
         have T9:Hid (U2 w9 W.heap.size (W.heap.size+1) W.heap.size v' (WZ (f:Int) E I 0 (j+1))):=by rw [Qc.out,←hrs];exact hT'
         have N9:=Z8 (N8.out.ZL hB' hbW);have X9:=Z8 (X8.out.ZL hB' qt);have B9:=Z8 (B8.out.trans (hB'.mono hW));have z9:=hB'.size;clear hput hT' hB' hrs Qc ZN Jw x30;go_wp2
         go_roundw
         case rel=>exact ⟨j+1,v',by omega,by go_num,N9,X9,B9,T9,by show _≤_;have:=Z2.out;omega⟩
         case measure=>simp [intOf];omega
       by_cases hC:k=64
       · subst hC
         have qP:(en:Int) - (j:Int)*64=64:=qP;have hw1:IntKind.i64.wrap 64=64:=hw1;obtain ⟨w8,hw8⟩:∃w8,w8=w7:=⟨_,rfl⟩;have Jw:(Builtin.clear_ #[22] 0 #[.slice (some ⟨W'.heap.size,0,none⟩) 0 0]).run Tryz.prog w7=.ok (.tuple #[]) w8:=by rw [hw8];exact ql _ _
         have ZO:Hid (w8.rangeAt W'.heap.size 0 V8):=by
          have h8:V8=V:=by
           rw [Z'.out,O.2,show min (en - j*64) 64=64 by have:=HK.out;omega,We (by rw [O.1];omega),HV.out]
           simp [zeros]
          rw [h8,hw8];exact Zz.out
         have R:Hid (ZX W' w8):=by rw [hw8];exact B7.out
         clear hw8;have Ft:=Z8 (Ya HR.out (R.out.block b6 h6));have x30:=(HX.out.below R.out).cl 0 _ rfl;have N8:=Z8 (HN.out.below R.out);have X8:=Z8 (HX.out.below R.out);have T8:=Z8 (HT.out.below R.out);have B8:=Z8 (Ye HB.out R.out);have z8:=ZP Zr R.out.size
         by_cases heq:blk I j=blk E j
         · have ZN:∀w9:World,(Op.equalIn 10000 125 (.agg V8.toArray) (.agg V.toArray)).run Tryz.prog w9=.ok true w9:=fun w9=>by
            rw [Z'.out,HV.out,Ha w9 _ _ Z1.out O.1,YS heq]
           have Qc:Hid (WZ (f:Int) E I 0 (j+1)=WZ (f:Int) E I 0 j):=by show _=_;rw [WQ,ZY heq.symm,Sz]
           clear heq
           go_wp2_with (first | (refine Wb rfl 125 _ rfl W'.heap.size 0 rfl V8 _ ZO.out Tryz.underlying125 rfl (Yk _ Z0.out) ?_) | (refine Wb rfl 125 _ rfl b6 0 rfl V _ Ft.out Tryz.underlying125 rfl (Yk _ VR.out) ?_))
           go_roundw
           case rel=>exact ⟨j+1,v,by omega,by go_num,N8,X8,B8,by rw [Qc.out];exact T8,by show _≤_;have:=Z2.out;omega⟩
           case measure=>simp [intOf];omega
         have ZN:∀w9:World,(Op.equalIn 10000 125 (.agg V8.toArray) (.agg V.toArray)).run Tryz.prog w9=.ok false w9:=fun w9=>by
          rw [Z'.out,HV.out,Ha w9 _ _ Z1.out O.1,Zl heq]
         have Qc:Hid (WZ (f:Int) E I 0 (j+1)=WZ (f:Int) E I 0 j++[((f:Int)+(j:Int),blk I j)]):=by show _=_;rw [WQ,Z3 (fun e=>heq e.symm)]
         clear heq
         go_wp2_with (first | (refine Wb rfl 125 _ rfl W'.heap.size 0 rfl V8 _ ZO.out Tryz.underlying125 rfl (Yk _ Z0.out) ?_) | (refine Wb rfl 125 _ rfl b6 0 rfl V _ Ft.out Tryz.underlying125 rfl (Yk _ VR.out) ?_))
         have hpt:=QJ w8 W.heap.size _ _ v (WZ (f:Int) E I 0 j) ((f:Int)+(j:Int)) (blk I j) T8.out (by omega) (by omega) Z1.out (by have:=Ui (f:Int) E I j 0;omega) (by have:=Z2.out;omega);rw [←Z'.out] at hpt;refine hpt.mono ?_;clear hpt;rintro e w9 ⟨rfl,⟨v',rs',hput,hT'⟩,hB',-⟩;have hrs:=QC hput (fun i hi=>by
          obtain ⟨q,-,h2,h3⟩:=Pf (f:Int) E I j 0 i hi;rw [h3];omega)
         have T9:Hid (U2 w9 W.heap.size (W.heap.size+1) W.heap.size v' (WZ (f:Int) E I 0 (j+1))):=by rw [Qc.out,←hrs];exact hT'
         have N9:=Z8 (N8.out.ZL hB' hbW);have X9:=Z8 (X8.out.ZL hB' qt);have B9:=Z8 (B8.out.trans (hB'.mono hW));have z9:=hB'.size;clear hput hT' hB' hrs Qc ZN Jw x30;go_wp2
         go_roundw
         case rel=>exact ⟨j+1,v',by omega,by go_num,N9,X9,B9,T9,by show _≤_;have:=Z2.out;omega⟩
         case measure=>simp [intOf];omega
       have XT:(64:Int)<(k:Int):=by omega
       obtain ⟨w8,hw8⟩:∃w8,w8=w7:=⟨_,rfl⟩;have Jw:(Builtin.clear_ #[22] 0 #[.slice (some ⟨W'.heap.size,0,none⟩) 0 0]).run Tryz.prog w7=.ok (.tuple #[]) w8:=by rw [hw8];exact ql _ _
       have ZO:Hid (w8.rangeAt W'.heap.size 0 V8):=by
        have h8:V8=V:=by
         rw [Z'.out,O.2,show min (en - j*64) 64=64 by have:=HK.out;omega,We (by rw [O.1];omega),HV.out]
         simp [zeros]
        rw [h8,hw8];exact Zz.out
       have R:Hid (ZX W' w8):=by rw [hw8];exact B7.out
       clear hw8;have Ft:=Z8 (Ya HR.out (R.out.block b6 h6));have x30:=(HX.out.below R.out).cl 0 _ rfl;have N8:=Z8 (HN.out.below R.out);have X8:=Z8 (HX.out.below R.out);have T8:=Z8 (HT.out.below R.out);have B8:=Z8 (Ye HB.out R.out);have z8:=ZP Zr R.out.size
       by_cases heq:blk I j=blk E j
       · have ZN:∀w9:World,(Op.equalIn 10000 125 (.agg V8.toArray) (.agg V.toArray)).run Tryz.prog w9=.ok true w9:=fun w9=>by
          rw [Z'.out,HV.out,Ha w9 _ _ Z1.out O.1,YS heq]
         have Qc:Hid (WZ (f:Int) E I 0 (j+1)=WZ (f:Int) E I 0 j):=by show _=_;rw [WQ,ZY heq.symm,Sz]
         clear heq
         go_wp2_with (first | (refine Wb rfl 125 _ rfl W'.heap.size 0 rfl V8 _ ZO.out Tryz.underlying125 rfl (Yk _ Z0.out) ?_) | (refine Wb rfl 125 _ rfl b6 0 rfl V _ Ft.out Tryz.underlying125 rfl (Yk _ VR.out) ?_))
         go_roundw
         case rel=>exact ⟨j+1,v,by omega,by go_num,N8,X8,B8,by rw [Qc.out];exact T8,by show _≤_;have:=Z2.out;omega⟩
         case measure=>simp [intOf];omega
       have ZN:∀w9:World,(Op.equalIn 10000 125 (.agg V8.toArray) (.agg V.toArray)).run Tryz.prog w9=.ok false w9:=fun w9=>by
        rw [Z'.out,HV.out,Ha w9 _ _ Z1.out O.1,Zl heq]
       have Qc:Hid (WZ (f:Int) E I 0 (j+1)=WZ (f:Int) E I 0 j++[((f:Int)+(j:Int),blk I j)]):=by show _=_;rw [WQ,Z3 (fun e=>heq e.symm)]
       clear heq
       go_wp2_with (first | (refine Wb rfl 125 _ rfl W'.heap.size 0 rfl V8 _ ZO.out Tryz.underlying125 rfl (Yk _ Z0.out) ?_) | (refine Wb rfl 125 _ rfl b6 0 rfl V _ Ft.out Tryz.underlying125 rfl (Yk _ VR.out) ?_))
       have hpt:=QJ w8 W.heap.size _ _ v (WZ (f:Int) E I 0 j) ((f:Int)+(j:Int)) (blk I j) T8.out (by omega) (by omega) Z1.out (by have:=Ui (f:Int) E I j 0;omega) (by have:=Z2.out;omega);rw [←Z'.out] at hpt;refine hpt.mono ?_;clear hpt;rintro e w9 ⟨rfl,⟨v',rs',hput,hT'⟩,hB',-⟩;have hrs:=QC hput (fun i hi=>by
        obtain ⟨q,-,h2,h3⟩:=Pf (f:Int) E I j 0 i hi;rw [h3];omega)
       have T9:Hid (U2 w9 W.heap.size (W.heap.size+1) W.heap.size v' (WZ (f:Int) E I 0 (j+1))):=by rw [Qc.out,←hrs];exact hT'
       have N9:=Z8 (N8.out.ZL hB' hbW);have X9:=Z8 (X8.out.ZL hB' qt);have B9:=Z8 (B8.out.trans (hB'.mono hW));have z9:=hB'.size;clear hput hT' hB' hrs Qc ZN Jw x30;go_wp2
       go_roundw
       case rel=>exact ⟨j+1,v',by omega,by go_num,N9,X9,B9,T9,by show _≤_;have:=Z2.out;omega⟩
       case measure=>simp [intOf];omega
     have Zo:Hid (St wr.drew b (WY S (sn:Int) vd vp lim made vc cg c og o code vt zx cnt (en:Int))):=N2.out.below (below_drewN' wr 1);have Zn:Hid (St wr.drew b3 [.int .i64 (f:Int),.int .i64 (sn:Int)]):=X2.out.below (below_drewN' wr 1);have Y7:Hid (ZX w wr.drew):=B2.out.trans ((below_drewN' wr 1).mono B2.out.size);have Y6:Hid (U2 wr.drew W.heap.size (W.heap.size+1) W.heap.size v (WZ (f:Int) E I 0 j)):=T2.out.below (below_drewN' wr 1);have hwd:wr.drew.heap.size=wr.heap.size:=rfl;have hw3:IntKind.i64.wrap ((f:Int)+(j:Int))=(f:Int)+(j:Int):=by rw [Xf];omega
     refine ZF (S:=fun W9=>St W9 b (WY S (sn:Int) vd vp lim made vc cg c og o code vt zx cnt (en:Int))∧St W9 b3 [.int .i64 (f:Int),.int .i64 (sn:Int)]) (by kernel_rfl) ⟨Zo.out,Zn.out⟩ (fun Z9=>?_);refine ZV ?XS (by kernel_rfl) (fun _=>id) Z9 ?hz1 ?Ym
     case hz1 =>
      intro w9 Z4;have k6:=Z4.1.cl 6 _ rfl;have y0:=Z4.2.cl 0 _ rfl;clear Z4;go_simp
      try with_reducible rfl
     refine ZV ?XR (by kernel_rfl) (fun _=>id) Z9 ?hz2 ?Yl
     case hz2 =>
      intro w9 Z4;have k6:=Z4.1.cl 6 _ rfl;have y0:=Z4.2.cl 0 _ rfl;clear Z4;go_simp
      try with_reducible rfl
     refine ZV ?XO (by kernel_rfl) (fun _=>id) Z9 ?hz3 ?Yj
     case hz3 =>
      intro w9 Z4;have k6:=Z4.1.cl 6 _ rfl;have y0:=Z4.2.cl 0 _ rfl;clear Z4;go_simp
      try with_reducible rfl
     refine ZV vc (by kernel_rfl) (fun _=>id) Z9 ?wx ?Yi
     case wx =>
      intro w9 Z4;have k6:=Z4.1.cl 6 _ rfl;have y0:=Z4.2.cl 0 _ rfl;clear Z4;go_simp
     refine ZV ?XN (by kernel_rfl) (fun _=>id) Z9 ?Yt ?Yh
     case Yt =>
      intro w9 Z4;have k6:=Z4.1.cl 6 _ rfl;have y0:=Z4.2.cl 0 _ rfl;clear Z4;go_simp
      try with_reducible rfl
     refine ZV (.int .i64 (f:Int)) (by kernel_rfl) (fun _=>id) Z9 ?Ys ?Yf
     case Ys =>
      intro w9 Z4;have k6:=Z4.1.cl 6 _ rfl;have y0:=Z4.2.cl 0 _ rfl;clear Z4;go_simp
     refine ZV ?XM (by kernel_rfl) (fun _=>id) Z9 ?Yr ?Yd
     case Yr =>
      intro w9 Z4;have k6:=Z4.1.cl 6 _ rfl;have y0:=Z4.2.cl 0 _ rfl;clear Z4;go_simp
      try with_reducible rfl
     refine ZV (.int .i64 ((f:Int)+(j:Int))) (by kernel_rfl) (fun _=>id) Z9 ?Yq ?Yc
     case Yq =>
      intro w9 Z4;have k6:=Z4.1.cl 6 _ rfl;have y0:=Z4.2.cl 0 _ rfl;clear Z4;go_simp
     clear Z9;generalize wr.drew=wd at *;refine Wu 8 9 rfl rfl (by kernel_rfl) (fun K hK=>?_) (fun K hK=>?_)
     · go_simp
       refine (vZ.out wd j hlt2 Y7.out).mono ?_;rintro e w1 ⟨rfl,b1⟩;rw [←HV.out];have N3:=Zo.out.below b1;have X3:=Zn.out.below b1;refine hK.out _ _ ⟨N3,X3⟩ (fun ZI=>?_);clear hK K ZI;have B3:=Ye Y7.out b1;have T3:=Y6.out.below b1;have z3:=b1.size;refine ZS 9 rfl (by kernel_rfl) (fun K hK=>?_);go_simp;refine hK.out _ _ ⟨N3.below (ZR.alloc ZW _),X3.below (ZR.alloc ZW _)⟩ (fun ZI=>?_);clear hK K ZI;generalize ZJ:World.alloc _ _=w4;have b4:ZX w1 w4:=by subst ZJ;exact ZR.alloc ZW _
       have t4:w4.there w1.heap.size 0 64:=by subst ZJ;exact Xg _ _ _ _ rfl
       have s4:w1.heap.size<w4.heap.size:=by subst ZJ;simp
       clear ZJ;refine ZS 10 rfl (by kernel_rfl) (fun K hK=>?_);have hb5:ZX w1 (w4.setCells w1.heap.size 0 V):=below_setCells ZW _ _ _ b4;refine U4 rfl 125 _ _ rfl w1.heap.size 0 V.toArray rfl rfl ?t1 ?t2 (Sn ze.out) ?_
       case t1 =>
        have e:V.toArray.size=64:=by rw [WW];exact VR.out
        rw [e];exact t4
       case t2=>rw [WW];exact Yk _ VR.out
       refine hK.out _ _ ⟨N3.below hb5,X3.below hb5⟩ (fun ZI=>?_);clear hK K ZI
       try simp only [Act.put]
       refine ZM (by kernel_rfl) ?_ _
       try simp only [Act.put,Zk,Zj,Zi]
       exact Zt.out _ _ (N3.below hb5) (X3.below hb5) (Ye B3 hb5) (T3.below hb5) (Jh _ _ _ _ (by rw [VR.out];exact t4)) (by rw [Xs];exact s4) (by omega) (by rw [Xs];omega)
     go_simp;refine hK.out _ _ ⟨Zo.out.below (ZR.alloc ZW _),Zn.out.below (ZR.alloc ZW _)⟩ (fun ZI=>?_);clear hK K ZI;generalize ZJ:World.alloc _ _=w4;have b4:ZX wd w4:=by subst ZJ;exact ZR.alloc ZW _
     have t4:w4.there wr.heap.size 0 64:=by subst ZJ;rw [←hwd];exact Xg _ _ _ _ rfl
     have s4:wr.heap.size<w4.heap.size:=by subst ZJ;simp;omega
     clear ZJ;have B4:=Ye Y7.out b4;refine ZS 8 rfl (by kernel_rfl) (fun K hK=>?_);go_simp;refine (vZ.out w4 j hlt2 B4).mono ?_;rintro e w5 ⟨rfl,b5⟩;rw [←HV.out];have N5:=(Zo.out.below b4).below b5;have X5:=(Zn.out.below b4).below b5;have T5:=(Y6.out.below b4).below b5;have B5:=Ye B4 b5;have t5:=Cg t4 (b5.block _ s4);have z5:=b5.size;refine hK.out _ _ ⟨N5,X5⟩ (fun ZI=>?_);clear hK K ZI;refine ZS 10 rfl (by kernel_rfl) (fun K hK=>?_);have Yp:=X2.out.lt;have hbr:=N2.out.lt;have hb6:Below wr.heap.size w5 (w5.setCells wr.heap.size 0 V):=below_setCells ZW _ _ _ ZR;have N6:=N5.ZL hb6 hbr;have X6:=X5.ZL hb6 Yp;have Yo:=((b4.mono (Nat.le_of_eq hwd.symm)).trans (b5.mono (by omega))).trans hb6;have T6:=Y6.out.below (by show Below _ _ _;rw [hwd];exact Yo);refine U4 rfl 125 _ _ rfl wr.heap.size 0 V.toArray rfl rfl ?t1 ?t2 (Sn ze.out) ?_
     case t1 =>
      have e:V.toArray.size=64:=by rw [WW];exact VR.out
      rw [e];exact t5
     case t2=>rw [WW];exact Yk _ VR.out
     refine hK.out _ _ ⟨N6,X6⟩ (fun ZI=>?_);clear hK K ZI
     try simp only [Act.put]
     refine ZM (by kernel_rfl) ?_ _
     try simp only [Act.put,Zk,Zj,Zi]
     exact Zt.out _ _ N6 X6 (B5.trans (hb6.mono (by have:=B2.out.size;omega))) T6 (Jh _ _ _ _ (by rw [VR.out];exact t5)) (by rw [Xs];omega) ZW (by rw [Xs];omega)
   have YN:¬(j:Int)<(sn:Int):=by omega
   have hjn:j=sn:=by omega
   subst hjn;go_wp2;go_ret;exact ⟨_,_,_,rfl,T2.out.qk hW,B2.out⟩
 have Sd:Hid (St w.drew b (WY S (sn:Int) vd vp lim made vc cg c og o code vt zx cnt (en:Int))):=HS.out.ZL (below_drewN' w 1) hlt;have hwd:w.drew.heap.size=w.heap.size:=rfl;have Bd:Hid (ZX w w.drew):=below_drewN' w 1;refine ZF (S:=fun W=>St W b (WY S (sn:Int) vd vp lim made vc cg c og o code vt zx cnt (en:Int))) (by kernel_rfl) (Sd.out) (fun Z9=>?_)
 iterate 10 (refine ZV ?_ (by kernel_rfl) (fun _=>id) Z9 ?_ ?_;rotate_left;· intro w9 Z4;have k0:=Z4.cl 0 _ rfl;have k1:=Z4.cl 1 _ rfl;have k9:=Z4.cl 9 _ rfl;clear Z4;go_simp;try with_reducible rfl)
 clear Z9;generalize w.drew=wd at *;refine Wu 10 11 rfl rfl (by kernel_rfl) (fun K hK=>?_) (fun K hK=>?_)
 · skip
   go_simp;refine (Y9.out _).mono ?_;rintro e w1 ⟨rfl,b1⟩;have N1:=Sd.out.below b1;refine hK.out _ _ N1 (fun ZI=>?_);clear hK K ZI;refine ZS 11 rfl (by kernel_rfl) (fun K hK=>?_);have bA:ZX w1 (w1.alloc (.cells #[.int .i64 0,.int .i64 0] 151)):=ZR.alloc ZW _;have N2:=N1.below bA;have X2:St (w1.alloc (.cells #[.int .i64 0,.int .i64 0] 151)) w1.heap.size [.int .i64 0,.int .i64 0]:=St.new _ _ _;have B2:=(Bd.out.trans (b1.mono (by omega))).trans (bA.mono (by have:=b1.size;omega));have hbl:=N1.lt;have hbw:w.heap.size≤w1.heap.size:=by have:=b1.size;omega
   clear bA b1;go_simp;refine hK.out _ _ N2 (fun ZI=>?_);clear hK K ZI N1;generalize w1.alloc _=W2 at *;have p0:=X2.cl 0 _ rfl;have p1:=X2.cl 1 _ rfl;have vP:=X2.fz 0;have vO:=X2.fz 1;have N3:St ((W2.setCell ⟨w1.heap.size,0,none⟩ (.int .i64 (f:Int))).setCell ⟨w1.heap.size,1,none⟩ (.int .i64 (sn:Int))) b (WY S (sn:Int) vd vp lim made vc cg c og o code vt zx cnt (en:Int)):=(N2.other (by omega)).other (by omega);have X3:St ((W2.setCell ⟨w1.heap.size,0,none⟩ (.int .i64 (f:Int))).setCell ⟨w1.heap.size,1,none⟩ (.int .i64 (sn:Int))) w1.heap.size [.int .i64 (f:Int),.int .i64 (sn:Int)]:=(X2.set 0 _).set 1 _;have B3:ZX w ((W2.setCell ⟨w1.heap.size,0,none⟩ (.int .i64 (f:Int))).setCell ⟨w1.heap.size,1,none⟩ (.int .i64 (sn:Int))):=(B2.setCell (by show w.heap.size≤w1.heap.size;omega) _).setCell (by show w.heap.size≤w1.heap.size;omega) _;refine ZS 12 rfl (by kernel_rfl) (fun K hK=>?_);go_simp;refine hK.out _ _ N3 (fun ZI=>?_);clear hK K ZI N2 X2 B2 p0 p1 vP vO;refine ZM (by kernel_rfl) ?_ _
   try simp only [Act.put,Zk,Zj,Zi]
   generalize ((W2.setCell _ _).setCell _ _)=W3 at *;exact REST.out _ W3 N3 X3 B3 hbw
 skip
 have bA:ZX wd (wd.alloc (.cells #[.int .i64 0,.int .i64 0] 151)):=ZR.alloc ZW _;have N1:=Sd.out.below bA;have X1:St (wd.alloc (.cells #[.int .i64 0,.int .i64 0] 151)) w.heap.size [.int .i64 0,.int .i64 0]:=by
  have h9:=St.new wd #[.int .i64 0,.int .i64 0] 151;rw [hwd] at h9;exact h9
 have hbl:=hlt;have B1:=Bd.out.trans (bA.mono (by omega));clear bA;go_simp;refine hK.out _ _ N1 (fun ZI=>?_);clear hK K ZI;generalize wd.alloc _=w1 at *;refine ZS 10 rfl (by kernel_rfl) (fun K hK=>?_);go_simp;refine (Y9.out _).mono ?_;rintro e W2 ⟨rfl,b2⟩;have N2:=N1.below b2;have X2:=X1.below b2;have B2:=Ye B1 b2;have hbw:w.heap.size≤w.heap.size:=ZW;refine hK.out _ _ N2 (fun ZI=>?_);clear hK K ZI N1 X1 b2 B1;have p0:=X2.cl 0 _ rfl;have p1:=X2.cl 1 _ rfl;have vP:=X2.fz 0;have vO:=X2.fz 1;have N3:St ((W2.setCell ⟨w.heap.size,0,none⟩ (.int .i64 (f:Int))).setCell ⟨w.heap.size,1,none⟩ (.int .i64 (sn:Int))) b (WY S (sn:Int) vd vp lim made vc cg c og o code vt zx cnt (en:Int)):=(N2.other (by omega)).other (by omega);have X3:St ((W2.setCell ⟨w.heap.size,0,none⟩ (.int .i64 (f:Int))).setCell ⟨w.heap.size,1,none⟩ (.int .i64 (sn:Int))) w.heap.size [.int .i64 (f:Int),.int .i64 (sn:Int)]:=(X2.set 0 _).set 1 _;have B3:ZX w ((W2.setCell ⟨w.heap.size,0,none⟩ (.int .i64 (f:Int))).setCell ⟨w.heap.size,1,none⟩ (.int .i64 (sn:Int))):=(B2.setCell (by show w.heap.size≤w.heap.size;omega) _).setCell (by show w.heap.size≤w.heap.size;omega) _;refine ZS 12 rfl (by kernel_rfl) (fun K hK=>?_);go_simp;refine hK.out _ _ N3 (fun ZI=>?_);clear hK K ZI N2 X2 B2 p0 p1 vP vO;refine ZM (by kernel_rfl) ?_ _
 try simp only [Act.put,Zk,Zj,Zi]
 generalize ((W2.setCell _ _).setCell _ _)=W3 at *;exact REST.out _ W3 N3 X3 B3 hbw
attribute [local go_sem] Uf
def KC (M:Nat) (gd:Nat→Prop) (W W':World):Prop:=W.heap.size≤W'.heap.size∧∀q,q<M→¬gd q→W'.heap[q]?=W.heap[q]?
theorem KC.refl (M:Nat) (gd:Nat→Prop) (W:World):KC M gd W W:=⟨ZW,fun _ _ _=>rfl⟩
theorem KC.trans {gd:Nat→Prop} {C:World} (h:KC M gd A B) (k:KC M gd B C):KC M gd A C:=⟨ZP h.1 k.1,fun q hq hn=>(k.2 q hq hn).trans (h.2 q hq hn)⟩
theorem KC.alloc {gd:Nat→Prop} (h:KC M gd A B) (hM:M≤B.heap.size) (o:Obj):KC M gd A (B.alloc o):=⟨by have:=h.1;simp;omega,fun q hq hn=>(sj B o q (by omega)).trans (h.2 q hq hn)⟩
theorem yz (F:Fence) (n:Nat) (h97:F.fn 110) (hro:F.round=none) (hn:1≤n) (l Ba M:Nat) (gd:Nat→Prop) (lo tb mb dl:Nat) (v:Value) (rs:List (Int × List Int)) (hf:∀r ∈ rs,Fits dl r) (J Jx:List (J5 dl)→World→Prop)
    (hY:∀pre x W,J pre W→pre.length<rs.length→YieldAt F (n - 1) Tryz.prog l (encR x) W fun e W' =>
     (e=.returned (.bool true)∧J (pre++[x]) W'∧KC M gd W W')∨(e=.returned (.bool false)∧Jx (pre++[x]) W'))
    (W:World) (hJ:AbidesFrom W.heap.size J) (hM:M≤W.heap.size) (hvb:∀q,v.ownBlock=some q→q<M∧¬gd q) (hc:W.cell? ⟨Ba,0,none⟩=some (.pointer (some ⟨tb,0,none⟩))) (hT:U2 W lo tb mb v rs) (hlen:rs.length≤9223372036854775807) (h0:J [] W) :
    CallsIn F n Tryz.prog 110 #[.func (.yield l) #[] #[],.pointer (some ⟨Ba,0,none⟩)] W fun e W'=>(∃v,e=.returned v) ∧
     ((∃ys,ys=Xy rs hf∧J ys W')∨(∃pre,(∃k,k<rs.length∧pre=(Xy rs hf).take (k+1))∧Jx pre W')):=by
 obtain ⟨va,Ul,rfl⟩:∃a c,v=.slice a rs.length c:=by
  rcases hT.rows.2 with ⟨rfl,h1⟩ | ⟨g,cap,cur,rfl,-⟩
  · exact ⟨none,0,by rw [h1]⟩
  exact ⟨_,_,rfl⟩
 have HT:=Z8 hT;obtain ⟨⟨zt,c0,c1⟩,-⟩:=hT.box;have HY:Hid (∀pre x W,J pre W→pre.length<rs.length→YieldAt F (n - 1) Tryz.prog l (encR x) W fun e W' =>
     (e=.returned (.bool true)∧J (pre++[x]) W'∧KC M gd W W')∨(e=.returned (.bool false)∧Jx (pre++[x]) W')):=hY
 have HJ:=Z8 hJ;have H0:=Z8 h0;clear hT hY hJ h0;refine Rf Tryz.func110 rfl h97 ?_ hro
 simp only [Tryz.ntmps110,WW,XQ,Wv,Nat.reduceAdd,Nat.reduceSub,DV,DU,Qv,Qz,TJ,Qy]
 gi_wp2;clear c0 c1 hc
 gi_loopw [10] (fun i wr=>∃k:Nat,k≤rs.length∧i=.int .i64 k∧Hid (J ((Xy rs hf).take k) wr)∧Hid (KC M gd W wr)) (fun i _=>rs.length - (intOf i).toNat)
 case atStart=>exact ⟨0,ZQ _,rfl,(by rw [Rl];exact H0.out),KC.refl _ _ _⟩
 case round =>
  obtain ⟨k,hk,rfl,qM,HG⟩:=hrel;have qL:(Xy rs hf).length=rs.length:=by unfold Xy;simp
  have tg:=Z8 qL;have sg:=HG.out.1;clear qL
  by_cases hlt:k<rs.length
  · obtain ⟨g,cap,e,hg1,hg2,hc1,hc2⟩:=HT.out.form (by omega)
    simp only [Zc,true_and] at e
    obtain ⟨rfl,rfl⟩:=e;obtain ⟨pm,hgd⟩:=hvb g rfl;obtain ⟨key,hkey⟩:∃key,key=pB rs k:=⟨_,rfl⟩;obtain ⟨V,hV⟩:∃V,V=(pD rs k).map (Value.int .u8):=⟨_,rfl⟩;obtain ⟨x,hx⟩:∃x,(Xy rs hf)[k]?=some x:=⟨_,VM (by rw [tg.out];exact hlt)⟩;have hx1:x.1=(pB rs k,pD rs k):=by
     have h1:((Xy rs hf).map (·.1))[k]?=some x.1:=by rw [uv,hx];rfl
     rw [Vc,VM hlt] at h1
     injection h1 with h1
     rw [←h1];unfold pB pD;simp [List.getD,hlt]
    have rW:Hid ((Xy rs hf).take (k+1)=(Xy rs hf).take k++[x]):=by show _=_;rw [uj,hx];rfl
    have henc:encR x=#[.int .i64 key,.agg V.toArray]:=by unfold encR;rw [hx1,hkey,hV]
    have VR:Hid (V.length=64):=by rw [hV];show _=_;rw [Vi];exact HT.out.full k hlt
    have ze:Hid (∀v ∈ V,v.oneCell'=true):=by rw [hV];exact Wc _ _
    have RW:Hid (wr.rangeAt g (k*65) (Value.int .i64 key :: V)):=by
     intro j u hu;rw [hkey,hV] at hu;have hj:j<65:=by have:=(List.getElem?_eq_some_iff.1 hu).1;simpa [HT.out.full k hlt] using this
     rw [YI (w:=W) (a:=⟨g,k*65+j,none⟩) (HG.out.2 g pm hgd),U0 HT.out.rows (k*65+j) (by omega)];exact Ic rs k hlt HT.out.full j u hu
    have BC:Hid ((Value.int .i64 key :: V).length=65):=by show _=_;rw [XQ,VR.out]
    have tf:Hid (∀u ∈ (Value.int .i64 key :: V),u.oneCell'=true):=by
     intro u hu
     rcases MZ.1 hu with rfl | hu
     · rfl
     exact ze.out u hu
    have JA:J ((Xy rs hf).take k) (wr.alloc (.cells (Value.int .i64 key :: V).toArray 159)):=HJ.out _ wr _ none qM.out (Ri _ _ _) (fun r e=>by cases e);have AW:=HY.out _ x _ JA (by rw [YC,tg.out];omega);rw [henc] at AW;have R2:Hid ((wr.alloc (.cells (Value.int .i64 key :: V).toArray 159)).rangeAt wr.heap.size 1 V):=by
     intro j u hu;rw [Re _ _ (1+j) _ _ _ (WJ wr _)];rw [show 1+j=j+1 by omega]
     simpa using hu
    have YN:(k:Int)<(rs.length:Int):=by omega
    unfold maxLen at hc2;obtain ⟨fn,tmps,assign,body,hy,hR⟩:=AW;clear hkey hV hx hx1 henc JA
    gi_wp2_with (first | (refine YF rfl 159 _ rfl g (k*65) rfl (Value.int .i64 key :: V) _ (Ma RW.out _) Tryz.underlying159 rfl (Lx _ BC.out) ?_) | (refine YF rfl 159 _ rfl g (k*65) rfl (Value.int .i64 key :: V) _ RW.out Tryz.underlying159 rfl (Lx _ BC.out) ?_) | (refine VA rfl 159 _ _ rfl (Value.int .i64 key :: V).toArray rfl rfl ?s1 ?s2 ?s3 ?_) | (refine YF rfl 125 _ rfl wr.heap.size 1 rfl V _ R2.out Tryz.underlying125 rfl (Yk _ VR.out) ?_))
    case s1=>rw [WW,BC.out];rfl
    case s2=>rw [WW];exact Lx _ BC.out
    case s3=>exact Sn tf.out
    refine hR.mono ?_;rintro e W3 (⟨rfl,hJ3,hk3⟩ | ⟨rfl,hJx3⟩)
    · have pj:Hid (J ((Xy rs hf).take (k+1)) W3):=by show J _ _;rw [rW.out];exact hJ3
      have pi:=Z8 ((HG.out.alloc (by omega) _).trans hk3);clear hJ3 hk3 hy hR;gi_wp2
      go_roundw
      case rel=>exact ⟨k+1,by omega,by go_num,pj,pi⟩
      case measure=>simp [intOf];omega
    gi_wp2;refine ZT (TG rfl _ _ _) rfl ?_;exact ⟨⟨_,rfl⟩,.inr ⟨_,⟨k,hlt,rW.out.symm⟩,hJx3⟩⟩
  have hkn:k=rs.length:=by omega
  subst hkn;gi_wp2
  go_end0
  exact ⟨⟨_,rfl⟩,.inl ⟨_,rfl,by have:=qM.out;rw [We (by rw [tg.out];exact ZW)] at this;exact this⟩⟩
theorem Fi (F:Fence) (n:Nat) (h97:F.fn 110) (hro:F.round=none) (hn:1≤n) (Ba M:Nat) (gd:Nat→Prop) (lo tb mb dl:Nat) (v:Value) (rs:List (Int × List Int)) (hf:∀r ∈ rs,Fits dl r)
    (w:World) (hM:M≤w.heap.size) (hBa:Ba<w.heap.size) (hvb:∀q,v.ownBlock=some q→q<M∧¬gd q) (hc:w.cell? ⟨Ba,0,none⟩=some (.pointer (some ⟨tb,0,none⟩))) (hT:U2 w lo tb mb v rs) (hlen:rs.length≤9223372036854775807) :
    SeqStopsK F n Tryz.prog 110 #[.pointer (some ⟨Ba,0,none⟩)] (encR (dl:=dl)) (KC M gd) (fun ys=>ys=Xy rs hf) (fun pre=>∃k,k<rs.length∧pre=(Xy rs hf).take (k+1)) rs.length w:=fun l J Jx W hW hJ _ hY h0 =>
 yz F n h97 hro hn l Ba M gd lo tb mb dl v rs hf J Jx hY W hJ (ZP hM hW.size) hvb ((hW.cell (p:=⟨Ba,0,none⟩) hBa).trans hc) (hT.below hW) hlen h0
def PD:Nat→Nat→List UInt8→List UInt8
 | 0,_,acc=>acc
 | f+1,k,acc=>if k=0 then acc else PD f (k / 10) (UInt8.ofNat (48+k % 10) :: acc)
theorem No:∀(f g k:Nat) (acc:List UInt8),k≤f→k≤g→PD f k acc=PD g k acc
 | 0,g,k,acc,h1,h2=>by
  obtain rfl:k=0:=by omega
  cases g <;> simp [PD]
 | f+1,0,k,acc,h1,h2=>by
  obtain rfl:k=0:=by omega
  simp [PD]
 | f+1,g+1,k,acc,h1,h2=>by
  unfold PD
  by_cases h:k=0
  · rw [ZY h,ZY h]
  rw [Z3 h,Z3 h];exact No f g (k / 10) _ (by omega) (by omega)
def Mr (k:Nat) (acc:List UInt8):List UInt8:=PD k k acc
theorem Cf (acc:List UInt8):Mr 0 acc=acc:=rfl
theorem yy {k:Nat} (h:0<k) (acc:List UInt8):Mr k acc=Mr (k / 10) (UInt8.ofNat (48+k % 10) :: acc):=by
 unfold Mr;obtain ⟨j,rfl⟩:∃j,k=j+1:=⟨k - 1,by omega⟩
 conv=>lhs;unfold PD
 rw [Z3 (by omega)];exact No _ _ _ _ (by omega) ZW
def Ju (k:Nat):ByteArray:=if k=0 then ⟨#[109,48]⟩ else ⟨(109 :: Mr k []).toArray⟩
theorem yx (a b:List UInt8):(⟨a.toArray⟩++⟨b.toArray⟩:ByteArray)=⟨(a++b).toArray⟩:=by
 apply ByteArray.ext
 simp [ByteArray.data_append]
theorem Ve (w:World) (k:Nat) (h:k≤1099511627776) :
    Calls Tryz.prog 114 #[.int .i64 k] w (Ze w (.string (Ju k))):=by
 go_enter Tryz.func114,Tryz.ntmps114
 by_cases h0:k=0
 · subst h0
   go_wp2;go_ret;exact ⟨rfl,ZR⟩
 have hI:¬(k:Int)≤0:=by omega
 go_wp2
 go_loopw [0,3] (fun vk vo wr=>∃(j d:Nat) (acc:List UInt8),vk=.int .i64 j∧vo=.string ⟨acc.toArray⟩∧j<10 ^ d∧acc.length+d≤13∧j≤1099511627776∧Hid (Mr j acc=Mr k [])∧Hid (ZX w wr)) (fun i _ _=>(intOf i).toNat)
 case atStart=>exact ⟨k,13,[],rfl,rfl,by omega,by simp,h,rfl,ZR⟩
 case round =>
  obtain ⟨j,d,acc,rfl,rfl,hjd,had,hj,HD,HB⟩:=hrel
  by_cases hp:0<j
  · have sh:(0:Int)<(j:Int):=by omega
    obtain ⟨u,hu⟩:∃u,u=UInt8.ofNat (48+j % 10):=⟨_,rfl⟩;have HD2:Hid (Mr (j / 10) (u :: acc)=Mr k []):=by show _=_;rw [hu,←yy hp];exact HD.out
    have hcv:(convert 22 9 (.slice (some ⟨wr.heap.size,0,none⟩) 1 1)).run Tryz.prog (wr.alloc (.cells #[.int .u8 (48+(j:Int) % 10)] 5))=.ok (.string ⟨[u].toArray⟩) (wr.alloc (.cells #[.int .u8 (48+(j:Int) % 10)] 5)):=by
     have O1:Own .u8 5 (wr.alloc (.cells #[.int .u8 (48+(j:Int) % 10)] 5)) wr.heap.size (.slice (some ⟨wr.heap.size,0,none⟩) 1 1) [48+(j:Int) % 10]:=Xb wr #[.int .u8 (48+(j:Int) % 10)] 1 ZW (by unfold maxLen;omega) rfl;have:=Vu O1.rd;rw [this];have e:(48+(j:Int) % 10).toNat=48+j % 10:=by omega
     rw [hu]
     simp only [strOfNums,Pc,DQ,e]
    clear hu;obtain ⟨d',rfl⟩:∃d',d=d'+1:=by
     cases d with
     | zero=>simp at hjd;omega
     | succ d'=>exact ⟨d',rfl⟩
    rw [Rj] at hjd;have HJ:Hid (j / 10<10 ^ d'):=by show _<_;omega
    clear hjd;go_wp2;refine ⟨⟨j / 10,d',u :: acc,by rw [show ((j / 10:Nat):Int)=(j:Int) / 10 by omega],Wd Value.string (yx [u] acc),HJ.out,by simp;omega,by omega,HD2,HB.out.alloc HB.out.size _⟩,?_⟩
    simp [intOf]
    omega
  have hj0:j=0:=by omega
  subst hj0;clear hI;go_wp2;go_ret;refine ⟨?_,HB.out⟩;have e:=HD.out;rw [Cf] at e;rw [e,Ju,Z3 h0];exact Wd (fun x=>Ending.returned (.string x)) (yx [109] (Mr k []))
theorem vL {g cap:Nat} (h:w.ownsRow lo e z (.slice (some ⟨g,0,none⟩) n cap) n us) (i:Nat) (hi:i<n*z):∃u,w.cell? ⟨g,i,none⟩=some u∧w.frozen? ⟨g,i,none⟩=false:=by
 have hl:i<us.length:=by rw [h.1];exact hi
 have h1:=Va h (g:=g) rfl i us[i] (VM hl);rw [GM,Wn] at h1;exact ⟨_,h1,Rh h i⟩
theorem yw (ho:w.ownsRow lo e z v n us) (hb:ZX w w'):w'.ownsRow lo e z v n us:=by
 refine ⟨ho.1,?_⟩
 rcases ho.2 with hn | ⟨g,cap,cur,rfl,hbg,hgg,rest⟩
 · exact .inl hn
 exact .inr ⟨g,cap,cur,rfl,hbg,by rw [hb.block g (Array.getElem?_eq_some_iff.1 hgg).1];exact hgg,rest⟩
theorem Sb (w:World) (ao:Option Addr) (cap k:Nat):Calls Tryz.prog 82 #[.slice ao 0 cap,.int .i64 k] w fun e w'=>e=.returned (.int .i64 k)∧w'=w:=by
 go_enter Tryz.func82,Tryz.ntmps82
 go_wp2
 go_rounds 1
 go_ret;exact ⟨rfl,rfl⟩
def sH (K:Nat):Nd:=⟨Ju K,Ju (K+1),(K:Int)+1+1,(K:Int)+1+1+1,(K:Int)+1+1+1+1,(K:Int)+1+1+1+1+1,(K:Int)+1+1+1+1+1+1⟩
def UU (k n:Nat):List Nd:=(List.range n).map fun j=>sH (k+7*j)
theorem VT (k n:Nat):(UU k n).length=n:=by simp [UU]
theorem vK (k n j:Nat) (h:j<n):Zy (UU k n) j=sH (k+7*j):=by unfold Zy UU;simp [List.getD,h]
def Uz (k:Nat) (ns:List Nd) (j:Nat):List Nd:=UU k j++ns.drop j
theorem Ce (k:Nat) (ns:List Nd) (j:Nat) (h:j≤ns.length):(Uz k ns j).length=ns.length:=by unfold Uz;rw [YE,VT,Zv];omega
theorem Cd (k:Nat) (ns:List Nd) (j:Nat) (h:j<ns.length):(Uz k ns j).set j (sH (k+7*j))=Uz k ns (j+1):=by
 unfold Uz;rw [rK _ _ (by rw [VT];exact ZW),VT,Jm,GE h,List.set_cons_zero];unfold UU;rw [xF,WX,R9]
 rfl
theorem Cc (k:Nat) (ns:List Nd):Uz k ns ns.length=UU k ns.length:=by unfold Uz;simp
theorem Mq (w:World) (b o n cap k:Nat) (hb:b<w.heap.size) (hc:∀i,i<n→WV w b (o+i*7) (Zy (UU k n) i)) (hk:k≤1048576) (hn:n≤1048576) :
    Calls Tryz.prog 83 #[.slice (some ⟨b,o,none⟩) n cap,.int .i64 k] w (Ze w (.int .i64 ((k+7*n:Nat):Int))):=by
 have HC:Hid (∀i,i<n→WV w b (o+i*7) (sH (k+7*i))):=fun i hi=>by have:=hc i hi;rw [vK k n i hi] at this;exact this
 clear hc
 go_enter Tryz.func83,Tryz.ntmps83
 go_wp2
 go_loopw [1,5] (fun vk vi wr=>∃j K:Nat,j≤n∧K=k+7*j∧vi=.int .i64 j∧vk=.int .i64 K∧Hid (ZX w wr)) (fun _ i _=>n - (intOf i).toNat)
 case atStart=>exact ⟨0,k,ZQ _,by omega,rfl,rfl,ZR⟩
 case round =>
  obtain ⟨j,K,hj,hK,rfl,rfl,HB⟩:=hrel;have rU:=Z8 hK
  by_cases hlt:j<n
  · have YN:(j:Int)<(n:Int):=by omega
    have hK2:K≤10000000:=by omega
    have ZH:Hid (WV w b (o+j*7) (sH K)):=by have:=HC.out j hlt;rw [←hK] at this;exact this
    have hm0:Hid (∀W,Calls Tryz.prog 114 #[.int .i64 (K:Int)] W (Ze W (.string (Ju K)))):=fun W=>Ve W K (by omega)
    have hm1:Hid (∀W,Calls Tryz.prog 114 #[.int .i64 ((K:Int)+1)] W (Ze W (.string (Ju (K+1))))):=by
     intro W;have hm:=Ve W (K+1) (by omega);rw [show ((K+1:Nat):Int)=(K:Int)+1 by omega] at hm;exact hm
    have Qr:((Ju K).toList == (Ju K).toList)=true:=by simp
    have X':((Ju (K+1)).toList == (Ju (K+1)).toList)=true:=by simp
    clear hK;go_wp2;refine ZF (S:=fun W=>Hid (ZX w W)∧W.cell? ⟨b,o+j*7,none⟩=some (.string (Ju K))) (by kernel_rfl) (⟨HB.out.trans ((below_drewN' _ 1).mono HB.out.size),((ZH.out.below HB.out hb).below (below_drewN' _ 1) (ZB hb HB.out.size)).c0⟩) (fun Z9=>?_)
    iterate 6 (refine ZV ?_ (by kernel_rfl) (fun _=>id) Z9 ?_ ?_;rotate_left;· intro w9 Z4;obtain ⟨-,y0⟩:=Z4;go_simp;try with_reducible rfl)
    refine ZS 6 rfl (by kernel_rfl) (fun KK hK=>?_);go_simp;refine (hm0.out _).mono ?_;rintro e w4 ⟨rfl,b4⟩;have Ng:=Z8 ((HB.out.trans ((below_drewN' _ 1).mono HB.out.size)).trans (b4.mono HB.out.size));clear b4;refine hK.out _ _ ((show Hid (ZX w w4)∧w4.cell? ⟨b,o+j*7,none⟩=some (.string (Ju K)) from ⟨Ng,(ZH.out.below Ng.out hb).c0⟩)) (fun ZI=>?_);clear hK KK Z9 ZI;have Z9:=(show Hid (ZX w w4)∧w4.cell? ⟨b,o+j*7,none⟩=some (.string (Ju K)) from ⟨Ng,(ZH.out.below Ng.out hb).c0⟩);refine ZV ?_ (by kernel_rfl) (fun _=>id) Z9 ?_ ?_
    rotate_left
    · intro w9 Z4;go_simp;try with_reducible rfl
    refine ZM (by kernel_rfl) ?_ _
    try simp only [Act.put,Zk,Zj,Zi]
    clear Z9;go_wp2;refine ZF (S:=fun W=>Hid (ZX w W)∧W.cell? ⟨b,o+j*7+1,none⟩=some (.string (Ju (K+1)))) (by kernel_rfl) (⟨Ng.out.trans ((below_drewN' _ 1).mono Ng.out.size),((ZH.out.below Ng.out hb).below (below_drewN' _ 1) (ZB hb Ng.out.size)).c1⟩) (fun Z9=>?_)
    iterate 6 (refine ZV ?_ (by kernel_rfl) (fun _=>id) Z9 ?_ ?_;rotate_left;· intro w9 Z4;obtain ⟨-,y0⟩:=Z4;go_simp;try with_reducible rfl)
    refine ZS 6 rfl (by kernel_rfl) (fun KK hK=>?_);go_simp;refine (hm1.out _).mono ?_;rintro e w5 ⟨rfl,b5⟩;have uK:=Z8 ((Ng.out.trans ((below_drewN' _ 1).mono Ng.out.size)).trans (b5.mono Ng.out.size));clear b5;refine hK.out _ _ ((show Hid (ZX w w5)∧w5.cell? ⟨b,o+j*7+1,none⟩=some (.string (Ju (K+1))) from ⟨uK,(ZH.out.below uK.out hb).c1⟩)) (fun ZI=>?_);clear hK KK Z9 ZI;have Z9:=(show Hid (ZX w w5)∧w5.cell? ⟨b,o+j*7+1,none⟩=some (.string (Ju (K+1))) from ⟨uK,(ZH.out.below uK.out hb).c1⟩);refine ZV ?_ (by kernel_rfl) (fun _=>id) Z9 ?_ ?_
    rotate_left
    · intro w9 Z4;go_simp;try with_reducible rfl
    refine ZM (by kernel_rfl) ?_ _
    try simp only [Act.put,Zk,Zj,Zi]
    clear Z9;obtain ⟨-,-,y2,y3,y4,y5,y6⟩:=ZH.out.below uK.out hb;unfold sH at y2 y3 y4 y5 y6
    simp only at y2 y3 y4 y5 y6
    go_wp2;exact ⟨⟨j+1,K+7,by omega,by have:=rU.out;omega,by go_num,by go_num,uK⟩,by simp [intOf];omega⟩
  have hjn:j=n:=by omega
  subst hjn;subst hK;go_wp2;go_ret;exact ⟨rfl,HB.out⟩
theorem Mp (w:World) (ao:Option Addr) (cap k:Nat):Calls Tryz.prog 83 #[.slice ao 0 cap,.int .i64 k] w fun e w'=>e=.returned (.int .i64 k)∧w'=w:=by
 go_enter Tryz.func83,Tryz.ntmps83
 go_wp2
 go_rounds 1
 go_ret;exact ⟨rfl,rfl⟩
theorem Mo (w:World) (v:Value) (k n:Nat) (h:VL w v (UU k n)) (hk:k≤1048576) (hn:n≤1048576) :
    Calls Tryz.prog 83 #[v,.int .i64 k] w (Ze w (.int .i64 ((k+7*n:Nat):Int))):=by
 obtain ⟨ao,cap,rfl,h1,h2,h3⟩:=h;rw [VT] at h1 h3 ⊢
 rcases h3 with h3 | ⟨b,o,rfl,hb,hc⟩
 · have:n=0:=by have:=Wd List.length h3;rw [VT] at this;exact this
   subst this;refine (Mp w ao cap k).mono ?_;rintro e w' ⟨rfl,rfl⟩;exact ⟨rfl,ZR⟩
 exact Mq w b o n cap k hb hc hk hn
theorem JK (w:World) (k n:Nat) (v:Value) (h:VL w v (UU k n)) (hk:k≤1048576) (hn:n≤1048576) :
    Calls Tryz.prog 45 #[.agg #[v],.int .i64 k] w (Ze w (.int .i64 ((k+7*n:Nat):Int))):=by
 have B0:Hid (ZX w (w.alloc (.cells #[v] 33))):=ZR.alloc ZW _;have H:=Z8 (h.below B0.out);clear h
 go_enter Tryz.func45,Tryz.ntmps45
 go_wp2_with fail
 refine (Mo _ _ k n H.out hk hn).mono ?_;rintro e w1 ⟨rfl,b1⟩;have B1:=Z8 (B0.out.trans (b1.mono (by simp)));have hI:¬((k+7*n:Nat):Int)<0:=by omega
 clear b1;go_wp2;go_ret;exact ⟨rfl,B1.out⟩
end Go.Proofs.YtmmmffcbfepghaaGreatDoor
