import Derived.Test.YtmmmffcbfepghaaGreatDoorJ12S
set_option maxRecDepth 100000
set_option maxHeartbeats 16000000
set_option linter.unusedVariables false
set_option linter.unusedSimpArgs false
namespace Go.Proofs.YtmmmffcbfepghaaGreatDoor
open Go.RowKit Go.Shelf
variable {S:Int} {ps:List (Int × List Int)} {Z7 xs ys:List Int} {L us:List Value} {B b base c hi j k lo n:Nat} {o o':Option Nat} {e:TypeId} {u v vd vk x:Value} {W W' w w':World}
theorem C7 {t:TypeId} {C:List Int} (hb:base≤w.heap.size) (hC:C.length=64):Own .u8 t (w.alloc (.cells (C.map (Value.int .u8)).toArray t)) base (.slice (some ⟨w.heap.size,0,none⟩) 64 64) C:=by
 have:=Xb (size:=1) (e:=t) w (C.map (Value.int .u8)).toArray 64 hb (by unfold maxLen;omega) (by simp [hC]);unfold Own;rw [hC]
 simpa using this
theorem JU (w:World) (pb off lo hi0:Nat) (vd vp:Value) (Z7:List Int) (ps:List (Int × List Int)) (dv:Nat→Value) (x:Int) (C:List Int) (hD:Zz w lo hi0 vd vp Z7 ps dv) (hhi:hi0≤w.heap.size) (hlo:lo≤w.heap.size) (hc:w.cell? ⟨pb,off+1,none⟩=some vp) (hf:w.frozen? ⟨pb,off+1,none⟩=false) (hpb:pb<w.heap.size) (hne:vp.ownBlock≠some pb) (hC:C.length=64) (hn:ps.length≤1000000) :
    Calls Tryz.prog 112 #[.pointer (some ⟨pb,off,none⟩),.int .i64 x,.agg (C.map (Value.int .u8)).toArray] w fun e w'=>e=.returned (.tuple #[])∧∃w5 g cap v,Zz w5 lo w5.heap.size vd (.slice (some ⟨g,0,none⟩) (ps.length+1) cap) Z7 (ps++[(x,C)]) (Zb dv ps.length v)∧w.grownBy w5 vp.ownBlock∧(vp.ownBlock=some g∨w.heap.size≤g)∧v.ownBlock=some w.heap.size∧w'=w5.setCell ⟨pb,off+1,none⟩ (.slice (some ⟨g,0,none⟩) (ps.length+1) cap):=by
 obtain ⟨i0,hi,hz0,hz1,hz2⟩:=YH Tryz.LD;obtain ⟨vk,ck,rfl⟩:=hD.p.slice;have Fz:Hid (∀v ∈ (C.map (Value.int .u8)),v.oneCell'=true):=Wc _ _;have OC:Hid (Own .u8 125 (w.alloc (.cells (C.map (Value.int .u8)).toArray 125)) w.heap.size (.slice (some ⟨w.heap.size,0,none⟩) 64 64) C):=C7 ZW hC;have bA:Below w.heap.size w (w.alloc (.cells (C.map (Value.int .u8)).toArray 125)):=ZR.alloc ZW _;obtain ⟨X,hX⟩:∃X,X=C.map (Value.int .u8):=⟨_,rfl⟩;rw [←hX] at OC bA Fz ⊢;have HX:Hid (X.length=64):=by subst hX;show _=_;simpa using hC
 have C6:=Z8 bA;have HD:=Z8 hD;have yh:Hid (w.cell? ⟨pb,off+1,none⟩=some (.slice vk ps.length ck)∧w.frozen? ⟨pb,off+1,none⟩=false):=⟨hc,hf⟩;obtain ⟨n0,hn0⟩:∃n,n=ps.length:=⟨_,rfl⟩;have rS:=Z8 hn0.symm;have rT:n0≤1000000:=by omega
 rw [←hn0] at yh hne ⊢;have Y7:Hid (Zz w lo hi0 vd (.slice vk n0 ck) Z7 ps dv):=by rw [hn0];exact HD.out
 clear hD hX bA hc hf HD hn0 hn
 go_enter Tryz.func112,Tryz.ntmps112
 go_wp2_with fail
 generalize hW0:w.alloc _=w0 at *;have hs0:w0.heap.size=w.heap.size+1:=by rw [←hW0];simp
 clear hW0;have bP:Below w.heap.size w w0.drew:=C6.out.trans ((below_drewN' w0 1).mono C6.out.size);have hS0:w0.drew.cell? ⟨pb,off+1,none⟩=some (.slice vk n0 ck)∧w0.drew.frozen? ⟨pb,off+1,none⟩=false:=⟨(bP.cell (p:=⟨pb,off+1,none⟩) hpb).trans yh.out.1,(bP.frozen (p:=⟨pb,off+1,none⟩) hpb).trans yh.out.2⟩;refine ZF (S:=fun _=>True) (by kernel_rfl) trivial (fun Z9=>?_);have vq:=Z8 hS0;clear hS0;have OP:Hid (Own .u8 125 w0.drew w.heap.size (.slice (some ⟨w.heap.size,0,none⟩) 64 64) C):=OC.out;have hsp:w0.drew.heap.size=w.heap.size+1:=hs0;have A:=Z8 bP;have P:=Z8 hsp;clear bP OC C6 hs0 hsp;generalize w0.drew=wp at *;generalize O:w.heap.size=BX at *;have bW:∀ob,Below wp.heap.size wp (wp.alloc ob):=fun ob=>ZR.alloc ZW _
 have Dw:Hid ((wp.alloc (.cells #[.int .i64 x,.slice (some ⟨BX,0,none⟩) 64 64] 91)).cell? ⟨pb,off+1,none⟩=some (.slice vk n0 ck)∧(wp.alloc (.cells #[.int .i64 x,.slice (some ⟨BX,0,none⟩) 64 64] 91)).frozen? ⟨pb,off+1,none⟩=false) :=
  ⟨((bW _).cell (p:=⟨pb,off+1,none⟩) (show pb<wp.heap.size by have:=P.out;omega)).trans ((A.out.cell (p:=⟨pb,off+1,none⟩) (by show pb<_;omega)).trans yh.out.1),((bW _).frozen (p:=⟨pb,off+1,none⟩) (show pb<wp.heap.size by have:=P.out;omega)).trans ((A.out.frozen (p:=⟨pb,off+1,none⟩) (by show pb<_;omega)).trans yh.out.2)⟩
 have qF:Hid (∀w4,(wp.alloc (.cells #[.int .i64 x,.slice (some ⟨BX,0,none⟩) 64 64] 91)).grownBy w4 (Value.ownBlock (.slice vk n0 ck))→w4.cell? ⟨pb,off+1,none⟩=some (.slice vk n0 ck)∧w4.frozen? ⟨pb,off+1,none⟩=false):=fun w4 hg =>
  ⟨(hg.cell_far ⟨pb,off+1,none⟩ (by have:=P.out;simp;omega) (Ne.symm hne)).trans Dw.out.1,(hg.frozen_far ⟨pb,off+1,none⟩ (by have:=P.out;simp;omega) (Ne.symm hne)).trans Dw.out.2⟩
 have HOW:Hid ((wp.alloc (.cells #[.int .i64 x,.slice (some ⟨BX,0,none⟩) 64 64] 91)).ownsRow lo 91 2 (.slice vk n0 ck) n0 (Yt n0 (pB ps) dv)):=by
  have h1:=(Y7.out.below (by show Below _ _ _;rw [O];exact A.out)).p.1;rw [rS.out] at h1;exact h1.alloc _
 have Z5:Hid (lo≤(wp.alloc (.cells #[.int .i64 x,.slice (some ⟨BX,0,none⟩) 64 64] 91)).heap.size):=by show _≤_;have:=P.out;simp;omega
 have TT:Hid (∀(g4 cap4:Nat) (w4:World),w4.ownsRow lo 91 2 (.slice (some ⟨g4,0,none⟩) (n0+1) cap4) (n0+1) (Yt n0 (pB ps) dv++[.int .i64 x,.slice (some ⟨BX,0,none⟩) 64 64])→(wp.alloc (.cells #[.int .i64 x,.slice (some ⟨BX,0,none⟩) 64 64] 91)).grownBy w4 (Value.ownBlock (.slice vk n0 ck))→(Value.ownBlock (.slice vk n0 ck)=some g4∨g4=wp.heap.size+1) →
     ∃w5 g cap v,Zz w5 lo w5.heap.size vd (.slice (some ⟨g,0,none⟩) (n0+1) cap) Z7 (ps++[(x,C)]) (Zb dv n0 v)∧w.grownBy w5 (Value.ownBlock (.slice vk n0 ck))∧(Value.ownBlock (.slice vk n0 ck)=some g∨w.heap.size≤g)∧v.ownBlock=some w.heap.size∧w4.setCell ⟨pb,off+1,none⟩ (.slice (some ⟨g4,0,none⟩) (n0+1) cap4)=w5.setCell ⟨pb,off+1,none⟩ (.slice (some ⟨g,0,none⟩) (n0+1) cap)):=by
  intro g4 cap4 w4 ST hg4 UE;have J:Below w.heap.size w wp:=by rw [O];exact A.out
  refine ⟨w4,g4,cap4,.slice (some ⟨BX,0,none⟩) 64 64,?_,?_,?_,by rw [O];rfl,rfl⟩
  · exact Lv (te:=125) Y7.out (by rw [O];exact hhi) (by rw [O];exact hlo) rS.out J (by rw [O];exact OP.out) ST hg4 UE
  · refine P4 ?_ (P4 (Ri wp _ _) hg4)
    exact ⟨J.os,J.tape,J.output,J.size,fun q hq _=>J.block q hq⟩
  rcases UE with h | h
  · exact .inl h
  right;have:=P.out;omega
 clear bW
 iterate 4 (refine ZV ?_ (by kernel_rfl) (fun _=>id) Z9 ?_ ?_;rotate_left;· intro w9 Z4;go_simp;try with_reducible rfl)
 refine ZA 5 (.int .i64 x) rfl (by kernel_rfl) (fun _=>id) Z9 ?tU ?_
 case tU=>intro w9 Z4;go_simp
 refine ZA 6 (.slice (some ⟨BX,0,none⟩) 64 64) rfl (by kernel_rfl) (fun _=>id) Z9 ?sX ?_
 case sX=>intro w9 Z4;go_simp
 refine ZA 7 (.agg #[.int .i64 x,.slice (some ⟨BX,0,none⟩) 64 64]) rfl (by kernel_rfl) (fun _=>id) Z9 ?tA ?_
 case tA=>intro w9 Z4;go_simp
 refine Wu 4 8 rfl rfl (by kernel_rfl) (fun K hK=>?_) (fun K hK=>?_)
 · have hcp:=vq.out.1
   go_simp;refine hK.out _ _ trivial (fun ZI=>?_);clear hK K ZI;refine ZS 8 rfl (by kernel_rfl) (fun K hK=>?_);go_simp;refine hK.out _ _ trivial (fun ZI=>?_);clear hK K ZI;refine ZS 9 rfl (by kernel_rfl) (fun K hK=>?_);refine step_append_lies _ (by rfl) (.tmp 10) (.tmp 14) 34 (by rfl) lo 91 i0 (.agg #[.int .i64 0,.slice none 0 0]) 2 32 Tryz.underlying34 hi hz0 hz1 hz2 rfl (by omega) (.slice vk n0 ck) n0 (Yt n0 (pB ps) dv) (by rfl) HOW.out ⟨wp.heap.size,0,none⟩ 1 1 [.int .i64 x,.slice (some ⟨BX,0,none⟩) 64 64] (by rfl) (by rfl) (Jg _ _ _ _) (by intro u hu;simp at hu;rcases hu with rfl | rfl <;> rfl) (by omega) (by unfold maxLen;omega) (by omega) Z5.out (wp.heap.size+1) (by simp) ?_;intro g4 cap4 w4 ST hg4 UE Qh;obtain ⟨hq0,hq1⟩:=qF.out w4 hg4;have FIN:=TT.out g4 cap4 w4 ST hg4 UE;have rC:Hid _:=FIN;clear FIN ST hg4 UE Qh;refine hK.out _ _ trivial (fun ZI=>?_);clear hK K ZI
   iterate 2 (refine ZV ?_ (by kernel_rfl) (fun _=>id) Z9 ?_ ?_;rotate_left;· intro w9 Z4;go_simp;try with_reducible rfl)
   refine ZS 12 rfl (by kernel_rfl) (fun K hK=>?_);go_simp;refine hK.out _ _ trivial (fun ZI=>?_);clear hK K ZI;refine ZM (by kernel_rfl) ?_ _
   try simp only [Act.put,Zk,Zj,Zi]
   clear Z9;go_wp2
   go_end0
   exact ⟨rfl,rC.out⟩
 go_simp;refine hK.out _ _ trivial (fun ZI=>?_);clear hK K ZI;refine ZS 4 rfl (by kernel_rfl) (fun K hK=>?_);have hcp:=Dw.out.1;go_simp;refine hK.out _ _ trivial (fun ZI=>?_);clear hK K ZI;refine ZS 9 rfl (by kernel_rfl) (fun K hK=>?_);refine step_append_lies _ (by rfl) (.tmp 10) (.tmp 14) 34 (by rfl) lo 91 i0 (.agg #[.int .i64 0,.slice none 0 0]) 2 32 Tryz.underlying34 hi hz0 hz1 hz2 rfl (by omega) (.slice vk n0 ck) n0 (Yt n0 (pB ps) dv) (by rfl) HOW.out ⟨wp.heap.size,0,none⟩ 1 1 [.int .i64 x,.slice (some ⟨BX,0,none⟩) 64 64] (by rfl) (by rfl) (Jg _ _ _ _) (by intro u hu;simp at hu;rcases hu with rfl | rfl <;> rfl) (by omega) (by unfold maxLen;omega) (by omega) Z5.out (wp.heap.size+1) (by simp) ?_;intro g4 cap4 w4 ST hg4 UE Qh;obtain ⟨hq0,hq1⟩:=qF.out w4 hg4;have FIN:=TT.out g4 cap4 w4 ST hg4 UE;have rC:Hid _:=FIN;clear FIN ST hg4 UE Qh;refine hK.out _ _ trivial (fun ZI=>?_);clear hK K ZI
 iterate 2 (refine ZV ?_ (by kernel_rfl) (fun _=>id) Z9 ?_ ?_;rotate_left;· intro w9 Z4;go_simp;try with_reducible rfl)
 refine ZS 12 rfl (by kernel_rfl) (fun K hK=>?_);go_simp;refine hK.out _ _ trivial (fun ZI=>?_);clear hK K ZI;refine ZM (by kernel_rfl) ?_ _
 try simp only [Act.put,Zk,Zj,Zi]
 clear Z9;go_wp2
 go_end0
 exact ⟨rfl,rC.out⟩
end Go.Proofs.YtmmmffcbfepghaaGreatDoor
