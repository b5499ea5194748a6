import Derived.Test.YtmmmffcbfepghaaGreatDoorJ11A
set_option maxRecDepth 100000
set_option maxHeartbeats 16000000
set_option linter.unusedVariables false
set_option linter.unusedSimpArgs false
namespace Go.Proofs.YtmmmffcbfepghaaGreatDoor
open Go.RowKit Go.Shelf
variable {S:Int} {ps:List (Int × List Int)} {Z7 xs ys:List Int} {L us:List Value} {B b base c hi j k lo n:Nat} {o o':Option Nat} {e:TypeId} {u v vd vk x:Value} {W W' w w':World}
theorem VW {z:Nat} (ho:w.ownsRow lo e z v n us) (hb:ZX w w'):w'.ownsRow lo e z v n us:=by
 refine ⟨ho.1,?_⟩
 rcases ho.2 with hn | ⟨g,cap,cur,rfl,hbg,hgg,rest⟩
 · exact .inl hn
 exact .inr ⟨g,cap,cur,rfl,hbg,by rw [hb.block g (Array.getElem?_eq_some_iff.1 hgg).1];exact hgg,rest⟩
theorem Nx (h:w.ownsRow lo e 1 v n us):∃a c,v=.slice a n c∧n≤c∧c≤maxLen:=by
 rcases h.2 with ⟨rfl,rfl⟩ | ⟨g,cap,cur,rfl,-,-,h1,h2,-⟩
 · exact ⟨none,0,rfl,ZW,ZQ _⟩
 exact ⟨_,_,rfl,h1,h2⟩
theorem JW (w:World) (g b s l c:Int) (h:VP g b s l c=false) :
    Calls Tryz.prog 52 #[.agg #[.int .i64 g,.int .i64 b,.int .i64 s,.int .i64 l,.int .i64 c]] w fun e w'=>∃v',e=.returned v'∧Own .u8 5 w' w.heap.size v' []∧ZX w w':=by
 have H:=Z8 h
 go_enter Tryz.func52,Tryz.ntmps52
 go_wp2_with fail
 refine (Ny _ g b s l c).mono ?_;rintro e w1 ⟨rfl,b1⟩;rw [H.out];have B1:=Z8 ((ZR.alloc ZW _).trans (b1.mono (by simp)));go_wp2;go_ret;exact ⟨_,rfl,Own.mono (Xb w1 #[] 0 ZW (ZQ _) rfl) B1.out.size,B1.out.alloc B1.out.size _⟩
theorem Mw (w:World) (g b s l c:Nat) (h:VP g b s l c=true) (hg:g<9223372036854775808) :
    Calls Tryz.prog 52 #[.agg #[.int .i64 g,.int .i64 b,.int .i64 s,.int .i64 l,.int .i64 c]] w fun e w'=>∃v',e=.returned v'∧Own .u8 5 w' w.heap.size v' (Ld g b s l c)∧ZX w w':=by
 obtain ⟨i0,hi,hz0,hz1,hz2⟩:=YH Tryz.Vv;have H:=Z8 h;have HG:Hid (g<9223372036854775808∧s<9223372036854775808∧l<9223372036854775808∧c<9223372036854775808):=by
  unfold VP at h
  simp only [Yg,Jr,Zg] at h
  exact ⟨hg,by omega,by omega,by omega⟩
 go_enter Tryz.func52,Tryz.ntmps52
 go_wp2_with fail
 refine (Ny _ g b s l c).mono ?_;rintro e w1 ⟨rfl,b1⟩;rw [H.out];have X1:=Z8 ((Kf.new w g b s l c _).below b1 (by simp));have B1:=Z8 ((ZR.alloc ZW _).trans (b1.mono (by simp)));have s1:w.heap.size+1≤w1.heap.size:=by have:=b1.size;simpa using this
 have HV:Hid ((b:Int) % 256=((b % 256:Nat):Int)):=by show _=_;omega
 go_wp2_with fail
 refine ZF (S:=fun w'=>Kf w' w.heap.size g b s l c) (by kernel_rfl) X1.out (fun Z9=>?_);refine ZV (.pointer (some ⟨w.heap.size,0,none⟩)) (by kernel_rfl) (fun _=>id) (by assumption) (fun w' hSw=>?_) ?_
 · obtain ⟨-,y0,y1,y2,y3,y4⟩:=hSw
   go_simp
 simp only [Act.put,Zk,Zj,Zi]
 refine ZV (.int .i64 g) (by kernel_rfl) (fun _=>id) (by assumption) (fun w' hSw=>?_) ?_
 · obtain ⟨-,y0,y1,y2,y3,y4⟩:=hSw
   go_simp
 simp only [Act.put,Zk,Zj,Zi]
 refine ZA 3 (.pointer (some ⟨w.heap.size,1,none⟩)) rfl (by kernel_rfl) (fun _=>id) (by assumption) (fun w' hSw=>?_) ?_
 · obtain ⟨-,y0,y1,y2,y3,y4⟩:=hSw
   go_simp
 simp only [Act.put,Zk,Zj,Zi]
 refine ZA 4 (.int .i64 b) rfl (by kernel_rfl) (fun _=>id) (by assumption) (fun w' hSw=>?_) ?_
 · obtain ⟨-,y0,y1,y2,y3,y4⟩:=hSw
   go_simp
 simp only [Act.put,Zk,Zj,Zi]
 refine ZA 5 (.int .u8 ((b:Int) % 256)) rfl (by kernel_rfl) (fun _=>id) (by assumption) (fun w' hSw=>?_) ?_
 · obtain ⟨-,y0,y1,y2,y3,y4⟩:=hSw
   go_simp;rw [IntKind.wrap_u8]
 simp only [Act.put,Zk,Zj,Zi]
 refine wpAnyH_ready (rs:=[2,6]) (by kernel_rfl) (by simp) ?_;refine rQ rfl (fun K hK=>?_) (rQ rfl (fun K hK=>?_) AllReadyH.nil)
 focus
  go_simp
  go_at_call 87
  refine (Xk 8 _ g (by omega) HG.out.1).mono ?_;rintro e w2 ⟨v2,rfl,o2,b2⟩;have ZH:=Below.trans (b:=w1.drew) (below_drewN' w1 1) b2;have X2:=Z8 (X1.out.below ZH (by omega));have B2:=Z8 (B1.out.trans (ZH.mono (by omega)));have O2:Hid (w2.ownsRow (w.heap.size+1) 5 1 v2 8 ((Zo g 8).map (Value.int .u8))):=by have h2:=o2.mono (show w.heap.size+1≤w1.heap.size from s1);unfold Own at h2;rw [Zn] at h2;exact h2
  refine hK.out _ _ X2.out (fun E=>?_);refine ZS 6 rfl (by kernel_rfl) (fun K hK=>?_);go_simp;have bA:Below (w.heap.size+1) w2 (w2.alloc (.cells #[.int .u8 ((b:Int) % 256)] 5)):=ZR.alloc X2.out.1 _;have XA:=Z8 (X2.out.below bA (by omega));have BA:=Z8 (B2.out.trans (bA.mono (by omega)));have OA:Hid ((w2.alloc (.cells #[.int .u8 ((b:Int) % 256)] 5)).ownsRow (w.heap.size+1) 5 1 v2 8 ((Zo g 8).map (Value.int .u8))):=O2.out.alloc _;have NB:Hid (∀j u,[Value.int .u8 ((b:Int) % 256)][j]?=some u→(w2.alloc (.cells #[.int .u8 ((b:Int) % 256)] 5)).cell? ((⟨w2.heap.size,0,none⟩:Addr).add j)=some u):=Vy _ _ _;refine hK.out _ _ XA.out (fun Fy=>?_);generalize w2.heap.size=GB at *;generalize w2.alloc _=WA at *;have sA:w.heap.size+1≤WA.heap.size:=XA.out.1;refine ZS 7 rfl (by kernel_rfl) (fun K hK=>?_);refine step_append rfl (.tmp 10) (.tmp 14) 22 rfl (w.heap.size+1) 5 i0 (.int .u8 0) 1 1 Tryz.underlying22 hi hz0 hz1 hz2 rfl (by decide) v2 8 _ rfl OA.out ⟨GB,0,none⟩ 1 1 [.int .u8 ((b:Int) % 256)] rfl rfl NB.out (by intro u hu;simp at hu;subst hu;rfl) (by unfold maxLen;omega) (by omega) sA ?_;intro v3 w3 ho3 hg3;have b3:=ZR.grown hg3 sA (fun q hq=>(ZO OA.out q hq).1);have X3:=Z8 (XA.out.below b3 (by omega));have B3:=Z8 (BA.out.trans (b3.mono (by omega)));have s3:w.heap.size+1≤w3.heap.size:=X3.out.1;have O3:Hid (w3.ownsRow (w.heap.size+1) 5 1 v3 9 ((Zo g 8++Zo b 1).map (Value.int .u8))):=by
   rw [HV.out] at ho3;show World.ownsRow _ _ _ _ _ _ _;rw [WX];exact ho3
  refine hK.out _ _ X3.out (fun D=>?_);refine ZV v3 (by kernel_rfl) (fun _=>id) (by assumption) (fun w' hSw=>?_) ?_
  · go_simp
  refine ZM (by kernel_rfl) ?_ _
  try simp only [Act.put,Zk,Zj,Zi]
 rotate_left
 focus
  go_simp;have ZE:Below (w.heap.size+1) w1 ((w1.alloc (.cells #[.int .u8 ((b:Int) % 256)] 5)).drew):=(ZR.alloc s1 _).drew;have X2:=Z8 (X1.out.below ZE (by omega));have B2:=Z8 (B1.out.trans (ZE.mono (by omega)));have N2:Hid (∀j u,[Value.int .u8 ((b:Int) % 256)][j]?=some u→((w1.alloc (.cells #[.int .u8 ((b:Int) % 256)] 5)).drew).cell? ((⟨w1.heap.size,0,none⟩:Addr).add j)=some u):=Vy w1 _ _;have z2:w1.heap.size<((w1.alloc (.cells #[.int .u8 ((b:Int) % 256)] 5)).drew).heap.size:=by simp
  refine hK.out _ _ X2.out (fun E=>?_);generalize (w1.alloc _).drew=W2 at *;refine ZS 2 rfl (by kernel_rfl) (fun K hK=>?_);go_simp
  go_at_call 87
  refine (Xk 8 _ g (by omega) HG.out.1).mono ?_;rintro e WA ⟨v2,rfl,o2,b2⟩;have XA:=Z8 (X2.out.below b2 X2.out.1);have BA:=Z8 (B2.out.trans (b2.mono (by have:=X2.out.1;omega)));have OA:Hid (WA.ownsRow (w.heap.size+1) 5 1 v2 8 ((Zo g 8).map (Value.int .u8))):=by have h2:=o2.mono (show w.heap.size+1≤W2.heap.size from X2.out.1);unfold Own at h2;rw [Zn] at h2;exact h2
  have NB:Hid (∀j u,[Value.int .u8 ((b:Int) % 256)][j]?=some u→WA.cell? ((⟨w1.heap.size,0,none⟩:Addr).add j)=some u):=fun j u hj=>by
   rw [b2.cell (p:=(⟨w1.heap.size,0,none⟩:Addr).add j) (by rw [GM];exact z2)];exact N2.out j u hj
  refine hK.out _ _ XA.out (fun Fy=>?_);have sA:w.heap.size+1≤WA.heap.size:=XA.out.1;refine ZS 7 rfl (by kernel_rfl) (fun K hK=>?_);refine step_append rfl (.tmp 10) (.tmp 14) 22 rfl (w.heap.size+1) 5 i0 (.int .u8 0) 1 1 Tryz.underlying22 hi hz0 hz1 hz2 rfl (by decide) v2 8 _ rfl OA.out ⟨w1.heap.size,0,none⟩ 1 1 [.int .u8 ((b:Int) % 256)] rfl rfl NB.out (by intro u hu;simp at hu;subst hu;rfl) (by unfold maxLen;omega) (by omega) sA ?_;intro v3 w3 ho3 hg3;have b3:=ZR.grown hg3 sA (fun q hq=>(ZO OA.out q hq).1);have X3:=Z8 (XA.out.below b3 (by omega));have B3:=Z8 (BA.out.trans (b3.mono (by omega)));have s3:w.heap.size+1≤w3.heap.size:=X3.out.1;have O3:Hid (w3.ownsRow (w.heap.size+1) 5 1 v3 9 ((Zo g 8++Zo b 1).map (Value.int .u8))):=by
   rw [HV.out] at ho3;show World.ownsRow _ _ _ _ _ _ _;rw [WX];exact ho3
  refine hK.out _ _ X3.out (fun D=>?_);refine ZV v3 (by kernel_rfl) (fun _=>id) (by assumption) (fun w' hSw=>?_) ?_
  · go_simp
  refine ZM (by kernel_rfl) ?_ _
  try simp only [Act.put,Zk,Zj,Zi]
 all_goals
  generalize BD:Zo g 8++Zo b 1=L3 at *;have YU:=Z8 BD;obtain ⟨-,x0,x1,x2,x3,x4⟩:=X3.out
  go_wp2_with fail
  refine (Xk 4 _ s (by omega) HG.out.2.1).mono ?_;rintro e w4 ⟨v4,rfl,o4,b4⟩;obtain ⟨g4,c4,hv4⟩:=To o4 (by rw [Zn];omega);rw [Zn] at hv4;subst hv4;have X4:=Z8 (X3.out.below b4 (by omega));have B4:=Z8 (B3.out.trans (b4.mono (by omega)));have s4:=ZP s3 b4.size;have O4:=Z8 (VW O3.out b4);have N4:Hid (∀j u,((Zo s 4).map (Value.int .u8))[j]?=some u→w4.cell? ((⟨g4,0,none⟩:Addr).add j)=some u):=Va o4 rfl
  go_wp2_with (at_builtin;go_must (refine XS _ rfl _ _ 22 rfl (w.heap.size+1) 5 i0 (.int .u8 0) 1 1 Tryz.underlying22 hi hz0 hz1 hz2 rfl (by decide) _ _ _ rfl O4.out ⟨g4,0,none⟩ 4 c4 ((Zo s 4).map (Value.int .u8)) rfl ?_ N4.out (Wc _ _) ?_ ?_ ?_ ?_))
  · rw [Vi,Zn]
  · unfold maxLen;omega
  · omega
  · exact s4
  intro v5 w5 GL hg5 _;have b5:=ZR.grown hg5 s4 (fun q hq=>(ZO O4.out q hq).1);have X5:=Z8 (X4.out.below b5 (by omega));have B5:=Z8 (B4.out.trans (b5.mono (by omega)));have s5:=ZP s4 b5.size;have O5:Hid (w5.ownsRow (w.heap.size+1) 5 1 v5 13 ((L3++Zo s 4).map (Value.int .u8))):=by
   show World.ownsRow _ _ _ _ _ _ _;rw [WX];exact GL
  generalize BD:L3++Zo s 4=L5 at *;have pY:=Z8 BD;obtain ⟨-,x0,x1,x2,x3,x4⟩:=X5.out
  go_wp2_with fail
  refine (Xk 4 _ l (by omega) HG.out.2.2.1).mono ?_;rintro e w6 ⟨v6,rfl,o6,b6⟩;obtain ⟨g6,c6,hv6⟩:=To o6 (by rw [Zn];omega);rw [Zn] at hv6;subst hv6;have X6:=Z8 (X5.out.below b6 (by omega));have B6:=Z8 (B5.out.trans (b6.mono (by omega)));have s6:=ZP s5 b6.size;have O6:=Z8 (VW O5.out b6);have N6:Hid (∀j u,((Zo l 4).map (Value.int .u8))[j]?=some u→w6.cell? ((⟨g6,0,none⟩:Addr).add j)=some u):=Va o6 rfl
  go_wp2_with (at_builtin;go_must (refine XS _ rfl _ _ 22 rfl (w.heap.size+1) 5 i0 (.int .u8 0) 1 1 Tryz.underlying22 hi hz0 hz1 hz2 rfl (by decide) _ _ _ rfl O6.out ⟨g6,0,none⟩ 4 c6 ((Zo l 4).map (Value.int .u8)) rfl ?_ N6.out (Wc _ _) ?_ ?_ ?_ ?_))
  · rw [Vi,Zn]
  · unfold maxLen;omega
  · omega
  · exact s6
  intro v7 w7 yb BI _;have b7:=ZR.grown BI s6 (fun q hq=>(ZO O6.out q hq).1);have X7:=Z8 (X6.out.below b7 (by omega));have B7:=Z8 (B6.out.trans (b7.mono (by omega)));have s7:=ZP s6 b7.size;have O7:Hid (w7.ownsRow (w.heap.size+1) 5 1 v7 17 ((L5++Zo l 4).map (Value.int .u8))):=by
   show World.ownsRow _ _ _ _ _ _ _;rw [WX];exact yb
  generalize BD:L5++Zo l 4=L7 at *;have YQ:=Z8 BD;obtain ⟨-,x0,x1,x2,x3,x4⟩:=X7.out
  go_wp2_with fail
  refine (Xk 4 _ c (by omega) HG.out.2.2.2).mono ?_;rintro e w8 ⟨v8,rfl,o8,b8⟩;obtain ⟨g8,c8,ZD⟩:=To o8 (by rw [Zn];omega);rw [Zn] at ZD;subst ZD;have X8:=Z8 (X7.out.below b8 (by omega));have B8:=Z8 (B7.out.trans (b8.mono (by omega)));have s8:=ZP s7 b8.size;have O8:=Z8 (VW O7.out b8);have N8:Hid (∀j u,((Zo c 4).map (Value.int .u8))[j]?=some u→w8.cell? ((⟨g8,0,none⟩:Addr).add j)=some u):=Va o8 rfl
  go_wp2_with (at_builtin;go_must (refine XS _ rfl _ _ 22 rfl (w.heap.size+1) 5 i0 (.int .u8 0) 1 1 Tryz.underlying22 hi hz0 hz1 hz2 rfl (by decide) _ _ _ rfl O8.out ⟨g8,0,none⟩ 4 c8 ((Zo c 4).map (Value.int .u8)) rfl ?_ N8.out (Wc _ _) ?_ ?_ ?_ ?_))
  · rw [Vi,Zn]
  · unfold maxLen;omega
  · omega
  · exact s8
  intro v9 w9 YP vU _;have b9:=ZR.grown vU s8 (fun q hq=>(ZO O8.out q hq).1);have X9:=Z8 (X8.out.below b9 (by omega));have B9:=Z8 (B8.out.trans (b9.mono (by omega)));have s9:=ZP s8 b9.size;have O9:Hid (w9.ownsRow (w.heap.size+1) 5 1 v9 21 ((L7++Zo c 4).map (Value.int .u8))):=by
   show World.ownsRow _ _ _ _ _ _ _;rw [WX];exact YP
  generalize BD:L7++Zo c 4=L9 at *;have YN:=Z8 BD;go_wp2
  go_loopw [3] (fun v wr=>∃k:Nat,k≤35∧Hid (wr.ownsRow (w.heap.size+1) 5 1 v (21+k) ((L9++List.replicate k 0).map (Value.int .u8)))∧Hid (Kf wr w.heap.size g b s l c)∧Hid (ZX w wr)) (fun v _=>56 - (match v with | .slice _ n _=>n | _=>0))
  case atStart=>exact ⟨0,by omega,by rw [List.replicate_zero,Sz];exact O9,X9,B9⟩
  case round =>
   obtain ⟨k,hk,O9,X9,B9⟩:=hrel;have s9:w.heap.size+1≤wr.heap.size:=X9.out.1;obtain ⟨a9,c9,yQ,-,-⟩:=Nx O9.out;subst yQ
   by_cases hlt:k<35
   · have hI:((21+k:Nat):Int)<56:=by omega
     go_wp2_with (at_builtin;go_must (refine XS _ rfl _ _ 22 rfl (w.heap.size+1) 5 i0 (.int .u8 0) 1 1 Tryz.underlying22 hi hz0 hz1 hz2 rfl (by decide) _ _ _ rfl (O9.out.alloc _) ⟨wr.heap.size,0,none⟩ 1 1 [.int .u8 0] rfl rfl (Vy _ _ _) (by intro u hu;simp at hu;subst hu;rfl) ?_ ?_ ?_ ?_))
     · unfold maxLen;omega
     · omega
     · simp;omega
     intro v3 w3 ho3 hg3 _;have b3:=(ZR.alloc s9 _).grown hg3 (by simp;omega) (fun q hq=>(ZO O9.out q hq).1);have Zy:Hid (w3.ownsRow (w.heap.size+1) 5 1 v3 (21+(k+1)) ((L9++List.replicate (k+1) 0).map (Value.int .u8))):=by
      show World.ownsRow _ _ _ _ _ _ _;rw [←TI,um,←R9,WX]
      simpa using ho3
     have YG:=Z8 (X9.out.below b3 (by omega));have B10:=Z8 (B9.out.trans (b3.mono (by omega)));obtain ⟨a3,c3,hv3,-,-⟩:=Nx Zy.out;subst hv3;go_wp2;exact ⟨⟨k+1,by omega,Zy,YG,B10⟩,by simp;omega⟩
   have Zx:k=35:=by omega
   subst Zx;have YF:Hid (wr.ownsRow (w.heap.size+1) 5 1 (.slice a9 (21+35) c9) 56 ((L9++List.replicate 35 0).map (Value.int .u8))):=O9.out;generalize BD:L9++List.replicate 35 0=Zw at *;have Zu:=Z8 BD;obtain ⟨-,x0,x1,x2,x3,x4⟩:=X9.out
   go_wp2_with fail
   refine (Xk 8 _ g (by omega) HG.out.1).mono ?_;rintro e YE ⟨v11,rfl,pd,b11⟩;obtain ⟨g11,c11,Z6⟩:=To pd (by rw [Zn];omega);rw [Zn] at Z6;subst Z6;have B11:=Z8 (B9.out.trans (b11.mono (by omega)));have s11:=ZP s9 b11.size;have Zt:=Z8 (VW YF.out b11);have YD:Hid (∀j u,((Zo g 8).map (Value.int .u8))[j]?=some u→YE.cell? ((⟨g11,0,none⟩:Addr).add j)=some u):=Va pd rfl
   go_wp2_with (at_builtin;go_must (refine XS _ rfl _ _ 22 rfl (w.heap.size+1) 5 i0 (.int .u8 0) 1 1 Tryz.underlying22 hi hz0 hz1 hz2 rfl (by decide) _ _ _ rfl Zt.out ⟨g11,0,none⟩ 8 c11 ((Zo g 8).map (Value.int .u8)) rfl ?_ YD.out (Wc _ _) ?_ ?_ ?_ ?_))
   · rw [Vi,Zn]
   · unfold maxLen;omega
   · omega
   · exact s11
   intro v12 YB Zq Zp _;have YA:=Z8 (B11.out.grown Zp (by omega) (fun q hq=>by have:=(ZO Zt.out q hq).1;omega));have tu:Hid (Own .u8 5 YB w.heap.size v12 (Ld g b s l c)):=by
    have e:Ld g b s l c=Zw++Zo g 8:=by
     rw [←Zu.out,←YN.out,←YQ.out,←pY.out,←YU.out];rfl
    have h12:=WI (q:=64) (ys:=Zw++Zo g 8) (by rw [←e,IT]) e (by rw [WX];exact Zq);exact h12.mono (by omega)
   go_wp2;go_ret;exact ⟨_,rfl,tu.out,YA.out⟩
theorem Mv (w:World) (g b s l c:Int) (hg:g<9223372036854775808) :
    Calls Tryz.prog 52 #[.agg #[.int .i64 g,.int .i64 b,.int .i64 s,.int .i64 l,.int .i64 c]] w fun e w'=>∃v',e=.returned v'∧Own .u8 5 w' w.heap.size v' (sup g b s l c)∧ZX w w':=by
 unfold sup
 by_cases h:VP g b s l c=true
 · rw [ZY h]
   obtain ⟨g,b,s,l,c,rfl,rfl,rfl,rfl,rfl⟩:=LB h;exact Mw w g b s l c h (by omega)
 rw [Z3 h];exact JW w g b s l c (by simpa using h)
theorem Hm (w:World) (ao:Option Addr) (n cap:Nat) (hn:n≠64) :
    Calls Tryz.prog 17 #[.slice ao n cap] w (Ze w zeroV):=by
 have h1:((n:Int) != 64)=true:=by rw [Rg];omega
 go_enter Tryz.func17,Tryz.ntmps17
 go_wp2;refine ZT (v:=zeroV) (by simp [results,Tryz.results17,go_sem,zeroV]) rfl ⟨rfl,?_⟩;exact ZR.alloc ZW _
theorem JV (w:World) (b o cap x:Nat) (hb:b<w.heap.size) (h0:w.cell? ⟨b,o,none⟩=some (.int .u8 (x:Int))) (hx:127<x) :
    Calls Tryz.prog 17 #[.slice (some ⟨b,o,none⟩) 64 cap] w (Ze w zeroV):=by
 have h1:(127:Int)<(x:Int):=by omega
 go_enter Tryz.func17,Tryz.ntmps17
 go_wp2;refine ZT (v:=zeroV) (by simp [results,Tryz.results17,go_sem,zeroV]) rfl ⟨rfl,?_⟩;exact ZR.alloc ZW _
def ES (w W:World):Prop:=ZX w W∧Zr W w.heap.size∧(∀j,W.frozen? ⟨w.heap.size,j,none⟩=false)∧w.heap.size<W.heap.size
theorem ES.drewN (h:ES w W) (q:Nat):ES w (W.drewN q):=⟨h.1.trans ((below_drewN' W q).mono h.1.size),h.2.1,h.2.2.1,h.2.2.2⟩
theorem ES.keep (h:ES w W) (hb:ZX W W'):ES w W' :=
 ⟨h.1.trans (hb.mono h.1.size),Zr.same h.2.1 (fun j=>hb.cell (p:=⟨w.heap.size,j,none⟩) h.2.2.2),fun j=>(hb.frozen (p:=⟨w.heap.size,j,none⟩) h.2.2.2).trans (h.2.2.1 j),ZB h.2.2.2 hb.size⟩
theorem ES.set (h:ES w W) (hk:w.heap.size<k) (i:Nat) (v:Value):ES w (W.setCell ⟨k,i,none⟩ v) :=
 ⟨h.1.setCell (show w.heap.size≤k by omega) _,Zr.same h.2.1 (fun j=>ZG _ _ _ _ (by intro e;injection e with e;omega)),fun j=>by rw [Yb];exact h.2.2.1 j,by simpa using h.2.2.2⟩
def Nf (W:World) (k:Nat):Prop:=Kf W k 0 0 0 0 0∧∀j,W.frozen? ⟨k,j,none⟩=false
theorem Nf.drewN (h:Nf W k) (q:Nat):Nf (W.drewN q) k:=h
theorem Nf.new (W:World):Nf (W.alloc (.cells #[.int .i64 0,.int .i64 0,.int .i64 0,.int .i64 0,.int .i64 0] 30)) W.heap.size:=⟨Kf.new W 0 0 0 0 0 _,fun j=>(by go_simp)⟩
theorem Nf.fill (h:Nf W k) (g b s l c:Int):Kf (((((W.setCell ⟨k,0,none⟩ (.int .i64 g)).setCell ⟨k,1,none⟩ (.int .i64 b)).setCell ⟨k,2,none⟩ (.int .i64 s)).setCell ⟨k,3,none⟩ (.int .i64 l)).setCell ⟨k,4,none⟩ (.int .i64 c)) k g b s l c:=by
 obtain ⟨x0,x1,x2,x3,x4,x5⟩:=h.1;refine ⟨by simpa using x0,?_,?_,?_,?_,?_⟩ <;> simp [go_sem,x1,x2,x3,x4,x5]
theorem ES.fill (h:ES w W) (hk:w.heap.size<k) (g b s l c:Int):ES w (((((W.setCell ⟨k,0,none⟩ (.int .i64 g)).setCell ⟨k,1,none⟩ (.int .i64 b)).setCell ⟨k,2,none⟩ (.int .i64 s)).setCell ⟨k,3,none⟩ (.int .i64 l)).setCell ⟨k,4,none⟩ (.int .i64 c)) :=
 ((((h.set hk 0 _).set hk 1 _).set hk 2 _).set hk 3 _).set hk 4 _
theorem yP (h:YL ys) (hl:8≤ys.length) (hx:ys.getD 0 0≤127):YV (ys.take 8)<9223372036854775808:=by
 match ys,hl with
 | a :: b :: c :: d :: e :: f :: g :: i :: rest,_ =>
  have h0:=h a (by simp);have h1:=h b (by simp);have h2:=h c (by simp);have h3:=h d (by simp);have h4:=h e (by simp);have h5:=h f (by simp);have h6:=h g (by simp);have h7:=h i (by simp)
  simp at hx
  simp [YV]
  omega
theorem Hl (w:World) (b o cap x:Nat) (ys:List Int) (hl:ys.length=64) (hb:b<w.heap.size) (hc:∀i,i<64→w.cell? ⟨b,o+i,none⟩=some (.int .u8 (ys.getD i 0))) (hcap:64≤cap) (hcm:cap≤maxLen) (h0:w.cell? ⟨b,o,none⟩=some (.int .u8 (x:Int))) (hx:x≤127) (hxe:ys.getD 0 0=(x:Int)) (hby:YL ys) :
    Calls Tryz.prog 17 #[.slice (some ⟨b,o,none⟩) 64 cap] w (Ze w (UM ys)):=by
 have h1:¬(127:Int)<(x:Int):=by omega
 have hN:=yP hby (by omega) (by rw [hxe];omega);have hbs:∀p n,YL ((ys.drop p).take n):=fun p n y hy=>hby y (Wf (Vp hy))
 have hlen:∀p n,p+n≤64→((ys.drop p).take n).length=n:=fun p n h=>by rw [YC,Zv];omega
 obtain ⟨Z,pT,I⟩:=Wr hby 8;obtain ⟨n0,hn0⟩:∃n,n=YV (ys.take 8):=⟨_,rfl⟩;obtain ⟨n2,hn2⟩:∃n,n=YV ((ys.drop 9).take 4):=⟨_,rfl⟩;obtain ⟨n3,Z2⟩:∃n,n=YV ((ys.drop 13).take 4):=⟨_,rfl⟩;obtain ⟨n4,Z1⟩:∃n,n=YV ((ys.drop 17).take 4):=⟨_,rfl⟩;have C0:Hid (∀W,ES w W→Calls Tryz.prog 51 #[.slice (some ⟨b,o,none⟩) 8 cap] W fun e w'=>e=.returned (.int .i64 (n0:Int))∧∃q,w'=W.drewN q):=fun W hW=>by
  rw [hn0];exact WU W b o 8 cap (ys.take 8) (by rw [YC];omega) (fun y hy=>hby y (Vp hy)) (fun i hi=>by rw [hW.1.cell (p:=⟨b,o+i,none⟩) hb,hc i (by omega)];simp [List.getD,Sx hi]) hN (by omega)
 have C1:Hid (∀W,ES w W→Calls Tryz.prog 51 #[.slice (some ⟨b,o+9,none⟩) 4 (cap - 9)] W fun e w'=>e=.returned (.int .i64 (n2:Int))∧∃q,w'=W.drewN q):=fun W hW=>by
  rw [hn2];exact WU W b (o+9) 4 (cap - 9) ((ys.drop 9).take 4) (hlen 9 4 (by omega)) (hbs 9 4) (fun i hi=>by rw [hW.1.cell (p:=⟨b,o+9+i,none⟩) hb];exact SW hc 9 4 (by omega) i hi) (Vd (hbs 9 4) (by rw [hlen 9 4 (by omega)];omega)) (by omega)
 have C2:Hid (∀W,ES w W→Calls Tryz.prog 51 #[.slice (some ⟨b,o+13,none⟩) 4 (cap - 13)] W fun e w'=>e=.returned (.int .i64 (n3:Int))∧∃q,w'=W.drewN q):=fun W hW=>by
  rw [Z2];exact WU W b (o+13) 4 (cap - 13) ((ys.drop 13).take 4) (hlen 13 4 (by omega)) (hbs 13 4) (fun i hi=>by rw [hW.1.cell (p:=⟨b,o+13+i,none⟩) hb];exact SW hc 13 4 (by omega) i hi) (Vd (hbs 13 4) (by rw [hlen 13 4 (by omega)];omega)) (by omega)
 have C3:Hid (∀W,ES w W→Calls Tryz.prog 51 #[.slice (some ⟨b,o+17,none⟩) 4 (cap - 17)] W fun e w'=>e=.returned (.int .i64 (n4:Int))∧∃q,w'=W.drewN q):=fun W hW=>by
  rw [Z1];exact WU W b (o+17) 4 (cap - 17) ((ys.drop 17).take 4) (hlen 17 4 (by omega)) (hbs 17 4) (fun i hi=>by rw [hW.1.cell (p:=⟨b,o+17+i,none⟩) hb];exact SW hc 17 4 (by omega) i hi) (Vd (hbs 17 4) (by rw [hlen 17 4 (by omega)];omega)) (by omega)
 have HG:Hid ((n0:Int)<9223372036854775808):=by show _<_;rw [hn0];omega
 have C8:Hid (∀W,ES w W→W.cell? ⟨b,o+8,none⟩=some (.int .u8 (Z:Int))):=fun W hW=>by rw [hW.1.cell (p:=⟨b,o+8,none⟩) hb,hc 8 (by omega),I]
 have HR:Hid (Rd .u8 w (.slice (some ⟨b,o,none⟩) 64 cap) ys):=⟨some ⟨b,o,none⟩,cap,by rw [hl],by omega,hcm,.inr ⟨b,o,rfl,hb,fun i hi=>hc i (by omega)⟩⟩;have Xe:=Z8 hby
 have vV:Hid (UM ys=if sup (n0:Int) (Z:Int) (n2:Int) (n3:Int) (n4:Int)=ys then .agg #[.bool true,.int .i64 (n0:Int),.int .i64 (Z:Int),.int .i64 (n2:Int),.int .i64 (n3:Int),.int .i64 (n4:Int)] else zeroV):=by
  refine yR hby (by omega) ?_ ?_ ?_ ?_ ?_
  · rw [hn0];unfold wrap64;omega
  · rw [wrap_small (fun y hy=>hby y (Wf hy)) 1 (by omega)]
    have e:(ys.drop 8).take 1=[(Z:Int)]:=by
     have pr:8<ys.length:=by omega
     rw [←I,GE pr,List.take_succ_cons,Rl]
     simp [List.getD,pr]
    rw [e];simp [YV]
  · rw [hn2,wrap_small (fun y hy=>hby y (Wf hy)) 4 (by omega)]
  · rw [Z2,wrap_small (fun y hy=>hby y (Wf hy)) 4 (by omega)]
  rw [Z1,wrap_small (fun y hy=>hby y (Wf hy)) 4 (by omega)]
 clear hN hbs hlen hn0 hn2 Z2 Z1 hc I hby hxe hl
 go_enter Tryz.func17,Tryz.ntmps17
 go_wp2_with fail
 have E0:Hid (ES w (w.alloc (.cells #[.bool false,.int .i64 0,.int .i64 0,.int .i64 0,.int .i64 0,.int .i64 0] 52))):=⟨ZR.alloc ZW _,⟨(by go_simp),(by go_simp),(by go_simp),(by go_simp),(by go_simp),(by go_simp)⟩,fun j=>(by go_simp),by simp⟩;generalize w.alloc _=W0 at *;refine ZF (S:=fun W=>ES w W) (by kernel_rfl) (E0.out.drewN 1) (fun Z9=>?_);generalize W0.drew=W1 at *;clear E0;have Yz:¬(cap:Int)<8:=by omega
 have Zh:(13:Int)≤(cap:Int):=by omega
 have Zd:(17:Int)≤(cap:Int):=by omega
 have Y':(21:Int)≤(cap:Int):=by omega
 have rT:¬cap=9:=by omega
 have Y9:¬cap=13:=by omega
 have Y8:¬cap=17:=by omega
 have hw8:IntKind.i64.wrap (Z:Int)=(Z:Int):=by rw [Xf];omega
 refine ZV (.slice (some ⟨b,o,none⟩) 64 cap) (by kernel_rfl) (fun _=>id) Z9 (fun w' hSw=>?_) ?_
 · clear hSw
   go_simp
 refine ZV (.slice (some ⟨b,o,none⟩) 8 cap) (by kernel_rfl) (fun _=>id) Z9 (fun w' hSw=>?_) ?_
 · clear hSw
   go_simp
 refine ZA 3 (.slice (some ⟨b,o,none⟩) 64 cap) rfl (by kernel_rfl) (fun _=>id) Z9 (fun w' hSw=>?_) ?_
 · clear hSw
   go_simp
 refine ZA 4 (.pointer (some ⟨b,o+8,none⟩)) rfl (by kernel_rfl) (fun _=>id) Z9 (fun w' hSw=>?_) ?_
 · clear hSw
   go_simp
 refine ZA 5 (.int .u8 (Z:Int)) rfl (by kernel_rfl) (fun _=>id) Z9 (fun w' hSw=>?_) ?_
 · have hc8:=C8.out _ hSw
   go_simp
 refine ZA 6 (.int .i64 (Z:Int)) rfl (by kernel_rfl) (fun _=>id) Z9 (fun w' hSw=>?_) ?_
 · clear hSw
   go_simp
 refine ZA 7 (.slice (some ⟨b,o,none⟩) 64 cap) rfl (by kernel_rfl) (fun _=>id) Z9 (fun w' hSw=>?_) ?_
 · clear hSw
   go_simp
 refine ZA 8 (.slice (some ⟨b,o+9,none⟩) 4 (cap - 9)) rfl (by kernel_rfl) (fun _=>id) Z9 (fun w' hSw=>?_) ?_
 · clear hSw
   go_simp
 refine ZA 10 (.slice (some ⟨b,o,none⟩) 64 cap) rfl (by kernel_rfl) (fun _=>id) Z9 (fun w' hSw=>?_) ?_
 · clear hSw
   go_simp
 refine ZA 11 (.slice (some ⟨b,o+13,none⟩) 4 (cap - 13)) rfl (by kernel_rfl) (fun _=>id) Z9 (fun w' hSw=>?_) ?_
 · clear hSw
   go_simp
 refine ZA 13 (.slice (some ⟨b,o,none⟩) 64 cap) rfl (by kernel_rfl) (fun _=>id) Z9 (fun w' hSw=>?_) ?_
 · clear hSw
   go_simp
 refine ZA 14 (.slice (some ⟨b,o+17,none⟩) 4 (cap - 17)) rfl (by kernel_rfl) (fun _=>id) Z9 (fun w' hSw=>?_) ?_
 · clear hSw
   go_simp
 refine Wu 2 17 rfl rfl (by kernel_rfl) (fun K hK=>?_) (fun K hK=>?_)
 rotate_left
 focus
  go_simp;have hA:ES w (W1.alloc (.cells #[.int .i64 0,.int .i64 0,.int .i64 0,.int .i64 0,.int .i64 0] 30)):=Z9.keep (ZR.alloc ZW _);have Wl:=Z8 (Nf.new W1);have hkb:=Z9.2.2.2;refine hK.out _ _ hA (fun _=>?_);clear hK K Z9;have Z9:=hA;clear hA;generalize W1.heap.size=kb at *;generalize W1.alloc _=W3 at *;refine ZS 2 rfl (by kernel_rfl) (fun K hK=>?_);go_simp
  go_at_call 51
  refine (C0.out _ Z9).mono ?_;rintro e W2 ⟨rfl,q,hW2⟩;have hH2:ES w W2:=by rw [hW2];exact Z9.drewN q
  have HB2:Hid (Nf W2 kb):=by rw [hW2];exact Wl.out.drewN q
  refine hK.out _ _ hH2 (fun _=>?_);clear hK K Z9 hW2;have Z9:=hH2;clear hH2;clear Wl;have Wl:=HB2;clear HB2;refine ZS 9 rfl (by kernel_rfl) (fun K hK=>?_);go_simp
  go_at_call 51
  refine (C1.out _ Z9).mono ?_;rintro e W2 ⟨rfl,q,hW2⟩;have hH2:ES w W2:=by rw [hW2];exact Z9.drewN q
  have HB2:Hid (Nf W2 kb):=by rw [hW2];exact Wl.out.drewN q
  refine hK.out _ _ hH2 (fun _=>?_);clear hK K Z9 hW2;have Z9:=hH2;clear hH2;clear Wl;have Wl:=HB2;clear HB2;refine ZS 12 rfl (by kernel_rfl) (fun K hK=>?_);go_simp
  go_at_call 51
  refine (C2.out _ Z9).mono ?_;rintro e W2 ⟨rfl,q,hW2⟩;have hH2:ES w W2:=by rw [hW2];exact Z9.drewN q
  have HB2:Hid (Nf W2 kb):=by rw [hW2];exact Wl.out.drewN q
  refine hK.out _ _ hH2 (fun _=>?_);clear hK K Z9 hW2;have Z9:=hH2;clear hH2;clear Wl;have Wl:=HB2;clear HB2;refine ZS 15 rfl (by kernel_rfl) (fun K hK=>?_);go_simp
  go_at_call 51
  refine (C3.out _ Z9).mono ?_;rintro e W2 ⟨rfl,q,hW2⟩;have hH2:ES w W2:=by rw [hW2];exact Z9.drewN q
  have HB2:Hid (Nf W2 kb):=by rw [hW2];exact Wl.out.drewN q
  refine hK.out _ _ hH2 (fun _=>?_);clear hK K Z9 hW2;have Z9:=hH2;clear hH2;clear Wl;have Wl:=HB2;clear HB2;refine ZA 16 (.agg #[.int .i64 (n0:Int),.int .i64 (Z:Int),.int .i64 (n2:Int),.int .i64 (n3:Int),.int .i64 (n4:Int)]) rfl (by kernel_rfl) (fun _=>id) Z9 (fun w' hSw=>?_) ?_
  · clear hSw
    go_simp
  refine ZS 18 rfl (by kernel_rfl) (fun K hK=>?_);obtain ⟨⟨y0,y1,y2,y3,y4,y5⟩,yf⟩:=Wl.out;have Y:=yf 0;have U:=yf 1;have T:=yf 2;have R:=yf 3;have Q:=yf 4;go_simp;have hF:=Z9.fill hkb (n0:Int) (Z:Int) (n2:Int) (n3:Int) (n4:Int);have XF:Hid (Kf _ kb (n0:Int) (Z:Int) (n2:Int) (n3:Int) (n4:Int)):=Wl.out.fill (n0:Int) (Z:Int) (n2:Int) (n3:Int) (n4:Int);refine hK.out _ _ hF (fun _=>?_);clear hK K Z9 Wl y0 y1 y2 y3 y4 y5 yf Y U T R Q;have EF:Hid (ES w _):=hF;clear hF;refine ZM (by kernel_rfl) ?_ _
  try simp only [Act.put,Zk,Zj,Zi]
  generalize (((((W2.setCell _ _).setCell _ _).setCell _ _).setCell _ _).setCell _ _)=WF at *
 rotate_left
 focus
  go_simp
  go_at_call 51
  refine (C0.out _ Z9).mono ?_;rintro e W2 ⟨rfl,q,hW2⟩;have hH2:ES w W2:=by rw [hW2];exact Z9.drewN q
  refine hK.out _ _ hH2 (fun _=>?_);clear hK K Z9 hW2;have Z9:=hH2;clear hH2;refine Wu 9 17 rfl rfl (by kernel_rfl) (fun K hK=>?_) (fun K hK=>?_)
  rotate_left
  focus
   go_simp;have hA:ES w (W2.alloc (.cells #[.int .i64 0,.int .i64 0,.int .i64 0,.int .i64 0,.int .i64 0] 30)):=Z9.keep (ZR.alloc ZW _);have Wl:=Z8 (Nf.new W2);have hkb:=Z9.2.2.2;refine hK.out _ _ hA (fun _=>?_);clear hK K Z9;have Z9:=hA;clear hA;generalize W2.heap.size=kb at *;generalize W2.alloc _=W3 at *;refine ZS 9 rfl (by kernel_rfl) (fun K hK=>?_);go_simp
   go_at_call 51
   refine (C1.out _ Z9).mono ?_;rintro e W2 ⟨rfl,q,hW2⟩;have hH2:ES w W2:=by rw [hW2];exact Z9.drewN q
   have HB2:Hid (Nf W2 kb):=by rw [hW2];exact Wl.out.drewN q
   refine hK.out _ _ hH2 (fun _=>?_);clear hK K Z9 hW2;have Z9:=hH2;clear hH2;clear Wl;have Wl:=HB2;clear HB2;refine ZS 12 rfl (by kernel_rfl) (fun K hK=>?_);go_simp
   go_at_call 51
   refine (C2.out _ Z9).mono ?_;rintro e W2 ⟨rfl,q,hW2⟩;have hH2:ES w W2:=by rw [hW2];exact Z9.drewN q
   have HB2:Hid (Nf W2 kb):=by rw [hW2];exact Wl.out.drewN q
   refine hK.out _ _ hH2 (fun _=>?_);clear hK K Z9 hW2;have Z9:=hH2;clear hH2;clear Wl;have Wl:=HB2;clear HB2;refine ZS 15 rfl (by kernel_rfl) (fun K hK=>?_);go_simp
   go_at_call 51
   refine (C3.out _ Z9).mono ?_;rintro e W2 ⟨rfl,q,hW2⟩;have hH2:ES w W2:=by rw [hW2];exact Z9.drewN q
   have HB2:Hid (Nf W2 kb):=by rw [hW2];exact Wl.out.drewN q
   refine hK.out _ _ hH2 (fun _=>?_);clear hK K Z9 hW2;have Z9:=hH2;clear hH2;clear Wl;have Wl:=HB2;clear HB2;refine ZA 16 (.agg #[.int .i64 (n0:Int),.int .i64 (Z:Int),.int .i64 (n2:Int),.int .i64 (n3:Int),.int .i64 (n4:Int)]) rfl (by kernel_rfl) (fun _=>id) Z9 (fun w' hSw=>?_) ?_
   · clear hSw
     go_simp
   refine ZS 18 rfl (by kernel_rfl) (fun K hK=>?_);obtain ⟨⟨y0,y1,y2,y3,y4,y5⟩,yf⟩:=Wl.out;have Y:=yf 0;have U:=yf 1;have T:=yf 2;have R:=yf 3;have Q:=yf 4;go_simp;have hF:=Z9.fill hkb (n0:Int) (Z:Int) (n2:Int) (n3:Int) (n4:Int);have XF:Hid (Kf _ kb (n0:Int) (Z:Int) (n2:Int) (n3:Int) (n4:Int)):=Wl.out.fill (n0:Int) (Z:Int) (n2:Int) (n3:Int) (n4:Int);refine hK.out _ _ hF (fun _=>?_);clear hK K Z9 Wl y0 y1 y2 y3 y4 y5 yf Y U T R Q;have EF:Hid (ES w _):=hF;clear hF;refine ZM (by kernel_rfl) ?_ _
   try simp only [Act.put,Zk,Zj,Zi]
   generalize (((((W2.setCell _ _).setCell _ _).setCell _ _).setCell _ _).setCell _ _)=WF at *
  rotate_left
  focus
   go_simp
   go_at_call 51
   refine (C1.out _ Z9).mono ?_;rintro e W2 ⟨rfl,q,hW2⟩;have hH2:ES w W2:=by rw [hW2];exact Z9.drewN q
   refine hK.out _ _ hH2 (fun _=>?_);clear hK K Z9 hW2;have Z9:=hH2;clear hH2;refine Wu 12 17 rfl rfl (by kernel_rfl) (fun K hK=>?_) (fun K hK=>?_)
   rotate_left
   focus
    go_simp;have hA:ES w (W2.alloc (.cells #[.int .i64 0,.int .i64 0,.int .i64 0,.int .i64 0,.int .i64 0] 30)):=Z9.keep (ZR.alloc ZW _);have Wl:=Z8 (Nf.new W2);have hkb:=Z9.2.2.2;refine hK.out _ _ hA (fun _=>?_);clear hK K Z9;have Z9:=hA;clear hA;generalize W2.heap.size=kb at *;generalize W2.alloc _=W3 at *;refine ZS 12 rfl (by kernel_rfl) (fun K hK=>?_);go_simp
    go_at_call 51
    refine (C2.out _ Z9).mono ?_;rintro e W2 ⟨rfl,q,hW2⟩;have hH2:ES w W2:=by rw [hW2];exact Z9.drewN q
    have HB2:Hid (Nf W2 kb):=by rw [hW2];exact Wl.out.drewN q
    refine hK.out _ _ hH2 (fun _=>?_);clear hK K Z9 hW2;have Z9:=hH2;clear hH2;clear Wl;have Wl:=HB2;clear HB2;refine ZS 15 rfl (by kernel_rfl) (fun K hK=>?_);go_simp
    go_at_call 51
    refine (C3.out _ Z9).mono ?_;rintro e W2 ⟨rfl,q,hW2⟩;have hH2:ES w W2:=by rw [hW2];exact Z9.drewN q
    have HB2:Hid (Nf W2 kb):=by rw [hW2];exact Wl.out.drewN q
    refine hK.out _ _ hH2 (fun _=>?_);clear hK K Z9 hW2;have Z9:=hH2;clear hH2;clear Wl;have Wl:=HB2;clear HB2;refine ZA 16 (.agg #[.int .i64 (n0:Int),.int .i64 (Z:Int),.int .i64 (n2:Int),.int .i64 (n3:Int),.int .i64 (n4:Int)]) rfl (by kernel_rfl) (fun _=>id) Z9 (fun w' hSw=>?_) ?_
    · clear hSw
      go_simp
    refine ZS 18 rfl (by kernel_rfl) (fun K hK=>?_);obtain ⟨⟨y0,y1,y2,y3,y4,y5⟩,yf⟩:=Wl.out;have Y:=yf 0;have U:=yf 1;have T:=yf 2;have R:=yf 3;have Q:=yf 4;go_simp;have hF:=Z9.fill hkb (n0:Int) (Z:Int) (n2:Int) (n3:Int) (n4:Int);have XF:Hid (Kf _ kb (n0:Int) (Z:Int) (n2:Int) (n3:Int) (n4:Int)):=Wl.out.fill (n0:Int) (Z:Int) (n2:Int) (n3:Int) (n4:Int);refine hK.out _ _ hF (fun _=>?_);clear hK K Z9 Wl y0 y1 y2 y3 y4 y5 yf Y U T R Q;have EF:Hid (ES w _):=hF;clear hF;refine ZM (by kernel_rfl) ?_ _
    try simp only [Act.put,Zk,Zj,Zi]
    generalize (((((W2.setCell _ _).setCell _ _).setCell _ _).setCell _ _).setCell _ _)=WF at *
   rotate_left
   focus
    go_simp
    go_at_call 51
    refine (C2.out _ Z9).mono ?_;rintro e W2 ⟨rfl,q,hW2⟩;have hH2:ES w W2:=by rw [hW2];exact Z9.drewN q
    refine hK.out _ _ hH2 (fun _=>?_);clear hK K Z9 hW2;have Z9:=hH2;clear hH2;refine Wu 15 17 rfl rfl (by kernel_rfl) (fun K hK=>?_) (fun K hK=>?_)
    rotate_left
    focus
     go_simp;have hA:ES w (W2.alloc (.cells #[.int .i64 0,.int .i64 0,.int .i64 0,.int .i64 0,.int .i64 0] 30)):=Z9.keep (ZR.alloc ZW _);have Wl:=Z8 (Nf.new W2);have hkb:=Z9.2.2.2;refine hK.out _ _ hA (fun _=>?_);clear hK K Z9;have Z9:=hA;clear hA;generalize W2.heap.size=kb at *;generalize W2.alloc _=W3 at *;refine ZS 15 rfl (by kernel_rfl) (fun K hK=>?_);go_simp
     go_at_call 51
     refine (C3.out _ Z9).mono ?_;rintro e W2 ⟨rfl,q,hW2⟩;have hH2:ES w W2:=by rw [hW2];exact Z9.drewN q
     have HB2:Hid (Nf W2 kb):=by rw [hW2];exact Wl.out.drewN q
     refine hK.out _ _ hH2 (fun _=>?_);clear hK K Z9 hW2;have Z9:=hH2;clear hH2;clear Wl;have Wl:=HB2;clear HB2;refine ZA 16 (.agg #[.int .i64 (n0:Int),.int .i64 (Z:Int),.int .i64 (n2:Int),.int .i64 (n3:Int),.int .i64 (n4:Int)]) rfl (by kernel_rfl) (fun _=>id) Z9 (fun w' hSw=>?_) ?_
     · clear hSw
       go_simp
     refine ZS 18 rfl (by kernel_rfl) (fun K hK=>?_);obtain ⟨⟨y0,y1,y2,y3,y4,y5⟩,yf⟩:=Wl.out;have Y:=yf 0;have U:=yf 1;have T:=yf 2;have R:=yf 3;have Q:=yf 4;go_simp;have hF:=Z9.fill hkb (n0:Int) (Z:Int) (n2:Int) (n3:Int) (n4:Int);have XF:Hid (Kf _ kb (n0:Int) (Z:Int) (n2:Int) (n3:Int) (n4:Int)):=Wl.out.fill (n0:Int) (Z:Int) (n2:Int) (n3:Int) (n4:Int);refine hK.out _ _ hF (fun _=>?_);clear hK K Z9 Wl y0 y1 y2 y3 y4 y5 yf Y U T R Q;have EF:Hid (ES w _):=hF;clear hF;refine ZM (by kernel_rfl) ?_ _
     try simp only [Act.put,Zk,Zj,Zi]
     generalize (((((W2.setCell _ _).setCell _ _).setCell _ _).setCell _ _).setCell _ _)=WF at *
    rotate_left
    focus
     go_simp
     go_at_call 51
     refine (C3.out _ Z9).mono ?_;rintro e W2 ⟨rfl,q,hW2⟩;have hH2:ES w W2:=by rw [hW2];exact Z9.drewN q
     refine hK.out _ _ hH2 (fun _=>?_);clear hK K Z9 hW2;have Z9:=hH2;clear hH2;refine ZV (.agg #[.int .i64 (n0:Int),.int .i64 (Z:Int),.int .i64 (n2:Int),.int .i64 (n3:Int),.int .i64 (n4:Int)]) (by kernel_rfl) (fun _=>id) Z9 (fun w' hSw=>?_) ?_
     · clear hSw
       go_simp
     refine ZS 17 rfl (by kernel_rfl) (fun K hK=>?_);go_simp;have hA:ES w (W2.alloc (.cells #[.int .i64 0,.int .i64 0,.int .i64 0,.int .i64 0,.int .i64 0] 30)):=Z9.keep (ZR.alloc ZW _);have Wl:=Z8 (Nf.new W2);have hkb:=Z9.2.2.2;refine hK.out _ _ hA (fun _=>?_);clear hK K Z9;have Z9:=hA;clear hA;generalize W2.heap.size=kb at *;generalize W2.alloc _=W3 at *;refine ZS 18 rfl (by kernel_rfl) (fun K hK=>?_);obtain ⟨⟨y0,y1,y2,y3,y4,y5⟩,yf⟩:=Wl.out;have Y:=yf 0;have U:=yf 1;have T:=yf 2;have R:=yf 3;have Q:=yf 4;go_simp;have hF:=Z9.fill hkb (n0:Int) (Z:Int) (n2:Int) (n3:Int) (n4:Int);have XF:Hid (Kf _ kb (n0:Int) (Z:Int) (n2:Int) (n3:Int) (n4:Int)):=Wl.out.fill (n0:Int) (Z:Int) (n2:Int) (n3:Int) (n4:Int);refine hK.out _ _ hF (fun _=>?_);clear hK K Z9 Wl y0 y1 y2 y3 y4 y5 yf Y U T R Q;have EF:Hid (ES w _):=hF;clear hF;refine ZM (by kernel_rfl) ?_ _
     try simp only [Act.put,Zk,Zj,Zi]
     generalize (((((W3.setCell _ _).setCell _ _).setCell _ _).setCell _ _).setCell _ _)=WF at *
 all_goals
  clear C0 C1 C2 C3 C8 Yz Zh Zd Y' rT Y9 Y8 hw8 hcap hcm;obtain ⟨sk,y0,y1,y2,y3,y4⟩:=XF.out
  go_wp2_with fail
  refine (Mv _ (n0:Int) (Z:Int) (n2:Int) (n3:Int) (n4:Int) HG.out).mono ?_;rintro e W7 ⟨v6,rfl,o6,b6⟩;have E6:=Z8 (EF.out.keep b6);have X6:=Z8 (XF.out.below b6 sk);have O6:=Z8 o6;have Ft:=Z8 (HR.out.below E6.out.1);clear sk y0 y1 y2 y3 y4 o6 b6 EF XF
  go_wp2_with fail
  refine (UW _ _ _ (sup (n0:Int) (Z:Int) (n2:Int) (n3:Int) (n4:Int)) ys O6.out.rd Ft.out (Ee _ _ _ _ _) Xe.out).mono ?_;rintro e W8 ⟨rfl,rfl⟩;have B7:=Z8 E6.out.1;obtain ⟨x0,x1,x2,x3,x4,x5⟩:=E6.out.2.1;obtain ⟨-,y0,y1,y2,y3,y4⟩:=X6.out;have f0:=E6.out.2.2.1 0;have f1:=E6.out.2.2.1 1;have f2:=E6.out.2.2.1 2;have f3:=E6.out.2.2.1 3;have f4:=E6.out.2.2.1 4;have f5:=E6.out.2.2.1 5
  by_cases hd:sup (n0:Int) (Z:Int) (n2:Int) (n3:Int) (n4:Int)=ys
  · have Da:Hid (UM ys=.agg #[.bool true,.int .i64 (n0:Int),.int .i64 (Z:Int),.int .i64 (n2:Int),.int .i64 (n3:Int),.int .i64 (n4:Int)]):=by show _=_;rw [vV.out,ZY hd]
    rw [YS hd];clear hd vV;go_wp2;have BW:=(((((B7.out.setCell (p:=⟨w.heap.size,0,none⟩) ZW (.bool true)).setCell (p:=⟨w.heap.size,1,none⟩) ZW (.int .i64 (n0:Int))).setCell (p:=⟨w.heap.size,2,none⟩) ZW (.int .i64 (Z:Int))).setCell (p:=⟨w.heap.size,3,none⟩) ZW (.int .i64 (n2:Int))).setCell (p:=⟨w.heap.size,4,none⟩) ZW (.int .i64 (n3:Int))).setCell (p:=⟨w.heap.size,5,none⟩) ZW (.int .i64 (n4:Int));refine ZT (v:=.agg #[.bool true,.int .i64 (n0:Int),.int .i64 (Z:Int),.int .i64 (n2:Int),.int .i64 (n3:Int),.int .i64 (n4:Int)]) (by simp [results,Tryz.results17,go_sem,x0,x1,x2,x3,x4,x5]) rfl ⟨by rw [Da.out],BW⟩
  have Da:Hid (UM ys=zeroV):=by show _=_;rw [vV.out,Z3 hd]
  rw [Zl hd];clear hd vV;go_wp2;have BW:=(((((B7.out.setCell (p:=⟨w.heap.size,0,none⟩) ZW (.bool false)).setCell (p:=⟨w.heap.size,1,none⟩) ZW (.int .i64 0)).setCell (p:=⟨w.heap.size,2,none⟩) ZW (.int .i64 0)).setCell (p:=⟨w.heap.size,3,none⟩) ZW (.int .i64 0)).setCell (p:=⟨w.heap.size,4,none⟩) ZW (.int .i64 0)).setCell (p:=⟨w.heap.size,5,none⟩) ZW (.int .i64 0);refine ZT (v:=.agg #[.bool false,.int .i64 0,.int .i64 0,.int .i64 0,.int .i64 0,.int .i64 0]) (by simp [results,Tryz.results17,go_sem,x0,x1,x2,x3,x4,x5]) rfl ⟨by rw [Da.out];rfl,BW⟩
theorem yO (h:YL ys) (hl:ys.length=64) (hx:127<ys.getD 0 0):UM ys=zeroV:=by
 unfold UM;rw [Z3]
 · rfl
 intro hd;have hg:nG ys<0:=by
  unfold nG
  match ys,hl with
  | a :: b :: c :: d :: e :: f :: g :: i :: rest,_ =>
   have h0:=h a (by simp);have h1:=h b (by simp);have h2:=h c (by simp);have h3:=h d (by simp);have h4:=h e (by simp);have h5:=h f (by simp);have h6:=h g (by simp);have h7:=h i (by simp)
   simp at hx
   simp [YV]
   unfold wrap64;omega
 have hs:=hd.2;unfold sup at hs;rw [Z3 (by unfold VP;simp;omega)] at hs;rw [←hs] at hl
 simp at hl
theorem Hk (w:World) (v:Value) (ys:List Int) (h:Rd .u8 w v ys) (hby:YL ys) :
    Calls Tryz.prog 17 #[v] w (Ze w (UM ys)):=by
 obtain ⟨ao,cap,rfl,h1,h2,h3⟩:=h
 by_cases hl:ys.length=64
 · rcases h3 with rfl | ⟨b,o,rfl,hb,hc⟩
   · simp at hl
   obtain ⟨x,hx,hxe⟩:=Wr hby 0;have c0:w.cell? ⟨b,o,none⟩=some (.int .u8 (x:Int)):=by have:=hc 0 (by omega);rw [hxe] at this;exact this
   rw [hl] at h1 hc ⊢
   by_cases hx7:x≤127
   · exact Hl w b o cap x ys hl hb hc h1 h2 c0 hx7 hxe hby
   rw [yO hby hl (by rw [hxe];omega)];exact JV w b o cap x hb c0 (by omega)
 have e:UM ys=zeroV:=by unfold UM;rw [Z3 (fun h=>hl h.1)];rfl
 rw [e];exact Hm w ao _ cap hl
end Go.Proofs.YtmmmffcbfepghaaGreatDoor
