import Derived.Test.YtpmjnbmkippaiaaGreatDoorJ15
import Derived.Lib.SplitLaws
set_option maxRecDepth 100000
set_option maxHeartbeats 16000000
set_option linter.unusedVariables false
set_option linter.unusedSimpArgs false
namespace Go.Proofs.YtpmjnbmkippaiaaGreatDoor
section
open Go.RowKit Go.Shelf
variable {s:ByteArray} {m:Int} {C:List (Nat × Value)} {L:List ByteArray} {S i j n:Nat} {P:Program} {κ:Sc} {e k t te:TypeId} {pe:Value} {W w w':World}
theorem jR (b:ByteArray):Xg b=true↔b=⟨#[59]⟩:=by
 unfold Xg;rw [Pt]
 constructor
 · intro h
   rw [←QF b,ZK.1 h];rfl
 rintro rfl;rfl
theorem AK (L:List ByteArray):Lib.containsS L ⟨#[59]⟩=L.any Xg:=by
 cases h:L.any Xg with
 | true =>
  obtain ⟨x,hx,e⟩:=pQ.1 h;rw [(jR x).1 e] at hx;exact (Lib.containsS_iff _ _).2 hx
 | false =>
  cases h2:Lib.containsS L ⟨#[59]⟩ with
  | false=>rfl
  | true=>exact absurd ((jR _).2 rfl) (List.any_eq_false.1 h _ ((Lib.containsS_iff _ _).1 h2))
theorem AJ (h:WO (ZE L 0)=none):TY L=none:=by
 unfold WO at h
 repeat' split at h
 all_goals first | (cases h;done) | skip
 rename_i h1 h2 h3 h4 h5;unfold TY MH MG;rw [Z1 h1,Z1 h2,Z1 h3,Z1 h5,Z1 h4]
 repeat' split
 all_goals rfl
theorem vQ (ha:L.any Xg=false) {k:Int} {s d v:Bool} (h:WO (ZE L 0)=some (k,s,d,v)) :
    (d=true∧v=false∧TY L=if L.length=3 then some ⟨k,ZE L 1,RI (ZE L 2),0,s⟩ else none) ∨
    (d=false∧v=true∧TY L=if L.length=3 then (WC (ZE L 2).data.toList).map (fun x=>⟨k,ZE L 1,⟨#[]⟩,x,s⟩) else none) ∨
    (d=true∧v=true∧TY L=if L.length=4 then (WC (ZE L 3).data.toList).map (fun x=>⟨k,ZE L 1,RI (ZE L 2),x,s⟩) else none):=by
 have hop:TY L=if L.length=3 then MH (ZE L 0) (ZE L 1) (ZE L 2) else if L.length=4 then MG (ZE L 0) (ZE L 1) (ZE L 2) (ZE L 3) else none:=by
  unfold TY;rw [Z1 (by rw [ha];decide)]
 rw [hop];generalize ZE L 0=f0 at *;unfold WO at h
 split at h
 · rename_i h1
   injection h with h;injection h with h0 h;injection h with h2 h;injection h with h3 h4
   subst h0 h2 h3 h4;refine .inl ⟨rfl,rfl,?_⟩;have e:=ZK.1 h1;unfold MH MG
   simp [e]
 split at h
 · rename_i h1
   injection h with h;injection h with h0 h;injection h with h2 h;injection h with h3 h4
   subst h0 h2 h3 h4;refine .inl ⟨rfl,rfl,?_⟩;have e:=ZK.1 h1;unfold MH MG
   simp [e]
 split at h
 · rename_i h1
   injection h with h;injection h with h0 h;injection h with h2 h;injection h with h3 h4
   subst h0 h2 h3 h4;refine .inr (.inl ⟨rfl,rfl,?_⟩);have e:=ZK.1 h1;unfold MH MG
   simp [e]
 split at h
 · rename_i h1
   injection h with h;injection h with h0 h;injection h with h2 h;injection h with h3 h4
   subst h0 h2 h3 h4;refine .inr (.inr ⟨rfl,rfl,?_⟩);have e:=ZK.1 h1;unfold MH MG
   simp [e]
   intro h9;omega
 split at h
 · rename_i h1
   injection h with h;injection h with h0 h;injection h with h2 h;injection h with h3 h4
   subst h0 h2 h3 h4;refine .inr (.inl ⟨rfl,rfl,?_⟩);have e:=ZK.1 h1;unfold MH MG
   simp [e]
 cases h
theorem GM (w:World) (b o cap:Nat) (L:List ByteArray) (hL:0<L.length) (qt:L.length≤cap) (hc:cap≤maxLen) (hsz:m6 L) (hcl:∀i,i<L.length→w.cell? ⟨b,o+i,none⟩=some (.string (ZE L i))) (hb:b<w.heap.size) (hg:AQ w m te pe) (hf:uu w) :
    Calls Tryz.prog 101 #[.slice (some ⟨b,o,none⟩) L.length cap] w fun e w'=>ME w L e w':=by
 unfold maxLen at hc;have bA:ZX w (w.alloc (.cells #[.int .i64 0,.string ⟨#[]⟩,.string ⟨#[]⟩,.int .i64 0,.bool false] 159)):=ZJ.alloc ZT _;have BA:=Z3 bA;have X:=Z3 (St.new w #[.int .i64 0,.string ⟨#[]⟩,.string ⟨#[]⟩,.int .i64 0,.bool false] 159);have UH:Hid (∀i,i<L.length→(w.alloc (.cells #[.int .i64 0,.string ⟨#[]⟩,.string ⟨#[]⟩,.int .i64 0,.bool false] 159)).cell? ⟨b,o+i,none⟩=some (.string (ZE L i))):=fun i hi=>(bA.cell (p:=⟨b,o+i,none⟩) hb).trans (hcl i hi)
 have Pm:=Z3 hsz;have HG:=Z3 (hg.later bA);have HF:=Z3 (hf.later bA);have sB:w.heap.size+1=(w.alloc (.cells #[.int .i64 0,.string ⟨#[]⟩,.string ⟨#[]⟩,.int .i64 0,.bool false] 159)).heap.size:=by simp
 have hcs:=Tryz.slices_Contains_string b o L.length cap L ⟨#[59]⟩ (w.alloc (.cells #[.int .i64 0,.string ⟨#[]⟩,.string ⟨#[]⟩,.int .i64 0,.bool false] 159)) ZT (by omega) UH.out;rw [Rw,AK] at hcs;have HC:=Z3 hcs;have H4:Hid (7<w.heap.size):=YJ w _ hg.es;have H3:Hid (1<w.heap.size):=YJ w _ hg.mx;have hn0:(((L.length:Nat):Int) == 0)=false:=Mi (by omega);have hp0:(0:Int)<((L.length:Nat):Int):=by omega
 clear bA hcl hsz hcs hg hf
 cases hany:L.any Xg with
 | true =>
  have WG:Hid (TY L=none):=by show _=_;unfold TY;rw [ZZ hany]
  rw [hany] at HC;clear hany UH
  go_enter Tryz.func101,Tryz.ntmps101
  go_wp2_with fail
  refine HC.out.mono ?_;rintro e w2 ⟨rfl,hw2⟩;subst hw2;generalize w.alloc _=w1 at *;have x0:=X.out.fz;have y0:=X.out.cl 0 _ rfl;have y1:=X.out.cl 1 _ rfl;have y2:=X.out.cl 2 _ rfl;have y3:=X.out.cl 3 _ rfl;have y4:=X.out.cl 4 _ rfl
  go_wp2_with fail
  obtain ⟨b9,x9⟩:=U5 BA.out X.out ⟨0,⟨#[]⟩,⟨#[]⟩,0,false⟩;have d0:=x9.cl 0 _ rfl;have d1:=x9.cl 1 _ rfl;have d2:=x9.cl 2 _ rfl;have d3:=x9.cl 3 _ rfl;have d4:=x9.cl 4 _ rfl;exact ZS (v:=.tuple #[Qx ⟨0,⟨#[]⟩,⟨#[]⟩,0,false⟩,.bool false]) (by simp [results,Tryz.results101,go_sem,Qx,d0,d1,d2,d3,d4]) rfl (ME.no WG.out b9)
 | false =>
  rw [hany] at HC;have ZQ:=Z3 hany;have c0:=UH.out 0 hL;rw [Wi] at c0;have ZM:=Z3 (Ey _ (ZE L 0) HF.out);clear hany HF
  go_enter Tryz.func101,Tryz.ntmps101
  go_wp2_with fail
  refine HC.out.mono ?_;rintro e w2 ⟨rfl,hw2⟩;subst hw2;generalize w.alloc _=w1 at *
  go_wp2_with fail
  refine ZM.out.mono ?_;rintro e w2 ⟨b2,wd,k,s,d,v,known,rfl,hkn,hfr⟩;have s2:=b2.size;have bF:ZX w2 (w2.alloc (.cells #[.string wd,.int .i64 k,.bool s,.bool d,.bool v] 226)):=ZJ.alloc ZT _;have Z2:=YV b2 bF
  replace X:=Z3 (X.out.below Z2)
  replace BA:=Z3 (YV BA.out Z2)
  replace UH:Hid (∀i,i<L.length→(w2.alloc (.cells #[.string wd,.int .i64 k,.bool s,.bool d,.bool v] 226)).cell? ⟨b,o+i,none⟩=some (.string (ZE L i))):=fun i hi=>(Z2.cell (p:=⟨b,o+i,none⟩) (by show b<_;omega)).trans (UH.out i hi)
  replace HG:=Z3 (HG.out.later Z2)
  have XF:=Z3 (St.new w2 #[.string wd,.int .i64 k,.bool s,.bool d,.bool v] 226);have sF:w2.heap.size<(w2.alloc (.cells #[.string wd,.int .i64 k,.bool s,.bool d,.bool v] 226)).heap.size:=by simp
  clear Z2 bF ZM HC b2 c0
  cases known with
  | false =>
   have WG:Hid (TY L=none):=AJ (by cases hx:WO (ZE L 0) with | none=>rfl | some x=>rw [hx] at hkn;cases hkn);clear hkn hfr;have x0:=X.out.fz;have y0:=X.out.cl 0 _ rfl;have y1:=X.out.cl 1 _ rfl;have y2:=X.out.cl 2 _ rfl;have y3:=X.out.cl 3 _ rfl;have y4:=X.out.cl 4 _ rfl
   go_wp2_with fail
   obtain ⟨b9,x9⟩:=U5 BA.out X.out ⟨0,⟨#[]⟩,⟨#[]⟩,0,false⟩;have d0:=x9.cl 0 _ rfl;have d1:=x9.cl 1 _ rfl;have d2:=x9.cl 2 _ rfl;have d3:=x9.cl 3 _ rfl;have d4:=x9.cl 4 _ rfl;exact ZS (v:=.tuple #[Qx ⟨0,⟨#[]⟩,⟨#[]⟩,0,false⟩,.bool false]) (by simp [results,Tryz.results101,go_sem,Qx,d0,d1,d2,d3,d4]) rfl (ME.no WG.out b9)
  | true =>
   obtain ⟨⟨k9,s9,d9,v9⟩,hx⟩:=Option.isSome_iff_exists.1 hkn.symm;have hy:=hfr _ hx
   injection hy with q0 hy;injection hy with q1 hy;injection hy with q2 q3
   subst q0 q1 q2 q3;have Z':=Z3 (vQ ZQ.out hx);clear hkn hfr hx ZQ
   go_wp2_with fail
   generalize w2.alloc _=w3 at *;refine (Nk _ wd k9 s9 d9 v9).mono ?_;rintro e w4 ⟨rfl,b4⟩;have s4:=b4.size
   replace X:=Z3 (X.out.below b4)
   replace XF:=Z3 (XF.out.below b4)
   replace BA:=Z3 (YV BA.out b4)
   replace UH:Hid (∀i,i<L.length→w4.cell? ⟨b,o+i,none⟩=some (.string (ZE L i))):=fun i hi=>(b4.cell (p:=⟨b,o+i,none⟩) (by show b<_;omega)).trans (UH.out i hi)
   replace HG:=Z3 (HG.out.later b4)
   clear b4;obtain ⟨c9,jQ⟩:∃c9:Int,c9=2+(if d9=true then 1 else 0)+(if v9=true then 1 else 0):=⟨_,rfl⟩;rw [←jQ];have B:=Z3 jQ;clear jQ;have sA:w.heap.size+1≤w4.heap.size:=by omega
   by_cases hln:((L.length:Nat):Int)=c9
   case neg =>
    have hne:(((L.length:Nat):Int) != c9)=true:=by simpa using hln
    have WG:Hid (TY L=none):=by
     show _=_;have h9:=B.out
     rcases Z'.out with ⟨rfl,rfl,h⟩ | ⟨rfl,rfl,h⟩ | ⟨rfl,rfl,h⟩
     all_goals (simp at h9;rw [h,Z1 (by omega)])
    clear Z' B hln;have x0:=X.out.fz;have y0:=X.out.cl 0 _ rfl;have y1:=X.out.cl 1 _ rfl;have y2:=X.out.cl 2 _ rfl;have y3:=X.out.cl 3 _ rfl;have y4:=X.out.cl 4 _ rfl
    go_wp2_with fail
    obtain ⟨b9,x9⟩:=U5 BA.out X.out ⟨0,⟨#[]⟩,⟨#[]⟩,0,false⟩;have d0:=x9.cl 0 _ rfl;have d1:=x9.cl 1 _ rfl;have d2:=x9.cl 2 _ rfl;have d3:=x9.cl 3 _ rfl;have d4:=x9.cl 4 _ rfl;exact ZS (v:=.tuple #[Qx ⟨0,⟨#[]⟩,⟨#[]⟩,0,false⟩,.bool false]) (by simp [results,Tryz.results101,go_sem,Qx,d0,d1,d2,d3,d4]) rfl (ME.no WG.out b9)
   case pos =>
    have hne:(((L.length:Nat):Int) != c9)=false:=by simp [hln]
    have hL3:3≤L.length:=by
     have h9:=B.out
     rcases Z'.out with ⟨rfl,rfl,h⟩ | ⟨rfl,rfl,h⟩ | ⟨rfl,rfl,h⟩
     all_goals (simp at h9;omega)
    have hp1:(1:Int)<((L.length:Nat):Int):=by omega
    have hp2:(2:Int)<((L.length:Nat):Int):=by omega
    have To:=Z3 hln;clear hln
    go_wp2_with fail
    clear hne;have bD:ZX w4 w4.drew:=below_drewN' w4 1;refine ZH (S:=fun W=>W.cell? ⟨w2.heap.size,1,none⟩=some (.int .i64 k9)∧W.cell? ⟨w2.heap.size,2,none⟩=some (.bool s9)∧W.cell? ⟨b,o+1,none⟩=some (.string (ZE L 1))) (by kernel_rfl) ⟨(XF.out.below bD).cl 1 _ rfl,(XF.out.below bD).cl 2 _ rfl,(bD.cell (p:=⟨b,o+1,none⟩) (by show b<_;omega)).trans (UH.out 1 (by omega))⟩ (fun Z9=>?_)
    replace X:=Z3 (X.out.below bD)
    replace XF:=Z3 (XF.out.below bD)
    replace BA:=Z3 (YV BA.out bD)
    replace UH:Hid (∀i,i<L.length→w4.drew.cell? ⟨b,o+i,none⟩=some (.string (ZE L i))):=fun i hi=>(bD.cell (p:=⟨b,o+i,none⟩) (by show b<_;omega)).trans (UH.out i hi)
    replace HG:=Z3 (HG.out.later bD)
    have s5:=bD.size;clear bD;generalize w4.drew=m0 at *
    iterate 8 (refine ZW ?_ (by kernel_rfl) (fun _=>id) Z9 ?_ ?_;rotate_left;· intro w9 Z0;obtain ⟨k0,k1,k2⟩:=Z0;go_simp;try with_reducible rfl)
    refine ZU 8 rfl (by kernel_rfl) (fun K hK=>?_);go_simp;have ZY:=XF.out.lt;have ZR:ZX m0 (m0.alloc (.cells #[.int .i64 0,.string ⟨#[]⟩,.string ⟨#[]⟩,.int .i64 0,.bool false] 159)):=ZJ.alloc ZT _;refine hK.out _ _ ⟨(ZR.cell (p:=⟨w2.heap.size,1,none⟩) ZY).trans Z9.1,(ZR.cell (p:=⟨w2.heap.size,2,none⟩) ZY).trans Z9.2.1,(ZR.cell (p:=⟨b,o+1,none⟩) (by show b<_;omega)).trans Z9.2.2⟩ (fun PW=>?_);clear hK K ZR PW;have bG:ZX m0 (m0.alloc (.cells #[.int .i64 k9,.string (ZE L 1),.string ⟨#[]⟩,.int .i64 0,.bool s9] 159)):=ZJ.alloc ZT _;refine ZU 9 rfl (by kernel_rfl) (fun K hK=>?_);go_simp;refine hK.out _ _ ⟨(bG.cell (p:=⟨w2.heap.size,1,none⟩) ZY).trans Z9.1,(bG.cell (p:=⟨w2.heap.size,2,none⟩) ZY).trans Z9.2.1,(bG.cell (p:=⟨b,o+1,none⟩) (by show b<_;omega)).trans Z9.2.2⟩ (fun PW=>?_);clear hK K PW;refine ZP (by kernel_rfl) ?_ _
    try simp only [Act.put,Y8,Y7,Y6]
    clear Z9;have N:=Z3 (St.new m0 #[.int .i64 k9,.string (ZE L 1),.string ⟨#[]⟩,.int .i64 0,.bool s9] 159)
    replace X:=Z3 (X.out.below bG)
    replace XF:=Z3 (XF.out.below bG)
    replace BA:=Z3 (YV BA.out bG)
    replace UH:Hid (∀i,i<L.length→(m0.alloc (.cells #[.int .i64 k9,.string (ZE L 1),.string ⟨#[]⟩,.int .i64 0,.bool s9] 159)).cell? ⟨b,o+i,none⟩=some (.string (ZE L i))):=fun i hi=>(bG.cell (p:=⟨b,o+i,none⟩) (by show b<_;omega)).trans (UH.out i hi)
    replace HG:=Z3 (HG.out.later bG)
    have sG:=bG.size;clear bG ZY;have sX:w.heap.size<m0.heap.size:=by omega
    have sY:w2.heap.size<m0.heap.size:=by omega
    have Zx:b<m0.heap.size:=by omega
    generalize m0.alloc _=m1 at *;have c2:=UH.out 2 (by omega);have z3:=XF.out.cl 3 _ rfl;have z4:=XF.out.cl 4 _ rfl
    rcases Z'.out with ⟨rfl,rfl,hop⟩ | ⟨rfl,rfl,hop⟩ | ⟨rfl,rfl,hop⟩
    · have hl3:L.length=3:=by have h9:=B.out;have h8:=To.out;simp at h9;omega
      have WG:Hid (TY L=some ⟨k9,ZE L 1,RI (ZE L 2),0,s9⟩):=hop.trans (ZZ hl3);clear hop hl3 Z' B To
      cases hd2:(ZE L 2).toList == [45] with
      | true =>
       have HD:Hid (RI (ZE L 2)=⟨#[]⟩):=ZZ hd2;rw [HD.out] at WG;have xf:=X.out.fz;have x0:=X.out.cl 0 _ rfl;have x1:=X.out.cl 1 _ rfl;have x2:=X.out.cl 2 _ rfl;have x3:=X.out.cl 3 _ rfl;have x4:=X.out.cl 4 _ rfl;have gf:=N.out.fz;have g0:=N.out.cl 0 _ rfl;have g1:=N.out.cl 1 _ rfl;have g2:=N.out.cl 2 _ rfl;have g3:=N.out.cl 3 _ rfl;have g4:=N.out.cl 4 _ rfl
       go_wp2_with fail
       obtain ⟨b9,x9⟩:=U5 BA.out X.out ⟨k9,ZE L 1,⟨#[]⟩,0,s9⟩;have d0:=x9.cl 0 _ rfl;have d1:=x9.cl 1 _ rfl;have d2:=x9.cl 2 _ rfl;have d3:=x9.cl 3 _ rfl;have d4:=x9.cl 4 _ rfl;exact ZS (v:=.tuple #[Qx ⟨k9,ZE L 1,⟨#[]⟩,0,s9⟩,.bool true]) (by simp [results,Tryz.results101,go_sem,Qx,d0,d1,d2,d3,d4]) rfl (ME.yes WG.out b9)
      | false =>
       have HD:Hid (RI (ZE L 2)=ZE L 2):=Z1 (by rw [hd2];decide);rw [HD.out] at WG;have xf:=X.out.fz;have x0:=X.out.cl 0 _ rfl;have x1:=X.out.cl 1 _ rfl;have x2:=X.out.cl 2 _ rfl;have x3:=X.out.cl 3 _ rfl;have x4:=X.out.cl 4 _ rfl;have gf:=N.out.fz;have g0:=N.out.cl 0 _ rfl;have g1:=N.out.cl 1 _ rfl;have g2:=N.out.cl 2 _ rfl;have g3:=N.out.cl 3 _ rfl;have g4:=N.out.cl 4 _ rfl
       go_wp2_with fail
       have X9:=Z3 (X.out.other (c:=m0.heap.size) (j:=2) (x:=.string (ZE L 2)) (by omega));have B9:=Z3 (BA.out.setCell (p:=⟨m0.heap.size,2,none⟩) (by show _≤m0.heap.size;omega) (.string (ZE L 2)));obtain ⟨b9,x9⟩:=U5 B9.out X9.out ⟨k9,ZE L 1,ZE L 2,0,s9⟩;have d0:=x9.cl 0 _ rfl;have d1:=x9.cl 1 _ rfl;have d2:=x9.cl 2 _ rfl;have d3:=x9.cl 3 _ rfl;have d4:=x9.cl 4 _ rfl;exact ZS (v:=.tuple #[Qx ⟨k9,ZE L 1,ZE L 2,0,s9⟩,.bool true]) (by simp [results,Tryz.results101,go_sem,Qx,d0,d1,d2,d3,d4]) rfl (ME.yes WG.out b9)
    · have hl3:L.length=3:=by have h9:=B.out;have h8:=To.out;simp at h9;omega
      have WG:Hid (TY L=(WC (ZE L 2).data.toList).map (fun x=>⟨k9,ZE L 1,⟨#[]⟩,x,s9⟩)):=hop.trans (ZZ hl3);have hsb:((L.length:Nat):Int) - 1=2:=by omega
      clear hop hl3 Z' B To
      go_wp2_with fail
      clear hsb z3 z4 c2;refine (WK (ZE L 2) m1 (Pm.out 2) HG.out).mono ?_;rintro e n2 ⟨vv,ok,rfl,b2,hok,hvv⟩
      replace X:=Z3 (X.out.below b2)
      replace N:=Z3 (N.out.below b2)
      replace BA:=Z3 (YV BA.out b2)
      have sN:=b2.size;have HQ:=Z3 (And.intro hok hvv);clear b2 hok hvv
      cases ok with
      | false =>
       have D:Hid (TY L=none):=by
        show _=_;rw [WG.out]
        cases hx:WC (ZE L 2).data.toList with
        | none=>rfl
        | some x=>have:=HQ.out.1;rw [hx] at this;cases this
       clear WG HQ;have xf:=X.out.fz;have x0:=X.out.cl 0 _ rfl;have x1:=X.out.cl 1 _ rfl;have x2:=X.out.cl 2 _ rfl;have x3:=X.out.cl 3 _ rfl;have x4:=X.out.cl 4 _ rfl
       go_wp2_with fail
       obtain ⟨b9,x9⟩:=U5 BA.out X.out ⟨0,⟨#[]⟩,⟨#[]⟩,0,false⟩;have d0:=x9.cl 0 _ rfl;have d1:=x9.cl 1 _ rfl;have d2:=x9.cl 2 _ rfl;have d3:=x9.cl 3 _ rfl;have d4:=x9.cl 4 _ rfl;exact ZS (v:=.tuple #[Qx ⟨0,⟨#[]⟩,⟨#[]⟩,0,false⟩,.bool false]) (by simp [results,Tryz.results101,go_sem,Qx,d0,d1,d2,d3,d4]) rfl (ME.no D.out b9)
      | true =>
       have D:Hid (TY L=some ⟨k9,ZE L 1,⟨#[]⟩,vv,s9⟩):=by
        show _=_;rw [WG.out];obtain ⟨x,hx⟩:=Option.isSome_iff_exists.1 HQ.out.1.symm;rw [hx,HQ.out.2 x hx]
        rfl
       clear WG HQ;have xf:=X.out.fz;have x0:=X.out.cl 0 _ rfl;have x1:=X.out.cl 1 _ rfl;have x2:=X.out.cl 2 _ rfl;have x3:=X.out.cl 3 _ rfl;have x4:=X.out.cl 4 _ rfl;have gf:=N.out.fz;have g0:=N.out.cl 0 _ rfl;have g1:=N.out.cl 1 _ rfl;have g2:=N.out.cl 2 _ rfl;have g3:=N.out.cl 3 _ rfl;have g4:=N.out.cl 4 _ rfl
       go_wp2_with fail
       have X9:=Z3 (X.out.other (c:=m0.heap.size) (j:=3) (x:=.int .i64 vv) (by omega));have B9:=Z3 (BA.out.setCell (p:=⟨m0.heap.size,3,none⟩) (by show _≤m0.heap.size;omega) (.int .i64 vv));obtain ⟨b9,x9⟩:=U5 B9.out X9.out ⟨k9,ZE L 1,⟨#[]⟩,vv,s9⟩;have d0:=x9.cl 0 _ rfl;have d1:=x9.cl 1 _ rfl;have d2:=x9.cl 2 _ rfl;have d3:=x9.cl 3 _ rfl;have d4:=x9.cl 4 _ rfl;exact ZS (v:=.tuple #[Qx ⟨k9,ZE L 1,⟨#[]⟩,vv,s9⟩,.bool true]) (by simp [results,Tryz.results101,go_sem,Qx,d0,d1,d2,d3,d4]) rfl (ME.yes D.out b9)
    have hl3:L.length=4:=by have h9:=B.out;have h8:=To.out;simp at h9;omega
    have WG:Hid (TY L=(WC (ZE L 3).data.toList).map (fun x=>⟨k9,ZE L 1,RI (ZE L 2),x,s9⟩)):=hop.trans (ZZ hl3);have hsb:((L.length:Nat):Int) - 1=3:=by omega
    have hp3:(3:Int)<((L.length:Nat):Int):=by omega
    have c3:=UH.out 3 (by omega);clear hop hl3 Z' B To
    cases hd2:(ZE L 2).toList == [45] with
    | true =>
     have HD:Hid (RI (ZE L 2)=⟨#[]⟩):=ZZ hd2;rw [HD.out] at WG
     go_wp2_with fail
     clear hsb z3 z4 c2 c3;refine (WK (ZE L 3) m1 (Pm.out 3) HG.out).mono ?_;rintro e n2 ⟨vv,ok,rfl,b2,hok,hvv⟩
     replace X:=Z3 (X.out.below b2)
     replace N:=Z3 (N.out.below b2)
     replace BA:=Z3 (YV BA.out b2)
     have sN:=b2.size;have HQ:=Z3 (And.intro hok hvv);clear b2 hok hvv
     cases ok with
     | false =>
      have D:Hid (TY L=none):=by
       show _=_;rw [WG.out]
       cases hx:WC (ZE L 3).data.toList with
       | none=>rfl
       | some x=>have:=HQ.out.1;rw [hx] at this;cases this
      clear WG HQ;have xf:=X.out.fz;have x0:=X.out.cl 0 _ rfl;have x1:=X.out.cl 1 _ rfl;have x2:=X.out.cl 2 _ rfl;have x3:=X.out.cl 3 _ rfl;have x4:=X.out.cl 4 _ rfl
      go_wp2_with fail
      obtain ⟨b9,x9⟩:=U5 BA.out X.out ⟨0,⟨#[]⟩,⟨#[]⟩,0,false⟩;have d0:=x9.cl 0 _ rfl;have d1:=x9.cl 1 _ rfl;have d2:=x9.cl 2 _ rfl;have d3:=x9.cl 3 _ rfl;have d4:=x9.cl 4 _ rfl;exact ZS (v:=.tuple #[Qx ⟨0,⟨#[]⟩,⟨#[]⟩,0,false⟩,.bool false]) (by simp [results,Tryz.results101,go_sem,Qx,d0,d1,d2,d3,d4]) rfl (ME.no D.out b9)
     | true =>
      have D:Hid (TY L=some ⟨k9,ZE L 1,⟨#[]⟩,vv,s9⟩):=by
       show _=_;rw [WG.out];obtain ⟨x,hx⟩:=Option.isSome_iff_exists.1 HQ.out.1.symm;rw [hx,HQ.out.2 x hx]
       rfl
      clear WG HQ;have xf:=X.out.fz;have x0:=X.out.cl 0 _ rfl;have x1:=X.out.cl 1 _ rfl;have x2:=X.out.cl 2 _ rfl;have x3:=X.out.cl 3 _ rfl;have x4:=X.out.cl 4 _ rfl;have gf:=N.out.fz;have g0:=N.out.cl 0 _ rfl;have g1:=N.out.cl 1 _ rfl;have g2:=N.out.cl 2 _ rfl;have g3:=N.out.cl 3 _ rfl;have g4:=N.out.cl 4 _ rfl
      go_wp2_with fail
      have X9:=Z3 (X.out.other (c:=m0.heap.size) (j:=3) (x:=.int .i64 vv) (by omega));have B9:=Z3 (BA.out.setCell (p:=⟨m0.heap.size,3,none⟩) (by show _≤m0.heap.size;omega) (.int .i64 vv));obtain ⟨b9,x9⟩:=U5 B9.out X9.out ⟨k9,ZE L 1,⟨#[]⟩,vv,s9⟩;have d0:=x9.cl 0 _ rfl;have d1:=x9.cl 1 _ rfl;have d2:=x9.cl 2 _ rfl;have d3:=x9.cl 3 _ rfl;have d4:=x9.cl 4 _ rfl;exact ZS (v:=.tuple #[Qx ⟨k9,ZE L 1,⟨#[]⟩,vv,s9⟩,.bool true]) (by simp [results,Tryz.results101,go_sem,Qx,d0,d1,d2,d3,d4]) rfl (ME.yes D.out b9)
    | false =>
     have HD:Hid (RI (ZE L 2)=ZE L 2):=Z1 (by rw [hd2];decide);rw [HD.out] at WG;have gf:=N.out.fz;have g0:=N.out.cl 0 _ rfl;have g1:=N.out.cl 1 _ rfl;have g2:=N.out.cl 2 _ rfl;have g3:=N.out.cl 3 _ rfl;have g4:=N.out.cl 4 _ rfl;have ZB:(m1.setCell ⟨m0.heap.size,2,none⟩ (.string (ZE L 2))).cell? ⟨b,o+3,none⟩=some (.string (ZE L 3)):=(Zs _ _ _ _ (by intro e9;injection e9 with e1 e2;omega)).trans c3;have ZA:=(XF.out.other (c:=m0.heap.size) (j:=2) (x:=.string (ZE L 2)) (by omega)).cl 4 _ rfl
     go_wp2_with fail
     have hm2:Below m0.heap.size m1 (m1.setCell ⟨m0.heap.size,2,none⟩ (.string (ZE L 2))):=ZJ.setCell (p:=⟨m0.heap.size,2,none⟩) ZT _
     replace X:=Z3 (X.out.other (c:=m0.heap.size) (j:=2) (x:=.string (ZE L 2)) (by omega))
     replace N:=Z3 (N.out.set 2 (.string (ZE L 2)))
     replace BA:=Z3 (BA.out.setCell (p:=⟨m0.heap.size,2,none⟩) (by show _≤m0.heap.size;omega) (.string (ZE L 2)))
     replace HG:Hid (AQ (m1.setCell ⟨m0.heap.size,2,none⟩ (.string (ZE L 2))) m te pe):=⟨(hm2.cell (p:=⟨1,0,none⟩) (by show 1<m0.heap.size;exact ZL H3.out (by omega))).trans HG.out.mx,(hm2.cell (p:=⟨7,0,none⟩) (by show 7<m0.heap.size;exact ZL H4.out (by omega))).trans HG.out.es⟩
     clear hsb z3 z4 c2 c3 ZB ZA gf g0 g1 g2 g3 g4 hm2;generalize m1.setCell _ _=m2 at *;refine (WK (ZE L 3) m2 (Pm.out 3) HG.out).mono ?_;rintro e n2 ⟨vv,ok,rfl,b2,hok,hvv⟩
     replace X:=Z3 (X.out.below b2)
     replace N:=Z3 (N.out.below b2)
     replace BA:=Z3 (YV BA.out b2)
     have sN:=b2.size;have HQ:=Z3 (And.intro hok hvv);clear b2 hok hvv
     cases ok with
     | false =>
      have D:Hid (TY L=none):=by
       show _=_;rw [WG.out]
       cases hx:WC (ZE L 3).data.toList with
       | none=>rfl
       | some x=>have:=HQ.out.1;rw [hx] at this;cases this
      clear WG HQ;have xf:=X.out.fz;have x0:=X.out.cl 0 _ rfl;have x1:=X.out.cl 1 _ rfl;have x2:=X.out.cl 2 _ rfl;have x3:=X.out.cl 3 _ rfl;have x4:=X.out.cl 4 _ rfl
      go_wp2_with fail
      obtain ⟨b9,x9⟩:=U5 BA.out X.out ⟨0,⟨#[]⟩,⟨#[]⟩,0,false⟩;have d0:=x9.cl 0 _ rfl;have d1:=x9.cl 1 _ rfl;have d2:=x9.cl 2 _ rfl;have d3:=x9.cl 3 _ rfl;have d4:=x9.cl 4 _ rfl;exact ZS (v:=.tuple #[Qx ⟨0,⟨#[]⟩,⟨#[]⟩,0,false⟩,.bool false]) (by simp [results,Tryz.results101,go_sem,Qx,d0,d1,d2,d3,d4]) rfl (ME.no D.out b9)
     | true =>
      have D:Hid (TY L=some ⟨k9,ZE L 1,ZE L 2,vv,s9⟩):=by
       show _=_;rw [WG.out];obtain ⟨x,hx⟩:=Option.isSome_iff_exists.1 HQ.out.1.symm;rw [hx,HQ.out.2 x hx]
       rfl
      clear WG HQ;have xf:=X.out.fz;have x0:=X.out.cl 0 _ rfl;have x1:=X.out.cl 1 _ rfl;have x2:=X.out.cl 2 _ rfl;have x3:=X.out.cl 3 _ rfl;have x4:=X.out.cl 4 _ rfl;have gf:=N.out.fz;have g0:=N.out.cl 0 _ rfl;have g1:=N.out.cl 1 _ rfl;have g2:=N.out.cl 2 _ rfl;have g3:=N.out.cl 3 _ rfl;have g4:=N.out.cl 4 _ rfl
      go_wp2_with fail
      have X9:=Z3 (X.out.other (c:=m0.heap.size) (j:=3) (x:=.int .i64 vv) (by omega));have B9:=Z3 (BA.out.setCell (p:=⟨m0.heap.size,3,none⟩) (by show _≤m0.heap.size;omega) (.int .i64 vv));obtain ⟨b9,x9⟩:=U5 B9.out X9.out ⟨k9,ZE L 1,ZE L 2,vv,s9⟩;have d0:=x9.cl 0 _ rfl;have d1:=x9.cl 1 _ rfl;have d2:=x9.cl 2 _ rfl;have d3:=x9.cl 3 _ rfl;have d4:=x9.cl 4 _ rfl;exact ZS (v:=.tuple #[Qx ⟨k9,ZE L 1,ZE L 2,vv,s9⟩,.bool true]) (by simp [results,Tryz.results101,go_sem,Qx,d0,d1,d2,d3,d4]) rfl (ME.yes D.out b9)
theorem Lt (w:World) (a:Option Addr) (n c kb:Nat) (k:Int) (hk:w.cell? ⟨kb,0,none⟩=some (.int .i64 k)) (hb:kb<w.heap.size) (l:Ln) (hl:l=if n=1 then ⟨k,[],false,⟨#[]⟩,[]⟩ else Si):Calls Tryz.prog 103 #[.slice a n c,.pointer (some ⟨kb,0,none⟩)] w fun e w'=>mY w (l) e w':=by
 have hA:ZX w (w.alloc (.cells #[.int .i64 0,.slice none 0 0,.bool false,.string ⟨#[]⟩,.slice none 0 0] 43)):=ZJ.alloc ZT _;have BA:=Z3 hA;have X:=Z3 (St.new w #[.int .i64 0,.slice none 0 0,.bool false,.string ⟨#[]⟩,.slice none 0 0] 43)
 by_cases h1:n=1
 · have yA:(((n:Nat):Int) != 1)=false:=by simp [h1]
   have HR:Hid (l=⟨k,[],false,⟨#[]⟩,[]⟩):=hl.trans (ZZ h1);clear h1 hA hl
   go_enter Tryz.func103,Tryz.ntmps103
   go_wp2_with fail
   have B9:ZX w (w.alloc (.cells #[.int .i64 k,.slice none 0 0,.bool false,.string ⟨#[]⟩,.slice none 0 0] 43)):=ZJ.alloc ZT _;have X9:=St.new w #[.int .i64 k,.slice none 0 0,.bool false,.string ⟨#[]⟩,.slice none 0 0] 43;have d0:=X9.cl 0 _ rfl;have d1:=X9.cl 1 _ rfl;have d2:=X9.cl 2 _ rfl;have d3:=X9.cl 3 _ rfl;have d4:=X9.cl 4 _ rfl;exact ZS (v:=.agg #[.int .i64 k,.slice none 0 0,.bool false,.string ⟨#[]⟩,.slice none 0 0]) (by simp [results,Tryz.results103,go_sem,d0,d1,d2,d3,d4]) rfl (by rw [HR.out];exact ⟨_,_,rfl,Zl _ _ _ _,Zl _ _ _ _,B9⟩)
 have yA:(((n:Nat):Int) != 1)=true:=by simp;omega
 have HR:Hid (l=Si):=hl.trans (Z1 h1);clear h1 hA hl
 go_enter Tryz.func103,Tryz.ntmps103
 go_wp2_with fail
 have d0:=X.out.cl 0 _ rfl;have d1:=X.out.cl 1 _ rfl;have d2:=X.out.cl 2 _ rfl;have d3:=X.out.cl 3 _ rfl;have d4:=X.out.cl 4 _ rfl;exact ZS (v:=.agg #[.int .i64 0,.slice none 0 0,.bool false,.string ⟨#[]⟩,.slice none 0 0]) (by simp [results,Tryz.results103,go_sem,d0,d1,d2,d3,d4]) rfl (by rw [HR.out];exact ⟨_,_,rfl,Zl _ _ _ _,Zl _ _ _ _,BA.out⟩)
def QD (k:Int) (L:List ByteArray) (ok:List Int→Bool):Ln :=
 match XV L with
 | none=>Si
 | some ns=>if L.length≤2000∧ok ns=true then ⟨k,[],false,⟨#[]⟩,ns⟩ else Si
theorem J9 (w:World) (g c kb fb:Nat) (L:List ByteArray) (k:Int) (hk:w.cell? ⟨kb,0,none⟩=some (.int .i64 k)) (hf:w.cell? ⟨fb,0,none⟩=some (.func (.func 64) #[] #[])) (hL:0<L.length) (hL1:L.length≤1048577) (qt:L.length≤c) (hcm:c≤maxLen) (hR:ux w (.slice (some ⟨g,0,none⟩) L.length c) L) (hsz:m6 L) (hg:AQ w m te pe) (l:Ln) (hl:l=QD k (L.drop 1) (fun ns=>Wp ns)) :
    Calls Tryz.prog 105 #[.slice (some ⟨g,0,none⟩) L.length c,.pointer (some ⟨fb,0,none⟩),.pointer (some ⟨kb,0,none⟩)] w fun e w'=>mY w l e w':=by
 have hA:ZX w (w.alloc (.cells #[.int .i64 0,.slice none 0 0,.bool false,.string ⟨#[]⟩,.slice none 0 0] 43)):=ZJ.alloc ZT _;have BA:=Z3 hA;have X:=Z3 (St.new w #[.int .i64 0,.slice none 0 0,.bool false,.string ⟨#[]⟩,.slice none 0 0] 43);have hkl:kb<(w.alloc (.cells #[.int .i64 0,.slice none 0 0,.bool false,.string ⟨#[]⟩,.slice none 0 0] 43)).heap.size:=ZL (YJ w _ hk) hA.size;have hfl:fb<(w.alloc (.cells #[.int .i64 0,.slice none 0 0,.bool false,.string ⟨#[]⟩,.slice none 0 0] 43)).heap.size:=ZL (YJ w _ hf) hA.size;have hkz:=(hA.cell (p:=⟨kb,0,none⟩) (YJ w _ hk)).trans hk;have hfz:=(hA.cell (p:=⟨fb,0,none⟩) (YJ w _ hf)).trans hf;have RL:=hR.below hA;have RD:ux (w.alloc (.cells #[.int .i64 0,.slice none 0 0,.bool false,.string ⟨#[]⟩,.slice none 0 0] 43)) (if c=1 then .slice (some ⟨g,0,none⟩) (L.length - 1) (c - 1) else .slice (some ⟨g,0+1,none⟩) (L.length - 1) (c - 1)) (L.drop 1):=by
  have h9:=rF RL 1 (L.length - 1) (by omega);rw [Wv (by rw [Zd];exact ZT)] at h9
  by_cases hc:c=1
  · rw [ZZ hc]
    have hz:L.drop 1=[]:=Jy (by omega);rw [hz,show L.length - 1=0 by omega];exact ⟨_,_,rfl,Zu _,by omega,.inl rfl⟩
  rw [Z1 hc];exact h9
 have HC:=Z3 (PY (w.alloc (.cells #[.int .i64 0,.slice none 0 0,.bool false,.string ⟨#[]⟩,.slice none 0 0] 43)) _ (L.drop 1) RD (by rw [Zd];omega) (fun i=>by rw [GO];exact hsz _) (hg.later hA));have To:=Z3 hl;unfold maxLen at hcm;clear RD RL hR hsz hg hA hl hk hf;generalize L.drop 1=L' at *
 go_enter Tryz.func105,Tryz.ntmps105
 by_cases hc:c=1
 · rw [ZZ hc,show L.length - 1=0 by omega,show c - 1=0 by omega] at HC
   have ZG:L.length=1:=by omega
   go_wp2_with fail
   clear hc ZG;refine HC.out.mono ?_;rintro e w2 ⟨vn,ns,gd,rfl,n2,b2,hgd,hns⟩;obtain ⟨an,cn,rfl,-⟩:=Uh n2;have u:=Z3 (Sh w2 _ (.slice an ns.length cn) ns n2)
   replace X:=Z3 (X.out.below b2)
   replace BA:=Z3 (BA.out.trans (b2.mono (by simp)))
   replace hkz:=(b2.cell (p:=⟨kb,0,none⟩) hkl).trans hkz
   replace hfz:=(b2.cell (p:=⟨fb,0,none⟩) hfl).trans hfz
   have N2:=Z3 (VT n2 (lo':=w.heap.size+1) (by simp));have HQ:=Z3 (And.intro hgd hns);clear HC n2 b2 hgd hns hkl hfl
   cases gd with
   | false =>
    have WG:Hid (l=Si):=by
     show _=_;rw [To.out];unfold QD
     cases hx:XV L' with
     | none=>rfl
     | some x=>have:=HQ.out.1;rw [hx] at this;cases this
    clear To HQ u;have x0:=X.out.fz;have y0:=X.out.cl 0 _ rfl;have y1:=X.out.cl 1 _ rfl;have y2:=X.out.cl 2 _ rfl;have y3:=X.out.cl 3 _ rfl;have y4:=X.out.cl 4 _ rfl
    go_wp2_with fail
    obtain ⟨b9,x9,o9,n9⟩:=U4 BA.out X.out 0 false ⟨#[]⟩ (vo:=.slice none 0 0) (vn:=.slice none 0 0) (show VU _ _ _ _ [] from Zl _ _ _ _) (show Own _ _ _ _ _ [] from Zl _ _ _ _);have d0:=x9.cl 0 _ rfl;have d1:=x9.cl 1 _ rfl;have d2:=x9.cl 2 _ rfl;have d3:=x9.cl 3 _ rfl;have d4:=x9.cl 4 _ rfl;exact ZS (v:=.agg #[.int .i64 0,.slice none 0 0,.bool false,.string ⟨#[]⟩,.slice none 0 0]) (by simp [results,Tryz.results105,go_sem,d0,d1,d2,d3,d4]) rfl (by rw [WG.out];exact ⟨_,_,rfl,o9,n9,b9⟩)
   | true =>
    obtain ⟨x,hx⟩:=Option.isSome_iff_exists.1 HQ.out.1.symm;have hnx:=HQ.out.2 x hx;subst hnx;have hln:=P4 hx
    by_cases hbig:2000<ns.length
    · have o0:(2000:Int)<((ns.length:Nat):Int):=by omega
      have WG:Hid (l=Si):=by
       show _=_;rw [To.out];unfold QD;rw [hx];show (if _ then _ else _)=_;rw [Z1 (fun h=>by omega)]
      clear To HQ u hx hln;have x0:=X.out.fz;have y0:=X.out.cl 0 _ rfl;have y1:=X.out.cl 1 _ rfl;have y2:=X.out.cl 2 _ rfl;have y3:=X.out.cl 3 _ rfl;have y4:=X.out.cl 4 _ rfl
      go_wp2_with fail
      obtain ⟨b9,x9,o9,n9⟩:=U4 BA.out X.out 0 false ⟨#[]⟩ (vo:=.slice none 0 0) (vn:=.slice none 0 0) (show VU _ _ _ _ [] from Zl _ _ _ _) (show Own _ _ _ _ _ [] from Zl _ _ _ _);have d0:=x9.cl 0 _ rfl;have d1:=x9.cl 1 _ rfl;have d2:=x9.cl 2 _ rfl;have d3:=x9.cl 3 _ rfl;have d4:=x9.cl 4 _ rfl;exact ZS (v:=.agg #[.int .i64 0,.slice none 0 0,.bool false,.string ⟨#[]⟩,.slice none 0 0]) (by simp [results,Tryz.results105,go_sem,d0,d1,d2,d3,d4]) rfl (by rw [WG.out];exact ⟨_,_,rfl,o9,n9,b9⟩)
    have o0:¬(2000:Int)<((ns.length:Nat):Int):=by omega
    have F:Hid (l=if Wp ns=true then ⟨k,[],false,⟨#[]⟩,ns⟩ else Si):=by
     show _=_;rw [To.out];unfold QD;rw [hx];show (if _ then _ else _)=_
     by_cases h9:Wp ns=true
     · rw [ZZ ⟨by omega,h9⟩,ZZ h9]
     rw [Z1 (fun h=>h9 h.2),Z1 h9]
    clear To HQ hx hln
    cases hok:(Wp ns:Bool) with
    | false =>
     have WG:Hid (l=Si):=by show _=_;rw [F.out,Z1 (by rw [hok];decide)]
     clear F
     go_wp2_with fail
     refine u.out.mono ?_;rintro e w9 ⟨rfl,Bu⟩;subst Bu;rw [hok];have x0:=X.out.fz;have y0:=X.out.cl 0 _ rfl;have y1:=X.out.cl 1 _ rfl;have y2:=X.out.cl 2 _ rfl;have y3:=X.out.cl 3 _ rfl;have y4:=X.out.cl 4 _ rfl
     go_wp2_with fail
     obtain ⟨b9,x9,o9,n9⟩:=U4 BA.out X.out 0 false ⟨#[]⟩ (vo:=.slice none 0 0) (vn:=.slice none 0 0) (show VU _ _ _ _ [] from Zl _ _ _ _) (show Own _ _ _ _ _ [] from Zl _ _ _ _);have d0:=x9.cl 0 _ rfl;have d1:=x9.cl 1 _ rfl;have d2:=x9.cl 2 _ rfl;have d3:=x9.cl 3 _ rfl;have d4:=x9.cl 4 _ rfl;exact ZS (v:=.agg #[.int .i64 0,.slice none 0 0,.bool false,.string ⟨#[]⟩,.slice none 0 0]) (by simp [results,Tryz.results105,go_sem,d0,d1,d2,d3,d4]) rfl (by rw [WG.out];exact ⟨_,_,rfl,o9,n9,b9⟩)
    | true =>
     have WG:Hid (l=⟨k,[],false,⟨#[]⟩,ns⟩):=by show _=_;rw [F.out,ZZ hok]
     clear F
     go_wp2_with fail
     refine u.out.mono ?_;rintro e w9 ⟨rfl,Bu⟩;subst Bu;rw [hok];have x0:=X.out.fz;have y0:=X.out.cl 0 _ rfl;have y1:=X.out.cl 1 _ rfl;have y2:=X.out.cl 2 _ rfl;have y3:=X.out.cl 3 _ rfl;have y4:=X.out.cl 4 _ rfl
     go_wp2_with fail
     obtain ⟨b9,x9,o9,n9⟩:=U4 BA.out X.out k false ⟨#[]⟩ (vo:=.slice none 0 0) (vn:=.slice an ns.length cn) (show VU _ _ _ _ [] from Zl _ _ _ _) (N2.out);have d0:=x9.cl 0 _ rfl;have d1:=x9.cl 1 _ rfl;have d2:=x9.cl 2 _ rfl;have d3:=x9.cl 3 _ rfl;have d4:=x9.cl 4 _ rfl;exact ZS (v:=.agg #[.int .i64 k,.slice none 0 0,.bool false,.string ⟨#[]⟩,.slice an ns.length cn]) (by simp [results,Tryz.results105,go_sem,d0,d1,d2,d3,d4]) rfl (by rw [WG.out];exact ⟨_,_,rfl,o9,n9,b9⟩)
 rw [Z1 hc] at HC
 go_wp2_with fail
 refine HC.out.mono ?_;rintro e w2 ⟨vn,ns,gd,rfl,n2,b2,hgd,hns⟩;obtain ⟨an,cn,rfl,-⟩:=Uh n2;have u:=Z3 (Sh w2 _ (.slice an ns.length cn) ns n2)
 replace X:=Z3 (X.out.below b2)
 replace BA:=Z3 (BA.out.trans (b2.mono (by simp)))
 replace hkz:=(b2.cell (p:=⟨kb,0,none⟩) hkl).trans hkz
 replace hfz:=(b2.cell (p:=⟨fb,0,none⟩) hfl).trans hfz
 have N2:=Z3 (VT n2 (lo':=w.heap.size+1) (by simp));have HQ:=Z3 (And.intro hgd hns);clear HC n2 b2 hgd hns hkl hfl
 cases gd with
 | false =>
  have WG:Hid (l=Si):=by
   show _=_;rw [To.out];unfold QD
   cases hx:XV L' with
   | none=>rfl
   | some x=>have:=HQ.out.1;rw [hx] at this;cases this
  clear To HQ u;have x0:=X.out.fz;have y0:=X.out.cl 0 _ rfl;have y1:=X.out.cl 1 _ rfl;have y2:=X.out.cl 2 _ rfl;have y3:=X.out.cl 3 _ rfl;have y4:=X.out.cl 4 _ rfl
  go_wp2_with fail
  obtain ⟨b9,x9,o9,n9⟩:=U4 BA.out X.out 0 false ⟨#[]⟩ (vo:=.slice none 0 0) (vn:=.slice none 0 0) (show VU _ _ _ _ [] from Zl _ _ _ _) (show Own _ _ _ _ _ [] from Zl _ _ _ _);have d0:=x9.cl 0 _ rfl;have d1:=x9.cl 1 _ rfl;have d2:=x9.cl 2 _ rfl;have d3:=x9.cl 3 _ rfl;have d4:=x9.cl 4 _ rfl;exact ZS (v:=.agg #[.int .i64 0,.slice none 0 0,.bool false,.string ⟨#[]⟩,.slice none 0 0]) (by simp [results,Tryz.results105,go_sem,d0,d1,d2,d3,d4]) rfl (by rw [WG.out];exact ⟨_,_,rfl,o9,n9,b9⟩)
 | true =>
  obtain ⟨x,hx⟩:=Option.isSome_iff_exists.1 HQ.out.1.symm;have hnx:=HQ.out.2 x hx;subst hnx;have hln:=P4 hx
  by_cases hbig:2000<ns.length
  · have o0:(2000:Int)<((ns.length:Nat):Int):=by omega
    have WG:Hid (l=Si):=by
     show _=_;rw [To.out];unfold QD;rw [hx];show (if _ then _ else _)=_;rw [Z1 (fun h=>by omega)]
    clear To HQ u hx hln;have x0:=X.out.fz;have y0:=X.out.cl 0 _ rfl;have y1:=X.out.cl 1 _ rfl;have y2:=X.out.cl 2 _ rfl;have y3:=X.out.cl 3 _ rfl;have y4:=X.out.cl 4 _ rfl
    go_wp2_with fail
    obtain ⟨b9,x9,o9,n9⟩:=U4 BA.out X.out 0 false ⟨#[]⟩ (vo:=.slice none 0 0) (vn:=.slice none 0 0) (show VU _ _ _ _ [] from Zl _ _ _ _) (show Own _ _ _ _ _ [] from Zl _ _ _ _);have d0:=x9.cl 0 _ rfl;have d1:=x9.cl 1 _ rfl;have d2:=x9.cl 2 _ rfl;have d3:=x9.cl 3 _ rfl;have d4:=x9.cl 4 _ rfl;exact ZS (v:=.agg #[.int .i64 0,.slice none 0 0,.bool false,.string ⟨#[]⟩,.slice none 0 0]) (by simp [results,Tryz.results105,go_sem,d0,d1,d2,d3,d4]) rfl (by rw [WG.out];exact ⟨_,_,rfl,o9,n9,b9⟩)
  have o0:¬(2000:Int)<((ns.length:Nat):Int):=by omega
  have F:Hid (l=if Wp ns=true then ⟨k,[],false,⟨#[]⟩,ns⟩ else Si):=by
   show _=_;rw [To.out];unfold QD;rw [hx];show (if _ then _ else _)=_
   by_cases h9:Wp ns=true
   · rw [ZZ ⟨by omega,h9⟩,ZZ h9]
   rw [Z1 (fun h=>h9 h.2),Z1 h9]
  clear To HQ hx hln
  cases hok:(Wp ns:Bool) with
  | false =>
   have WG:Hid (l=Si):=by show _=_;rw [F.out,Z1 (by rw [hok];decide)]
   clear F
   go_wp2_with fail
   refine u.out.mono ?_;rintro e w9 ⟨rfl,Bu⟩;subst Bu;rw [hok];have x0:=X.out.fz;have y0:=X.out.cl 0 _ rfl;have y1:=X.out.cl 1 _ rfl;have y2:=X.out.cl 2 _ rfl;have y3:=X.out.cl 3 _ rfl;have y4:=X.out.cl 4 _ rfl
   go_wp2_with fail
   obtain ⟨b9,x9,o9,n9⟩:=U4 BA.out X.out 0 false ⟨#[]⟩ (vo:=.slice none 0 0) (vn:=.slice none 0 0) (show VU _ _ _ _ [] from Zl _ _ _ _) (show Own _ _ _ _ _ [] from Zl _ _ _ _);have d0:=x9.cl 0 _ rfl;have d1:=x9.cl 1 _ rfl;have d2:=x9.cl 2 _ rfl;have d3:=x9.cl 3 _ rfl;have d4:=x9.cl 4 _ rfl;exact ZS (v:=.agg #[.int .i64 0,.slice none 0 0,.bool false,.string ⟨#[]⟩,.slice none 0 0]) (by simp [results,Tryz.results105,go_sem,d0,d1,d2,d3,d4]) rfl (by rw [WG.out];exact ⟨_,_,rfl,o9,n9,b9⟩)
  | true =>
   have WG:Hid (l=⟨k,[],false,⟨#[]⟩,ns⟩):=by show _=_;rw [F.out,ZZ hok]
   clear F
   go_wp2_with fail
   refine u.out.mono ?_;rintro e w9 ⟨rfl,Bu⟩;subst Bu;rw [hok];have x0:=X.out.fz;have y0:=X.out.cl 0 _ rfl;have y1:=X.out.cl 1 _ rfl;have y2:=X.out.cl 2 _ rfl;have y3:=X.out.cl 3 _ rfl;have y4:=X.out.cl 4 _ rfl
   go_wp2_with fail
   obtain ⟨b9,x9,o9,n9⟩:=U4 BA.out X.out k false ⟨#[]⟩ (vo:=.slice none 0 0) (vn:=.slice an ns.length cn) (show VU _ _ _ _ [] from Zl _ _ _ _) (N2.out);have d0:=x9.cl 0 _ rfl;have d1:=x9.cl 1 _ rfl;have d2:=x9.cl 2 _ rfl;have d3:=x9.cl 3 _ rfl;have d4:=x9.cl 4 _ rfl;exact ZS (v:=.agg #[.int .i64 k,.slice none 0 0,.bool false,.string ⟨#[]⟩,.slice an ns.length cn]) (by simp [results,Tryz.results105,go_sem,d0,d1,d2,d3,d4]) rfl (by rw [WG.out];exact ⟨_,_,rfl,o9,n9,b9⟩)
theorem Nj (R:((ZE L 0).toList == [99,114,101,97,116,101])=false) (hseq:((ZE L 0).toList == [115,101,113])=false) (O:((ZE L 0).toList == [100,101,108,101,116,101])=false) (hset:((ZE L 0).toList == [115,101,116])=false) (J:((ZE L 0).toList == [99,104,101,99,107])=false):TY L=none:=by
 unfold TY MH MG
 simp [R,hseq,O,hset,J]
theorem vP {f0:ByteArray} {ns:List Int} (hstep:(f0.toList == [115,116,101,112])=false) (harm:(f0.toList == [97,114,109])=false) (Z:(f0.toList == [99,114,97,115,104])=false) (M:(f0.toList == [114,111,116])=false):iC f0 ns=Si:=by
 unfold iC
 simp [hstep,harm,Z,M]
theorem QC (hstep:((ZE L 0).toList == [115,116,101,112])=false) (harm:((ZE L 0).toList == [97,114,109])=false) (Z:((ZE L 0).toList == [99,114,97,115,104])=false) (M:((ZE L 0).toList == [114,111,116])=false):iB L=Si:=by
 unfold iB
 cases XV (L.drop 1) with
 | none=>rfl
 | some ns =>
  show (if _ then _ else _)=_;rw [vP hstep harm Z M]
  split <;> rfl
theorem Ls (h:((ZE L 0).toList == [102,108,117,115,104])=true):AM L=if L.length=1 then ⟨2,[],false,⟨#[]⟩,[]⟩ else Si:=by
 have U:((ZE L 0).toList == [109,117,108,116,105])=false:=by rw [ZK.1 h];rfl
 have R:((ZE L 0).toList == [99,114,101,97,116,101])=false:=by rw [ZK.1 h];rfl
 have hseq:((ZE L 0).toList == [115,101,113])=false:=by rw [ZK.1 h];rfl
 have O:((ZE L 0).toList == [100,101,108,101,116,101])=false:=by rw [ZK.1 h];rfl
 have hset:((ZE L 0).toList == [115,101,116])=false:=by rw [ZK.1 h];rfl
 have J:((ZE L 0).toList == [99,104,101,99,107])=false:=by rw [ZK.1 h];rfl
 have I:((ZE L 0).toList == [100,117,109,112])=false:=by rw [ZK.1 h];rfl
 have G:((ZE L 0).toList == [115,110,97,112])=false:=by rw [ZK.1 h];rfl
 have Y:((ZE L 0).toList == [114,101,99,111,118,101,114])=false:=by rw [ZK.1 h];rfl
 have V:((ZE L 0).toList == [115,116,97,116,117,115])=false:=by rw [ZK.1 h];rfl
 have hget:((ZE L 0).toList == [103,101,116])=false:=by rw [ZK.1 h];rfl
 have hlist:((ZE L 0).toList == [108,105,115,116])=false:=by rw [ZK.1 h];rfl
 have hstep:((ZE L 0).toList == [115,116,101,112])=false:=by rw [ZK.1 h];rfl
 have harm:((ZE L 0).toList == [97,114,109])=false:=by rw [ZK.1 h];rfl
 have Z:((ZE L 0).toList == [99,114,97,115,104])=false:=by rw [ZK.1 h];rfl
 have M:((ZE L 0).toList == [114,111,116])=false:=by rw [ZK.1 h];rfl
 unfold AM lx;rw [Z1 (by rw [U];decide),Nj R hseq O hset J];show vS L=_;unfold vS ly;rw [QC hstep harm Z M]
 by_cases h1:L.length=1
 · simp [h1,h,I,G,Y,V]
 simp [h1,hget,hlist]
theorem GL (h:((ZE L 0).toList == [115,110,97,112])=true):AM L=if L.length=1 then ⟨6,[],false,⟨#[]⟩,[]⟩ else Si:=by
 have U:((ZE L 0).toList == [109,117,108,116,105])=false:=by rw [ZK.1 h];rfl
 have R:((ZE L 0).toList == [99,114,101,97,116,101])=false:=by rw [ZK.1 h];rfl
 have hseq:((ZE L 0).toList == [115,101,113])=false:=by rw [ZK.1 h];rfl
 have O:((ZE L 0).toList == [100,101,108,101,116,101])=false:=by rw [ZK.1 h];rfl
 have hset:((ZE L 0).toList == [115,101,116])=false:=by rw [ZK.1 h];rfl
 have J:((ZE L 0).toList == [99,104,101,99,107])=false:=by rw [ZK.1 h];rfl
 have H:((ZE L 0).toList == [102,108,117,115,104])=false:=by rw [ZK.1 h];rfl
 have I:((ZE L 0).toList == [100,117,109,112])=false:=by rw [ZK.1 h];rfl
 have Y:((ZE L 0).toList == [114,101,99,111,118,101,114])=false:=by rw [ZK.1 h];rfl
 have V:((ZE L 0).toList == [115,116,97,116,117,115])=false:=by rw [ZK.1 h];rfl
 have hget:((ZE L 0).toList == [103,101,116])=false:=by rw [ZK.1 h];rfl
 have hlist:((ZE L 0).toList == [108,105,115,116])=false:=by rw [ZK.1 h];rfl
 have hstep:((ZE L 0).toList == [115,116,101,112])=false:=by rw [ZK.1 h];rfl
 have harm:((ZE L 0).toList == [97,114,109])=false:=by rw [ZK.1 h];rfl
 have Z:((ZE L 0).toList == [99,114,97,115,104])=false:=by rw [ZK.1 h];rfl
 have M:((ZE L 0).toList == [114,111,116])=false:=by rw [ZK.1 h];rfl
 unfold AM lx;rw [Z1 (by rw [U];decide),Nj R hseq O hset J];show vS L=_;unfold vS ly;rw [QC hstep harm Z M]
 by_cases h1:L.length=1
 · simp [h1,h,H,I,Y,V]
 simp [h1,hget,hlist]
theorem GK (h:((ZE L 0).toList == [115,116,101,112])=true):AM L=QD 7 (L.drop 1) (Wp):=by
 have U:((ZE L 0).toList == [109,117,108,116,105])=false:=by rw [ZK.1 h];rfl
 have R:((ZE L 0).toList == [99,114,101,97,116,101])=false:=by rw [ZK.1 h];rfl
 have hseq:((ZE L 0).toList == [115,101,113])=false:=by rw [ZK.1 h];rfl
 have O:((ZE L 0).toList == [100,101,108,101,116,101])=false:=by rw [ZK.1 h];rfl
 have hset:((ZE L 0).toList == [115,101,116])=false:=by rw [ZK.1 h];rfl
 have J:((ZE L 0).toList == [99,104,101,99,107])=false:=by rw [ZK.1 h];rfl
 have H:((ZE L 0).toList == [102,108,117,115,104])=false:=by rw [ZK.1 h];rfl
 have I:((ZE L 0).toList == [100,117,109,112])=false:=by rw [ZK.1 h];rfl
 have G:((ZE L 0).toList == [115,110,97,112])=false:=by rw [ZK.1 h];rfl
 have Y:((ZE L 0).toList == [114,101,99,111,118,101,114])=false:=by rw [ZK.1 h];rfl
 have V:((ZE L 0).toList == [115,116,97,116,117,115])=false:=by rw [ZK.1 h];rfl
 have hget:((ZE L 0).toList == [103,101,116])=false:=by rw [ZK.1 h];rfl
 have hlist:((ZE L 0).toList == [108,105,115,116])=false:=by rw [ZK.1 h];rfl
 have harm:((ZE L 0).toList == [97,114,109])=false:=by rw [ZK.1 h];rfl
 have Z:((ZE L 0).toList == [99,114,97,115,104])=false:=by rw [ZK.1 h];rfl
 have M:((ZE L 0).toList == [114,111,116])=false:=by rw [ZK.1 h];rfl
 unfold AM lx;rw [Z1 (by rw [U];decide),Nj R hseq O hset J];show vS L=_;unfold vS ly
 simp only [H,I,G,Y,V,hget,hlist,Qw,and_false,Vw]
 unfold iB QD
 cases XV (L.drop 1) with
 | none=>rfl
 | some ns =>
  unfold iC Wp
  by_cases h9:(L.drop 1).length≤2000
  · simp only [h9,Jf,Uc]
    simp [h,harm,Z,M]
  simp only [h9,false_and,Vw]
theorem Ni (h:((ZE L 0).toList == [99,114,101,97,116,101])=true):AM L=match TY L with | some o=>⟨1,[o],false,⟨#[]⟩,[]⟩ | none=>Si:=by
 have U:((ZE L 0).toList == [109,117,108,116,105])=false:=by rw [ZK.1 h];rfl
 have H:((ZE L 0).toList == [102,108,117,115,104])=false:=by rw [ZK.1 h];rfl
 have I:((ZE L 0).toList == [100,117,109,112])=false:=by rw [ZK.1 h];rfl
 have G:((ZE L 0).toList == [115,110,97,112])=false:=by rw [ZK.1 h];rfl
 have Y:((ZE L 0).toList == [114,101,99,111,118,101,114])=false:=by rw [ZK.1 h];rfl
 have V:((ZE L 0).toList == [115,116,97,116,117,115])=false:=by rw [ZK.1 h];rfl
 have hget:((ZE L 0).toList == [103,101,116])=false:=by rw [ZK.1 h];rfl
 have hlist:((ZE L 0).toList == [108,105,115,116])=false:=by rw [ZK.1 h];rfl
 have hstep:((ZE L 0).toList == [115,116,101,112])=false:=by rw [ZK.1 h];rfl
 have harm:((ZE L 0).toList == [97,114,109])=false:=by rw [ZK.1 h];rfl
 have Z:((ZE L 0).toList == [99,114,97,115,104])=false:=by rw [ZK.1 h];rfl
 have M:((ZE L 0).toList == [114,111,116])=false:=by rw [ZK.1 h];rfl
 unfold AM lx;rw [Z1 (by rw [U];decide)]
 cases TY L with
 | some o=>rfl
 | none =>
  show vS L=Si;unfold vS ly;rw [QC hstep harm Z M]
  simp [H,I,G,Y,V,hget,hlist]
theorem C6 (h:((ZE L 0).toList == [115,101,116])=true):AM L=match TY L with | some o=>⟨1,[o],false,⟨#[]⟩,[]⟩ | none=>Si:=by
 have U:((ZE L 0).toList == [109,117,108,116,105])=false:=by rw [ZK.1 h];rfl
 have H:((ZE L 0).toList == [102,108,117,115,104])=false:=by rw [ZK.1 h];rfl
 have I:((ZE L 0).toList == [100,117,109,112])=false:=by rw [ZK.1 h];rfl
 have G:((ZE L 0).toList == [115,110,97,112])=false:=by rw [ZK.1 h];rfl
 have Y:((ZE L 0).toList == [114,101,99,111,118,101,114])=false:=by rw [ZK.1 h];rfl
 have V:((ZE L 0).toList == [115,116,97,116,117,115])=false:=by rw [ZK.1 h];rfl
 have hget:((ZE L 0).toList == [103,101,116])=false:=by rw [ZK.1 h];rfl
 have hlist:((ZE L 0).toList == [108,105,115,116])=false:=by rw [ZK.1 h];rfl
 have hstep:((ZE L 0).toList == [115,116,101,112])=false:=by rw [ZK.1 h];rfl
 have harm:((ZE L 0).toList == [97,114,109])=false:=by rw [ZK.1 h];rfl
 have Z:((ZE L 0).toList == [99,114,97,115,104])=false:=by rw [ZK.1 h];rfl
 have M:((ZE L 0).toList == [114,111,116])=false:=by rw [ZK.1 h];rfl
 unfold AM lx;rw [Z1 (by rw [U];decide)]
 cases TY L with
 | some o=>rfl
 | none =>
  show vS L=Si;unfold vS ly;rw [QC hstep harm Z M]
  simp [H,I,G,Y,V,hget,hlist]
theorem Lr (w:World) (a:Option Addr) (c:Nat) (L:List ByteArray) (hop:∀W,ZX w W→Calls Tryz.prog 101 #[.slice a L.length c] W fun e w'=>ME W L e w') (l:Ln) (hl:l=match TY L with | some o=>⟨1,[o],false,⟨#[]⟩,[]⟩ | none=>Si) :
    Calls Tryz.prog 59 #[.slice a L.length c] w fun e w'=>mY w l e w':=by
 have hA:ZX w (w.alloc (.cells #[.int .i64 0,.slice none 0 0,.bool false,.string ⟨#[]⟩,.slice none 0 0] 43)):=ZJ.alloc ZT _;have BA:=Z3 hA;have X:=Z3 (St.new w #[.int .i64 0,.slice none 0 0,.bool false,.string ⟨#[]⟩,.slice none 0 0] 43);have HC:=Z3 (hop _ hA);have To:=Z3 hl;clear hop hl hA
 go_enter Tryz.func59,Tryz.ntmps59
 go_wp2_with fail
 refine HC.out.mono ?_;rintro e w3 ⟨E,ok,rfl,b3,hok,ZD⟩;have HQ:=Z3 (And.intro hok ZD);have s3:w.heap.size+1≤w3.heap.size:=ZF (by simp) b3.size;have bA:ZX w3 (w3.alloc (.cells #[.int .i64 E.kind,.string E.path,.string E.data,.int .i64 E.Zy,.bool E.seq] 159)):=ZJ.alloc ZT _;have ZO:=YV b3 bA
 replace X:=Z3 (X.out.below ZO)
 replace BA:=Z3 (YV BA.out ZO)
 have O3:=Z3 (vV (w3.alloc (.cells #[.int .i64 E.kind,.string E.path,.string E.data,.int .i64 E.Zy,.bool E.seq] 159)) (w.heap.size+1) (by simp;omega) E);rw [show (w3.alloc (.cells #[.int .i64 E.kind,.string E.path,.string E.data,.int .i64 E.Zy,.bool E.seq] 159)).heap.size=w3.heap.size+1 by simp] at O3;clear HC bA b3 ZO hok ZD;unfold Qx
 cases ok with
 | true =>
  have WG:Hid (l=⟨1,[E],false,⟨#[]⟩,[]⟩):=by
   show _=_;rw [To.out];obtain ⟨x,hx⟩:=Option.isSome_iff_exists.1 HQ.out.1.symm;rw [hx,HQ.out.2 x hx]
  replace X:=Z3 (X.out.below (ZJ.alloc ZT (.cells #[.int .i64 E.kind,.string E.path,.string E.data,.int .i64 E.Zy,.bool E.seq] 159)))
  replace BA:=Z3 (BA.out.alloc (by simp;omega) (.cells #[.int .i64 E.kind,.string E.path,.string E.data,.int .i64 E.Zy,.bool E.seq] 159))
  clear To HQ;have x0:=X.out.fz;have y0:=X.out.cl 0 _ rfl;have y1:=X.out.cl 1 _ rfl;have y2:=X.out.cl 2 _ rfl;have y3:=X.out.cl 3 _ rfl;have y4:=X.out.cl 4 _ rfl
  go_wp2_with fail
  obtain ⟨b9,x9,o9,n9⟩:=U4 BA.out X.out 1 false ⟨#[]⟩ (vo:=.slice (some ⟨w3.heap.size+1,0,none⟩) 1 1) (vn:=.slice none 0 0) (show VU _ _ _ _ [E] from O3.out) (show Own _ _ _ _ _ [] from Zl _ _ _ _);have d0:=x9.cl 0 _ rfl;have d1:=x9.cl 1 _ rfl;have d2:=x9.cl 2 _ rfl;have d3:=x9.cl 3 _ rfl;have d4:=x9.cl 4 _ rfl;exact ZS (v:=.agg #[.int .i64 1,.slice (some ⟨w3.heap.size+1,0,none⟩) 1 1,.bool false,.string ⟨#[]⟩,.slice none 0 0]) (by simp [results,Tryz.results59,go_sem,d0,d1,d2,d3,d4]) rfl (by rw [WG.out];exact ⟨_,_,rfl,o9,n9,b9⟩)
 | false =>
  have WG:Hid (l=Si):=by
   show _=_;rw [To.out]
   cases hx:TY L with
   | none=>rfl
   | some x=>have:=HQ.out.1;rw [hx] at this;cases this
  clear To HQ O3;have x0:=X.out.fz;have y0:=X.out.cl 0 _ rfl;have y1:=X.out.cl 1 _ rfl;have y2:=X.out.cl 2 _ rfl;have y3:=X.out.cl 3 _ rfl;have y4:=X.out.cl 4 _ rfl
  go_wp2_with fail
  obtain ⟨b9,x9,o9,n9⟩:=U4 BA.out X.out 0 false ⟨#[]⟩ (vo:=.slice none 0 0) (vn:=.slice none 0 0) (show VU _ _ _ _ [] from Zl _ _ _ _) (show Own _ _ _ _ _ [] from Zl _ _ _ _);have d0:=x9.cl 0 _ rfl;have d1:=x9.cl 1 _ rfl;have d2:=x9.cl 2 _ rfl;have d3:=x9.cl 3 _ rfl;have d4:=x9.cl 4 _ rfl;exact ZS (v:=.agg #[.int .i64 0,.slice none 0 0,.bool false,.string ⟨#[]⟩,.slice none 0 0]) (by simp [results,Tryz.results59,go_sem,d0,d1,d2,d3,d4]) rfl (by rw [WG.out];exact ⟨_,_,rfl,o9,n9,b9⟩)
theorem GJ (w:World) (ao:Option Addr) (cap:Nat):Calls Tryz.prog 101 #[.slice ao 0 cap] w fun e w'=>ME w [] e w':=by
 have bA:ZX w (w.alloc (.cells #[.int .i64 0,.string ⟨#[]⟩,.string ⟨#[]⟩,.int .i64 0,.bool false] 159)):=ZJ.alloc ZT _;have X:=St.new w #[.int .i64 0,.string ⟨#[]⟩,.string ⟨#[]⟩,.int .i64 0,.bool false] 159;have BA:=Z3 bA;have d0:=X.cl 0 _ rfl;have d1:=X.cl 1 _ rfl;have d2:=X.cl 2 _ rfl;have d3:=X.cl 3 _ rfl;have d4:=X.cl 4 _ rfl;clear bA
 go_enter Tryz.func101,Tryz.ntmps101
 go_wp2_with fail
 exact ZS (v:=.tuple #[Qx ⟨0,⟨#[]⟩,⟨#[]⟩,0,false⟩,.bool false]) (by simp [results,Tryz.results101,go_sem,Qx,d0,d1,d2,d3,d4]) rfl (ME.no (by rfl) BA.out)
theorem GI (w:World) (v:Value) (L:List ByteArray) (h:ux w v L) (hsz:m6 L) (hg:AQ w m te pe) (hf:uu w):Calls Tryz.prog 101 #[v] w fun e w'=>ME w L e w':=by
 obtain ⟨ao,cap,rfl,h1,h2,h3⟩:=h
 by_cases h0:0<L.length
 · rcases h3 with h3 | ⟨b,o,rfl,hb,hc⟩
   · rw [h3] at h0;simp at h0
   exact GM w b o cap L h0 h1 h2 hsz hc hb hg hf
 have hn:L=[]:=TN (by omega);subst hn;exact GJ w ao cap
def We (w:World) (b:Nat) (L:List (ByteArray × Value)):Prop :=
 ∃es clock,w.heap[b]?=some (.map es clock)∧es.toList.map (fun e=>(e.key,e.val))=L.map (fun x=>(Value.string x.1,x.2))
theorem We.lt {b:Nat} {L:List (ByteArray × Value)} (h:We w b L):b<w.heap.size:=by
 obtain ⟨es,clock,hb,-⟩:=h;exact (Yh.1 hb).1
theorem We.made (w:World):We (w.alloc (.map #[] 0)) w.heap.size []:=⟨#[],0,(MapKept.heap_alloc w _).1,rfl⟩
theorem We.below {b:Nat} {L:List (ByteArray × Value)} (h:We w b L) (hb:ZX w w'):We w' b L:=by
 have hl:=h.lt;obtain ⟨es,clock,h1,h2⟩:=h;exact ⟨es,clock,(hb.block _ hl).trans h1,h2⟩
theorem We.keys {es:Array MapEntry} {L:List (ByteArray × Value)} (h2:es.toList.map (fun e=>(e.key,e.val))=L.map (fun x=>(Value.string x.1,x.2))) (x:MapEntry) (hx:x ∈ es.toList):∃s v,x.key=.string s∧x.val=v∧(s,v) ∈ L:=by
 have:(x.key,x.val) ∈ L.map (fun x=>(Value.string x.1,x.2)):=by rw [←h2];exact List.mem_map.2 ⟨x,hx,rfl⟩
 obtain ⟨⟨s,v⟩,hm,e⟩:=List.mem_map.1 this
 injection e with e1 e2
 exact ⟨s,v,e1.symm,e2.symm,hm⟩
theorem Nh {es:Array MapEntry} {L:List (ByteArray × Value)} (h2:es.toList.map (fun e=>(e.key,e.val))=L.map (fun x=>(Value.string x.1,x.2))) (s:ByteArray) :
    (Instr.findNow .string (.string s) es.toList 0=some none∧∀y ∈ L,y.1≠s)∨∃i v,Instr.findNow .string (.string s) es.toList 0=some (some (i,v))∧(s,v) ∈ L:=by
 have hk:MapKept.IsKey .string (.string s):=by simp [MapKept.IsKey]
 rcases MapKept.findNow_spec hk es.toList 0 (fun x hx=>by obtain ⟨t,v,e,-⟩:=We.keys h2 x hx;rw [e];simp [MapKept.IsKey]) with ⟨h1,h3⟩ | ⟨j,e,h1,h3,h4⟩
 · refine .inl ⟨h1,fun y hy e9=>?_⟩
   have:(Value.string y.1,y.2) ∈ es.toList.map (fun e=>(e.key,e.val)):=by rw [h2];exact List.mem_map.2 ⟨y,hy,rfl⟩
   obtain ⟨x,hx,e⟩:=List.mem_map.1 this
   injection e with e1 e2
   exact h3 x hx (by rw [e1,e9])
 obtain ⟨t,v,e1,e2,hm⟩:=We.keys h2 e (zR h3);rw [e1] at h4
 injection h4 with h4
 subst h4;exact .inr ⟨_,v,by rw [h1,e2],hm⟩
theorem We.put {b:Nat} {L:List (ByteArray × Value)} (h:We w b L) (ht:P.underlying t=some (.map k e)) (hk:P.underlying k=some .string) (hn:∀y ∈ L,y.1≠s) (v:Value) :
    ∃w',(Instr.mapUpdate t (.map (some b)) (.string s) v).run P w=.ok () w'∧We w' b (L++[(s,v)])∧w.grownBy w' (some b)∧w'.heap.size=w.heap.size:=by
 have hl:=h.lt;obtain ⟨es,clock,hb,h2⟩:=h;have hc:(Instr.checkKey false 10000 k (.string s)).run P w=.ok () w:=MapKept.run_checkKey (k:=.string s) hk (by simp [MapKept.IsKey]) false 9999
 rcases Nh h2 s with ⟨hf,-⟩ | ⟨i,v9,-,hm⟩
 · refine ⟨ChangeMaps.setBlock w b (.map (es.push { key:=.string s,val:=v,born:=clock }) (clock+1)),?_,⟨_,_,ChangeMaps.heap_setBlock_same hb _,?_⟩,⟨rfl,rfl,rfl,by simp [ChangeMaps.setBlock],fun i _ hi=>ChangeMaps.heap_setBlock_other hb _ (fun e=>hi (by rw [e]))⟩,by simp [ChangeMaps.setBlock]⟩
   · simp [Instr.mapUpdate,US ht,MapKept.run_getObj_map hb,hc,MapKept.run_findKey hk hf,MapKept.run_setObj_map _ hb,Result.andThen,ChangeMaps.setBlock]
   rw [Array.toList_push,Wn,Wn,h2]
   rfl
 exact absurd rfl (hn _ hm)
theorem We.hit {b:Nat} {L:List (ByteArray × Value)} (h:We w b L) (ht:P.underlying t=some (.map k e)) (hk:P.underlying k=some .string) {v:Value} (hm:(s,v) ∈ L) (hu:∀v9,(s,v9) ∈ L→v9=v) :
    (Instr.lookup t (.map (some b)) (.string s) true).run P w=.ok (.tuple #[v,.bool true]) w:=by
 obtain ⟨es,clock,hb,h2⟩:=h;have hc:(Instr.checkKey es.isEmpty 10000 k (.string s)).run P w=.ok () w:=MapKept.run_checkKey (k:=.string s) hk (by simp [MapKept.IsKey]) _ 9999
 rcases Nh h2 s with ⟨-,hn⟩ | ⟨i,v9,hf,fp⟩
 · exact absurd rfl (hn _ hm)
 rw [hu v9 fp] at hf
 simp [Instr.lookup,US ht,MapKept.run_getObj_map hb,hc,MapKept.run_findKey hk hf,Result.andThen]
structure PS (w W:World) (n:Nat) (L:List (ByteArray × Value)) (C:List (Nat × Value)):Prop where
 m:We W w.heap.size L
 b:ZX w W
 z:W.heap.size=n
 c:∀p ∈ C,w.heap.size<p.1∧p.1<n∧W.cell? ⟨p.1,0,none⟩=some p.2
theorem PS.made (w:World):PS w (w.alloc (.map #[] 0)) (w.heap.size+1) [] []:=⟨We.made w,ZJ.alloc ZT _,by simp,fun p hp=>by cases hp⟩
theorem PS.box {L:List (ByteArray × Value)} (h:PS w W n L C) (v:Value) (t:TypeId):PS w (W.alloc (.cells #[v] t)) (n+1) L (C++[(n,v)]):=by
 have hb:ZX W (W.alloc (.cells #[v] t)):=ZJ.alloc ZT _;have hm:=h.m.lt;refine ⟨h.m.below hb,h.b.trans (hb.mono h.b.size),by simp [h.z],fun p hp=>?_⟩
 rcases XP.1 hp with hp | hp
 · obtain ⟨h1,h2,h3⟩:=h.c p hp
   exact ⟨h1,Nat.lt_succ_of_lt h2,(hb.cell (p:=⟨p.1,0,none⟩) (by rw [h.z];exact h2)).trans h3⟩
 obtain rfl:p=(n,v):=by simpa using hp
 refine ⟨by rw [←h.z];exact hm,OQ _,?_⟩;have:=(St.new W #[v] t).cl 0 _ rfl;rw [h.z] at this;exact this
theorem PS.put {W':World} {L L':List (ByteArray × Value)} (h:PS w W n L C) (hm:We W' w.heap.size L') (hg:W.grownBy W' (some w.heap.size)) (hz:W'.heap.size=W.heap.size):PS w W' n L' C:=by
 refine ⟨hm,h.b.grown hg (ZF ZT h.b.size) (fun q hq=>by injection hq with hq;omega),hz.trans h.z,fun p hp=>?_⟩;obtain ⟨h1,h2,h3⟩:=h.c p hp;refine ⟨h1,h2,?_⟩;have:=hg.block p.1 (by rw [h.z];exact h2) (by intro e;injection e with e;omega);unfold World.cell? at h3 ⊢
 simp only at h3 ⊢
 rw [this];exact h3
theorem Zn (w W:World) {ops:Array Oper} {rest:List Oper} {o:Oper} {a:Act} {Q:Exit→Act→World→Prop}
    (hg:o.guard=none) (m x v:Operand) (t:TypeId) (hop:o.op=Op.insert t m x v) (k e:TypeId) (ht:P.underlying t=some (.map k e)) (hk:P.underlying k=some .string) (n:Nat) (L:List (ByteArray × Value)) (C:List (Nat × Value)) (hown:PS w W n L C)
    (hm:a.eval m=.map (some w.heap.size)) (s:ByteArray) (val:Value) (hx:a.eval x=.string s) (hv:a.eval v=val) (hnew:∀y ∈ L,y.1≠s)
    (hK:∀W',PS w W' n (L++[(s,val)]) C→wpList P ops Q rest (a.put o.dst undef) W'):wpList P ops Q (o :: rest) a W:=by
 refine Jd hg fun K' hK'=>?_
 obtain ⟨w',hrun,r1,r2,r3⟩:=hown.m.put ht hk hnew val;unfold Oper.wp
 simp [execOp,hop,hm,hx,hv,hrun,Result.andThen]
 exact hK' _ _ (hK w' (hown.put r1 r2 r3))
theorem Xe (w:World) (n:Nat) (hn:w.heap.size=n) (k:Int):Calls Tryz.prog 61 #[.int .i64 k] w fun e w'=>e=.returned (.func (.func 103) #[] #[.pointer (some ⟨n,0,none⟩)])∧w'=w.alloc (.cells #[.int .i64 k] 2):=by
 go_enter Tryz.func61,Tryz.ntmps61
 go_wp2;go_ret;exact ⟨by rw [←hn];rfl,rfl⟩
theorem Td (w:World) (n:Nat) (hn:w.heap.size=n) (k:Int):Calls Tryz.prog 62 #[.int .i64 k] w fun e w'=>e=.returned (.func (.func 104) #[] #[.pointer (some ⟨n,0,none⟩)])∧w'=w.alloc (.cells #[.int .i64 k] 2):=by
 go_enter Tryz.func62,Tryz.ntmps62
 go_wp2;go_ret;exact ⟨by rw [←hn];rfl,rfl⟩
theorem Xb (w:World) (n:Nat) (hn:w.heap.size=n) (k:Int) (f:Nat):Calls Tryz.prog 63 #[.int .i64 k,.func (.func f) #[] #[]] w fun e w'=>e=.returned (.func (.func 105) #[] #[.pointer (some ⟨n+1,0,none⟩),.pointer (some ⟨n,0,none⟩)])∧w'=(w.alloc (.cells #[.int .i64 k] 2)).alloc (.cells #[.func (.func f) #[] #[]] 125):=by
 go_enter Tryz.func63,Tryz.ntmps63
 go_wp2;go_ret;exact ⟨by rw [←hn];simp,rfl⟩
def ur (n:Nat):List (ByteArray × Value):=[(⟨#[99,114,101,97,116,101]⟩,.func (.func 59) #[] #[]),
 (⟨#[115,101,113]⟩,.func (.func 59) #[] #[]),
 (⟨#[100,101,108,101,116,101]⟩,.func (.func 59) #[] #[]),
 (⟨#[115,101,116]⟩,.func (.func 59) #[] #[]),
 (⟨#[99,104,101,99,107]⟩,.func (.func 59) #[] #[]),
 (⟨#[109,117,108,116,105]⟩,.func (.func 60) #[] #[]),
 (⟨#[102,108,117,115,104]⟩,.func (.func 103) #[] #[.pointer (some ⟨n+1,0,none⟩)]),
 (⟨#[103,101,116]⟩,.func (.func 104) #[] #[.pointer (some ⟨n+2,0,none⟩)]),
 (⟨#[108,105,115,116]⟩,.func (.func 104) #[] #[.pointer (some ⟨n+3,0,none⟩)]),
 (⟨#[100,117,109,112]⟩,.func (.func 103) #[] #[.pointer (some ⟨n+4,0,none⟩)]),
 (⟨#[115,110,97,112]⟩,.func (.func 103) #[] #[.pointer (some ⟨n+5,0,none⟩)]),
 (⟨#[115,116,101,112]⟩,.func (.func 105) #[] #[.pointer (some ⟨n+7,0,none⟩),.pointer (some ⟨n+6,0,none⟩)]),
 (⟨#[97,114,109]⟩,.func (.func 105) #[] #[.pointer (some ⟨n+9,0,none⟩),.pointer (some ⟨n+8,0,none⟩)]),
 (⟨#[99,114,97,115,104]⟩,.func (.func 105) #[] #[.pointer (some ⟨n+11,0,none⟩),.pointer (some ⟨n+10,0,none⟩)]),
 (⟨#[114,111,116]⟩,.func (.func 105) #[] #[.pointer (some ⟨n+13,0,none⟩),.pointer (some ⟨n+12,0,none⟩)]),
 (⟨#[114,101,99,111,118,101,114]⟩,.func (.func 103) #[] #[.pointer (some ⟨n+14,0,none⟩)]),
 (⟨#[115,116,97,116,117,115]⟩,.func (.func 103) #[] #[.pointer (some ⟨n+15,0,none⟩)])]
def mX (n:Nat):List (Nat × Value):=[(n+1,.int .i64 2),(n+2,.int .i64 3),(n+3,.int .i64 4),(n+4,.int .i64 5),(n+5,.int .i64 6),(n+6,.int .i64 7),(n+7,.func (.func 64) #[] #[]),(n+8,.int .i64 8),(n+9,.func (.func 65) #[] #[]),(n+10,.int .i64 9),(n+11,.func (.func 66) #[] #[]),(n+12,.int .i64 10),(n+13,.func (.func 67) #[] #[]),(n+14,.int .i64 11),(n+15,.int .i64 12)]
theorem Tc {x y:ByteArray} (h:(x.data.toList == y.data.toList)=false):x≠y:=fun e=>by rw [e] at h;simp at h
theorem GG (w:World):Calls Tryz.prog 26 #[] w fun e w'=>e=.returned (.map (some w.heap.size))∧PS w w' (w.heap.size+16) (ur w.heap.size) (mX w.heap.size):=by
 have hmm:=@run_makeMap Tryz.prog;have H0:=Z3 (PS.made w)
 go_enter Tryz.func26,Tryz.ntmps26
 go_wp2_with (refine Zn w _ rfl _ _ _ 75 rfl 9 73 Tryz.underlying75 Tryz.underlying9 _ _ _ (H0).out rfl ⟨#[99,114,101,97,116,101]⟩ _ rfl rfl (by intro y hy;simp at hy;try (rcases hy with rfl);all_goals exact Tc (by rfl)) ?_)
 intro u0 H1
 replace H1:=Z3 H1
 clear H0
 go_wp2_with (refine Zn w _ rfl _ _ _ 75 rfl 9 73 Tryz.underlying75 Tryz.underlying9 _ _ _ (H1).out rfl ⟨#[115,101,113]⟩ _ rfl rfl (by intro y hy;simp at hy;try (rcases hy with rfl);all_goals exact Tc (by rfl)) ?_)
 intro u1 H2
 replace H2:=Z3 H2
 clear H1
 go_wp2_with (refine Zn w _ rfl _ _ _ 75 rfl 9 73 Tryz.underlying75 Tryz.underlying9 _ _ _ (H2).out rfl ⟨#[100,101,108,101,116,101]⟩ _ rfl rfl (by intro y hy;simp at hy;try (rcases hy with rfl | rfl);all_goals exact Tc (by rfl)) ?_)
 intro u2 H3
 replace H3:=Z3 H3
 clear H2
 go_wp2_with (refine Zn w _ rfl _ _ _ 75 rfl 9 73 Tryz.underlying75 Tryz.underlying9 _ _ _ (H3).out rfl ⟨#[115,101,116]⟩ _ rfl rfl (by intro y hy;simp at hy;try (rcases hy with rfl | rfl | rfl);all_goals exact Tc (by rfl)) ?_)
 intro u3 H4
 replace H4:=Z3 H4
 clear H3
 go_wp2_with (refine Zn w _ rfl _ _ _ 75 rfl 9 73 Tryz.underlying75 Tryz.underlying9 _ _ _ (H4).out rfl ⟨#[99,104,101,99,107]⟩ _ rfl rfl (by intro y hy;simp at hy;try (rcases hy with rfl | rfl | rfl | rfl);all_goals exact Tc (by rfl)) ?_)
 intro u4 H5
 replace H5:=Z3 H5
 clear H4
 go_wp2_with (refine Zn w _ rfl _ _ _ 75 rfl 9 73 Tryz.underlying75 Tryz.underlying9 _ _ _ (H5).out rfl ⟨#[109,117,108,116,105]⟩ _ rfl rfl (by intro y hy;simp at hy;try (rcases hy with rfl | rfl | rfl | rfl | rfl);all_goals exact Tc (by rfl)) ?_)
 intro u5 H6
 replace H6:=Z3 H6
 clear H5
 go_wp2_with fail
 refine (Xe _ _ H6.out.z 2).mono ?_;rintro e w6 ⟨rfl,rfl⟩
 replace H6:=Z3 (H6.out.box (.int .i64 2) 2)
 generalize World.alloc _ _=v6 at *
 go_wp2_with (refine Zn w _ rfl _ _ _ 75 rfl 9 73 Tryz.underlying75 Tryz.underlying9 _ _ _ (H6).out rfl ⟨#[102,108,117,115,104]⟩ _ rfl rfl (by intro y hy;simp at hy;try (rcases hy with rfl | rfl | rfl | rfl | rfl | rfl);all_goals exact Tc (by rfl)) ?_)
 intro u6 H7
 replace H7:=Z3 H7
 clear H6
 go_wp2_with fail
 refine (Td _ _ H7.out.z 3).mono ?_;rintro e w7 ⟨rfl,rfl⟩
 replace H7:=Z3 (H7.out.box (.int .i64 3) 2)
 generalize World.alloc _ _=v7 at *
 go_wp2_with (refine Zn w _ rfl _ _ _ 75 rfl 9 73 Tryz.underlying75 Tryz.underlying9 _ _ _ (H7).out rfl ⟨#[103,101,116]⟩ _ rfl rfl (by intro y hy;simp at hy;try (rcases hy with rfl | rfl | rfl | rfl | rfl | rfl | rfl);all_goals exact Tc (by rfl)) ?_)
 intro u7 H8
 replace H8:=Z3 H8
 clear H7
 go_wp2_with fail
 refine (Td _ _ H8.out.z 4).mono ?_;rintro e w8 ⟨rfl,rfl⟩
 replace H8:=Z3 (H8.out.box (.int .i64 4) 2)
 generalize World.alloc _ _=v8 at *
 go_wp2_with (refine Zn w _ rfl _ _ _ 75 rfl 9 73 Tryz.underlying75 Tryz.underlying9 _ _ _ (H8).out rfl ⟨#[108,105,115,116]⟩ _ rfl rfl (by intro y hy;simp at hy;try (rcases hy with rfl | rfl | rfl | rfl | rfl | rfl | rfl | rfl);all_goals exact Tc (by rfl)) ?_)
 intro u8 H9
 replace H9:=Z3 H9
 clear H8
 go_wp2_with fail
 refine (Xe _ _ H9.out.z 5).mono ?_;rintro e w9 ⟨rfl,rfl⟩
 replace H9:=Z3 (H9.out.box (.int .i64 5) 2)
 generalize World.alloc _ _=v9 at *
 go_wp2_with (refine Zn w _ rfl _ _ _ 75 rfl 9 73 Tryz.underlying75 Tryz.underlying9 _ _ _ (H9).out rfl ⟨#[100,117,109,112]⟩ _ rfl rfl (by intro y hy;simp at hy;try (rcases hy with rfl | rfl | rfl | rfl | rfl | rfl | rfl | rfl | rfl);all_goals exact Tc (by rfl)) ?_)
 intro u9 Z8
 replace Z8:=Z3 Z8
 clear H9
 go_wp2_with fail
 refine (Xe _ _ Z8.out.z 6).mono ?_;rintro e LE ⟨rfl,rfl⟩
 replace Z8:=Z3 (Z8.out.box (.int .i64 6) 2)
 generalize World.alloc _ _=v10 at *
 go_wp2_with (refine Zn w _ rfl _ _ _ 75 rfl 9 73 Tryz.underlying75 Tryz.underlying9 _ _ _ (Z8).out rfl ⟨#[115,110,97,112]⟩ _ rfl rfl (by intro y hy;simp at hy;try (rcases hy with rfl | rfl | rfl | rfl | rfl | rfl | rfl | rfl | rfl | rfl);all_goals exact Tc (by rfl)) ?_)
 intro u10 uz
 replace uz:=Z3 uz
 clear Z8
 go_wp2_with fail
 refine (Xb _ _ uz.out.z 7 _).mono ?_;rintro e fG ⟨rfl,rfl⟩
 replace uz:=Z3 ((uz.out.box (.int .i64 7) 2).box (.func (.func 64) #[] #[]) 125)
 generalize (World.alloc _ _).alloc _=v11 at *
 go_wp2_with (refine Zn w _ rfl _ _ _ 75 rfl 9 73 Tryz.underlying75 Tryz.underlying9 _ _ _ (uz).out rfl ⟨#[115,116,101,112]⟩ _ rfl rfl (by intro y hy;simp at hy;try (rcases hy with rfl | rfl | rfl | rfl | rfl | rfl | rfl | rfl | rfl | rfl | rfl);all_goals exact Tc (by rfl)) ?_)
 intro u11 Z7
 replace Z7:=Z3 Z7
 clear uz
 go_wp2_with fail
 refine (Xb _ _ Z7.out.z 8 _).mono ?_;rintro e uA ⟨rfl,rfl⟩
 replace Z7:=Z3 ((Z7.out.box (.int .i64 8) 2).box (.func (.func 65) #[] #[]) 125)
 generalize (World.alloc _ _).alloc _=v12 at *
 go_wp2_with (refine Zn w _ rfl _ _ _ 75 rfl 9 73 Tryz.underlying75 Tryz.underlying9 _ _ _ (Z7).out rfl ⟨#[97,114,109]⟩ _ rfl rfl (by intro y hy;simp at hy;try (rcases hy with rfl | rfl | rfl | rfl | rfl | rfl | rfl | rfl | rfl | rfl | rfl | rfl);all_goals exact Tc (by rfl)) ?_)
 intro u12 uy
 replace uy:=Z3 uy
 clear Z7
 go_wp2_with fail
 refine (Xb _ _ uy.out.z 9 _).mono ?_;rintro e fF ⟨rfl,rfl⟩
 replace uy:=Z3 ((uy.out.box (.int .i64 9) 2).box (.func (.func 66) #[] #[]) 125)
 generalize (World.alloc _ _).alloc _=v13 at *
 go_wp2_with (refine Zn w _ rfl _ _ _ 75 rfl 9 73 Tryz.underlying75 Tryz.underlying9 _ _ _ (uy).out rfl ⟨#[99,114,97,115,104]⟩ _ rfl rfl (by intro y hy;simp at hy;try (rcases hy with rfl | rfl | rfl | rfl | rfl | rfl | rfl | rfl | rfl | rfl | rfl | rfl | rfl);all_goals exact Tc (by rfl)) ?_)
 intro u13 Z6
 replace Z6:=Z3 Z6
 clear uy
 go_wp2_with fail
 refine (Xb _ _ Z6.out.z 10 _).mono ?_;rintro e eD ⟨rfl,rfl⟩
 replace Z6:=Z3 ((Z6.out.box (.int .i64 10) 2).box (.func (.func 67) #[] #[]) 125)
 generalize (World.alloc _ _).alloc _=v14 at *
 go_wp2_with (refine Zn w _ rfl _ _ _ 75 rfl 9 73 Tryz.underlying75 Tryz.underlying9 _ _ _ (Z6).out rfl ⟨#[114,111,116]⟩ _ rfl rfl (by intro y hy;simp at hy;try (rcases hy with rfl | rfl | rfl | rfl | rfl | rfl | rfl | rfl | rfl | rfl | rfl | rfl | rfl | rfl);all_goals exact Tc (by rfl)) ?_)
 intro u14 Z5
 replace Z5:=Z3 Z5
 clear Z6
 go_wp2_with fail
 refine (Xe _ _ Z5.out.z 11).mono ?_;rintro e dV ⟨rfl,rfl⟩
 replace Z5:=Z3 (Z5.out.box (.int .i64 11) 2)
 generalize World.alloc _ _=v15 at *
 go_wp2_with (refine Zn w _ rfl _ _ _ 75 rfl 9 73 Tryz.underlying75 Tryz.underlying9 _ _ _ (Z5).out rfl ⟨#[114,101,99,111,118,101,114]⟩ _ rfl rfl (by intro y hy;simp at hy;try (rcases hy with rfl | rfl | rfl | rfl | rfl | rfl | rfl | rfl | rfl | rfl | rfl | rfl | rfl | rfl | rfl);all_goals exact Tc (by rfl)) ?_)
 intro u15 Z4
 replace Z4:=Z3 Z4
 clear Z5
 go_wp2_with fail
 refine (Xe _ _ Z4.out.z 12).mono ?_;rintro e w16 ⟨rfl,rfl⟩
 replace Z4:=Z3 (Z4.out.box (.int .i64 12) 2)
 generalize World.alloc _ _=v16 at *
 go_wp2_with (refine Zn w _ rfl _ _ _ 75 rfl 9 73 Tryz.underlying75 Tryz.underlying9 _ _ _ (Z4).out rfl ⟨#[115,116,97,116,117,115]⟩ _ rfl rfl (by intro y hy;simp at hy;try (rcases hy with rfl | rfl | rfl | rfl | rfl | rfl | rfl | rfl | rfl | rfl | rfl | rfl | rfl | rfl | rfl | rfl);all_goals exact Tc (by rfl)) ?_)
 intro u16 ZN
 replace ZN:=Z3 ZN
 clear Z4
 go_wp2_with fail
 go_ret;exact ⟨rfl,ZN.out⟩
theorem jP {f:ByteArray} {l:List UInt8} (h:(f.toList == l)=true):f=Xv l:=by rw [←QF f,←Pt,ZK.1 h]
theorem GF (b:ByteArray):strOfNums (bI b)=b:=by
 have h:=we b 0 b.size;rw [Qu,Qu,Wv (by rw [U6];exact ZT),Wv (by rw [WW];exact ZT)] at h;rw [h]
 rfl
theorem vO (b:ByteArray) (hs:b.size≤1048576):0<(Xw b).length∧(Xw b).length≤1048577∧m6 (Xw b):=by
 have h1:=GS 32 b.data.toList [];obtain ⟨h2,h3⟩:=Nn 32 b.data.toList [];have h4:=WW b;unfold Xw;rw [XJ];refine ⟨h1,by omega,fun i=>?_⟩
 by_cases hi:i<((VL 32 [] b.data.toList).map Xv).length
 · rw [SQ hi,List.getElem_map]
   rw [XJ] at hi;have:=h3 _ (UO hi);rw [←WW,UJ]
   simp at this;omega
 unfold ZE;rw [List.getD,MX (by omega)];exact Zu _
theorem AI (w:World) (b:ByteArray) (hs:b.size≤1048576) (hm:w.cell? ⟨1,0,none⟩=some (.int .i64 m)) :
    Calls Tryz.prog 23 #[.string b,.string ⟨#[32]⟩] w fun e w'=>e=.returned (.slice (some ⟨w.heap.size,0,none⟩) (Xw b).length (Xw b).length)∧w'=w.alloc (.cells ((Xw b).map Value.string).toArray 9):=by
 have h:=Tryz.strings_Split b ⟨#[32]⟩ m w (by omega) hm (by decide);have e:=rI (Lib.countB b ⟨#[32]⟩) b rfl;have l:=Lib.splitB_all ⟨#[32]⟩ (by decide) 0 (Lib.countB b ⟨#[32]⟩) b rfl;rw [e] at h l;rw [l];exact h
theorem AH (W:World) (L:List ByteArray) (i:Nat) (hi:i<L.length):(W.alloc (.cells (L.map Value.string).toArray 9)).cell? ⟨W.heap.size,i,none⟩=some (.string (ZE L i)):=by
 have:=(St.new W (L.map Value.string).toArray 9).cl i (.string (ZE L i)) (by
  show (L.map Value.string).toArray.toList[i]?=_;rw [Ea,Qs,Xc hi,SQ hi]
  rfl)
 exact this
end
section
open Go.RowKit Go.Conc
variable {s:ByteArray} {m:Int} {C:List (Nat × Value)} {L:List ByteArray} {S i j n:Nat} {P:Program} {κ:Sc} {e k t te:TypeId} {pe:Value} {W w w':World}
structure rB (m:Int) (te:TypeId) (pe:Value) (W:World):Prop where
 tc:TF W
 qs : Lib.TabIs Tryz.prog W "internal/strconv.uint64pow10" .u64 Lib.pow10Tab
 er:W.cell? ⟨5,0,none⟩=some (.iface 345 (.agg #[.pointer (some ⟨11,182,none⟩)]))
 pl:AQ W m te pe
 fm:uu W
def Gl (m:Int) (te:TypeId) (pe:Value) (κ:Sc) (w:World):Prop:=∀W,Gw κ w W→rB m te pe W
theorem Gw.boxed {X:List Nat} (h:Gw { κ with X:=X } w w'):Gw κ w w':=⟨h.os,h.tape,h.output,h.size,h.block⟩
section
variable {m:Int} {te:TypeId} {pe:Value} (κ:Sc) (σ:Sx) (w:World)
theorem Ng (h:Sv κ σ w) (hgl:Gl m te pe κ w) (hT:σ.T≠[]) (hQ:σ.Q≠[]) (vo vn:Value) (mu:Bool) (pa:ByteArray) (hf:σ.fs=[]) (hz:σ.zf<1000000) :
    Calls Tryz.prog 14 #[.pointer (some ⟨κ.sB,0,none⟩),.agg #[.int .i64 2,vo,.bool mu,.string pa,vn]] w fun e w'=>e=.returned (.string (strOfNums (Yx ⟨#[102,108,117,115,104,101,100]⟩ [0,σ.zf])))∧Gw κ w w'∧∃ σ',σ'=σ∧Sv κ σ' w':=by
 refine VM κ σ _ w h hT hQ 2 (by decide) (by decide) (by decide) (by decide) vo vn mu pa _ (fun W hW hb=>?_);refine Hj W _ vo vn mu pa _ (fun w'=>Gw _ W w'∧∃ σ',σ'=σ∧Sv _ σ' w') (fun W2 hb2=>?_);have ST:=YV hb hb2;refine (EP { κ with X:=(w.heap.size+2) :: κ.X } σ W2 (hW.below hb2) hf hz (fun W3 g=>(hgl W3 ((Gs.ZV ST).gw.trans g.boxed)).qs)).mono ?_;rintro e w' ⟨rfl,g,v⟩;exact ⟨rfl,(Gs.ZV hb2).gw.trans g.gw,σ,rfl,v⟩
theorem Nf (h:Sv κ σ w) (hgl:Gl m te pe κ w) (hT:σ.T≠[]) (hQ:σ.Q≠[]) (vo vn:Value) (mu:Bool) (pa:ByteArray) (hf:0<σ.fs.length) (hN:σ.fs.length≤4096) (h0:σ.off=0) (hroom:((σ.full.length+σ.fs.flatten.length:Nat):Int)≤κ.L*64) (hc:YO κ.S κ.L=true) (hb:0≤σ.b∧σ.b≤1) (hk:σ.k≤8000) (hz:σ.zq<1000000) (hsp:σ.pw=none∨σ.sn=none) :
    Calls Tryz.prog 14 #[.pointer (some ⟨κ.sB,0,none⟩),.agg #[.int .i64 2,vo,.bool mu,.string pa,vn]] w fun e w'=>e=.returned (.string (strOfNums (Yx ⟨#[102,108,117,115,104,101,100]⟩ [σ.fs.length,σ.zq])))∧Gw κ w w'∧∃ σ',σ'={ σ with T:=σ.Q,zf:=σ.zq,fs:=[],ql:=0,full:=σ.full++σ.fs.flatten,k:=σ.k+66,pw:=none }∧Sv κ σ' w':=by
 refine VM κ σ _ w h hT hQ 2 (by decide) (by decide) (by decide) (by decide) vo vn mu pa _ (fun W hW hb1=>?_);refine Hj W _ vo vn mu pa _ (fun w'=>Gw _ W w'∧∃ σ',σ'=_∧Sv _ σ' w') (fun W2 hb2=>?_);have ST:=YV hb1 hb2;refine (EN { κ with X:=(w.heap.size+2) :: κ.X } σ W2 (hW.below hb2) hf hN h0 hroom hc hb hk hz hsp (fun W3 g=>(hgl W3 ((Gs.ZV ST).gw.trans g.boxed)).qs)).mono ?_;rintro e w' ⟨rfl,g,v⟩;exact ⟨rfl,(Gs.ZV hb2).gw.trans g,_,rfl,v⟩
theorem GE (h:Sv κ σ w) (hgl:Gl m te pe κ w) (hT:σ.T≠[]) (hQ:σ.Q≠[]) (vo vn:Value) (mu:Bool) (pa:ByteArray) (hk:σ.k≤9000) (hsn:σ.sn=none) (hz:σ.zf<1000000) (hfl:σ.full.length≤4096) :
    Calls Tryz.prog 14 #[.pointer (some ⟨κ.sB,0,none⟩),.agg #[.int .i64 6,vo,.bool mu,.string pa,vn]] w fun e w'=>e=.returned (.string (strOfNums (Yx ⟨#[115,116,97,114,116,101,100]⟩ [σ.zf])))∧Gw κ w w'∧∃ σ',(∃pB,σ'={ σ with k:=σ.k+1,pw:=none,sn:=some (pB,σ.zf,σ.full.length - σ.off),em:=false })∧Sv κ σ' w':=by
 refine VM κ σ _ w h hT hQ 6 (by decide) (by decide) (by decide) (by decide) vo vn mu pa _ (fun W hW hb1=>?_);refine rV W _ vo vn mu pa _ (fun w'=>Gw _ W w'∧∃ σ',(∃pB,σ'=_)∧Sv _ σ' w') (fun W2 hb2=>?_);have ST:=YV hb1 hb2;refine (wM { κ with X:=(w.heap.size+2) :: κ.X } σ W2 (hW.below hb2) hk hsn hz hfl (fun W3 g=>(hgl W3 ((Gs.ZV ST).gw.trans g.boxed)).qs)).mono ?_;rintro e w' ⟨rfl,g,pB,v⟩;exact ⟨rfl,(Gs.ZV hb2).gw.trans g,_,⟨pB,rfl⟩,v⟩
theorem J8 (h:Sv κ σ w) (hgl:Gl m te pe κ w) (hT:σ.T≠[]) (hQ:σ.Q≠[]) (vo vn:Value) (pa:ByteArray) (os:List Xd) (ho:MJ w vo os) (EF:Tk κ vo) (GD:∀q,vo.ownBlock=some q→q<w.heap.size) (hseq:∀i,(Ut os i).seq=false) (hol:os.length≤1000) (hos:∀i,(Ut os i).path.size≤1048576∧(Ut os i).data.size≤1048576)
    (Zz:∀i,(ZC σ.Q i).path.size≤1048576∧(ZC σ.Q i).data.size≤1048576) (hz:σ.zq<900000) (A:Pa) (hA:EL σ.Q os ((σ.zq:Int)+1)=A) (fJ:0≤A.c∧A.c<1000) (fI:0≤A.z∧A.z<1000000)
    (hes:∀i,(Yf A.es i).nd.path.size≤1048576∧(Yf A.es i).nd.data.size≤1048576) (him:A.c=0→0<(XX A.z A.es).length∧(XX A.z A.es).length≤2000) (hL:0≤κ.L∧κ.L≤64) (hfl:σ.full.length≤4096) (qu:σ.ql≤4096)
    (hroom:A.c=0→(((σ.full.length - σ.off)+(σ.ql+(fr (XX A.z A.es)).length):Nat):Int)≤κ.L*64→σ.fs.length<κ.cap) :
    Calls Tryz.prog 14 #[.pointer (some ⟨κ.sB,0,none⟩),.agg #[.int .i64 1,vo,.bool false,.string pa,vn]] w fun e w'=>e=.returned (.string (EG κ σ A).1)∧Gw κ w w'∧∃ σ',σ'=(EG κ σ A).2∧Sv κ σ' w':=by
 refine VM κ σ _ w h hT hQ 1 (by decide) (by decide) (by decide) (by decide) vo vn false pa _ (fun W hW hb1=>?_);refine EQ W _ vo vn false pa _ (fun w'=>Gw _ W w'∧∃ σ',σ'=_∧Sv _ σ' w') (fun W2 hb2=>?_);have ST:=YV hb1 hb2;refine (Hd { κ with X:=(w.heap.size+2) :: κ.X } σ W2 (hW.below hb2) vo vn pa os (ho.below ST) (fun q hq=>?_) hseq hol hos Zz hz A hA fJ fI hes him hL hfl qu hroom (hgl W2 (Gs.ZV ST).gw).er (fun W3 g=>(hgl W3 ((Gs.ZV ST).gw.trans g.boxed)).qs)).mono ?_
 · obtain ⟨q1,q2,q3,q4,q5⟩:=EF q hq
   have:=GD q hq;refine ⟨q1,q2,q3,q4,fun e=>?_⟩
   rcases Yz.1 e with e | e
   · omega
   exact q5 e
 rintro e w' ⟨rfl,g,v⟩;exact ⟨rfl,(Gs.ZV hb2).gw.trans g.gw,_,rfl,v⟩
theorem GC (h:Sv κ σ w) (hgl:Gl m te pe κ w) (hT:σ.T≠[]) (hQ:σ.Q≠[]) (vo vn:Value) (mu:Bool) (pa:ByteArray) (nw:Rd .i64 w vn [1000]) (pB z o:Nat) (hsn:σ.sn=some (pB,z,o)) (hem:σ.em=false) (iD:σ.T.length≤1000) (fE:∀i,i<σ.T.length→YL (ZC σ.T i)=true) (fC:∀i,i<σ.T.length→0<(ZC σ.T i).path.size) (fB:(Zi σ.T).length≤100000) (hTy:Wm (Zi σ.T)) (hfs:σ.fs=[])
    (hpw:σ.pw=none) (hg:σ.g=1) (hb:σ.b=0) (hoff:σ.off=0) (ho:o≤σ.full.length) (hfl:(σ.full.length:Int)≤κ.L*64) (hz:z<1000000) (hk:σ.k≤1000) (hc:YO κ.S κ.L=true) :
    Calls Tryz.prog 14 #[.pointer (some ⟨κ.sB,0,none⟩),.agg #[.int .i64 7,vo,.bool mu,.string pa,vn]] w fun e w'=>e=.returned (.string (if ((Zi σ.T).length:Int)≤κ.S*64 then strOfNums (Yx ⟨#[115,101,97,108,101,100]⟩ [z]) else ⟨#[115,110,97,112,102,117,108,108]⟩))∧Gw κ w w'∧∃ σ',(∃l r,σ'=if ((Zi σ.T).length:Int)≤κ.S*64 then { σ with k:=σ.k+135,g:=2,b:=1,s:=(z:Int),l:=l,r:=r,off:=o,sn:=none,em:=true,pw:=none } else { σ with sn:=none,em:=true })∧Sv κ σ' w':=by
 refine VM κ σ _ w h hT hQ 7 (by decide) (by decide) (by decide) (by decide) vo vn mu pa _ (fun W hW hb1=>?_);refine rU W _ vo vn mu pa _ (fun w'=>Gw _ W w'∧∃ σ',(∃l r,σ'=_)∧Sv _ σ' w') 1000 (nw.below hb1) (fun W2 hb2=>?_);have ST:=YV hb1 hb2;refine (wk { κ with X:=(w.heap.size+2) :: κ.X } σ W2 (hW.below hb2) pB z o hsn hem (List.length_pos_iff.2 hT) iD fE fC fB hTy hQ hfs hpw hg hb hoff ho hfl hz hk hc (fun W3 g=>(hgl W3 ((Gs.ZV ST).gw.trans g.boxed)).tc) (fun W3 g=>(hgl W3 ((Gs.ZV ST).gw.trans g.boxed)).qs)).mono ?_;rintro e w' ⟨g,l,r,⟨h1,rfl,v⟩ | ⟨h1,rfl,v⟩⟩
 · have h2:((Zi σ.T).length:Int)≤κ.S*64:=h1
   exact ⟨by rw [ZZ h2],(Gs.ZV hb2).gw.trans g,_,⟨l,r,(ZZ h2).symm⟩,v⟩
 have h2:¬((Zi σ.T).length:Int)≤κ.S*64:=by have h3:κ.S*64<((Zi σ.T).length:Int):=h1;omega
 exact ⟨by rw [Z1 h2],(Gs.ZV hb2).gw.trans g,_,⟨l,r,(Z1 h2).symm⟩,v⟩
end
end
section
open Go.RowKit Go.Shelf
variable {s:ByteArray} {m:Int} {C:List (Nat × Value)} {L:List ByteArray} {S i j n:Nat} {P:Program} {κ:Sc} {e k t te:TypeId} {pe:Value} {W w w':World}
def pA:ByteArray:=⟨#[47,97]⟩
def xB (n:Nat):ByteArray:=⟨(List.replicate n (120:UInt8)).toArray⟩
theorem WJ (n:Nat):(xB n).size=n:=by simp [xB,ByteArray.size]
def Ex:Nd:=⟨Ye,empty,0,1,0,0,1⟩
def MB (n i:Nat):Nd:=⟨pA,xB n,(i:Int),0,1,(i:Int)+1,1⟩
def Yd (n i:Nat):List Nd:=[Ex,MB n i]
def opC (n:Nat):Xd:=⟨1,pA,xB n,0,false⟩
def Nc (n:Nat):Xd:=⟨3,pA,xB n,-1,false⟩
theorem mW:Ye.size=1:=rfl
theorem mV:empty.size=0:=rfl
theorem mT:pA.size=2:=rfl
theorem C5:Zf pA=true:=by decide +kernel
theorem vN:Op.bytesLess Ye.toList pA.toList=true:=by decide +kernel
theorem jO:Op.bytesLess pA.toList Ye.toList=false:=by decide +kernel
theorem GB:(Ye.toList == pA.toList)=false:=by decide +kernel
theorem jN:(pA.toList == Ye.toList)=false:=by decide +kernel
theorem qr:Op.bytesLess pA.toList pA.toList=false:=by decide +kernel
theorem vM:Op.bytesLess Ye.toList Ye.toList=false:=by decide +kernel
theorem jM:(pA.toList == [47])=false:=by decide +kernel
theorem mS:XR pA=Ye:=by kernel_rfl
theorem Ew (hn:n≤64) (hi:i≤1000):YL (MB n i)=true:=by
 unfold YL TU MB
 simp [C5,WJ]
 omega
theorem Ev:YL Ex=true:=by decide +kernel
theorem Gz:Ny [ZI]:=Uj.1 QK
theorem RH (hn:n≤64) (hi:i≤1000):Ny (Yd n i):=by
 refine ⟨?_,?_,by simp [Yd]⟩
 · simp [Asc,Yd,W8,Ex,MB,vN]
 simp [Yd,Ew hn hi,Ev]
theorem fk (hn:n≤64):SJ (opC n)=true:=by
 unfold SJ opC
 simp [C5,WJ,jM,hn]
theorem jL (hn:n≤64):SJ (Nc n)=true:=by
 unfold SJ Nc
 simp [C5,WJ,hn]
theorem fj (hn:n≤64):VI [ZI] (opC n) 1=(0,Yd n 0,pA):=by
 have e1:Pl [ZI] ⟨pA,xB n,0,0,1,1,1⟩=[ZI,MB n 0]:=by
  unfold Pl qM
  simp [JG,ZI,vN,GB,MB]
 have e2:Pl [ZI,MB n 0] { ZI with Zw:=1,pz:=1 }=Yd n 0:=by
  unfold Pl qM
  simp [JG,ZI,jO,jN,vM,MB,Yd,Ex]
 unfold VI;rw [fk hn]
 simp only [opC,mS,Xu,Bool.not_true,Qw,Vw,Uc,C5]
 have f1:[ZI].findIdx (XW Ye)=0:=by simp [zZ,XW,ZI]
 have f2:[ZI].findIdx (XW pA)=1:=by simp [zZ,XW,ZI,GB]
 rw [f1,f2,e1];have f3:[ZI,MB n 0].findIdx (XW Ye)=0:=by simp [zZ,XW,ZI]
 unfold toN;rw [f3]
 simp [ZC,OU]
 exact e2
theorem fh (hn:n≤64) (hi:i≤1000):VI (Yd n i) (Nc n) ((i:Int)+2)=(0,Yd n (i+1),pA):=by
 have f2:(Yd n i).findIdx (XW pA)=1:=by simp [zZ,XW,Yd,Ex,MB,GB]
 have e2:∀a:Nd,a.path=pA→Pl (Yd n i) a=[Ex,a]:=by
  intro a ha;unfold Pl qM
  simp [JG,Yd,Ex,MB,ha,vN,GB,qr]
 unfold VI;rw [jL hn]
 simp only [Nc]
 rw [Z1 (show ¬(!true)=true by decide),Z1 (show ¬(3:Int)=1 by decide),f2,Z1 (by simp [Yd]),Z1 (by simp),Z1 (show ¬(3:Int)=2 by decide),ZZ trivial,e2 _ rfl];have h1:¬(i:Int)=2147483647:=by omega
 simp [Yd,ZC,MB,OU,h1]
 omega
theorem fe (hn:n≤64) (z:Int):VI [ZI] (Nc n) z=(2,[ZI],⟨#[]⟩):=by
 have f2:[ZI].findIdx (XW pA)=1:=by simp [zZ,XW,ZI,GB]
 unfold VI;rw [jL hn]
 simp [Nc,f2]
theorem jK (hn:n≤64):EL [ZI] [opC n] 1=⟨0,0,1,[[47,97]],XQ [ZI] (Yd n 0)⟩:=by
 have e:VX 1 [opC n] [ZI] 0 []=(0,1,Yd n 0,[pA]):=by simp [VX,fj hn]
 have h:VW [ZI] [opC n] 1=true:=by unfold VW;simp [QK]
 unfold EL;rw [ZZ h,e]
 simp [nv,pA]
theorem jJ (hn:n≤64) (hi:i≤900):EL (Yd n i) [Nc n] ((i:Int)+2)=⟨0,0,(i:Int)+2,[[47,97]],XQ (Yd n i) (Yd n (i+1))⟩:=by
 have e:VX ((i:Int)+2) [Nc n] (Yd n i) 0 []=(0,1,Yd n (i+1),[pA]):=by simp [VX,fh hn (show i≤1000 by omega)]
 have h:VW (Yd n i) [Nc n] ((i:Int)+2)=true:=by
  unfold VW
  simp [Uj.2 (RH hn (show i≤1000 by omega))]
  omega
 unfold EL;rw [ZZ h,e]
 simp [nv,pA]
theorem jI (hn:n≤64):EL [ZI] [Nc n] 1=⟨2,0,0,[],[]⟩:=by
 have e:VX 1 [Nc n] [ZI] 0 []=(2,0,[ZI],[]):=by simp [VX,fe hn]
 have h:VW [ZI] [Nc n] 1=true:=by unfold VW;simp [QK]
 unfold EL;rw [ZZ h,e]
 simp
theorem qq :XQ [ZI] (Yd n 0)=[Xh Ex,Xh (MB n 0)]:=by
 have h:Pi ZI Ex=false:=by decide +kernel
 simp [Yd,XQ,W8,show ZI.path=Ye from rfl,show Ex.path=Ye from rfl,vM,h]
theorem qp :XQ (Yd n i) (Yd n (i+1))=[Xh (MB n (i+1))]:=by
 have h:Pi Ex Ex=true:=by decide +kernel
 have h2:Pi (MB n i) (MB n (i+1))=false:=by
  have:((i:Int) == ((i:Int)+1))=false:=by simp;omega
  simp [Pi,MB,this]
 simp [Yd,XQ,W8,show Ex.path=Ye from rfl,show ∀k,(MB n k).path=pA from fun _=>rfl,vM,qr,h,h2]
theorem jH (hn:n≤64):WP 1 (XQ [ZI] (Yd n 0))=true:=Ki Gz (RH hn (by omega)) (by simp [Yd]) (by omega)
theorem jG (hn:n≤64) (hi:i≤900):WP ((i:Int)+2) (XQ (Yd n i) (Yd n (i+1)))=true:=Ki (RH hn (by omega)) (RH hn (by omega)) (by simp [Yd]) (by omega)
theorem jF (hn:n≤64):TQ [ZI] 1 (XQ [ZI] (Yd n 0))=Yd n 0:=Hq Gz (RH hn (by omega)) (by simp [Yd]) (by omega)
theorem jE (hn:n≤64) (hi:i≤900):TQ (Yd n i) ((i:Int)+2) (XQ (Yd n i) (Yd n (i+1)))=Yd n (i+1):=Hq (RH hn (by omega)) (RH hn (by omega)) (by simp [Yd]) (by omega)
theorem C3 (hn:n≤64):(XX 1 (XQ [ZI] (Yd n 0))).length=55+n:=by
 unfold XX;rw [ZZ (jH hn),qq]
 simp [Wz,SL,Xh,Zb,Wb,MB,Ex,WJ,mW,mV,mT]
 omega
theorem CZ (hn:n≤64) (hi:i≤900):(XX ((i:Int)+2) (XQ (Yd n i) (Yd n (i+1)))).length=31+n:=by
 unfold XX;rw [ZZ (jG hn hi),qp]
 simp [Wz,SL,Xh,Zb,Wb,MB,WJ,mT]
 omega
def Zp (n:Nat):Nat:=2+(8*(55+n)+6) / 7
def Ze (n:Nat):Nat:=2+(8*(31+n)+6) / 7
theorem jD (hn:n≤64):(fr (XX 1 (XQ [ZI] (Yd n 0)))).length=Zp n:=by
 rw [EH (by rw [C3 hn];omega) (by rw [C3 hn];omega),C3 hn];rfl
theorem mR (hn:n≤64) (hi:i≤900):(fr (XX ((i:Int)+2) (XQ (Yd n i) (Yd n (i+1))))).length=Ze n:=by
 rw [EH (by rw [CZ hn hi];omega) (by rw [CZ hn hi];omega),CZ hn hi];rfl
theorem AG:(Zi [ZI]).length=23:=by simp [Zi,Wb,ZI,mW,mV]
theorem rA :(Zi (Yd n i)).length=23+24+n:=by
 simp [Zi,Yd,Wb,MB,Ex,WJ,mW,mV,mT]
 omega
def xL (n:Nat):List UInt8:=List.replicate n 120
def Gy (n:Nat):ByteArray:=Xv ([99,114,101,97,116,101]++32 :: ([47,97]++32 :: xL n))
def J7 (n:Nat):ByteArray:=Xv ([115,101,116]++32 :: ([47,97]++32 :: (xL n++32 :: [45,49])))
def RF:ByteArray:=⟨#[102,108,117,115,104]⟩
def FU:ByteArray:=⟨#[115,110,97,112]⟩
def CY:ByteArray:=⟨#[115,116,101,112,32,49,48,48,48]⟩
theorem jC (n:Nat):(32:UInt8) ∉ xL n:=by
 unfold xL;intro h;have:=(List.mem_replicate.1 h).2;exact absurd this (by decide)
theorem J6 (h:1≤n):YG (Xv (xL n))=true:=by
 unfold YG;have h1:(Xv (xL n)).size=n:=by simp [Xv,ByteArray.size,xL]
 rw [UJ,h1]
 simp only [Yg,Yt]
 refine ⟨by omega,?_⟩;unfold xL;rw [Se];intro c hc;rw [(List.mem_replicate.1 hc).2]
 decide
theorem rz (n:Nat) (c:List UInt8) (hc:c.head?≠some 120) (h:1≤n):((Xv (xL n)).toList == c)=false:=by
 have e:(Xv (xL n)).toList=xL n:=by rw [Sf];rfl
 rw [e];obtain ⟨m,rfl⟩:∃m,n=m+1:=⟨n - 1,by omega⟩
 cases c with
 | nil=>rfl
 | cons a c =>
  have:¬(120:UInt8)=a:=fun e=>hc (by simp [e])
  simp [xL,List.replicate_succ,this]
theorem vL (n:Nat):Xw (Gy n)=[Xv [99,114,101,97,116,101],pA,Xv (xL n)]:=by
 unfold Xw Gy;rw [UJ,Vm _ _ _ (by decide),Vm _ _ _ (by decide),VV _ _ (jC n)]
 rfl
theorem vK (n:Nat):Xw (J7 n)=[Xv [115,101,116],pA,Xv (xL n),Xv [45,49]]:=by
 unfold Xw J7;rw [UJ,Vm _ _ _ (by decide),Vm _ _ _ (by decide),Vm _ _ _ (jC n),VV _ _ (by decide)]
 rfl
theorem ry (h:1≤n) (hn:n≤64):Xf (Gy n)=⟨1,[opC n],false,⟨#[]⟩,[]⟩:=by
 have hs:(Gy n).size=10+n:=by simp [Gy,Xv,ByteArray.size,xL];omega
 have g1:YG (Xv [99,114,101,97,116,101])=true:=by decide +kernel
 have g2:YG pA=true:=by decide +kernel
 unfold Xf;rw [Z1 (by omega),vL];have ga:[Xv [99,114,101,97,116,101],pA,Xv (xL n)].all YG=true:=by simp [g1,g2,J6 h]
 rw [ZZ ga,Ni (by show ((Xv [99,114,101,97,116,101]).toList == [99,114,101,97,116,101])=true;decide +kernel)];have s1:Xg (Xv [99,114,101,97,116,101])=false:=by decide +kernel
 have s2:Xg pA=false:=by decide +kernel
 have s3:Xg (Xv (xL n))=false:=rz n _ (by decide) h;have e1:((Xv [99,114,101,97,116,101]).toList == [99,114,101,97,116,101])=true:=by decide +kernel
 have e2:RI (Xv (xL n))=xB n:=by unfold RI;rw [rz n _ (by decide) h];rfl
 have eo:TY [Xv [99,114,101,97,116,101],pA,Xv (xL n)]=some (opC n):=by
  unfold TY
  simp only [List.any_cons,List.any_nil,s1,s2,s3,Bool.or_false,Qw,Vw,Yr,Wo,Nat.reduceAdd,Uc,ZE,Ll,pH]
  unfold MH;rw [ZZ e1,e2]
  rfl
 rw [eo]
theorem CW (h:1≤n) (hn:n≤64):Xf (J7 n)=⟨1,[Nc n],false,⟨#[]⟩,[]⟩:=by
 have hs:(J7 n).size=10+n:=by simp [J7,Xv,ByteArray.size,xL];omega
 have g1:YG (Xv [115,101,116])=true:=by decide +kernel
 have g2:YG pA=true:=by decide +kernel
 have g3:YG (Xv [45,49])=true:=by decide +kernel
 unfold Xf;rw [Z1 (by omega),vK];have ga:[Xv [115,101,116],pA,Xv (xL n),Xv [45,49]].all YG=true:=by simp [g1,g2,g3,J6 h]
 rw [ZZ ga,C6 (by show ((Xv [115,101,116]).toList == [115,101,116])=true;decide +kernel)];have s1:Xg (Xv [115,101,116])=false:=by decide +kernel
 have s2:Xg pA=false:=by decide +kernel
 have s3:Xg (Xv (xL n))=false:=rz n _ (by decide) h;have s4:Xg (Xv [45,49])=false:=by decide +kernel
 have e1:((Xv [115,101,116]).toList == [115,101,116])=true:=by decide +kernel
 have e2:RI (Xv (xL n))=xB n:=by unfold RI;rw [rz n _ (by decide) h];rfl
 have e3:WC (Xv [45,49]).data.toList=some (-1):=by decide +kernel
 have eo:TY [Xv [115,101,116],pA,Xv (xL n),Xv [45,49]]=some (Nc n):=by
  unfold TY
  simp only [List.any_cons,List.any_nil,s1,s2,s3,s4,Bool.or_false,Qw,Vw,Yr,Wo,Nat.reduceAdd,Uc,ZE,Ll,pH,Nat.reduceEqDiff]
  unfold MG;rw [ZZ e1,e2,e3]
  rfl
 rw [eo]
theorem vJ:Xw RF=[RF]:=by unfold Xw;rw [show RF.data.toList=[102,108,117,115,104] from rfl,VV _ _ (by decide)];rfl
theorem vI:Xw FU=[FU]:=by unfold Xw;rw [show FU.data.toList=[115,110,97,112] from rfl,VV _ _ (by decide)];rfl
theorem vH:Xw CY=[Xv [115,116,101,112],Xv [49,48,48,48]]:=by
 unfold Xw;rw [show CY.data.toList=[115,116,101,112]++32 :: [49,48,48,48] from rfl,Vm _ _ _ (by decide),VV _ _ (by decide)];rfl
theorem CV:Xf RF=⟨2,[],false,⟨#[]⟩,[]⟩:=by
 unfold Xf;rw [Z1 (by decide),vJ,ZZ (by decide +kernel),Ls (by decide +kernel)];rfl
theorem rv:Xf FU=⟨6,[],false,⟨#[]⟩,[]⟩:=by
 unfold Xf;rw [Z1 (by decide),vI,ZZ (by decide +kernel),GL (by decide +kernel)];rfl
theorem ru:Xf CY=⟨7,[],false,⟨#[]⟩,[1000]⟩:=by
 unfold Xf;rw [Z1 (by decide),vH,ZZ (by decide +kernel),GK (by decide +kernel)];kernel_rfl
def UI (n:Nat):List ByteArray:=[Gy n,RF]++List.replicate 110 (J7 n)++[RF,FU,CY,J7 n]
theorem Vl (n:Nat):(UI n).length=116:=by simp [UI]
theorem vG (n k:Nat) (hk:k<116):(UI n).getD k ⟨#[]⟩=if k=0 then Gy n else if k=1 then RF else if k<112 then J7 n else if k=112 then RF else if k=113 then FU else if k=114 then CY else J7 n:=by
 unfold UI;rw [List.getD,YM]
 by_cases h2:k<2
 · rw [Wd (by simpa using h2)]
   have:k=0∨k=1:=by omega
   rcases this with rfl | rfl <;> simp
 rw [VG (by simp;omega)]
 simp only [Yr,Wo,Nat.reduceAdd]
 by_cases h3:k<112
 · rw [Wd (by simp;omega),zV,ZZ (by omega),Z1 (by omega),Z1 (by omega),ZZ h3];rfl
 rw [VG (by simp;omega),Ju];have:k=112∨k=113∨k=114∨k=115:=by omega
 rcases this with rfl | rfl | rfl | rfl <;> simp
end
section
open Go.RowKit Go.Conc
variable {s:ByteArray} {m:Int} {C:List (Nat × Value)} {L:List ByteArray} {S i j n:Nat} {P:Program} {κ:Sc} {e k t te:TypeId} {pe:Value} {W w w':World}
def tl (s:ByteArray) (zs:List Nat):ByteArray:=strOfNums (Yx s zs)
def wQ:ByteArray:=⟨#[113,117,101,117,101,100]⟩
def wE:ByteArray:=⟨#[101,114,114,111,114]⟩
def wF:ByteArray:=⟨#[102,108,117,115,104,101,100]⟩
def wS:ByteArray:=⟨#[115,116,97,114,116,101,100]⟩
def wL:ByteArray:=⟨#[115,101,97,108,101,100]⟩
def wU:ByteArray:=⟨#[115,110,97,112,102,117,108,108]⟩
def Ym (L n:Nat):Nat:=(L*64 - Zp n) / Ze n
def YC (L n:Nat):Nat:=min 110 (Ym L n)
def YA (S L n k:Nat):ByteArray :=
 if Zp n≤L*64 then
  if k=0 then tl wQ [1] else if k=1 then tl wF [1,1]
  else if k<112 then (if k - 2<Ym L n then tl wQ [k] else tl wE [8])
  else if k=112 then tl wF [YC L n,YC L n+1] else if k=113 then tl wS [YC L n+1]
  else if k=114 then (if 47+n≤S*64 then tl wL [YC L n+1] else wU)
  else if 47+n≤S*64∨110<Ym L n then tl wQ [YC L n+2] else tl wE [8]
 else
  if k=0 then tl wE [8] else if k=1∨k=112 then tl wF [0,0] else if k=113 then tl wS [0] else if k=114 then tl wL [0] else tl wE [2]
def eC (σ:Sx):Prop:=σ.g=1∧σ.b=0∧σ.off=0
def Rt (σ:Sx):Prop:=σ.T=[ZI]∧σ.zf=0∧σ.Q=[ZI]∧σ.zq=0∧σ.fs=[]∧σ.ql=0∧σ.full=[]
structure Cr (n:Nat) (σ:Sx) (q f ln:Nat):Prop where
 Q:σ.Q=Yd n q
 zq:σ.zq=q+1
 T:σ.T=Yd n f
 zf:σ.zf=f+1
 le:f≤q
 fs:σ.fs.length=q - f
 fl:σ.fs.flatten.length=σ.ql
 ql:σ.ql=(q - f)*Ze n
 ln:σ.full.length - σ.off=ln
def Rk (S L n k:Nat) (σ:Sx):Prop :=
 (k≤1→σ.k=0)∧(k≤112→σ.k≤66)∧(k≤113→σ.k≤132)∧(k≤114→σ.k≤133∧eC σ)∧(k≤113→σ.sn=none)∧(k≤114→σ.em=false)∧(k=114→σ.pw=none)∧(k≤115→σ.full.length≤4096) ∧
 if Zp n≤L*64 then
  if k=0 then Rt σ
  else if k=1 then σ.T=[ZI]∧σ.zf=0∧σ.Q=Yd n 0∧σ.zq=1∧σ.fs.length=1∧σ.fs.flatten.length=Zp n∧σ.ql=Zp n∧σ.full=[]
  else if k≤112 then Cr n σ (min (k - 2) (Ym L n)) 0 (Zp n)
  else if k=113 then Cr n σ (YC L n) (YC L n) (Zp n+YC L n*Ze n)
  else if k=114 then Cr n σ (YC L n) (YC L n) (Zp n+YC L n*Ze n)∧∃pB,σ.sn=some (pB,YC L n+1,σ.full.length)
  else if k=115 then Cr n σ (YC L n) (YC L n) (if 47+n≤S*64 then 0 else Zp n+YC L n*Ze n)
  else σ.T≠[]∧σ.Q≠[]
 else
  if k=114 then Rt σ∧∃pB,σ.sn=some (pB,0,0)
  else if k=115 then σ.Q=[ZI]∧σ.zq=0∧σ.ql=0∧σ.T=[ZI]
  else if k≤113 then Rt σ else σ.T≠[]∧σ.Q≠[]
theorem Rk.ne {L k:Nat} {σ:Sx} (h:Rk S L n k σ):σ.T≠[]∧σ.Q≠[]:=by
 obtain ⟨-,-,-,-,-,-,-,-,r8⟩:=h;have hr:[ZI]≠[]:=by simp
 have ht:∀i,Yd n i≠[]:=fun i=>by simp [Yd]
 by_cases h9:Zp n≤L*64
 · rw [ZZ h9] at r8
   by_cases h0:k=0
   · rw [ZZ h0] at r8;rw [r8.1,r8.2.2.1];exact ⟨hr,hr⟩
   rw [Z1 h0] at r8
   by_cases h1:k=1
   · rw [ZZ h1] at r8;rw [r8.1,r8.2.2.1];exact ⟨hr,ht _⟩
   rw [Z1 h1] at r8
   by_cases h2:k≤112
   · rw [ZZ h2] at r8;rw [r8.T,r8.Q];exact ⟨ht _,ht _⟩
   rw [Z1 h2] at r8
   by_cases h3:k=113
   · rw [ZZ h3] at r8;rw [r8.T,r8.Q];exact ⟨ht _,ht _⟩
   rw [Z1 h3] at r8
   by_cases h4:k=114
   · rw [ZZ h4] at r8;rw [r8.1.T,r8.1.Q];exact ⟨ht _,ht _⟩
   rw [Z1 h4] at r8
   by_cases h5:k=115
   · rw [ZZ h5] at r8;rw [r8.T,r8.Q];exact ⟨ht _,ht _⟩
   rw [Z1 h5] at r8;exact r8
 rw [Z1 h9] at r8
 by_cases h4:k=114
 · rw [ZZ h4] at r8;rw [r8.1.1,r8.1.2.2.1];exact ⟨hr,hr⟩
 rw [Z1 h4] at r8
 by_cases h5:k=115
 · rw [ZZ h5] at r8;rw [r8.2.2.2,r8.1];exact ⟨hr,hr⟩
 rw [Z1 h5] at r8
 by_cases h6:k≤113
 · rw [ZZ h6] at r8;rw [r8.1,r8.2.2.1];exact ⟨hr,hr⟩
 rw [Z1 h6] at r8;exact r8
theorem Nb {L:Nat} (h:Zp n≤L*64):i≤Ym L n↔Zp n+i*Ze n≤L*64:=by
 have h0:0<Ze n:=by unfold Ze;omega
 unfold Ym;rw [Nat.le_div_iff_mul_le h0];omega
theorem AF :Ze n≤Zp n:=by unfold Ze Zp;omega
structure Ae (κ:Sc) (S L:Nat):Prop where
 eS:κ.S=(S:Int)
 eL:κ.L=(L:Int)
 cap:κ.cap=L*64 / 9
 c:YO κ.S κ.L=true
theorem Ae.b {L:Nat} (h:Ae κ S L):(1≤S∧S≤64)∧1≤L∧L≤64:=by
 obtain ⟨⟨h1,h2⟩,h3,h4⟩:=(Zg κ.S κ.L).1 h.c;rw [h.eS] at h1 h2;rw [h.eL] at h3 h4;omega
theorem jB (hn:n≤64):(ZC (Yd n i) j).path.size≤1048576∧(ZC (Yd n i) j).data.size≤1048576:=by
 match j with
 | 0=>exact ⟨by show Ye.size≤_;decide,by show empty.size≤_;decide⟩
 | 1 =>
  refine ⟨by show pA.size≤_;decide,?_⟩;show (xB n).size≤_;rw [WJ];omega
 | j+2=>exact ⟨by show (ByteArray.empty).size≤_;decide,by show (ByteArray.empty).size≤_;decide⟩
theorem qo :(ZC [ZI] j).path.size≤1048576∧(ZC [ZI] j).data.size≤1048576:=by
 match j with
 | 0=>exact ⟨by decide,by decide⟩
 | j+1=>exact ⟨by show (ByteArray.empty).size≤_;decide,by show (ByteArray.empty).size≤_;decide⟩
theorem Lq {o:Xd} (h1:o.path.size≤1048576∧o.data.size≤1048576) (h2:o.seq=false):(Ut [o] j).seq=false∧(Ut [o] j).path.size≤1048576∧(Ut [o] j).data.size≤1048576:=by
 match j with
 | 0=>exact ⟨h2,h1⟩
 | j+1=>exact ⟨rfl,by show (ByteArray.empty).size≤_;decide,by show (ByteArray.empty).size≤_;decide⟩
theorem fa (hn:n≤64):(Yf (XQ [ZI] (Yd n 0)) j).nd.path.size≤1048576∧(Yf (XQ [ZI] (Yd n 0)) j).nd.data.size≤1048576:=by
 rw [qq]
 match j with
 | 0=>exact ⟨by show Ye.size≤_;decide,by show empty.size≤_;decide⟩
 | 1 =>
  refine ⟨by show pA.size≤_;decide,?_⟩;show (xB n).size≤_;rw [WJ];omega
 | j+2=>exact ⟨by show (ByteArray.empty).size≤_;decide,by show (ByteArray.empty).size≤_;decide⟩
theorem eZ (hn:n≤64):(Yf (XQ (Yd n i) (Yd n (i+1))) j).nd.path.size≤1048576∧(Yf (XQ (Yd n i) (Yd n (i+1))) j).nd.data.size≤1048576:=by
 rw [qp]
 match j with
 | 0 =>
  refine ⟨by show pA.size≤_;decide,?_⟩;show (xB n).size≤_;rw [WJ];omega
 | j+1=>exact ⟨by show (ByteArray.empty).size≤_;decide,by show (ByteArray.empty).size≤_;decide⟩
theorem qn (hn:n≤64):(opC n).path.size≤1048576∧(opC n).data.size≤1048576:=⟨by show pA.size≤_;decide,by show (xB n).size≤_;rw [WJ];omega⟩
theorem CU (hn:n≤64):(Nc n).path.size≤1048576∧(Nc n).data.size≤1048576:=⟨by show pA.size≤_;decide,by show (xB n).size≤_;rw [WJ];omega⟩
theorem Vr :Yd n i≠[]:=by simp [Yd]
theorem U3:[ZI]≠[]:=by simp
theorem mQ (hn:n≤64) (hi:i≤1000):Wm (Zi (Yd n i)):=by
 intro x hx;obtain ⟨m,hm,hx⟩:=List.mem_flatMap.1 hx
 rcases Yz.1 hm with rfl | hm
 · exact Ui Ev x hx
 rcases Yz.1 hm with rfl | hm
 · exact Ui (Ew hn hi) x hx
 cases hm
theorem mP:Wm (Zi [ZI]):=by
 intro x hx;obtain ⟨m,hm,hx⟩:=List.mem_flatMap.1 hx
 rcases Yz.1 hm with rfl | hm
 · exact Ui (by decide +kernel) x hx
 cases hm
theorem mO (hn:n≤64) (hi:i≤1000):∀j,j<(Yd n i).length→YL (ZC (Yd n i) j)=true∧0<(ZC (Yd n i) j).path.size:=by
 intro j hj
 match j,hj with
 | 0,_=>exact ⟨Ev,by show 0<Ye.size;decide⟩
 | 1,_=>exact ⟨Ew hn hi,by show 0<pA.size;decide⟩
 | j+2,h=>simp [Yd] at h;omega
theorem mN:∀j,j<[ZI].length→YL (ZC [ZI] j)=true∧0<(ZC [ZI] j).path.size:=by
 intro j hj
 match j,hj with
 | 0,_=>exact ⟨by decide +kernel,by decide⟩
 | j+1,h=>simp at h
section
variable {m:Int} {te:TypeId} {pe:Value} {S L n:Nat} {κ:Sc} {σ:Sx} {w:World}
theorem eY (hκ:Ae κ S L) (h:Sv κ σ w) (hgl:Gl m te pe κ w) (hn:n≤64) (hT:σ.T≠[]) (hQ:σ.Q=[ZI]) (hz:σ.zq=0) (hfs:σ.fs.length=0) (qu:σ.ql=0) (hfl:σ.full.length≤4096) (vo vn:Value) (pa:ByteArray) (ho:MJ w vo [opC n]) (EF:Tk κ vo) (GD:∀q,vo.ownBlock=some q→q<w.heap.size) :
    Calls Tryz.prog 14 #[.pointer (some ⟨κ.sB,0,none⟩),.agg #[.int .i64 1,vo,.bool false,.string pa,vn]] w fun e w'=>e=.returned (.string (if L*64<σ.full.length - σ.off+Zp n then tl wE [8] else tl wQ [1]))∧Gw κ w w'∧∃ σ',σ'=(if L*64<σ.full.length - σ.off+Zp n then σ else { σ with Q:=Yd n 0,zq:=1,fs:=σ.fs++[fr (XX 1 (XQ [ZI] (Yd n 0)))],ql:=Zp n })∧Sv κ σ' w':=by
 have hA:EL σ.Q [opC n] ((σ.zq:Int)+1)=⟨0,0,1,[[47,97]],XQ [ZI] (Yd n 0)⟩:=by rw [hQ,hz];exact jK hn
 have hb:=hκ.b;refine (J8 κ σ w h hgl hT (by rw [hQ];exact U3) vo vn pa [opC n] ho EF GD (fun i=>(Lq (qn hn) rfl).1) (by simp) (fun i=>(Lq (qn hn) rfl).2) (by rw [hQ];exact fun i=>qo) (by omega) _ hA ⟨by show (0:Int)≤0;decide,by show (0:Int)<1000;decide⟩ ⟨by show (0:Int)≤1;decide,by show (1:Int)<1000000;decide⟩ (fun i=>fa hn) (fun _=>by show 0<(XX 1 _).length∧(XX 1 _).length≤2000;rw [C3 hn];omega) (by rw [hκ.eL];omega) hfl (by omega) (fun _ _=>by rw [hfs,hκ.cap];omega)).mono ?_;have e:EG κ σ ⟨0,0,1,[[47,97]],XQ [ZI] (Yd n 0)⟩=(if L*64<σ.full.length - σ.off+Zp n then tl wE [8] else tl wQ [1],if L*64<σ.full.length - σ.off+Zp n then σ else { σ with Q:=Yd n 0,zq:=1,fs:=σ.fs++[fr (XX 1 (XQ [ZI] (Yd n 0)))],ql:=Zp n }):=by
  unfold EG
  simp only [ne_eq,not_true_eq_false,Vw,jD hn,hκ.eL,qu,YK,hQ,jF hn]
  by_cases h9:L*64<σ.full.length - σ.off+Zp n
  · rw [ZZ (by omega),ZZ h9,ZZ h9];rfl
  rw [Z1 (by omega),Z1 h9,Z1 h9];rfl
 rw [e];exact fun _ _ h=>h
theorem jA (hκ:Ae κ S L) (h:Sv κ σ w) (hgl:Gl m te pe κ w) (hn:n≤64) (i:Nat) (hi:i≤900) (hT:σ.T≠[]) (hQ:σ.Q=Yd n i) (hz:σ.zq=i+1) (hfs:σ.fs.length*Ze n=σ.ql) (qu:σ.ql≤4096) (hfl:σ.full.length≤4096) (vo vn:Value) (pa:ByteArray) (ho:MJ w vo [Nc n]) (EF:Tk κ vo) (GD:∀q,vo.ownBlock=some q→q<w.heap.size) :
    Calls Tryz.prog 14 #[.pointer (some ⟨κ.sB,0,none⟩),.agg #[.int .i64 1,vo,.bool false,.string pa,vn]] w fun e w'=>e=.returned (.string (if L*64<σ.full.length - σ.off+(σ.ql+Ze n) then tl wE [8] else tl wQ [i+2]))∧Gw κ w w'∧∃ σ',σ'=(if L*64<σ.full.length - σ.off+(σ.ql+Ze n) then σ else { σ with Q:=Yd n (i+1),zq:=i+2,fs:=σ.fs++[fr (XX ((i:Int)+2) (XQ (Yd n i) (Yd n (i+1))))],ql:=σ.ql+Ze n })∧Sv κ σ' w':=by
 have hA:EL σ.Q [Nc n] ((σ.zq:Int)+1)=⟨0,0,(i:Int)+2,[[47,97]],XQ (Yd n i) (Yd n (i+1))⟩:=by
  rw [hQ,hz,show (((i+1:Nat):Int)+1)=(i:Int)+2 by omega];exact jJ hn hi
 have hb:=hκ.b;have hroom:(((σ.full.length - σ.off)+(σ.ql+(fr (XX ((i:Int)+2) (XQ (Yd n i) (Yd n (i+1))))).length):Nat):Int)≤κ.L*64→σ.fs.length<κ.cap:=by
  rw [mR hn hi,hκ.eL,hκ.cap];intro h9;have h8:(σ.fs.length+1)*Ze n≤L*64:=by rw [Js,Mo,hfs];omega
  have h7:9≤Ze n:=by unfold Ze;omega
  have h6:(σ.fs.length+1)*9≤(σ.fs.length+1)*Ze n:=Nat.mul_le_mul_left _ h7;omega
 refine (J8 κ σ w h hgl hT (by rw [hQ];exact Vr) vo vn pa [Nc n] ho EF GD (fun i=>(Lq (CU hn) rfl).1) (by simp) (fun i=>(Lq (CU hn) rfl).2) (by rw [hQ];exact fun i=>jB hn) (by omega) _ hA ⟨by show (0:Int)≤0;decide,by show (0:Int)<1000;decide⟩ ⟨by show 0≤(i:Int)+2;omega,by show (i:Int)+2<1000000;omega⟩ (fun j=>eZ hn) (fun _=>by show 0<(XX ((i:Int)+2) _).length∧(XX ((i:Int)+2) _).length≤2000;rw [CZ hn hi];omega) (by rw [hκ.eL];omega) hfl qu (fun _=>hroom)).mono ?_;have e:EG κ σ ⟨0,0,(i:Int)+2,[[47,97]],XQ (Yd n i) (Yd n (i+1))⟩=(if L*64<σ.full.length - σ.off+(σ.ql+Ze n) then tl wE [8] else tl wQ [i+2],if L*64<σ.full.length - σ.off+(σ.ql+Ze n) then σ else { σ with Q:=Yd n (i+1),zq:=i+2,fs:=σ.fs++[fr (XX ((i:Int)+2) (XQ (Yd n i) (Yd n (i+1))))],ql:=σ.ql+Ze n }):=by
  have e1:((i:Int)+2).toNat=i+2:=by omega
  unfold EG
  simp only [ne_eq,not_true_eq_false,Vw,mR hn hi,hκ.eL,hQ,jE hn hi,e1]
  by_cases h9:L*64<σ.full.length - σ.off+(σ.ql+Ze n)
  · rw [ZZ (by omega),ZZ h9,ZZ h9];rfl
  rw [Z1 (by omega),Z1 h9,Z1 h9];rfl
 rw [e];exact fun _ _ h=>h
theorem eX (hκ:Ae κ S L) (h:Sv κ σ w) (hgl:Gl m te pe κ w) (hn:n≤64) (hT:σ.T≠[]) (hQ:σ.Q=[ZI]) (hz:σ.zq=0) (qu:σ.ql≤4096) (hfl:σ.full.length≤4096) (vo vn:Value) (pa:ByteArray) (ho:MJ w vo [Nc n]) (EF:Tk κ vo) (GD:∀q,vo.ownBlock=some q→q<w.heap.size) :
    Calls Tryz.prog 14 #[.pointer (some ⟨κ.sB,0,none⟩),.agg #[.int .i64 1,vo,.bool false,.string pa,vn]] w fun e w'=>e=.returned (.string (tl wE [2]))∧Gw κ w w'∧∃ σ',σ'=σ∧Sv κ σ' w':=by
 have hA:EL σ.Q [Nc n] ((σ.zq:Int)+1)=⟨2,0,0,[],[]⟩:=by rw [hQ,hz];exact jI hn
 have hb:=hκ.b;refine (J8 κ σ w h hgl hT (by rw [hQ];exact U3) vo vn pa [Nc n] ho EF GD (fun i=>(Lq (CU hn) rfl).1) (by simp) (fun i=>(Lq (CU hn) rfl).2) (by rw [hQ];exact fun i=>qo) (by omega) _ hA ⟨by decide,by decide⟩ ⟨by decide,by decide⟩ (fun i=>⟨by show (ByteArray.empty).size≤_;decide,by show (ByteArray.empty).size≤_;decide⟩) (fun e=>by cases e) (by rw [hκ.eL];omega) hfl qu (fun e=>by cases e)).mono ?_;rw [show EG κ σ ⟨2,0,0,[],[]⟩=(tl wE [2],σ) from rfl];exact fun _ _ h=>h
end
end
end Go.Proofs.YtpmjnbmkippaiaaGreatDoor


