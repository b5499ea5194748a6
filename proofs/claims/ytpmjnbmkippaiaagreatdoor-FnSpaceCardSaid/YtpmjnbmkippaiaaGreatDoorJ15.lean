import Derived.Test.YtpmjnbmkippaiaaGreatDoorJ14
set_option maxRecDepth 100000
set_option maxHeartbeats 16000000
set_option linter.unusedVariables false
set_option linter.unusedSimpArgs false
namespace Go.Proofs.YtpmjnbmkippaiaaGreatDoor
open Go.RowKit Go.Shelf
variable {m:Int} {L:List ByteArray} {ns:List Int} {te:TypeId} {pe:Value}
theorem Nk (w:World) (wd:ByteArray) (k:Int) (s d v:Bool):Calls Tryz.prog 151 #[.agg #[.string wd,.int .i64 k,.bool s,.bool d,.bool v]] w (YI w (.int .i64 (2+(if d=true then 1 else 0)+(if v=true then 1 else 0)))):=by
 cases d <;> cases v
 all_goals
  go_enter Tryz.func151,Tryz.ntmps151
  go_wp2_with fail
  go_ret;exact ⟨rfl,ZJ.alloc ZT _⟩
theorem Kb (w:World) (v lo hi:Int):Calls Tryz.prog 107 #[.int .i64 v,.int .i64 lo,.int .i64 hi] w fun e w'=>e=.returned (.bool (uy v lo hi))∧w'=w:=by
 by_cases h1:lo≤v
 · go_enter Tryz.func107,Tryz.ntmps107
   go_wp2;go_ret;refine ⟨?_,rfl⟩;unfold uy;rw [Y3 h1]
   rfl
 go_enter Tryz.func107,Tryz.ntmps107
 go_wp2;go_ret;refine ⟨?_,rfl⟩;unfold uy;rw [YW (by omega)]
 rfl
theorem Uh {w:World} {lo:Nat} {v:Value} (h:Own .i64 2 w lo v ns):∃a c,v=.slice a ns.length c∧(0<ns.length→∃g,a=some ⟨g,0,none⟩∧∀i,i<ns.length→w.cell? ⟨g,i,none⟩=some (.int .i64 (nA ns i))):=by
 have h':=h
 rcases h.2 with ⟨rfl,h9⟩ | ⟨g,cap,cur,rfl,h1,h2,h3,h4,h5,h6⟩
 · exact ⟨none,0,by rw [h9],fun h0=>by omega⟩
 refine ⟨_,cap,rfl,fun _=>⟨g,rfl,fun i hi=>?_⟩⟩;rw [Jo h' i (by omega),Qs,Xc hi];unfold nA;rw [List.getD,Xc hi]
 rfl
def Wp (ns:List Int):Bool:=decide (ns.length=1) && uy (nA ns 0) 1 1000
theorem Sh (w:World) (lo:Nat) (v:Value) (ns:List Int) (h:Own .i64 2 w lo v ns):Calls Tryz.prog 64 #[v] w fun e w'=>e=.returned (.bool (Wp ns))∧w'=w:=by
 obtain ⟨a,c,rfl,hc⟩:=Uh h;clear h
 by_cases l1:ns.length=1
 · obtain ⟨g,rfl,hcl⟩:=hc (by omega)
   have z0:=hcl 0 (by omega);have hl0:(0:Int)<((ns.length:Nat):Int):=by omega
   have hl1:(((ns.length:Nat):Int) == 1)=true:=ZK.2 (by omega);have HR:Hid (Wp ns=uy (nA ns 0) 1 1000):=by show _=_;unfold Wp;rw [Y3 l1,Qv]
   clear hc hcl l1
   go_enter Tryz.func64,Tryz.ntmps64
   go_wp2_with fail
   refine (Kb _ _ _ _).mono ?_;rintro e w9 ⟨rfl,Bw⟩;subst Bw
   go_wp2_with fail
   go_ret;exact ⟨by rw [HR.out];rfl,rfl⟩
 have hl1:(((ns.length:Nat):Int) == 1)=false:=Mj (by omega);have HR:Hid (Wp ns=false):=by show _=_;unfold Wp;rw [YW l1];rfl
 clear hc l1
 go_enter Tryz.func64,Tryz.ntmps64
 go_wp2_with fail
 go_ret;exact ⟨by rw [HR.out];rfl,rfl⟩
theorem jQ (b:ByteArray):Xg b=true↔b=⟨#[59]⟩:=by
 unfold Xg;rw [Pt]
 constructor
 · intro h
   rw [←QF b,ZK.1 h];rfl
 rintro rfl;rfl
theorem AL (L:List ByteArray):Lib.containsS L ⟨#[59]⟩=L.any Xg:=by
 cases h:L.any Xg with
 | true =>
  obtain ⟨x,hx,e⟩:=pS.1 h;rw [(jQ x).1 e] at hx;exact (Lib.containsS_iff _ _).2 hx
 | false =>
  cases h2:Lib.containsS L ⟨#[59]⟩ with
  | false=>rfl
  | true=>exact absurd ((jQ _).2 rfl) (List.any_eq_false.1 h _ ((Lib.containsS_iff _ _).1 h2))
theorem AK (h:WO (ZE L 0)=none):TY L=none:=by
 unfold WO at h
 repeat' split at h
 all_goals first | (cases h;done) | skip
 rename_i h1 h2 h3 h4 h5;unfold TY MH MG;rw [Z1 h1,Z1 h2,Z1 h3,Z1 h5,Z1 h4]
 repeat' split
 all_goals rfl
theorem vS (ha:L.any Xg=false) {k:Int} {s d v:Bool} (h:WO (ZE L 0)=some (k,s,d,v)) :
    (d=true∧v=false∧TY L=if L.length=3 then some ⟨k,ZE L 1,RI (ZE L 2),0,s⟩ else none) ∨
    (d=false∧v=true∧TY L=if L.length=3 then (WC (ZE L 2).data.toList).map (fun x=>⟨k,ZE L 1,⟨#[]⟩,x,s⟩) else none) ∨
    (d=true∧v=true∧TY L=if L.length=4 then (WC (ZE L 3).data.toList).map (fun x=>⟨k,ZE L 1,RI (ZE L 2),x,s⟩) else none):=by
 have hop:TY L=if L.length=3 then MH (ZE L 0) (ZE L 1) (ZE L 2) else if L.length=4 then MG (ZE L 0) (ZE L 1) (ZE L 2) (ZE L 3) else none:=by
  unfold TY;rw [Z1 (by rw [ha];decide)]
 rw [hop];generalize ZE L 0=f0 at *;unfold WO at h
 split at h
 · rename_i h1
   injection h with h;injection h with h0 h;injection h with h2 h;injection h with h3 h4
   subst h0 h2 h3 h4;refine .inl ⟨rfl,rfl,?_⟩;have e:=ZK.1 h1;unfold MH MG
   simp [e]
 split at h
 · rename_i h1
   injection h with h;injection h with h0 h;injection h with h2 h;injection h with h3 h4
   subst h0 h2 h3 h4;refine .inl ⟨rfl,rfl,?_⟩;have e:=ZK.1 h1;unfold MH MG
   simp [e]
 split at h
 · rename_i h1
   injection h with h;injection h with h0 h;injection h with h2 h;injection h with h3 h4
   subst h0 h2 h3 h4;refine .inr (.inl ⟨rfl,rfl,?_⟩);have e:=ZK.1 h1;unfold MH MG
   simp [e]
 split at h
 · rename_i h1
   injection h with h;injection h with h0 h;injection h with h2 h;injection h with h3 h4
   subst h0 h2 h3 h4;refine .inr (.inr ⟨rfl,rfl,?_⟩);have e:=ZK.1 h1;unfold MH MG
   simp [e]
   intro h9;omega
 split at h
 · rename_i h1
   injection h with h;injection h with h0 h;injection h with h2 h;injection h with h3 h4
   subst h0 h2 h3 h4;refine .inr (.inl ⟨rfl,rfl,?_⟩);have e:=ZK.1 h1;unfold MH MG
   simp [e]
 cases h
theorem GM (w:World) (b o cap:Nat) (L:List ByteArray) (hL:0<L.length) (qv:L.length≤cap) (hc:cap≤maxLen) (hsz:m9 L) (hcl:∀i,i<L.length→w.cell? ⟨b,o+i,none⟩=some (.string (ZE L i))) (hb:b<w.heap.size) (hg:AR w m te pe) (hf:ux w) :
    Calls Tryz.prog 101 #[.slice (some ⟨b,o,none⟩) L.length cap] w fun e w'=>ME w L e w':=by
 unfold maxLen at hc;have bA:ZX w (w.alloc (.cells #[.int .i64 0,.string ⟨#[]⟩,.string ⟨#[]⟩,.int .i64 0,.bool false] 159)):=ZJ.alloc ZT _;have BA:=Z3 bA;have X:=Z3 (St.new w #[.int .i64 0,.string ⟨#[]⟩,.string ⟨#[]⟩,.int .i64 0,.bool false] 159);have UH:Hid (∀i,i<L.length→(w.alloc (.cells #[.int .i64 0,.string ⟨#[]⟩,.string ⟨#[]⟩,.int .i64 0,.bool false] 159)).cell? ⟨b,o+i,none⟩=some (.string (ZE L i))):=fun i hi=>(bA.cell (p:=⟨b,o+i,none⟩) hb).trans (hcl i hi)
 have Pm:=Z3 hsz;have HG:=Z3 (hg.later bA);have HF:=Z3 (hf.later bA);have sB:w.heap.size+1=(w.alloc (.cells #[.int .i64 0,.string ⟨#[]⟩,.string ⟨#[]⟩,.int .i64 0,.bool false] 159)).heap.size:=by simp
 have hcs:=Tryz.slices_Contains_string b o L.length cap L ⟨#[59]⟩ (w.alloc (.cells #[.int .i64 0,.string ⟨#[]⟩,.string ⟨#[]⟩,.int .i64 0,.bool false] 159)) ZT (by omega) UH.out;rw [Rw,AL] at hcs;have HC:=Z3 hcs;have H4:Hid (7<w.heap.size):=YJ w _ hg.es;have H3:Hid (1<w.heap.size):=YJ w _ hg.mx;have hn0:(((L.length:Nat):Int) == 0)=false:=Mj (by omega);have hp0:(0:Int)<((L.length:Nat):Int):=by omega
 clear bA hcl hsz hcs hg hf
 cases hany:L.any Xg with
 | true =>
  have WG:Hid (TY L=none):=by show _=_;unfold TY;rw [ZZ hany]
  rw [hany] at HC;clear hany UH
  go_enter Tryz.func101,Tryz.ntmps101
  go_wp2_with fail
  refine HC.out.mono ?_;rintro e w2 ⟨rfl,hw2⟩;subst hw2;generalize w.alloc _=w1 at *;have x0:=X.out.fz;have y0:=X.out.cl 0 _ rfl;have y1:=X.out.cl 1 _ rfl;have y2:=X.out.cl 2 _ rfl;have y3:=X.out.cl 3 _ rfl;have y4:=X.out.cl 4 _ rfl
  go_wp2_with fail
  obtain ⟨b9,x9⟩:=U5 BA.out X.out ⟨0,⟨#[]⟩,⟨#[]⟩,0,false⟩;have d0:=x9.cl 0 _ rfl;have d1:=x9.cl 1 _ rfl;have d2:=x9.cl 2 _ rfl;have d3:=x9.cl 3 _ rfl;have d4:=x9.cl 4 _ rfl;exact ZS (v:=.tuple #[Qx ⟨0,⟨#[]⟩,⟨#[]⟩,0,false⟩,.bool false]) (by simp [results,Tryz.results101,go_sem,Qx,d0,d1,d2,d3,d4]) rfl (ME.no WG.out b9)
 | false =>
  rw [hany] at HC;have y:=Z3 hany;have c0:=UH.out 0 hL;rw [Wi] at c0;have t:=Z3 (Ez _ (ZE L 0) HF.out);clear hany HF
  go_enter Tryz.func101,Tryz.ntmps101
  go_wp2_with fail
  refine HC.out.mono ?_;rintro e w2 ⟨rfl,hw2⟩;subst hw2;generalize w.alloc _=w1 at *
  go_wp2_with fail
  refine t.out.mono ?_;rintro e w2 ⟨b2,wd,k,s,d,v,known,rfl,hkn,hfr⟩;have s2:=b2.size;have bF:ZX w2 (w2.alloc (.cells #[.string wd,.int .i64 k,.bool s,.bool d,.bool v] 226)):=ZJ.alloc ZT _;have C:=YV b2 bF
  replace X:=Z3 (X.out.below C)
  replace BA:=Z3 (YV BA.out C)
  replace UH:Hid (∀i,i<L.length→(w2.alloc (.cells #[.string wd,.int .i64 k,.bool s,.bool d,.bool v] 226)).cell? ⟨b,o+i,none⟩=some (.string (ZE L i))):=fun i hi=>(C.cell (p:=⟨b,o+i,none⟩) (by show b<_;omega)).trans (UH.out i hi)
  replace HG:=Z3 (HG.out.later C)
  have XF:=Z3 (St.new w2 #[.string wd,.int .i64 k,.bool s,.bool d,.bool v] 226);have sF:w2.heap.size<(w2.alloc (.cells #[.string wd,.int .i64 k,.bool s,.bool d,.bool v] 226)).heap.size:=by simp
  clear C bF t HC b2 c0
  cases known with
  | false =>
   have WG:Hid (TY L=none):=AK (by cases hx:WO (ZE L 0) with | none=>rfl | some x=>rw [hx] at hkn;cases hkn);clear hkn hfr;have x0:=X.out.fz;have y0:=X.out.cl 0 _ rfl;have y1:=X.out.cl 1 _ rfl;have y2:=X.out.cl 2 _ rfl;have y3:=X.out.cl 3 _ rfl;have y4:=X.out.cl 4 _ rfl
   go_wp2_with fail
   obtain ⟨b9,x9⟩:=U5 BA.out X.out ⟨0,⟨#[]⟩,⟨#[]⟩,0,false⟩;have d0:=x9.cl 0 _ rfl;have d1:=x9.cl 1 _ rfl;have d2:=x9.cl 2 _ rfl;have d3:=x9.cl 3 _ rfl;have d4:=x9.cl 4 _ rfl;exact ZS (v:=.tuple #[Qx ⟨0,⟨#[]⟩,⟨#[]⟩,0,false⟩,.bool false]) (by simp [results,Tryz.results101,go_sem,Qx,d0,d1,d2,d3,d4]) rfl (ME.no WG.out b9)
  | true =>
   obtain ⟨⟨k9,s9,d9,v9⟩,hx⟩:=Option.isSome_iff_exists.1 hkn.symm;have hy:=hfr _ hx
   injection hy with q0 hy;injection hy with q1 hy;injection hy with q2 q3
   subst q0 q1 q2 q3;have D:=Z3 (vS y.out hx);clear hkn hfr hx y
   go_wp2_with fail
   generalize w2.alloc _=w3 at *;refine (Nk _ wd k9 s9 d9 v9).mono ?_;rintro e w4 ⟨rfl,b4⟩;have s4:=b4.size
   replace X:=Z3 (X.out.below b4)
   replace XF:=Z3 (XF.out.below b4)
   replace BA:=Z3 (YV BA.out b4)
   replace UH:Hid (∀i,i<L.length→w4.cell? ⟨b,o+i,none⟩=some (.string (ZE L i))):=fun i hi=>(b4.cell (p:=⟨b,o+i,none⟩) (by show b<_;omega)).trans (UH.out i hi)
   replace HG:=Z3 (HG.out.later b4)
   clear b4;obtain ⟨c9,jP⟩:∃c9:Int,c9=2+(if d9=true then 1 else 0)+(if v9=true then 1 else 0):=⟨_,rfl⟩;rw [←jP];have F:=Z3 jP;clear jP;have sA:w.heap.size+1≤w4.heap.size:=by omega
   by_cases hln:((L.length:Nat):Int)=c9
   case neg =>
    have hne:(((L.length:Nat):Int) != c9)=true:=by simpa using hln
    have WG:Hid (TY L=none):=by
     show _=_;have h9:=F.out
     rcases D.out with ⟨rfl,rfl,h⟩ | ⟨rfl,rfl,h⟩ | ⟨rfl,rfl,h⟩
     all_goals (simp at h9;rw [h,Z1 (by omega)])
    clear D F hln;have x0:=X.out.fz;have y0:=X.out.cl 0 _ rfl;have y1:=X.out.cl 1 _ rfl;have y2:=X.out.cl 2 _ rfl;have y3:=X.out.cl 3 _ rfl;have y4:=X.out.cl 4 _ rfl
    go_wp2_with fail
    obtain ⟨b9,x9⟩:=U5 BA.out X.out ⟨0,⟨#[]⟩,⟨#[]⟩,0,false⟩;have d0:=x9.cl 0 _ rfl;have d1:=x9.cl 1 _ rfl;have d2:=x9.cl 2 _ rfl;have d3:=x9.cl 3 _ rfl;have d4:=x9.cl 4 _ rfl;exact ZS (v:=.tuple #[Qx ⟨0,⟨#[]⟩,⟨#[]⟩,0,false⟩,.bool false]) (by simp [results,Tryz.results101,go_sem,Qx,d0,d1,d2,d3,d4]) rfl (ME.no WG.out b9)
   case pos =>
    have hne:(((L.length:Nat):Int) != c9)=false:=by simp [hln]
    have hL3:3≤L.length:=by
     have h9:=F.out
     rcases D.out with ⟨rfl,rfl,h⟩ | ⟨rfl,rfl,h⟩ | ⟨rfl,rfl,h⟩
     all_goals (simp at h9;omega)
    have hp1:(1:Int)<((L.length:Nat):Int):=by omega
    have hp2:(2:Int)<((L.length:Nat):Int):=by omega
    have To:=Z3 hln;clear hln
    go_wp2_with fail
    clear hne;have bD:ZX w4 w4.drew:=below_drewN' w4 1;refine ZH (S:=fun W=>W.cell? ⟨w2.heap.size,1,none⟩=some (.int .i64 k9)∧W.cell? ⟨w2.heap.size,2,none⟩=some (.bool s9)∧W.cell? ⟨b,o+1,none⟩=some (.string (ZE L 1))) (by kernel_rfl) ⟨(XF.out.below bD).cl 1 _ rfl,(XF.out.below bD).cl 2 _ rfl,(bD.cell (p:=⟨b,o+1,none⟩) (by show b<_;omega)).trans (UH.out 1 (by omega))⟩ (fun Z9=>?_)
    replace X:=Z3 (X.out.below bD)
    replace XF:=Z3 (XF.out.below bD)
    replace BA:=Z3 (YV BA.out bD)
    replace UH:Hid (∀i,i<L.length→w4.drew.cell? ⟨b,o+i,none⟩=some (.string (ZE L i))):=fun i hi=>(bD.cell (p:=⟨b,o+i,none⟩) (by show b<_;omega)).trans (UH.out i hi)
    replace HG:=Z3 (HG.out.later bD)
    have s5:=bD.size;clear bD;generalize w4.drew=m0 at *
    iterate 8 (refine ZW ?_ Z9 ?_ ?_;rotate_left;· intro w9 Z0;obtain ⟨k0,k1,k2⟩:=Z0;go_simp;try with_reducible rfl)
    refine ZU 8 rfl (fun K hK=>?_);go_simp;have B:=XF.out.lt;have z:ZX m0 (m0.alloc (.cells #[.int .i64 0,.string ⟨#[]⟩,.string ⟨#[]⟩,.int .i64 0,.bool false] 159)):=ZJ.alloc ZT _;refine hK.out _ _ ⟨(z.cell (p:=⟨w2.heap.size,1,none⟩) B).trans Z9.1,(z.cell (p:=⟨w2.heap.size,2,none⟩) B).trans Z9.2.1,(z.cell (p:=⟨b,o+1,none⟩) (by show b<_;omega)).trans Z9.2.2⟩ (fun PW=>?_);clear hK K z PW;have A:ZX m0 (m0.alloc (.cells #[.int .i64 k9,.string (ZE L 1),.string ⟨#[]⟩,.int .i64 0,.bool s9] 159)):=ZJ.alloc ZT _;refine ZU 9 rfl (fun K hK=>?_);go_simp;refine hK.out _ _ ⟨(A.cell (p:=⟨w2.heap.size,1,none⟩) B).trans Z9.1,(A.cell (p:=⟨w2.heap.size,2,none⟩) B).trans Z9.2.1,(A.cell (p:=⟨b,o+1,none⟩) (by show b<_;omega)).trans Z9.2.2⟩ (fun PW=>?_);clear hK K PW;refine ZP (by kernel_rfl) ?_ _
    try simp only [Act.put,Y8,Y7,Y6]
    clear Z9;have Q:=Z3 (St.new m0 #[.int .i64 k9,.string (ZE L 1),.string ⟨#[]⟩,.int .i64 0,.bool s9] 159)
    replace X:=Z3 (X.out.below A)
    replace XF:=Z3 (XF.out.below A)
    replace BA:=Z3 (YV BA.out A)
    replace UH:Hid (∀i,i<L.length→(m0.alloc (.cells #[.int .i64 k9,.string (ZE L 1),.string ⟨#[]⟩,.int .i64 0,.bool s9] 159)).cell? ⟨b,o+i,none⟩=some (.string (ZE L i))):=fun i hi=>(A.cell (p:=⟨b,o+i,none⟩) (by show b<_;omega)).trans (UH.out i hi)
    replace HG:=Z3 (HG.out.later A)
    have sG:=A.size;clear A B;have sX:w.heap.size<m0.heap.size:=by omega
    have sY:w2.heap.size<m0.heap.size:=by omega
    have Z8:b<m0.heap.size:=by omega
    generalize m0.alloc _=m1 at *;have c2:=UH.out 2 (by omega);have z3:=XF.out.cl 3 _ rfl;have z4:=XF.out.cl 4 _ rfl
    rcases D.out with ⟨rfl,rfl,hop⟩ | ⟨rfl,rfl,hop⟩ | ⟨rfl,rfl,hop⟩
    · have hl3:L.length=3:=by have h9:=F.out;have h8:=To.out;simp at h9;omega
      have WG:Hid (TY L=some ⟨k9,ZE L 1,RI (ZE L 2),0,s9⟩):=hop.trans (ZZ hl3);clear hop hl3 D F To
      cases hd2:(ZE L 2).toList == [45] with
      | true =>
       have HD:Hid (RI (ZE L 2)=⟨#[]⟩):=ZZ hd2;rw [HD.out] at WG;have xf:=X.out.fz;have x0:=X.out.cl 0 _ rfl;have x1:=X.out.cl 1 _ rfl;have x2:=X.out.cl 2 _ rfl;have x3:=X.out.cl 3 _ rfl;have x4:=X.out.cl 4 _ rfl;have gf:=Q.out.fz;have g0:=Q.out.cl 0 _ rfl;have g1:=Q.out.cl 1 _ rfl;have g2:=Q.out.cl 2 _ rfl;have g3:=Q.out.cl 3 _ rfl;have g4:=Q.out.cl 4 _ rfl
       go_wp2_with fail
       obtain ⟨b9,x9⟩:=U5 BA.out X.out ⟨k9,ZE L 1,⟨#[]⟩,0,s9⟩;have d0:=x9.cl 0 _ rfl;have d1:=x9.cl 1 _ rfl;have d2:=x9.cl 2 _ rfl;have d3:=x9.cl 3 _ rfl;have d4:=x9.cl 4 _ rfl;exact ZS (v:=.tuple #[Qx ⟨k9,ZE L 1,⟨#[]⟩,0,s9⟩,.bool true]) (by simp [results,Tryz.results101,go_sem,Qx,d0,d1,d2,d3,d4]) rfl (ME.yes WG.out b9)
      | false =>
       have HD:Hid (RI (ZE L 2)=ZE L 2):=Z1 (by rw [hd2];decide);rw [HD.out] at WG;have xf:=X.out.fz;have x0:=X.out.cl 0 _ rfl;have x1:=X.out.cl 1 _ rfl;have x2:=X.out.cl 2 _ rfl;have x3:=X.out.cl 3 _ rfl;have x4:=X.out.cl 4 _ rfl;have gf:=Q.out.fz;have g0:=Q.out.cl 0 _ rfl;have g1:=Q.out.cl 1 _ rfl;have g2:=Q.out.cl 2 _ rfl;have g3:=Q.out.cl 3 _ rfl;have g4:=Q.out.cl 4 _ rfl
       go_wp2_with fail
       have X9:=Z3 (X.out.other (c:=m0.heap.size) (j:=2) (x:=.string (ZE L 2)) (by omega));have B9:=Z3 (BA.out.setCell (p:=⟨m0.heap.size,2,none⟩) (by show _≤m0.heap.size;omega) (.string (ZE L 2)));obtain ⟨b9,x9⟩:=U5 B9.out X9.out ⟨k9,ZE L 1,ZE L 2,0,s9⟩;have d0:=x9.cl 0 _ rfl;have d1:=x9.cl 1 _ rfl;have d2:=x9.cl 2 _ rfl;have d3:=x9.cl 3 _ rfl;have d4:=x9.cl 4 _ rfl;exact ZS (v:=.tuple #[Qx ⟨k9,ZE L 1,ZE L 2,0,s9⟩,.bool true]) (by simp [results,Tryz.results101,go_sem,Qx,d0,d1,d2,d3,d4]) rfl (ME.yes WG.out b9)
    · have hl3:L.length=3:=by have h9:=F.out;have h8:=To.out;simp at h9;omega
      have WG:Hid (TY L=(WC (ZE L 2).data.toList).map (fun x=>⟨k9,ZE L 1,⟨#[]⟩,x,s9⟩)):=hop.trans (ZZ hl3);have hsb:((L.length:Nat):Int) - 1=2:=by omega
      clear hop hl3 D F To
      go_wp2_with fail
      clear hsb z3 z4 c2;refine (WK (ZE L 2) m1 (Pm.out 2) HG.out).mono ?_;rintro e n2 ⟨vv,ok,rfl,b2,hok,hvv⟩
      replace X:=Z3 (X.out.below b2)
      replace Q:=Z3 (Q.out.below b2)
      replace BA:=Z3 (YV BA.out b2)
      have sN:=b2.size;have HQ:=Z3 (And.intro hok hvv);clear b2 hok hvv
      cases ok with
      | false =>
       have G:Hid (TY L=none):=by
        show _=_;rw [WG.out]
        cases hx:WC (ZE L 2).data.toList with
        | none=>rfl
        | some x=>have:=HQ.out.1;rw [hx] at this;cases this
       clear WG HQ;have xf:=X.out.fz;have x0:=X.out.cl 0 _ rfl;have x1:=X.out.cl 1 _ rfl;have x2:=X.out.cl 2 _ rfl;have x3:=X.out.cl 3 _ rfl;have x4:=X.out.cl 4 _ rfl
       go_wp2_with fail
       obtain ⟨b9,x9⟩:=U5 BA.out X.out ⟨0,⟨#[]⟩,⟨#[]⟩,0,false⟩;have d0:=x9.cl 0 _ rfl;have d1:=x9.cl 1 _ rfl;have d2:=x9.cl 2 _ rfl;have d3:=x9.cl 3 _ rfl;have d4:=x9.cl 4 _ rfl;exact ZS (v:=.tuple #[Qx ⟨0,⟨#[]⟩,⟨#[]⟩,0,false⟩,.bool false]) (by simp [results,Tryz.results101,go_sem,Qx,d0,d1,d2,d3,d4]) rfl (ME.no G.out b9)
      | true =>
       have G:Hid (TY L=some ⟨k9,ZE L 1,⟨#[]⟩,vv,s9⟩):=by
        show _=_;rw [WG.out];obtain ⟨x,hx⟩:=Option.isSome_iff_exists.1 HQ.out.1.symm;rw [hx,HQ.out.2 x hx]
        rfl
       clear WG HQ;have xf:=X.out.fz;have x0:=X.out.cl 0 _ rfl;have x1:=X.out.cl 1 _ rfl;have x2:=X.out.cl 2 _ rfl;have x3:=X.out.cl 3 _ rfl;have x4:=X.out.cl 4 _ rfl;have gf:=Q.out.fz;have g0:=Q.out.cl 0 _ rfl;have g1:=Q.out.cl 1 _ rfl;have g2:=Q.out.cl 2 _ rfl;have g3:=Q.out.cl 3 _ rfl;have g4:=Q.out.cl 4 _ rfl
       go_wp2_with fail
       have X9:=Z3 (X.out.other (c:=m0.heap.size) (j:=3) (x:=.int .i64 vv) (by omega));have B9:=Z3 (BA.out.setCell (p:=⟨m0.heap.size,3,none⟩) (by show _≤m0.heap.size;omega) (.int .i64 vv));obtain ⟨b9,x9⟩:=U5 B9.out X9.out ⟨k9,ZE L 1,⟨#[]⟩,vv,s9⟩;have d0:=x9.cl 0 _ rfl;have d1:=x9.cl 1 _ rfl;have d2:=x9.cl 2 _ rfl;have d3:=x9.cl 3 _ rfl;have d4:=x9.cl 4 _ rfl;exact ZS (v:=.tuple #[Qx ⟨k9,ZE L 1,⟨#[]⟩,vv,s9⟩,.bool true]) (by simp [results,Tryz.results101,go_sem,Qx,d0,d1,d2,d3,d4]) rfl (ME.yes G.out b9)
    have hl3:L.length=4:=by have h9:=F.out;have h8:=To.out;simp at h9;omega
    have WG:Hid (TY L=(WC (ZE L 3).data.toList).map (fun x=>⟨k9,ZE L 1,RI (ZE L 2),x,s9⟩)):=hop.trans (ZZ hl3);have hsb:((L.length:Nat):Int) - 1=3:=by omega
    have hp3:(3:Int)<((L.length:Nat):Int):=by omega
    have c3:=UH.out 3 (by omega);clear hop hl3 D F To
    cases hd2:(ZE L 2).toList == [45] with
    | true =>
     have HD:Hid (RI (ZE L 2)=⟨#[]⟩):=ZZ hd2;rw [HD.out] at WG
     go_wp2_with fail
     clear hsb z3 z4 c2 c3;refine (WK (ZE L 3) m1 (Pm.out 3) HG.out).mono ?_;rintro e n2 ⟨vv,ok,rfl,b2,hok,hvv⟩
     replace X:=Z3 (X.out.below b2)
     replace Q:=Z3 (Q.out.below b2)
     replace BA:=Z3 (YV BA.out b2)
     have sN:=b2.size;have HQ:=Z3 (And.intro hok hvv);clear b2 hok hvv
     cases ok with
     | false =>
      have G:Hid (TY L=none):=by
       show _=_;rw [WG.out]
       cases hx:WC (ZE L 3).data.toList with
       | none=>rfl
       | some x=>have:=HQ.out.1;rw [hx] at this;cases this
      clear WG HQ;have xf:=X.out.fz;have x0:=X.out.cl 0 _ rfl;have x1:=X.out.cl 1 _ rfl;have x2:=X.out.cl 2 _ rfl;have x3:=X.out.cl 3 _ rfl;have x4:=X.out.cl 4 _ rfl
      go_wp2_with fail
      obtain ⟨b9,x9⟩:=U5 BA.out X.out ⟨0,⟨#[]⟩,⟨#[]⟩,0,false⟩;have d0:=x9.cl 0 _ rfl;have d1:=x9.cl 1 _ rfl;have d2:=x9.cl 2 _ rfl;have d3:=x9.cl 3 _ rfl;have d4:=x9.cl 4 _ rfl;exact ZS (v:=.tuple #[Qx ⟨0,⟨#[]⟩,⟨#[]⟩,0,false⟩,.bool false]) (by simp [results,Tryz.results101,go_sem,Qx,d0,d1,d2,d3,d4]) rfl (ME.no G.out b9)
     | true =>
      have G:Hid (TY L=some ⟨k9,ZE L 1,⟨#[]⟩,vv,s9⟩):=by
       show _=_;rw [WG.out];obtain ⟨x,hx⟩:=Option.isSome_iff_exists.1 HQ.out.1.symm;rw [hx,HQ.out.2 x hx]
       rfl
      clear WG HQ;have xf:=X.out.fz;have x0:=X.out.cl 0 _ rfl;have x1:=X.out.cl 1 _ rfl;have x2:=X.out.cl 2 _ rfl;have x3:=X.out.cl 3 _ rfl;have x4:=X.out.cl 4 _ rfl;have gf:=Q.out.fz;have g0:=Q.out.cl 0 _ rfl;have g1:=Q.out.cl 1 _ rfl;have g2:=Q.out.cl 2 _ rfl;have g3:=Q.out.cl 3 _ rfl;have g4:=Q.out.cl 4 _ rfl
      go_wp2_with fail
      have X9:=Z3 (X.out.other (c:=m0.heap.size) (j:=3) (x:=.int .i64 vv) (by omega));have B9:=Z3 (BA.out.setCell (p:=⟨m0.heap.size,3,none⟩) (by show _≤m0.heap.size;omega) (.int .i64 vv));obtain ⟨b9,x9⟩:=U5 B9.out X9.out ⟨k9,ZE L 1,⟨#[]⟩,vv,s9⟩;have d0:=x9.cl 0 _ rfl;have d1:=x9.cl 1 _ rfl;have d2:=x9.cl 2 _ rfl;have d3:=x9.cl 3 _ rfl;have d4:=x9.cl 4 _ rfl;exact ZS (v:=.tuple #[Qx ⟨k9,ZE L 1,⟨#[]⟩,vv,s9⟩,.bool true]) (by simp [results,Tryz.results101,go_sem,Qx,d0,d1,d2,d3,d4]) rfl (ME.yes G.out b9)
    | false =>
     have HD:Hid (RI (ZE L 2)=ZE L 2):=Z1 (by rw [hd2];decide);rw [HD.out] at WG;have gf:=Q.out.fz;have g0:=Q.out.cl 0 _ rfl;have g1:=Q.out.cl 1 _ rfl;have g2:=Q.out.cl 2 _ rfl;have g3:=Q.out.cl 3 _ rfl;have g4:=Q.out.cl 4 _ rfl;have f:(m1.setCell ⟨m0.heap.size,2,none⟩ (.string (ZE L 2))).cell? ⟨b,o+3,none⟩=some (.string (ZE L 3)):=(Zs _ _ _ _ (by intro e9;injection e9 with e1 e2;omega)).trans c3;have Z':=(XF.out.other (c:=m0.heap.size) (j:=2) (x:=.string (ZE L 2)) (by omega)).cl 4 _ rfl
     go_wp2_with fail
     have hm2:Below m0.heap.size m1 (m1.setCell ⟨m0.heap.size,2,none⟩ (.string (ZE L 2))):=ZJ.setCell (p:=⟨m0.heap.size,2,none⟩) ZT _
     replace X:=Z3 (X.out.other (c:=m0.heap.size) (j:=2) (x:=.string (ZE L 2)) (by omega))
     replace Q:=Z3 (Q.out.set 2 (.string (ZE L 2)))
     replace BA:=Z3 (BA.out.setCell (p:=⟨m0.heap.size,2,none⟩) (by show _≤m0.heap.size;omega) (.string (ZE L 2)))
     replace HG:Hid (AR (m1.setCell ⟨m0.heap.size,2,none⟩ (.string (ZE L 2))) m te pe):=⟨(hm2.cell (p:=⟨1,0,none⟩) (by show 1<m0.heap.size;exact ZL H3.out (by omega))).trans HG.out.mx,(hm2.cell (p:=⟨7,0,none⟩) (by show 7<m0.heap.size;exact ZL H4.out (by omega))).trans HG.out.es⟩
     clear hsb z3 z4 c2 c3 f Z' gf g0 g1 g2 g3 g4 hm2;generalize m1.setCell _ _=m2 at *;refine (WK (ZE L 3) m2 (Pm.out 3) HG.out).mono ?_;rintro e n2 ⟨vv,ok,rfl,b2,hok,hvv⟩
     replace X:=Z3 (X.out.below b2)
     replace Q:=Z3 (Q.out.below b2)
     replace BA:=Z3 (YV BA.out b2)
     have sN:=b2.size;have HQ:=Z3 (And.intro hok hvv);clear b2 hok hvv
     cases ok with
     | false =>
      have G:Hid (TY L=none):=by
       show _=_;rw [WG.out]
       cases hx:WC (ZE L 3).data.toList with
       | none=>rfl
       | some x=>have:=HQ.out.1;rw [hx] at this;cases this
      clear WG HQ;have xf:=X.out.fz;have x0:=X.out.cl 0 _ rfl;have x1:=X.out.cl 1 _ rfl;have x2:=X.out.cl 2 _ rfl;have x3:=X.out.cl 3 _ rfl;have x4:=X.out.cl 4 _ rfl
      go_wp2_with fail
      obtain ⟨b9,x9⟩:=U5 BA.out X.out ⟨0,⟨#[]⟩,⟨#[]⟩,0,false⟩;have d0:=x9.cl 0 _ rfl;have d1:=x9.cl 1 _ rfl;have d2:=x9.cl 2 _ rfl;have d3:=x9.cl 3 _ rfl;have d4:=x9.cl 4 _ rfl;exact ZS (v:=.tuple #[Qx ⟨0,⟨#[]⟩,⟨#[]⟩,0,false⟩,.bool false]) (by simp [results,Tryz.results101,go_sem,Qx,d0,d1,d2,d3,d4]) rfl (ME.no G.out b9)
     | true =>
      have G:Hid (TY L=some ⟨k9,ZE L 1,ZE L 2,vv,s9⟩):=by
       show _=_;rw [WG.out];obtain ⟨x,hx⟩:=Option.isSome_iff_exists.1 HQ.out.1.symm;rw [hx,HQ.out.2 x hx]
       rfl
      clear WG HQ;have xf:=X.out.fz;have x0:=X.out.cl 0 _ rfl;have x1:=X.out.cl 1 _ rfl;have x2:=X.out.cl 2 _ rfl;have x3:=X.out.cl 3 _ rfl;have x4:=X.out.cl 4 _ rfl;have gf:=Q.out.fz;have g0:=Q.out.cl 0 _ rfl;have g1:=Q.out.cl 1 _ rfl;have g2:=Q.out.cl 2 _ rfl;have g3:=Q.out.cl 3 _ rfl;have g4:=Q.out.cl 4 _ rfl
      go_wp2_with fail
      have X9:=Z3 (X.out.other (c:=m0.heap.size) (j:=3) (x:=.int .i64 vv) (by omega));have B9:=Z3 (BA.out.setCell (p:=⟨m0.heap.size,3,none⟩) (by show _≤m0.heap.size;omega) (.int .i64 vv));obtain ⟨b9,x9⟩:=U5 B9.out X9.out ⟨k9,ZE L 1,ZE L 2,vv,s9⟩;have d0:=x9.cl 0 _ rfl;have d1:=x9.cl 1 _ rfl;have d2:=x9.cl 2 _ rfl;have d3:=x9.cl 3 _ rfl;have d4:=x9.cl 4 _ rfl;exact ZS (v:=.tuple #[Qx ⟨k9,ZE L 1,ZE L 2,vv,s9⟩,.bool true]) (by simp [results,Tryz.results101,go_sem,Qx,d0,d1,d2,d3,d4]) rfl (ME.yes G.out b9)
theorem Lu (w:World) (a:Option Addr) (n c kb:Nat) (k:Int) (hk:w.cell? ⟨kb,0,none⟩=some (.int .i64 k)) (hb:kb<w.heap.size) (l:Ln) (hl:l=if n=1 then ⟨k,[],false,⟨#[]⟩,[]⟩ else Si):Calls Tryz.prog 103 #[.slice a n c,.pointer (some ⟨kb,0,none⟩)] w fun e w'=>mZ w (l) e w':=by
 have hA:ZX w (w.alloc (.cells #[.int .i64 0,.slice none 0 0,.bool false,.string ⟨#[]⟩,.slice none 0 0] 43)):=ZJ.alloc ZT _;have BA:=Z3 hA;have X:=Z3 (St.new w #[.int .i64 0,.slice none 0 0,.bool false,.string ⟨#[]⟩,.slice none 0 0] 43)
 by_cases h1:n=1
 · have yC:(((n:Nat):Int) != 1)=false:=by simp [h1]
   have HR:Hid (l=⟨k,[],false,⟨#[]⟩,[]⟩):=hl.trans (ZZ h1);clear h1 hA hl
   go_enter Tryz.func103,Tryz.ntmps103
   go_wp2_with fail
   have B9:ZX w (w.alloc (.cells #[.int .i64 k,.slice none 0 0,.bool false,.string ⟨#[]⟩,.slice none 0 0] 43)):=ZJ.alloc ZT _;have X9:=St.new w #[.int .i64 k,.slice none 0 0,.bool false,.string ⟨#[]⟩,.slice none 0 0] 43;have d0:=X9.cl 0 _ rfl;have d1:=X9.cl 1 _ rfl;have d2:=X9.cl 2 _ rfl;have d3:=X9.cl 3 _ rfl;have d4:=X9.cl 4 _ rfl;exact ZS (v:=.agg #[.int .i64 k,.slice none 0 0,.bool false,.string ⟨#[]⟩,.slice none 0 0]) (by simp [results,Tryz.results103,go_sem,d0,d1,d2,d3,d4]) rfl (by rw [HR.out];exact ⟨_,_,rfl,Zl _ _ _ _,Zl _ _ _ _,B9⟩)
 have yC:(((n:Nat):Int) != 1)=true:=by simp;omega
 have HR:Hid (l=Si):=hl.trans (Z1 h1);clear h1 hA hl
 go_enter Tryz.func103,Tryz.ntmps103
 go_wp2_with fail
 have d0:=X.out.cl 0 _ rfl;have d1:=X.out.cl 1 _ rfl;have d2:=X.out.cl 2 _ rfl;have d3:=X.out.cl 3 _ rfl;have d4:=X.out.cl 4 _ rfl;exact ZS (v:=.agg #[.int .i64 0,.slice none 0 0,.bool false,.string ⟨#[]⟩,.slice none 0 0]) (by simp [results,Tryz.results103,go_sem,d0,d1,d2,d3,d4]) rfl (by rw [HR.out];exact ⟨_,_,rfl,Zl _ _ _ _,Zl _ _ _ _,BA.out⟩)
def QD (k:Int) (L:List ByteArray) (ok:List Int→Bool):Ln :=
 match XV L with
 | none=>Si
 | some ns=>if L.length≤2000∧ok ns=true then ⟨k,[],false,⟨#[]⟩,ns⟩ else Si
theorem Ka (w:World) (g c kb fb:Nat) (L:List ByteArray) (k:Int) (hk:w.cell? ⟨kb,0,none⟩=some (.int .i64 k)) (hf:w.cell? ⟨fb,0,none⟩=some (.func (.func 64) #[] #[])) (hL:0<L.length) (hL1:L.length≤1048577) (qv:L.length≤c) (hcm:c≤maxLen) (hR:uz w (.slice (some ⟨g,0,none⟩) L.length c) L) (hsz:m9 L) (hg:AR w m te pe) (l:Ln) (hl:l=QD k (L.drop 1) (fun ns=>Wp ns)) :
    Calls Tryz.prog 105 #[.slice (some ⟨g,0,none⟩) L.length c,.pointer (some ⟨fb,0,none⟩),.pointer (some ⟨kb,0,none⟩)] w fun e w'=>mZ w l e w':=by
 have hA:ZX w (w.alloc (.cells #[.int .i64 0,.slice none 0 0,.bool false,.string ⟨#[]⟩,.slice none 0 0] 43)):=ZJ.alloc ZT _;have BA:=Z3 hA;have X:=Z3 (St.new w #[.int .i64 0,.slice none 0 0,.bool false,.string ⟨#[]⟩,.slice none 0 0] 43);have hkl:kb<(w.alloc (.cells #[.int .i64 0,.slice none 0 0,.bool false,.string ⟨#[]⟩,.slice none 0 0] 43)).heap.size:=ZL (YJ w _ hk) hA.size;have hfl:fb<(w.alloc (.cells #[.int .i64 0,.slice none 0 0,.bool false,.string ⟨#[]⟩,.slice none 0 0] 43)).heap.size:=ZL (YJ w _ hf) hA.size;have hkz:=(hA.cell (p:=⟨kb,0,none⟩) (YJ w _ hk)).trans hk;have hfz:=(hA.cell (p:=⟨fb,0,none⟩) (YJ w _ hf)).trans hf;have RL:=hR.below hA;have RD:uz (w.alloc (.cells #[.int .i64 0,.slice none 0 0,.bool false,.string ⟨#[]⟩,.slice none 0 0] 43)) (if c=1 then .slice (some ⟨g,0,none⟩) (L.length - 1) (c - 1) else .slice (some ⟨g,0+1,none⟩) (L.length - 1) (c - 1)) (L.drop 1):=by
  have h9:=rH RL 1 (L.length - 1) (by omega);rw [Wv (by rw [Zd];exact ZT)] at h9
  by_cases hc:c=1
  · rw [ZZ hc]
    have hz:L.drop 1=[]:=JB (by omega);rw [hz,show L.length - 1=0 by omega];exact ⟨_,_,rfl,Zu _,by omega,.inl rfl⟩
  rw [Z1 hc];exact h9
 have HC:=Z3 (PY (w.alloc (.cells #[.int .i64 0,.slice none 0 0,.bool false,.string ⟨#[]⟩,.slice none 0 0] 43)) _ (L.drop 1) RD (by rw [Zd];omega) (fun i=>by rw [GO];exact hsz _) (hg.later hA));have To:=Z3 hl;unfold maxLen at hcm;clear RD RL hR hsz hg hA hl hk hf;generalize L.drop 1=L' at *
 go_enter Tryz.func105,Tryz.ntmps105
 by_cases hc:c=1
 · rw [ZZ hc,show L.length - 1=0 by omega,show c - 1=0 by omega] at HC
   have r:L.length=1:=by omega
   go_wp2_with fail
   clear hc r;refine HC.out.mono ?_;rintro e w2 ⟨vn,ns,gd,rfl,n2,b2,hgd,hns⟩;obtain ⟨an,cn,rfl,-⟩:=Uh n2;have E:=Z3 (Sh w2 _ (.slice an ns.length cn) ns n2)
   replace X:=Z3 (X.out.below b2)
   replace BA:=Z3 (BA.out.trans (b2.mono (by simp)))
   replace hkz:=(b2.cell (p:=⟨kb,0,none⟩) hkl).trans hkz
   replace hfz:=(b2.cell (p:=⟨fb,0,none⟩) hfl).trans hfz
   have N2:=Z3 (VT n2 (lo':=w.heap.size+1) (by simp));have HQ:=Z3 (And.intro hgd hns);clear HC n2 b2 hgd hns hkl hfl
   cases gd with
   | false =>
    have WG:Hid (l=Si):=by
     show _=_;rw [To.out];unfold QD
     cases hx:XV L' with
     | none=>rfl
     | some x=>have:=HQ.out.1;rw [hx] at this;cases this
    clear To HQ E;have x0:=X.out.fz;have y0:=X.out.cl 0 _ rfl;have y1:=X.out.cl 1 _ rfl;have y2:=X.out.cl 2 _ rfl;have y3:=X.out.cl 3 _ rfl;have y4:=X.out.cl 4 _ rfl
    go_wp2_with fail
    obtain ⟨b9,x9,o9,n9⟩:=U4 BA.out X.out 0 false ⟨#[]⟩ (vo:=.slice none 0 0) (vn:=.slice none 0 0) (show VU _ _ _ _ [] from Zl _ _ _ _) (show Own _ _ _ _ _ [] from Zl _ _ _ _);have d0:=x9.cl 0 _ rfl;have d1:=x9.cl 1 _ rfl;have d2:=x9.cl 2 _ rfl;have d3:=x9.cl 3 _ rfl;have d4:=x9.cl 4 _ rfl;exact ZS (v:=.agg #[.int .i64 0,.slice none 0 0,.bool false,.string ⟨#[]⟩,.slice none 0 0]) (by simp [results,Tryz.results105,go_sem,d0,d1,d2,d3,d4]) rfl (by rw [WG.out];exact ⟨_,_,rfl,o9,n9,b9⟩)
   | true =>
    obtain ⟨x,hx⟩:=Option.isSome_iff_exists.1 HQ.out.1.symm;have hnx:=HQ.out.2 x hx;subst hnx;have hln:=P4 hx
    by_cases hbig:2000<ns.length
    · have pi:(2000:Int)<((ns.length:Nat):Int):=by omega
      have WG:Hid (l=Si):=by
       show _=_;rw [To.out];unfold QD;rw [hx];show (if _ then _ else _)=_;rw [Z1 (fun h=>by omega)]
      clear To HQ E hx hln;have x0:=X.out.fz;have y0:=X.out.cl 0 _ rfl;have y1:=X.out.cl 1 _ rfl;have y2:=X.out.cl 2 _ rfl;have y3:=X.out.cl 3 _ rfl;have y4:=X.out.cl 4 _ rfl
      go_wp2_with fail
      obtain ⟨b9,x9,o9,n9⟩:=U4 BA.out X.out 0 false ⟨#[]⟩ (vo:=.slice none 0 0) (vn:=.slice none 0 0) (show VU _ _ _ _ [] from Zl _ _ _ _) (show Own _ _ _ _ _ [] from Zl _ _ _ _);have d0:=x9.cl 0 _ rfl;have d1:=x9.cl 1 _ rfl;have d2:=x9.cl 2 _ rfl;have d3:=x9.cl 3 _ rfl;have d4:=x9.cl 4 _ rfl;exact ZS (v:=.agg #[.int .i64 0,.slice none 0 0,.bool false,.string ⟨#[]⟩,.slice none 0 0]) (by simp [results,Tryz.results105,go_sem,d0,d1,d2,d3,d4]) rfl (by rw [WG.out];exact ⟨_,_,rfl,o9,n9,b9⟩)
    have pi:¬(2000:Int)<((ns.length:Nat):Int):=by omega
    have I:Hid (l=if Wp ns=true then ⟨k,[],false,⟨#[]⟩,ns⟩ else Si):=by
     show _=_;rw [To.out];unfold QD;rw [hx];show (if _ then _ else _)=_
     by_cases h9:Wp ns=true
     · rw [ZZ ⟨by omega,h9⟩,ZZ h9]
     rw [Z1 (fun h=>h9 h.2),Z1 h9]
    clear To HQ hx hln
    cases hok:(Wp ns:Bool) with
    | false =>
     have WG:Hid (l=Si):=by show _=_;rw [I.out,Z1 (by rw [hok];decide)]
     clear I
     go_wp2_with fail
     refine E.out.mono ?_;rintro e w9 ⟨rfl,Bw⟩;subst Bw;rw [hok];have x0:=X.out.fz;have y0:=X.out.cl 0 _ rfl;have y1:=X.out.cl 1 _ rfl;have y2:=X.out.cl 2 _ rfl;have y3:=X.out.cl 3 _ rfl;have y4:=X.out.cl 4 _ rfl
     go_wp2_with fail
     obtain ⟨b9,x9,o9,n9⟩:=U4 BA.out X.out 0 false ⟨#[]⟩ (vo:=.slice none 0 0) (vn:=.slice none 0 0) (show VU _ _ _ _ [] from Zl _ _ _ _) (show Own _ _ _ _ _ [] from Zl _ _ _ _);have d0:=x9.cl 0 _ rfl;have d1:=x9.cl 1 _ rfl;have d2:=x9.cl 2 _ rfl;have d3:=x9.cl 3 _ rfl;have d4:=x9.cl 4 _ rfl;exact ZS (v:=.agg #[.int .i64 0,.slice none 0 0,.bool false,.string ⟨#[]⟩,.slice none 0 0]) (by simp [results,Tryz.results105,go_sem,d0,d1,d2,d3,d4]) rfl (by rw [WG.out];exact ⟨_,_,rfl,o9,n9,b9⟩)
    | true =>
     have WG:Hid (l=⟨k,[],false,⟨#[]⟩,ns⟩):=by show _=_;rw [I.out,ZZ hok]
     clear I
     go_wp2_with fail
     refine E.out.mono ?_;rintro e w9 ⟨rfl,Bw⟩;subst Bw;rw [hok];have x0:=X.out.fz;have y0:=X.out.cl 0 _ rfl;have y1:=X.out.cl 1 _ rfl;have y2:=X.out.cl 2 _ rfl;have y3:=X.out.cl 3 _ rfl;have y4:=X.out.cl 4 _ rfl
     go_wp2_with fail
     obtain ⟨b9,x9,o9,n9⟩:=U4 BA.out X.out k false ⟨#[]⟩ (vo:=.slice none 0 0) (vn:=.slice an ns.length cn) (show VU _ _ _ _ [] from Zl _ _ _ _) (N2.out);have d0:=x9.cl 0 _ rfl;have d1:=x9.cl 1 _ rfl;have d2:=x9.cl 2 _ rfl;have d3:=x9.cl 3 _ rfl;have d4:=x9.cl 4 _ rfl;exact ZS (v:=.agg #[.int .i64 k,.slice none 0 0,.bool false,.string ⟨#[]⟩,.slice an ns.length cn]) (by simp [results,Tryz.results105,go_sem,d0,d1,d2,d3,d4]) rfl (by rw [WG.out];exact ⟨_,_,rfl,o9,n9,b9⟩)
 rw [Z1 hc] at HC
 go_wp2_with fail
 refine HC.out.mono ?_;rintro e w2 ⟨vn,ns,gd,rfl,n2,b2,hgd,hns⟩;obtain ⟨an,cn,rfl,-⟩:=Uh n2;have E:=Z3 (Sh w2 _ (.slice an ns.length cn) ns n2)
 replace X:=Z3 (X.out.below b2)
 replace BA:=Z3 (BA.out.trans (b2.mono (by simp)))
 replace hkz:=(b2.cell (p:=⟨kb,0,none⟩) hkl).trans hkz
 replace hfz:=(b2.cell (p:=⟨fb,0,none⟩) hfl).trans hfz
 have N2:=Z3 (VT n2 (lo':=w.heap.size+1) (by simp));have HQ:=Z3 (And.intro hgd hns);clear HC n2 b2 hgd hns hkl hfl
 cases gd with
 | false =>
  have WG:Hid (l=Si):=by
   show _=_;rw [To.out];unfold QD
   cases hx:XV L' with
   | none=>rfl
   | some x=>have:=HQ.out.1;rw [hx] at this;cases this
  clear To HQ E;have x0:=X.out.fz;have y0:=X.out.cl 0 _ rfl;have y1:=X.out.cl 1 _ rfl;have y2:=X.out.cl 2 _ rfl;have y3:=X.out.cl 3 _ rfl;have y4:=X.out.cl 4 _ rfl
  go_wp2_with fail
  obtain ⟨b9,x9,o9,n9⟩:=U4 BA.out X.out 0 false ⟨#[]⟩ (vo:=.slice none 0 0) (vn:=.slice none 0 0) (show VU _ _ _ _ [] from Zl _ _ _ _) (show Own _ _ _ _ _ [] from Zl _ _ _ _);have d0:=x9.cl 0 _ rfl;have d1:=x9.cl 1 _ rfl;have d2:=x9.cl 2 _ rfl;have d3:=x9.cl 3 _ rfl;have d4:=x9.cl 4 _ rfl;exact ZS (v:=.agg #[.int .i64 0,.slice none 0 0,.bool false,.string ⟨#[]⟩,.slice none 0 0]) (by simp [results,Tryz.results105,go_sem,d0,d1,d2,d3,d4]) rfl (by rw [WG.out];exact ⟨_,_,rfl,o9,n9,b9⟩)
 | true =>
  obtain ⟨x,hx⟩:=Option.isSome_iff_exists.1 HQ.out.1.symm;have hnx:=HQ.out.2 x hx;subst hnx;have hln:=P4 hx
  by_cases hbig:2000<ns.length
  · have pi:(2000:Int)<((ns.length:Nat):Int):=by omega
    have WG:Hid (l=Si):=by
     show _=_;rw [To.out];unfold QD;rw [hx];show (if _ then _ else _)=_;rw [Z1 (fun h=>by omega)]
    clear To HQ E hx hln;have x0:=X.out.fz;have y0:=X.out.cl 0 _ rfl;have y1:=X.out.cl 1 _ rfl;have y2:=X.out.cl 2 _ rfl;have y3:=X.out.cl 3 _ rfl;have y4:=X.out.cl 4 _ rfl
    go_wp2_with fail
    obtain ⟨b9,x9,o9,n9⟩:=U4 BA.out X.out 0 false ⟨#[]⟩ (vo:=.slice none 0 0) (vn:=.slice none 0 0) (show VU _ _ _ _ [] from Zl _ _ _ _) (show Own _ _ _ _ _ [] from Zl _ _ _ _);have d0:=x9.cl 0 _ rfl;have d1:=x9.cl 1 _ rfl;have d2:=x9.cl 2 _ rfl;have d3:=x9.cl 3 _ rfl;have d4:=x9.cl 4 _ rfl;exact ZS (v:=.agg #[.int .i64 0,.slice none 0 0,.bool false,.string ⟨#[]⟩,.slice none 0 0]) (by simp [results,Tryz.results105,go_sem,d0,d1,d2,d3,d4]) rfl (by rw [WG.out];exact ⟨_,_,rfl,o9,n9,b9⟩)
  have pi:¬(2000:Int)<((ns.length:Nat):Int):=by omega
  have I:Hid (l=if Wp ns=true then ⟨k,[],false,⟨#[]⟩,ns⟩ else Si):=by
   show _=_;rw [To.out];unfold QD;rw [hx];show (if _ then _ else _)=_
   by_cases h9:Wp ns=true
   · rw [ZZ ⟨by omega,h9⟩,ZZ h9]
   rw [Z1 (fun h=>h9 h.2),Z1 h9]
  clear To HQ hx hln
  cases hok:(Wp ns:Bool) with
  | false =>
   have WG:Hid (l=Si):=by show _=_;rw [I.out,Z1 (by rw [hok];decide)]
   clear I
   go_wp2_with fail
   refine E.out.mono ?_;rintro e w9 ⟨rfl,Bw⟩;subst Bw;rw [hok];have x0:=X.out.fz;have y0:=X.out.cl 0 _ rfl;have y1:=X.out.cl 1 _ rfl;have y2:=X.out.cl 2 _ rfl;have y3:=X.out.cl 3 _ rfl;have y4:=X.out.cl 4 _ rfl
   go_wp2_with fail
   obtain ⟨b9,x9,o9,n9⟩:=U4 BA.out X.out 0 false ⟨#[]⟩ (vo:=.slice none 0 0) (vn:=.slice none 0 0) (show VU _ _ _ _ [] from Zl _ _ _ _) (show Own _ _ _ _ _ [] from Zl _ _ _ _);have d0:=x9.cl 0 _ rfl;have d1:=x9.cl 1 _ rfl;have d2:=x9.cl 2 _ rfl;have d3:=x9.cl 3 _ rfl;have d4:=x9.cl 4 _ rfl;exact ZS (v:=.agg #[.int .i64 0,.slice none 0 0,.bool false,.string ⟨#[]⟩,.slice none 0 0]) (by simp [results,Tryz.results105,go_sem,d0,d1,d2,d3,d4]) rfl (by rw [WG.out];exact ⟨_,_,rfl,o9,n9,b9⟩)
  | true =>
   have WG:Hid (l=⟨k,[],false,⟨#[]⟩,ns⟩):=by show _=_;rw [I.out,ZZ hok]
   clear I
   go_wp2_with fail
   refine E.out.mono ?_;rintro e w9 ⟨rfl,Bw⟩;subst Bw;rw [hok];have x0:=X.out.fz;have y0:=X.out.cl 0 _ rfl;have y1:=X.out.cl 1 _ rfl;have y2:=X.out.cl 2 _ rfl;have y3:=X.out.cl 3 _ rfl;have y4:=X.out.cl 4 _ rfl
   go_wp2_with fail
   obtain ⟨b9,x9,o9,n9⟩:=U4 BA.out X.out k false ⟨#[]⟩ (vo:=.slice none 0 0) (vn:=.slice an ns.length cn) (show VU _ _ _ _ [] from Zl _ _ _ _) (N2.out);have d0:=x9.cl 0 _ rfl;have d1:=x9.cl 1 _ rfl;have d2:=x9.cl 2 _ rfl;have d3:=x9.cl 3 _ rfl;have d4:=x9.cl 4 _ rfl;exact ZS (v:=.agg #[.int .i64 k,.slice none 0 0,.bool false,.string ⟨#[]⟩,.slice an ns.length cn]) (by simp [results,Tryz.results105,go_sem,d0,d1,d2,d3,d4]) rfl (by rw [WG.out];exact ⟨_,_,rfl,o9,n9,b9⟩)
theorem Nj (T:((ZE L 0).toList == [99,114,101,97,116,101])=false) (hseq:((ZE L 0).toList == [115,101,113])=false) (R:((ZE L 0).toList == [100,101,108,101,116,101])=false) (hset:((ZE L 0).toList == [115,101,116])=false) (O:((ZE L 0).toList == [99,104,101,99,107])=false):TY L=none:=by
 unfold TY MH MG
 simp [T,hseq,R,hset,O]
theorem vR {f0:ByteArray} (hstep:(f0.toList == [115,116,101,112])=false) (harm:(f0.toList == [97,114,109])=false) (Z:(f0.toList == [99,114,97,115,104])=false) (P:(f0.toList == [114,111,116])=false):iB f0 ns=Si:=by
 unfold iB
 simp [hstep,harm,Z,P]
theorem QC (hstep:((ZE L 0).toList == [115,116,101,112])=false) (harm:((ZE L 0).toList == [97,114,109])=false) (Z:((ZE L 0).toList == [99,114,97,115,104])=false) (P:((ZE L 0).toList == [114,111,116])=false):iA L=Si:=by
 unfold iA
 cases XV (L.drop 1) with
 | none=>rfl
 | some ns =>
  show (if _ then _ else _)=_;rw [vR hstep harm Z P]
  split <;> rfl
theorem Lt (h:((ZE L 0).toList == [102,108,117,115,104])=true):AN L=if L.length=1 then ⟨2,[],false,⟨#[]⟩,[]⟩ else Si:=by
 have U:((ZE L 0).toList == [109,117,108,116,105])=false:=by rw [ZK.1 h];rfl
 have T:((ZE L 0).toList == [99,114,101,97,116,101])=false:=by rw [ZK.1 h];rfl
 have hseq:((ZE L 0).toList == [115,101,113])=false:=by rw [ZK.1 h];rfl
 have R:((ZE L 0).toList == [100,101,108,101,116,101])=false:=by rw [ZK.1 h];rfl
 have hset:((ZE L 0).toList == [115,101,116])=false:=by rw [ZK.1 h];rfl
 have O:((ZE L 0).toList == [99,104,101,99,107])=false:=by rw [ZK.1 h];rfl
 have N:((ZE L 0).toList == [100,117,109,112])=false:=by rw [ZK.1 h];rfl
 have J:((ZE L 0).toList == [115,110,97,112])=false:=by rw [ZK.1 h];rfl
 have Y:((ZE L 0).toList == [114,101,99,111,118,101,114])=false:=by rw [ZK.1 h];rfl
 have V:((ZE L 0).toList == [115,116,97,116,117,115])=false:=by rw [ZK.1 h];rfl
 have hget:((ZE L 0).toList == [103,101,116])=false:=by rw [ZK.1 h];rfl
 have hlist:((ZE L 0).toList == [108,105,115,116])=false:=by rw [ZK.1 h];rfl
 have hstep:((ZE L 0).toList == [115,116,101,112])=false:=by rw [ZK.1 h];rfl
 have harm:((ZE L 0).toList == [97,114,109])=false:=by rw [ZK.1 h];rfl
 have Z:((ZE L 0).toList == [99,114,97,115,104])=false:=by rw [ZK.1 h];rfl
 have P:((ZE L 0).toList == [114,111,116])=false:=by rw [ZK.1 h];rfl
 unfold AN ly;rw [Z1 (by rw [U];decide),Nj T hseq R hset O];show vU L=_;unfold vU lz;rw [QC hstep harm Z P]
 by_cases h1:L.length=1
 · simp [h1,h,N,J,Y,V]
 simp [h1,hget,hlist]
theorem GL (h:((ZE L 0).toList == [115,110,97,112])=true):AN L=if L.length=1 then ⟨6,[],false,⟨#[]⟩,[]⟩ else Si:=by
 have U:((ZE L 0).toList == [109,117,108,116,105])=false:=by rw [ZK.1 h];rfl
 have T:((ZE L 0).toList == [99,114,101,97,116,101])=false:=by rw [ZK.1 h];rfl
 have hseq:((ZE L 0).toList == [115,101,113])=false:=by rw [ZK.1 h];rfl
 have R:((ZE L 0).toList == [100,101,108,101,116,101])=false:=by rw [ZK.1 h];rfl
 have hset:((ZE L 0).toList == [115,101,116])=false:=by rw [ZK.1 h];rfl
 have O:((ZE L 0).toList == [99,104,101,99,107])=false:=by rw [ZK.1 h];rfl
 have M:((ZE L 0).toList == [102,108,117,115,104])=false:=by rw [ZK.1 h];rfl
 have N:((ZE L 0).toList == [100,117,109,112])=false:=by rw [ZK.1 h];rfl
 have Y:((ZE L 0).toList == [114,101,99,111,118,101,114])=false:=by rw [ZK.1 h];rfl
 have V:((ZE L 0).toList == [115,116,97,116,117,115])=false:=by rw [ZK.1 h];rfl
 have hget:((ZE L 0).toList == [103,101,116])=false:=by rw [ZK.1 h];rfl
 have hlist:((ZE L 0).toList == [108,105,115,116])=false:=by rw [ZK.1 h];rfl
 have hstep:((ZE L 0).toList == [115,116,101,112])=false:=by rw [ZK.1 h];rfl
 have harm:((ZE L 0).toList == [97,114,109])=false:=by rw [ZK.1 h];rfl
 have Z:((ZE L 0).toList == [99,114,97,115,104])=false:=by rw [ZK.1 h];rfl
 have P:((ZE L 0).toList == [114,111,116])=false:=by rw [ZK.1 h];rfl
 unfold AN ly;rw [Z1 (by rw [U];decide),Nj T hseq R hset O];show vU L=_;unfold vU lz;rw [QC hstep harm Z P]
 by_cases h1:L.length=1
 · simp [h1,h,M,N,Y,V]
 simp [h1,hget,hlist]
theorem GK (h:((ZE L 0).toList == [115,116,101,112])=true):AN L=QD 7 (L.drop 1) (Wp):=by
 have U:((ZE L 0).toList == [109,117,108,116,105])=false:=by rw [ZK.1 h];rfl
 have T:((ZE L 0).toList == [99,114,101,97,116,101])=false:=by rw [ZK.1 h];rfl
 have hseq:((ZE L 0).toList == [115,101,113])=false:=by rw [ZK.1 h];rfl
 have R:((ZE L 0).toList == [100,101,108,101,116,101])=false:=by rw [ZK.1 h];rfl
 have hset:((ZE L 0).toList == [115,101,116])=false:=by rw [ZK.1 h];rfl
 have O:((ZE L 0).toList == [99,104,101,99,107])=false:=by rw [ZK.1 h];rfl
 have M:((ZE L 0).toList == [102,108,117,115,104])=false:=by rw [ZK.1 h];rfl
 have N:((ZE L 0).toList == [100,117,109,112])=false:=by rw [ZK.1 h];rfl
 have J:((ZE L 0).toList == [115,110,97,112])=false:=by rw [ZK.1 h];rfl
 have Y:((ZE L 0).toList == [114,101,99,111,118,101,114])=false:=by rw [ZK.1 h];rfl
 have V:((ZE L 0).toList == [115,116,97,116,117,115])=false:=by rw [ZK.1 h];rfl
 have hget:((ZE L 0).toList == [103,101,116])=false:=by rw [ZK.1 h];rfl
 have hlist:((ZE L 0).toList == [108,105,115,116])=false:=by rw [ZK.1 h];rfl
 have harm:((ZE L 0).toList == [97,114,109])=false:=by rw [ZK.1 h];rfl
 have Z:((ZE L 0).toList == [99,114,97,115,104])=false:=by rw [ZK.1 h];rfl
 have P:((ZE L 0).toList == [114,111,116])=false:=by rw [ZK.1 h];rfl
 unfold AN ly;rw [Z1 (by rw [U];decide),Nj T hseq R hset O];show vU L=_;unfold vU lz
 simp only [M,N,J,Y,V,hget,hlist,Qw,and_false,Vw]
 unfold iA QD
 cases XV (L.drop 1) with
 | none=>rfl
 | some ns =>
  unfold iB Wp
  by_cases h9:(L.drop 1).length≤2000
  · simp only [h9,Jg,Uc]
    simp [h,harm,Z,P]
  simp only [h9,false_and,Vw]
theorem Ni (h:((ZE L 0).toList == [99,114,101,97,116,101])=true):AN L=match TY L with | some o=>⟨1,[o],false,⟨#[]⟩,[]⟩ | none=>Si:=by
 have U:((ZE L 0).toList == [109,117,108,116,105])=false:=by rw [ZK.1 h];rfl
 have M:((ZE L 0).toList == [102,108,117,115,104])=false:=by rw [ZK.1 h];rfl
 have N:((ZE L 0).toList == [100,117,109,112])=false:=by rw [ZK.1 h];rfl
 have J:((ZE L 0).toList == [115,110,97,112])=false:=by rw [ZK.1 h];rfl
 have Y:((ZE L 0).toList == [114,101,99,111,118,101,114])=false:=by rw [ZK.1 h];rfl
 have V:((ZE L 0).toList == [115,116,97,116,117,115])=false:=by rw [ZK.1 h];rfl
 have hget:((ZE L 0).toList == [103,101,116])=false:=by rw [ZK.1 h];rfl
 have hlist:((ZE L 0).toList == [108,105,115,116])=false:=by rw [ZK.1 h];rfl
 have hstep:((ZE L 0).toList == [115,116,101,112])=false:=by rw [ZK.1 h];rfl
 have harm:((ZE L 0).toList == [97,114,109])=false:=by rw [ZK.1 h];rfl
 have Z:((ZE L 0).toList == [99,114,97,115,104])=false:=by rw [ZK.1 h];rfl
 have P:((ZE L 0).toList == [114,111,116])=false:=by rw [ZK.1 h];rfl
 unfold AN ly;rw [Z1 (by rw [U];decide)]
 cases TY L with
 | some o=>rfl
 | none =>
  show vU L=Si;unfold vU lz;rw [QC hstep harm Z P]
  simp [M,N,J,Y,V,hget,hlist]
theorem Db (h:((ZE L 0).toList == [115,101,116])=true):AN L=match TY L with | some o=>⟨1,[o],false,⟨#[]⟩,[]⟩ | none=>Si:=by
 have U:((ZE L 0).toList == [109,117,108,116,105])=false:=by rw [ZK.1 h];rfl
 have M:((ZE L 0).toList == [102,108,117,115,104])=false:=by rw [ZK.1 h];rfl
 have N:((ZE L 0).toList == [100,117,109,112])=false:=by rw [ZK.1 h];rfl
 have J:((ZE L 0).toList == [115,110,97,112])=false:=by rw [ZK.1 h];rfl
 have Y:((ZE L 0).toList == [114,101,99,111,118,101,114])=false:=by rw [ZK.1 h];rfl
 have V:((ZE L 0).toList == [115,116,97,116,117,115])=false:=by rw [ZK.1 h];rfl
 have hget:((ZE L 0).toList == [103,101,116])=false:=by rw [ZK.1 h];rfl
 have hlist:((ZE L 0).toList == [108,105,115,116])=false:=by rw [ZK.1 h];rfl
 have hstep:((ZE L 0).toList == [115,116,101,112])=false:=by rw [ZK.1 h];rfl
 have harm:((ZE L 0).toList == [97,114,109])=false:=by rw [ZK.1 h];rfl
 have Z:((ZE L 0).toList == [99,114,97,115,104])=false:=by rw [ZK.1 h];rfl
 have P:((ZE L 0).toList == [114,111,116])=false:=by rw [ZK.1 h];rfl
 unfold AN ly;rw [Z1 (by rw [U];decide)]
 cases TY L with
 | some o=>rfl
 | none =>
  show vU L=Si;unfold vU lz;rw [QC hstep harm Z P]
  simp [M,N,J,Y,V,hget,hlist]
theorem Ls (w:World) (a:Option Addr) (c:Nat) (L:List ByteArray) (hop:∀W,ZX w W→Calls Tryz.prog 101 #[.slice a L.length c] W fun e w'=>ME W L e w') (l:Ln) (hl:l=match TY L with | some o=>⟨1,[o],false,⟨#[]⟩,[]⟩ | none=>Si) :
    Calls Tryz.prog 59 #[.slice a L.length c] w fun e w'=>mZ w l e w':=by
 have hA:ZX w (w.alloc (.cells #[.int .i64 0,.slice none 0 0,.bool false,.string ⟨#[]⟩,.slice none 0 0] 43)):=ZJ.alloc ZT _;have BA:=Z3 hA;have X:=Z3 (St.new w #[.int .i64 0,.slice none 0 0,.bool false,.string ⟨#[]⟩,.slice none 0 0] 43);have HC:=Z3 (hop _ hA);have To:=Z3 hl;clear hop hl hA
 go_enter Tryz.func59,Tryz.ntmps59
 go_wp2_with fail
 refine HC.out.mono ?_;rintro e w3 ⟨H,ok,rfl,b3,hok,q⟩;have HQ:=Z3 (And.intro hok q);have s3:w.heap.size+1≤w3.heap.size:=ZF (by simp) b3.size;have bA:ZX w3 (w3.alloc (.cells #[.int .i64 H.kind,.string H.path,.string H.data,.int .i64 H.Zy,.bool H.seq] 159)):=ZJ.alloc ZT _;have u:=YV b3 bA
 replace X:=Z3 (X.out.below u)
 replace BA:=Z3 (YV BA.out u)
 have O3:=Z3 (vX (w3.alloc (.cells #[.int .i64 H.kind,.string H.path,.string H.data,.int .i64 H.Zy,.bool H.seq] 159)) (w.heap.size+1) (by simp;omega) H);rw [show (w3.alloc (.cells #[.int .i64 H.kind,.string H.path,.string H.data,.int .i64 H.Zy,.bool H.seq] 159)).heap.size=w3.heap.size+1 by simp] at O3;clear HC bA b3 u hok q;unfold Qx
 cases ok with
 | true =>
  have WG:Hid (l=⟨1,[H],false,⟨#[]⟩,[]⟩):=by
   show _=_;rw [To.out];obtain ⟨x,hx⟩:=Option.isSome_iff_exists.1 HQ.out.1.symm;rw [hx,HQ.out.2 x hx]
  replace X:=Z3 (X.out.below (ZJ.alloc ZT (.cells #[.int .i64 H.kind,.string H.path,.string H.data,.int .i64 H.Zy,.bool H.seq] 159)))
  replace BA:=Z3 (BA.out.alloc (by simp;omega) (.cells #[.int .i64 H.kind,.string H.path,.string H.data,.int .i64 H.Zy,.bool H.seq] 159))
  clear To HQ;have x0:=X.out.fz;have y0:=X.out.cl 0 _ rfl;have y1:=X.out.cl 1 _ rfl;have y2:=X.out.cl 2 _ rfl;have y3:=X.out.cl 3 _ rfl;have y4:=X.out.cl 4 _ rfl
  go_wp2_with fail
  obtain ⟨b9,x9,o9,n9⟩:=U4 BA.out X.out 1 false ⟨#[]⟩ (vo:=.slice (some ⟨w3.heap.size+1,0,none⟩) 1 1) (vn:=.slice none 0 0) (show VU _ _ _ _ [H] from O3.out) (show Own _ _ _ _ _ [] from Zl _ _ _ _);have d0:=x9.cl 0 _ rfl;have d1:=x9.cl 1 _ rfl;have d2:=x9.cl 2 _ rfl;have d3:=x9.cl 3 _ rfl;have d4:=x9.cl 4 _ rfl;exact ZS (v:=.agg #[.int .i64 1,.slice (some ⟨w3.heap.size+1,0,none⟩) 1 1,.bool false,.string ⟨#[]⟩,.slice none 0 0]) (by simp [results,Tryz.results59,go_sem,d0,d1,d2,d3,d4]) rfl (by rw [WG.out];exact ⟨_,_,rfl,o9,n9,b9⟩)
 | false =>
  have WG:Hid (l=Si):=by
   show _=_;rw [To.out]
   cases hx:TY L with
   | none=>rfl
   | some x=>have:=HQ.out.1;rw [hx] at this;cases this
  clear To HQ O3;have x0:=X.out.fz;have y0:=X.out.cl 0 _ rfl;have y1:=X.out.cl 1 _ rfl;have y2:=X.out.cl 2 _ rfl;have y3:=X.out.cl 3 _ rfl;have y4:=X.out.cl 4 _ rfl
  go_wp2_with fail
  obtain ⟨b9,x9,o9,n9⟩:=U4 BA.out X.out 0 false ⟨#[]⟩ (vo:=.slice none 0 0) (vn:=.slice none 0 0) (show VU _ _ _ _ [] from Zl _ _ _ _) (show Own _ _ _ _ _ [] from Zl _ _ _ _);have d0:=x9.cl 0 _ rfl;have d1:=x9.cl 1 _ rfl;have d2:=x9.cl 2 _ rfl;have d3:=x9.cl 3 _ rfl;have d4:=x9.cl 4 _ rfl;exact ZS (v:=.agg #[.int .i64 0,.slice none 0 0,.bool false,.string ⟨#[]⟩,.slice none 0 0]) (by simp [results,Tryz.results59,go_sem,d0,d1,d2,d3,d4]) rfl (by rw [WG.out];exact ⟨_,_,rfl,o9,n9,b9⟩)
theorem GJ (w:World) (ao:Option Addr) (cap:Nat):Calls Tryz.prog 101 #[.slice ao 0 cap] w fun e w'=>ME w [] e w':=by
 have bA:ZX w (w.alloc (.cells #[.int .i64 0,.string ⟨#[]⟩,.string ⟨#[]⟩,.int .i64 0,.bool false] 159)):=ZJ.alloc ZT _;have X:=St.new w #[.int .i64 0,.string ⟨#[]⟩,.string ⟨#[]⟩,.int .i64 0,.bool false] 159;have BA:=Z3 bA;have d0:=X.cl 0 _ rfl;have d1:=X.cl 1 _ rfl;have d2:=X.cl 2 _ rfl;have d3:=X.cl 3 _ rfl;have d4:=X.cl 4 _ rfl;clear bA
 go_enter Tryz.func101,Tryz.ntmps101
 go_wp2_with fail
 exact ZS (v:=.tuple #[Qx ⟨0,⟨#[]⟩,⟨#[]⟩,0,false⟩,.bool false]) (by simp [results,Tryz.results101,go_sem,Qx,d0,d1,d2,d3,d4]) rfl (ME.no (by rfl) BA.out)
theorem GI (w:World) (v:Value) (L:List ByteArray) (h:uz w v L) (hsz:m9 L) (hg:AR w m te pe) (hf:ux w):Calls Tryz.prog 101 #[v] w fun e w'=>ME w L e w':=by
 obtain ⟨ao,cap,rfl,h1,h2,h3⟩:=h
 by_cases h0:0<L.length
 · rcases h3 with h3 | ⟨b,o,rfl,hb,hc⟩
   · rw [h3] at h0;simp at h0
   exact GM w b o cap L h0 h1 h2 hsz hc hb hg hf
 have hn:L=[]:=TN (by omega);subst hn;exact GJ w ao cap
end Go.Proofs.YtpmjnbmkippaiaaGreatDoor


