import Derived.Test.YtpmjnbmkippaiaaGreatDoorJ15
import Derived.Lib.SplitLaws
set_option maxRecDepth 100000
set_option maxHeartbeats 16000000
set_option linter.unusedVariables false
set_option linter.unusedSimpArgs false
namespace Go.Proofs.YtpmjnbmkippaiaaGreatDoor
section
open Go.RowKit Go.Shelf
variable {s:ByteArray} {m:Int} {C:List (Nat × Value)} {L:List ByteArray} {S i j n:Nat} {P:Program} {κ:Sc} {e k t te:TypeId} {pe:Value} {W w w':World}
theorem jP (b:ByteArray):TU b=true↔b=⟨#[59]⟩:=by
 unfold TU;rw [L4]
 constructor
 · intro h
   rw [←M6 b,ZL.1 h];rfl
 rintro rfl;rfl
theorem y7 (L:List ByteArray):Lib.containsS L ⟨#[59]⟩=L.any TU:=by
 cases h:L.any TU with
 | true =>
  obtain ⟨x,hx,e⟩:=Td.1 h;rw [(jP x).1 e] at hx;exact (Lib.containsS_iff _ _).2 hx
 | false =>
  cases h2:Lib.containsS L ⟨#[59]⟩ with
  | false=>rfl
  | true=>exact absurd ((jP _).2 rfl) (List.any_eq_false.1 h _ ((Lib.containsS_iff _ _).1 h2))
theorem yZ (h:Tk (Yh L 0)=none):PT L=none:=by
 unfold Tk at h
 repeat' split at h
 all_goals first | (cases h;done) | skip
 rename_i h1 h2 h3 h4 h5;unfold PT JO JN;rw [Z1 h1,Z1 h2,Z1 h3,Z1 h5,Z1 h4]
 repeat' split
 all_goals rfl
theorem uF (ha:L.any TU=false) {k:Int} {s d v:Bool} (h:Tk (Yh L 0)=some (k,s,d,v)) :
    (d=true∧v=false∧PT L=if L.length=3 then some ⟨k,Yh L 1,NZ (Yh L 2),0,s⟩ else none) ∨
    (d=false∧v=true∧PT L=if L.length=3 then (SP (Yh L 2).data.toList).map (fun x=>⟨k,Yh L 1,⟨#[]⟩,x,s⟩) else none) ∨
    (d=true∧v=true∧PT L=if L.length=4 then (SP (Yh L 3).data.toList).map (fun x=>⟨k,Yh L 1,NZ (Yh L 2),x,s⟩) else none):=by
 have hop:PT L=if L.length=3 then JO (Yh L 0) (Yh L 1) (Yh L 2) else if L.length=4 then JN (Yh L 0) (Yh L 1) (Yh L 2) (Yh L 3) else none:=by
  unfold PT;rw [Z1 (by rw [ha];decide)]
 rw [hop];generalize Yh L 0=f0 at *;unfold Tk at h
 split at h
 · rename_i h1
   injection h with h;injection h with h0 h;injection h with h2 h;injection h with h3 h4
   subst h0 h2 h3 h4;refine .inl ⟨rfl,rfl,?_⟩;have e:=ZL.1 h1;unfold JO JN
   simp [e]
 split at h
 · rename_i h1
   injection h with h;injection h with h0 h;injection h with h2 h;injection h with h3 h4
   subst h0 h2 h3 h4;refine .inl ⟨rfl,rfl,?_⟩;have e:=ZL.1 h1;unfold JO JN
   simp [e]
 split at h
 · rename_i h1
   injection h with h;injection h with h0 h;injection h with h2 h;injection h with h3 h4
   subst h0 h2 h3 h4;refine .inr (.inl ⟨rfl,rfl,?_⟩);have e:=ZL.1 h1;unfold JO JN
   simp [e]
 split at h
 · rename_i h1
   injection h with h;injection h with h0 h;injection h with h2 h;injection h with h3 h4
   subst h0 h2 h3 h4;refine .inr (.inr ⟨rfl,rfl,?_⟩);have e:=ZL.1 h1;unfold JO JN
   simp [e]
   intro h9;omega
 split at h
 · rename_i h1
   injection h with h;injection h with h0 h;injection h with h2 h;injection h with h3 h4
   subst h0 h2 h3 h4;refine .inr (.inl ⟨rfl,rfl,?_⟩);have e:=ZL.1 h1;unfold JO JN
   simp [e]
 cases h
theorem EF (w:World) (b o cap:Nat) (L:List ByteArray) (hL:0<L.length) (pO:L.length≤cap) (hc:cap≤maxLen) (hsz:mR L) (hcl:∀i,i<L.length→w.cell? ⟨b,o+i,none⟩=some (.string (Yh L i))) (hb:b<w.heap.size) (hg:ze w m te pe) (hf:tp w) :
    Calls Tryz.prog 101 #[.slice (some ⟨b,o,none⟩) L.length cap] w fun e w'=>JM w L e w':=by
 unfold maxLen at hc;have bA:Zi w (w.alloc (.cells #[.int .i64 0,.string ⟨#[]⟩,.string ⟨#[]⟩,.int .i64 0,.bool false] 159)):=Yy.alloc YR _;have BA:=ZU bA;have X:=ZU (St.new w #[.int .i64 0,.string ⟨#[]⟩,.string ⟨#[]⟩,.int .i64 0,.bool false] 159);have Qs:Hid (∀i,i<L.length→(w.alloc (.cells #[.int .i64 0,.string ⟨#[]⟩,.string ⟨#[]⟩,.int .i64 0,.bool false] 159)).cell? ⟨b,o+i,none⟩=some (.string (Yh L i))):=fun i hi=>(bA.cell (p:=⟨b,o+i,none⟩) hb).trans (hcl i hi)
 have LW:=ZU hsz;have HG:=ZU (hg.later bA);have HF:=ZU (hf.later bA);have sB:w.heap.size+1=(w.alloc (.cells #[.int .i64 0,.string ⟨#[]⟩,.string ⟨#[]⟩,.int .i64 0,.bool false] 159)).heap.size:=by simp
 have hcs:=Tryz.slices_Contains_string b o L.length cap L ⟨#[59]⟩ (w.alloc (.cells #[.int .i64 0,.string ⟨#[]⟩,.string ⟨#[]⟩,.int .i64 0,.bool false] 159)) YR (by omega) Qs.out;rw [Xp,y7] at hcs;have HC:=ZU hcs;have H4:Hid (7<w.heap.size):=ZG w _ hg.es;have H3:Hid (1<w.heap.size):=ZG w _ hg.mx;have hn0:(((L.length:Nat):Int) == 0)=false:=VU (by omega);have hp0:(0:Int)<((L.length:Nat):Int):=by omega
 clear bA hcl hsz hcs hg hf
 cases hany:L.any TU with
 | true =>
  have ST:Hid (PT L=none):=by show _=_;unfold PT;rw [Z0 hany]
  rw [hany] at HC;clear hany Qs
  go_enter Tryz.func101,Tryz.ntmps101
  go_wp2_with fail
  refine HC.out.mono ?_;rintro e w2 ⟨rfl,hw2⟩;subst hw2;generalize w.alloc _=w1 at *;have x0:=X.out.fz;have y0:=X.out.cl 0 _ rfl;have y1:=X.out.cl 1 _ rfl;have y2:=X.out.cl 2 _ rfl;have y3:=X.out.cl 3 _ rfl;have y4:=X.out.cl 4 _ rfl
  go_wp2_with fail
  obtain ⟨b9,x9⟩:=QN BA.out X.out ⟨0,⟨#[]⟩,⟨#[]⟩,0,false⟩;have d0:=x9.cl 0 _ rfl;have d1:=x9.cl 1 _ rfl;have d2:=x9.cl 2 _ rfl;have d3:=x9.cl 3 _ rfl;have d4:=x9.cl 4 _ rfl;exact ZW (v:=.tuple #[MV ⟨0,⟨#[]⟩,⟨#[]⟩,0,false⟩,.bool false]) (by simp [results,Tryz.results101,go_sem,MV,d0,d1,d2,d3,d4]) rfl (JM.no ST.out b9)
 | false =>
  rw [hany] at HC;have ZP:=ZU hany;have c0:=Qs.out 0 hL;rw [Yj] at c0;have ZK:=ZU (CD _ (Yh L 0) HF.out);clear hany HF
  go_enter Tryz.func101,Tryz.ntmps101
  go_wp2_with fail
  refine HC.out.mono ?_;rintro e w2 ⟨rfl,hw2⟩;subst hw2;generalize w.alloc _=w1 at *
  go_wp2_with fail
  refine ZK.out.mono ?_;rintro e w2 ⟨b2,wd,k,s,d,v,known,rfl,hkn,hfr⟩;have s2:=b2.size;have bF:Zi w2 (w2.alloc (.cells #[.string wd,.int .i64 k,.bool s,.bool d,.bool v] 226)):=Yy.alloc YR _;have Z2:=WD b2 bF
  replace X:=ZU (X.out.below Z2)
  replace BA:=ZU (WD BA.out Z2)
  replace Qs:Hid (∀i,i<L.length→(w2.alloc (.cells #[.string wd,.int .i64 k,.bool s,.bool d,.bool v] 226)).cell? ⟨b,o+i,none⟩=some (.string (Yh L i))):=fun i hi=>(Z2.cell (p:=⟨b,o+i,none⟩) (by show b<_;omega)).trans (Qs.out i hi)
  replace HG:=ZU (HG.out.later Z2)
  have XF:=ZU (St.new w2 #[.string wd,.int .i64 k,.bool s,.bool d,.bool v] 226);have sF:w2.heap.size<(w2.alloc (.cells #[.string wd,.int .i64 k,.bool s,.bool d,.bool v] 226)).heap.size:=by simp
  clear Z2 bF ZK HC b2 c0
  cases known with
  | false =>
   have ST:Hid (PT L=none):=yZ (by cases hx:Tk (Yh L 0) with | none=>rfl | some x=>rw [hx] at hkn;cases hkn);clear hkn hfr;have x0:=X.out.fz;have y0:=X.out.cl 0 _ rfl;have y1:=X.out.cl 1 _ rfl;have y2:=X.out.cl 2 _ rfl;have y3:=X.out.cl 3 _ rfl;have y4:=X.out.cl 4 _ rfl
   go_wp2_with fail
   obtain ⟨b9,x9⟩:=QN BA.out X.out ⟨0,⟨#[]⟩,⟨#[]⟩,0,false⟩;have d0:=x9.cl 0 _ rfl;have d1:=x9.cl 1 _ rfl;have d2:=x9.cl 2 _ rfl;have d3:=x9.cl 3 _ rfl;have d4:=x9.cl 4 _ rfl;exact ZW (v:=.tuple #[MV ⟨0,⟨#[]⟩,⟨#[]⟩,0,false⟩,.bool false]) (by simp [results,Tryz.results101,go_sem,MV,d0,d1,d2,d3,d4]) rfl (JM.no ST.out b9)
  | true =>
   obtain ⟨⟨k9,s9,d9,v9⟩,hx⟩:=Option.isSome_iff_exists.1 hkn.symm;have hy:=hfr _ hx
   injection hy with q0 hy;injection hy with q1 hy;injection hy with q2 q3
   subst q0 q1 q2 q3;have Z':=ZU (uF ZP.out hx);clear hkn hfr hx ZP
   go_wp2_with fail
   generalize w2.alloc _=w3 at *;refine (Km _ wd k9 s9 d9 v9).mono ?_;rintro e w4 ⟨rfl,b4⟩;have s4:=b4.size
   replace X:=ZU (X.out.below b4)
   replace XF:=ZU (XF.out.below b4)
   replace BA:=ZU (WD BA.out b4)
   replace Qs:Hid (∀i,i<L.length→w4.cell? ⟨b,o+i,none⟩=some (.string (Yh L i))):=fun i hi=>(b4.cell (p:=⟨b,o+i,none⟩) (by show b<_;omega)).trans (Qs.out i hi)
   replace HG:=ZU (HG.out.later b4)
   clear b4;obtain ⟨c9,jO⟩:∃c9:Int,c9=2+(if d9=true then 1 else 0)+(if v9=true then 1 else 0):=⟨_,rfl⟩;rw [←jO];have B:=ZU jO;clear jO;have sA:w.heap.size+1≤w4.heap.size:=by omega
   by_cases hln:((L.length:Nat):Int)=c9
   case neg =>
    have hne:(((L.length:Nat):Int) != c9)=true:=by simpa using hln
    have ST:Hid (PT L=none):=by
     show _=_;have h9:=B.out
     rcases Z'.out with ⟨rfl,rfl,h⟩ | ⟨rfl,rfl,h⟩ | ⟨rfl,rfl,h⟩
     all_goals (simp at h9;rw [h,Z1 (by omega)])
    clear Z' B hln;have x0:=X.out.fz;have y0:=X.out.cl 0 _ rfl;have y1:=X.out.cl 1 _ rfl;have y2:=X.out.cl 2 _ rfl;have y3:=X.out.cl 3 _ rfl;have y4:=X.out.cl 4 _ rfl
    go_wp2_with fail
    obtain ⟨b9,x9⟩:=QN BA.out X.out ⟨0,⟨#[]⟩,⟨#[]⟩,0,false⟩;have d0:=x9.cl 0 _ rfl;have d1:=x9.cl 1 _ rfl;have d2:=x9.cl 2 _ rfl;have d3:=x9.cl 3 _ rfl;have d4:=x9.cl 4 _ rfl;exact ZW (v:=.tuple #[MV ⟨0,⟨#[]⟩,⟨#[]⟩,0,false⟩,.bool false]) (by simp [results,Tryz.results101,go_sem,MV,d0,d1,d2,d3,d4]) rfl (JM.no ST.out b9)
   case pos =>
    have hne:(((L.length:Nat):Int) != c9)=false:=by simp [hln]
    have hL3:3≤L.length:=by
     have h9:=B.out
     rcases Z'.out with ⟨rfl,rfl,h⟩ | ⟨rfl,rfl,h⟩ | ⟨rfl,rfl,h⟩
     all_goals (simp at h9;omega)
    have hp1:(1:Int)<((L.length:Nat):Int):=by omega
    have hp2:(2:Int)<((L.length:Nat):Int):=by omega
    have Pu:=ZU hln;clear hln
    go_wp2_with fail
    clear hne;have bD:Zi w4 w4.drew:=below_drewN' w4 1;refine ZX (S:=fun W=>W.cell? ⟨w2.heap.size,1,none⟩=some (.int .i64 k9)∧W.cell? ⟨w2.heap.size,2,none⟩=some (.bool s9)∧W.cell? ⟨b,o+1,none⟩=some (.string (Yh L 1))) (by kernel_rfl) ⟨(XF.out.below bD).cl 1 _ rfl,(XF.out.below bD).cl 2 _ rfl,(bD.cell (p:=⟨b,o+1,none⟩) (by show b<_;omega)).trans (Qs.out 1 (by omega))⟩ (fun Z9=>?_)
    replace X:=ZU (X.out.below bD)
    replace XF:=ZU (XF.out.below bD)
    replace BA:=ZU (WD BA.out bD)
    replace Qs:Hid (∀i,i<L.length→w4.drew.cell? ⟨b,o+i,none⟩=some (.string (Yh L i))):=fun i hi=>(bD.cell (p:=⟨b,o+i,none⟩) (by show b<_;omega)).trans (Qs.out i hi)
    replace HG:=ZU (HG.out.later bD)
    have s5:=bD.size;clear bD;generalize w4.drew=m0 at *
    iterate 8 (refine Zf ?_ (by kernel_rfl) (fun _=>id) Z9 ?_ ?_;rotate_left;· intro w9 ZQ;obtain ⟨k0,k1,k2⟩:=ZQ;go_simp;try with_reducible rfl)
    refine YS 8 rfl (by kernel_rfl) (fun K hK=>?_);go_simp;have ZZ:=XF.out.lt;have ZT:Zi m0 (m0.alloc (.cells #[.int .i64 0,.string ⟨#[]⟩,.string ⟨#[]⟩,.int .i64 0,.bool false] 159)):=Yy.alloc YR _;refine hK.out _ _ ⟨(ZT.cell (p:=⟨w2.heap.size,1,none⟩) ZZ).trans Z9.1,(ZT.cell (p:=⟨w2.heap.size,2,none⟩) ZZ).trans Z9.2.1,(ZT.cell (p:=⟨b,o+1,none⟩) (by show b<_;omega)).trans Z9.2.2⟩ (fun Ms=>?_);clear hK K ZT Ms;have bG:Zi m0 (m0.alloc (.cells #[.int .i64 k9,.string (Yh L 1),.string ⟨#[]⟩,.int .i64 0,.bool s9] 159)):=Yy.alloc YR _;refine YS 9 rfl (by kernel_rfl) (fun K hK=>?_);go_simp;refine hK.out _ _ ⟨(bG.cell (p:=⟨w2.heap.size,1,none⟩) ZZ).trans Z9.1,(bG.cell (p:=⟨w2.heap.size,2,none⟩) ZZ).trans Z9.2.1,(bG.cell (p:=⟨b,o+1,none⟩) (by show b<_;omega)).trans Z9.2.2⟩ (fun Ms=>?_);clear hK K Ms;refine ZR (by kernel_rfl) ?_ _
    try simp only [Act.put,WV,WU,WT]
    clear Z9;have N:=ZU (St.new m0 #[.int .i64 k9,.string (Yh L 1),.string ⟨#[]⟩,.int .i64 0,.bool s9] 159)
    replace X:=ZU (X.out.below bG)
    replace XF:=ZU (XF.out.below bG)
    replace BA:=ZU (WD BA.out bG)
    replace Qs:Hid (∀i,i<L.length→(m0.alloc (.cells #[.int .i64 k9,.string (Yh L 1),.string ⟨#[]⟩,.int .i64 0,.bool s9] 159)).cell? ⟨b,o+i,none⟩=some (.string (Yh L i))):=fun i hi=>(bG.cell (p:=⟨b,o+i,none⟩) (by show b<_;omega)).trans (Qs.out i hi)
    replace HG:=ZU (HG.out.later bG)
    have sG:=bG.size;clear bG ZZ;have sX:w.heap.size<m0.heap.size:=by omega
    have sY:w2.heap.size<m0.heap.size:=by omega
    have Zx:b<m0.heap.size:=by omega
    generalize m0.alloc _=m1 at *;have c2:=Qs.out 2 (by omega);have z3:=XF.out.cl 3 _ rfl;have z4:=XF.out.cl 4 _ rfl
    rcases Z'.out with ⟨rfl,rfl,hop⟩ | ⟨rfl,rfl,hop⟩ | ⟨rfl,rfl,hop⟩
    · have hl3:L.length=3:=by have h9:=B.out;have h8:=Pu.out;simp at h9;omega
      have ST:Hid (PT L=some ⟨k9,Yh L 1,NZ (Yh L 2),0,s9⟩):=hop.trans (Z0 hl3);clear hop hl3 Z' B Pu
      cases hd2:(Yh L 2).toList == [45] with
      | true =>
       have HD:Hid (NZ (Yh L 2)=⟨#[]⟩):=Z0 hd2;rw [HD.out] at ST;have xf:=X.out.fz;have x0:=X.out.cl 0 _ rfl;have x1:=X.out.cl 1 _ rfl;have x2:=X.out.cl 2 _ rfl;have x3:=X.out.cl 3 _ rfl;have x4:=X.out.cl 4 _ rfl;have gf:=N.out.fz;have g0:=N.out.cl 0 _ rfl;have g1:=N.out.cl 1 _ rfl;have g2:=N.out.cl 2 _ rfl;have g3:=N.out.cl 3 _ rfl;have g4:=N.out.cl 4 _ rfl
       go_wp2_with fail
       obtain ⟨b9,x9⟩:=QN BA.out X.out ⟨k9,Yh L 1,⟨#[]⟩,0,s9⟩;have d0:=x9.cl 0 _ rfl;have d1:=x9.cl 1 _ rfl;have d2:=x9.cl 2 _ rfl;have d3:=x9.cl 3 _ rfl;have d4:=x9.cl 4 _ rfl;exact ZW (v:=.tuple #[MV ⟨k9,Yh L 1,⟨#[]⟩,0,s9⟩,.bool true]) (by simp [results,Tryz.results101,go_sem,MV,d0,d1,d2,d3,d4]) rfl (JM.yes ST.out b9)
      | false =>
       have HD:Hid (NZ (Yh L 2)=Yh L 2):=Z1 (by rw [hd2];decide);rw [HD.out] at ST;have xf:=X.out.fz;have x0:=X.out.cl 0 _ rfl;have x1:=X.out.cl 1 _ rfl;have x2:=X.out.cl 2 _ rfl;have x3:=X.out.cl 3 _ rfl;have x4:=X.out.cl 4 _ rfl;have gf:=N.out.fz;have g0:=N.out.cl 0 _ rfl;have g1:=N.out.cl 1 _ rfl;have g2:=N.out.cl 2 _ rfl;have g3:=N.out.cl 3 _ rfl;have g4:=N.out.cl 4 _ rfl
       go_wp2_with fail
       have X9:=ZU (X.out.other (c:=m0.heap.size) (j:=2) (x:=.string (Yh L 2)) (by omega));have B9:=ZU (BA.out.setCell (p:=⟨m0.heap.size,2,none⟩) (by show _≤m0.heap.size;omega) (.string (Yh L 2)));obtain ⟨b9,x9⟩:=QN B9.out X9.out ⟨k9,Yh L 1,Yh L 2,0,s9⟩;have d0:=x9.cl 0 _ rfl;have d1:=x9.cl 1 _ rfl;have d2:=x9.cl 2 _ rfl;have d3:=x9.cl 3 _ rfl;have d4:=x9.cl 4 _ rfl;exact ZW (v:=.tuple #[MV ⟨k9,Yh L 1,Yh L 2,0,s9⟩,.bool true]) (by simp [results,Tryz.results101,go_sem,MV,d0,d1,d2,d3,d4]) rfl (JM.yes ST.out b9)
    · have hl3:L.length=3:=by have h9:=B.out;have h8:=Pu.out;simp at h9;omega
      have ST:Hid (PT L=(SP (Yh L 2).data.toList).map (fun x=>⟨k9,Yh L 1,⟨#[]⟩,x,s9⟩)):=hop.trans (Z0 hl3);have hsb:((L.length:Nat):Int) - 1=2:=by omega
      clear hop hl3 Z' B Pu
      go_wp2_with fail
      clear hsb z3 z4 c2;refine (Tg (Yh L 2) m1 (LW.out 2) HG.out).mono ?_;rintro e n2 ⟨vv,ok,rfl,b2,hok,hvv⟩
      replace X:=ZU (X.out.below b2)
      replace N:=ZU (N.out.below b2)
      replace BA:=ZU (WD BA.out b2)
      have sN:=b2.size;have HQ:=ZU (And.intro hok hvv);clear b2 hok hvv
      cases ok with
      | false =>
       have D:Hid (PT L=none):=by
        show _=_;rw [ST.out]
        cases hx:SP (Yh L 2).data.toList with
        | none=>rfl
        | some x=>have:=HQ.out.1;rw [hx] at this;cases this
       clear ST HQ;have xf:=X.out.fz;have x0:=X.out.cl 0 _ rfl;have x1:=X.out.cl 1 _ rfl;have x2:=X.out.cl 2 _ rfl;have x3:=X.out.cl 3 _ rfl;have x4:=X.out.cl 4 _ rfl
       go_wp2_with fail
       obtain ⟨b9,x9⟩:=QN BA.out X.out ⟨0,⟨#[]⟩,⟨#[]⟩,0,false⟩;have d0:=x9.cl 0 _ rfl;have d1:=x9.cl 1 _ rfl;have d2:=x9.cl 2 _ rfl;have d3:=x9.cl 3 _ rfl;have d4:=x9.cl 4 _ rfl;exact ZW (v:=.tuple #[MV ⟨0,⟨#[]⟩,⟨#[]⟩,0,false⟩,.bool false]) (by simp [results,Tryz.results101,go_sem,MV,d0,d1,d2,d3,d4]) rfl (JM.no D.out b9)
      | true =>
       have D:Hid (PT L=some ⟨k9,Yh L 1,⟨#[]⟩,vv,s9⟩):=by
        show _=_;rw [ST.out];obtain ⟨x,hx⟩:=Option.isSome_iff_exists.1 HQ.out.1.symm;rw [hx,HQ.out.2 x hx]
        rfl
       clear ST HQ;have xf:=X.out.fz;have x0:=X.out.cl 0 _ rfl;have x1:=X.out.cl 1 _ rfl;have x2:=X.out.cl 2 _ rfl;have x3:=X.out.cl 3 _ rfl;have x4:=X.out.cl 4 _ rfl;have gf:=N.out.fz;have g0:=N.out.cl 0 _ rfl;have g1:=N.out.cl 1 _ rfl;have g2:=N.out.cl 2 _ rfl;have g3:=N.out.cl 3 _ rfl;have g4:=N.out.cl 4 _ rfl
       go_wp2_with fail
       have X9:=ZU (X.out.other (c:=m0.heap.size) (j:=3) (x:=.int .i64 vv) (by omega));have B9:=ZU (BA.out.setCell (p:=⟨m0.heap.size,3,none⟩) (by show _≤m0.heap.size;omega) (.int .i64 vv));obtain ⟨b9,x9⟩:=QN B9.out X9.out ⟨k9,Yh L 1,⟨#[]⟩,vv,s9⟩;have d0:=x9.cl 0 _ rfl;have d1:=x9.cl 1 _ rfl;have d2:=x9.cl 2 _ rfl;have d3:=x9.cl 3 _ rfl;have d4:=x9.cl 4 _ rfl;exact ZW (v:=.tuple #[MV ⟨k9,Yh L 1,⟨#[]⟩,vv,s9⟩,.bool true]) (by simp [results,Tryz.results101,go_sem,MV,d0,d1,d2,d3,d4]) rfl (JM.yes D.out b9)
    have hl3:L.length=4:=by have h9:=B.out;have h8:=Pu.out;simp at h9;omega
    have ST:Hid (PT L=(SP (Yh L 3).data.toList).map (fun x=>⟨k9,Yh L 1,NZ (Yh L 2),x,s9⟩)):=hop.trans (Z0 hl3);have hsb:((L.length:Nat):Int) - 1=3:=by omega
    have hp3:(3:Int)<((L.length:Nat):Int):=by omega
    have c3:=Qs.out 3 (by omega);clear hop hl3 Z' B Pu
    cases hd2:(Yh L 2).toList == [45] with
    | true =>
     have HD:Hid (NZ (Yh L 2)=⟨#[]⟩):=Z0 hd2;rw [HD.out] at ST
     go_wp2_with fail
     clear hsb z3 z4 c2 c3;refine (Tg (Yh L 3) m1 (LW.out 3) HG.out).mono ?_;rintro e n2 ⟨vv,ok,rfl,b2,hok,hvv⟩
     replace X:=ZU (X.out.below b2)
     replace N:=ZU (N.out.below b2)
     replace BA:=ZU (WD BA.out b2)
     have sN:=b2.size;have HQ:=ZU (And.intro hok hvv);clear b2 hok hvv
     cases ok with
     | false =>
      have D:Hid (PT L=none):=by
       show _=_;rw [ST.out]
       cases hx:SP (Yh L 3).data.toList with
       | none=>rfl
       | some x=>have:=HQ.out.1;rw [hx] at this;cases this
      clear ST HQ;have xf:=X.out.fz;have x0:=X.out.cl 0 _ rfl;have x1:=X.out.cl 1 _ rfl;have x2:=X.out.cl 2 _ rfl;have x3:=X.out.cl 3 _ rfl;have x4:=X.out.cl 4 _ rfl
      go_wp2_with fail
      obtain ⟨b9,x9⟩:=QN BA.out X.out ⟨0,⟨#[]⟩,⟨#[]⟩,0,false⟩;have d0:=x9.cl 0 _ rfl;have d1:=x9.cl 1 _ rfl;have d2:=x9.cl 2 _ rfl;have d3:=x9.cl 3 _ rfl;have d4:=x9.cl 4 _ rfl;exact ZW (v:=.tuple #[MV ⟨0,⟨#[]⟩,⟨#[]⟩,0,false⟩,.bool false]) (by simp [results,Tryz.results101,go_sem,MV,d0,d1,d2,d3,d4]) rfl (JM.no D.out b9)
     | true =>
      have D:Hid (PT L=some ⟨k9,Yh L 1,⟨#[]⟩,vv,s9⟩):=by
       show _=_;rw [ST.out];obtain ⟨x,hx⟩:=Option.isSome_iff_exists.1 HQ.out.1.symm;rw [hx,HQ.out.2 x hx]
       rfl
      clear ST HQ;have xf:=X.out.fz;have x0:=X.out.cl 0 _ rfl;have x1:=X.out.cl 1 _ rfl;have x2:=X.out.cl 2 _ rfl;have x3:=X.out.cl 3 _ rfl;have x4:=X.out.cl 4 _ rfl;have gf:=N.out.fz;have g0:=N.out.cl 0 _ rfl;have g1:=N.out.cl 1 _ rfl;have g2:=N.out.cl 2 _ rfl;have g3:=N.out.cl 3 _ rfl;have g4:=N.out.cl 4 _ rfl
      go_wp2_with fail
      have X9:=ZU (X.out.other (c:=m0.heap.size) (j:=3) (x:=.int .i64 vv) (by omega));have B9:=ZU (BA.out.setCell (p:=⟨m0.heap.size,3,none⟩) (by show _≤m0.heap.size;omega) (.int .i64 vv));obtain ⟨b9,x9⟩:=QN B9.out X9.out ⟨k9,Yh L 1,⟨#[]⟩,vv,s9⟩;have d0:=x9.cl 0 _ rfl;have d1:=x9.cl 1 _ rfl;have d2:=x9.cl 2 _ rfl;have d3:=x9.cl 3 _ rfl;have d4:=x9.cl 4 _ rfl;exact ZW (v:=.tuple #[MV ⟨k9,Yh L 1,⟨#[]⟩,vv,s9⟩,.bool true]) (by simp [results,Tryz.results101,go_sem,MV,d0,d1,d2,d3,d4]) rfl (JM.yes D.out b9)
    | false =>
     have HD:Hid (NZ (Yh L 2)=Yh L 2):=Z1 (by rw [hd2];decide);rw [HD.out] at ST;have gf:=N.out.fz;have g0:=N.out.cl 0 _ rfl;have g1:=N.out.cl 1 _ rfl;have g2:=N.out.cl 2 _ rfl;have g3:=N.out.cl 3 _ rfl;have g4:=N.out.cl 4 _ rfl;have ZC:(m1.setCell ⟨m0.heap.size,2,none⟩ (.string (Yh L 2))).cell? ⟨b,o+3,none⟩=some (.string (Yh L 3)):=(ZV _ _ _ _ (by intro e9;injection e9 with e1 e2;omega)).trans c3;have ZB:=(XF.out.other (c:=m0.heap.size) (j:=2) (x:=.string (Yh L 2)) (by omega)).cl 4 _ rfl
     go_wp2_with fail
     have hm2:Below m0.heap.size m1 (m1.setCell ⟨m0.heap.size,2,none⟩ (.string (Yh L 2))):=Yy.setCell (p:=⟨m0.heap.size,2,none⟩) YR _
     replace X:=ZU (X.out.other (c:=m0.heap.size) (j:=2) (x:=.string (Yh L 2)) (by omega))
     replace N:=ZU (N.out.set 2 (.string (Yh L 2)))
     replace BA:=ZU (BA.out.setCell (p:=⟨m0.heap.size,2,none⟩) (by show _≤m0.heap.size;omega) (.string (Yh L 2)))
     replace HG:Hid (ze (m1.setCell ⟨m0.heap.size,2,none⟩ (.string (Yh L 2))) m te pe):=⟨(hm2.cell (p:=⟨1,0,none⟩) (by show 1<m0.heap.size;exact ZY H3.out (by omega))).trans HG.out.mx,(hm2.cell (p:=⟨7,0,none⟩) (by show 7<m0.heap.size;exact ZY H4.out (by omega))).trans HG.out.es⟩
     clear hsb z3 z4 c2 c3 ZC ZB gf g0 g1 g2 g3 g4 hm2;generalize m1.setCell _ _=m2 at *;refine (Tg (Yh L 3) m2 (LW.out 3) HG.out).mono ?_;rintro e n2 ⟨vv,ok,rfl,b2,hok,hvv⟩
     replace X:=ZU (X.out.below b2)
     replace N:=ZU (N.out.below b2)
     replace BA:=ZU (WD BA.out b2)
     have sN:=b2.size;have HQ:=ZU (And.intro hok hvv);clear b2 hok hvv
     cases ok with
     | false =>
      have D:Hid (PT L=none):=by
       show _=_;rw [ST.out]
       cases hx:SP (Yh L 3).data.toList with
       | none=>rfl
       | some x=>have:=HQ.out.1;rw [hx] at this;cases this
      clear ST HQ;have xf:=X.out.fz;have x0:=X.out.cl 0 _ rfl;have x1:=X.out.cl 1 _ rfl;have x2:=X.out.cl 2 _ rfl;have x3:=X.out.cl 3 _ rfl;have x4:=X.out.cl 4 _ rfl
      go_wp2_with fail
      obtain ⟨b9,x9⟩:=QN BA.out X.out ⟨0,⟨#[]⟩,⟨#[]⟩,0,false⟩;have d0:=x9.cl 0 _ rfl;have d1:=x9.cl 1 _ rfl;have d2:=x9.cl 2 _ rfl;have d3:=x9.cl 3 _ rfl;have d4:=x9.cl 4 _ rfl;exact ZW (v:=.tuple #[MV ⟨0,⟨#[]⟩,⟨#[]⟩,0,false⟩,.bool false]) (by simp [results,Tryz.results101,go_sem,MV,d0,d1,d2,d3,d4]) rfl (JM.no D.out b9)
     | true =>
      have D:Hid (PT L=some ⟨k9,Yh L 1,Yh L 2,vv,s9⟩):=by
       show _=_;rw [ST.out];obtain ⟨x,hx⟩:=Option.isSome_iff_exists.1 HQ.out.1.symm;rw [hx,HQ.out.2 x hx]
       rfl
      clear ST HQ;have xf:=X.out.fz;have x0:=X.out.cl 0 _ rfl;have x1:=X.out.cl 1 _ rfl;have x2:=X.out.cl 2 _ rfl;have x3:=X.out.cl 3 _ rfl;have x4:=X.out.cl 4 _ rfl;have gf:=N.out.fz;have g0:=N.out.cl 0 _ rfl;have g1:=N.out.cl 1 _ rfl;have g2:=N.out.cl 2 _ rfl;have g3:=N.out.cl 3 _ rfl;have g4:=N.out.cl 4 _ rfl
      go_wp2_with fail
      have X9:=ZU (X.out.other (c:=m0.heap.size) (j:=3) (x:=.int .i64 vv) (by omega));have B9:=ZU (BA.out.setCell (p:=⟨m0.heap.size,3,none⟩) (by show _≤m0.heap.size;omega) (.int .i64 vv));obtain ⟨b9,x9⟩:=QN B9.out X9.out ⟨k9,Yh L 1,Yh L 2,vv,s9⟩;have d0:=x9.cl 0 _ rfl;have d1:=x9.cl 1 _ rfl;have d2:=x9.cl 2 _ rfl;have d3:=x9.cl 3 _ rfl;have d4:=x9.cl 4 _ rfl;exact ZW (v:=.tuple #[MV ⟨k9,Yh L 1,Yh L 2,vv,s9⟩,.bool true]) (by simp [results,Tryz.results101,go_sem,MV,d0,d1,d2,d3,d4]) rfl (JM.yes D.out b9)
theorem IX (w:World) (a:Option Addr) (n c kb:Nat) (k:Int) (hk:w.cell? ⟨kb,0,none⟩=some (.int .i64 k)) (hb:kb<w.heap.size) (l:Ln) (hl:l=if n=1 then ⟨k,[],false,⟨#[]⟩,[]⟩ else Oo):Calls Tryz.prog 103 #[.slice a n c,.pointer (some ⟨kb,0,none⟩)] w fun e w'=>mP w (l) e w':=by
 have hA:Zi w (w.alloc (.cells #[.int .i64 0,.slice none 0 0,.bool false,.string ⟨#[]⟩,.slice none 0 0] 43)):=Yy.alloc YR _;have BA:=ZU hA;have X:=ZU (St.new w #[.int .i64 0,.slice none 0 0,.bool false,.string ⟨#[]⟩,.slice none 0 0] 43)
 by_cases h1:n=1
 · have xF:(((n:Nat):Int) != 1)=false:=by simp [h1]
   have HR:Hid (l=⟨k,[],false,⟨#[]⟩,[]⟩):=hl.trans (Z0 h1);clear h1 hA hl
   go_enter Tryz.func103,Tryz.ntmps103
   go_wp2_with fail
   have B9:Zi w (w.alloc (.cells #[.int .i64 k,.slice none 0 0,.bool false,.string ⟨#[]⟩,.slice none 0 0] 43)):=Yy.alloc YR _;have X9:=St.new w #[.int .i64 k,.slice none 0 0,.bool false,.string ⟨#[]⟩,.slice none 0 0] 43;have d0:=X9.cl 0 _ rfl;have d1:=X9.cl 1 _ rfl;have d2:=X9.cl 2 _ rfl;have d3:=X9.cl 3 _ rfl;have d4:=X9.cl 4 _ rfl;exact ZW (v:=.agg #[.int .i64 k,.slice none 0 0,.bool false,.string ⟨#[]⟩,.slice none 0 0]) (by simp [results,Tryz.results103,go_sem,d0,d1,d2,d3,d4]) rfl (by rw [HR.out];exact ⟨_,_,rfl,ZH _ _ _ _,ZH _ _ _ _,B9⟩)
 have xF:(((n:Nat):Int) != 1)=true:=by simp;omega
 have HR:Hid (l=Oo):=hl.trans (Z1 h1);clear h1 hA hl
 go_enter Tryz.func103,Tryz.ntmps103
 go_wp2_with fail
 have d0:=X.out.cl 0 _ rfl;have d1:=X.out.cl 1 _ rfl;have d2:=X.out.cl 2 _ rfl;have d3:=X.out.cl 3 _ rfl;have d4:=X.out.cl 4 _ rfl;exact ZW (v:=.agg #[.int .i64 0,.slice none 0 0,.bool false,.string ⟨#[]⟩,.slice none 0 0]) (by simp [results,Tryz.results103,go_sem,d0,d1,d2,d3,d4]) rfl (by rw [HR.out];exact ⟨_,_,rfl,ZH _ _ _ _,ZH _ _ _ _,BA.out⟩)
def M4 (k:Int) (L:List ByteArray) (ok:List Int→Bool):Ln :=
 match U8 L with
 | none=>Oo
 | some ns=>if L.length≤2000∧ok ns=true then ⟨k,[],false,⟨#[]⟩,ns⟩ else Oo
theorem Hh (w:World) (g c kb fb:Nat) (L:List ByteArray) (k:Int) (hk:w.cell? ⟨kb,0,none⟩=some (.int .i64 k)) (hf:w.cell? ⟨fb,0,none⟩=some (.func (.func 64) #[] #[])) (hL:0<L.length) (hL1:L.length≤1048577) (pO:L.length≤c) (hcm:c≤maxLen) (hR:tr w (.slice (some ⟨g,0,none⟩) L.length c) L) (hsz:mR L) (hg:ze w m te pe) (l:Ln) (hl:l=M4 k (L.drop 1) (fun ns=>So ns)) :
    Calls Tryz.prog 105 #[.slice (some ⟨g,0,none⟩) L.length c,.pointer (some ⟨fb,0,none⟩),.pointer (some ⟨kb,0,none⟩)] w fun e w'=>mP w l e w':=by
 have hA:Zi w (w.alloc (.cells #[.int .i64 0,.slice none 0 0,.bool false,.string ⟨#[]⟩,.slice none 0 0] 43)):=Yy.alloc YR _;have BA:=ZU hA;have X:=ZU (St.new w #[.int .i64 0,.slice none 0 0,.bool false,.string ⟨#[]⟩,.slice none 0 0] 43);have hkl:kb<(w.alloc (.cells #[.int .i64 0,.slice none 0 0,.bool false,.string ⟨#[]⟩,.slice none 0 0] 43)).heap.size:=ZY (ZG w _ hk) hA.size;have hfl:fb<(w.alloc (.cells #[.int .i64 0,.slice none 0 0,.bool false,.string ⟨#[]⟩,.slice none 0 0] 43)).heap.size:=ZY (ZG w _ hf) hA.size;have hkz:=(hA.cell (p:=⟨kb,0,none⟩) (ZG w _ hk)).trans hk;have hfz:=(hA.cell (p:=⟨fb,0,none⟩) (ZG w _ hf)).trans hf;have RL:=hR.below hA;have RD:tr (w.alloc (.cells #[.int .i64 0,.slice none 0 0,.bool false,.string ⟨#[]⟩,.slice none 0 0] 43)) (if c=1 then .slice (some ⟨g,0,none⟩) (L.length - 1) (c - 1) else .slice (some ⟨g,0+1,none⟩) (L.length - 1) (c - 1)) (L.drop 1):=by
  have h9:=qL RL 1 (L.length - 1) (by omega);rw [Y8 (by rw [ZS];exact YR)] at h9
  by_cases hc:c=1
  · rw [Z0 hc]
    have hz:L.drop 1=[]:=XS (by omega);rw [hz,show L.length - 1=0 by omega];exact ⟨_,_,rfl,Zu _,by omega,.inl rfl⟩
  rw [Z1 hc];exact h9
 have HC:=ZU (Mu (w.alloc (.cells #[.int .i64 0,.slice none 0 0,.bool false,.string ⟨#[]⟩,.slice none 0 0] 43)) _ (L.drop 1) RD (by rw [ZS];omega) (fun i=>by rw [EH];exact hsz _) (hg.later hA));have Pu:=ZU hl;unfold maxLen at hcm;clear RD RL hR hsz hg hA hl hk hf;generalize L.drop 1=L' at *
 go_enter Tryz.func105,Tryz.ntmps105
 by_cases hc:c=1
 · rw [Z0 hc,show L.length - 1=0 by omega,show c - 1=0 by omega] at HC
   have ZI:L.length=1:=by omega
   go_wp2_with fail
   clear hc ZI;refine HC.out.mono ?_;rintro e w2 ⟨vn,ns,gd,rfl,n2,b2,hgd,hns⟩;obtain ⟨an,cn,rfl,-⟩:=P1 n2;have u:=ZU (On w2 _ (.slice an ns.length cn) ns n2)
   replace X:=ZU (X.out.below b2)
   replace BA:=ZU (BA.out.trans (b2.mono (by simp)))
   replace hkz:=(b2.cell (p:=⟨kb,0,none⟩) hkl).trans hkz
   replace hfz:=(b2.cell (p:=⟨fb,0,none⟩) hfl).trans hfz
   have N2:=ZU (RO n2 (lo':=w.heap.size+1) (by simp));have HQ:=ZU (And.intro hgd hns);clear HC n2 b2 hgd hns hkl hfl
   cases gd with
   | false =>
    have ST:Hid (l=Oo):=by
     show _=_;rw [Pu.out];unfold M4
     cases hx:U8 L' with
     | none=>rfl
     | some x=>have:=HQ.out.1;rw [hx] at this;cases this
    clear Pu HQ u;have x0:=X.out.fz;have y0:=X.out.cl 0 _ rfl;have y1:=X.out.cl 1 _ rfl;have y2:=X.out.cl 2 _ rfl;have y3:=X.out.cl 3 _ rfl;have y4:=X.out.cl 4 _ rfl
    go_wp2_with fail
    obtain ⟨b9,x9,o9,n9⟩:=QM BA.out X.out 0 false ⟨#[]⟩ (vo:=.slice none 0 0) (vn:=.slice none 0 0) (show RP _ _ _ _ [] from ZH _ _ _ _) (show Own _ _ _ _ _ [] from ZH _ _ _ _);have d0:=x9.cl 0 _ rfl;have d1:=x9.cl 1 _ rfl;have d2:=x9.cl 2 _ rfl;have d3:=x9.cl 3 _ rfl;have d4:=x9.cl 4 _ rfl;exact ZW (v:=.agg #[.int .i64 0,.slice none 0 0,.bool false,.string ⟨#[]⟩,.slice none 0 0]) (by simp [results,Tryz.results105,go_sem,d0,d1,d2,d3,d4]) rfl (by rw [ST.out];exact ⟨_,_,rfl,o9,n9,b9⟩)
   | true =>
    obtain ⟨x,hx⟩:=Option.isSome_iff_exists.1 HQ.out.1.symm;have hnx:=HQ.out.2 x hx;subst hnx;have hln:=My hx
    by_cases hbig:2000<ns.length
    · have oR:(2000:Int)<((ns.length:Nat):Int):=by omega
      have ST:Hid (l=Oo):=by
       show _=_;rw [Pu.out];unfold M4;rw [hx];show (if _ then _ else _)=_;rw [Z1 (fun h=>by omega)]
      clear Pu HQ u hx hln;have x0:=X.out.fz;have y0:=X.out.cl 0 _ rfl;have y1:=X.out.cl 1 _ rfl;have y2:=X.out.cl 2 _ rfl;have y3:=X.out.cl 3 _ rfl;have y4:=X.out.cl 4 _ rfl
      go_wp2_with fail
      obtain ⟨b9,x9,o9,n9⟩:=QM BA.out X.out 0 false ⟨#[]⟩ (vo:=.slice none 0 0) (vn:=.slice none 0 0) (show RP _ _ _ _ [] from ZH _ _ _ _) (show Own _ _ _ _ _ [] from ZH _ _ _ _);have d0:=x9.cl 0 _ rfl;have d1:=x9.cl 1 _ rfl;have d2:=x9.cl 2 _ rfl;have d3:=x9.cl 3 _ rfl;have d4:=x9.cl 4 _ rfl;exact ZW (v:=.agg #[.int .i64 0,.slice none 0 0,.bool false,.string ⟨#[]⟩,.slice none 0 0]) (by simp [results,Tryz.results105,go_sem,d0,d1,d2,d3,d4]) rfl (by rw [ST.out];exact ⟨_,_,rfl,o9,n9,b9⟩)
    have oR:¬(2000:Int)<((ns.length:Nat):Int):=by omega
    have F:Hid (l=if So ns=true then ⟨k,[],false,⟨#[]⟩,ns⟩ else Oo):=by
     show _=_;rw [Pu.out];unfold M4;rw [hx];show (if _ then _ else _)=_
     by_cases h9:So ns=true
     · rw [Z0 ⟨by omega,h9⟩,Z0 h9]
     rw [Z1 (fun h=>h9 h.2),Z1 h9]
    clear Pu HQ hx hln
    cases hok:(So ns:Bool) with
    | false =>
     have ST:Hid (l=Oo):=by show _=_;rw [F.out,Z1 (by rw [hok];decide)]
     clear F
     go_wp2_with fail
     refine u.out.mono ?_;rintro e w9 ⟨rfl,zP⟩;subst zP;rw [hok];have x0:=X.out.fz;have y0:=X.out.cl 0 _ rfl;have y1:=X.out.cl 1 _ rfl;have y2:=X.out.cl 2 _ rfl;have y3:=X.out.cl 3 _ rfl;have y4:=X.out.cl 4 _ rfl
     go_wp2_with fail
     obtain ⟨b9,x9,o9,n9⟩:=QM BA.out X.out 0 false ⟨#[]⟩ (vo:=.slice none 0 0) (vn:=.slice none 0 0) (show RP _ _ _ _ [] from ZH _ _ _ _) (show Own _ _ _ _ _ [] from ZH _ _ _ _);have d0:=x9.cl 0 _ rfl;have d1:=x9.cl 1 _ rfl;have d2:=x9.cl 2 _ rfl;have d3:=x9.cl 3 _ rfl;have d4:=x9.cl 4 _ rfl;exact ZW (v:=.agg #[.int .i64 0,.slice none 0 0,.bool false,.string ⟨#[]⟩,.slice none 0 0]) (by simp [results,Tryz.results105,go_sem,d0,d1,d2,d3,d4]) rfl (by rw [ST.out];exact ⟨_,_,rfl,o9,n9,b9⟩)
    | true =>
     have ST:Hid (l=⟨k,[],false,⟨#[]⟩,ns⟩):=by show _=_;rw [F.out,Z0 hok]
     clear F
     go_wp2_with fail
     refine u.out.mono ?_;rintro e w9 ⟨rfl,zP⟩;subst zP;rw [hok];have x0:=X.out.fz;have y0:=X.out.cl 0 _ rfl;have y1:=X.out.cl 1 _ rfl;have y2:=X.out.cl 2 _ rfl;have y3:=X.out.cl 3 _ rfl;have y4:=X.out.cl 4 _ rfl
     go_wp2_with fail
     obtain ⟨b9,x9,o9,n9⟩:=QM BA.out X.out k false ⟨#[]⟩ (vo:=.slice none 0 0) (vn:=.slice an ns.length cn) (show RP _ _ _ _ [] from ZH _ _ _ _) (N2.out);have d0:=x9.cl 0 _ rfl;have d1:=x9.cl 1 _ rfl;have d2:=x9.cl 2 _ rfl;have d3:=x9.cl 3 _ rfl;have d4:=x9.cl 4 _ rfl;exact ZW (v:=.agg #[.int .i64 k,.slice none 0 0,.bool false,.string ⟨#[]⟩,.slice an ns.length cn]) (by simp [results,Tryz.results105,go_sem,d0,d1,d2,d3,d4]) rfl (by rw [ST.out];exact ⟨_,_,rfl,o9,n9,b9⟩)
 rw [Z1 hc] at HC
 go_wp2_with fail
 refine HC.out.mono ?_;rintro e w2 ⟨vn,ns,gd,rfl,n2,b2,hgd,hns⟩;obtain ⟨an,cn,rfl,-⟩:=P1 n2;have u:=ZU (On w2 _ (.slice an ns.length cn) ns n2)
 replace X:=ZU (X.out.below b2)
 replace BA:=ZU (BA.out.trans (b2.mono (by simp)))
 replace hkz:=(b2.cell (p:=⟨kb,0,none⟩) hkl).trans hkz
 replace hfz:=(b2.cell (p:=⟨fb,0,none⟩) hfl).trans hfz
 have N2:=ZU (RO n2 (lo':=w.heap.size+1) (by simp));have HQ:=ZU (And.intro hgd hns);clear HC n2 b2 hgd hns hkl hfl
 cases gd with
 | false =>
  have ST:Hid (l=Oo):=by
   show _=_;rw [Pu.out];unfold M4
   cases hx:U8 L' with
   | none=>rfl
   | some x=>have:=HQ.out.1;rw [hx] at this;cases this
  clear Pu HQ u;have x0:=X.out.fz;have y0:=X.out.cl 0 _ rfl;have y1:=X.out.cl 1 _ rfl;have y2:=X.out.cl 2 _ rfl;have y3:=X.out.cl 3 _ rfl;have y4:=X.out.cl 4 _ rfl
  go_wp2_with fail
  obtain ⟨b9,x9,o9,n9⟩:=QM BA.out X.out 0 false ⟨#[]⟩ (vo:=.slice none 0 0) (vn:=.slice none 0 0) (show RP _ _ _ _ [] from ZH _ _ _ _) (show Own _ _ _ _ _ [] from ZH _ _ _ _);have d0:=x9.cl 0 _ rfl;have d1:=x9.cl 1 _ rfl;have d2:=x9.cl 2 _ rfl;have d3:=x9.cl 3 _ rfl;have d4:=x9.cl 4 _ rfl;exact ZW (v:=.agg #[.int .i64 0,.slice none 0 0,.bool false,.string ⟨#[]⟩,.slice none 0 0]) (by simp [results,Tryz.results105,go_sem,d0,d1,d2,d3,d4]) rfl (by rw [ST.out];exact ⟨_,_,rfl,o9,n9,b9⟩)
 | true =>
  obtain ⟨x,hx⟩:=Option.isSome_iff_exists.1 HQ.out.1.symm;have hnx:=HQ.out.2 x hx;subst hnx;have hln:=My hx
  by_cases hbig:2000<ns.length
  · have oR:(2000:Int)<((ns.length:Nat):Int):=by omega
    have ST:Hid (l=Oo):=by
     show _=_;rw [Pu.out];unfold M4;rw [hx];show (if _ then _ else _)=_;rw [Z1 (fun h=>by omega)]
    clear Pu HQ u hx hln;have x0:=X.out.fz;have y0:=X.out.cl 0 _ rfl;have y1:=X.out.cl 1 _ rfl;have y2:=X.out.cl 2 _ rfl;have y3:=X.out.cl 3 _ rfl;have y4:=X.out.cl 4 _ rfl
    go_wp2_with fail
    obtain ⟨b9,x9,o9,n9⟩:=QM BA.out X.out 0 false ⟨#[]⟩ (vo:=.slice none 0 0) (vn:=.slice none 0 0) (show RP _ _ _ _ [] from ZH _ _ _ _) (show Own _ _ _ _ _ [] from ZH _ _ _ _);have d0:=x9.cl 0 _ rfl;have d1:=x9.cl 1 _ rfl;have d2:=x9.cl 2 _ rfl;have d3:=x9.cl 3 _ rfl;have d4:=x9.cl 4 _ rfl;exact ZW (v:=.agg #[.int .i64 0,.slice none 0 0,.bool false,.string ⟨#[]⟩,.slice none 0 0]) (by simp [results,Tryz.results105,go_sem,d0,d1,d2,d3,d4]) rfl (by rw [ST.out];exact ⟨_,_,rfl,o9,n9,b9⟩)
  have oR:¬(2000:Int)<((ns.length:Nat):Int):=by omega
  have F:Hid (l=if So ns=true then ⟨k,[],false,⟨#[]⟩,ns⟩ else Oo):=by
   show _=_;rw [Pu.out];unfold M4;rw [hx];show (if _ then _ else _)=_
   by_cases h9:So ns=true
   · rw [Z0 ⟨by omega,h9⟩,Z0 h9]
   rw [Z1 (fun h=>h9 h.2),Z1 h9]
  clear Pu HQ hx hln
  cases hok:(So ns:Bool) with
  | false =>
   have ST:Hid (l=Oo):=by show _=_;rw [F.out,Z1 (by rw [hok];decide)]
   clear F
   go_wp2_with fail
   refine u.out.mono ?_;rintro e w9 ⟨rfl,zP⟩;subst zP;rw [hok];have x0:=X.out.fz;have y0:=X.out.cl 0 _ rfl;have y1:=X.out.cl 1 _ rfl;have y2:=X.out.cl 2 _ rfl;have y3:=X.out.cl 3 _ rfl;have y4:=X.out.cl 4 _ rfl
   go_wp2_with fail
   obtain ⟨b9,x9,o9,n9⟩:=QM BA.out X.out 0 false ⟨#[]⟩ (vo:=.slice none 0 0) (vn:=.slice none 0 0) (show RP _ _ _ _ [] from ZH _ _ _ _) (show Own _ _ _ _ _ [] from ZH _ _ _ _);have d0:=x9.cl 0 _ rfl;have d1:=x9.cl 1 _ rfl;have d2:=x9.cl 2 _ rfl;have d3:=x9.cl 3 _ rfl;have d4:=x9.cl 4 _ rfl;exact ZW (v:=.agg #[.int .i64 0,.slice none 0 0,.bool false,.string ⟨#[]⟩,.slice none 0 0]) (by simp [results,Tryz.results105,go_sem,d0,d1,d2,d3,d4]) rfl (by rw [ST.out];exact ⟨_,_,rfl,o9,n9,b9⟩)
  | true =>
   have ST:Hid (l=⟨k,[],false,⟨#[]⟩,ns⟩):=by show _=_;rw [F.out,Z0 hok]
   clear F
   go_wp2_with fail
   refine u.out.mono ?_;rintro e w9 ⟨rfl,zP⟩;subst zP;rw [hok];have x0:=X.out.fz;have y0:=X.out.cl 0 _ rfl;have y1:=X.out.cl 1 _ rfl;have y2:=X.out.cl 2 _ rfl;have y3:=X.out.cl 3 _ rfl;have y4:=X.out.cl 4 _ rfl
   go_wp2_with fail
   obtain ⟨b9,x9,o9,n9⟩:=QM BA.out X.out k false ⟨#[]⟩ (vo:=.slice none 0 0) (vn:=.slice an ns.length cn) (show RP _ _ _ _ [] from ZH _ _ _ _) (N2.out);have d0:=x9.cl 0 _ rfl;have d1:=x9.cl 1 _ rfl;have d2:=x9.cl 2 _ rfl;have d3:=x9.cl 3 _ rfl;have d4:=x9.cl 4 _ rfl;exact ZW (v:=.agg #[.int .i64 k,.slice none 0 0,.bool false,.string ⟨#[]⟩,.slice an ns.length cn]) (by simp [results,Tryz.results105,go_sem,d0,d1,d2,d3,d4]) rfl (by rw [ST.out];exact ⟨_,_,rfl,o9,n9,b9⟩)
theorem Kl (R:((Yh L 0).toList == [99,114,101,97,116,101])=false) (hseq:((Yh L 0).toList == [115,101,113])=false) (O:((Yh L 0).toList == [100,101,108,101,116,101])=false) (hset:((Yh L 0).toList == [115,101,116])=false) (J:((Yh L 0).toList == [99,104,101,99,107])=false):PT L=none:=by
 unfold PT JO JN
 simp [R,hseq,O,hset,J]
theorem uE {f0:ByteArray} {ns:List Int} (hstep:(f0.toList == [115,116,101,112])=false) (harm:(f0.toList == [97,114,109])=false) (Z:(f0.toList == [99,114,97,115,104])=false) (M:(f0.toList == [114,111,116])=false):iA f0 ns=Oo:=by
 unfold iA
 simp [hstep,harm,Z,M]
theorem M0 (hstep:((Yh L 0).toList == [115,116,101,112])=false) (harm:((Yh L 0).toList == [97,114,109])=false) (Z:((Yh L 0).toList == [99,114,97,115,104])=false) (M:((Yh L 0).toList == [114,111,116])=false):iz L=Oo:=by
 unfold iz
 cases U8 (L.drop 1) with
 | none=>rfl
 | some ns =>
  show (if _ then _ else _)=_;rw [uE hstep harm Z M]
  split <;> rfl
theorem IW (h:((Yh L 0).toList == [102,108,117,115,104])=true):za L=if L.length=1 then ⟨2,[],false,⟨#[]⟩,[]⟩ else Oo:=by
 have U:((Yh L 0).toList == [109,117,108,116,105])=false:=by rw [ZL.1 h];rfl
 have R:((Yh L 0).toList == [99,114,101,97,116,101])=false:=by rw [ZL.1 h];rfl
 have hseq:((Yh L 0).toList == [115,101,113])=false:=by rw [ZL.1 h];rfl
 have O:((Yh L 0).toList == [100,101,108,101,116,101])=false:=by rw [ZL.1 h];rfl
 have hset:((Yh L 0).toList == [115,101,116])=false:=by rw [ZL.1 h];rfl
 have J:((Yh L 0).toList == [99,104,101,99,107])=false:=by rw [ZL.1 h];rfl
 have I:((Yh L 0).toList == [100,117,109,112])=false:=by rw [ZL.1 h];rfl
 have G:((Yh L 0).toList == [115,110,97,112])=false:=by rw [ZL.1 h];rfl
 have Y:((Yh L 0).toList == [114,101,99,111,118,101,114])=false:=by rw [ZL.1 h];rfl
 have V:((Yh L 0).toList == [115,116,97,116,117,115])=false:=by rw [ZL.1 h];rfl
 have hget:((Yh L 0).toList == [103,101,116])=false:=by rw [ZL.1 h];rfl
 have hlist:((Yh L 0).toList == [108,105,115,116])=false:=by rw [ZL.1 h];rfl
 have hstep:((Yh L 0).toList == [115,116,101,112])=false:=by rw [ZL.1 h];rfl
 have harm:((Yh L 0).toList == [97,114,109])=false:=by rw [ZL.1 h];rfl
 have Z:((Yh L 0).toList == [99,114,97,115,104])=false:=by rw [ZL.1 h];rfl
 have M:((Yh L 0).toList == [114,111,116])=false:=by rw [ZL.1 h];rfl
 unfold za lk;rw [Z1 (by rw [U];decide),Kl R hseq O hset J];show uH L=_;unfold uH ll;rw [M0 hstep harm Z M]
 by_cases h1:L.length=1
 · simp [h1,h,I,G,Y,V]
 simp [h1,hget,hlist]
theorem EE (h:((Yh L 0).toList == [115,110,97,112])=true):za L=if L.length=1 then ⟨6,[],false,⟨#[]⟩,[]⟩ else Oo:=by
 have U:((Yh L 0).toList == [109,117,108,116,105])=false:=by rw [ZL.1 h];rfl
 have R:((Yh L 0).toList == [99,114,101,97,116,101])=false:=by rw [ZL.1 h];rfl
 have hseq:((Yh L 0).toList == [115,101,113])=false:=by rw [ZL.1 h];rfl
 have O:((Yh L 0).toList == [100,101,108,101,116,101])=false:=by rw [ZL.1 h];rfl
 have hset:((Yh L 0).toList == [115,101,116])=false:=by rw [ZL.1 h];rfl
 have J:((Yh L 0).toList == [99,104,101,99,107])=false:=by rw [ZL.1 h];rfl
 have H:((Yh L 0).toList == [102,108,117,115,104])=false:=by rw [ZL.1 h];rfl
 have I:((Yh L 0).toList == [100,117,109,112])=false:=by rw [ZL.1 h];rfl
 have Y:((Yh L 0).toList == [114,101,99,111,118,101,114])=false:=by rw [ZL.1 h];rfl
 have V:((Yh L 0).toList == [115,116,97,116,117,115])=false:=by rw [ZL.1 h];rfl
 have hget:((Yh L 0).toList == [103,101,116])=false:=by rw [ZL.1 h];rfl
 have hlist:((Yh L 0).toList == [108,105,115,116])=false:=by rw [ZL.1 h];rfl
 have hstep:((Yh L 0).toList == [115,116,101,112])=false:=by rw [ZL.1 h];rfl
 have harm:((Yh L 0).toList == [97,114,109])=false:=by rw [ZL.1 h];rfl
 have Z:((Yh L 0).toList == [99,114,97,115,104])=false:=by rw [ZL.1 h];rfl
 have M:((Yh L 0).toList == [114,111,116])=false:=by rw [ZL.1 h];rfl
 unfold za lk;rw [Z1 (by rw [U];decide),Kl R hseq O hset J];show uH L=_;unfold uH ll;rw [M0 hstep harm Z M]
 by_cases h1:L.length=1
 · simp [h1,h,H,I,Y,V]
 simp [h1,hget,hlist]
theorem ED (h:((Yh L 0).toList == [115,116,101,112])=true):za L=M4 7 (L.drop 1) (So):=by
 have U:((Yh L 0).toList == [109,117,108,116,105])=false:=by rw [ZL.1 h];rfl
 have R:((Yh L 0).toList == [99,114,101,97,116,101])=false:=by rw [ZL.1 h];rfl
 have hseq:((Yh L 0).toList == [115,101,113])=false:=by rw [ZL.1 h];rfl
 have O:((Yh L 0).toList == [100,101,108,101,116,101])=false:=by rw [ZL.1 h];rfl
 have hset:((Yh L 0).toList == [115,101,116])=false:=by rw [ZL.1 h];rfl
 have J:((Yh L 0).toList == [99,104,101,99,107])=false:=by rw [ZL.1 h];rfl
 have H:((Yh L 0).toList == [102,108,117,115,104])=false:=by rw [ZL.1 h];rfl
 have I:((Yh L 0).toList == [100,117,109,112])=false:=by rw [ZL.1 h];rfl
 have G:((Yh L 0).toList == [115,110,97,112])=false:=by rw [ZL.1 h];rfl
 have Y:((Yh L 0).toList == [114,101,99,111,118,101,114])=false:=by rw [ZL.1 h];rfl
 have V:((Yh L 0).toList == [115,116,97,116,117,115])=false:=by rw [ZL.1 h];rfl
 have hget:((Yh L 0).toList == [103,101,116])=false:=by rw [ZL.1 h];rfl
 have hlist:((Yh L 0).toList == [108,105,115,116])=false:=by rw [ZL.1 h];rfl
 have harm:((Yh L 0).toList == [97,114,109])=false:=by rw [ZL.1 h];rfl
 have Z:((Yh L 0).toList == [99,114,97,115,104])=false:=by rw [ZL.1 h];rfl
 have M:((Yh L 0).toList == [114,111,116])=false:=by rw [ZL.1 h];rfl
 unfold za lk;rw [Z1 (by rw [U];decide),Kl R hseq O hset J];show uH L=_;unfold uH ll
 simp only [H,I,G,Y,V,hget,hlist,Yu,and_false,WW]
 unfold iz M4
 cases U8 (L.drop 1) with
 | none=>rfl
 | some ns =>
  unfold iA So
  by_cases h9:(L.drop 1).length≤2000
  · simp only [h9,Q0,Vo]
    simp [h,harm,Z,M]
  simp only [h9,false_and,WW]
theorem Kk (h:((Yh L 0).toList == [99,114,101,97,116,101])=true):za L=match PT L with | some o=>⟨1,[o],false,⟨#[]⟩,[]⟩ | none=>Oo:=by
 have U:((Yh L 0).toList == [109,117,108,116,105])=false:=by rw [ZL.1 h];rfl
 have H:((Yh L 0).toList == [102,108,117,115,104])=false:=by rw [ZL.1 h];rfl
 have I:((Yh L 0).toList == [100,117,109,112])=false:=by rw [ZL.1 h];rfl
 have G:((Yh L 0).toList == [115,110,97,112])=false:=by rw [ZL.1 h];rfl
 have Y:((Yh L 0).toList == [114,101,99,111,118,101,114])=false:=by rw [ZL.1 h];rfl
 have V:((Yh L 0).toList == [115,116,97,116,117,115])=false:=by rw [ZL.1 h];rfl
 have hget:((Yh L 0).toList == [103,101,116])=false:=by rw [ZL.1 h];rfl
 have hlist:((Yh L 0).toList == [108,105,115,116])=false:=by rw [ZL.1 h];rfl
 have hstep:((Yh L 0).toList == [115,116,101,112])=false:=by rw [ZL.1 h];rfl
 have harm:((Yh L 0).toList == [97,114,109])=false:=by rw [ZL.1 h];rfl
 have Z:((Yh L 0).toList == [99,114,97,115,104])=false:=by rw [ZL.1 h];rfl
 have M:((Yh L 0).toList == [114,111,116])=false:=by rw [ZL.1 h];rfl
 unfold za lk;rw [Z1 (by rw [U];decide)]
 cases PT L with
 | some o=>rfl
 | none =>
  show uH L=Oo;unfold uH ll;rw [M0 hstep harm Z M]
  simp [H,I,G,Y,V,hget,hlist]
theorem A7 (h:((Yh L 0).toList == [115,101,116])=true):za L=match PT L with | some o=>⟨1,[o],false,⟨#[]⟩,[]⟩ | none=>Oo:=by
 have U:((Yh L 0).toList == [109,117,108,116,105])=false:=by rw [ZL.1 h];rfl
 have H:((Yh L 0).toList == [102,108,117,115,104])=false:=by rw [ZL.1 h];rfl
 have I:((Yh L 0).toList == [100,117,109,112])=false:=by rw [ZL.1 h];rfl
 have G:((Yh L 0).toList == [115,110,97,112])=false:=by rw [ZL.1 h];rfl
 have Y:((Yh L 0).toList == [114,101,99,111,118,101,114])=false:=by rw [ZL.1 h];rfl
 have V:((Yh L 0).toList == [115,116,97,116,117,115])=false:=by rw [ZL.1 h];rfl
 have hget:((Yh L 0).toList == [103,101,116])=false:=by rw [ZL.1 h];rfl
 have hlist:((Yh L 0).toList == [108,105,115,116])=false:=by rw [ZL.1 h];rfl
 have hstep:((Yh L 0).toList == [115,116,101,112])=false:=by rw [ZL.1 h];rfl
 have harm:((Yh L 0).toList == [97,114,109])=false:=by rw [ZL.1 h];rfl
 have Z:((Yh L 0).toList == [99,114,97,115,104])=false:=by rw [ZL.1 h];rfl
 have M:((Yh L 0).toList == [114,111,116])=false:=by rw [ZL.1 h];rfl
 unfold za lk;rw [Z1 (by rw [U];decide)]
 cases PT L with
 | some o=>rfl
 | none =>
  show uH L=Oo;unfold uH ll;rw [M0 hstep harm Z M]
  simp [H,I,G,Y,V,hget,hlist]
theorem IV (w:World) (a:Option Addr) (c:Nat) (L:List ByteArray) (hop:∀W,Zi w W→Calls Tryz.prog 101 #[.slice a L.length c] W fun e w'=>JM W L e w') (l:Ln) (hl:l=match PT L with | some o=>⟨1,[o],false,⟨#[]⟩,[]⟩ | none=>Oo) :
    Calls Tryz.prog 59 #[.slice a L.length c] w fun e w'=>mP w l e w':=by
 have hA:Zi w (w.alloc (.cells #[.int .i64 0,.slice none 0 0,.bool false,.string ⟨#[]⟩,.slice none 0 0] 43)):=Yy.alloc YR _;have BA:=ZU hA;have X:=ZU (St.new w #[.int .i64 0,.slice none 0 0,.bool false,.string ⟨#[]⟩,.slice none 0 0] 43);have HC:=ZU (hop _ hA);have Pu:=ZU hl;clear hop hl hA
 go_enter Tryz.func59,Tryz.ntmps59
 go_wp2_with fail
 refine HC.out.mono ?_;rintro e w3 ⟨E,ok,rfl,b3,hok,ZD⟩;have HQ:=ZU (And.intro hok ZD);have s3:w.heap.size+1≤w3.heap.size:=ZJ (by simp) b3.size;have bA:Zi w3 (w3.alloc (.cells #[.int .i64 E.kind,.string E.path,.string E.data,.int .i64 E.XT,.bool E.seq] 159)):=Yy.alloc YR _;have ZN:=WD b3 bA
 replace X:=ZU (X.out.below ZN)
 replace BA:=ZU (WD BA.out ZN)
 have O3:=ZU (uK (w3.alloc (.cells #[.int .i64 E.kind,.string E.path,.string E.data,.int .i64 E.XT,.bool E.seq] 159)) (w.heap.size+1) (by simp;omega) E);rw [show (w3.alloc (.cells #[.int .i64 E.kind,.string E.path,.string E.data,.int .i64 E.XT,.bool E.seq] 159)).heap.size=w3.heap.size+1 by simp] at O3;clear HC bA b3 ZN hok ZD;unfold MV
 cases ok with
 | true =>
  have ST:Hid (l=⟨1,[E],false,⟨#[]⟩,[]⟩):=by
   show _=_;rw [Pu.out];obtain ⟨x,hx⟩:=Option.isSome_iff_exists.1 HQ.out.1.symm;rw [hx,HQ.out.2 x hx]
  replace X:=ZU (X.out.below (Yy.alloc YR (.cells #[.int .i64 E.kind,.string E.path,.string E.data,.int .i64 E.XT,.bool E.seq] 159)))
  replace BA:=ZU (BA.out.alloc (by simp;omega) (.cells #[.int .i64 E.kind,.string E.path,.string E.data,.int .i64 E.XT,.bool E.seq] 159))
  clear Pu HQ;have x0:=X.out.fz;have y0:=X.out.cl 0 _ rfl;have y1:=X.out.cl 1 _ rfl;have y2:=X.out.cl 2 _ rfl;have y3:=X.out.cl 3 _ rfl;have y4:=X.out.cl 4 _ rfl
  go_wp2_with fail
  obtain ⟨b9,x9,o9,n9⟩:=QM BA.out X.out 1 false ⟨#[]⟩ (vo:=.slice (some ⟨w3.heap.size+1,0,none⟩) 1 1) (vn:=.slice none 0 0) (show RP _ _ _ _ [E] from O3.out) (show Own _ _ _ _ _ [] from ZH _ _ _ _);have d0:=x9.cl 0 _ rfl;have d1:=x9.cl 1 _ rfl;have d2:=x9.cl 2 _ rfl;have d3:=x9.cl 3 _ rfl;have d4:=x9.cl 4 _ rfl;exact ZW (v:=.agg #[.int .i64 1,.slice (some ⟨w3.heap.size+1,0,none⟩) 1 1,.bool false,.string ⟨#[]⟩,.slice none 0 0]) (by simp [results,Tryz.results59,go_sem,d0,d1,d2,d3,d4]) rfl (by rw [ST.out];exact ⟨_,_,rfl,o9,n9,b9⟩)
 | false =>
  have ST:Hid (l=Oo):=by
   show _=_;rw [Pu.out]
   cases hx:PT L with
   | none=>rfl
   | some x=>have:=HQ.out.1;rw [hx] at this;cases this
  clear Pu HQ O3;have x0:=X.out.fz;have y0:=X.out.cl 0 _ rfl;have y1:=X.out.cl 1 _ rfl;have y2:=X.out.cl 2 _ rfl;have y3:=X.out.cl 3 _ rfl;have y4:=X.out.cl 4 _ rfl
  go_wp2_with fail
  obtain ⟨b9,x9,o9,n9⟩:=QM BA.out X.out 0 false ⟨#[]⟩ (vo:=.slice none 0 0) (vn:=.slice none 0 0) (show RP _ _ _ _ [] from ZH _ _ _ _) (show Own _ _ _ _ _ [] from ZH _ _ _ _);have d0:=x9.cl 0 _ rfl;have d1:=x9.cl 1 _ rfl;have d2:=x9.cl 2 _ rfl;have d3:=x9.cl 3 _ rfl;have d4:=x9.cl 4 _ rfl;exact ZW (v:=.agg #[.int .i64 0,.slice none 0 0,.bool false,.string ⟨#[]⟩,.slice none 0 0]) (by simp [results,Tryz.results59,go_sem,d0,d1,d2,d3,d4]) rfl (by rw [ST.out];exact ⟨_,_,rfl,o9,n9,b9⟩)
theorem EC (w:World) (ao:Option Addr) (cap:Nat):Calls Tryz.prog 101 #[.slice ao 0 cap] w fun e w'=>JM w [] e w':=by
 have bA:Zi w (w.alloc (.cells #[.int .i64 0,.string ⟨#[]⟩,.string ⟨#[]⟩,.int .i64 0,.bool false] 159)):=Yy.alloc YR _;have X:=St.new w #[.int .i64 0,.string ⟨#[]⟩,.string ⟨#[]⟩,.int .i64 0,.bool false] 159;have BA:=ZU bA;have d0:=X.cl 0 _ rfl;have d1:=X.cl 1 _ rfl;have d2:=X.cl 2 _ rfl;have d3:=X.cl 3 _ rfl;have d4:=X.cl 4 _ rfl;clear bA
 go_enter Tryz.func101,Tryz.ntmps101
 go_wp2_with fail
 exact ZW (v:=.tuple #[MV ⟨0,⟨#[]⟩,⟨#[]⟩,0,false⟩,.bool false]) (by simp [results,Tryz.results101,go_sem,MV,d0,d1,d2,d3,d4]) rfl (JM.no (by rfl) BA.out)
theorem EB (w:World) (v:Value) (L:List ByteArray) (h:tr w v L) (hsz:mR L) (hg:ze w m te pe) (hf:tp w):Calls Tryz.prog 101 #[v] w fun e w'=>JM w L e w':=by
 obtain ⟨ao,cap,rfl,h1,h2,h3⟩:=h
 by_cases h0:0<L.length
 · rcases h3 with h3 | ⟨b,o,rfl,hb,hc⟩
   · rw [h3] at h0;simp at h0
   exact EF w b o cap L h0 h1 h2 hsz hc hb hg hf
 have hn:L=[]:=Zg (by omega);subst hn;exact EC w ao cap
def Sk (w:World) (b:Nat) (L:List (ByteArray × Value)):Prop :=
 ∃es clock,w.heap[b]?=some (.map es clock)∧es.toList.map (fun e=>(e.key,e.val))=L.map (fun x=>(Value.string x.1,x.2))
theorem Sk.lt {b:Nat} {L:List (ByteArray × Value)} (h:Sk w b L):b<w.heap.size:=by
 obtain ⟨es,clock,hb,-⟩:=h;exact (Z3.1 hb).1
theorem Sk.made (w:World):Sk (w.alloc (.map #[] 0)) w.heap.size []:=⟨#[],0,(MapKept.heap_alloc w _).1,rfl⟩
theorem Sk.below {b:Nat} {L:List (ByteArray × Value)} (h:Sk w b L) (hb:Zi w w'):Sk w' b L:=by
 have hl:=h.lt;obtain ⟨es,clock,h1,h2⟩:=h;exact ⟨es,clock,(hb.block _ hl).trans h1,h2⟩
theorem Sk.keys {es:Array MapEntry} {L:List (ByteArray × Value)} (h2:es.toList.map (fun e=>(e.key,e.val))=L.map (fun x=>(Value.string x.1,x.2))) (x:MapEntry) (hx:x ∈ es.toList):∃s v,x.key=.string s∧x.val=v∧(s,v) ∈ L:=by
 have:(x.key,x.val) ∈ L.map (fun x=>(Value.string x.1,x.2)):=by rw [←h2];exact List.mem_map.2 ⟨x,hx,rfl⟩
 obtain ⟨⟨s,v⟩,hm,e⟩:=List.mem_map.1 this
 injection e with e1 e2
 exact ⟨s,v,e1.symm,e2.symm,hm⟩
theorem Kj {es:Array MapEntry} {L:List (ByteArray × Value)} (h2:es.toList.map (fun e=>(e.key,e.val))=L.map (fun x=>(Value.string x.1,x.2))) (s:ByteArray) :
    (Instr.findNow .string (.string s) es.toList 0=some none∧∀y ∈ L,y.1≠s)∨∃i v,Instr.findNow .string (.string s) es.toList 0=some (some (i,v))∧(s,v) ∈ L:=by
 have hk:MapKept.IsKey .string (.string s):=by simp [MapKept.IsKey]
 rcases MapKept.findNow_spec hk es.toList 0 (fun x hx=>by obtain ⟨t,v,e,-⟩:=Sk.keys h2 x hx;rw [e];simp [MapKept.IsKey]) with ⟨h1,h3⟩ | ⟨j,e,h1,h3,h4⟩
 · refine .inl ⟨h1,fun y hy e9=>?_⟩
   have:(Value.string y.1,y.2) ∈ es.toList.map (fun e=>(e.key,e.val)):=by rw [h2];exact List.mem_map.2 ⟨y,hy,rfl⟩
   obtain ⟨x,hx,e⟩:=List.mem_map.1 this
   injection e with e1 e2
   exact h3 x hx (by rw [e1,e9])
 obtain ⟨t,v,e1,e2,hm⟩:=Sk.keys h2 e (UT h3);rw [e1] at h4
 injection h4 with h4
 subst h4;exact .inr ⟨_,v,by rw [h1,e2],hm⟩
theorem Sk.put {b:Nat} {L:List (ByteArray × Value)} (h:Sk w b L) (ht:P.underlying t=some (.map k e)) (hk:P.underlying k=some .string) (hn:∀y ∈ L,y.1≠s) (v:Value) :
    ∃w',(Instr.mapUpdate t (.map (some b)) (.string s) v).run P w=.ok () w'∧Sk w' b (L++[(s,v)])∧w.grownBy w' (some b)∧w'.heap.size=w.heap.size:=by
 have hl:=h.lt;obtain ⟨es,clock,hb,h2⟩:=h;have hc:(Instr.checkKey false 10000 k (.string s)).run P w=.ok () w:=MapKept.run_checkKey (k:=.string s) hk (by simp [MapKept.IsKey]) false 9999
 rcases Kj h2 s with ⟨hf,-⟩ | ⟨i,v9,-,hm⟩
 · refine ⟨ChangeMaps.setBlock w b (.map (es.push { key:=.string s,val:=v,born:=clock }) (clock+1)),?_,⟨_,_,ChangeMaps.heap_setBlock_same hb _,?_⟩,⟨rfl,rfl,rfl,by simp [ChangeMaps.setBlock],fun i _ hi=>ChangeMaps.heap_setBlock_other hb _ (fun e=>hi (by rw [e]))⟩,by simp [ChangeMaps.setBlock]⟩
   · simp [Instr.mapUpdate,Ya ht,MapKept.run_getObj_map hb,hc,MapKept.run_findKey hk hf,MapKept.run_setObj_map _ hb,Result.andThen,ChangeMaps.setBlock]
   rw [Array.toList_push,Y6,Y6,h2]
   rfl
 exact absurd rfl (hn _ hm)
theorem Sk.hit {b:Nat} {L:List (ByteArray × Value)} (h:Sk w b L) (ht:P.underlying t=some (.map k e)) (hk:P.underlying k=some .string) {v:Value} (hm:(s,v) ∈ L) (hu:∀v9,(s,v9) ∈ L→v9=v) :
    (Instr.lookup t (.map (some b)) (.string s) true).run P w=.ok (.tuple #[v,.bool true]) w:=by
 obtain ⟨es,clock,hb,h2⟩:=h;have hc:(Instr.checkKey es.isEmpty 10000 k (.string s)).run P w=.ok () w:=MapKept.run_checkKey (k:=.string s) hk (by simp [MapKept.IsKey]) _ 9999
 rcases Kj h2 s with ⟨-,hn⟩ | ⟨i,v9,hf,fk⟩
 · exact absurd rfl (hn _ hm)
 rw [hu v9 fk] at hf
 simp [Instr.lookup,Ya ht,MapKept.run_getObj_map hb,hc,MapKept.run_findKey hk hf,Result.andThen]
structure PS (w W:World) (n:Nat) (L:List (ByteArray × Value)) (C:List (Nat × Value)):Prop where
 m:Sk W w.heap.size L
 b:Zi w W
 z:W.heap.size=n
 c:∀p ∈ C,w.heap.size<p.1∧p.1<n∧W.cell? ⟨p.1,0,none⟩=some p.2
theorem PS.made (w:World):PS w (w.alloc (.map #[] 0)) (w.heap.size+1) [] []:=⟨Sk.made w,Yy.alloc YR _,by simp,fun p hp=>by cases hp⟩
theorem PS.box {L:List (ByteArray × Value)} (h:PS w W n L C) (v:Value) (t:TypeId):PS w (W.alloc (.cells #[v] t)) (n+1) L (C++[(n,v)]):=by
 have hb:Zi W (W.alloc (.cells #[v] t)):=Yy.alloc YR _;have hm:=h.m.lt;refine ⟨h.m.below hb,h.b.trans (hb.mono h.b.size),by simp [h.z],fun p hp=>?_⟩
 rcases Y4.1 hp with hp | hp
 · obtain ⟨h1,h2,h3⟩:=h.c p hp
   exact ⟨h1,Nat.lt_succ_of_lt h2,(hb.cell (p:=⟨p.1,0,none⟩) (by rw [h.z];exact h2)).trans h3⟩
 obtain rfl:p=(n,v):=by simpa using hp
 refine ⟨by rw [←h.z];exact hm,WK _,?_⟩;have:=(St.new W #[v] t).cl 0 _ rfl;rw [h.z] at this;exact this
theorem PS.put {W':World} {L L':List (ByteArray × Value)} (h:PS w W n L C) (hm:Sk W' w.heap.size L') (hg:W.grownBy W' (some w.heap.size)) (hz:W'.heap.size=W.heap.size):PS w W' n L' C:=by
 refine ⟨hm,h.b.grown hg (ZJ YR h.b.size) (fun q hq=>by injection hq with hq;omega),hz.trans h.z,fun p hp=>?_⟩;obtain ⟨h1,h2,h3⟩:=h.c p hp;refine ⟨h1,h2,?_⟩;have:=hg.block p.1 (by rw [h.z];exact h2) (by intro e;injection e with e;omega);unfold World.cell? at h3 ⊢
 simp only at h3 ⊢
 rw [this];exact h3
theorem Xs (w W:World) {ops:Array Oper} {rest:List Oper} {o:Oper} {a:Act} {Q:Exit→Act→World→Prop}
    (hg:o.guard=none) (m x v:Operand) (t:TypeId) (hop:o.op=Op.insert t m x v) (k e:TypeId) (ht:P.underlying t=some (.map k e)) (hk:P.underlying k=some .string) (n:Nat) (L:List (ByteArray × Value)) (C:List (Nat × Value)) (hown:PS w W n L C)
    (hm:a.eval m=.map (some w.heap.size)) (s:ByteArray) (val:Value) (hx:a.eval x=.string s) (hv:a.eval v=val) (hnew:∀y ∈ L,y.1≠s)
    (hK:∀W',PS w W' n (L++[(s,val)]) C→wpList P ops Q rest (a.put o.dst undef) W'):wpList P ops Q (o :: rest) a W:=by
 refine TZ hg fun K' hK'=>?_
 obtain ⟨w',hrun,r1,r2,r3⟩:=hown.m.put ht hk hnew val;unfold Oper.wp
 simp [execOp,hop,hm,hx,hv,hrun,Result.andThen]
 exact hK' _ _ (hK w' (hown.put r1 r2 r3))
theorem TP (w:World) (n:Nat) (hn:w.heap.size=n) (k:Int):Calls Tryz.prog 61 #[.int .i64 k] w fun e w'=>e=.returned (.func (.func 103) #[] #[.pointer (some ⟨n,0,none⟩)])∧w'=w.alloc (.cells #[.int .i64 k] 2):=by
 go_enter Tryz.func61,Tryz.ntmps61
 go_wp2;go_ret;exact ⟨by rw [←hn];rfl,rfl⟩
theorem Pi (w:World) (n:Nat) (hn:w.heap.size=n) (k:Int):Calls Tryz.prog 62 #[.int .i64 k] w fun e w'=>e=.returned (.func (.func 104) #[] #[.pointer (some ⟨n,0,none⟩)])∧w'=w.alloc (.cells #[.int .i64 k] 2):=by
 go_enter Tryz.func62,Tryz.ntmps62
 go_wp2;go_ret;exact ⟨by rw [←hn];rfl,rfl⟩
theorem TK (w:World) (n:Nat) (hn:w.heap.size=n) (k:Int) (f:Nat):Calls Tryz.prog 63 #[.int .i64 k,.func (.func f) #[] #[]] w fun e w'=>e=.returned (.func (.func 105) #[] #[.pointer (some ⟨n+1,0,none⟩),.pointer (some ⟨n,0,none⟩)])∧w'=(w.alloc (.cells #[.int .i64 k] 2)).alloc (.cells #[.func (.func f) #[] #[]] 125):=by
 go_enter Tryz.func63,Tryz.ntmps63
 go_wp2;go_ret;exact ⟨by rw [←hn];simp,rfl⟩
def tk (n:Nat):List (ByteArray × Value):=[(⟨#[99,114,101,97,116,101]⟩,.func (.func 59) #[] #[]),
 (⟨#[115,101,113]⟩,.func (.func 59) #[] #[]),
 (⟨#[100,101,108,101,116,101]⟩,.func (.func 59) #[] #[]),
 (⟨#[115,101,116]⟩,.func (.func 59) #[] #[]),
 (⟨#[99,104,101,99,107]⟩,.func (.func 59) #[] #[]),
 (⟨#[109,117,108,116,105]⟩,.func (.func 60) #[] #[]),
 (⟨#[102,108,117,115,104]⟩,.func (.func 103) #[] #[.pointer (some ⟨n+1,0,none⟩)]),
 (⟨#[103,101,116]⟩,.func (.func 104) #[] #[.pointer (some ⟨n+2,0,none⟩)]),
 (⟨#[108,105,115,116]⟩,.func (.func 104) #[] #[.pointer (some ⟨n+3,0,none⟩)]),
 (⟨#[100,117,109,112]⟩,.func (.func 103) #[] #[.pointer (some ⟨n+4,0,none⟩)]),
 (⟨#[115,110,97,112]⟩,.func (.func 103) #[] #[.pointer (some ⟨n+5,0,none⟩)]),
 (⟨#[115,116,101,112]⟩,.func (.func 105) #[] #[.pointer (some ⟨n+7,0,none⟩),.pointer (some ⟨n+6,0,none⟩)]),
 (⟨#[97,114,109]⟩,.func (.func 105) #[] #[.pointer (some ⟨n+9,0,none⟩),.pointer (some ⟨n+8,0,none⟩)]),
 (⟨#[99,114,97,115,104]⟩,.func (.func 105) #[] #[.pointer (some ⟨n+11,0,none⟩),.pointer (some ⟨n+10,0,none⟩)]),
 (⟨#[114,111,116]⟩,.func (.func 105) #[] #[.pointer (some ⟨n+13,0,none⟩),.pointer (some ⟨n+12,0,none⟩)]),
 (⟨#[114,101,99,111,118,101,114]⟩,.func (.func 103) #[] #[.pointer (some ⟨n+14,0,none⟩)]),
 (⟨#[115,116,97,116,117,115]⟩,.func (.func 103) #[] #[.pointer (some ⟨n+15,0,none⟩)])]
def mO (n:Nat):List (Nat × Value):=[(n+1,.int .i64 2),(n+2,.int .i64 3),(n+3,.int .i64 4),(n+4,.int .i64 5),(n+5,.int .i64 6),(n+6,.int .i64 7),(n+7,.func (.func 64) #[] #[]),(n+8,.int .i64 8),(n+9,.func (.func 65) #[] #[]),(n+10,.int .i64 9),(n+11,.func (.func 66) #[] #[]),(n+12,.int .i64 10),(n+13,.func (.func 67) #[] #[]),(n+14,.int .i64 11),(n+15,.int .i64 12)]
theorem Pg {x y:ByteArray} (h:(x.data.toList == y.data.toList)=false):x≠y:=fun e=>by rw [e] at h;simp at h
theorem EA (w:World):Calls Tryz.prog 26 #[] w fun e w'=>e=.returned (.map (some w.heap.size))∧PS w w' (w.heap.size+16) (tk w.heap.size) (mO w.heap.size):=by
 have hmm:=@run_makeMap Tryz.prog;have H0:=ZU (PS.made w)
 go_enter Tryz.func26,Tryz.ntmps26
 go_wp2_with (refine Xs w _ rfl _ _ _ 75 rfl 9 73 Tryz.underlying75 Tryz.underlying9 _ _ _ (H0).out rfl ⟨#[99,114,101,97,116,101]⟩ _ rfl rfl (by intro y hy;simp at hy;try (rcases hy with rfl);all_goals exact Pg (by rfl)) ?_)
 intro u0 H1
 replace H1:=ZU H1
 clear H0
 go_wp2_with (refine Xs w _ rfl _ _ _ 75 rfl 9 73 Tryz.underlying75 Tryz.underlying9 _ _ _ (H1).out rfl ⟨#[115,101,113]⟩ _ rfl rfl (by intro y hy;simp at hy;try (rcases hy with rfl);all_goals exact Pg (by rfl)) ?_)
 intro u1 H2
 replace H2:=ZU H2
 clear H1
 go_wp2_with (refine Xs w _ rfl _ _ _ 75 rfl 9 73 Tryz.underlying75 Tryz.underlying9 _ _ _ (H2).out rfl ⟨#[100,101,108,101,116,101]⟩ _ rfl rfl (by intro y hy;simp at hy;try (rcases hy with rfl | rfl);all_goals exact Pg (by rfl)) ?_)
 intro u2 H3
 replace H3:=ZU H3
 clear H2
 go_wp2_with (refine Xs w _ rfl _ _ _ 75 rfl 9 73 Tryz.underlying75 Tryz.underlying9 _ _ _ (H3).out rfl ⟨#[115,101,116]⟩ _ rfl rfl (by intro y hy;simp at hy;try (rcases hy with rfl | rfl | rfl);all_goals exact Pg (by rfl)) ?_)
 intro u3 H4
 replace H4:=ZU H4
 clear H3
 go_wp2_with (refine Xs w _ rfl _ _ _ 75 rfl 9 73 Tryz.underlying75 Tryz.underlying9 _ _ _ (H4).out rfl ⟨#[99,104,101,99,107]⟩ _ rfl rfl (by intro y hy;simp at hy;try (rcases hy with rfl | rfl | rfl | rfl);all_goals exact Pg (by rfl)) ?_)
 intro u4 H5
 replace H5:=ZU H5
 clear H4
 go_wp2_with (refine Xs w _ rfl _ _ _ 75 rfl 9 73 Tryz.underlying75 Tryz.underlying9 _ _ _ (H5).out rfl ⟨#[109,117,108,116,105]⟩ _ rfl rfl (by intro y hy;simp at hy;try (rcases hy with rfl | rfl | rfl | rfl | rfl);all_goals exact Pg (by rfl)) ?_)
 intro u5 H6
 replace H6:=ZU H6
 clear H5
 go_wp2_with fail
 refine (TP _ _ H6.out.z 2).mono ?_;rintro e w6 ⟨rfl,rfl⟩
 replace H6:=ZU (H6.out.box (.int .i64 2) 2)
 generalize World.alloc _ _=v6 at *
 go_wp2_with (refine Xs w _ rfl _ _ _ 75 rfl 9 73 Tryz.underlying75 Tryz.underlying9 _ _ _ (H6).out rfl ⟨#[102,108,117,115,104]⟩ _ rfl rfl (by intro y hy;simp at hy;try (rcases hy with rfl | rfl | rfl | rfl | rfl | rfl);all_goals exact Pg (by rfl)) ?_)
 intro u6 H7
 replace H7:=ZU H7
 clear H6
 go_wp2_with fail
 refine (Pi _ _ H7.out.z 3).mono ?_;rintro e w7 ⟨rfl,rfl⟩
 replace H7:=ZU (H7.out.box (.int .i64 3) 2)
 generalize World.alloc _ _=v7 at *
 go_wp2_with (refine Xs w _ rfl _ _ _ 75 rfl 9 73 Tryz.underlying75 Tryz.underlying9 _ _ _ (H7).out rfl ⟨#[103,101,116]⟩ _ rfl rfl (by intro y hy;simp at hy;try (rcases hy with rfl | rfl | rfl | rfl | rfl | rfl | rfl);all_goals exact Pg (by rfl)) ?_)
 intro u7 H8
 replace H8:=ZU H8
 clear H7
 go_wp2_with fail
 refine (Pi _ _ H8.out.z 4).mono ?_;rintro e w8 ⟨rfl,rfl⟩
 replace H8:=ZU (H8.out.box (.int .i64 4) 2)
 generalize World.alloc _ _=v8 at *
 go_wp2_with (refine Xs w _ rfl _ _ _ 75 rfl 9 73 Tryz.underlying75 Tryz.underlying9 _ _ _ (H8).out rfl ⟨#[108,105,115,116]⟩ _ rfl rfl (by intro y hy;simp at hy;try (rcases hy with rfl | rfl | rfl | rfl | rfl | rfl | rfl | rfl);all_goals exact Pg (by rfl)) ?_)
 intro u8 H9
 replace H9:=ZU H9
 clear H8
 go_wp2_with fail
 refine (TP _ _ H9.out.z 5).mono ?_;rintro e w9 ⟨rfl,rfl⟩
 replace H9:=ZU (H9.out.box (.int .i64 5) 2)
 generalize World.alloc _ _=v9 at *
 go_wp2_with (refine Xs w _ rfl _ _ _ 75 rfl 9 73 Tryz.underlying75 Tryz.underlying9 _ _ _ (H9).out rfl ⟨#[100,117,109,112]⟩ _ rfl rfl (by intro y hy;simp at hy;try (rcases hy with rfl | rfl | rfl | rfl | rfl | rfl | rfl | rfl | rfl);all_goals exact Pg (by rfl)) ?_)
 intro u9 Z8
 replace Z8:=ZU Z8
 clear H9
 go_wp2_with fail
 refine (TP _ _ Z8.out.z 6).mono ?_;rintro e I9 ⟨rfl,rfl⟩
 replace Z8:=ZU (Z8.out.box (.int .i64 6) 2)
 generalize World.alloc _ _=v10 at *
 go_wp2_with (refine Xs w _ rfl _ _ _ 75 rfl 9 73 Tryz.underlying75 Tryz.underlying9 _ _ _ (Z8).out rfl ⟨#[115,110,97,112]⟩ _ rfl rfl (by intro y hy;simp at hy;try (rcases hy with rfl | rfl | rfl | rfl | rfl | rfl | rfl | rfl | rfl | rfl);all_goals exact Pg (by rfl)) ?_)
 intro u10 tu
 replace tu:=ZU tu
 clear Z8
 go_wp2_with fail
 refine (TK _ _ tu.out.z 7 _).mono ?_;rintro e fF ⟨rfl,rfl⟩
 replace tu:=ZU ((tu.out.box (.int .i64 7) 2).box (.func (.func 64) #[] #[]) 125)
 generalize (World.alloc _ _).alloc _=v11 at *
 go_wp2_with (refine Xs w _ rfl _ _ _ 75 rfl 9 73 Tryz.underlying75 Tryz.underlying9 _ _ _ (tu).out rfl ⟨#[115,116,101,112]⟩ _ rfl rfl (by intro y hy;simp at hy;try (rcases hy with rfl | rfl | rfl | rfl | rfl | rfl | rfl | rfl | rfl | rfl | rfl);all_goals exact Pg (by rfl)) ?_)
 intro u11 Z7
 replace Z7:=ZU Z7
 clear tu
 go_wp2_with fail
 refine (TK _ _ Z7.out.z 8 _).mono ?_;rintro e tx ⟨rfl,rfl⟩
 replace Z7:=ZU ((Z7.out.box (.int .i64 8) 2).box (.func (.func 65) #[] #[]) 125)
 generalize (World.alloc _ _).alloc _=v12 at *
 go_wp2_with (refine Xs w _ rfl _ _ _ 75 rfl 9 73 Tryz.underlying75 Tryz.underlying9 _ _ _ (Z7).out rfl ⟨#[97,114,109]⟩ _ rfl rfl (by intro y hy;simp at hy;try (rcases hy with rfl | rfl | rfl | rfl | rfl | rfl | rfl | rfl | rfl | rfl | rfl | rfl);all_goals exact Pg (by rfl)) ?_)
 intro u12 ts
 replace ts:=ZU ts
 clear Z7
 go_wp2_with fail
 refine (TK _ _ ts.out.z 9 _).mono ?_;rintro e fE ⟨rfl,rfl⟩
 replace ts:=ZU ((ts.out.box (.int .i64 9) 2).box (.func (.func 66) #[] #[]) 125)
 generalize (World.alloc _ _).alloc _=v13 at *
 go_wp2_with (refine Xs w _ rfl _ _ _ 75 rfl 9 73 Tryz.underlying75 Tryz.underlying9 _ _ _ (ts).out rfl ⟨#[99,114,97,115,104]⟩ _ rfl rfl (by intro y hy;simp at hy;try (rcases hy with rfl | rfl | rfl | rfl | rfl | rfl | rfl | rfl | rfl | rfl | rfl | rfl | rfl);all_goals exact Pg (by rfl)) ?_)
 intro u13 Z6
 replace Z6:=ZU Z6
 clear ts
 go_wp2_with fail
 refine (TK _ _ Z6.out.z 10 _).mono ?_;rintro e eD ⟨rfl,rfl⟩
 replace Z6:=ZU ((Z6.out.box (.int .i64 10) 2).box (.func (.func 67) #[] #[]) 125)
 generalize (World.alloc _ _).alloc _=v14 at *
 go_wp2_with (refine Xs w _ rfl _ _ _ 75 rfl 9 73 Tryz.underlying75 Tryz.underlying9 _ _ _ (Z6).out rfl ⟨#[114,111,116]⟩ _ rfl rfl (by intro y hy;simp at hy;try (rcases hy with rfl | rfl | rfl | rfl | rfl | rfl | rfl | rfl | rfl | rfl | rfl | rfl | rfl | rfl);all_goals exact Pg (by rfl)) ?_)
 intro u14 Z5
 replace Z5:=ZU Z5
 clear Z6
 go_wp2_with fail
 refine (TP _ _ Z5.out.z 11).mono ?_;rintro e dV ⟨rfl,rfl⟩
 replace Z5:=ZU (Z5.out.box (.int .i64 11) 2)
 generalize World.alloc _ _=v15 at *
 go_wp2_with (refine Xs w _ rfl _ _ _ 75 rfl 9 73 Tryz.underlying75 Tryz.underlying9 _ _ _ (Z5).out rfl ⟨#[114,101,99,111,118,101,114]⟩ _ rfl rfl (by intro y hy;simp at hy;try (rcases hy with rfl | rfl | rfl | rfl | rfl | rfl | rfl | rfl | rfl | rfl | rfl | rfl | rfl | rfl | rfl);all_goals exact Pg (by rfl)) ?_)
 intro u15 Z4
 replace Z4:=ZU Z4
 clear Z5
 go_wp2_with fail
 refine (TP _ _ Z4.out.z 12).mono ?_;rintro e w16 ⟨rfl,rfl⟩
 replace Z4:=ZU (Z4.out.box (.int .i64 12) 2)
 generalize World.alloc _ _=v16 at *
 go_wp2_with (refine Xs w _ rfl _ _ _ 75 rfl 9 73 Tryz.underlying75 Tryz.underlying9 _ _ _ (Z4).out rfl ⟨#[115,116,97,116,117,115]⟩ _ rfl rfl (by intro y hy;simp at hy;try (rcases hy with rfl | rfl | rfl | rfl | rfl | rfl | rfl | rfl | rfl | rfl | rfl | rfl | rfl | rfl | rfl | rfl);all_goals exact Pg (by rfl)) ?_)
 intro u16 ZM
 replace ZM:=ZU ZM
 clear Z4
 go_wp2_with fail
 go_ret;exact ⟨rfl,ZM.out⟩
theorem jN {f:ByteArray} {l:List UInt8} (h:(f.toList == l)=true):f=UG l:=by rw [←M6 f,←L4,ZL.1 h]
theorem Ez (b:ByteArray):strOfNums (bI b)=b:=by
 have h:=uP b 0 b.size;rw [XR,XR,Y8 (by rw [QO];exact YR),Y8 (by rw [Tt];exact YR)] at h;rw [h]
 rfl
theorem uD (b:ByteArray) (hs:b.size≤1048576):0<(UH b).length∧(UH b).length≤1048577∧mR (UH b):=by
 have h1:=EL 32 b.data.toList [];obtain ⟨h2,h3⟩:=Kq 32 b.data.toList [];have h4:=Tt b;unfold UH;rw [Zl];refine ⟨h1,by omega,fun i=>?_⟩
 by_cases hi:i<((RC 32 [] b.data.toList).map UG).length
 · rw [OT hi,List.getElem_map]
   rw [Zl] at hi;have:=h3 _ (YP hi);rw [←Tt,Qu]
   simp at this;omega
 unfold Yh;rw [List.getD,Yk (by omega)];exact Zu _
theorem yY (w:World) (b:ByteArray) (hs:b.size≤1048576) (hm:w.cell? ⟨1,0,none⟩=some (.int .i64 m)) :
    Calls Tryz.prog 23 #[.string b,.string ⟨#[32]⟩] w fun e w'=>e=.returned (.slice (some ⟨w.heap.size,0,none⟩) (UH b).length (UH b).length)∧w'=w.alloc (.cells ((UH b).map Value.string).toArray 9):=by
 have h:=Tryz.strings_Split b ⟨#[32]⟩ m w (by omega) hm (by decide);have e:=qO (Lib.countB b ⟨#[32]⟩) b rfl;have l:=Lib.splitB_all ⟨#[32]⟩ (by decide) 0 (Lib.countB b ⟨#[32]⟩) b rfl;rw [e] at h l;rw [l];exact h
theorem yX (W:World) (L:List ByteArray) (i:Nat) (hi:i<L.length):(W.alloc (.cells (L.map Value.string).toArray 9)).cell? ⟨W.heap.size,i,none⟩=some (.string (Yh L i)):=by
 have:=(St.new W (L.map Value.string).toArray 9).cl i (.string (Yh L i)) (by
  show (L.map Value.string).toArray.toList[i]?=_;rw [Vu,Yo,ZF hi,OT hi]
  rfl)
 exact this
end
section
open Go.RowKit Go.Conc
variable {s:ByteArray} {m:Int} {C:List (Nat × Value)} {L:List ByteArray} {S i j n:Nat} {P:Program} {κ:Sc} {e k t te:TypeId} {pe:Value} {W w w':World}
structure qH (m:Int) (te:TypeId) (pe:Value) (W:World):Prop where
 tc:PJ W
 pM : Lib.TabIs Tryz.prog W "internal/strconv.uint64pow10" .u64 Lib.pow10Tab
 er:W.cell? ⟨5,0,none⟩=some (.iface 345 (.agg #[.pointer (some ⟨11,182,none⟩)]))
 pl:ze W m te pe
 fm:tp W
def Gl (m:Int) (te:TypeId) (pe:Value) (κ:Sc) (w:World):Prop:=∀W,Gw κ w W→qH m te pe W
theorem Gw.boxed {X:List Nat} (h:Gw { κ with X:=X } w w'):Gw κ w w':=⟨h.os,h.tape,h.output,h.size,h.block⟩
section
variable {m:Int} {te:TypeId} {pe:Value} (κ:Sc) (σ:Sx) (w:World)
theorem Ki (h:Sv κ σ w) (hgl:Gl m te pe κ w) (hT:σ.T≠[]) (hQ:σ.Q≠[]) (vo vn:Value) (mu:Bool) (pa:ByteArray) (hf:σ.fs=[]) (hz:σ.zf<1000000) :
    Calls Tryz.prog 14 #[.pointer (some ⟨κ.sB,0,none⟩),.agg #[.int .i64 2,vo,.bool mu,.string pa,vn]] w fun e w'=>e=.returned (.string (strOfNums (VS ⟨#[102,108,117,115,104,101,100]⟩ [0,σ.zf])))∧Gw κ w w'∧∃ σ',σ'=σ∧Sv κ σ' w':=by
 refine RF κ σ _ w h hT hQ 2 (by decide) (by decide) (by decide) (by decide) vo vn mu pa _ (fun W hW hb=>?_);refine E8 W _ vo vn mu pa _ (fun w'=>Gw _ W w'∧∃ σ',σ'=σ∧Sv _ σ' w') (fun W2 hb2=>?_);have OY:=WD hb hb2;refine (CZ { κ with X:=(w.heap.size+2) :: κ.X } σ W2 (hW.below hb2) hf hz (fun W3 g=>(hgl W3 ((Gs.YZ OY).gw.trans g.boxed)).pM)).mono ?_;rintro e w' ⟨rfl,g,v⟩;exact ⟨rfl,(Gs.YZ hb2).gw.trans g.gw,σ,rfl,v⟩
theorem Kh (h:Sv κ σ w) (hgl:Gl m te pe κ w) (hT:σ.T≠[]) (hQ:σ.Q≠[]) (vo vn:Value) (mu:Bool) (pa:ByteArray) (hf:0<σ.fs.length) (hN:σ.fs.length≤4096) (h0:σ.off=0) (hroom:((σ.full.length+σ.fs.flatten.length:Nat):Int)≤κ.L*64) (hc:Wp κ.S κ.L=true) (hb:0≤σ.b∧σ.b≤1) (hk:σ.k≤8000) (hz:σ.zq<1000000) (hsp:σ.pw=none∨σ.sn=none) :
    Calls Tryz.prog 14 #[.pointer (some ⟨κ.sB,0,none⟩),.agg #[.int .i64 2,vo,.bool mu,.string pa,vn]] w fun e w'=>e=.returned (.string (strOfNums (VS ⟨#[102,108,117,115,104,101,100]⟩ [σ.fs.length,σ.zq])))∧Gw κ w w'∧∃ σ',σ'={ σ with T:=σ.Q,zf:=σ.zq,fs:=[],ql:=0,full:=σ.full++σ.fs.flatten,k:=σ.k+66,pw:=none }∧Sv κ σ' w':=by
 refine RF κ σ _ w h hT hQ 2 (by decide) (by decide) (by decide) (by decide) vo vn mu pa _ (fun W hW hb1=>?_);refine E8 W _ vo vn mu pa _ (fun w'=>Gw _ W w'∧∃ σ',σ'=_∧Sv _ σ' w') (fun W2 hb2=>?_);have OY:=WD hb1 hb2;refine (CW { κ with X:=(w.heap.size+2) :: κ.X } σ W2 (hW.below hb2) hf hN h0 hroom hc hb hk hz hsp (fun W3 g=>(hgl W3 ((Gs.YZ OY).gw.trans g.boxed)).pM)).mono ?_;rintro e w' ⟨rfl,g,v⟩;exact ⟨rfl,(Gs.YZ hb2).gw.trans g,_,rfl,v⟩
theorem Ey (h:Sv κ σ w) (hgl:Gl m te pe κ w) (hT:σ.T≠[]) (hQ:σ.Q≠[]) (vo vn:Value) (mu:Bool) (pa:ByteArray) (hk:σ.k≤9000) (hsn:σ.sn=none) (hz:σ.zf<1000000) (hfl:σ.full.length≤4096) :
    Calls Tryz.prog 14 #[.pointer (some ⟨κ.sB,0,none⟩),.agg #[.int .i64 6,vo,.bool mu,.string pa,vn]] w fun e w'=>e=.returned (.string (strOfNums (VS ⟨#[115,116,97,114,116,101,100]⟩ [σ.zf])))∧Gw κ w w'∧∃ σ',(∃pB,σ'={ σ with k:=σ.k+1,pw:=none,sn:=some (pB,σ.zf,σ.full.length - σ.off),em:=false })∧Sv κ σ' w':=by
 refine RF κ σ _ w h hT hQ 6 (by decide) (by decide) (by decide) (by decide) vo vn mu pa _ (fun W hW hb1=>?_);refine rg W _ vo vn mu pa _ (fun w'=>Gw _ W w'∧∃ σ',(∃pB,σ'=_)∧Sv _ σ' w') (fun W2 hb2=>?_);have OY:=WD hb1 hb2;refine (vG { κ with X:=(w.heap.size+2) :: κ.X } σ W2 (hW.below hb2) hk hsn hz hfl (fun W3 g=>(hgl W3 ((Gs.YZ OY).gw.trans g.boxed)).pM)).mono ?_;rintro e w' ⟨rfl,g,pB,v⟩;exact ⟨rfl,(Gs.YZ hb2).gw.trans g,_,⟨pB,rfl⟩,v⟩
theorem Hg (h:Sv κ σ w) (hgl:Gl m te pe κ w) (hT:σ.T≠[]) (hQ:σ.Q≠[]) (vo vn:Value) (pa:ByteArray) (os:List TO) (ho:JR w vo os) (CK:Pp κ vo) (Ex:∀q,vo.ownBlock=some q→q<w.heap.size) (hseq:∀i,(Qg os i).seq=false) (hol:os.length≤1000) (hos:∀i,(Qg os i).path.size≤1048576∧(Qg os i).data.size≤1048576)
    (Zz:∀i,(Ye σ.Q i).path.size≤1048576∧(Ye σ.Q i).data.size≤1048576) (hz:σ.zq<900000) (A:Pa) (hA:CV σ.Q os ((σ.zq:Int)+1)=A) (fI:0≤A.c∧A.c<1000) (fH:0≤A.z∧A.z<1000000)
    (hes:∀i,(Vr A.es i).nd.path.size≤1048576∧(Vr A.es i).nd.data.size≤1048576) (him:A.c=0→0<(Va A.z A.es).length∧(Va A.z A.es).length≤2000) (hL:0≤κ.L∧κ.L≤64) (hfl:σ.full.length≤4096) (pP:σ.ql≤4096)
    (hroom:A.c=0→(((σ.full.length - σ.off)+(σ.ql+(fr (Va A.z A.es)).length):Nat):Int)≤κ.L*64→σ.fs.length<κ.cap) :
    Calls Tryz.prog 14 #[.pointer (some ⟨κ.sB,0,none⟩),.agg #[.int .i64 1,vo,.bool false,.string pa,vn]] w fun e w'=>e=.returned (.string (CL κ σ A).1)∧Gw κ w w'∧∃ σ',σ'=(CL κ σ A).2∧Sv κ σ' w':=by
 refine RF κ σ _ w h hT hQ 1 (by decide) (by decide) (by decide) (by decide) vo vn false pa _ (fun W hW hb1=>?_);refine C3 W _ vo vn false pa _ (fun w'=>Gw _ W w'∧∃ σ',σ'=_∧Sv _ σ' w') (fun W2 hb2=>?_);have OY:=WD hb1 hb2;refine (EW { κ with X:=(w.heap.size+2) :: κ.X } σ W2 (hW.below hb2) vo vn pa os (ho.below OY) (fun q hq=>?_) hseq hol hos Zz hz A hA fI fH hes him hL hfl pP hroom (hgl W2 (Gs.YZ OY).gw).er (fun W3 g=>(hgl W3 ((Gs.YZ OY).gw.trans g.boxed)).pM)).mono ?_
 · obtain ⟨q1,q2,q3,q4,q5⟩:=CK q hq
   have:=Ex q hq;refine ⟨q1,q2,q3,q4,fun e=>?_⟩
   rcases Y9.1 e with e | e
   · omega
   exact q5 e
 rintro e w' ⟨rfl,g,v⟩;exact ⟨rfl,(Gs.YZ hb2).gw.trans g.gw,_,rfl,v⟩
theorem Ew (h:Sv κ σ w) (hgl:Gl m te pe κ w) (hT:σ.T≠[]) (hQ:σ.Q≠[]) (vo vn:Value) (mu:Bool) (pa:ByteArray) (nh:Rd .i64 w vn [1000]) (pB z o:Nat) (hsn:σ.sn=some (pB,z,o)) (hem:σ.em=false) (iB:σ.T.length≤1000) (fC:∀i,i<σ.T.length→Wl (Ye σ.T i)=true) (fB:∀i,i<σ.T.length→0<(Ye σ.T i).path.size) (fA:(Xn σ.T).length≤100000) (hTy:Sn (Xn σ.T)) (hfs:σ.fs=[])
    (hpw:σ.pw=none) (hg:σ.g=1) (hb:σ.b=0) (hoff:σ.off=0) (ho:o≤σ.full.length) (hfl:(σ.full.length:Int)≤κ.L*64) (hz:z<1000000) (hk:σ.k≤1000) (hc:Wp κ.S κ.L=true) :
    Calls Tryz.prog 14 #[.pointer (some ⟨κ.sB,0,none⟩),.agg #[.int .i64 7,vo,.bool mu,.string pa,vn]] w fun e w'=>e=.returned (.string (if ((Xn σ.T).length:Int)≤κ.S*64 then strOfNums (VS ⟨#[115,101,97,108,101,100]⟩ [z]) else ⟨#[115,110,97,112,102,117,108,108]⟩))∧Gw κ w w'∧∃ σ',(∃l r,σ'=if ((Xn σ.T).length:Int)≤κ.S*64 then { σ with k:=σ.k+135,g:=2,b:=1,s:=(z:Int),l:=l,r:=r,off:=o,sn:=none,em:=true,pw:=none } else { σ with sn:=none,em:=true })∧Sv κ σ' w':=by
 refine RF κ σ _ w h hT hQ 7 (by decide) (by decide) (by decide) (by decide) vo vn mu pa _ (fun W hW hb1=>?_);refine rf W _ vo vn mu pa _ (fun w'=>Gw _ W w'∧∃ σ',(∃l r,σ'=_)∧Sv _ σ' w') 1000 (nh.below hb1) (fun W2 hb2=>?_);have OY:=WD hb1 hb2;refine (uT { κ with X:=(w.heap.size+2) :: κ.X } σ W2 (hW.below hb2) pB z o hsn hem (List.length_pos_iff.2 hT) iB fC fB fA hTy hQ hfs hpw hg hb hoff ho hfl hz hk hc (fun W3 g=>(hgl W3 ((Gs.YZ OY).gw.trans g.boxed)).tc) (fun W3 g=>(hgl W3 ((Gs.YZ OY).gw.trans g.boxed)).pM)).mono ?_;rintro e w' ⟨g,l,r,⟨h1,rfl,v⟩ | ⟨h1,rfl,v⟩⟩
 · have h2:((Xn σ.T).length:Int)≤κ.S*64:=h1
   exact ⟨by rw [Z0 h2],(Gs.YZ hb2).gw.trans g,_,⟨l,r,(Z0 h2).symm⟩,v⟩
 have h2:¬((Xn σ.T).length:Int)≤κ.S*64:=by have h3:κ.S*64<((Xn σ.T).length:Int):=h1;omega
 exact ⟨by rw [Z1 h2],(Gs.YZ hb2).gw.trans g,_,⟨l,r,(Z1 h2).symm⟩,v⟩
end
end
section
open Go.RowKit Go.Shelf
variable {s:ByteArray} {m:Int} {C:List (Nat × Value)} {L:List ByteArray} {S i j n:Nat} {P:Program} {κ:Sc} {e k t te:TypeId} {pe:Value} {W w w':World}
def pA:ByteArray:=⟨#[47,97]⟩
def xB (n:Nat):ByteArray:=⟨(List.replicate n (120:UInt8)).toArray⟩
theorem Tf (n:Nat):(xB n).size=n:=by simp [xB,ByteArray.size]
def CC:Nd:=⟨Vq,empty,0,1,0,0,1⟩
def JJ (n i:Nat):Nd:=⟨pA,xB n,(i:Int),0,1,(i:Int)+1,1⟩
def Vp (n i:Nat):List Nd:=[CC,JJ n i]
def opC (n:Nat):TO:=⟨1,pA,xB n,0,false⟩
def Kg (n:Nat):TO:=⟨3,pA,xB n,-1,false⟩
theorem mN:Vq.size=1:=rfl
theorem mM:empty.size=0:=rfl
theorem mL:pA.size=2:=rfl
theorem A6:Xi pA=true:=by decide +kernel
theorem uC:Op.bytesLess Vq.toList pA.toList=true:=by decide +kernel
theorem jM:Op.bytesLess pA.toList Vq.toList=false:=by decide +kernel
theorem Ev:(Vq.toList == pA.toList)=false:=by decide +kernel
theorem jL:(pA.toList == Vq.toList)=false:=by decide +kernel
theorem pL:Op.bytesLess pA.toList pA.toList=false:=by decide +kernel
theorem uB:Op.bytesLess Vq.toList Vq.toList=false:=by decide +kernel
theorem jK:(pA.toList == [47])=false:=by decide +kernel
theorem mJ:UZ pA=Vq:=by kernel_rfl
theorem CA (hn:n≤64) (hi:i≤1000):Wl (JJ n i)=true:=by
 unfold Wl PP JJ
 simp [A6,Tf]
 omega
theorem Cy:Wl CC=true:=by decide +kernel
theorem Eu:Kz [Yx]:=P4.1 Nf
theorem NY (hn:n≤64) (hi:i≤1000):Kz (Vp n i):=by
 refine ⟨?_,?_,by simp [Vp]⟩
 · simp [Asc,Vp,Ty,CC,JJ,uC]
 simp [Vp,CA hn hi,Cy]
theorem fj (hn:n≤64):OK (opC n)=true:=by
 unfold OK opC
 simp [A6,Tf,jK,hn]
theorem jJ (hn:n≤64):OK (Kg n)=true:=by
 unfold OK Kg
 simp [A6,Tf,hn]
theorem fh (hn:n≤64):Rx [Yx] (opC n) 1=(0,Vp n 0,pA):=by
 have e1:LU [Yx] ⟨pA,xB n,0,0,1,1,1⟩=[Yx,JJ n 0]:=by
  unfold LU qi
  simp [GM,Yx,uC,Ev,JJ]
 have e2:LU [Yx,JJ n 0] { Yx with XQ:=1,pz:=1 }=Vp n 0:=by
  unfold LU qi
  simp [GM,Yx,jM,jL,uB,JJ,Vp,CC]
 unfold Rx;rw [fj hn]
 simp only [opC,mJ,Uz,Bool.not_true,Yu,WW,Vo,A6]
 have f1:[Yx].findIdx (U9 Vq)=0:=by simp [VP,U9,Yx]
 have f2:[Yx].findIdx (U9 pA)=1:=by simp [VP,U9,Yx,Ev]
 rw [f1,f2,e1];have f3:[Yx,JJ n 0].findIdx (U9 Vq)=0:=by simp [VP,U9,Yx]
 unfold toN;rw [f3]
 simp [Ye,LF]
 exact e2
theorem fe (hn:n≤64) (hi:i≤1000):Rx (Vp n i) (Kg n) ((i:Int)+2)=(0,Vp n (i+1),pA):=by
 have f2:(Vp n i).findIdx (U9 pA)=1:=by simp [VP,U9,Vp,CC,JJ,Ev]
 have e2:∀a:Nd,a.path=pA→LU (Vp n i) a=[CC,a]:=by
  intro a ha;unfold LU qi
  simp [GM,Vp,CC,JJ,ha,uC,Ev,pL]
 unfold Rx;rw [jJ hn]
 simp only [Kg]
 rw [Z1 (show ¬(!true)=true by decide),Z1 (show ¬(3:Int)=1 by decide),f2,Z1 (by simp [Vp]),Z1 (by simp),Z1 (show ¬(3:Int)=2 by decide),Z0 trivial,e2 _ rfl];have h1:¬(i:Int)=2147483647:=by omega
 simp [Vp,Ye,JJ,LF,h1]
 omega
theorem fa (hn:n≤64) (z:Int):Rx [Yx] (Kg n) z=(2,[Yx],⟨#[]⟩):=by
 have f2:[Yx].findIdx (U9 pA)=1:=by simp [VP,U9,Yx,Ev]
 unfold Rx;rw [jJ hn]
 simp [Kg,f2]
theorem jI (hn:n≤64):CV [Yx] [opC n] 1=⟨0,0,1,[[47,97]],UY [Yx] (Vp n 0)⟩:=by
 have e:RZ 1 [opC n] [Yx] 0 []=(0,1,Vp n 0,[pA]):=by simp [RZ,fh hn]
 have h:RY [Yx] [opC n] 1=true:=by unfold RY;simp [Nf]
 unfold CV;rw [Z0 h,e]
 simp [ng,pA]
theorem jH (hn:n≤64) (hi:i≤900):CV (Vp n i) [Kg n] ((i:Int)+2)=⟨0,0,(i:Int)+2,[[47,97]],UY (Vp n i) (Vp n (i+1))⟩:=by
 have e:RZ ((i:Int)+2) [Kg n] (Vp n i) 0 []=(0,1,Vp n (i+1),[pA]):=by simp [RZ,fe hn (show i≤1000 by omega)]
 have h:RY (Vp n i) [Kg n] ((i:Int)+2)=true:=by
  unfold RY
  simp [P4.2 (NY hn (show i≤1000 by omega))]
  omega
 unfold CV;rw [Z0 h,e]
 simp [ng,pA]
theorem jG (hn:n≤64):CV [Yx] [Kg n] 1=⟨2,0,0,[],[]⟩:=by
 have e:RZ 1 [Kg n] [Yx] 0 []=(2,0,[Yx],[]):=by simp [RZ,fa hn]
 have h:RY [Yx] [Kg n] 1=true:=by unfold RY;simp [Nf]
 unfold CV;rw [Z0 h,e]
 simp
theorem pK :UY [Yx] (Vp n 0)=[TV CC,TV (JJ n 0)]:=by
 have h:LR Yx CC=false:=by decide +kernel
 simp [Vp,UY,Ty,show Yx.path=Vq from rfl,show CC.path=Vq from rfl,uB,h]
theorem pJ :UY (Vp n i) (Vp n (i+1))=[TV (JJ n (i+1))]:=by
 have h:LR CC CC=true:=by decide +kernel
 have h2:LR (JJ n i) (JJ n (i+1))=false:=by
  have:((i:Int) == ((i:Int)+1))=false:=by simp;omega
  simp [LR,JJ,this]
 simp [Vp,UY,Ty,show CC.path=Vq from rfl,show ∀k,(JJ n k).path=pA from fun _=>rfl,uB,pL,h,h2]
theorem jF (hn:n≤64):Tl 1 (UY [Yx] (Vp n 0))=true:=Hq Eu (NY hn (by omega)) (by simp [Vp]) (by omega)
theorem jE (hn:n≤64) (hi:i≤900):Tl ((i:Int)+2) (UY (Vp n i) (Vp n (i+1)))=true:=Hq (NY hn (by omega)) (NY hn (by omega)) (by simp [Vp]) (by omega)
theorem jD (hn:n≤64):PO [Yx] 1 (UY [Yx] (Vp n 0))=Vp n 0:=Fg Eu (NY hn (by omega)) (by simp [Vp]) (by omega)
theorem jC (hn:n≤64) (hi:i≤900):PO (Vp n i) ((i:Int)+2) (UY (Vp n i) (Vp n (i+1)))=Vp n (i+1):=Fg (NY hn (by omega)) (NY hn (by omega)) (by simp [Vp]) (by omega)
theorem A0 (hn:n≤64):(Va 1 (UY [Yx] (Vp n 0))).length=55+n:=by
 unfold Va;rw [Z0 (jF hn),pK]
 simp [SL,OM,TV,Xd,Sb,JJ,CC,Tf,mN,mM,mL]
 omega
theorem AZ (hn:n≤64) (hi:i≤900):(Va ((i:Int)+2) (UY (Vp n i) (Vp n (i+1)))).length=31+n:=by
 unfold Va;rw [Z0 (jE hn hi),pJ]
 simp [SL,OM,TV,Xd,Sb,JJ,Tf,mL]
 omega
def Xv (n:Nat):Nat:=2+(8*(55+n)+6) / 7
def Xh (n:Nat):Nat:=2+(8*(31+n)+6) / 7
theorem jB (hn:n≤64):(fr (Va 1 (UY [Yx] (Vp n 0)))).length=Xv n:=by
 rw [CM (by rw [A0 hn];omega) (by rw [A0 hn];omega),A0 hn];rfl
theorem mH (hn:n≤64) (hi:i≤900):(fr (Va ((i:Int)+2) (UY (Vp n i) (Vp n (i+1))))).length=Xh n:=by
 rw [CM (by rw [AZ hn hi];omega) (by rw [AZ hn hi];omega),AZ hn hi];rfl
theorem yW:(Xn [Yx]).length=23:=by simp [Xn,Sb,Yx,mN,mM]
theorem qG :(Xn (Vp n i)).length=23+24+n:=by
 simp [Xn,Vp,Sb,JJ,CC,Tf,mN,mM,mL]
 omega
def xL (n:Nat):List UInt8:=List.replicate n 120
def Et (n:Nat):ByteArray:=UG ([99,114,101,97,116,101]++32 :: ([47,97]++32 :: xL n))
def Hf (n:Nat):ByteArray:=UG ([115,101,116]++32 :: ([47,97]++32 :: (xL n++32 :: [45,49])))
def NW:ByteArray:=⟨#[102,108,117,115,104]⟩
def DW:ByteArray:=⟨#[115,110,97,112]⟩
def AY:ByteArray:=⟨#[115,116,101,112,32,49,48,48,48]⟩
theorem jA (n:Nat):(32:UInt8) ∉ xL n:=by
 unfold xL;intro h;have:=(List.mem_replicate.1 h).2;exact absurd this (by decide)
theorem He (h:1≤n):Wh (UG (xL n))=true:=by
 unfold Wh;have h1:(UG (xL n)).size=n:=by simp [UG,ByteArray.size,xL]
 rw [Qu,h1]
 simp only [ZA,Zj]
 refine ⟨by omega,?_⟩;unfold xL;rw [Yw];intro c hc;rw [(List.mem_replicate.1 hc).2]
 decide
theorem qF (n:Nat) (c:List UInt8) (hc:c.head?≠some 120) (h:1≤n):((UG (xL n)).toList == c)=false:=by
 have e:(UG (xL n)).toList=xL n:=by rw [YG];rfl
 rw [e];obtain ⟨m,rfl⟩:∃m,n=m+1:=⟨n - 1,by omega⟩
 cases c with
 | nil=>rfl
 | cons a c =>
  have:¬(120:UInt8)=a:=fun e=>hc (by simp [e])
  simp [xL,List.replicate_succ,this]
theorem uA (n:Nat):UH (Et n)=[UG [99,114,101,97,116,101],pA,UG (xL n)]:=by
 unfold UH Et;rw [Qu,Rg _ _ _ (by decide),Rg _ _ _ (by decide),RQ _ _ (jA n)]
 rfl
theorem uz (n:Nat):UH (Hf n)=[UG [115,101,116],pA,UG (xL n),UG [45,49]]:=by
 unfold UH Hf;rw [Qu,Rg _ _ _ (by decide),Rg _ _ _ (by decide),Rg _ _ _ (jA n),RQ _ _ (by decide)]
 rfl
theorem qE (h:1≤n) (hn:n≤64):TQ (Et n)=⟨1,[opC n],false,⟨#[]⟩,[]⟩:=by
 have hs:(Et n).size=10+n:=by simp [Et,UG,ByteArray.size,xL];omega
 have g1:Wh (UG [99,114,101,97,116,101])=true:=by decide +kernel
 have g2:Wh pA=true:=by decide +kernel
 unfold TQ;rw [Z1 (by omega),uA];have ga:[UG [99,114,101,97,116,101],pA,UG (xL n)].all Wh=true:=by simp [g1,g2,He h]
 rw [Z0 ga,Kk (by show ((UG [99,114,101,97,116,101]).toList == [99,114,101,97,116,101])=true;decide +kernel)];have s1:TU (UG [99,114,101,97,116,101])=false:=by decide +kernel
 have s2:TU pA=false:=by decide +kernel
 have s3:TU (UG (xL n))=false:=qF n _ (by decide) h;have e1:((UG [99,114,101,97,116,101]).toList == [99,114,101,97,116,101])=true:=by decide +kernel
 have e2:NZ (UG (xL n))=xB n:=by unfold NZ;rw [qF n _ (by decide) h];rfl
 have eo:PT [UG [99,114,101,97,116,101],pA,UG (xL n)]=some (opC n):=by
  unfold PT
  simp only [List.any_cons,List.any_nil,s1,s2,s3,Bool.or_false,Yu,WW,ZE,Y7,Nat.reduceAdd,Vo,Yh,XM,Uq]
  unfold JO;rw [Z0 e1,e2]
  rfl
 rw [eo]
theorem AX (h:1≤n) (hn:n≤64):TQ (Hf n)=⟨1,[Kg n],false,⟨#[]⟩,[]⟩:=by
 have hs:(Hf n).size=10+n:=by simp [Hf,UG,ByteArray.size,xL];omega
 have g1:Wh (UG [115,101,116])=true:=by decide +kernel
 have g2:Wh pA=true:=by decide +kernel
 have g3:Wh (UG [45,49])=true:=by decide +kernel
 unfold TQ;rw [Z1 (by omega),uz];have ga:[UG [115,101,116],pA,UG (xL n),UG [45,49]].all Wh=true:=by simp [g1,g2,g3,He h]
 rw [Z0 ga,A7 (by show ((UG [115,101,116]).toList == [115,101,116])=true;decide +kernel)];have s1:TU (UG [115,101,116])=false:=by decide +kernel
 have s2:TU pA=false:=by decide +kernel
 have s3:TU (UG (xL n))=false:=qF n _ (by decide) h;have s4:TU (UG [45,49])=false:=by decide +kernel
 have e1:((UG [115,101,116]).toList == [115,101,116])=true:=by decide +kernel
 have e2:NZ (UG (xL n))=xB n:=by unfold NZ;rw [qF n _ (by decide) h];rfl
 have e3:SP (UG [45,49]).data.toList=some (-1):=by decide +kernel
 have eo:PT [UG [115,101,116],pA,UG (xL n),UG [45,49]]=some (Kg n):=by
  unfold PT
  simp only [List.any_cons,List.any_nil,s1,s2,s3,s4,Bool.or_false,Yu,WW,ZE,Y7,Nat.reduceAdd,Vo,Yh,XM,Uq,Nat.reduceEqDiff]
  unfold JN;rw [Z0 e1,e2,e3]
  rfl
 rw [eo]
theorem uy:UH NW=[NW]:=by unfold UH;rw [show NW.data.toList=[102,108,117,115,104] from rfl,RQ _ _ (by decide)];rfl
theorem ux:UH DW=[DW]:=by unfold UH;rw [show DW.data.toList=[115,110,97,112] from rfl,RQ _ _ (by decide)];rfl
theorem uw:UH AY=[UG [115,116,101,112],UG [49,48,48,48]]:=by
 unfold UH;rw [show AY.data.toList=[115,116,101,112]++32 :: [49,48,48,48] from rfl,Rg _ _ _ (by decide),RQ _ _ (by decide)];rfl
theorem AW:TQ NW=⟨2,[],false,⟨#[]⟩,[]⟩:=by
 unfold TQ;rw [Z1 (by decide),uy,Z0 (by decide +kernel),IW (by decide +kernel)];rfl
theorem qD:TQ DW=⟨6,[],false,⟨#[]⟩,[]⟩:=by
 unfold TQ;rw [Z1 (by decide),ux,Z0 (by decide +kernel),EE (by decide +kernel)];rfl
theorem qC:TQ AY=⟨7,[],false,⟨#[]⟩,[1000]⟩:=by
 unfold TQ;rw [Z1 (by decide),uw,Z0 (by decide +kernel),ED (by decide +kernel)];kernel_rfl
def Qt (n:Nat):List ByteArray:=[Et n,NW]++List.replicate 110 (Hf n)++[NW,DW,AY,Hf n]
theorem Re (n:Nat):(Qt n).length=116:=by simp [Qt]
theorem uu (n k:Nat) (hk:k<116):(Qt n).getD k ⟨#[]⟩=if k=0 then Et n else if k=1 then NW else if k<112 then Hf n else if k=112 then NW else if k=113 then DW else if k=114 then AY else Hf n:=by
 unfold Qt;rw [List.getD,ZO]
 by_cases h2:k<2
 · rw [Zy (by simpa using h2)]
   have:k=0∨k=1:=by omega
   rcases this with rfl | rfl <;> simp
 rw [Zv (by simp;omega)]
 simp only [ZE,Y7,Nat.reduceAdd]
 by_cases h3:k<112
 · rw [Zy (by simp;omega),WZ,Z0 (by omega),Z1 (by omega),Z1 (by omega),Z0 h3];rfl
 rw [Zv (by simp;omega),XJ];have:k=112∨k=113∨k=114∨k=115:=by omega
 rcases this with rfl | rfl | rfl | rfl <;> simp
end
section
open Go.RowKit Go.Conc
variable {s:ByteArray} {m:Int} {C:List (Nat × Value)} {L:List ByteArray} {S i j n:Nat} {P:Program} {κ:Sc} {e k t te:TypeId} {pe:Value} {W w w':World}
def tl (s:ByteArray) (zs:List Nat):ByteArray:=strOfNums (VS s zs)
def wQ:ByteArray:=⟨#[113,117,101,117,101,100]⟩
def wE:ByteArray:=⟨#[101,114,114,111,114]⟩
def wF:ByteArray:=⟨#[102,108,117,115,104,101,100]⟩
def wS:ByteArray:=⟨#[115,116,97,114,116,101,100]⟩
def wL:ByteArray:=⟨#[115,101,97,108,101,100]⟩
def wU:ByteArray:=⟨#[115,110,97,112,102,117,108,108]⟩
def VC (L n:Nat):Nat:=(L*64 - Xv n) / Xh n
def VZ (L n:Nat):Nat:=min 110 (VC L n)
def VY (S L n k:Nat):ByteArray :=
 if Xv n≤L*64 then
  if k=0 then tl wQ [1] else if k=1 then tl wF [1,1]
  else if k<112 then (if k - 2<VC L n then tl wQ [k] else tl wE [8])
  else if k=112 then tl wF [VZ L n,VZ L n+1] else if k=113 then tl wS [VZ L n+1]
  else if k=114 then (if 47+n≤S*64 then tl wL [VZ L n+1] else wU)
  else if 47+n≤S*64∨110<VC L n then tl wQ [VZ L n+2] else tl wE [8]
 else
  if k=0 then tl wE [8] else if k=1∨k=112 then tl wF [0,0] else if k=113 then tl wS [0] else if k=114 then tl wL [0] else tl wE [2]
def eC (σ:Sx):Prop:=σ.g=1∧σ.b=0∧σ.off=0
def Rt (σ:Sx):Prop:=σ.T=[Yx]∧σ.zf=0∧σ.Q=[Yx]∧σ.zq=0∧σ.fs=[]∧σ.ql=0∧σ.full=[]
structure Cr (n:Nat) (σ:Sx) (q f ln:Nat):Prop where
 Q:σ.Q=Vp n q
 zq:σ.zq=q+1
 T:σ.T=Vp n f
 zf:σ.zf=f+1
 le:f≤q
 fs:σ.fs.length=q - f
 fl:σ.fs.flatten.length=σ.ql
 ql:σ.ql=(q - f)*Xh n
 ln:σ.full.length - σ.off=ln
def Rk (S L n k:Nat) (σ:Sx):Prop :=
 (k≤1→σ.k=0)∧(k≤112→σ.k≤66)∧(k≤113→σ.k≤132)∧(k≤114→σ.k≤133∧eC σ)∧(k≤113→σ.sn=none)∧(k≤114→σ.em=false)∧(k=114→σ.pw=none)∧(k≤115→σ.full.length≤4096) ∧
 if Xv n≤L*64 then
  if k=0 then Rt σ
  else if k=1 then σ.T=[Yx]∧σ.zf=0∧σ.Q=Vp n 0∧σ.zq=1∧σ.fs.length=1∧σ.fs.flatten.length=Xv n∧σ.ql=Xv n∧σ.full=[]
  else if k≤112 then Cr n σ (min (k - 2) (VC L n)) 0 (Xv n)
  else if k=113 then Cr n σ (VZ L n) (VZ L n) (Xv n+VZ L n*Xh n)
  else if k=114 then Cr n σ (VZ L n) (VZ L n) (Xv n+VZ L n*Xh n)∧∃pB,σ.sn=some (pB,VZ L n+1,σ.full.length)
  else if k=115 then Cr n σ (VZ L n) (VZ L n) (if 47+n≤S*64 then 0 else Xv n+VZ L n*Xh n)
  else σ.T≠[]∧σ.Q≠[]
 else
  if k=114 then Rt σ∧∃pB,σ.sn=some (pB,0,0)
  else if k=115 then σ.Q=[Yx]∧σ.zq=0∧σ.ql=0∧σ.T=[Yx]
  else if k≤113 then Rt σ else σ.T≠[]∧σ.Q≠[]
theorem Rk.ne {L k:Nat} {σ:Sx} (h:Rk S L n k σ):σ.T≠[]∧σ.Q≠[]:=by
 obtain ⟨-,-,-,-,-,-,-,-,r8⟩:=h;have hr:[Yx]≠[]:=by simp
 have ht:∀i,Vp n i≠[]:=fun i=>by simp [Vp]
 by_cases h9:Xv n≤L*64
 · rw [Z0 h9] at r8
   by_cases h0:k=0
   · rw [Z0 h0] at r8;rw [r8.1,r8.2.2.1];exact ⟨hr,hr⟩
   rw [Z1 h0] at r8
   by_cases h1:k=1
   · rw [Z0 h1] at r8;rw [r8.1,r8.2.2.1];exact ⟨hr,ht _⟩
   rw [Z1 h1] at r8
   by_cases h2:k≤112
   · rw [Z0 h2] at r8;rw [r8.T,r8.Q];exact ⟨ht _,ht _⟩
   rw [Z1 h2] at r8
   by_cases h3:k=113
   · rw [Z0 h3] at r8;rw [r8.T,r8.Q];exact ⟨ht _,ht _⟩
   rw [Z1 h3] at r8
   by_cases h4:k=114
   · rw [Z0 h4] at r8;rw [r8.1.T,r8.1.Q];exact ⟨ht _,ht _⟩
   rw [Z1 h4] at r8
   by_cases h5:k=115
   · rw [Z0 h5] at r8;rw [r8.T,r8.Q];exact ⟨ht _,ht _⟩
   rw [Z1 h5] at r8;exact r8
 rw [Z1 h9] at r8
 by_cases h4:k=114
 · rw [Z0 h4] at r8;rw [r8.1.1,r8.1.2.2.1];exact ⟨hr,hr⟩
 rw [Z1 h4] at r8
 by_cases h5:k=115
 · rw [Z0 h5] at r8;rw [r8.2.2.2,r8.1];exact ⟨hr,hr⟩
 rw [Z1 h5] at r8
 by_cases h6:k≤113
 · rw [Z0 h6] at r8;rw [r8.1,r8.2.2.1];exact ⟨hr,hr⟩
 rw [Z1 h6] at r8;exact r8
theorem Kf {L:Nat} (h:Xv n≤L*64):i≤VC L n↔Xv n+i*Xh n≤L*64:=by
 have h0:0<Xh n:=by unfold Xh;omega
 unfold VC;rw [Nat.le_div_iff_mul_le h0];omega
theorem yV :Xh n≤Xv n:=by unfold Xh Xv;omega
structure yy (κ:Sc) (S L:Nat):Prop where
 eS:κ.S=(S:Int)
 eL:κ.L=(L:Int)
 cap:κ.cap=L*64 / 9
 c:Wp κ.S κ.L=true
theorem yy.b {L:Nat} (h:yy κ S L):(1≤S∧S≤64)∧1≤L∧L≤64:=by
 obtain ⟨⟨h1,h2⟩,h3,h4⟩:=(Xk κ.S κ.L).1 h.c;rw [h.eS] at h1 h2;rw [h.eL] at h3 h4;omega
theorem jz (hn:n≤64):(Ye (Vp n i) j).path.size≤1048576∧(Ye (Vp n i) j).data.size≤1048576:=by
 match j with
 | 0=>exact ⟨by show Vq.size≤_;decide,by show empty.size≤_;decide⟩
 | 1 =>
  refine ⟨by show pA.size≤_;decide,?_⟩;show (xB n).size≤_;rw [Tf];omega
 | j+2=>exact ⟨by show (ByteArray.empty).size≤_;decide,by show (ByteArray.empty).size≤_;decide⟩
theorem pI :(Ye [Yx] j).path.size≤1048576∧(Ye [Yx] j).data.size≤1048576:=by
 match j with
 | 0=>exact ⟨by decide,by decide⟩
 | j+1=>exact ⟨by show (ByteArray.empty).size≤_;decide,by show (ByteArray.empty).size≤_;decide⟩
theorem IU {o:TO} (h1:o.path.size≤1048576∧o.data.size≤1048576) (h2:o.seq=false):(Qg [o] j).seq=false∧(Qg [o] j).path.size≤1048576∧(Qg [o] j).data.size≤1048576:=by
 match j with
 | 0=>exact ⟨h2,h1⟩
 | j+1=>exact ⟨rfl,by show (ByteArray.empty).size≤_;decide,by show (ByteArray.empty).size≤_;decide⟩
theorem eZ (hn:n≤64):(Vr (UY [Yx] (Vp n 0)) j).nd.path.size≤1048576∧(Vr (UY [Yx] (Vp n 0)) j).nd.data.size≤1048576:=by
 rw [pK]
 match j with
 | 0=>exact ⟨by show Vq.size≤_;decide,by show empty.size≤_;decide⟩
 | 1 =>
  refine ⟨by show pA.size≤_;decide,?_⟩;show (xB n).size≤_;rw [Tf];omega
 | j+2=>exact ⟨by show (ByteArray.empty).size≤_;decide,by show (ByteArray.empty).size≤_;decide⟩
theorem eY (hn:n≤64):(Vr (UY (Vp n i) (Vp n (i+1))) j).nd.path.size≤1048576∧(Vr (UY (Vp n i) (Vp n (i+1))) j).nd.data.size≤1048576:=by
 rw [pJ]
 match j with
 | 0 =>
  refine ⟨by show pA.size≤_;decide,?_⟩;show (xB n).size≤_;rw [Tf];omega
 | j+1=>exact ⟨by show (ByteArray.empty).size≤_;decide,by show (ByteArray.empty).size≤_;decide⟩
theorem pH (hn:n≤64):(opC n).path.size≤1048576∧(opC n).data.size≤1048576:=⟨by show pA.size≤_;decide,by show (xB n).size≤_;rw [Tf];omega⟩
theorem AV (hn:n≤64):(Kg n).path.size≤1048576∧(Kg n).data.size≤1048576:=⟨by show pA.size≤_;decide,by show (xB n).size≤_;rw [Tf];omega⟩
theorem Rm :Vp n i≠[]:=by simp [Vp]
theorem QL:[Yx]≠[]:=by simp
theorem mG (hn:n≤64) (hi:i≤1000):Sn (Xn (Vp n i)):=by
 intro x hx;obtain ⟨m,hm,hx⟩:=List.mem_flatMap.1 hx
 rcases Y9.1 hm with rfl | hm
 · exact P2 Cy x hx
 rcases Y9.1 hm with rfl | hm
 · exact P2 (CA hn hi) x hx
 cases hm
theorem mF:Sn (Xn [Yx]):=by
 intro x hx;obtain ⟨m,hm,hx⟩:=List.mem_flatMap.1 hx
 rcases Y9.1 hm with rfl | hm
 · exact P2 (by decide +kernel) x hx
 cases hm
theorem mD (hn:n≤64) (hi:i≤1000):∀j,j<(Vp n i).length→Wl (Ye (Vp n i) j)=true∧0<(Ye (Vp n i) j).path.size:=by
 intro j hj
 match j,hj with
 | 0,_=>exact ⟨Cy,by show 0<Vq.size;decide⟩
 | 1,_=>exact ⟨CA hn hi,by show 0<pA.size;decide⟩
 | j+2,h=>simp [Vp] at h;omega
theorem mC:∀j,j<[Yx].length→Wl (Ye [Yx] j)=true∧0<(Ye [Yx] j).path.size:=by
 intro j hj
 match j,hj with
 | 0,_=>exact ⟨by decide +kernel,by decide⟩
 | j+1,h=>simp at h
section
variable {m:Int} {te:TypeId} {pe:Value} {S L n:Nat} {κ:Sc} {σ:Sx} {w:World}
theorem eX (hκ:yy κ S L) (h:Sv κ σ w) (hgl:Gl m te pe κ w) (hn:n≤64) (hT:σ.T≠[]) (hQ:σ.Q=[Yx]) (hz:σ.zq=0) (hfs:σ.fs.length=0) (pP:σ.ql=0) (hfl:σ.full.length≤4096) (vo vn:Value) (pa:ByteArray) (ho:JR w vo [opC n]) (CK:Pp κ vo) (Ex:∀q,vo.ownBlock=some q→q<w.heap.size) :
    Calls Tryz.prog 14 #[.pointer (some ⟨κ.sB,0,none⟩),.agg #[.int .i64 1,vo,.bool false,.string pa,vn]] w fun e w'=>e=.returned (.string (if L*64<σ.full.length - σ.off+Xv n then tl wE [8] else tl wQ [1]))∧Gw κ w w'∧∃ σ',σ'=(if L*64<σ.full.length - σ.off+Xv n then σ else { σ with Q:=Vp n 0,zq:=1,fs:=σ.fs++[fr (Va 1 (UY [Yx] (Vp n 0)))],ql:=Xv n })∧Sv κ σ' w':=by
 have hA:CV σ.Q [opC n] ((σ.zq:Int)+1)=⟨0,0,1,[[47,97]],UY [Yx] (Vp n 0)⟩:=by rw [hQ,hz];exact jI hn
 have hb:=hκ.b;refine (Hg κ σ w h hgl hT (by rw [hQ];exact QL) vo vn pa [opC n] ho CK Ex (fun i=>(IU (pH hn) rfl).1) (by simp) (fun i=>(IU (pH hn) rfl).2) (by rw [hQ];exact fun i=>pI) (by omega) _ hA ⟨by show (0:Int)≤0;decide,by show (0:Int)<1000;decide⟩ ⟨by show (0:Int)≤1;decide,by show (1:Int)<1000000;decide⟩ (fun i=>eZ hn) (fun _=>by show 0<(Va 1 _).length∧(Va 1 _).length≤2000;rw [A0 hn];omega) (by rw [hκ.eL];omega) hfl (by omega) (fun _ _=>by rw [hfs,hκ.cap];omega)).mono ?_;have e:CL κ σ ⟨0,0,1,[[47,97]],UY [Yx] (Vp n 0)⟩=(if L*64<σ.full.length - σ.off+Xv n then tl wE [8] else tl wQ [1],if L*64<σ.full.length - σ.off+Xv n then σ else { σ with Q:=Vp n 0,zq:=1,fs:=σ.fs++[fr (Va 1 (UY [Yx] (Vp n 0)))],ql:=Xv n }):=by
  unfold CL
  simp only [ne_eq,not_true_eq_false,WW,jB hn,hκ.eL,pP,Za,hQ,jD hn]
  by_cases h9:L*64<σ.full.length - σ.off+Xv n
  · rw [Z0 (by omega),Z0 h9,Z0 h9];rfl
  rw [Z1 (by omega),Z1 h9,Z1 h9];rfl
 rw [e];exact fun _ _ h=>h
theorem jy (hκ:yy κ S L) (h:Sv κ σ w) (hgl:Gl m te pe κ w) (hn:n≤64) (i:Nat) (hi:i≤900) (hT:σ.T≠[]) (hQ:σ.Q=Vp n i) (hz:σ.zq=i+1) (hfs:σ.fs.length*Xh n=σ.ql) (pP:σ.ql≤4096) (hfl:σ.full.length≤4096) (vo vn:Value) (pa:ByteArray) (ho:JR w vo [Kg n]) (CK:Pp κ vo) (Ex:∀q,vo.ownBlock=some q→q<w.heap.size) :
    Calls Tryz.prog 14 #[.pointer (some ⟨κ.sB,0,none⟩),.agg #[.int .i64 1,vo,.bool false,.string pa,vn]] w fun e w'=>e=.returned (.string (if L*64<σ.full.length - σ.off+(σ.ql+Xh n) then tl wE [8] else tl wQ [i+2]))∧Gw κ w w'∧∃ σ',σ'=(if L*64<σ.full.length - σ.off+(σ.ql+Xh n) then σ else { σ with Q:=Vp n (i+1),zq:=i+2,fs:=σ.fs++[fr (Va ((i:Int)+2) (UY (Vp n i) (Vp n (i+1))))],ql:=σ.ql+Xh n })∧Sv κ σ' w':=by
 have hA:CV σ.Q [Kg n] ((σ.zq:Int)+1)=⟨0,0,(i:Int)+2,[[47,97]],UY (Vp n i) (Vp n (i+1))⟩:=by
  rw [hQ,hz,show (((i+1:Nat):Int)+1)=(i:Int)+2 by omega];exact jH hn hi
 have hb:=hκ.b;have hroom:(((σ.full.length - σ.off)+(σ.ql+(fr (Va ((i:Int)+2) (UY (Vp n i) (Vp n (i+1))))).length):Nat):Int)≤κ.L*64→σ.fs.length<κ.cap:=by
  rw [mH hn hi,hκ.eL,hκ.cap];intro h9;have h8:(σ.fs.length+1)*Xh n≤L*64:=by rw [Tr,Uw,hfs];omega
  have h7:9≤Xh n:=by unfold Xh;omega
  have h6:(σ.fs.length+1)*9≤(σ.fs.length+1)*Xh n:=Nat.mul_le_mul_left _ h7;omega
 refine (Hg κ σ w h hgl hT (by rw [hQ];exact Rm) vo vn pa [Kg n] ho CK Ex (fun i=>(IU (AV hn) rfl).1) (by simp) (fun i=>(IU (AV hn) rfl).2) (by rw [hQ];exact fun i=>jz hn) (by omega) _ hA ⟨by show (0:Int)≤0;decide,by show (0:Int)<1000;decide⟩ ⟨by show 0≤(i:Int)+2;omega,by show (i:Int)+2<1000000;omega⟩ (fun j=>eY hn) (fun _=>by show 0<(Va ((i:Int)+2) _).length∧(Va ((i:Int)+2) _).length≤2000;rw [AZ hn hi];omega) (by rw [hκ.eL];omega) hfl pP (fun _=>hroom)).mono ?_;have e:CL κ σ ⟨0,0,(i:Int)+2,[[47,97]],UY (Vp n i) (Vp n (i+1))⟩=(if L*64<σ.full.length - σ.off+(σ.ql+Xh n) then tl wE [8] else tl wQ [i+2],if L*64<σ.full.length - σ.off+(σ.ql+Xh n) then σ else { σ with Q:=Vp n (i+1),zq:=i+2,fs:=σ.fs++[fr (Va ((i:Int)+2) (UY (Vp n i) (Vp n (i+1))))],ql:=σ.ql+Xh n }):=by
  have e1:((i:Int)+2).toNat=i+2:=by omega
  unfold CL
  simp only [ne_eq,not_true_eq_false,WW,mH hn hi,hκ.eL,hQ,jC hn hi,e1]
  by_cases h9:L*64<σ.full.length - σ.off+(σ.ql+Xh n)
  · rw [Z0 (by omega),Z0 h9,Z0 h9];rfl
  rw [Z1 (by omega),Z1 h9,Z1 h9];rfl
 rw [e];exact fun _ _ h=>h
theorem eW (hκ:yy κ S L) (h:Sv κ σ w) (hgl:Gl m te pe κ w) (hn:n≤64) (hT:σ.T≠[]) (hQ:σ.Q=[Yx]) (hz:σ.zq=0) (pP:σ.ql≤4096) (hfl:σ.full.length≤4096) (vo vn:Value) (pa:ByteArray) (ho:JR w vo [Kg n]) (CK:Pp κ vo) (Ex:∀q,vo.ownBlock=some q→q<w.heap.size) :
    Calls Tryz.prog 14 #[.pointer (some ⟨κ.sB,0,none⟩),.agg #[.int .i64 1,vo,.bool false,.string pa,vn]] w fun e w'=>e=.returned (.string (tl wE [2]))∧Gw κ w w'∧∃ σ',σ'=σ∧Sv κ σ' w':=by
 have hA:CV σ.Q [Kg n] ((σ.zq:Int)+1)=⟨2,0,0,[],[]⟩:=by rw [hQ,hz];exact jG hn
 have hb:=hκ.b;refine (Hg κ σ w h hgl hT (by rw [hQ];exact QL) vo vn pa [Kg n] ho CK Ex (fun i=>(IU (AV hn) rfl).1) (by simp) (fun i=>(IU (AV hn) rfl).2) (by rw [hQ];exact fun i=>pI) (by omega) _ hA ⟨by decide,by decide⟩ ⟨by decide,by decide⟩ (fun i=>⟨by show (ByteArray.empty).size≤_;decide,by show (ByteArray.empty).size≤_;decide⟩) (fun e=>by cases e) (by rw [hκ.eL];omega) hfl pP (fun e=>by cases e)).mono ?_;rw [show CL κ σ ⟨2,0,0,[],[]⟩=(tl wE [2],σ) from rfl];exact fun _ _ h=>h
end
end
end Go.Proofs.YtpmjnbmkippaiaaGreatDoor


