import Derived.Test.YtpmjnbmkippaiaaGreatDoorJ06
import Derived.Maps.OwnSet
import Derived.Lib.SplitLaws
set_option maxRecDepth 100000
set_option maxHeartbeats 16000000
set_option linter.all false
namespace Go.Proofs.YtpmjnbmkippaiaaGreatDoor
open Go.RowKit Go.Shelf
variable {s:ByteArray} {m:Int} {C:List (Nat × Value)} {L:List ByteArray} {ns:List Int} {b lo n:Nat} {P:Program} {e k t te:TypeId} {pe v:Value} {W w:World}
structure Ln where
 kind:Int
 ops:List TK
 RJ:Bool
 path:ByteArray
 nums:List Int
def Oz:Ln:=⟨0,[],false,⟨#[]⟩,[]⟩
def nA (ns:List Int) (i:Nat):Int:=ns.getD i 0
def tS (v lo hi:Int):Bool:=decide (lo≤v) && decide (v≤hi)
def i8 (f0:ByteArray) (ns:List Int):Ln :=
 if (f0.toList == [115,116,101,112])=true then (if ns.length=1∧tS (nA ns 0) 1 1000=true then ⟨7,[],false,⟨#[]⟩,ns⟩ else Oz)
 else if (f0.toList == [97,114,109])=true then (if 1≤ns.length∧tS (nA ns 0) 1 10000=true then ⟨8,[],false,⟨#[]⟩,ns⟩ else Oz)
 else if (f0.toList == [99,114,97,115,104])=true then ⟨9,[],false,⟨#[]⟩,ns⟩
 else if (f0.toList == [114,111,116])=true then (if ns.length=3∧tS (nA ns 0) 0 1=true∧tS (nA ns 1) 0 4095=true∧tS (nA ns 2) 1 255=true then ⟨10,[],false,⟨#[]⟩,ns⟩ else Oz)
 else Oz
def i7 (L:List ByteArray):Ln :=
 match U8 (L.drop 1) with
 | none=>Oz
 | some ns=>if (L.drop 1).length≤2000 then i8 (Yh L 0) ns else Oz
def lO (L:List ByteArray):Ln :=
 if L.length=2∧((Yh L 0).toList == [103,101,116])=true then ⟨3,[],false,Yh L 1,[]⟩
 else if L.length=2∧((Yh L 0).toList == [108,105,115,116])=true then ⟨4,[],false,Yh L 1,[]⟩
 else i7 L
def xy (L:List ByteArray):Ln :=
 if L.length=1∧((Yh L 0).toList == [102,108,117,115,104])=true then ⟨2,[],false,⟨#[]⟩,[]⟩
 else if L.length=1∧((Yh L 0).toList == [100,117,109,112])=true then ⟨5,[],false,⟨#[]⟩,[]⟩
 else if L.length=1∧((Yh L 0).toList == [115,110,97,112])=true then ⟨6,[],false,⟨#[]⟩,[]⟩
 else if L.length=1∧((Yh L 0).toList == [114,101,99,111,118,101,114])=true then ⟨11,[],false,⟨#[]⟩,[]⟩
 else if L.length=1∧((Yh L 0).toList == [115,116,97,116,117,115])=true then ⟨12,[],false,⟨#[]⟩,[]⟩
 else lO L
def lN (L:List ByteArray):Ln :=
 match PV L with
 | some o=>⟨1,[o],false,⟨#[]⟩,[]⟩
 | none=>xy L
def eW (L:List ByteArray):Ln :=
 match kG L.length (L.drop 1) with
 | some os=>⟨1,os,true,⟨#[]⟩,[]⟩
 | none=>Oz
def Aj (L:List ByteArray):Ln :=
 if ((Yh L 0).toList == [109,117,108,116,105])=true then eW L else lN L
def TQ (b:ByteArray):Ln:=if 60000<b.size then Oz else if (UK b).all Wi=true then Aj (UK b) else Oz
def ox (w:World) (l:Ln) (e:Ending) (w':World):Prop :=
 ∃(vo vn:Value),e=.returned (.agg #[.int .i64 l.kind,vo,.bool l.RJ,.string l.path,vn])∧RQ 159 w' w.heap.size vo l.ops∧Own .i64 2 w' w.heap.size vn l.nums∧Zi w w'
theorem RO {lo' k:Nat} {us:List Value} (h:w.ownsRow lo e k v n us) (hl:lo'≤lo):w.ownsRow lo' e k v n us :=
 ⟨h.1,h.2.imp id fun ⟨g,cap,cur,e1,e2,r⟩=>⟨g,cap,cur,e1,ZJ hl e2,r⟩⟩
theorem QR {w1:World} (hb:Zi w w1) {a b c d e:Value} (X:St w1 w.heap.size [a,b,c,d,e]) (k:Int) (m:Bool) (p:ByteArray) {vo vn:Value} {os:List TK} (ho:RQ 159 w1 (w.heap.size+1) vo os) (hn:Own .i64 2 w1 (w.heap.size+1) vn ns) :
    Zi w (((((w1.setCell ⟨w.heap.size,0,none⟩ (.int .i64 k)).setCell ⟨w.heap.size,1,none⟩ vo).setCell ⟨w.heap.size,2,none⟩ (.bool m)).setCell ⟨w.heap.size,3,none⟩ (.string p)).setCell ⟨w.heap.size,4,none⟩ vn) ∧
    St (((((w1.setCell ⟨w.heap.size,0,none⟩ (.int .i64 k)).setCell ⟨w.heap.size,1,none⟩ vo).setCell ⟨w.heap.size,2,none⟩ (.bool m)).setCell ⟨w.heap.size,3,none⟩ (.string p)).setCell ⟨w.heap.size,4,none⟩ vn) w.heap.size [.int .i64 k,vo,.bool m,.string p,vn] ∧
    RQ 159 (((((w1.setCell ⟨w.heap.size,0,none⟩ (.int .i64 k)).setCell ⟨w.heap.size,1,none⟩ vo).setCell ⟨w.heap.size,2,none⟩ (.bool m)).setCell ⟨w.heap.size,3,none⟩ (.string p)).setCell ⟨w.heap.size,4,none⟩ vn) w.heap.size vo os ∧
    Own .i64 2 (((((w1.setCell ⟨w.heap.size,0,none⟩ (.int .i64 k)).setCell ⟨w.heap.size,1,none⟩ vo).setCell ⟨w.heap.size,2,none⟩ (.bool m)).setCell ⟨w.heap.size,3,none⟩ (.string p)).setCell ⟨w.heap.size,4,none⟩ vn) w.heap.size vn ns:=by
 have hlt:w.heap.size<w.heap.size+1:=WK _;refine ⟨((((hb.setCell YR _).setCell YR _).setCell YR _).setCell YR _).setCell YR _,((((X.set 0 _).set 1 _).set 2 _).set 3 _).set 4 _,?_,?_⟩
 · exact RO (ownsRow_setCell_below (ownsRow_setCell_below (ownsRow_setCell_below (ownsRow_setCell_below (ownsRow_setCell_below ho (a:=⟨w.heap.size,0,none⟩) hlt _) (a:=⟨w.heap.size,1,none⟩) hlt _) (a:=⟨w.heap.size,2,none⟩) hlt _) (a:=⟨w.heap.size,3,none⟩) hlt _) (a:=⟨w.heap.size,4,none⟩) hlt _) (Ux _)
 exact RO (ownsRow_setCell_below (ownsRow_setCell_below (ownsRow_setCell_below (ownsRow_setCell_below (ownsRow_setCell_below hn (a:=⟨w.heap.size,0,none⟩) hlt _) (a:=⟨w.heap.size,1,none⟩) hlt _) (a:=⟨w.heap.size,2,none⟩) hlt _) (a:=⟨w.heap.size,3,none⟩) hlt _) (a:=⟨w.heap.size,4,none⟩) hlt _) (Ux _)
theorem K6 (w:World) (wd:ByteArray) (k:Int) (s d v:Bool):Calls Tryz.prog 151 #[.agg #[.string wd,.int .i64 k,.bool s,.bool d,.bool v]] w (Wj w (.int .i64 (2+(if d=true then 1 else 0)+(if v=true then 1 else 0)))):=by
 cases d <;> cases v
 all_goals
  go_enter Tryz.func151,Tryz.ntmps151
  go_wp2_with fail
  go_ret;exact ⟨rfl,Yy.alloc YR _⟩
theorem Iq (w:World) (v lo hi:Int):Calls Tryz.prog 107 #[.int .i64 v,.int .i64 lo,.int .i64 hi] w fun e w'=>e=.returned (.bool (tS v lo hi))∧w'=w:=by
 by_cases h1:lo≤v
 · go_enter Tryz.func107,Tryz.ntmps107
   go_wp2;go_ret;refine ⟨?_,rfl⟩;unfold tS;rw [Zm h1]
   rfl
 go_enter Tryz.func107,Tryz.ntmps107
 go_wp2;go_ret;refine ⟨?_,rfl⟩;unfold tS;rw [Zo (by omega)]
 rfl
theorem P2 (h:Own .i64 2 w lo v ns):∃a c,v=.slice a ns.length c∧(0<ns.length→∃g,a=some ⟨g,0,none⟩∧∀i,i<ns.length→w.cell? ⟨g,i,none⟩=some (.int .i64 (nA ns i))):=by
 have h':=h
 rcases h.2 with ⟨rfl,h9⟩ | ⟨g,cap,cur,rfl,h1,h2,h3,h4,h5,h6⟩
 · exact ⟨none,0,by rw [h9],fun h0=>by omega⟩
 refine ⟨_,cap,rfl,fun _=>⟨g,rfl,fun i hi=>?_⟩⟩;rw [Wv h' i (by omega),Yo,ZF hi];unfold nA;rw [List.getD,ZF hi]
 rfl
def Sr (ns:List Int):Bool:=decide (ns.length=1) && tS (nA ns 0) 1 1000
theorem Oy (w:World) (lo:Nat) (v:Value) (ns:List Int) (h:Own .i64 2 w lo v ns):Calls Tryz.prog 64 #[v] w fun e w'=>e=.returned (.bool (Sr ns))∧w'=w:=by
 obtain ⟨a,c,rfl,hc⟩:=P2 h;clear h
 by_cases l1:ns.length=1
 · obtain ⟨g,rfl,hcl⟩:=hc (by omega)
   have z0:=hcl 0 (by omega);have hl0:(0:Int)<((ns.length:Nat):Int):=by omega
   have hl1:(((ns.length:Nat):Int) == 1)=true:=ZL.2 (by omega);have HR:Hid (Sr ns=tS (nA ns 0) 1 1000):=by show _=_;unfold Sr;rw [Zm l1,Xz]
   clear hc hcl l1
   go_enter Tryz.func64,Tryz.ntmps64
   go_wp2_with fail
   refine (Iq _ _ _ _).mono ?_;rintro e w9 ⟨rfl,Ai⟩;subst Ai
   go_wp2_with fail
   go_ret;exact ⟨by rw [HR.out];rfl,rfl⟩
 have hl1:(((ns.length:Nat):Int) == 1)=false:=VU (by omega);have HR:Hid (Sr ns=false):=by show _=_;unfold Sr;rw [Zo l1];rfl
 clear hc l1
 go_enter Tryz.func64,Tryz.ntmps64
 go_wp2_with fail
 go_ret;exact ⟨by rw [HR.out];rfl,rfl⟩
theorem kF (b:ByteArray):TU b=true↔b=⟨#[59]⟩:=by
 unfold TU;rw [Mg]
 constructor
 · intro h
   rw [←Ny b,ZL.1 h];rfl
 rintro rfl;rfl
theorem Ah (L:List ByteArray):Lib.containsS L ⟨#[59]⟩=L.any TU:=by
 cases h:L.any TU with
 | true =>
  obtain ⟨x,hx,e⟩:=Td.1 h;rw [(kF x).1 e] at hx;exact (Lib.containsS_iff _ _).2 hx
 | false =>
  cases h2:Lib.containsS L ⟨#[59]⟩ with
  | false=>rfl
  | true=>exact absurd ((kF _).2 rfl) (List.any_eq_false.1 h _ ((Lib.containsS_iff _ _).1 h2))
theorem Ag (h:Tl (Yh L 0)=none):PV L=none:=by
 unfold Tl at h
 repeat' split at h
 all_goals first | (cases h;done) | skip
 rename_i h1 h2 h3 h4 h5;unfold PV JY JX;rw [Z1 h1,Z1 h2,Z1 h3,Z1 h5,Z1 h4]
 repeat' split
 all_goals rfl
theorem xx (ha:L.any TU=false) {k:Int} {s d v:Bool} (h:Tl (Yh L 0)=some (k,s,d,v)) :
    (d=true∧v=false∧PV L=if L.length=3 then some ⟨k,Yh L 1,Og (Yh L 2),0,s⟩ else none) ∨
    (d=false∧v=true∧PV L=if L.length=3 then (SR (Yh L 2).data.toList).map (fun x=>⟨k,Yh L 1,⟨#[]⟩,x,s⟩) else none) ∨
    (d=true∧v=true∧PV L=if L.length=4 then (SR (Yh L 3).data.toList).map (fun x=>⟨k,Yh L 1,Og (Yh L 2),x,s⟩) else none):=by
 have hop:PV L=if L.length=3 then JY (Yh L 0) (Yh L 1) (Yh L 2) else if L.length=4 then JX (Yh L 0) (Yh L 1) (Yh L 2) (Yh L 3) else none:=by
  unfold PV;rw [Z1 (by rw [ha];decide)]
 rw [hop];generalize Yh L 0=f0 at *;unfold Tl at h
 split at h
 · rename_i h1
   injection h with h;injection h with h0 h;injection h with h2 h;injection h with h3 h4
   subst h0 h2 h3 h4;refine .inl ⟨rfl,rfl,?_⟩;have e:=ZL.1 h1;unfold JY JX
   simp [e]
 split at h
 · rename_i h1
   injection h with h;injection h with h0 h;injection h with h2 h;injection h with h3 h4
   subst h0 h2 h3 h4;refine .inl ⟨rfl,rfl,?_⟩;have e:=ZL.1 h1;unfold JY JX
   simp [e]
 split at h
 · rename_i h1
   injection h with h;injection h with h0 h;injection h with h2 h;injection h with h3 h4
   subst h0 h2 h3 h4;refine .inr (.inl ⟨rfl,rfl,?_⟩);have e:=ZL.1 h1;unfold JY JX
   simp [e]
 split at h
 · rename_i h1
   injection h with h;injection h with h0 h;injection h with h2 h;injection h with h3 h4
   subst h0 h2 h3 h4;refine .inr (.inr ⟨rfl,rfl,?_⟩);have e:=ZL.1 h1;unfold JY JX
   simp [e]
   intro h9;omega
 split at h
 · rename_i h1
   injection h with h;injection h with h0 h;injection h with h2 h;injection h with h3 h4
   subst h0 h2 h3 h4;refine .inr (.inl ⟨rfl,rfl,?_⟩);have e:=ZL.1 h1;unfold JY JX
   simp [e]
 cases h
theorem Fv (w:World) (b o cap:Nat) (L:List ByteArray) (hL:0<L.length) (qn:L.length≤cap) (hc:cap≤maxLen) (hsz:oz L) (hcl:∀i,i<L.length→w.cell? ⟨b,o+i,none⟩=some (.string (Yh L i))) (hb:b<w.heap.size) (hg:Aq w m te pe) (hf:tT w) :
    Calls Tryz.prog 101 #[.slice (some ⟨b,o,none⟩) L.length cap] w fun e w'=>JW w L e w':=by
 unfold maxLen at hc;have bA:Zi w (w.alloc (.cells #[.int .i64 0,.string ⟨#[]⟩,.string ⟨#[]⟩,.int .i64 0,.bool false] 159)):=Yy.alloc YR _;have BA:=ZU bA;have X:=ZU (St.new w #[.int .i64 0,.string ⟨#[]⟩,.string ⟨#[]⟩,.int .i64 0,.bool false] 159);have Qs:Hid (∀i,i<L.length→(w.alloc (.cells #[.int .i64 0,.string ⟨#[]⟩,.string ⟨#[]⟩,.int .i64 0,.bool false] 159)).cell? ⟨b,o+i,none⟩=some (.string (Yh L i))):=fun i hi=>(bA.cell (p:=⟨b,o+i,none⟩) hb).trans (hcl i hi)
 have LY:=ZU hsz;have HG:=ZU (hg.later bA);have HF:=ZU (hf.later bA);have sB:w.heap.size+1=(w.alloc (.cells #[.int .i64 0,.string ⟨#[]⟩,.string ⟨#[]⟩,.int .i64 0,.bool false] 159)).heap.size:=by simp
 have hcs:=Tryz.slices_Contains_string b o L.length cap L ⟨#[59]⟩ (w.alloc (.cells #[.int .i64 0,.string ⟨#[]⟩,.string ⟨#[]⟩,.int .i64 0,.bool false] 159)) YR (by omega) Qs.out;rw [Xp,Ah] at hcs;have HC:=ZU hcs;have H4:Hid (7<w.heap.size):=ZG w _ hg.es;have H3:Hid (1<w.heap.size):=ZG w _ hg.mx;have hn0:(((L.length:Nat):Int) == 0)=false:=VU (by omega);have hp0:(0:Int)<((L.length:Nat):Int):=by omega
 clear bA hcl hsz hcs hg hf
 cases hany:L.any TU with
 | true =>
  have ST:Hid (PV L=none):=by show _=_;unfold PV;rw [Z0 hany]
  rw [hany] at HC;clear hany Qs
  go_enter Tryz.func101,Tryz.ntmps101
  go_wp2_with fail
  refine HC.out.mono ?_;rintro e w2 ⟨rfl,hw2⟩;subst hw2;generalize w.alloc _=w1 at *;have x0:=X.out.fz;have y0:=X.out.cl 0 _ rfl;have y1:=X.out.cl 1 _ rfl;have y2:=X.out.cl 2 _ rfl;have y3:=X.out.cl 3 _ rfl;have y4:=X.out.cl 4 _ rfl
  go_wp2_with fail
  obtain ⟨b9,x9⟩:=QS BA.out X.out ⟨0,⟨#[]⟩,⟨#[]⟩,0,false⟩;have d0:=x9.cl 0 _ rfl;have d1:=x9.cl 1 _ rfl;have d2:=x9.cl 2 _ rfl;have d3:=x9.cl 3 _ rfl;have d4:=x9.cl 4 _ rfl;exact ZW (v:=.tuple #[MW ⟨0,⟨#[]⟩,⟨#[]⟩,0,false⟩,.bool false]) (by simp [results,Tryz.results101,go_sem,MW,d0,d1,d2,d3,d4]) rfl (JW.no ST.out b9)
 | false =>
  rw [hany] at HC;have ZZ:=ZU hany;have c0:=Qs.out 0 hL;rw [Yj] at c0;have ZO:=ZU (Dz _ (Yh L 0) HF.out);clear hany HF
  go_enter Tryz.func101,Tryz.ntmps101
  go_wp2_with fail
  refine HC.out.mono ?_;rintro e w2 ⟨rfl,hw2⟩;subst hw2;generalize w.alloc _=w1 at *
  go_wp2_with fail
  refine ZO.out.mono ?_;rintro e w2 ⟨b2,wd,k,s,d,v,known,rfl,hkn,hfr⟩;have s2:=b2.size;have bF:Zi w2 (w2.alloc (.cells #[.string wd,.int .i64 k,.bool s,.bool d,.bool v] 226)):=Yy.alloc YR _;have Z5:=WD b2 bF
  replace X:=ZU (X.out.below Z5)
  replace BA:=ZU (WD BA.out Z5)
  replace Qs:Hid (∀i,i<L.length→(w2.alloc (.cells #[.string wd,.int .i64 k,.bool s,.bool d,.bool v] 226)).cell? ⟨b,o+i,none⟩=some (.string (Yh L i))):=fun i hi=>(Z5.cell (p:=⟨b,o+i,none⟩) (by show b<_;omega)).trans (Qs.out i hi)
  replace HG:=ZU (HG.out.later Z5)
  have XF:=ZU (St.new w2 #[.string wd,.int .i64 k,.bool s,.bool d,.bool v] 226);have sF:w2.heap.size<(w2.alloc (.cells #[.string wd,.int .i64 k,.bool s,.bool d,.bool v] 226)).heap.size:=by simp
  clear Z5 bF ZO HC b2 c0
  cases known with
  | false =>
   have ST:Hid (PV L=none):=Ag (by cases hx:Tl (Yh L 0) with | none=>rfl | some x=>rw [hx] at hkn;cases hkn);clear hkn hfr;have x0:=X.out.fz;have y0:=X.out.cl 0 _ rfl;have y1:=X.out.cl 1 _ rfl;have y2:=X.out.cl 2 _ rfl;have y3:=X.out.cl 3 _ rfl;have y4:=X.out.cl 4 _ rfl
   go_wp2_with fail
   obtain ⟨b9,x9⟩:=QS BA.out X.out ⟨0,⟨#[]⟩,⟨#[]⟩,0,false⟩;have d0:=x9.cl 0 _ rfl;have d1:=x9.cl 1 _ rfl;have d2:=x9.cl 2 _ rfl;have d3:=x9.cl 3 _ rfl;have d4:=x9.cl 4 _ rfl;exact ZW (v:=.tuple #[MW ⟨0,⟨#[]⟩,⟨#[]⟩,0,false⟩,.bool false]) (by simp [results,Tryz.results101,go_sem,MW,d0,d1,d2,d3,d4]) rfl (JW.no ST.out b9)
  | true =>
   obtain ⟨⟨k9,s9,d9,v9⟩,hx⟩:=Option.isSome_iff_exists.1 hkn.symm;have hy:=hfr _ hx
   injection hy with q0 hy;injection hy with q1 hy;injection hy with q2 q3
   subst q0 q1 q2 q3;have A:=ZU (xx ZZ.out hx);clear hkn hfr hx ZZ
   go_wp2_with fail
   generalize w2.alloc _=w3 at *;refine (K6 _ wd k9 s9 d9 v9).mono ?_;rintro e w4 ⟨rfl,b4⟩;have s4:=b4.size
   replace X:=ZU (X.out.below b4)
   replace XF:=ZU (XF.out.below b4)
   replace BA:=ZU (WD BA.out b4)
   replace Qs:Hid (∀i,i<L.length→w4.cell? ⟨b,o+i,none⟩=some (.string (Yh L i))):=fun i hi=>(b4.cell (p:=⟨b,o+i,none⟩) (by show b<_;omega)).trans (Qs.out i hi)
   replace HG:=ZU (HG.out.later b4)
   clear b4;obtain ⟨c9,kE⟩:∃c9:Int,c9=2+(if d9=true then 1 else 0)+(if v9=true then 1 else 0):=⟨_,rfl⟩;rw [←kE];have D:=ZU kE;clear kE;have sA:w.heap.size+1≤w4.heap.size:=by omega
   by_cases hln:((L.length:Nat):Int)=c9
   case neg =>
    have hne:(((L.length:Nat):Int) != c9)=true:=by simpa using hln
    have ST:Hid (PV L=none):=by
     show _=_;have h9:=D.out
     rcases A.out with ⟨rfl,rfl,h⟩ | ⟨rfl,rfl,h⟩ | ⟨rfl,rfl,h⟩
     all_goals (simp at h9;rw [h,Z1 (by omega)])
    clear A D hln;have x0:=X.out.fz;have y0:=X.out.cl 0 _ rfl;have y1:=X.out.cl 1 _ rfl;have y2:=X.out.cl 2 _ rfl;have y3:=X.out.cl 3 _ rfl;have y4:=X.out.cl 4 _ rfl
    go_wp2_with fail
    obtain ⟨b9,x9⟩:=QS BA.out X.out ⟨0,⟨#[]⟩,⟨#[]⟩,0,false⟩;have d0:=x9.cl 0 _ rfl;have d1:=x9.cl 1 _ rfl;have d2:=x9.cl 2 _ rfl;have d3:=x9.cl 3 _ rfl;have d4:=x9.cl 4 _ rfl;exact ZW (v:=.tuple #[MW ⟨0,⟨#[]⟩,⟨#[]⟩,0,false⟩,.bool false]) (by simp [results,Tryz.results101,go_sem,MW,d0,d1,d2,d3,d4]) rfl (JW.no ST.out b9)
   case pos =>
    have hne:(((L.length:Nat):Int) != c9)=false:=by simp [hln]
    have hL3:3≤L.length:=by
     have h9:=D.out
     rcases A.out with ⟨rfl,rfl,h⟩ | ⟨rfl,rfl,h⟩ | ⟨rfl,rfl,h⟩
     all_goals (simp at h9;omega)
    have hp1:(1:Int)<((L.length:Nat):Int):=by omega
    have hp2:(2:Int)<((L.length:Nat):Int):=by omega
    have Pu:=ZU hln;clear hln
    go_wp2_with fail
    clear hne;have bD:Zi w4 w4.drew:=below_drewN' w4 1;refine ZX (S:=fun W=>W.cell? ⟨w2.heap.size,1,none⟩=some (.int .i64 k9)∧W.cell? ⟨w2.heap.size,2,none⟩=some (.bool s9)∧W.cell? ⟨b,o+1,none⟩=some (.string (Yh L 1))) (by kernel_rfl) ⟨(XF.out.below bD).cl 1 _ rfl,(XF.out.below bD).cl 2 _ rfl,(bD.cell (p:=⟨b,o+1,none⟩) (by show b<_;omega)).trans (Qs.out 1 (by omega))⟩ (fun Z9=>?_)
    replace X:=ZU (X.out.below bD)
    replace XF:=ZU (XF.out.below bD)
    replace BA:=ZU (WD BA.out bD)
    replace Qs:Hid (∀i,i<L.length→w4.drew.cell? ⟨b,o+i,none⟩=some (.string (Yh L i))):=fun i hi=>(bD.cell (p:=⟨b,o+i,none⟩) (by show b<_;omega)).trans (Qs.out i hi)
    replace HG:=ZU (HG.out.later bD)
    have s5:=bD.size;clear bD;generalize w4.drew=m0 at *
    iterate 8 (refine Zf ?_ (by kernel_rfl) (fun _=>id) Z9 ?_ ?_;rotate_left;· intro w9 ZQ;obtain ⟨k0,k1,k2⟩:=ZQ;go_simp;try with_reducible rfl)
    refine YS 8 rfl (by kernel_rfl) (fun K hK=>?_);go_simp;have Z4:=XF.out.lt;have Z2:Zi m0 (m0.alloc (.cells #[.int .i64 0,.string ⟨#[]⟩,.string ⟨#[]⟩,.int .i64 0,.bool false] 159)):=Yy.alloc YR _;refine hK.out _ _ ⟨(Z2.cell (p:=⟨w2.heap.size,1,none⟩) Z4).trans Z9.1,(Z2.cell (p:=⟨w2.heap.size,2,none⟩) Z4).trans Z9.2.1,(Z2.cell (p:=⟨b,o+1,none⟩) (by show b<_;omega)).trans Z9.2.2⟩ (fun ME=>?_);clear hK K Z2 ME;have bG:Zi m0 (m0.alloc (.cells #[.int .i64 k9,.string (Yh L 1),.string ⟨#[]⟩,.int .i64 0,.bool s9] 159)):=Yy.alloc YR _;refine YS 9 rfl (by kernel_rfl) (fun K hK=>?_);go_simp;refine hK.out _ _ ⟨(bG.cell (p:=⟨w2.heap.size,1,none⟩) Z4).trans Z9.1,(bG.cell (p:=⟨w2.heap.size,2,none⟩) Z4).trans Z9.2.1,(bG.cell (p:=⟨b,o+1,none⟩) (by show b<_;omega)).trans Z9.2.2⟩ (fun ME=>?_);clear hK K ME;refine ZR (by kernel_rfl) ?_ _
    try simp only [Act.put,WV,WU,WT]
    clear Z9;have O:=ZU (St.new m0 #[.int .i64 k9,.string (Yh L 1),.string ⟨#[]⟩,.int .i64 0,.bool s9] 159)
    replace X:=ZU (X.out.below bG)
    replace XF:=ZU (XF.out.below bG)
    replace BA:=ZU (WD BA.out bG)
    replace Qs:Hid (∀i,i<L.length→(m0.alloc (.cells #[.int .i64 k9,.string (Yh L 1),.string ⟨#[]⟩,.int .i64 0,.bool s9] 159)).cell? ⟨b,o+i,none⟩=some (.string (Yh L i))):=fun i hi=>(bG.cell (p:=⟨b,o+i,none⟩) (by show b<_;omega)).trans (Qs.out i hi)
    replace HG:=ZU (HG.out.later bG)
    have sG:=bG.size;clear bG Z4;have sX:w.heap.size<m0.heap.size:=by omega
    have sY:w2.heap.size<m0.heap.size:=by omega
    have ZE:b<m0.heap.size:=by omega
    generalize m0.alloc _=m1 at *;have c2:=Qs.out 2 (by omega);have z3:=XF.out.cl 3 _ rfl;have z4:=XF.out.cl 4 _ rfl
    rcases A.out with ⟨rfl,rfl,hop⟩ | ⟨rfl,rfl,hop⟩ | ⟨rfl,rfl,hop⟩
    · have hl3:L.length=3:=by have h9:=D.out;have h8:=Pu.out;simp at h9;omega
      have ST:Hid (PV L=some ⟨k9,Yh L 1,Og (Yh L 2),0,s9⟩):=hop.trans (Z0 hl3);clear hop hl3 A D Pu
      cases hd2:(Yh L 2).toList == [45] with
      | true =>
       have HD:Hid (Og (Yh L 2)=⟨#[]⟩):=Z0 hd2;rw [HD.out] at ST;have xf:=X.out.fz;have x0:=X.out.cl 0 _ rfl;have x1:=X.out.cl 1 _ rfl;have x2:=X.out.cl 2 _ rfl;have x3:=X.out.cl 3 _ rfl;have x4:=X.out.cl 4 _ rfl;have gf:=O.out.fz;have g0:=O.out.cl 0 _ rfl;have g1:=O.out.cl 1 _ rfl;have g2:=O.out.cl 2 _ rfl;have g3:=O.out.cl 3 _ rfl;have g4:=O.out.cl 4 _ rfl
       go_wp2_with fail
       obtain ⟨b9,x9⟩:=QS BA.out X.out ⟨k9,Yh L 1,⟨#[]⟩,0,s9⟩;have d0:=x9.cl 0 _ rfl;have d1:=x9.cl 1 _ rfl;have d2:=x9.cl 2 _ rfl;have d3:=x9.cl 3 _ rfl;have d4:=x9.cl 4 _ rfl;exact ZW (v:=.tuple #[MW ⟨k9,Yh L 1,⟨#[]⟩,0,s9⟩,.bool true]) (by simp [results,Tryz.results101,go_sem,MW,d0,d1,d2,d3,d4]) rfl (JW.yes ST.out b9)
      | false =>
       have HD:Hid (Og (Yh L 2)=Yh L 2):=Z1 (by rw [hd2];decide);rw [HD.out] at ST;have xf:=X.out.fz;have x0:=X.out.cl 0 _ rfl;have x1:=X.out.cl 1 _ rfl;have x2:=X.out.cl 2 _ rfl;have x3:=X.out.cl 3 _ rfl;have x4:=X.out.cl 4 _ rfl;have gf:=O.out.fz;have g0:=O.out.cl 0 _ rfl;have g1:=O.out.cl 1 _ rfl;have g2:=O.out.cl 2 _ rfl;have g3:=O.out.cl 3 _ rfl;have g4:=O.out.cl 4 _ rfl
       go_wp2_with fail
       have X9:=ZU (X.out.other (c:=m0.heap.size) (j:=2) (x:=.string (Yh L 2)) (by omega));have B9:=ZU (BA.out.setCell (p:=⟨m0.heap.size,2,none⟩) (by show _≤m0.heap.size;omega) (.string (Yh L 2)));obtain ⟨b9,x9⟩:=QS B9.out X9.out ⟨k9,Yh L 1,Yh L 2,0,s9⟩;have d0:=x9.cl 0 _ rfl;have d1:=x9.cl 1 _ rfl;have d2:=x9.cl 2 _ rfl;have d3:=x9.cl 3 _ rfl;have d4:=x9.cl 4 _ rfl;exact ZW (v:=.tuple #[MW ⟨k9,Yh L 1,Yh L 2,0,s9⟩,.bool true]) (by simp [results,Tryz.results101,go_sem,MW,d0,d1,d2,d3,d4]) rfl (JW.yes ST.out b9)
    · have hl3:L.length=3:=by have h9:=D.out;have h8:=Pu.out;simp at h9;omega
      have ST:Hid (PV L=(SR (Yh L 2).data.toList).map (fun x=>⟨k9,Yh L 1,⟨#[]⟩,x,s9⟩)):=hop.trans (Z0 hl3);have hsb:((L.length:Nat):Int) - 1=2:=by omega
      clear hop hl3 A D Pu
      go_wp2_with fail
      clear hsb z3 z4 c2;refine (Th (Yh L 2) m1 (LY.out 2) HG.out).mono ?_;rintro e n2 ⟨vv,ok,rfl,b2,hok,hvv⟩
      replace X:=ZU (X.out.below b2)
      replace O:=ZU (O.out.below b2)
      replace BA:=ZU (WD BA.out b2)
      have sN:=b2.size;have HQ:=ZU (And.intro hok hvv);clear b2 hok hvv
      cases ok with
      | false =>
       have E:Hid (PV L=none):=by
        show _=_;rw [ST.out]
        cases hx:SR (Yh L 2).data.toList with
        | none=>rfl
        | some x=>have:=HQ.out.1;rw [hx] at this;cases this
       clear ST HQ;have xf:=X.out.fz;have x0:=X.out.cl 0 _ rfl;have x1:=X.out.cl 1 _ rfl;have x2:=X.out.cl 2 _ rfl;have x3:=X.out.cl 3 _ rfl;have x4:=X.out.cl 4 _ rfl
       go_wp2_with fail
       obtain ⟨b9,x9⟩:=QS BA.out X.out ⟨0,⟨#[]⟩,⟨#[]⟩,0,false⟩;have d0:=x9.cl 0 _ rfl;have d1:=x9.cl 1 _ rfl;have d2:=x9.cl 2 _ rfl;have d3:=x9.cl 3 _ rfl;have d4:=x9.cl 4 _ rfl;exact ZW (v:=.tuple #[MW ⟨0,⟨#[]⟩,⟨#[]⟩,0,false⟩,.bool false]) (by simp [results,Tryz.results101,go_sem,MW,d0,d1,d2,d3,d4]) rfl (JW.no E.out b9)
      | true =>
       have E:Hid (PV L=some ⟨k9,Yh L 1,⟨#[]⟩,vv,s9⟩):=by
        show _=_;rw [ST.out];obtain ⟨x,hx⟩:=Option.isSome_iff_exists.1 HQ.out.1.symm;rw [hx,HQ.out.2 x hx]
        rfl
       clear ST HQ;have xf:=X.out.fz;have x0:=X.out.cl 0 _ rfl;have x1:=X.out.cl 1 _ rfl;have x2:=X.out.cl 2 _ rfl;have x3:=X.out.cl 3 _ rfl;have x4:=X.out.cl 4 _ rfl;have gf:=O.out.fz;have g0:=O.out.cl 0 _ rfl;have g1:=O.out.cl 1 _ rfl;have g2:=O.out.cl 2 _ rfl;have g3:=O.out.cl 3 _ rfl;have g4:=O.out.cl 4 _ rfl
       go_wp2_with fail
       have X9:=ZU (X.out.other (c:=m0.heap.size) (j:=3) (x:=.int .i64 vv) (by omega));have B9:=ZU (BA.out.setCell (p:=⟨m0.heap.size,3,none⟩) (by show _≤m0.heap.size;omega) (.int .i64 vv));obtain ⟨b9,x9⟩:=QS B9.out X9.out ⟨k9,Yh L 1,⟨#[]⟩,vv,s9⟩;have d0:=x9.cl 0 _ rfl;have d1:=x9.cl 1 _ rfl;have d2:=x9.cl 2 _ rfl;have d3:=x9.cl 3 _ rfl;have d4:=x9.cl 4 _ rfl;exact ZW (v:=.tuple #[MW ⟨k9,Yh L 1,⟨#[]⟩,vv,s9⟩,.bool true]) (by simp [results,Tryz.results101,go_sem,MW,d0,d1,d2,d3,d4]) rfl (JW.yes E.out b9)
    have hl3:L.length=4:=by have h9:=D.out;have h8:=Pu.out;simp at h9;omega
    have ST:Hid (PV L=(SR (Yh L 3).data.toList).map (fun x=>⟨k9,Yh L 1,Og (Yh L 2),x,s9⟩)):=hop.trans (Z0 hl3);have hsb:((L.length:Nat):Int) - 1=3:=by omega
    have hp3:(3:Int)<((L.length:Nat):Int):=by omega
    have c3:=Qs.out 3 (by omega);clear hop hl3 A D Pu
    cases hd2:(Yh L 2).toList == [45] with
    | true =>
     have HD:Hid (Og (Yh L 2)=⟨#[]⟩):=Z0 hd2;rw [HD.out] at ST
     go_wp2_with fail
     clear hsb z3 z4 c2 c3;refine (Th (Yh L 3) m1 (LY.out 3) HG.out).mono ?_;rintro e n2 ⟨vv,ok,rfl,b2,hok,hvv⟩
     replace X:=ZU (X.out.below b2)
     replace O:=ZU (O.out.below b2)
     replace BA:=ZU (WD BA.out b2)
     have sN:=b2.size;have HQ:=ZU (And.intro hok hvv);clear b2 hok hvv
     cases ok with
     | false =>
      have E:Hid (PV L=none):=by
       show _=_;rw [ST.out]
       cases hx:SR (Yh L 3).data.toList with
       | none=>rfl
       | some x=>have:=HQ.out.1;rw [hx] at this;cases this
      clear ST HQ;have xf:=X.out.fz;have x0:=X.out.cl 0 _ rfl;have x1:=X.out.cl 1 _ rfl;have x2:=X.out.cl 2 _ rfl;have x3:=X.out.cl 3 _ rfl;have x4:=X.out.cl 4 _ rfl
      go_wp2_with fail
      obtain ⟨b9,x9⟩:=QS BA.out X.out ⟨0,⟨#[]⟩,⟨#[]⟩,0,false⟩;have d0:=x9.cl 0 _ rfl;have d1:=x9.cl 1 _ rfl;have d2:=x9.cl 2 _ rfl;have d3:=x9.cl 3 _ rfl;have d4:=x9.cl 4 _ rfl;exact ZW (v:=.tuple #[MW ⟨0,⟨#[]⟩,⟨#[]⟩,0,false⟩,.bool false]) (by simp [results,Tryz.results101,go_sem,MW,d0,d1,d2,d3,d4]) rfl (JW.no E.out b9)
     | true =>
      have E:Hid (PV L=some ⟨k9,Yh L 1,⟨#[]⟩,vv,s9⟩):=by
       show _=_;rw [ST.out];obtain ⟨x,hx⟩:=Option.isSome_iff_exists.1 HQ.out.1.symm;rw [hx,HQ.out.2 x hx]
       rfl
      clear ST HQ;have xf:=X.out.fz;have x0:=X.out.cl 0 _ rfl;have x1:=X.out.cl 1 _ rfl;have x2:=X.out.cl 2 _ rfl;have x3:=X.out.cl 3 _ rfl;have x4:=X.out.cl 4 _ rfl;have gf:=O.out.fz;have g0:=O.out.cl 0 _ rfl;have g1:=O.out.cl 1 _ rfl;have g2:=O.out.cl 2 _ rfl;have g3:=O.out.cl 3 _ rfl;have g4:=O.out.cl 4 _ rfl
      go_wp2_with fail
      have X9:=ZU (X.out.other (c:=m0.heap.size) (j:=3) (x:=.int .i64 vv) (by omega));have B9:=ZU (BA.out.setCell (p:=⟨m0.heap.size,3,none⟩) (by show _≤m0.heap.size;omega) (.int .i64 vv));obtain ⟨b9,x9⟩:=QS B9.out X9.out ⟨k9,Yh L 1,⟨#[]⟩,vv,s9⟩;have d0:=x9.cl 0 _ rfl;have d1:=x9.cl 1 _ rfl;have d2:=x9.cl 2 _ rfl;have d3:=x9.cl 3 _ rfl;have d4:=x9.cl 4 _ rfl;exact ZW (v:=.tuple #[MW ⟨k9,Yh L 1,⟨#[]⟩,vv,s9⟩,.bool true]) (by simp [results,Tryz.results101,go_sem,MW,d0,d1,d2,d3,d4]) rfl (JW.yes E.out b9)
    | false =>
     have HD:Hid (Og (Yh L 2)=Yh L 2):=Z1 (by rw [hd2];decide);rw [HD.out] at ST;have gf:=O.out.fz;have g0:=O.out.cl 0 _ rfl;have g1:=O.out.cl 1 _ rfl;have g2:=O.out.cl 2 _ rfl;have g3:=O.out.cl 3 _ rfl;have g4:=O.out.cl 4 _ rfl;have ZK:(m1.setCell ⟨m0.heap.size,2,none⟩ (.string (Yh L 2))).cell? ⟨b,o+3,none⟩=some (.string (Yh L 3)):=(ZV _ _ _ _ (by intro e9;injection e9 with e1 e2;omega)).trans c3;have ZI:=(XF.out.other (c:=m0.heap.size) (j:=2) (x:=.string (Yh L 2)) (by omega)).cl 4 _ rfl
     go_wp2_with fail
     have hm2:Below m0.heap.size m1 (m1.setCell ⟨m0.heap.size,2,none⟩ (.string (Yh L 2))):=Yy.setCell (p:=⟨m0.heap.size,2,none⟩) YR _
     replace X:=ZU (X.out.other (c:=m0.heap.size) (j:=2) (x:=.string (Yh L 2)) (by omega))
     replace O:=ZU (O.out.set 2 (.string (Yh L 2)))
     replace BA:=ZU (BA.out.setCell (p:=⟨m0.heap.size,2,none⟩) (by show _≤m0.heap.size;omega) (.string (Yh L 2)))
     replace HG:Hid (Aq (m1.setCell ⟨m0.heap.size,2,none⟩ (.string (Yh L 2))) m te pe):=⟨(hm2.cell (p:=⟨1,0,none⟩) (by show 1<m0.heap.size;exact ZY H3.out (by omega))).trans HG.out.mx,(hm2.cell (p:=⟨7,0,none⟩) (by show 7<m0.heap.size;exact ZY H4.out (by omega))).trans HG.out.es⟩
     clear hsb z3 z4 c2 c3 ZK ZI gf g0 g1 g2 g3 g4 hm2;generalize m1.setCell _ _=m2 at *;refine (Th (Yh L 3) m2 (LY.out 3) HG.out).mono ?_;rintro e n2 ⟨vv,ok,rfl,b2,hok,hvv⟩
     replace X:=ZU (X.out.below b2)
     replace O:=ZU (O.out.below b2)
     replace BA:=ZU (WD BA.out b2)
     have sN:=b2.size;have HQ:=ZU (And.intro hok hvv);clear b2 hok hvv
     cases ok with
     | false =>
      have E:Hid (PV L=none):=by
       show _=_;rw [ST.out]
       cases hx:SR (Yh L 3).data.toList with
       | none=>rfl
       | some x=>have:=HQ.out.1;rw [hx] at this;cases this
      clear ST HQ;have xf:=X.out.fz;have x0:=X.out.cl 0 _ rfl;have x1:=X.out.cl 1 _ rfl;have x2:=X.out.cl 2 _ rfl;have x3:=X.out.cl 3 _ rfl;have x4:=X.out.cl 4 _ rfl
      go_wp2_with fail
      obtain ⟨b9,x9⟩:=QS BA.out X.out ⟨0,⟨#[]⟩,⟨#[]⟩,0,false⟩;have d0:=x9.cl 0 _ rfl;have d1:=x9.cl 1 _ rfl;have d2:=x9.cl 2 _ rfl;have d3:=x9.cl 3 _ rfl;have d4:=x9.cl 4 _ rfl;exact ZW (v:=.tuple #[MW ⟨0,⟨#[]⟩,⟨#[]⟩,0,false⟩,.bool false]) (by simp [results,Tryz.results101,go_sem,MW,d0,d1,d2,d3,d4]) rfl (JW.no E.out b9)
     | true =>
      have E:Hid (PV L=some ⟨k9,Yh L 1,Yh L 2,vv,s9⟩):=by
       show _=_;rw [ST.out];obtain ⟨x,hx⟩:=Option.isSome_iff_exists.1 HQ.out.1.symm;rw [hx,HQ.out.2 x hx]
       rfl
      clear ST HQ;have xf:=X.out.fz;have x0:=X.out.cl 0 _ rfl;have x1:=X.out.cl 1 _ rfl;have x2:=X.out.cl 2 _ rfl;have x3:=X.out.cl 3 _ rfl;have x4:=X.out.cl 4 _ rfl;have gf:=O.out.fz;have g0:=O.out.cl 0 _ rfl;have g1:=O.out.cl 1 _ rfl;have g2:=O.out.cl 2 _ rfl;have g3:=O.out.cl 3 _ rfl;have g4:=O.out.cl 4 _ rfl
      go_wp2_with fail
      have X9:=ZU (X.out.other (c:=m0.heap.size) (j:=3) (x:=.int .i64 vv) (by omega));have B9:=ZU (BA.out.setCell (p:=⟨m0.heap.size,3,none⟩) (by show _≤m0.heap.size;omega) (.int .i64 vv));obtain ⟨b9,x9⟩:=QS B9.out X9.out ⟨k9,Yh L 1,Yh L 2,vv,s9⟩;have d0:=x9.cl 0 _ rfl;have d1:=x9.cl 1 _ rfl;have d2:=x9.cl 2 _ rfl;have d3:=x9.cl 3 _ rfl;have d4:=x9.cl 4 _ rfl;exact ZW (v:=.tuple #[MW ⟨k9,Yh L 1,Yh L 2,vv,s9⟩,.bool true]) (by simp [results,Tryz.results101,go_sem,MW,d0,d1,d2,d3,d4]) rfl (JW.yes E.out b9)
theorem Jj (w:World) (a:Option Addr) (n c kb:Nat) (k:Int) (hk:w.cell? ⟨kb,0,none⟩=some (.int .i64 k)) (hb:kb<w.heap.size) (l:Ln) (hl:l=if n=1 then ⟨k,[],false,⟨#[]⟩,[]⟩ else Oz):Calls Tryz.prog 103 #[.slice a n c,.pointer (some ⟨kb,0,none⟩)] w fun e w'=>ox w (l) e w':=by
 have hA:Zi w (w.alloc (.cells #[.int .i64 0,.slice none 0 0,.bool false,.string ⟨#[]⟩,.slice none 0 0] 43)):=Yy.alloc YR _;have BA:=ZU hA;have X:=ZU (St.new w #[.int .i64 0,.slice none 0 0,.bool false,.string ⟨#[]⟩,.slice none 0 0] 43)
 by_cases h1:n=1
 · have yo:(((n:Nat):Int) != 1)=false:=by simp [h1]
   have HR:Hid (l=⟨k,[],false,⟨#[]⟩,[]⟩):=hl.trans (Z0 h1);clear h1 hA hl
   go_enter Tryz.func103,Tryz.ntmps103
   go_wp2_with fail
   have B9:Zi w (w.alloc (.cells #[.int .i64 k,.slice none 0 0,.bool false,.string ⟨#[]⟩,.slice none 0 0] 43)):=Yy.alloc YR _;have X9:=St.new w #[.int .i64 k,.slice none 0 0,.bool false,.string ⟨#[]⟩,.slice none 0 0] 43;have d0:=X9.cl 0 _ rfl;have d1:=X9.cl 1 _ rfl;have d2:=X9.cl 2 _ rfl;have d3:=X9.cl 3 _ rfl;have d4:=X9.cl 4 _ rfl;exact ZW (v:=.agg #[.int .i64 k,.slice none 0 0,.bool false,.string ⟨#[]⟩,.slice none 0 0]) (by simp [results,Tryz.results103,go_sem,d0,d1,d2,d3,d4]) rfl (by rw [HR.out];exact ⟨_,_,rfl,ZH _ _ _ _,ZH _ _ _ _,B9⟩)
 have yo:(((n:Nat):Int) != 1)=true:=by simp;omega
 have HR:Hid (l=Oz):=hl.trans (Z1 h1);clear h1 hA hl
 go_enter Tryz.func103,Tryz.ntmps103
 go_wp2_with fail
 have d0:=X.out.cl 0 _ rfl;have d1:=X.out.cl 1 _ rfl;have d2:=X.out.cl 2 _ rfl;have d3:=X.out.cl 3 _ rfl;have d4:=X.out.cl 4 _ rfl;exact ZW (v:=.agg #[.int .i64 0,.slice none 0 0,.bool false,.string ⟨#[]⟩,.slice none 0 0]) (by simp [results,Tryz.results103,go_sem,d0,d1,d2,d3,d4]) rfl (by rw [HR.out];exact ⟨_,_,rfl,ZH _ _ _ _,ZH _ _ _ _,BA.out⟩)
def Nu (k:Int) (L:List ByteArray) (ok:List Int→Bool):Ln :=
 match U8 L with
 | none=>Oz
 | some ns=>if L.length≤2000∧ok ns=true then ⟨k,[],false,⟨#[]⟩,ns⟩ else Oz
theorem Ip (w:World) (g c kb fb:Nat) (L:List ByteArray) (k:Int) (hk:w.cell? ⟨kb,0,none⟩=some (.int .i64 k)) (hf:w.cell? ⟨fb,0,none⟩=some (.func (.func 64) #[] #[])) (hL:0<L.length) (hL1:L.length≤1048577) (qn:L.length≤c) (hcm:c≤maxLen) (hR:tU w (.slice (some ⟨g,0,none⟩) L.length c) L) (hsz:oz L) (hg:Aq w m te pe) (l:Ln) (hl:l=Nu k (L.drop 1) (fun ns=>Sr ns)) :
    Calls Tryz.prog 105 #[.slice (some ⟨g,0,none⟩) L.length c,.pointer (some ⟨fb,0,none⟩),.pointer (some ⟨kb,0,none⟩)] w fun e w'=>ox w l e w':=by
 have hA:Zi w (w.alloc (.cells #[.int .i64 0,.slice none 0 0,.bool false,.string ⟨#[]⟩,.slice none 0 0] 43)):=Yy.alloc YR _;have BA:=ZU hA;have X:=ZU (St.new w #[.int .i64 0,.slice none 0 0,.bool false,.string ⟨#[]⟩,.slice none 0 0] 43);have hkl:kb<(w.alloc (.cells #[.int .i64 0,.slice none 0 0,.bool false,.string ⟨#[]⟩,.slice none 0 0] 43)).heap.size:=ZY (ZG w _ hk) hA.size;have hfl:fb<(w.alloc (.cells #[.int .i64 0,.slice none 0 0,.bool false,.string ⟨#[]⟩,.slice none 0 0] 43)).heap.size:=ZY (ZG w _ hf) hA.size;have hkz:=(hA.cell (p:=⟨kb,0,none⟩) (ZG w _ hk)).trans hk;have hfz:=(hA.cell (p:=⟨fb,0,none⟩) (ZG w _ hf)).trans hf;have RL:=hR.below hA;have RD:tU (w.alloc (.cells #[.int .i64 0,.slice none 0 0,.bool false,.string ⟨#[]⟩,.slice none 0 0] 43)) (if c=1 then .slice (some ⟨g,0,none⟩) (L.length - 1) (c - 1) else .slice (some ⟨g,0+1,none⟩) (L.length - 1) (c - 1)) (L.drop 1):=by
  have h9:=sf RL 1 (L.length - 1) (by omega);rw [Y8 (by rw [ZS];exact YR)] at h9
  by_cases hc:c=1
  · rw [Z0 hc]
    have hz:L.drop 1=[]:=XS (by omega);rw [hz,show L.length - 1=0 by omega];exact ⟨_,_,rfl,Zu _,by omega,.inl rfl⟩
  rw [Z1 hc];exact h9
 have HC:=ZU (MH (w.alloc (.cells #[.int .i64 0,.slice none 0 0,.bool false,.string ⟨#[]⟩,.slice none 0 0] 43)) _ (L.drop 1) RD (by rw [ZS];omega) (fun i=>by rw [Fx];exact hsz _) (hg.later hA));have Pu:=ZU hl;unfold maxLen at hcm;clear RD RL hR hsz hg hA hl hk hf;generalize L.drop 1=L' at *
 go_enter Tryz.func105,Tryz.ntmps105
 by_cases hc:c=1
 · rw [Z0 hc,show L.length - 1=0 by omega,show c - 1=0 by omega] at HC
   have ZN:L.length=1:=by omega
   go_wp2_with fail
   clear hc ZN;refine HC.out.mono ?_;rintro e w2 ⟨vn,ns,gd,rfl,n2,b2,hgd,hns⟩;obtain ⟨an,cn,rfl,-⟩:=P2 n2;have B:=ZU (Oy w2 _ (.slice an ns.length cn) ns n2)
   replace X:=ZU (X.out.below b2)
   replace BA:=ZU (BA.out.trans (b2.mono (by simp)))
   replace hkz:=(b2.cell (p:=⟨kb,0,none⟩) hkl).trans hkz
   replace hfz:=(b2.cell (p:=⟨fb,0,none⟩) hfl).trans hfz
   have N2:=ZU (RO n2 (lo':=w.heap.size+1) (by simp));have HQ:=ZU (And.intro hgd hns);clear HC n2 b2 hgd hns hkl hfl
   cases gd with
   | false =>
    have ST:Hid (l=Oz):=by
     show _=_;rw [Pu.out];unfold Nu
     cases hx:U8 L' with
     | none=>rfl
     | some x=>have:=HQ.out.1;rw [hx] at this;cases this
    clear Pu HQ B;have x0:=X.out.fz;have y0:=X.out.cl 0 _ rfl;have y1:=X.out.cl 1 _ rfl;have y2:=X.out.cl 2 _ rfl;have y3:=X.out.cl 3 _ rfl;have y4:=X.out.cl 4 _ rfl
    go_wp2_with fail
    obtain ⟨b9,x9,o9,n9⟩:=QR BA.out X.out 0 false ⟨#[]⟩ (vo:=.slice none 0 0) (vn:=.slice none 0 0) (show RQ _ _ _ _ [] from ZH _ _ _ _) (show Own _ _ _ _ _ [] from ZH _ _ _ _);have d0:=x9.cl 0 _ rfl;have d1:=x9.cl 1 _ rfl;have d2:=x9.cl 2 _ rfl;have d3:=x9.cl 3 _ rfl;have d4:=x9.cl 4 _ rfl;exact ZW (v:=.agg #[.int .i64 0,.slice none 0 0,.bool false,.string ⟨#[]⟩,.slice none 0 0]) (by simp [results,Tryz.results105,go_sem,d0,d1,d2,d3,d4]) rfl (by rw [ST.out];exact ⟨_,_,rfl,o9,n9,b9⟩)
   | true =>
    obtain ⟨x,hx⟩:=Option.isSome_iff_exists.1 HQ.out.1.symm;have hnx:=HQ.out.2 x hx;subst hnx;have hln:=ML hx
    by_cases hbig:2000<ns.length
    · have ov:(2000:Int)<((ns.length:Nat):Int):=by omega
      have ST:Hid (l=Oz):=by
       show _=_;rw [Pu.out];unfold Nu;rw [hx];show (if _ then _ else _)=_;rw [Z1 (fun h=>by omega)]
      clear Pu HQ B hx hln;have x0:=X.out.fz;have y0:=X.out.cl 0 _ rfl;have y1:=X.out.cl 1 _ rfl;have y2:=X.out.cl 2 _ rfl;have y3:=X.out.cl 3 _ rfl;have y4:=X.out.cl 4 _ rfl
      go_wp2_with fail
      obtain ⟨b9,x9,o9,n9⟩:=QR BA.out X.out 0 false ⟨#[]⟩ (vo:=.slice none 0 0) (vn:=.slice none 0 0) (show RQ _ _ _ _ [] from ZH _ _ _ _) (show Own _ _ _ _ _ [] from ZH _ _ _ _);have d0:=x9.cl 0 _ rfl;have d1:=x9.cl 1 _ rfl;have d2:=x9.cl 2 _ rfl;have d3:=x9.cl 3 _ rfl;have d4:=x9.cl 4 _ rfl;exact ZW (v:=.agg #[.int .i64 0,.slice none 0 0,.bool false,.string ⟨#[]⟩,.slice none 0 0]) (by simp [results,Tryz.results105,go_sem,d0,d1,d2,d3,d4]) rfl (by rw [ST.out];exact ⟨_,_,rfl,o9,n9,b9⟩)
    have ov:¬(2000:Int)<((ns.length:Nat):Int):=by omega
    have G:Hid (l=if Sr ns=true then ⟨k,[],false,⟨#[]⟩,ns⟩ else Oz):=by
     show _=_;rw [Pu.out];unfold Nu;rw [hx];show (if _ then _ else _)=_
     by_cases h9:Sr ns=true
     · rw [Z0 ⟨by omega,h9⟩,Z0 h9]
     rw [Z1 (fun h=>h9 h.2),Z1 h9]
    clear Pu HQ hx hln
    cases hok:(Sr ns:Bool) with
    | false =>
     have ST:Hid (l=Oz):=by show _=_;rw [G.out,Z1 (by rw [hok];decide)]
     clear G
     go_wp2_with fail
     refine B.out.mono ?_;rintro e w9 ⟨rfl,Ai⟩;subst Ai;rw [hok];have x0:=X.out.fz;have y0:=X.out.cl 0 _ rfl;have y1:=X.out.cl 1 _ rfl;have y2:=X.out.cl 2 _ rfl;have y3:=X.out.cl 3 _ rfl;have y4:=X.out.cl 4 _ rfl
     go_wp2_with fail
     obtain ⟨b9,x9,o9,n9⟩:=QR BA.out X.out 0 false ⟨#[]⟩ (vo:=.slice none 0 0) (vn:=.slice none 0 0) (show RQ _ _ _ _ [] from ZH _ _ _ _) (show Own _ _ _ _ _ [] from ZH _ _ _ _);have d0:=x9.cl 0 _ rfl;have d1:=x9.cl 1 _ rfl;have d2:=x9.cl 2 _ rfl;have d3:=x9.cl 3 _ rfl;have d4:=x9.cl 4 _ rfl;exact ZW (v:=.agg #[.int .i64 0,.slice none 0 0,.bool false,.string ⟨#[]⟩,.slice none 0 0]) (by simp [results,Tryz.results105,go_sem,d0,d1,d2,d3,d4]) rfl (by rw [ST.out];exact ⟨_,_,rfl,o9,n9,b9⟩)
    | true =>
     have ST:Hid (l=⟨k,[],false,⟨#[]⟩,ns⟩):=by show _=_;rw [G.out,Z0 hok]
     clear G
     go_wp2_with fail
     refine B.out.mono ?_;rintro e w9 ⟨rfl,Ai⟩;subst Ai;rw [hok];have x0:=X.out.fz;have y0:=X.out.cl 0 _ rfl;have y1:=X.out.cl 1 _ rfl;have y2:=X.out.cl 2 _ rfl;have y3:=X.out.cl 3 _ rfl;have y4:=X.out.cl 4 _ rfl
     go_wp2_with fail
     obtain ⟨b9,x9,o9,n9⟩:=QR BA.out X.out k false ⟨#[]⟩ (vo:=.slice none 0 0) (vn:=.slice an ns.length cn) (show RQ _ _ _ _ [] from ZH _ _ _ _) (N2.out);have d0:=x9.cl 0 _ rfl;have d1:=x9.cl 1 _ rfl;have d2:=x9.cl 2 _ rfl;have d3:=x9.cl 3 _ rfl;have d4:=x9.cl 4 _ rfl;exact ZW (v:=.agg #[.int .i64 k,.slice none 0 0,.bool false,.string ⟨#[]⟩,.slice an ns.length cn]) (by simp [results,Tryz.results105,go_sem,d0,d1,d2,d3,d4]) rfl (by rw [ST.out];exact ⟨_,_,rfl,o9,n9,b9⟩)
 rw [Z1 hc] at HC
 go_wp2_with fail
 refine HC.out.mono ?_;rintro e w2 ⟨vn,ns,gd,rfl,n2,b2,hgd,hns⟩;obtain ⟨an,cn,rfl,-⟩:=P2 n2;have B:=ZU (Oy w2 _ (.slice an ns.length cn) ns n2)
 replace X:=ZU (X.out.below b2)
 replace BA:=ZU (BA.out.trans (b2.mono (by simp)))
 replace hkz:=(b2.cell (p:=⟨kb,0,none⟩) hkl).trans hkz
 replace hfz:=(b2.cell (p:=⟨fb,0,none⟩) hfl).trans hfz
 have N2:=ZU (RO n2 (lo':=w.heap.size+1) (by simp));have HQ:=ZU (And.intro hgd hns);clear HC n2 b2 hgd hns hkl hfl
 cases gd with
 | false =>
  have ST:Hid (l=Oz):=by
   show _=_;rw [Pu.out];unfold Nu
   cases hx:U8 L' with
   | none=>rfl
   | some x=>have:=HQ.out.1;rw [hx] at this;cases this
  clear Pu HQ B;have x0:=X.out.fz;have y0:=X.out.cl 0 _ rfl;have y1:=X.out.cl 1 _ rfl;have y2:=X.out.cl 2 _ rfl;have y3:=X.out.cl 3 _ rfl;have y4:=X.out.cl 4 _ rfl
  go_wp2_with fail
  obtain ⟨b9,x9,o9,n9⟩:=QR BA.out X.out 0 false ⟨#[]⟩ (vo:=.slice none 0 0) (vn:=.slice none 0 0) (show RQ _ _ _ _ [] from ZH _ _ _ _) (show Own _ _ _ _ _ [] from ZH _ _ _ _);have d0:=x9.cl 0 _ rfl;have d1:=x9.cl 1 _ rfl;have d2:=x9.cl 2 _ rfl;have d3:=x9.cl 3 _ rfl;have d4:=x9.cl 4 _ rfl;exact ZW (v:=.agg #[.int .i64 0,.slice none 0 0,.bool false,.string ⟨#[]⟩,.slice none 0 0]) (by simp [results,Tryz.results105,go_sem,d0,d1,d2,d3,d4]) rfl (by rw [ST.out];exact ⟨_,_,rfl,o9,n9,b9⟩)
 | true =>
  obtain ⟨x,hx⟩:=Option.isSome_iff_exists.1 HQ.out.1.symm;have hnx:=HQ.out.2 x hx;subst hnx;have hln:=ML hx
  by_cases hbig:2000<ns.length
  · have ov:(2000:Int)<((ns.length:Nat):Int):=by omega
    have ST:Hid (l=Oz):=by
     show _=_;rw [Pu.out];unfold Nu;rw [hx];show (if _ then _ else _)=_;rw [Z1 (fun h=>by omega)]
    clear Pu HQ B hx hln;have x0:=X.out.fz;have y0:=X.out.cl 0 _ rfl;have y1:=X.out.cl 1 _ rfl;have y2:=X.out.cl 2 _ rfl;have y3:=X.out.cl 3 _ rfl;have y4:=X.out.cl 4 _ rfl
    go_wp2_with fail
    obtain ⟨b9,x9,o9,n9⟩:=QR BA.out X.out 0 false ⟨#[]⟩ (vo:=.slice none 0 0) (vn:=.slice none 0 0) (show RQ _ _ _ _ [] from ZH _ _ _ _) (show Own _ _ _ _ _ [] from ZH _ _ _ _);have d0:=x9.cl 0 _ rfl;have d1:=x9.cl 1 _ rfl;have d2:=x9.cl 2 _ rfl;have d3:=x9.cl 3 _ rfl;have d4:=x9.cl 4 _ rfl;exact ZW (v:=.agg #[.int .i64 0,.slice none 0 0,.bool false,.string ⟨#[]⟩,.slice none 0 0]) (by simp [results,Tryz.results105,go_sem,d0,d1,d2,d3,d4]) rfl (by rw [ST.out];exact ⟨_,_,rfl,o9,n9,b9⟩)
  have ov:¬(2000:Int)<((ns.length:Nat):Int):=by omega
  have G:Hid (l=if Sr ns=true then ⟨k,[],false,⟨#[]⟩,ns⟩ else Oz):=by
   show _=_;rw [Pu.out];unfold Nu;rw [hx];show (if _ then _ else _)=_
   by_cases h9:Sr ns=true
   · rw [Z0 ⟨by omega,h9⟩,Z0 h9]
   rw [Z1 (fun h=>h9 h.2),Z1 h9]
  clear Pu HQ hx hln
  cases hok:(Sr ns:Bool) with
  | false =>
   have ST:Hid (l=Oz):=by show _=_;rw [G.out,Z1 (by rw [hok];decide)]
   clear G
   go_wp2_with fail
   refine B.out.mono ?_;rintro e w9 ⟨rfl,Ai⟩;subst Ai;rw [hok];have x0:=X.out.fz;have y0:=X.out.cl 0 _ rfl;have y1:=X.out.cl 1 _ rfl;have y2:=X.out.cl 2 _ rfl;have y3:=X.out.cl 3 _ rfl;have y4:=X.out.cl 4 _ rfl
   go_wp2_with fail
   obtain ⟨b9,x9,o9,n9⟩:=QR BA.out X.out 0 false ⟨#[]⟩ (vo:=.slice none 0 0) (vn:=.slice none 0 0) (show RQ _ _ _ _ [] from ZH _ _ _ _) (show Own _ _ _ _ _ [] from ZH _ _ _ _);have d0:=x9.cl 0 _ rfl;have d1:=x9.cl 1 _ rfl;have d2:=x9.cl 2 _ rfl;have d3:=x9.cl 3 _ rfl;have d4:=x9.cl 4 _ rfl;exact ZW (v:=.agg #[.int .i64 0,.slice none 0 0,.bool false,.string ⟨#[]⟩,.slice none 0 0]) (by simp [results,Tryz.results105,go_sem,d0,d1,d2,d3,d4]) rfl (by rw [ST.out];exact ⟨_,_,rfl,o9,n9,b9⟩)
  | true =>
   have ST:Hid (l=⟨k,[],false,⟨#[]⟩,ns⟩):=by show _=_;rw [G.out,Z0 hok]
   clear G
   go_wp2_with fail
   refine B.out.mono ?_;rintro e w9 ⟨rfl,Ai⟩;subst Ai;rw [hok];have x0:=X.out.fz;have y0:=X.out.cl 0 _ rfl;have y1:=X.out.cl 1 _ rfl;have y2:=X.out.cl 2 _ rfl;have y3:=X.out.cl 3 _ rfl;have y4:=X.out.cl 4 _ rfl
   go_wp2_with fail
   obtain ⟨b9,x9,o9,n9⟩:=QR BA.out X.out k false ⟨#[]⟩ (vo:=.slice none 0 0) (vn:=.slice an ns.length cn) (show RQ _ _ _ _ [] from ZH _ _ _ _) (N2.out);have d0:=x9.cl 0 _ rfl;have d1:=x9.cl 1 _ rfl;have d2:=x9.cl 2 _ rfl;have d3:=x9.cl 3 _ rfl;have d4:=x9.cl 4 _ rfl;exact ZW (v:=.agg #[.int .i64 k,.slice none 0 0,.bool false,.string ⟨#[]⟩,.slice an ns.length cn]) (by simp [results,Tryz.results105,go_sem,d0,d1,d2,d3,d4]) rfl (by rw [ST.out];exact ⟨_,_,rfl,o9,n9,b9⟩)
theorem K5 (T:((Yh L 0).toList == [99,114,101,97,116,101])=false) (hseq:((Yh L 0).toList == [115,101,113])=false) (R:((Yh L 0).toList == [100,101,108,101,116,101])=false) (hset:((Yh L 0).toList == [115,101,116])=false) (M:((Yh L 0).toList == [99,104,101,99,107])=false):PV L=none:=by
 unfold PV JY JX
 simp [T,hseq,R,hset,M]
theorem xw {f0:ByteArray} (hstep:(f0.toList == [115,116,101,112])=false) (harm:(f0.toList == [97,114,109])=false) (Z:(f0.toList == [99,114,97,115,104])=false) (N:(f0.toList == [114,111,116])=false):i8 f0 ns=Oz:=by
 unfold i8
 simp [hstep,harm,Z,N]
theorem Nt (hstep:((Yh L 0).toList == [115,116,101,112])=false) (harm:((Yh L 0).toList == [97,114,109])=false) (Z:((Yh L 0).toList == [99,114,97,115,104])=false) (N:((Yh L 0).toList == [114,111,116])=false):i7 L=Oz:=by
 unfold i7
 cases U8 (L.drop 1) with
 | none=>rfl
 | some ns =>
  show (if _ then _ else _)=_;rw [xw hstep harm Z N]
  split <;> rfl
theorem Ji (h:((Yh L 0).toList == [102,108,117,115,104])=true):Aj L=if L.length=1 then ⟨2,[],false,⟨#[]⟩,[]⟩ else Oz:=by
 have U:((Yh L 0).toList == [109,117,108,116,105])=false:=by rw [ZL.1 h];rfl
 have T:((Yh L 0).toList == [99,114,101,97,116,101])=false:=by rw [ZL.1 h];rfl
 have hseq:((Yh L 0).toList == [115,101,113])=false:=by rw [ZL.1 h];rfl
 have R:((Yh L 0).toList == [100,101,108,101,116,101])=false:=by rw [ZL.1 h];rfl
 have hset:((Yh L 0).toList == [115,101,116])=false:=by rw [ZL.1 h];rfl
 have M:((Yh L 0).toList == [99,104,101,99,107])=false:=by rw [ZL.1 h];rfl
 have J:((Yh L 0).toList == [100,117,109,112])=false:=by rw [ZL.1 h];rfl
 have H:((Yh L 0).toList == [115,110,97,112])=false:=by rw [ZL.1 h];rfl
 have Y:((Yh L 0).toList == [114,101,99,111,118,101,114])=false:=by rw [ZL.1 h];rfl
 have V:((Yh L 0).toList == [115,116,97,116,117,115])=false:=by rw [ZL.1 h];rfl
 have hget:((Yh L 0).toList == [103,101,116])=false:=by rw [ZL.1 h];rfl
 have hlist:((Yh L 0).toList == [108,105,115,116])=false:=by rw [ZL.1 h];rfl
 have hstep:((Yh L 0).toList == [115,116,101,112])=false:=by rw [ZL.1 h];rfl
 have harm:((Yh L 0).toList == [97,114,109])=false:=by rw [ZL.1 h];rfl
 have Z:((Yh L 0).toList == [99,114,97,115,104])=false:=by rw [ZL.1 h];rfl
 have N:((Yh L 0).toList == [114,111,116])=false:=by rw [ZL.1 h];rfl
 unfold Aj lN;rw [Z1 (by rw [U];decide),K5 T hseq R hset M];show xy L=_;unfold xy lO;rw [Nt hstep harm Z N]
 by_cases h1:L.length=1
 · simp [h1,h,J,H,Y,V]
 simp [h1,hget,hlist]
theorem Fu (h:((Yh L 0).toList == [115,110,97,112])=true):Aj L=if L.length=1 then ⟨6,[],false,⟨#[]⟩,[]⟩ else Oz:=by
 have U:((Yh L 0).toList == [109,117,108,116,105])=false:=by rw [ZL.1 h];rfl
 have T:((Yh L 0).toList == [99,114,101,97,116,101])=false:=by rw [ZL.1 h];rfl
 have hseq:((Yh L 0).toList == [115,101,113])=false:=by rw [ZL.1 h];rfl
 have R:((Yh L 0).toList == [100,101,108,101,116,101])=false:=by rw [ZL.1 h];rfl
 have hset:((Yh L 0).toList == [115,101,116])=false:=by rw [ZL.1 h];rfl
 have M:((Yh L 0).toList == [99,104,101,99,107])=false:=by rw [ZL.1 h];rfl
 have I:((Yh L 0).toList == [102,108,117,115,104])=false:=by rw [ZL.1 h];rfl
 have J:((Yh L 0).toList == [100,117,109,112])=false:=by rw [ZL.1 h];rfl
 have Y:((Yh L 0).toList == [114,101,99,111,118,101,114])=false:=by rw [ZL.1 h];rfl
 have V:((Yh L 0).toList == [115,116,97,116,117,115])=false:=by rw [ZL.1 h];rfl
 have hget:((Yh L 0).toList == [103,101,116])=false:=by rw [ZL.1 h];rfl
 have hlist:((Yh L 0).toList == [108,105,115,116])=false:=by rw [ZL.1 h];rfl
 have hstep:((Yh L 0).toList == [115,116,101,112])=false:=by rw [ZL.1 h];rfl
 have harm:((Yh L 0).toList == [97,114,109])=false:=by rw [ZL.1 h];rfl
 have Z:((Yh L 0).toList == [99,114,97,115,104])=false:=by rw [ZL.1 h];rfl
 have N:((Yh L 0).toList == [114,111,116])=false:=by rw [ZL.1 h];rfl
 unfold Aj lN;rw [Z1 (by rw [U];decide),K5 T hseq R hset M];show xy L=_;unfold xy lO;rw [Nt hstep harm Z N]
 by_cases h1:L.length=1
 · simp [h1,h,I,J,Y,V]
 simp [h1,hget,hlist]
theorem Ft (h:((Yh L 0).toList == [115,116,101,112])=true):Aj L=Nu 7 (L.drop 1) (Sr):=by
 have U:((Yh L 0).toList == [109,117,108,116,105])=false:=by rw [ZL.1 h];rfl
 have T:((Yh L 0).toList == [99,114,101,97,116,101])=false:=by rw [ZL.1 h];rfl
 have hseq:((Yh L 0).toList == [115,101,113])=false:=by rw [ZL.1 h];rfl
 have R:((Yh L 0).toList == [100,101,108,101,116,101])=false:=by rw [ZL.1 h];rfl
 have hset:((Yh L 0).toList == [115,101,116])=false:=by rw [ZL.1 h];rfl
 have M:((Yh L 0).toList == [99,104,101,99,107])=false:=by rw [ZL.1 h];rfl
 have I:((Yh L 0).toList == [102,108,117,115,104])=false:=by rw [ZL.1 h];rfl
 have J:((Yh L 0).toList == [100,117,109,112])=false:=by rw [ZL.1 h];rfl
 have H:((Yh L 0).toList == [115,110,97,112])=false:=by rw [ZL.1 h];rfl
 have Y:((Yh L 0).toList == [114,101,99,111,118,101,114])=false:=by rw [ZL.1 h];rfl
 have V:((Yh L 0).toList == [115,116,97,116,117,115])=false:=by rw [ZL.1 h];rfl
 have hget:((Yh L 0).toList == [103,101,116])=false:=by rw [ZL.1 h];rfl
 have hlist:((Yh L 0).toList == [108,105,115,116])=false:=by rw [ZL.1 h];rfl
 have harm:((Yh L 0).toList == [97,114,109])=false:=by rw [ZL.1 h];rfl
 have Z:((Yh L 0).toList == [99,114,97,115,104])=false:=by rw [ZL.1 h];rfl
 have N:((Yh L 0).toList == [114,111,116])=false:=by rw [ZL.1 h];rfl
 unfold Aj lN;rw [Z1 (by rw [U];decide),K5 T hseq R hset M];show xy L=_;unfold xy lO
 simp only [I,J,H,Y,V,hget,hlist,Yu,and_false,WW]
 unfold i7 Nu
 cases U8 (L.drop 1) with
 | none=>rfl
 | some ns =>
  unfold i8 Sr
  by_cases h9:(L.drop 1).length≤2000
  · simp only [h9,Q0,Vo]
    simp [h,harm,Z,N]
  simp only [h9,false_and,WW]
theorem K0 (h:((Yh L 0).toList == [99,114,101,97,116,101])=true):Aj L=match PV L with | some o=>⟨1,[o],false,⟨#[]⟩,[]⟩ | none=>Oz:=by
 have U:((Yh L 0).toList == [109,117,108,116,105])=false:=by rw [ZL.1 h];rfl
 have I:((Yh L 0).toList == [102,108,117,115,104])=false:=by rw [ZL.1 h];rfl
 have J:((Yh L 0).toList == [100,117,109,112])=false:=by rw [ZL.1 h];rfl
 have H:((Yh L 0).toList == [115,110,97,112])=false:=by rw [ZL.1 h];rfl
 have Y:((Yh L 0).toList == [114,101,99,111,118,101,114])=false:=by rw [ZL.1 h];rfl
 have V:((Yh L 0).toList == [115,116,97,116,117,115])=false:=by rw [ZL.1 h];rfl
 have hget:((Yh L 0).toList == [103,101,116])=false:=by rw [ZL.1 h];rfl
 have hlist:((Yh L 0).toList == [108,105,115,116])=false:=by rw [ZL.1 h];rfl
 have hstep:((Yh L 0).toList == [115,116,101,112])=false:=by rw [ZL.1 h];rfl
 have harm:((Yh L 0).toList == [97,114,109])=false:=by rw [ZL.1 h];rfl
 have Z:((Yh L 0).toList == [99,114,97,115,104])=false:=by rw [ZL.1 h];rfl
 have N:((Yh L 0).toList == [114,111,116])=false:=by rw [ZL.1 h];rfl
 unfold Aj lN;rw [Z1 (by rw [U];decide)]
 cases PV L with
 | some o=>rfl
 | none =>
  show xy L=Oz;unfold xy lO;rw [Nt hstep harm Z N]
  simp [I,J,H,Y,V,hget,hlist]
theorem BC (h:((Yh L 0).toList == [115,101,116])=true):Aj L=match PV L with | some o=>⟨1,[o],false,⟨#[]⟩,[]⟩ | none=>Oz:=by
 have U:((Yh L 0).toList == [109,117,108,116,105])=false:=by rw [ZL.1 h];rfl
 have I:((Yh L 0).toList == [102,108,117,115,104])=false:=by rw [ZL.1 h];rfl
 have J:((Yh L 0).toList == [100,117,109,112])=false:=by rw [ZL.1 h];rfl
 have H:((Yh L 0).toList == [115,110,97,112])=false:=by rw [ZL.1 h];rfl
 have Y:((Yh L 0).toList == [114,101,99,111,118,101,114])=false:=by rw [ZL.1 h];rfl
 have V:((Yh L 0).toList == [115,116,97,116,117,115])=false:=by rw [ZL.1 h];rfl
 have hget:((Yh L 0).toList == [103,101,116])=false:=by rw [ZL.1 h];rfl
 have hlist:((Yh L 0).toList == [108,105,115,116])=false:=by rw [ZL.1 h];rfl
 have hstep:((Yh L 0).toList == [115,116,101,112])=false:=by rw [ZL.1 h];rfl
 have harm:((Yh L 0).toList == [97,114,109])=false:=by rw [ZL.1 h];rfl
 have Z:((Yh L 0).toList == [99,114,97,115,104])=false:=by rw [ZL.1 h];rfl
 have N:((Yh L 0).toList == [114,111,116])=false:=by rw [ZL.1 h];rfl
 unfold Aj lN;rw [Z1 (by rw [U];decide)]
 cases PV L with
 | some o=>rfl
 | none =>
  show xy L=Oz;unfold xy lO;rw [Nt hstep harm Z N]
  simp [I,J,H,Y,V,hget,hlist]
theorem Jh (w:World) (a:Option Addr) (c:Nat) (L:List ByteArray) (hop:∀W,Zi w W→Calls Tryz.prog 101 #[.slice a L.length c] W fun e w'=>JW W L e w') (l:Ln) (hl:l=match PV L with | some o=>⟨1,[o],false,⟨#[]⟩,[]⟩ | none=>Oz) :
    Calls Tryz.prog 59 #[.slice a L.length c] w fun e w'=>ox w l e w':=by
 have hA:Zi w (w.alloc (.cells #[.int .i64 0,.slice none 0 0,.bool false,.string ⟨#[]⟩,.slice none 0 0] 43)):=Yy.alloc YR _;have BA:=ZU hA;have X:=ZU (St.new w #[.int .i64 0,.slice none 0 0,.bool false,.string ⟨#[]⟩,.slice none 0 0] 43);have HC:=ZU (hop _ hA);have Pu:=ZU hl;clear hop hl hA
 go_enter Tryz.func59,Tryz.ntmps59
 go_wp2_with fail
 refine HC.out.mono ?_;rintro e w3 ⟨F,ok,rfl,b3,hok,ZM⟩;have HQ:=ZU (And.intro hok ZM);have s3:w.heap.size+1≤w3.heap.size:=ZJ (by simp) b3.size;have bA:Zi w3 (w3.alloc (.cells #[.int .i64 F.kind,.string F.path,.string F.data,.int .i64 F.XT,.bool F.seq] 159)):=Yy.alloc YR _;have ZT:=WD b3 bA
 replace X:=ZU (X.out.below ZT)
 replace BA:=ZU (WD BA.out ZT)
 have O3:=ZU (xD (w3.alloc (.cells #[.int .i64 F.kind,.string F.path,.string F.data,.int .i64 F.XT,.bool F.seq] 159)) (w.heap.size+1) (by simp;omega) F);rw [show (w3.alloc (.cells #[.int .i64 F.kind,.string F.path,.string F.data,.int .i64 F.XT,.bool F.seq] 159)).heap.size=w3.heap.size+1 by simp] at O3;clear HC bA b3 ZT hok ZM;unfold MW
 cases ok with
 | true =>
  have ST:Hid (l=⟨1,[F],false,⟨#[]⟩,[]⟩):=by
   show _=_;rw [Pu.out];obtain ⟨x,hx⟩:=Option.isSome_iff_exists.1 HQ.out.1.symm;rw [hx,HQ.out.2 x hx]
  replace X:=ZU (X.out.below (Yy.alloc YR (.cells #[.int .i64 F.kind,.string F.path,.string F.data,.int .i64 F.XT,.bool F.seq] 159)))
  replace BA:=ZU (BA.out.alloc (by simp;omega) (.cells #[.int .i64 F.kind,.string F.path,.string F.data,.int .i64 F.XT,.bool F.seq] 159))
  clear Pu HQ;have x0:=X.out.fz;have y0:=X.out.cl 0 _ rfl;have y1:=X.out.cl 1 _ rfl;have y2:=X.out.cl 2 _ rfl;have y3:=X.out.cl 3 _ rfl;have y4:=X.out.cl 4 _ rfl
  go_wp2_with fail
  obtain ⟨b9,x9,o9,n9⟩:=QR BA.out X.out 1 false ⟨#[]⟩ (vo:=.slice (some ⟨w3.heap.size+1,0,none⟩) 1 1) (vn:=.slice none 0 0) (show RQ _ _ _ _ [F] from O3.out) (show Own _ _ _ _ _ [] from ZH _ _ _ _);have d0:=x9.cl 0 _ rfl;have d1:=x9.cl 1 _ rfl;have d2:=x9.cl 2 _ rfl;have d3:=x9.cl 3 _ rfl;have d4:=x9.cl 4 _ rfl;exact ZW (v:=.agg #[.int .i64 1,.slice (some ⟨w3.heap.size+1,0,none⟩) 1 1,.bool false,.string ⟨#[]⟩,.slice none 0 0]) (by simp [results,Tryz.results59,go_sem,d0,d1,d2,d3,d4]) rfl (by rw [ST.out];exact ⟨_,_,rfl,o9,n9,b9⟩)
 | false =>
  have ST:Hid (l=Oz):=by
   show _=_;rw [Pu.out]
   cases hx:PV L with
   | none=>rfl
   | some x=>have:=HQ.out.1;rw [hx] at this;cases this
  clear Pu HQ O3;have x0:=X.out.fz;have y0:=X.out.cl 0 _ rfl;have y1:=X.out.cl 1 _ rfl;have y2:=X.out.cl 2 _ rfl;have y3:=X.out.cl 3 _ rfl;have y4:=X.out.cl 4 _ rfl
  go_wp2_with fail
  obtain ⟨b9,x9,o9,n9⟩:=QR BA.out X.out 0 false ⟨#[]⟩ (vo:=.slice none 0 0) (vn:=.slice none 0 0) (show RQ _ _ _ _ [] from ZH _ _ _ _) (show Own _ _ _ _ _ [] from ZH _ _ _ _);have d0:=x9.cl 0 _ rfl;have d1:=x9.cl 1 _ rfl;have d2:=x9.cl 2 _ rfl;have d3:=x9.cl 3 _ rfl;have d4:=x9.cl 4 _ rfl;exact ZW (v:=.agg #[.int .i64 0,.slice none 0 0,.bool false,.string ⟨#[]⟩,.slice none 0 0]) (by simp [results,Tryz.results59,go_sem,d0,d1,d2,d3,d4]) rfl (by rw [ST.out];exact ⟨_,_,rfl,o9,n9,b9⟩)
theorem Fs (w:World) (ao:Option Addr) (cap:Nat):Calls Tryz.prog 101 #[.slice ao 0 cap] w fun e w'=>JW w [] e w':=by
 have bA:Zi w (w.alloc (.cells #[.int .i64 0,.string ⟨#[]⟩,.string ⟨#[]⟩,.int .i64 0,.bool false] 159)):=Yy.alloc YR _;have X:=St.new w #[.int .i64 0,.string ⟨#[]⟩,.string ⟨#[]⟩,.int .i64 0,.bool false] 159;have BA:=ZU bA;have d0:=X.cl 0 _ rfl;have d1:=X.cl 1 _ rfl;have d2:=X.cl 2 _ rfl;have d3:=X.cl 3 _ rfl;have d4:=X.cl 4 _ rfl;clear bA
 go_enter Tryz.func101,Tryz.ntmps101
 go_wp2_with fail
 exact ZW (v:=.tuple #[MW ⟨0,⟨#[]⟩,⟨#[]⟩,0,false⟩,.bool false]) (by simp [results,Tryz.results101,go_sem,MW,d0,d1,d2,d3,d4]) rfl (JW.no (by rfl) BA.out)
theorem Fr (w:World) (v:Value) (L:List ByteArray) (h:tU w v L) (hsz:oz L) (hg:Aq w m te pe) (hf:tT w):Calls Tryz.prog 101 #[v] w fun e w'=>JW w L e w':=by
 obtain ⟨ao,cap,rfl,h1,h2,h3⟩:=h
 by_cases h0:0<L.length
 · rcases h3 with h3 | ⟨b,o,rfl,hb,hc⟩
   · rw [h3] at h0;simp at h0
   exact Fv w b o cap L h0 h1 h2 hsz hc hb hg hf
 have hn:L=[]:=Zg (by omega);subst hn;exact Fs w ao cap
def Sk (w:World) (b:Nat) (L:List (ByteArray × Value)):Prop :=
 ∃es clock,w.heap[b]?=some (.map es clock)∧es.toList.map (fun e=>(e.key,e.val))=L.map (fun x=>(Value.string x.1,x.2))
theorem Sk.lt {L:List (ByteArray × Value)} (h:Sk w b L):b<w.heap.size:=by
 obtain ⟨es,clock,hb,-⟩:=h;exact (Z3.1 hb).1
theorem Sk.made (w:World):Sk (w.alloc (.map #[] 0)) w.heap.size []:=⟨#[],0,(MapKept.heap_alloc w _).1,rfl⟩
theorem Sk.below {w':World} {L:List (ByteArray × Value)} (h:Sk w b L) (hb:Zi w w'):Sk w' b L:=by
 have hl:=h.lt;obtain ⟨es,clock,h1,h2⟩:=h;exact ⟨es,clock,(hb.block _ hl).trans h1,h2⟩
theorem Sk.keys {es:Array MapEntry} {L:List (ByteArray × Value)} (h2:es.toList.map (fun e=>(e.key,e.val))=L.map (fun x=>(Value.string x.1,x.2))) (x:MapEntry) (hx:x ∈ es.toList):∃s v,x.key=.string s∧x.val=v∧(s,v) ∈ L:=by
 have:(x.key,x.val) ∈ L.map (fun x=>(Value.string x.1,x.2)):=by rw [←h2];exact List.mem_map.2 ⟨x,hx,rfl⟩
 obtain ⟨⟨s,v⟩,hm,e⟩:=List.mem_map.1 this
 injection e with e1 e2
 exact ⟨s,v,e1.symm,e2.symm,hm⟩
theorem KZ {es:Array MapEntry} {L:List (ByteArray × Value)} (h2:es.toList.map (fun e=>(e.key,e.val))=L.map (fun x=>(Value.string x.1,x.2))) (s:ByteArray) :
    (Instr.findNow .string (.string s) es.toList 0=some none∧∀y ∈ L,y.1≠s)∨∃i v,Instr.findNow .string (.string s) es.toList 0=some (some (i,v))∧(s,v) ∈ L:=by
 have hk:MapKept.IsKey .string (.string s):=by simp [MapKept.IsKey]
 rcases MapKept.findNow_spec hk es.toList 0 (fun x hx=>by obtain ⟨t,v,e,-⟩:=Sk.keys h2 x hx;rw [e];simp [MapKept.IsKey]) with ⟨h1,h3⟩ | ⟨j,e,h1,h3,h4⟩
 · refine .inl ⟨h1,fun y hy e9=>?_⟩
   have:(Value.string y.1,y.2) ∈ es.toList.map (fun e=>(e.key,e.val)):=by rw [h2];exact List.mem_map.2 ⟨y,hy,rfl⟩
   obtain ⟨x,hx,e⟩:=List.mem_map.1 this
   injection e with e1 e2
   exact h3 x hx (by rw [e1,e9])
 obtain ⟨t,v,e1,e2,hm⟩:=Sk.keys h2 e (UT h3);rw [e1] at h4
 injection h4 with h4
 subst h4;exact .inr ⟨_,v,by rw [h1,e2],hm⟩
theorem Sk.put {L:List (ByteArray × Value)} (h:Sk w b L) (ht:P.underlying t=some (.map k e)) (hk:P.underlying k=some .string) (hn:∀y ∈ L,y.1≠s) (v:Value) :
    ∃w',(Instr.mapUpdate t (.map (some b)) (.string s) v).run P w=.ok () w'∧Sk w' b (L++[(s,v)])∧w.grownBy w' (some b)∧w'.heap.size=w.heap.size:=by
 have hl:=h.lt;obtain ⟨es,clock,hb,h2⟩:=h;have hc:(Instr.checkKey false 10000 k (.string s)).run P w=.ok () w:=MapKept.run_checkKey (k:=.string s) hk (by simp [MapKept.IsKey]) false 9999
 rcases KZ h2 s with ⟨hf,-⟩ | ⟨i,v9,-,hm⟩
 · refine ⟨ChangeMaps.setBlock w b (.map (es.push { key:=.string s,val:=v,born:=clock }) (clock+1)),?_,⟨_,_,ChangeMaps.heap_setBlock_same hb _,?_⟩,⟨rfl,rfl,rfl,by simp [ChangeMaps.setBlock],fun i _ hi=>ChangeMaps.heap_setBlock_other hb _ (fun e=>hi (by rw [e]))⟩,by simp [ChangeMaps.setBlock]⟩
   · simp [Instr.mapUpdate,Ya ht,MapKept.run_getObj_map hb,hc,MapKept.run_findKey hk hf,MapKept.run_setObj_map _ hb,Result.andThen,ChangeMaps.setBlock]
   rw [Array.toList_push,Y6,Y6,h2]
   rfl
 exact absurd rfl (hn _ hm)
theorem Sk.hit {L:List (ByteArray × Value)} (h:Sk w b L) (ht:P.underlying t=some (.map k e)) (hk:P.underlying k=some .string) (hm:(s,v) ∈ L) (hu:∀v9,(s,v9) ∈ L→v9=v) :
    (Instr.lookup t (.map (some b)) (.string s) true).run P w=.ok (.tuple #[v,.bool true]) w:=by
 obtain ⟨es,clock,hb,h2⟩:=h;have hc:(Instr.checkKey es.isEmpty 10000 k (.string s)).run P w=.ok () w:=MapKept.run_checkKey (k:=.string s) hk (by simp [MapKept.IsKey]) _ 9999
 rcases KZ h2 s with ⟨-,hn⟩ | ⟨i,v9,hf,gD⟩
 · exact absurd rfl (hn _ hm)
 rw [hu v9 gD] at hf
 simp [Instr.lookup,Ya ht,MapKept.run_getObj_map hb,hc,MapKept.run_findKey hk hf,Result.andThen]
structure PS (w W:World) (n:Nat) (L:List (ByteArray × Value)) (C:List (Nat × Value)):Prop where
 m:Sk W w.heap.size L
 b:Zi w W
 z:W.heap.size=n
 c:∀p ∈ C,w.heap.size<p.1∧p.1<n∧W.cell? ⟨p.1,0,none⟩=some p.2
theorem PS.made (w:World):PS w (w.alloc (.map #[] 0)) (w.heap.size+1) [] []:=⟨Sk.made w,Yy.alloc YR _,by simp,fun p hp=>by cases hp⟩
theorem PS.box {L:List (ByteArray × Value)} (h:PS w W n L C) (v:Value) (t:TypeId):PS w (W.alloc (.cells #[v] t)) (n+1) L (C++[(n,v)]):=by
 have hb:Zi W (W.alloc (.cells #[v] t)):=Yy.alloc YR _;have hm:=h.m.lt;refine ⟨h.m.below hb,h.b.trans (hb.mono h.b.size),by simp [h.z],fun p hp=>?_⟩
 rcases Y4.1 hp with hp | hp
 · obtain ⟨h1,h2,h3⟩:=h.c p hp
   exact ⟨h1,Nat.lt_succ_of_lt h2,(hb.cell (p:=⟨p.1,0,none⟩) (by rw [h.z];exact h2)).trans h3⟩
 obtain rfl:p=(n,v):=by simpa using hp
 refine ⟨by rw [←h.z];exact hm,WK _,?_⟩;have:=(St.new W #[v] t).cl 0 _ rfl;rw [h.z] at this;exact this
theorem PS.put {W':World} {L L':List (ByteArray × Value)} (h:PS w W n L C) (hm:Sk W' w.heap.size L') (hg:W.grownBy W' (some w.heap.size)) (hz:W'.heap.size=W.heap.size):PS w W' n L' C:=by
 refine ⟨hm,h.b.grown hg (ZJ YR h.b.size) (fun q hq=>by injection hq with hq;omega),hz.trans h.z,fun p hp=>?_⟩;obtain ⟨h1,h2,h3⟩:=h.c p hp;refine ⟨h1,h2,?_⟩;have:=hg.block p.1 (by rw [h.z];exact h2) (by intro e;injection e with e;omega);unfold World.cell? at h3 ⊢
 simp only at h3 ⊢
 rw [this];exact h3
theorem Xs (w W:World) {ops:Array Oper} {rest:List Oper} {o:Oper} {a:Act} {Q:Exit→Act→World→Prop}
    (hg:o.guard=none) (m x v:Operand) (t:TypeId) (hop:o.op=Op.insert t m x v) (k e:TypeId) (ht:P.underlying t=some (.map k e)) (hk:P.underlying k=some .string) (n:Nat) (L:List (ByteArray × Value)) (C:List (Nat × Value)) (hown:PS w W n L C)
    (hm:a.eval m=.map (some w.heap.size)) (s:ByteArray) (val:Value) (hx:a.eval x=.string s) (hv:a.eval v=val) (hnew:∀y ∈ L,y.1≠s)
    (hK:∀W',PS w W' n (L++[(s,val)]) C→wpList P ops Q rest (a.put o.dst undef) W'):wpList P ops Q (o :: rest) a W:=by
 refine TZ hg fun K' hK'=>?_
 obtain ⟨w',hrun,r1,r2,r3⟩:=hown.m.put ht hk hnew val;unfold Oper.wp
 simp [execOp,hop,hm,hx,hv,hrun,Result.andThen]
 exact hK' _ _ (hK w' (hown.put r1 r2 r3))
theorem TP (w:World) (n:Nat) (hn:w.heap.size=n) (k:Int):Calls Tryz.prog 61 #[.int .i64 k] w fun e w'=>e=.returned (.func (.func 103) #[] #[.pointer (some ⟨n,0,none⟩)])∧w'=w.alloc (.cells #[.int .i64 k] 2):=by
 go_enter Tryz.func61,Tryz.ntmps61
 go_wp2;go_ret;exact ⟨by rw [←hn];rfl,rfl⟩
theorem Pt (w:World) (n:Nat) (hn:w.heap.size=n) (k:Int):Calls Tryz.prog 62 #[.int .i64 k] w fun e w'=>e=.returned (.func (.func 104) #[] #[.pointer (some ⟨n,0,none⟩)])∧w'=w.alloc (.cells #[.int .i64 k] 2):=by
 go_enter Tryz.func62,Tryz.ntmps62
 go_wp2;go_ret;exact ⟨by rw [←hn];rfl,rfl⟩
theorem TL (w:World) (n:Nat) (hn:w.heap.size=n) (k:Int) (f:Nat):Calls Tryz.prog 63 #[.int .i64 k,.func (.func f) #[] #[]] w fun e w'=>e=.returned (.func (.func 105) #[] #[.pointer (some ⟨n+1,0,none⟩),.pointer (some ⟨n,0,none⟩)])∧w'=(w.alloc (.cells #[.int .i64 k] 2)).alloc (.cells #[.func (.func f) #[] #[]] 125):=by
 go_enter Tryz.func63,Tryz.ntmps63
 go_wp2;go_ret;exact ⟨by rw [←hn];simp,rfl⟩
def tR (n:Nat):List (ByteArray × Value):=[(⟨#[99,114,101,97,116,101]⟩,.func (.func 59) #[] #[]),
 (⟨#[115,101,113]⟩,.func (.func 59) #[] #[]),
 (⟨#[100,101,108,101,116,101]⟩,.func (.func 59) #[] #[]),
 (⟨#[115,101,116]⟩,.func (.func 59) #[] #[]),
 (⟨#[99,104,101,99,107]⟩,.func (.func 59) #[] #[]),
 (⟨#[109,117,108,116,105]⟩,.func (.func 60) #[] #[]),
 (⟨#[102,108,117,115,104]⟩,.func (.func 103) #[] #[.pointer (some ⟨n+1,0,none⟩)]),
 (⟨#[103,101,116]⟩,.func (.func 104) #[] #[.pointer (some ⟨n+2,0,none⟩)]),
 (⟨#[108,105,115,116]⟩,.func (.func 104) #[] #[.pointer (some ⟨n+3,0,none⟩)]),
 (⟨#[100,117,109,112]⟩,.func (.func 103) #[] #[.pointer (some ⟨n+4,0,none⟩)]),
 (⟨#[115,110,97,112]⟩,.func (.func 103) #[] #[.pointer (some ⟨n+5,0,none⟩)]),
 (⟨#[115,116,101,112]⟩,.func (.func 105) #[] #[.pointer (some ⟨n+7,0,none⟩),.pointer (some ⟨n+6,0,none⟩)]),
 (⟨#[97,114,109]⟩,.func (.func 105) #[] #[.pointer (some ⟨n+9,0,none⟩),.pointer (some ⟨n+8,0,none⟩)]),
 (⟨#[99,114,97,115,104]⟩,.func (.func 105) #[] #[.pointer (some ⟨n+11,0,none⟩),.pointer (some ⟨n+10,0,none⟩)]),
 (⟨#[114,111,116]⟩,.func (.func 105) #[] #[.pointer (some ⟨n+13,0,none⟩),.pointer (some ⟨n+12,0,none⟩)]),
 (⟨#[114,101,99,111,118,101,114]⟩,.func (.func 103) #[] #[.pointer (some ⟨n+14,0,none⟩)]),
 (⟨#[115,116,97,116,117,115]⟩,.func (.func 103) #[] #[.pointer (some ⟨n+15,0,none⟩)])]
def ou (n:Nat):List (Nat × Value):=[(n+1,.int .i64 2),(n+2,.int .i64 3),(n+3,.int .i64 4),(n+4,.int .i64 5),(n+5,.int .i64 6),(n+6,.int .i64 7),(n+7,.func (.func 64) #[] #[]),(n+8,.int .i64 8),(n+9,.func (.func 65) #[] #[]),(n+10,.int .i64 9),(n+11,.func (.func 66) #[] #[]),(n+12,.int .i64 10),(n+13,.func (.func 67) #[] #[]),(n+14,.int .i64 11),(n+15,.int .i64 12)]
theorem Ps {x y:ByteArray} (h:(x.data.toList == y.data.toList)=false):x≠y:=fun e=>by rw [e] at h;simp at h
theorem Fq (w:World):Calls Tryz.prog 26 #[] w fun e w'=>e=.returned (.map (some w.heap.size))∧PS w w' (w.heap.size+16) (tR w.heap.size) (ou w.heap.size):=by
 have hmm:=@run_makeMap Tryz.prog;have H0:=ZU (PS.made w)
 go_enter Tryz.func26,Tryz.ntmps26
 go_wp2_with (refine Xs w _ rfl _ _ _ 75 rfl 9 73 Tryz.underlying75 Tryz.underlying9 _ _ _ (H0).out rfl ⟨#[99,114,101,97,116,101]⟩ _ rfl rfl (by intro y hy;simp at hy;try (rcases hy with rfl);all_goals exact Ps (by rfl)) ?_)
 intro u0 H1
 replace H1:=ZU H1
 clear H0
 go_wp2_with (refine Xs w _ rfl _ _ _ 75 rfl 9 73 Tryz.underlying75 Tryz.underlying9 _ _ _ (H1).out rfl ⟨#[115,101,113]⟩ _ rfl rfl (by intro y hy;simp at hy;try (rcases hy with rfl);all_goals exact Ps (by rfl)) ?_)
 intro u1 H2
 replace H2:=ZU H2
 clear H1
 go_wp2_with (refine Xs w _ rfl _ _ _ 75 rfl 9 73 Tryz.underlying75 Tryz.underlying9 _ _ _ (H2).out rfl ⟨#[100,101,108,101,116,101]⟩ _ rfl rfl (by intro y hy;simp at hy;try (rcases hy with rfl | rfl);all_goals exact Ps (by rfl)) ?_)
 intro u2 H3
 replace H3:=ZU H3
 clear H2
 go_wp2_with (refine Xs w _ rfl _ _ _ 75 rfl 9 73 Tryz.underlying75 Tryz.underlying9 _ _ _ (H3).out rfl ⟨#[115,101,116]⟩ _ rfl rfl (by intro y hy;simp at hy;try (rcases hy with rfl | rfl | rfl);all_goals exact Ps (by rfl)) ?_)
 intro u3 H4
 replace H4:=ZU H4
 clear H3
 go_wp2_with (refine Xs w _ rfl _ _ _ 75 rfl 9 73 Tryz.underlying75 Tryz.underlying9 _ _ _ (H4).out rfl ⟨#[99,104,101,99,107]⟩ _ rfl rfl (by intro y hy;simp at hy;try (rcases hy with rfl | rfl | rfl | rfl);all_goals exact Ps (by rfl)) ?_)
 intro u4 H5
 replace H5:=ZU H5
 clear H4
 go_wp2_with (refine Xs w _ rfl _ _ _ 75 rfl 9 73 Tryz.underlying75 Tryz.underlying9 _ _ _ (H5).out rfl ⟨#[109,117,108,116,105]⟩ _ rfl rfl (by intro y hy;simp at hy;try (rcases hy with rfl | rfl | rfl | rfl | rfl);all_goals exact Ps (by rfl)) ?_)
 intro u5 H6
 replace H6:=ZU H6
 clear H5
 go_wp2_with fail
 refine (TP _ _ H6.out.z 2).mono ?_;rintro e w6 ⟨rfl,rfl⟩
 replace H6:=ZU (H6.out.box (.int .i64 2) 2)
 generalize World.alloc _ _=v6 at *
 go_wp2_with (refine Xs w _ rfl _ _ _ 75 rfl 9 73 Tryz.underlying75 Tryz.underlying9 _ _ _ (H6).out rfl ⟨#[102,108,117,115,104]⟩ _ rfl rfl (by intro y hy;simp at hy;try (rcases hy with rfl | rfl | rfl | rfl | rfl | rfl);all_goals exact Ps (by rfl)) ?_)
 intro u6 H7
 replace H7:=ZU H7
 clear H6
 go_wp2_with fail
 refine (Pt _ _ H7.out.z 3).mono ?_;rintro e w7 ⟨rfl,rfl⟩
 replace H7:=ZU (H7.out.box (.int .i64 3) 2)
 generalize World.alloc _ _=v7 at *
 go_wp2_with (refine Xs w _ rfl _ _ _ 75 rfl 9 73 Tryz.underlying75 Tryz.underlying9 _ _ _ (H7).out rfl ⟨#[103,101,116]⟩ _ rfl rfl (by intro y hy;simp at hy;try (rcases hy with rfl | rfl | rfl | rfl | rfl | rfl | rfl);all_goals exact Ps (by rfl)) ?_)
 intro u7 H8
 replace H8:=ZU H8
 clear H7
 go_wp2_with fail
 refine (Pt _ _ H8.out.z 4).mono ?_;rintro e w8 ⟨rfl,rfl⟩
 replace H8:=ZU (H8.out.box (.int .i64 4) 2)
 generalize World.alloc _ _=v8 at *
 go_wp2_with (refine Xs w _ rfl _ _ _ 75 rfl 9 73 Tryz.underlying75 Tryz.underlying9 _ _ _ (H8).out rfl ⟨#[108,105,115,116]⟩ _ rfl rfl (by intro y hy;simp at hy;try (rcases hy with rfl | rfl | rfl | rfl | rfl | rfl | rfl | rfl);all_goals exact Ps (by rfl)) ?_)
 intro u8 H9
 replace H9:=ZU H9
 clear H8
 go_wp2_with fail
 refine (TP _ _ H9.out.z 5).mono ?_;rintro e w9 ⟨rfl,rfl⟩
 replace H9:=ZU (H9.out.box (.int .i64 5) 2)
 generalize World.alloc _ _=v9 at *
 go_wp2_with (refine Xs w _ rfl _ _ _ 75 rfl 9 73 Tryz.underlying75 Tryz.underlying9 _ _ _ (H9).out rfl ⟨#[100,117,109,112]⟩ _ rfl rfl (by intro y hy;simp at hy;try (rcases hy with rfl | rfl | rfl | rfl | rfl | rfl | rfl | rfl | rfl);all_goals exact Ps (by rfl)) ?_)
 intro u9 u
 replace u:=ZU u
 clear H9
 go_wp2_with fail
 refine (TP _ _ u.out.z 6).mono ?_;rintro e Jg ⟨rfl,rfl⟩
 replace u:=ZU (u.out.box (.int .i64 6) 2)
 generalize World.alloc _ _=v10 at *
 go_wp2_with (refine Xs w _ rfl _ _ _ 75 rfl 9 73 Tryz.underlying75 Tryz.underlying9 _ _ _ (u).out rfl ⟨#[115,110,97,112]⟩ _ rfl rfl (by intro y hy;simp at hy;try (rcases hy with rfl | rfl | rfl | rfl | rfl | rfl | rfl | rfl | rfl | rfl);all_goals exact Ps (by rfl)) ?_)
 intro u10 tQ
 replace tQ:=ZU tQ
 clear u
 go_wp2_with fail
 refine (TL _ _ tQ.out.z 7 _).mono ?_;rintro e gC ⟨rfl,rfl⟩
 replace tQ:=ZU ((tQ.out.box (.int .i64 7) 2).box (.func (.func 64) #[] #[]) 125)
 generalize (World.alloc _ _).alloc _=v11 at *
 go_wp2_with (refine Xs w _ rfl _ _ _ 75 rfl 9 73 Tryz.underlying75 Tryz.underlying9 _ _ _ (tQ).out rfl ⟨#[115,116,101,112]⟩ _ rfl rfl (by intro y hy;simp at hy;try (rcases hy with rfl | rfl | rfl | rfl | rfl | rfl | rfl | rfl | rfl | rfl | rfl);all_goals exact Ps (by rfl)) ?_)
 intro u11 Z'
 replace Z':=ZU Z'
 clear tQ
 go_wp2_with fail
 refine (TL _ _ Z'.out.z 8 _).mono ?_;rintro e tP ⟨rfl,rfl⟩
 replace Z':=ZU ((Z'.out.box (.int .i64 8) 2).box (.func (.func 65) #[] #[]) 125)
 generalize (World.alloc _ _).alloc _=v12 at *
 go_wp2_with (refine Xs w _ rfl _ _ _ 75 rfl 9 73 Tryz.underlying75 Tryz.underlying9 _ _ _ (Z').out rfl ⟨#[97,114,109]⟩ _ rfl rfl (by intro y hy;simp at hy;try (rcases hy with rfl | rfl | rfl | rfl | rfl | rfl | rfl | rfl | rfl | rfl | rfl | rfl);all_goals exact Ps (by rfl)) ?_)
 intro u12 tN
 replace tN:=ZU tN
 clear Z'
 go_wp2_with fail
 refine (TL _ _ tN.out.z 9 _).mono ?_;rintro e gB ⟨rfl,rfl⟩
 replace tN:=ZU ((tN.out.box (.int .i64 9) 2).box (.func (.func 66) #[] #[]) 125)
 generalize (World.alloc _ _).alloc _=v13 at *
 go_wp2_with (refine Xs w _ rfl _ _ _ 75 rfl 9 73 Tryz.underlying75 Tryz.underlying9 _ _ _ (tN).out rfl ⟨#[99,114,97,115,104]⟩ _ rfl rfl (by intro y hy;simp at hy;try (rcases hy with rfl | rfl | rfl | rfl | rfl | rfl | rfl | rfl | rfl | rfl | rfl | rfl | rfl);all_goals exact Ps (by rfl)) ?_)
 intro u13 Z8
 replace Z8:=ZU Z8
 clear tN
 go_wp2_with fail
 refine (TL _ _ Z8.out.z 10 _).mono ?_;rintro e fA ⟨rfl,rfl⟩
 replace Z8:=ZU ((Z8.out.box (.int .i64 10) 2).box (.func (.func 67) #[] #[]) 125)
 generalize (World.alloc _ _).alloc _=v14 at *
 go_wp2_with (refine Xs w _ rfl _ _ _ 75 rfl 9 73 Tryz.underlying75 Tryz.underlying9 _ _ _ (Z8).out rfl ⟨#[114,111,116]⟩ _ rfl rfl (by intro y hy;simp at hy;try (rcases hy with rfl | rfl | rfl | rfl | rfl | rfl | rfl | rfl | rfl | rfl | rfl | rfl | rfl | rfl);all_goals exact Ps (by rfl)) ?_)
 intro u14 Z7
 replace Z7:=ZU Z7
 clear Z8
 go_wp2_with fail
 refine (TP _ _ Z7.out.z 11).mono ?_;rintro e eV ⟨rfl,rfl⟩
 replace Z7:=ZU (Z7.out.box (.int .i64 11) 2)
 generalize World.alloc _ _=v15 at *
 go_wp2_with (refine Xs w _ rfl _ _ _ 75 rfl 9 73 Tryz.underlying75 Tryz.underlying9 _ _ _ (Z7).out rfl ⟨#[114,101,99,111,118,101,114]⟩ _ rfl rfl (by intro y hy;simp at hy;try (rcases hy with rfl | rfl | rfl | rfl | rfl | rfl | rfl | rfl | rfl | rfl | rfl | rfl | rfl | rfl | rfl);all_goals exact Ps (by rfl)) ?_)
 intro u15 Z6
 replace Z6:=ZU Z6
 clear Z7
 go_wp2_with fail
 refine (TP _ _ Z6.out.z 12).mono ?_;rintro e w16 ⟨rfl,rfl⟩
 replace Z6:=ZU (Z6.out.box (.int .i64 12) 2)
 generalize World.alloc _ _=v16 at *
 go_wp2_with (refine Xs w _ rfl _ _ _ 75 rfl 9 73 Tryz.underlying75 Tryz.underlying9 _ _ _ (Z6).out rfl ⟨#[115,116,97,116,117,115]⟩ _ rfl rfl (by intro y hy;simp at hy;try (rcases hy with rfl | rfl | rfl | rfl | rfl | rfl | rfl | rfl | rfl | rfl | rfl | rfl | rfl | rfl | rfl | rfl);all_goals exact Ps (by rfl)) ?_)
 intro u16 ZP
 replace ZP:=ZU ZP
 clear Z6
 go_wp2_with fail
 go_ret;exact ⟨rfl,ZP.out⟩
theorem kD {f:ByteArray} {l:List UInt8} (h:(f.toList == l)=true):f=UG l:=by rw [←Ny f,←Mg,ZL.1 h]
theorem Fp (b:ByteArray):strOfNums (bI b)=b:=by
 have h:=xI b 0 b.size;rw [XR,XR,Y8 (by rw [QT];exact YR),Y8 (by rw [Tx];exact YR)] at h;rw [h]
 rfl
theorem xu (b:ByteArray) (hs:b.size≤1048576):0<(UK b).length∧(UK b).length≤1048577∧oz (UK b):=by
 have h1:=FC 32 b.data.toList [];obtain ⟨h2,h3⟩:=La 32 b.data.toList [];have h4:=Tx b;unfold UK;rw [Zl];refine ⟨h1,by omega,fun i=>?_⟩
 by_cases hi:i<((RK 32 [] b.data.toList).map UG).length
 · rw [OY hi,List.getElem_map]
   rw [Zl] at hi;have:=h3 _ (YP hi);rw [←Tx,Qy]
   simp at this;omega
 unfold Yh;rw [List.getD,Yk (by omega)];exact Zu _
theorem Ac (w:World) (b:ByteArray) (hs:b.size≤1048576) (hm:w.cell? ⟨1,0,none⟩=some (.int .i64 m)) :
    Calls Tryz.prog 23 #[.string b,.string ⟨#[32]⟩] w fun e w'=>e=.returned (.slice (some ⟨w.heap.size,0,none⟩) (UK b).length (UK b).length)∧w'=w.alloc (.cells ((UK b).map Value.string).toArray 9):=by
 have h:=Tryz.strings_Split b ⟨#[32]⟩ m w (by omega) hm (by decide);have e:=sj (Lib.countB b ⟨#[32]⟩) b rfl;have l:=Lib.splitB_all ⟨#[32]⟩ (by decide) 0 (Lib.countB b ⟨#[32]⟩) b rfl;rw [e] at h l;rw [l];exact h
theorem Ab (W:World) (L:List ByteArray) (i:Nat) (hi:i<L.length):(W.alloc (.cells (L.map Value.string).toArray 9)).cell? ⟨W.heap.size,i,none⟩=some (.string (Yh L i)):=by
 have:=(St.new W (L.map Value.string).toArray 9).cl i (.string (Yh L i)) (by
  show (L.map Value.string).toArray.toList[i]?=_;rw [Vu,Yo,ZF hi,OY hi]
  rfl)
 exact this
end Go.Proofs.YtpmjnbmkippaiaaGreatDoor


