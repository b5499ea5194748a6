import Derived.Test.YtpmjnbmkippaiaaGreatDoorJ15
import Derived.Lib.SplitLaws
set_option maxRecDepth 100000
set_option maxHeartbeats 16000000
set_option linter.unusedVariables false
set_option linter.unusedSimpArgs false
namespace Go.Proofs.YtpmjnbmkippaiaaGreatDoor
section
open Go.RowKit Go.Shelf
variable {s:ByteArray} {L:List (ByteArray × Value)} {C:List (Nat × Value)} {ls:List ByteArray} {S hi i j k lo n z:Nat} {P:Program} {κ:Sc} {σ:Sx} {e t:TypeId} {v:Value} {W w w':World}
def We (w:World) (b:Nat) (L:List (ByteArray × Value)):Prop :=
 ∃es clock,w.heap[b]?=some (.map es clock)∧es.toList.map (fun e=>(e.key,e.val))=L.map (fun x=>(Value.string x.1,x.2))
theorem We.lt {b:Nat} (h:We w b L):b<w.heap.size:=by
 obtain ⟨es,clock,hb,-⟩:=h;exact (Yh.1 hb).1
theorem We.made (w:World):We (w.alloc (.map #[] 0)) w.heap.size []:=⟨#[],0,(MapKept.heap_alloc w _).1,rfl⟩
theorem We.below {b:Nat} (h:We w b L) (hb:ZX w w'):We w' b L:=by
 have hl:=h.lt;obtain ⟨es,clock,h1,h2⟩:=h;exact ⟨es,clock,(hb.block _ hl).trans h1,h2⟩
theorem We.keys {es:Array MapEntry} (h2:es.toList.map (fun e=>(e.key,e.val))=L.map (fun x=>(Value.string x.1,x.2))) (x:MapEntry) (hx:x ∈ es.toList):∃s v,x.key=.string s∧x.val=v∧(s,v) ∈ L:=by
 have:(x.key,x.val) ∈ L.map (fun x=>(Value.string x.1,x.2)):=by rw [←h2];exact List.mem_map.2 ⟨x,hx,rfl⟩
 obtain ⟨⟨s,v⟩,hm,e⟩:=List.mem_map.1 this
 injection e with e1 e2
 exact ⟨s,v,e1.symm,e2.symm,hm⟩
theorem Nh {es:Array MapEntry} (h2:es.toList.map (fun e=>(e.key,e.val))=L.map (fun x=>(Value.string x.1,x.2))) (s:ByteArray) :
    (Instr.findNow .string (.string s) es.toList 0=some none∧∀y ∈ L,y.1≠s)∨∃i v,Instr.findNow .string (.string s) es.toList 0=some (some (i,v))∧(s,v) ∈ L:=by
 have hk:MapKept.IsKey .string (.string s):=by simp [MapKept.IsKey]
 rcases MapKept.findNow_spec hk es.toList 0 (fun x hx=>by obtain ⟨t,v,e,-⟩:=We.keys h2 x hx;rw [e];simp [MapKept.IsKey]) with ⟨h1,h3⟩ | ⟨j,e,h1,h3,h4⟩
 · refine .inl ⟨h1,fun y hy e9=>?_⟩
   have:(Value.string y.1,y.2) ∈ es.toList.map (fun e=>(e.key,e.val)):=by rw [h2];exact List.mem_map.2 ⟨y,hy,rfl⟩
   obtain ⟨x,hx,e⟩:=List.mem_map.1 this
   injection e with e1 e2
   exact h3 x hx (by rw [e1,e9])
 obtain ⟨t,v,e1,e2,hm⟩:=We.keys h2 e (zU h3);rw [e1] at h4
 injection h4 with h4
 subst h4;exact .inr ⟨_,v,by rw [h1,e2],hm⟩
theorem We.put {b:Nat} (h:We w b L) {k:TypeId} (ht:P.underlying t=some (.map k e)) (hk:P.underlying k=some .string) (hn:∀y ∈ L,y.1≠s) (v:Value) :
    ∃w',(Instr.mapUpdate t (.map (some b)) (.string s) v).run P w=.ok () w'∧We w' b (L++[(s,v)])∧w.grownBy w' (some b)∧w'.heap.size=w.heap.size:=by
 have hl:=h.lt;obtain ⟨es,clock,hb,h2⟩:=h;have hc:(Instr.checkKey false 10000 k (.string s)).run P w=.ok () w:=MapKept.run_checkKey (k:=.string s) hk (by simp [MapKept.IsKey]) false 9999
 rcases Nh h2 s with ⟨hf,-⟩ | ⟨i,v9,-,hm⟩
 · refine ⟨ChangeMaps.setBlock w b (.map (es.push { key:=.string s,val:=v,born:=clock }) (clock+1)),?_,⟨_,_,ChangeMaps.heap_setBlock_same hb _,?_⟩,⟨rfl,rfl,rfl,by simp [ChangeMaps.setBlock],fun i _ hi=>ChangeMaps.heap_setBlock_other hb _ (fun e=>hi (by rw [e]))⟩,by simp [ChangeMaps.setBlock]⟩
   · simp [Instr.mapUpdate,US ht,MapKept.run_getObj_map hb,hc,MapKept.run_findKey hk hf,MapKept.run_setObj_map _ hb,Result.andThen,ChangeMaps.setBlock]
   rw [Array.toList_push,Wn,Wn,h2]
   rfl
 exact absurd rfl (hn _ hm)
theorem We.hit {b:Nat} (h:We w b L) {k:TypeId} (ht:P.underlying t=some (.map k e)) (hk:P.underlying k=some .string) (hm:(s,v) ∈ L) (hu:∀v9,(s,v9) ∈ L→v9=v) :
    (Instr.lookup t (.map (some b)) (.string s) true).run P w=.ok (.tuple #[v,.bool true]) w:=by
 obtain ⟨es,clock,hb,h2⟩:=h;have hc:(Instr.checkKey es.isEmpty 10000 k (.string s)).run P w=.ok () w:=MapKept.run_checkKey (k:=.string s) hk (by simp [MapKept.IsKey]) _ 9999
 rcases Nh h2 s with ⟨-,hn⟩ | ⟨i,v9,hf,fq⟩
 · exact absurd rfl (hn _ hm)
 rw [hu v9 fq] at hf
 simp [Instr.lookup,US ht,MapKept.run_getObj_map hb,hc,MapKept.run_findKey hk hf,Result.andThen]
structure PS (w W:World) (n:Nat) (L:List (ByteArray × Value)) (C:List (Nat × Value)):Prop where
 m:We W w.heap.size L
 b:ZX w W
 z:W.heap.size=n
 c:∀p ∈ C,w.heap.size<p.1∧p.1<n∧W.cell? ⟨p.1,0,none⟩=some p.2
theorem PS.made (w:World):PS w (w.alloc (.map #[] 0)) (w.heap.size+1) [] []:=⟨We.made w,ZJ.alloc ZT _,by simp,fun p hp=>by cases hp⟩
theorem PS.box (h:PS w W n L C) (v:Value) (t:TypeId):PS w (W.alloc (.cells #[v] t)) (n+1) L (C++[(n,v)]):=by
 have hb:ZX W (W.alloc (.cells #[v] t)):=ZJ.alloc ZT _;have hm:=h.m.lt;refine ⟨h.m.below hb,h.b.trans (hb.mono h.b.size),by simp [h.z],fun p hp=>?_⟩
 rcases XP.1 hp with hp | hp
 · obtain ⟨h1,h2,h3⟩:=h.c p hp
   exact ⟨h1,Nat.lt_succ_of_lt h2,(hb.cell (p:=⟨p.1,0,none⟩) (by rw [h.z];exact h2)).trans h3⟩
 obtain rfl:p=(n,v):=by simpa using hp
 refine ⟨by rw [←h.z];exact hm,OQ _,?_⟩;have:=(St.new W #[v] t).cl 0 _ rfl;rw [h.z] at this;exact this
theorem PS.put {W':World} {L':List (ByteArray × Value)} (h:PS w W n L C) (hm:We W' w.heap.size L') (hg:W.grownBy W' (some w.heap.size)) (hz:W'.heap.size=W.heap.size):PS w W' n L' C:=by
 refine ⟨hm,h.b.grown hg (ZF ZT h.b.size) (fun q hq=>by injection hq with hq;omega),hz.trans h.z,fun p hp=>?_⟩;obtain ⟨h1,h2,h3⟩:=h.c p hp;refine ⟨h1,h2,?_⟩;have:=hg.block p.1 (by rw [h.z];exact h2) (by intro e;injection e with e;omega);unfold World.cell? at h3 ⊢
 simp only at h3 ⊢
 rw [this];exact h3
theorem Zn (w W:World) {ops:Array Oper} {rest:List Oper} {o:Oper} {a:Act} {Q:Exit→Act→World→Prop}
    (hg:o.guard=none) (m x v:Operand) (t:TypeId) (hop:o.op=Op.insert t m x v) (k e:TypeId) (ht:P.underlying t=some (.map k e)) (hk:P.underlying k=some .string) (n:Nat) (L:List (ByteArray × Value)) (C:List (Nat × Value)) (hown:PS w W n L C)
    (hm:a.eval m=.map (some w.heap.size)) (s:ByteArray) (val:Value) (hx:a.eval x=.string s) (hv:a.eval v=val) (hnew:∀y ∈ L,y.1≠s)
    (hK:∀W',PS w W' n (L++[(s,val)]) C→wpList P ops Q rest (a.put o.dst undef) W'):wpList P ops Q (o :: rest) a W:=by
 refine Je hg fun K' hK'=>?_
 obtain ⟨w',hrun,r1,r2,r3⟩:=hown.m.put ht hk hnew val;unfold Oper.wp
 simp [execOp,hop,hm,hx,hv,hrun,Result.andThen]
 exact hK' _ _ (hK w' (hown.put r1 r2 r3))
theorem Xe (w:World) (n:Nat) (hn:w.heap.size=n) (k:Int):Calls Tryz.prog 61 #[.int .i64 k] w fun e w'=>e=.returned (.func (.func 103) #[] #[.pointer (some ⟨n,0,none⟩)])∧w'=w.alloc (.cells #[.int .i64 k] 2):=by
 go_enter Tryz.func61,Tryz.ntmps61
 go_wp2;go_ret;exact ⟨by rw [←hn];rfl,rfl⟩
theorem Td (w:World) (n:Nat) (hn:w.heap.size=n) (k:Int):Calls Tryz.prog 62 #[.int .i64 k] w fun e w'=>e=.returned (.func (.func 104) #[] #[.pointer (some ⟨n,0,none⟩)])∧w'=w.alloc (.cells #[.int .i64 k] 2):=by
 go_enter Tryz.func62,Tryz.ntmps62
 go_wp2;go_ret;exact ⟨by rw [←hn];rfl,rfl⟩
theorem Xb (w:World) (n:Nat) (hn:w.heap.size=n) (k:Int) (f:Nat):Calls Tryz.prog 63 #[.int .i64 k,.func (.func f) #[] #[]] w fun e w'=>e=.returned (.func (.func 105) #[] #[.pointer (some ⟨n+1,0,none⟩),.pointer (some ⟨n,0,none⟩)])∧w'=(w.alloc (.cells #[.int .i64 k] 2)).alloc (.cells #[.func (.func f) #[] #[]] 125):=by
 go_enter Tryz.func63,Tryz.ntmps63
 go_wp2;go_ret;exact ⟨by rw [←hn];simp,rfl⟩
def uw (n:Nat):List (ByteArray × Value):=[(⟨#[99,114,101,97,116,101]⟩,.func (.func 59) #[] #[]),
 (⟨#[115,101,113]⟩,.func (.func 59) #[] #[]),
 (⟨#[100,101,108,101,116,101]⟩,.func (.func 59) #[] #[]),
 (⟨#[115,101,116]⟩,.func (.func 59) #[] #[]),
 (⟨#[99,104,101,99,107]⟩,.func (.func 59) #[] #[]),
 (⟨#[109,117,108,116,105]⟩,.func (.func 60) #[] #[]),
 (⟨#[102,108,117,115,104]⟩,.func (.func 103) #[] #[.pointer (some ⟨n+1,0,none⟩)]),
 (⟨#[103,101,116]⟩,.func (.func 104) #[] #[.pointer (some ⟨n+2,0,none⟩)]),
 (⟨#[108,105,115,116]⟩,.func (.func 104) #[] #[.pointer (some ⟨n+3,0,none⟩)]),
 (⟨#[100,117,109,112]⟩,.func (.func 103) #[] #[.pointer (some ⟨n+4,0,none⟩)]),
 (⟨#[115,110,97,112]⟩,.func (.func 103) #[] #[.pointer (some ⟨n+5,0,none⟩)]),
 (⟨#[115,116,101,112]⟩,.func (.func 105) #[] #[.pointer (some ⟨n+7,0,none⟩),.pointer (some ⟨n+6,0,none⟩)]),
 (⟨#[97,114,109]⟩,.func (.func 105) #[] #[.pointer (some ⟨n+9,0,none⟩),.pointer (some ⟨n+8,0,none⟩)]),
 (⟨#[99,114,97,115,104]⟩,.func (.func 105) #[] #[.pointer (some ⟨n+11,0,none⟩),.pointer (some ⟨n+10,0,none⟩)]),
 (⟨#[114,111,116]⟩,.func (.func 105) #[] #[.pointer (some ⟨n+13,0,none⟩),.pointer (some ⟨n+12,0,none⟩)]),
 (⟨#[114,101,99,111,118,101,114]⟩,.func (.func 103) #[] #[.pointer (some ⟨n+14,0,none⟩)]),
 (⟨#[115,116,97,116,117,115]⟩,.func (.func 103) #[] #[.pointer (some ⟨n+15,0,none⟩)])]
def mY (n:Nat):List (Nat × Value):=[(n+1,.int .i64 2),(n+2,.int .i64 3),(n+3,.int .i64 4),(n+4,.int .i64 5),(n+5,.int .i64 6),(n+6,.int .i64 7),(n+7,.func (.func 64) #[] #[]),(n+8,.int .i64 8),(n+9,.func (.func 65) #[] #[]),(n+10,.int .i64 9),(n+11,.func (.func 66) #[] #[]),(n+12,.int .i64 10),(n+13,.func (.func 67) #[] #[]),(n+14,.int .i64 11),(n+15,.int .i64 12)]
theorem Tc {x y:ByteArray} (h:(x.data.toList == y.data.toList)=false):x≠y:=fun e=>by rw [e] at h;simp at h
theorem GG (w:World):Calls Tryz.prog 26 #[] w fun e w'=>e=.returned (.map (some w.heap.size))∧PS w w' (w.heap.size+16) (uw w.heap.size) (mY w.heap.size):=by
 have hmm:=@run_makeMap Tryz.prog;have H0:=Z3 (PS.made w)
 go_enter Tryz.func26,Tryz.ntmps26
 go_wp2_with (refine Zn w _ rfl _ _ _ 75 rfl 9 73 Tryz.underlying75 Tryz.underlying9 _ _ _ (H0).out rfl ⟨#[99,114,101,97,116,101]⟩ _ rfl rfl (by intro y hy;simp at hy;try (rcases hy with rfl);all_goals exact Tc (by rfl)) ?_)
 intro u0 H1
 replace H1:=Z3 H1
 clear H0
 go_wp2_with (refine Zn w _ rfl _ _ _ 75 rfl 9 73 Tryz.underlying75 Tryz.underlying9 _ _ _ (H1).out rfl ⟨#[115,101,113]⟩ _ rfl rfl (by intro y hy;simp at hy;try (rcases hy with rfl);all_goals exact Tc (by rfl)) ?_)
 intro u1 H2
 replace H2:=Z3 H2
 clear H1
 go_wp2_with (refine Zn w _ rfl _ _ _ 75 rfl 9 73 Tryz.underlying75 Tryz.underlying9 _ _ _ (H2).out rfl ⟨#[100,101,108,101,116,101]⟩ _ rfl rfl (by intro y hy;simp at hy;try (rcases hy with rfl | rfl);all_goals exact Tc (by rfl)) ?_)
 intro u2 H3
 replace H3:=Z3 H3
 clear H2
 go_wp2_with (refine Zn w _ rfl _ _ _ 75 rfl 9 73 Tryz.underlying75 Tryz.underlying9 _ _ _ (H3).out rfl ⟨#[115,101,116]⟩ _ rfl rfl (by intro y hy;simp at hy;try (rcases hy with rfl | rfl | rfl);all_goals exact Tc (by rfl)) ?_)
 intro u3 H4
 replace H4:=Z3 H4
 clear H3
 go_wp2_with (refine Zn w _ rfl _ _ _ 75 rfl 9 73 Tryz.underlying75 Tryz.underlying9 _ _ _ (H4).out rfl ⟨#[99,104,101,99,107]⟩ _ rfl rfl (by intro y hy;simp at hy;try (rcases hy with rfl | rfl | rfl | rfl);all_goals exact Tc (by rfl)) ?_)
 intro u4 H5
 replace H5:=Z3 H5
 clear H4
 go_wp2_with (refine Zn w _ rfl _ _ _ 75 rfl 9 73 Tryz.underlying75 Tryz.underlying9 _ _ _ (H5).out rfl ⟨#[109,117,108,116,105]⟩ _ rfl rfl (by intro y hy;simp at hy;try (rcases hy with rfl | rfl | rfl | rfl | rfl);all_goals exact Tc (by rfl)) ?_)
 intro u5 H6
 replace H6:=Z3 H6
 clear H5
 go_wp2_with fail
 refine (Xe _ _ H6.out.z 2).mono ?_;rintro e w6 ⟨rfl,rfl⟩
 replace H6:=Z3 (H6.out.box (.int .i64 2) 2)
 generalize World.alloc _ _=v6 at *
 go_wp2_with (refine Zn w _ rfl _ _ _ 75 rfl 9 73 Tryz.underlying75 Tryz.underlying9 _ _ _ (H6).out rfl ⟨#[102,108,117,115,104]⟩ _ rfl rfl (by intro y hy;simp at hy;try (rcases hy with rfl | rfl | rfl | rfl | rfl | rfl);all_goals exact Tc (by rfl)) ?_)
 intro u6 H7
 replace H7:=Z3 H7
 clear H6
 go_wp2_with fail
 refine (Td _ _ H7.out.z 3).mono ?_;rintro e w7 ⟨rfl,rfl⟩
 replace H7:=Z3 (H7.out.box (.int .i64 3) 2)
 generalize World.alloc _ _=v7 at *
 go_wp2_with (refine Zn w _ rfl _ _ _ 75 rfl 9 73 Tryz.underlying75 Tryz.underlying9 _ _ _ (H7).out rfl ⟨#[103,101,116]⟩ _ rfl rfl (by intro y hy;simp at hy;try (rcases hy with rfl | rfl | rfl | rfl | rfl | rfl | rfl);all_goals exact Tc (by rfl)) ?_)
 intro u7 H8
 replace H8:=Z3 H8
 clear H7
 go_wp2_with fail
 refine (Td _ _ H8.out.z 4).mono ?_;rintro e w8 ⟨rfl,rfl⟩
 replace H8:=Z3 (H8.out.box (.int .i64 4) 2)
 generalize World.alloc _ _=v8 at *
 go_wp2_with (refine Zn w _ rfl _ _ _ 75 rfl 9 73 Tryz.underlying75 Tryz.underlying9 _ _ _ (H8).out rfl ⟨#[108,105,115,116]⟩ _ rfl rfl (by intro y hy;simp at hy;try (rcases hy with rfl | rfl | rfl | rfl | rfl | rfl | rfl | rfl);all_goals exact Tc (by rfl)) ?_)
 intro u8 H9
 replace H9:=Z3 H9
 clear H8
 go_wp2_with fail
 refine (Xe _ _ H9.out.z 5).mono ?_;rintro e w9 ⟨rfl,rfl⟩
 replace H9:=Z3 (H9.out.box (.int .i64 5) 2)
 generalize World.alloc _ _=v9 at *
 go_wp2_with (refine Zn w _ rfl _ _ _ 75 rfl 9 73 Tryz.underlying75 Tryz.underlying9 _ _ _ (H9).out rfl ⟨#[100,117,109,112]⟩ _ rfl rfl (by intro y hy;simp at hy;try (rcases hy with rfl | rfl | rfl | rfl | rfl | rfl | rfl | rfl | rfl);all_goals exact Tc (by rfl)) ?_)
 intro u9 R
 replace R:=Z3 R
 clear H9
 go_wp2_with fail
 refine (Xe _ _ R.out.z 6).mono ?_;rintro e LF ⟨rfl,rfl⟩
 replace R:=Z3 (R.out.box (.int .i64 6) 2)
 generalize World.alloc _ _=v10 at *
 go_wp2_with (refine Zn w _ rfl _ _ _ 75 rfl 9 73 Tryz.underlying75 Tryz.underlying9 _ _ _ (R).out rfl ⟨#[115,110,97,112]⟩ _ rfl rfl (by intro y hy;simp at hy;try (rcases hy with rfl | rfl | rfl | rfl | rfl | rfl | rfl | rfl | rfl | rfl);all_goals exact Tc (by rfl)) ?_)
 intro u10 uB
 replace uB:=Z3 uB
 clear R
 go_wp2_with fail
 refine (Xb _ _ uB.out.z 7 _).mono ?_;rintro e fH ⟨rfl,rfl⟩
 replace uB:=Z3 ((uB.out.box (.int .i64 7) 2).box (.func (.func 64) #[] #[]) 125)
 generalize (World.alloc _ _).alloc _=v11 at *
 go_wp2_with (refine Zn w _ rfl _ _ _ 75 rfl 9 73 Tryz.underlying75 Tryz.underlying9 _ _ _ (uB).out rfl ⟨#[115,116,101,112]⟩ _ rfl rfl (by intro y hy;simp at hy;try (rcases hy with rfl | rfl | rfl | rfl | rfl | rfl | rfl | rfl | rfl | rfl | rfl);all_goals exact Tc (by rfl)) ?_)
 intro u11 M
 replace M:=Z3 M
 clear uB
 go_wp2_with fail
 refine (Xb _ _ M.out.z 8 _).mono ?_;rintro e uC ⟨rfl,rfl⟩
 replace M:=Z3 ((M.out.box (.int .i64 8) 2).box (.func (.func 65) #[] #[]) 125)
 generalize (World.alloc _ _).alloc _=v12 at *
 go_wp2_with (refine Zn w _ rfl _ _ _ 75 rfl 9 73 Tryz.underlying75 Tryz.underlying9 _ _ _ (M).out rfl ⟨#[97,114,109]⟩ _ rfl rfl (by intro y hy;simp at hy;try (rcases hy with rfl | rfl | rfl | rfl | rfl | rfl | rfl | rfl | rfl | rfl | rfl | rfl);all_goals exact Tc (by rfl)) ?_)
 intro u12 uA
 replace uA:=Z3 uA
 clear M
 go_wp2_with fail
 refine (Xb _ _ uA.out.z 9 _).mono ?_;rintro e fG ⟨rfl,rfl⟩
 replace uA:=Z3 ((uA.out.box (.int .i64 9) 2).box (.func (.func 66) #[] #[]) 125)
 generalize (World.alloc _ _).alloc _=v13 at *
 go_wp2_with (refine Zn w _ rfl _ _ _ 75 rfl 9 73 Tryz.underlying75 Tryz.underlying9 _ _ _ (uA).out rfl ⟨#[99,114,97,115,104]⟩ _ rfl rfl (by intro y hy;simp at hy;try (rcases hy with rfl | rfl | rfl | rfl | rfl | rfl | rfl | rfl | rfl | rfl | rfl | rfl | rfl);all_goals exact Tc (by rfl)) ?_)
 intro u13 J
 replace J:=Z3 J
 clear uA
 go_wp2_with fail
 refine (Xb _ _ J.out.z 10 _).mono ?_;rintro e eE ⟨rfl,rfl⟩
 replace J:=Z3 ((J.out.box (.int .i64 10) 2).box (.func (.func 67) #[] #[]) 125)
 generalize (World.alloc _ _).alloc _=v14 at *
 go_wp2_with (refine Zn w _ rfl _ _ _ 75 rfl 9 73 Tryz.underlying75 Tryz.underlying9 _ _ _ (J).out rfl ⟨#[114,111,116]⟩ _ rfl rfl (by intro y hy;simp at hy;try (rcases hy with rfl | rfl | rfl | rfl | rfl | rfl | rfl | rfl | rfl | rfl | rfl | rfl | rfl | rfl);all_goals exact Tc (by rfl)) ?_)
 intro u14 I
 replace I:=Z3 I
 clear J
 go_wp2_with fail
 refine (Xe _ _ I.out.z 11).mono ?_;rintro e dW ⟨rfl,rfl⟩
 replace I:=Z3 (I.out.box (.int .i64 11) 2)
 generalize World.alloc _ _=v15 at *
 go_wp2_with (refine Zn w _ rfl _ _ _ 75 rfl 9 73 Tryz.underlying75 Tryz.underlying9 _ _ _ (I).out rfl ⟨#[114,101,99,111,118,101,114]⟩ _ rfl rfl (by intro y hy;simp at hy;try (rcases hy with rfl | rfl | rfl | rfl | rfl | rfl | rfl | rfl | rfl | rfl | rfl | rfl | rfl | rfl | rfl);all_goals exact Tc (by rfl)) ?_)
 intro u15 H
 replace H:=Z3 H
 clear I
 go_wp2_with fail
 refine (Xe _ _ H.out.z 12).mono ?_;rintro e w16 ⟨rfl,rfl⟩
 replace H:=Z3 (H.out.box (.int .i64 12) 2)
 generalize World.alloc _ _=v16 at *
 go_wp2_with (refine Zn w _ rfl _ _ _ 75 rfl 9 73 Tryz.underlying75 Tryz.underlying9 _ _ _ (H).out rfl ⟨#[115,116,97,116,117,115]⟩ _ rfl rfl (by intro y hy;simp at hy;try (rcases hy with rfl | rfl | rfl | rfl | rfl | rfl | rfl | rfl | rfl | rfl | rfl | rfl | rfl | rfl | rfl | rfl);all_goals exact Tc (by rfl)) ?_)
 intro u16 E
 replace E:=Z3 E
 clear H
 go_wp2_with fail
 go_ret;exact ⟨rfl,E.out⟩
theorem jO {f:ByteArray} {l:List UInt8} (h:(f.toList == l)=true):f=Xv l:=by rw [←QF f,←Pt,ZK.1 h]
theorem GF (b:ByteArray):strOfNums (bI b)=b:=by
 have h:=wh b 0 b.size;rw [Qu,Qu,Wv (by rw [U6];exact ZT),Wv (by rw [WW];exact ZT)] at h;rw [h]
 rfl
theorem vQ (b:ByteArray) (hs:b.size≤1048576):0<(Xw b).length∧(Xw b).length≤1048577∧m9 (Xw b):=by
 have h1:=GS 32 b.data.toList [];obtain ⟨h2,h3⟩:=Nn 32 b.data.toList [];have h4:=WW b;unfold Xw;rw [XJ];refine ⟨h1,by omega,fun i=>?_⟩
 by_cases hi:i<((VL 32 [] b.data.toList).map Xv).length
 · rw [SQ hi,List.getElem_map]
   rw [XJ] at hi;have:=h3 _ (UO hi);rw [←WW,UJ]
   simp at this;omega
 unfold ZE;rw [List.getD,MX (by omega)];exact Zu _
theorem AJ (w:World) (b:ByteArray) (hs:b.size≤1048576) {m:Int} (hm:w.cell? ⟨1,0,none⟩=some (.int .i64 m)) :
    Calls Tryz.prog 23 #[.string b,.string ⟨#[32]⟩] w fun e w'=>e=.returned (.slice (some ⟨w.heap.size,0,none⟩) (Xw b).length (Xw b).length)∧w'=w.alloc (.cells ((Xw b).map Value.string).toArray 9):=by
 have h:=Tryz.strings_Split b ⟨#[32]⟩ m w (by omega) hm (by decide);have e:=rK (Lib.countB b ⟨#[32]⟩) b rfl;have l:=Lib.splitB_all ⟨#[32]⟩ (by decide) 0 (Lib.countB b ⟨#[32]⟩) b rfl;rw [e] at h l;rw [l];exact h
theorem AI (W:World) (L:List ByteArray) (i:Nat) (hi:i<L.length):(W.alloc (.cells (L.map Value.string).toArray 9)).cell? ⟨W.heap.size,i,none⟩=some (.string (ZE L i)):=by
 have:=(St.new W (L.map Value.string).toArray 9).cl i (.string (ZE L i)) (by
  show (L.map Value.string).toArray.toList[i]?=_;rw [Eb,Qs,Xc hi,SQ hi]
  rfl)
 exact this
end
section
open Go.RowKit Go.Conc
variable {s:ByteArray} {L:List (ByteArray × Value)} {C:List (Nat × Value)} {ls:List ByteArray} {S hi i j k lo n z:Nat} {P:Program} {κ:Sc} {σ:Sx} {e t:TypeId} {v:Value} {W w w':World}
structure rD (m:Int) (te:TypeId) (pe:Value) (W:World):Prop where
 tc:TF W
 qu : Lib.TabIs Tryz.prog W "internal/strconv.uint64pow10" .u64 Lib.pow10Tab
 er:W.cell? ⟨5,0,none⟩=some (.iface 345 (.agg #[.pointer (some ⟨11,182,none⟩)]))
 pl:AR W m te pe
 fm:ux W
def Gl (m:Int) (te:TypeId) (pe:Value) (κ:Sc) (w:World):Prop:=∀W,Gw κ w W→rD m te pe W
theorem Gw.boxed {X:List Nat} (h:Gw { κ with X:=X } w w'):Gw κ w w':=⟨h.os,h.tape,h.output,h.size,h.block⟩
section
variable {m:Int} {te:TypeId} {pe:Value} (κ:Sc) (σ:Sx) (w:World)
theorem Ng (h:Sv κ σ w) (hgl:Gl m te pe κ w) (hT:σ.T≠[]) (hQ:σ.Q≠[]) (vo vn:Value) (mu:Bool) (pa:ByteArray) (hf:σ.fs=[]) (hz:σ.zf<1000000) :
    Calls Tryz.prog 14 #[.pointer (some ⟨κ.sB,0,none⟩),.agg #[.int .i64 2,vo,.bool mu,.string pa,vn]] w fun e w'=>e=.returned (.string (strOfNums (Yx ⟨#[102,108,117,115,104,101,100]⟩ [0,σ.zf])))∧Gw κ w w'∧∃ σ',σ'=σ∧Sv κ σ' w':=by
 refine VM κ σ _ w h hT hQ 2 (by decide) (by decide) (by decide) (by decide) vo vn mu pa _ (fun W hW hb=>?_);refine Hj W _ vo vn mu pa _ (fun w'=>Gw _ W w'∧∃ σ',σ'=σ∧Sv _ σ' w') (fun W2 hb2=>?_);have ST:=YV hb hb2;refine (EQ { κ with X:=(w.heap.size+2) :: κ.X } σ W2 (hW.below hb2) hf hz (fun W3 g=>(hgl W3 ((Gs.ZV ST).gw.trans g.boxed)).qu)).mono ?_;rintro e w' ⟨rfl,g,v⟩;exact ⟨rfl,(Gs.ZV hb2).gw.trans g.gw,σ,rfl,v⟩
theorem Nf (h:Sv κ σ w) (hgl:Gl m te pe κ w) (hT:σ.T≠[]) (hQ:σ.Q≠[]) (vo vn:Value) (mu:Bool) (pa:ByteArray) (hf:0<σ.fs.length) (hN:σ.fs.length≤4096) (h0:σ.off=0) (hroom:((σ.full.length+σ.fs.flatten.length:Nat):Int)≤κ.L*64) (hc:YO κ.S κ.L=true) (hb:0≤σ.b∧σ.b≤1) (hk:σ.k≤8000) (hz:σ.zq<1000000) (hsp:σ.pw=none∨σ.sn=none) :
    Calls Tryz.prog 14 #[.pointer (some ⟨κ.sB,0,none⟩),.agg #[.int .i64 2,vo,.bool mu,.string pa,vn]] w fun e w'=>e=.returned (.string (strOfNums (Yx ⟨#[102,108,117,115,104,101,100]⟩ [σ.fs.length,σ.zq])))∧Gw κ w w'∧∃ σ',σ'={ σ with T:=σ.Q,zf:=σ.zq,fs:=[],ql:=0,full:=σ.full++σ.fs.flatten,k:=σ.k+66,pw:=none }∧Sv κ σ' w':=by
 refine VM κ σ _ w h hT hQ 2 (by decide) (by decide) (by decide) (by decide) vo vn mu pa _ (fun W hW hb1=>?_);refine Hj W _ vo vn mu pa _ (fun w'=>Gw _ W w'∧∃ σ',σ'=_∧Sv _ σ' w') (fun W2 hb2=>?_);have ST:=YV hb1 hb2;refine (EO { κ with X:=(w.heap.size+2) :: κ.X } σ W2 (hW.below hb2) hf hN h0 hroom hc hb hk hz hsp (fun W3 g=>(hgl W3 ((Gs.ZV ST).gw.trans g.boxed)).qu)).mono ?_;rintro e w' ⟨rfl,g,v⟩;exact ⟨rfl,(Gs.ZV hb2).gw.trans g,_,rfl,v⟩
theorem GE (h:Sv κ σ w) (hgl:Gl m te pe κ w) (hT:σ.T≠[]) (hQ:σ.Q≠[]) (vo vn:Value) (mu:Bool) (pa:ByteArray) (hk:σ.k≤9000) (hsn:σ.sn=none) (hz:σ.zf<1000000) (hfl:σ.full.length≤4096) :
    Calls Tryz.prog 14 #[.pointer (some ⟨κ.sB,0,none⟩),.agg #[.int .i64 6,vo,.bool mu,.string pa,vn]] w fun e w'=>e=.returned (.string (strOfNums (Yx ⟨#[115,116,97,114,116,101,100]⟩ [σ.zf])))∧Gw κ w w'∧∃ σ',(∃pB,σ'={ σ with k:=σ.k+1,pw:=none,sn:=some (pB,σ.zf,σ.full.length - σ.off),em:=false })∧Sv κ σ' w':=by
 refine VM κ σ _ w h hT hQ 6 (by decide) (by decide) (by decide) (by decide) vo vn mu pa _ (fun W hW hb1=>?_);refine rX W _ vo vn mu pa _ (fun w'=>Gw _ W w'∧∃ σ',(∃pB,σ'=_)∧Sv _ σ' w') (fun W2 hb2=>?_);have ST:=YV hb1 hb2;refine (wN { κ with X:=(w.heap.size+2) :: κ.X } σ W2 (hW.below hb2) hk hsn hz hfl (fun W3 g=>(hgl W3 ((Gs.ZV ST).gw.trans g.boxed)).qu)).mono ?_;rintro e w' ⟨rfl,g,pB,v⟩;exact ⟨rfl,(Gs.ZV hb2).gw.trans g,_,⟨pB,rfl⟩,v⟩
theorem J9 (h:Sv κ σ w) (hgl:Gl m te pe κ w) (hT:σ.T≠[]) (hQ:σ.Q≠[]) (vo vn:Value) (pa:ByteArray) (os:List Xd) (ho:MJ w vo os) (EG:Tk κ vo) (V:∀q,vo.ownBlock=some q→q<w.heap.size) (hseq:∀i,(Ut os i).seq=false) (hol:os.length≤1000) (hos:∀i,(Ut os i).path.size≤1048576∧(Ut os i).data.size≤1048576)
    (Z7:∀i,(ZC σ.Q i).path.size≤1048576∧(ZC σ.Q i).data.size≤1048576) (hz:σ.zq<900000) (A:Pa) (hA:EN σ.Q os ((σ.zq:Int)+1)=A) (fK:0≤A.c∧A.c<1000) (fJ:0≤A.z∧A.z<1000000)
    (hes:∀i,(Yf A.es i).nd.path.size≤1048576∧(Yf A.es i).nd.data.size≤1048576) (him:A.c=0→0<(XX A.z A.es).length∧(XX A.z A.es).length≤2000) (hL:0≤κ.L∧κ.L≤64) (hfl:σ.full.length≤4096) (qw:σ.ql≤4096)
    (hroom:A.c=0→(((σ.full.length - σ.off)+(σ.ql+(fr (XX A.z A.es)).length):Nat):Int)≤κ.L*64→σ.fs.length<κ.cap) :
    Calls Tryz.prog 14 #[.pointer (some ⟨κ.sB,0,none⟩),.agg #[.int .i64 1,vo,.bool false,.string pa,vn]] w fun e w'=>e=.returned (.string (EH κ σ A).1)∧Gw κ w w'∧∃ σ',σ'=(EH κ σ A).2∧Sv κ σ' w':=by
 refine VM κ σ _ w h hT hQ 1 (by decide) (by decide) (by decide) (by decide) vo vn false pa _ (fun W hW hb1=>?_);refine ER W _ vo vn false pa _ (fun w'=>Gw _ W w'∧∃ σ',σ'=_∧Sv _ σ' w') (fun W2 hb2=>?_);have ST:=YV hb1 hb2;refine (Hd { κ with X:=(w.heap.size+2) :: κ.X } σ W2 (hW.below hb2) vo vn pa os (ho.below ST) (fun q hq=>?_) hseq hol hos Z7 hz A hA fK fJ hes him hL hfl qw hroom (hgl W2 (Gs.ZV ST).gw).er (fun W3 g=>(hgl W3 ((Gs.ZV ST).gw.trans g.boxed)).qu)).mono ?_
 · obtain ⟨q1,q2,q3,q4,q5⟩:=EG q hq
   have:=V q hq;refine ⟨q1,q2,q3,q4,fun e=>?_⟩
   rcases Yz.1 e with e | e
   · omega
   exact q5 e
 rintro e w' ⟨rfl,g,v⟩;exact ⟨rfl,(Gs.ZV hb2).gw.trans g.gw,_,rfl,v⟩
theorem GD (h:Sv κ σ w) (hgl:Gl m te pe κ w) (hT:σ.T≠[]) (hQ:σ.Q≠[]) (vo vn:Value) (mu:Bool) (pa:ByteArray) (nx:Rd .i64 w vn [1000]) (pB z o:Nat) (hsn:σ.sn=some (pB,z,o)) (hem:σ.em=false) (iC:σ.T.length≤1000) (fF:∀i,i<σ.T.length→YL (ZC σ.T i)=true) (fE:∀i,i<σ.T.length→0<(ZC σ.T i).path.size) (fC:(Zi σ.T).length≤100000) (hTy:Wm (Zi σ.T)) (hfs:σ.fs=[])
    (hpw:σ.pw=none) (hg:σ.g=1) (hb:σ.b=0) (hoff:σ.off=0) (ho:o≤σ.full.length) (hfl:(σ.full.length:Int)≤κ.L*64) (hz:z<1000000) (hk:σ.k≤1000) (hc:YO κ.S κ.L=true) :
    Calls Tryz.prog 14 #[.pointer (some ⟨κ.sB,0,none⟩),.agg #[.int .i64 7,vo,.bool mu,.string pa,vn]] w fun e w'=>e=.returned (.string (if ((Zi σ.T).length:Int)≤κ.S*64 then strOfNums (Yx ⟨#[115,101,97,108,101,100]⟩ [z]) else ⟨#[115,110,97,112,102,117,108,108]⟩))∧Gw κ w w'∧∃ σ',(∃l r,σ'=if ((Zi σ.T).length:Int)≤κ.S*64 then { σ with k:=σ.k+135,g:=2,b:=1,s:=(z:Int),l:=l,r:=r,off:=o,sn:=none,em:=true,pw:=none } else { σ with sn:=none,em:=true })∧Sv κ σ' w':=by
 refine VM κ σ _ w h hT hQ 7 (by decide) (by decide) (by decide) (by decide) vo vn mu pa _ (fun W hW hb1=>?_);refine rW W _ vo vn mu pa _ (fun w'=>Gw _ W w'∧∃ σ',(∃l r,σ'=_)∧Sv _ σ' w') 1000 (nx.below hb1) (fun W2 hb2=>?_);have ST:=YV hb1 hb2;refine (wm { κ with X:=(w.heap.size+2) :: κ.X } σ W2 (hW.below hb2) pB z o hsn hem (List.length_pos_iff.2 hT) iC fF fE fC hTy hQ hfs hpw hg hb hoff ho hfl hz hk hc (fun W3 g=>(hgl W3 ((Gs.ZV ST).gw.trans g.boxed)).tc) (fun W3 g=>(hgl W3 ((Gs.ZV ST).gw.trans g.boxed)).qu)).mono ?_;rintro e w' ⟨g,l,r,⟨h1,rfl,v⟩ | ⟨h1,rfl,v⟩⟩
 · have h2:((Zi σ.T).length:Int)≤κ.S*64:=h1
   exact ⟨by rw [ZZ h2],(Gs.ZV hb2).gw.trans g,_,⟨l,r,(ZZ h2).symm⟩,v⟩
 have h2:¬((Zi σ.T).length:Int)≤κ.S*64:=by have h3:κ.S*64<((Zi σ.T).length:Int):=h1;omega
 exact ⟨by rw [Z1 h2],(Gs.ZV hb2).gw.trans g,_,⟨l,r,(Z1 h2).symm⟩,v⟩
end
end
section
open Go.RowKit Go.Shelf
variable {s:ByteArray} {L:List (ByteArray × Value)} {C:List (Nat × Value)} {ls:List ByteArray} {S hi i j k lo n z:Nat} {P:Program} {κ:Sc} {σ:Sx} {e t:TypeId} {v:Value} {W w w':World}
def pA:ByteArray:=⟨#[47,97]⟩
def xB (n:Nat):ByteArray:=⟨(List.replicate n (120:UInt8)).toArray⟩
theorem WJ (n:Nat):(xB n).size=n:=by simp [xB,ByteArray.size]
def Ey:Nd:=⟨Ye,empty,0,1,0,0,1⟩
def MB (n i:Nat):Nd:=⟨pA,xB n,(i:Int),0,1,(i:Int)+1,1⟩
def Yd (n i:Nat):List Nd:=[Ey,MB n i]
def opC (n:Nat):Xd:=⟨1,pA,xB n,0,false⟩
def Nc (n:Nat):Xd:=⟨3,pA,xB n,-1,false⟩
theorem mX:Ye.size=1:=rfl
theorem mW:empty.size=0:=rfl
theorem mV:pA.size=2:=rfl
theorem Da:Zf pA=true:=by decide +kernel
theorem vP:Op.bytesLess Ye.toList pA.toList=true:=by decide +kernel
theorem jN:Op.bytesLess pA.toList Ye.toList=false:=by decide +kernel
theorem GC:(Ye.toList == pA.toList)=false:=by decide +kernel
theorem jM:(pA.toList == Ye.toList)=false:=by decide +kernel
theorem qt:Op.bytesLess pA.toList pA.toList=false:=by decide +kernel
theorem vO:Op.bytesLess Ye.toList Ye.toList=false:=by decide +kernel
theorem jL:(pA.toList == [47])=false:=by decide +kernel
theorem mT:XR pA=Ye:=by kernel_rfl
theorem Ex (hn:n≤64) (hi:i≤1000):YL (MB n i)=true:=by
 unfold YL TU MB
 simp [Da,WJ]
 omega
theorem Ew:YL Ey=true:=by decide +kernel
theorem GB:Ny [ZI]:=Uj.1 QK
theorem RH (hn:n≤64) (hi:i≤1000):Ny (Yd n i):=by
 refine ⟨?_,?_,by simp [Yd]⟩
 · simp [Asc,Yd,W8,Ey,MB,vP]
 simp [Yd,Ex hn hi,Ew]
theorem fp (hn:n≤64):SJ (opC n)=true:=by
 unfold SJ opC
 simp [Da,WJ,jL,hn]
theorem jK (hn:n≤64):SJ (Nc n)=true:=by
 unfold SJ Nc
 simp [Da,WJ,hn]
theorem fk (hn:n≤64):VI [ZI] (opC n) 1=(0,Yd n 0,pA):=by
 have e1:Pl [ZI] ⟨pA,xB n,0,0,1,1,1⟩=[ZI,MB n 0]:=by
  unfold Pl qO
  simp [JH,ZI,vP,GC,MB]
 have e2:Pl [ZI,MB n 0] { ZI with Zw:=1,pz:=1 }=Yd n 0:=by
  unfold Pl qO
  simp [JH,ZI,jN,jM,vO,MB,Yd,Ey]
 unfold VI;rw [fp hn]
 simp only [opC,mT,Xu,Bool.not_true,Qw,Vw,Uc,Da]
 have f1:[ZI].findIdx (XW Ye)=0:=by simp [Ab,XW,ZI]
 have f2:[ZI].findIdx (XW pA)=1:=by simp [Ab,XW,ZI,GC]
 rw [f1,f2,e1];have f3:[ZI,MB n 0].findIdx (XW Ye)=0:=by simp [Ab,XW,ZI]
 unfold toN;rw [f3]
 simp [ZC,OU]
 exact e2
theorem fj (hn:n≤64) (hi:i≤1000):VI (Yd n i) (Nc n) ((i:Int)+2)=(0,Yd n (i+1),pA):=by
 have f2:(Yd n i).findIdx (XW pA)=1:=by simp [Ab,XW,Yd,Ey,MB,GC]
 have e2:∀a:Nd,a.path=pA→Pl (Yd n i) a=[Ey,a]:=by
  intro a ha;unfold Pl qO
  simp [JH,Yd,Ey,MB,ha,vP,GC,qt]
 unfold VI;rw [jK hn]
 simp only [Nc]
 rw [Z1 (show ¬(!true)=true by decide),Z1 (show ¬(3:Int)=1 by decide),f2,Z1 (by simp [Yd]),Z1 (by simp),Z1 (show ¬(3:Int)=2 by decide),ZZ trivial,e2 _ rfl];have h1:¬(i:Int)=2147483647:=by omega
 simp [Yd,ZC,MB,OU,h1]
 omega
theorem fh (hn:n≤64) (z:Int):VI [ZI] (Nc n) z=(2,[ZI],⟨#[]⟩):=by
 have f2:[ZI].findIdx (XW pA)=1:=by simp [Ab,XW,ZI,GC]
 unfold VI;rw [jK hn]
 simp [Nc,f2]
theorem jJ (hn:n≤64):EN [ZI] [opC n] 1=⟨0,0,1,[[47,97]],XQ [ZI] (Yd n 0)⟩:=by
 have e:VX 1 [opC n] [ZI] 0 []=(0,1,Yd n 0,[pA]):=by simp [VX,fk hn]
 have h:VW [ZI] [opC n] 1=true:=by unfold VW;simp [QK]
 unfold EN;rw [ZZ h,e]
 simp [nw,pA]
theorem jI (hn:n≤64) (hi:i≤900):EN (Yd n i) [Nc n] ((i:Int)+2)=⟨0,0,(i:Int)+2,[[47,97]],XQ (Yd n i) (Yd n (i+1))⟩:=by
 have e:VX ((i:Int)+2) [Nc n] (Yd n i) 0 []=(0,1,Yd n (i+1),[pA]):=by simp [VX,fj hn (show i≤1000 by omega)]
 have h:VW (Yd n i) [Nc n] ((i:Int)+2)=true:=by
  unfold VW
  simp [Uj.2 (RH hn (show i≤1000 by omega))]
  omega
 unfold EN;rw [ZZ h,e]
 simp [nw,pA]
theorem jH (hn:n≤64):EN [ZI] [Nc n] 1=⟨2,0,0,[],[]⟩:=by
 have e:VX 1 [Nc n] [ZI] 0 []=(2,0,[ZI],[]):=by simp [VX,fh hn]
 have h:VW [ZI] [Nc n] 1=true:=by unfold VW;simp [QK]
 unfold EN;rw [ZZ h,e]
 simp
theorem qs :XQ [ZI] (Yd n 0)=[Xh Ey,Xh (MB n 0)]:=by
 have h:Pi ZI Ey=false:=by decide +kernel
 simp [Yd,XQ,W8,show ZI.path=Ye from rfl,show Ey.path=Ye from rfl,vO,h]
theorem qr :XQ (Yd n i) (Yd n (i+1))=[Xh (MB n (i+1))]:=by
 have h:Pi Ey Ey=true:=by decide +kernel
 have h2:Pi (MB n i) (MB n (i+1))=false:=by
  have:((i:Int) == ((i:Int)+1))=false:=by simp;omega
  simp [Pi,MB,this]
 simp [Yd,XQ,W8,show Ey.path=Ye from rfl,show ∀k,(MB n k).path=pA from fun _=>rfl,vO,qt,h,h2]
theorem jG (hn:n≤64):WP 1 (XQ [ZI] (Yd n 0))=true:=Kj GB (RH hn (by omega)) (by simp [Yd]) (by omega)
theorem jF (hn:n≤64) (hi:i≤900):WP ((i:Int)+2) (XQ (Yd n i) (Yd n (i+1)))=true:=Kj (RH hn (by omega)) (RH hn (by omega)) (by simp [Yd]) (by omega)
theorem jE (hn:n≤64):TQ [ZI] 1 (XQ [ZI] (Yd n 0))=Yd n 0:=Hq GB (RH hn (by omega)) (by simp [Yd]) (by omega)
theorem jD (hn:n≤64) (hi:i≤900):TQ (Yd n i) ((i:Int)+2) (XQ (Yd n i) (Yd n (i+1)))=Yd n (i+1):=Hq (RH hn (by omega)) (RH hn (by omega)) (by simp [Yd]) (by omega)
theorem C6 (hn:n≤64):(XX 1 (XQ [ZI] (Yd n 0))).length=55+n:=by
 unfold XX;rw [ZZ (jG hn),qs]
 simp [Wz,SL,Xh,Zb,Wb,MB,Ey,WJ,mX,mW,mV]
 omega
theorem C5 (hn:n≤64) (hi:i≤900):(XX ((i:Int)+2) (XQ (Yd n i) (Yd n (i+1)))).length=31+n:=by
 unfold XX;rw [ZZ (jF hn hi),qr]
 simp [Wz,SL,Xh,Zb,Wb,MB,WJ,mV]
 omega
def Zp (n:Nat):Nat:=2+(8*(55+n)+6) / 7
def Ze (n:Nat):Nat:=2+(8*(31+n)+6) / 7
theorem jC (hn:n≤64):(fr (XX 1 (XQ [ZI] (Yd n 0)))).length=Zp n:=by
 rw [EI (by rw [C6 hn];omega) (by rw [C6 hn];omega),C6 hn];rfl
theorem mS (hn:n≤64) (hi:i≤900):(fr (XX ((i:Int)+2) (XQ (Yd n i) (Yd n (i+1))))).length=Ze n:=by
 rw [EI (by rw [C5 hn hi];omega) (by rw [C5 hn hi];omega),C5 hn hi];rfl
theorem AH:(Zi [ZI]).length=23:=by simp [Zi,Wb,ZI,mX,mW]
theorem rC :(Zi (Yd n i)).length=23+24+n:=by
 simp [Zi,Yd,Wb,MB,Ey,WJ,mX,mW,mV]
 omega
def xL (n:Nat):List UInt8:=List.replicate n 120
def Gz (n:Nat):ByteArray:=Xv ([99,114,101,97,116,101]++32 :: ([47,97]++32 :: xL n))
def J8 (n:Nat):ByteArray:=Xv ([115,101,116]++32 :: ([47,97]++32 :: (xL n++32 :: [45,49])))
def RF:ByteArray:=⟨#[102,108,117,115,104]⟩
def FV:ByteArray:=⟨#[115,110,97,112]⟩
def C3:ByteArray:=⟨#[115,116,101,112,32,49,48,48,48]⟩
theorem jB (n:Nat):(32:UInt8) ∉ xL n:=by
 unfold xL;intro h;have:=(List.mem_replicate.1 h).2;exact absurd this (by decide)
theorem J7 (h:1≤n):YG (Xv (xL n))=true:=by
 unfold YG;have h1:(Xv (xL n)).size=n:=by simp [Xv,ByteArray.size,xL]
 rw [UJ,h1]
 simp only [Yg,Yt]
 refine ⟨by omega,?_⟩;unfold xL;rw [Se];intro c hc;rw [(List.mem_replicate.1 hc).2]
 decide
theorem rB (n:Nat) (c:List UInt8) (hc:c.head?≠some 120) (h:1≤n):((Xv (xL n)).toList == c)=false:=by
 have e:(Xv (xL n)).toList=xL n:=by rw [Sf];rfl
 rw [e];obtain ⟨m,rfl⟩:∃m,n=m+1:=⟨n - 1,by omega⟩
 cases c with
 | nil=>rfl
 | cons a c =>
  have:¬(120:UInt8)=a:=fun e=>hc (by simp [e])
  simp [xL,List.replicate_succ,this]
theorem vN (n:Nat):Xw (Gz n)=[Xv [99,114,101,97,116,101],pA,Xv (xL n)]:=by
 unfold Xw Gz;rw [UJ,Vm _ _ _ (by decide),Vm _ _ _ (by decide),VV _ _ (jB n)]
 rfl
theorem vM (n:Nat):Xw (J8 n)=[Xv [115,101,116],pA,Xv (xL n),Xv [45,49]]:=by
 unfold Xw J8;rw [UJ,Vm _ _ _ (by decide),Vm _ _ _ (by decide),Vm _ _ _ (jB n),VV _ _ (by decide)]
 rfl
theorem rA (h:1≤n) (hn:n≤64):Xf (Gz n)=⟨1,[opC n],false,⟨#[]⟩,[]⟩:=by
 have hs:(Gz n).size=10+n:=by simp [Gz,Xv,ByteArray.size,xL];omega
 have g1:YG (Xv [99,114,101,97,116,101])=true:=by decide +kernel
 have g2:YG pA=true:=by decide +kernel
 unfold Xf;rw [Z1 (by omega),vN];have ga:[Xv [99,114,101,97,116,101],pA,Xv (xL n)].all YG=true:=by simp [g1,g2,J7 h]
 rw [ZZ ga,Ni (by show ((Xv [99,114,101,97,116,101]).toList == [99,114,101,97,116,101])=true;decide +kernel)];have s1:Xg (Xv [99,114,101,97,116,101])=false:=by decide +kernel
 have s2:Xg pA=false:=by decide +kernel
 have s3:Xg (Xv (xL n))=false:=rB n _ (by decide) h;have e1:((Xv [99,114,101,97,116,101]).toList == [99,114,101,97,116,101])=true:=by decide +kernel
 have e2:RI (Xv (xL n))=xB n:=by unfold RI;rw [rB n _ (by decide) h];rfl
 have eo:TY [Xv [99,114,101,97,116,101],pA,Xv (xL n)]=some (opC n):=by
  unfold TY
  simp only [List.any_cons,List.any_nil,s1,s2,s3,Bool.or_false,Qw,Vw,Yr,Wo,Nat.reduceAdd,Uc,ZE,Lm,pJ]
  unfold MH;rw [ZZ e1,e2]
  rfl
 rw [eo]
theorem CZ (h:1≤n) (hn:n≤64):Xf (J8 n)=⟨1,[Nc n],false,⟨#[]⟩,[]⟩:=by
 have hs:(J8 n).size=10+n:=by simp [J8,Xv,ByteArray.size,xL];omega
 have g1:YG (Xv [115,101,116])=true:=by decide +kernel
 have g2:YG pA=true:=by decide +kernel
 have g3:YG (Xv [45,49])=true:=by decide +kernel
 unfold Xf;rw [Z1 (by omega),vM];have ga:[Xv [115,101,116],pA,Xv (xL n),Xv [45,49]].all YG=true:=by simp [g1,g2,g3,J7 h]
 rw [ZZ ga,Db (by show ((Xv [115,101,116]).toList == [115,101,116])=true;decide +kernel)];have s1:Xg (Xv [115,101,116])=false:=by decide +kernel
 have s2:Xg pA=false:=by decide +kernel
 have s3:Xg (Xv (xL n))=false:=rB n _ (by decide) h;have s4:Xg (Xv [45,49])=false:=by decide +kernel
 have e1:((Xv [115,101,116]).toList == [115,101,116])=true:=by decide +kernel
 have e2:RI (Xv (xL n))=xB n:=by unfold RI;rw [rB n _ (by decide) h];rfl
 have e3:WC (Xv [45,49]).data.toList=some (-1):=by decide +kernel
 have eo:TY [Xv [115,101,116],pA,Xv (xL n),Xv [45,49]]=some (Nc n):=by
  unfold TY
  simp only [List.any_cons,List.any_nil,s1,s2,s3,s4,Bool.or_false,Qw,Vw,Yr,Wo,Nat.reduceAdd,Uc,ZE,Lm,pJ,Nat.reduceEqDiff]
  unfold MG;rw [ZZ e1,e2,e3]
  rfl
 rw [eo]
theorem vL:Xw RF=[RF]:=by unfold Xw;rw [show RF.data.toList=[102,108,117,115,104] from rfl,VV _ _ (by decide)];rfl
theorem vK:Xw FV=[FV]:=by unfold Xw;rw [show FV.data.toList=[115,110,97,112] from rfl,VV _ _ (by decide)];rfl
theorem vJ:Xw C3=[Xv [115,116,101,112],Xv [49,48,48,48]]:=by
 unfold Xw;rw [show C3.data.toList=[115,116,101,112]++32 :: [49,48,48,48] from rfl,Vm _ _ _ (by decide),VV _ _ (by decide)];rfl
theorem CY:Xf RF=⟨2,[],false,⟨#[]⟩,[]⟩:=by
 unfold Xf;rw [Z1 (by decide),vL,ZZ (by decide +kernel),Lt (by decide +kernel)];rfl
theorem rz:Xf FV=⟨6,[],false,⟨#[]⟩,[]⟩:=by
 unfold Xf;rw [Z1 (by decide),vK,ZZ (by decide +kernel),GL (by decide +kernel)];rfl
theorem ry:Xf C3=⟨7,[],false,⟨#[]⟩,[1000]⟩:=by
 unfold Xf;rw [Z1 (by decide),vJ,ZZ (by decide +kernel),GK (by decide +kernel)];kernel_rfl
def UI (n:Nat):List ByteArray:=[Gz n,RF]++List.replicate 110 (J8 n)++[RF,FV,C3,J8 n]
theorem Vl (n:Nat):(UI n).length=116:=by simp [UI]
theorem vI (n k:Nat) (hk:k<116):(UI n).getD k ⟨#[]⟩=if k=0 then Gz n else if k=1 then RF else if k<112 then J8 n else if k=112 then RF else if k=113 then FV else if k=114 then C3 else J8 n:=by
 unfold UI;rw [List.getD,YM]
 by_cases h2:k<2
 · rw [Wd (by simpa using h2)]
   have:k=0∨k=1:=by omega
   rcases this with rfl | rfl <;> simp
 rw [VG (by simp;omega)]
 simp only [Yr,Wo,Nat.reduceAdd]
 by_cases h3:k<112
 · rw [Wd (by simp;omega),zZ,ZZ (by omega),Z1 (by omega),Z1 (by omega),ZZ h3];rfl
 rw [VG (by simp;omega),Jw];have:k=112∨k=113∨k=114∨k=115:=by omega
 rcases this with rfl | rfl | rfl | rfl <;> simp
end
section
open Go.RowKit Go.Conc
variable {s:ByteArray} {L:List (ByteArray × Value)} {C:List (Nat × Value)} {ls:List ByteArray} {S hi i j k lo n z:Nat} {P:Program} {κ:Sc} {σ:Sx} {e t:TypeId} {v:Value} {W w w':World}
def tl (s:ByteArray) (zs:List Nat):ByteArray:=strOfNums (Yx s zs)
def wQ:ByteArray:=⟨#[113,117,101,117,101,100]⟩
def wE:ByteArray:=⟨#[101,114,114,111,114]⟩
def wF:ByteArray:=⟨#[102,108,117,115,104,101,100]⟩
def wS:ByteArray:=⟨#[115,116,97,114,116,101,100]⟩
def wL:ByteArray:=⟨#[115,101,97,108,101,100]⟩
def wU:ByteArray:=⟨#[115,110,97,112,102,117,108,108]⟩
def Ym (L n:Nat):Nat:=(L*64 - Zp n) / Ze n
def YC (L n:Nat):Nat:=min 110 (Ym L n)
def YA (S L n k:Nat):ByteArray :=
 if Zp n≤L*64 then
  if k=0 then tl wQ [1] else if k=1 then tl wF [1,1]
  else if k<112 then (if k - 2<Ym L n then tl wQ [k] else tl wE [8])
  else if k=112 then tl wF [YC L n,YC L n+1] else if k=113 then tl wS [YC L n+1]
  else if k=114 then (if 47+n≤S*64 then tl wL [YC L n+1] else wU)
  else if 47+n≤S*64∨110<Ym L n then tl wQ [YC L n+2] else tl wE [8]
 else
  if k=0 then tl wE [8] else if k=1∨k=112 then tl wF [0,0] else if k=113 then tl wS [0] else if k=114 then tl wL [0] else tl wE [2]
def eD (σ:Sx):Prop:=σ.g=1∧σ.b=0∧σ.off=0
def Rt (σ:Sx):Prop:=σ.T=[ZI]∧σ.zf=0∧σ.Q=[ZI]∧σ.zq=0∧σ.fs=[]∧σ.ql=0∧σ.full=[]
structure Cr (n:Nat) (σ:Sx) (q f ln:Nat):Prop where
 Q:σ.Q=Yd n q
 zq:σ.zq=q+1
 T:σ.T=Yd n f
 zf:σ.zf=f+1
 le:f≤q
 fs:σ.fs.length=q - f
 fl:σ.fs.flatten.length=σ.ql
 ql:σ.ql=(q - f)*Ze n
 ln:σ.full.length - σ.off=ln
def Rk (S L n k:Nat) (σ:Sx):Prop :=
 (k≤1→σ.k=0)∧(k≤112→σ.k≤66)∧(k≤113→σ.k≤132)∧(k≤114→σ.k≤133∧eD σ)∧(k≤113→σ.sn=none)∧(k≤114→σ.em=false)∧(k=114→σ.pw=none)∧(k≤115→σ.full.length≤4096) ∧
 if Zp n≤L*64 then
  if k=0 then Rt σ
  else if k=1 then σ.T=[ZI]∧σ.zf=0∧σ.Q=Yd n 0∧σ.zq=1∧σ.fs.length=1∧σ.fs.flatten.length=Zp n∧σ.ql=Zp n∧σ.full=[]
  else if k≤112 then Cr n σ (min (k - 2) (Ym L n)) 0 (Zp n)
  else if k=113 then Cr n σ (YC L n) (YC L n) (Zp n+YC L n*Ze n)
  else if k=114 then Cr n σ (YC L n) (YC L n) (Zp n+YC L n*Ze n)∧∃pB,σ.sn=some (pB,YC L n+1,σ.full.length)
  else if k=115 then Cr n σ (YC L n) (YC L n) (if 47+n≤S*64 then 0 else Zp n+YC L n*Ze n)
  else σ.T≠[]∧σ.Q≠[]
 else
  if k=114 then Rt σ∧∃pB,σ.sn=some (pB,0,0)
  else if k=115 then σ.Q=[ZI]∧σ.zq=0∧σ.ql=0∧σ.T=[ZI]
  else if k≤113 then Rt σ else σ.T≠[]∧σ.Q≠[]
theorem Rk.ne {L:Nat} (h:Rk S L n k σ):σ.T≠[]∧σ.Q≠[]:=by
 obtain ⟨-,-,-,-,-,-,-,-,r8⟩:=h;have hr:[ZI]≠[]:=by simp
 have ht:∀i,Yd n i≠[]:=fun i=>by simp [Yd]
 by_cases h9:Zp n≤L*64
 · rw [ZZ h9] at r8
   by_cases h0:k=0
   · rw [ZZ h0] at r8;rw [r8.1,r8.2.2.1];exact ⟨hr,hr⟩
   rw [Z1 h0] at r8
   by_cases h1:k=1
   · rw [ZZ h1] at r8;rw [r8.1,r8.2.2.1];exact ⟨hr,ht _⟩
   rw [Z1 h1] at r8
   by_cases h2:k≤112
   · rw [ZZ h2] at r8;rw [r8.T,r8.Q];exact ⟨ht _,ht _⟩
   rw [Z1 h2] at r8
   by_cases h3:k=113
   · rw [ZZ h3] at r8;rw [r8.T,r8.Q];exact ⟨ht _,ht _⟩
   rw [Z1 h3] at r8
   by_cases h4:k=114
   · rw [ZZ h4] at r8;rw [r8.1.T,r8.1.Q];exact ⟨ht _,ht _⟩
   rw [Z1 h4] at r8
   by_cases h5:k=115
   · rw [ZZ h5] at r8;rw [r8.T,r8.Q];exact ⟨ht _,ht _⟩
   rw [Z1 h5] at r8;exact r8
 rw [Z1 h9] at r8
 by_cases h4:k=114
 · rw [ZZ h4] at r8;rw [r8.1.1,r8.1.2.2.1];exact ⟨hr,hr⟩
 rw [Z1 h4] at r8
 by_cases h5:k=115
 · rw [ZZ h5] at r8;rw [r8.2.2.2,r8.1];exact ⟨hr,hr⟩
 rw [Z1 h5] at r8
 by_cases h6:k≤113
 · rw [ZZ h6] at r8;rw [r8.1,r8.2.2.1];exact ⟨hr,hr⟩
 rw [Z1 h6] at r8;exact r8
theorem Nb {L:Nat} (h:Zp n≤L*64):i≤Ym L n↔Zp n+i*Ze n≤L*64:=by
 have h0:0<Ze n:=by unfold Ze;omega
 unfold Ym;rw [Nat.le_div_iff_mul_le h0];omega
theorem AG :Ze n≤Zp n:=by unfold Ze Zp;omega
structure Ag (κ:Sc) (S L:Nat):Prop where
 eS:κ.S=(S:Int)
 eL:κ.L=(L:Int)
 cap:κ.cap=L*64 / 9
 c:YO κ.S κ.L=true
theorem Ag.b {L:Nat} (h:Ag κ S L):(1≤S∧S≤64)∧1≤L∧L≤64:=by
 obtain ⟨⟨h1,h2⟩,h3,h4⟩:=(Zg κ.S κ.L).1 h.c;rw [h.eS] at h1 h2;rw [h.eL] at h3 h4;omega
theorem jA (hn:n≤64):(ZC (Yd n i) j).path.size≤1048576∧(ZC (Yd n i) j).data.size≤1048576:=by
 match j with
 | 0=>exact ⟨by show Ye.size≤_;decide,by show empty.size≤_;decide⟩
 | 1 =>
  refine ⟨by show pA.size≤_;decide,?_⟩;show (xB n).size≤_;rw [WJ];omega
 | j+2=>exact ⟨by show (ByteArray.empty).size≤_;decide,by show (ByteArray.empty).size≤_;decide⟩
theorem qq :(ZC [ZI] j).path.size≤1048576∧(ZC [ZI] j).data.size≤1048576:=by
 match j with
 | 0=>exact ⟨by decide,by decide⟩
 | j+1=>exact ⟨by show (ByteArray.empty).size≤_;decide,by show (ByteArray.empty).size≤_;decide⟩
theorem Lr {o:Xd} (h1:o.path.size≤1048576∧o.data.size≤1048576) (h2:o.seq=false):(Ut [o] j).seq=false∧(Ut [o] j).path.size≤1048576∧(Ut [o] j).data.size≤1048576:=by
 match j with
 | 0=>exact ⟨h2,h1⟩
 | j+1=>exact ⟨rfl,by show (ByteArray.empty).size≤_;decide,by show (ByteArray.empty).size≤_;decide⟩
theorem fe (hn:n≤64):(Yf (XQ [ZI] (Yd n 0)) j).nd.path.size≤1048576∧(Yf (XQ [ZI] (Yd n 0)) j).nd.data.size≤1048576:=by
 rw [qs]
 match j with
 | 0=>exact ⟨by show Ye.size≤_;decide,by show empty.size≤_;decide⟩
 | 1 =>
  refine ⟨by show pA.size≤_;decide,?_⟩;show (xB n).size≤_;rw [WJ];omega
 | j+2=>exact ⟨by show (ByteArray.empty).size≤_;decide,by show (ByteArray.empty).size≤_;decide⟩
theorem fa (hn:n≤64):(Yf (XQ (Yd n i) (Yd n (i+1))) j).nd.path.size≤1048576∧(Yf (XQ (Yd n i) (Yd n (i+1))) j).nd.data.size≤1048576:=by
 rw [qr]
 match j with
 | 0 =>
  refine ⟨by show pA.size≤_;decide,?_⟩;show (xB n).size≤_;rw [WJ];omega
 | j+1=>exact ⟨by show (ByteArray.empty).size≤_;decide,by show (ByteArray.empty).size≤_;decide⟩
theorem qp (hn:n≤64):(opC n).path.size≤1048576∧(opC n).data.size≤1048576:=⟨by show pA.size≤_;decide,by show (xB n).size≤_;rw [WJ];omega⟩
theorem CW (hn:n≤64):(Nc n).path.size≤1048576∧(Nc n).data.size≤1048576:=⟨by show pA.size≤_;decide,by show (xB n).size≤_;rw [WJ];omega⟩
theorem Vr :Yd n i≠[]:=by simp [Yd]
theorem U3:[ZI]≠[]:=by simp
theorem mR (hn:n≤64) (hi:i≤1000):Wm (Zi (Yd n i)):=by
 intro x hx;obtain ⟨m,hm,hx⟩:=List.mem_flatMap.1 hx
 rcases Yz.1 hm with rfl | hm
 · exact Ui Ew x hx
 rcases Yz.1 hm with rfl | hm
 · exact Ui (Ex hn hi) x hx
 cases hm
theorem mQ:Wm (Zi [ZI]):=by
 intro x hx;obtain ⟨m,hm,hx⟩:=List.mem_flatMap.1 hx
 rcases Yz.1 hm with rfl | hm
 · exact Ui (by decide +kernel) x hx
 cases hm
theorem mP (hn:n≤64) (hi:i≤1000):∀j,j<(Yd n i).length→YL (ZC (Yd n i) j)=true∧0<(ZC (Yd n i) j).path.size:=by
 intro j hj
 match j,hj with
 | 0,_=>exact ⟨Ew,by show 0<Ye.size;decide⟩
 | 1,_=>exact ⟨Ex hn hi,by show 0<pA.size;decide⟩
 | j+2,h=>simp [Yd] at h;omega
theorem mO:∀j,j<[ZI].length→YL (ZC [ZI] j)=true∧0<(ZC [ZI] j).path.size:=by
 intro j hj
 match j,hj with
 | 0,_=>exact ⟨by decide +kernel,by decide⟩
 | j+1,h=>simp at h
section
variable {m:Int} {te:TypeId} {pe:Value} {S L n:Nat} {κ:Sc} {σ:Sx} {w:World}
theorem eZ (Z:Ag κ S L) (h:Sv κ σ w) (hgl:Gl m te pe κ w) (hn:n≤64) (hT:σ.T≠[]) (hQ:σ.Q=[ZI]) (hz:σ.zq=0) (hfs:σ.fs.length=0) (qw:σ.ql=0) (hfl:σ.full.length≤4096) (vo vn:Value) (pa:ByteArray) (ho:MJ w vo [opC n]) (EG:Tk κ vo) (V:∀q,vo.ownBlock=some q→q<w.heap.size) :
    Calls Tryz.prog 14 #[.pointer (some ⟨κ.sB,0,none⟩),.agg #[.int .i64 1,vo,.bool false,.string pa,vn]] w fun e w'=>e=.returned (.string (if L*64<σ.full.length - σ.off+Zp n then tl wE [8] else tl wQ [1]))∧Gw κ w w'∧∃ σ',σ'=(if L*64<σ.full.length - σ.off+Zp n then σ else { σ with Q:=Yd n 0,zq:=1,fs:=σ.fs++[fr (XX 1 (XQ [ZI] (Yd n 0)))],ql:=Zp n })∧Sv κ σ' w':=by
 have hA:EN σ.Q [opC n] ((σ.zq:Int)+1)=⟨0,0,1,[[47,97]],XQ [ZI] (Yd n 0)⟩:=by rw [hQ,hz];exact jJ hn
 have hb:=Z.b;refine (J9 κ σ w h hgl hT (by rw [hQ];exact U3) vo vn pa [opC n] ho EG V (fun i=>(Lr (qp hn) rfl).1) (by simp) (fun i=>(Lr (qp hn) rfl).2) (by rw [hQ];exact fun i=>qq) (by omega) _ hA ⟨by show (0:Int)≤0;decide,by show (0:Int)<1000;decide⟩ ⟨by show (0:Int)≤1;decide,by show (1:Int)<1000000;decide⟩ (fun i=>fe hn) (fun _=>by show 0<(XX 1 _).length∧(XX 1 _).length≤2000;rw [C6 hn];omega) (by rw [Z.eL];omega) hfl (by omega) (fun _ _=>by rw [hfs,Z.cap];omega)).mono ?_;have e:EH κ σ ⟨0,0,1,[[47,97]],XQ [ZI] (Yd n 0)⟩=(if L*64<σ.full.length - σ.off+Zp n then tl wE [8] else tl wQ [1],if L*64<σ.full.length - σ.off+Zp n then σ else { σ with Q:=Yd n 0,zq:=1,fs:=σ.fs++[fr (XX 1 (XQ [ZI] (Yd n 0)))],ql:=Zp n }):=by
  unfold EH
  simp only [ne_eq,not_true_eq_false,Vw,jC hn,Z.eL,qw,YK,hQ,jE hn]
  by_cases h9:L*64<σ.full.length - σ.off+Zp n
  · rw [ZZ (by omega),ZZ h9,ZZ h9];rfl
  rw [Z1 (by omega),Z1 h9,Z1 h9];rfl
 rw [e];exact fun _ _ h=>h
theorem jz (Z:Ag κ S L) (h:Sv κ σ w) (hgl:Gl m te pe κ w) (hn:n≤64) (i:Nat) (hi:i≤900) (hT:σ.T≠[]) (hQ:σ.Q=Yd n i) (hz:σ.zq=i+1) (hfs:σ.fs.length*Ze n=σ.ql) (qw:σ.ql≤4096) (hfl:σ.full.length≤4096) (vo vn:Value) (pa:ByteArray) (ho:MJ w vo [Nc n]) (EG:Tk κ vo) (V:∀q,vo.ownBlock=some q→q<w.heap.size) :
    Calls Tryz.prog 14 #[.pointer (some ⟨κ.sB,0,none⟩),.agg #[.int .i64 1,vo,.bool false,.string pa,vn]] w fun e w'=>e=.returned (.string (if L*64<σ.full.length - σ.off+(σ.ql+Ze n) then tl wE [8] else tl wQ [i+2]))∧Gw κ w w'∧∃ σ',σ'=(if L*64<σ.full.length - σ.off+(σ.ql+Ze n) then σ else { σ with Q:=Yd n (i+1),zq:=i+2,fs:=σ.fs++[fr (XX ((i:Int)+2) (XQ (Yd n i) (Yd n (i+1))))],ql:=σ.ql+Ze n })∧Sv κ σ' w':=by
 have hA:EN σ.Q [Nc n] ((σ.zq:Int)+1)=⟨0,0,(i:Int)+2,[[47,97]],XQ (Yd n i) (Yd n (i+1))⟩:=by
  rw [hQ,hz,show (((i+1:Nat):Int)+1)=(i:Int)+2 by omega];exact jI hn hi
 have hb:=Z.b;have hroom:(((σ.full.length - σ.off)+(σ.ql+(fr (XX ((i:Int)+2) (XQ (Yd n i) (Yd n (i+1))))).length):Nat):Int)≤κ.L*64→σ.fs.length<κ.cap:=by
  rw [mS hn hi,Z.eL,Z.cap];intro h9;have h8:(σ.fs.length+1)*Ze n≤L*64:=by rw [Ju,Mp,hfs];omega
  have h7:9≤Ze n:=by unfold Ze;omega
  have h6:(σ.fs.length+1)*9≤(σ.fs.length+1)*Ze n:=Nat.mul_le_mul_left _ h7;omega
 refine (J9 κ σ w h hgl hT (by rw [hQ];exact Vr) vo vn pa [Nc n] ho EG V (fun i=>(Lr (CW hn) rfl).1) (by simp) (fun i=>(Lr (CW hn) rfl).2) (by rw [hQ];exact fun i=>jA hn) (by omega) _ hA ⟨by show (0:Int)≤0;decide,by show (0:Int)<1000;decide⟩ ⟨by show 0≤(i:Int)+2;omega,by show (i:Int)+2<1000000;omega⟩ (fun j=>fa hn) (fun _=>by show 0<(XX ((i:Int)+2) _).length∧(XX ((i:Int)+2) _).length≤2000;rw [C5 hn hi];omega) (by rw [Z.eL];omega) hfl qw (fun _=>hroom)).mono ?_;have e:EH κ σ ⟨0,0,(i:Int)+2,[[47,97]],XQ (Yd n i) (Yd n (i+1))⟩=(if L*64<σ.full.length - σ.off+(σ.ql+Ze n) then tl wE [8] else tl wQ [i+2],if L*64<σ.full.length - σ.off+(σ.ql+Ze n) then σ else { σ with Q:=Yd n (i+1),zq:=i+2,fs:=σ.fs++[fr (XX ((i:Int)+2) (XQ (Yd n i) (Yd n (i+1))))],ql:=σ.ql+Ze n }):=by
  have e1:((i:Int)+2).toNat=i+2:=by omega
  unfold EH
  simp only [ne_eq,not_true_eq_false,Vw,mS hn hi,Z.eL,hQ,jD hn hi,e1]
  by_cases h9:L*64<σ.full.length - σ.off+(σ.ql+Ze n)
  · rw [ZZ (by omega),ZZ h9,ZZ h9];rfl
  rw [Z1 (by omega),Z1 h9,Z1 h9];rfl
 rw [e];exact fun _ _ h=>h
theorem eY (Z:Ag κ S L) (h:Sv κ σ w) (hgl:Gl m te pe κ w) (hn:n≤64) (hT:σ.T≠[]) (hQ:σ.Q=[ZI]) (hz:σ.zq=0) (qw:σ.ql≤4096) (hfl:σ.full.length≤4096) (vo vn:Value) (pa:ByteArray) (ho:MJ w vo [Nc n]) (EG:Tk κ vo) (V:∀q,vo.ownBlock=some q→q<w.heap.size) :
    Calls Tryz.prog 14 #[.pointer (some ⟨κ.sB,0,none⟩),.agg #[.int .i64 1,vo,.bool false,.string pa,vn]] w fun e w'=>e=.returned (.string (tl wE [2]))∧Gw κ w w'∧∃ σ',σ'=σ∧Sv κ σ' w':=by
 have hA:EN σ.Q [Nc n] ((σ.zq:Int)+1)=⟨2,0,0,[],[]⟩:=by rw [hQ,hz];exact jH hn
 have hb:=Z.b;refine (J9 κ σ w h hgl hT (by rw [hQ];exact U3) vo vn pa [Nc n] ho EG V (fun i=>(Lr (CW hn) rfl).1) (by simp) (fun i=>(Lr (CW hn) rfl).2) (by rw [hQ];exact fun i=>qq) (by omega) _ hA ⟨by decide,by decide⟩ ⟨by decide,by decide⟩ (fun i=>⟨by show (ByteArray.empty).size≤_;decide,by show (ByteArray.empty).size≤_;decide⟩) (fun e=>by cases e) (by rw [Z.eL];omega) hfl qw (fun e=>by cases e)).mono ?_;rw [show EH κ σ ⟨2,0,0,[],[]⟩=(tl wE [2],σ) from rfl];exact fun _ _ h=>h
end
theorem mN {c:Prop} [Decidable c] {τ:Sx} (h1:σ.T≠[]∧σ.Q≠[]) (h2:τ.T≠[]∧τ.Q≠[]):(if c then σ else τ).T≠[]∧(if c then σ else τ).Q≠[]:=by
 by_cases h:c
 · rw [ZZ h];exact h1
 rw [Z1 h];exact h2
def lv (S L n k:Nat) (κ:Sc) (w:World) (e:Ending) (w':World):Prop :=
 e=.returned (.string (YA S L n k))∧Gw κ w w'∧∃ σ',Rk S L n (k+1) σ'∧Sv κ σ' w'
section
variable {m:Int} {te:TypeId} {pe:Value} {S L n k:Nat} {κ:Sc} {σ:Sx} {w:World}
theorem jy (Z:Ag κ S L) (h:Sv κ σ w) (hgl:Gl m te pe κ w) (hn:n≤64) (hR:Rk S L n k σ) (hk:k=0) (vo vn:Value) (pa:ByteArray) (ho:MJ w vo [opC n]) (EG:Tk κ vo) (V:∀q,vo.ownBlock=some q→q<w.heap.size) :
    Calls Tryz.prog 14 #[.pointer (some ⟨κ.sB,0,none⟩),.agg #[.int .i64 1,vo,.bool false,.string pa,vn]] w (lv S L n k κ w):=by
 subst hk;obtain ⟨r0,r1,r2,r3,r4,r5,r6,r7,r8⟩:=hR;have hb:=Z.b;have rt:Rt σ:=by
  by_cases h9:Zp n≤L*64
  · rw [ZZ h9,ZZ rfl] at r8;exact r8
  rw [Z1 h9,Z1 (by decide),Z1 (by decide),ZZ (by decide)] at r8;exact r8
 obtain ⟨t1,t2,t3,t4,t5,t6,t7⟩:=rt;refine (eZ Z h hgl hn (by rw [t1];exact U3) t3 t4 (by rw [t5];rfl) t6 (r7 (by omega)) vo vn pa ho EG V).mono ?_;have z0:σ.full.length - σ.off+Zp n=Zp n:=by rw [t7];simp
 rw [z0];rintro e w' ⟨rfl,g,σ',rfl,v⟩
 by_cases h9:Zp n≤L*64
 · rw [Z1 (by omega)] at v ⊢
   refine ⟨by unfold YA;rw [ZZ h9,ZZ rfl],g,_,?_,v⟩;refine ⟨fun _=>r0 (by omega),fun _=>r1 (by omega),fun _=>r2 (by omega),fun _=>r3 (by omega),fun _=>r4 (by omega),fun _=>r5 (by omega),fun e=>by omega,fun _=>r7 (by omega),?_⟩;rw [ZZ h9,Z1 (by omega),ZZ rfl];refine ⟨t1,t2,rfl,rfl,by rw [t5];rfl,?_,rfl,t7⟩;show (σ.fs++[fr (XX 1 (XQ [ZI] (Yd n 0)))]).flatten.length=Zp n;rw [t5]
   simpa using jC hn
 rw [ZZ (by omega)] at v ⊢;refine ⟨by unfold YA;rw [Z1 h9,ZZ rfl],g,_,?_,v⟩;refine ⟨fun _=>r0 (by omega),fun _=>r1 (by omega),fun _=>r2 (by omega),fun _=>r3 (by omega),fun _=>r4 (by omega),fun _=>r5 (by omega),fun e=>by omega,fun _=>r7 (by omega),?_⟩;rw [Z1 h9,Z1 (by omega),Z1 (by omega),ZZ (by omega)];exact ⟨t1,t2,t3,t4,t5,t6,t7⟩
theorem qo (Z:Ag κ S L) (h:Sv κ σ w) (hgl:Gl m te pe κ w) (hn:n≤64) (hR:Rk S L n k σ) (hk:(2≤k∧k<112)∨k=115) (vo vn:Value) (pa:ByteArray) (ho:MJ w vo [Nc n]) (EG:Tk κ vo) (V:∀q,vo.ownBlock=some q→q<w.heap.size) :
    Calls Tryz.prog 14 #[.pointer (some ⟨κ.sB,0,none⟩),.agg #[.int .i64 1,vo,.bool false,.string pa,vn]] w (lv S L n k κ w):=by
 obtain ⟨r0,r1,r2,r3,r4,r5,r6,r7,r8⟩:=hR;have hb:=Z.b;have hfl:=r7 (by omega)
 by_cases h9:Zp n≤L*64
 · rw [ZZ h9,Z1 (by omega),Z1 (by omega)] at r8
   have hem:=AG (n:=n)
   rcases hk with ⟨k2,k3⟩ | rfl
   · rw [ZZ (by omega)] at r8
     have hf1:=Nb (L:=L) (n:=n) (i:=min (k - 2) (Ym L n)) h9;have hf2:=Nb (L:=L) (n:=n) (i:=min (k - 2) (Ym L n)+1) h9;have hf3:=hf1.1 (D8 _ _);have hq1:σ.ql=min (k - 2) (Ym L n)*Ze n:=by have:=r8.ql;rwa [VB] at this
     have hfs:σ.fs.length=min (k - 2) (Ym L n):=by have:=r8.fs;rwa [VB] at this
     have hln:=r8.ln;rw [Ju,Mp] at hf2;refine (jz Z h hgl hn (min (k - 2) (Ym L n)) (by omega) (by rw [r8.T];exact Vr) r8.Q r8.zq (by rw [hfs,hq1]) (by omega) hfl vo vn pa ho EG V).mono ?_;rintro e w' ⟨rfl,g,σ',rfl,v⟩;rw [hln,hq1] at v ⊢
     by_cases h8:k - 2<Ym L n
     · have hm:min (k - 2) (Ym L n)=k - 2:=Wh (by omega)
       rw [hm] at v hf2 hf3 hfs hq1 ⊢;have:=hf2.1 (by omega);rw [Z1 (by omega)] at v ⊢;refine ⟨by unfold YA;rw [ZZ h9,Z1 (by omega),Z1 (by omega),ZZ (by omega),ZZ h8,show k - 2+2=k by omega],g,_,?_,v⟩;refine ⟨fun e=>by omega,fun _=>r1 (by omega),fun _=>r2 (by omega),fun _=>r3 (by omega),fun _=>r4 (by omega),fun _=>r5 (by omega),fun e=>by omega,fun _=>hfl,?_⟩;rw [ZZ h9,Z1 (by omega),Z1 (by omega),ZZ (by omega),Wh (by omega)];have e1:k+1 - 2=k - 2+1:=by omega
       have vH:=r8.fl;rw [e1];refine ⟨rfl,rfl,r8.T,r8.zf,Zu _,by show (σ.fs++[_]).length=_;simp [hfs],?_,?_,hln⟩
       · show (σ.fs++[_]).flatten.length=(k - 2)*Ze n+Ze n
         rw [List.flatten_append,ZA,vH,hq1]
         simpa using mS hn (by omega)
       show (k - 2)*Ze n+Ze n=(k - 2+1 - 0)*Ze n;rw [VB,Ju,Mp]
     have hm:min (k - 2) (Ym L n)=Ym L n:=Nat.min_eq_right (by omega);rw [hm] at v hf2 hf3 hfs hq1 ⊢;have:¬Zp n+(Ym L n*Ze n+Ze n)≤L*64:=fun e=>by have:=hf2.2 e;omega
     rw [ZZ (by omega)] at v ⊢;refine ⟨by unfold YA;rw [ZZ h9,Z1 (by omega),Z1 (by omega),ZZ (by omega),Z1 h8],g,_,?_,v⟩;refine ⟨fun e=>by omega,fun _=>r1 (by omega),fun _=>r2 (by omega),fun _=>r3 (by omega),fun _=>r4 (by omega),fun _=>r5 (by omega),fun e=>by omega,fun _=>hfl,?_⟩;rw [ZZ h9,Z1 (by omega),Z1 (by omega),ZZ (by omega),show min (k+1 - 2) (Ym L n)=min (k - 2) (Ym L n) by omega];exact r8
   rw [Z1 (by omega),Z1 (by omega),Z1 (by omega),ZZ rfl] at r8;have hf2:=Nb (L:=L) (n:=n) (i:=YC L n+1) h9;rw [Ju,Mp] at hf2;have hln:=r8.ln;have hq1:σ.ql=0:=by have:=r8.ql;rwa [PN,TK] at this
   have hfs:σ.fs.length=0:=by have:=r8.fs;rwa [PN] at this
   have ht:YC L n≤110:=Mq _ _;refine (jz Z h hgl hn (YC L n) (by omega) (by rw [r8.T];exact Vr) r8.Q r8.zq (by rw [hfs,hq1,TK]) (by omega) hfl vo vn pa ho EG V).mono ?_;rintro e w' ⟨rfl,g,σ',rfl,v⟩;rw [hln,hq1] at v ⊢;refine ⟨?_,g,_,?_,v⟩
   · have ea:YA S L n 115=if 47+n≤S*64∨110<Ym L n then tl wQ [YC L n+2] else tl wE [8]:=by
      unfold YA;rw [ZZ h9]
      rfl
     rw [ea];clear v
     by_cases h8:47+n≤S*64
     · rw [ZZ h8,Z1 (show ¬L*64<0+(0+Ze n) by omega),ZZ (.inl h8)]
     rw [Z1 h8]
     by_cases h7:110<Ym L n
     · have:=hf2.1 (by unfold YC;omega)
       rw [Z1 (by omega),ZZ (.inr h7)]
     have:¬Zp n+(YC L n*Ze n+Ze n)≤L*64:=fun e=>by have:=hf2.2 e;unfold YC at this;omega
     rw [ZZ (by omega),Z1 (by omega)]
   refine ⟨fun e=>by omega,fun e=>by omega,fun e=>by omega,fun e=>by omega,fun e=>by omega,fun e=>by omega,fun e=>by omega,fun e=>by omega,?_⟩;rw [ZZ h9,Z1 (by omega),Z1 (by omega),Z1 (by omega),Z1 (by omega),Z1 (by omega),Z1 (by omega)];exact mN (by rw [r8.T,r8.Q];exact ⟨Vr,Vr⟩) ⟨by show σ.T≠[];rw [r8.T];exact Vr,Vr⟩
 rw [Z1 h9] at r8;have hq:σ.Q=[ZI]∧σ.zq=0∧σ.ql=0∧σ.T=[ZI]:=by
  rcases hk with ⟨k2,k3⟩ | rfl
  · rw [Z1 (by omega),Z1 (by omega),ZZ (by omega)] at r8
    exact ⟨r8.2.2.1,r8.2.2.2.1,r8.2.2.2.2.2.1,r8.1⟩
  rw [Z1 (by omega),ZZ rfl] at r8;exact r8
 obtain ⟨q1,q2,q3,q4⟩:=hq;refine (eY Z h hgl hn (by rw [q4];exact U3) q1 q2 (by omega) hfl vo vn pa ho EG V).mono ?_;rintro e w' ⟨rfl,g,σ',rfl,v⟩;refine ⟨?_,g,_,?_,v⟩
 · unfold YA
   rw [Z1 h9,Z1 (by omega),Z1 (by omega),Z1 (by omega),Z1 (by omega)]
 refine ⟨fun e=>by omega,fun _=>r1 (by omega),fun _=>r2 (by omega),fun _=>r3 (by omega),fun _=>r4 (by omega),fun _=>r5 (by omega),fun e=>by omega,fun _=>hfl,?_⟩;rw [Z1 h9]
 rcases hk with ⟨k2,k3⟩ | rfl
 · rw [Z1 (by omega),Z1 (by omega),ZZ (by omega)] at r8 ⊢
   exact r8
 rw [Z1 (by omega),Z1 (by omega),Z1 (by omega),q1,q4];exact ⟨U3,U3⟩
end
set_option linter.unusedSectionVars false
section
variable {m:Int} {te:TypeId} {pe:Value} {S L n k:Nat} {κ:Sc} {σ:Sx} {w:World}
theorem qn (Z:Ag κ S L) (h:Sv κ σ w) (hgl:Gl m te pe κ w) (hn:n≤64) (hR:Rk S L n k σ) (hk:k=1∨k=112) (vo vn:Value) (mu:Bool) (pa:ByteArray) :
    Calls Tryz.prog 14 #[.pointer (some ⟨κ.sB,0,none⟩),.agg #[.int .i64 2,vo,.bool mu,.string pa,vn]] w (lv S L n k κ w):=by
 obtain ⟨r0,r1,r2,r3,r4,r5,r6,r7,r8⟩:=hR;have hb:=Z.b;have hfl:=r7 (by omega);obtain ⟨i1,i2,i3⟩:=(r3 (by omega)).2
 by_cases h9:Zp n≤L*64
 · rw [ZZ h9,Z1 (by omega)] at r8
   rcases hk with rfl | rfl
   · rw [ZZ rfl] at r8
     obtain ⟨t1,t2,t3,t4,t5,t6,t7,t8⟩:=r8;have hk0:=r0 (by omega);refine (Nf κ σ w h hgl (by rw [t1];exact U3) (by rw [t3];exact Vr) vo vn mu pa (by omega) (by omega) i3 (by rw [t8,t6,Z.eL];simp;omega) Z.c (by omega) (by omega) (by omega) (.inr (r4 (by omega)))).mono ?_;rw [t5,t4];rintro e w' ⟨rfl,g,σ',rfl,v⟩;refine ⟨by unfold YA;rw [ZZ h9,Z1 (by omega),ZZ rfl];rfl,g,_,?_,v⟩;refine ⟨fun e=>by omega,fun _=>by show σ.k+66≤66;omega,fun _=>by show σ.k+66≤132;omega,fun _=>⟨by show σ.k+66≤133;omega,i1,i2,i3⟩,fun _=>r4 (by omega),fun _=>r5 (by omega),fun e=>by omega,fun _=>by show (σ.full++σ.fs.flatten).length≤4096;rw [t8,Yw,t6];omega,?_⟩;rw [ZZ h9,Z1 (by omega),Z1 (by omega),ZZ (by omega),show min (1+1 - 2) (Ym L n)=0 by omega];refine ⟨t3,rfl,t3,rfl,ZT,rfl,rfl,by show 0=(0 - 0)*Ze n;simp,?_⟩;show (σ.full++σ.fs.flatten).length - σ.off=Zp n;rw [t8,Yw,t6,i3];rfl
   rw [Z1 (by omega),ZZ (by omega),show min (112 - 2) (Ym L n)=YC L n from rfl] at r8;have hk0:=r1 (by omega);have ht:YC L n≤110:=Mq _ _;have hf:=(Nb (L:=L) (n:=n) (i:=YC L n) h9).1 (D8 _ _);have hq1:σ.ql=YC L n*Ze n:=by have:=r8.ql;rwa [VB] at this
   have hfs:σ.fs.length=YC L n:=by have:=r8.fs;rwa [VB] at this
   have hln:σ.full.length=Zp n:=by have:=r8.ln;rwa [i3,VB] at this
   have ea:YA S L n 112=tl wF [YC L n,YC L n+1]:=by unfold YA;rw [ZZ h9];rfl
   by_cases h8:σ.fs=[]
   · have h7:YC L n=0:=by rw [←hfs,h8];rfl
     rw [h7] at r8 ea;refine (Ng κ σ w h hgl (by rw [r8.T];exact Vr) (by rw [r8.Q];exact Vr) vo vn mu pa h8 (by rw [r8.zf];omega)).mono ?_;rw [r8.zf];rintro e w' ⟨rfl,g,σ',rfl,v⟩;refine ⟨by rw [ea];rfl,g,_,?_,v⟩;refine ⟨fun e=>by omega,fun e=>by omega,fun _=>by omega,fun _=>r3 (by omega),fun _=>r4 (by omega),fun _=>r5 (by omega),fun e=>by omega,fun _=>hfl,?_⟩;rw [ZZ h9,Z1 (by omega),Z1 (by omega),Z1 (by omega),ZZ rfl,h7,TK];exact r8
   refine (Nf κ σ w h hgl (by rw [r8.T];exact Vr) (by rw [r8.Q];exact Vr) vo vn mu pa (List.length_pos_iff.2 h8) (by omega) i3 (by rw [r8.fl,hq1,hln,Z.eL];omega) Z.c (by omega) (by omega) (by rw [r8.zq];omega) (.inr (r4 (by omega)))).mono ?_;rw [hfs,r8.zq];rintro e w' ⟨rfl,g,σ',rfl,v⟩;refine ⟨by rw [ea];rfl,g,_,?_,v⟩;have e1:(σ.full++σ.fs.flatten).length=Zp n+YC L n*Ze n:=by rw [ZA,r8.fl,hq1,hln]
   refine ⟨fun e=>by omega,fun e=>by omega,fun _=>by show σ.k+66≤132;omega,fun _=>⟨by show σ.k+66≤133;omega,i1,i2,i3⟩,fun _=>r4 (by omega),fun _=>r5 (by omega),fun e=>by omega,fun _=>by show (σ.full++σ.fs.flatten).length≤4096;omega,?_⟩;rw [ZZ h9,Z1 (by omega),Z1 (by omega),Z1 (by omega),ZZ rfl];refine ⟨r8.Q,rfl,r8.Q,rfl,ZT,by show 0=YC L n - YC L n;omega,rfl,by show 0=(YC L n - YC L n)*Ze n;rw [PN,TK],?_⟩;show (σ.full++σ.fs.flatten).length - σ.off=_;rw [e1,i3,VB]
 rw [Z1 h9,Z1 (by omega),Z1 (by omega),ZZ (by omega)] at r8;obtain ⟨t1,t2,t3,t4,t5,t6,t7⟩:=r8;refine (Ng κ σ w h hgl (by rw [t1];exact U3) (by rw [t3];exact U3) vo vn mu pa t5 (by omega)).mono ?_;rw [t2];rintro e w' ⟨rfl,g,σ',rfl,v⟩;refine ⟨by unfold YA;rw [Z1 h9,Z1 (by omega),ZZ hk];rfl,g,_,?_,v⟩;refine ⟨fun e=>by omega,fun _=>r1 (by omega),fun _=>r2 (by omega),fun _=>r3 (by omega),fun _=>r4 (by omega),fun _=>r5 (by omega),fun e=>by omega,fun _=>hfl,?_⟩;rw [Z1 h9,Z1 (by omega),Z1 (by omega),ZZ (by omega)];exact ⟨t1,t2,t3,t4,t5,t6,t7⟩
theorem jx (Z:Ag κ S L) (h:Sv κ σ w) (hgl:Gl m te pe κ w) (hn:n≤64) (hR:Rk S L n k σ) (hk:k=113) (vo vn:Value) (mu:Bool) (pa:ByteArray) :
    Calls Tryz.prog 14 #[.pointer (some ⟨κ.sB,0,none⟩),.agg #[.int .i64 6,vo,.bool mu,.string pa,vn]] w (lv S L n k κ w):=by
 subst hk;obtain ⟨r0,r1,r2,r3,r4,r5,r6,r7,r8⟩:=hR;have hb:=Z.b;have hfl:=r7 (by omega);have hk0:=r2 (by omega);obtain ⟨i1,i2,i3⟩:=(r3 (by omega)).2;have ht:YC L n≤110:=Mq _ _
 by_cases h9:Zp n≤L*64
 · rw [ZZ h9,Z1 (by omega),Z1 (by omega),Z1 (by omega),ZZ rfl] at r8
   refine (GE κ σ w h hgl (by rw [r8.T];exact Vr) (by rw [r8.Q];exact Vr) vo vn mu pa (by omega) (r4 (by omega)) (by rw [r8.zf];omega) hfl).mono ?_;rw [r8.zf,i3,VB];rintro e w' ⟨rfl,g,σ',⟨pB,rfl⟩,v⟩;refine ⟨by unfold YA;rw [ZZ h9];rfl,g,_,?_,v⟩;refine ⟨fun e=>by omega,fun e=>by omega,fun e=>by omega,fun _=>⟨by show σ.k+1≤133;omega,i1,i2,rfl⟩,fun e=>by omega,fun _=>rfl,fun _=>rfl,fun _=>hfl,?_⟩;rw [ZZ h9,Z1 (by omega),Z1 (by omega),Z1 (by omega),Z1 (by omega),ZZ rfl];exact ⟨⟨r8.Q,r8.zq,r8.T,rfl,r8.le,r8.fs,r8.fl,r8.ql,by have:=r8.ln;rwa [i3] at this⟩,pB,rfl⟩
 rw [Z1 h9,Z1 (by omega),Z1 (by omega),ZZ (by omega)] at r8;obtain ⟨t1,t2,t3,t4,t5,t6,t7⟩:=r8;refine (GE κ σ w h hgl (by rw [t1];exact U3) (by rw [t3];exact U3) vo vn mu pa (by omega) (r4 (by omega)) (by omega) hfl).mono ?_;have t9:σ.full.length - σ.off=0:=by rw [t7];simp
 rw [t2,t9];rintro e w' ⟨rfl,g,σ',⟨pB,rfl⟩,v⟩;refine ⟨by unfold YA;rw [Z1 h9];rfl,g,_,?_,v⟩;refine ⟨fun e=>by omega,fun e=>by omega,fun e=>by omega,fun _=>⟨by show σ.k+1≤133;omega,i1,i2,i3⟩,fun e=>by omega,fun _=>rfl,fun _=>rfl,fun _=>hfl,?_⟩;rw [Z1 h9,ZZ rfl];exact ⟨⟨t1,rfl,t3,t4,t5,t6,t7⟩,pB,rfl⟩
theorem jw (Z:Ag κ S L) (h:Sv κ σ w) (hgl:Gl m te pe κ w) (hn:n≤64) (hR:Rk S L n k σ) (hk:k=114) (vo vn:Value) (mu:Bool) (pa:ByteArray) (nx:Rd .i64 w vn [1000]) :
    Calls Tryz.prog 14 #[.pointer (some ⟨κ.sB,0,none⟩),.agg #[.int .i64 7,vo,.bool mu,.string pa,vn]] w (lv S L n k κ w):=by
 subst hk;obtain ⟨r0,r1,r2,r3,r4,r5,r6,r7,r8⟩:=hR;have hb:=Z.b;have hfl:=r7 (by omega);have hem:=r5 (by omega);have hpw:=r6 rfl;obtain ⟨hk0,i1,i2,i3⟩:=r3 (by omega);have ht:YC L n≤110:=Mq _ _
 by_cases h9:Zp n≤L*64
 · rw [ZZ h9,Z1 (by omega),Z1 (by omega),Z1 (by omega),Z1 (by omega),ZZ rfl] at r8
   obtain ⟨r8,pB,hsn⟩:=r8;have hf:=(Nb (L:=L) (n:=n) (i:=YC L n) h9).1 (D8 _ _);have hfs:σ.fs=[]:=by have:=r8.fs;rw [PN] at this;exact List.length_eq_zero_iff.1 this
   have hln:σ.full.length=Zp n+YC L n*Ze n:=by have:=r8.ln;rwa [i3,VB] at this
   have hok:=mP (n:=n) (i:=YC L n) hn (by omega);have hs:=rC (n:=n) (i:=YC L n);have ea:YA S L n 114=if 47+n≤S*64 then tl wL [YC L n+1] else wU:=by unfold YA;rw [ZZ h9];rfl
   have ec:(((Zi (Yd n (YC L n))).length:Int)≤κ.S*64)=(47+n≤S*64):=by rw [hs,Z.eS];exact propext ⟨fun h=>by omega,fun h=>by omega⟩
   refine (GD κ σ w h hgl (by rw [r8.T];exact Vr) (by rw [r8.Q];exact Vr) vo vn mu pa nx pB _ _ hsn hem (by rw [r8.T];simp [Yd]) (by rw [r8.T];exact fun j hj=>(hok j hj).1) (by rw [r8.T];exact fun j hj=>(hok j hj).2) (by rw [r8.T,hs];omega) (by rw [r8.T];exact mR hn (by omega)) hfs hpw i1 i2 i3 ZT (by rw [hln,Z.eL];omega) (by omega) (by omega) Z.c).mono ?_;rw [r8.T]
   simp only [ec]
   rintro e w' ⟨rfl,g,σ',⟨l,r,rfl⟩,v⟩;refine ⟨by rw [ea];rfl,g,_,?_,v⟩
   by_cases h8:47+n≤S*64
   · rw [ZZ h8]
     refine ⟨fun e=>by omega,fun e=>by omega,fun e=>by omega,fun e=>by omega,fun e=>by omega,fun e=>by omega,fun e=>by omega,fun _=>hfl,?_⟩;rw [ZZ h9,Z1 (by omega),Z1 (by omega),Z1 (by omega),Z1 (by omega),Z1 (by omega),ZZ rfl,ZZ h8];exact ⟨r8.Q,r8.zq,rfl,r8.zf,r8.le,r8.fs,r8.fl,r8.ql,by show σ.full.length - σ.full.length=0;omega⟩
   rw [Z1 h8];refine ⟨fun e=>by omega,fun e=>by omega,fun e=>by omega,fun e=>by omega,fun e=>by omega,fun e=>by omega,fun e=>by omega,fun _=>hfl,?_⟩;rw [ZZ h9,Z1 (by omega),Z1 (by omega),Z1 (by omega),Z1 (by omega),Z1 (by omega),ZZ rfl,Z1 h8];exact ⟨r8.Q,r8.zq,rfl,r8.zf,r8.le,r8.fs,r8.fl,r8.ql,r8.ln⟩
 rw [Z1 h9,ZZ rfl] at r8;obtain ⟨⟨t1,t2,t3,t4,t5,t6,t7⟩,pB,hsn⟩:=r8;have hok:=mO;have hs:=AH;have ec:((Zi [ZI]).length:Int)≤κ.S*64:=by rw [hs,Z.eS];omega
 refine (GD κ σ w h hgl (by rw [t1];exact U3) (by rw [t3];exact U3) vo vn mu pa nx pB _ _ hsn hem (by rw [t1];simp) (by rw [t1];exact fun j hj=>(hok j hj).1) (by rw [t1];exact fun j hj=>(hok j hj).2) (by rw [t1,hs];omega) (by rw [t1];exact mQ) t5 hpw i1 i2 i3 (Zu _) (by rw [t7,Z.eL];simp;omega) (by omega) (by omega) Z.c).mono ?_;rw [t1]
 simp only [ec,Uc]
 rintro e w' ⟨rfl,g,σ',⟨l,r,rfl⟩,v⟩;refine ⟨by unfold YA;rw [Z1 h9];rfl,g,_,?_,v⟩;refine ⟨fun e=>by omega,fun e=>by omega,fun e=>by omega,fun e=>by omega,fun e=>by omega,fun e=>by omega,fun e=>by omega,fun _=>hfl,?_⟩;rw [Z1 h9,Z1 (by omega),ZZ rfl];exact ⟨t3,t4,t6,rfl⟩
theorem AF (Z:Ag κ S L) (h:Sv κ σ w) (hgl:Gl m te pe κ w) (hn:n≤64) (hR:Rk S L n k σ) (hn1:1≤n) (hk:k<116) (vo vn:Value) (W0:World) (l:Ln) (hl:Xf ((UI n).getD k ⟨#[]⟩)=l) (hb0:ZX W0 w) (h0:Sv κ σ W0) (ho:VU 159 w W0.heap.size vo l.ops) (hnn:Own .i64 2 w W0.heap.size vn l.nums) :
    Calls Tryz.prog 14 #[.pointer (some ⟨κ.sB,0,none⟩),.agg #[.int .i64 l.kind,vo,.bool l.VK,.string l.path,vn]] w (lv S L n k κ w):=by
 have Qc:Tk κ vo:=by
  intro q hq;have hge:=(ZD ho q hq).1;obtain ⟨vd,made,ZQ,a1,-⟩:=h0.dk;obtain ⟨vt,vq,cp,b1,-,-,-,-,-,b7,-⟩:=h0.mm;obtain ⟨Lv,s,r,c1,-⟩:=h0.ch;have z1:=a1.lt;have z2:=b1.lt;have z3:=(Yh.1 c1).1;have z4:κ.lb<W0.heap.size:=(b7.lt κ.lb rfl).2;refine ⟨by omega,by omega,by omega,by omega,fun hx=>?_⟩;have:=(h0.fx q hx).1;omega
 have V:∀q,vo.ownBlock=some q→q<w.heap.size:=fun q hq=>(ZD ho q hq).2
 rw [vI n k hk] at hl
 by_cases e0:k=0
 · rw [ZZ e0,rA hn1 hn] at hl
   subst hl;exact jy Z h hgl hn hR e0 vo vn _ ho.rd Qc V
 rw [Z1 e0] at hl
 by_cases e1:k=1
 · rw [ZZ e1,CY] at hl
   subst hl;exact qn Z h hgl hn hR (.inl e1) vo vn _ _
 rw [Z1 e1] at hl
 by_cases e2:k<112
 · rw [ZZ e2,CZ hn1 hn] at hl
   subst hl;exact qo Z h hgl hn hR (.inl (by omega)) vo vn _ ho.rd Qc V
 rw [Z1 e2] at hl
 by_cases e3:k=112
 · rw [ZZ e3,CY] at hl
   subst hl;exact qn Z h hgl hn hR (.inr e3) vo vn _ _
 rw [Z1 e3] at hl
 by_cases e4:k=113
 · rw [ZZ e4,rz] at hl
   subst hl;exact jx Z h hgl hn hR e4 vo vn _ _
 rw [Z1 e4] at hl
 by_cases e5:k=114
 · rw [ZZ e5,ry] at hl
   subst hl;exact jw Z h hgl hn hR e5 vo vn _ _ (Own.rd hnn)
 rw [Z1 e5,CZ hn1 hn] at hl;subst hl;exact qo Z h hgl hn hR (.inr (by omega)) vo vn _ ho.rd Qc V
end
end
section
open Go.RowKit Go.Shelf
variable {s:ByteArray} {L:List (ByteArray × Value)} {C:List (Nat × Value)} {ls:List ByteArray} {S hi i j k lo n z:Nat} {P:Program} {κ:Sc} {σ:Sx} {e t:TypeId} {v:Value} {W w w':World}
theorem Ev (W:World) (x:Nat):Rd .u8 (W.alloc (.cells #[.int .u8 (x:Int)] 5)) (.slice (some ⟨W.heap.size,0,none⟩) 1 1) [(x:Int)]:=by
 refine ⟨_,_,rfl,ZT,by unfold maxLen;omega,.inr ⟨W.heap.size,0,rfl,by simp,fun i hi=>?_⟩⟩;have:i=0:=by simp at hi;omega
 subst this
 simp
theorem vG (w:World) (n:Nat) (hn:n<10) :
    Calls Tryz.prog 15 #[.int .i64 (n:Int)] w fun e w'=>∃s:ByteArray,e=.returned (.string s)∧s=strOfNums [48+(n:Int)]∧ZX w w':=by
 have h0:¬(n:Int)<0:=by omega
 have h1:(n:Int)<10:=by omega
 have hcv:=WS (Ev w (48+n));rw [show ((48+n:Nat):Int)=48+(n:Int) by omega] at hcv;have B0:Hid (ZX w (w.alloc (.cells #[.int .u8 (48+(n:Int))] 5))):=ZJ.alloc ZT _
 go_enter Tryz.func15,Tryz.ntmps15
 go_wp2;go_ret;exact ⟨_,rfl,rfl,B0.out⟩
theorem vF (w:World) (a d:Nat) (sa:ByteArray) (ha:a<1000000) (ha1:1≤a) (hd:d<10) (hz:sa.size≤1000) (hc:∀W,Calls Tryz.prog 15 #[.int .i64 (a:Int)] W fun e w'=>∃s:ByteArray,e=.returned (.string s)∧s=sa∧ZX W w') :
    Calls Tryz.prog 15 #[.int .i64 (10*(a:Int)+(d:Int))] w fun e w'=>∃s:ByteArray,e=.returned (.string s)∧s=sa++strOfNums [48+(d:Int)]∧ZX w w':=by
 have h0:¬10*(a:Int)+(d:Int)<0:=by omega
 have h1:¬10*(a:Int)+(d:Int)<10:=by omega
 have hq:IntKind.i64.wrap ((10*(a:Int)+(d:Int)).tdiv 10)=(a:Int):=by
  rw [lq (by omega),XK];omega
 have hr:(10*(a:Int)+(d:Int)).tmod 10=(d:Int):=by
  rw [Int.tmod_eq_emod_of_nonneg (by omega)];omega
 have hw1:IntKind.i64.wrap (48+(d:Int))=48+(d:Int):=by
  rw [XK];omega
 have hw2:IntKind.u8.wrap (48+(d:Int))=48+(d:Int):=by
  rw [IntKind.wrap_u8];omega
 have HC:=Z3 hc;clear hc;have hsn:(strOfNums [48+(d:Int)]).size=1:=by rw [strOfNums_size];rfl
 go_enter Tryz.func15,Tryz.ntmps15
 go_wp2_with fail
 have B0:Hid (ZX w w.drew):=below_drewN' w 1;refine ZH (S:=fun _=>True) (by kernel_rfl) trivial (fun Z9=>?_);generalize w.drew=m0 at *;refine ZW (.int .i64 (10*(a:Int)+(d:Int))) Z9 (fun w9 Z0=>by (clear Z0;go_simp;try (first | with_reducible rfl | assumption))) ?_;refine ZW (.int .i64 (a:Int)) Z9 (fun w9 Z0=>by (clear Z0;go_simp;try (first | with_reducible rfl | assumption))) ?_;refine ZG 3 (.int .i64 (10*(a:Int)+(d:Int))) rfl Z9 (fun w9 Z0=>by (clear Z0;go_simp;try (first | with_reducible rfl | assumption))) ?_;refine ZG 4 (.int .i64 (d:Int)) rfl Z9 (fun w9 Z0=>by (clear Z0;go_simp;try (first | with_reducible rfl | assumption))) ?_;refine ZG 5 (.int .i64 (48+(d:Int))) rfl Z9 (fun w9 Z0=>by (clear Z0;go_simp;try (first | with_reducible rfl | assumption))) ?_;refine ZG 6 (.int .u8 (48+(d:Int))) rfl Z9 (fun w9 Z0=>by (clear Z0;go_simp;try (first | with_reducible rfl | assumption))) ?_;refine UY 2 7 rfl rfl (fun K hK=>?_) (fun K hK=>?_)
 · go_simp
   refine (HC.out m0).mono ?_;rintro e m1 ⟨s9,rfl,LK,bN⟩;have HE:=Z3 LK
   replace LK:s9.size≤1000:=by rw [LK];exact hz
   replace B0:=Z3 (YV B0.out bN)
   refine hK.out _ _ trivial (fun ZM=>?_);clear hK K ZM bN;refine ZU 7 rfl (fun K hK=>?_);have bN:ZX m1 (m1.alloc (.cells #[.int .u8 (48+(d:Int))] 5)):=ZJ.alloc ZT _;have G:=Ev m1 (48+d);rw [show ((48+d:Nat):Int)=48+(d:Int) by omega] at G;have R0:=Z3 G;clear G
   replace B0:=Z3 (YV B0.out bN)
   go_simp;refine hK.out _ _ trivial (fun ZM=>?_);clear hK K ZM bN;generalize m1.alloc _=m2 at *;generalize m1.heap.size=bb at *;refine ZU 8 rfl (fun K hK=>?_);have hcv:=WS R0.out;go_simp;refine hK.out _ _ trivial (fun ZM=>?_);clear hK K ZM hcv;refine ZW (.string (s9++strOfNums [48+(d:Int)])) Z9 (fun w9 Z0=>by (clear Z0;go_simp;try (first | with_reducible rfl | omega))) ?_;refine ZW (.string (s9++strOfNums [48+(d:Int)])) Z9 (fun w9 Z0=>by (clear Z0;go_simp;try (first | with_reducible rfl | assumption))) ?_;refine ZP (by kernel_rfl) ?_ _
   try simp only [Act.put,Y8,Y7,Y6]
   go_wp2;go_ret;refine ⟨_,rfl,?_,B0.out⟩;rw [HE.out]
 have bN:ZX m0 (m0.alloc (.cells #[.int .u8 (48+(d:Int))] 5)):=ZJ.alloc ZT _;have G:=Ev m0 (48+d);rw [show ((48+d:Nat):Int)=48+(d:Int) by omega] at G;have R0:=Z3 G;clear G
 replace B0:=Z3 (YV B0.out bN)
 go_simp;refine hK.out _ _ trivial (fun ZM=>?_);clear hK K ZM bN;generalize m0.alloc _=m4 at *;generalize m0.heap.size=bb at *;refine UY 2 8 rfl rfl (fun K hK=>?_) (fun K hK=>?_)
 · go_simp
   refine (HC.out m4).mono ?_;rintro e m5 ⟨s9,rfl,LK,bN⟩;have HE:=Z3 LK
   replace LK:s9.size≤1000:=by rw [LK];exact hz
   replace B0:=Z3 (YV B0.out bN)
   replace R0:=Z3 (R0.out.below bN)
   refine hK.out _ _ trivial (fun ZM=>?_);clear hK K ZM bN;refine ZU 8 rfl (fun K hK=>?_);have hcv:=WS R0.out;go_simp;refine hK.out _ _ trivial (fun ZM=>?_);clear hK K ZM hcv;refine ZW (.string (s9++strOfNums [48+(d:Int)])) Z9 (fun w9 Z0=>by (clear Z0;go_simp;try (first | with_reducible rfl | omega))) ?_;refine ZW (.string (s9++strOfNums [48+(d:Int)])) Z9 (fun w9 Z0=>by (clear Z0;go_simp;try (first | with_reducible rfl | assumption))) ?_;refine ZP (by kernel_rfl) ?_ _
   try simp only [Act.put,Y8,Y7,Y6]
   go_wp2;go_ret;refine ⟨_,rfl,?_,B0.out⟩;rw [HE.out]
 have hcv:=WS R0.out;go_simp;refine hK.out _ _ trivial (fun ZM=>?_);clear hK K ZM hcv;refine ZU 2 rfl (fun K hK=>?_);go_simp;refine (HC.out m4).mono ?_;rintro e m8 ⟨s9,rfl,LK,bN⟩;have HE:=Z3 LK
 replace LK:s9.size≤1000:=by rw [LK];exact hz
 replace B0:=Z3 (YV B0.out bN)
 refine hK.out _ _ trivial (fun ZM=>?_);clear hK K ZM bN;refine ZW (.string (s9++strOfNums [48+(d:Int)])) Z9 (fun w9 Z0=>by (clear Z0;go_simp;try (first | with_reducible rfl | omega))) ?_;refine ZW (.string (s9++strOfNums [48+(d:Int)])) Z9 (fun w9 Z0=>by (clear Z0;go_simp;try (first | with_reducible rfl | assumption))) ?_;refine ZP (by kernel_rfl) ?_ _
 try simp only [Act.put,Y8,Y7,Y6]
 go_wp2;go_ret;refine ⟨_,rfl,?_,B0.out⟩;rw [HE.out]
def Eu (n:Nat):ByteArray:=strOfNums (UU n)
theorem mM:∀n:Nat,n<10→strOfNums [48+(n:Int)]=Eu n:=by decide +kernel
theorem mL:∀n:Nat,n<200→10≤n→Eu (n / 10)++strOfNums [48+((n % 10:Nat):Int)]=Eu n:=by decide +kernel
theorem vD:∀n:Nat,n<200→(Eu n).size≤3:=by decide +kernel
theorem AE (w:World) (n:Nat) (hn:n<200) :
    Calls Tryz.prog 15 #[.int .i64 (n:Int)] w fun e w'=>∃s:ByteArray,e=.returned (.string s)∧s=Eu n∧ZX w w':=by
 induction n using Nat.strongRecOn generalizing w with
 | ind n ih =>
  by_cases h:n<10
  · rw [←mM n h];exact vG w n h
  have:=vF w (n / 10) (n % 10) (Eu (n / 10)) (by omega) (by omega) (by omega) (by have:=vD (n / 10) (by omega);omega) (fun W=>ih (n / 10) (by omega) W (by omega));rw [show 10*((n / 10:Nat):Int)+((n % 10:Nat):Int)=(n:Int) by omega,mL n hn (by omega)] at this;exact this
theorem SP (a b:List Int):strOfNums (a++b)=strOfNums a++strOfNums b:=by
 apply Lo;rw [Lp];unfold strOfNums
 simp
theorem Et (s:ByteArray) (z:Nat):tl s [z]=s++(⟨#[32]⟩++Eu z):=by
 unfold tl Yx;rw [FR,uo,TX,SP,show XS s=bI s from rfl,GF,show ((32:Int) :: UU z)=[32]++UU z from rfl,SP]
 rfl
theorem PV (w:World) (s:ByteArray) (b off cap:Nat) (z:Nat) (hc:w.cell? ⟨b,off,none⟩=some (.int .i64 (z:Int))) (hz:z<200) (hs:s.size≤1000) :
    Calls Tryz.prog 8 #[.string s,.slice (some ⟨b,off,none⟩) 1 cap] w (YI w (.string (tl s [z]))):=by
 have HD:=Z3 (AE w z hz);have hz3:=vD z hz;have HE:=Z3 (Et s z);have hb:=YJ w _ hc;generalize tl s [z]=t at *;generalize Eu z=d at *
 go_enter Tryz.func8,Tryz.ntmps8
 go_wp2_with fail
 go_loopw [0,5] (fun v0 v5 wr=>(v0=.string s∧v5=.int .i64 0∧wr=w)∨(v0=.string t∧v5=.int .i64 1∧Hid (ZX w wr))) (fun _ v _=>(1 - intOf v).toNat)
 case atStart=>exact .inl ⟨rfl,rfl,rfl⟩
 case round =>
  rcases hrel with ⟨rfl,rfl,rfl⟩ | ⟨rfl,rfl,HB⟩
  · go_wp2_with fail
    refine HD.out.mono ?_;rintro e w2 ⟨s9,rfl,LK,b2⟩;have B2:=Z3 b2;have h9:s9.size≤3:=by rw [LK];exact hz3
    have HT:Hid (s++(⟨#[32]⟩++s9)=t):=by show _=_;rw [LK];exact HE.out.symm
    have h32:(⟨#[32]⟩++s9:ByteArray).size=1+s9.size:=by rw [ur];rfl
    clear b2 LK hc
    go_wp2_with fail
    exact ⟨.inr ⟨by rw [HT.out],by go_num,B2⟩,by simp [intOf]⟩
  go_wp2;go_ret;exact ⟨rfl,HB.out⟩
def jv (w:World) (v:Value) (ls:List ByteArray):Prop :=
 ∃ao cap,v=.slice ao ls.length cap∧ls.length≤cap∧cap≤maxLen∧(ls=[]∨∃b off,ao=some ⟨b,off,none⟩∧b<w.heap.size∧∀i,i<ls.length→w.cell? ⟨b,off+i,none⟩=some (.string (ls.getD i ⟨#[]⟩)))
def Zv (ls:List ByteArray):List Int:=ls.flatMap fun s=>XS s++[10]
theorem Es (w:World) (v:Value) (ls:List ByteArray) (h:jv w v ls) (hn:ls.length≤1000000) (hl:(Zv ls).length≤1000000) :
    Calls Tryz.prog 7 #[v] w fun e w'=>∃v',e=.returned v'∧Xp w' w.heap.size v' (Zv ls)∧ZX w w':=by
 obtain ⟨ao,cp,rfl,h1,h2,h3⟩:=h;have HR:=Z3 h3;have HL:=Z3 hl;have O0:Hid (Xp (w.alloc (.cells #[] 5)) w.heap.size (.slice (some ⟨w.heap.size,0,none⟩) 0 0) []):=Ig (w:=w) (base:=w.heap.size) (cap:=0) (xs:=[]) (T:=#[]) ZT ZT (Zu _) rfl;have B0:Hid (ZX w (w.alloc (.cells #[] 5))):=ZJ.alloc ZT _;clear h3 hl
 go_enter Tryz.func7,Tryz.ntmps7
 go_wp2_with fail
 generalize w.alloc _=w1 at *
 go_loopw [3,4] (fun v3 v4 wr=>∃i:Nat,v4=.int .i64 (i:Int)∧i≤ls.length∧Hid (Xp wr w.heap.size v3 (Zv (ls.take i)))∧Hid (ZX w wr)) (fun _ v _=>((ls.length:Int) - intOf v).toNat)
 case atStart=>exact ⟨0,rfl,Zu _,O0,B0⟩
 case round =>
  obtain ⟨i,rfl,hi,OH,BH⟩:=hrel
  by_cases hc:i<ls.length
  · obtain ⟨b,off,rfl,hb,hcl⟩:=HR.out.resolve_left (fun e=>by rw [e] at hc;simp at hc)
    have hci:=(BH.out.cell (p:=⟨b,off+i,none⟩) hb).trans (hcl i hc);have hst:Zv (ls.take (i+1))=(Zv (ls.take i)++XS (ls.getD i ⟨#[]⟩))++[10]:=by
     unfold Zv;rw [TL hc,MY]
     simp [List.getD,hc]
    have hle:(Zv (ls.take (i+1))).length≤1000000:=by
     refine ZF ?_ HL.out;unfold Zv
     conv=>rhs;rw [←VC (i+1) ls,MY,ZA]
     omega
    rw [hst,ZA,ZA,YP] at hle;have HST:=Z3 hst;have sB:=BH.out.size;clear hcl hst;generalize ls.getD i ⟨#[]⟩=t at *;have lW:=Z3 hle;clear hle
    go_wp2_with (at_builtin;go_must (refine VD rfl _ _ rfl w.heap.size _ (Zv (ls.take i)) t rfl rfl OH.out sB (by have:=lW.out;omega) ?_))
    intro v2 w2 o2 g2;have O2:Hid (Xp (w2.alloc (.cells #[.int .u8 10] 5)) w.heap.size v2 (Zv (ls.take i)++XS t)):=o2.below ((Below.refl w2.heap.size w2).alloc ZT _);have b2:=BH.out.grown g2 sB OH.out.lt;have s2:=b2.size;have B2:Hid (ZX w (w2.alloc (.cells #[.int .u8 10] 5))):=b2.alloc s2 _;clear o2 g2 OH BH sB b2
    go_wp2_with (at_builtin;go_must (refine TZ rfl _ _ rfl w.heap.size _ (Zv (ls.take i)++XS t) [10] ⟨w2.heap.size,0,none⟩ 1 1 rfl rfl rfl O2.out (by simp;omega) (by have:=lW.out;rw [ZA,YP];simp at this ⊢;omega) (Vx _ _ _) ?_))
    intro v3 w3 o3 g3;have O3:=Z3 o3;have B3:=Z3 (B2.out.grown g3 (by simp;omega) O2.out.lt);clear o3 g3 O2 B2
    go_wp2_with fail
    refine ⟨⟨i+1,by go_num,by omega,?_,B3⟩,by simp [intOf];omega⟩;show Xp _ _ _ _;rw [HST.out,YM];exact O3.out
  have hie:i=ls.length:=by omega
  subst hie;rw [Rw] at OH;go_wp2;go_ret;exact ⟨_,rfl,OH.out,BH.out⟩
def qm (ls:List ByteArray):ByteArray:=Xv (ls.flatMap fun s=>s.data.toList++[10])
theorem vC (ls:List ByteArray):bI (qm ls)=Zv ls:=by
 unfold bI qm Zv;rw [UJ,List.map_flatMap]
 congr 1
 funext s
 rw [Wn]
 rfl
theorem CV:∀(ls:List ByteArray),(∀s ∈ ls,(10:UInt8) ∉ s.data.toList)→(VL 10 [] (qm ls).data.toList).map Xv=ls++[⟨#[]⟩]
 | [],_=>rfl
 | s :: ls,h=>by
  have e:(qm (s :: ls)).data.toList=s.data.toList++10 :: (qm ls).data.toList:=by
   unfold qm;rw [UJ,UJ,FR,YM]
   rfl
  rw [e,Vm _ _ _ (h s (Wk ..)),TM,CV ls (fun t ht=>h t (Yl _ ht)),Yw,QF]
  rfl
theorem Vs.Fs {L:List ByteArray} (h:Vs w lo v L):jv w v L:=by
 have h':=h
 rcases h.2 with ⟨rfl,h9⟩ | ⟨g,cap,cur,rfl,h1,h2,h3,h4,h5,h6⟩
 · refine ⟨none,0,by rw [h9],by omega,Zu _,.inl (TN h9)⟩
 refine ⟨_,cap,rfl,h3,h4,.inr ⟨g,0,rfl,(Yh.1 h2).1,fun i hi=>?_⟩⟩;rw [YK,Jo h' i (by omega),Qs,Xc hi,List.getD,Xc hi]
 rfl
theorem Gy (w:World) (v:Value) (b:ByteArray) (ls:List ByteArray) (h:Rd .u8 w v (bI b)) (h0:0<b.size) (hs:b.size≤1048576) (hls:(VL 10 [] b.data.toList).map Xv=ls++[⟨#[]⟩]) :
    Calls Tryz.prog 5 #[v] w fun e w'=>∃v',e=.returned v'∧Vs w' w.heap.size v' ls∧ZX w w':=by
 obtain ⟨B,o,cap,rfl,hBl⟩:∃B o cap,v=.slice (some ⟨B,o,none⟩) b.size cap∧B<w.heap.size:=by
  obtain ⟨ao,cp,rfl,h1,h2,h3⟩:=h
  rcases h3 with h3 | ⟨b',o',rfl,hl,-⟩
  · have:=U6 b;rw [h3] at this;simp at this;omega
  exact ⟨b',o',cp,by rw [U6],hl⟩
 obtain ⟨iq,rG,hq0,rF,rE⟩:=Yq Tryz.wg;have HR:=Z3 h;have nQ:=Z3 hls;obtain ⟨hcc,hcm⟩:b.size≤cap∧cap≤maxLen:=by
  obtain ⟨ao,cp,e,h1,h2,-⟩:=h
  injection e with e1 e2 e3
  subst e3;rw [U6] at h1;exact ⟨h1,h2⟩
 have HC:Hid (∀W,ZX w W→∀i (hi:i<b.size),W.cell? ⟨B,o+i,none⟩=some (.int .u8 ((b[i]'hi).toNat:Int))):=fun W hb i hi=>by
  obtain ⟨ao,cp,e,h1,h2,h3⟩:=HR.out.below hb
  rcases h3 with h3 | ⟨b',o',e',hl,hc⟩
  · have:=U6 b;rw [h3] at this;simp at this;omega
  injection e with e1
  rw [e'] at e1
  injection e1 with e1
  injection e1 with e1 e2
  subst e1 e2;rw [hc i (by rw [U6];exact hi),nh b i hi]
 unfold maxLen at hcm;clear h hls
 go_enter Tryz.func5,Tryz.ntmps5
 go_wp2_with fail
 have B0:Hid (ZX w (w.alloc (.cells #[] 9))):=ZJ.alloc ZT _;have O0:Hid (Vs (w.alloc (.cells #[] 9)) w.heap.size (.slice (some ⟨w.heap.size,0,none⟩) 0 0) []):=Vs.nil w w.heap.size ZT;generalize w.alloc _=w1 at *
 go_loopw [3,4,5] (fun v5 v6 v7 wr=>∃(i fr:Nat) (D:List ByteArray) (g co:Nat),v5=.slice (some ⟨g,0,none⟩) D.length co∧v6=.int .i64 (fr:Int)∧v7=.int .i64 (i:Int)∧fr≤i∧i≤b.size∧D.length≤i∧Hid (Vs wr w.heap.size (.slice (some ⟨g,0,none⟩) D.length co) D)∧Hid (ZX w wr)∧Hid ((VL 10 [] b.data.toList).map Xv=D++(VL 10 ((b.data.toList.drop fr).take (i - fr)) (b.data.toList.drop i)).map Xv)) (fun _ _ i _=>b.size - (intOf i).toNat)
 case atStart=>exact ⟨0,0,[],w.heap.size,0,rfl,rfl,rfl,ZT,Zu _,ZT,O0,B0,by show _=_;simp⟩
 case round =>
  obtain ⟨i,fr,D,g,co,rfl,rfl,rfl,hfi,hi,Z5,HO,HB,HE⟩:=hrel;clear O0 B0;have sB:=HB.out.size
  by_cases hlt:i<b.size
  · have Vp:(i:Int)<(b.size:Int):=by omega
    have hc:=HC.out wr HB.out i hlt
    by_cases F:b[i]=10
    · have hq:(((b[i].toNat:Nat):Int) == 10)=true:=by rw [F];rfl
      have hE2:(VL 10 [] b.data.toList).map Xv=(D++[Xv ((b.data.toList.drop fr).take (i - fr))])++(VL 10 ((b.data.toList.drop (i+1)).take (i+1 - (i+1))) (b.data.toList.drop (i+1))).map Xv:=by
       rw [HE.out,drop_at b i hlt,F,QH]
       simp
      have HE2:=Z3 hE2;have hcv:(convert 22 9 (.slice (some ⟨B,o+fr,none⟩) (i - fr) (cap - fr))).run Tryz.prog wr=.ok (.string (Xv ((b.data.toList.drop fr).take (i - fr)))) wr:=by
       rw [←wh];exact WS (ng (HR.out.below HB.out) fr (i - fr) (by omega))
      have hfc:fr<cap:=by omega
      have Z6:(fr:Int)≤(i:Int):=by omega
      clear hE2 HE F;generalize Xv ((b.data.toList.drop fr).take (i - fr))=Aq at *;have OR:Hid (wr.ownsRow w.heap.size 9 1 (.slice (some ⟨g,0,none⟩) D.length co) D.length (D.map Value.string)):=HO.out
      go_wp2_with (at_builtin;go_must (refine wpList_append_lies _ rfl _ _ 26 rfl w.heap.size 9 iq (.string ByteArray.empty) 1 16 Tryz.underlying26 rG hq0 rF rE rfl (by decide) _ _ _ rfl (OR.out.alloc _) ⟨wr.heap.size,0,none⟩ 1 1 [.string Aq] rfl rfl (Vx _ _ _) (by intro u hu;simp at hu;subst hu;rfl) (by decide) ?c3 ?c4 ?c5 _ rfl ?_))
      case c3=>unfold maxLen;omega
      case c4=>omega
      case c5=>first | omega | (simp;omega)
      intro g5 k5 w5 Vj hg5 P1 QL;have O5:Hid (Vs w5 w.heap.size (.slice (some ⟨g5,0,none⟩) (D++[Aq]).length k5) (D++[Aq])):=by
       show World.ownsRow _ _ _ _ _ _ _;rw [ZA,Wn];exact Vj
      have B5:Hid (ZX w w5):=(HB.out.alloc sB _).grown hg5 (by simp;omega) (fun q hq=>(ZD OR.out q hq).1);clear Vj hg5 P1 QL OR HO HB hcv hc
      go_wp2_with fail
      exact ⟨⟨i+1,i+1,D++[Aq],g5,k5,by rw [ZA];rfl,by go_num,by go_num,ZT,hlt,by rw [ZA];simp;omega,O5,B5,HE2⟩,by simp [intOf];omega⟩
    have hq:(((b[i].toNat:Nat):Int) == 10)=false:=Mj (fun e=>F (DY (by show b[i].toNat=10;omega)));have hE2:(VL 10 [] b.data.toList).map Xv=D++(VL 10 ((b.data.toList.drop fr).take (i+1 - fr)) (b.data.toList.drop (i+1))).map Xv:=by
     rw [HE.out,drop_at b i hlt,QG F,rJ b fr i hfi hlt]
    have HE2:=Z3 hE2;clear hE2 HE F
    go_wp2_with fail
    exact ⟨⟨i+1,fr,D,g,co,rfl,rfl,by go_num,by omega,hlt,by omega,HO,HB,HE2⟩,by simp [intOf];omega⟩
  have hin:i=b.size:=by omega
  have hE2:D=ls∧fr=b.size:=by
   have hd:b.data.toList.drop b.size=[]:=JB (by rw [WW];exact ZT);have e:=HE.out;rw [hin,hd,QI,nQ.out] at e;have e1:=List.append_inj' e (by simp);refine ⟨e1.1.symm,?_⟩;have e2:(⟨#[]⟩:ByteArray)=Xv ((b.data.toList.drop fr).take (b.size - fr)):=by simpa using e1.2
   have e3:=ZR (fun x:ByteArray=>x.data.toList.length) e2
   simp only [UJ,XU,Zd,WW] at e3
   rw [Wo] at e3;omega
  obtain ⟨rfl,hfe⟩:=hE2;have Vp:¬(i:Int)<(b.size:Int):=by omega
  have nz:¬(fr:Int)<(b.size:Int):=by omega
  clear HE nQ hin hfe;go_wp2;go_ret;exact ⟨_,rfl,HO.out,HB.out⟩
attribute [local go_sem] VA
def VH (ls:List ByteArray) (k:Nat):Nat:=(Zv (ls.take k)).length
theorem vz (ls:List ByteArray):VH ls 0=0:=rfl
theorem Ug (s:ByteArray) (ls:List ByteArray):Zv (s :: ls)=XS s++10 :: Zv ls:=by
 unfold Zv;rw [FR,YM]
 rfl
theorem PU (a b:List ByteArray):Zv (a++b)=Zv a++Zv b:=by unfold Zv;rw [MY]
theorem vy (h:k<ls.length):VH ls (k+1)=VH ls k+((ls.getD k ⟨#[]⟩).size+1):=by
 unfold VH;rw [TL h,PU,ZA,Ug,List.getD,Xc h,ZA,YP]
 rfl
theorem rv (ls:List ByteArray):VH ls ls.length=(Zv ls).length:=by unfold VH;rw [Rw]
theorem PT (h:k<ls.length):(Zv ls).drop (VH ls k)=XS (ls.getD k ⟨#[]⟩)++10 :: Zv (ls.drop (k+1)):=by
 have e:Zv ls=Zv (ls.take k)++Zv (ls.drop k):=by rw [←PU,VC]
 rw [e];unfold VH;rw [List.drop_left,JC h,Ug,List.getD,Xc h]
 rfl
theorem J6 (h:k<ls.length):VH ls k+((ls.getD k ⟨#[]⟩).size+1)≤(Zv ls).length:=by
 have:=ZR List.length (PT h);rw [Zd,ZA,YP,Yr] at this;omega
theorem qk:∀(s:List UInt8) (r:List UInt8),(10:UInt8) ∉ s→Lib.indexByte (s++10 :: r) 10=(s.length:Int)
 | [],r,_=>rfl
 | b :: s,r,h=>by
  have h1:(b == 10)=false:=Mj (fun e=>h (by rw [e];exact Wk ..));have ih:=qk s r (fun e=>h (Yl _ e));rw [Vq];unfold Lib.indexByte;rw [h1,ih];have h2:(((s.length:Nat):Int) == -1)=false:=Mj (by omega);rw [h2]
  simp
theorem Gx (s:ByteArray):Lib.bytesOf (XS s)=s.data.toList:=by
 unfold Lib.bytesOf XS;rw [uj]
 conv=>rhs;rw [←List.map_id s.data.toList]
 refine uk fun x _=>?_
 simp
theorem vw (h:k<ls.length) (hn:∀s ∈ ls,(10:UInt8) ∉ s.data.toList):Lib.indexByte (Lib.bytesOf ((Zv ls).drop (VH ls k))) 10=((ls.getD k ⟨#[]⟩).size:Int):=by
 have h1:(10:UInt8) ∉ (ls.getD k ⟨#[]⟩).data.toList:=by
  rw [List.getD,Xc h];exact hn _ (UO h)
 rw [PT h,show Lib.bytesOf (XS (ls.getD k ⟨#[]⟩)++10 :: Zv (ls.drop (k+1)))=(ls.getD k ⟨#[]⟩).data.toList++10 :: Lib.bytesOf (Zv (ls.drop (k+1))) by
  rw [←Gx];unfold Lib.bytesOf;rw [Wn];rfl]
 rw [qk _ _ h1,WW]
def Gv (B:Nat) (W:World):Nat:=match W.cell? ⟨B,0,none⟩ with
 | some (.slice _ n _)=>n
 | _=>0
theorem Gu {B:Nat} {a:Option Addr} {c:Nat} (h:Boxed W B t (.slice a n c)):Gv B W=n:=by unfold Gv;rw [h.cell]
theorem vu (n:Nat) (ao:Option Addr) (m cap:Nat) (w:World) :
    CallsIn Fence.wide n Tryz.prog 11 #[.slice ao m cap] w fun e w'=>e=.returned (.func (.func 21) #[] #[.pointer (some ⟨w.heap.size,0,none⟩)])∧w'=w.alloc (.cells #[.slice ao m cap] 22):=by
 refine SC Tryz.func11 rfl trivial ?_ rfl
 simp only [Tryz.ntmps11,Zm,Yr,Wo,Nat.reduceAdd,Nat.reduceSub,JQ,JO,Wj,Ur,Yw,Vq]
 gi_wp2;go_ret;exact ⟨rfl,rfl⟩
theorem Er (nn:Nat) (hn1:1≤nn) (l U B o N cap:Nat) (ls:List ByteArray) (hno:∀s ∈ ls,(10:UInt8) ∉ s.data.toList) (hN:(Zv ls).length=N) (uI:N≤1048576) (hc1:N≤cap) (hc2:cap≤maxLen)
    (St:Nat→World→Prop) (Bk:World→Prop)
    (iS:∀k X Y,ZX X Y→St k X→St k Y) (iR:∀X Y,ZX X Y→Bk X→Bk Y)
    (hSW:∀k X v,St k X→St k (X.setCell ⟨U,0,none⟩ v)) (hBW:∀X v,Bk X→Bk (X.setCell ⟨U,0,none⟩ v))
    (hSR:∀k W,St k W→∀i,i<N→W.cell? ⟨B,o+i,none⟩=some (.int .u8 ((Zv ls).getD i 0)))
    (hY:∀k vs W,St k W→Bk W→(k<ls.length∧vs=#[.slice (some ⟨B,o+VH ls k,none⟩) ((ls.getD k ⟨#[]⟩).size+1) ((ls.getD k ⟨#[]⟩).size+1)])→YieldAt Fence.wide (nn - 1) Tryz.prog l vs W fun e W'=>e=.returned (.bool true)∧St (k+1) W'∧Bk W'∧W'.heap[U]?=W.heap[U]?)
    (W:World) (h0:St 0 W) (h1:Bk W) (hs:Boxed W U 22 (.slice (some ⟨B,o,none⟩) N cap)) (hls:0<ls.length) :
    CallsIn Fence.wide nn Tryz.prog 21 #[.func (.yield l) #[] #[],.pointer (some ⟨U,0,none⟩)] W fun e W'=>(∃v,e=.returned v)∧St ls.length W'∧Bk W':=by
 have HY:=Z3 hY;have l8:=Z3 iS;have eR:=Z3 iR;have ij:=Z3 hSW;have kY:=Z3 hBW;have iQ:=Z3 hSR;have H0:=Z3 h0;have H1:=Z3 h1;have oT:Hid (Boxed W U 22 (.slice (some ⟨B,o+VH ls 0,none⟩) (N - VH ls 0) (cap - VH ls 0))):=by
  show Boxed _ _ _ _;rw [vz];exact hs
 have WG:=Z3 hno;have HN:=Z3 hN;unfold maxLen at hc2;clear hY iS iR hSW hBW hSR h0 h1 hs hno hN;refine SC Tryz.func21 rfl trivial ?_ rfl
 simp only [Tryz.ntmps21,Zm,Yr,Wo,Nat.reduceAdd,Nat.reduceSub,JQ,JO,Wj,Ur,Yw,Vq]
 gi_wp2
 gi_loopw [] (fun wr=>∃(k:Nat) (vs:Value),Hid (St k wr)∧Hid (Bk wr)∧Hid (Boxed wr U 22 vs)∧Hid ((k<ls.length∧vs=.slice (some ⟨B,o+VH ls k,none⟩) (N - VH ls k) (cap - VH ls k))∨(k=ls.length∧∃a c,vs=.slice a 0 c))) (fun wr=>Gv U wr)
 case atStart=>exact ⟨0,_,H0,H1,oT,.inl ⟨hls,rfl⟩⟩
 case round =>
  obtain ⟨k,vs,HS,HB,HX,HC⟩:=hrel
  rcases HC.out with ⟨hk,rfl⟩ | ⟨hk,a,c,rfl⟩
  · have hle:=J6 hk
    have hidx:=vw hk WG.out;have hxl:((Zv ls).drop (VH ls k)).length=N - VH ls k:=by rw [Zd,HN.out]
    have hps:=vy hk;rw [HN.out] at hle;have HI:=Z3 (Tryz.bytes_IndexByte B (o+VH ls k) (N - VH ls k) (cap - VH ls k) ((Zv ls).drop (VH ls k)) 10 wr hxl (fun i hi=>by
     have:=iQ.out k wr HS.out (VH ls k+i) (by omega);rw [←Ue] at this;rw [this]
     simp [List.getD,Qt]))
    rw [show ((10:Int).toNat.toUInt8)=(10:UInt8) from rfl,hidx] at HI;have Z':Hid (∀(W3:World) (v:Value),St (k+1) W3→Bk W3→Boxed W3 U 22 v→(v=.slice (if cap - VH ls k=(ls.getD k ⟨#[]⟩).size+1 then some ⟨B,o+VH ls k,none⟩ else some ⟨B,o+VH ls k+((ls.getD k ⟨#[]⟩).size+1),none⟩) (N - VH ls k - ((ls.getD k ⟨#[]⟩).size+1)) (cap - VH ls k - ((ls.getD k ⟨#[]⟩).size+1))) →
        (∃(k:Nat) (vs:Value),Hid (St k W3)∧Hid (Bk W3)∧Hid (Boxed W3 U 22 vs)∧Hid ((k<ls.length∧vs=.slice (some ⟨B,o+VH ls k,none⟩) (N - VH ls k) (cap - VH ls k))∨(k=ls.length∧∃a c,vs=.slice a 0 c)))∧Gv U W3<N - VH ls k):=by
     intro W3 v a1 a2 a3 a4;refine ⟨⟨k+1,v,a1,a2,a3,?_⟩,?_⟩
     · by_cases h9:k+1<ls.length
       · have h8:=J6 h9
         rw [HN.out,hps] at h8;refine .inl ⟨h9,?_⟩;rw [a4,Z1 (by omega),hps]
         simp only [Ue,Nat.sub_sub]
       have h8:VH ls (k+1)=N:=by rw [show k+1=ls.length by omega,rv,HN.out]
       rw [hps] at h8;refine .inr ⟨by omega,?_⟩;rw [a4,show N - VH ls k - ((ls.getD k ⟨#[]⟩).size+1)=0 by omega];exact ⟨_,_,rfl⟩
     subst a4;rw [Gu a3];omega
    have HM:Hid (Gv U wr=N - VH ls k):=Gu HX.out;have Z8:Hid (∀W2,St k W2→Bk W2→YieldAt Fence.wide (nn - 1) Tryz.prog l #[.slice (some ⟨B,o+VH ls k,none⟩) ((ls.getD k ⟨#[]⟩).size+1) ((ls.getD k ⟨#[]⟩).size+1)] W2 fun e W'=>e=.returned (.bool true)∧St (k+1) W'∧Bk W'∧W'.heap[U]?=W2.heap[U]?):=fun W2 a b=>HY.out k _ W2 a b ⟨hk,rfl⟩
    clear hidx hxl hps;have hr1:(ls.getD k ⟨#[]⟩).size+1≤N - VH ls k:=by omega
    have hr2:N - VH ls k≤cap - VH ls k:=by omega
    have hr3:cap - VH ls k≤9223372036854775807:=by omega
    have hr4:N - VH ls k≤1048576:=by omega
    clear hle HC;generalize (ls.getD k ⟨#[]⟩).size=j at *;generalize o+VH ls k=O at *;generalize N - VH ls k=r at *;generalize cap - VH ls k=c at *;have cS:=HX.out.cell;have hr0:(0:Int)<(r:Int):=by omega
    have hj0:¬(j:Int)<0:=by omega
    have hj1:(j:Int)+1≤(c:Int):=by omega
    have hj2:(j:Int)+1≤(r:Int):=by omega
    gi_wp2_with fail
    refine ⟨trivial,?_⟩;refine (XM.2 HI.out).mono ?_;rintro e w2 ⟨rfl,rfl⟩;clear HI
    gi_wp2_with fail
    rename_i KK QQ Kv;have Z4:IntKind.i64.wrap ((j:Int)+1)=(j:Int)+1:=by rw [XK];omega
    have Z2:0≤(j:Int)+1:=by omega
    have B2:ZX w2 w2.drew:=below_drewN' w2 1;have HS2:=Z3 (l8.out k _ _ B2 HS.out);have HB2:=Z3 (eR.out _ _ B2 HB.out);have AM:Hid (Boxed w2.drew U 22 (.slice (some ⟨B,O,none⟩) r c)):=HX.out;have REST:Hid (∀V2:Value,V2=.slice (if c=j+1 then some ⟨B,O,none⟩ else some ⟨B,O+(j+1),none⟩) (r - (j+1)) (c - (j+1))→∀u12 u13 u14 u16 u17 u18,KK { tmps:=#[.func (.yield l) #[] #[],.pointer (some ⟨U,0,none⟩),undef,.slice (some ⟨B,O,none⟩) (j+1) c,.int .i64 (j:Int),.slice (some ⟨B,O,none⟩) r c,.int .i64 (r:Int),.bool true,.slice (some ⟨B,O,none⟩) r c,.int .i64 (j:Int),.int .i64 (j:Int),.bool true,u12,u13,u14,.slice (some ⟨B,O,none⟩) (j+1) c,u16,u17,u18,V2,u20,u21,u22,u23,u24,u25,u26,u27,u28,u29],defers:=[] } (w2.drew.setCell ⟨U,0,none⟩ V2)):=by
     intro V2 hV2 u12 u13 u14 u16 u17 u18;have HV:=Z3 hV2;have Cp:=ij.out k _ V2 HS2.out;have hB3:=kY.out _ V2 HB2.out;have DF:=Z3 (AM.out.set V2);have qS:=Z8.out _ Cp hB3;clear HS HB HX HS2 HB2 AM B2 Cp hB3 cS;generalize w2.drew.setCell _ _=w3 at *;refine Kv _ _ ?_;clear Kv hV2;obtain ⟨fn,tmps,assign,body,hy,hR⟩:=qS;gi_wp2;refine hR.mono ?_;rintro e W3 ⟨rfl,Cp,hB3,hK3⟩;have NX:=Z'.out W3 V2 Cp hB3 (hK3.trans DF.out) HV.out;have Tq:=Z3 NX;clear Cp hB3 hy hR hK3 NX;gi_wp2
     go_roundw
     case rel=>exact Tq.out.1
     case measure=>rw [HM.out];exact Tq.out.2
    clear HS HB HX HS2 HB2 Z8 Z' HM;have cS:=AM.out.cell;refine wpIn_wide.2 ?_;refine ZH (S:=fun _=>True) (by kernel_rfl) trivial (fun Z9=>?_);generalize w2.drew=w3 at *;refine TO (i:=1) (oi:=⟨some 13,_,_,_,_,_⟩) (v:=?v1) rfl (by kernel_rfl) (fun _ _ _ h=>h) (Or.inl ⟨by rfl,?hy1⟩) trivial ?ju
    case hy1 =>
     intro w9 Z0;clear Z0;go_simp
     try with_reducible rfl
    refine TO (i:=2) (oi:=⟨some 14,_,_,_,_,_⟩) (v:=?v2) rfl (by kernel_rfl) (fun _ _ _ h=>h) (Or.inl ⟨by rfl,?hy2⟩) trivial ?qj
    case hy2 =>
     intro w9 Z0;clear Z0;go_simp
     try with_reducible rfl
    refine TO (i:=5) (oi:=⟨some 17,_,_,_,_,_⟩) (v:=?v3) rfl (by kernel_rfl) (fun _ _ _ h=>h) (Or.inl ⟨by rfl,?hy3⟩) trivial ?jt
    case hy3 =>
     intro w9 Z0;clear Z0;go_simp
     try with_reducible rfl
    refine TO (i:=6) (oi:=⟨some 18,_,_,_,_,_⟩) (v:=?v4) rfl (by kernel_rfl) (fun _ _ _ h=>h) (Or.inl ⟨by rfl,?hy4⟩) trivial ?js
    case hy4 =>
     intro w9 Z0;clear Z0;go_simp
     try with_reducible rfl
    refine UY 0 4 rfl rfl (fun K hK=>?_) (fun K hK=>?_)
    · go_simp
      refine hK.out _ _ trivial (fun ZM=>?_);clear hK K ZM;refine TO (i:=3) (oi:=⟨some 15,_,_,_,_,_⟩) (v:=?v5) rfl (by kernel_rfl) (fun _ _ _ h=>h) (Or.inl ⟨by rfl,?FF⟩) trivial ?qi
      case FF =>
       intro w9 Z0;clear Z0;go_simp
       try with_reducible rfl
      refine TO (i:=8) (oi:=⟨some 3,_,_,_,_,_⟩) (v:=?v6) rfl (by kernel_rfl) (fun _ _ _ h=>h) (Or.inl ⟨by rfl,?tX⟩) trivial ?jr
      case tX =>
       intro w9 Z0;clear Z0;go_simp
       try with_reducible rfl
      refine ZU 4 rfl (fun K hK=>?_);go_simp;refine hK.out _ _ trivial (fun ZM=>?_);clear hK K ZM;refine TO (i:=7) (oi:=⟨some 19,_,_,_,_,_⟩) (v:=?v7) rfl (by kernel_rfl) (fun _ _ _ h=>h) (Or.inl ⟨by rfl,?tW⟩) trivial ?jq
      case tW =>
       intro w9 Z0;clear Z0;go_simp
       try with_reducible rfl
      refine ZU 9 rfl (fun K hK=>?_);have f0:=AM.out.frozen;go_simp;clear f0;refine hK.out _ _ trivial (fun ZM=>?_);clear hK K ZM;exact ZP (by kernel_rfl) (REST.out _ rfl _ _ _ _ _ _) _
    go_simp;refine hK.out _ _ trivial (fun ZM=>?_);clear hK K ZM;refine TO (i:=7) (oi:=⟨some 19,_,_,_,_,_⟩) (v:=?v8) rfl (by kernel_rfl) (fun _ _ _ h=>h) (Or.inl ⟨by rfl,?s8⟩) trivial ?jp
    case s8 =>
     intro w9 Z0;clear Z0;go_simp
     try with_reducible rfl
    refine ZU 0 rfl (fun K hK=>?_);go_simp;refine hK.out _ _ trivial (fun ZM=>?_);clear hK K ZM;refine TO (i:=3) (oi:=⟨some 15,_,_,_,_,_⟩) (v:=?v9) rfl (by kernel_rfl) (fun _ _ _ h=>h) (Or.inl ⟨by rfl,?ov⟩) trivial ?jo
    case ov =>
     intro w9 Z0;clear Z0;go_simp
     try with_reducible rfl
    refine TO (i:=8) (oi:=⟨some 3,_,_,_,_,_⟩) (v:=?v10) rfl (by kernel_rfl) (fun _ _ _ h=>h) (Or.inl ⟨by rfl,?Fg⟩) trivial ?mJ
    case Fg =>
     intro w9 Z0;clear Z0;go_simp
     try with_reducible rfl
    refine ZU 9 rfl (fun K hK=>?_);have f0:=AM.out.frozen;go_simp;clear f0;refine hK.out _ _ trivial (fun ZM=>?_);clear hK K ZM;exact ZP (by kernel_rfl) (REST.out _ rfl _ _ _ _ _ _) _
  subst hk;have cS:=HX.out.cell;gi_wp2;refine bodyPost_end (Rs rfl _ _ _) rfl ?_;exact ⟨⟨_,rfl⟩,HS.out,HB.out⟩
theorem mH (s:ByteArray) (y z:Nat):tl s [y,z]=tl s [y]++(⟨#[32]⟩++Eu z):=by
 unfold tl Yx
 simp only [FR,uo,TX]
 rw [←YM,SP,show ((32:Int) :: UU z)=[32]++UU z from rfl,SP [32]]
 rfl
theorem mG:∀z,z<200→(1≤(Eu z).size∧(Eu z).size≤3)∧(10:UInt8) ∉ (Eu z).data.toList:=by decide +kernel
def Na (lo hi:Nat) (b:ByteArray):Prop:=lo≤b.size∧b.size≤hi∧(10:UInt8) ∉ b.data.toList
theorem Na.say {b:ByteArray} (h:Na lo hi b) (hz:z<200):Na (lo+2) (hi+4) (b++(⟨#[32]⟩++Eu z)):=by
 obtain ⟨⟨d1,d2⟩,d3⟩:=mG z hz;have e:(⟨#[32]⟩++Eu z:ByteArray).size=1+(Eu z).size:=by rw [ur];rfl
 refine ⟨by rw [ur,e];have:=h.1;omega,by rw [ur,e];have:=h.2.1;omega,?_⟩;rw [Lp,Lp,uu,uu];intro hm
 rcases XP.1 hm with hm | hm
 · exact h.2.2 hm
 rcases XP.1 hm with hm | hm
 · exact absurd hm (by decide)
 exact d3 hm
theorem Na.mono {lo' hi':Nat} {b:ByteArray} (h:Na lo hi b) (h1:lo'≤lo) (h2:hi≤hi'):Na lo' hi' b:=⟨ZF h1 h.1,ZF h.2.1 h2,h.2.2⟩
theorem U2 (h:Na 5 8 s) (hz:z<200):Na 5 20 (tl s [z]):=by rw [Et];exact (h.say hz).mono (by omega) (by omega)
theorem Eq (h:Na 5 8 s) {y:Nat} (hy:y<200) (hz:z<200):Na 5 20 (tl s [y,z]):=by rw [mH,Et];exact ((h.say hy).say hz).mono (by omega) (by omega)
theorem vh:Na 5 8 wQ:=by unfold Na;decide
theorem CU:Na 5 8 wE:=by unfold Na;decide
theorem vg:Na 5 8 wF:=by unfold Na;decide
theorem qh:Na 5 8 wS:=by unfold Na;decide
theorem qg:Na 5 8 wL:=by unfold Na;decide
theorem jn:Na 5 8 wU:=by unfold Na;decide
theorem J1 (S L n k:Nat):Na 5 20 (YA S L n k):=by
 have ht:YC L n≤110:=Mq _ _;unfold YA
 by_cases h9:Zp n≤L*64
 · rw [ZZ h9]
   by_cases h0:k=0
   · rw [ZZ h0];exact U2 vh (by omega)
   rw [Z1 h0]
   by_cases h1:k=1
   · rw [ZZ h1];exact Eq vg (by omega) (by omega)
   rw [Z1 h1]
   by_cases h2:k<112
   · rw [ZZ h2]
     by_cases h3:k - 2<Ym L n
     · rw [ZZ h3];exact U2 vh (by omega)
     rw [Z1 h3];exact U2 CU (by omega)
   rw [Z1 h2]
   by_cases h3:k=112
   · rw [ZZ h3];exact Eq vg (by omega) (by omega)
   rw [Z1 h3]
   by_cases h4:k=113
   · rw [ZZ h4];exact U2 qh (by omega)
   rw [Z1 h4]
   by_cases h5:k=114
   · rw [ZZ h5]
     by_cases h6:47+n≤S*64
     · rw [ZZ h6];exact U2 qg (by omega)
     rw [Z1 h6];exact jn.mono (by omega) (by omega)
   rw [Z1 h5]
   by_cases h6:47+n≤S*64∨110<Ym L n
   · rw [ZZ h6];exact U2 vh (by omega)
   rw [Z1 h6];exact U2 CU (by omega)
 rw [Z1 h9]
 by_cases h0:k=0
 · rw [ZZ h0];exact U2 CU (by omega)
 rw [Z1 h0]
 by_cases h1:k=1∨k=112
 · rw [ZZ h1];exact Eq vg (by omega) (by omega)
 rw [Z1 h1]
 by_cases h4:k=113
 · rw [ZZ h4];exact U2 qh (by omega)
 rw [Z1 h4]
 by_cases h5:k=114
 · rw [ZZ h5];exact U2 qg (by omega)
 rw [Z1 h5];exact U2 CU (by omega)
def PR (S L n k:Nat):List ByteArray:=(List.range k).map (YA S L n)
theorem J0 (S L n k:Nat):(PR S L n k).length=k:=by simp [PR]
theorem vf (S L n k:Nat):PR S L n (k+1)=PR S L n k++[YA S L n k]:=by unfold PR;rw [zR,Wn];rfl
theorem mF (S L n k i:Nat) (h:i<k):(PR S L n k).getD i ⟨#[]⟩=YA S L n i:=by
 unfold PR
 simp [List.getD,h]
theorem Gt (S L n k:Nat):Zv (PR S L n (k+1))=(Zv (PR S L n k)++XS (YA S L n k))++XS ⟨#[10]⟩:=by
 rw [vf,PU,Ug]
 simp [Zv,XS]
theorem mD (S L n k:Nat):∀s ∈ PR S L n k,(10:UInt8) ∉ s.data.toList:=by
 intro s hs;obtain ⟨i,-,rfl⟩:=List.mem_map.1 hs;exact (J1 S L n i).2.2
theorem M9 (S L n:Nat):∀k,k*6≤(Zv (PR S L n k)).length∧(Zv (PR S L n k)).length≤k*21
 | 0=>by simp [PR,Zv]
 | k+1=>by
  obtain ⟨h1,h2⟩:=M9 S L n k;obtain ⟨h3,h4,-⟩:=J1 S L n k;rw [Gt,ZA,ZA,YP,YP];have:(⟨#[10]⟩:ByteArray).size=1:=rfl;omega
theorem CQ (n:Nat) (hn:n≤64):∀s ∈ UI n,(10:UInt8) ∉ s.data.toList∧s.size≤80:=by
 have hx:(10:UInt8) ∉ xL n:=fun h=>absurd (List.mem_replicate.1 h).2 (by decide)
 have h1:(10:UInt8) ∉ (Gz n).data.toList∧(Gz n).size≤80:=by
  refine ⟨?_,by simp [Gz,Xv,ByteArray.size,xL];omega⟩;unfold Gz;rw [UJ]
  simp [hx]
 have h2:(10:UInt8) ∉ (J8 n).data.toList∧(J8 n).size≤80:=by
  refine ⟨?_,by simp [J8,Xv,ByteArray.size,xL];omega⟩;unfold J8;rw [UJ]
  simp [hx]
 have h3:(10:UInt8) ∉ RF.data.toList∧RF.size≤80:=by decide
 have h4:(10:UInt8) ∉ FV.data.toList∧FV.size≤80:=by decide
 have h5:(10:UInt8) ∉ C3.data.toList∧C3.size≤80:=by decide
 intro s hs;unfold UI at hs
 rcases XP.1 hs with hs | hs
 · rcases XP.1 hs with hs | hs
   · simp only [Yz,zS,Mf] at hs
     rcases hs with rfl | rfl
     · exact h1
     exact h3
   rw [(List.mem_replicate.1 hs).2];exact h2
 simp only [Yz,zS,Mf] at hs
 rcases hs with rfl | rfl | rfl | rfl
 · exact h3
 · exact h4
 · exact h5
 exact h2
theorem JZ:∀(ls:List ByteArray),(∀s ∈ ls,s.size≤80)→(Zv ls).length≤81*ls.length
 | [],_=>by simp [Zv]
 | s :: ls,h=>by
  rw [Ug,ZA,YP,Yr,Yr];have:=JZ ls (fun t ht=>h t (Yl _ ht));have:=h s (Wk ..);omega
end
end Go.Proofs.YtpmjnbmkippaiaaGreatDoor


