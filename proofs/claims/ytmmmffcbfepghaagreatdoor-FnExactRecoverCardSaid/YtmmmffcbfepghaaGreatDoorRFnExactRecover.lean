import Derived.Test.YtmmmffcbfepghaaGreatDoorJ19
namespace Go.Proofs.YtmmmffcbfepghaaGreatDoor
open Go.ChangeShapes Go.WideShapes Go.ChangeAt Go.RowKit
set_option linter.unusedVariables false
set_option maxRecDepth 100000 in
theorem Ux (H:Type) (enc:TypeId × Value→H) (W:World) (base:Nat) (args:Array Value) (ds gs:List (DataW H)) (before:List MemPlace)
    (hval:∀(j:Nat) t v,Tryz.f3.params[j]?=some t→args[j]?=some v→Value.okWide Tryz.prog W .any base t v)
    (hW:DataW.Whole enc Tryz.prog Tryz.f3.params.toList Rows.fnExactRecoverSpec.vars false W args.toList ds gs before) (hL:laidMetH Tryz.prog Rows.fnExactRecoverRow.laid W) :
    Calls Tryz.prog 3 args W fun e W'=>∃v,e=.returned v∧Rows.fnExactRecoverSpec.post enc Tryz.prog Tryz.f3 false true false false W args v W':=by
 have hW':=hW;obtain ⟨p,q,hA0,Z,rfl,hfz,hnd⟩:=hW;have hA:=hA0
 have hV : DataW.TrodVars enc Tryz.prog W (fun _ => true) ["loop.example/s01594/impl.crcTable"] gs q := Z
 rw [Tryz.params3] at hA hval;obtain ⟨v0,P,d0,ds0,p0,q0,hargs,rfl,rfl,h0,r0⟩:=trodAll_cons hA;obtain ⟨v1,vs1,d1,ds1,p1,q1,rfl,rfl,rfl,h1,r1⟩:=trodAll_cons r0;obtain ⟨v2,vs2,d2,O,p2,q2,rfl,rfl,rfl,h2,r2⟩:=trodAll_cons r1;obtain ⟨rfl,rfl,rfl⟩:=trodAll_nil r2;obtain rfl:args=#[v0,v1,v2]:=by cases args;simp_all
 have Y:=oL hL;obtain ⟨g,t,cs,fuel,d,p',rfl,hg,ht,hvar,hd,rfl⟩:=trodVars_one hV;obtain rfl:=UR (ss.symm.trans hg);obtain rfl:=UR (GO.symm.trans ht);obtain rfl:cs=Uy:=UR (hvar.symm.trans Y);obtain ⟨rfl,rfl⟩:=DataW.Trod.unique (v:=.agg Uy) ⟨fuel,hd⟩ ⟨3,PC enc W _⟩;have hT:U1 W:=fun i hi=>by rw [Y.cell ss i hi];exact ym i hi
 have X:0<W.heap.size:=A7 W _ (hT 0 (by omega));have k0:=h0;have T:∀x ∈ p0,x.block<W.heap.size:=by obtain ⟨m,hm⟩:=k0;exact DataW.trod_lt m _ _ _ hm
 obtain ⟨S,R,V,ps0,rfl,U⟩:=BM (hval 0 25 v0 rfl rfl) h0;have k1:=h1;have Q:∀x ∈ p1,x.block<W.heap.size:=by obtain ⟨m,hm⟩:=k1;exact DataW.trod_lt m _ _ _ hm
 obtain ⟨g1,b1,rfl⟩:=BR (hval 1 27 v1 rfl rfl) h1;obtain ⟨a2,rfl,rfl,rfl,w2⟩:=open_int Tryz.underlying2 (hval 2 2 v2 rfl rfl) h2;clear hA0 Z;refine (GP W S R V ps0 U g1 b1 a2 w2 hT X).mono fun e W' ⟨he,YJ⟩=>?_
 subst he
 have hvars : ∀ sp : Nat → Bool, DataW.TrodVars enc Tryz.prog W' sp ["loop.example/s01594/impl.crcTable"] [Fd] (MemPlace.row ⟨0, 0, none⟩ Uy.size ++ []) := fun sp =>
  trodVars_mk1 hg ht (var?_below YJ hg X hvar) (PC enc W' sp)
 exact ⟨_,rfl,_,_,_,[],_,MemPlace.row ⟨0,0,none⟩ Uy.size++[],hW',trodAll_mk1 (shut_bool Tryz.underlying4 _),(A5 (Below.trod laidOut (by kernel_rfl) (EV (by kernel_rfl)) k0 YJ T) (A5 (Below.trod laidOut (by kernel_rfl) (EV (by kernel_rfl)) k1 YJ Q) (A5 (shut_int Tryz.underlying2 w2) trodAll_mk0))),hvars _,YJ.frame _,fun h=>by cases h⟩
theorem Te (os:Os) {H:Type} (enc:TypeId × Value→H):∃places,DataW.whole enc Tryz.prog ((Rs Tryz.prog os).forCall (fun _ _=>0) ⟨#[],#[.agg #[.slice none 0 0,.slice none 0 0],.agg #[.int .i64 0,.int .i64 0],.int .i64 0],[]⟩).memory Tryz.f3.params.toList Rows.fnExactRecoverSpec.vars false (#[.agg #[.slice none 0 0,.slice none 0 0],.agg #[.int .i64 0,.int .i64 0],.int .i64 0]:Array Value).toList 8=some ([.agg [.nil,.nil],.agg [.lit (.int .i64 0),.lit (.int .i64 0)],.lit (.int .i64 0)],[Fd],places) :=
 ⟨(List.range 16).map (MemPlace.cell 0),by kernel_rfl⟩
set_option maxRecDepth 100000 in
theorem TM (os:Os) (started:os.Started) (H:Type) (enc:TypeId × Value→H) (F:Stop.Interp) :
    ReturnsInHanded {} Tryz.checked os 3 .any ((OpenSpec.ofChange Rows.fnExactRecoverSpec).preRow enc Tryz.prog Tryz.f3 Rows.fnExactRecoverRow.domain false Rows.fnExactRecoverRow.laid) (((OpenSpec.ofChange Rows.fnExactRecoverSpec).at F).post enc Tryz.prog Tryz.f3 false true false false):=by
 obtain ⟨places,hx⟩:=Te os enc;refine returnsInHanded_of_row (C:=Tryz.checked) (s:=OpenSpec.ofChange Rows.fnExactRecoverSpec) knob started (by kernel_rfl) Tryz.func3
  (witness_row_at (enc:=enc) (C:=Tryz.checked) false (Rs Tryz.prog os) #[.agg #[.slice none 0 0,.slice none 0 0],.agg #[.int .i64 0,.int .i64 0],.int .i64 0] rfl (by kernel_rfl) (by kernel_rfl) (by kernel_rfl)
   (OpenSpec.preRow_of_cond 8 hx (by kernel_rfl) (fun k hk=>by cases hk) (by kernel_rfl) (BT os _))) ?_
 intro W base args ds gs before hval hW _ _ _ hL _ _;exact Ux H enc W base args ds gs before hval hW hL
theorem Sq:Rows.FnExactRecoverSaid :=
 OpenClaim.holds_of_cond 3 Tryz.f3 rfl rfl rfl rfl rfl rfl rfl ⟨rfl,rfl,rfl,rfl,rfl⟩ rfl rfl rfl rfl rfl (by kernel_rfl) Tryz.func3 (by kernel_rfl)
  (EV (by kernel_rfl)) (by unfold Func.isWrapper;first | (rw [ZY (by decide +kernel)];kernel_rfl) | (rw [Z3 (by decide +kernel)];exact ⟨rfl,rfl⟩))
  (fun os started H enc _ F=>by rw [OpenClaim.pre_eq_preRow];exact TM os started H enc F)
theorem Td (f : FuncId) (fn : Func) (hf : Tryz.pinned.checked.prog.funcNamed "loop.example/s01594/laws.FnExactRecover" = some f) (hfn : Tryz.pinned.checked.prog.funcs[f]? = some fn) :
    true=Tryz.pinned.checked.prog.looks []∧∀(j:Nat) t,fn.params[j]?=some t→Tryz.pinned.checked.prog.wantsStandIn t=false:=by
 obtain rfl : f = 3 := UR ((show Tryz.prog.funcNamed "loop.example/s01594/laws.FnExactRecover" = some 3 by kernel_rfl).symm.trans hf) |>.symm
 obtain rfl:fn=Tryz.f3:=(UR (Tryz.func3.symm.trans hfn)).symm;refine ⟨by kernel_rfl,fun j t ht=>?_⟩;rw [Tryz.params3] at ht;have hm:=Array.mem_of_getElem? ht
 simp only [List.mem_toArray,MZ,uo,or_false] at hm
 rcases hm with rfl | rfl | rfl
 · exact (show Tryz.prog.wantsStandIn 25=false by kernel_rfl)
 · exact (show Tryz.prog.wantsStandIn 27=false by kernel_rfl)
 exact (show Tryz.prog.wantsStandIn 2=false by kernel_rfl)
theorem FnExactRecover_holds:Rows.FnExactRecoverCardSaid :=
 Claim7.holds_tied_plain_at .later [] _ _ _ _ Sq (fun _ h=>by cases h) (by kernel_rfl) (fun _ h=>by cases h) fnExactRecover_row_tie rfl ⟨rfl,rfl⟩ (by kernel_rfl) rfl Td (by kernel_rfl)
end Go.Proofs.YtmmmffcbfepghaaGreatDoor
