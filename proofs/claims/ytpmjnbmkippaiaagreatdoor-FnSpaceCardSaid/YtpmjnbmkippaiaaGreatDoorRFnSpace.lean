import Derived.Test.YtpmjnbmkippaiaaGreatDoorJ18
import Derived.Test.YtpmjnbmkippaiaaGreatDoorJ19
namespace Go.Proofs.YtpmjnbmkippaiaaGreatDoor
open Go.ChangeShapes Go.WideShapes Go.ChangeAt Go.RowKit
set_option linter.unusedVariables false
set_option maxRecDepth 100000 in
theorem Mm (H:Type) (enc:TypeId × Value→H) (W:World) (base:Nat) (args:Array Value) (ds gs:List (DataW H)) (before:List MemPlace)
    (hval:∀(j:Nat) t v,Tryz.f3.params[j]?=some t→args[j]?=some v→Value.okWide Tryz.prog W .any base t v)
    (hW:DataW.Whole enc Tryz.prog Tryz.f3.params.toList Rows.fnSpaceSpec.vars false W args.toList ds gs before) (hL0:laidMetH Tryz.prog Rows.fnSpaceRow.laid W) (hsh:W.ShapedOpen Tryz.prog) :
    Calls Tryz.prog 3 args W fun e W'=>∃v,e=.returned v∧Rows.fnSpaceSpec.post enc Tryz.prog Tryz.f3 false true false false W args v W':=by
 have hW':=hW;obtain ⟨p,q,hA0,Z,rfl,hfz,hnd⟩:=hW;have hA:DataW.TrodAll enc Tryz.prog W 0 (fun _=>true) true Tryz.f3.params.toList args.toList ds p:=hA0
 have hV : DataW.TrodVars enc Tryz.prog W (fun _ => true) ["loop.example/s01594/impl.crcTable", "loop.example/s01594/impl.opForms"] gs q := Z
 rw [Tryz.params3] at hA hval;obtain ⟨v0,R,d0,ds0,p0,q0,hargs,rfl,rfl,h0,r0⟩:=trodAll_cons hA;obtain ⟨rfl,rfl,rfl⟩:=trodAll_nil r0;obtain rfl:args=#[v0]:=by cases args;simp_all
 have hL:laidMetH Tryz.prog Kb W:=hL0;obtain ⟨m,te,pe,hG⟩:=GS hL hsh;have Y:=IT hL;have X:=LZ hL;obtain ⟨g0,t0,cs0,f0,d0',Q,g1,t1,cs1,f1,d1',P,rfl,hg0,ht0,hv0,hd0,hg1,ht1,hv1,hd1,rfl⟩:=trodVars_two hV;obtain rfl:=Zc (mh.symm.trans hg0);obtain rfl:=Zc (Ed.symm.trans ht0);obtain rfl:cs0=Pe:=Zc (hv0.symm.trans X);obtain ⟨rfl,rfl⟩:=DataW.Trod.unique (v:=.agg Pe) ⟨f0,hd0⟩ ⟨3,L3 enc W _⟩;obtain rfl:=Zc (tX.symm.trans hg1);obtain rfl:=Zc (Cl.symm.trans ht1);obtain rfl:cs1=Fw.toArray:=Zc (hv1.symm.trans Y);obtain ⟨rfl,rfl⟩:=DataW.Trod.unique (v:=.agg Fw.toArray) ⟨f1,hd1⟩ ⟨4,L2 enc W _⟩;have V:0<W.heap.size:=ZG W _ (hG.tc 0 (by omega));have k0:=h0;have U:∀x ∈ p0,x.block<W.heap.size:=by obtain ⟨m,hm⟩:=k0;exact DataW.trod_lt m _ _ _ hm
 obtain ⟨a0,qV,cap0,rfl⟩:=okWide_slice Tryz.underlying22 (hval 0 22 v0 rfl rfl);obtain ⟨z0,T,S⟩:=CI h0;clear hA0 Z;refine (yQ W _ z0 T S hG).mono fun e W' ⟨he,WC⟩=>?_
 subst he
 have hvars : ∀ sp : Nat → Bool, DataW.TrodVars enc Tryz.prog W' sp ["loop.example/s01594/impl.crcTable", "loop.example/s01594/impl.opForms"] [Cm, Rows.laid_loop_example_s01594_impl_opForms] (MemPlace.row ⟨0, 0, none⟩ Pe.size ++ [] ++ (MemPlace.row ⟨2, 0, none⟩ Fw.toArray.size ++ [])) := fun sp =>
  ⟨_,_,_,3,[],_,hg0,ht0,var?_below WC hg0 V hv0,L3 enc W' sp,trodVars_mk1 hg1 ht1 (var?_below WC hg1 hG.fm.1 hv1) (L2 enc W' sp),rfl⟩
 exact ⟨_,rfl,_,_,_,[],_,_,hW',trodAll_mk1 (shut_bool Tryz.underlying4 _),(trodAll_cons_mk (Below.trod laidOut (by kernel_rfl) (Wm (by kernel_rfl)) k0 WC U) trodAll_mk0),hvars _,WC.frame _,fun h=>by cases h⟩
theorem JC (os:Os) {H:Type} (enc:TypeId × Value→H):∃places,DataW.whole enc Tryz.prog ((PY Tryz.prog os).forCall (fun _ _=>0) ⟨#[],#[.slice none 0 0],[]⟩).memory Tryz.f3.params.toList Rows.fnSpaceSpec.vars false (#[.slice none 0 0]:Array Value).toList 8=some ([.nil],[Cm,Rows.laid_loop_example_s01594_impl_opForms],places) :=
 ⟨(List.range 16).map (MemPlace.cell 0)++(List.range 25).map (MemPlace.cell 2),by kernel_rfl⟩
set_option maxRecDepth 100000 in
theorem J9 (os:Os) (started:os.Started) (H:Type) (enc:TypeId × Value→H) (F:Stop.Interp) :
    ReturnsInHanded {} Tryz.checked os 3 .any ((OpenSpec.ofChange Rows.fnSpaceSpec).preRow enc Tryz.prog Tryz.f3 Rows.fnSpaceRow.domain false Rows.fnSpaceRow.laid) (((OpenSpec.ofChange Rows.fnSpaceSpec).at F).post enc Tryz.prog Tryz.f3 false true false false):=by
 obtain ⟨places,hx⟩:=JC os enc;refine returnsInHanded_of_row (C:=Tryz.checked) (s:=OpenSpec.ofChange Rows.fnSpaceSpec) knob started (by kernel_rfl) Tryz.func3
  (witness_row_at (enc:=enc) (C:=Tryz.checked) false (PY Tryz.prog os) #[.slice none 0 0] rfl (by kernel_rfl) (by kernel_rfl) (by kernel_rfl)
   (OpenSpec.preRow_of_cond 8 hx (by kernel_rfl) (fun k hk=>by cases hk) (by kernel_rfl) (yO os _))) ?_
 intro W base args ds gs before hval hW _ _ _ hL hsh _;exact Mm H enc W base args ds gs before hval hW hL hsh
theorem GR:Rows.FnSpaceSaid :=
 OpenClaim.holds_of_cond 3 Tryz.f3 rfl rfl rfl rfl rfl rfl rfl ⟨rfl,rfl,rfl,rfl,rfl⟩ rfl rfl rfl rfl rfl (by kernel_rfl) Tryz.func3 Ka
  (Wm (by kernel_rfl)) (by unfold Func.isWrapper;first | (rw [Z0 (by decide +kernel)];kernel_rfl) | (rw [Z1 (by decide +kernel)];exact ⟨rfl,rfl⟩))
  (fun os started H enc _ F=>by rw [OpenClaim.pre_eq_preRow];exact J9 os started H enc F)
theorem JB (f : FuncId) (fn : Func) (hf : Tryz.pinned.checked.prog.funcNamed "loop.example/s01594/laws.FnSpace" = some f) (hfn : Tryz.pinned.checked.prog.funcs[f]? = some fn) :
    true=Tryz.pinned.checked.prog.looks []∧∀(j:Nat) t,fn.params[j]?=some t→Tryz.pinned.checked.prog.wantsStandIn t=false:=by
 obtain rfl : f = 3 := Zc ((show Tryz.prog.funcNamed "loop.example/s01594/laws.FnSpace" = some 3 by kernel_rfl).symm.trans hf) |>.symm
 obtain rfl:fn=Tryz.f3:=(Zc (Tryz.func3.symm.trans hfn)).symm;refine ⟨by kernel_rfl,fun j t ht=>?_⟩;rw [Tryz.params3] at ht;have hm:=Array.mem_of_getElem? ht
 simp only [List.mem_toArray,Y9,SZ,Sh] at hm
 subst hm;exact (show Tryz.prog.wantsStandIn 22=false by kernel_rfl)
theorem FnSpace_holds:Rows.FnSpaceCardSaid :=
 Claim7.holds_tied_plain_at .later [] _ _ _ _ GR (fun _ h=>by cases h) (by kernel_rfl) (fun _ h=>by cases h) fnSpace_row_tie rfl ⟨rfl,rfl⟩ (by kernel_rfl) rfl JB (by kernel_rfl)
end Go.Proofs.YtpmjnbmkippaiaaGreatDoor
