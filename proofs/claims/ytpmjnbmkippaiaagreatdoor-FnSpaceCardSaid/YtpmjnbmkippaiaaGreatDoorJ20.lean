import Derived.Test.YtpmjnbmkippaiaaGreatDoorCards
import Derived.Test.YtpmjnbmkippaiaaGreatDoorTie
import Derived.Lib.LaidIn
import Derived.Lib.LaidTab
import Derived.Lib.ItoaNum
import Derived.LaidHandle
import Derived.LaidSub
import Derived.Stop.LaidErr
import Derived.Shelf.Vars
import Derived.Test.YtpmjnbmkippaiaaGreatDoorJ19
set_option maxRecDepth 100000
set_option maxHeartbeats 16000000
set_option linter.unusedVariables false
set_option linter.unusedSimpArgs false
namespace Go.Proofs.YtpmjnbmkippaiaaGreatDoor
open Go.ChangeShapes Go.WideShapes Go.ChangeAt Go.RowKit
variable {W:World}
theorem knob:ownKnob Tryz.prog.godebug=none:=by kernel_rfl
theorem laidOut:laidOutB Tryz.prog=true:=by kernel_rfl
def eR : List (String × DataW Unit) := [("math/bits.deBruijn32tab", Rows.laid_math_bits_deBruijn32tab), ("math/bits.deBruijn64tab", Rows.laid_math_bits_deBruijn64tab), ("internal/strconv.uint64pow10", Rows.laid_internal_strconv_uint64pow10), ("unicode/utf8.acceptRanges", Rows.laid_unicode_utf8_acceptRanges), ("strconv.ErrRange", Rows.laid_strconv_ErrRange), ("strconv.ErrSyntax", Rows.laid_strconv_ErrSyntax), ("loop.example/s01594/impl.crcTable", Rows.laid_loop_example_s01594_impl_crcTable), ("loop.example/s01594/impl.opForms", Rows.laid_loop_example_s01594_impl_opForms), ("unicode/utf8.first", Rows.laid_unicode_utf8_first)]
def Kb : List (String × DataW Unit) := [("math/bits.deBruijn32tab", Rows.laid_math_bits_deBruijn32tab), ("math/bits.deBruijn64tab", Rows.laid_math_bits_deBruijn64tab), ("internal/strconv.uint64pow10", Rows.laid_internal_strconv_uint64pow10), ("unicode/utf8.acceptRanges", Rows.laid_unicode_utf8_acceptRanges), ("errors.errorType", Rows.laid_errors_errorType), ("strconv.ErrRange", Rows.laid_strconv_ErrRange), ("strconv.ErrSyntax", Rows.laid_strconv_ErrSyntax), ("loop.example/s01594/impl.crcTable", Rows.laid_loop_example_s01594_impl_crcTable), ("loop.example/s01594/impl.opForms", Rows.laid_loop_example_s01594_impl_opForms), ("unicode/utf8.first", Rows.laid_unicode_utf8_first)]
theorem MY:(Kb.filter fun x=>x.2.handleName?.isNone)=eR:=by kernel_rfl
theorem AP : (Kb.filter fun x => x.2.handleName?.isSome) = [("errors.errorType", Rows.laid_errors_errorType)] := by kernel_rfl
theorem lY : Tryz.prog.globalNamed "loop.example/s01594/impl.crcTable" = some 0 := by kernel_rfl
theorem Ec:(Tryz.prog.globals[0]?).map (·.type)=some 152:=by kernel_rfl
theorem lX:Tryz.prog.cellsOf 152=16:=by kernel_rfl
theorem cellsE:Tryz.prog.cellsOf 150=1:=by kernel_rfl
def Pf:Array Value:=#[.int .u32 0,.int .u32 274646895,.int .u32 549293790,.int .u32 820201905,.int .u32 1098587580,.int .u32 1361435347,.int .u32 1640403810,.int .u32 1905808397,.int .u32 2197175160,.int .u32 2460548119,.int .u32 2722870694,.int .u32 2987750089,.int .u32 3280807620,.int .u32 3553878443,.int .u32 3811616794,.int .u32 4084100981]
abbrev Cj {H:Type}:DataW H:=.agg [.lit (.int .u32 0),.lit (.int .u32 274646895),.lit (.int .u32 549293790),.lit (.int .u32 820201905),.lit (.int .u32 1098587580),.lit (.int .u32 1361435347),.lit (.int .u32 1640403810),.lit (.int .u32 1905808397),.lit (.int .u32 2197175160),.lit (.int .u32 2460548119),.lit (.int .u32 2722870694),.lit (.int .u32 2987750089),.lit (.int .u32 3280807620),.lit (.int .u32 3553878443),.lit (.int .u32 3811616794),.lit (.int .u32 4084100981)]
theorem L3 {H:Type} (enc:TypeId × Value→H) (W:World) (sp:Nat→Bool):DataW.trod enc Tryz.prog W 0 sp true 3 152 Pf.toList=some (Cj,[]):=by kernel_rfl
theorem tQ:∀i,i<16→some (Value.int .u32 (([0,274646895,549293790,820201905,1098587580,1361435347,1640403810,1905808397,2197175160,2460548119,2722870694,2987750089,3280807620,3553878443,3811616794,4084100981]:List Int).getD i 0))=some (.int .u32 ((LX.getD i 0:Nat):Int)):=by
 intro i hi;have:∀i,i<16→([0,274646895,549293790,820201905,1098587580,1361435347,1640403810,1905808397,2197175160,2460548119,2722870694,2987750089,3280807620,3553878443,3811616794,4084100981]:List Int).getD i 0=((LX.getD i 0:Nat):Int):=by decide +kernel
 rw [this i hi]
def gL (P:Program) (n:String):Nat:=(P.globalNamed n).getD 0
def qs (P:Program):Nat:=(World.holding P default ⟨#[],#[],[]⟩).heap.size
def PY (P:Program) (os:Os):World :=
 let w0:=World.holding P os ⟨#[.cells #[.string ⟨#[118,97,108,117,101,32,111,117,116,32,111,102,32,114,97,110,103,101]⟩] 376,.cells #[.string ⟨#[105,110,118,97,108,105,100,32,115,121,110,116,97,120]⟩] 376],#[],[]⟩
 let put (h:Array Obj) (g:Nat) (cs:Array Value):Array Obj:=h.modify g fun
  | .cells _ t frozen=>.cells cs t frozen
  | o=>o
 let h1 := put w0.heap (gL P "unicode/utf8.first") (Go.Pinned.utf8FirstZ.map fun (z : Nat) => Value.int .u8 (z : Int)).toArray
 let h2 := put h1 (gL P "unicode/utf8.acceptRanges") ((([128, 191, 160, 191, 128, 159, 144, 191, 128, 143] : List Int) ++ List.replicate 22 0).map fun (z : Int) => Value.int .u8 z).toArray
 let h3 := put h2 (gL P "math/bits.deBruijn32tab") (([0, 1, 28, 2, 29, 14, 24, 3, 30, 22, 20, 15, 25, 17, 4, 8, 31, 27, 13, 23, 21, 19, 16, 7, 26, 12, 18, 6, 11, 5, 10, 9] : List Int).map fun (z : Int) => Value.int .u8 z).toArray
 let h4 := put h3 (gL P "math/bits.deBruijn64tab") (([0, 1, 56, 2, 57, 49, 28, 3, 61, 58, 42, 50, 38, 29, 17, 4, 62, 47, 59, 36, 45, 43, 51, 22, 53, 39, 33, 30, 24, 18, 12, 5, 63, 55, 48, 27, 60, 41, 37, 16, 46, 35, 44, 21, 52, 32, 23, 11, 54, 26, 40, 15, 34, 20, 31, 10, 25, 14, 19, 9, 13, 8, 7, 6] : List Int).map fun (z : Int) => Value.int .u8 z).toArray
 let h5 := put h4 (gL P "internal/strconv.uint64pow10") (Lib.pow10Tab.map fun (z : Int) => Value.int .u64 z).toArray
 let h6 := put h5 (gL P "strconv.ErrRange") #[.iface 374 (.pointer (some ⟨qs P, 0, none⟩))]
 let h7 := put h6 (gL P "strconv.ErrSyntax") #[.iface 374 (.pointer (some ⟨qs P + 1, 0, none⟩))]
 let h8 := put h7 (gL P "loop.example/s01594/impl.opForms") EG.toArray
 let h9 := put h8 (gL P "errors.errorType") #[.iface 345 (.agg #[.pointer (some ⟨11, 182, none⟩)])]
 let h10 := put h9 (gL P "loop.example/s01594/impl.crcTable") Pf
 { w0 with heap:=h10 }
theorem yL (os:Os) (args:Array Value):laidMet Tryz.prog eR ((PY Tryz.prog os).forCall (fun _ _=>0) ⟨#[],args,[]⟩).memory :=
 (LaidIn.of_run (l := eR) [gL Tryz.prog "unicode/utf8.first", gL Tryz.prog "unicode/utf8.acceptRanges", gL Tryz.prog "math/bits.deBruijn32tab", gL Tryz.prog "math/bits.deBruijn64tab", gL Tryz.prog "internal/strconv.uint64pow10", gL Tryz.prog "strconv.ErrRange", gL Tryz.prog "strconv.ErrSyntax", gL Tryz.prog "loop.example/s01594/impl.opForms", gL Tryz.prog "loop.example/s01594/impl.crcTable", qs Tryz.prog, qs Tryz.prog + 1] 8 (by kernel_rfl) (by kernel_rfl) (by kernel_rfl) (by kernel_rfl)).met
theorem yK (os:Os) (args:Array Value):laidMetH Tryz.prog Kb ((PY Tryz.prog os).forCall (fun _ _=>0) ⟨#[],args,[]⟩).memory :=
 laidMetH_of_parts (by rw [MY];exact yL os args) (by rw [AP];kernel_rfl)
theorem dQ : Tryz.prog.globalNamed "errors.errorType" = some 5 := by kernel_rfl
theorem dP : (Tryz.prog.cutTypes.find? (·.1 == "internal/reflectlite.rtype")).map (·.2) = some 345 := by kernel_rfl
theorem qr:((List.range Tryz.prog.types.size).filter fun t=>Tryz.prog.rowNamed t [101,114,114,111,114])=[182]:=by kernel_rfl
theorem iV:typeHandle Tryz.prog 182=.pointer (some ⟨11,182,none⟩):=by kernel_rfl
theorem pM:Rows.laid_internal_strconv_uint64pow10=Lib.tabData (H:=Unit) .u64 Lib.pow10Tab:=by kernel_rfl
theorem LO (h:laidMetH Tryz.prog Kb W):W.cell? ⟨5,0,none⟩=some (.iface 345 (.agg #[.pointer (some ⟨11,182,none⟩)])):=by
 have h':=(laidMetH_iff.1 h).2;rw [AP] at h';obtain ⟨name,u,ty,e1,e2,e3,e4,e5⟩:=h' _ (Vk.2 rfl);have en:name=[101,114,114,111,114]:=(Zc e1).symm;subst en;obtain rfl:=Zc (dP.symm.trans e2);have hm:ty ∈ (List.range Tryz.prog.types.size).filter fun t=>Tryz.prog.rowNamed t [101,114,114,111,114]:=List.mem_filter.2 ⟨Yb.2 e3,e4⟩
 rw [qr] at hm;obtain rfl:=Vk.1 hm;rw [iV] at e5
 simpa using Sw dQ e5 0
theorem GV (h : laidMetH Tryz.prog Kb W) : Lib.TabIs Tryz.prog W "internal/strconv.uint64pow10" .u64 Lib.pow10Tab := by
 have h':=(laidMetH_iff.1 h).1;rw [MY] at h'
 have h2 : laidMet Tryz.prog (("internal/strconv.uint64pow10", Rows.laid_internal_strconv_uint64pow10) :: [("unicode/utf8.acceptRanges", Rows.laid_unicode_utf8_acceptRanges), ("strconv.ErrRange", Rows.laid_strconv_ErrRange), ("strconv.ErrSyntax", Rows.laid_strconv_ErrSyntax), ("loop.example/s01594/impl.crcTable", Rows.laid_loop_example_s01594_impl_crcTable), ("loop.example/s01594/impl.opForms", Rows.laid_loop_example_s01594_impl_opForms), ("unicode/utf8.first", Rows.laid_unicode_utf8_first)]) W := laidMet.tail (laidMet.tail h')
 rw [pM] at h2
 exact Lib.tabIs_of_head (g := gL Tryz.prog "internal/strconv.uint64pow10") (t := 340) (e := 273) (n := 20) (by kernel_rfl) (by kernel_rfl) Tryz.underlying340 Tryz.underlying273 (by kernel_rfl) (by kernel_rfl) h2
theorem GU (h:W.ShapedOpen Tryz.prog):∃m,W.cell? ⟨1,0,none⟩=some (.int .i64 m) :=
 cell_of_shapedOpen_int (t:=3) (zero:=#[.int .i64 0]) h (Wm (by kernel_rfl)) (by kernel_rfl) rfl (by kernel_rfl) (by kernel_rfl) Tryz.underlying3
theorem pm : "*" ++ "errors.errorString" = "*errors.errorString" := by decide
theorem iU (u : TypeId) (h : Tryz.prog.typeName? 3 u = some "*errors.errorString") : u = 374 :=
 typeName_ptr_named (nm := "errors.errorString") (by rw [pm]; kernel_rfl) (by kernel_rfl) (by decide) u (by rw [pm]; exact h)
theorem Eb (h:laidMetH Tryz.prog Kb W):∃a,W.cell? ⟨7,0,none⟩=some (.iface 374 (.pointer (some a))):=by
 have h':=(laidMetH_iff.1 h).1;rw [MY] at h'
 have h2 : laidMet Tryz.prog (("strconv.ErrSyntax", Rows.laid_strconv_ErrSyntax) :: [("loop.example/s01594/impl.crcTable", Rows.laid_loop_example_s01594_impl_crcTable), ("loop.example/s01594/impl.opForms", Rows.laid_loop_example_s01594_impl_opForms), ("unicode/utf8.first", Rows.laid_unicode_utf8_first)]) W := laidMet.tail (laidMet.tail (laidMet.tail (laidMet.tail (laidMet.tail h'))))
 have hg : Tryz.prog.globalNamed "strconv.ErrSyntax" = some 7 := by kernel_rfl
 obtain ⟨a1,s1,hv1,-⟩:=laid_sentinel h2 hg (by kernel_rfl) Tryz.underlying182 iU Tryz.underlying374 Tryz.underlying376 rfl rfl Tryz.underlying9 (by kernel_rfl) (by kernel_rfl);exact ⟨a1,by simpa using Sw hg hv1 0⟩
section
variable {H:Type} {enc:TypeId × Value→H} {w:World} {base:Nat} {sp:Nat→Bool} {held:Bool} {fuel:Nat}
theorem QI {cs:List Value} {s:List UInt8} {k:Int} {b1 b2 b3:Bool} {p:List MemPlace} (h:DataW.trod enc Tryz.prog w base sp held fuel 226 cs=some (.agg [.lit (.string s),.lit (.int .i64 k),.lit (.bool b1),.lit (.bool b2),.lit (.bool b3)],p)) :
    cs=[.string (UG s),.int .i64 k,.bool b1,.bool b2,.bool b3]:=by
 obtain ⟨xs,n,-,hx,hl,hlen,hf⟩:=DataW.trod_struct Tryz.underlying226 h;have hl5:cs.length=5:=hl.trans (by kernel_rfl)
 match xs,hlen,cs,hl5 with
 | [y0,y1,y2,y3,y4],_,[c0,c1,c2,c3,c4],_ =>
  have f0:=hf 0 _ rfl;have f1:=hf 1 _ rfl;have f2:=hf 2 _ rfl;have f3:=hf 3 _ rfl;have f4:=hf 4 _ rfl;have e9:Tryz.prog.cellsOf 9=1:=by kernel_rfl
  have e2:Tryz.prog.cellsOf 2=1:=by kernel_rfl
  have e4:Tryz.prog.cellsOf 4=1:=by kernel_rfl
  have u0:DataW.trod enc Tryz.prog w base sp held n 9 (([c0,c1,c2,c3,c4].drop 0).take (Tryz.prog.cellsOf 9))=some y0:=f0;have u1:DataW.trod enc Tryz.prog w base sp held n 2 (([c0,c1,c2,c3,c4].drop 1).take (Tryz.prog.cellsOf 2))=some y1:=f1;have u2:DataW.trod enc Tryz.prog w base sp held n 4 (([c0,c1,c2,c3,c4].drop 2).take (Tryz.prog.cellsOf 4))=some y2:=f2;have u3:DataW.trod enc Tryz.prog w base sp held n 4 (([c0,c1,c2,c3,c4].drop 3).take (Tryz.prog.cellsOf 4))=some y3:=f3;have u4:DataW.trod enc Tryz.prog w base sp held n 4 (([c0,c1,c2,c3,c4].drop 4).take (Tryz.prog.cellsOf 4))=some y4:=f4;clear f0 f1 f2 f3 f4;rw [e9] at u0;rw [e2] at u1;rw [e4] at u2 u3 u4
  simp only [XR,Ur,List.take_succ_cons,WI] at u0 u1 u2 u3 u4
  obtain ⟨s0,g0,rfl,-⟩:=DataW.trod_string Tryz.underlying9 u0;obtain ⟨n1,g1,rfl,-⟩:=DataW.trod_int Tryz.underlying2 u1;obtain ⟨z2,g2,rfl⟩:=SI Tryz.underlying4 u2;obtain ⟨z3,g3,rfl⟩:=SI Tryz.underlying4 u3;obtain ⟨z4,g4,rfl⟩:=SI Tryz.underlying4 u4
  simp at g0 g1 g2 g3 g4 hx
  obtain ⟨⟨h0,h1,h2,h3,h4⟩,-⟩:=hx;subst g0 g1 g2 g3 g4 h1 h2 h3 h4;rw [h0,M6]
end
theorem qq {l:List Value} (h:l.length=25):l=(l.drop 0).take 5++((l.drop 5).take 5++((l.drop 10).take 5++((l.drop 15).take 5++(l.drop 20).take 5))):=by
 have e:∀n,(l.drop n).take 5++l.drop (n+5)=l.drop n:=fun n=>by rw [←Yc];exact YQ 5 _
 have z:(l.drop 20).take 5=l.drop 20:=Y8 (by rw [ZS];omega);rw [z,e 15,e 10,e 5,e 0,XR]
theorem IT (h : laidMetH Tryz.prog Kb W) : W.var? Tryz.prog "loop.example/s01594/impl.opForms" = some EG.toArray := by
 have h':=(laidMetH_iff.1 h).1;rw [MY] at h'
 have h2 : laidMet Tryz.prog (("loop.example/s01594/impl.opForms", Rows.laid_loop_example_s01594_impl_opForms) :: [("unicode/utf8.first", Rows.laid_unicode_utf8_first)]) W := laidMet.tail (laidMet.tail (laidMet.tail (laidMet.tail (laidMet.tail (laidMet.tail (laidMet.tail h'))))))
 have hg : Tryz.prog.globalNamed "loop.example/s01594/impl.opForms" = some 2 := by kernel_rfl
 have hty:(Tryz.prog.globals[2]?).map (·.type)=some 269:=by kernel_rfl
 obtain ⟨ps,⟨g',t',cs,fuel,p,q,hg',ht',hvar,hd,-,-⟩,-⟩:=h2;obtain rfl:=Zc (hg.symm.trans hg');obtain rfl:=Zc (hty.symm.trans ht');obtain ⟨xs,m,-,hx,hl,hlen,hf⟩:=DataW.trod_array Tryz.underlying269 hd;have Z:cs.toList.length=25:=hl.trans (by kernel_rfl);have e5:Tryz.prog.cellsOf 226=5:=by kernel_rfl
 have hcs:cs.toList=EG:=by
  match xs,hlen with
  | [y0,y1,y2,y3,y4],_ =>
   have f0:=hf 0 (by omega);have f1:=hf 1 (by omega);have f2:=hf 2 (by omega);have f3:=hf 3 (by omega);have f4:=hf 4 (by omega)
   simp only [e5,List.getElem?_cons_zero,Xr] at f0 f1 f2 f3 f4
   have hx1:=ZM Prod.fst hx;unfold Rows.laid_loop_example_s01594_impl_opForms at hx1
   simp at hx1
   obtain ⟨h0,h1,h2,h3,h4⟩:=hx1;obtain ⟨a0,b0⟩:=y0;obtain ⟨a1,b1⟩:=y1;obtain ⟨a2,b2⟩:=y2;obtain ⟨a3,b3⟩:=y3;obtain ⟨a4,b4⟩:=y4
   simp only at h0 h1 h2 h3 h4
   subst h0 h1 h2 h3 h4;have g0:=QI f0;have g1:=QI f1;have g2:=QI f2;have g3:=QI f3;have g4:=QI f4;rw [qq Z]
   simp only [Xg,Uw,show 2*5=10 from rfl,show 3*5=15 from rfl,show 4*5=20 from rfl] at g0 g1 g2 g3 g4
   rw [g0,g1,g2,g3,g4]
   rfl
 rw [hvar,←hcs]
theorem tP : Tryz.prog.globalNamed "loop.example/s01594/impl.opForms" = some 2 := by kernel_rfl
theorem Ci:(Tryz.prog.globals[2]?).map (·.type)=some 269:=by kernel_rfl
theorem L2 {H:Type} (enc:TypeId × Value→H) (W:World) (sp:Nat→Bool):DataW.trod enc Tryz.prog W 0 sp true 4 269 EG.toArray.toList=some (Rows.laid_loop_example_s01594_impl_opForms,[]):=by kernel_rfl
theorem JD (h:laidMetH Tryz.prog Kb W):tp W:=by
 have hcell:=fun i=>Sw tP (IT h) i
 have hc0:=hcell 0;rw [show EG.toArray[0]?=some (EG.getD 0 undef) from rfl] at hc0;refine ⟨ZG W _ hc0,fun j v hv=>?_⟩;rw [Za,hcell j,XK];exact hv
theorem LZ (h : laidMetH Tryz.prog Kb W) : Lib.TabIs Tryz.prog W "loop.example/s01594/impl.crcTable" .u32 [0, 274646895, 549293790, 820201905, 1098587580, 1361435347, 1640403810, 1905808397, 2197175160, 2460548119, 2722870694, 2987750089, 3280807620, 3553878443, 3811616794, 4084100981] := by
 have h':=(laidMetH_iff.1 h).1;rw [MY] at h'
 have h2 : laidMet Tryz.prog (("loop.example/s01594/impl.crcTable", Rows.laid_loop_example_s01594_impl_crcTable) :: [("loop.example/s01594/impl.opForms", Rows.laid_loop_example_s01594_impl_opForms), ("unicode/utf8.first", Rows.laid_unicode_utf8_first)]) W := laidMet.tail (laidMet.tail (laidMet.tail (laidMet.tail (laidMet.tail (laidMet.tail h')))))
 obtain ⟨ps,⟨g',t',cs,fuel,p,q,hg',ht',hvar,hd,-,-⟩,-⟩:=h2;obtain rfl:=Zc (lY.symm.trans hg');obtain rfl:=Zc (Ec.symm.trans ht');unfold Lib.TabIs;rw [hvar,←Lib.cells_of_tab Tryz.underlying152 Tryz.underlying150 cellsE lX (zs:=[0,274646895,549293790,820201905,1098587580,1361435347,1640403810,1905808397,2197175160,2460548119,2722870694,2987750089,3280807620,3553878443,3811616794,4084100981]) (k:=.u32) hd]
theorem GT (h:laidMetH Tryz.prog Kb W) (hsh:W.ShapedOpen Tryz.prog):∃m te pe,qH m te pe W:=by
 obtain ⟨mx,hmx⟩:=GU hsh;obtain ⟨ea,ix⟩:=Eb h;have hT:=LZ h;exact ⟨mx,_,_,⟨fun i hi=>by rw [hT.cell lY i hi];exact tQ i hi,GV h,LO h,⟨hmx,ix⟩,JD h⟩⟩
end Go.Proofs.YtpmjnbmkippaiaaGreatDoor


