import Derived.Test.YtpmjnbmkippaiaaGreatDoorJ07
import Derived.Lib.Overlaps
import Derived.Shelf.Strconv.Itoa4
import Derived.Shelf.Strings.Repeat
set_option maxRecDepth 100000
set_option maxHeartbeats 16000000
set_option linter.unusedVariables false
set_option linter.unusedSimpArgs false
namespace Go.Proofs.YtpmjnbmkippaiaaGreatDoor
section
open Go.RowKit Go.Shelf
variable {p:ByteArray} {z:Int} {nm:List ByteArray} {A B P ns r:List Nd} {os:List TO} {us xs:List Value} {i j k lo lo' m n:Nat} {a b:Nd} {o:TO} {e:TypeId} {v vo:Value} {W W' w w':World}
def rC (w:World) (lo g:Nat) (R:List Nd) (e:Ending) (w':World):Prop :=
 ∃g' c',e=.returned (.slice (some ⟨g',0,none⟩) R.length c')∧XU 147 w' lo (.slice (some ⟨g',0,none⟩) R.length c') R∧∀b,Tw w b (some g) w' (some g')
theorem Dd (w:World) (lo g c b:Nat) (ns:List Nd) (m:Nd) (h:XU 147 w lo (.slice (some ⟨g,0,none⟩) ns.length c) ns) (h0:0<ns.length) (hn:ns.length<1000) (hb:w.heap[b]?=some (.cells (Uu m).toArray 147 (0,0))) (hlo:lo≤w.heap.size) :
    Calls Tryz.prog 250 #[.slice (some ⟨g,0,none⟩) ns.length c,.int .i64 (ns.length:Int),.slice (some ⟨b,0,none⟩) 1 1] w (rC w lo g (ns++[m])):=by
 obtain ⟨i0,hi,hz0,hz1,hz2⟩:=YM Tryz.Mi;obtain ⟨-,hnc,hcm,-⟩:=h.rD;have HO:=ZU h;have HB:=ZU hb;clear h hb;have h01:(0:Int)≤(ns.length:Int):=by omega
 have O:Hid (∀j u,(Uu m)[j]?=some u→w.cell? ((⟨b,0,none⟩:Addr).add j)=some u):=fun j u hu=>by
  rw [YY,Yz w b _ _ _ (0,0) HB.out,XK,Za];exact hu
 rcases Sz ns.length c with hcn | hcn
 all_goals
  go_enter Tryz.func250,Tryz.ntmps250
  go_wp2_with (at_builtin;go_must (refine wpList_append_lies _ rfl _ _ 61 rfl lo 147 i0 _ 7 72 Tryz.underlying61 hi hz0 hz1 hz2 rfl (by decide) _ _ _ rfl HO.out ⟨b,0,none⟩ 1 1 (Uu m) rfl rfl O.out (Pn m) (by omega) (by unfold maxLen;omega) (by omega) hlo w.heap.size rfl ?_))
  intro g3 C w3 ho3 hg3 hat _;have T3:Hid (∀q,Tw w q (some g) w3 (some g3)):=fun q=>⟨hg3.os,hg3.tape,hg3.output,hg3.size,fun k hk _ ho=>hg3.block k hk (fun e=>ho e.symm),by
   rcases hat with e | e
   · exact .inl e.symm
   exact .inr (.inr ⟨_,rfl,by omega⟩)⟩
  have O3:Hid (XU 147 w3 lo (.slice (some ⟨g3,0,none⟩) (ns++[m]).length C) (ns++[m])):=by
   show World.ownsRow _ _ _ _ _ _ _;rw [Wc,ZZ]
   simpa [YE] using ho3
  have HL:Hid ((ns++[m]).length=ns.length+1):=by show _=_;simp
  clear ho3 hg3 hat;go_wp2;refine ZW (v:=.slice (some ⟨g3,0,none⟩) (ns.length+1) C) (by simp [results,Tryz.results250,go_sem]) rfl ⟨g3,C,by rw [HL.out],O3.out,T3.out⟩
theorem Fm (w:World) (lo g c b:Nat) (ns:List Nd) (I:Nat) (m:Nd) (h:XU 147 w lo (.slice (some ⟨g,0,none⟩) ns.length c) ns) (hI:I<ns.length) (hn:ns.length<1000) (hc:c<ns.length+1) (hb:w.heap[b]?=some (.cells (Uu m).toArray 147 (0,0))) (hlo:lo≤w.heap.size) :
    Calls Tryz.prog 250 #[.slice (some ⟨g,0,none⟩) ns.length c,.int .i64 (I:Int),.slice (some ⟨b,0,none⟩) 1 1] w (rC w lo g (ns.take I++m :: ns.drop I)):=by
 obtain ⟨i0,hi,hz0,hz1,hz2⟩:=YM Tryz.Mi;obtain ⟨-,hnc,hcm,X,hg,hX⟩:=h.rD;have hI0:(0:Int)≤(I:Int):=by omega
 have hI2:(I:Int)≤(ns.length:Int):=by omega
 have gJ:¬(I:Int)=(ns.length:Int):=by omega
 have YH:(c:Int)<(ns.length:Int)+1:=by omega
 have eJ:I≤c:=by omega
 have Zt:¬c=I:=by omega
 have HG:=ZU hg;have HX:=ZU hX;have HB:=ZU hb;clear h hg hX hb
 go_enter Tryz.func250,Tryz.ntmps250
 have O:Hid (∀j u,(Uu m)[j]?=some u→w.cell? ((⟨b,0,none⟩:Addr).add j)=some u):=fun j u hu=>by
  rw [YY,Yz w b _ _ _ (0,0) HB.out,XK,Za];exact hu
 have pT:Hid (YE ns=YE (ns.take I)++YE (ns.drop I)):=by show _=_;rw [←Wc,YQ]
 have Ov:Hid ((YE (ns.take I)).length=I*7):=by show _=_;rw [Xw,Zw];omega
 have De:Hid ((YE (ns.drop I)).length=(ns.length - I)*7):=by show _=_;rw [Xw,ZS]
 have hr:=Nk (P:=Tryz.prog) (w:=w) 61 3 61 147 i0 _ .i64 .i64 Tryz.underlying61 Tryz.underlying3 hi hz0 g I c (ns.length+1 - I) (YE (ns.take I)) (by rw [hz1];exact Ov.out) ?h1 (by omega) (by omega) (by omega) (by omega) (by omega)
 case h1 =>
  intro j u hu;rw [YY,Yz w g _ _ _ (0,0) HG.out,XK,pT.out,ZO,Za,Zy (Zh.1 hu).1];exact hu
 rw [show I+(ns.length+1 - I)=ns.length+1 by omega,show ((ns.length+1 - I:Nat):Int)=((ns.length:Int)+1 - (I:Int)) by omega] at hr;have hge:=Tq w (ns.length+1) c 147;have hgm:=We w (ns.length+1) c 147 (by unfold maxLen;omega);generalize grownCap w (ns.length+1) c 147=cap2 at *;obtain ⟨Z,hZ⟩:∃Z:List Value,Z=(Builtin.zeroCells (Value.agg #[.string ByteArray.empty,.string ByteArray.empty,.int .i64 0,.int .i64 0,.int .i64 0,.int .i64 0,.int .i64 0]).cells (ns.length+1 - I)).toList++(Builtin.zeroCells (Value.agg #[.string ByteArray.empty,.string ByteArray.empty,.int .i64 0,.int .i64 0,.int .i64 0,.int .i64 0,.int .i64 0]).cells (cap2 - (ns.length+1))).toList:=⟨_,rfl⟩;have Zr:Hid (Z.length=(cap2 - I)*7):=by
  show _=_;rw [hZ]
  simp only [ZZ,YJ,TN]
  show (ns.length+1 - I)*7+(cap2 - (ns.length+1))*7=_;omega
 obtain ⟨w2,hw2⟩:∃w2,w2=w.drew.alloc (.cells ((YE (ns.take I)).toArray++Builtin.zeroCells (Value.agg #[.string ByteArray.empty,.string ByteArray.empty,.int .i64 0,.int .i64 0,.int .i64 0,.int .i64 0,.int .i64 0]).cells (ns.length+1 - I)++Builtin.zeroCells (Value.agg #[.string ByteArray.empty,.string ByteArray.empty,.int .i64 0,.int .i64 0,.int .i64 0,.int .i64 0,.int .i64 0]).cells (cap2 - (ns.length+1))) 147):=⟨_,rfl⟩;rw [←hw2] at hr;have HG2:Hid (w2.heap[w.heap.size]?=some (.cells (YE (ns.take I)++Z).toArray 147 (0,0))):=by
  show _=_;rw [hw2,hZ];refine (Zs w.drew _).trans ?_
  congr 2
  apply UW
  simp
 have B2:Hid (Zi w w2):=by rw [hw2];exact (below_drewN' w 1).alloc YR _
 clear hw2 hZ;have hcI:¬cap2=I:=by omega
 have hmin:Nat.min 1 (ns.length+1 - I)=1:=YC (by omega);have hbl:b<w.heap.size:=(Z3.1 HB.out).1;have hgl:g<w.heap.size:=(Z3.1 HG.out).1;have hr2:=OV (P:=Tryz.prog) (w:=w2) 61 61 3 147 i0 w.heap.size (I*7) (ns.length+1 - I) (cap2 - I) ⟨b,0,none⟩ 1 1 _ 147 (Uu m) Tryz.underlying61 hi HG2.out (by rw [hmin,hz1];rfl) (fun j u hu=>by rw [B2.out.cell (p:=(⟨b,0,none⟩:Addr).add j) (by rw [YY];exact hbl)];exact O.out j u hu) (by
  rw [ZI,ZZ,Ov.out,Zr.out,show (Uu m).length=7 from rfl];omega) (Pn m)
 rw [hmin] at hr2;obtain ⟨R,hR⟩:∃R:List Value,R=(YE (ns.take I)++Z).drop (I*7+(Uu m).length):=⟨_,rfl⟩;have l:Hid (R.length=(cap2 - (I+1))*7):=by
  show _=_;rw [hR,ZS,ZZ,Ov.out,Zr.out,show (Uu m).length=7 from rfl];omega
 have PQ:(List.take (I*7) (YE (List.take I ns)++Z).toArray.toList++Uu m++List.drop (I*7+(Uu m).length) (YE (List.take I ns)++Z).toArray.toList)=YE (ns.take I)++Uu m++R:=by
  rw [hR]
  congr 2
  show List.take (I*7) (YE (ns.take I)++Z)=_;rw [←Ov.out,W8]
 rw [PQ] at hr2;have oO:=ZU (WB w2 w.heap.size _ (YE (ns.take I)++Uu m++R).toArray 147 (0,0) HG2.out);have B3:Hid (Zi w (w2.setRow w.heap.size (YE (ns.take I)++Uu m++R).toArray)):=Ou B2.out YR _;clear PQ hR;generalize w2.setRow w.heap.size _=w3 at *
 go_wp2_with (first | (at_builtin;go_must (refine Lib.wpList_append_run _ rfl _ _ _ _ rfl _ _ rfl rfl _ _ hr ?_)) | (at_builtin;go_must (refine Nj rfl _ _ _ _ rfl _ _ rfl rfl _ _ hr2 ?_)))
 have Yk:¬cap2=I+1:=by omega
 have hA1:(0:Int)≤(I:Int)+1:=by omega
 have hA2:(I:Int)+1≤(ns.length:Int)+1:=by omega
 have D3:Hid (Zi w w3.drew):=B3.out.trans ((below_drewN' w3 1).mono B3.out.size);have pS:Hid (w3.drew.heap[w.heap.size]?=some (.cells (YE (ns.take I)++Uu m++R).toArray 147 (0,0))):=oO.out;clear hr hr2;refine ZX (S:=fun W=>True) (by kernel_rfl) trivial (fun Z9=>?_);generalize w3.drew=w4 at *;have zP:IntKind.i64.wrap ((I:Int)+1)=(I:Int)+1:=by rw [Zq];omega
 iterate 3 (refine Zf ?_ (by kernel_rfl) (fun _=>id) Z9 ?_ ?_;rotate_left;· intro w9 ZQ;clear ZQ;go_simp;try with_reducible rfl)
 refine Zf (.int .i64 ((I:Int)+1)) (by kernel_rfl) (fun _=>id) Z9 ?_ ?_
 · intro w9 ZQ;clear ZQ;go_simp;try rw [zP]
 refine Zf (.slice (some ⟨w.heap.size,(I+1)*7,none⟩) (ns.length - I) (cap2 - (I+1))) (by kernel_rfl) (fun _=>id) Z9 ?_ ?_
 · intro w9 ZQ;clear ZQ;go_simp
 iterate 3 (refine Zf ?_ (by kernel_rfl) (fun _=>id) Z9 ?_ ?_;rotate_left;· intro w9 ZQ;clear ZQ;go_simp;try with_reducible rfl)
 refine YS 8 rfl (by kernel_rfl) (fun K hK=>?_);rw [Z0 (by kernel_rfl)];have L8:Nat.min (ns.length - I) (ns.length - I)=ns.length - I:=Nat.min_self _;have hr3:=OV (P:=Tryz.prog) (w:=w4) 61 61 3 147 i0 w.heap.size ((I+1)*7) (ns.length - I) (cap2 - (I+1)) ⟨g,I*7,none⟩ (ns.length - I) (c - I) _ 147 (YE (ns.drop I)) Tryz.underlying61 hi pS.out (by rw [L8,hz1];exact De.out) (fun j u hu=>by
  rw [D3.out.cell (p:=(⟨g,I*7,none⟩:Addr).add j) (by rw [YY];exact hgl),YY,Yz w g _ _ _ (0,0) HG.out,XK,pT.out,ZO,Zv (by rw [Ov.out];omega),Ov.out,show I*7+j - I*7=j by omega,Zy (Zh.1 hu).1];exact hu) (by
  rw [De.out,ZI,ZZ,ZZ,Ov.out,l.out,show (Uu m).length=7 from rfl];omega) (OU _)
 rw [L8] at hr3;refine Ky (.tmp 50) (.tmp 53) _ _ (by kernel_rfl) _ _ (by kernel_rfl) (by kernel_rfl) _ _ hr3 ?_;refine hK.out _ _ trivial (fun Z9=>?_);clear hK K hr3;have Zl:Hid ((YE (ns.take I)++Uu m).length=(I+1)*7):=by show _=_;rw [ZZ,Ov.out,show (Uu m).length=7 from rfl];omega
 have ym:Hid (∀Y:List Value,List.take ((I+1)*7) (YE (ns.take I)++Uu m++R).toArray.toList++YE (ns.drop I)++Y=YE (ns.take I++m :: ns.drop I)++Y):=fun Y=>by
  show List.take ((I+1)*7) (YE (ns.take I)++Uu m++R)++YE (ns.drop I)++Y=_;rw [←Zl.out,W8,Wc,Ut]
  simp only [ZO]
 have Zk:=ZU (WB w4 w.heap.size _ (List.take ((I+1)*7) (YE (ns.take I)++Uu m++R).toArray.toList++YE (ns.drop I)++List.drop ((I+1)*7+(YE (ns.drop I)).length) (YE (ns.take I)++Uu m++R).toArray.toList).toArray 147 (0,0) pS.out);have B5:Hid (Zi w (w4.setRow w.heap.size (List.take ((I+1)*7) (YE (ns.take I)++Uu m++R).toArray.toList++YE (ns.drop I)++List.drop ((I+1)*7+(YE (ns.drop I)).length) (YE (ns.take I)++Uu m++R).toArray.toList).toArray)):=Ou D3.out YR _;generalize w4.setRow w.heap.size _=w5 at *;rw [ym.out] at Zk;refine ZR (by kernel_rfl) ?_ _
 simp only [Act.put,WV,WU,WT]
 clear Z9 ym;have DJ:Hid ((ns.take I++m :: ns.drop I).length=ns.length+1):=by show _=_;simp only [ZZ,Zw,ZE,ZS];omega
 go_wp2;refine ZW (v:=.slice (some ⟨w.heap.size,0,none⟩) (ns.length+1) cap2) (by simp [results,Tryz.results250,go_sem]) rfl ⟨w.heap.size,cap2,by rw [DJ.out],?_,fun q=>⟨B5.out.os,B5.out.tape,B5.out.output,B5.out.size,fun k hk _ _=>B5.out.block k hk,.inr (.inr ⟨_,rfl,YR⟩)⟩⟩;refine XU.gK hlo (by rw [DJ.out];exact hge) hgm Zk.out ?_;rw [ZZ,Xw,DJ.out,ZS,De.out];show (ns.length+1)*7+((YE (ns.take I)++Uu m++R).length - _)=_;rw [ZZ,Zl.out,l.out];omega
theorem Fl (w:World) (lo g c b:Nat) (ns:List Nd) (I:Nat) (m:Nd) (h:XU 147 w lo (.slice (some ⟨g,0,none⟩) ns.length c) ns) (hI:I<ns.length) (hn:ns.length<1000) (hc:ns.length+1≤c) (hbg:b≠g) (hb:w.heap[b]?=some (.cells (Uu m).toArray 147 (0,0))) :
    Calls Tryz.prog 250 #[.slice (some ⟨g,0,none⟩) ns.length c,.int .i64 (I:Int),.slice (some ⟨b,0,none⟩) 1 1] w (rC w lo g (ns.take I++m :: ns.drop I)):=by
 obtain ⟨i0,hi,hz0,hz1,hz2⟩:=YM Tryz.Mi;obtain ⟨lD,hnc,hcm,X,hg,hX⟩:=h.rD;have hI0:(0:Int)≤(I:Int):=by omega
 have hI2:(I:Int)≤(ns.length:Int):=by omega
 have gJ:¬(I:Int)=(ns.length:Int):=by omega
 have YH:¬(c:Int)<(ns.length:Int)+1:=by omega
 have Yb:(ns.length:Int)+1≤(c:Int):=by omega
 have Ya:(0:Int)≤(ns.length:Int)+1:=by omega
 have eJ:I≤c:=by omega
 have Zt:¬c=I:=by omega
 have Yj:¬c=I+1:=by omega
 have hA1:(0:Int)≤(I:Int)+1:=by omega
 have hA2:(I:Int)+1≤(ns.length:Int)+1:=by omega
 have hA3:¬(ns.length:Int)+1<(I:Int):=by omega
 have HG:=ZU hg;have HX:=ZU hX;have HB:=ZU hb;clear h hg hX hb;have O:Hid (∀j u,(Uu m)[j]?=some u→w.cell? ((⟨b,0,none⟩:Addr).add j)=some u):=fun j u hu=>by
  rw [YY,Yz w b _ _ _ (0,0) HB.out,XK,Za];exact hu
 have pT:Hid (YE ns=YE (ns.take I)++YE (ns.drop I)):=by show _=_;rw [←Wc,YQ]
 have Ov:Hid ((YE (ns.take I)).length=I*7):=by show _=_;rw [Xw,Zw];omega
 have De:Hid ((YE (ns.drop I)).length=(ns.length - I)*7):=by show _=_;rw [Xw,ZS]
 have Zg:∀w,(Go.sizeOf 147).run Tryz.prog w=.ok 7 w:=fun w=>by simp [Go.sizeOf,typeInfo,hi,hz1]
 have hov:∀lb cb,(callFunc 267 #[.slice (some ⟨b,0,none⟩) 1 1,.slice (some ⟨g,(I+1)*7,none⟩) lb cb]).run Tryz.prog w=.ok (.value (.bool false)) w:=fun lb cb=>by
  rw [Un Tryz.func267 (by kernel_rfl) (by kernel_rfl) (by kernel_rfl) (e:=Extern.SlicesOverlaps.overlaps #[61,61] #[4]) (by kernel_rfl),
   Lib.run_overlaps_apart w 61 4 147 Tryz.underlying61 7 Zg ⟨b,0,none⟩ ⟨g,(I+1)*7,none⟩ 1 1 lb cb hbg 147 147 7 (c*7) (by simp [World.shape?,HB.out];rfl) (by have:=HX.out;simp [World.shape?,HG.out];simpa using this) (by omega) (frozen_of_row w b _ _ _ HB.out) (frozen_of_row w b _ _ _ HB.out)]
  rfl
 go_enter Tryz.func250,Tryz.ntmps250
 go_wp2_with fail
 clear hov;have D1:Hid (Zi w w.drew):=below_drewN' w 1;have hgl:g<w.heap.size:=(Z3.1 HG.out).1;have hbl:b<w.heap.size:=(Z3.1 HB.out).1;have wG:Hid (w.drew.heap[g]?=some (.cells (YE ns++X).toArray 147 (0,0))):=HG.out;refine ZX (S:=fun W=>True) (by kernel_rfl) trivial (fun Z9=>?_);generalize w.drew=w1 at *;have zP:IntKind.i64.wrap ((I:Int)+1)=(I:Int)+1:=by rw [Zq];omega
 iterate 3 (refine Zf ?_ (by kernel_rfl) (fun _=>id) Z9 ?_ ?_;rotate_left;· intro w9 ZQ;clear ZQ;go_simp;try with_reducible rfl)
 refine Zf (.int .i64 ((I:Int)+1)) (by kernel_rfl) (fun _=>id) Z9 ?_ ?_
 · intro w9 ZQ;clear ZQ;go_simp;try rw [zP]
 refine Zf (.slice (some ⟨g,(I+1)*7,none⟩) (ns.length - I) (c - (I+1))) (by kernel_rfl) (fun _=>id) Z9 ?_ ?_
 · intro w9 ZQ;clear ZQ;go_simp
 iterate 2 (refine Zf ?_ (by kernel_rfl) (fun _=>id) Z9 ?_ ?_;rotate_left;· intro w9 ZQ;clear ZQ;go_simp;try with_reducible rfl)
 refine Zf (.slice (some ⟨g,I*7,none⟩) (ns.length+1 - I) (c - I)) (by kernel_rfl) (fun _=>id) Z9 ?_ ?_
 · intro w9 ZQ;clear ZQ;go_simp
 refine YS 8 rfl (by kernel_rfl) (fun K hK=>?_);rw [Z0 (by kernel_rfl)];have L8:Nat.min (ns.length+1 - I) (ns.length - I)=ns.length - I:=Nat.min_eq_right (by omega);obtain ⟨R,hR⟩:∃R:List Value,R=(YE ns++X).drop ((ns.length+1)*7):=⟨_,rfl⟩;have l:Hid (R.length=(c - (ns.length+1))*7):=by
  show _=_;have:=HX.out;rw [hR,ZS];omega
 have hr1:=OV (P:=Tryz.prog) (w:=w1) 61 61 3 147 i0 g ((I+1)*7) (ns.length - I) (c - (I+1)) ⟨g,I*7,none⟩ (ns.length+1 - I) (c - I) _ 147 (YE (ns.drop I)) Tryz.underlying61 hi wG.out (by rw [L8,hz1];exact De.out) (fun j u hu=>by
  rw [YY,Yz w1 g _ _ _ (0,0) wG.out,XK,pT.out,ZO,Zv (by rw [Ov.out];omega),Ov.out,show I*7+j - I*7=j by omega,Zy (Zh.1 hu).1];exact hu) (by
  have:=HX.out;rw [De.out,ZI];omega) (OU _)
 rw [L8] at hr1;obtain ⟨Q7,ZD⟩:∃Q7:List Value,(YE ns++X).take ((I+1)*7)=YE (ns.take I)++Q7∧Q7.length=7:=by
  refine ⟨((YE ns++X).take ((I+1)*7)).drop (I*7),?_,?_⟩
  · have e:YE (ns.take I)=((YE ns++X).take ((I+1)*7)).take (I*7):=by
     rw [U6,YC (by omega),pT.out,ZO,←Ov.out,W8]
    conv=>rhs;rw [e]
    exact (YQ _ _).symm
  have:=HX.out;rw [ZS,Zw];omega
 have PQ:List.take ((I+1)*7) (YE ns++X).toArray.toList++YE (List.drop I ns)++List.drop ((I+1)*7+(YE (List.drop I ns)).length) (YE ns++X).toArray.toList=YE (ns.take I)++Q7++YE (ns.drop I)++R:=by
  rw [hR,De.out,show (I+1)*7+(ns.length - I)*7=(ns.length+1)*7 by omega];show List.take ((I+1)*7) (YE ns++X)++_++_=_;rw [ZD.1]
 rw [PQ] at hr1;refine Ky (.tmp 73) (.tmp 76) _ _ (by kernel_rfl) _ _ (by kernel_rfl) (by kernel_rfl) _ _ hr1 ?_;refine hK.out _ _ trivial (fun Z9=>?_);clear hK K hr1 PQ hR;have HQ:=ZU ZD.2;clear ZD;have HG2:=ZU (WB w1 g _ (YE (ns.take I)++Q7++YE (ns.drop I)++R).toArray 147 (0,0) wG.out);have T2:Hid (∀q,Tw w q (some g) (w1.setRow g (YE (ns.take I)++Q7++YE (ns.drop I)++R).toArray) (some g)):=fun q=>(Tw.YZ D1.out q (some g)).row
 generalize w1.setRow g _=w2 at *;refine ZR (by kernel_rfl) ?_ _
 simp only [Act.put,WV,WU,WT]
 clear Z9;have hmin:Nat.min 1 (ns.length+1 - I)=1:=YC (by omega);have hr2:=OV (P:=Tryz.prog) (w:=w2) 61 61 3 147 i0 g (I*7) (ns.length+1 - I) (c - I) ⟨b,0,none⟩ 1 1 _ 147 (Uu m) Tryz.underlying61 hi HG2.out (by rw [hmin,hz1];rfl) (fun j u hu=>by
  refine (ZP (w:=w) (a:=(⟨b,0,none⟩:Addr).add j) ?_).trans (O.out j u hu);rw [YY];exact (T2.out g).block b hbl hbg (fun e=>hbg (Zc e).symm)) (by
  rw [ZI,ZZ,ZZ,ZZ,Ov.out,HQ.out,De.out,l.out,show (Uu m).length=7 from rfl];omega) (Pn m)
 rw [hmin] at hr2;have PQ:List.take (I*7) (YE (ns.take I)++Q7++YE (ns.drop I)++R).toArray.toList++Uu m++List.drop (I*7+(Uu m).length) (YE (ns.take I)++Q7++YE (ns.drop I)++R).toArray.toList=YE (ns.take I++m :: ns.drop I)++R:=by
  show List.take (I*7) (YE (ns.take I)++Q7++YE (ns.drop I)++R)++Uu m++List.drop (I*7+7) (YE (ns.take I)++Q7++YE (ns.drop I)++R)=_;have hD:List.drop (I*7+7) (YE (ns.take I)++Q7)=[]:=XS (by rw [ZZ,Ov.out,HQ.out];omega);have hT:List.take (I*7) (YE (ns.take I)++(Q7++(YE (ns.drop I)++R)))=YE (ns.take I):=by rw [←Ov.out,W8]
  rw [Wc,Ut,ZO (YE (ns.take I)++Q7),List.drop_append_of_le_length (by rw [ZZ,Ov.out,HQ.out];omega),hD,ZO (YE (ns.take I)),hT]
  simp only [ZO,Zd]
 rw [PQ] at hr2;have oO:=ZU (WB w2 g _ (YE (ns.take I++m :: ns.drop I)++R).toArray 147 (0,0) HG2.out);have T3:Hid (∀q,Tw w q (some g) (w2.setRow g (YE (ns.take I++m :: ns.drop I)++R).toArray) (some g)):=fun q=>(T2.out q).row
 clear PQ;generalize w2.setRow g _=w3 at *;have DJ:Hid ((ns.take I++m :: ns.drop I).length=ns.length+1):=by show _=_;simp only [ZZ,Zw,ZE,ZS];omega
 go_wp2_with (at_builtin;go_must (refine Nj rfl _ _ _ _ rfl _ _ rfl rfl _ _ hr2 ?_))
 refine ZW (v:=.slice (some ⟨g,0,none⟩) (ns.length+1) c) (by simp [results,Tryz.results250,go_sem]) rfl ⟨g,c,by rw [DJ.out],?_,T3.out⟩;refine XU.gK lD (by rw [DJ.out];exact hc) hcm oO.out ?_;rw [ZZ,Xw,DJ.out,l.out];omega
theorem Dc (w:World) (lo g c b:Nat) (ns:List Nd) (I:Nat) (m:Nd) (h:XU 147 w lo (.slice (some ⟨g,0,none⟩) ns.length c) ns) (h0:0<ns.length) (hI:I≤ns.length) (hn:ns.length<1000) (hbg:b≠g) (hb:w.heap[b]?=some (.cells (Uu m).toArray 147 (0,0))) (hlo:lo≤w.heap.size) :
    Calls Tryz.prog 250 #[.slice (some ⟨g,0,none⟩) ns.length c,.int .i64 (I:Int),.slice (some ⟨b,0,none⟩) 1 1] w (rC w lo g (ns.take I++m :: ns.drop I)):=by
 by_cases hE:I=ns.length
 · subst hE
   rw [Xp,List.drop_length];exact Dd w lo g c b ns m h h0 hn hb hlo
 rcases Sz c (ns.length+1) with hc | hc
 · exact Fm w lo g c b ns I m h (by omega) hn hc hb hlo
 exact Fl w lo g c b ns I m h (by omega) hn hc hbg hb
theorem Db {H L H' L':List UInt8} (h:H++47 :: L=H'++47 :: L') (h1:(47:UInt8) ∉ L) (h2:(47:UInt8) ∉ L'):H=H':=by
 rcases List.append_eq_append_iff.1 h with ⟨zs,e1,e2⟩ | ⟨zs,e1,e2⟩
 · cases zs with
   | nil=>simpa using e1.symm
   | cons x zs =>
    simp only [Y3,SG] at e2
    exact absurd (by rw [e2.2];simp) h1
 cases zs with
 | nil=>simpa using e1
 | cons x zs =>
  simp only [Y3,SG] at e2
  exact absurd (by rw [e2.2];simp) h2
theorem vV:∀f v d,(47:UInt8) ∉ six f v d
 | 0,_,_=>by simp [six]
 | f+1,v,d=>by
  unfold six
  split
  · simp
  intro h
  rcases Y4.1 h with h | h
  · exact vV f _ _ h
  simp only [Vk] at h
  have h9:=ZM UInt8.toNat h;have h8:(47:UInt8).toNat=47:=rfl;rw [h8,UInt8.toNat_ofNat'] at h9;have:v % 10<10:=Wg _ (by omega);omega
theorem vU (h:Xi o.path=true) (h':Xi (Uz ns o)=true):UZ (Uz ns o)=UZ o.path:=by
 unfold Uz at *
 split
 · rename_i hs
   rw [Z0 hs] at h';obtain ⟨a1,a0⟩:=Pz h;obtain ⟨b1,b0⟩:=Pz h';have ea:=Og a1 a0;have eb:=Og b1 b0;have hno:=vV 12 (Ye ns (ns.findIdx (U9 (UZ o.path)))).XQ.toNat 6;generalize six 12 (Ye ns (ns.findIdx (U9 (UZ o.path)))).XQ.toNat 6=d6 at *;have e:Qo ⟨(o.path.data.toList++d6).toArray⟩=Qo o.path:=by
    refine Db (L:=Ld ⟨(o.path.data.toList++d6).toArray⟩) (L':=Ld o.path++d6) ?_ (It _) ?_
    · rw [←eb]
      show o.path.data.toList++d6=_;rw [ea]
      simp
    intro hm
    rcases Y4.1 hm with hm | hm
    · exact It _ hm
    exact hno hm
   unfold UZ Is;rw [e]
 rfl
theorem vT (h:Asc ns) {n:Nd} (hl:¬ns.findIdx (U9 n.path)<ns.length):LU ns n=ns.take (Tx ns n.path)++n :: ns.drop (Tx ns n.path):=by
 rw [LE n h];have:Nx ns n.path (Tx ns n.path)=false:=by
  cases hf:Nx ns n.path (Tx ns n.path) with
  | false=>rfl
  | true=>exact absurd (by rw [(Nl hf).1];exact (Nl hf).2) hl
 unfold Im;rw [this]
 simp
theorem Hr (w:World) (D lo:Nat) (z:Int) (v:Value) (ns:List Nd) (o:TO) (h:Df w D lo z v ns) (hw:OK o=true) (hk:o.kind=1) (hz:PP z=true) (hlo:lo≤w.heap.size)
    (J:∀W,Zi w W→∀n:Int,0≤n→n≤2147483647→Calls Tryz.prog 249 #[.int .i64 n] W (Wj W (.string ⟨(six 12 n.toNat 6).toArray⟩))) :
    Calls Tryz.prog 229 #[.pointer (some ⟨D,0,none⟩),.agg #[.int .i64 o.kind,.string o.path,.string o.data,.int .i64 o.XT,.bool o.seq]] w (JP w D lo z v (Rx ns o z)):=by
 have hlt:=h.s.lt;have ND:Hid (∀q,v.ownBlock=some q→lo≤q∧q<w.heap.size):=ZT h.o;have lF:=ZU (Fo hw);have HZ:=ZU hz;have lC:=ZU J;have Z6:Hid (Rx ns o z=if ¬ns.findIdx (U9 (UZ o.path))<ns.length then (2,ns,⟨#[]⟩)
  else if !Xi (Uz ns o) then (1,ns,⟨#[]⟩)
  else if ns.findIdx (U9 (Uz ns o))<ns.length then (3,ns,⟨#[]⟩)
  else if ns.length=1000 then (6,ns,⟨#[]⟩)
  else (0,toN (LU ns ⟨Uz ns o,o.data,0,0,z,z,z⟩) (UZ o.path) z,Uz ns o)):=by
  show _=_;unfold Rx;rw [hw,Z1 (show ¬(!true)=true by decide),Z0 hk]
 obtain ⟨FD,nJ⟩:∃b,b=decide (ns.findIdx (U9 (UZ o.path))<ns.length):=⟨_,rfl⟩;have HP:Hid (∀W,Calls Tryz.prog 195 #[.string o.path] W fun e w'=>e=.returned (.string (UZ o.path))∧w'=W):=fun W=>Sq W _ lF.out.1
 have HF:Hid (∀W,Zi w W→Calls Tryz.prog 115 #[v,.string (UZ o.path)] W (Wj W (.tuple #[.int .i64 (Tx ns (UZ o.path):Int),.bool FD]))):=fun W hW=>by
  rw [nJ];exact Fr W v ns _ (h.o.below hW).rd h.n
 have rF:=ZU nJ;have B0:Hid (Zi w (w.alloc (.cells #[.int .i64 o.kind,.string o.path,.string o.data,.int .i64 o.XT,.bool o.seq] 159))):=Yy.alloc YR _;have XO:Hid (St (w.alloc (.cells #[.int .i64 o.kind,.string o.path,.string o.data,.int .i64 o.XT,.bool o.seq] 159)) w.heap.size [.int .i64 o.kind,.string o.path,.string o.data,.int .i64 o.XT,.bool o.seq]):=St.new _ _ _;have XD:=ZU (h.below B0.out);have YF:Hid (∀W,Zi w W→Df W D lo z v ns):=fun W hW=>h.below hW
 clear h hw hk hz J nJ
 go_enter Tryz.func229,Tryz.ntmps229
 go_wp2_with fail
 generalize w.alloc _=w0 at *;have B1:Hid (Zi w w0.drew):=B0.out.trans ((below_drewN' w0 1).mono B0.out.size);have X1:Hid (St w0.drew w.heap.size [.int .i64 o.kind,.string o.path,.string o.data,.int .i64 o.XT,.bool o.seq]):=XO.out.below (below_drewN' w0 1);have D1:Hid (Df w0.drew D lo z v ns):=XD.out.below (below_drewN' w0 1);clear B0 XO XD;refine ZX (S:=fun W=>W.cell? ⟨D,0,none⟩=some v∧W.cell? ⟨w.heap.size,1,none⟩=some (.string o.path)) (by kernel_rfl) ⟨D1.out.s.cl 0 _ rfl,X1.out.cl 1 _ rfl⟩ (fun Z9=>?_);generalize w0.drew=w1 at *
 iterate 6 (refine Zf ?_ (by kernel_rfl) (fun _=>id) Z9 ?_ ?_;rotate_left;· intro w9 ZQ;obtain ⟨k0,k1⟩:=ZQ;go_simp;try with_reducible rfl)
 refine YS 6 rfl (by kernel_rfl) (fun K hK=>?_);go_simp;refine (HP.out _).mono ?_;rintro e w2 ⟨rfl,rfl⟩;clear Z9;refine hK.out _ _ ⟨D1.out.s.cl 0 _ rfl,X1.out.cl 1 _ rfl⟩ (fun Z9=>?_);clear hK K;refine YS 7 rfl (by kernel_rfl) (fun K hK=>?_);go_simp;refine (HF.out _ B1.out).mono ?_;rintro e w2 ⟨rfl,b2⟩;have B2:=ZU (WD B1.out b2);have D2:=ZU (D1.out.below b2);have X2:=ZU (X1.out.below b2);clear Z9 b2;refine hK.out _ _ ⟨D2.out.s.cl 0 _ rfl,X2.out.cl 1 _ rfl⟩ (fun Z9=>?_);clear hK K B1 D1 X1 HF HP
 iterate 5 (refine Zf ?_ (by kernel_rfl) (fun _=>id) Z9 ?_ ?_;rotate_left;· intro w9 ZQ;clear ZQ;go_simp;try with_reducible rfl)
 refine ZR (by kernel_rfl) ?_ _
 simp only [Act.put,WV,WU,WT]
 clear Z9
 cases FD with
 | false =>
  have hf:¬ns.findIdx (U9 (UZ o.path))<ns.length:=of_decide_eq_false rF.out.symm;have HE:=ZU (Z6.out.trans (Z0 hf));clear hf rF Z6
  go_wp2_with fail
  rw [HE.out];exact ZW (v:=.tuple #[.string ByteArray.empty,Sp 2]) (by simp [results,Tryz.results229,go_sem,Sp];try rfl) rfl ⟨_,rfl,D2.out,Tw.YZ B2.out _ _⟩
 | true =>
  have hf:ns.findIdx (U9 (UZ o.path))<ns.length:=Wm rF.out.symm;have HD2:=ZU (Z6.out.trans (Z1 (fun h=>h hf)));have hpl:=(Po D2.out.n.1 hf).2;rw [hpl];clear hpl rF Z6;obtain ⟨I,hI⟩:∃I,I=ns.findIdx (U9 (UZ o.path)):=⟨_,rfl⟩;rw [←hI] at hf ⊢;have HI:=ZU hI;clear hI;have hL:(I:Int)<(ns.length:Int):=by omega
  have hg0:(0:Int)≤(I:Int):=by omega
  obtain ⟨g,gc,hv,lD,hgl,hce⟩:=D2.out.o.at hf;subst hv;have c0:=D2.out.s.cl 0 _ rfl;have x1:=X2.out.cl 1 _ rfl;have x4:=X2.out.cl 4 _ rfl;have k3:=(hce I hf).all.2.2.2.1;have hcv:0≤(Ye ns I).XQ∧(Ye ns I).XQ≤2147483647:=by
   have:=D2.out.n.2.1 (Ye ns I) (by rw [WF hf];exact YP hf);have:=TX this;omega
  have Z5:=ZU (lC.out w2 B2.out _ hcv.1 hcv.2);have ZB:Hid (Uz ns o=if o.seq then ⟨(o.path.data.toList++six 12 (Ye ns I).XQ.toNat 6).toArray⟩ else o.path):=by show _=_;rw [HI.out];rfl
  clear hce hcv lC;have Ze:Hid (∃t6:ByteArray,t6=⟨(six 12 (Ye ns I).XQ.toNat 6).toArray⟩∧t6.size≤12∧(o.seq=true→o.path++t6=Uz ns o)):=by
   refine ⟨_,rfl,?_,fun hs=>?_⟩
   · have:=Bp 12 (Ye ns I).XQ.toNat 6
     show (six 12 (Ye ns I).XQ.toNat 6).toArray.size≤12;rw [ZI];exact this
   rw [ZB.out,Z0 hs];apply WM;rw [Yd];apply UW
   simp
  obtain ⟨t6,Zb,X',Y'⟩:=Ze.out;have hps:=(PB lF.out.1);have lB:Hid (Xi (Uz ns o)=true→UZ (Uz ns o)=UZ o.path):=fun h9=>vU lF.out.1 h9
  rw [←Zb] at Z5;have sW:Hid (o.seq=false→o.path=Uz ns o):=fun hs=>by rw [ZB.out,hs];rfl
  clear Zb Ze ZB;have Oc:Hid ((o.seq=true→o.path++t6=Uz ns o)∧(o.seq=false→o.path=Uz ns o)):=⟨Y',sW.out⟩;clear Y' sW;have hcc:o.path.size+t6.size≤9223372036854775807:=by omega
  have ym:Hid (∀W,Zi w W→Calls Tryz.prog 115 #[.slice (some ⟨g,0,none⟩) ns.length gc,.string (Uz ns o)] W (Wj W (.tuple #[.int .i64 (Tx ns (Uz ns o):Int),.bool (decide (ns.findIdx (U9 (Uz ns o))<ns.length))]))):=fun W hW=>Fr W _ ns _ ((YF.out W hW).o.rd) D2.out.n
  rcases Bool.eq_false_or_eq_true o.seq with G | G
  have Z4:=Oc.out.1 G;rw [G] at x4
  go_wp2_with (go_at_call 249;refine Z5.out.mono ?_;rintro e w3 ⟨rfl,b3⟩)
  have B3:=ZU (WD B2.out b3);have X3:=ZU (X2.out.below b3);have D3:=ZU (D2.out.below b3);clear Z4 Oc b3 B2 X2 D2 Z5 c0 x1 x4 k3 G;generalize Uz ns o=N at *
  rotate_left
  have Z4:=ZU (Oc.out.2 G);rw [G] at x4
  go_wp2_with fail
  rw [Z4.out];have B3:=B2;have X3:=X2;have D3:=D2;clear Z4 Oc B2 X2 D2 Z5 c0 x1 x4 k3 G;generalize Uz ns o=N at *
  all_goals
   refine (Qd _ N).mono ?_;rintro e w4 ⟨rfl,b4⟩;have B4:=ZU (WD B3.out b4);have X4:=ZU (X3.out.below b4);have D4:=ZU (D3.out.below b4);clear b4 B3 X3 D3
   cases hok:Xi N with
   | false =>
    have HE:=ZU (HD2.out.trans (Z0 (by rw [hok];rfl)));clear hok HD2
    go_wp2_with fail
    rw [HE.out];exact ZW (v:=.tuple #[.string ByteArray.empty,Sp 1]) (by simp [results,Tryz.results229,go_sem,Sp];try rfl) rfl ⟨_,rfl,D4.out,Tw.YZ B4.out _ _⟩
   | true =>
    have HD3:=ZU (HD2.out.trans (Z1 (by rw [hok];decide)));have Y8:=ZU (lB.out hok);have PX:=ZU hok;clear hok HD2 lB;have c0:=D4.out.s.cl 0 _ rfl
    go_wp2_with fail
    refine (ym.out _ B4.out).mono ?_;rintro e w5 ⟨rfl,b5⟩;have B5:=ZU (WD B4.out b5);have X5:=ZU (X4.out.below b5);have D5:=ZU (D4.out.below b5);clear b5 B4 X4 D4 c0 ym
    by_cases hfn:ns.findIdx (U9 N)<ns.length
    · rw [Zm hfn]
      have HE:=ZU (HD3.out.trans (Z0 hfn));clear HD3 hfn
      go_wp2_with fail
      rw [HE.out];exact ZW (v:=.tuple #[.string ByteArray.empty,Sp 3]) (by simp [results,Tryz.results229,go_sem,Sp];try rfl) rfl ⟨_,rfl,D5.out,Tw.YZ B5.out _ _⟩
    rw [Zo hfn];have HD4:=ZU (HD3.out.trans (Z1 hfn));have Y7:=ZU hfn;clear HD3 hfn;have c0:=D5.out.s.cl 0 _ rfl
    by_cases hfl:ns.length=1000
    · have HE:=ZU (HD4.out.trans (Z0 hfl))
      clear HD4;have hge:(1000:Int)≤(ns.length:Int):=by omega
      go_wp2_with fail
      rw [HE.out];exact ZW (v:=.tuple #[.string ByteArray.empty,Sp 6]) (by simp [results,Tryz.results229,go_sem,Sp];try rfl) rfl ⟨_,rfl,D5.out,Tw.YZ B5.out _ _⟩
    have HE:=ZU (HD4.out.trans (Z1 hfl));clear HD4;have ey:=D5.out.n.2.2;have hge:¬(1000:Int)≤(ns.length:Int):=by omega
    go_wp2_with fail
    clear c0;have D6:Hid (Df w5.drew D lo z (.slice (some ⟨g,0,none⟩) ns.length gc) ns):=D5.out.below (below_drewN' w5 1);have X6:Hid (St w5.drew w.heap.size [.int .i64 o.kind,.string o.path,.string o.data,.int .i64 o.XT,.bool o.seq]):=X5.out.below (below_drewN' w5 1);have B6:Hid (Zi w w5.drew):=B5.out.trans ((below_drewN' w5 1).mono B5.out.size);clear D5 X5 B5;have c6:=D6.out.s.cl 0 _ rfl;have B7:Hid (Below w5.drew.heap.size w5.drew (w5.drew.alloc (.cells #[.string N,.string o.data,.int .i64 0,.int .i64 0,.int .i64 z,.int .i64 z,.int .i64 z] 147))):=Yy.alloc YR _;have YB:Hid ((w5.drew.alloc (.cells #[.string N,.string o.data,.int .i64 0,.int .i64 0,.int .i64 z,.int .i64 z,.int .i64 z] 147)).heap[w5.drew.heap.size]?=some (.cells (Uu ⟨N,o.data,0,0,z,z,z⟩).toArray 147 (0,0))):=Zs _ _;have c7:=(D6.out.below B7.out).s.cl 0 _ rfl;refine ZX (S:=fun W=>W.cell? ⟨D,1,none⟩=some (.int .i64 z)∧W.cell? ⟨w.heap.size,2,none⟩=some (.string o.data)) (by kernel_rfl) ⟨D6.out.s.cl 1 _ rfl,X6.out.cl 2 _ rfl⟩ (fun Z9=>?_);generalize w5.drew=w6 at *
    iterate 4 (refine Zf ?_ (by kernel_rfl) (fun _=>id) Z9 ?_ ?_;rotate_left;· intro w9 ZQ;obtain ⟨k1,k2⟩:=ZQ;go_simp;try with_reducible rfl)
    refine Yp 5 ?_ rfl (by kernel_rfl) (fun _=>id) Z9 ?_ ?_;rotate_left;· intro w9 ZQ;obtain ⟨k1,k2⟩:=ZQ;go_simp;try with_reducible rfl;refine Yp 6 ?_ rfl (by kernel_rfl) (fun _=>id) Z9 ?_ ?_;rotate_left;· intro w9 ZQ;obtain ⟨k1,k2⟩:=ZQ;go_simp;try with_reducible rfl;refine Yp 7 ?_ rfl (by kernel_rfl) (fun _=>id) Z9 ?_ ?_;rotate_left;· intro w9 ZQ;obtain ⟨k1,k2⟩:=ZQ;go_simp;try with_reducible rfl;refine Yp 8 ?_ rfl (by kernel_rfl) (fun _=>id) Z9 ?_ ?_;rotate_left;· intro w9 ZQ;obtain ⟨k1,k2⟩:=ZQ;go_simp;try with_reducible rfl;refine Yp 9 ?_ rfl (by kernel_rfl) (fun _=>id) Z9 ?_ ?_;rotate_left;· intro w9 ZQ;obtain ⟨k1,k2⟩:=ZQ;go_simp;try with_reducible rfl;refine Yp 10 ?_ rfl (by kernel_rfl) (fun _=>id) Z9 ?_ ?_;rotate_left;· intro w9 ZQ;obtain ⟨k1,k2⟩:=ZQ;go_simp;try with_reducible rfl;refine Yp 11 ?_ rfl (by kernel_rfl) (fun _=>id) Z9 ?_ ?_;rotate_left;· intro w9 ZQ;obtain ⟨k1,k2⟩:=ZQ;go_simp;try with_reducible rfl;refine Yp 12 ?_ rfl (by kernel_rfl) (fun _=>id) Z9 ?_ ?_;rotate_left;· intro w9 ZQ;obtain ⟨k1,k2⟩:=ZQ;go_simp;try with_reducible rfl;refine Yp 13 ?_ rfl (by kernel_rfl) (fun _=>id) Z9 ?_ ?_;rotate_left;· intro w9 ZQ;obtain ⟨k1,k2⟩:=ZQ;go_simp;try with_reducible rfl;refine Yp 14 ?_ rfl (by kernel_rfl) (fun _=>id) Z9 ?_ ?_;rotate_left;· intro w9 ZQ;obtain ⟨k1,k2⟩:=ZQ;go_simp;try with_reducible rfl;refine Yp 15 ?_ rfl (by kernel_rfl) (fun _=>id) Z9 ?_ ?_;rotate_left;· intro w9 ZQ;obtain ⟨k1,k2⟩:=ZQ;go_simp;try with_reducible rfl;refine Yp 16 ?_ rfl (by kernel_rfl) (fun _=>id) Z9 ?_ ?_;rotate_left;· intro w9 ZQ;obtain ⟨k1,k2⟩:=ZQ;go_simp;try with_reducible rfl;refine Yp 17 ?_ rfl (by kernel_rfl) (fun _=>id) Z9 ?_ ?_;rotate_left;· intro w9 ZQ;obtain ⟨k1,k2⟩:=ZQ;go_simp;try with_reducible rfl;refine Yp 18 ?_ rfl (by kernel_rfl) (fun _=>id) Z9 ?_ ?_;rotate_left;· intro w9 ZQ;obtain ⟨k1,k2⟩:=ZQ;go_simp;try with_reducible rfl;refine Yp 19 ?_ rfl (by kernel_rfl) (fun _=>id) Z9 ?_ ?_;rotate_left;· intro w9 ZQ;obtain ⟨k1,k2⟩:=ZQ;go_simp;try with_reducible rfl;refine Yp 20 ?_ rfl (by kernel_rfl) (fun _=>id) Z9 ?_ ?_;rotate_left;· intro w9 ZQ;obtain ⟨k1,k2⟩:=ZQ;go_simp;try with_reducible rfl;refine Yp 21 ?_ rfl (by kernel_rfl) (fun _=>id) Z9 ?_ ?_;rotate_left;· intro w9 ZQ;obtain ⟨k1,k2⟩:=ZQ;go_simp;try with_reducible rfl;have S7:=And.intro ((D6.out.below B7.out).s.cl 1 _ rfl) ((X6.out.below B7.out).cl 2 _ rfl);have hgw:g<w.heap.size:=(ND.out g rfl).2;have Dj:g≠D:=fun e=>D6.out.ne (by rw [e];rfl)
    have Zz:=ZU (WD B6.out B7.out);have D7:=ZU (D6.out.below B7.out);have X7:=ZU (X6.out.below B7.out);have kE:Hid (Kz (ns.take (Tx ns N)++⟨N,o.data,0,0,z,z,z⟩ :: ns.drop (Tx ns N))):=by
     have e9:=vT (n:=⟨N,o.data,0,0,z,z,z⟩) D6.out.n.1 Y7.out;show Kz _;rw [←e9];refine D6.out.n.wi ?_ (.inl (by omega));unfold Wl;rw [PX.out,Zm lF.out.2,HZ.out]
     rfl
    have HE2:Hid (Rx ns o z=(0,toN (ns.take (Tx ns N)++⟨N,o.data,0,0,z,z,z⟩ :: ns.drop (Tx ns N)) (UZ N) z,N)):=by
     show _=_;rw [HE.out,Y8.out];have e9:=vT (n:=⟨N,o.data,0,0,z,z,z⟩) D6.out.n.1 Y7.out;rw [e9]
    have YA:=ZU (Dc _ lo g gc w6.heap.size ns (Tx ns N) ⟨N,o.data,0,0,z,z,z⟩ D7.out.o (by omega) (Of ns N) (by omega) (by have:=B6.out.size;omega) YB.out (ZJ hlo Zz.out.size));generalize ns.take (Tx ns N)++(⟨N,o.data,0,0,z,z,z⟩:Nd) :: ns.drop (Tx ns N)=R at *;refine QG 4 22 rfl rfl (by kernel_rfl) (fun K hK=>?_) (fun K hK=>?_);go_simp;refine hK.out _ _ Z9 (fun Z9=>?_);clear hK K;refine YS 22 rfl (by kernel_rfl) (fun K hK=>?_);go_simp;refine hK.out _ _ S7 (fun Z9=>?_);clear hK K
    rotate_left
    go_simp;refine hK.out _ _ S7 (fun Z9=>?_);clear hK K;refine YS 4 rfl (by kernel_rfl) (fun K hK=>?_);go_simp;refine hK.out _ _ S7 (fun Z9=>?_);clear hK K
    all_goals
     clear c6 c7 S7;generalize w6.alloc _=w7 at *;refine YS 23 rfl (by kernel_rfl) (fun K hK=>?_);go_simp;refine YA.out.mono ?_;rintro e w8 ⟨g8,Z2,rfl,o8,t8⟩;have S8:=ZU ((t8 g).st D7.out.s Dj.symm (fun e=>Dj (Zc e)));have X8:=ZU ((t8 g).st X7.out (by omega) (fun e=>by have:g=w.heap.size:=Zc e;omega));have O8:=ZU o8;have kp:g8≠D:=by
      rcases (t8 g).own with e | e | ⟨q,e,hq⟩
      · rw [Zc e];exact Dj
      · cases e
      rw [Zc e];have:=Zz.out.size;omega
     have T8:=ZU ((Tw.YZ Zz.out D (some g)).trans (t8 D));clear o8 t8 Z9;refine hK.out _ _ ⟨S8.out.cl 1 _ rfl,X8.out.cl 2 _ rfl⟩ (fun Z9=>?_);clear hK K
     iterate 2 (refine Zf ?_ (by kernel_rfl) (fun _=>id) Z9 ?_ ?_;rotate_left;· intro w9 ZQ;clear ZQ;go_simp;try with_reducible rfl)
     have c8:=S8.out.cl 0 _ rfl;have f8:=S8.out.fz 0;refine YS 26 rfl (by kernel_rfl) (fun K hK=>?_);go_simp;have S9:=ZU (S8.out.set 0 (.slice (some ⟨g8,0,none⟩) R.length Z2));have X9:=ZU (X8.out.other (c:=D) (j:=0) (x:=.slice (some ⟨g8,0,none⟩) R.length Z2) (by omega));have O9:=ZU (O8.out.kT (b:=D) (j:=0) (fun e=>kp (Zc e)) (.slice (some ⟨g8,0,none⟩) R.length Z2));have T9:=ZU (T8.out.set (j:=0) (x:=.slice (some ⟨g8,0,none⟩) R.length Z2));refine hK.out _ _ ⟨S9.out.cl 1 _ rfl,X9.out.cl 2 _ rfl⟩ (fun Z9=>?_);clear hK K c8 f8;generalize w8.setCell _ _=w9 at *;refine ZR (by kernel_rfl) ?_ _
     try simp only [Act.put,WV,WU,WT]
     clear Z9;have xV:=ZU (Ja w9 D lo z _ _ N ⟨S9.out,O9.out,fun e=>kp (Zc e),kE.out⟩ PX.out HZ.out)
     go_wp2_with (go_at_call 251;refine xV.out.mono ?_)
     rintro e I9 ⟨rfl,d10,t10⟩;have Yx:=ZU d10;have Yw:=ZU (T9.out.trans t10);clear d10 t10 xV
     go_wp2_with fail
     rw [HE2.out];exact ZW (v:=.tuple #[.string N,.nilIface]) (by simp [results,Tryz.results229,go_sem]) rfl ⟨_,rfl,Yx.out,Yw.out⟩
theorem zO (w:World) (o:TO) (hd:o.data.size≤1048576) :
    Calls Tryz.prog 201 #[.agg #[.int .i64 o.kind,.string o.path,.string o.data,.int .i64 o.XT,.bool o.seq]] w (Wj w (.bool (OK o))):=by
 obtain ⟨kind,path,data,XT,seq⟩:=o
 simp only at *
 have B0:Hid (Zi w (w.alloc (.cells #[.int .i64 kind,.string path,.string data,.int .i64 XT,.bool seq] 159))):=Yy.alloc YR _
 by_cases h1:kind<1
 · have HW:Hid (OK ⟨kind,path,data,XT,seq⟩=false):=by show _=_;unfold OK;simp only [SO,Xq];omega
   go_enter Tryz.func201,Tryz.ntmps201
   go_wp2_with fail
   go_ret;exact ⟨by rw [HW.out];rfl,B0.out⟩
 by_cases h4:5≤kind
 · have HW:Hid (OK ⟨kind,path,data,XT,seq⟩=false):=by show _=_;unfold OK;simp only [SO,Xq];omega
   go_enter Tryz.func201,Tryz.ntmps201
   go_wp2_with fail
   go_ret;exact ⟨by rw [HW.out];rfl,B0.out⟩
 have C0:Hid (∀W,Below (w.alloc (.cells #[.int .i64 kind,.string path,.string data,.int .i64 XT,.bool seq] 159)).heap.size (w.alloc (.cells #[.int .i64 kind,.string path,.string data,.int .i64 XT,.bool seq] 159)) W→W.cell? ⟨w.heap.size,0,none⟩=some (.int .i64 kind)∧W.cell? ⟨w.heap.size,1,none⟩=some (.string path)∧W.cell? ⟨w.heap.size,2,none⟩=some (.string data)∧W.cell? ⟨w.heap.size,3,none⟩=some (.int .i64 XT)∧W.cell? ⟨w.heap.size,4,none⟩=some (.bool seq)):=by
  intro W hW;have hl:w.heap.size<(w.alloc (.cells #[.int .i64 kind,.string path,.string data,.int .i64 XT,.bool seq] 159)).heap.size:=by simp
  refine ⟨(hW.cell (p:=⟨w.heap.size,0,none⟩) hl).trans (by go_simp),(hW.cell (p:=⟨w.heap.size,1,none⟩) hl).trans (by go_simp),(hW.cell (p:=⟨w.heap.size,2,none⟩) hl).trans (by go_simp),(hW.cell (p:=⟨w.heap.size,3,none⟩) hl).trans (by go_simp),(hW.cell (p:=⟨w.heap.size,4,none⟩) hl).trans (by go_simp)⟩
 go_enter Tryz.func201,Tryz.ntmps201
 go_wp2_with fail
 refine (Qd _ path).mono ?_;rintro e w1 ⟨rfl,b1⟩;obtain ⟨c0,c1,c2,c3,c4⟩:=C0.out w1 b1;have B1:=ZU (B0.out.trans (b1.mono (by simp)));clear b1 C0 B0
 cases hpk:Xi path with
 | false =>
  have HW:Hid (OK ⟨kind,path,data,XT,seq⟩=false):=by show _=_;unfold OK;simp [hpk]
  go_wp2_with fail
  go_ret;exact ⟨by rw [HW.out];rfl,B1.out⟩
 | true =>
  have Y5:Hid (Xi path=true):=hpk;clear hpk
  by_cases hds:64<data.size
  · have HW:Hid (OK ⟨kind,path,data,XT,seq⟩=false):=by show _=_;unfold OK;simp;omega
    have Yv:(64:Int)<(data.size:Int):=by omega
    go_wp2_with fail
    go_ret;exact ⟨by rw [HW.out];rfl,B1.out⟩
  have Yv:¬(64:Int)<(data.size:Int):=by omega
  have hk:kind=1∨kind=2∨kind=3∨kind=4:=by omega
  clear h1 h4;have hds':data.size≤64:=by omega
  have Y2:Hid ((data.toList == [])=decide (data.size=0)):=by
   show _=_;have e:data.size=data.data.toList.length:=by rw [YJ];rfl
   rw [YG,e]
   cases data.data.toList <;> simp
  by_cases hv1:XT=-1
  · subst hv1
    rcases hk with rfl | rfl | rfl | rfl
    all_goals
     cases hps:(path.toList == [47]) <;> cases hdd:(data.toList == []) <;> cases seq <;> go_wp2_with fail
    all_goals
     go_ret;refine ⟨Ws ?_,B1.out⟩;have hpk:=Y5.out;have hde:=Y2.out;rw [hdd] at hde;unfold OK
     simp only [hpk,hps]
     simp_all <;> (intros;omega)
  have HST:Hid (∀W,Calls Tryz.prog 143 #[.int .i64 XT] W fun e w'=>e=.returned (.bool (PP XT))∧w'=W):=fun W=>Rc W XT
  have lA:Hid (PP XT=(decide (-1≤XT) && decide (XT≤2147483647))):=by
   show _=_;unfold PP
   congr 1
   simp only [UQ]
   omega
  rcases hk with rfl | rfl | rfl | rfl
  all_goals
   cases hps:(path.toList == [47]) <;> cases hdd:(data.toList == []) <;> cases seq <;> go_wp2_with (go_at_call 143;refine (HST.out _).mono ?_;rintro e w' ⟨rfl,rfl⟩)
  all_goals
   go_ret;refine ⟨Ws ?_,B1.out⟩;have hpk:=Y5.out;have hde:=Y2.out;rw [hdd] at hde;have hos:=lA.out;unfold OK
   simp only [hpk,hps,hos]
   have Yt:(XT == -1)=false:=by simp [hv1]
   clear hv1 HST lA hos
   try rw [Yt]
   generalize decide (-1≤XT)=p1 at *;generalize decide (XT≤2147483647)=p2 at *
   first
    | (simp_all;done)
    | (cases p1 <;> cases p2 <;> simp_all;done)
    | (by_cases hv0:XT=0 <;> simp_all;done)
    | (cases p1 <;> cases p2 <;> by_cases hv0:XT=0 <;> simp_all <;> omega)
def Qi (a:Nd):Ef:=⟨true,{ nd0 with path:=a.path }⟩
def TV (b:Nd):Ef:=⟨false,b⟩
def LR (a b:Nd):Bool:=(a.path.toList == b.path.toList) && ((a.data.toList == b.data.toList) && ((a.XT == b.XT) && ((a.XQ == b.XQ) && ((a.cz == b.cz) && ((a.mz == b.mz) && (a.pz == b.pz))))))
def UY:List Nd→List Nd→List Ef
 | [],now=>now.map TV
 | a :: was,[]=>(a :: was).map Qi
 | a :: was,b :: now =>
  if Ty b.path a.path then TV b :: UY (a :: was) now
  else if Ty a.path b.path then Qi a :: UY was (b :: now)
  else if LR a b then UY was now else TV b :: UY was now
theorem Bh (A B:List Nd):(UY A B).length≤A.length+B.length:=by
 fun_induction UY A B <;> simp_all <;> omega
theorem zN (ns:List Ef) (n:Ef):MR (ns++[n])=MR ns++GN n:=by rw [Ge];simp [MR]
theorem QP (w:World) (n:Ef) (t:TypeId):∀j u,(GN n)[j]?=some u→(w.alloc (.cells #[.bool n.del,.string n.nd.path,.string n.nd.data,.int .i64 n.nd.XT,.int .i64 n.nd.XQ,.int .i64 n.nd.cz,.int .i64 n.nd.mz,.int .i64 n.nd.pz] t)).cell? ((⟨w.heap.size,0,none⟩:Addr).add j)=some u:=by
 intro j u hj;rw [YY,Za,cell_of (Zs w _) j,←hj]
 simp [GN]
theorem Pm (n:Ef):∀u ∈ GN n,u.oneCell'=true:=by
 intro u hu
 simp only [GN,Y9,SZ,Sh] at hu
 rcases hu with rfl | rfl | rfl | rfl | rfl | rfl | rfl | rfl <;> rfl
theorem Tryz.nz:(Tryz.prog.info? 249).map (fun i=>(i.zero,i.size,i.bytes))=some (some (.agg #[.bool false,.string ByteArray.empty,.string ByteArray.empty,.int .i64 0,.int .i64 0,.int .i64 0,.int .i64 0,.int .i64 0]),8,80):=by kernel_rfl
theorem UM.Fk {w5:World} {v5:Value} {acc:List Ef} {f:Ef} {ob:Obj} (ho:UM 249 W w.heap.size vo acc) (hb:Zi w W) (Rb:w5.ownsRow w.heap.size 249 8 v5 (acc.length+1) (MR acc++GN f)) (hg5:(W.alloc ob).grownBy w5 vo.ownBlock):UM 249 w5 w.heap.size v5 (acc++[f])∧Zi w w5:=by
 refine ⟨?_,(hb.alloc hb.size _).grown hg5 (by have:=hb.size;simp;omega) (fun q hq=>(ZT ho q hq).1)⟩;unfold UM;rw [ZZ,zN];exact Rb
theorem Qh {a b:ByteArray} (h:(a.toList == b.toList)=true):a=b:=by
 rw [ZL,YG,YG] at h
 cases a;cases b
 simp only [ByteArray.mk.injEq] at *
 exact Array.toList_inj.1 h
theorem rB (h:LR a b=true):a=b:=by
 unfold LR at h
 simp only [ZA] at h
 obtain ⟨h1,h2,h3,h4,h5,h6,h7⟩:=h;have e1:=Qh h1;have e2:=Qh h2;rw [ZL] at h3 h4 h5 h6 h7
 cases a;cases b
 simp_all
theorem Fj {a b:ByteArray} (h1:Ty a b=false) (h2:Ty b a=false):(a.toList == b.toList)=true:=by
 cases h:(a.toList == b.toList) with
 | true=>rfl
 | false=>have:=Ji h1 h;rw [this] at h2;cases h2
theorem Fi (h:Ty a.path p=false):Tx (a :: r) p=0:=by
 unfold Tx;rw [Vv,Z1 (by simp [h])];rfl
theorem ny (h:Ty p a.path=true):Tx (a :: r) p=0∧Im (a :: r) p=0:=by
 have h1:=Fi (r:=r) (Jj h);refine ⟨h1,?_⟩;rw [Ik,h1];have h2:=Av h
 simp only [XR,Ye,XM,h2,VE,Yu,WW]
theorem Bg (h:(a.path.toList == p.toList)=true):Tx (a :: r) p=0∧Im (a :: r) p=1:=by
 have e:=Qh h;have h1:=Fi (a:=a) (r:=r) (p:=p) (by rw [e];exact rI p);refine ⟨h1,?_⟩;rw [Ik,h1]
 simp only [XR,Ye,XM,h,Bool.and_true,ZE,Nat.zero_lt_succ,decide_true,Vo]
theorem vS (hP:∀x ∈ P,Ty x.path b.path=true) (h:Asc (a :: r)) (hl:Ty b.path a.path=true):LU (P++a :: r) b=P++b :: a :: r:=by
 obtain ⟨h1,h2⟩:=ny (r:=r) hl;rw [KX P (a :: r) b hP h,h1,h2];simp
theorem rA (hP:∀x ∈ P,Ty x.path b.path=true) (h:Asc (a :: r)) (he:(a.path.toList == b.path.toList)=true):LU (P++a :: r) b=P++b :: r:=by
 obtain ⟨h1,h2⟩:=Bg (r:=r) he;rw [KX P (a :: r) b hP h,h1,h2];simp
theorem nx (hP:∀x ∈ P,Ty x.path b.path=true):LU P b=P++[b]:=by
 have:=KX P [] b hP List.Pairwise.nil
 simpa using this
theorem Fh (hP:∀x ∈ P,Ty x.path a.path=true) (h:Asc (a :: r)):Nu (P++a :: r) a.path=P++r:=by
 obtain ⟨h1,h2⟩:=Bg (a:=a) (r:=r) (p:=a.path) (by simp);rw [Dw P (a :: r) a.path hP h,h1,h2];simp
theorem Wb (h:Asc (a :: r)):Asc r∧∀x ∈ r,Ty a.path x.path=true:=⟨(List.pairwise_cons.1 h).2,(List.pairwise_cons.1 h).1⟩
theorem nw (A B:List Nd):∀P:List Nd,Asc A→Asc B→(∀x ∈ P,∀y,y ∈ A∨y ∈ B→Ty x.path y.path=true)→BI (P++A) (UY A B)=P++B:=by
 fun_induction UY A B with
 | case1 now =>
  intro P _ hB hP
  induction now generalizing P with
  | nil=>simp [BI]
  | cons b now ih =>
   obtain ⟨h1,h2⟩:=Wb hB;have h3:=ih (P++[b]) h1 (fun x hx y hy=>by
    rcases Y4.1 hx with hx | hx
    · exact hP x hx y (by rcases hy with hy | hy;(exact .inl hy);(exact .inr (Zp _ hy)))
    simp at hx;subst hx
    rcases hy with hy | hy
    · simp at hy
    exact h2 y hy)
   show BI (D9 (P++[]) (TV b)) (now.map TV)=_;have e1:D9 (P++[]) (TV b)=P++[b]:=by
    unfold D9 TV
    simp only [Yu,WW,YD]
    exact nx (fun x hx=>hP x hx b (.inr (YO ..)))
   rw [e1];have:BI (P++[b]++[]) (now.map TV)=P++[b]++now:=h3
   simpa using this
 | case2 a was =>
  intro P hA _ hP;generalize a :: was=L at hA hP ⊢
  induction L with
  | nil=>simp [BI]
  | cons a was ih =>
   obtain ⟨h1,h2⟩:=Wb hA;show BI (D9 (P++a :: was) (Qi a)) (was.map Qi)=_;have e1:D9 (P++a :: was) (Qi a)=P++was:=by
    unfold D9 Qi
    simp only [Vo]
    exact Fh (fun x hx=>hP x hx a (.inl (YO ..))) hA
   rw [e1];exact ih h1 (fun x hx y hy=>hP x hx y (by rcases hy with hy | hy;(exact .inl (Zp _ hy));(exact .inr hy)))
 | case3 a was b now hl ih =>
  intro P hA hB hP;obtain ⟨h1,h2⟩:=Wb hB;show BI (D9 (P++a :: was) (TV b)) _=_;unfold D9
  simp only [TV,Yu,WW]
  rw [vS (fun x hx=>hP x hx b (.inr (YO ..))) hA hl];have:=ih (P++[b]) hA h1 (fun x hx y hy=>by
   rcases Y4.1 hx with hx | hx
   · exact hP x hx y (by rcases hy with hy | hy;(exact .inl hy);(exact .inr (Zp _ hy)))
   simp at hx;subst hx
   rcases hy with hy | hy
   · rcases Y9.1 hy with rfl | hy
     · exact hl
     exact R9 hl ((Wb hA).2 y hy)
   exact h2 y hy)
  simpa using this
 | case4 a was b now hl hg ih =>
  intro P hA hB hP;obtain ⟨h1,h2⟩:=Wb hA;show BI (D9 (P++a :: was) (Qi a)) _=_;unfold D9
  simp only [Qi,Vo]
  rw [Fh (fun x hx=>hP x hx a (.inl (YO ..))) hA];exact ih P h1 hB (fun x hx y hy=>hP x hx y (by rcases hy with hy | hy;(exact .inl (Zp _ hy));(exact .inr hy)))
 | case5 a was b now hl hg he ih =>
  intro P hA hB hP;have e:=rB he;subst e;obtain ⟨h1,h2⟩:=Wb hA;obtain ⟨h3,h4⟩:=Wb hB;have:=ih (P++[a]) h1 h3 (fun x hx y hy=>by
   rcases Y4.1 hx with hx | hx
   · exact hP x hx y (by rcases hy with hy | hy;(exact .inl (Zp _ hy));(exact .inr (Zp _ hy)))
   simp at hx;subst hx
   rcases hy with hy | hy
   · exact h2 y hy
   exact h4 y hy)
  simpa using this
 | case6 a was b now hl hg he ih =>
  intro P hA hB hP;obtain ⟨h1,h2⟩:=Wb hA;obtain ⟨h3,h4⟩:=Wb hB;have hs:(a.path.toList == b.path.toList)=true:=Fj (by simpa using hg) (by simpa using hl);show BI (D9 (P++a :: was) (TV b)) _=_;unfold D9
  simp only [TV,Yu,WW]
  rw [rA (fun x hx=>hP x hx b (.inr (YO ..))) hA hs];have:=ih (P++[b]) h1 h3 (fun x hx y hy=>by
   rcases Y4.1 hx with hx | hx
   · exact hP x hx y (by rcases hy with hy | hy;(exact .inl (Zp _ hy));(exact .inr (Zp _ hy)))
   simp at hx;subst hx
   rcases hy with hy | hy
   · have:=h2 y hy
     rw [Qh hs] at this;exact this
   exact h4 y hy)
  simpa using this
theorem rz (hA:Asc A) (hB:Asc B):BI A (UY A B)=B:=by
 have:=nw A B [] hA hB (fun x hx=>by simp at hx)
 simpa using this
theorem MD (p:ByteArray) (A B:List Nd):(∀x,x ∈ A∨x ∈ B→Ty p x.path=true)→∀e ∈ UY A B,Ty p e.nd.path=true:=by
 fun_induction UY A B with
 | case1 now=>intro h e he;obtain ⟨b,hb,rfl⟩:=List.mem_map.1 he;exact h b (.inr hb)
 | case2 a was=>intro h e he;obtain ⟨b,hb,rfl⟩:=List.mem_map.1 he;exact h b (.inl hb)
 | case3 a was b now hl ih =>
  intro h e he
  rcases Y9.1 he with rfl | he
  · exact h b (.inr (YO ..))
  exact ih (fun x hx=>h x (by rcases hx with hx | hx;(exact .inl hx);(exact .inr (Zp _ hx)))) e he
 | case4 a was b now hl hg ih =>
  intro h e he
  rcases Y9.1 he with rfl | he
  · exact h a (.inl (YO ..))
  exact ih (fun x hx=>h x (by rcases hx with hx | hx;(exact .inl (Zp _ hx));(exact .inr hx))) e he
 | case5 a was b now hl hg he' ih =>
  intro h e he;exact ih (fun x hx=>h x (by rcases hx with hx | hx;(exact .inl (Zp _ hx));(exact .inr (Zp _ hx)))) e he
 | case6 a was b now hl hg he' ih =>
  intro h e he
  rcases Y9.1 he with rfl | he
  · exact h b (.inr (YO ..))
  exact ih (fun x hx=>h x (by rcases hx with hx | hx;(exact .inl (Zp _ hx));(exact .inr (Zp _ hx)))) e he
theorem ry (A B:List Nd):Asc A→Asc B→Au (UY A B):=by
 fun_induction UY A B with
 | case1 now=>intro _ hB;exact List.pairwise_map.2 hB
 | case2 a was=>intro hA _;exact List.pairwise_map.2 hA
 | case3 a was b now hl ih =>
  intro hA hB;obtain ⟨h3,h4⟩:=Wb hB;refine List.Pairwise.cons (fun e he=>MD b.path _ _ (fun x hx=>?_) e he) (ih hA h3)
  rcases hx with hx | hx
  · rcases Y9.1 hx with rfl | hx
    · exact hl
    exact R9 hl ((Wb hA).2 x hx)
  exact h4 x hx
 | case4 a was b now hl hg ih =>
  intro hA hB;obtain ⟨h1,h2⟩:=Wb hA;refine List.Pairwise.cons (fun e he=>MD a.path _ _ (fun x hx=>?_) e he) (ih h1 hB)
  rcases hx with hx | hx
  · exact h2 x hx
  rcases Y9.1 hx with rfl | hx
  · exact hg
  exact R9 hg ((Wb hB).2 x hx)
 | case5 a was b now hl hg he ih=>intro hA hB;exact ih (Wb hA).1 (Wb hB).1
 | case6 a was b now hl hg he ih =>
  intro hA hB;obtain ⟨h1,h2⟩:=Wb hA;obtain ⟨h3,h4⟩:=Wb hB;have hs:(a.path.toList == b.path.toList)=true:=Fj (by simpa using hg) (by simpa using hl);refine List.Pairwise.cons (fun e he=>MD b.path _ _ (fun x hx=>?_) e he) (ih h1 h3)
  rcases hx with hx | hx
  · have:=h2 x hx
    rw [Qh hs] at this;exact this
  exact h4 x hx
theorem nv (A B:List Nd):(∀n ∈ A,Wl n=true)→(∀n ∈ B,Wl n=true)→∀e ∈ UY A B,Sm e=true:=by
 have hp:∀b:Nd,Wl b=true→Sm (TV b)=true:=fun b h=>by rw [K8 rfl];exact h
 have hd:∀a:Nd,Wl a=true→Sm (Qi a)=true:=fun a h=>by
  rw [Jk rfl];unfold Wl at h ⊢
  simp only [ZA] at h ⊢
  simp [Qi,nd0,PP,blank,h]
 fun_induction UY A B with
 | case1 now=>intro _ hB e he;obtain ⟨b,hb,rfl⟩:=List.mem_map.1 he;exact hp b (hB b hb)
 | case2 a was=>intro hA _ e he;obtain ⟨b,hb,rfl⟩:=List.mem_map.1 he;exact hd b (hA b hb)
 | case3 a was b now hl ih =>
  intro hA hB e he
  rcases Y9.1 he with rfl | he
  · exact hp b (hB b (YO ..))
  exact ih hA (fun n hn=>hB n (Zp _ hn)) e he
 | case4 a was b now hl hg ih =>
  intro hA hB e he
  rcases Y9.1 he with rfl | he
  · exact hd a (hA a (YO ..))
  exact ih (fun n hn=>hA n (Zp _ hn)) hB e he
 | case5 a was b now hl hg he' ih =>
  intro hA hB e he;exact ih (fun n hn=>hA n (Zp _ hn)) (fun n hn=>hB n (Zp _ hn)) e he
 | case6 a was b now hl hg he' ih =>
  intro hA hB e he
  rcases Y9.1 he with rfl | he
  · exact hp b (hB b (YO ..))
  exact ih (fun n hn=>hA n (Zp _ hn)) (fun n hn=>hB n (Zp _ hn)) e he
theorem rv {es:List Ef} (h1:Au es) (h2:∀e ∈ es,Sm e=true):MK es=true:=by
 refine xn (fun k hk=>?_);have he:∀j (hj:j<es.length),Vr es j=es[j]:=fun j hj=>by unfold Vr;simp [List.getD,hj]
 cases k with
 | zero=>rw [K7,he 0 hk];exact h2 _ (YP hk)
 | succ j =>
  rw [P8,he _ hk,he j (by omega),h2 _ (YP hk)]
  simpa using List.pairwise_iff_getElem.1 h1 j (j+1) (by omega) hk (by omega)
theorem Hq (hA:Kz A) (hB:Kz B) (hl:A.length+B.length≤1000) (hz:1≤z∧z≤2147483647):Tl z (UY A B)=true:=by
 unfold Tl;have:=Bh A B
 simp only [ZA,Zj]
 exact ⟨⟨⟨hz.1,hz.2⟩,by omega⟩,rv (ry A B hA.1 hB.1) (nv A B hA.2.1 hB.2.1)⟩
theorem Fg (hA:Kz A) (hB:Kz B) (hl:A.length+B.length≤1000) (hz:1≤z∧z≤2147483647):PO A z (UY A B)=B:=by
 unfold PO;rw [P4.2 hA,Hq hA hB hl hz];exact rz hA.1 hB.1
def dY:TO:=⟨0,ByteArray.empty,ByteArray.empty,0,false⟩
def Qg (os:List TO) (i:Nat):TO:=os.getD i dY
theorem Bf (h:i<os.length):Qg os i=os[i]:=by unfold Qg;simp [List.getD,h]
def Kx (w:World) (b off:Nat) (o:TO):Prop :=
 w.cell? ⟨b,off,none⟩=some (.int .i64 o.kind)∧w.cell? ⟨b,off+1,none⟩=some (.string o.path)∧w.cell? ⟨b,off+2,none⟩=some (.string o.data)∧w.cell? ⟨b,off+3,none⟩=some (.int .i64 o.XT)∧w.cell? ⟨b,off+4,none⟩=some (.bool o.seq)
theorem Kx.below {b off B:Nat} (h:Kx w b off o) (hb:Below B w w') (hlt:b<B):Kx w' b off o :=
 ⟨(hb.cell (p:=⟨b,off,none⟩) hlt).trans h.1,(hb.cell (p:=⟨b,off+1,none⟩) hlt).trans h.2.1,(hb.cell (p:=⟨b,off+2,none⟩) hlt).trans h.2.2.1,(hb.cell (p:=⟨b,off+3,none⟩) hlt).trans h.2.2.2.1,(hb.cell (p:=⟨b,off+4,none⟩) hlt).trans h.2.2.2.2⟩
def JR (w:World) (v:Value) (os:List TO):Prop :=
 ∃ao cap,v=.slice ao os.length cap∧os.length≤cap∧cap≤maxLen ∧
  (os=[]∨∃b off,ao=some ⟨b,off,none⟩∧b<w.heap.size∧∀i,i<os.length→Kx w b (off+i*5) (Qg os i))
theorem JR.len (h:JR w v os):∃ao cap,v=.slice ao os.length cap∧os.length≤cap∧cap≤maxLen:=by
 obtain ⟨ao,cap,h0,h1,h2,_⟩:=h;exact ⟨ao,cap,h0,h1,h2⟩
theorem JR.below (h:JR w v os) (hb:Zi w w'):JR w' v os:=by
 obtain ⟨ao,cap,rfl,h1,h2,h3⟩:=h;refine ⟨ao,cap,rfl,h1,h2,?_⟩
 rcases h3 with h3 | ⟨b,off,rfl,hlt,hc⟩
 · exact .inl h3
 exact .inr ⟨b,off,rfl,ZY hlt hb.size,fun i hi=>(hc i hi).below hb hlt⟩
def RZ (z:Int):List TO→List Nd→Nat→List ByteArray→Int × Nat × List Nd × List ByteArray
 | [],ns,i,nm=>(0,i,ns,nm)
 | o :: os,ns,i,nm=>if (Rx ns o z).1≠0 then ((Rx ns o z).1,i,ns,nm) else RZ z os (Rx ns o z).2.1 (i+1) (nm++[(Rx ns o z).2.2])
theorem vR (hj:j<os.length) (h:(Rx ns (Qg os j) z).1≠0):RZ z (os.drop j) ns i nm=((Rx ns (Qg os j) z).1,i,ns,nm):=by
 rw [Yg hj,←Bf hj];unfold RZ;rw [Z0 h]
theorem zM (hj:j<os.length) (h:(Rx ns (Qg os j) z).1=0):RZ z (os.drop j) ns i nm=RZ z (os.drop (j+1)) (Rx ns (Qg os j) z).2.1 (i+1) (nm++[(Rx ns (Qg os j) z).2.2]):=by
 rw [Yg hj,←Bf hj]
 conv=>lhs;unfold RZ
 rw [Z1 (by simpa using h)]
def RY (ns:List Nd) (os:List TO) (z:Int):Bool:=WE ns && (decide (1≤os.length) && (decide (os.length≤64) && (decide (1≤z) && decide (z≤2147483647))))
def nu (w:World) (ns:List Nd) (z:Int) (res:Int × Nat × List Nd × List ByteArray) (e:Ending) (w':World):Prop :=
 Zi w w' ∧
  ((res.1≠0∧e=.returned (.agg #[.int .i64 res.1,.int .i64 (res.2.1:Int),.slice none 0 0,.int .i64 0,.slice none 0 0])) ∨
   (res.1=0∧∃vn ve,e=.returned (.agg #[.int .i64 0,.int .i64 0,vn,.int .i64 z,ve])∧w'.ownsRow w.heap.size 9 1 vn res.2.2.2.length (res.2.2.2.map Value.string)∧UM 249 w' w.heap.size ve (UY ns res.2.2.1)))
def zL (w:World) (v vo:Value) (W:World):Prop :=
 Zi w W∧w.heap.size+3≤W.heap.size∧W.cell? ⟨w.heap.size,0,none⟩=some v∧W.cell? ⟨w.heap.size+1,0,none⟩=some vo ∧
 (W.cell? ⟨w.heap.size+2,0,none⟩=some (.int .i64 0)∧W.cell? ⟨w.heap.size+2,1,none⟩=some (.int .i64 0)∧W.cell? ⟨w.heap.size+2,2,none⟩=some (.slice none 0 0)∧W.cell? ⟨w.heap.size+2,3,none⟩=some (.int .i64 0)∧W.cell? ⟨w.heap.size+2,4,none⟩=some (.slice none 0 0))∧∀j,W.frozen? ⟨w.heap.size+2,j,none⟩=false
theorem zL.Xe {B:Nat} (h:zL w v vo W) (hb:Below B W W') (hB:w.heap.size+3≤B):zL w v vo W':=by
 obtain ⟨h1,h2,h3,h4,⟨c0,c1,c2,c3,c4⟩,h6⟩:=h;have q:w.heap.size+2<B:=by omega
 exact ⟨h1.trans (hb.mono (by omega)),ZJ h2 hb.size,(hb.cell (p:=⟨w.heap.size,0,none⟩) (by show w.heap.size<_;omega)).trans h3,(hb.cell (p:=⟨w.heap.size+1,0,none⟩) (by show w.heap.size+1<_;omega)).trans h4,
  ⟨(hb.cell (p:=⟨w.heap.size+2,0,none⟩) q).trans c0,(hb.cell (p:=⟨w.heap.size+2,1,none⟩) q).trans c1,(hb.cell (p:=⟨w.heap.size+2,2,none⟩) q).trans c2,(hb.cell (p:=⟨w.heap.size+2,3,none⟩) q).trans c3,(hb.cell (p:=⟨w.heap.size+2,4,none⟩) q).trans c4⟩,fun j=>(hb.frozen (p:=⟨w.heap.size+2,j,none⟩) q).trans (h6 j)⟩
theorem zL.below (h:zL w v vo W) (hb:Zi W W'):zL w v vo W':=h.Xe hb h.2.1
theorem zL.new (w:World) (v vo:Value) (t1 t2 t3:TypeId):zL w v vo (((w.alloc (.cells #[v] t1)).alloc (.cells #[vo] t2)).alloc (.cells #[.int .i64 0,.int .i64 0,.slice none 0 0,.int .i64 0,.slice none 0 0] t3)):=by
 refine ⟨((Yy.alloc YR _).alloc (by simp) _).alloc (by simp;omega) _,by simp,by go_simp,by go_simp,?_,fun j=>by go_simp⟩;have e:((w.alloc (.cells #[v] t1)).alloc (.cells #[vo] t2)).heap.size=w.heap.size+2:=by simp
 have h1:(((w.alloc (.cells #[v] t1)).alloc (.cells #[vo] t2)).alloc (.cells #[.int .i64 0,.int .i64 0,.slice none 0 0,.int .i64 0,.slice none 0 0] t3)).heap[w.heap.size+2]?=some (.cells #[.int .i64 0,.int .i64 0,.slice none 0 0,.int .i64 0,.slice none 0 0] t3):=by
  rw [←e];exact Zs _ _
 exact ⟨(cell_of h1 _).trans rfl,(cell_of h1 _).trans rfl,(cell_of h1 _).trans rfl,(cell_of h1 _).trans rfl,(cell_of h1 _).trans rfl⟩
theorem Kw (h:w.ownsRow lo e m v n us) (hb:Zi w w'):w'.ownsRow lo e m v n us:=by
 refine ⟨h.1,?_⟩
 rcases h.2 with hn | ⟨g,cap,cur,rfl,hbg,hgg,rest⟩
 · exact .inl hn
 exact .inr ⟨g,cap,cur,rfl,hbg,by rw [hb.block g (Z3.1 hgg).1];exact hgg,rest⟩
theorem MB (h:w.ownsRow lo e m v n us) (hl:lo'≤lo):w.ownsRow lo' e m v n us:=by
 refine ⟨h.1,?_⟩
 rcases h.2 with hn | ⟨g,cap,cur,rfl,hbg,rest⟩
 · exact .inl hn
 exact .inr ⟨g,cap,cur,rfl,by omega,rest⟩
theorem Tryz.vQ:(Tryz.prog.info? 9).map (fun i=>(i.zero,i.size,i.bytes))=some (some (.string ByteArray.empty),1,16):=by kernel_rfl
def Ni (D:Nat):List Value:=[.nilFunc,.func (.func 229) #[.pointer (some ⟨D,0,none⟩)] #[],.func (.func 230) #[.pointer (some ⟨D,0,none⟩)] #[],.func (.func 231) #[.pointer (some ⟨D,0,none⟩)] #[],.func (.func 232) #[.pointer (some ⟨D,0,none⟩)] #[]]
theorem Da (w:World) (D:Nat) :
    Calls Tryz.prog 200 #[.pointer (some ⟨D,0,none⟩)] w (Wj w (.agg (Ni D).toArray)):=by
 have o1:∀(W:World) (a:Addr) (m:Mode),(store a .nilFunc m).run Tryz.prog W=stored Tryz.prog W a .nilFunc m:=fun W a m=>run_store _ W a _ m rfl
 have o2:∀(W:World) (a:Addr) (m:Mode) (f:Fn) (x y:Array Value),(store a (.func f x y) m).run Tryz.prog W=stored Tryz.prog W a (.func f x y) m:=fun W a m f x y=>run_store _ W a _ m rfl
 go_enter Tryz.func200,Tryz.ntmps200
 go_wp2;exact ZW (v:=.agg (Ni D).toArray) (by simp [results,Tryz.results200,go_sem,Ni]) rfl ⟨rfl,Yy.alloc YR _⟩
theorem St.grown {b:Nat} {L:List Value} {r:Option Nat} (h:St W b L) (hg:W.grownBy W' r) (hr:some b≠r):St W' b L:=by
 have e:=hg.block b h.lt hr;refine ⟨ZY h.lt hg.size,fun j=>?_,fun j v hv=>(ZP (w:=W) (a:=⟨b,j,none⟩) e).trans (h.cl j v hv)⟩;have:=h.fz j;unfold World.frozen? at this ⊢;rw [e];exact this
theorem Df.grown {D:Nat} {r:Option Nat} (h:Df W D lo z v ns) (hg:W.grownBy W' r) (hr:some D≠r) (hv:∀g,v.ownBlock=some g→some g≠r):Df W' D lo z v ns :=
 ⟨h.s.grown hg hr,Zn h.o hg (by
  cases hb:v.ownBlock with
  | none=>exact .inl rfl
  | some g=>exact .inr (hv g hb)),h.ne,h.n⟩
theorem Kv {n' k':Nat} {e':TypeId} {v':Value} {xs':List Value} (h:w.ownsRow lo e k v n xs) (h':w.ownsRow lo' e' k' v' n' xs') (hne:e≠e'):∀g,v.ownBlock=some g→some g≠v'.ownBlock:=by
 intro g hg e9
 rcases h.2 with ⟨rfl,_⟩ | ⟨g1,c1,Yi,rfl,_,h1,_⟩
 · cases hg
 rcases h'.2 with ⟨rfl,_⟩ | ⟨g2,c2,Yh,rfl,_,h2,_⟩
 · cases e9
 simp only [Value.ownBlock,ZK] at hg e9
 subst hg;subst e9;rw [h1] at h2
 simp at h2
 exact hne h2.2
theorem Hp {b:Nat} {o o':Option Nat} (h:w.ownsRow lo e k v n xs) (t:Tw w b o w' o') (hb:∀g,v.ownBlock=some g→g≠b) (ho:∀g,v.ownBlock=some g→o≠some g):w'.ownsRow lo e k v n xs:=by
 refine ⟨h.1,?_⟩
 rcases h.2 with hn | ⟨g,cap,cur,rfl,hbg,hgg,rest⟩
 · exact .inl hn
 exact .inr ⟨g,cap,cur,rfl,hbg,by rw [t.block g (Z3.1 hgg).1 (hb g rfl) (ho g rfl)];exact hgg,rest⟩
theorem zK (W:World) (D lo:Nat) (z:Int) (v:Value) (ns:List Nd) (o:TO) (h:Df W D lo z v ns) (hw:OK o=true) (hz:PP z=true) (hlo:lo≤W.heap.size)
    (J:∀W',Zi W W'→∀n:Int,0≤n→n≤2147483647→Calls Tryz.prog 249 #[.int .i64 n] W' (Wj W' (.string ⟨(six 12 n.toNat 6).toArray⟩))) :
    (o.kind=1→Calls Tryz.prog 229 #[.pointer (some ⟨D,0,none⟩),.agg #[.int .i64 o.kind,.string o.path,.string o.data,.int .i64 o.XT,.bool o.seq]] W (JP W D lo z v (Rx ns o z))) ∧
    (o.kind=2→Calls Tryz.prog 230 #[.pointer (some ⟨D,0,none⟩),.agg #[.int .i64 o.kind,.string o.path,.string o.data,.int .i64 o.XT,.bool o.seq]] W (JP W D lo z v (Rx ns o z))) ∧
    (o.kind=3→Calls Tryz.prog 231 #[.pointer (some ⟨D,0,none⟩),.agg #[.int .i64 o.kind,.string o.path,.string o.data,.int .i64 o.XT,.bool o.seq]] W (JP W D lo z v (Rx ns o z))) ∧
    (o.kind=4→Calls Tryz.prog 232 #[.pointer (some ⟨D,0,none⟩),.agg #[.int .i64 o.kind,.string o.path,.string o.data,.int .i64 o.XT,.bool o.seq]] W (JP W D lo z v (Rx ns o z))) :=
 ⟨fun hk=>Hr W D lo z v ns o h hw hk hz hlo J,fun hk=>Hs W D lo z v ns o h hw hk hz,fun hk=>zQ W D lo z v ns o h hw hk hz,fun hk=>Fp W D lo z v ns o h hw hk⟩
def gI (w0:World) (lb D:Nat) (z:Int) (res:Int × Nat × List Nd × List ByteArray) (e:Ending) (w':World):Prop :=
 Zi w0 w' ∧
  ((res.1≠0∧e=.returned (.tuple #[.slice none 0 0,.iface 281 (.agg #[.int .i64 (res.2.1:Int),Sp res.1])])) ∨
   (res.1=0∧∃vn v',e=.returned (.tuple #[vn,.nilIface])∧w'.ownsRow lb 9 1 vn res.2.2.2.length (res.2.2.2.map Value.string)∧Df w' D w0.heap.size z v' res.2.2.1))
theorem zJ (w0 w:World) (D:Nat) (z:Int) (v vo:Value) (ns:List Nd) (os:List TO) (hB:Zi w0 w) (h:Df w D w0.heap.size z v ns) (Y1:w0.heap.size≤D) (ho:JR w0 vo os) (hos:∀i,i<os.length→(Qg os i).path.size≤1048576∧(Qg os i).data.size≤1048576) (hz:PP z=true) (h1:1≤os.length) (h2:os.length≤64)
    (J:∀W,Zi w0 W→∀n:Int,0≤n→n≤2147483647→Calls Tryz.prog 249 #[.int .i64 n] W (Wj W (.string ⟨(six 12 n.toNat 6).toArray⟩))) :
    Calls Tryz.prog 167 #[.pointer (some ⟨D,0,none⟩),vo] w (gI w0 w.heap.size D z (RZ z os ns 0 [])):=by
 obtain ⟨i0,hi,hz0,hz1,hz2⟩:=YM Tryz.vQ;obtain ⟨bo,cb,rfl,_,_⟩:=ho.len;obtain ⟨res,hres⟩:∃res,res=RZ z os ns 0 []:=⟨_,rfl⟩;have vP:Hid (RZ z (os.drop 0) ns 0 []=res):=hres.symm;rw [←hres];have HB:=ZU hB;have HD:=ZU h;have lA:=ZU hos;have HZ:=ZU hz;have lC:=ZU J;obtain ⟨bb,X0,rfl,hbb,HC⟩:∃b off,bo=some ⟨b,off,none⟩∧b<w0.heap.size∧Hid (∀i,i<os.length→Kx w0 b (off+i*5) (Qg os i)):=by
  obtain ⟨oY,cap',e',-,-,h3⟩:=ho
  simp only [ZC] at e'
  obtain ⟨rfl,-,-⟩:=e'
  rcases h3 with h3 | ⟨b,o,rfl,hb,hc⟩
  · rw [h3] at h1;simp at h1
  exact ⟨b,o,rfl,hb,hc⟩
 clear h ho hos hres hz hB J;have hlt:=HD.out.s.lt
 go_enter Tryz.func167,Tryz.ntmps167
 go_wp2_with fail
 refine (Da w D).mono ?_;rintro e w1 ⟨rfl,b1⟩;have B1:=ZU b1;have J2:Hid (St (w1.alloc (.cells (Ni D).toArray 287)) w1.heap.size (Ni D)):=St.new _ _ _;have B2:Hid (Zi w (w1.alloc (.cells (Ni D).toArray 287))):=B1.out.alloc B1.out.size _;unfold Ni;clear b1;have o1:∀(W:World) (a:Addr) (m:Mode),(store a .nilFunc m).run Tryz.prog W=stored Tryz.prog W a .nilFunc m:=fun W a m=>run_store _ W a _ m rfl
 have o2:∀(W:World) (a:Addr) (m:Mode) (f:Fn) (x y:Array Value),(store a (.func f x y) m).run Tryz.prog W=stored Tryz.prog W a (.func f x y) m:=fun W a m f x y=>run_store _ W a _ m rfl
 go_wp2_with (at_make;go_must (refine Vh _ rfl _ _ 26 rfl (w1.heap.size+1) 9 i0 (.string ByteArray.empty) 1 Tryz.underlying26 hi hz0 hz1 _ _ _ os.length rfl rfl ?b1 ?b2 ?b3 ?b4 ?_))
 case b1=>omega
 case b2=>rw [hz2];omega
 case b3=>unfold maxLen;omega
 case b4=>simp
 intro w3 hown hgrow;clear o1 o2;have hs2:(w1.alloc (.cells (Ni D).toArray 287)).heap.size=w1.heap.size+1:=by simp
 have HS2:=ZU hs2
 change Hid (St _ _ _) at J2
 have B3:Hid (Below (w1.heap.size+1) (w1.alloc (.cells (Ni D).toArray 287)) w3):=Yy.grown hgrow (by rw [hs2];exact YR) (by simp);have J3:=ZU (J2.out.Xe B3.out (WK _));have lz:=ZU (B2.out.trans (B3.out.mono (by have:=B1.out.size;omega)));have D3:=ZU (HD.out.below lz.out);have Y0:=ZU (WD HB.out lz.out);have XZ:D<w1.heap.size:=by have:=B1.out.size;omega
 have O3:=ZU hown;have OO:=ZU HD.out.o;clear hgrow hs2 B3 J2 B2 hown HD;have YX:Hid (∀g,v.ownBlock=some g→g≠w1.heap.size):=fun g hg=>by have:=(ZT OO.out g hg).2;have:=B1.out.size;omega
 go_wp2_with fail
 go_loopw [7,19] (fun vn i wr=>∃(j:Nat) (un uv:Value) (M:List Nd) (nm:List ByteArray),j≤os.length∧un=vn∧i=.int .i64 j∧Hid (Df wr D w0.heap.size z uv M)∧Hid (St wr w1.heap.size (Ni D))∧Hid (nm.length=j)∧Hid (wr.ownsRow (w1.heap.size+1) 9 1 un j (nm.map Value.string))∧Hid (RZ z (os.drop j) M j nm=res)∧Hid (Zi w0 wr)∧Hid (∀g,uv.ownBlock=some g→g≠w1.heap.size)) (fun _ i _=>os.length - (intOf i).toNat)
 case atStart=>exact ⟨0,_,v,ns,[],Zu _,rfl,rfl,D3,J3,(show _=_ from rfl),O3,vP,Y0,YX⟩
 case round =>
  clear vP D3 J3 O3 Y0 YX lz;obtain ⟨j,un,uv,M,nm,hj,rfl,rfl,DK,JK,NL,ON,GO,V,NJ⟩:=hrel
  by_cases hlt:j<os.length
  · have Rj:(j:Int)<(os.length:Int):=by omega
    obtain ⟨q0,q1,q2,q3,q4⟩:=(HC.out j hlt).below V.out hbb;have Z':Hid ((Rx M (Qg os j) z).1≠0→((Rx M (Qg os j) z).1,j,M,nm)=res):=fun hne=>(vR hlt hne).symm.trans GO.out
    have ZV:Hid ((Rx M (Qg os j) z).1=0→RZ z (os.drop (j+1)) (Rx M (Qg os j) z).2.1 (j+1) (nm++[(Rx M (Qg os j) z).2.2])=res):=fun he=>(zM hlt he).symm.trans GO.out
    have YW:Hid (∀W,Calls Tryz.prog 201 #[.agg #[.int .i64 (Qg os j).kind,.string (Qg os j).path,.string (Qg os j).data,.int .i64 (Qg os j).XT,.bool (Qg os j).seq]] W (Wj W (.bool (OK (Qg os j))))):=fun W=>zO W _ (lA.out j hlt).2
    clear GO;generalize Qg os j=oj at *;have BA:Hid (Zi wr (wr.alloc (.cells #[.int .i64 oj.kind,.string oj.path,.string oj.data,.int .i64 oj.XT,.bool oj.seq] 159))):=Yy.alloc YR _;have XA:Hid (St (wr.alloc (.cells #[.int .i64 oj.kind,.string oj.path,.string oj.data,.int .i64 oj.XT,.bool oj.seq] 159)) wr.heap.size [.int .i64 oj.kind,.string oj.path,.string oj.data,.int .i64 oj.XT,.bool oj.seq]):=St.new _ _ _
    go_wp2_with fail
    clear q0 q1 q2 q3 q4;generalize wr.alloc _=wa at *;refine (YW.out _).mono ?_;rintro e w2 ⟨rfl,b2⟩;have X2:=ZU (XA.out.below b2);have B2:=ZU (WD BA.out b2);clear b2 XA BA YW;have D2:=ZU (DK.out.below B2.out);have J2:=ZU (JK.out.below B2.out);have O2:=ZU (Kw ON.out B2.out);have BW:=ZU (WD V.out B2.out);have XY:w1.heap.size<wr.heap.size:=JK.out.lt;have Ys:Hid (∀g,uv.ownBlock=some g→g<wr.heap.size):=fun g hg=>(ZT DK.out.o g hg).2
    clear DK JK ON V B2
    cases hwf:OK oj with
    | false =>
     have Yq:Hid ((1,j,M,nm)=res):=by
      have e9:Rx M oj z=(1,M,⟨#[]⟩):=by unfold Rx;rw [hwf];rfl
      have:=Z'.out;rw [e9] at this;exact this (show (1:Int)≠0 by decide)
     clear Z' ZV hwf
     go_wp2_with fail
     rw [←Yq.out];exact ZW (v:=.tuple #[.slice none 0 0,.iface 281 (.agg #[.int .i64 (j:Int),Sp 1])]) (by simp [results,Tryz.results167,go_sem,Sp]) rfl ⟨BW.out,.inl ⟨show (1:Int)≠0 by decide,rfl⟩⟩
    | true =>
     obtain ⟨kk,pp,da,vv,sq⟩:=oj;have D3:Hid (Df w2.drew D w0.heap.size z uv M):=D2.out.below (below_drewN' w2 1);have J3:Hid (St w2.drew w1.heap.size (Ni D)):=J2.out.below (below_drewN' w2 1);have O3:Hid (w2.drew.ownsRow (w1.heap.size+1) 9 1 un j (nm.map Value.string)):=O2.out;have X3:Hid (St w2.drew wr.heap.size [.int .i64 kk,.string pp,.string da,.int .i64 vv,.bool sq]):=X2.out.below (below_drewN' w2 1);have B3:Hid (Zi w0 w2.drew):=BW.out.trans ((below_drewN' w2 1).mono BW.out.size);obtain ⟨YV,YU,YT,YN⟩:Hid _∧Hid _∧Hid _∧Hid _:=zK w2.drew D w0.heap.size z uv M ⟨kk,pp,da,vv,sq⟩ D3.out hwf HZ.out B3.out.size (fun W' hW'=>lC.out W' (WD B3.out hW'));have hkk:kk=1∨kk=2∨kk=3∨kk=4:=vZ hwf;clear D2 J2 O2 X2 BW hwf
     go_wp2_with fail
     generalize Rx M ⟨kk,pp,da,vv,sq⟩ z=dd at *;have YL:Hid (∃F,w2.drew.cell? ⟨w1.heap.size,kk.toNat,none⟩=some F∧F=(Ni D).getD kk.toNat undef):=by
      rcases hkk with rfl | rfl | rfl | rfl
      · exact ⟨_,J3.out.cl 1 _ rfl,rfl⟩
      · exact ⟨_,J3.out.cl 2 _ rfl,rfl⟩
      · exact ⟨_,J3.out.cl 3 _ rfl,rfl⟩
      exact ⟨_,J3.out.cl 4 _ rfl,rfl⟩
     obtain ⟨F,hF,hF2⟩:=YL.out;have ZN:Hid (∀W:World,St W wr.heap.size [.int .i64 kk,.string pp,.string da,.int .i64 vv,.bool sq]→St W w1.heap.size (Ni D)→W.cell? ⟨wr.heap.size,0,none⟩=some (.int .i64 kk)∧W.cell? ⟨wr.heap.size,1,none⟩=some (.string pp)∧W.cell? ⟨wr.heap.size,2,none⟩=some (.string da)∧W.cell? ⟨wr.heap.size,3,none⟩=some (.int .i64 vv)∧W.cell? ⟨wr.heap.size,4,none⟩=some (.bool sq)∧W.cell? ⟨w1.heap.size,kk.toNat,none⟩=some F):=by
      intro W hx hj;refine ⟨hx.cl 0 _ rfl,hx.cl 1 _ rfl,hx.cl 2 _ rfl,hx.cl 3 _ rfl,hx.cl 4 _ rfl,hj.cl _ _ ?_⟩;rw [hF2]
      rcases hkk with rfl | rfl | rfl | rfl <;> rfl
     clear YL hF;refine ZX (S:=fun W=>W.cell? ⟨wr.heap.size,0,none⟩=some (.int .i64 kk)∧W.cell? ⟨wr.heap.size,1,none⟩=some (.string pp)∧W.cell? ⟨wr.heap.size,2,none⟩=some (.string da)∧W.cell? ⟨wr.heap.size,3,none⟩=some (.int .i64 vv)∧W.cell? ⟨wr.heap.size,4,none⟩=some (.bool sq)∧W.cell? ⟨w1.heap.size,kk.toNat,none⟩=some F) (by kernel_rfl) (ZN.out _ X3.out J3.out) (fun Z9=>?_);generalize w2.drew=w3 at *;have iF:wr.heap.size≠D:=by omega
     have Yo:w1.heap.size≠D:=by omega
     rcases hkk with rfl | rfl | rfl | rfl
     all_goals
      simp only [Ni,Uq,XM,show Int.toNat 1=1 from rfl,show Int.toNat 2=2 from rfl,show Int.toNat 3=3 from rfl,show Int.toNat 4=4 from rfl] at hF2
      subst hF2
      iterate 5 (refine Zf ?_ (by kernel_rfl) (fun _=>id) Z9 ?_ ?_;rotate_left;· intro w9 ZQ;obtain ⟨k0,k1,k2,k3,k4,k5⟩:=ZQ;simp only [show Int.toNat 1=1 from rfl,show Int.toNat 2=2 from rfl,show Int.toNat 3=3 from rfl,show Int.toNat 4=4 from rfl] at k5;go_simp;try with_reducible rfl)
      refine YS 5 rfl (by kernel_rfl) (fun K hK=>?_);go_simp
      first | refine (YV.out rfl).mono ?_ | refine (YU.out rfl).mono ?_ | refine (YT.out rfl).mono ?_ | refine (YN.out rfl).mono ?_
      rintro e w4 ⟨v4,rfl,d4,t4⟩;have X4:=ZU (t4.st X3.out iF (fun e=>by have:=Ys.out _ e;omega));have J4:=ZU (t4.st J3.out Yo (fun e=>NJ.out _ e rfl));have O4:=ZU (Hp O3.out t4 (fun g hg=>by have:=(ZT O3.out g hg).1;omega) (fun g hg e=>Kv O3.out D3.out.o (by decide) g hg e.symm));have B4:=ZU (B3.out.trans (t4.below B3.out.size Y1 (fun g hg=>(ZT D3.out.o g hg).1)));have Ym:Hid (∀g,v4.ownBlock=some g→g≠w1.heap.size):=fun g hg=>by
       rcases t4.own with e | e | ⟨q,e,hq⟩
       · exact NJ.out g (e ▸ hg)
       · rw [e] at hg;cases hg
       rw [e] at hg;have:=Zc hg;have:=J3.out.lt;omega
      have D4:=ZU d4;clear d4 t4 Z9 YV YU YT YN;refine hK.out _ _ (ZN.out _ X4.out J4.out) (fun Z9=>?_);clear hK K
      by_cases hc:dd.1=0
      · have Pw:=ZU (ZV.out hc)
        have Z8:JV dd=#[.string dd.2.2,.nilIface]:=by unfold JV;rw [Z0 hc]
        rw [Z8];clear Z' ZV Z8 hc
        iterate 5 (refine Zf ?_ (by kernel_rfl) (fun _=>id) Z9 ?_ ?_;rotate_left;· intro w9 ZQ;clear ZQ;go_simp;try with_reducible rfl)
        refine ZR (by kernel_rfl) ?_ _
        simp only [Act.put,WV,WU,WT]
        clear Z9 ZN X3 J3 O3 B3 D3 X4;have XX:=J4.out.lt
        go_wp2_with (at_builtin;go_must (refine wpList_append_lies _ rfl _ _ 26 rfl (w1.heap.size+1) 9 i0 (.string ByteArray.empty) 1 16 Tryz.underlying26 hi hz0 hz1 hz2 rfl (by decide) _ _ _ rfl (O4.out.alloc _) ⟨w4.heap.size,0,none⟩ 1 1 [.string dd.2.2] rfl rfl (XW _ _ _) (by intro u hu;simp at hu;subst hu;rfl) (by decide) ?c3 ?c4 ?c5 (w4.heap.size+1) (by simp) ?_))
        case c3=>unfold maxLen;omega
        case c4=>omega
        case c5=>simp;omega
        intro g5 cap5 w5 Rb hg5 hat _;have A5:Zi w4 (w4.alloc (.cells #[.string dd.2.2] 9)):=Yy.alloc YR _;have D5:=ZU ((D4.out.below A5).grown hg5 (fun e=>by have:=(ZT O4.out D e.symm).1;omega) (fun g hg e=>Kv O4.out D4.out.o (by decide) g e.symm hg.symm));have J5:=ZU ((J4.out.below A5).grown hg5 (fun e=>by have:=(ZT O4.out _ e.symm).1;omega));have B5:=ZU ((WD B4.out A5).grown hg5 (ZJ B4.out.size A5.size) (fun k hk=>by have:=(ZT O4.out k hk).1;omega));have Yl:Hid ((nm++[dd.2.2]).length=j+1):=by show _=_;rw [ZZ,NL.out];rfl
        have O5:Hid (w5.ownsRow (w1.heap.size+1) 9 1 (.slice (some ⟨g5,0,none⟩) (j+1) cap5) (j+1) ((nm++[dd.2.2]).map Value.string)):=by
         show World.ownsRow _ _ _ _ _ _ _;rw [Y6];exact Rb
        clear Rb hg5 hat A5 D4 J4 O4 B4;go_wp2
        go_roundw
        case rel=>exact ⟨j+1,_,v4,dd.2.1,nm++[dd.2.2],by omega,rfl,by go_num,D5,J5,Yl,O5,Pw,B5,Ym⟩
        case measure=>simp [intOf];omega
      have Pw:=ZU (Z'.out hc);have Z8:JV dd=#[.string ByteArray.empty,Sp dd.1]:=by unfold JV;rw [Z1 hc]
      rw [Z8];clear Z' ZV Z8;unfold Sp
      iterate 5 (refine Zf ?_ (by kernel_rfl) (fun _=>id) Z9 ?_ ?_;rotate_left;· intro w9 ZQ;clear ZQ;go_simp;try with_reducible rfl)
      refine ZR (by kernel_rfl) ?_ _
      simp only [Act.put,WV,WU,WT]
      clear Z9 ZN X3 J3 O3 B3 D3 X4
      go_wp2_with fail
      rw [←Pw.out];exact ZW (v:=.tuple #[.slice none 0 0,.iface 281 (.agg #[.int .i64 (j:Int),Sp dd.1])]) (by simp [results,Tryz.results167,go_sem,Sp]) rfl ⟨B4.out,.inl ⟨hc,rfl⟩⟩
  have hjn:j=os.length:=by omega
  have Pw:Hid ((0,j,M,nm)=res):=by
   have:=GO.out;rw [XS (by omega)] at this;exact this
  subst hjn;have hun:∃ua uc,un=.slice ua os.length uc:=by
   rcases ON.out.2 with ⟨rfl,h0⟩ | ⟨g,cap,cur,rfl,-⟩
   · exact ⟨_,_,by rw [h0]⟩
   exact ⟨_,_,rfl⟩
  obtain ⟨ua,uc,rfl⟩:=hun
  go_wp2_with fail
  rw [←Pw.out];refine ZW (v:=.tuple #[.slice ua os.length uc,.nilIface]) (by simp [results,Tryz.results167,go_sem]) rfl ⟨V.out,.inr ⟨rfl,_,uv,rfl,?_,DK.out⟩⟩;show World.ownsRow _ _ _ _ _ nm.length (nm.map Value.string);rw [NL.out];exact MB ON.out (by have:=B1.out.size;omega)
theorem SK.Ff {ao:Option Addr} {c:Nat} {R:List Nd} (h:SK w (.slice ao n c) (a :: R)):n=R.length+1∧n≤c∧c≤maxLen∧∃b off,ao=some ⟨b,off,none⟩∧b<w.heap.size∧Um w b off a∧SK w (.slice (if c=1 then some ⟨b,off,none⟩ else some ⟨b,off+7,none⟩) R.length (c - 1)) R:=by
 obtain ⟨a',c',e,h1,h2,h3⟩:=h
 simp only [ZC,ZE] at e
 obtain ⟨rfl,rfl,rfl⟩:=e;refine ⟨rfl,h1,h2,?_⟩
 rcases h3 with h3 | ⟨b,off,rfl,hb,hc⟩
 · cases h3
 refine ⟨b,off,rfl,hb,?_,?_⟩
 · have:=hc 0 (by simp)
   simpa [Ye] using this
 refine ⟨_,_,rfl,by simp at h1;omega,by omega,?_⟩
 by_cases hR:R=[]
 · exact .inl hR
 have:0<R.length:=List.length_pos_iff.2 hR
 simp at h1
 rw [Z1 (by omega)];refine .inr ⟨b,off+7,rfl,hb,fun i hi=>?_⟩;have:=hc (i+1) (by simp;omega);rw [show off+(i+1)*7=off+7+i*7 by omega] at this
 simpa [Ye] using this
theorem vO (a:Nd) (R:List Nd):UY (a :: R) []=Qi a :: UY R []:=by
 cases R with
 | nil=>simp [UY]
 | cons x R=>simp [UY]
theorem vN (b:Nd) (R:List Nd):UY [] (b :: R)=TV b :: UY [] R:=by simp [UY]
theorem ru (A B:List Nd) (h:Ty a.path b.path=true):UY (a :: A) (b :: B)=Qi a :: UY A (b :: B):=by
 rw [UY,Z1 (by rw [Jj h];decide),Z0 h]
theorem rq (A B:List Nd) (h:Ty b.path a.path=true):UY (a :: A) (b :: B)=TV b :: UY (a :: A) B:=by
 rw [UY,Z0 h]
theorem rp (A B:List Nd) (h:Ty a.path b.path=false) (h2:Ty b.path a.path=false):UY (a :: A) (b :: B)=if LR a b then UY A B else TV b :: UY A B:=by
 rw [UY,Z1 (by rw [h2];decide),Z1 (by rw [h];decide)]
theorem zI (w:World) (va vb:Value) (Al Bl:List Nd) (ha:SK w va Al) (hb:SK w vb Bl) (hna:Al.length≤1000) (hnb:Bl.length≤1000) :
    Calls Tryz.prog 168 #[va,vb] w fun e w'=>∃v',e=.returned v'∧UM 249 w' w.heap.size v' (UY Al Bl)∧Zi w w':=by
 obtain ⟨i0,hi0,hz0,hz1,hz2⟩:=YM Tryz.nz;obtain ⟨res,hres⟩:∃res,res=UY Al Bl:=⟨_,rfl⟩;have OO:Hid (res.length≤2000):=by show _≤_;rw [hres];have:=Bh Al Bl;omega
 have HA:=ZU ha;have HB:=ZU hb;have GO:Hid ([]++UY Al Bl=res):=by show _=_;rw [hres];rfl
 rw [←hres];clear ha hb hres
 go_enter Tryz.func168,Tryz.ntmps168
 go_wp2_with fail
 go_loopw [0,1,5] (fun ua ub ue wr=>∃(Ak Bk:List Nd) (acc:List Ef) (xa xb xe:Value),xa=ua∧xb=ub∧xe=ue∧Ak.length+Bk.length≤2000∧Hid (SK w xa Ak)∧Hid (SK w xb Bk)∧Hid (acc++UY Ak Bk=res)∧Hid (UM 249 wr w.heap.size xe acc)∧Hid (Zi w wr)) (fun ua ub _ _=>(match ua with | .slice _ n _=>n | _=>0)+(match ub with | .slice _ n _=>n | _=>0))
 case atStart=>exact ⟨Al,Bl,[],_,_,_,rfl,rfl,rfl,by omega,HA,HB,GO,ZH _ _ _ _,Yy⟩
 case round =>
  clear HA HB GO;obtain ⟨Ak,Bk,acc,xa,xb,xe,rfl,rfl,rfl,hlen,RA,RB,GO,OE,V⟩:=hrel;obtain ⟨aa,ca,rfl,-,-⟩:=RA.out.len;obtain ⟨ab,cb,rfl,-,-⟩:=RB.out.len;obtain ⟨E,ce,rfl⟩:=OE.out.QU;have sB:=V.out.size
  cases Ak with
  | nil =>
   cases Bk with
   | nil =>
    have HN:Hid (acc=res):=by have:=GO.out;simp [UY] at this;exact this
    go_wp2_with fail
    rw [←HN.out];exact ZW (v:=.slice E acc.length ce) (by simp [results,Tryz.results168,go_sem]) rfl ⟨_,rfl,OE.out,V.out⟩
   | cons b Bs =>
    obtain ⟨-,YK,YI,b2,o2,rfl,hb2,hce,hrd⟩:=RB.out.Ff;have RT:=ZU hrd;have O:=ZU hce;have HN:Hid ((acc++[TV b])++UY [] Bs=res):=by have:=GO.out;rw [vN] at this;show _=_;rw [ZO];exact this
    have hal:acc.length+1≤2000:=by have:=OO.out;rw [←HN.out] at this;simp at this;omega
    have hB1:¬((Bs.length:Int)+1=0):=by omega
    clear RB hce hrd GO
    go_wp2_with fail
    have T:Hid (UM 249 wr.drew w.heap.size (.slice E acc.length ce) acc):=OE.out.below (below_drewN' wr 1);have Q:Hid (Zi w wr.drew):=V.out.trans ((below_drewN' wr 1).mono V.out.size);clear OE V;have OE:=T;have V:=Q;clear T Q;refine ZX (S:=fun W=>True) (by kernel_rfl) trivial (fun Z9=>?_);generalize wr.drew=wa at *
    iterate 2 (refine Zf ?_ (by kernel_rfl) (fun _=>id) Z9 ?_ ?_;rotate_left;· intro w9 ZQ;clear ZQ;go_simp;try with_reducible rfl)
    refine Zf (.bool false) (by kernel_rfl) (fun _=>id) Z9 ?_ ?_
    · intro w9 ZQ;clear ZQ;go_simp;try (first | rfl | omega | simp_all)
    iterate 5 (refine Zf ?_ (by kernel_rfl) (fun _=>id) Z9 ?_ ?_;rotate_left;· intro w9 ZQ;clear ZQ;go_simp;try with_reducible rfl)
    iterate 9 (refine J7 (by kernel_rfl) (fun _=>id) Z9 ?_)
    iterate 3 (refine Zf ?_ (by kernel_rfl) (fun _=>id) Z9 ?_ ?_;rotate_left;· intro w9 ZQ;clear ZQ;go_simp;try with_reducible rfl)
    refine ZR (by kernel_rfl) ?_ _
    simp only [Act.put,WV,WU,WT]
    clear Z9
    go_wp2_with fail
    have T:Hid (UM 249 wa.drew w.heap.size (.slice E acc.length ce) acc):=OE.out.below (below_drewN' wa 1);have Q:Hid (Zi w wa.drew):=V.out.trans ((below_drewN' wa 1).mono V.out.size);clear OE V;have OE:=T;have V:=Q;clear T Q;refine ZX (S:=fun W=>True) (by kernel_rfl) trivial (fun Z9=>?_);generalize wa.drew=wb at *
    iterate 4 (refine Zf ?_ (by kernel_rfl) (fun _=>id) Z9 ?_ ?_;rotate_left;· intro w9 ZQ;clear ZQ;go_simp;try with_reducible rfl)
    iterate 9 (refine J7 (by kernel_rfl) (fun _=>id) Z9 ?_)
    iterate 2 (refine Zf ?_ (by kernel_rfl) (fun _=>id) Z9 ?_ ?_;rotate_left;· intro w9 ZQ;clear ZQ;go_simp;try with_reducible rfl)
    refine ZR (by kernel_rfl) ?_ _
    simp only [Act.put,WV,WU,WT]
    clear Z9;obtain ⟨y0,y1,y2,y3,y4,y5,y6⟩:=(O.out.below V.out hb2).all;have sB:=V.out.size;have U:Hid (UM 249 wb w.heap.size (.slice E acc.length ce) acc):=OE;have GJ:Hid (Zi w wb):=V
    go_wp2_with (at_builtin;go_must (refine Yn _ rfl _ _ 190 rfl w.heap.size 249 i0 (.agg #[.bool false,.string ByteArray.empty,.string ByteArray.empty,.int .i64 0,.int .i64 0,.int .i64 0,.int .i64 0,.int .i64 0]) 8 80 Tryz.underlying190 hi0 hz0 hz1 hz2 rfl (by decide) _ _ _ rfl (U.out.alloc _) ⟨wb.heap.size,0,none⟩ 1 1 (GN (TV b)) rfl rfl (QP _ _ _) (Pm _) ?c1 ?c2 ?c3 ?_))
    case c1=>unfold maxLen;omega
    case c2=>omega
    case c3=>simp;omega
    intro v5 w5 Rb hg5 _;obtain ⟨o5,b5⟩:=U.out.Fk GJ.out Rb hg5;have O5:Hid (UM 249 w5 w.heap.size v5 (acc++[TV b])):=o5;have B5:Hid (Zi w w5):=b5;clear o5 b5 Rb hg5 U GJ
    go_wp2_with fail
    exact ⟨⟨[],Bs,acc++[TV b],_,_,_,rfl,rfl,rfl,by simp at hlen ⊢;omega,RA,RT,HN,O5,B5⟩,by simp⟩
  | cons a As =>
   obtain ⟨-,Yf,Yc,b1,o1,rfl,hb1,hce,hrd⟩:=RA.out.Ff;have ZG:=ZU hrd;have Z7:=ZU hce;clear hce hrd
   cases Bk with
   | nil =>
    obtain ⟨x0,x1,x2,x3,x4,x5,x6⟩:=(Z7.out.below V.out hb1).all;have HN:Hid ((acc++[Qi a])++UY As []=res):=by have:=GO.out;rw [vO] at this;show _=_;rw [ZO];exact this
    have hal:acc.length+1≤2000:=by have:=OO.out;rw [←HN.out] at this;simp at this;omega
    clear RA GO
    go_wp2_with fail
    go_quiet (fail)
    have U:Hid (UM 249 (wr.drewN nq) w.heap.size (.slice E acc.length ce) acc):=OE.out.below (below_drewN' wr nq);have GJ:Hid (Zi w (wr.drewN nq)):=V.out.trans ((below_drewN' wr nq).mono V.out.size)
    go_wp2_with (at_builtin;go_must (refine Yn _ rfl _ _ 190 rfl w.heap.size 249 i0 (.agg #[.bool false,.string ByteArray.empty,.string ByteArray.empty,.int .i64 0,.int .i64 0,.int .i64 0,.int .i64 0,.int .i64 0]) 8 80 Tryz.underlying190 hi0 hz0 hz1 hz2 rfl (by decide) _ _ _ rfl (U.out.alloc _) ⟨(wr.drewN nq).heap.size,0,none⟩ 1 1 (GN (Qi a)) rfl rfl (QP _ _ _) (Pm _) ?c1 ?c2 ?c3 ?_))
    case c1=>unfold maxLen;omega
    case c2=>omega
    case c3=>simp;omega
    intro v5 w5 Rb hg5 _;obtain ⟨o5,b5⟩:=U.out.Fk GJ.out Rb hg5;have O5:Hid (UM 249 w5 w.heap.size v5 (acc++[Qi a])):=o5;have B5:Hid (Zi w w5):=b5;clear o5 b5 Rb hg5 U GJ
    go_wp2_with fail
    exact ⟨⟨As,[],acc++[Qi a],_,_,_,rfl,rfl,rfl,by simp at hlen ⊢;omega,ZG,RB,HN,O5,B5⟩,by simp⟩
   | cons b Bs =>
    obtain ⟨-,YK,YI,b2,o2,rfl,hb2,hce,hrd⟩:=RB.out.Ff;have Zx:=ZU hrd;have O:=ZU hce;clear hce hrd;have hA1:¬((As.length:Int)+1=0):=by omega
    have hB1:¬((Bs.length:Int)+1=0):=by omega
    have hA2:(0:Int)<(As.length:Int)+1:=by omega
    go_wp2_with fail
    have T:Hid (UM 249 wr.drew w.heap.size (.slice E acc.length ce) acc):=OE.out.below (below_drewN' wr 1);have Q:Hid (Zi w wr.drew):=V.out.trans ((below_drewN' wr 1).mono V.out.size);clear OE V;have OE:=T;have V:=Q;clear T Q;refine ZX (S:=fun W=>W.cell? ⟨b1,o1,none⟩=some (.string a.path)∧W.cell? ⟨b2,o2,none⟩=some (.string b.path)) (by kernel_rfl) ⟨(Z7.out.below V.out hb1).all.1,(O.out.below V.out hb2).all.1⟩ (fun Z9=>?_);generalize wr.drew=wa at *
    cases hl1:Op.bytesLess a.path.toList b.path.toList with
    | true =>
     have HN:Hid ((acc++[Qi a])++UY As (b :: Bs)=res):=by have:=GO.out;rw [ru As Bs hl1] at this;show _=_;rw [ZO];exact this
     have hal:acc.length+1≤2000:=by have:=OO.out;rw [←HN.out] at this;simp at this;omega
     iterate 2 (refine Zf ?_ (by kernel_rfl) (fun _=>id) Z9 ?_ ?_;rotate_left;· intro w9 ZQ;clear ZQ;go_simp;try with_reducible rfl)
     refine Zf (.bool false) (by kernel_rfl) (fun _=>id) Z9 ?_ ?_
     · intro w9 ZQ;clear ZQ;go_simp;try (first | rfl | omega | simp_all)
     iterate 3 (refine Zf ?_ (by kernel_rfl) (fun _=>id) Z9 ?_ ?_;rotate_left;· intro w9 ZQ;clear ZQ;go_simp;try with_reducible rfl)
     refine Zf (.bool true) (by kernel_rfl) (fun _=>id) Z9 ?_ ?_
     · intro w9 ZQ;clear ZQ;go_simp;try (first | rfl | omega | simp_all)
     iterate 1 (refine Zf ?_ (by kernel_rfl) (fun _=>id) Z9 ?_ ?_;rotate_left;· intro w9 ZQ;clear ZQ;go_simp;try with_reducible rfl)
     iterate 8 (refine Zf ?_ (by kernel_rfl) (fun _=>id) Z9 ?_ ?_;rotate_left;· intro w9 ZQ;obtain ⟨k0,k1⟩:=ZQ;go_simp;try with_reducible rfl)
     refine Zf (.bool true) (by kernel_rfl) (fun _=>id) Z9 ?_ ?_
     · intro w9 ZQ;clear ZQ;go_simp;try (first | rfl | omega | simp_all)
     iterate 3 (refine Zf ?_ (by kernel_rfl) (fun _=>id) Z9 ?_ ?_;rotate_left;· intro w9 ZQ;clear ZQ;go_simp;try with_reducible rfl)
     refine ZR (by kernel_rfl) ?_ _
     simp only [Act.put,WV,WU,WT]
     clear Z9 hl1;obtain ⟨x0,x1,x2,x3,x4,x5,x6⟩:=(Z7.out.below V.out hb1).all;have sB:=V.out.size;have U:Hid (UM 249 wa w.heap.size (.slice E acc.length ce) acc):=OE;have GJ:Hid (Zi w wa):=V
     go_wp2_with (at_builtin;go_must (refine Yn _ rfl _ _ 190 rfl w.heap.size 249 i0 (.agg #[.bool false,.string ByteArray.empty,.string ByteArray.empty,.int .i64 0,.int .i64 0,.int .i64 0,.int .i64 0,.int .i64 0]) 8 80 Tryz.underlying190 hi0 hz0 hz1 hz2 rfl (by decide) _ _ _ rfl (U.out.alloc _) ⟨wa.heap.size,0,none⟩ 1 1 (GN (Qi a)) rfl rfl (QP _ _ _) (Pm _) ?c1 ?c2 ?c3 ?_))
     case c1=>unfold maxLen;omega
     case c2=>omega
     case c3=>simp;omega
     intro v5 w5 Rb hg5 _;obtain ⟨o5,b5⟩:=U.out.Fk GJ.out Rb hg5;have O5:Hid (UM 249 w5 w.heap.size v5 (acc++[Qi a])):=o5;have B5:Hid (Zi w w5):=b5;clear o5 b5 Rb hg5 U GJ
     go_wp2_with fail
     exact ⟨⟨As,b :: Bs,acc++[Qi a],_,_,_,rfl,rfl,rfl,by simp at hlen ⊢;omega,ZG,RB,HN,O5,B5⟩,by simp⟩
    | false =>
     have eI:=ZU hl1
     iterate 2 (refine Zf ?_ (by kernel_rfl) (fun _=>id) Z9 ?_ ?_;rotate_left;· intro w9 ZQ;clear ZQ;go_simp;try with_reducible rfl)
     refine Zf (.bool false) (by kernel_rfl) (fun _=>id) Z9 ?_ ?_
     · intro w9 ZQ;clear ZQ;go_simp;try (first | rfl | omega | simp_all)
     iterate 3 (refine Zf ?_ (by kernel_rfl) (fun _=>id) Z9 ?_ ?_;rotate_left;· intro w9 ZQ;clear ZQ;go_simp;try with_reducible rfl)
     refine Zf (.bool true) (by kernel_rfl) (fun _=>id) Z9 ?_ ?_
     · intro w9 ZQ;clear ZQ;go_simp;try (first | rfl | omega | simp_all)
     iterate 1 (refine Zf ?_ (by kernel_rfl) (fun _=>id) Z9 ?_ ?_;rotate_left;· intro w9 ZQ;clear ZQ;go_simp;try with_reducible rfl)
     iterate 8 (refine Zf ?_ (by kernel_rfl) (fun _=>id) Z9 ?_ ?_;rotate_left;· intro w9 ZQ;obtain ⟨k0,k1⟩:=ZQ;go_simp;try with_reducible rfl)
     refine Zf (.bool false) (by kernel_rfl) (fun _=>id) Z9 ?_ ?_
     · intro w9 ZQ;clear ZQ;go_simp;try (first | rfl | omega | simp_all)
     iterate 3 (refine Zf ?_ (by kernel_rfl) (fun _=>id) Z9 ?_ ?_;rotate_left;· intro w9 ZQ;clear ZQ;go_simp;try with_reducible rfl)
     refine ZR (by kernel_rfl) ?_ _
     simp only [Act.put,WV,WU,WT]
     clear Z9 hl1
     go_wp2_with fail
     have T:Hid (UM 249 wa.drew w.heap.size (.slice E acc.length ce) acc):=OE.out.below (below_drewN' wa 1);have Q:Hid (Zi w wa.drew):=V.out.trans ((below_drewN' wa 1).mono V.out.size);clear OE V;have OE:=T;have V:=Q;clear T Q;refine ZX (S:=fun W=>W.cell? ⟨b1,o1,none⟩=some (.string a.path)∧W.cell? ⟨b2,o2,none⟩=some (.string b.path)) (by kernel_rfl) ⟨(Z7.out.below V.out hb1).all.1,(O.out.below V.out hb2).all.1⟩ (fun Z9=>?_);generalize wa.drew=wb at *
     cases hl2:Op.bytesLess b.path.toList a.path.toList with
     | true =>
      have HN:Hid ((acc++[TV b])++UY (a :: As) Bs=res):=by have:=GO.out;rw [rq As Bs hl2] at this;show _=_;rw [ZO];exact this
      have hal:acc.length+1≤2000:=by have:=OO.out;rw [←HN.out] at this;simp at this;omega
      iterate 2 (refine Zf ?_ (by kernel_rfl) (fun _=>id) Z9 ?_ ?_;rotate_left;· intro w9 ZQ;clear ZQ;go_simp;try with_reducible rfl)
      refine Zf (.bool false) (by kernel_rfl) (fun _=>id) Z9 ?_ ?_
      · intro w9 ZQ;clear ZQ;go_simp;try (first | rfl | omega | simp_all)
      iterate 1 (refine Zf ?_ (by kernel_rfl) (fun _=>id) Z9 ?_ ?_;rotate_left;· intro w9 ZQ;clear ZQ;go_simp;try with_reducible rfl)
      iterate 8 (refine Zf ?_ (by kernel_rfl) (fun _=>id) Z9 ?_ ?_;rotate_left;· intro w9 ZQ;obtain ⟨k0,k1⟩:=ZQ;go_simp;try with_reducible rfl)
      refine Zf (.bool true) (by kernel_rfl) (fun _=>id) Z9 ?_ ?_
      · intro w9 ZQ;clear ZQ;go_simp;try (first | rfl | omega | simp_all)
      iterate 2 (refine Zf ?_ (by kernel_rfl) (fun _=>id) Z9 ?_ ?_;rotate_left;· intro w9 ZQ;clear ZQ;go_simp;try with_reducible rfl)
      refine ZR (by kernel_rfl) ?_ _
      simp only [Act.put,WV,WU,WT]
      clear Z9 hl2;obtain ⟨y0,y1,y2,y3,y4,y5,y6⟩:=(O.out.below V.out hb2).all;have sB:=V.out.size;have U:Hid (UM 249 wb w.heap.size (.slice E acc.length ce) acc):=OE;have GJ:Hid (Zi w wb):=V
      go_wp2_with (at_builtin;go_must (refine Yn _ rfl _ _ 190 rfl w.heap.size 249 i0 (.agg #[.bool false,.string ByteArray.empty,.string ByteArray.empty,.int .i64 0,.int .i64 0,.int .i64 0,.int .i64 0,.int .i64 0]) 8 80 Tryz.underlying190 hi0 hz0 hz1 hz2 rfl (by decide) _ _ _ rfl (U.out.alloc _) ⟨wb.heap.size,0,none⟩ 1 1 (GN (TV b)) rfl rfl (QP _ _ _) (Pm _) ?c1 ?c2 ?c3 ?_))
      case c1=>unfold maxLen;omega
      case c2=>omega
      case c3=>simp;omega
      intro v5 w5 Rb hg5 _;obtain ⟨o5,b5⟩:=U.out.Fk GJ.out Rb hg5;have O5:Hid (UM 249 w5 w.heap.size v5 (acc++[TV b])):=o5;have B5:Hid (Zi w w5):=b5;clear o5 b5 Rb hg5 U GJ
      go_wp2_with fail
      exact ⟨⟨a :: As,Bs,acc++[TV b],_,_,_,rfl,rfl,rfl,by simp at hlen ⊢;omega,RA,Zx,HN,O5,B5⟩,by simp⟩
     | false =>
      have HL2:=ZU hl2
      iterate 2 (refine Zf ?_ (by kernel_rfl) (fun _=>id) Z9 ?_ ?_;rotate_left;· intro w9 ZQ;clear ZQ;go_simp;try with_reducible rfl)
      refine Zf (.bool false) (by kernel_rfl) (fun _=>id) Z9 ?_ ?_
      · intro w9 ZQ;clear ZQ;go_simp;try (first | rfl | omega | simp_all)
      iterate 1 (refine Zf ?_ (by kernel_rfl) (fun _=>id) Z9 ?_ ?_;rotate_left;· intro w9 ZQ;clear ZQ;go_simp;try with_reducible rfl)
      iterate 8 (refine Zf ?_ (by kernel_rfl) (fun _=>id) Z9 ?_ ?_;rotate_left;· intro w9 ZQ;obtain ⟨k0,k1⟩:=ZQ;go_simp;try with_reducible rfl)
      refine Zf (.bool false) (by kernel_rfl) (fun _=>id) Z9 ?_ ?_
      · intro w9 ZQ;clear ZQ;go_simp;try (first | rfl | omega | simp_all)
      iterate 2 (refine Zf ?_ (by kernel_rfl) (fun _=>id) Z9 ?_ ?_;rotate_left;· intro w9 ZQ;clear ZQ;go_simp;try with_reducible rfl)
      refine ZR (by kernel_rfl) ?_ _
      simp only [Act.put,WV,WU,WT]
      clear Z9 hl2
      go_wp2_with fail
      have T:Hid (UM 249 wb.drew w.heap.size (.slice E acc.length ce) acc):=OE.out.below (below_drewN' wb 1);have Q:Hid (Zi w wb.drew):=V.out.trans ((below_drewN' wb 1).mono V.out.size);clear OE V;have OE:=T;have V:=Q;clear T Q;refine ZX (S:=fun W=>Um W b1 o1 a∧Um W b2 o2 b) (by kernel_rfl) ⟨Z7.out.below V.out hb1,O.out.below V.out hb2⟩ (fun Z9=>?_);generalize wb.drew=wc at *
      iterate 6 (refine Zf ?_ (by kernel_rfl) (fun _=>id) Z9 ?_ ?_;rotate_left;· intro w9 ZQ;obtain ⟨io,hcb⟩:=ZQ;obtain ⟨x0,x1,x2,x3,x4,x5,x6⟩:=io.all;obtain ⟨y0,y1,y2,y3,y4,y5,y6⟩:=hcb.all;go_simp;try with_reducible rfl)
      have ZF:Hid (acc++(if LR a b then UY As Bs else TV b :: UY As Bs)=res):=by have:=GO.out;rw [rp As Bs eI.out HL2.out] at this;exact this
      refine Zf (.bool (!LR a b)) (by kernel_rfl) (fun _=>id) Z9 ?_ ?_
      · intro w9 ZQ;clear ZQ;unfold LR
        cases e0:(a.path.toList == b.path.toList) with
        | false=>go_simp
        | true =>
         cases e1:(a.data.toList == b.data.toList) with
         | false=>go_simp
         | true =>
          cases e2:(a.XT == b.XT) with
          | false=>go_simp
          | true =>
           cases e3:(a.XQ == b.XQ) with
           | false=>go_simp
           | true =>
            cases e4:(a.cz == b.cz) with
            | false=>go_simp
            | true =>
             cases e5:(a.mz == b.mz) with
             | false=>go_simp
             | true =>
              cases e6:(a.pz == b.pz) with
              | false=>go_simp
              | true=>go_simp
      refine ZR (by kernel_rfl) ?_ _
      simp only [Act.put,WV,WU,WT]
      clear Z9;have sB:=V.out.size
      cases heq:LR a b with
      | true =>
       have HN:Hid (acc++UY As Bs=res):=by have:=ZF.out;rw [heq,Z0 rfl] at this;exact this
       go_wp2_with fail
       have T:Hid (UM 249 wc.drew w.heap.size (.slice E acc.length ce) acc):=OE.out.below (below_drewN' wc 1);have Q:Hid (Zi w wc.drew):=V.out.trans ((below_drewN' wc 1).mono V.out.size);refine ZX (S:=fun W=>True) (by kernel_rfl) trivial (fun Z9=>?_);generalize wc.drew=wd at *
       iterate 1 (refine Zf ?_ (by kernel_rfl) (fun _=>id) Z9 ?_ ?_;rotate_left;· intro w9 ZQ;clear ZQ;go_simp;try with_reducible rfl)
       refine Zf (.slice (if ca=1 then some ⟨b1,o1,none⟩ else some ⟨b1,o1+7,none⟩) As.length (ca - 1)) (by kernel_rfl) (fun _=>id) Z9 ?_ ?_
       · intro w9 ZQ;clear ZQ;go_simp;try (intro h9;omega)
       iterate 1 (refine Zf ?_ (by kernel_rfl) (fun _=>id) Z9 ?_ ?_;rotate_left;· intro w9 ZQ;clear ZQ;go_simp;try with_reducible rfl)
       refine Zf (.slice (if cb=1 then some ⟨b2,o2,none⟩ else some ⟨b2,o2+7,none⟩) Bs.length (cb - 1)) (by kernel_rfl) (fun _=>id) Z9 ?_ ?_
       · intro w9 ZQ;clear ZQ;go_simp;try (intro h9;omega)
       iterate 2 (refine Zf ?_ (by kernel_rfl) (fun _=>id) Z9 ?_ ?_;rotate_left;· intro w9 ZQ;clear ZQ;go_simp;try with_reducible rfl)
       refine ZR (by kernel_rfl) ?_ _
       simp only [Act.put,WV,WU,WT]
       clear Z9
       go_wp2_with fail
       exact ⟨⟨As,Bs,acc,_,_,_,rfl,rfl,rfl,by simp at hlen ⊢;omega,ZG,Zx,HN,T,Q⟩,by simp;omega⟩
      | false =>
       have HN:Hid ((acc++[TV b])++UY As Bs=res):=by have:=ZF.out;rw [heq,Z1 (by decide)] at this;show _=_;rw [ZO];exact this
       have hal:acc.length+1≤2000:=by have:=OO.out;rw [←HN.out] at this;simp at this;omega
       obtain ⟨y0,y1,y2,y3,y4,y5,y6⟩:=(O.out.below V.out hb2).all;have U:Hid (UM 249 wc w.heap.size (.slice E acc.length ce) acc):=OE;have GJ:Hid (Zi w wc):=V
       go_wp2_with (at_builtin;go_must (refine Yn _ rfl _ _ 190 rfl w.heap.size 249 i0 (.agg #[.bool false,.string ByteArray.empty,.string ByteArray.empty,.int .i64 0,.int .i64 0,.int .i64 0,.int .i64 0,.int .i64 0]) 8 80 Tryz.underlying190 hi0 hz0 hz1 hz2 rfl (by decide) _ _ _ rfl (U.out.alloc _) ⟨wc.heap.size,0,none⟩ 1 1 (GN (TV b)) rfl rfl (QP _ _ _) (Pm _) ?c1 ?c2 ?c3 ?_))
       case c1=>unfold maxLen;omega
       case c2=>omega
       case c3=>simp;omega
       intro v5 w5 Rb hg5 _;obtain ⟨o5,b5⟩:=U.out.Fk GJ.out Rb hg5;have O5:Hid (UM 249 w5 w.heap.size v5 (acc++[TV b])):=o5;have B5:Hid (Zi w w5):=b5;clear o5 b5 Rb hg5 U GJ
       go_wp2_with fail
       have T:Hid (UM 249 w5.drew w.heap.size v5 (acc++[TV b])):=O5.out.below (below_drewN' w5 1);have Q:Hid (Zi w w5.drew):=B5.out.trans ((below_drewN' w5 1).mono B5.out.size);refine ZX (S:=fun W=>True) (by kernel_rfl) trivial (fun Z9=>?_);generalize w5.drew=wd at *
       iterate 1 (refine Zf ?_ (by kernel_rfl) (fun _=>id) Z9 ?_ ?_;rotate_left;· intro w9 ZQ;clear ZQ;go_simp;try with_reducible rfl)
       refine Zf (.slice (if ca=1 then some ⟨b1,o1,none⟩ else some ⟨b1,o1+7,none⟩) As.length (ca - 1)) (by kernel_rfl) (fun _=>id) Z9 ?_ ?_
       · intro w9 ZQ;clear ZQ;go_simp;try (intro h9;omega)
       iterate 1 (refine Zf ?_ (by kernel_rfl) (fun _=>id) Z9 ?_ ?_;rotate_left;· intro w9 ZQ;clear ZQ;go_simp;try with_reducible rfl)
       refine Zf (.slice (if cb=1 then some ⟨b2,o2,none⟩ else some ⟨b2,o2+7,none⟩) Bs.length (cb - 1)) (by kernel_rfl) (fun _=>id) Z9 ?_ ?_
       · intro w9 ZQ;clear ZQ;go_simp;try (intro h9;omega)
       iterate 2 (refine Zf ?_ (by kernel_rfl) (fun _=>id) Z9 ?_ ?_;rotate_left;· intro w9 ZQ;clear ZQ;go_simp;try with_reducible rfl)
       refine ZR (by kernel_rfl) ?_ _
       simp only [Act.put,WV,WU,WT]
       clear Z9
       go_wp2_with fail
       exact ⟨⟨As,Bs,acc++[TV b],_,_,_,rfl,rfl,rfl,by simp at hlen ⊢;omega,ZG,Zx,HN,T,Q⟩,by simp;omega⟩
end
section
open Go.Shelf
variable {p:ByteArray} {z:Int} {nm:List ByteArray} {A B P ns r:List Nd} {os:List TO} {us xs:List Value} {i j k lo lo' m n:Nat} {a b:Nd} {o:TO} {e:TypeId} {v vo:Value} {W W' w w':World}
def Tryz.Ho:Go.Shelf.Ren:=⟨fun | 173=>265 | 246=>271 | 283=>216 | 284=>217 | 285=>218 | 286=>219 | 129=>241 | 317=>240 | 318=>242 | 319=>243 | 320=>244 | 337=>263 | 338=>264 | n=>n,fun | 2=>2 | 3=>3 | 9=>9 | 4=>4 | 171=>313 | 0=>0 | 53=>273 | 37=>22 | 5=>5 | 173=>316 | 212=>340 | 51=>150 | 20=>20 | 213=>341 | 46=>151 | 232=>377 | 233=>116 | n=>n,fun | 17=>6 | 18=>9 | 19=>10 | n=>n⟩
theorem Tryz.vM:Go.Proofs.LaysM.n173 Tryz.prog Tryz.Ho:={
 mixed:=by kernel_rfl
 f129:=Tryz.func241.trans (ZM some (by kernel_rfl))
 f173:=Tryz.func265.trans (ZM some (by kernel_rfl))
 f246:=Tryz.func271.trans (ZM some (by kernel_rfl))
 f283:=Tryz.func216.trans (ZM some (by kernel_rfl))
 f284:=Tryz.func217.trans (ZM some (by kernel_rfl))
 f285:=Tryz.func218.trans (ZM some (by kernel_rfl))
 f286:=Tryz.func219.trans (ZM some (by kernel_rfl))
 f317:=Tryz.func240.trans (ZM some (by kernel_rfl))
 f318:=Tryz.func242.trans (ZM some (by kernel_rfl))
 f319:=Tryz.func243.trans (ZM some (by kernel_rfl))
 f320:=Tryz.func244.trans (ZM some (by kernel_rfl))
 f337:=Tryz.func263.trans (ZM some (by kernel_rfl))
 f338:=Tryz.func264.trans (ZM some (by kernel_rfl))
 t0:=Tryz.underlying0
 a0:=Tryz.isAgg0
 z0:=Tryz.sizeOf0
 v0:=Tryz.zeroValue0
 t2:=Tryz.underlying2
 a2:=Tryz.isAgg2
 z2:=Tryz.sizeOf2
 v2:=Tryz.zeroValue2
 t3:=Tryz.underlying3
 a3:=Tryz.isAgg3
 z3:=Tryz.sizeOf3
 v3:=Tryz.zeroValue3
 t4:=Tryz.underlying4
 a4:=Tryz.isAgg4
 z4:=Tryz.sizeOf4
 v4:=Tryz.zeroValue4
 t5:=Tryz.underlying5
 a5:=Tryz.isAgg5
 z5:=Tryz.sizeOf5
 v5:=Tryz.zeroValue5
 t9:=Tryz.underlying9
 a9:=Tryz.isAgg9
 z9:=Tryz.sizeOf9
 v9:=Tryz.zeroValue9
 t20:=Tryz.underlying20
 a20:=Tryz.isAgg20
 z20:=Tryz.sizeOf20
 v20:=Tryz.zeroValue20
 t37:=Tryz.underlying22
 a37:=Tryz.isAgg22
 z37:=Tryz.sizeOf22
 v37:=Tryz.zeroValue22
 t46:=Tryz.underlying151
 a46:=Tryz.isAgg151
 z46:=Tryz.sizeOf151
 v46:=Tryz.zeroValue151
 t51:=Tryz.underlying150
 a51:=Tryz.isAgg150
 z51:=Tryz.sizeOf150
 v51:=Tryz.zeroValue150
 t53:=Tryz.underlying273
 a53:=Tryz.isAgg273
 z53:=Tryz.sizeOf273
 v53:=Tryz.zeroValue273
 t171:=Tryz.underlying313
 a171:=Tryz.isAgg313
 z171:=Tryz.sizeOf313
 v171:=Tryz.zeroValue313
 t173:=Tryz.underlying316
 a173:=Tryz.isAgg316
 z173:=Tryz.sizeOf316
 v173:=Tryz.zeroValue316
 t212:=Tryz.underlying340
 a212:=Tryz.isAgg340
 z212:=Tryz.sizeOf340
 v212:=Tryz.zeroValue340
 t213:=Tryz.underlying341
 a213:=Tryz.isAgg341
 z213:=Tryz.sizeOf341
 t232:=Tryz.underlying377
 a232:=Tryz.isAgg377
 z232:=Tryz.sizeOf377
 v232:=Tryz.zeroValue377
 t233:=Tryz.underlying116
 a233:=Tryz.isAgg116
 z233:=Tryz.sizeOf116
 v233:=Tryz.zeroValue116
 g17:=by kernel_rfl
 g18:=by kernel_rfl
 g19:=by kernel_rfl
 i0:=by kernel_rfl
 i2:=by kernel_rfl
 i3:=by kernel_rfl
 i4:=by kernel_rfl
 i5:=by kernel_rfl
 i9:=by kernel_rfl
 i20:=by kernel_rfl
 i37:=by kernel_rfl
 i46:=by kernel_rfl
 i51:=by kernel_rfl
 i53:=by kernel_rfl
 i171:=by kernel_rfl
 i173:=by kernel_rfl
 i212:=by kernel_rfl
 i232:=by kernel_rfl
 i233:=by kernel_rfl
 m17:=by kernel_rfl
 m18:=by kernel_rfl
 m19:=by kernel_rfl }
open Go.RowKit Go.Sort Go.Lib in
theorem Tryz.strconv_FormatInt_10 (n : Int) (h0 : -9223372036854775808 ≤ n) (h1 : n ≤ 9223372036854775807) (w : World) (htab : Lib.TabIs Tryz.prog w "internal/strconv.uint64pow10" .u64 Lib.pow10Tab) :
    Calls Tryz.prog 265 #[.int .i64 n,.int .i64 10] w fun e w'=>e=.returned (.string ⟨(Lib.itoa n).toArray⟩)∧∃k os,w'=grow (w.drewN k) os:=Any.strconv_FormatInt_10 Tryz.vM n h0 h1 w htab
def Tryz.L7:Go.Shelf.Ren:=⟨fun | 105=>266 | 212=>272 | 99=>192 | 165=>162 | 166=>119 | 170=>273 | 169=>120 | 263=>275 | 264=>276 | 206=>221 | 240=>163 | 241=>197 | 276=>198 | 277=>224 | n=>n,fun | 9=>9 | 3=>3 | 4=>4 | 20=>20 | 0=>0 | 46=>151 | 109=>378 | 5=>5 | 72=>180 | 76=>183 | 51=>150 | 146=>309 | 53=>273 | 148=>381 | 70=>178 | 37=>22 | 75=>182 | 127=>236 | 164=>278 | 80=>84 | n=>n,fun | n=>n⟩
theorem Tryz.rn:Go.Proofs.Lays.n105 Tryz.prog Tryz.L7:={
 mixed:=by kernel_rfl
 f99:=Tryz.func192.trans (ZM some (by kernel_rfl))
 f105:=Tryz.func266.trans (ZM some (by kernel_rfl))
 f165:=Tryz.func162.trans (ZM some (by kernel_rfl))
 f166:=Tryz.func119.trans (ZM some (by kernel_rfl))
 f169:=Tryz.func120.trans (ZM some (by kernel_rfl))
 f170:=Tryz.func273.trans (ZM some (by kernel_rfl))
 f206:=Tryz.func221.trans (ZM some (by kernel_rfl))
 f212:=Tryz.func272.trans (ZM some (by kernel_rfl))
 f240:=Tryz.func163.trans (ZM some (by kernel_rfl))
 f241:=Tryz.func197.trans (ZM some (by kernel_rfl))
 f263:=Tryz.func275.trans (ZM some (by kernel_rfl))
 f264:=Tryz.func276.trans (ZM some (by kernel_rfl))
 f276:=Tryz.func198.trans (ZM some (by kernel_rfl))
 f277:=Tryz.func224.trans (ZM some (by kernel_rfl))
 t0:=Tryz.underlying0
 a0:=Tryz.isAgg0
 z0:=Tryz.sizeOf0
 v0:=Tryz.zeroValue0
 t3:=Tryz.underlying3
 a3:=Tryz.isAgg3
 z3:=Tryz.sizeOf3
 v3:=Tryz.zeroValue3
 t4:=Tryz.underlying4
 a4:=Tryz.isAgg4
 z4:=Tryz.sizeOf4
 v4:=Tryz.zeroValue4
 t5:=Tryz.underlying5
 a5:=Tryz.isAgg5
 z5:=Tryz.sizeOf5
 v5:=Tryz.zeroValue5
 t9:=Tryz.underlying9
 a9:=Tryz.isAgg9
 z9:=Tryz.sizeOf9
 v9:=Tryz.zeroValue9
 t20:=Tryz.underlying20
 a20:=Tryz.isAgg20
 z20:=Tryz.sizeOf20
 v20:=Tryz.zeroValue20
 t37:=Tryz.underlying22
 a37:=Tryz.isAgg22
 z37:=Tryz.sizeOf22
 v37:=Tryz.zeroValue22
 t46:=Tryz.underlying151
 a46:=Tryz.isAgg151
 z46:=Tryz.sizeOf151
 v46:=Tryz.zeroValue151
 t51:=Tryz.underlying150
 a51:=Tryz.isAgg150
 z51:=Tryz.sizeOf150
 v51:=Tryz.zeroValue150
 t53:=Tryz.underlying273
 a53:=Tryz.isAgg273
 z53:=Tryz.sizeOf273
 v53:=Tryz.zeroValue273
 t70:=Tryz.underlying178
 a70:=Tryz.isAgg178
 z70:=Tryz.sizeOf178
 v70:=Tryz.zeroValue178
 t72:=Tryz.underlying180
 a72:=Tryz.isAgg180
 z72:=Tryz.sizeOf180
 v72:=Tryz.zeroValue180
 t75:=Tryz.underlying182
 a75:=Tryz.isAgg182
 z75:=Tryz.sizeOf182
 v75:=Tryz.zeroValue182
 t76:=Tryz.underlying183
 a76:=Tryz.isAgg183
 z76:=Tryz.sizeOf183
 v76:=Tryz.zeroValue183
 t109:=Tryz.underlying378
 a109:=Tryz.isAgg378
 z109:=Tryz.sizeOf378
 v109:=Tryz.zeroValue378
 t127:=Tryz.underlying236
 a127:=Tryz.isAgg236
 z127:=Tryz.sizeOf236
 v127:=Tryz.zeroValue236
 t146:=Tryz.underlying309
 a146:=Tryz.isAgg309
 z146:=Tryz.sizeOf309
 v146:=Tryz.zeroValue309
 t148:=Tryz.underlying381
 a148:=Tryz.isAgg381
 z148:=Tryz.sizeOf381
 v148:=Tryz.zeroValue381
 t164:=Tryz.underlying278
 a164:=Tryz.isAgg278
 z164:=Tryz.sizeOf278
 v164:=Tryz.zeroValue278 }
theorem Tryz.Nh:Builder.Extra Tryz.prog Tryz.L7:={
 sizeBuilder:=by kernel_rfl
 liesBuilder:=by kernel_rfl
 t5:=Tryz.underlying5
 a5:=Tryz.isAgg5
 z5:=Tryz.sizeOf5
 v5:=Tryz.zeroValue5
 infoByte:=by kernel_rfl
 cellsByte:=by kernel_rfl
 sizeByte:=by kernel_rfl
 neB5:=by decide }
open Go.RowKit Go.Lib in
theorem Tryz.strings_Repeat (s:ByteArray) (c:Nat) (w:World) (hc:c≤9223372036854775807) (hlen:s.size*c≤140737488355328) :
    Calls Tryz.prog 266 #[.string s,.int .i64 c] w (Wj w (.string ⟨(Lib.repeatL s.data.toList c).toArray⟩)):=Any.strings_Repeat Tryz.rn Tryz.Nh s c w hc hlen
end
section
open Go.RowKit Go.Shelf
variable {p:ByteArray} {z:Int} {nm:List ByteArray} {A B P ns r:List Nd} {os:List TO} {us xs:List Value} {i j k lo lo' m n:Nat} {a b:Nd} {o:TO} {e:TypeId} {v vo:Value} {W W' w w':World}
theorem ko (v:Nat):1≤(Lib.decDigits v).length:=by
 unfold Lib.decDigits
 split
 · simp
 simp
theorem Ku {v:Nat} (h:v<10):Lib.decDigits v=[UInt8.ofNat (48+v)]:=by rw [Lib.decDigits,dif_pos h]
theorem vL {v:Nat} (h:¬v<10):Lib.decDigits v=Lib.decDigits (v / 10)++[UInt8.ofNat (48+v % 10)]:=by rw [Lib.decDigits,dif_neg h]
theorem vK:∀f v d,v<10 ^ f→d≤f→six f v d=if v=0∧d=0 then [] else List.replicate (d - (Lib.decDigits v).length) 48++Lib.decDigits v
 | 0,v,d,hv,hd=>by
  have h1:v=0:=by simpa using hv
  have h2:d=0:=by omega
  rw [Z0 ⟨h1,h2⟩];rfl
 | f+1,v,d,hv,hd=>by
  unfold six
  by_cases h0:v=0∧d=0
  · rw [Z0 h0,Z0 h0]
  rw [Z1 h0,Z1 h0,vK f (v / 10) (d - 1) (by rw [Uc] at hv;omega) (by omega)]
  by_cases hs:v<10
  · rw [Ku hs,show v / 10=0 by omega,show v % 10=v by omega]
    by_cases hd1:d - 1=0
    · rw [Z0 ⟨rfl,hd1⟩]
      have:d - [UInt8.ofNat (48+v)].length=0:=by simp;omega
      rw [this]
      rfl
    rw [Z1 (fun h=>hd1 h.2),Ku (v:=0) (by omega)];show List.replicate (d - 1 - 1) 48++[UInt8.ofNat 48]++_=List.replicate (d - 1) 48++_
    congr 1
    rw [show d - 1=(d - 1 - 1)+1 by omega,US]
    rfl
  rw [Z1 (fun h=>by omega),vL hs,ZO,ZZ]
  congr 2
  show d - 1 - _=d - (_+1);omega
theorem vJ:∀f v,v<10 ^ f→1≤f→(Lib.decDigits v).length≤f
 | 0,_,_,h=>by omega
 | f+1,v,hv,_=>by
  by_cases hs:v<10
  · rw [Ku hs];simp
  rw [vL hs,ZZ];have h1:v / 10<10 ^ f:=by rw [Uc] at hv;omega
  have hf:1≤f:=by
   rcases Nat.eq_zero_or_pos f with h | h
   · subst h;simp at h1;omega
   exact h
  have:=vJ f (v / 10) h1 hf
  simp;omega
theorem vI (c:Nat):Lib.repeatL [48] c=List.replicate c (48:UInt8):=by
 have:=Lib.repeatL_replicate 48 1 c;rw [Yr] at this;exact this
theorem Fe (w:World) (k:Nat) (os:Array Obj):Zi w (Sort.grow (w.drewN k) os) :=
 ⟨rfl,rfl,rfl,by simp [Sort.grow,World.drewN],fun q hq=>by simp [Sort.grow,World.drewN,Array.getElem?_append_left hq]⟩
theorem C6 (w : World) (n : Int) (h0 : 0 ≤ n) (h1 : n ≤ 2147483647) (htab : Lib.TabIs Tryz.prog w "internal/strconv.uint64pow10" .u64 Lib.pow10Tab) :
    Calls Tryz.prog 249 #[.int .i64 n] w (Wj w (.string ⟨(six 12 n.toNat 6).toArray⟩)):=by
 have xU:Hid (Calls Tryz.prog 265 #[.int .i64 n,.int .i64 10] w (Wj w (.string ⟨(Lib.decDigits n.toNat).toArray⟩))):=by
  refine (Tryz.strconv_FormatInt_10 n (by omega) (by omega) w htab).mono ?_;rintro e w' ⟨rfl,k,os,rfl⟩;refine ⟨?_,Fe w k os⟩;unfold Lib.itoa;rw [Z1 (by omega)]
 have hv:n.toNat<10 ^ 12:=by omega
 have hl:=vJ 12 n.toNat hv (by omega);have hl1:=ko n.toNat;have HS:Hid (six 12 n.toNat 6=List.replicate (6 - (Lib.decDigits n.toNat).length) 48++Lib.decDigits n.toNat):=by
  show _=_;rw [vK 12 _ _ hv (by omega),Z1 (by omega)]
 obtain ⟨s,hs⟩:∃s:ByteArray,s=⟨(Lib.decDigits n.toNat).toArray⟩:=⟨_,rfl⟩;have hsz:s.size=(Lib.decDigits n.toNat).length:=by rw [hs];show (List.toArray _).size=_;rw [ZI]
 rw [←hs] at xU;have wJ:=ZU hs;have LW:=ZU hsz;have hs1:1≤s.size:=by omega
 have hs2:s.size≤12:=by omega
 clear htab hv hs hl hl1 hsz;obtain ⟨c,hc⟩:∃c:Nat,c=6 - s.size:=⟨_,rfl⟩;have iE:Hid (∀W,Calls Tryz.prog 266 #[.string ⟨#[48]⟩,.int .i64 (c:Int)] W (Wj W (.string ⟨(List.replicate c (48:UInt8)).toArray⟩))):=fun W=>by
  have h9:=Tryz.strings_Repeat ⟨#[48]⟩ c W (by omega) (by show 1*c≤_;omega);rw [show (⟨#[48]⟩:ByteArray).data.toList=[48] from rfl,vI] at h9;exact h9
 have hcm:max (0:Int) (6 - (s.size:Int))=(c:Int):=by omega
 go_enter Tryz.func249,Tryz.ntmps249
 go_wp2_with fail
 refine xU.out.mono ?_;rintro e w1 ⟨rfl,b1⟩;have B1:=ZU b1;clear b1 xU
 go_wp2_with fail
 rw [←hc];refine (iE.out w1).mono ?_;rintro e w2 ⟨rfl,b2⟩;have B2:=ZU (WD B1.out b2);clear b2 iE B1 hcm;obtain ⟨t,ht⟩:∃t:ByteArray,t=⟨(List.replicate c (48:UInt8)).toArray⟩:=⟨_,rfl⟩;have hts:t.size=c:=by rw [ht];show (List.toArray _).size=_;rw [ZI,XJ]
 rw [←ht];have PR:Hid (t++s=⟨(six 12 n.toNat 6).toArray⟩):=by
  show _=_;rw [HS.out,←LW.out,←hc,ht,wJ.out];apply WM;rw [Yd];apply UW
  simp
 clear ht;have hcc:t.size+s.size≤9223372036854775807:=by omega
 clear hc
 go_wp2_with fail
 refine ZW (v:=.string (t++s)) (by simp [results,Tryz.results249,go_sem]) rfl ⟨by rw [PR.out],B2.out⟩
end
end Go.Proofs.YtpmjnbmkippaiaaGreatDoor


