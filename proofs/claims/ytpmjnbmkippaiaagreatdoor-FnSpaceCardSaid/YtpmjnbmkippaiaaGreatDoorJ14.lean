import Derived.Test.YtpmjnbmkippaiaaGreatDoorJ13
set_option maxRecDepth 100000
set_option maxHeartbeats 16000000
set_option linter.unusedVariables false
set_option linter.unusedSimpArgs false
namespace Go.Proofs.YtpmjnbmkippaiaaGreatDoor
open Go.RowKit Go.Shelf
variable {d s v:Bool} {f wd:ByteArray} {k:Int} {w w':World}
def EG:List Value:=[.string ⟨#[99,114,101,97,116,101]⟩,.int .i64 1,.bool false,.bool true,.bool false,.string ⟨#[115,101,113]⟩,.int .i64 1,.bool true,.bool true,.bool false,.string ⟨#[100,101,108,101,116,101]⟩,.int .i64 2,.bool false,.bool false,.bool true,.string ⟨#[115,101,116]⟩,.int .i64 3,.bool false,.bool true,.bool true,.string ⟨#[99,104,101,99,107]⟩,.int .i64 4,.bool false,.bool false,.bool true]
def tp (w:World):Prop:=2<w.heap.size∧w.rangeAt 2 0 EG
theorem tp.later (h:tp w) (hb:Zi w w'):tp w':=⟨ZY h.1 hb.size,fun j v hv=>(hb.cell (p:=⟨2,0+j,none⟩) h.1).trans (h.2 j v hv)⟩
def Tk (f:ByteArray):Option (Int × Bool × Bool × Bool) :=
 if (f.toList == [99,114,101,97,116,101])=true then some (1,false,true,false)
 else if (f.toList == [115,101,113])=true then some (1,true,true,false)
 else if (f.toList == [100,101,108,101,116,101])=true then some (2,false,false,true)
 else if (f.toList == [115,101,116])=true then some (3,false,true,true)
 else if (f.toList == [99,104,101,99,107])=true then some (4,false,false,true)
 else none
def lj:List (List UInt8):=[[99,114,101,97,116,101],[115,101,113],[100,101,108,101,116,101],[115,101,116],[99,104,101,99,107]]
def uG (w:World) (f:ByteArray) (e:Ending) (w':World):Prop :=
 Zi w w'∧∃(wd:ByteArray) (k:Int) (s d v known:Bool),e=.returned (.tuple #[.agg #[.string wd,.int .i64 k,.bool s,.bool d,.bool v],.bool known])∧known=(Tk f).isSome∧∀x,Tk f=some x→x=(k,s,d,v)
theorem uG.yes (h:Tk f=some (k,s,d,v)) (hb:Zi w w'):uG w f (.returned (.tuple #[.agg #[.string wd,.int .i64 k,.bool s,.bool d,.bool v],.bool true])) w' :=
 ⟨hb,wd,k,s,d,v,true,rfl,by rw [h];rfl,fun x hx=>by rw [h] at hx;injection hx with hx;exact hx.symm⟩
theorem uG.no (h:Tk f=none) (hb:Zi w w'):uG w f (.returned (.tuple #[.agg #[.string wd,.int .i64 k,.bool s,.bool d,.bool v],.bool false])) w' :=
 ⟨hb,wd,k,s,d,v,false,rfl,by rw [h];rfl,fun x hx=>by rw [h] at hx;cases hx⟩
theorem fy (W:World):(Instr.index 269 (.agg EG.toArray) (.int .i64 0)).run Tryz.prog W=.ok (.agg #[.string ⟨#[99,114,101,97,116,101]⟩,.int .i64 1,.bool false,.bool true,.bool false]) W:=by kernel_rfl
theorem fw (W:World):(Instr.index 269 (.agg EG.toArray) (.int .i64 1)).run Tryz.prog W=.ok (.agg #[.string ⟨#[115,101,113]⟩,.int .i64 1,.bool true,.bool true,.bool false]) W:=by kernel_rfl
theorem fu (W:World):(Instr.index 269 (.agg EG.toArray) (.int .i64 2)).run Tryz.prog W=.ok (.agg #[.string ⟨#[100,101,108,101,116,101]⟩,.int .i64 2,.bool false,.bool false,.bool true]) W:=by kernel_rfl
theorem fq (W:World):(Instr.index 269 (.agg EG.toArray) (.int .i64 3)).run Tryz.prog W=.ok (.agg #[.string ⟨#[115,101,116]⟩,.int .i64 3,.bool false,.bool true,.bool true]) W:=by kernel_rfl
theorem fp (W:World):(Instr.index 269 (.agg EG.toArray) (.int .i64 4)).run Tryz.prog W=.ok (.agg #[.string ⟨#[99,104,101,99,107]⟩,.int .i64 4,.bool false,.bool false,.bool true]) W:=by kernel_rfl
theorem Mt {w1:World} (hb:Zi w w1) {a b c d e:Value} (X:St w1 w.heap.size [a,b,c,d,e]) (wd:ByteArray) (k:Int) (s dd v:Bool) :
    Zi w (((((w1.setCell ⟨w.heap.size,0,none⟩ (.string wd)).setCell ⟨w.heap.size,1,none⟩ (.int .i64 k)).setCell ⟨w.heap.size,2,none⟩ (.bool s)).setCell ⟨w.heap.size,3,none⟩ (.bool dd)).setCell ⟨w.heap.size,4,none⟩ (.bool v)) ∧
    St (((((w1.setCell ⟨w.heap.size,0,none⟩ (.string wd)).setCell ⟨w.heap.size,1,none⟩ (.int .i64 k)).setCell ⟨w.heap.size,2,none⟩ (.bool s)).setCell ⟨w.heap.size,3,none⟩ (.bool dd)).setCell ⟨w.heap.size,4,none⟩ (.bool v)) w.heap.size [.string wd,.int .i64 k,.bool s,.bool dd,.bool v] :=
 ⟨((((hb.setCell YR _).setCell YR _).setCell YR _).setCell YR _).setCell YR _,((((X.set 0 _).set 1 _).set 2 _).set 3 _).set 4 _⟩
theorem Tj {x y:List UInt8} {t:Bool} (h:(x == y)=t):(y == x)=t:=by rw [←h];exact BEq.comm
theorem CD (w:World) (f:ByteArray) (hg:tp w):Calls Tryz.prog 150 #[.string f] w fun e w'=>uG w f e w':=by
 have hA:Zi w (w.alloc (.cells #[.string ⟨#[]⟩,.int .i64 0,.bool false,.bool false,.bool false] 226)):=Yy.alloc YR _;have BA:=ZU hA;have X:=ZU (St.new w #[.string ⟨#[]⟩,.int .i64 0,.bool false,.bool false,.bool false] 226);have HG:=ZU (hg.later hA);have HX0:=ZU fy;have GQ:=ZU fw;have y8:=ZU fu;have BY:=ZU fq;have Z:=ZU fp;clear hA hg
 go_enter Tryz.func150,Tryz.ntmps150
 go_wp2_with (refine YL rfl 269 _ rfl 2 0 rfl EG _ HG.out.2 Tryz.underlying269 rfl (by kernel_rfl) ?_)
 generalize w.alloc _=w1 at *;generalize EG.toArray=FA at *
 go_loopw [7] (fun v7 wr=>∃i:Nat,v7=.int .i64 (i:Int)∧i≤5∧Hid (Zi w wr)∧Hid (St wr w.heap.size [.string ⟨#[]⟩,.int .i64 0,.bool false,.bool false,.bool false])∧Hid (∀(j:Nat) (l:List UInt8),j<i→lj[j]?=some l→(f.toList == l)=false)) (fun i _=>5 - (intOf i).toNat)
 case atStart=>exact ⟨0,rfl,by omega,BA,X,fun j l hj=>absurd hj (Nat.not_lt_zero _)⟩
 case round =>
  obtain ⟨i,rfl,hi,HB,HS,HN⟩:=hrel;clear BA X;have sB:=HB.out.size;have sX:=HS.out.lt;have hcase:i=0∨i=1∨i=2∨i=3∨i=4∨i=5:=by omega
  rcases hcase with rfl | rfl | rfl | rfl | rfl | rfl
  · have hx:=HX0.out wr
    have bA:Zi wr (wr.alloc (.cells #[.string ⟨#[99,114,101,97,116,101]⟩,.int .i64 1,.bool false,.bool true,.bool false] 226)):=Yy.alloc YR _;have BX:=ZU (WD HB.out bA);have SX:=ZU (HS.out.below bA);clear bA HX0 GQ y8 BY Z
    by_cases q:(f.toList == [99,114,101,97,116,101])=true
    · have HF:Hid (Tk f=some (1,false,true,false)):=by
       show _=_;unfold Tk;rw [Z0 q]
      have q2:([99,114,101,97,116,101] == f.toList)=true:=Tj q;clear HN q;have x0:=HS.out.fz;have y0:=HS.out.cl 0 _ rfl;have y1:=HS.out.cl 1 _ rfl;have y2:=HS.out.cl 2 _ rfl;have y3:=HS.out.cl 3 _ rfl;have y4:=HS.out.cl 4 _ rfl
      go_wp2_with fail
      obtain ⟨b9,x9⟩:=Mt HB.out HS.out ⟨#[99,114,101,97,116,101]⟩ 1 false true false;have s9:=b9.size
      replace x9:=x9.below (Yy.alloc YR (.cells #[.string ⟨#[99,114,101,97,116,101]⟩,.int .i64 1,.bool false,.bool true,.bool false] 226))
      replace b9:=b9.alloc s9 (.cells #[.string ⟨#[99,114,101,97,116,101]⟩,.int .i64 1,.bool false,.bool true,.bool false] 226)
      have d0:=x9.cl 0 _ rfl;have d1:=x9.cl 1 _ rfl;have d2:=x9.cl 2 _ rfl;have d3:=x9.cl 3 _ rfl;have d4:=x9.cl 4 _ rfl;exact ZW (v:=.tuple #[.agg #[.string ⟨#[99,114,101,97,116,101]⟩,.int .i64 1,.bool false,.bool true,.bool false],.bool true]) (by simp [results,Tryz.results150,go_sem,d0,d1,d2,d3,d4]) rfl (uG.yes HF.out b9)
    have q1:(f.toList == [99,114,101,97,116,101])=false:=by simpa using q
    have q2:([99,114,101,97,116,101] == f.toList)=false:=Tj q1;have Pw:Hid (∀(j:Nat) (l:List UInt8),j<1→lj[j]?=some l→(f.toList == l)=false):=fun j l hj hl=>by
     by_cases e:j<0
     · exact HN.out j l e hl
     obtain rfl:j=0:=by omega
     injection hl with hl
     rw [←hl];exact q1
    clear HN q q1
    go_wp2_with fail
    exact ⟨⟨1,by go_num,by omega,BX,SX,Pw⟩,by simp [intOf]⟩
  · have hx:=GQ.out wr
    have n0:(f.toList == [99,114,101,97,116,101])=false:=HN.out 0 _ (by omega) rfl;have bA:Zi wr (wr.alloc (.cells #[.string ⟨#[115,101,113]⟩,.int .i64 1,.bool true,.bool true,.bool false] 226)):=Yy.alloc YR _;have BX:=ZU (WD HB.out bA);have SX:=ZU (HS.out.below bA);clear bA HX0 GQ y8 BY Z
    by_cases q:(f.toList == [115,101,113])=true
    · have HF:Hid (Tk f=some (1,true,true,false)):=by
       show _=_;unfold Tk;rw [Z1 (by rw [n0];decide),Z0 q]
      have q2:([115,101,113] == f.toList)=true:=Tj q;clear HN q n0;have x0:=HS.out.fz;have y0:=HS.out.cl 0 _ rfl;have y1:=HS.out.cl 1 _ rfl;have y2:=HS.out.cl 2 _ rfl;have y3:=HS.out.cl 3 _ rfl;have y4:=HS.out.cl 4 _ rfl
      go_wp2_with fail
      obtain ⟨b9,x9⟩:=Mt HB.out HS.out ⟨#[115,101,113]⟩ 1 true true false;have s9:=b9.size
      replace x9:=x9.below (Yy.alloc YR (.cells #[.string ⟨#[115,101,113]⟩,.int .i64 1,.bool true,.bool true,.bool false] 226))
      replace b9:=b9.alloc s9 (.cells #[.string ⟨#[115,101,113]⟩,.int .i64 1,.bool true,.bool true,.bool false] 226)
      have d0:=x9.cl 0 _ rfl;have d1:=x9.cl 1 _ rfl;have d2:=x9.cl 2 _ rfl;have d3:=x9.cl 3 _ rfl;have d4:=x9.cl 4 _ rfl;exact ZW (v:=.tuple #[.agg #[.string ⟨#[115,101,113]⟩,.int .i64 1,.bool true,.bool true,.bool false],.bool true]) (by simp [results,Tryz.results150,go_sem,d0,d1,d2,d3,d4]) rfl (uG.yes HF.out b9)
    have q1:(f.toList == [115,101,113])=false:=by simpa using q
    have q2:([115,101,113] == f.toList)=false:=Tj q1;have Pw:Hid (∀(j:Nat) (l:List UInt8),j<2→lj[j]?=some l→(f.toList == l)=false):=fun j l hj hl=>by
     by_cases e:j<1
     · exact HN.out j l e hl
     obtain rfl:j=1:=by omega
     injection hl with hl
     rw [←hl];exact q1
    clear HN q q1 n0
    go_wp2_with fail
    exact ⟨⟨2,by go_num,by omega,BX,SX,Pw⟩,by simp [intOf]⟩
  · have hx:=y8.out wr
    have n0:(f.toList == [99,114,101,97,116,101])=false:=HN.out 0 _ (by omega) rfl;have n1:(f.toList == [115,101,113])=false:=HN.out 1 _ (by omega) rfl;have bA:Zi wr (wr.alloc (.cells #[.string ⟨#[100,101,108,101,116,101]⟩,.int .i64 2,.bool false,.bool false,.bool true] 226)):=Yy.alloc YR _;have BX:=ZU (WD HB.out bA);have SX:=ZU (HS.out.below bA);clear bA HX0 GQ y8 BY Z
    by_cases q:(f.toList == [100,101,108,101,116,101])=true
    · have HF:Hid (Tk f=some (2,false,false,true)):=by
       show _=_;unfold Tk;rw [Z1 (by rw [n0];decide),Z1 (by rw [n1];decide),Z0 q]
      have q2:([100,101,108,101,116,101] == f.toList)=true:=Tj q;clear HN q n0 n1;have x0:=HS.out.fz;have y0:=HS.out.cl 0 _ rfl;have y1:=HS.out.cl 1 _ rfl;have y2:=HS.out.cl 2 _ rfl;have y3:=HS.out.cl 3 _ rfl;have y4:=HS.out.cl 4 _ rfl
      go_wp2_with fail
      obtain ⟨b9,x9⟩:=Mt HB.out HS.out ⟨#[100,101,108,101,116,101]⟩ 2 false false true;have s9:=b9.size
      replace x9:=x9.below (Yy.alloc YR (.cells #[.string ⟨#[100,101,108,101,116,101]⟩,.int .i64 2,.bool false,.bool false,.bool true] 226))
      replace b9:=b9.alloc s9 (.cells #[.string ⟨#[100,101,108,101,116,101]⟩,.int .i64 2,.bool false,.bool false,.bool true] 226)
      have d0:=x9.cl 0 _ rfl;have d1:=x9.cl 1 _ rfl;have d2:=x9.cl 2 _ rfl;have d3:=x9.cl 3 _ rfl;have d4:=x9.cl 4 _ rfl;exact ZW (v:=.tuple #[.agg #[.string ⟨#[100,101,108,101,116,101]⟩,.int .i64 2,.bool false,.bool false,.bool true],.bool true]) (by simp [results,Tryz.results150,go_sem,d0,d1,d2,d3,d4]) rfl (uG.yes HF.out b9)
    have q1:(f.toList == [100,101,108,101,116,101])=false:=by simpa using q
    have q2:([100,101,108,101,116,101] == f.toList)=false:=Tj q1;have Pw:Hid (∀(j:Nat) (l:List UInt8),j<3→lj[j]?=some l→(f.toList == l)=false):=fun j l hj hl=>by
     by_cases e:j<2
     · exact HN.out j l e hl
     obtain rfl:j=2:=by omega
     injection hl with hl
     rw [←hl];exact q1
    clear HN q q1 n0 n1
    go_wp2_with fail
    exact ⟨⟨3,by go_num,by omega,BX,SX,Pw⟩,by simp [intOf]⟩
  · have hx:=BY.out wr
    have n0:(f.toList == [99,114,101,97,116,101])=false:=HN.out 0 _ (by omega) rfl;have n1:(f.toList == [115,101,113])=false:=HN.out 1 _ (by omega) rfl;have n2:(f.toList == [100,101,108,101,116,101])=false:=HN.out 2 _ (by omega) rfl;have bA:Zi wr (wr.alloc (.cells #[.string ⟨#[115,101,116]⟩,.int .i64 3,.bool false,.bool true,.bool true] 226)):=Yy.alloc YR _;have BX:=ZU (WD HB.out bA);have SX:=ZU (HS.out.below bA);clear bA HX0 GQ y8 BY Z
    by_cases q:(f.toList == [115,101,116])=true
    · have HF:Hid (Tk f=some (3,false,true,true)):=by
       show _=_;unfold Tk;rw [Z1 (by rw [n0];decide),Z1 (by rw [n1];decide),Z1 (by rw [n2];decide),Z0 q]
      have q2:([115,101,116] == f.toList)=true:=Tj q;clear HN q n0 n1 n2;have x0:=HS.out.fz;have y0:=HS.out.cl 0 _ rfl;have y1:=HS.out.cl 1 _ rfl;have y2:=HS.out.cl 2 _ rfl;have y3:=HS.out.cl 3 _ rfl;have y4:=HS.out.cl 4 _ rfl
      go_wp2_with fail
      obtain ⟨b9,x9⟩:=Mt HB.out HS.out ⟨#[115,101,116]⟩ 3 false true true;have s9:=b9.size
      replace x9:=x9.below (Yy.alloc YR (.cells #[.string ⟨#[115,101,116]⟩,.int .i64 3,.bool false,.bool true,.bool true] 226))
      replace b9:=b9.alloc s9 (.cells #[.string ⟨#[115,101,116]⟩,.int .i64 3,.bool false,.bool true,.bool true] 226)
      have d0:=x9.cl 0 _ rfl;have d1:=x9.cl 1 _ rfl;have d2:=x9.cl 2 _ rfl;have d3:=x9.cl 3 _ rfl;have d4:=x9.cl 4 _ rfl;exact ZW (v:=.tuple #[.agg #[.string ⟨#[115,101,116]⟩,.int .i64 3,.bool false,.bool true,.bool true],.bool true]) (by simp [results,Tryz.results150,go_sem,d0,d1,d2,d3,d4]) rfl (uG.yes HF.out b9)
    have q1:(f.toList == [115,101,116])=false:=by simpa using q
    have q2:([115,101,116] == f.toList)=false:=Tj q1;have Pw:Hid (∀(j:Nat) (l:List UInt8),j<4→lj[j]?=some l→(f.toList == l)=false):=fun j l hj hl=>by
     by_cases e:j<3
     · exact HN.out j l e hl
     obtain rfl:j=3:=by omega
     injection hl with hl
     rw [←hl];exact q1
    clear HN q q1 n0 n1 n2
    go_wp2_with fail
    exact ⟨⟨4,by go_num,by omega,BX,SX,Pw⟩,by simp [intOf]⟩
  · have hx:=Z.out wr
    have n0:(f.toList == [99,114,101,97,116,101])=false:=HN.out 0 _ (by omega) rfl;have n1:(f.toList == [115,101,113])=false:=HN.out 1 _ (by omega) rfl;have n2:(f.toList == [100,101,108,101,116,101])=false:=HN.out 2 _ (by omega) rfl;have n3:(f.toList == [115,101,116])=false:=HN.out 3 _ (by omega) rfl;have bA:Zi wr (wr.alloc (.cells #[.string ⟨#[99,104,101,99,107]⟩,.int .i64 4,.bool false,.bool false,.bool true] 226)):=Yy.alloc YR _;have BX:=ZU (WD HB.out bA);have SX:=ZU (HS.out.below bA);clear bA HX0 GQ y8 BY Z
    by_cases q:(f.toList == [99,104,101,99,107])=true
    · have HF:Hid (Tk f=some (4,false,false,true)):=by
       show _=_;unfold Tk;rw [Z1 (by rw [n0];decide),Z1 (by rw [n1];decide),Z1 (by rw [n2];decide),Z1 (by rw [n3];decide),Z0 q]
      have q2:([99,104,101,99,107] == f.toList)=true:=Tj q;clear HN q n0 n1 n2 n3;have x0:=HS.out.fz;have y0:=HS.out.cl 0 _ rfl;have y1:=HS.out.cl 1 _ rfl;have y2:=HS.out.cl 2 _ rfl;have y3:=HS.out.cl 3 _ rfl;have y4:=HS.out.cl 4 _ rfl
      go_wp2_with fail
      obtain ⟨b9,x9⟩:=Mt HB.out HS.out ⟨#[99,104,101,99,107]⟩ 4 false false true;have s9:=b9.size
      replace x9:=x9.below (Yy.alloc YR (.cells #[.string ⟨#[99,104,101,99,107]⟩,.int .i64 4,.bool false,.bool false,.bool true] 226))
      replace b9:=b9.alloc s9 (.cells #[.string ⟨#[99,104,101,99,107]⟩,.int .i64 4,.bool false,.bool false,.bool true] 226)
      have d0:=x9.cl 0 _ rfl;have d1:=x9.cl 1 _ rfl;have d2:=x9.cl 2 _ rfl;have d3:=x9.cl 3 _ rfl;have d4:=x9.cl 4 _ rfl;exact ZW (v:=.tuple #[.agg #[.string ⟨#[99,104,101,99,107]⟩,.int .i64 4,.bool false,.bool false,.bool true],.bool true]) (by simp [results,Tryz.results150,go_sem,d0,d1,d2,d3,d4]) rfl (uG.yes HF.out b9)
    have q1:(f.toList == [99,104,101,99,107])=false:=by simpa using q
    have q2:([99,104,101,99,107] == f.toList)=false:=Tj q1;have Pw:Hid (∀(j:Nat) (l:List UInt8),j<5→lj[j]?=some l→(f.toList == l)=false):=fun j l hj hl=>by
     by_cases e:j<4
     · exact HN.out j l e hl
     obtain rfl:j=4:=by omega
     injection hl with hl
     rw [←hl];exact q1
    clear HN q q1 n0 n1 n2 n3
    go_wp2_with fail
    exact ⟨⟨5,by go_num,by omega,BX,SX,Pw⟩,by simp [intOf]⟩
  have BX:=HB;have SX:=HS;have n0:(f.toList == [99,114,101,97,116,101])=false:=HN.out 0 _ (by omega) rfl;have n1:(f.toList == [115,101,113])=false:=HN.out 1 _ (by omega) rfl;have n2:(f.toList == [100,101,108,101,116,101])=false:=HN.out 2 _ (by omega) rfl;have n3:(f.toList == [115,101,116])=false:=HN.out 3 _ (by omega) rfl;have n4:(f.toList == [99,104,101,99,107])=false:=HN.out 4 _ (by omega) rfl;have HF:Hid (Tk f=none):=by
   show _=_;unfold Tk;rw [Z1 (by rw [n0];decide),Z1 (by rw [n1];decide),Z1 (by rw [n2];decide),Z1 (by rw [n3];decide),Z1 (by rw [n4];decide)]
  clear HN n0 n1 n2 n3 n4 HX0 GQ y8 BY Z;have x0:=SX.out.fz;have y0:=SX.out.cl 0 _ rfl;have y1:=SX.out.cl 1 _ rfl;have y2:=SX.out.cl 2 _ rfl;have y3:=SX.out.cl 3 _ rfl;have y4:=SX.out.cl 4 _ rfl
  go_wp2_with fail
  obtain ⟨b9,x9⟩:=Mt BX.out SX.out ⟨#[]⟩ 0 false false false;have d0:=x9.cl 0 _ rfl;have d1:=x9.cl 1 _ rfl;have d2:=x9.cl 2 _ rfl;have d3:=x9.cl 3 _ rfl;have d4:=x9.cl 4 _ rfl;exact ZW (v:=.tuple #[.agg #[.string ⟨#[]⟩,.int .i64 0,.bool false,.bool false,.bool false],.bool false]) (by simp [results,Tryz.results150,go_sem,d0,d1,d2,d3,d4]) rfl (uG.no HF.out b9)
end Go.Proofs.YtpmjnbmkippaiaaGreatDoor


