import Derived.Test.YtpmjnbmkippaiaaGreatDoorJ14
set_option maxRecDepth 100000
set_option maxHeartbeats 16000000
set_option linter.unusedVariables false
set_option linter.unusedSimpArgs false
namespace Go.Proofs.YtpmjnbmkippaiaaGreatDoor
open Go.RowKit Go.Shelf
theorem Km (w:World) (wd:ByteArray) (k:Int) (s d v:Bool):Calls Tryz.prog 151 #[.agg #[.string wd,.int .i64 k,.bool s,.bool d,.bool v]] w (Wj w (.int .i64 (2+(if d=true then 1 else 0)+(if v=true then 1 else 0)))):=by
 cases d <;> cases v
 all_goals
  go_enter Tryz.func151,Tryz.ntmps151
  go_wp2_with fail
  go_ret;exact ⟨rfl,Yy.alloc YR _⟩
theorem Hi (w:World) (v lo hi:Int):Calls Tryz.prog 107 #[.int .i64 v,.int .i64 lo,.int .i64 hi] w fun e w'=>e=.returned (.bool (tq v lo hi))∧w'=w:=by
 by_cases h1:lo≤v
 · go_enter Tryz.func107,Tryz.ntmps107
   go_wp2;go_ret;refine ⟨?_,rfl⟩;unfold tq;rw [Zm h1]
   rfl
 go_enter Tryz.func107,Tryz.ntmps107
 go_wp2;go_ret;refine ⟨?_,rfl⟩;unfold tq;rw [Zo (by omega)]
 rfl
theorem P1 {w:World} {lo:Nat} {v:Value} {ns:List Int} (h:Own .i64 2 w lo v ns):∃a c,v=.slice a ns.length c∧(0<ns.length→∃g,a=some ⟨g,0,none⟩∧∀i,i<ns.length→w.cell? ⟨g,i,none⟩=some (.int .i64 (nA ns i))):=by
 have h':=h
 rcases h.2 with ⟨rfl,h9⟩ | ⟨g,cap,cur,rfl,h1,h2,h3,h4,h5,h6⟩
 · exact ⟨none,0,by rw [h9],fun h0=>by omega⟩
 refine ⟨_,cap,rfl,fun _=>⟨g,rfl,fun i hi=>?_⟩⟩;rw [Wv h' i (by omega),Yo,ZF hi];unfold nA;rw [List.getD,ZF hi]
 rfl
def So (ns:List Int):Bool:=decide (ns.length=1) && tq (nA ns 0) 1 1000
theorem On (w:World) (lo:Nat) (v:Value) (ns:List Int) (h:Own .i64 2 w lo v ns):Calls Tryz.prog 64 #[v] w fun e w'=>e=.returned (.bool (So ns))∧w'=w:=by
 obtain ⟨a,c,rfl,hc⟩:=P1 h;clear h
 by_cases l1:ns.length=1
 · obtain ⟨g,rfl,hcl⟩:=hc (by omega)
   have z0:=hcl 0 (by omega);have hl0:(0:Int)<((ns.length:Nat):Int):=by omega
   have hl1:(((ns.length:Nat):Int) == 1)=true:=ZL.2 (by omega);have HR:Hid (So ns=tq (nA ns 0) 1 1000):=by show _=_;unfold So;rw [Zm l1,Xz]
   clear hc hcl l1
   go_enter Tryz.func64,Tryz.ntmps64
   go_wp2_with fail
   refine (Hi _ _ _ _).mono ?_;rintro e w9 ⟨rfl,zP⟩;subst zP
   go_wp2_with fail
   go_ret;exact ⟨by rw [HR.out];rfl,rfl⟩
 have hl1:(((ns.length:Nat):Int) == 1)=false:=VU (by omega);have HR:Hid (So ns=false):=by show _=_;unfold So;rw [Zo l1];rfl
 clear hc l1
 go_enter Tryz.func64,Tryz.ntmps64
 go_wp2_with fail
 go_ret;exact ⟨by rw [HR.out];rfl,rfl⟩
end Go.Proofs.YtpmjnbmkippaiaaGreatDoor


