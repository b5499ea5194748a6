import Derived.Test.YtpmjnbmkippaiaaGreatDoorJ14
set_option maxRecDepth 100000
set_option maxHeartbeats 16000000
set_option linter.unusedVariables false
set_option linter.unusedSimpArgs false
namespace Go.Proofs.YtpmjnbmkippaiaaGreatDoor
open Go.RowKit Go.Shelf
theorem Nk (w:World) (wd:ByteArray) (k:Int) (s d v:Bool):Calls Tryz.prog 151 #[.agg #[.string wd,.int .i64 k,.bool s,.bool d,.bool v]] w (YI w (.int .i64 (2+(if d=true then 1 else 0)+(if v=true then 1 else 0)))):=by
 cases d <;> cases v
 all_goals
  go_enter Tryz.func151,Tryz.ntmps151
  go_wp2_with fail
  go_ret;exact ⟨rfl,ZJ.alloc ZT _⟩
theorem Ka (w:World) (v lo hi:Int):Calls Tryz.prog 107 #[.int .i64 v,.int .i64 lo,.int .i64 hi] w fun e w'=>e=.returned (.bool (uw v lo hi))∧w'=w:=by
 by_cases h1:lo≤v
 · go_enter Tryz.func107,Tryz.ntmps107
   go_wp2;go_ret;refine ⟨?_,rfl⟩;unfold uw;rw [Y3 h1]
   rfl
 go_enter Tryz.func107,Tryz.ntmps107
 go_wp2;go_ret;refine ⟨?_,rfl⟩;unfold uw;rw [YW (by omega)]
 rfl
theorem Uh {w:World} {lo:Nat} {v:Value} {ns:List Int} (h:Own .i64 2 w lo v ns):∃a c,v=.slice a ns.length c∧(0<ns.length→∃g,a=some ⟨g,0,none⟩∧∀i,i<ns.length→w.cell? ⟨g,i,none⟩=some (.int .i64 (nA ns i))):=by
 have h':=h
 rcases h.2 with ⟨rfl,h9⟩ | ⟨g,cap,cur,rfl,h1,h2,h3,h4,h5,h6⟩
 · exact ⟨none,0,by rw [h9],fun h0=>by omega⟩
 refine ⟨_,cap,rfl,fun _=>⟨g,rfl,fun i hi=>?_⟩⟩;rw [Jn h' i (by omega),Qs,Xc hi];unfold nA;rw [List.getD,Xc hi]
 rfl
def Wp (ns:List Int):Bool:=decide (ns.length=1) && uw (nA ns 0) 1 1000
theorem Sh (w:World) (lo:Nat) (v:Value) (ns:List Int) (h:Own .i64 2 w lo v ns):Calls Tryz.prog 64 #[v] w fun e w'=>e=.returned (.bool (Wp ns))∧w'=w:=by
 obtain ⟨a,c,rfl,hc⟩:=Uh h;clear h
 by_cases l1:ns.length=1
 · obtain ⟨g,rfl,hcl⟩:=hc (by omega)
   have z0:=hcl 0 (by omega);have hl0:(0:Int)<((ns.length:Nat):Int):=by omega
   have hl1:(((ns.length:Nat):Int) == 1)=true:=ZK.2 (by omega);have HR:Hid (Wp ns=uw (nA ns 0) 1 1000):=by show _=_;unfold Wp;rw [Y3 l1,Qv]
   clear hc hcl l1
   go_enter Tryz.func64,Tryz.ntmps64
   go_wp2_with fail
   refine (Ka _ _ _ _).mono ?_;rintro e w9 ⟨rfl,Bu⟩;subst Bu
   go_wp2_with fail
   go_ret;exact ⟨by rw [HR.out];rfl,rfl⟩
 have hl1:(((ns.length:Nat):Int) == 1)=false:=Mi (by omega);have HR:Hid (Wp ns=false):=by show _=_;unfold Wp;rw [YW l1];rfl
 clear hc l1
 go_enter Tryz.func64,Tryz.ntmps64
 go_wp2_with fail
 go_ret;exact ⟨by rw [HR.out];rfl,rfl⟩
end Go.Proofs.YtpmjnbmkippaiaaGreatDoor


