import Derived.Test.YtpmjnbmkippaiaaGreatDoorJ03
set_option maxRecDepth 100000
set_option maxHeartbeats 16000000
set_option linter.all false
namespace Go.Proofs.YtpmjnbmkippaiaaGreatDoor
open Go.RowKit Go.Shelf
theorem At (w:World) (o:TK) (hd:o.data.size≤1048576) :
    Calls Tryz.prog 201 #[.agg #[.int .i64 o.kind,.string o.path,.string o.data,.int .i64 o.XT,.bool o.seq]] w (Wj w (.bool (OO o))):=by
 obtain ⟨kind,path,data,XT,seq⟩:=o
 simp only at *
 have B0:Hid (Zi w (w.alloc (.cells #[.int .i64 kind,.string path,.string data,.int .i64 XT,.bool seq] 159))):=Yy.alloc YR _
 by_cases h1:kind<1
 · have HW:Hid (OO ⟨kind,path,data,XT,seq⟩=false):=by show _=_;unfold OO;simp only [SO,Xq];omega
   go_enter Tryz.func201,Tryz.ntmps201
   go_wp2_with fail
   go_ret;exact ⟨by rw [HW.out];rfl,B0.out⟩
 by_cases h4:5≤kind
 · have HW:Hid (OO ⟨kind,path,data,XT,seq⟩=false):=by show _=_;unfold OO;simp only [SO,Xq];omega
   go_enter Tryz.func201,Tryz.ntmps201
   go_wp2_with fail
   go_ret;exact ⟨by rw [HW.out];rfl,B0.out⟩
 have C0:Hid (∀W,Below (w.alloc (.cells #[.int .i64 kind,.string path,.string data,.int .i64 XT,.bool seq] 159)).heap.size (w.alloc (.cells #[.int .i64 kind,.string path,.string data,.int .i64 XT,.bool seq] 159)) W→W.cell? ⟨w.heap.size,0,none⟩=some (.int .i64 kind)∧W.cell? ⟨w.heap.size,1,none⟩=some (.string path)∧W.cell? ⟨w.heap.size,2,none⟩=some (.string data)∧W.cell? ⟨w.heap.size,3,none⟩=some (.int .i64 XT)∧W.cell? ⟨w.heap.size,4,none⟩=some (.bool seq)):=by
  intro W hW;have hl:w.heap.size<(w.alloc (.cells #[.int .i64 kind,.string path,.string data,.int .i64 XT,.bool seq] 159)).heap.size:=by simp
  refine ⟨(hW.cell (p:=⟨w.heap.size,0,none⟩) hl).trans (by go_simp),(hW.cell (p:=⟨w.heap.size,1,none⟩) hl).trans (by go_simp),(hW.cell (p:=⟨w.heap.size,2,none⟩) hl).trans (by go_simp),(hW.cell (p:=⟨w.heap.size,3,none⟩) hl).trans (by go_simp),(hW.cell (p:=⟨w.heap.size,4,none⟩) hl).trans (by go_simp)⟩
 go_enter Tryz.func201,Tryz.ntmps201
 go_wp2_with fail
 refine (Qd _ path).mono ?_;rintro e w1 ⟨rfl,b1⟩;obtain ⟨c0,c1,c2,c3,c4⟩:=C0.out w1 b1;have B1:=ZU (B0.out.trans (b1.mono (by simp)));clear b1 C0 B0
 cases hpk:Xi path with
 | false =>
  have HW:Hid (OO ⟨kind,path,data,XT,seq⟩=false):=by show _=_;unfold OO;simp [hpk]
  go_wp2_with fail
  go_ret;exact ⟨by rw [HW.out];rfl,B1.out⟩
 | true =>
  have Z:Hid (Xi path=true):=hpk;clear hpk
  by_cases hds:64<data.size
  · have HW:Hid (OO ⟨kind,path,data,XT,seq⟩=false):=by show _=_;unfold OO;simp;omega
    have X:(64:Int)<(data.size:Int):=by omega
    go_wp2_with fail
    go_ret;exact ⟨by rw [HW.out];rfl,B1.out⟩
  have X:¬(64:Int)<(data.size:Int):=by omega
  have hk:kind=1∨kind=2∨kind=3∨kind=4:=by omega
  clear h1 h4;have hds':data.size≤64:=by omega
  have Y:Hid ((data.toList == [])=decide (data.size=0)):=by
   show _=_;have e:data.size=data.data.toList.length:=by rw [YJ];rfl
   rw [YG,e]
   cases data.data.toList <;> simp
  by_cases hv1:XT=-1
  · subst hv1
    rcases hk with rfl | rfl | rfl | rfl
    all_goals
     cases hps:(path.toList == [47]) <;> cases hdd:(data.toList == []) <;> cases seq <;> go_wp2_with fail
    all_goals
     go_ret;refine ⟨Ws ?_,B1.out⟩;have hpk:=Z.out;have hde:=Y.out;rw [hdd] at hde;unfold OO
     simp only [hpk,hps]
     simp_all <;> (intros;omega)
  have HST:Hid (∀W,Calls Tryz.prog 143 #[.int .i64 XT] W fun e w'=>e=.returned (.bool (PR XT))∧w'=W):=fun W=>Rc W XT
  have lS:Hid (PR XT=(decide (-1≤XT) && decide (XT≤2147483647))):=by
   show _=_;unfold PR
   congr 1
   simp only [UQ]
   omega
  rcases hk with rfl | rfl | rfl | rfl
  all_goals
   cases hps:(path.toList == [47]) <;> cases hdd:(data.toList == []) <;> cases seq <;> go_wp2_with (go_at_call 143;refine (HST.out _).mono ?_;rintro e w' ⟨rfl,rfl⟩)
  all_goals
   go_ret;refine ⟨Ws ?_,B1.out⟩;have hpk:=Z.out;have hde:=Y.out;rw [hdd] at hde;have hos:=lS.out;unfold OO
   simp only [hpk,hps,hos]
   have V:(XT == -1)=false:=by simp [hv1]
   clear hv1 HST lS hos
   try rw [V]
   generalize decide (-1≤XT)=p1 at *;generalize decide (XT≤2147483647)=p2 at *
   first
    | (simp_all;done)
    | (cases p1 <;> cases p2 <;> simp_all;done)
    | (by_cases hv0:XT=0 <;> simp_all;done)
    | (cases p1 <;> cases p2 <;> by_cases hv0:XT=0 <;> simp_all <;> omega)
end Go.Proofs.YtpmjnbmkippaiaaGreatDoor


