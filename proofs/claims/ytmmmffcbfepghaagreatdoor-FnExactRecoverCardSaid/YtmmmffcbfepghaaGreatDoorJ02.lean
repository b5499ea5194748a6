import Derived.Test.YtmmmffcbfepghaaGreatDoorJ01
import Derived.Deep.RegionHeld3
import Derived.Laws.Cover1
import Derived.IntWalk
import Derived.Lib.ConvBytes
import Derived.Lib.AppendStr
import Derived.Defers
import Derived.Recover
set_option maxRecDepth 100000
set_option maxHeartbeats 16000000
set_option linter.unusedVariables false
set_option linter.unusedSimpArgs false
namespace Go.Proofs.YtmmmffcbfepghaaGreatDoor
open Go.RowKit Go.Shelf
variable {a s:ByteArray} {r xs ys:List Int} {ns:List Nd} {B N b base f k q:Nat} {n:Nd} {row:Option Nat} {e:TypeId} {v:Value} {W w w' w0 w1 w2:World}
theorem WV.all {p:Nat} (h:WV w b p n):w.cell? ⟨b,p,none⟩=some (.string n.path)∧w.cell? ⟨b,p+1,none⟩=some (.string n.data)∧w.cell? ⟨b,p+2,none⟩=some (.int .i64 n.Ym)∧w.cell? ⟨b,p+3,none⟩=some (.int .i64 n.ZD)∧w.cell? ⟨b,p+4,none⟩=some (.int .i64 n.cz)∧w.cell? ⟨b,p+5,none⟩=some (.int .i64 n.mz)∧w.cell? ⟨b,p+6,none⟩=some (.int .i64 n.pz):=⟨h.c0,h.c1,h.c2,h.c3,h.c4,h.c5,h.c6⟩
theorem RT:∀x y:List UInt8,(!(Op.bytesLess x y))=(Op.bytesLess y x || y == x)
 | [],[]=>by simp [Op.bytesLess]
 | [],b :: y=>by simp [Op.bytesLess]
 | a :: x,[]=>by simp [Op.bytesLess]
 | a :: x,b :: y=>by
  have ih:=RT x y;unfold Op.bytesLess
  by_cases h1:a<b
  · have h2:¬b<a:=fun h=>absurd (UInt8.lt_trans h1 h) (Ji a)
    have h3:¬b=a:=fun h=>by subst h;exact Ji _ h1
    simp [h1,h2,h3]
  by_cases h2:b<a
  · have h3:¬b=a:=fun h=>by subst h;exact Ji _ h2
    have h4:¬a=b:=fun h=>h3 h.symm
    simp [h1,h2,h4]
  have h3:=A8 (UInt8.not_lt.1 h2) (UInt8.not_lt.1 h1);subst h3
  simp only [Ji,decide_false,beq_self_eq_true,Bool.false_or,Bq,List.cons_beq_cons]
  exact ih
def Us (a b:ByteArray):Bool:=Op.bytesLess a.toList b.toList
theorem Lg {b:ByteArray} (h:Us a b=true):Op.bytesLess b.toList a.toList=false∧(b.toList == a.toList)=false:=by
 have:=RT a.toList b.toList;unfold Us at h;rw [h] at this
 simpa using this
theorem AQ {b:ByteArray} (h:Us a b=false):Op.bytesLess b.toList a.toList=true∨(Op.bytesLess b.toList a.toList=false∧(b.toList == a.toList)=true):=by
 have:=RT a.toList b.toList;unfold Us at h;rw [h] at this
 cases h1:Op.bytesLess b.toList a.toList with
 | true=>exact .inl rfl
 | false=>rw [h1] at this;exact .inr ⟨rfl,by simpa using this⟩
def TD (ns:List Nd) (k:Nat):Bool:=Yz (Zy ns k) && (decide (k=0) || Us (Zy ns (k - 1)).path (Zy ns k).path)
def XW (ns:List Nd):Bool:=(List.range ns.length).all (TD ns)
def Zp (ns:List Nd):Bool:=decide (ns.length≤1000) && XW ns
theorem Tb (h:k<ns.length) (hn:TD ns k=false):XW ns=false:=by
 unfold XW;rw [xK];exact ⟨k,RZ.2 h,by rw [hn];simp⟩
theorem OI (h:∀k,k<ns.length→TD ns k=true):XW ns=true:=by
 unfold XW;rw [Pz];exact fun k hk=>h k (RZ.1 hk)
theorem LM (ns:List Nd):TD ns 0=Yz (Zy ns 0):=by unfold TD;simp
theorem UO (ns:List Nd) (j:Nat):TD ns (j+1)=(Yz (Zy ns (j+1)) && Us (Zy ns j).path (Zy ns (j+1)).path):=by unfold TD;simp
theorem Gr (w:World) (b o n cap:Nat) (ns:List Nd) (hp:ns.length=n) (hn:n≤1048576) (hb:b<w.heap.size) (hsz:∀i,(Zy ns i).path.size≤1048576∧(Zy ns i).data.size≤1048576)
    (hc:∀i,i<n→WV w b (o+i*7) (Zy ns i)) :
    Calls Tryz.prog 89 #[.slice (some ⟨b,o,none⟩) n cap] w (Ze w (.bool (XW ns))):=by
 have HC:=Z8 hc;have HP:=Z8 hp;have HZ:=Z8 hsz;clear hc hp hsz
 go_enter Tryz.func89,Tryz.ntmps89
 go_wp2
 go_loopw [3] (fun i wr=>∃k:Nat,k≤n∧i=.int .i64 k∧Hid (∀t,t<k→TD ns t=true)∧Hid (ZX w wr)) (fun i _=>n - (intOf i).toNat)
 case atStart=>exact ⟨0,ZQ _,rfl,(fun t ht=>by omega),ZR⟩
 case round =>
  obtain ⟨k,hk,rfl,HA,HG⟩:=hrel
  by_cases hlt:k<n
  · have YN:(k:Int)<(n:Int):=by omega
    have g0:(0:Int)≤(k:Int):=by omega
    have HE:Hid (∀q,Calls Tryz.prog 115 #[.agg #[.string (Zy ns k).path,.string (Zy ns k).data,.int .i64 (Zy ns k).Ym,.int .i64 (Zy ns k).ZD,.int .i64 (Zy ns k).cz,.int .i64 (Zy ns k).mz,.int .i64 (Zy ns k).pz]] (wr.drewN q) fun e w'=>e=.returned (.bool (Yz (Zy ns k)))∧Hid (ZX w w')):=by
     intro q;refine (Q8 _ (Zy ns k) (HZ.out k).1 (HZ.out k).2).mono ?_;rintro e w' ⟨rfl,b'⟩;exact ⟨rfl,(HG.out.trans ((below_drewN' wr q).mono HG.out.size)).trans (b'.mono HG.out.size)⟩
    have HD:Hid (ZX w wr.drew):=HG.out.trans ((below_drewN' wr 1).mono HG.out.size);have Uu:Hid (k<ns.length):=by rw [HP.out];exact hlt
    cases hok:Yz (Zy ns k) with
    | false =>
     have WC:=Z8 hok;have HN:=Z8 (Tb Uu.out (by unfold TD;rw [hok];rfl));clear hok;go_wp2;refine ZF (S:=fun W=>Hid (ZX w W)∧rB W b (o+k*7) (Zy ns k)) (by kernel_rfl) (⟨HD,((HC.out k hlt).below HD.out hb).all⟩) (fun Z9=>?_)
     iterate 4 (refine ZV ?_ (by kernel_rfl) (fun _=>id) Z9 ?_ ?_;rotate_left;· intro w9 Z4;obtain ⟨-,Z4⟩:=Z4;go_simp;try with_reducible rfl)
     refine ZS 4 rfl (by kernel_rfl) (fun K hK=>?_);go_simp;refine (HE.out 1).mono ?_;rintro e w' ⟨rfl,HB⟩;rw [WC.out];clear Z9;refine hK.out _ _ (⟨HB,((HC.out k hlt).below HB.out hb).all⟩) (fun Z9=>?_);clear hK K
     iterate 2 (refine ZV ?_ (by kernel_rfl) (fun _=>id) Z9 ?_ ?_;rotate_left;· intro w9 Z4;obtain ⟨-,Z4⟩:=Z4;go_simp;try with_reducible rfl)
     iterate 16 (refine TU (by kernel_rfl) (fun _=>id) Z9 ?_)
     refine ZV ?_ (by kernel_rfl) (fun _=>id) Z9 ?_ ?_
     rotate_left
     · intro w9 Z4;obtain ⟨-,Z4⟩:=Z4;go_simp;try with_reducible rfl
     refine ZM (by kernel_rfl) ?_ _
     try simp only [Act.put,Zk,Zj,Zi]
     clear Z9;go_wp2;go_ret;exact ⟨ZH HN.out.symm,HB.out⟩
    | true =>
     have WC:=Z8 hok;clear hok
     cases k with
     | zero =>
      have HT:Hid (TD ns 0=true):=by show _=_;rw [LM];exact WC.out
      have g2:(0:Int)<(n:Int):=by omega
      have yh:WV w b o (Zy ns 0):=by have:=HC.out 0 hlt;rwa [E9,Mg] at this
      go_wp2;refine ZF (S:=fun W=>Hid (ZX w W)∧rB W b o (Zy ns 0)) (by kernel_rfl) (⟨HD,(yh.below HD.out hb).all⟩) (fun Z9=>?_)
      iterate 4 (refine ZV ?_ (by kernel_rfl) (fun _=>id) Z9 ?_ ?_;rotate_left;· intro w9 Z4;obtain ⟨-,Z4⟩:=Z4;go_simp;try with_reducible rfl)
      refine ZS 4 rfl (by kernel_rfl) (fun K hK=>?_);go_simp;refine (HE.out 1).mono ?_;rintro e w' ⟨rfl,HB⟩;rw [WC.out];clear Z9;refine hK.out _ _ (⟨HB,(yh.below HB.out hb).all⟩) (fun Z9=>?_);clear hK K
      iterate 5 (refine ZV ?_ (by kernel_rfl) (fun _=>id) Z9 ?_ ?_;rotate_left;· intro w9 Z4;obtain ⟨-,Z4⟩:=Z4;go_simp;try with_reducible rfl)
      iterate 12 (refine TU (by kernel_rfl) (fun _=>id) Z9 ?_)
      iterate 2 (refine ZV ?_ (by kernel_rfl) (fun _=>id) Z9 ?_ ?_;rotate_left;· intro w9 Z4;obtain ⟨-,Z4⟩:=Z4;go_simp;try with_reducible rfl)
      refine ZM (by kernel_rfl) ?_ _
      try simp only [Act.put,Zk,Zj,Zi]
      clear Z9;go_wp2
      go_roundw
      case rel=>exact ⟨0+1,by omega,by go_num,(fun t ht=>by by_cases e:t=0;(subst e;exact HT.out);exact HA.out t (by omega)),HB⟩
      case measure=>simp [intOf];omega
     | succ j =>
      have g1:(0:Int)≤(j:Int)+1:=by omega
      have g2:(j:Int)+1<(n:Int):=by omega
      have g3:(0:Int)≤(j:Int):=by omega
      have g4:(j:Int)<(n:Int):=by omega
      have g5:(0:Int)<(j:Int)+1:=by omega
      have g6:IntKind.i64.wrap (j:Int)=(j:Int):=by rw [Xf];omega
      cases hcmp:Us (Zy ns j).path (Zy ns (j+1)).path with
      | true =>
       have HT:Hid (TD ns (j+1)=true):=by show _=_;rw [UO,WC.out,hcmp];rfl
       obtain ⟨l1,l2⟩:=Lg hcmp;clear hcmp;go_wp2;refine ZF (S:=fun W=>Hid (ZX w W)∧rB W b (o+(j+1)*7) (Zy ns (j+1))∧W.cell? ⟨b,o+j*7,none⟩=some (.string (Zy ns j).path)) (by kernel_rfl) (⟨HD,((HC.out (j+1) hlt).below HD.out hb).all,((HC.out j (by omega)).below HD.out hb).c0⟩) (fun Z9=>?_)
       iterate 4 (refine ZV ?_ (by kernel_rfl) (fun _=>id) Z9 ?_ ?_;rotate_left;· intro w9 Z4;obtain ⟨-,Z4⟩:=Z4;go_simp;try with_reducible rfl)
       refine ZS 4 rfl (by kernel_rfl) (fun K hK=>?_);go_simp;refine (HE.out 1).mono ?_;rintro e w' ⟨rfl,HB⟩;rw [WC.out];clear Z9;refine hK.out _ _ (⟨HB,((HC.out (j+1) hlt).below HB.out hb).all,((HC.out j (by omega)).below HB.out hb).c0⟩) (fun Z9=>?_);clear hK K
       iterate 19 (refine ZV ?_ (by kernel_rfl) (fun _=>id) Z9 ?_ ?_;rotate_left;· intro w9 Z4;obtain ⟨-,Z4⟩:=Z4;go_simp;try with_reducible rfl)
       refine ZM (by kernel_rfl) ?_ _
       try simp only [Act.put,Zk,Zj,Zi]
       clear Z9;go_wp2
       go_roundw
       case rel=>exact ⟨(j+1)+1,by omega,by go_num,(fun t ht=>by by_cases e:t=(j+1);(subst e;exact HT.out);exact HA.out t (by omega)),HB⟩
       case measure=>simp [intOf];omega
      | false =>
       have HN:=Z8 (Tb Uu.out (by rw [UO,hcmp,Js]))
       rcases AQ hcmp with l1 | ⟨l1,l2⟩
       · clear hcmp
         go_wp2;refine ZF (S:=fun W=>Hid (ZX w W)∧rB W b (o+(j+1)*7) (Zy ns (j+1))∧W.cell? ⟨b,o+j*7,none⟩=some (.string (Zy ns j).path)) (by kernel_rfl) (⟨HD,((HC.out (j+1) hlt).below HD.out hb).all,((HC.out j (by omega)).below HD.out hb).c0⟩) (fun Z9=>?_)
         iterate 4 (refine ZV ?_ (by kernel_rfl) (fun _=>id) Z9 ?_ ?_;rotate_left;· intro w9 Z4;obtain ⟨-,Z4⟩:=Z4;go_simp;try with_reducible rfl)
         refine ZS 4 rfl (by kernel_rfl) (fun K hK=>?_);go_simp;refine (HE.out 1).mono ?_;rintro e w' ⟨rfl,HB⟩;rw [WC.out];clear Z9;refine hK.out _ _ (⟨HB,((HC.out (j+1) hlt).below HB.out hb).all,((HC.out j (by omega)).below HB.out hb).c0⟩) (fun Z9=>?_);clear hK K
         iterate 19 (refine ZV ?_ (by kernel_rfl) (fun _=>id) Z9 ?_ ?_;rotate_left;· intro w9 Z4;obtain ⟨-,Z4⟩:=Z4;go_simp;try with_reducible rfl)
         refine ZM (by kernel_rfl) ?_ _
         try simp only [Act.put,Zk,Zj,Zi]
         clear Z9;go_wp2;go_ret;exact ⟨ZH HN.out.symm,HB.out⟩
       clear hcmp;go_wp2;refine ZF (S:=fun W=>Hid (ZX w W)∧rB W b (o+(j+1)*7) (Zy ns (j+1))∧W.cell? ⟨b,o+j*7,none⟩=some (.string (Zy ns j).path)) (by kernel_rfl) (⟨HD,((HC.out (j+1) hlt).below HD.out hb).all,((HC.out j (by omega)).below HD.out hb).c0⟩) (fun Z9=>?_)
       iterate 4 (refine ZV ?_ (by kernel_rfl) (fun _=>id) Z9 ?_ ?_;rotate_left;· intro w9 Z4;obtain ⟨-,Z4⟩:=Z4;go_simp;try with_reducible rfl)
       refine ZS 4 rfl (by kernel_rfl) (fun K hK=>?_);go_simp;refine (HE.out 1).mono ?_;rintro e w' ⟨rfl,HB⟩;rw [WC.out];clear Z9;refine hK.out _ _ (⟨HB,((HC.out (j+1) hlt).below HB.out hb).all,((HC.out j (by omega)).below HB.out hb).c0⟩) (fun Z9=>?_);clear hK K
       iterate 19 (refine ZV ?_ (by kernel_rfl) (fun _=>id) Z9 ?_ ?_;rotate_left;· intro w9 Z4;obtain ⟨-,Z4⟩:=Z4;go_simp;try with_reducible rfl)
       refine ZM (by kernel_rfl) ?_ _
       try simp only [Act.put,Zk,Zj,Zi]
       clear Z9;go_wp2;go_ret;exact ⟨ZH HN.out.symm,HB.out⟩
  have HY:Hid (XW ns=true):=OI (fun t ht=>HA.out t (by rw [HP.out] at ht;omega));go_wp2;go_ret;exact ⟨ZH HY.out.symm,HG.out⟩
theorem Gq (w:World) (ao:Option Addr) (cap:Nat) :
    Calls Tryz.prog 89 #[.slice ao 0 cap] w fun e w'=>e=.returned (.bool true)∧w'=w:=by
 go_enter Tryz.func89,Tryz.ntmps89
 go_wp2
 go_rounds 1
 go_ret;exact ⟨rfl,rfl⟩
theorem Gp (w:World) (v:Value) (ns:List Nd) (h:VL w v ns) (hn:ns.length≤1048576) (hsz:∀i,(Zy ns i).path.size≤1048576∧(Zy ns i).data.size≤1048576) :
    Calls Tryz.prog 89 #[v] w (Ze w (.bool (XW ns))):=by
 obtain ⟨ao,cap,rfl,k1,k2,k3⟩:=h
 rcases k3 with rfl | ⟨b,o,rfl,hb,hc⟩
 · refine (Gq w ao cap).mono ?_
   rintro e w' ⟨rfl,rfl⟩;exact ⟨rfl,ZR⟩
 exact Gr w b o ns.length cap ns rfl hn hb hsz hc
theorem Vh (w:World) (v:Value) (ns:List Nd) (h:VL w v ns) (hn:ns.length≤1048576) (hsz:∀i,(Zy ns i).path.size≤1048576∧(Zy ns i).data.size≤1048576) :
    Calls Tryz.prog 57 #[.agg #[v]] w (Ze w (.bool (Zp ns))):=by
 obtain ⟨ao,cap,rfl,k1,k2⟩:=h.len;have B0:Hid (ZX w (w.alloc (.cells #[.slice ao ns.length cap] 33))):=ZR.alloc ZW _;have HR:=Z8 (h.below B0.out);clear h
 by_cases h1:ns.length≤1000
 · have rz:(ns.length:Int)≤1000:=by omega
   have HE:Hid (Zp ns=XW ns):=by show _=_;unfold Zp;rw [YS h1];rfl
   go_enter Tryz.func57,Tryz.ntmps57
   go_wp2_with fail
   refine (Gp _ _ ns HR.out hn hsz).mono ?_;rintro e w1 ⟨rfl,b1⟩;have B1:=Z8 (B0.out.trans (b1.mono (by simp)));clear b1;go_wp2;go_ret;exact ⟨ZH HE.out.symm,B1.out⟩
 have rz:¬(ns.length:Int)≤1000:=by omega
 have HE:Hid (Zp ns=false):=by show _=_;unfold Zp;rw [Zl h1];rfl
 go_enter Tryz.func57,Tryz.ntmps57
 go_wp2;go_ret;exact ⟨ZH HE.out.symm,B0.out⟩
theorem UP.all (h:UP w B n):w.cell? ⟨B,0,none⟩=some (.string n.path)∧w.cell? ⟨B,1,none⟩=some (.string n.data)∧w.cell? ⟨B,2,none⟩=some (.int .i64 n.Ym)∧w.cell? ⟨B,3,none⟩=some (.int .i64 n.ZD)∧w.cell? ⟨B,4,none⟩=some (.int .i64 n.cz)∧w.cell? ⟨B,5,none⟩=some (.int .i64 n.mz)∧w.cell? ⟨B,6,none⟩=some (.int .i64 n.pz):=⟨h.c0,h.c1,h.c2,h.c3,h.c4,h.c5,h.c6⟩
theorem Lf (w:World) (b o n cap:Nat) (ns:List Nd) (hp:ns.length=n) (hn:n≤1000) (hb:b<w.heap.size) (hsz:∀i,(Zy ns i).path.size≤1048576∧(Zy ns i).data.size≤1048576)
    (hc:∀i,i<n→WV w b (o+i*7) (Zy ns i)) :
    Calls Tryz.prog 125 #[.agg #[.slice (some ⟨b,o,none⟩) n cap]] w (Ze w (.bool (XW ns))):=by
 have HC:=Z8 hc;have HP:=Z8 hp;have HZ:=Z8 hsz;have rz:¬(1000:Int)<(n:Int):=by omega
 clear hc hp hsz;have B0:Hid (ZX w (w.alloc (.cells #[.slice (some ⟨b,o,none⟩) n cap] 33))):=ZR.alloc ZW _;have c00:Hid ((w.alloc (.cells #[.slice (some ⟨b,o,none⟩) n cap] 33)).cell? ⟨w.heap.size,0,none⟩=some (.slice (some ⟨b,o,none⟩) n cap)):=by show _=_;simp
 have z0:w.heap.size<(w.alloc (.cells #[.slice (some ⟨b,o,none⟩) n cap] 33)).heap.size:=by simp
 go_enter Tryz.func125,Tryz.ntmps125
 go_wp2;generalize w.alloc _=w0 at *
 go_loopw [12] (fun i wr=>∃k:Nat,k≤n∧i=.int .i64 k∧Hid (∀t,t<k→TD ns t=true)∧Hid (ZX w0 wr)) (fun i _=>n - (intOf i).toNat)
 case atStart=>exact ⟨0,ZQ _,rfl,(fun t ht=>by omega),ZR⟩
 case round =>
  obtain ⟨k,hk,rfl,HA,HG⟩:=hrel;have MT:=Z8 (B0.out.trans (HG.out.mono (by omega)))
  by_cases hlt:k<n
  · have YN:(k:Int)<(n:Int):=by omega
    have g0:(0:Int)≤(k:Int):=by omega
    have Uu:Hid (k<ns.length):=by rw [HP.out];exact hlt
    obtain ⟨c0,c1,c2,c3,c4,c5,c6⟩:=(HC.out k hlt).below MT.out hb;have XN:Hid (UP (wr.alloc (.cells #[.string (Zy ns k).path,.string (Zy ns k).data,.int .i64 (Zy ns k).Ym,.int .i64 (Zy ns k).ZD,.int .i64 (Zy ns k).cz,.int .i64 (Zy ns k).mz,.int .i64 (Zy ns k).pz] 134)) wr.heap.size (Zy ns k)):=UP.new _ _ _;have BN:Hid (ZX wr (wr.alloc (.cells #[.string (Zy ns k).path,.string (Zy ns k).data,.int .i64 (Zy ns k).Ym,.int .i64 (Zy ns k).ZD,.int .i64 (Zy ns k).cz,.int .i64 (Zy ns k).mz,.int .i64 (Zy ns k).pz] 134))):=ZR.alloc ZW _;go_wp2;clear c0 c1 c2 c3 c4 c5 c6;generalize wr.alloc _=wn at *;have zr:=HG.out.size;obtain ⟨B,hB⟩:∃B,B=wr.heap.size:=⟨_,rfl⟩;rw [←hB] at XN;rw [←hB];have TC:Hid (∀W,ZX wn W→ZX w W):=fun W hW=>(Ye MT.out BN.out).trans (hW.mono (ZP MT.out.size BN.out.size))
    have DK:Hid (∀W,ZX wn W→Hid (ZX w0 W)):=fun W hW=>(Ye HG.out BN.out).trans (hW.mono (ZP HG.out.size BN.out.size))
    have CT:Hid (∀W,ZX wn W→W.cell? ⟨w.heap.size,0,none⟩=some (.slice (some ⟨b,o,none⟩) n cap)):=fun W hW=>((DK.out W hW).out.cell (p:=⟨w.heap.size,0,none⟩) z0).trans c00.out
    have HE:Hid (∀q,Calls Tryz.prog 139 #[.agg #[.string (Zy ns k).path,.string (Zy ns k).data,.int .i64 (Zy ns k).Ym,.int .i64 (Zy ns k).ZD,.int .i64 (Zy ns k).cz,.int .i64 (Zy ns k).mz,.int .i64 (Zy ns k).pz]] (wn.drewN q) fun e w'=>e=.returned (.bool (Yz (Zy ns k)))∧Hid (ZX wn w')):=by
     intro q;refine (Ut _ (Zy ns k) (HZ.out k).2).mono ?_;rintro e w' ⟨rfl,b'⟩;exact ⟨rfl,(below_drewN' wn q).trans b'⟩
    have HD:Hid (ZX wn wn.drew):=below_drewN' wn 1;have oJ:=Z8 hB;clear hB BN
    cases hok:Yz (Zy ns k) with
    | false =>
     have WC:=Z8 hok;have HN:=Z8 (Tb Uu.out (by unfold TD;rw [hok];rfl));clear hok;refine ZF (S:=fun W=>Hid (ZX wn W)∧qf W B (Zy ns k)) (by kernel_rfl) (⟨HD,(XN.out.below HD.out).all⟩) (fun Z9=>?_);refine ZV ?_ (by kernel_rfl) (fun _=>id) Z9 ?_ ?_
     rotate_left
     · intro w9 Z4;obtain ⟨-,Z4⟩:=Z4;go_simp;try with_reducible rfl
     refine ZS 1 rfl (by kernel_rfl) (fun K hK=>?_);go_simp;refine (HE.out 1).mono ?_;rintro e w' ⟨rfl,HB⟩;rw [WC.out];clear Z9;refine hK.out _ _ (⟨HB,(XN.out.below HB.out).all⟩) (fun Z9=>?_);clear hK K
     iterate 2 (refine ZV ?_ (by kernel_rfl) (fun _=>id) Z9 ?_ ?_;rotate_left;· intro w9 Z4;obtain ⟨-,Z4⟩:=Z4;go_simp;try with_reducible rfl)
     iterate 14 (refine TU (by kernel_rfl) (fun _=>id) Z9 ?_)
     refine ZV ?_ (by kernel_rfl) (fun _=>id) Z9 ?_ ?_
     rotate_left
     · intro w9 Z4;obtain ⟨-,Z4⟩:=Z4;go_simp;try with_reducible rfl
     refine ZM (by kernel_rfl) ?_ _
     try simp only [Act.put,Zk,Zj,Zi]
     clear Z9;go_wp2;go_ret;exact ⟨ZH HN.out.symm,TC.out _ HB.out⟩
    | true =>
     have WC:=Z8 hok;clear hok
     cases k with
     | zero =>
      have HT:Hid (TD ns 0=true):=by show _=_;rw [LM];exact WC.out
      have g2:(0:Int)<(n:Int):=by omega
      refine ZF (S:=fun W=>Hid (ZX wn W)∧qf W B (Zy ns 0)) (by kernel_rfl) (⟨HD,(XN.out.below HD.out).all⟩) (fun Z9=>?_);refine ZV ?_ (by kernel_rfl) (fun _=>id) Z9 ?_ ?_
      rotate_left
      · intro w9 Z4;obtain ⟨-,Z4⟩:=Z4;go_simp;try with_reducible rfl
      refine ZS 1 rfl (by kernel_rfl) (fun K hK=>?_);go_simp;refine (HE.out 1).mono ?_;rintro e w' ⟨rfl,HB⟩;rw [WC.out];clear Z9;refine hK.out _ _ (⟨HB,(XN.out.below HB.out).all⟩) (fun Z9=>?_);clear hK K
      iterate 5 (refine ZV ?_ (by kernel_rfl) (fun _=>id) Z9 ?_ ?_;rotate_left;· intro w9 Z4;obtain ⟨-,Z4⟩:=Z4;go_simp;try with_reducible rfl)
      iterate 10 (refine TU (by kernel_rfl) (fun _=>id) Z9 ?_)
      iterate 2 (refine ZV ?_ (by kernel_rfl) (fun _=>id) Z9 ?_ ?_;rotate_left;· intro w9 Z4;obtain ⟨-,Z4⟩:=Z4;go_simp;try with_reducible rfl)
      refine ZM (by kernel_rfl) ?_ _
      try simp only [Act.put,Zk,Zj,Zi]
      clear Z9;go_wp2
      go_roundw
      case rel=>exact ⟨0+1,by omega,by go_num,(fun t ht=>by by_cases e:t=0;(subst e;exact HT.out);exact HA.out t (by omega)),DK.out _ HB.out⟩
      case measure=>simp [intOf];omega
     | succ j =>
      have g1:(0:Int)≤(j:Int)+1:=by omega
      have g2:(j:Int)+1<(n:Int):=by omega
      have g3:(0:Int)≤(j:Int):=by omega
      have g4:(j:Int)<(n:Int):=by omega
      have g5:(0:Int)<(j:Int)+1:=by omega
      have g6:IntKind.i64.wrap (j:Int)=(j:Int):=by rw [Xf];omega
      cases hcmp:Us (Zy ns j).path (Zy ns (j+1)).path with
      | true =>
       have HT:Hid (TD ns (j+1)=true):=by show _=_;rw [UO,WC.out,hcmp];rfl
       have l1:Op.bytesLess (Zy ns j).path.toList (Zy ns (j+1)).path.toList=true:=hcmp;clear hcmp;refine ZF (S:=fun W=>Hid (ZX wn W)∧qf W B (Zy ns (j+1))∧W.cell? ⟨w.heap.size,0,none⟩=some (.slice (some ⟨b,o,none⟩) n cap)∧W.cell? ⟨b,o+j*7,none⟩=some (.string (Zy ns j).path)) (by kernel_rfl) (⟨HD,(XN.out.below HD.out).all,(CT.out _ HD.out),((HC.out j (by omega)).below (TC.out _ HD.out) hb).c0⟩) (fun Z9=>?_);refine ZV ?_ (by kernel_rfl) (fun _=>id) Z9 ?_ ?_
       rotate_left
       · intro w9 Z4;obtain ⟨-,Z4⟩:=Z4;go_simp;try with_reducible rfl
       refine ZS 1 rfl (by kernel_rfl) (fun K hK=>?_);go_simp;refine (HE.out 1).mono ?_;rintro e w' ⟨rfl,HB⟩;rw [WC.out];clear Z9;refine hK.out _ _ (⟨HB,(XN.out.below HB.out).all,(CT.out _ HB.out),((HC.out j (by omega)).below (TC.out _ HB.out) hb).c0⟩) (fun Z9=>?_);clear hK K
       iterate 17 (refine ZV ?_ (by kernel_rfl) (fun _=>id) Z9 ?_ ?_;rotate_left;· intro w9 Z4;obtain ⟨-,Z4⟩:=Z4;go_simp;try with_reducible rfl)
       refine ZM (by kernel_rfl) ?_ _
       try simp only [Act.put,Zk,Zj,Zi]
       clear Z9;go_wp2
       go_roundw
       case rel=>exact ⟨(j+1)+1,by omega,by go_num,(fun t ht=>by by_cases e:t=(j+1);(subst e;exact HT.out);exact HA.out t (by omega)),DK.out _ HB.out⟩
       case measure=>simp [intOf];omega
      | false =>
       have HN:=Z8 (Tb Uu.out (by rw [UO,hcmp,Js]));have l1:Op.bytesLess (Zy ns j).path.toList (Zy ns (j+1)).path.toList=false:=hcmp;clear hcmp;refine ZF (S:=fun W=>Hid (ZX wn W)∧qf W B (Zy ns (j+1))∧W.cell? ⟨w.heap.size,0,none⟩=some (.slice (some ⟨b,o,none⟩) n cap)∧W.cell? ⟨b,o+j*7,none⟩=some (.string (Zy ns j).path)) (by kernel_rfl) (⟨HD,(XN.out.below HD.out).all,(CT.out _ HD.out),((HC.out j (by omega)).below (TC.out _ HD.out) hb).c0⟩) (fun Z9=>?_);refine ZV ?_ (by kernel_rfl) (fun _=>id) Z9 ?_ ?_
       rotate_left
       · intro w9 Z4;obtain ⟨-,Z4⟩:=Z4;go_simp;try with_reducible rfl
       refine ZS 1 rfl (by kernel_rfl) (fun K hK=>?_);go_simp;refine (HE.out 1).mono ?_;rintro e w' ⟨rfl,HB⟩;rw [WC.out];clear Z9;refine hK.out _ _ (⟨HB,(XN.out.below HB.out).all,(CT.out _ HB.out),((HC.out j (by omega)).below (TC.out _ HB.out) hb).c0⟩) (fun Z9=>?_);clear hK K
       iterate 17 (refine ZV ?_ (by kernel_rfl) (fun _=>id) Z9 ?_ ?_;rotate_left;· intro w9 Z4;obtain ⟨-,Z4⟩:=Z4;go_simp;try with_reducible rfl)
       refine ZM (by kernel_rfl) ?_ _
       try simp only [Act.put,Zk,Zj,Zi]
       clear Z9;go_wp2;go_ret;exact ⟨ZH HN.out.symm,TC.out _ HB.out⟩
  have HY:Hid (XW ns=true):=OI (fun t ht=>HA.out t (by rw [HP.out] at ht;omega));go_wp2;go_ret;exact ⟨ZH HY.out.symm,MT.out⟩
theorem Le (w:World) (ao:Option Addr) (cap:Nat) :
    Calls Tryz.prog 125 #[.agg #[.slice ao 0 cap]] w (Ze w (.bool true)):=by
 go_enter Tryz.func125,Tryz.ntmps125
 go_wp2
 go_rounds 1
 go_ret;exact ⟨rfl,ZR.alloc ZW _⟩
theorem MS (w:World) (ao:Option Addr) (n cap:Nat) (h:1000<n) :
    Calls Tryz.prog 125 #[.agg #[.slice ao n cap]] w (Ze w (.bool false)):=by
 have rz:(1000:Int)<(n:Int):=by omega
 go_enter Tryz.func125,Tryz.ntmps125
 go_wp2;go_ret;exact ⟨rfl,ZR.alloc ZW _⟩
theorem Vg (w:World) (v:Value) (ns:List Nd) (h:VL w v ns) (hsz:∀i,(Zy ns i).path.size≤1048576∧(Zy ns i).data.size≤1048576) :
    Calls Tryz.prog 125 #[.agg #[v]] w (Ze w (.bool (Zp ns))):=by
 obtain ⟨ao,cap,rfl,k1,k2,k3⟩:=h
 by_cases hl:1000<ns.length
 · have:Zp ns=false:=by unfold Zp;rw [Zl (by omega)];rfl
   rw [this];exact MS w ao ns.length cap hl
 have:Zp ns=XW ns:=by unfold Zp;rw [YS (by omega)];rfl
 rw [this]
 rcases k3 with rfl | ⟨b,o,rfl,hb,hc⟩
 · exact Le w ao cap
 exact Lf w b o ns.length cap ns rfl (by omega) hb hsz hc
end Go.Proofs.YtmmmffcbfepghaaGreatDoor
namespace Go.Proofs.YtmmmffcbfepghaaGreatDoor
variable {a s:ByteArray} {r xs ys:List Int} {ns:List Nd} {B N b base f k q:Nat} {n:Nd} {row:Option Nat} {e:TypeId} {v:Value} {W w w' w0 w1 w2:World}
def Zo:Nat→Nat→List Int
 | _,0=>[]
 | N,n+1=>Zo (N / 256) n++[((N % 256:Nat):Int)]
theorem Zn:∀(n N:Nat),(Zo N n).length=n
 | 0,_=>rfl
 | n+1,N=>by unfold Zo;rw [YE,Zn n];rfl
theorem U7:∀(n N:Nat),∀x ∈ Zo N n,0≤x∧x<256
 | 0,_,x,h=>by cases h
 | n+1,N,x,h=>by
  unfold Zo at h
  rcases Sw.1 h with h | h
  · exact U7 n _ x h
  simp only [MZ,List.not_mem_nil,or_false] at h
  omega
theorem DJ (N m k:Nat):Zo (N / 2 ^ (8*(m+1))) k++[((N / 2 ^ (8*m) % 256:Nat):Int)]=Zo (N / 2 ^ (8*m)) (k+1):=by
 conv=>rhs;unfold Zo
 rw [Mf,show 8*(m+1)=8*m+8 by omega,P5]
def YV (xs:List Int):Nat:=xs.foldl (fun a x=>a*256+x.toNat) 0
theorem Ta (xs:List Int) (x:Int):YV (xs++[x])=YV xs*256+x.toNat:=by unfold YV;rw [GD];rfl
theorem IU:YV []=0:=rfl
theorem UN:∀(n:Nat) (xs:List Int),xs.length=n→(∀x ∈ xs,0≤x∧x<256)→Zo (YV xs) n=xs∧YV xs<256 ^ n
 | 0,xs,hn,h=>by
  have:=Vj hn;subst this;exact ⟨rfl,by decide⟩
 | n+1,xs,hn,h=>by
  rcases List.eq_nil_or_concat xs with rfl | ⟨ys,y,hc⟩
  · simp at hn
  rw [List.concat_eq_append] at hc;subst hc;have hl:ys.length=n:=by simpa using hn
  have hy:=h y (by simp);obtain ⟨i1,i2⟩:=UN n ys hl (fun x hx=>h x (List.mem_append_left _ hx));rw [Ta];refine ⟨?_,by rw [Rj];omega⟩;unfold Zo;have e1:(YV ys*256+y.toNat) / 256=YV ys:=by omega
  have e2:(YV ys*256+y.toNat) % 256=y.toNat:=by omega
  rw [e1,e2,i1,Int.toNat_of_nonneg hy.1]
def VP (g b s l c:Int):Bool:=decide (1≤g) && (decide (b=0) || decide (b=1)) && decide (0≤s∧s≤2147483647) && decide (0≤l∧l≤4096) && decide (0≤c∧c≤4294967295)
def Ld (g b s l c:Nat):List Int:=Zo g 8++Zo b 1++Zo s 4++Zo l 4++Zo c 4++List.replicate 35 0++Zo g 8
def sup (g b s l c:Int):List Int:=if VP g b s l c then Ld g.toNat b.toNat s.toNat l.toNat c.toNat else []
theorem IT (g b s l c:Nat):(Ld g b s l c).length=64:=by unfold Ld;simp [Zn]
def Ws (w:Nat) (xs:List Int):Nat:=xs.foldl (fun a x=>a*2 ^ w+x.toNat % 2 ^ w) 0
theorem DI (w:Nat) (xs:List Int) (x:Int):Ws w (xs++[x])=Ws w xs*2 ^ w+x.toNat % 2 ^ w:=by
 simp [Ws,GD]
theorem V7 (k:Nat):0<2 ^ k:=Nat.two_pow_pos k
theorem V6 (xs:List Int) (k:Nat) (h:k<xs.length):xs.take (k+1)=xs.take k++[xs.getD k 0]:=by
 rw [Rm h];simp [List.getD,h]
theorem V5 (w:Nat) (xs:List Int) (k:Nat) (h:k<xs.length):Ws w (xs.take (k+1))=Ws w (xs.take k)*2 ^ w+(xs.getD k 0).toNat % 2 ^ w:=by
 rw [V6 xs k h,DI]
theorem AP (w:Nat) (xs:List Int) (k:Nat):∀d,k+d≤xs.length→Ws w (xs.take (k+d)) / 2 ^ (w*d)=Ws w (xs.take k):=by
 intro d
 induction d with
 | zero=>intro _;simp
 | succ d ih =>
  intro h;rw [←TI,V5 w xs (k+d) (by omega),Bb,Bm (w*d) w,P5,←Mf];have h2:(xs.getD (k+d) 0).toNat % 2 ^ w<2 ^ w:=Rk _ (V7 w);rw [Bm,vC _ _ (V7 w),Nat.div_eq_of_lt h2,Wn];exact ih (by omega)
def PS (w v:Nat) (xs:List Int) (q:Nat):Nat:=Ws w xs / 2 ^ (w*xs.length - v*(q+1)) % 2 ^ v
theorem AO (w v:Nat) (xs:List Int) (q:Nat):PS w v xs q<2 ^ v:=Rk _ (V7 v)
theorem OH (w v:Nat) (xs:List Int) (k q:Nat) (hk:k≤xs.length) (hq:v*(q+1)≤w*k) :
    PS w v xs q=Ws w (xs.take k) / 2 ^ (w*k - v*(q+1)) % 2 ^ v:=by
 unfold PS;have e1:w*xs.length - v*(q+1)=w*(xs.length - k)+(w*k - v*(q+1)):=by
  rw [Nat.mul_sub];have:w*k≤w*xs.length:=Nat.mul_le_mul_left _ hk;omega
 rw [e1,P5,←Mf];have e2:=AP w xs k (xs.length - k) (by omega);rw [show k+(xs.length - k)=xs.length by omega,ui] at e2;rw [e2]
theorem EO (r N a v:Nat) (h:r % 2 ^ (a+v)=N % 2 ^ (a+v)):r / 2 ^ a % 2 ^ v=N / 2 ^ a % 2 ^ v:=by
 have key:∀x,x / 2 ^ a % 2 ^ v=x % 2 ^ (a+v) / 2 ^ a:=by
  intro x;rw [P5,vB]
 rw [key,key,h]
theorem EN {r a:Nat} (hab:a≤b) (h:r % 2 ^ b=N % 2 ^ b):r % 2 ^ a=N % 2 ^ a:=by
 have hd:=Nat.pow_dvd_pow 2 hab;rw [←Fb r hd,h,Fb N hd]
theorem IS (r N x a w K:Nat) (hK:a+w≤K) (h:r % 2 ^ a=N % 2 ^ a) :
    (r*2 ^ w % 2 ^ K+x) % 2 ^ (a+w)=(N*2 ^ w+x) % 2 ^ (a+w):=by
 have hd:=Nat.pow_dvd_pow 2 hK;have e:r*2 ^ w % 2 ^ (a+w)=N*2 ^ w % 2 ^ (a+w):=by
  rw [P5,Bc,Bc,h]
 rw [Nat.add_mod,Fb _ hd,e,←Nat.add_mod]
def pk (xs:List Int):List Int :=
 (List.range (8*xs.length / 7)).map (fun q=>((128+PS 8 7 xs q:Nat):Int)) ++
  (if 8*xs.length % 7=0 then [] else [((128+Ws 8 xs % 2 ^ (8*xs.length % 7)*2 ^ (7 - 8*xs.length % 7):Nat):Int)])
theorem DH (xs:List Int):(pk xs).length=(8*xs.length+6) / 7:=by
 unfold pk
 by_cases h:8*xs.length % 7=0
 · simp [h];omega
 simp [h];omega
def up (ps:List Int):List Int:=(List.range (7*ps.length / 8)).map (fun q=>((PS 7 8 ps q:Nat):Int))
theorem LL (ps:List Int):(up ps).length=7*ps.length / 8:=by simp [up]
theorem Ur (f:Nat→Int) (q:Nat):(List.range (q+1)).map f=(List.range q).map f++[f q]:=by
 rw [xF,WX];rfl
theorem IR {a:Nat} (h:N<2 ^ a) (v:Nat) (ZK:a≤v):N*2 ^ (v - a)<2 ^ v:=by
 have:2 ^ v=2 ^ a*2 ^ (v - a):=by rw [←P5];congr 1;omega
 rw [this];exact (Nat.mul_lt_mul_right (V7 _)).2 h
theorem AN (xs:List Int):∀x ∈ pk xs,128≤x∧x<256:=by
 intro x hx;unfold pk at hx;rw [Sw] at hx
 rcases hx with hx | hx
 · obtain ⟨q,_,rfl⟩:=List.mem_map.1 hx
   have:=AO 8 7 xs q
   simp only [Nat.reducePow] at this
   omega
 by_cases h:8*xs.length % 7=0
 · simp [h] at hx
 simp only [h,Sm,un] at hx
 have h1:Ws 8 xs % 2 ^ (8*xs.length % 7)<2 ^ (8*xs.length % 7):=Rk _ (V7 _);have h2:=IR h1 7 (by omega)
 simp only [Nat.reducePow] at h2
 omega
theorem AM (ps:List Int):∀x ∈ up ps,0≤x∧x<256:=by
 intro x hx;unfold up at hx;obtain ⟨q,_,rfl⟩:=List.mem_map.1 hx;have:=AO 7 8 ps q
 simp only [Nat.reducePow] at this
 omega
end Go.Proofs.YtmmmffcbfepghaaGreatDoor
namespace Go.Proofs.YtmmmffcbfepghaaGreatDoor
open Go.RowKit Go.Shelf
variable {a s:ByteArray} {r xs ys:List Int} {ns:List Nd} {B N b base f k q:Nat} {n:Nd} {row:Option Nat} {e:TypeId} {v:Value} {W w w' w0 w1 w2:World}
theorem AL (r:Int) (h0:0≤r) (h1:r<65536):bits .and .u16 r 127=r % 128:=by
 rw [u16_and r 127 h0 h1 (by omega) (by omega)];rw [show ((127:Int).toNat)=127 from rfl,nat_mask7];omega
theorem xx (x:Int) (h0:0≤x) (h1:x<128):bits .or .u8 128 x=128+x:=by
 rw [u8_or 128 x (by omega) (by omega) h0 (by omega)];rw [show ((128:Int).toNat)=128 from rfl,nat_join 7 128 x.toNat (by decide) (by simp only [Nat.reducePow];omega)];omega
theorem Si (w:World) (r:Int) (h0:0≤r) (h1:r<65536):Calls Tryz.prog 165 #[.int .u16 r] w fun e w'=>e=.returned (.int .u8 (128+r % 128))∧w'=w:=by
 have e1:=AL r h0 h1;have e2:=xx (r % 128) (by omega) (by omega)
 go_enter Tryz.func165,Tryz.ntmps165
 go_wp2;go_ret;exact ⟨rfl,rfl⟩
def YL (xs:List Int):Prop:=∀x ∈ xs,0≤x∧x<256
theorem Wr (h:YL xs) (k:Nat):∃x:Nat,x<256∧xs.getD k 0=(x:Int):=by
 by_cases hk:k<xs.length
 · have:=h xs[k] (Na hk)
   exact ⟨xs[k].toNat,by omega,by simp only [List.getD,VM hk,OY];omega⟩
 exact ⟨0,by omega,by simp [List.getD,show xs.length≤k by omega]⟩
theorem tZ (R x A N:Nat) (hx:x<256) (hA:A≤6) (h:R % 2 ^ A=N % 2 ^ A) :
    ∃R':Nat,R'<65536∧bits .or .u16 (IntKind.u16.wrap ((R:Int)*256)) (x:Int)=(R':Int)∧R' % 2 ^ (A+8)=(N*256+x) % 2 ^ (A+8):=by
 have hs:=IS R N x A 8 16 (by omega) h
 simp only [show (2:Nat) ^ 8=256 from rfl,show (2:Nat) ^ 16=65536 from rfl] at hs
 refine ⟨R*256 % 65536+x,by omega,?_,hs⟩;have e:IntKind.u16.wrap ((R:Int)*256)=((R*256 % 65536:Nat):Int):=by rw [xL];omega
 rw [e,u16_or_nat _ _ (by omega) (by omega),nat_join 8 (R*256 % 65536) x (by simp only [Nat.reducePow];omega) (by simpa using hx)]
theorem Gn (R A:Nat):(0:Int)≤(R:Int) / 2 ^ A:=Int.ediv_nonneg (by omega) (by exact_mod_cast ZQ _)
theorem Tz (R A:Nat):(R:Int) / 2 ^ A=((R / 2 ^ A:Nat):Int):=by simp
theorem tY (R A:Nat) (h:R<65536):(R:Int) / 2 ^ A<65536:=by
 rw [Tz];have:=Bl R (2 ^ A);omega
theorem xw (xs:List Int) (R A k q:Nat) (hk:k≤xs.length) (hq:7*q+(A+7)=8*k) (h:R % 2 ^ (A+7)=Ws 8 (xs.take k) % 2 ^ (A+7)) :
    (128+(R:Int) / 2 ^ A % 128)=((128+PS 8 7 xs q:Nat):Int):=by
 rw [Tz,OH 8 7 xs k q hk (by omega),show 8*k - 7*(q+1)=A by omega,←EO R _ A 7 h]
 simp only [Nat.reducePow]
 omega
theorem AK (x:Int):0≤IntKind.u16.wrap x∧IntKind.u16.wrap x<65536:=by rw [xL];omega
theorem AJ (R N A:Nat) (hA:A≤7) (h:R % 2 ^ A=N % 2 ^ A):(128+IntKind.u16.wrap ((R:Int)*2 ^ (7 - A)) % 128)=((128+N % 2 ^ A*2 ^ (7 - A):Nat):Int):=by
 have e:(R:Int)*2 ^ (7 - A)=((R*2 ^ (7 - A):Nat):Int):=by simp
 rw [e,xL];have e2:R*2 ^ (7 - A) % 128=N % 2 ^ A*2 ^ (7 - A):=by
  have e3:128=2 ^ A*2 ^ (7 - A):=by rw [←P5,show A+(7 - A)=7 by omega]
  conv=>lhs;rw [e3]
  rw [Bc,h]
 rw [←e2];generalize R*2 ^ (7 - A)=z;omega
def DG (xs:List Int) (q:Nat):List Int:=(List.range q).map (fun j=>((128+PS 8 7 xs j:Nat):Int))
theorem EM (xs:List Int) (q:Nat):(DG xs q).length=q:=by simp [DG]
theorem EL (h:7*q+0=8*xs.length):pk xs=DG xs q:=by
 unfold pk DG;rw [show 8*xs.length / 7=q by omega,ZY (by omega),Sz]
theorem AI {A:Nat} (h:7*q+A=8*xs.length) (h0:0<A) (h6:A≤6):pk xs=DG xs q++[((128+Ws 8 xs % 2 ^ A*2 ^ (7 - A):Nat):Int)]:=by
 unfold pk DG;rw [show 8*xs.length / 7=q by omega,show 8*xs.length % 7=A by omega,Z3 (by omega)]
theorem WI {k:IntKind} (hl:ys.length=q) (he:xs=ys) (h:w.ownsRow base e 1 v q (ys.map (Value.int k))):Own k e w base v xs:=by
 subst he;unfold Own;rw [hl];exact h
theorem Lc (w:World) (b o n cap:Nat) (xs:List Int) (hx:xs.length=n) (hb:b<w.heap.size) (hc:∀i,i<n→w.cell? ⟨b,o+i,none⟩=some (.int .u8 (xs.getD i 0))) (hby:YL xs) (hn:n≤1099511627776) :
    Calls Tryz.prog 159 #[.slice (some ⟨b,o,none⟩) n cap] w fun e w'=>∃v',e=.returned v'∧Own .u8 5 w' w.heap.size v' (pk xs)∧ZX w w':=by
 obtain ⟨i0,hi,hz0,hz1,hz2⟩:=YH Tryz.Vv;have HC:=Z8 hc;have HX:=Z8 hx;clear hc hx
 go_enter Tryz.func159,Tryz.ntmps159
 go_wp2_with (at_make;refine LW _ rfl _ _ 22 rfl w.heap.size 5 i0 (.int .u8 0) 1 Tryz.underlying22 hi hz0 hz1 _ _ _ ((8*n+6) / 7) rfl rfl ?b1 ?b2 ?b3 ?b4 ?_)
 case b1=>omega
 case b2=>rw [hz2];omega
 case b3=>unfold maxLen;omega
 case b4=>exact ZW
 intro w1 hown hgrow;go_wp2;have HO:=Z8 hown;have HG:=Z8 (ZR.grown hgrow ZW (by simp));clear hown hgrow
 go_loopw [3,4,5,16] (fun v r a i wr=>∃k q A R:Nat,k≤n∧i=.int .i64 k∧A≤6∧Hid (7*q+A=8*k)∧a=.int .u8 A∧R<65536∧r=.int .u16 R∧Hid (R % 2 ^ A=Ws 8 (xs.take k) % 2 ^ A) ∧
     v=.slice (some ⟨w.heap.size,0,none⟩) q ((8*n+6) / 7)∧wr.ownsRow w.heap.size 5 1 (.slice (some ⟨w.heap.size,0,none⟩) q ((8*n+6) / 7)) q ((DG xs q).map (Value.int .u8))∧ZX w wr) (fun _ _ _ i _=>n - (intOf i).toNat)
 case atStart=>exact ⟨0,0,0,0,ZQ _,rfl,by omega,rfl,rfl,by omega,rfl,rfl,rfl,HO.out,HG.out⟩
 case round =>
  obtain ⟨k,q,A,R,hk,rfl,hA,HQ,rfl,hR,rfl,HR,rfl,ho,hg⟩:=hrel
  by_cases hlt:k<n
  · obtain ⟨x,hx,hxe⟩:=Wr hby k
    have hsrc:wr.cell? ⟨b,o+k,none⟩=some (.int .u8 (x:Int)):=by rw [←hxe];exact (hg.cell (p:=⟨b,o+k,none⟩) hb).trans (HC.out k hlt)
    have YN:(k:Int)<(n:Int):=by omega
    obtain ⟨R',hR',ry,AH⟩:=tZ R x A (Ws 8 (xs.take k)) hx hA HR.out;have HN:Hid (Ws 8 (xs.take (k+1))=Ws 8 (xs.take k)*256+x):=by
     have:=V5 8 xs k (by rw [HX.out];exact hlt);rw [hxe] at this;show _=_;rw [this,XT,Bh (show x<2 ^ 8 from hx)]
    rw [←HN.out] at AH;have HR2:=Z8 AH;have AG:Hid (7*q+(A+8)=8*(k+1)):=by have:=HQ.out;show _=_;omega
    clear hxe AH HR HN HQ;go_wp2
    go_loopw [3,5] (fun v a wr=>∃q A:Nat,A≤14∧Hid (7*q+A=8*(k+1))∧a=.int .u8 A∧Hid (R' % 2 ^ A=Ws 8 (xs.take (k+1)) % 2 ^ A) ∧
        v=.slice (some ⟨w.heap.size,0,none⟩) q ((8*n+6) / 7)∧wr.ownsRow w.heap.size 5 1 (.slice (some ⟨w.heap.size,0,none⟩) q ((8*n+6) / 7)) q ((DG xs q).map (Value.int .u8))∧ZX w wr) (fun _ a _=>(intOf a).toNat)
    case atStart=>exact ⟨q,A+8,by omega,AG,by go_num,HR2,rfl,ho,hg⟩
    case round =>
     clear AG HR2 ho hg hsrc ry;obtain ⟨q',A',hA',O,rfl,AH,rfl,ho,hg⟩:=hrel
     by_cases h7:7≤A'
     · obtain ⟨A2,rfl⟩:∃A2,A'=A2+7:=⟨A' - 7,by omega⟩
       have Z1:(7:Int)≤((A2+7:Nat):Int):=by omega
       have HD:=Z8 (xw xs R' A2 (k+1) q' (by rw [HX.out];omega) O.out AH.out);have hcap:q'+1≤(8*n+6) / 7:=by have:=O.out;omega
       go_wp2_with fail
       refine (Si _ _ (Gn R' A2) (tY R' A2 hR')).mono ?_;rintro e wr ⟨rfl,rfl⟩
       go_wp2_with (at_builtin;refine Je _ rfl _ _ 22 rfl w.heap.size 5 i0 1 Tryz.underlying22 hi hz1 w.heap.size q' ((8*n+6) / 7) _ rfl (ho.alloc _) ⟨wr.heap.size,0,none⟩ 1 1 [.int .u8 (128+(R':Int) / 2 ^ A2 % 128)] rfl rfl (Vy _ _ _) (by intro u hu;simp at hu;subst hu;rfl) hcap ?_)
       intro w2 ho2 hg2;have Sv:Hid (w2.ownsRow w.heap.size 5 1 (.slice (some ⟨w.heap.size,0,none⟩) (q'+1) ((8*n+6) / 7)) (q'+1) ((DG xs (q'+1)).map (Value.int .u8))):=by
        rw [HD.out] at ho2;unfold DG;rw [Ur,WX];exact ho2
       have HG2:=Z8 ((hg.alloc (hg.size) _).grown hg2 (by have:=hg.size;simp;omega) (by intro k hk;simp at hk;omega));clear ho2 hg2 ho hg;go_wp2
       go_roundw
       case rel=>exact ⟨q'+1,A2,by omega,(by have:=O.out;show _=_;omega),by go_num,EN (by omega) AH.out,rfl,Sv.out,HG2.out⟩
       case measure=>simp [intOf];omega
     have Z1:((A':Nat):Int)<7:=by omega
     go_wp2
     go_roundw
     case rel=>exact ⟨k+1,q',A',R',by omega,by go_num,by omega,O,rfl,hR',rfl,AH,rfl,ho,hg⟩
     case measure=>simp [intOf];omega
  have hkn:k=n:=by omega
  subst hkn
  by_cases r8:A=0
  · subst r8
    go_wp2;go_ret;exact ⟨_,rfl,WI (EM xs q) (EL (by rw [HX.out];exact HQ.out)) ho,hg⟩
  have hA1:(0:Int)<(A:Int):=by omega
  have HD:Hid ((128+IntKind.u16.wrap ((R:Int)*2 ^ (7 - A)) % 128)=((128+Ws 8 xs % 2 ^ A*2 ^ (7 - A):Nat):Int)):=AJ R _ A (by omega) (by have:=HR.out;rw [We (by rw [HX.out];exact ZW)] at this;exact this);have hcap:q+1≤(8*k+6) / 7:=by have:=HQ.out;omega
  go_wp2_with fail
  refine (Si _ _ (AK _).1 (AK _).2).mono ?_;rintro e wr ⟨rfl,rfl⟩
  go_wp2_with (at_builtin;refine Je _ rfl _ _ 22 rfl w.heap.size 5 i0 1 Tryz.underlying22 hi hz1 w.heap.size q ((8*k+6) / 7) _ rfl (ho.alloc _) ⟨wr.heap.size,0,none⟩ 1 1 [.int .u8 (128+IntKind.u16.wrap ((R:Int)*2 ^ (7 - A)) % 128)] rfl rfl (Vy _ _ _) (by intro u hu;simp at hu;subst hu;rfl) hcap ?_)
  intro w2 ho2 hg2;have Sv:Hid (Own .u8 5 w2 w.heap.size (.slice (some ⟨w.heap.size,0,none⟩) (q+1) ((8*k+6) / 7)) (pk xs)):=by
   rw [HD.out] at ho2;exact WI (q:=q+1) (ys:=DG xs q++[((128+Ws 8 xs % 2 ^ A*2 ^ (7 - A):Nat):Int)]) (by simp [EM]) (AI (by rw [HX.out];exact HQ.out) (by omega) (by omega)) (by rw [WX];exact ho2)
  have HG2:=Z8 ((hg.alloc (hg.size) _).grown hg2 (by have:=hg.size;simp;omega) (by intro k hk;simp at hk;omega));clear ho2 hg2 ho hg;go_wp2;go_ret;exact ⟨_,rfl,Sv.out,HG2.out⟩
theorem Lb (w:World) (ao:Option Addr) (cap:Nat) :
    Calls Tryz.prog 159 #[.slice ao 0 cap] w fun e w'=>∃v',e=.returned v'∧Own .u8 5 w' w.heap.size v' []∧ZX w w':=by
 obtain ⟨i0,hi,hz0,hz1,hz2⟩:=YH Tryz.Vv
 go_enter Tryz.func159,Tryz.ntmps159
 go_wp2_with (at_make;refine LW _ rfl _ _ 22 rfl w.heap.size 5 i0 (.int .u8 0) 1 Tryz.underlying22 hi hz0 hz1 _ _ _ 0 rfl rfl ?b1 ?b2 ?b3 ?b4 ?_)
 case b1=>rfl
 case b2=>rw [hz2];omega
 case b3=>unfold maxLen;omega
 case b4=>exact ZW
 intro w1 hown hgrow;have HO:=Z8 hown;have HG:=Z8 (ZR.grown hgrow ZW (by simp));clear hown hgrow;go_wp2
 go_rounds 1
 go_ret;exact ⟨_,rfl,HO.out,HG.out⟩
theorem La (w:World) (v:Value) (xs:List Int) (h:Rd .u8 w v xs) (hby:YL xs) (hn:xs.length≤1099511627776) :
    Calls Tryz.prog 159 #[v] w fun e w'=>∃v',e=.returned v'∧Own .u8 5 w' w.heap.size v' (pk xs)∧ZX w w':=by
 obtain ⟨ao,cap,rfl,h1,h2,h3⟩:=h
 rcases h3 with rfl | ⟨b,o,rfl,hb,hc⟩
 · exact Lb w ao cap
 exact Lc w b o xs.length cap xs rfl hb hc hby hn
def KT (e:TypeId) (w w':World):Prop:=w.heap.size≤w'.heap.size∧∀b,b<w.heap.size→(¬∃cur,w.heap[b]?=some (.cells cur e (0,0)))→w'.heap[b]?=w.heap[b]?
theorem KT.refl (e:TypeId) (w:World):KT e w w:=⟨ZW,fun _ _ _=>rfl⟩
theorem KT.trans (h:KT e w w1) (h2:KT e w1 w2):KT e w w2 :=
 ⟨ZP h.1 h2.1,fun b hb hn=>by
  have h3:=h.2 b hb hn;rw [h2.2 b (ZB hb h.1) (by rw [h3];exact hn),h3]⟩
theorem KT.below (h:KT e w w1) (hb:ZX w1 w2):KT e w w2 :=
 h.trans ⟨hb.size,fun b hb' _=>hb.block b hb'⟩
theorem KT.alloc (h:KT e w w1) (o:Obj):KT e w (w1.alloc o):=h.below (ZR.alloc ZW o)
theorem KT.grown {size n:Nat} {xs:List Value} (h:KT e w w1) (ho:w1.ownsRow base e size v n xs) (hg:w1.grownBy w2 v.ownBlock):KT e w w2:=by
 refine h.trans ⟨hg.size,fun b hb hn=>hg.block b hb fun he=>hn ?_⟩
 rcases ho.2 with ⟨rfl,-⟩ | ⟨g,cap,cur,rfl,-,hgg,-⟩
 · simp [Value.ownBlock] at he
 simp only [Value.ownBlock,Xu] at he
 subst he;exact ⟨cur,hgg⟩
theorem Vu (h:Rd .u8 w v xs):(convert 22 9 v).run Tryz.prog w=.ok (.string (strOfNums xs)) w:=by
 obtain ⟨ao,cap,rfl,h1,h2,h3⟩:=h
 rcases h3 with rfl | ⟨b,o,rfl,hb,hc⟩
 · cases ao with
   | none=>exact run_convert_bytes_nil w _ _ Tryz.underlying22 Tryz.underlying5 0 cap _ Tryz.underlying9
   | some a =>
    rw [run_convert_bytes_string w _ _ _ _ _ _ Tryz.underlying22 Tryz.underlying5 Tryz.underlying9];exact run_bytesToString w a 0 cap [] (by simp [loadCells,loadCellsFrom])
 exact run_convert_bytes_arg w _ _ Tryz.underlying22 Tryz.underlying5 b o _ cap xs rfl hc _ Tryz.underlying9
theorem step_append {P:Program} {ops:Array Oper} {o:Oper} {a:Act} {K:Act→World→Prop} {Q:Exit→Act→World→Prop} {E:Prop}
    (hg:o.guard=none) (s x:Operand) (t:TypeId) (hop:o.op=Op.call { callee:=Callee.builtin Builtin.append,args:=#[s,x],argTypes:=#[t,t] })
    (base:Nat) (e:TypeId) (i:TypeInfo) (z:Value) (size bytes:Nat) (h1:P.underlying t=some (.slice e)) (h2:P.info? e=some i) (h3:i.zero=some z) (h4:i.size=size) (h5:i.bytes=bytes) (h6:z.cells.size=size) (h7:0<size)
    (v:Value) (n:Nat) (xs:List Value) (hs:a.eval s=v) (hown:w.ownsRow base e size v n xs) (ad:Addr) (m c:Nat) (news:List Value) (hx:a.eval x=.slice (some ad) m c) (hn:news.length=m*size)
    (hc:∀j u,news[j]?=some u→w.cell? (ad.add j)=some u) (h1c:∀u ∈ news,u.oneCell'=true) (b1:n+m≤maxLen) (b2:(n+m)*bytes≤140737488355328) (hb:base≤w.heap.size)
    (hK:∀v' w',w'.ownsRow base e size v' (n+m) (xs++news)→w.grownBy w' v.ownBlock→K (a.put o.dst v') w') :
    if Region.wanted o (yielded ops a.tmps)=true then Oper.wp P o a w K Q else E:=by
 have hw:Region.wanted o (yielded ops a.tmps)=true:=by simp [Region.wanted,hg]
 rw [ZY hw];obtain ⟨v',w',hrun,r1,r2,_⟩:=run_append_own (P:=P) w base t o.type e i z size bytes h1 h2 h3 h4 h5 h6 h7 v n xs hown ad m c news hn hc h1c b1 b2 hb;unfold Oper.wp
 simp [execOp,hop,resolve,invoke,builtin,hs,hx,hrun,Result.andThen]
 exact hK v' w' r1 r2
theorem OG:∀l cur:List UInt8,((Wi cur l).map List.length).sum+(Wi cur l).length=cur.length+l.length+1
 | [],cur=>by simp [Wi]
 | x :: l,cur=>by
  by_cases h:x=47
  · subst h
    have:=OG l [];rw [Tc]
    simp only [Pc,Bp,XQ,Wv] at this ⊢
    omega
  have:=OG l (cur++[x]);rw [Uw h]
  simp only [YE,XQ,Wv] at this ⊢
  omega
theorem AF (m:Nat):∀L:List (List UInt8),(∀x ∈ L,x.length≤m)→(L.map List.length).sum≤L.length*m
 | [],_=>by simp
 | x :: L,h=>by
  have h1:=h x (by simp);have h2:=AF m L (fun y hy=>h y (by simp [hy]));rw [Pc,Bp,XQ,Nat.add_mul];omega
theorem xv {l:List UInt8} (h:Jz l=true):l.length≤16:=by
 unfold Jz Nk at h
 simp only [Yg,Zg] at h
 have h2:(ByteArray.mk l.toArray).size=l.length:=rfl;omega
theorem IQ (h:Yc s=true):s.size≤102:=by
 have hs:s.data.toList.length=s.size:=by rw [qg];rfl
 unfold Yc at h
 simp only [Jr,Yg,Zg] at h
 rcases h with h | ⟨⟨⟨h1,h2⟩,h3⟩,h4⟩
 · rw [h] at hs;simp at hs;omega
 have h5:=OG (s.data.toList.drop 1) [];have h6:=AF 16 (nm s) (fun x hx=>xv (Pz.1 h4 x hx));unfold nm at h3 h6;rw [Zv,hs] at h5
 simp only [Wv] at h5
 omega
theorem Q3 (h:Yz n=true):n.path.size≤102∧n.data.size≤64∧(0≤n.Ym∧n.Ym≤2147483647)∧(0≤n.ZD∧n.ZD≤2147483647)∧(0≤n.cz∧n.cz≤2147483647)∧(0≤n.mz∧n.mz≤2147483647)∧(0≤n.pz∧n.pz≤2147483647):=by
 unfold Yz Uc at h
 simp only [Yg,Zg] at h
 obtain ⟨⟨⟨⟨⟨⟨h1,h2⟩,h3⟩,h4⟩,h5⟩,h6⟩,h7⟩:=h;exact ⟨IQ h1,h2,h3,h4,h5,h6,h7⟩
theorem DF (h:Zp ns=true) (k:Nat) (hk:k<ns.length):Yz (Zy ns k)=true:=by
 unfold Zp XW at h
 simp only [Yg] at h
 have:=Pz.1 h.2 k (by simpa using hk);unfold TD at this
 simp only [Yg] at this
 exact this.1
theorem RQ (h:Zp ns=true):ns.length≤1000:=by
 unfold Zp at h
 simp only [Yg,Zg] at h
 exact h.1
theorem AE:∀a b:List UInt8,(Lib.compareBytes a b<0)↔Op.bytesLess a b=true
 | [],[]=>by simp [Lib.compareBytes,Op.bytesLess]
 | [],_ :: _=>by simp [Lib.compareBytes,Op.bytesLess]
 | _ :: _,[]=>by simp [Lib.compareBytes,Op.bytesLess]
 | a :: l,b :: m=>by
  unfold Lib.compareBytes Op.bytesLess
  by_cases h1:a<b
  · simp [h1]
  by_cases h2:b<a
  · have h3:¬a=b:=fun e=>by subst e;exact absurd h2 h1
    simp [h1,h2,h3]
  have h3:=A8 (UInt8.not_lt.1 h2) (UInt8.not_lt.1 h1);subst h3
  simp [h1,AE l m]
theorem EK:∀a b:List UInt8,(Lib.compareBytes a b=0)↔a=b
 | [],[]=>by simp [Lib.compareBytes]
 | [],_ :: _=>by simp [Lib.compareBytes]
 | _ :: _,[]=>by simp [Lib.compareBytes]
 | a :: l,b :: m=>by
  unfold Lib.compareBytes
  by_cases h1:a<b
  · have h3:¬a=b:=fun e=>by subst e;exact absurd h1 (Ji _)
    simp [h1,h3]
  by_cases h2:b<a
  · have h3:¬a=b:=fun e=>by subst e;exact absurd h2 h1
    simp [h1,h2,h3]
  have h3:=A8 (UInt8.not_lt.1 h2) (UInt8.not_lt.1 h1);subst h3
  simp [h1,EK l m]
def Q2 (a b:ByteArray):Int:=Lib.compareBytes a.data.toList b.data.toList
theorem Gm (w:World) (a b:ByteArray) :
    Calls Tryz.prog 166 #[.string a,.string b] w fun e w'=>e=.returned (.int .i64 (Q2 a b))∧w'=w:=by
 go_enter Tryz.func166,Tryz.ntmps166
 go_wp2;rw [run_callFunc_extern Tryz.func170 (by kernel_rfl) (by kernel_rfl) (by kernel_rfl) (e:=Extern.BytealgCompare.compare) (by kernel_rfl),Lib.run_compareString]
 simp only [Result.andThen]
 rw [Oper.upon_value];go_wp2;go_ret;exact ⟨rfl,rfl⟩
theorem IP (w:World) (a b:ByteArray) :
    Calls Tryz.prog 162 #[.string a,.string b] w fun e w'=>e=.returned (.int .i64 (Q2 a b))∧w'=w:=by
 go_enter Tryz.func162,Tryz.ntmps162
 go_wp2_with fail
 refine (Gm w a b).mono ?_;rintro e w1 ⟨rfl,rfl⟩;go_wp2;go_ret;exact ⟨rfl,rfl⟩
theorem LK (w:World) (n:Nd) (p:ByteArray) :
    Calls Tryz.prog 161 #[.agg #[.string n.path,.string n.data,.int .i64 n.Ym,.int .i64 n.ZD,.int .i64 n.cz,.int .i64 n.mz,.int .i64 n.pz],.string p] w (Ze w (.int .i64 (Q2 n.path p))):=by
 have B0:Hid (ZX w (w.alloc (.cells #[.string n.path,.string n.data,.int .i64 n.Ym,.int .i64 n.ZD,.int .i64 n.cz,.int .i64 n.mz,.int .i64 n.pz] 134))):=ZR.alloc ZW _
 go_enter Tryz.func161,Tryz.ntmps161
 go_wp2_with fail
 generalize w.alloc _=w0 at *;refine (IP w0 n.path p).mono ?_;rintro e w1 ⟨rfl,hw⟩;obtain rfl:w0=w1:=hw.symm;go_wp2;go_ret;exact ⟨rfl,B0.out⟩
def Low (ns:List Nd) (p:ByteArray) (L:Nat):Prop:=L≤ns.length∧(∀i,i<L→Q2 (Zy ns i).path p<0)∧∀i,L≤i→i<ns.length→¬Q2 (Zy ns i).path p<0
def IN (ns:List Nd) (p:ByteArray) (L:Nat):Bool:=decide (L<ns.length) && (Q2 (Zy ns L).path p == 0)
theorem tX (w:World) (b o n cap L:Nat) (ns:List Nd) (p:ByteArray) (hp:ns.length=n) (hn:n≤1000) (hb:b<w.heap.size) (hc:∀i,i<n→WV w b (o+i*7) (Zy ns i)) (hL:Low ns p L) :
    Calls Tryz.prog 160 #[.slice (some ⟨b,o,none⟩) n cap,.string p,.func (.func 161) #[] #[]] w (Ze w (.tuple #[.int .i64 (L:Int),.bool (IN ns p L)])):=by
 obtain ⟨l1,l2,l3⟩:=hL;have HC:=Z8 hc;have HP:=Z8 hp;have H2:=Z8 l2;have H3:=Z8 l3;rw [hp] at l1;clear hc hp l2 l3
 go_enter Tryz.func160,Tryz.ntmps160
 go_wp2
 go_loopw [9,10] (fun vi vj wr=>∃i j:Nat,i≤L∧L≤j∧j≤n∧vi=.int .i64 i∧vj=.int .i64 j∧Hid (ZX w wr)) (fun i j _=>(intOf j - intOf i).toNat)
 case atStart=>exact ⟨0,n,ZQ _,l1,ZW,rfl,rfl,ZR⟩
 case round =>
  obtain ⟨i,j,hi,hj,hjn,rfl,rfl,HB⟩:=hrel
  by_cases hlt:i<j
  · have YN:(i:Int)<(j:Int):=by omega
    obtain ⟨h,hh⟩:∃h:Nat,h=(i+j) / 2:=⟨_,rfl⟩;have hI:((i:Int)+(j:Int)) / 2=(h:Int):=by omega
    have h1:i≤h:=by omega
    have h2:h<j:=by omega
    have h3:h<n:=by omega
    clear hh;obtain ⟨c0,c1,c2,c3,c4,c5,c6⟩:=(HC.out h h3).below HB.out hb
    go_wp2_with fail
    refine (LK wr (Zy ns h) p).mono ?_;rintro e w1 ⟨rfl,b1⟩;have B1:=Z8 (Ye HB.out b1);clear b1 c0 c1 c2 c3 c4 c5 c6 HB
    by_cases hc:Q2 (Zy ns h).path p<0
    · have G:h<L:=by
       by_cases hh:h<L
       · exact hh
       exact absurd hc (by have:=H3.out h (by omega) (by rw [HP.out];exact h3);omega)
      go_wp2;exact ⟨⟨h+1,j,by omega,hj,hjn,by go_num,rfl,B1⟩,by simp [intOf];omega⟩
    have G:L≤h:=by
     by_cases hh:h<L
     · exact absurd (H2.out h hh) hc
     omega
    go_wp2;exact ⟨⟨i,h,hi,G,by omega,rfl,by go_num,B1⟩,by simp [intOf];omega⟩
  have Z0:i=L:=by omega
  subst Z0;have ZJ:¬(i:Int)<(j:Int):=by omega
  by_cases hLn:i<n
  · have ZZ:(i:Int)<(n:Int):=by omega
    have HF:Hid (IN ns p i=(Q2 (Zy ns i).path p == 0)):=by show _=_;unfold IN;rw [HP.out,YS hLn];rfl
    obtain ⟨c0,c1,c2,c3,c4,c5,c6⟩:=(HC.out i hLn).below HB.out hb
    go_wp2_with fail
    refine (LK wr (Zy ns i) p).mono ?_;rintro e w1 ⟨rfl,b1⟩;have B1:=Z8 (Ye HB.out b1);clear b1 c0 c1 c2 c3 c4 c5 c6 HB;go_wp2;refine ZT (v:=.tuple #[.int .i64 (i:Int),.bool (Q2 (Zy ns i).path p == 0)]) (by simp [results,Tryz.results160,go_sem]) rfl ⟨by rw [HF.out],B1.out⟩
  have ZZ:¬(i:Int)<(n:Int):=by omega
  have HF:Hid (IN ns p i=false):=by show _=_;unfold IN;rw [HP.out,Zl hLn];rfl
  go_wp2;refine ZT (v:=.tuple #[.int .i64 (i:Int),.bool false]) (by simp [results,Tryz.results160,go_sem]) rfl ⟨by rw [HF.out],HB.out⟩
theorem tW (w:World) (ao:Option Addr) (cap:Nat) (p:ByteArray) :
    Calls Tryz.prog 160 #[.slice ao 0 cap,.string p,.func (.func 161) #[] #[]] w fun e w'=>e=.returned (.tuple #[.int .i64 0,.bool false])∧w'=w:=by
 go_enter Tryz.func160,Tryz.ntmps160
 go_wp2
 go_rounds 1
 refine ZT (v:=.tuple #[.int .i64 0,.bool false]) (by simp [results,Tryz.results160,go_sem]) rfl ⟨rfl,rfl⟩
theorem K7 (w:World) (v:Value) (ns:List Nd) (p:ByteArray) (L:Nat) (h:VL w v ns) (hn:ns.length≤1000) (hL:Low ns p L) :
    Calls Tryz.prog 154 #[v,.string p] w (Ze w (.tuple #[.int .i64 (L:Int),.bool (IN ns p L)])):=by
 have H:Hid (Calls Tryz.prog 160 #[v,.string p,.func (.func 161) #[] #[]] w (Ze w (.tuple #[.int .i64 (L:Int),.bool (IN ns p L)]))):=by
  obtain ⟨ao,cap,rfl,h1,h2,h3⟩:=h
  rcases h3 with rfl | ⟨b,o,rfl,hb,hc⟩
  · have hL0:L=0:=by have:=hL.1;simpa using this
    subst hL0;refine (tW w ao cap p).mono ?_;rintro e w' ⟨rfl,rfl⟩;exact ⟨rfl,ZR⟩
  exact tX w b o ns.length cap L ns p rfl hn hb hc hL
 clear h hL
 go_enter Tryz.func154,Tryz.ntmps154
 go_wp2_with fail
 refine H.out.mono ?_;rintro e w1 ⟨rfl,b1⟩;have B1:=Z8 b1;clear b1 H;go_wp2;refine ZT (v:=.tuple #[.int .i64 (L:Int),.bool (IN ns p L)]) (by simp [results,Tryz.results154,go_sem]) rfl ⟨rfl,B1.out⟩
theorem K5 (x:Nat):(BitVec.ofInt 64 (wrap64 (x:Int))).toNat=x % 18446744073709551616:=by
 rw [xN];unfold wrap64;omega
theorem AD (x b:Nat) (hb:b<256):bits .or .i64 (wrap64 ((x:Int)*256)) (b:Int)=wrap64 (((x*256+b:Nat):Int)):=by
 show IntKind.i64.wrap ((BitVec.ofInt 64 (wrap64 ((x:Int)*256)) ||| BitVec.ofInt 64 (b:Int)).toNat:Int)=_;have e1:(BitVec.ofInt 64 (wrap64 ((x:Int)*256))).toNat=x*256 % 18446744073709551616:=by
  have:=K5 (x*256);rw [Int.natCast_mul] at this;exact this
 have e2:(BitVec.ofInt 64 (b:Int)).toNat=b:=by
  rw [BitVec.ofInt_natCast,BitVec.toNat_ofNat];exact Bh (by omega)
 rw [BitVec.toNat_or,e1,e2,nat_join 8 (x*256 % 18446744073709551616) b (by simp only [Nat.reducePow];omega) (by simpa using hb),Xf];unfold wrap64;omega
theorem Gl (x:Nat):wrap64 (wrap64 (x:Int)*256)=wrap64 ((x:Int)*256):=by unfold wrap64;omega
def nG (ys:List Int):Int:=wrap64 ((YV (ys.take 8):Nat):Int)
def nB (ys:List Int):Int:=((YV ((ys.drop 8).take 1):Nat):Int)
def nS (ys:List Int):Int:=((YV ((ys.drop 9).take 4):Nat):Int)
def nL (ys:List Int):Int:=((YV ((ys.drop 13).take 4):Nat):Int)
def nC (ys:List Int):Int:=((YV ((ys.drop 17).take 4):Nat):Int)
abbrev Ub (ys:List Int):Prop:=ys.length=64∧sup (nG ys) (nB ys) (nS ys) (nL ys) (nC ys)=ys
def UM (ys:List Int):Value:=if Ub ys then .agg #[.bool true,.int .i64 (nG ys),.int .i64 (nB ys),.int .i64 (nS ys),.int .i64 (nL ys),.int .i64 (nC ys)] else .agg #[.bool false,.int .i64 0,.int .i64 0,.int .i64 0,.int .i64 0,.int .i64 0]
theorem DE {g b s l c:Int} (h:sup g b s l c=ys) (h0:ys≠[]):ys.length=64:=by
 subst h;unfold sup at h0 ⊢
 split
 · exact IT _ _ _ _ _
 rename_i hn;rw [Z3 hn] at h0;exact absurd rfl h0
def Vt:List PanicEntry:=[{ v:=.iface 185 (.agg #[]),recovered:=false }]
theorem AC (w:World) (k n c m:Nat) (ao:Option Addr) (h0:w.cell? ⟨k,0,none⟩=some (.slice ao n c)) (hm:n<m) :
    Calls Tryz.prog 134 #[.pointer (some ⟨k,0,none⟩),.int .i64 m] w fun e w'=>e=.panicked Vt∧w'=w:=by
 have hI:(n:Int)<(m:Int):=by omega
 go_enter Tryz.func134,Tryz.ntmps134
 go_wp2;exact ⟨rfl,rfl,rfl⟩
def AB (w:World) (k b o n c m:Nat) (e:Ending) (w':World):Prop:=e=.returned (.slice (some ⟨b,o,none⟩) m c)∧∃o',(o'=o+m∨n=m)∧w'=w.setCell ⟨k,0,none⟩ (.slice (some ⟨b,o',none⟩) (n - m) (c - m))
theorem EJ (w:World) (k b o n c m:Nat) (h0:w.cell? ⟨k,0,none⟩=some (.slice (some ⟨b,o,none⟩) n c)) (hz:w.frozen? ⟨k,0,none⟩=false) (hm:m≤n) (hm0:0<m) (hc:n≤c) :
    Calls Tryz.prog 134 #[.pointer (some ⟨k,0,none⟩),.int .i64 m] w fun e w'=>AB w k b o n c m e w':=by
 have hI:¬(n:Int)<(m:Int):=by omega
 by_cases hcm:c=m
 · subst hcm
   go_enter Tryz.func134,Tryz.ntmps134
   go_wp2;go_ret;exact ⟨rfl,o,.inr (by omega),by rw [Jm,show n - c=0 by omega]⟩
 have hcm':m<c:=by omega
 go_enter Tryz.func134,Tryz.ntmps134
 go_wp2;go_ret;exact ⟨rfl,o+m,.inl rfl,rfl⟩
def RS (w0 w:World) (k:Nat) (ys:List Int):Prop :=
 w0.heap.size≤k∧k<w.heap.size∧w.frozen? ⟨k,0,none⟩=false∧ZX w0 w∧∃v,w.cell? ⟨k,0,none⟩=some v∧Rd .u8 w0 v ys
theorem RS.drewN (h:RS w0 w k ys) (q:Nat):RS w0 (w.drewN q) k ys :=
 ⟨h.1,h.2.1,h.2.2.1,h.2.2.2.1.trans ((below_drewN' w q).mono h.2.2.2.1.size),h.2.2.2.2⟩
theorem RS.keep (h:RS w0 w k ys) (hb:Below B w w') (hk:k<B):RS w0 w' k ys:=by
 obtain ⟨h1,h2,h3,h4,v,h5,h6⟩:=h;exact ⟨h1,ZB h2 hb.size,(hb.frozen (p:=⟨k,0,none⟩) hk).trans h3,h4.trans (hb.mono (by omega)),v,(hb.cell (p:=⟨k,0,none⟩) hk).trans h5,h6⟩
theorem RS.set {zs:List Int} (h:RS w0 w k ys) (hv:Rd .u8 w0 v zs):RS w0 (w.setCell ⟨k,0,none⟩ v) k zs:=by
 obtain ⟨h1,h2,h3,h4,u,h5,h6⟩:=h;refine ⟨h1,by simpa using h2,?_,h4.setCell h1 _,v,Ys _ _ _ h5,hv⟩;rw [Yb];exact h3
theorem Rd.split {k:IntKind} {o n c:Nat} (h:Rd k w (.slice (some ⟨b,o,none⟩) n c) ys) (m:Nat) (hm:m≤n) (hm0:0<m) :
    Rd k w (.slice (some ⟨b,o,none⟩) m c) (ys.take m)∧∀o',(o'=o+m∨n=m)→Rd k w (.slice (some ⟨b,o',none⟩) (n - m) (c - m)) (ys.drop m):=by
 obtain ⟨ao,cap,e,h1,h2,h3⟩:=h
 simp only [Zc] at e
 obtain ⟨rfl,rfl,rfl⟩:=e
 rcases h3 with rfl | ⟨b',o',e',hb,hc⟩
 · simp at hm;omega
 simp only [Xu,uC,and_true] at e'
 obtain ⟨rfl,rfl⟩:=e';refine ⟨⟨some ⟨b,o,none⟩,c,by rw [YC,So hm],by rw [YC];omega,h2,.inr ⟨b,o,rfl,hb,fun i hi=>?_⟩⟩,fun o' ho'=>⟨some ⟨b,o',none⟩,c - m,by rw [Zv],by rw [Zv];omega,by omega,?_⟩⟩
 · rw [YC] at hi
   rw [hc i (by omega)]
   simp [List.getD,Sx (show i<m by omega)]
 rcases ho' with rfl | hnm
 · refine .inr ⟨b,o+m,rfl,hb,fun i hi=>?_⟩
   rw [Zv] at hi;rw [TI,hc (m+i) (by omega)]
   simp [List.getD]
 exact .inl (Qx (by omega))
theorem IL (w0 w:World) (k m:Nat) (ys:List Int) (h:RS w0 w k ys) (hm:m≤ys.length) (hm0:0<m) :
    Calls Tryz.prog 134 #[.pointer (some ⟨k,0,none⟩),.int .i64 m] w fun e w'=>∃b o c v',e=.returned (.slice (some ⟨b,o,none⟩) m c)∧b<w0.heap.size∧(∀i,i<m→w0.cell? ⟨b,o+i,none⟩=some (.int .u8 (ys.getD i 0)))∧RS w0 w' k (ys.drop m)∧w'=w.setCell ⟨k,0,none⟩ v':=by
 obtain ⟨h1,h2,h3,h4,v,h5,h6⟩:=h;have h6':=h6;obtain ⟨ao,c,rfl,g1,g2,g3⟩:=h6
 rcases g3 with rfl | ⟨b,o,rfl,hb,hc⟩
 · simp at hm;omega
 refine (EJ w k b o ys.length c m h5 h3 hm hm0 g1).mono ?_;rintro e w' ⟨rfl,o',ho',rfl⟩;exact ⟨b,o,c,_,rfl,hb,fun i hi=>hc i (by omega),RS.set ⟨h1,h2,h3,h4,_,h5,h6'⟩ ((Rd.split h6' m hm hm0).2 o' ho'),rfl⟩
theorem Qt (w0 w:World) (k m:Nat) (ys:List Int) (h:RS w0 w k ys) (hm:ys.length<m) :
    Calls Tryz.prog 134 #[.pointer (some ⟨k,0,none⟩),.int .i64 m] w fun e w'=>e=.panicked Vt∧w'=w:=by
 obtain ⟨-,-,-,-,v,h5,h6⟩:=h;obtain ⟨ao,c,rfl,-,-,-⟩:=h6;exact AC w k _ c m ao h5 hm
theorem YD (w0 w:World) (k m:Nat) (ys:List Int) (h:RS w0 w k ys) (hm:ys.length<m) :
    Calls Tryz.prog 119 #[.pointer (some ⟨k,0,none⟩),.int .i64 m] w fun e w'=>e=.panicked Vt∧w'=w:=by
 have H:=Z8 (Qt w0 w k m ys h hm);clear h hm
 go_enter Tryz.func119,Tryz.ntmps119
 go_wp2_with fail
 refine H.out.mono ?_;rintro e w1 ⟨rfl,rfl⟩;exact ⟨rfl,rfl,rfl⟩
theorem Yj (w0 w:World) (k m:Nat) (ys:List Int) (h:RS w0 w k ys) (hm:m≤ys.length) (hm0:0<m) (ZE:m≤8) (hby:YL ys) :
    Calls Tryz.prog 119 #[.pointer (some ⟨k,0,none⟩),.int .i64 m] w fun e w'=>e=.returned (.int .i64 (wrap64 ((YV (ys.take m):Nat):Int)))∧RS w0 w' k (ys.drop m)∧∃v' q,w'=(w.setCell ⟨k,0,none⟩ v').drewN q:=by
 have H:=Z8 (IL w0 w k m ys h hm hm0);have Xe:=Z8 hby
 have HM:=Z8 hm;clear h hby hm
 go_enter Tryz.func119,Tryz.ntmps119
 go_wp2_with fail
 refine H.out.mono ?_;rintro e w1 ⟨b,o,c,v',rfl,hb,hc,hr,hw⟩;have HC:=Z8 hc;have HR:=Z8 hr;have HW:=Z8 hw;clear hc hr hw;go_wp2
 go_loopw [5,12] (fun vn vi wr=>∃(i:Nat) (z:Int),i≤m∧vi=.int .i64 i∧vn=.int .i64 z∧Hid (z=wrap64 ((YV (ys.take i):Nat):Int))∧∃q,wr=w1.drewN q) (fun _ i _=>m - (intOf i).toNat)
 case atStart=>exact ⟨0,0,ZQ _,rfl,rfl,(by show (0:Int)=_;unfold wrap64;rw [Rl,IU];rfl),0,rfl⟩
 case round =>
  obtain ⟨i,z,hi,rfl,rfl,HZ,q,rfl⟩:=hrel
  by_cases hlt:i<m
  · have hI:(i:Int)<(m:Int):=by omega
    obtain ⟨x,hx,hxe⟩:=Wr Xe.out i;have c1:w1.cell? ⟨b,o+i,none⟩=some (.int .u8 (x:Int)):=by rw [HR.out.2.2.2.1.cell (p:=⟨b,o+i,none⟩) hb,HC.out i hlt,hxe]
    have rv:=Z8 hxe;have ZC:(x:Int)<256:=by omega
    clear hxe;have HN:Hid (bits .or .i64 (wrap64 (z*256)) (x:Int)=wrap64 ((YV (ys.take (i+1)):Nat):Int)):=by
     show _=_;have ht:ys.take (i+1)=ys.take i++[(x:Int)]:=by
      have hl:i<ys.length:=by have:=HM.out;omega
      have he:=rv.out
      simp only [List.getD,VM hl,OY] at he
      rw [Rm hl,he]
     rw [ht,Ta,HZ.out,Gl,AD _ _ hx,XT]
    go_wp2;exact ⟨⟨i+1,_,by omega,by go_num,rfl,HN,q,rfl⟩,by simp [intOf];omega⟩
  have him:i=m:=by omega
  subst him;have ZU:=Z8 (HR.out.drewN q);have ZO:Hid (∃v' q',w1.drewN q=(w.setCell ⟨k,0,none⟩ v').drewN q'):=⟨v',q,by rw [HW.out]⟩;go_wp2;go_ret;exact ⟨Xo HZ.out,ZU.out,ZO.out⟩
def IK:List Int→Option (ByteArray × List Int)
 | []=>none
 | y :: r=>if y.toNat≤r.length then some (strOfNums (r.take y.toNat),r.drop y.toNat) else none
def Yx (ys:List Int) (i:Nat):Int:=((YV ((ys.drop (4*i)).take 4):Nat):Int)
def WM (ys:List Int):Option (Nd × List Int) :=
 match IK ys with
 | none=>none
 | some (p,r1) =>
  match IK r1 with
  | none=>none
  | some (d,r2)=>if 20≤r2.length then some (⟨p,d,Yx r2 0,Yx r2 1,Yx r2 2,Yx r2 3,Yx r2 4⟩,r2.drop 20) else none
theorem Yw (h:YL ys) (n:Nat):YL (ys.drop n):=fun x hx=>h x (Wf hx)
theorem AA (h:IK ys=some (s,r)):∃y t,ys=y :: t∧y.toNat≤t.length∧s=strOfNums (t.take y.toNat)∧r=t.drop y.toNat:=by
 cases ys with
 | nil=>simp [IK] at h
 | cons y t =>
  simp only [IK] at h
  by_cases hy:y.toNat≤t.length
  · rw [ZY hy] at h
    simp only [Xu,Mc] at h
    exact ⟨y,t,rfl,hy,h.1.symm,h.2.symm⟩
  rw [Z3 hy] at h;cases h
theorem Q1 (h:IK ys=some (s,r)) (hb:YL ys):YL r∧r.length<ys.length∧s.size<256:=by
 obtain ⟨y,t,rfl,h1,rfl,rfl⟩:=AA h;refine ⟨fun x hx=>hb x (Jp _ (Wf hx)),by simp;omega,?_⟩;have:=hb y (by simp);rw [strOfNums_size,YC];omega
theorem UL (h:WM ys=some (n,r)) (hb:YL ys):YL r∧r.length<ys.length∧n.path.size<256∧n.data.size<256:=by
 unfold WM at h
 cases h1:IK ys with
 | none=>rw [h1] at h;cases h
 | some q =>
  obtain ⟨p,r1⟩:=q;rw [h1] at h
  simp only at h
  cases h2:IK r1 with
  | none=>rw [h2] at h;cases h
  | some q2 =>
   obtain ⟨d,r2⟩:=q2;rw [h2] at h
   simp only at h
   by_cases h3:20≤r2.length
   · rw [ZY h3] at h
     simp only [Xu,Mc] at h
     obtain ⟨rfl,rfl⟩:=h;have b1:=Q1 h1 hb;have b2:=Q1 h2 b1.1;refine ⟨Yw b2.1 _,?_,b1.2.2,b2.2.2⟩;rw [Zv];omega
   rw [Z3 h3] at h;cases h
def EI:Nat→List Int→Option (List Nd)
 | 0,ys=>if ys=[] then some [] else none
 | f+1,ys=>if ys=[] then some [] else
  match WM ys with
  | none=>none
  | some (n,r)=>(EI f r).map (n :: ·)
theorem xu (f:Nat):EI f []=some []:=by cases f <;> simp [EI]
theorem Az (h:ys≠[]) (hr:WM ys=none):EI f ys=none:=by
 cases f with
 | zero=>simp [EI,h]
 | succ f=>simp [EI,h,hr]
theorem Ay (h:ys≠[]) (hr:WM ys=some (n,r)):EI (f+1) ys=(EI f r).map (n :: ·):=by simp [EI,h,hr]
def EH (ys:List Int) (ns:List Nd) (r:List Int):Prop:=∃f,r.length≤f∧EI ys.length ys=(EI f r).map (ns++·)∧ns.length+r.length≤ys.length
theorem EH.start (ys:List Int):EH ys [] ys:=⟨ys.length,ZW,by simp,by simp⟩
theorem EH.step {r':List Int} (h:EH ys ns r) (hb:YL r) (hr:WM r=some (n,r')):EH ys (ns++[n]) r':=by
 obtain ⟨f,hf,he,hl⟩:=h;have h1:=(UL hr hb).2.1;have hne:r≠[]:=fun e=>by rw [e] at h1;simp at h1
 cases f with
 | zero=>omega
 | succ f =>
  refine ⟨f,by omega,?_,by simp;omega⟩;rw [he,Ay hne hr,Option.map_map]
  congr 1
  funext l
  simp
theorem EH.done (h:EH ys ns []):EI ys.length ys=some ns:=by
 obtain ⟨f,-,he,-⟩:=h;rw [he,xu];simp
theorem EH.bad (h:EH ys ns r) (hne:r≠[]) (hr:WM r=none):EI ys.length ys=none:=by
 obtain ⟨f,-,he,-⟩:=h;rw [he,Az hne hr];rfl
def Ty (ys:List Int):Option (List Nd) :=
 match EI ys.length ys with
 | none=>none
 | some ns=>if Zp ns then some ns else none
theorem take_zero (w:World) (k n c:Nat) (ao:Option Addr) (h0:w.cell? ⟨k,0,none⟩=some (.slice ao n c)) (hz:w.frozen? ⟨k,0,none⟩=false) :
    Calls Tryz.prog 134 #[.pointer (some ⟨k,0,none⟩),.int .i64 0] w fun e w'=>e=.returned (.slice ao 0 c)∧w'=w.setCell ⟨k,0,none⟩ (.slice ao n c):=by
 have hI:¬(n:Int)<0:=by omega
 go_enter Tryz.func134,Tryz.ntmps134
 cases ao with
 | none =>
  go_wp2;go_ret;exact ⟨rfl,rfl⟩
 | some a =>
  go_wp2;go_ret;exact ⟨rfl,rfl⟩
theorem Aw (w0 w:World) (k m:Nat) (ys:List Int) (h:RS w0 w k ys) (hm:m≤ys.length) :
    Calls Tryz.prog 134 #[.pointer (some ⟨k,0,none⟩),.int .i64 m] w fun e w'=>∃v1,e=.returned v1∧Rd .u8 w0 v1 (ys.take m)∧RS w0 w' k (ys.drop m)∧w.grownBy w' (some k):=by
 have h':=h;obtain ⟨h1,h2,h3,h4,v,h5,h6⟩:=h;have h6':=h6;obtain ⟨ao,c,rfl,g1,g2,g3⟩:=h6
 by_cases hm0:m=0
 · subst hm0
   refine (take_zero w k ys.length c ao h5 h3).mono ?_;rintro e w' ⟨rfl,rfl⟩;refine ⟨_,rfl,⟨ao,c,by simp,ZQ _,g2,.inl (Rl)⟩,?_,grownBy_set _ _ _ _ _ (YT _ _)⟩;rw [Jq];exact RS.set h' h6'
 rcases g3 with rfl | ⟨b,o,rfl,hb,hc⟩
 · simp at hm;omega
 refine (EJ w k b o ys.length c m h5 h3 hm (by omega) g1).mono ?_;rintro e w' ⟨rfl,o',ho',rfl⟩;have hs:=Rd.split h6' m hm (by omega);exact ⟨_,rfl,hs.1,RS.set h' (hs.2 o' ho'),grownBy_set _ _ _ _ _ (YT _ _)⟩
theorem PR (w0 w:World) (k:Nat) (y:Int) (r:List Int) (h:RS w0 w k (y :: r)) :
    Calls Tryz.prog 149 #[.pointer (some ⟨k,0,none⟩)] w fun e w'=>e=.returned (.int .u8 y)∧RS w0 w' k r∧w.grownBy w' (some k):=by
 have H:Hid (Calls Tryz.prog 134 #[.pointer (some ⟨k,0,none⟩),.int .i64 1] w fun e w'=>∃b o c,e=.returned (.slice (some ⟨b,o,none⟩) 1 c)∧w'.cell? ⟨b,o,none⟩=some (.int .u8 y)∧Hid (RS w0 w' k r)∧Hid (w.grownBy w' (some k))):=by
  refine (IL w0 w k 1 (y :: r) h (by simp) (by omega)).mono ?_;rintro e w' ⟨b,o,c,v',rfl,hb,hc,hr,rfl⟩;have h0:=hc 0 (by omega);refine ⟨b,o,c,rfl,?_,(by show RS _ _ _ _;simpa using hr),grownBy_set _ _ _ _ _ (YT _ _)⟩;rw [hr.2.2.2.1.cell (p:=⟨b,o,none⟩) hb]
  simpa using h0
 clear h
 go_enter Tryz.func149,Tryz.ntmps149
 go_wp2_with fail
 refine H.out.mono ?_;rintro e w1 ⟨b,o,c,rfl,hc,hr,hg⟩;go_wp2;go_ret;exact ⟨rfl,hr.out,hg.out⟩
theorem Q0 (w0 w:World) (k:Nat) (h:RS w0 w k []) :
    Calls Tryz.prog 149 #[.pointer (some ⟨k,0,none⟩)] w fun e w'=>e=.panicked Vt∧w'=w:=by
 have H:Hid (Calls Tryz.prog 134 #[.pointer (some ⟨k,0,none⟩),.int .i64 1] w fun e w'=>e=.panicked Vt∧w'=w):=Qt w0 w k 1 [] h (by simp);clear h
 go_enter Tryz.func149,Tryz.ntmps149
 go_wp2_with fail
 refine H.out.mono ?_;rintro e w1 ⟨rfl,rfl⟩;exact ⟨rfl,rfl,rfl⟩
def Av (w0 w:World) (k:Nat) (ys:List Int) (e:Ending) (w':World):Prop :=
 w.grownBy w' (some k)∧((IK ys=none∧e=.panicked Vt)∨∃s r,IK ys=some (s,r)∧e=.returned (.string s)∧RS w0 w' k r)
theorem Oz (w0 w:World) (k:Nat) (ys:List Int) (h:RS w0 w k ys) (hby:YL ys) :
    Calls Tryz.prog 137 #[.pointer (some ⟨k,0,none⟩)] w fun e w'=>Av w0 w k ys e w':=by
 have HS:=Z8 h;clear h
 go_enter Tryz.func137,Tryz.ntmps137
 go_wp2_with fail
 cases ys with
 | nil =>
  refine (Q0 w0 w k HS.out).mono ?_;rintro e w1 ⟨rfl,rfl⟩;exact ⟨rfl,YT _ _,.inl ⟨rfl,rfl⟩⟩
 | cons y r =>
  have hy:=hby y (by simp);obtain ⟨m,rfl⟩:∃m:Nat,y=(m:Int):=⟨y.toNat,by omega⟩;have hm:m<256:=by omega
  clear hby hy;refine (PR w0 w k m r HS.out).mono ?_;rintro e w1 ⟨rfl,r1,g1⟩;have R1:=Z8 r1;have G1:=Z8 g1;clear r1 g1 HS;have oI:(m:Int)<256:=by omega
  go_wp2_with fail
  by_cases hl:m≤r.length
  · refine (Aw w0 w1 k m r R1.out hl).mono ?_
    rintro e w2 ⟨v2,rfl,F,r2,g2⟩;have hcv:=Vu (F.below r2.2.2.2.1);have HP:Hid (Av w0 w k ((m:Int) :: r) (.returned (.string (strOfNums (r.take m)))) w2):=by
     refine ⟨G1.out.trans g2,.inr ⟨_,_,?_,rfl,r2⟩⟩
     simp only [IK,XT]
     rw [ZY hl]
    clear F r2 g2 R1 G1;go_wp2;go_ret;exact HP.out
  refine (Qt w0 w1 k m r R1.out (by omega)).mono ?_;rintro e w2 ⟨rfl,rfl⟩;refine ⟨rfl,G1.out,.inl ⟨?_,rfl⟩⟩
  simp only [IK,XT]
  rw [Z3 hl]
def rZ (b p:Nat):Value:=.agg #[.pointer (some ⟨b,p+2,none⟩),.pointer (some ⟨b,p+3,none⟩),.pointer (some ⟨b,p+4,none⟩),.pointer (some ⟨b,p+5,none⟩),.pointer (some ⟨b,p+6,none⟩)]
theorem DD (w:World) (b p:Nat) :
    Calls Tryz.prog 138 #[.pointer (some ⟨b,p,none⟩)] w (Ze w (rZ b p)):=by
 go_enter Tryz.func138,Tryz.ntmps138
 go_wp2;refine ZF (S:=fun _=>True) (by kernel_rfl) (trivial) (fun Z9=>?_)
 iterate 20 (refine ZV ?_ (by kernel_rfl) (fun _=>id) Z9 ?_ ?_;rotate_left;· intro w9 Z4;go_simp;try with_reducible rfl)
 refine ZV (rZ b p) (by kernel_rfl) (fun _=>id) Z9 ?_ ?_
 · intro w9 Z4;go_simp;rfl
 refine ZS 21 rfl (by kernel_rfl) (fun K hK=>?_);unfold rZ;go_simp;refine hK.out _ _ trivial (fun ZI=>?_);clear hK K Z9 ZI;refine ZM (by kernel_rfl) ?_ _
 try simp only [Act.put,Zk,Zj,Zi]
 go_wp2;refine ZT (v:=rZ b p) (by simp [results,Tryz.results138,go_sem,rZ]) rfl ⟨rfl,?_⟩;exact (ZR.alloc ZW _).trans ((below_drewN' _ 1).mono (by simp))
theorem cell_of {A:Array Value} {t:TypeId} {f:Nat × Nat} (h:w.heap[b]?=some (.cells A t f)) (q:Nat):w.cell? ⟨b,q,none⟩=A[q]?:=by simp [World.cell?,h]
theorem pO (W:World) (b:Nat):(Instr.index 191 (.agg #[.pointer (some ⟨b,2,none⟩),.pointer (some ⟨b,3,none⟩),.pointer (some ⟨b,4,none⟩),.pointer (some ⟨b,5,none⟩),.pointer (some ⟨b,6,none⟩)]) (.int .i64 0)).run Tryz.prog W=.ok (.pointer (some ⟨b,2,none⟩)) W:=by kernel_rfl
theorem pM (W:World) (b:Nat):(Instr.index 191 (.agg #[.pointer (some ⟨b,2,none⟩),.pointer (some ⟨b,3,none⟩),.pointer (some ⟨b,4,none⟩),.pointer (some ⟨b,5,none⟩),.pointer (some ⟨b,6,none⟩)]) (.int .i64 1)).run Tryz.prog W=.ok (.pointer (some ⟨b,3,none⟩)) W:=by kernel_rfl
theorem pL (W:World) (b:Nat):(Instr.index 191 (.agg #[.pointer (some ⟨b,2,none⟩),.pointer (some ⟨b,3,none⟩),.pointer (some ⟨b,4,none⟩),.pointer (some ⟨b,5,none⟩),.pointer (some ⟨b,6,none⟩)]) (.int .i64 2)).run Tryz.prog W=.ok (.pointer (some ⟨b,4,none⟩)) W:=by kernel_rfl
theorem pK (W:World) (b:Nat):(Instr.index 191 (.agg #[.pointer (some ⟨b,2,none⟩),.pointer (some ⟨b,3,none⟩),.pointer (some ⟨b,4,none⟩),.pointer (some ⟨b,5,none⟩),.pointer (some ⟨b,6,none⟩)]) (.int .i64 3)).run Tryz.prog W=.ok (.pointer (some ⟨b,5,none⟩)) W:=by kernel_rfl
theorem pJ (W:World) (b:Nat):(Instr.index 191 (.agg #[.pointer (some ⟨b,2,none⟩),.pointer (some ⟨b,3,none⟩),.pointer (some ⟨b,4,none⟩),.pointer (some ⟨b,5,none⟩),.pointer (some ⟨b,6,none⟩)]) (.int .i64 4)).run Tryz.prog W=.ok (.pointer (some ⟨b,6,none⟩)) W:=by kernel_rfl
theorem grown_of (h:ZX w w') (row:Option Nat):w.grownBy w' row:=⟨h.os,h.tape,h.output,h.size,fun k hk _=>h.block k hk⟩
theorem Yp (w:World) (o:Obj) (row:Option Nat):w.grownBy (w.alloc o) row:=grown_of (ZR.alloc ZW o) row
theorem Y9 (h:w.grownBy W row) (hB:w.heap.size≤B) (i:Nat) (u:Value):w.grownBy (W.setCell ⟨B,i,none⟩ u) row :=
 ⟨h.os,h.tape,h.output,by simpa using h.size,fun k hk hne=>by
  rw [←h.block k hk hne];exact Mh _ _ _ _ (by show k≠B;omega)⟩
def NB (W:World) (B:Nat) (n:Nd):Prop:=UP W B n∧∀j,W.frozen? ⟨B,j,none⟩=false
theorem NB.turn {W':World} (h:NB W B n) (hg:W.grownBy W' row) (hne:some B≠row):NB W' B n:=by
 have hb:=hg.block B h.1.lt hne;have e:∀q,W'.cell? ⟨B,q,none⟩=W.cell? ⟨B,q,none⟩:=fun q=>YI (a:=⟨B,q,none⟩) hb
 refine ⟨⟨ZB h.1.lt hg.size,(e _).trans h.1.c0,(e _).trans h.1.c1,(e _).trans h.1.c2,(e _).trans h.1.c3,(e _).trans h.1.c4,(e _).trans h.1.c5,(e _).trans h.1.c6⟩,fun j=>?_⟩;rw [Ue (a:=⟨B,j,none⟩) hb];exact h.2 j
theorem NB.other {B':Nat} (h:NB W B n) (hne:B≠B') (i:Nat) (u:Value):NB (W.setCell ⟨B',i,none⟩ u) B n:=by
 have e:∀q,(W.setCell ⟨B',i,none⟩ u).cell? ⟨B,q,none⟩=W.cell? ⟨B,q,none⟩:=fun q=>ZG _ _ _ _ (by intro e;injection e with e;omega)
 refine ⟨⟨by simpa using h.1.lt,(e _).trans h.1.c0,(e _).trans h.1.c1,(e _).trans h.1.c2,(e _).trans h.1.c3,(e _).trans h.1.c4,(e _).trans h.1.c5,(e _).trans h.1.c6⟩,fun j=>?_⟩;rw [Yb];exact h.2 j
theorem NB.Au (h:NB W B n) (s:ByteArray):NB (W.setCell ⟨B,0,none⟩ (Value.string s)) B { n with path:=s }:=by
 have e:∀q,q≠0→(W.setCell ⟨B,0,none⟩ (Value.string s)).cell? ⟨B,q,none⟩=W.cell? ⟨B,q,none⟩:=fun q hq=>ZG _ _ _ _ (by intro e;injection e with _ e;omega)
 refine ⟨⟨by simpa using h.1.lt,Ys _ _ _ h.1.c0,(e 1 (by omega)).trans h.1.c1,(e 2 (by omega)).trans h.1.c2,(e 3 (by omega)).trans h.1.c3,(e 4 (by omega)).trans h.1.c4,(e 5 (by omega)).trans h.1.c5,(e 6 (by omega)).trans h.1.c6⟩,fun j=>?_⟩;rw [Yb];exact h.2 j
theorem NB.xt (h:NB W B n) (s:ByteArray):NB (W.setCell ⟨B,1,none⟩ (Value.string s)) B { n with data:=s }:=by
 have e:∀q,q≠1→(W.setCell ⟨B,1,none⟩ (Value.string s)).cell? ⟨B,q,none⟩=W.cell? ⟨B,q,none⟩:=fun q hq=>ZG _ _ _ _ (by intro e;injection e with _ e;omega)
 refine ⟨⟨by simpa using h.1.lt,(e 0 (by omega)).trans h.1.c0,Ys _ _ _ h.1.c1,(e 2 (by omega)).trans h.1.c2,(e 3 (by omega)).trans h.1.c3,(e 4 (by omega)).trans h.1.c4,(e 5 (by omega)).trans h.1.c5,(e 6 (by omega)).trans h.1.c6⟩,fun j=>?_⟩;rw [Yb];exact h.2 j
theorem NB.xr (h:NB W B n) (s:Int):NB (W.setCell ⟨B,2,none⟩ (Value.int .i64 s)) B { n with Ym:=s }:=by
 have e:∀q,q≠2→(W.setCell ⟨B,2,none⟩ (Value.int .i64 s)).cell? ⟨B,q,none⟩=W.cell? ⟨B,q,none⟩:=fun q hq=>ZG _ _ _ _ (by intro e;injection e with _ e;omega)
 refine ⟨⟨by simpa using h.1.lt,(e 0 (by omega)).trans h.1.c0,(e 1 (by omega)).trans h.1.c1,Ys _ _ _ h.1.c2,(e 3 (by omega)).trans h.1.c3,(e 4 (by omega)).trans h.1.c4,(e 5 (by omega)).trans h.1.c5,(e 6 (by omega)).trans h.1.c6⟩,fun j=>?_⟩;rw [Yb];exact h.2 j
theorem NB.xq (h:NB W B n) (s:Int):NB (W.setCell ⟨B,3,none⟩ (Value.int .i64 s)) B { n with ZD:=s }:=by
 have e:∀q,q≠3→(W.setCell ⟨B,3,none⟩ (Value.int .i64 s)).cell? ⟨B,q,none⟩=W.cell? ⟨B,q,none⟩:=fun q hq=>ZG _ _ _ _ (by intro e;injection e with _ e;omega)
 refine ⟨⟨by simpa using h.1.lt,(e 0 (by omega)).trans h.1.c0,(e 1 (by omega)).trans h.1.c1,(e 2 (by omega)).trans h.1.c2,Ys _ _ _ h.1.c3,(e 4 (by omega)).trans h.1.c4,(e 5 (by omega)).trans h.1.c5,(e 6 (by omega)).trans h.1.c6⟩,fun j=>?_⟩;rw [Yb];exact h.2 j
theorem NB.xp (h:NB W B n) (s:Int):NB (W.setCell ⟨B,4,none⟩ (Value.int .i64 s)) B { n with cz:=s }:=by
 have e:∀q,q≠4→(W.setCell ⟨B,4,none⟩ (Value.int .i64 s)).cell? ⟨B,q,none⟩=W.cell? ⟨B,q,none⟩:=fun q hq=>ZG _ _ _ _ (by intro e;injection e with _ e;omega)
 refine ⟨⟨by simpa using h.1.lt,(e 0 (by omega)).trans h.1.c0,(e 1 (by omega)).trans h.1.c1,(e 2 (by omega)).trans h.1.c2,(e 3 (by omega)).trans h.1.c3,Ys _ _ _ h.1.c4,(e 5 (by omega)).trans h.1.c5,(e 6 (by omega)).trans h.1.c6⟩,fun j=>?_⟩;rw [Yb];exact h.2 j
theorem NB.ru (h:NB W B n) (s:Int):NB (W.setCell ⟨B,5,none⟩ (Value.int .i64 s)) B { n with mz:=s }:=by
 have e:∀q,q≠5→(W.setCell ⟨B,5,none⟩ (Value.int .i64 s)).cell? ⟨B,q,none⟩=W.cell? ⟨B,q,none⟩:=fun q hq=>ZG _ _ _ _ (by intro e;injection e with _ e;omega)
 refine ⟨⟨by simpa using h.1.lt,(e 0 (by omega)).trans h.1.c0,(e 1 (by omega)).trans h.1.c1,(e 2 (by omega)).trans h.1.c2,(e 3 (by omega)).trans h.1.c3,(e 4 (by omega)).trans h.1.c4,Ys _ _ _ h.1.c5,(e 6 (by omega)).trans h.1.c6⟩,fun j=>?_⟩;rw [Yb];exact h.2 j
theorem NB.rt (h:NB W B n) (s:Int):NB (W.setCell ⟨B,6,none⟩ (Value.int .i64 s)) B { n with pz:=s }:=by
 have e:∀q,q≠6→(W.setCell ⟨B,6,none⟩ (Value.int .i64 s)).cell? ⟨B,q,none⟩=W.cell? ⟨B,q,none⟩:=fun q hq=>ZG _ _ _ _ (by intro e;injection e with _ e;omega)
 refine ⟨⟨by simpa using h.1.lt,(e 0 (by omega)).trans h.1.c0,(e 1 (by omega)).trans h.1.c1,(e 2 (by omega)).trans h.1.c2,(e 3 (by omega)).trans h.1.c3,(e 4 (by omega)).trans h.1.c4,(e 5 (by omega)).trans h.1.c5,Ys _ _ _ h.1.c6⟩,fun j=>?_⟩;rw [Yb];exact h.2 j
theorem NB.new (w:World) (n:Nd) (t:TypeId):NB (w.alloc (.cells #[.string n.path,.string n.data,.int .i64 n.Ym,.int .i64 n.ZD,.int .i64 n.cz,.int .i64 n.mz,.int .i64 n.pz] t)) w.heap.size n:=⟨UP.new w n t,fun j=>(by go_simp)⟩
theorem RS.new (h:RS w0 w k ys) (hb:ZX w w'):RS w0 w' k ys:=h.keep hb h.2.1
theorem RS.setOther (h:RS w0 w k ys) (hB:k≠B) (h0:w0.heap.size≤B) (i:Nat) (u:Value):RS w0 (w.setCell ⟨B,i,none⟩ u) k ys:=by
 obtain ⟨h1,h2,h3,h4,v,h5,h6⟩:=h;refine ⟨h1,by simpa using h2,by rw [Yb];exact h3,h4.setCell h0 _,v,?_,h6⟩;rw [ZG _ _ _ _ (by intro e;injection e with e;omega)];exact h5
theorem LJ (h:YL ys):wrap64 ((YV (ys.take 4):Nat):Int)=((YV (ys.take 4):Nat):Int):=by
 have hb:=(UN (ys.take 4).length (ys.take 4) rfl (fun x hx=>h x (Vp hx))).2;have h1:256 ^ (ys.take 4).length≤256 ^ 4:=Me (by omega) (by rw [YC];omega);have h2:YV (ys.take 4)<4294967296:=ZB hb h1;unfold wrap64;omega
def Py (n:Nd):Value:=.agg #[.string n.path,.string n.data,.int .i64 n.Ym,.int .i64 n.ZD,.int .i64 n.cz,.int .i64 n.mz,.int .i64 n.pz]
def xn (p d:ByteArray) (a:Nat→Int) (k:Nat):Nd:=⟨p,d,if 0<k then a 0 else 0,if 1<k then a 1 else 0,if 2<k then a 2 else 0,if 3<k then a 3 else 0,if 4<k then a 4 else 0⟩
def tV (w0 w:World) (k:Nat) (ys:List Int) (e:Ending) (w':World):Prop :=
 w.grownBy w' (some k)∧((WM ys=none∧e=.panicked Vt)∨∃n r,WM ys=some (n,r)∧e=.returned (Py n)∧RS w0 w' k r)
theorem Yr (w0 w:World) (k:Nat) (ys:List Int) (h:RS w0 w k ys) (hby:YL ys) :
    Calls Tryz.prog 124 #[.pointer (some ⟨k,0,none⟩)] w fun e w'=>tV w0 w k ys e w':=by
 have hk:=h.2.1;have hk0:=h.1;have Xe:=Z8 hby
 have HS:=Z8 h;clear h hby
 have A1:Hid (RS w0 ((w.alloc (.cells #[.string ⟨#[]⟩,.string ⟨#[]⟩,.int .i64 0,.int .i64 0,.int .i64 0,.int .i64 0,.int .i64 0] 175)).alloc (.cells #[.string ⟨#[]⟩,.string ⟨#[]⟩,.int .i64 0,.int .i64 0,.int .i64 0,.int .i64 0,.int .i64 0] 175)) k ys):=(HS.out.new (ZR.alloc ZW _)).new (ZR.alloc ZW _);have N2:Hid (NB ((w.alloc (.cells #[.string ⟨#[]⟩,.string ⟨#[]⟩,.int .i64 0,.int .i64 0,.int .i64 0,.int .i64 0,.int .i64 0] 175)).alloc (.cells #[.string ⟨#[]⟩,.string ⟨#[]⟩,.int .i64 0,.int .i64 0,.int .i64 0,.int .i64 0,.int .i64 0] 175)) w.heap.size nd0):=(NB.new w nd0 _).turn (Yp _ _ none) (by simp);have N3:Hid (NB ((w.alloc (.cells #[.string ⟨#[]⟩,.string ⟨#[]⟩,.int .i64 0,.int .i64 0,.int .i64 0,.int .i64 0,.int .i64 0] 175)).alloc (.cells #[.string ⟨#[]⟩,.string ⟨#[]⟩,.int .i64 0,.int .i64 0,.int .i64 0,.int .i64 0,.int .i64 0] 175)) (w.heap.size+1) nd0):=by
  have:=NB.new (w.alloc (.cells #[.string ⟨#[]⟩,.string ⟨#[]⟩,.int .i64 0,.int .i64 0,.int .i64 0,.int .i64 0,.int .i64 0] 175)) nd0 175;rw [show (w.alloc (.cells #[.string ⟨#[]⟩,.string ⟨#[]⟩,.int .i64 0,.int .i64 0,.int .i64 0,.int .i64 0,.int .i64 0] 175)).heap.size=w.heap.size+1 by simp] at this;exact this
 have G1:Hid (w.grownBy ((w.alloc (.cells #[.string ⟨#[]⟩,.string ⟨#[]⟩,.int .i64 0,.int .i64 0,.int .i64 0,.int .i64 0,.int .i64 0] 175)).alloc (.cells #[.string ⟨#[]⟩,.string ⟨#[]⟩,.int .i64 0,.int .i64 0,.int .i64 0,.int .i64 0,.int .i64 0] 175)) (some k)):=(Yp _ _ _).trans (Yp _ _ _)
 go_enter Tryz.func124,Tryz.ntmps124
 go_wp2_with fail
 generalize ((w.alloc _).alloc _)=w1 at *;refine (Oz w0 w1 k ys A1.out Xe.out).mono ?_;rintro e w2 ⟨g2,hp⟩
 rcases hp with ⟨hp,rfl⟩ | ⟨p,r1,hp,rfl,hr2⟩
 · exact ⟨rfl,G1.out.trans g2,.inl ⟨by unfold WM;rw [hp],rfl⟩⟩
 have EG:=Z8 hp;have HB1:=Z8 ((Q1 hp Xe.out).1);have G2:=Z8 (G1.out.trans g2);have D:=Z8 (N2.out.turn g2 (by simp;omega));have M:=Z8 (N3.out.turn g2 (by simp;omega));have R2:=Z8 hr2;clear hp g2 hr2 N2 N3 A1 G1;have d0:=M.out.1.c0;have f0:=M.out.2 0;have C:Hid (NB (w2.setCell ⟨w.heap.size+1,0,none⟩ (.string p)) (w.heap.size+1) { nd0 with path:=p }):=M.out.Au p;have Z':Hid (NB (w2.setCell ⟨w.heap.size+1,0,none⟩ (.string p)) w.heap.size nd0):=D.out.other (by omega) _ _;have R3:Hid (RS w0 (w2.setCell ⟨w.heap.size+1,0,none⟩ (.string p)) k r1):=R2.out.setOther (by omega) (by omega) _ _;have G3:Hid (w.grownBy (w2.setCell ⟨w.heap.size+1,0,none⟩ (.string p)) (some k)):=Y9 G2.out (by omega) _ _
 go_wp2_with fail
 clear d0 f0 M D R2 G2;generalize w2.setCell _ _=w3 at *;refine (Oz w0 w3 k r1 R3.out HB1.out).mono ?_;rintro e w4 ⟨g4,hp⟩
 rcases hp with ⟨hp,rfl⟩ | ⟨d,r2,hp,rfl,hr4⟩
 · refine ⟨rfl,G3.out.trans g4,.inl ⟨?_,rfl⟩⟩
   unfold WM;rw [EG.out];simp only;rw [hp]
 have Pr:=Z8 hp;have HB2:=Z8 ((Q1 hp HB1.out).1);have G4:=Z8 (G3.out.trans g4);have Z7:=Z8 (Z'.out.turn g4 (by simp;omega));have J:=Z8 (C.out.turn g4 (by simp;omega));have R4:=Z8 hr4;clear hp g4 hr4 Z' C R3 G3;have d1:=J.out.1.c1;have f1:=J.out.2 1;have Z6:Hid (NB (w4.setCell ⟨w.heap.size+1,1,none⟩ (.string d)) (w.heap.size+1) (xn p d (Yx r2) 0)):=J.out.xt d;have Z5:Hid (NB (w4.setCell ⟨w.heap.size+1,1,none⟩ (.string d)) w.heap.size nd0):=Z7.out.other (by omega) _ _;have R5:Hid (RS w0 (w4.setCell ⟨w.heap.size+1,1,none⟩ (.string d)) k r2):=R4.out.setOther (by omega) (by omega) _ _;have G5:Hid (w.grownBy (w4.setCell ⟨w.heap.size+1,1,none⟩ (.string d)) (some k)):=Y9 G4.out (by omega) _ _
 go_wp2_with fail
 clear d1 f1 J Z7 R4 G4;generalize w4.setCell _ _=w5 at *;refine (DD w5 (w.heap.size+1) 0).mono ?_;rintro e w6 ⟨rfl,b6⟩;have G6:=Z8 (G5.out.trans (grown_of b6 _));have ZN:=Z8 (Z5.out.turn (grown_of b6 none) (by simp));have ZL:=Z8 (Z6.out.turn (grown_of b6 none) (by simp));have R6:Hid (RS w0 w6 k (r2.drop (4*0))):=by show RS _ _ _ _;rw [Nat.mul_zero,Jq];exact R5.out.new b6
 clear b6 Z5 Z6 R5 G5;unfold rZ;go_wp2
 go_loopw [15] (fun vi wr=>∃i:Nat,i≤5∧vi=.int .i64 i∧Hid (4*i≤r2.length)∧Hid (w.grownBy wr (some k))∧Hid (NB wr w.heap.size nd0)∧Hid (NB wr (w.heap.size+1) (xn p d (Yx r2) i))∧Hid (RS w0 wr k (r2.drop (4*i)))) (fun i _=>5 - (intOf i).toNat)
 case atStart=>exact ⟨0,by omega,rfl,ZQ _,G6,ZN,ZL,R6⟩
 case round =>
  obtain ⟨i,hi,rfl,HL,HG,LS,Y,HR⟩:=hrel;have hl:=HL.out
  rcases (show i=0∨i=1∨i=2∨i=3∨i=4∨i=5 by omega) with rfl | rfl | rfl | rfl | rfl | rfl
  · have hix:=fun W=>pO W (w.heap.size+1)
    go_wp2_with fail
    clear hix
    by_cases hlt:4≤r2.length
    rotate_left
    · refine (YD w0 wr k 4 _ HR.out (by rw [Zv];omega)).mono ?_
      rintro e w7 ⟨rfl,rfl⟩;refine ⟨rfl,HG.out,.inl ⟨?_,rfl⟩⟩;unfold WM;rw [EG.out];simp only;rw [Pr.out];simp only;rw [Z3 (by omega)]
    refine (Yj w0 wr k 4 _ HR.out (by rw [Zv];omega) (by omega) (by omega) (Yw HB2.out _)).mono ?_;rintro e w7 ⟨rfl,r7,v7,q7,rfl⟩;rw [LJ (Yw HB2.out _)];have g7:wr.grownBy ((wr.setCell ⟨k,0,none⟩ v7).drewN q7) (some k):=(grownBy_set _ _ _ _ _ (YT _ _)).trans (grown_of (below_drewN' _ q7) _);have X:=Z8 (HG.out.trans g7);have V:=Z8 (LS.out.turn g7 (by simp;omega));have Z:=Z8 (Y.out.turn g7 (by simp;omega));have R7:Hid (RS w0 ((wr.setCell ⟨k,0,none⟩ v7).drewN q7) k (r2.drop (4*1))):=by rw [US] at r7;exact r7
    clear r7 g7 HG LS Y HR HL;generalize (wr.setCell _ _).drewN q7=w7 at *;have d0:=Z.out.1.c2;have f0:=Z.out.2 2;have U:Hid (NB (w7.setCell ⟨w.heap.size+1,2,none⟩ (.int .i64 (Yx r2 0))) (w.heap.size+1) (xn p d (Yx r2) 1)):=Z.out.xr (Yx r2 0);have T:Hid (NB (w7.setCell ⟨w.heap.size+1,2,none⟩ (.int .i64 (Yx r2 0))) w.heap.size nd0):=V.out.other (by omega) _ _;have R8:Hid (RS w0 (w7.setCell ⟨w.heap.size+1,2,none⟩ (.int .i64 (Yx r2 0))) k (r2.drop (4*1))):=R7.out.setOther (by omega) (by omega) _ _;have I:Hid (w.grownBy (w7.setCell ⟨w.heap.size+1,2,none⟩ (.int .i64 (Yx r2 0))) (some k)):=Y9 X.out (by omega) _ _;go_wp2;exact ⟨⟨1,by omega,rfl,by show 4*1≤_;omega,I,T,U,R8⟩,by simp [intOf]⟩
  · have hix:=fun W=>pM W (w.heap.size+1)
    go_wp2_with fail
    clear hix
    by_cases hlt:8≤r2.length
    rotate_left
    · refine (YD w0 wr k 4 _ HR.out (by rw [Zv];omega)).mono ?_
      rintro e w7 ⟨rfl,rfl⟩;refine ⟨rfl,HG.out,.inl ⟨?_,rfl⟩⟩;unfold WM;rw [EG.out];simp only;rw [Pr.out];simp only;rw [Z3 (by omega)]
    refine (Yj w0 wr k 4 _ HR.out (by rw [Zv];omega) (by omega) (by omega) (Yw HB2.out _)).mono ?_;rintro e w7 ⟨rfl,r7,v7,q7,rfl⟩;rw [LJ (Yw HB2.out _)];have g7:wr.grownBy ((wr.setCell ⟨k,0,none⟩ v7).drewN q7) (some k):=(grownBy_set _ _ _ _ _ (YT _ _)).trans (grown_of (below_drewN' _ q7) _);have X:=Z8 (HG.out.trans g7);have V:=Z8 (LS.out.turn g7 (by simp;omega));have Z:=Z8 (Y.out.turn g7 (by simp;omega));have R7:Hid (RS w0 ((wr.setCell ⟨k,0,none⟩ v7).drewN q7) k (r2.drop (4*2))):=by rw [US] at r7;exact r7
    clear r7 g7 HG LS Y HR HL;generalize (wr.setCell _ _).drewN q7=w7 at *;have d0:=Z.out.1.c3;have f0:=Z.out.2 3;have U:Hid (NB (w7.setCell ⟨w.heap.size+1,3,none⟩ (.int .i64 (Yx r2 1))) (w.heap.size+1) (xn p d (Yx r2) 2)):=Z.out.xq (Yx r2 1);have T:Hid (NB (w7.setCell ⟨w.heap.size+1,3,none⟩ (.int .i64 (Yx r2 1))) w.heap.size nd0):=V.out.other (by omega) _ _;have R8:Hid (RS w0 (w7.setCell ⟨w.heap.size+1,3,none⟩ (.int .i64 (Yx r2 1))) k (r2.drop (4*2))):=R7.out.setOther (by omega) (by omega) _ _;have I:Hid (w.grownBy (w7.setCell ⟨w.heap.size+1,3,none⟩ (.int .i64 (Yx r2 1))) (some k)):=Y9 X.out (by omega) _ _;go_wp2;exact ⟨⟨2,by omega,rfl,by show 4*2≤_;omega,I,T,U,R8⟩,by simp [intOf]⟩
  · have hix:=fun W=>pL W (w.heap.size+1)
    go_wp2_with fail
    clear hix
    by_cases hlt:12≤r2.length
    rotate_left
    · refine (YD w0 wr k 4 _ HR.out (by rw [Zv];omega)).mono ?_
      rintro e w7 ⟨rfl,rfl⟩;refine ⟨rfl,HG.out,.inl ⟨?_,rfl⟩⟩;unfold WM;rw [EG.out];simp only;rw [Pr.out];simp only;rw [Z3 (by omega)]
    refine (Yj w0 wr k 4 _ HR.out (by rw [Zv];omega) (by omega) (by omega) (Yw HB2.out _)).mono ?_;rintro e w7 ⟨rfl,r7,v7,q7,rfl⟩;rw [LJ (Yw HB2.out _)];have g7:wr.grownBy ((wr.setCell ⟨k,0,none⟩ v7).drewN q7) (some k):=(grownBy_set _ _ _ _ _ (YT _ _)).trans (grown_of (below_drewN' _ q7) _);have X:=Z8 (HG.out.trans g7);have V:=Z8 (LS.out.turn g7 (by simp;omega));have Z:=Z8 (Y.out.turn g7 (by simp;omega));have R7:Hid (RS w0 ((wr.setCell ⟨k,0,none⟩ v7).drewN q7) k (r2.drop (4*3))):=by rw [US] at r7;exact r7
    clear r7 g7 HG LS Y HR HL;generalize (wr.setCell _ _).drewN q7=w7 at *;have d0:=Z.out.1.c4;have f0:=Z.out.2 4;have U:Hid (NB (w7.setCell ⟨w.heap.size+1,4,none⟩ (.int .i64 (Yx r2 2))) (w.heap.size+1) (xn p d (Yx r2) 3)):=Z.out.xp (Yx r2 2);have T:Hid (NB (w7.setCell ⟨w.heap.size+1,4,none⟩ (.int .i64 (Yx r2 2))) w.heap.size nd0):=V.out.other (by omega) _ _;have R8:Hid (RS w0 (w7.setCell ⟨w.heap.size+1,4,none⟩ (.int .i64 (Yx r2 2))) k (r2.drop (4*3))):=R7.out.setOther (by omega) (by omega) _ _;have I:Hid (w.grownBy (w7.setCell ⟨w.heap.size+1,4,none⟩ (.int .i64 (Yx r2 2))) (some k)):=Y9 X.out (by omega) _ _;go_wp2;exact ⟨⟨3,by omega,rfl,by show 4*3≤_;omega,I,T,U,R8⟩,by simp [intOf]⟩
  · have hix:=fun W=>pK W (w.heap.size+1)
    go_wp2_with fail
    clear hix
    by_cases hlt:16≤r2.length
    rotate_left
    · refine (YD w0 wr k 4 _ HR.out (by rw [Zv];omega)).mono ?_
      rintro e w7 ⟨rfl,rfl⟩;refine ⟨rfl,HG.out,.inl ⟨?_,rfl⟩⟩;unfold WM;rw [EG.out];simp only;rw [Pr.out];simp only;rw [Z3 (by omega)]
    refine (Yj w0 wr k 4 _ HR.out (by rw [Zv];omega) (by omega) (by omega) (Yw HB2.out _)).mono ?_;rintro e w7 ⟨rfl,r7,v7,q7,rfl⟩;rw [LJ (Yw HB2.out _)];have g7:wr.grownBy ((wr.setCell ⟨k,0,none⟩ v7).drewN q7) (some k):=(grownBy_set _ _ _ _ _ (YT _ _)).trans (grown_of (below_drewN' _ q7) _);have X:=Z8 (HG.out.trans g7);have V:=Z8 (LS.out.turn g7 (by simp;omega));have Z:=Z8 (Y.out.turn g7 (by simp;omega));have R7:Hid (RS w0 ((wr.setCell ⟨k,0,none⟩ v7).drewN q7) k (r2.drop (4*4))):=by rw [US] at r7;exact r7
    clear r7 g7 HG LS Y HR HL;generalize (wr.setCell _ _).drewN q7=w7 at *;have d0:=Z.out.1.c5;have f0:=Z.out.2 5;have U:Hid (NB (w7.setCell ⟨w.heap.size+1,5,none⟩ (.int .i64 (Yx r2 3))) (w.heap.size+1) (xn p d (Yx r2) 4)):=Z.out.ru (Yx r2 3);have T:Hid (NB (w7.setCell ⟨w.heap.size+1,5,none⟩ (.int .i64 (Yx r2 3))) w.heap.size nd0):=V.out.other (by omega) _ _;have R8:Hid (RS w0 (w7.setCell ⟨w.heap.size+1,5,none⟩ (.int .i64 (Yx r2 3))) k (r2.drop (4*4))):=R7.out.setOther (by omega) (by omega) _ _;have I:Hid (w.grownBy (w7.setCell ⟨w.heap.size+1,5,none⟩ (.int .i64 (Yx r2 3))) (some k)):=Y9 X.out (by omega) _ _;go_wp2;exact ⟨⟨4,by omega,rfl,by show 4*4≤_;omega,I,T,U,R8⟩,by simp [intOf]⟩
  · have hix:=fun W=>pJ W (w.heap.size+1)
    go_wp2_with fail
    clear hix
    by_cases hlt:20≤r2.length
    rotate_left
    · refine (YD w0 wr k 4 _ HR.out (by rw [Zv];omega)).mono ?_
      rintro e w7 ⟨rfl,rfl⟩;refine ⟨rfl,HG.out,.inl ⟨?_,rfl⟩⟩;unfold WM;rw [EG.out];simp only;rw [Pr.out];simp only;rw [Z3 (by omega)]
    refine (Yj w0 wr k 4 _ HR.out (by rw [Zv];omega) (by omega) (by omega) (Yw HB2.out _)).mono ?_;rintro e w7 ⟨rfl,r7,v7,q7,rfl⟩;rw [LJ (Yw HB2.out _)];have g7:wr.grownBy ((wr.setCell ⟨k,0,none⟩ v7).drewN q7) (some k):=(grownBy_set _ _ _ _ _ (YT _ _)).trans (grown_of (below_drewN' _ q7) _);have X:=Z8 (HG.out.trans g7);have V:=Z8 (LS.out.turn g7 (by simp;omega));have Z:=Z8 (Y.out.turn g7 (by simp;omega));have R7:Hid (RS w0 ((wr.setCell ⟨k,0,none⟩ v7).drewN q7) k (r2.drop (4*5))):=by rw [US] at r7;exact r7
    clear r7 g7 HG LS Y HR HL;generalize (wr.setCell _ _).drewN q7=w7 at *;have d0:=Z.out.1.c6;have f0:=Z.out.2 6;have U:Hid (NB (w7.setCell ⟨w.heap.size+1,6,none⟩ (.int .i64 (Yx r2 4))) (w.heap.size+1) (xn p d (Yx r2) 5)):=Z.out.rt (Yx r2 4);have T:Hid (NB (w7.setCell ⟨w.heap.size+1,6,none⟩ (.int .i64 (Yx r2 4))) w.heap.size nd0):=V.out.other (by omega) _ _;have R8:Hid (RS w0 (w7.setCell ⟨w.heap.size+1,6,none⟩ (.int .i64 (Yx r2 4))) k (r2.drop (4*5))):=R7.out.setOther (by omega) (by omega) _ _;have I:Hid (w.grownBy (w7.setCell ⟨w.heap.size+1,6,none⟩ (.int .i64 (Yx r2 4))) (some k)):=Y9 X.out (by omega) _ _;go_wp2;exact ⟨⟨5,by omega,rfl,by show 4*5≤_;omega,I,T,U,R8⟩,by simp [intOf]⟩
  obtain ⟨⟨-,y0,y1,y2,y3,y4,y5,y6⟩,-⟩:=Y.out;obtain ⟨⟨-,x0,x1,x2,x3,x4,x5,x6⟩,xf⟩:=LS.out;have Z2:20≤r2.length:=by omega
  have Ua:Hid (WM ys=some (xn p d (Yx r2) 5,r2.drop 20)):=by
   show _=_;unfold WM;rw [EG.out];simp only;rw [Pr.out];simp only;rw [ZY Z2]
   rfl
  obtain ⟨nn,hnn⟩:∃nn,nn=xn p d (Yx r2) 5:=⟨_,rfl⟩;rw [←hnn] at y0 y1 y2 y3 y4 y5 y6 Ua;clear hnn;go_wp2;refine ZT (v:=Py nn) (by simp [results,Tryz.results124,go_sem,Py,x0,x1,x2,x3,x4,x5,x6]) rfl ⟨?_,.inr ⟨nn,r2.drop 20,Ua.out,rfl,?_⟩⟩
  · iterate 7 refine Y9 ?_ ZW _ _
    exact HG.out
  iterate 7 refine RS.setOther ?_ (by omega) (by omega) _ _
  exact HR.out
theorem Gk (W:World) (v:Value):(Instr.typeAssert (.iface 185 v) 20 185 true).run Tryz.prog W=.ok (.tuple #[v,.bool true]) W:=by kernel_rfl
theorem K4 (w:World):Calls Tryz.prog 118 #[.nilIface] w fun e w'=>e=.returned (.tuple #[])∧w'=w:=by
 go_enter Tryz.func118,Tryz.ntmps118
 go_wp2;exact ZT (TG rfl _ _ _) rfl ⟨rfl,rfl⟩
theorem KX (w:World):Calls Tryz.prog 118 #[.iface 185 (.agg #[])] w (Ze w (.tuple #[])):=by
 have ha:∀(W:World) (v:Value),(Instr.typeAssert (.iface 185 v) 20 185 true).run Tryz.prog W=.ok (.tuple #[v,.bool true]) W:=fun W v=>Gk W v
 go_enter Tryz.func118,Tryz.ntmps118
 go_wp2
 go_end0
 exact ⟨rfl,ZR.alloc ZW _⟩
theorem VJ (older:List PanicEntry) (w:World) :
    CallsD Tryz.prog 122 #[] (.panicking ({ v:=.iface 185 (.agg #[]),recovered:=false } :: older)) w fun e u' w' =>
     e=.returned (.tuple #[])∧u'=.panicking ({ v:=.iface 185 (.agg #[]),recovered:=true } :: older)∧ZX w w':=by
 refine L4 Tryz.func122 rfl fun c₀ cs hu=>?_
 apply LU
 simp [wpOpsS,go_sem,recoverD,hu,Tryz.ntmps122]
 refine (KX w).mono ?_;rintro e w' ⟨rfl,bw⟩
 simp_all [bodyPostS,results,Tryz.results122]
theorem PQ (w:World) :
    CallsD Tryz.prog 122 #[] .returning w fun e u' w'=>e=.returned (.tuple #[])∧u'=.returning∧w'=w:=by
 refine L4 Tryz.func122 rfl fun c₀ cs hu=>?_
 apply LU
 simp [wpOpsS,go_sem,recoverD,hu,Tryz.ntmps122]
 refine (K4 w).mono ?_;rintro e w' ⟨rfl,rfl⟩
 cases c₀
 simp_all [bodyPostS,results,Tryz.results122]
theorem RO (older:List PanicEntry) (w:World) :
    CallsD Tryz.prog 142 #[] (.panicking ({ v:=.iface 185 (.agg #[]),recovered:=false } :: older)) w fun e u' w' =>
     e=.returned (.tuple #[])∧u'=.panicking ({ v:=.iface 185 (.agg #[]),recovered:=true } :: older)∧ZX w w':=by
 refine L4 Tryz.func142 rfl fun c₀ cs hu=>?_
 apply LU
 simp [wpOpsS,go_sem,recoverD,hu,Tryz.ntmps142]
 refine (KX w).mono ?_;rintro e w' ⟨rfl,bw⟩
 simp_all [bodyPostS,results,Tryz.results142]
theorem Tx (w:World) :
    CallsD Tryz.prog 142 #[] .returning w fun e u' w'=>e=.returned (.tuple #[])∧u'=.returning∧w'=w:=by
 refine L4 Tryz.func142 rfl fun c₀ cs hu=>?_
 apply LU
 simp [wpOpsS,go_sem,recoverD,hu,Tryz.ntmps142]
 refine (K4 w).mono ?_;rintro e w' ⟨rfl,rfl⟩
 cases c₀
 simp_all [bodyPostS,results,Tryz.results142]
end Go.Proofs.YtmmmffcbfepghaaGreatDoor


