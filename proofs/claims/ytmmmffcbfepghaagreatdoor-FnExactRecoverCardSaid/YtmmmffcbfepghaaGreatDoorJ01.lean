import Derived.OrdersHeld
import Derived.WalkKit
import Derived.ProofKit
import Derived.OpenShut
import Derived.Handy
import Derived.Carry
import Derived.WalkSpells
import Derived.WalkSmall
import Derived.Deep.RegionHeld
import Derived.Test.YtmmmffcbfepghaaGreatDoorChecked
import Derived.Deep.QuietTactic
import Derived.BigQuiet
import Derived.Laws.BytesArg
import Derived.Lib.Bytealg
import Derived.Laws.Externs
import Derived.Lib.IndexLaws
import Derived.RangeFuncNested
import Derived.RangeFuncLeaves
import Derived.Shelf.Abstract
import Derived.OwnWalkIn
import Derived.TacticsInMore
import Derived.LoopNIn
import Derived.LoopIn
import Derived.RangeFuncBox
import Derived.Deep.RegionWith
set_option maxRecDepth 100000
set_option maxHeartbeats 16000000
set_option linter.unusedVariables false
set_option linter.unusedSimpArgs false
namespace Go.Proofs.YtmmmffcbfepghaaGreatDoor
open Go.RowKit Go.Shelf
variable {a:Act} {listed:Array Bool} {ops:Array Oper} {s:ByteArray} {k:IntKind} {R rs:List (List UInt8)} {xs ys:List Int} {B b base cap fuel g i j lo lo' m n p:Nat} {oi:Oper} {P:Program} {e:TypeId} {v:Value} {X Y w w':World}
abbrev GM:=@Go.Addr.add_lit
abbrev uC:=@Go.Addr.mk.injEq
abbrev rQ:=@Go.AllReadyH.cons
abbrev qg:=@Array.length_toList
abbrev DV:=@Array.replicate_succ
abbrev DU:=@Array.replicate_zero
abbrev xO:=@Go.RowKit.Below.alloc
abbrev sj:=@Go.RowKit.Below.heap_alloc
abbrev Mh:=@Go.RowKit.Below.heap_setCell
abbrev yj:=@Go.RowKit.Below.refl
abbrev Zf:=@Go.RowKit.Below.setCell
abbrev xN:=@BitVec.toNat_ofInt
abbrev Yg:=@Bool.and_eq_true
abbrev Js:=@Bool.and_false
abbrev Bu:=@Bool.eq_iff_iff
abbrev Pe:=@Bool.false_eq_true
abbrev xM:=@Bool.not_eq_true
abbrev Jr:=@Bool.or_eq_true
abbrev Bq:=@Bool.true_and
abbrev rP:=@ByteArray.data_extract
abbrev SC:=@Go.ByteArray.toList_eq
abbrev uB:=@Go.DataW.trod_int
abbrev XT:=@Int.toNat_natCast
abbrev Xf:=@Go.IntKind.wrap_i64
abbrev xL:=@Go.IntKind.wrap_u16
abbrev uA:=@Go.IntWalk.wrap64_in
abbrev rO:=@List.Pairwise.sublist
abbrev uz:=@List.all_cons
abbrev xK:=@List.all_eq_false
abbrev Pz:=@List.all_eq_true
abbrev R9:=@List.append_assoc
abbrev Sz:=@List.append_nil
abbrev Qz:=@List.append_toArray
abbrev Qy:=@List.cons_append
abbrev US:=@List.drop_drop
abbrev GE:=@List.drop_eq_getElem_cons
abbrev Qx:=@List.drop_eq_nil_of_le
abbrev Jq:=@List.drop_zero
abbrev Vj:=@List.eq_nil_of_length_eq_zero
abbrev rN:=@List.eq_of_mem_replicate
abbrev xJ:=@List.ext_getElem
abbrev Lr:=@List.ext_getElem?
abbrev rM:=@List.extract_eq_take_drop
abbrev uy:=@List.filter_append
abbrev ux:=@List.filter_cons
abbrev uw:=@List.filter_eq_self
abbrev GD:=@List.foldl_append
abbrev GC:=@List.foldl_cons
abbrev DT:=@List.getD_eq_getElem?_getD
abbrev Qw:=@List.getElem?_append_left
abbrev Nb:=@List.getElem?_append_right
abbrev xI:=@List.getElem?_cons_succ
abbrev Pd:=@List.getElem?_drop
abbrev VM:=@List.getElem?_eq_getElem
abbrev Sy:=@List.getElem?_eq_none
abbrev uv:=@List.getElem?_map
abbrev Gz:=@List.getElem?_set
abbrev DR:=@List.getElem?_set_ne
abbrev rL:=@List.getElem?_set_self
abbrev uu:=@List.getElem?_take
abbrev Sx:=@List.getElem?_take_of_lt
abbrev Na:=@List.getElem_mem
abbrev ur:=@List.getElem_of_mem
abbrev YE:=@List.length_append
abbrev XQ:=@List.length_cons
abbrev Zv:=@List.length_drop
abbrev Vi:=@List.length_map
abbrev Wv:=@List.length_nil
abbrev Gy:=@List.length_replicate
abbrev xH:=@List.length_set
abbrev YC:=@List.length_take
abbrev WX:=@List.map_append
abbrev Pc:=@List.map_cons
abbrev DQ:=@List.map_nil
abbrev xG:=@List.map_replicate
abbrev DP:=@List.map_take
abbrev Sw:=@List.mem_append
abbrev MZ:=@List.mem_cons
abbrev Jp:=@List.mem_cons_of_mem
abbrev uq:=@List.mem_cons_self
abbrev uo:=@List.mem_nil_iff
abbrev Wf:=@List.mem_of_mem_drop
abbrev Vp:=@List.mem_of_mem_take
abbrev RZ:=@List.mem_range
abbrev un:=@List.mem_singleton
abbrev TJ:=@List.nil_append
abbrev Qv:=@List.push_toArray
abbrev xF:=@List.range_succ
abbrev um:=@List.replicate_succ'
abbrev rK:=@List.set_append_right
abbrev WW:=@List.size_toArray
abbrev xE:=@List.sum_append
abbrev Bp:=@List.sum_cons
abbrev uk:=@List.takeWhile_cons
abbrev uj:=@List.take_add_one
abbrev DO:=@List.take_append_drop
abbrev ui:=@List.take_length
abbrev We:=@List.take_of_length_le
abbrev Rm:=@List.take_succ_eq_append_getElem
abbrev uh:=@List.take_take
abbrev Rl:=@List.take_zero
abbrev Bn:=@List.toList_toArray
abbrev TI:=@Nat.add_assoc
abbrev Bm:=@Nat.add_comm
abbrev vC:=@Nat.add_mul_div_right
abbrev Mg:=@Nat.add_zero
abbrev Mf:=@Nat.div_div_eq_div_mul
abbrev Bl:=@Nat.div_le_self
abbrev Bj:=@Nat.div_mul_le_self
abbrev P7:=@Nat.le_of_lt
abbrev Bi:=@Nat.le_of_not_lt
abbrev Fc:=@Nat.le_refl
abbrev Pb:=@Nat.le_succ
abbrev ZP:=@Nat.le_trans
abbrev Sp:=@Nat.lt_of_le_of_lt
abbrev ZB:=@Nat.lt_of_lt_of_le
abbrev P6:=@Nat.lt_succ_self
abbrev So:=@Nat.min_eq_left
abbrev Bh:=@Nat.mod_eq_of_lt
abbrev Rk:=@Nat.mod_lt
abbrev Fb:=@Nat.mod_mod_of_dvd
abbrev vB:=@Nat.mod_mul_right_div_self
abbrev Bg:=@Nat.mod_two_eq_zero_or_one
abbrev Bf:=@Nat.mul_assoc
abbrev Fa:=@Nat.mul_comm
abbrev Bc:=@Nat.mul_mod_mul_right
abbrev Jo:=@Nat.mul_one
abbrev Bb:=@Nat.mul_succ
abbrev Jn:=@Nat.not_lt_zero
abbrev P5:=@Nat.pow_add
abbrev Me:=@Nat.pow_le_pow_right
abbrev Rj:=@Nat.pow_succ
abbrev Jm:=@Nat.sub_self
abbrev Pa:=@Nat.xor_assoc
abbrev A9:=@Nat.xor_comm
abbrev Jl:=@Nat.xor_zero
abbrev Wn:=@Nat.zero_add
abbrev ZQ:=@Nat.zero_le
abbrev E9:=@Nat.zero_mul
abbrev Uf:=@Go.Oper.semAt_some
abbrev OY:=@Option.getD_some
abbrev UR:=@Option.some.inj
abbrev Xu:=@Option.some.injEq
abbrev E8:=@Prod.mk.inj
abbrev Mc:=@Prod.mk.injEq
abbrev Jk:=@Go.Result.andThen_ok
abbrev Jj:=@Go.Sem.run_bind
abbrev A8:=@UInt8.le_antisymm
abbrev Ji:=@UInt8.lt_irrefl
abbrev Zc:=@Go.Value.slice.injEq
abbrev A7:=@Go.World.block_lt_of_cell?
abbrev YI:=@Go.World.cell?_of_block
abbrev ZG:=@Go.World.cell?_setCell_other
abbrev Ys:=@Go.World.cell?_setCell_same
abbrev vA:=@Go.World.cell?_setCells_out
abbrev Ue:=@Go.World.frozen?_of_block
abbrev Yb:=@Go.World.frozen?_setCell
abbrev YT:=@Go.World.grownBy.refl
abbrev P4:=@Go.World.grownBy.trans
abbrev Ri:=@Go.World.grownBy_alloc
abbrev Ud:=@Go.World.ownsRow.alloc
abbrev U0:=@Go.World.ownsRow.cellAt
abbrev Va:=@Go.World.ownsRow.cells
abbrev Rh:=@Go.World.ownsRow.frozenAt
abbrev Yy:=@Go.World.ownsRow.kept
abbrev ZO:=@Go.World.ownsRow.lt
abbrev OV:=@Go.World.ownsRow.stored
abbrev Xb:=@Go.World.ownsRow_lit
abbrev Yf:=@Go.World.ownsRow_nil
abbrev Ma:=@Go.World.rangeAt_alloc
abbrev E7:=@Go.World.rangeAt_drew
abbrev Jh:=@Go.World.rangeAt_setCells_same
abbrev XE:=@Go.World.size_alloc
abbrev Sn:=@Go.all_oneCell_toArray
abbrev Xz:=@beq_eq_false_iff_ne
abbrev EY:=@beq_false_of_ne
abbrev Vn:=@beq_iff_eq
abbrev L8:=@bne_eq_false_iff_eq
abbrev Rg:=@bne_iff_ne
abbrev ZT:=@Go.bodyPost_ret
abbrev L4:=@Go.callsD_of_wpS
abbrev Rf:=@Go.callsIn_of_wp
abbrev Xq:=@Go.callsIn_wide
abbrev Re:=@Go.cell_of_row
abbrev Vy:=@Go.cell_one_new
abbrev Jg:=@Go.cell_two_new
abbrev Wd:=@congrArg
abbrev A6:=@decide_eq_decide
abbrev Zl:=@decide_eq_false
abbrev Rc:=@decide_eq_false_iff_not
abbrev YS:=@decide_eq_true
abbrev Zg:=@decide_eq_true_eq
abbrev WJ:=@Go.heap_alloc_new
abbrev Sm:=@if_false
abbrev Z3:=@if_neg
abbrev ZY:=@if_pos
abbrev Rb:=@if_true
abbrev YH:=@Go.info_parts
abbrev Wc:=@Go.ints_oneCell
abbrev WH:=@Go.leaves_cons
abbrev EV:=@of_decide_eq_true
abbrev LY:=@Go.RowKit.ownsRow_setCell_below
abbrev TG:=@Go.results_none
abbrev Jf:=@Go.run_underlying
abbrev A5:=@Go.trodAll_cons_mk
abbrev ZM:=@Go.wpAnyH_done
abbrev Je:=@Go.wpList_append_fits
abbrev XS:=@Go.wpList_append_own
abbrev Wb:=@Go.wpList_load_mid
abbrev vz:=@Go.wpList_lookup_own_ok_int
abbrev EU:=@Go.wpList_make_full
abbrev LW:=@Go.wpList_make_own
abbrev A4:=@Go.wpList_store_mid
abbrev LU:=@Go.wpS_region
abbrev ZF:=@Go.wp_region_held_drew
abbrev Vm:=@Go.wp_seq_k
abbrev ET:=@Go.yieldsIf_load_mid
def Rd (k:IntKind) (w:World) (v:Value) (xs:List Int):Prop :=
 ∃ao cap,v=.slice ao xs.length cap∧xs.length≤cap∧cap≤maxLen ∧
  (xs=[]∨∃b off,ao=some ⟨b,off,none⟩∧b<w.heap.size∧∀i,i<xs.length→w.cell? ⟨b,off+i,none⟩=some (.int k (xs.getD i 0)))
def Own (k:IntKind) (e:TypeId) (w:World) (base:Nat) (v:Value) (xs:List Int):Prop :=
 w.ownsRow base e 1 v xs.length (xs.map (Value.int k))
theorem Own.rd (h:Own k e w base v xs):Rd k w v xs:=by
 rcases h.2 with ⟨rfl,h0⟩ | ⟨g,cap,cur,rfl,hb,hg,hn,hm,hs,ht⟩
 · have:xs=[]:=Vj h0
   subst this;exact ⟨none,0,rfl,Fc _,ZQ _,.inl rfl⟩
 · refine ⟨_,cap,rfl,hn,hm,.inr ⟨g,0,rfl,(Array.getElem?_eq_some_iff.1 hg).1,fun i hi=>?_⟩⟩
   have h1:=Va h (g:=g) rfl i (.int k (xs.getD i 0)) (by simp [List.getD,hi]);rw [GM] at h1;exact h1
theorem Own.below (h:Own k e w base v xs) (hb:Below w.heap.size w w'):Own k e w' base v xs:=by
 refine ⟨h.1,?_⟩
 rcases h.2 with hn | ⟨g,cap,cur,rfl,hbg,hgg,rest⟩
 · exact .inl hn
 · exact .inr ⟨g,cap,cur,rfl,hbg,by rw [hb.block g (Array.getElem?_eq_some_iff.1 hgg).1];exact hgg,rest⟩
theorem Own.mono {base':Nat} (h:Own k e w base v xs) (hb:base'≤base):Own k e w base' v xs:=by
 refine ⟨h.1,?_⟩
 rcases h.2 with hn | ⟨g,cap,cur,rfl,hbg,rest⟩
 · exact .inl hn
 · exact .inr ⟨g,cap,cur,rfl,by omega,rest⟩
theorem Rd.below (h:Rd k w v xs) (hb:Below w.heap.size w w'):Rd k w' v xs:=by
 obtain ⟨ao,cap,rfl,h1,h2,h3⟩:=h;refine ⟨ao,cap,rfl,h1,h2,?_⟩
 rcases h3 with h3 | ⟨b,off,rfl,hlt,hc⟩
 · exact .inl h3
 · exact .inr ⟨b,off,rfl,ZB hlt hb.size,fun i hi=>by rw [hb.cell (p:=⟨b,off+i,none⟩) hlt];exact hc i hi⟩
theorem Rd.drewN (h:Rd k w v xs) (n:Nat):Rd k (w.drewN n) v xs:=h.below ⟨rfl,rfl,rfl,Fc _,fun _ _=>rfl⟩
theorem Own.drewN (h:Own k e w base v xs) (n:Nat):Own k e (w.drewN n) base v xs:=h
theorem below_drewN' (w:World) (n:Nat):Below w.heap.size w (w.drewN n):=⟨rfl,rfl,rfl,Fc _,fun _ _=>rfl⟩
theorem Own.other {row:Option Nat} (h:Own k e w base v xs) (hg:w.grownBy w' row) (hne:v.ownBlock=none∨v.ownBlock≠row):Own k e w' base v xs :=
 Yy h hg hne
theorem Own.lt (h:Own k e w base v xs):∀g,v.ownBlock=some g→base≤g∧g<w.heap.size:=ZO h
theorem Rd.len (h:Rd k w v xs):∃ao cap,v=.slice ao xs.length cap∧xs.length≤cap∧cap≤maxLen:=by
 obtain ⟨ao,cap,h0,h1,h2,_⟩:=h;exact ⟨ao,cap,h0,h1,h2⟩
theorem Z8 {p:Prop} (h:p):Hid p:=h
theorem Zk {α:Type} (l:List α) (i:Nat) (a:α):l.toArray.setIfInBounds i a=(l.set i a).toArray:=List.setIfInBounds_toArray ..
theorem Zj {α:Type} (a b:α) (l:List α):(a :: l).set 0 b=b :: l:=rfl
theorem Zi {α:Type} (a b:α) (l:List α) (n:Nat):(a :: l).set (n+1) b=a :: l.set n b:=rfl
theorem si {md:Region.Mode} {Q:Exit→Act→World→Prop} {S:World→Prop} (hi:ops[i]?=some oi)
    (hb:(Region.noSelect ops && (Region.free md ops listed i && (Region.ready md ops listed).contains i))=true)
    (hQ:∀c a w,Q (.panic c) (a.put oi.dst v) w→Q (.panic c) a w) (hy:YieldsIf P ops S oi v a) (hS:S w)
    (h:wpAnyH P md ops Q S fuel (listed.setIfInBounds i true) (a.put oi.dst v) w):wpAnyH P md ops Q S (fuel+1) listed a w:=by
 simp only [Yg] at hb
 exact wpAnyH_take hi hb.1 hb.2.1 hb.2.2 hQ hy hS h
theorem pX {md:Region.Mode} {Q:Exit→Act→World→Prop} {S:World→Prop} (hi:ops[i]?=some oi)
    (hb:(Region.noSelect ops && (Region.free md ops listed i && (Region.ready md ops listed).contains i))=true)
    (hQ:∀c a w,Q (.panic c) (a.put oi.dst v) w→Q (.panic c) a w) (hw:Region.wanted oi (yielded ops a.tmps)=true) (hS:S w) (hy:∀w,S w→(execOp a.eval oi).run P w=.ok (.value v) w)
    (h:wpAnyH P md ops Q S fuel (listed.setIfInBounds i true) (a.put oi.dst v) w):wpAnyH P md ops Q S (fuel+1) listed a w:=si hi hb hQ (Or.inl ⟨hw,hy⟩) hS h
theorem pW {md:Region.Mode} {Q:Exit→Act→World→Prop} {S:World→Prop} (hi:ops[i]?=some oi)
    (hb:(Region.noSelect ops && (Region.free md ops listed i && (Region.ready md ops listed).contains i))=true)
    (hQ:∀c a w,Q (.panic c) (a.put oi.dst undef) w→Q (.panic c) a w) (hw:Region.wanted oi (yielded ops a.tmps)=false) (hS:S w)
    (h:wpAnyH P md ops Q S fuel (listed.setIfInBounds i true) (a.put oi.dst undef) w):wpAnyH P md ops Q S (fuel+1) listed a w:=si hi hb hQ (Or.inr ⟨hw,rfl⟩) hS h
section
variable {P:Program} {md:Region.Mode} {ops:Array Oper} {Q:Exit→Act→World→Prop} {S:World→Prop} {fuel:Nat} {listed:Array Bool} {a:Act} {w:World} {d:Option Nat} {op:Op} {ty:TypeId} {ps:String} {U:Array Edge} {T:Option (Nat × Bool)} {os:List Oper}
theorem ZA (i:Nat) (v:Value) (hi:ops[i]?=some ⟨d,op,ty,ps,U,T⟩) (hb:((Region.noSelect ops && (Region.free md ops listed i && (Region.ready md ops listed).contains i)) && (Region.wanted ⟨d,op,ty,ps,U,T⟩ (yielded ops a.tmps) == true))=true) (hQ:∀p:List PanicEntry × Act × World,Q (.panic p.1) (p.2.1.put d v) p.2.2→Q (.panic p.1) p.2.1 p.2.2) (hS:S w) (hy:∀w,S w→(execOp a.eval ⟨d,op,ty,ps,U,T⟩).run P w=.ok (.value v) w) (h:wpAnyH P md ops Q S fuel (listed.setIfInBounds i true) (a.put d v) w):wpAnyH P md ops Q S (fuel+1) listed a w:=pX hi (Bool.and_eq_true_iff.1 hb).1 (fun c a w h=>hQ (c,a,w) h) (Vn.1 (Bool.and_eq_true_iff.1 hb).2) hS hy h
theorem ZV (v:Value) (hb:(ops[ops.size - (os.length+1)]?,((Region.noSelect ops && (Region.free md ops listed (ops.size - (os.length+1)) && (Region.ready md ops listed).contains (ops.size - (os.length+1)))) && (Region.wanted ⟨d,op,ty,ps,U,T⟩ (yielded ops a.tmps) == true)))=(some ⟨d,op,ty,ps,U,T⟩,true)) (hQ:∀p:List PanicEntry × Act × World,Q (.panic p.1) (p.2.1.put d v) p.2.2→Q (.panic p.1) p.2.1 p.2.2) (hS:S w) (hy:∀w,S w→(execOp a.eval ⟨d,op,ty,ps,U,T⟩).run P w=.ok (.value v) w) (h:wpAnyH P md ops Q S os.length (listed.setIfInBounds (ops.size - (os.length+1)) true) (a.put d v) w):wpAnyH P md ops Q S (⟨d,op,ty,ps,U,T⟩ :: os).length listed a w:=ZA _ v (E8 hb).1 (E8 hb).2 hQ hS hy h
theorem pV (i:Nat) (hi:ops[i]?=some ⟨d,op,ty,ps,U,T⟩) (hb:((Region.noSelect ops && (Region.free md ops listed i && (Region.ready md ops listed).contains i)) && (Region.wanted ⟨d,op,ty,ps,U,T⟩ (yielded ops a.tmps) == false))=true) (hQ:∀p:List PanicEntry × Act × World,Q (.panic p.1) (p.2.1.put d undef) p.2.2→Q (.panic p.1) p.2.1 p.2.2) (hS:S w) (h:wpAnyH P md ops Q S fuel (listed.setIfInBounds i true) (a.put d undef) w):wpAnyH P md ops Q S (fuel+1) listed a w:=pW hi (Bool.and_eq_true_iff.1 hb).1 (fun c a w h=>hQ (c,a,w) h) (Vn.1 (Bool.and_eq_true_iff.1 hb).2) hS h
theorem TU (hb:(ops[ops.size - (os.length+1)]?,((Region.noSelect ops && (Region.free md ops listed (ops.size - (os.length+1)) && (Region.ready md ops listed).contains (ops.size - (os.length+1)))) && (Region.wanted ⟨d,op,ty,ps,U,T⟩ (yielded ops a.tmps) == false)))=(some ⟨d,op,ty,ps,U,T⟩,true)) (hQ:∀p:List PanicEntry × Act × World,Q (.panic p.1) (p.2.1.put d undef) p.2.2→Q (.panic p.1) p.2.1 p.2.2) (hS:S w) (h:wpAnyH P md ops Q S os.length (listed.setIfInBounds (ops.size - (os.length+1)) true) (a.put d undef) w):wpAnyH P md ops Q S (⟨d,op,ty,ps,U,T⟩ :: os).length listed a w:=pV _ (E8 hb).1 (E8 hb).2 hQ hS h
theorem ZS (i:Nat) (ho:ops[i]?=some ⟨d,op,ty,ps,U,T⟩) (hr:Region.ready md ops listed=[i]) (h:∀K':Act→World→Prop,Shut (∀a w,S w→(S w→wpAnyH P md ops Q S fuel (listed.setIfInBounds i true) a w)→K' a w)→if Region.wanted ⟨d,op,ty,ps,U,T⟩ (yielded ops a.tmps)=true then Oper.wp P ⟨d,op,ty,ps,U,T⟩ a w K' Q else K' (a.put d undef) w):wpAnyH P md ops Q S (fuel+1) listed a w:=wpAnyH_ready hr (by simp) (rQ ho h AllReadyH.nil)
theorem Wu (i j:Nat) {d2:Option Nat} {Z7:Op} {Z6:TypeId} {ps2:String} {Z5:Array Edge} {Z4:Option (Nat × Bool)} (ho:ops[i]?=some ⟨d,op,ty,ps,U,T⟩) (ho2:ops[j]?=some ⟨d2,Z7,Z6,ps2,Z5,Z4⟩) (hr:Region.ready md ops listed=[i,j]) (h:∀K':Act→World→Prop,Shut (∀a w,S w→(S w→wpAnyH P md ops Q S fuel (listed.setIfInBounds i true) a w)→K' a w)→if Region.wanted ⟨d,op,ty,ps,U,T⟩ (yielded ops a.tmps)=true then Oper.wp P ⟨d,op,ty,ps,U,T⟩ a w K' Q else K' (a.put d undef) w) (h2:∀K':Act→World→Prop,Shut (∀a w,S w→(S w→wpAnyH P md ops Q S fuel (listed.setIfInBounds j true) a w)→K' a w)→if Region.wanted ⟨d2,Z7,Z6,ps2,Z5,Z4⟩ (yielded ops a.tmps)=true then Oper.wp P ⟨d2,Z7,Z6,ps2,Z5,Z4⟩ a w K' Q else K' (a.put d2 undef) w):wpAnyH P md ops Q S (fuel+1) listed a w:=wpAnyH_ready hr (by simp) (rQ ho h (rQ ho2 h2 AllReadyH.nil))
end
@[reducible] def ZX (w W:World):Prop:=Below w.heap.size w W
@[reducible] def Ze (w:World) (v:Value) (e:Ending) (W:World):Prop:=e=.returned v∧Below w.heap.size w W
theorem ZW :n≤n:=Fc n
theorem ZR :Below n w w:=yj _ _
theorem Ye {w1 w2:World} (h:Below w.heap.size w w1) (k:Below w1.heap.size w1 w2):Below w.heap.size w w2:=h.trans (k.mono h.size)
theorem ZH {a b:Bool} (h:a=b):Ending.returned (.bool a)=.returned (.bool b):=by rw [h]
def okB (x:Nat):Bool:=(decide (97≤x) && decide (x≤122)) || (decide (48≤x) && decide (x≤57))
def bN (s:ByteArray) (j:Nat):Nat:=(s.data.toList.getD j 0).toNat
def Nk (s:ByteArray):Bool:=decide (1≤s.size) && decide (s.size≤16) && (List.range s.size).all (fun j=>okB (bN s j))
theorem Gw (s:ByteArray) (j:Nat) (h:j<s.size):bN s j=s[j].toNat:=by
 have h':j<s.data.toList.length:=h;unfold bN
 simp only [List.getD,VM h',OY]
 rfl
theorem Lq (h:j<s.size) (hb:okB (bN s j)=false):Nk s=false:=by
 unfold Nk;have:(List.range s.size).all (fun j=>okB (bN s j))=false:=by
  rw [xK];exact ⟨j,RZ.2 h,by rw [hb];simp⟩
 rw [this,Js]
theorem ER (h1:1≤s.size) (h2:s.size≤16) (h:∀j,j<s.size→okB (bN s j)=true):Nk s=true:=by
 unfold Nk;rw [YS h1,YS h2]
 simp only [Bq,Pz,RZ]
 exact h
theorem Gv (w:World) (x:Nat) (hx:x<256) :
    Calls Tryz.prog 148 #[.int .u8 (x:Int)] w fun e w'=>e=.returned (.bool (okB x))∧w'=w:=by
 go_enter Tryz.func148,Tryz.ntmps148
 go_wp2
 all_goals
  go_ret;refine ⟨ZH ?_,rfl⟩;unfold okB;rw [Bu]
  simp only [Yg,Jr,Zg,Pe,false_iff,true_iff]
  omega
theorem Tryz.rJ:(Tryz.prog.info? 9).map (fun i=>(i.zero,i.size,i.bytes))=some (some (.string ByteArray.empty),1,16):=by kernel_rfl
def Wi:List UInt8→List UInt8→List (List UInt8)
 | cur,[]=>[cur]
 | cur,x :: l=>if x=47 then cur :: Wi [] l else Wi (cur++[x]) l
theorem Tc (cur l:List UInt8):Wi cur (47 :: l)=cur :: Wi [] l:=by simp [Wi]
theorem Uw {x:UInt8} (h:¬x=47) (cur l:List UInt8):Wi cur (x :: l)=Wi (cur++[x]) l:=by simp [Wi,h]
def nm (s:ByteArray):List (List UInt8):=Wi [] (s.data.toList.drop 1)
def OU (s:ByteArray) (a b:Nat):List UInt8:=(s.data.toList.drop a).take (b - a)
def sV (l:List UInt8):Value:=.string ⟨l.toArray⟩
theorem Jd (s:ByteArray) (a:Nat):OU s a a=[]:=by unfold OU;simp
theorem A3 (s:ByteArray) (a i:Nat) (ha:a≤i) (hi:i<s.size):OU s a (i+1)=OU s a i++[s[i]]:=by
 have hl:i<s.data.toList.length:=hi;unfold OU;rw [show i+1 - a=(i - a)+1 by omega,Rm (by rw [Zv];omega)]
 congr 1
 rw [List.getElem_drop]
 simp only [show a+(i - a)=i by omega]
 rfl
theorem drop_cons (s:ByteArray) (i:Nat) (hi:i<s.size):s.data.toList.drop i=s[i] :: s.data.toList.drop (i+1):=by
 have hl:i<s.data.toList.length:=hi;rw [GE hl];rfl
theorem Vx (s:ByteArray) (a b:Nat):s.extract a b=⟨(OU s a b).toArray⟩:=by
 apply ByteArray.ext;rw [rP];apply Array.ext';unfold OU;rw [Array.toList_extract,rM]
theorem DN {us:List Value} (h:w.ownsRow lo e 1 v n us):∃a c,v=.slice a n c∧n≤c∧c≤maxLen:=by
 rcases h.2 with ⟨rfl,rfl⟩ | ⟨g,cap,cur,rfl,-,-,h1,h2,-⟩
 · exact ⟨none,0,rfl,ZW,ZQ _⟩
 exact ⟨_,_,rfl,h1,h2⟩
theorem DM (w:World) (s:ByteArray) (h1:1≤s.size) (h2:s.size≤1048576) :
    Calls Tryz.prog 147 #[.string s] w fun e w'=>∃v,e=.returned v∧w'.ownsRow w.heap.size 9 1 v (nm s).length ((nm s).map sV)∧ZX w w':=by
 obtain ⟨i0,hi,hz0,hz1,hz2⟩:=YH Tryz.rJ
 go_enter Tryz.func147,Tryz.ntmps147
 go_wp2
 go_loopw [3,4,5] (fun vo vf vi wr=>∃(i fr:Nat) (acc:List (List UInt8)),1≤fr∧i≤s.size+1∧vi=.int .i64 i∧vf=.int .i64 fr∧acc.length≤i∧((i≤s.size∧fr≤i∧Hid (nm s=acc++Wi (OU s fr i) (s.data.toList.drop i)))∨(i=s.size+1∧fr=s.size+1∧Hid (nm s=acc)))∧Hid (wr.ownsRow w.heap.size 9 1 vo acc.length (acc.map sV))∧Hid (ZX w wr)) (fun _ _ i _=>s.size+1 - (intOf i).toNat)
 case atStart =>
  refine ⟨1,1,[],ZW,by omega,rfl,rfl,by simp,.inl ⟨h1,ZW,?_⟩,Xb w #[] 0 ZW (ZQ _) rfl,ZR.alloc ZW _⟩;show nm s=_;rw [Jd];rfl
 case round =>
  obtain ⟨i,fr,acc,hf1,hi1,rfl,rfl,hal,hst,HO,HB⟩:=hrel;have sB:=HB.out.size;obtain ⟨a,c,hv,-,-⟩:=DN HO.out
  rcases hst with ⟨hi2,hfi,HN⟩ | ⟨hi2,hf2,HN⟩
  · have hI:(i:Int)≤(s.size:Int):=by omega
    by_cases hend:i=s.size
    · have he:((i:Int) == (s.size:Int))=true:=by rw [hend];simp
      have LS:Hid (nm s=acc++[OU s fr i]):=by
       show _=_;rw [HN.out,Qx (by show s.size≤i;omega)];rfl
      have I:Hid (Value.string (s.extract fr i)=sV (OU s fr i)):=by show _=_;rw [Vx];rfl
      have hk1:(fr:Int)≤(i:Int):=by omega
      have hk2:fr≤i:=by omega
      have OT:=Z8 hend;clear hend;subst hv
      go_wp2_with (at_builtin;go_must (refine XS _ rfl _ _ 201 rfl w.heap.size 9 i0 (.string ByteArray.empty) 1 16 Tryz.underlying201 hi hz0 hz1 hz2 rfl (by decide) _ _ _ rfl (HO.out.alloc _) ⟨wr.heap.size,0,none⟩ 1 1 [.string (s.extract fr i)] rfl rfl (Vy _ _ _) (by intro u hu;simp at hu;subst hu;rfl) ?_ ?_ ?_ ?_))
      · unfold maxLen;omega
      · omega
      · simp;omega
      intro v2 w2 ho2 hg2 _;have Sv:Hid (w2.ownsRow w.heap.size 9 1 v2 (acc++[OU s fr i]).length ((acc++[OU s fr i]).map sV)):=by
       rw [I.out] at ho2;show World.ownsRow _ _ _ _ _ _ _;rw [YE,WX];exact ho2
      have HB2:=Z8 ((HB.out.alloc sB _).grown hg2 (by simp;omega) (fun q hq=>(ZO HO.out q hq).1));clear ho2 hg2 HO HB;go_wp2;exact ⟨⟨i+1,i+1,acc++[OU s fr i],by omega,by have:=OT.out;omega,by go_num,by go_num,by rw [YE];simp;omega,.inr ⟨by have:=OT.out;omega,by have:=OT.out;omega,LS⟩,Sv,HB2⟩,by simp [intOf];omega⟩
    have hlt:i<s.size:=by omega
    have he:((i:Int) == (s.size:Int))=false:=Xz.2 (by omega);have YN:(i:Int)<(s.size:Int):=by omega
    have HC:=Z8 (drop_cons s i hlt);have I:Hid (Value.string (s.extract fr i)=sV (OU s fr i)):=by show _=_;rw [Vx];rfl
    have hk1:(fr:Int)≤(i:Int):=by omega
    have hk2:fr≤i:=by omega
    by_cases h47:s[i]=47
    · have e47:((s[i].toNat:Int) == 47)=true:=by rw [h47];rfl
      have LS:Hid (nm s=(acc++[OU s fr i])++Wi (OU s (i+1) (i+1)) (s.data.toList.drop (i+1))):=by
       show _=_;rw [HN.out,HC.out,h47,Tc,Jd,R9]
       rfl
      clear h47;subst hv
      go_wp2_with (at_builtin;go_must (refine XS _ rfl _ _ 201 rfl w.heap.size 9 i0 (.string ByteArray.empty) 1 16 Tryz.underlying201 hi hz0 hz1 hz2 rfl (by decide) _ _ _ rfl (HO.out.alloc _) ⟨wr.heap.size,0,none⟩ 1 1 [.string (s.extract fr i)] rfl rfl (Vy _ _ _) (by intro u hu;simp at hu;subst hu;rfl) ?_ ?_ ?_ ?_))
      · unfold maxLen;omega
      · omega
      · simp;omega
      intro v2 w2 ho2 hg2 _;have Sv:Hid (w2.ownsRow w.heap.size 9 1 v2 (acc++[OU s fr i]).length ((acc++[OU s fr i]).map sV)):=by
       rw [I.out] at ho2;show World.ownsRow _ _ _ _ _ _ _;rw [YE,WX];exact ho2
      have HB2:=Z8 ((HB.out.alloc sB _).grown hg2 (by simp;omega) (fun q hq=>(ZO HO.out q hq).1));clear ho2 hg2 HO HB;go_wp2;exact ⟨⟨i+1,i+1,acc++[OU s fr i],by omega,by omega,by go_num,by go_num,by rw [YE];simp;omega,.inl ⟨by omega,ZW,LS⟩,Sv,HB2⟩,by simp [intOf];omega⟩
    have e47:((s[i].toNat:Int) == 47)=false:=by
     rw [Xz];intro h;apply h47;apply UInt8.toNat_inj.1;have:s[i].toNat=47:=by omega
     rw [this];rfl
    have LS:Hid (nm s=acc++Wi (OU s fr (i+1)) (s.data.toList.drop (i+1))):=by
     show _=_;rw [HN.out,HC.out,Uw h47,A3 s fr i hk2 hlt]
    clear h47 hv;go_wp2;exact ⟨⟨i+1,fr,acc,hf1,by omega,by go_num,rfl,by omega,.inl ⟨by omega,by omega,LS⟩,HO,HB⟩,by simp [intOf];omega⟩
  have hI:¬(i:Int)≤(s.size:Int):=by omega
  clear hv;go_wp2;go_ret;exact ⟨_,rfl,by rw [HN.out];exact HO.out,HB.out⟩
def Jz (l:List UInt8):Bool:=Nk ⟨l.toArray⟩
def Yc (s:ByteArray):Bool:=decide (s.data.toList=[47]) || (decide (2≤s.size) && decide (bN s 0=47) && decide ((nm s).length≤6) && (nm s).all Jz)
theorem Jc:∀(l cur:List UInt8),0<(Wi cur l).length
 | [],cur=>by simp [Wi]
 | x :: l,cur=>by
  by_cases h:x=47
  · subst h;rw [Tc];simp
  rw [Uw h];exact Jc l _
theorem OQ:∀(l cur:List UInt8),(Wi cur l).length≤l.length+1
 | [],cur=>by simp [Wi]
 | x :: l,cur=>by
  by_cases h:x=47
  · subst h;rw [Tc];have:=OQ l [];simp only [XQ];omega
  rw [Uw h];have:=OQ l (cur++[x]);simp only [XQ];omega
theorem ug (s:ByteArray):0<(nm s).length:=Jc _ _
theorem A0 (s:ByteArray):(nm s).length≤s.size+1:=by
 have:=OQ (s.data.toList.drop 1) [];have h2:(s.data.toList.drop 1).length≤s.size:=by rw [Zv];show s.size - 1≤_;omega
 unfold nm;omega
theorem P0 (h:s.data.toList=[47]):Yc s=true:=by unfold Yc;rw [YS h];rfl
theorem Uv (h:¬s.data.toList=[47]):Yc s=(decide (2≤s.size) && decide (bN s 0=47) && decide ((nm s).length≤6) && (nm s).all Jz):=by unfold Yc;rw [Zl h];rfl
def pN (rs:List (List UInt8)) (i:Nat):ByteArray:=⟨(rs.getD i []).toArray⟩
theorem Lp (h:i<rs.length) (hn:Nk (pN rs i)=false):rs.all Jz=false:=by
 rw [xK];refine ⟨rs[i],Na h,?_⟩;unfold Jz;have:pN rs i=⟨rs[i].toArray⟩:=by unfold pN;simp [List.getD,h]
 rw [←this,hn];simp
theorem xD (hn:∀i,i<rs.length→Nk (pN rs i)=true):rs.all Jz=true:=by
 rw [Pz];intro l hl;obtain ⟨i,hi,rfl⟩:=List.mem_iff_getElem.1 hl;have:=hn i hi;unfold Jz;have e:pN rs i=⟨rs[i].toArray⟩:=by unfold pN;simp [List.getD,hi]
 rw [←e];exact this
theorem Lo (w:World) (s:ByteArray) (h2:s.size≤1048576) :
    Calls Tryz.prog 133 #[.string s] w (Ze w (.bool (Yc s))):=by
 by_cases hr:s.data.toList=[47]
 · have hrt:(s.toList == [47])=true:=by rw [SC,hr];rfl
   have HP:=Z8 (P0 hr);clear hr
   go_enter Tryz.func133,Tryz.ntmps133
   go_wp2;go_ret;exact ⟨ZH HP.out.symm,ZR⟩
 have hrt:(s.toList == [47])=false:=by rw [SC,Xz];exact hr
 have HP:=Z8 (Uv hr);clear hr
 by_cases hs:s.size<2
 · have hsI:(s.size:Int)<2:=by omega
   have Pr:Hid (Yc s=false):=by show _=_;rw [HP.out,Zl (by omega)];rfl
   go_enter Tryz.func133,Tryz.ntmps133
   go_wp2;go_ret;exact ⟨ZH Pr.out.symm,ZR⟩
 have hsI:¬(s.size:Int)<2:=by omega
 have h0:0<s.size:=by omega
 have hb0:=Gw s 0 h0
 by_cases h47:s[0].toNat=47
 · have e47:((s[0].toNat:Int) != 47)=false:=by rw [h47];rfl
   have Pr:Hid (Yc s=(decide ((nm s).length≤6) && (nm s).all Jz)):=by show _=_;rw [HP.out,YS (show 2≤s.size by omega),YS (hb0.trans h47)];rfl
   clear h47 hb0 HP
   go_enter Tryz.func133,Tryz.ntmps133
   go_wp2_with fail
   refine (DM _ s (by omega) h2).mono ?_;rintro e w1 ⟨v,rfl,ho,hb⟩;have hnl:=A0 s;have ZL:=ug s;obtain ⟨rs,hrs⟩:∃rs,rs=nm s:=⟨_,rfl⟩;rw [←hrs] at ho hnl ZL;rw [←hrs] at Pr;clear hrs;obtain ⟨g,c,rfl⟩:∃g c,v=.slice (some ⟨g,0,none⟩) rs.length c:=by
    rcases ho.2 with ⟨rfl,h1⟩ | ⟨g,cap,cur,rfl,-⟩
    · omega
    exact ⟨g,cap,rfl⟩
   have HC:Hid (∀i,i<rs.length→w1.cell? ⟨g,i,none⟩=some (.string (pN rs i))):=fun i hi=>by
    rw [U0 ho i (by omega)]
    simp [pN,List.getD,hi,sV]
   have HB:=Z8 hb;clear ho hb
   by_cases h6:rs.length≤6
   · have pU:¬(6:Int)<(rs.length:Int):=by omega
     have J:Hid (Yc s=rs.all Jz):=by show _=_;rw [Pr.out,YS h6];rfl
     clear Pr;go_wp2
     go_loopw [4] (fun vi wr=>∃i:Nat,i≤rs.length∧vi=.int .i64 i∧Hid (∀t,t<i→Nk (pN rs t)=true)∧∃q,wr=w1.drewN q) (fun i _=>rs.length - (intOf i).toNat)
     case atStart=>exact ⟨0,ZQ _,rfl,(fun t ht=>by omega),0,rfl⟩
     case round =>
      obtain ⟨i,hi,rfl,HK,q,rfl⟩:=hrel
      by_cases hlt:i<rs.length
      · have YN:(i:Int)<(rs.length:Int):=by omega
        have c1:=HC.out i hlt;obtain ⟨p,hp⟩:∃p,p=pN rs i:=⟨_,rfl⟩;have Z9:=Z8 hp;rw [←hp] at c1;clear hp
        by_cases hp1:p.size<1
        · have sh:(p.size:Int)<1:=by omega
          have HF:Hid (Yc s=false):=by show _=_;rw [J.out];exact Lp hlt (by rw [←Z9.out];unfold Nk;rw [Zl (by omega)];rfl)
          have BQ:=Z8 (HB.out.trans ((below_drewN' w1 q).mono HB.out.size));go_wp2;go_ret;exact ⟨ZH HF.out.symm,BQ.out⟩
        have sh:¬(p.size:Int)<1:=by omega
        by_cases hp2:16<p.size
        · have H:(16:Int)<(p.size:Int):=by omega
          have HF:Hid (Yc s=false):=by show _=_;rw [J.out];exact Lp hlt (by rw [←Z9.out];unfold Nk;rw [Zl (show ¬p.size≤16 by omega)];simp)
          have BQ:=Z8 (HB.out.trans ((below_drewN' w1 q).mono HB.out.size));go_wp2;go_ret;exact ⟨ZH HF.out.symm,BQ.out⟩
        have H:¬(16:Int)<(p.size:Int):=by omega
        go_wp2
        go_loopw [5] (fun vj wr=>∃j:Nat,j≤p.size∧vj=.int .i64 j∧Hid (∀t,t<j→okB (bN p t)=true)∧∃q,wr=w1.drewN q) (fun j _=>p.size - (intOf j).toNat)
        case atStart=>exact ⟨0,ZQ _,rfl,(fun t ht=>by omega),q,rfl⟩
        case round =>
         obtain ⟨j,hj,rfl,HJ,q2,rfl⟩:=hrel
         by_cases hjl:j<p.size
         · have vv:(j:Int)<(p.size:Int):=by omega
           have hbn:=Gw p j hjl;have pT:p[j].toNat<256:=p[j].toNat_lt
           go_wp2_with fail
           refine (Gv _ p[j].toNat pT).mono ?_;rintro e w3 ⟨rfl,rfl⟩
           by_cases hok:okB (bN p j)=true
           · have WC:Hid (okB (bN p j)=true):=hok
             rw [hbn] at hok;rw [hok];clear hok hbn;go_wp2;exact ⟨⟨j+1,by omega,by go_num,(fun t ht=>by by_cases e:t=j;(subst e;exact WC.out);exact HJ.out t (by omega)),q2,rfl⟩,by simp [intOf];omega⟩
           have hok':okB (bN p j)=false:=by simpa using hok
           have HF:Hid (Yc s=false):=by show _=_;rw [J.out];exact Lp hlt (by rw [←Z9.out];exact Lq hjl hok')
           have BQ:=Z8 (HB.out.trans ((below_drewN' w1 q2).mono HB.out.size));rw [hbn] at hok';rw [hok'];clear hok hok' hbn;go_wp2;go_ret;exact ⟨ZH HF.out.symm,BQ.out⟩
         have vv:¬(j:Int)<(p.size:Int):=by omega
         have WC:Hid (Nk (pN rs i)=true):=by
          show _=_;rw [←Z9.out];exact ER (by omega) (by omega) (fun t ht=>HJ.out t (by omega))
         go_wp2;exact ⟨⟨i+1,by omega,by go_num,(fun t ht=>by by_cases e:t=i;(subst e;exact WC.out);exact HK.out t (by omega)),q2,rfl⟩,by simp [intOf];omega⟩
      have YN:¬(i:Int)<(rs.length:Int):=by omega
      have HT:Hid (Yc s=true):=by show _=_;rw [J.out];exact xD (fun t ht=>HK.out t (by omega))
      have BQ:=Z8 (HB.out.trans ((below_drewN' w1 q).mono HB.out.size));go_wp2;go_ret;exact ⟨ZH HT.out.symm,BQ.out⟩
   have pU:(6:Int)<(rs.length:Int):=by omega
   have J:Hid (Yc s=false):=by show _=_;rw [Pr.out,Zl h6];rfl
   go_wp2;go_ret;exact ⟨ZH J.out.symm,HB.out⟩
 have e47:((s[0].toNat:Int) != 47)=true:=by rw [Rg];omega
 have Pr:Hid (Yc s=false):=by show _=_;rw [HP.out,Zl (show ¬bN s 0=47 by omega),Js];rfl
 clear HP
 go_enter Tryz.func133,Tryz.ntmps133
 go_wp2;go_ret;exact ⟨ZH Pr.out.symm,ZR⟩
theorem Jb (w:World) (s:ByteArray) (c:Int) :
    Calls Tryz.prog 173 #[.string s,.int .u8 c] w fun e w'=>e=.returned (.int .i64 (Lib.indexByte s.data.toList c.toNat.toUInt8))∧w'=w:=by
 go_enter Tryz.func173,Tryz.ntmps173
 go_wp2;rw [run_callFunc_extern Tryz.func177 (by kernel_rfl) (by kernel_rfl) (by kernel_rfl) (e:=Extern.BytealgIndexByte.indexByte) (by kernel_rfl),Lib.run_indexByteString]
 simp only [Result.andThen]
 rw [Oper.upon_value];go_wp2;go_ret;exact ⟨rfl,rfl⟩
theorem Ja (w:World) (s:ByteArray) :
    Calls Tryz.prog 172 #[.string s,.string ⟨#[47]⟩] w fun e w'=>e=.returned (.int .i64 (Lib.indexByte s.data.toList 47))∧w'=w:=by
 by_cases he:s.data.toList=[47]
 · have hb:([47] == s.toList)=true:=by rw [SC,he];rfl
   have HX:Hid (Lib.indexByte s.data.toList 47=0):=by show _=_;rw [he];rfl
   clear he
   go_enter Tryz.func172,Tryz.ntmps172
   go_wp2;go_ret;exact ⟨by rw [HX.out];rfl,rfl⟩
 have hb:([47] == s.toList)=false:=by rw [SC,Xz];exact fun h=>he h.symm
 clear he
 go_enter Tryz.func172,Tryz.ntmps172
 go_wp2_with fail
 refine (Jb w s 47).mono ?_;rintro e w2 ⟨rfl,rfl⟩;go_wp2;go_ret;exact ⟨rfl,rfl⟩
theorem xC (w:World) (s:ByteArray) :
    Calls Tryz.prog 169 #[.string s,.string ⟨#[47]⟩] w fun e w'=>e=.returned (.int .i64 (Lib.indexByte s.data.toList 47))∧w'=w:=by
 go_enter Tryz.func169,Tryz.ntmps169
 go_wp2_with fail
 refine (Ja w s).mono ?_;rintro e w2 ⟨rfl,rfl⟩;go_wp2;go_ret;exact ⟨rfl,rfl⟩
theorem pre_eq (s:ByteArray) (h:1≤s.size):((s.extract 0 1).toList == [47])=decide (bN s 0=47):=by
 have h0:0<s.data.toList.length:=h;rw [SC,rP,Array.toList_extract,rM];unfold bN
 cases e:s.data.toList with
 | nil=>rw [e] at h0;simp at h0
 | cons x l =>
  simp only [Jq,Nat.sub_zero,List.take_succ_cons,Rl,List.getD_cons_zero]
  by_cases hx:x=47
  · subst hx;rfl
  have h1:¬x.toNat=47:=fun hh=>hx (UInt8.toNat_inj.1 hh)
  rw [Zl h1,Xz]
  simpa using hx
theorem I9 (w:World) (s:ByteArray) (hs:1≤s.size) :
    Calls Tryz.prog 163 #[.string s,.string ⟨#[47]⟩] w fun e w'=>e=.returned (.bool (decide (bN s 0=47)))∧w'=w:=by
 have HE:=Z8 (pre_eq s hs);have h1:(1:Int)≤(s.size:Int):=by omega
 go_enter Tryz.func163,Tryz.ntmps163
 go_wp2;go_ret;exact ⟨by rw [←HE.out];rfl,rfl⟩
theorem EQ (w:World) (s:ByteArray) (hs:1≤s.size) :
    Calls Tryz.prog 155 #[.string s,.string ⟨#[47]⟩] w fun e w'=>e=.returned (.bool (decide (bN s 0=47)))∧w'=w:=by
 go_enter Tryz.func155,Tryz.ntmps155
 go_wp2_with fail
 refine (I9 w s hs).mono ?_;rintro e w2 ⟨rfl,rfl⟩;go_wp2;go_ret;exact ⟨rfl,rfl⟩
theorem pre_none (w:World) (s:ByteArray) (hs:s.size=0) :
    Calls Tryz.prog 155 #[.string s,.string ⟨#[47]⟩] w fun e w'=>e=.returned (.bool false)∧w'=w:=by
 have h1:¬(1:Int)≤(s.size:Int):=by omega
 clear hs
 go_enter Tryz.func155,Tryz.ntmps155
 go_wp2_with fail
 refine (show Calls Tryz.prog 163 #[.string s,.string ⟨#[47]⟩] w (fun e w'=>e=.returned (.bool false)∧w'=w) from ?_).mono ?_
 · go_enter Tryz.func163,Tryz.ntmps163
   go_wp2;go_ret;exact ⟨rfl,rfl⟩
 rintro e w2 ⟨rfl,rfl⟩;go_wp2;go_ret;exact ⟨rfl,rfl⟩
theorem MY (w:World) (p:ByteArray) :
    Calls Tryz.prog 157 #[.string p] w fun e w'=>e=.returned (.bool (Nk p))∧∃q,w'=w.drewN q:=by
 by_cases hp1:p.size<1
 · have sh:(p.size:Int)<1:=by omega
   have HF:Hid (Nk p=false):=by show _=_;unfold Nk;rw [Zl (by omega)];rfl
   go_enter Tryz.func157,Tryz.ntmps157
   go_wp2;go_ret;exact ⟨ZH HF.out.symm,0,rfl⟩
 have sh:¬(p.size:Int)<1:=by omega
 by_cases hp2:16<p.size
 · have H:(16:Int)<(p.size:Int):=by omega
   have HF:Hid (Nk p=false):=by show _=_;unfold Nk;rw [Zl (show ¬p.size≤16 by omega)];simp
   go_enter Tryz.func157,Tryz.ntmps157
   go_wp2;go_ret;exact ⟨ZH HF.out.symm,0,rfl⟩
 have H:¬(16:Int)<(p.size:Int):=by omega
 go_enter Tryz.func157,Tryz.ntmps157
 go_wp2
 go_loopw [16] (fun vj wr=>∃j:Nat,j≤p.size∧vj=.int .i64 j∧Hid (∀t,t<j→okB (bN p t)=true)∧∃q,wr=w.drewN q) (fun j _=>p.size - (intOf j).toNat)
 case atStart=>exact ⟨0,ZQ _,rfl,(fun t ht=>by omega),0,rfl⟩
 case round =>
  obtain ⟨j,hj,rfl,HJ,q,rfl⟩:=hrel
  by_cases hjl:j<p.size
  · have vv:(j:Int)<(p.size:Int):=by omega
    have hbn:=Gw p j hjl;have pT:p[j].toNat<256:=p[j].toNat_lt;obtain ⟨x,hx⟩:∃x,x=p[j].toNat:=⟨_,rfl⟩;have HX:=Z8 hx;have G:Hid (bN p j=x):=by show _=_;rw [hbn,hx]
    clear hx hbn
    by_cases c1:x<48
    · have k1:¬(97:Int)≤(p[j].toNat:Int):=by have:=HX.out;omega
      have k2:¬(48:Int)≤(p[j].toNat:Int):=by have:=HX.out;omega
      have HF:=Z8 (Lq hjl (by rw [G.out];unfold okB;rw [Zl (show ¬97≤x by omega),Zl (show ¬48≤x by omega)];rfl));go_wp2;go_ret;exact ⟨ZH HF.out.symm,_,rfl⟩
    by_cases c2:x≤57
    · have k1:¬(97:Int)≤(p[j].toNat:Int):=by have:=HX.out;omega
      have k2:(48:Int)≤(p[j].toNat:Int):=by have:=HX.out;omega
      have k3:(p[j].toNat:Int)≤57:=by have:=HX.out;omega
      have WC:Hid (okB (bN p j)=true):=by show _=_;rw [G.out];unfold okB;rw [YS (show 48≤x by omega),YS (show x≤57 by omega)];simp
      go_wp2;exact ⟨⟨j+1,by omega,by go_num,(fun t ht=>by by_cases e:t=j;(subst e;exact WC.out);exact HJ.out t (by omega)),q,rfl⟩,by simp [intOf];omega⟩
    by_cases c3:x<97
    · have k1:¬(97:Int)≤(p[j].toNat:Int):=by have:=HX.out;omega
      have k2:(48:Int)≤(p[j].toNat:Int):=by have:=HX.out;omega
      have k3:¬(p[j].toNat:Int)≤57:=by have:=HX.out;omega
      have HF:=Z8 (Lq hjl (by rw [G.out];unfold okB;rw [Zl (show ¬97≤x by omega),Zl (show ¬x≤57 by omega)];simp));go_wp2;go_ret;exact ⟨ZH HF.out.symm,_,rfl⟩
    by_cases c4:x≤122
    · have k1:(97:Int)≤(p[j].toNat:Int):=by have:=HX.out;omega
      have k2:(p[j].toNat:Int)≤122:=by have:=HX.out;omega
      have k3:(48:Int)≤(p[j].toNat:Int):=by omega
      have k4:¬(p[j].toNat:Int)≤57:=by omega
      have WC:Hid (okB (bN p j)=true):=by show _=_;rw [G.out];unfold okB;rw [YS (show 97≤x by omega),YS (show x≤122 by omega)];simp
      go_wp2;exact ⟨⟨j+1,by omega,by go_num,(fun t ht=>by by_cases e:t=j;(subst e;exact WC.out);exact HJ.out t (by omega)),q,rfl⟩,by simp [intOf];omega⟩
    have k1:(97:Int)≤(p[j].toNat:Int):=by have:=HX.out;omega
    have k2:¬(p[j].toNat:Int)≤122:=by have:=HX.out;omega
    have k3:(48:Int)≤(p[j].toNat:Int):=by omega
    have k4:¬(p[j].toNat:Int)≤57:=by omega
    have HF:=Z8 (Lq hjl (by rw [G.out];unfold okB;rw [Zl (show ¬x≤122 by omega),Zl (show ¬x≤57 by omega)];simp));go_wp2;go_ret;exact ⟨ZH HF.out.symm,_,rfl⟩
  have vv:¬(j:Int)<(p.size:Int):=by omega
  have WC:=Z8 (ER (by omega) (by omega) (fun t ht=>HJ.out t (by omega)));go_wp2;go_ret;exact ⟨ZH WC.out.symm,_,rfl⟩
def Book (r:Loop) (M:Nat) (W:World):Prop:=W.heap[M+1]?=some (.loop r)∧W.heap[M]?=some (.deferred (some []))
theorem Book.keep {r:Loop} {M:Nat} (h:Book r M X) (hk:KeepsFrom M X Y):Book r M Y:=⟨hk.same _ _ (by omega) h.1 rfl,hk.same _ _ ZW h.2 rfl⟩
theorem Ln {F:Fence} {β:Type} {g:Operand} {ps:Array Tmp} {assign body:Code} {Q:Exit→Act→World→Prop} 
    (hro:F.round=none) (h1:1≤n) {gf:Nat} {lb:Array Value} (hg:a.eval g=.func (.func gf) #[] lb) (hFg:F.fn gf) (eg:∀args w,(callFunc gf args).run P w=.ok (.enter gf args) w)
    (St:β→World→Prop) (Pre:β→Array Value→World→Prop) (step:β→Array Value→β) (Kp:World→World→Prop) (Fin:β→Prop) (Pq:World→Prop) (AZ:OwnFrom w.heap.size (fun (_:Unit) W=>Pq W)) (s0:β)
    (hSt:OwnFrom w.heap.size St) (hKt:∀ {A B C:World},Kp A B→Kp B C→Kp A C)
    (hKb:∀(W:World) (l:Nat) (o o':Obj),w.heap.size≤l→W.heap[l]?=some o→o.isCells=false→o.isWalk=false→Kp W (W.putObj l o'))
    (hps:∀s vs W,Pre s vs W→vs.size=ps.size) (h0:St s0 w)
    (Ax:β→Array Value→Act→World→Prop) (hAx:∀s vs a',OwnFrom w.heap.size (fun (_:Unit) W=>Ax s vs a' W))
    (hassign:∀(l:Nat) (s:β) (vs:Array Value) (W:World) (K:Act→World→Prop),St s W→Pre s vs W→(∀a' W',KeepsFrom w.heap.size W W'→Kp W W'→Ax s vs a' W'→K a' W') →
     assign.wpIn (F.inRound l) (n - 1 - 1) P (Exit.then K (fun _ _ _=>False)) { tmps:=(ps.zip vs).foldl (fun t (p,v)=>t.setIfInBounds p v) a.tmps,defers:=[] } W)
    (hbody:∀(l:Nat) (s:β) (vs:Array Value) (a':Act) (W:World),Ax s vs a' W→body.wpIn (F.inRound l) (n - 1 - 1) P (fun e _ W'=>(e=.normal∧KeepsFrom w.heap.size W W'∧Kp W W'∧St (step s vs) W')∨(e=.ret∧KeepsFrom w.heap.size W W'∧Pq W')) a' W)
    (hcall:∀(Bk PZ:World→Prop) (W1:World),(∀X Y,KeepsFrom w.heap.size X Y→Bk X→Bk Y)→(∀X Y,KeepsFrom w.heap.size X Y→PZ X→PZ Y) →
     (∀s vs W,St s W→Bk W→Pre s vs W→YieldAt F (n - 1 - 1) P (w.heap.size+1) vs W fun e W'=>(e=.returned (.bool true)∧St (step s vs) W'∧Bk W'∧Kp W W')∨(e=.returned (.bool false)∧Pq W'∧PZ W')) →
     ZX w W1→w.heap.size+2≤W1.heap.size→St s0 W1→Bk W1 →
     CallsIn F (n - 1) P gf (#[.func (.yield (w.heap.size+1)) #[] #[]]++lb) W1 fun e W'=>(∃v,e=.returned v)∧((∃s,Fin s∧St s W'∧Bk W')∨(Pq W'∧PZ W')))
    (hdone:∀(D:Nat) (s:β) (W:World),w.heap.size≤D→Fin s→St s W→W.heap[D]?=some (.deferred (some []))→Q .normal { a with defers:={ target:=.collected D,args:=#[] } :: a.defers } W)
    (hstop:∀(D:Nat) (W:World),w.heap.size≤D→Pq W→W.heap[D]?=some (.deferred (some []))→Code.ret.wpIn F n P Q { a with defers:={ target:=.collected D,args:=#[] } :: a.defers } W) :
    (Code.rangeFunc g ps assign body).wpIn F n P Q a w:=by
 refine wpIn_rangeFunc ?_;intro fn hfn;rw [hro];obtain ⟨r0,hr0⟩:∃r:Loop,r={ state:=.ready,pending:=none,fn,tmps:=a.tmps,params:=ps,assign,body,defers:=w.heap.size }:=⟨_,rfl⟩;have hst:r0.state=.ready:=by rw [hr0]
 have hpe:r0.pending=none:=by rw [hr0]
 have hgrow:ZX w ((w.alloc (.deferred (some []))).alloc (.loop r0)):=((yj _ w).alloc ZW _).alloc (by simp) _;have AY:Book r0 w.heap.size ((w.alloc (.deferred (some []))).alloc (.loop r0)):=by
  constructor
  · have:=WJ (w.alloc (.deferred (some []))) (.loop r0)
    rwa [XE] at this
  exact (sj _ _ _ (by simp)).trans (WJ w _)
 have uf:St s0 ((w.alloc (.deferred (some []))).alloc (.loop r0)):=hSt.alloc _ (hSt.alloc _ h0);have hsz:w.heap.size+2≤((w.alloc (.deferred (some []))).alloc (.loop r0)).heap.size:=by simp
 have henter:(Instr.enterLoop fn a.tmps ps assign body none).run P w=.ok (w.heap.size+1,[{ target:=.collected w.heap.size,args:=#[] }]) ((w.alloc (.deferred (some []))).alloc (.loop r0)):=by
  rw [hr0];exact run_enterLoop_outer _ _ _ _ _
 generalize (w.alloc _).alloc _=W1 at *;refine ⟨_,_,W1,{ target:=.fn (.func gf) lb,args:=#[.func (.yield (w.heap.size+1)) #[] #[]] },W1,gf,#[.func (.yield (w.heap.size+1)) #[] #[]]++lb,W1,henter,?_,?_,?_,fun _=>h1,?_⟩
 · simp only [resolve,hg]
   simp [go_sem]
 · intro f' hf'
   simp [Target.leads] at hf'
   subst hf';exact hFg
 · simp [invoke,go_sem,eg]
 refine (hcall (Book r0 w.heap.size) (Book { r0 with state:=.done,pending:=some .ret } w.heap.size) W1 (fun X Y hk hb=>hb.keep hk) (fun X Y hk hb=>hb.keep hk) ?_ hgrow hsz uf AY).mono ?_
 · intro s vs W hs hb hp
   have hy:=run_yield (P:=P) (args:=vs) hb.1 (by rw [hr0];exact hps s vs W hp);rw [hr0] at hy;refine ⟨fn,_,assign,body,hy,roundIn_of_wpIn hfn (hassign _ s vs W _ hs hp ?_)⟩;clear hy;intro a' Wa hka hkp hax;have DL:=hb.keep hka;have hlt:=(Array.getElem?_eq_some_iff.1 DL.1).1;refine ⟨_,run_beginRound DL.1 hst,?_⟩;have hl2:(Wa.putObj (w.heap.size+1) (.loop { r0 with state:=.busy })).heap[w.heap.size+1]?=some (.loop { r0 with state:=.busy }):=World.putObj_heap_same hlt;have hk2:(Wa.putObj (w.heap.size+1) (.loop { r0 with state:=.busy })).heap[w.heap.size]?=some (.deferred (some [])):=(World.putObj_heap_other (by omega)).trans DL.2;have hkb:Kp Wa (Wa.putObj (w.heap.size+1) (.loop { r0 with state:=.busy })):=hKb _ _ _ _ (by omega) DL.1 rfl rfl;refine wpIn_mono (hbody _ s vs a' _ ((hAx s vs a').putObj (s:=()) _ hax (by omega) DL.1 rfl)) ?_;rintro e a3 W3 (⟨rfl,hk3,hp3,hs3⟩ | ⟨rfl,hk3,hs3⟩)
   · have hl3:=hk3.same _ _ (by omega) hl2 rfl
     have hd3:=hk3.same _ _ ZW hk2 rfl;have hend:=run_endRound (P:=P) none hl3;have hr1:({ { r0 with state:=.busy } with state:=if (none:Option Code).isNone then .ready else .done,pending:=none }:Loop)=r0:=by rw [hr0];rfl
     rw [hr1] at hend;exact ⟨_,_,hend,.inl ⟨rfl,hSt.putObj _ hs3 (by omega) hl3 rfl,⟨World.putObj_heap_same (Array.getElem?_eq_some_iff.1 hl3).1,(World.putObj_heap_other (by omega)).trans hd3⟩,hKt hkp (hKt (hKt hkb hp3) (hKb _ _ _ _ (by omega) hl3 rfl rfl))⟩⟩
   have hl3:=hk3.same _ _ (by omega) hl2 rfl;have hd3:=hk3.same _ _ ZW hk2 rfl;have hend:=run_endRound (P:=P) (some .ret) hl3;have hr1:({ { r0 with state:=.busy } with state:=if (some Code.ret:Option Code).isNone then .ready else .done,pending:=some .ret }:Loop)={ r0 with state:=.done,pending:=some .ret }:=by rw [hr0];rfl
   rw [hr1] at hend;exact ⟨_,_,hend,.inr ⟨rfl,AZ.putObj (s:=()) _ hs3 (by omega) hl3 rfl,⟨World.putObj_heap_same (Array.getElem?_eq_some_iff.1 hl3).1,(World.putObj_heap_other (by omega)).trans hd3⟩⟩⟩
 rintro e W2 ⟨⟨v,rfl⟩,(⟨s,hF,hs,hb⟩ | ⟨hs,hb⟩)⟩
 · have hend:=run_endLoop (P:=P) hb.1 (by rw [hst];simp)
   rw [hpe] at hend;exact ⟨none,_,hend,hdone _ s _ ZW hF (hSt.putObj _ hs (by omega) hb.1 rfl) ((World.putObj_heap_other (by omega)).trans hb.2)⟩
 have hend:=run_endLoop (P:=P) hb.1 (by simp);exact ⟨some .ret,_,hend,hstop _ _ ZW (AZ.putObj (s:=()) _ hs (by omega) hb.1 rfl) ((World.putObj_heap_other (by omega)).trans hb.2)⟩
attribute [local go_sem] Uf
theorem LR:∀(l cur:List UInt8),Lib.indexByte l 47=-1→Wi cur l=[cur++l]
 | [],cur,_=>by simp [Wi]
 | x :: l,cur,h=>by
  unfold Lib.indexByte at h
  by_cases hx:x=47
  · rw [hx] at h;simp at h
  have hb:=Xz.2 hx;rw [hb] at h
  simp only [Pe,Sm] at h
  have hge:=Lib.indexByte_ge l 47;have h1:Lib.indexByte l 47=-1:=by
   by_cases e:Lib.indexByte l 47=-1
   · exact e
   rw [Z3 (by simpa using e)] at h;omega
  rw [Uw hx,LR l _ h1];simp
theorem LQ:∀(l cur:List UInt8) (k:Nat),Lib.indexByte l 47=(k:Int)→k<l.length∧Wi cur l=(cur++l.take k) :: Wi [] (l.drop (k+1))
 | [],cur,k,h=>by simp [Lib.indexByte] at h
 | x :: l,cur,k,h=>by
  unfold Lib.indexByte at h
  by_cases hx:x=47
  · rw [hx] at h
    have hk:k=0:=by simp at h;omega
    subst hk;rw [hx,Tc];simp
  have hb:=Xz.2 hx;rw [hb] at h
  simp only [Pe,Sm] at h
  by_cases e:Lib.indexByte l 47=-1
  · rw [ZY (by simpa using e)] at h;omega
  rw [Z3 (by simpa using e)] at h;have hge:=Lib.indexByte_ge l 47;obtain ⟨j,rfl⟩:∃j,k=j+1:=⟨k - 1,by omega⟩;obtain ⟨h1,h2⟩:=LQ l (cur++[x]) j (by omega);refine ⟨by simp;omega,?_⟩;rw [Uw hx,h2];simp
def vu (B:Nat) (W:World):Nat:=match W.cell? ⟨B,0,none⟩ with
 | some (.string x)=>x.size
 | _=>0
def rI (Bs:Nat) (St:Nat→World→Prop) (Pq Bk PZ:World→Prop) (k:Nat) (W:World) (e:Ending) (W':World):Prop :=
 (e=.returned (.bool true)∧St (k+1) W'∧Bk W'∧∀v,Boxed W Bs 9 v→Boxed W' Bs 9 v)∨(e=.returned (.bool false)∧Pq W'∧PZ W')
theorem Gu (nn:Nat) (hn1:1≤nn) (l Bs Be Bv:Nat) (R:List (List UInt8)) (s0:ByteArray)
    (St:Nat→World→Prop) (Pq Bk PZ:World→Prop)
    (sf:∀k X Y,ZX X Y→St k X→St k Y) (rH:∀X Y,ZX X Y→Bk X→Bk Y)
    (hSW:∀k X v,St k X→St k (X.setCell ⟨Bs,0,none⟩ v)) (hBW:∀X v,Bk X→Bk (X.setCell ⟨Bs,0,none⟩ v))
    (hSR:∀k W,St k W→W.cell? ⟨Be,0,none⟩=some (.string ⟨#[47]⟩)∧W.cell? ⟨Bv,0,none⟩=some (.int .i64 0))
    (hY:∀k vs W,St k W→Bk W→(k<R.length∧vs=#[sV (R.getD k [])])→YieldAt Fence.wide (nn - 1) Tryz.prog l vs W (rI Bs St Pq Bk PZ k W))
    (W:World) (h0:St 0 W) (h1:Bk W) (hs:Boxed W Bs 9 (.string s0)) (hz:s0.size≤1048576) (hR:R=Wi [] s0.data.toList) :
    CallsIn Fence.wide nn Tryz.prog 167 #[.func (.yield l) #[] #[],.pointer (some ⟨Be,0,none⟩),.pointer (some ⟨Bs,0,none⟩),.pointer (some ⟨Bv,0,none⟩)] W fun e W'=>(∃v,e=.returned v)∧((∃s,s=R.length∧St s W'∧Bk W')∨(Pq W'∧PZ W')):=by
 have HY:=Z8 hY;have xB:=Z8 sf;have AX:=Z8 rH;have rG:=Z8 hSW;have rF:=Z8 hBW;have ue:=Z8 hSR;have H0:=Z8 h0;have H1:=Z8 h1;have oK:=Z8 hs;have HR:Hid (R.drop 0=Wi [] s0.data.toList):=hR;obtain ⟨cE,cV⟩:=hSR 0 W h0;have cS:=hs.cell;refine Rf Tryz.func167 rfl trivial ?_ rfl
 simp only [Tryz.ntmps167,WW,XQ,Wv,Nat.reduceAdd,Nat.reduceSub,DV,DU,Qv,Qz,TJ,Qy]
 gi_wp2
 gi_loopw [] (fun wr=>∃(k:Nat) (r:ByteArray),Hid (St k wr)∧Hid (Bk wr)∧r.size≤1048576∧Hid (Boxed wr Bs 9 (.string r))∧Hid (R.drop k=Wi [] r.data.toList)) (fun wr=>vu Bs wr)
 case atStart=>exact ⟨0,s0,H0,H1,hz,oK,HR⟩
 case round =>
  obtain ⟨k,r,HS,HB,hrz,HX,HD⟩:=hrel;obtain ⟨cE,cV⟩:=ue.out k wr HS.out;have cS:=HX.out.cell
  gi_wp2_with fail
  refine ⟨trivial,?_⟩;refine (Xq.2 (xC _ r)).mono ?_;rintro e w2 ⟨rfl,rfl⟩
  by_cases hneg:Lib.indexByte r.data.toList 47=-1
  · have hd:=HD.out
    rw [LR _ _ hneg,TJ] at hd;have hlt:k<R.length:=by
     by_cases h:k<R.length
     · exact h
     rw [Qx (by omega)] at hd;cases hd
    have hend:Hid (k+1=R.length):=by
     have:=Wd List.length hd;rw [Zv] at this
     simp at this
     show _=_;omega
    have hget:R.getD k []=r.data.toList:=by
     have:=Wd (fun x=>x.getD 0 []) hd
     simpa [List.getD,Pd] using this
    have AW:=HY.out k #[.string r] w2 HS.out HB.out ⟨hlt,by rw [hget];rfl⟩;rw [hneg];obtain ⟨fn,tmps,assign,body,hy,hR⟩:=AW;gi_wp2;refine hR.mono ?_;rintro e W3 (⟨rfl,AV,hB3,-⟩ | ⟨rfl,AV,hB3⟩)
    · have Gt:Hid (St (k+1) W3):=AV
      have HB3:=Z8 hB3;gi_wp2;refine bodyPost_end (TG rfl _ _ _) rfl ?_;exact ⟨⟨_,rfl⟩,.inl ⟨k+1,hend.out,Gt.out,HB3.out⟩⟩
    have Gt:Hid (Pq W3):=AV;have HB3:=Z8 hB3;gi_wp2;refine bodyPost_end (TG rfl _ _ _) rfl ?_;exact ⟨⟨_,rfl⟩,.inr ⟨Gt.out,HB3.out⟩⟩
  have hge:=Lib.indexByte_ge r.data.toList 47;obtain ⟨j,hj⟩:∃j:Nat,Lib.indexByte r.data.toList 47=(j:Int):=⟨(Lib.indexByte r.data.toList 47).toNat,by omega⟩;have hd:=HD.out;obtain ⟨hjl,hsp⟩:=LQ _ [] j hj;have hjr:j<r.size:=hjl;rw [hsp,TJ] at hd;have hlt:k<R.length:=by
   by_cases h:k<R.length
   · exact h
   rw [Qx (by omega)] at hd;cases hd
  have hget:R.getD k []=r.data.toList.take j:=by
   have:=Wd (fun x=>x.getD 0 []) hd
   simpa [List.getD,Pd] using this
  have hD2:Hid (R.drop (k+1)=Wi [] (r.extract (j+1) r.size).data.toList):=by
   have h1:=Wd (List.drop 1) hd;rw [US,List.drop_succ_cons,Jq] at h1;show _=_;rw [Vx,h1];unfold OU
   congr 1
   rw [We (by rw [Zv];show r.size - _≤_;omega)]
  have AW:=HY.out k #[.string (r.extract 0 j)] w2 HS.out HB.out ⟨hlt,by rw [hget,Vx];unfold OU;simp [sV]⟩;rw [hj];have hsz:(r.extract (j+1) r.size).size=r.size - (j+1):=by simp
  have OO:=Z8 hsz;have vv:¬(j:Int)<0:=by omega
  have ZC:(j:Int)≤(r.size:Int):=by omega
  have Zz:(j:Int)+1≤(r.size:Int):=by omega
  obtain ⟨fn,tmps,assign,body,hy,hR⟩:=AW;gi_wp2;refine hR.mono ?_;rintro e W3 (⟨rfl,AV,hB3,hK3⟩ | ⟨rfl,AV,hB3⟩)
  · have Gt:Hid (St (k+1) W3):=AV
    have HB3:=Z8 hB3;have Qu:=Z8 (hK3 _ HX.out);obtain ⟨cE,cV⟩:=ue.out (k+1) W3 Gt.out;have cS:=Qu.out.cell;have fS:=Qu.out.frozen;gi_wp2
    go_roundw
    case rel=>exact ⟨k+1,_,rG.out _ _ _ Gt.out,rF.out _ _ HB3.out,by rw [OO.out];omega,Qu.out.set _,hD2⟩
    case measure =>
     have e1:=(Qu.out.set (.string (r.extract (j+1) r.size))).cell;have e2:=HX.out.cell;unfold vu;rw [e1,e2];show (r.extract (j+1) r.size).size<r.size;rw [OO.out];omega
  have Gt:Hid (Pq W3):=AV;have HB3:=Z8 hB3;gi_wp2;refine ZT (TG rfl _ _ _) rfl ?_;exact ⟨⟨_,rfl⟩,.inr ⟨Gt.out,HB3.out⟩⟩
attribute [local go_sem] Uf
def EP (s:ByteArray) (w:World) (e:Ending) (w':World):Prop :=
 e=.returned (.func (.func 167) #[] #[.pointer (some ⟨w.heap.size+1,0,none⟩),.pointer (some ⟨w.heap.size,0,none⟩),.pointer (some ⟨w.heap.size+2,0,none⟩)]) ∧
 w'=((w.alloc (.cells #[.string s] 9)).alloc (.cells #[.string ⟨#[47]⟩] 9)).alloc (.cells #[.int .i64 0] 3)
theorem I8 (F:Fence) (n:Nat) (h87:F.fn 164) (hro:F.round=none) (s:ByteArray) (w:World) :
    CallsIn F n Tryz.prog 164 #[.string s,.string ⟨#[47]⟩,.int .i64 0] w (EP s w):=by
 refine Rf Tryz.func164 rfl h87 ?_ hro
 simp only [Tryz.ntmps164,WW,XQ,Wv,Nat.reduceAdd,Nat.reduceSub,DV,DU,Qv,Qz,TJ,Qy]
 gi_wp2;go_ret;exact ⟨rfl,rfl⟩
theorem I7 (n:Nat) (hn:1≤n) (s:ByteArray) (w:World) :
    CallsIn Fence.wide n Tryz.prog 156 #[.string s,.string ⟨#[47]⟩] w (EP s w):=by
 refine Rf Tryz.func156 rfl trivial ?_ rfl
 simp only [Tryz.ntmps156,WW,XQ,Wv,Nat.reduceAdd,Nat.reduceSub,DV,DU,Qv,Qz,TJ,Qy]
 gi_wp2_with fail
 refine ⟨trivial,?_⟩;refine (I8 Fence.wide _ trivial rfl s w).mono ?_;rintro e w5 ⟨rfl,PY⟩;have HW:=Z8 PY;clear PY;gi_wp2;go_ret;exact ⟨rfl,HW.out⟩
theorem ON:∀(l cur:List UInt8),((Wi cur l).map (fun p=>p.length+1)).sum=cur.length+l.length+1
 | [],cur=>by simp [Wi]
 | x :: l,cur=>by
  by_cases h:x=47
  · subst h;rw [Tc];have:=ON l [];simp only [Pc,Bp,this,XQ,Wv];omega
  rw [Uw h,ON l (cur++[x])];simp only [YE,XQ,Wv];omega
theorem AU:∀(rs:List (List UInt8)),rs.all Jz=true→(rs.map (fun p=>p.length+1)).sum≤17*rs.length
 | [],_=>by simp
 | p :: rs,h=>by
  rw [uz,Yg] at h;have h1:=AU rs h.2;have h2:p.length≤16:=by
   have:=h.1;unfold Jz Nk at this
   simp only [Yg,Zg] at this
   exact this.1.2
  simp only [Pc,Bp,XQ];omega
theorem I6 (h:102<s.size):Yc s=false:=by
 have h1:¬s.data.toList=[47]:=fun e=>by
  have:s.data.toList.length=1:=by rw [e];rfl
  have h2:s.data.toList.length=s.size:=rfl;omega
 rw [Uv h1]
 cases hn:(decide ((nm s).length≤6)) with
 | false=>simp
 | true =>
  cases ha:(nm s).all Jz with
  | false=>simp
  | true =>
   exfalso
   have h3:=AU _ ha;have h4:=ON (s.data.toList.drop 1) [];have h5:(s.data.toList.drop 1).length=s.size - 1:=by rw [Zv];rfl
   rw [h5] at h4;unfold nm at h3 hn;rw [h4] at h3
   simp at h3 hn
   omega
attribute [local go_sem] Uf
structure Jy (w:World) (R:List (List UInt8)) (k:Nat) (W:World):Prop where
 le:k≤R.length
 ok:(R.take k).all Jz=true
 res:Boxed W w.heap.size 4 (.bool false)
 dep:Boxed W (w.heap.size+1) 3 (.int .i64 (k:Int))
 txt:∃v,Boxed W (w.heap.size+2) 9 v
 sep:Boxed W (w.heap.size+3) 9 (.string ⟨#[47]⟩)
 E:Boxed W (w.heap.size+4) 3 (.int .i64 0)
 below:ZX w W
 size:w.heap.size+5≤W.heap.size
structure se (w:World) (R:List (List UInt8)) (W:World):Prop where
 no:R.all Jz=false
 res:Boxed W w.heap.size 4 (.bool false)
 below:ZX w W
 size:w.heap.size+5≤W.heap.size
theorem Wm {t:TypeId} (hb:ZX X Y) (h:Boxed X B t v):Boxed Y B t v:=(hb.block _ h.lt).trans h
theorem Jy.later {k:Nat} (h:Jy w R k X) (hb:ZX X Y):Jy w R k Y :=
 ⟨h.le,h.ok,Wm hb h.res,Wm hb h.dep,h.txt.imp (fun _ hv=>Wm hb hv),Wm hb h.sep,Wm hb h.E,h.below.trans (hb.mono (by have:=h.size;omega)),ZP h.size hb.size⟩
theorem Jy.Yq {k:Nat} {row:Option Nat} (h:Jy w R k X) (hg:X.grownBy Y row) (hr:∀r,row=some r→w.heap.size+5≤r∧∃o:Obj,X.heap[r]?=some o∧o.isCells=false):Jy w R k Y :=
 ⟨h.le,h.ok,h.res.kept hg (fun e=>by have:=(hr _ e.symm).1;omega),h.dep.kept hg (fun e=>by have:=(hr _ e.symm).1;omega),h.txt.imp (fun _ hv=>hv.kept hg (fun e=>by have:=(hr _ e.symm).1;omega)),h.sep.kept hg (fun e=>by have:=(hr _ e.symm).1;omega),h.E.kept hg (fun e=>by have:=(hr _ e.symm).1;omega),
  h.below.grown hg (by have:=h.size;omega) (fun q e=>by have:=(hr q e).1;omega),ZP h.size hg.size⟩
theorem se.Yq {row:Option Nat} (h:se w R X) (hg:X.grownBy Y row) (hr:∀r,row=some r→w.heap.size+5≤r∧∃o:Obj,X.heap[r]?=some o∧o.isCells=false):se w R Y :=
 ⟨h.no,h.res.kept hg (fun e=>by have:=(hr _ e.symm).1;omega),h.below.grown hg (by have:=h.size;omega) (fun q e=>by have:=(hr q e).1;omega),ZP h.size hg.size⟩
theorem Jy.put {k:Nat} (h:Jy w R k X) (v:Value):Jy w R k (X.setCell ⟨w.heap.size+2,0,none⟩ v):=by
 obtain ⟨u,hu⟩:=h.txt;exact ⟨h.le,h.ok,h.res.other (by omega) _,h.dep.other (by omega) _,⟨v,hu.set v⟩,h.sep.other (by omega) _,h.E.other (by omega) _,h.below.setCell (by simp) _,by simpa using h.size⟩
theorem Jy.step {k:Nat} (h:Jy w R k X) (hk:k<R.length) (ho:Nk (pN R k)=true):Jy w R (k+1) (X.setCell ⟨w.heap.size+1,0,none⟩ (.int .i64 ((k+1:Nat):Int))):=by
 obtain ⟨u,hu⟩:=h.txt;refine ⟨hk,?_,h.res.other (by omega) _,h.dep.set _,⟨u,hu.other (by omega) _⟩,h.sep.other (by omega) _,h.E.other (by omega) _,h.below.setCell (by simp) _,by simpa using h.size⟩;rw [Rm hk,List.all_append,h.ok];have e:pN R k=⟨R[k].toArray⟩:=by unfold pN;simp [List.getD,hk]
 rw [e] at ho
 simp [Jz,ho]
theorem Jy.left {k:Nat} (h:Jy w R k X) (hk:k<R.length) (ho:Nk (pN R k)=false):se w R (X.setCell ⟨w.heap.size,0,none⟩ (.bool false)) :=
 ⟨Lp hk ho,h.res.set _,h.below.setCell (by simp) _,by simpa using h.size⟩
theorem U9 (h:ZX X Y):KeepsFrom B X Y:=⟨h.size,fun k _ _ hk _=>(h.block k (Array.getElem?_eq_some_iff.1 hk).1).trans hk⟩
def oy (w:World) (R:List (List UInt8)) (tm:Value→Array Value) (k:Nat) (a':Act) (W:World):Prop:=k<R.length∧Jy w R k W∧a'={ tmps:=tm (.string (pN R k)),defers:=[] }
theorem Lm (w:World) (s:ByteArray) (hnr:(s.toList == [47])=false) (hs1:1≤s.size) (hs2:s.size≤102) (hb0:bN s 0=47) :
    Calls Tryz.prog 150 #[.string s] w fun e w'=>e=.returned (.bool (decide ((nm s).length≤6) && (nm s).all Jz))∧ZX w w':=by
 have h0:¬(102:Int)<(s.size:Int):=by omega
 have h1:(1:Int)≤(s.size:Int):=by omega
 have HB0:=Z8 hb0;clear hb0;refine (Xq (n:=6)).1 ?_;refine callsIn_of_wp_marks Tryz.func150 rfl trivial ?_ rfl
 simp only [Tryz.ntmps150,WW,XQ,Wv,Nat.reduceAdd,Nat.reduceSub,DV,DU,Qv,Qz,TJ,Qy]
 gi_wp2_with fail
 refine ⟨trivial,?_⟩;refine (Xq.2 (EQ _ s hs1)).mono ?_;rintro e w5 ⟨rfl,PY⟩;rw [YS HB0.out];subst PY
 gi_wp2_with fail
 refine ⟨trivial,?_⟩;refine (I7 _ (by omega) (s.extract 1 s.size) _).mono ?_;rintro e w5 ⟨rfl,PY⟩
 gi_wp2_with fail
 have s5:w5.heap.size=w.heap.size+5:=by rw [PY];simp
 have HT0:Hid (Boxed w5 (w.heap.size+2) 9 (.string (s.extract 1 s.size))):=by
  rw [PY];have:=(((Boxed.new ((w.alloc (.cells #[.bool false] 4)).alloc (.cells #[.int .i64 0] 3)) 9 (.string (s.extract 1 s.size))).alloc (.cells #[.string ⟨#[47]⟩] 9)).alloc (.cells #[.int .i64 0] 3));rw [XE,XE] at this;exact this
 have HR:Hid (nm s=Wi [] (s.extract 1 s.size).data.toList):=by
  show _=_;rw [Vx];unfold nm OU
  congr 1
  rw [We (by rw [Zv];exact ZW)]
 have xA:Hid (Jy w (nm s) 0 w5):=by
  have hsz:∀(X:World) (o:Obj),(X.alloc o).heap.size=X.heap.size+1:=fun X o=>XE X o
  refine ⟨ZQ _,by simp,?_,?_,⟨_,HT0.out⟩,?_,?_,?_,by omega⟩
  · rw [PY];exact ((((Boxed.new w 4 (.bool false)).alloc _).alloc _).alloc _).alloc _
  · rw [PY]
    have:=(((Boxed.new (w.alloc (.cells #[.bool false] 4)) 3 (.int .i64 0)).alloc (.cells #[.string (s.extract 1 s.size)] 9)).alloc (.cells #[.string ⟨#[47]⟩] 9)).alloc (.cells #[.int .i64 0] 3)
    simpa using this
  · rw [PY]
    have:=(Boxed.new (((w.alloc (.cells #[.bool false] 4)).alloc (.cells #[.int .i64 0] 3)).alloc (.cells #[.string (s.extract 1 s.size)] 9)) 9 (.string ⟨#[47]⟩)).alloc (.cells #[.int .i64 0] 3)
    simpa using this
  · rw [PY]
    have:=Boxed.new ((((w.alloc (.cells #[.bool false] 4)).alloc (.cells #[.int .i64 0] 3)).alloc (.cells #[.string (s.extract 1 s.size)] 9)).alloc (.cells #[.string ⟨#[47]⟩] 9)) 3 (.int .i64 0)
    simpa using this
  rw [PY];exact ((((ZR.alloc ZW _).alloc (by simp) _).alloc (by simp;omega) _).alloc (by simp;omega) _).alloc (by simp;omega) _
 rw [←PY];clear PY;have Z2:Hid ((nm s).length≤103):=by have:=A0 s;show _≤_;omega
 have I:Hid ((s.extract 1 s.size).size≤1048576):=by show _≤_;simp;omega
 generalize s.extract 1 s.size=sx at *;generalize rE:nm s=R at HR xA Z2;have ZZ:=Z8 rE;clear rE;refine Ln (F:=Fence.wide) (n:=6) rfl (by omega) (gf:=167) (lb:=#[.pointer (some ⟨w.heap.size+1+1+1,0,none⟩),.pointer (some ⟨w.heap.size+1+1,0,none⟩),.pointer (some ⟨w.heap.size+1+1+2,0,none⟩)]) rfl trivial (enters_of Tryz.func167 (by kernel_rfl) rfl)
  (fun k W=>Jy w R k W) (fun k vs W=>k<R.length∧vs=#[sV (R.getD k [])]) (fun k _=>k+1) (fun X Y=>∀v,Boxed X (w.heap.size+2) 9 v→Boxed Y (w.heap.size+2) 9 v) (fun k=>k=R.length) (se w R)
  (fun _ X Y row hs hg hr=>hs.Yq hg (fun r e=>by have:=hr r e;rw [s5] at this;exact this)) 0
  (fun k X Y row hs hg hr=>hs.Yq hg (fun r e=>by have:=hr r e;rw [s5] at this;exact this)) (fun h1 h2 v hv=>h2 v (h1 v hv))
  (fun W l o o' hl ho _ _ v hv=>hv.kept (grownBy_putObj' W l o') (fun e=>by injection e with e;omega))
  (fun k vs W hp=>by rw [hp.2];rfl) xA.out
  (fun k vs a' W=>oy w R (fun p=>#[.string s,undef,.pointer (some ⟨w.heap.size,0,none⟩),.pointer (some ⟨w.heap.size+1,0,none⟩),p,.string s,.bool false,.string s,.int .i64 s.size,.bool false,.bool false,.string s,.bool true,.bool false,.bool false,.string s,.string sx,.func (.func 167) #[] #[.pointer (some ⟨w.heap.size+1+1+1,0,none⟩),.pointer (some ⟨w.heap.size+1+1,0,none⟩),.pointer (some ⟨w.heap.size+1+1+2,0,none⟩)],p,undef,undef,undef,undef,undef,undef,undef]) k a' W)
  ?ax ?assign ?body ?call ?done ?stop
 case ax =>
  rintro k vs a' _ X Y row ⟨h1,h2,h3⟩ hg hr;exact ⟨h1,h2.Yq hg (fun r e=>by have:=hr r e;rw [s5] at this;exact this),h3⟩
 case assign =>
  rintro l k vs W K hs ⟨hlt,rfl⟩ hK;have HS:=Z8 hs;have HK:Hid (∀a' W',_→_→_→K a' W'):=hK;have Uu:=Z8 hlt;clear hs hK hlt;gi_wp2;refine HK.out _ _ (U9 ZR) (fun v h=>h) ⟨Uu.out,HS.out,rfl⟩
 case body =>
  rintro l k vs a' W ⟨hlt,hS,rfl⟩;have HS:=Z8 hS;have Uu:=Z8 hlt;have hk:k≤103:=by have:=Z2.out;omega
  clear hS hlt
  gi_wp2_with fail
  refine ⟨trivial,?_⟩;refine (Xq.2 (MY _ (pN R k))).mono ?_;rintro e w6 ⟨rfl,q,rfl⟩;have HS2:=Z8 (HS.out.later (below_drewN' W q));have ZN:Hid (KeepsFrom (w.heap.size+5) W (W.drewN q)):=U9 (below_drewN' W q);have vq:Hid (∀v,Boxed W (w.heap.size+2) 9 v→Boxed (W.drewN q) (w.heap.size+2) 9 v):=fun v hv=>Wm (below_drewN' W q) hv
  have cR:=HS.out.res.cell;have fR:=HS.out.res.frozen;have cD:=HS.out.dep.cell;have fD:=HS.out.dep.frozen
  by_cases hok:Nk (pN R k)=true
  · have HST:Hid _:=HS2.out.step Uu.out hok
    rw [hok];clear hok;gi_wp2;refine ⟨ZN.out.trans ((KeepsOthers.setCell _ _ _).from _),fun v hv=>(vq.out v hv).other (by omega) _,HST.out⟩
  have hok':Nk (pN R k)=false:=by simpa using hok
  have HST:Hid _:=HS2.out.left Uu.out hok';rw [hok'];clear hok hok';gi_wp2;refine ⟨ZN.out.trans ((KeepsOthers.setCell _ _ _).from _),HST.out⟩
 case call =>
  intro Bk PZ W1 rD pS hY hb5 hsz5 hs0 hb0;refine (Gu 5 (by omega) (w5.heap.size+1) (w.heap.size+2) (w.heap.size+3) (w.heap.size+4) R sx (fun k W=>Jy w R k W) (se w R) Bk PZ (fun k X Y hb h=>h.later hb) (fun X Y hb h=>rD X Y (U9 hb) h) (fun k X v h=>h.put v) (fun X v h=>rD _ _ ((KeepsOthers.setCell _ _ _).from _) h) (fun k W h=>⟨h.sep.cell,h.E.cell⟩) (fun k vs W hs hb hp=>?_) W1 hs0 hb0 ?_ I.out HR.out)
  · obtain ⟨fn,tm,pQ,bd,hy,hR⟩:=hY k vs W hs hb hp
    exact ⟨fn,tm,pQ,bd,hy,hR⟩
  exact (hb5.block _ (by omega)).trans HT0.out
 case done =>
  rintro D k W hD hfin hS hK;have O:=hfin;have hk:k≤103:=by have:=Z2.out;omega
  have ZI:Hid (R.all Jz=true):=by have:=hS.ok;rw [O,ui] at this;exact this
  have rC:=Z8 O;have hB:=hS.below;have zW:=hS.size;have cR:=hS.res.cell;have fR:=hS.res.frozen;have cD:=hS.dep.cell;have r9:=Z8 hS.res;clear hS hfin O;gi_wp2;have BX:ZX w (W.setCell ⟨w.heap.size,0,none⟩ (.bool (decide ((k:Int)≤6)))):=hB.setCell (by simp) _;have hK2:(W.setCell ⟨w.heap.size,0,none⟩ (.bool (decide ((k:Int)≤6)))).heap[D]?=some (.deferred (some [])):=(KeepsOthers.setCell _ _ _).same D _ hK rfl;have RX:Boxed (W.setCell ⟨w.heap.size,0,none⟩ (.bool (decide ((k:Int)≤6)))) w.heap.size 4 (.bool (decide ((k:Int)≤6))):=r9.out.set _;have SX:(W.setCell ⟨w.heap.size,0,none⟩ (.bool (decide ((k:Int)≤6)))).heap.size=W.heap.size:=by simp
  refine ⟨by simp,.inl ⟨_,_,rfl,run_takeDeferred hK2,?_⟩⟩;generalize W.setCell _ _=X at *;have GX:=grownBy_putObj' X D (.deferred none);have y0:=(RX.kept GX (by simp;omega)).cell;have BF:=BX.grown GX (by omega) (fun q e=>by injection e with e;omega);generalize X.putObj D (.deferred none)=Z at *;refine ⟨.bool (decide ((k:Int)≤6)),?_,?_,BF⟩
  · simp [results,Tryz.results150,go_sem,y0]
  refine ZH ?_;rw [ZZ.out,ZI.out,←rC.out,Bool.and_true];apply A6.2;omega
 case stop =>
  rintro D W hD hS hK;have zW:=hS.size;have HX:=Z8 hS;clear hS;gi_wp2;refine ⟨by simp,.inl ⟨_,_,rfl,run_takeDeferred hK,?_⟩⟩;have GX:=grownBy_putObj' W D (.deferred none);have y0:=(HX.out.res.kept GX (by simp;omega)).cell;have BF:=HX.out.below.grown GX (by omega) (fun q e=>by injection e with e;omega);have Su:=Z8 HX.out.no;generalize W.putObj D (.deferred none)=Z at *;refine ⟨.bool false,?_,?_,BF⟩
  · simp [results,Tryz.results150,go_sem,y0]
  refine ZH ?_;rw [ZZ.out,Su.out,Js]
theorem Ll (w:World) (s:ByteArray) :
    Calls Tryz.prog 150 #[.string s] w (Ze w (.bool (Yc s))):=by
 by_cases hr:s.data.toList=[47]
 · have hrt:(s.toList == [47])=true:=by rw [SC,hr];rfl
   have HP:=Z8 (P0 hr);clear hr
   go_enter Tryz.func150,Tryz.ntmps150
   go_wp2;refine ZT (v:=.bool true) ?_ rfl ?_
   · simp [results,Tryz.results150,go_sem]
   exact ⟨ZH HP.out.symm,ZR.alloc ZW _⟩
 have hrt:(s.toList == [47])=false:=by rw [SC,Xz];exact hr
 have HP:=Z8 (Uv hr)
 by_cases hl:102<s.size
 · have ud:(102:Int)<(s.size:Int):=by omega
   have Pr:=Z8 (I6 hl);clear hr HP
   go_enter Tryz.func150,Tryz.ntmps150
   go_wp2;refine ZT (v:=.bool false) ?_ rfl ?_
   · simp [results,Tryz.results150,go_sem]
   exact ⟨ZH Pr.out.symm,ZR.alloc ZW _⟩
 have ud:¬(102:Int)<(s.size:Int):=by omega
 by_cases h0:s.size=0
 · have Pr:Hid (Yc s=false):=by show _=_;rw [HP.out,Zl (by omega)];rfl
   have HZ:=Z8 h0;clear hr HP h0
   go_enter Tryz.func150,Tryz.ntmps150
   go_wp2_with fail
   refine (pre_none _ s HZ.out).mono ?_;rintro e w5 ⟨rfl,rfl⟩;go_wp2;refine ZT (v:=.bool false) ?_ rfl ?_
   · simp [results,Tryz.results150,go_sem]
   exact ⟨ZH Pr.out.symm,ZR.alloc ZW _⟩
 by_cases hb:bN s 0=47
 · have h2:2≤s.size:=by
    by_cases h2:2≤s.size
    · exact h2
    exfalso
    apply hr;have h3:s.data.toList.length=1:=by show s.size=1;omega
    unfold bN at hb
    cases e:s.data.toList with
    | nil=>rw [e] at h3;cases h3
    | cons x l =>
     rw [e] at h3 hb
     cases l with
     | nil=>simp only [List.getD_cons_zero] at hb;rw [show x=47 from UInt8.toNat_inj.1 hb]
     | cons y l=>simp at h3
   have:=Lm w s hrt (by omega) (by omega) hb;rw [HP.out,YS h2,YS hb];exact this
 have Pr:Hid (Yc s=false):=by show _=_;rw [HP.out,Zl hb,Js];rfl
 have ZE:=Z8 (Zl hb);clear hr HP hb
 go_enter Tryz.func150,Tryz.ntmps150
 go_wp2_with fail
 refine (EQ _ s (by omega)).mono ?_;rintro e w5 ⟨rfl,rfl⟩;rw [ZE.out];go_wp2;refine ZT (v:=.bool false) ?_ rfl ?_
 · simp [results,Tryz.results150,go_sem]
 exact ⟨ZH Pr.out.symm,ZR.alloc ZW _⟩
structure Nd where
 path:ByteArray
 data:ByteArray
 Ym:Int
 ZD:Int
 cz:Int
 mz:Int
 pz:Int
def Rr (n:Nd):List Value:=[.string n.path,.string n.data,.int .i64 n.Ym,.int .i64 n.ZD,.int .i64 n.cz,.int .i64 n.mz,.int .i64 n.pz]
def nd0:Nd:=⟨ByteArray.empty,ByteArray.empty,0,0,0,0,0⟩
def Zy (ns:List Nd) (i:Nat):Nd:=ns.getD i nd0
theorem WO {ns:List Nd} (h:i<ns.length):Zy ns i=ns[i]:=by unfold Zy;simp [List.getD,h]
structure WV (w:World) (b p:Nat) (n:Nd):Prop where
 c0:w.cell? ⟨b,p,none⟩=some (.string n.path)
 c1:w.cell? ⟨b,p+1,none⟩=some (.string n.data)
 c2:w.cell? ⟨b,p+2,none⟩=some (.int .i64 n.Ym)
 c3:w.cell? ⟨b,p+3,none⟩=some (.int .i64 n.ZD)
 c4:w.cell? ⟨b,p+4,none⟩=some (.int .i64 n.cz)
 c5:w.cell? ⟨b,p+5,none⟩=some (.int .i64 n.mz)
 c6:w.cell? ⟨b,p+6,none⟩=some (.int .i64 n.pz)
theorem WV.below {n:Nd} (h:WV w b p n) (hb:Below m w w') (hl:b<m):WV w' b p n :=
 ⟨(hb.cell (p:=⟨b,_,none⟩) hl).trans h.c0,(hb.cell (p:=⟨b,_,none⟩) hl).trans h.c1,(hb.cell (p:=⟨b,_,none⟩) hl).trans h.c2,(hb.cell (p:=⟨b,_,none⟩) hl).trans h.c3,
  (hb.cell (p:=⟨b,_,none⟩) hl).trans h.c4,(hb.cell (p:=⟨b,_,none⟩) hl).trans h.c5,(hb.cell (p:=⟨b,_,none⟩) hl).trans h.c6⟩
def VL (w:World) (v:Value) (ns:List Nd):Prop :=
 ∃ao cap,v=.slice ao ns.length cap∧ns.length≤cap∧cap≤maxLen ∧
  (ns=[]∨∃b off,ao=some ⟨b,off,none⟩∧b<w.heap.size∧∀i,i<ns.length→WV w b (off+i*7) (Zy ns i))
theorem VL.len {ns:List Nd} (h:VL w v ns):∃ao cap,v=.slice ao ns.length cap∧ns.length≤cap∧cap≤maxLen:=by
 obtain ⟨ao,cap,h0,h1,h2,_⟩:=h;exact ⟨ao,cap,h0,h1,h2⟩
theorem VL.below {ns:List Nd} (h:VL w v ns) (hb:ZX w w'):VL w' v ns:=by
 obtain ⟨ao,cap,rfl,h1,h2,h3⟩:=h;refine ⟨ao,cap,rfl,h1,h2,?_⟩
 rcases h3 with h3 | ⟨b,off,rfl,hlt,hc⟩
 · exact .inl h3
 exact .inr ⟨b,off,rfl,ZB hlt hb.size,fun i hi=>(hc i hi).below hb hlt⟩
def Yd (ns:List Nd):List Value:=ns.flatMap Rr
theorem VK (n:Nd) (ns:List Nd):Yd (n :: ns)=Rr n++Yd ns:=by simp [Yd]
theorem UZ (ns ms:List Nd):Yd (ns++ms)=Yd ns++Yd ms:=by simp [Yd]
theorem Vw:∀ns:List Nd,(Yd ns).length=ns.length*7
 | []=>rfl
 | n :: ns=>by rw [VK,YE,Vw ns,XQ];show 7+_=_;omega
theorem OM:∀(ns:List Nd) (i j:Nat),i<ns.length→j<7→(Yd ns)[i*7+j]?=(Rr (Zy ns i))[j]?
 | [],i,j,h,_=>by simp at h
 | n :: ns,0,j,_,hj=>by
  rw [VK,E9,Wn,Qw (by show j<7;exact hj)];rfl
 | n :: ns,i+1,j,h,hj=>by
  rw [VK,Nb (by show 7≤_;omega),show (i+1)*7+j - (Rr n).length=i*7+j by show (i+1)*7+j - 7=_;omega,OM ns i j (by simpa using h) hj]
  rfl
def AT (L:List Value) (p:Nat) (n:Nd):List Value :=
 ((((((L.set p (.string n.path)).set (p+1) (.string n.data)).set (p+2) (.int .i64 n.Ym)).set (p+3) (.int .i64 n.ZD)).set (p+4) (.int .i64 n.cz)).set (p+5) (.int .i64 n.mz)).set (p+6) (.int .i64 n.pz)
theorem AS (a L:List Value) (p:Nat) (n:Nd) (h:a.length=7):AT (a++L) (7+p) n=a++AT L p n:=by
 unfold AT;have e:∀(M:List Value) (q:Nat) (v:Value),(a++M).set (7+q) v=a++M.set q v:=fun M q v=>by
  rw [rK _ _ (by omega)];congr 2;omega
 rw [e,show 7+p+1=7+(p+1) by omega,e,show 7+p+2=7+(p+2) by omega,e,show 7+p+3=7+(p+3) by omega,e,show 7+p+4=7+(p+4) by omega,e,show 7+p+5=7+(p+5) by omega,e,show 7+p+6=7+(p+6) by omega,e]
theorem I5:∀(ns:List Nd) (k:Nat) (n:Nd),k<ns.length→AT (Yd ns) (k*7) n=Yd (ns.set k n)
 | [],k,n,h=>by simp at h
 | m :: ns,0,n,_=>by
  rw [VK,List.set_cons_zero,VK]
  rfl
 | m :: ns,k+1,n,h=>by
  rw [VK,List.set_cons_succ,VK,show (k+1)*7=7+k*7 by omega,AS _ _ _ _ rfl,I5 ns k n (by simpa using h)]
def ZU (e:TypeId) (w:World) (lo:Nat) (v:Value) (ns:List Nd):Prop:=w.ownsRow lo e 7 v ns.length (Yd ns)
theorem ZU.rd {ns:List Nd} (h:ZU e w lo v ns):VL w v ns:=by
 rcases h.2 with ⟨rfl,h0⟩ | ⟨g,cap,cur,rfl,hb,hg,hn,hm,hs,ht⟩
 · have:ns=[]:=Vj h0
   subst this;exact ⟨none,0,rfl,ZW,ZQ _,.inl rfl⟩
 refine ⟨_,cap,rfl,hn,hm,.inr ⟨g,0,rfl,(Array.getElem?_eq_some_iff.1 hg).1,fun i hi=>?_⟩⟩;have c:∀j,j<7→w.cell? ⟨g,0+(i*7+j),none⟩=(Rr (Zy ns i))[j]?:=fun j hj=>by
  have hh:=OM ns i j hi hj;have h9:(Rr (Zy ns i))[j]?=some ((Rr (Zy ns i)).getD j undef):=by
   match j,hj with
   | 0,_=>rfl
   | 1,_=>rfl
   | 2,_=>rfl
   | 3,_=>rfl
   | 4,_=>rfl
   | 5,_=>rfl
   | 6,_=>rfl
  rw [h9] at hh;have:=Va h (g:=g) rfl (i*7+j) _ hh;rw [GM] at this;rw [this,h9]
 exact ⟨c 0 (by omega),c 1 (by omega),c 2 (by omega),c 3 (by omega),c 4 (by omega),c 5 (by omega),c 6 (by omega)⟩
theorem ZU.below {ns:List Nd} (h:ZU e w lo v ns) (hb:ZX w w'):ZU e w' lo v ns:=by
 refine ⟨h.1,?_⟩
 rcases h.2 with hn | ⟨g,cap,cur,rfl,hbg,hgg,rest⟩
 · exact .inl hn
 exact .inr ⟨g,cap,cur,rfl,hbg,by rw [hb.block g (Array.getElem?_eq_some_iff.1 hgg).1];exact hgg,rest⟩
theorem ZU.mono {ns:List Nd} (h:ZU e w lo v ns) (hl:lo'≤lo):ZU e w lo' v ns:=by
 refine ⟨h.1,?_⟩
 rcases h.2 with hn | ⟨g,cap,cur,rfl,hbg,rest⟩
 · exact .inl hn
 exact .inr ⟨g,cap,cur,rfl,ZP hl hbg,rest⟩
theorem ZU.slice {ns:List Nd} (h:ZU e w lo v ns):∃a c,v=.slice a ns.length c:=by
 obtain ⟨a,c,h0,_⟩:=h.rd.len;exact ⟨a,c,h0⟩
@[reducible] def rB (W:World) (b p:Nat) (n:Nd):Prop:=W.cell? ⟨b,p,none⟩=some (.string n.path)∧W.cell? ⟨b,p+1,none⟩=some (.string n.data)∧W.cell? ⟨b,p+2,none⟩=some (.int .i64 n.Ym)∧W.cell? ⟨b,p+3,none⟩=some (.int .i64 n.ZD)∧W.cell? ⟨b,p+4,none⟩=some (.int .i64 n.cz)∧W.cell? ⟨b,p+5,none⟩=some (.int .i64 n.mz)∧W.cell? ⟨b,p+6,none⟩=some (.int .i64 n.pz)
@[reducible] def qf (W:World) (b:Nat) (n:Nd):Prop:=W.cell? ⟨b,0,none⟩=some (.string n.path)∧W.cell? ⟨b,1,none⟩=some (.string n.data)∧W.cell? ⟨b,2,none⟩=some (.int .i64 n.Ym)∧W.cell? ⟨b,3,none⟩=some (.int .i64 n.ZD)∧W.cell? ⟨b,4,none⟩=some (.int .i64 n.cz)∧W.cell? ⟨b,5,none⟩=some (.int .i64 n.mz)∧W.cell? ⟨b,6,none⟩=some (.int .i64 n.pz)
theorem Tryz.LP:(Tryz.prog.info? 134).map (fun i=>(i.zero,i.size,i.bytes))=some (some (.agg #[.string ByteArray.empty,.string ByteArray.empty,.int .i64 0,.int .i64 0,.int .i64 0,.int .i64 0,.int .i64 0]),7,72):=by kernel_rfl
theorem ZU.ZK {ns:List Nd} (h:ZU e w lo v ns) {a:Addr} (ha:a.block<lo) (u:Value):ZU e (w.setCell a u) lo v ns:=LY h ha u
theorem I4 (w:World) (n:Nd) :
    Calls Tryz.prog 113 #[.agg #[.string n.path,.string n.data,.int .i64 n.Ym,.int .i64 n.ZD,.int .i64 n.cz,.int .i64 n.mz,.int .i64 n.pz],.agg #[.string n.path,.string n.data,.int .i64 n.Ym,.int .i64 n.ZD,.int .i64 n.cz,.int .i64 n.mz,.int .i64 n.pz]] w (Ze w (.bool true)):=by
 have HB:Hid (∀o1 o2,ZX w ((w.alloc o1).alloc o2)):=fun o1 o2=>(ZR.alloc ZW _).alloc (by simp) _
 go_enter Tryz.func113,Tryz.ntmps113
 go_wp2;go_ret;exact ⟨rfl,HB.out _ _⟩
theorem I3 (w:World) (b o b2 o2 n ca cb:Nat) (ns:List Nd) (hn:n≤1048576) (hb:b<w.heap.size) (hb2:b2<w.heap.size)
    (hc:∀i,i<n→WV w b (o+i*7) (Zy ns i)) (hc2:∀i,i<n→WV w b2 (o2+i*7) (Zy ns i)) :
    Calls Tryz.prog 80 #[.slice (some ⟨b,o,none⟩) n ca,.slice (some ⟨b2,o2,none⟩) n cb] w (Ze w (.bool true)):=by
 have HC:=Z8 hc;have yi:=Z8 hc2;clear hc hc2;have h1:((n:Int) != (n:Int))=false:=by simp
 go_enter Tryz.func80,Tryz.ntmps80
 go_wp2
 go_loopw [5] (fun i wr=>∃k:Nat,k≤n∧i=.int .i64 k∧Hid (ZX w wr)) (fun i _=>n - (intOf i).toNat)
 case atStart=>exact ⟨0,ZQ _,rfl,ZR⟩
 case round =>
  obtain ⟨k,hk,rfl,HG⟩:=hrel
  by_cases hlt:k<n
  · obtain ⟨c0,c1,c2,c3,c4,c5,c6⟩:=(HC.out k hlt).below HG.out hb
    obtain ⟨d0,d1,d2,d3,d4,d5,d6⟩:=(yi.out k hlt).below HG.out hb2;have YN:(k:Int)<(n:Int):=by omega
    have HE:Hid (∀q,Calls Tryz.prog 113 #[.agg #[.string (Zy ns k).path,.string (Zy ns k).data,.int .i64 (Zy ns k).Ym,.int .i64 (Zy ns k).ZD,.int .i64 (Zy ns k).cz,.int .i64 (Zy ns k).mz,.int .i64 (Zy ns k).pz],.agg #[.string (Zy ns k).path,.string (Zy ns k).data,.int .i64 (Zy ns k).Ym,.int .i64 (Zy ns k).ZD,.int .i64 (Zy ns k).cz,.int .i64 (Zy ns k).mz,.int .i64 (Zy ns k).pz]] (wr.drewN q) (Ze w (.bool true))):=by
     intro q;refine (I4 _ (Zy ns k)).mono ?_;rintro e w' ⟨rfl,b'⟩;exact ⟨rfl,(HG.out.trans ((below_drewN' wr q).mono HG.out.size)).trans (b'.mono HG.out.size)⟩
    go_wp2
    go_region_with (go_at_call 113;refine (HE.out 1).mono ?_;rintro e w' ⟨rfl,b'⟩)
    all_goals
     have HB:=Z8 b';clear b';go_wp2
     go_roundw
     case rel=>exact ⟨k+1,by omega,by go_num,HB⟩
     case measure=>simp [intOf];omega
  go_wp2;go_ret;exact ⟨rfl,HG.out⟩
theorem PW (w:World) (ao bo:Option Addr) (ca cb:Nat) :
    Calls Tryz.prog 80 #[.slice ao 0 ca,.slice bo 0 cb] w fun e w'=>e=.returned (.bool true)∧w'=w:=by
 go_enter Tryz.func80,Tryz.ntmps80
 go_wp2
 go_rounds 1
 go_ret;exact ⟨rfl,rfl⟩
theorem Lj (w:World) (va vb:Value) (ns:List Nd) (ha:VL w va ns) (hb:VL w vb ns) (hn:ns.length≤1048576) :
    Calls Tryz.prog 80 #[va,vb] w (Ze w (.bool true)):=by
 obtain ⟨ao,ca,rfl,h1,h2,h3⟩:=ha;obtain ⟨bo,cb,rfl,k1,k2,k3⟩:=hb
 rcases h3 with rfl | ⟨b,o,rfl,hb,hc⟩
 · refine (PW w ao bo ca cb).mono ?_
   rintro e w' ⟨rfl,rfl⟩;exact ⟨rfl,ZR⟩
 rcases k3 with rfl | ⟨b2,o2,rfl,hb2,hc2⟩
 · refine (PW w _ bo ca cb).mono ?_
   rintro e w' ⟨rfl,rfl⟩;exact ⟨rfl,ZR⟩
 exact I3 w b o b2 o2 ns.length ca cb ns hn hb hb2 hc hc2
theorem I2 (w:World) (va vb:Value) (ns:List Nd) (ha:VL w va ns) (hb:VL w vb ns) (hn:ns.length≤1048576) :
    Calls Tryz.prog 39 #[.agg #[va],.agg #[vb]] w (Ze w (.bool true)):=by
 have B0:Hid (ZX w ((w.alloc (.cells #[va] 33)).alloc (.cells #[vb] 33))):=(ZR.alloc ZW _).alloc (by simp) _;have RA:=Z8 (ha.below B0.out);have RB:=Z8 (hb.below B0.out);clear ha hb
 go_enter Tryz.func39,Tryz.ntmps39
 go_wp2_with fail
 refine (Lj _ _ _ ns RA.out RB.out hn).mono ?_;rintro e w1 ⟨rfl,b1⟩;have B1:=Z8 (B0.out.trans (b1.mono (by simp;omega)));clear b1;go_wp2;go_ret;exact ⟨rfl,B1.out⟩
structure Ef where
 del:Bool
 nd:Nd
def Pp (e:Ef):List Value:=[.bool e.del,.string e.nd.path,.string e.nd.data,.int .i64 e.nd.Ym,.int .i64 e.nd.ZD,.int .i64 e.nd.cz,.int .i64 e.nd.mz,.int .i64 e.nd.pz]
def pP:Ef:=⟨false,nd0⟩
def Zh (ns:List Ef) (i:Nat):Ef:=ns.getD i pP
theorem Ra {ns:List Ef} (h:i<ns.length):Zh ns i=ns[i]:=by unfold Zh;simp [List.getD,h]
structure TF (w:World) (b p:Nat) (n:Ef):Prop where
 c0:w.cell? ⟨b,p,none⟩=some (.bool n.del)
 c1:w.cell? ⟨b,p+1,none⟩=some (.string n.nd.path)
 c2:w.cell? ⟨b,p+2,none⟩=some (.string n.nd.data)
 c3:w.cell? ⟨b,p+3,none⟩=some (.int .i64 n.nd.Ym)
 c4:w.cell? ⟨b,p+4,none⟩=some (.int .i64 n.nd.ZD)
 c5:w.cell? ⟨b,p+5,none⟩=some (.int .i64 n.nd.cz)
 c6:w.cell? ⟨b,p+6,none⟩=some (.int .i64 n.nd.mz)
 c7:w.cell? ⟨b,p+7,none⟩=some (.int .i64 n.nd.pz)
theorem TF.below {n:Ef} (h:TF w b p n) (hb:Below m w w') (hl:b<m):TF w' b p n :=
 ⟨(hb.cell (p:=⟨b,_,none⟩) hl).trans h.c0,(hb.cell (p:=⟨b,_,none⟩) hl).trans h.c1,(hb.cell (p:=⟨b,_,none⟩) hl).trans h.c2,(hb.cell (p:=⟨b,_,none⟩) hl).trans h.c3,(hb.cell (p:=⟨b,_,none⟩) hl).trans h.c4,(hb.cell (p:=⟨b,_,none⟩) hl).trans h.c5,(hb.cell (p:=⟨b,_,none⟩) hl).trans h.c6,(hb.cell (p:=⟨b,_,none⟩) hl).trans h.c7⟩
def BL (w:World) (v:Value) (ns:List Ef):Prop :=
 ∃ao cap,v=.slice ao ns.length cap∧ns.length≤cap∧cap≤maxLen ∧
  (ns=[]∨∃b off,ao=some ⟨b,off,none⟩∧b<w.heap.size∧∀i,i<ns.length→TF w b (off+i*8) (Zh ns i))
theorem BL.len {ns:List Ef} (h:BL w v ns):∃ao cap,v=.slice ao ns.length cap∧ns.length≤cap∧cap≤maxLen:=by
 obtain ⟨ao,cap,h0,h1,h2,_⟩:=h;exact ⟨ao,cap,h0,h1,h2⟩
theorem BL.below {ns:List Ef} (h:BL w v ns) (hb:ZX w w'):BL w' v ns:=by
 obtain ⟨ao,cap,rfl,h1,h2,h3⟩:=h;refine ⟨ao,cap,rfl,h1,h2,?_⟩
 rcases h3 with h3 | ⟨b,off,rfl,hlt,hc⟩
 · exact .inl h3
 exact .inr ⟨b,off,rfl,ZB hlt hb.size,fun i hi=>(hc i hi).below hb hlt⟩
def Q9 (ns:List Ef):List Value:=ns.flatMap Pp
theorem LO (n:Ef) (ns:List Ef):Q9 (n :: ns)=Pp n++Q9 ns:=by simp [Q9]
theorem I1 (ns ms:List Ef):Q9 (ns++ms)=Q9 ns++Q9 ms:=by simp [Q9]
theorem I0:∀(ns:List Ef) (i j:Nat),i<ns.length→j<8→(Q9 ns)[i*8+j]?=(Pp (Zh ns i))[j]?
 | [],i,j,h,_=>by simp at h
 | n :: ns,0,j,_,hj=>by
  rw [LO,E9,Wn,Qw (by show j<8;exact hj)];rfl
 | n :: ns,i+1,j,h,hj=>by
  rw [LO,Nb (by show 8≤_;omega),show (i+1)*8+j - (Pp n).length=i*8+j by show (i+1)*8+j - 8=_;omega,I0 ns i j (by simpa using h) hj]
  rfl
def Xr (e:TypeId) (w:World) (lo:Nat) (v:Value) (ns:List Ef):Prop:=w.ownsRow lo e 8 v ns.length (Q9 ns)
theorem Xr.rd {ns:List Ef} (h:Xr e w lo v ns):BL w v ns:=by
 rcases h.2 with ⟨rfl,h0⟩ | ⟨g,cap,cur,rfl,hb,hg,hn,hm,hs,ht⟩
 · have:ns=[]:=Vj h0
   subst this;exact ⟨none,0,rfl,ZW,ZQ _,.inl rfl⟩
 refine ⟨_,cap,rfl,hn,hm,.inr ⟨g,0,rfl,(Array.getElem?_eq_some_iff.1 hg).1,fun i hi=>?_⟩⟩;have c:∀j,j<8→w.cell? ⟨g,0+(i*8+j),none⟩=(Pp (Zh ns i))[j]?:=fun j hj=>by
  have hh:=I0 ns i j hi hj;have h9:(Pp (Zh ns i))[j]?=some ((Pp (Zh ns i)).getD j undef):=by
   match j,hj with
   | 0,_=>rfl
   | 1,_=>rfl
   | 2,_=>rfl
   | 3,_=>rfl
   | 4,_=>rfl
   | 5,_=>rfl
   | 6,_=>rfl
   | 7,_=>rfl
  rw [h9] at hh;have:=Va h (g:=g) rfl (i*8+j) _ hh;rw [GM] at this;rw [this,h9]
 exact ⟨c 0 (by omega),c 1 (by omega),c 2 (by omega),c 3 (by omega),c 4 (by omega),c 5 (by omega),c 6 (by omega),c 7 (by omega)⟩
theorem Xr.below {ns:List Ef} (h:Xr e w lo v ns) (hb:ZX w w'):Xr e w' lo v ns:=by
 refine ⟨h.1,?_⟩
 rcases h.2 with hn | ⟨g,cap,cur,rfl,hbg,hgg,rest⟩
 · exact .inl hn
 exact .inr ⟨g,cap,cur,rfl,hbg,by rw [hb.block g (Array.getElem?_eq_some_iff.1 hgg).1];exact hgg,rest⟩
theorem Xr.mono {ns:List Ef} (h:Xr e w lo v ns) (hl:lo'≤lo):Xr e w lo' v ns:=by
 refine ⟨h.1,?_⟩
 rcases h.2 with hn | ⟨g,cap,cur,rfl,hbg,rest⟩
 · exact .inl hn
 exact .inr ⟨g,cap,cur,rfl,ZP hl hbg,rest⟩
theorem Xr.slice {ns:List Ef} (h:Xr e w lo v ns):∃a c,v=.slice a ns.length c:=by
 obtain ⟨a,c,h0,_⟩:=h.rd.len;exact ⟨a,c,h0⟩
@[reducible] def xz (W:World) (b:Nat) (n:Ef):Prop:=W.cell? ⟨b,0,none⟩=some (.bool n.del)∧W.cell? ⟨b,1,none⟩=some (.string n.nd.path)∧W.cell? ⟨b,2,none⟩=some (.string n.nd.data)∧W.cell? ⟨b,3,none⟩=some (.int .i64 n.nd.Ym)∧W.cell? ⟨b,4,none⟩=some (.int .i64 n.nd.ZD)∧W.cell? ⟨b,5,none⟩=some (.int .i64 n.nd.cz)∧W.cell? ⟨b,6,none⟩=some (.int .i64 n.nd.mz)∧W.cell? ⟨b,7,none⟩=some (.int .i64 n.nd.pz)
theorem Tryz.Vv:(Tryz.prog.info? 5).map (fun i=>(i.zero,i.size,i.bytes))=some (some (.int .u8 0),1,1):=by kernel_rfl
theorem ZJ {a b:Bool} (h:a=b):Ending.returned (.bool a)=.returned (.bool b):=by rw [h]
theorem Xo {a b:Int} (h:a=b):Ending.returned (.int k a)=.returned (.int k b):=by rw [h]
theorem Li {k:Nat} (hx:k<xs.length) (hy:k<ys.length) (h:xs.take k=ys.take k) (hk:xs.getD k 0=ys.getD k 0):xs.take (k+1)=ys.take (k+1):=by
 rw [Rm hx,Rm hy,h]
 simp [List.getD,hx,hy] at hk
 rw [hk]
theorem Gs {k:Nat} (hk:¬xs.getD k 0=ys.getD k 0):¬xs=ys:=by
 intro h;subst h;exact hk rfl
theorem IY (w:World) (ao bo:Option Addr) (n m ca cb:Nat) (h:n≠m) :
    Calls Tryz.prog 40 #[.slice ao n ca,.slice bo m cb] w fun e w'=>e=.returned (.bool false)∧w'=w:=by
 have h1:((n:Int) != (m:Int))=true:=by rw [Rg];omega
 go_enter Tryz.func40,Tryz.ntmps40
 go_wp2;go_ret;exact ⟨rfl,rfl⟩
theorem PV (w:World) (ao bo:Option Addr) (ca cb:Nat) :
    Calls Tryz.prog 40 #[.slice ao 0 ca,.slice bo 0 cb] w fun e w'=>e=.returned (.bool true)∧w'=w:=by
 go_enter Tryz.func40,Tryz.ntmps40
 go_wp2
 go_rounds 1
 go_ret;exact ⟨rfl,rfl⟩
theorem IX (w:World) (b o b2 o2 n ca cb:Nat) (hn:n≤maxLen) (xs ys:List Int) (hx:xs.length=n) (hy:ys.length=n)
    (hcx:∀i,i<n→w.cell? ⟨b,o+i,none⟩=some (.int .u8 (xs.getD i 0))) (hcy:∀i,i<n→w.cell? ⟨b2,o2+i,none⟩=some (.int .u8 (ys.getD i 0))) :
    Calls Tryz.prog 40 #[.slice (some ⟨b,o,none⟩) n ca,.slice (some ⟨b2,o2,none⟩) n cb] w fun e w'=>e=.returned (.bool (decide (xs=ys)))∧∃q,w'=w.drewN q:=by
 unfold maxLen at hn;have HX:=Z8 hx;have HY:=Z8 hy;have CX:=Z8 hcx;have CY:=Z8 hcy;clear hx hy hcx hcy;have h1:((n:Int) != (n:Int))=false:=by simp
 go_enter Tryz.func40,Tryz.ntmps40
 go_wp2
 go_loopw [5] (fun i wr=>∃k:Nat,k≤n∧i=.int .i64 k∧Hid (xs.take k=ys.take k)∧∃q,wr=w.drewN q) (fun i _=>n - (intOf i).toNat)
 case atStart=>exact ⟨0,ZQ _,rfl,rfl,0,rfl⟩
 case round =>
  obtain ⟨k,hk,rfl,HT,q,rfl⟩:=hrel
  by_cases hlt:k<n
  · have c1:=CX.out k hlt
    have c2:=CY.out k hlt;have YN:(k:Int)<(n:Int):=by omega
    generalize hu:xs.getD k 0=u at c1;generalize hv:ys.getD k 0=v at c2;have HU:=Z8 hu;have HV:=Z8 hv;clear hu hv
    by_cases he:u=v
    · have hb:(u != v)=false:=by simp [he]
      have HE:=Z8 he;clear he;go_wp2
      go_quiet (fail)
      go_wp2
      go_roundw
      case rel=>exact ⟨k+1,by omega,by go_num,Li (by rw [HX.out];omega) (by rw [HY.out];omega) HT.out (by rw [HU.out,HV.out,HE.out]),_,rfl⟩
      case measure=>simp [intOf];omega
    have hb:(u != v)=true:=by simp [he]
    have HE:=Z8 he;clear he;go_wp2
    go_quiet (fail)
    go_wp2;go_ret;exact ⟨ZJ (by symm;rw [Rc];exact Gs (k:=k) (by rw [HU.out,HV.out];exact HE.out)),_,World.drewN_drewN _ _ _⟩
  go_wp2;go_ret;exact ⟨ZJ (by symm;rw [decide_eq_true_iff];have h:=HT.out;rw [We (by rw [HX.out];omega),We (by rw [HY.out];omega)] at h;exact h),_,rfl⟩
theorem PU (w:World) (va vb:Value) (xs ys:List Int) (ha:Rd .u8 w va xs) (hb:Rd .u8 w vb ys) :
    Calls Tryz.prog 40 #[va,vb] w fun e w'=>e=.returned (.bool (decide (xs=ys)))∧∃q,w'=w.drewN q:=by
 obtain ⟨ao,ca,rfl,h1,h2,h3⟩:=ha;obtain ⟨bo,cb,rfl,k1,k2,k3⟩:=hb
 by_cases hne:xs.length=ys.length
 · rcases h3 with rfl | ⟨b,o,rfl,_,hc⟩
   · have hy:=Vj hne.symm
     subst hy;refine (PV w ao bo ca cb).mono ?_;rintro e w' ⟨rfl,rfl⟩;exact ⟨ZJ (by simp),0,rfl⟩
   rcases k3 with rfl | ⟨b2,o2,rfl,_,hc2⟩
   · have hx:=Vj hne
     subst hx;refine (PV w _ bo ca cb).mono ?_;rintro e w' ⟨rfl,rfl⟩;exact ⟨ZJ (by simp),0,rfl⟩
   rw [←hne] at hc2 ⊢;exact IX w b o b2 o2 xs.length ca cb (by omega) xs ys rfl hne.symm hc hc2
 refine (IY w ao bo _ _ ca cb hne).mono ?_;rintro e w' ⟨rfl,rfl⟩;exact ⟨ZJ (by symm;rw [Rc];intro h;exact hne (by rw [h])),0,rfl⟩
def mix (ys xs:List Int) (i:Nat):List Int:=ys.take i++xs.drop i
theorem Wt (h:ys.length=xs.length) (i:Nat):(mix ys xs i).length=xs.length:=by
 simp [mix];omega
theorem OJ (ys xs:List Int):mix ys xs 0=xs:=by simp [mix]
theorem Lh (h:ys.length=xs.length) (hi:xs.length≤i):mix ys xs i=ys:=by
 simp [mix,We (show ys.length≤i by omega),Qx hi]
theorem xy (h:ys.length=xs.length) (hi:i<xs.length):(mix ys xs i).set i (ys.getD i 0)=mix ys xs (i+1):=by
 apply Lr;intro j;unfold mix;rw [Gz]
 by_cases e:i=j
 · subst e
   have h1:i<(ys.take i++xs.drop i).length:=by simp;omega
   have h2:i<(ys.take (i+1)).length:=by simp;omega
   rw [ZY rfl,ZY h1,Qw h2,Sx (by omega)]
   simp [List.getD,show i<ys.length by omega]
 rw [Z3 e]
 by_cases hlt:j<i
 · rw [Qw (by simp;omega),Qw (by simp;omega),Sx hlt,Sx (by omega)]
 rw [Nb (by simp;omega),Nb (by simp;omega),Pd,Pd]
 simp only [YC]
 congr 1
 omega
theorem Own.mixed (hy:ys.length=xs.length) (hn:xs.length=n) (hi:i<xs.length)
    (h:Own k e w base (.slice (some ⟨g,0,none⟩) n cap) (mix ys xs i)) {u:Int} (hu:u=ys.getD i 0) :
    Own k e (w.setCell ⟨g,i,none⟩ (.int k u)) base (.slice (some ⟨g,0,none⟩) n cap) (mix ys xs (i+1)):=by
 subst hu;unfold Own at h ⊢;rw [Wt hy,hn] at h ⊢;have:=(OV h i (.int k (ys.getD i 0))).1;rw [←List.map_set,xy hy hi] at this;exact this
theorem grownBy_set (w w':World) (g i:Nat) (u:Value) (h:w.grownBy w' (some g)):w.grownBy (w'.setCell ⟨g,i,none⟩ u) (some g) :=
 ⟨h.os,h.tape,h.output,by simpa using h.size,fun k hk hne=>by
  have hs:=h.size;rw [←h.block k hk hne];exact Mh _ _ _ _ (fun e=>hne (by rw [e]))⟩
def marks (k:Int) (n:Nat):List Int:=(List.range n).map fun (i:Nat)=>(k+(i:Int)) % 256
theorem YG (k:Int) (n:Nat):(marks k n).length=n:=by simp [marks]
theorem RY (k:Int) (n i:Nat) (h:i<n):(marks k n).getD i 0=(k+i) % 256:=by simp [marks,List.getD,h]
theorem Own.row (h:Own k e w base v xs) :
    (v=.slice none 0 0∧xs=[])∨∃g cap,v=.slice (some ⟨g,0,none⟩) xs.length cap∧base≤g∧xs.length≤cap∧cap≤maxLen:=by
 rcases h.2 with ⟨rfl,h0⟩ | ⟨g,cap,cur,rfl,hb,hg,hn,hm,_⟩
 · exact .inl ⟨rfl,Vj h0⟩
 exact .inr ⟨g,cap,rfl,hb,hn,hm⟩
theorem MW (w:World) (base g n cap:Nat) (xs:List Int) (k:Int) (hx:xs.length=n) (hown:Own .u8 5 w base (.slice (some ⟨g,0,none⟩) n cap) xs) (hk0:0≤k) (hk1:k≤1099511627776) (hn:n≤1099511627776) :
    Calls Tryz.prog 42 #[.slice (some ⟨g,0,none⟩) n cap,.int .i64 k] w fun e w'=>e=.returned (.int .i64 (k+n))∧Own .u8 5 w' base (.slice (some ⟨g,0,none⟩) n cap) (marks k n)∧w.grownBy w' (some g):=by
 have HX:=Z8 hx;clear hx
 go_enter Tryz.func42,Tryz.ntmps42
 go_wp2
 go_loopw [1,5] (fun kk i wr=>∃j:Nat,j≤n∧i=.int .i64 j∧kk=.int .i64 (k+j)∧Own .u8 5 wr base (.slice (some ⟨g,0,none⟩) n cap) (mix (marks k n) xs j)∧w.grownBy wr (some g)) (fun _ i _=>n - (intOf i).toNat)
 case atStart=>exact ⟨0,ZQ _,rfl,by go_num,by rw [OJ];exact hown,YT _ _⟩
 case round =>
  obtain ⟨j,hj,rfl,rfl,ho,hg⟩:=hrel
  by_cases hlt:j<n
  · have ho':wr.ownsRow base 5 1 (.slice (some ⟨g,0,none⟩) n cap) n ((mix (marks k n) xs j).map (Value.int .u8)):=by
     have:=ho;unfold Own at this;rw [Wt (by rw [YG,HX.out]),HX.out] at this;exact this
    have hf:=Rh ho' j;have hc:∃c,wr.cell? ⟨g,j,none⟩=some c:=⟨_,(U0 ho' j (by omega)).trans (VM (by simp [Wt (show (marks k n).length=xs.length by rw [YG,HX.out]),HX.out];exact hlt))⟩;obtain ⟨c,hc⟩:=hc;have HO:=Z8 ho;clear ho ho';have YN:(j:Int)<(n:Int):=by omega
    go_wp2
    go_roundw
    case rel=>exact ⟨j+1,by omega,by go_num,by go_num,Own.mixed (by rw [YG,HX.out]) HX.out (by rw [HX.out];exact hlt) HO.out (by rw [RY _ _ _ hlt]),grownBy_set _ _ _ _ _ hg⟩
    case measure=>simp [intOf];omega
  have hjn:j=n:=by omega
  subst hjn;go_wp2;go_ret;exact ⟨rfl,by rw [Lh (by rw [YG,HX.out]) (by rw [HX.out];exact ZW)] at ho;exact ho,hg⟩
theorem Sl (w:World) (k:Int):Calls Tryz.prog 42 #[.slice none 0 0,.int .i64 k] w fun e w'=>e=.returned (.int .i64 k)∧w'=w:=by
 go_enter Tryz.func42,Tryz.ntmps42
 go_wp2
 go_rounds 1
 go_ret;exact ⟨rfl,rfl⟩
theorem Sk (w:World) (base:Nat) (v:Value) (xs:List Int) (k:Int) (hown:Own .u8 5 w base v xs) (hk0:0≤k) (hk1:k≤1099511627776) (hn:xs.length≤1099511627776) :
    Calls Tryz.prog 42 #[v,.int .i64 k] w fun e w'=>e=.returned (.int .i64 (k+xs.length))∧Own .u8 5 w' base v (marks k xs.length)∧w.grownBy w' v.ownBlock:=by
 rcases hown.row with ⟨rfl,rfl⟩ | ⟨g,cap,rfl,_⟩
 · refine (Sl w k).mono ?_
   rintro e w' ⟨rfl,rfl⟩;exact ⟨Xo (by simp),Yf _ _ _ _,YT _ _⟩
 exact MW w base g xs.length cap xs k rfl hown hk0 hk1 hn
theorem MV (w:World) (ao:Option Addr) (cap:Nat) (k:Int):Calls Tryz.prog 84 #[.slice ao 0 cap,.int .i64 k] w fun e w'=>e=.returned (.int .i64 k)∧w'=w:=by
 go_enter Tryz.func84,Tryz.ntmps84
 go_wp2
 go_rounds 1
 go_ret;exact ⟨rfl,rfl⟩
theorem MU (w:World) (b o n cap:Nat) (k:Int) (hc:∀i,i<n→w.cell? ⟨b,o+i,none⟩=some (.int .u8 ((k+i) % 256))) (hk0:0≤k) (hk1:k≤1099511627776) (hn:n≤1099511627776) :
    Calls Tryz.prog 84 #[.slice (some ⟨b,o,none⟩) n cap,.int .i64 k] w fun e w'=>e=.returned (.int .i64 (k+n))∧w'=w:=by
 have HC:=Z8 hc;clear hc
 go_enter Tryz.func84,Tryz.ntmps84
 go_wp2
 go_loop [1,5] (fun kk i=>∃j:Nat,j≤n∧i=.int .i64 j∧kk=.int .i64 (k+j)) (fun _ i=>n - (intOf i).toNat)
 case atStart=>exact ⟨0,ZQ _,rfl,by go_num⟩
 case round =>
  obtain ⟨j,hj,rfl,rfl⟩:=hrel
  by_cases hlt:j<n
  · have hc:=HC.out j hlt
    have YN:(j:Int)<(n:Int):=by omega
    go_wp2
    go_round
    case rel=>exact ⟨j+1,by omega,by go_num,by go_num⟩
    case measure=>simp [intOf];omega
  have hjn:j=n:=by omega
  subst hjn;go_wp2;go_ret;exact ⟨rfl,rfl⟩
theorem Sj (w:World) (v:Value) (n:Nat) (k:Int) (h:Rd .u8 w v (marks k n)) (hk0:0≤k) (hk1:k≤1099511627776) (hn:n≤1099511627776) :
    Calls Tryz.prog 84 #[v,.int .i64 k] w fun e w'=>e=.returned (.int .i64 (k+n))∧w'=w:=by
 obtain ⟨ao,cap,rfl,h1,h2,h3⟩:=h;rw [YG] at *
 rcases h3 with h3 | ⟨b,o,rfl,_,hc⟩
 · have h0:n=0:=by have:=Wd List.length h3;rw [YG] at this;simpa using this
   subst h0;refine (MV w ao cap k).mono ?_;rintro e w' ⟨rfl,rfl⟩;exact ⟨Xo (by simp),rfl⟩
 exact MU w b o n cap k (fun i hi=>by rw [hc i hi,RY k n i hi]) hk0 hk1 hn
theorem LN (h:w.ownsRow base e 1 (.slice (some ⟨g,0,none⟩) n cap) n (madeCells #[Value.int k 0] n).toList) :
    Own k e w base (.slice (some ⟨g,0,none⟩) n cap) (List.replicate n 0):=by
 unfold Own;rw [toList_madeCells_one] at h
 simpa using h
theorem IW (w:World) (ao:Option Addr) (cap:Nat) :
    Calls Tryz.prog 28 #[.slice ao 0 cap] w fun e w'=>∃v',e=.returned v'∧Own .u8 5 w' w.heap.size v' []∧ZX w w':=by
 obtain ⟨i0,hi,hz0,hz1,hz2⟩:=YH Tryz.Vv
 go_enter Tryz.func28,Tryz.ntmps28
 go_wp2_with (at_make;refine EU _ rfl _ _ 22 rfl w.heap.size 5 i0 (.int .u8 0) 1 Tryz.underlying22 hi hz0 hz1 _ _ _ _ 0 rfl rfl rfl rfl ?b2 ?b3 ?b4 ?_)
 case b2=>rw [hz2];omega
 case b3=>unfold maxLen;omega
 case b4=>exact ZW
 intro w1 hown hgrow;have HO:Hid (Own .u8 5 w1 w.heap.size (.slice (some ⟨w.heap.size,0,none⟩) 0 0) []):=LN hown;have HG:=Z8 (ZR.grown hgrow ZW (by simp));clear hown hgrow;go_wp2
 go_rounds 1
 go_ret;exact ⟨_,rfl,HO.out,HG.out⟩
theorem IV (w:World) (b o n cap:Nat) (xs:List Int) (hx:xs.length=n) (hb:b<w.heap.size) (hc:∀i,i<n→w.cell? ⟨b,o+i,none⟩=some (.int .u8 (xs.getD i 0))) (hn:n≤1099511627776) :
    Calls Tryz.prog 28 #[.slice (some ⟨b,o,none⟩) n cap] w fun e w'=>∃v',e=.returned v'∧Own .u8 5 w' w.heap.size v' xs∧ZX w w':=by
 obtain ⟨i0,hi,hz0,hz1,hz2⟩:=YH Tryz.Vv;have HC:=Z8 hc;have HX:=Z8 hx;clear hc hx
 go_enter Tryz.func28,Tryz.ntmps28
 go_wp2_with (at_make;refine EU _ rfl _ _ 22 rfl w.heap.size 5 i0 (.int .u8 0) 1 Tryz.underlying22 hi hz0 hz1 _ _ _ _ n rfl rfl rfl rfl ?b2 ?b3 ?b4 ?_)
 case b2=>rw [hz2];omega
 case b3=>unfold maxLen;omega
 case b4=>exact ZW
 intro w1 hown hgrow;have HO:=Z8 (LN hown);have HG:=Z8 (ZR.grown hgrow ZW (by simp));clear hown hgrow hi hz0 hz1 hz2;go_wp2
 go_loopw [4] (fun i wr=>∃j:Nat,j≤n∧i=.int .i64 j∧Own .u8 5 wr w.heap.size (.slice (some ⟨w.heap.size,0,none⟩) n n) (mix xs (List.replicate n 0) j)∧ZX w wr) (fun i _=>n - (intOf i).toNat)
 case atStart=>exact ⟨0,ZQ _,rfl,by rw [OJ];exact HO.out,HG.out⟩
 case round =>
  obtain ⟨j,hj,rfl,ho,hg⟩:=hrel
  by_cases hlt:j<n
  · have hrep:xs.length=(List.replicate n (0:Int)).length:=by rw [HX.out];simp
    have ho':wr.ownsRow w.heap.size 5 1 (.slice (some ⟨w.heap.size,0,none⟩) n n) n ((mix xs (List.replicate n 0) j).map (Value.int .u8)):=by
     have:=ho;unfold Own at this;rw [Wt hrep,Gy] at this;exact this
    have hf:=Rh ho' j;have hcj:∃c,wr.cell? ⟨w.heap.size,j,none⟩=some c:=⟨_,(U0 ho' j (by omega)).trans (VM (by simp [Wt hrep];exact hlt))⟩;obtain ⟨c,hcj⟩:=hcj;have hsrc:=(hg.cell (p:=⟨b,o+j,none⟩) hb).trans (HC.out j hlt);have Sv:=Z8 ho;have HG2:=Z8 hg;have HR:=Z8 hrep;clear ho ho' hg hrep HO HG;have YN:(j:Int)<(n:Int):=by omega
    go_wp2
    go_roundw
    case rel=>exact ⟨j+1,by omega,by go_num,Own.mixed HR.out (by simp) (by simp;exact hlt) Sv.out (by simp [List.getD]),HG2.out.setCell ZW _⟩
    case measure=>simp [intOf];omega
  have hjn:j=n:=by omega
  subst hjn;go_wp2;go_ret;exact ⟨_,rfl,by rw [Lh (by rw [HX.out];simp) (by simp)] at ho;exact ho,hg⟩
theorem PT (w:World) (v:Value) (xs:List Int) (h:Rd .u8 w v xs) (hn:xs.length≤1099511627776) :
    Calls Tryz.prog 28 #[v] w fun e w'=>∃v',e=.returned v'∧Own .u8 5 w' w.heap.size v' xs∧ZX w w':=by
 obtain ⟨ao,cap,rfl,h1,h2,h3⟩:=h
 rcases h3 with rfl | ⟨b,o,rfl,hb,hc⟩
 · exact IW w ao cap
 exact IV w b o xs.length cap xs rfl hb hc hn
theorem ZU.Yu {ns:List Nd} (h:ZU 134 w lo v ns) (hn:v.ownBlock≠some b) (u:Value):ZU 134 (w.setCell ⟨b,j,none⟩ u) lo v ns:=Yy h (grownBy_set _ _ _ _ _ (YT _ _)) (.inr hn)
theorem Xr.YW {es:List Ef} (h:Xr e w lo v es):∃a c,v=.slice a es.length c:=by
 obtain ⟨a,c,h0,_⟩:=(Xr.rd h).len;exact ⟨a,c,h0⟩
theorem ZU.YW {ns:List Nd} (h:ZU e w lo v ns):∃a c,v=.slice a ns.length c:=by
 obtain ⟨a,c,h0,_⟩:=h.rd.len;exact ⟨a,c,h0⟩
def Uc (v:Int):Bool:=decide (0≤v) && decide (v≤2147483647)
def Yz (n:Nd):Bool:=Yc n.path && decide (n.data.size≤64) && Uc n.Ym && Uc n.ZD && Uc n.cz && Uc n.mz && Uc n.pz
theorem U8 (w:World) (v:Int):Calls Tryz.prog 58 #[.int .i64 v] w fun e w'=>e=.returned (.bool (Uc v))∧w'=w:=by
 by_cases h1:0≤v
 · by_cases h2:v≤2147483647
   · have HO:Hid (Uc v=true):=by show _=_;unfold Uc;rw [YS h1,YS h2];rfl
     go_enter Tryz.func58,Tryz.ntmps58
     go_wp2;go_ret;exact ⟨ZH HO.out.symm,rfl⟩
   have HO:Hid (Uc v=false):=by show _=_;unfold Uc;rw [Zl h2];simp
   go_enter Tryz.func58,Tryz.ntmps58
   go_wp2;go_ret;exact ⟨ZH HO.out.symm,rfl⟩
 have HO:Hid (Uc v=false):=by show _=_;unfold Uc;rw [Zl h1];rfl
 go_enter Tryz.func58,Tryz.ntmps58
 go_wp2;go_ret;exact ⟨ZH HO.out.symm,rfl⟩
theorem UQ (w:World) (v:Int):Calls Tryz.prog 126 #[.int .i64 v] w fun e w'=>e=.returned (.bool (Uc v))∧w'=w:=by
 by_cases h1:0≤v
 · by_cases h2:v≤2147483647
   · have HO:Hid (Uc v=true):=by show _=_;unfold Uc;rw [YS h1,YS h2];rfl
     go_enter Tryz.func126,Tryz.ntmps126
     go_wp2;go_ret;exact ⟨ZH HO.out.symm,rfl⟩
   have HO:Hid (Uc v=false):=by show _=_;unfold Uc;rw [Zl h2];simp
   go_enter Tryz.func126,Tryz.ntmps126
   go_wp2;go_ret;exact ⟨ZH HO.out.symm,rfl⟩
 have HO:Hid (Uc v=false):=by show _=_;unfold Uc;rw [Zl h1];rfl
 go_enter Tryz.func126,Tryz.ntmps126
 go_wp2;go_ret;exact ⟨ZH HO.out.symm,rfl⟩
structure UP (w:World) (B:Nat) (n:Nd):Prop where
 lt:B<w.heap.size
 c0:w.cell? ⟨B,0,none⟩=some (.string n.path)
 c1:w.cell? ⟨B,1,none⟩=some (.string n.data)
 c2:w.cell? ⟨B,2,none⟩=some (.int .i64 n.Ym)
 c3:w.cell? ⟨B,3,none⟩=some (.int .i64 n.ZD)
 c4:w.cell? ⟨B,4,none⟩=some (.int .i64 n.cz)
 c5:w.cell? ⟨B,5,none⟩=some (.int .i64 n.mz)
 c6:w.cell? ⟨B,6,none⟩=some (.int .i64 n.pz)
theorem UP.new (w:World) (n:Nd) (t:TypeId):UP (w.alloc (.cells #[.string n.path,.string n.data,.int .i64 n.Ym,.int .i64 n.ZD,.int .i64 n.cz,.int .i64 n.mz,.int .i64 n.pz] t)) w.heap.size n :=
 ⟨by simp,by simp,by simp,by simp,by simp,by simp,by simp,by simp⟩
theorem UP.below {n:Nd} (h:UP w B n) (hb:ZX w w'):UP w' B n :=
 ⟨ZB h.lt hb.size,(hb.cell (p:=⟨B,_,none⟩) h.lt).trans h.c0,(hb.cell (p:=⟨B,_,none⟩) h.lt).trans h.c1,(hb.cell (p:=⟨B,_,none⟩) h.lt).trans h.c2,(hb.cell (p:=⟨B,_,none⟩) h.lt).trans h.c3,
  (hb.cell (p:=⟨B,_,none⟩) h.lt).trans h.c4,(hb.cell (p:=⟨B,_,none⟩) h.lt).trans h.c5,(hb.cell (p:=⟨B,_,none⟩) h.lt).trans h.c6⟩
theorem Q8 (w:World) (n:Nd) (hp:n.path.size≤1048576) (hd:n.data.size≤1048576) :
    Calls Tryz.prog 115 #[.agg #[.string n.path,.string n.data,.int .i64 n.Ym,.int .i64 n.ZD,.int .i64 n.cz,.int .i64 n.mz,.int .i64 n.pz]] w (Ze w (.bool (Yz n))):=by
 have X0:Hid (UP (w.alloc (.cells #[.string n.path,.string n.data,.int .i64 n.Ym,.int .i64 n.ZD,.int .i64 n.cz,.int .i64 n.mz,.int .i64 n.pz] 134)) w.heap.size n):=UP.new _ _ _;have B0:Hid (ZX w (w.alloc (.cells #[.string n.path,.string n.data,.int .i64 n.Ym,.int .i64 n.ZD,.int .i64 n.cz,.int .i64 n.mz,.int .i64 n.pz] 134))):=ZR.alloc ZW _
 go_enter Tryz.func115,Tryz.ntmps115
 go_wp2_with fail
 generalize w.alloc _=w0 at *;refine (Lo _ n.path hp).mono ?_;rintro e w1 ⟨rfl,b1⟩;have B1:=Z8 (Ye B0.out b1);obtain ⟨-,c0,c1,c2,c3,c4,c5,c6⟩:=X0.out.below b1
 cases hP:Yc n.path with
 | false =>
  have HO:Hid (Yz n=false):=by show _=_;unfold Yz;rw [hP];simp
  go_wp2;go_ret;exact ⟨ZH HO.out.symm,B1.out⟩
 | true =>
  have HP:=Z8 hP
  by_cases hD:64<n.data.size
  · have Z1:(64:Int)<(n.data.size:Int):=by omega
    have HO:Hid (Yz n=false):=by show _=_;unfold Yz;rw [Zl (show ¬n.data.size≤64 by omega)];simp
    go_wp2;go_ret;exact ⟨ZH HO.out.symm,B1.out⟩
  have Z1:¬(64:Int)<(n.data.size:Int):=by omega
  have Z0:=Z8 (YS (show n.data.size≤64 by omega))
  go_wp2_with fail
  refine (U8 _ n.Ym).mono ?_;rintro e w2 ⟨rfl,rfl⟩
  cases UY:Uc n.Ym with
  | false =>
   have HO:Hid (Yz n=false):=by show _=_;unfold Yz;rw [UY];simp
   go_wp2;go_ret;exact ⟨ZH HO.out.symm,B1.out⟩
  | true =>
   have N:=Z8 UY
   go_wp2_with fail
   refine (U8 _ n.ZD).mono ?_;rintro e w2 ⟨rfl,rfl⟩
   cases V9:Uc n.ZD with
   | false =>
    have HO:Hid (Yz n=false):=by show _=_;unfold Yz;rw [V9];simp
    go_wp2;go_ret;exact ⟨ZH HO.out.symm,B1.out⟩
   | true =>
    have V:=Z8 V9
    go_wp2_with fail
    refine (U8 _ n.cz).mono ?_;rintro e w2 ⟨rfl,rfl⟩
    cases Q7:Uc n.cz with
    | false =>
     have HO:Hid (Yz n=false):=by show _=_;unfold Yz;rw [Q7];simp
     go_wp2;go_ret;exact ⟨ZH HO.out.symm,B1.out⟩
    | true =>
     have z:=Z8 Q7
     go_wp2_with fail
     refine (U8 _ n.mz).mono ?_;rintro e w2 ⟨rfl,rfl⟩
     cases Q6:Uc n.mz with
     | false =>
      have HO:Hid (Yz n=false):=by show _=_;unfold Yz;rw [Q6];simp
      go_wp2;go_ret;exact ⟨ZH HO.out.symm,B1.out⟩
     | true =>
      have f:=Z8 Q6
      go_wp2_with fail
      refine (U8 _ n.pz).mono ?_;rintro e w2 ⟨rfl,rfl⟩
      cases Q4:Uc n.pz with
      | false =>
       have HO:Hid (Yz n=false):=by show _=_;unfold Yz;rw [Q4];simp
       go_wp2;go_ret;exact ⟨ZH HO.out.symm,B1.out⟩
      | true =>
       have Z':=Z8 Q4;have HO:Hid (Yz n=true):=by show _=_;unfold Yz;rw [HP.out,Z0.out,N.out,V.out,z.out,f.out,Z'.out];rfl
       go_wp2;go_ret;exact ⟨ZH HO.out.symm,B1.out⟩
theorem Ut (w:World) (n:Nd) (hd:n.data.size≤1048576) :
    Calls Tryz.prog 139 #[.agg #[.string n.path,.string n.data,.int .i64 n.Ym,.int .i64 n.ZD,.int .i64 n.cz,.int .i64 n.mz,.int .i64 n.pz]] w (Ze w (.bool (Yz n))):=by
 have X0:Hid (UP (w.alloc (.cells #[.string n.path,.string n.data,.int .i64 n.Ym,.int .i64 n.ZD,.int .i64 n.cz,.int .i64 n.mz,.int .i64 n.pz] 134)) w.heap.size n):=UP.new _ _ _;have B0:Hid (ZX w (w.alloc (.cells #[.string n.path,.string n.data,.int .i64 n.Ym,.int .i64 n.ZD,.int .i64 n.cz,.int .i64 n.mz,.int .i64 n.pz] 134))):=ZR.alloc ZW _
 go_enter Tryz.func139,Tryz.ntmps139
 go_wp2_with fail
 generalize w.alloc _=w0 at *;refine (Ll _ n.path).mono ?_;rintro e w1 ⟨rfl,b1⟩;have B1:=Z8 (Ye B0.out b1);obtain ⟨-,c0,c1,c2,c3,c4,c5,c6⟩:=X0.out.below b1
 cases hP:Yc n.path with
 | false =>
  have HO:Hid (Yz n=false):=by show _=_;unfold Yz;rw [hP];simp
  go_wp2;go_ret;exact ⟨ZH HO.out.symm,B1.out⟩
 | true =>
  have HP:=Z8 hP
  by_cases hD:64<n.data.size
  · have Z1:(64:Int)<(n.data.size:Int):=by omega
    have HO:Hid (Yz n=false):=by show _=_;unfold Yz;rw [Zl (show ¬n.data.size≤64 by omega)];simp
    go_wp2;go_ret;exact ⟨ZH HO.out.symm,B1.out⟩
  have Z1:¬(64:Int)<(n.data.size:Int):=by omega
  have Z0:=Z8 (YS (show n.data.size≤64 by omega))
  go_wp2_with fail
  refine (UQ _ n.Ym).mono ?_;rintro e w2 ⟨rfl,rfl⟩
  cases UY:Uc n.Ym with
  | false =>
   have HO:Hid (Yz n=false):=by show _=_;unfold Yz;rw [UY];simp
   go_wp2;go_ret;exact ⟨ZH HO.out.symm,B1.out⟩
  | true =>
   have N:=Z8 UY
   go_wp2_with fail
   refine (UQ _ n.ZD).mono ?_;rintro e w2 ⟨rfl,rfl⟩
   cases V9:Uc n.ZD with
   | false =>
    have HO:Hid (Yz n=false):=by show _=_;unfold Yz;rw [V9];simp
    go_wp2;go_ret;exact ⟨ZH HO.out.symm,B1.out⟩
   | true =>
    have V:=Z8 V9
    go_wp2_with fail
    refine (UQ _ n.cz).mono ?_;rintro e w2 ⟨rfl,rfl⟩
    cases Q7:Uc n.cz with
    | false =>
     have HO:Hid (Yz n=false):=by show _=_;unfold Yz;rw [Q7];simp
     go_wp2;go_ret;exact ⟨ZH HO.out.symm,B1.out⟩
    | true =>
     have z:=Z8 Q7
     go_wp2_with fail
     refine (UQ _ n.mz).mono ?_;rintro e w2 ⟨rfl,rfl⟩
     cases Q6:Uc n.mz with
     | false =>
      have HO:Hid (Yz n=false):=by show _=_;unfold Yz;rw [Q6];simp
      go_wp2;go_ret;exact ⟨ZH HO.out.symm,B1.out⟩
     | true =>
      have f:=Z8 Q6
      go_wp2_with fail
      refine (UQ _ n.pz).mono ?_;rintro e w2 ⟨rfl,rfl⟩
      cases Q4:Uc n.pz with
      | false =>
       have HO:Hid (Yz n=false):=by show _=_;unfold Yz;rw [Q4];simp
       go_wp2;go_ret;exact ⟨ZH HO.out.symm,B1.out⟩
      | true =>
       have Z':=Z8 Q4;have HO:Hid (Yz n=true):=by show _=_;unfold Yz;rw [HP.out,Z0.out,N.out,V.out,z.out,f.out,Z'.out];rfl
       go_wp2;go_ret;exact ⟨ZH HO.out.symm,B1.out⟩
end Go.Proofs.YtmmmffcbfepghaaGreatDoor


