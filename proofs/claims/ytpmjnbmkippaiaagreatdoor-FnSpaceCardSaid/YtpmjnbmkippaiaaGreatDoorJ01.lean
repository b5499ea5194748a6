import Derived.OrdersHeld
import Derived.WalkKit
import Derived.ProofKit
import Derived.OpenShut
import Derived.Handy
import Derived.Carry
import Derived.WalkSpells
import Derived.WalkSmall
import Derived.Deep.RegionHeld
import Derived.Test.YtpmjnbmkippaiaaGreatDoorChecked
import Derived.Deep.QuietTactic
import Derived.BigQuiet
import Derived.Laws.BytesArg
import Derived.Lib.ConvBytes
import Derived.Test.YtpmjnbmkippaiaaGreatDoorRows
import Derived.Deep.RegionWith
import Derived.Deep.RegionLaw
import Derived.Deep.RegionHeld3
import Derived.Deep.AppendLies
import Derived.Laws.OwnMore
import Derived.Laws.Cover3
import Derived.Deep.MidRow
import Derived.Laws.CopyOwn
import Derived.Great.BuildSlice
import Derived.Maps.OwnSet
import Derived.BigRegion
import Derived.Shelf.Abstract
set_option maxRecDepth 100000
set_option maxHeartbeats 16000000
set_option linter.unusedVariables false
set_option linter.unusedSimpArgs false
namespace Go.Proofs.YtpmjnbmkippaiaaGreatDoor
section
open Go.RowKit Go.Shelf
variable {a:Act} {listed:Array Bool} {ops:Array Oper} {k:IntKind} {ps rs:List (Int × List Int)} {ZQ xs ys:List Int} {L:List Value} {B base c cap dl fuel g hi i j lo lo' mb n q tb:Nat} {oi:Oper} {ao:Option Addr} {o o':Option Nat} {P:Program} {e t te:TypeId} {u v vd vp x y:Value} {W W' w w' w1 w2:World}
abbrev Sg:=@Go.Addr.add_lit
abbrev JB:=@Go.Addr.mk.injEq
abbrev iy:=@Go.AllReadyH.cons
abbrev pZ:=@Array.ext'
abbrev lr:=@Array.getElem?_eq_getElem
abbrev eR:=@Array.getElem?_eq_none
abbrev Yh:=@Array.getElem?_eq_some_iff
abbrev Gc:=@Array.length_toList
abbrev JO:=@Array.replicate_succ
abbrev JN:=@Array.replicate_zero
abbrev pY:=@Array.size_append
abbrev Ac:=@Array.size_replicate
abbrev uq:=@Array.toList_append
abbrev pX:=@Array.toList_extract
abbrev lq:=@Bool.and_eq_false_iff
abbrev Yg:=@Bool.and_eq_true
abbrev CI:=@Bool.and_false
abbrev pW:=@Bool.eq_iff_iff
abbrev Qw:=@Bool.false_eq_true
abbrev Ab:=@Bool.or_eq_true
abbrev Qv:=@Bool.true_and
abbrev Lo:=@ByteArray.data_append
abbrev pV:=@ByteArray.data_extract
abbrev Lm:=@ByteArray.ext
abbrev uo:=@ByteArray.size_append
abbrev Sf:=@Go.ByteArray.toList_eq
abbrev pU:=@Go.DataW.trod_bool
abbrev lp:=@Int.tdiv_eq_ediv_of_nonneg
abbrev Ww:=@Int.toNat_natCast
abbrev XK:=@Go.IntKind.wrap_i64
abbrev pT:=@Go.IntKind.wrap_u16
abbrev lm:=@Go.Lib.run_append_grow_string
abbrev pS:=@Go.Lib.run_eql_slice_nil
abbrev pR:=@Go.Lib.strCells_length
abbrev um:=@List.Pairwise.sublist
abbrev FT:=@List.all_cons
abbrev Aa:=@List.all_eq_false
abbrev Se:=@List.all_eq_true
abbrev pQ:=@List.any_eq_true
abbrev YM:=@List.append_assoc
abbrev TX:=@List.append_nil
abbrev Ur:=@List.append_toArray
abbrev pP:=@List.cons.injEq
abbrev Vq:=@List.cons_append
abbrev pO:=@List.drop_append
abbrev Rz:=@List.drop_drop
abbrev Jz:=@List.drop_eq_getElem_cons
abbrev FR:=@List.drop_eq_nil_of_le
abbrev Jy:=@List.drop_of_length_le
abbrev pM:=@List.drop_succ_cons
abbrev Qu:=@List.drop_zero
abbrev TN:=@List.eq_nil_of_length_eq_zero
abbrev ll:=@List.eq_of_mem_replicate
abbrev lk:=@List.eraseIdx_eq_take_drop_succ
abbrev pL:=@List.ext_getElem
abbrev CH:=@List.ext_getElem?
abbrev pK:=@List.extract_eq_take_drop
abbrev pJ:=@List.filter_cons
abbrev zZ:=@List.findIdx_cons
abbrev MY:=@List.flatMap_append
abbrev FQ:=@List.flatMap_cons
abbrev uk:=@List.flatMap_nil
abbrev pI:=@List.flatten_cons
abbrev zY:=@List.foldl_append
abbrev Jw:=@List.foldl_cons
abbrev pH:=@List.getD_cons_succ
abbrev Ll:=@List.getD_cons_zero
abbrev CG:=@List.getD_eq_getElem?_getD
abbrev Wd:=@List.getElem?_append_left
abbrev VG:=@List.getElem?_append_right
abbrev CF:=@List.getElem?_cons_succ
abbrev Qt:=@List.getElem?_drop
abbrev Xc:=@List.getElem?_eq_getElem
abbrev MX:=@List.getElem?_eq_none
abbrev UG:=@List.getElem?_eq_some_iff
abbrev Qs:=@List.getElem?_map
abbrev zV:=@List.getElem?_replicate
abbrev pG:=@List.getElem?_set
abbrev uj:=@List.getElem?_set_ne
abbrev CE:=@List.getElem?_take
abbrev FO:=@List.getElem?_take_of_lt
abbrev Jv:=@List.getElem?_toArray
abbrev UO:=@List.getElem_mem
abbrev pF:=@List.getElem_of_mem
abbrev ZA:=@List.length_append
abbrev Yr:=@List.length_cons
abbrev Zd:=@List.length_drop
abbrev XJ:=@List.length_map
abbrev Wo:=@List.length_nil
abbrev Ju:=@List.length_replicate
abbrev MW:=@List.length_set
abbrev XU:=@List.length_take
abbrev Wn:=@List.map_append
abbrev ui:=@List.map_congr_left
abbrev TM:=@List.map_cons
abbrev uh:=@List.map_map
abbrev MV:=@List.map_nil
abbrev pE:=@List.map_replicate
abbrev zU:=@List.map_take
abbrev FN:=@List.map_toArray
abbrev XP:=@List.mem_append
abbrev Yz:=@List.mem_cons
abbrev Yl:=@List.mem_cons_of_mem
abbrev Wk:=@List.mem_cons_self
abbrev zS:=@List.mem_nil_iff
abbrev zR:=@List.mem_of_getElem?
abbrev Ry:=@List.mem_of_mem_drop
abbrev Ms:=@List.mem_of_mem_take
abbrev UT:=@List.mem_range
abbrev Ed:=@List.mem_singleton
abbrev Yw:=@List.nil_append
abbrev zQ:=@List.not_mem_nil
abbrev Wj:=@List.push_toArray
abbrev zP:=@List.range_succ
abbrev zO:=@List.replicate_succ'
abbrev qX:=@List.set_eq_take_append_cons_drop
abbrev zN:=@List.set_set
abbrev Zm:=@List.size_toArray
abbrev Ec:=@List.sum_cons
abbrev Eb:=@List.takeWhile_cons
abbrev zM:=@List.take_add_one
abbrev VC:=@List.take_append_drop
abbrev Rx:=@List.take_left
abbrev zL:=@List.take_left'
abbrev Rw:=@List.take_length
abbrev Wv:=@List.take_of_length_le
abbrev TL:=@List.take_succ_eq_append_getElem
abbrev Jt:=@List.take_take
abbrev PO:=@List.take_zero
abbrev Ea:=@List.toList_toArray
abbrev Ue:=@Nat.add_assoc
abbrev Js:=@Nat.add_mul
abbrev Wi:=@Nat.add_zero
abbrev zK:=@Nat.div_div_eq_div_mul
abbrev D9:=@Nat.div_le_self
abbrev Mr:=@Nat.le_of_eq
abbrev Mq:=@Nat.le_succ
abbrev ZF:=@Nat.le_trans
abbrev zJ:=@Nat.lt_of_le_of_lt
abbrev ZL:=@Nat.lt_of_lt_of_le
abbrev D8:=@Nat.lt_or_ge
abbrev OQ:=@Nat.lt_succ_self
abbrev Wh:=@Nat.min_eq_left
abbrev Mp:=@Nat.min_le_left
abbrev DZ:=@Nat.min_le_right
abbrev zI:=@Nat.mod_eq_of_lt
abbrev SG:=@Nat.mod_lt
abbrev zH:=@Nat.mod_mod_of_dvd
abbrev qW:=@Nat.mod_two_eq_zero_or_one
abbrev zG:=@Nat.mul_mod_mul_right
abbrev WV:=@Nat.mul_one
abbrev zF:=@Nat.mul_zero
abbrev zE:=@Nat.ne_of_gt
abbrev Mo:=@Nat.one_mul
abbrev Mn:=@Nat.pow_add
abbrev Jr:=@Nat.pow_le_pow_right
abbrev Jq:=@Nat.pow_succ
abbrev PN:=@Nat.sub_self
abbrev VB:=@Nat.sub_zero
abbrev Jp:=@Nat.xor_assoc
abbrev zD:=@Nat.xor_zero
abbrev YK:=@Nat.zero_add
abbrev Zu:=@Nat.zero_le
abbrev TK:=@Nat.zero_mul
abbrev VA:=@Go.Oper.semAt_some
abbrev PM:=@Option.getD_some
abbrev zC:=@Option.map_some
abbrev Yv:=@Option.some.inj
abbrev Zo:=@Option.some.injEq
abbrev PL:=@Prod.mk.inj
abbrev zB:=@Prod.mk.injEq
abbrev SF:=@Go.Result.andThen_ok
abbrev Vz:=@Go.Sem.run_bind
abbrev Rv:=@Go.Sem.run_pure
abbrev DY:=@Go.Steps.head
abbrev zy:=@UInt8.le_antisymm
abbrev Jo:=@UInt8.lt_irrefl
abbrev DX:=@UInt8.toNat.inj
abbrev Y4:=@Go.Value.slice.injEq
abbrev YJ:=@Go.World.block_lt_of_cell?
abbrev DW:=@Go.World.cell?_alloc_at
abbrev Zj:=@Go.World.cell?_of_block
abbrev Zs:=@Go.World.cell?_setCell_other
abbrev Xo:=@Go.World.cell?_setCell_same
abbrev qV:=@Go.World.cell?_setCells_out
abbrev SD:=@Go.World.frozen?_of_block
abbrev WU:=@Go.World.frozen?_setCell
abbrev YT:=@Go.World.grownBy.refl
abbrev Mm:=@Go.World.grownBy.trans
abbrev Ml:=@Go.World.grownBy_alloc
abbrev Mk:=@Go.World.ownsRow.alloc
abbrev Jn:=@Go.World.ownsRow.cellAt
abbrev Ud:=@Go.World.ownsRow.cells
abbrev Mj:=@Go.World.ownsRow.frozenAt
abbrev Yu:=@Go.World.ownsRow.kept
abbrev ZD:=@Go.World.ownsRow.lt
abbrev OO:=@Go.World.ownsRow_lit
abbrev Zl:=@Go.World.ownsRow_nil
abbrev Jm:=@Go.World.rangeAt_alloc
abbrev DV:=@Go.World.rangeAt_drew
abbrev qU:=@Go.World.rangeAt_setCells_apart
abbrev OM:=@Go.World.rangeAt_setCells_same
abbrev Wg:=@Go.World.size_alloc
abbrev zw:=@Go.World.var?_cell
abbrev Ru:=@Go.all_oneCell_toArray
abbrev TJ:=@and_true
abbrev Vy:=@beq_eq_false_iff_ne
abbrev Mi:=@beq_false_of_ne
abbrev ZK:=@beq_iff_eq
abbrev zv:=@bne_eq_false_iff_eq
abbrev ZS:=@Go.bodyPost_ret
abbrev Jl:=@Go.callsD_of_wpS
abbrev SC:=@Go.callsIn_of_wp
abbrev XM:=@Go.callsIn_wide
abbrev Xn:=@Go.cell_of_row
abbrev Vx:=@Go.cell_one_new
abbrev ZR:=@congrArg
abbrev DU:=@decide_eq_decide
abbrev YW:=@decide_eq_false
abbrev Mh:=@decide_eq_false_iff_not
abbrev Y3:=@decide_eq_true
abbrev Yt:=@decide_eq_true_eq
abbrev Jk:=@Go.grownCap_ge
abbrev Jj:=@Go.grownCap_le_maxLen
abbrev Ji:=@Go.growslice_fits
abbrev Y9:=@Go.heap_alloc_new
abbrev Vw:=@if_false
abbrev Z1:=@if_neg
abbrev ZZ:=@if_pos
abbrev Uc:=@if_true
abbrev Yq:=@Go.info_parts
abbrev Wf:=@Go.ints_oneCell
abbrev Mg:=@ite_self
abbrev Vv:=@Go.leaves_cons
abbrev Mf:=@of_decide_eq_true
abbrev Me:=@or_false
abbrev Rs:=@Go.results_none
abbrev Jh:=@Go.rounds_succ
abbrev zu:=@Go.run_callFunc_extern
abbrev DT:=@Go.run_firstCells_some
abbrev zp:=@Go.run_storeCells_at
abbrev US:=@Go.run_underlying
abbrev Sz:=@Go.setRow_heap
abbrev Jg:=@Go.setRow_other
abbrev DR:=@Go.size_zeroCells
abbrev OL:=@Go.step_block
abbrev Md:=@Go.step_seq
abbrev Jf:=@true_and
abbrev ZP:=@Go.wpAnyH_done
abbrev zl:=@Go.wpListIn_plain
abbrev Mc:=@Go.wpList_append_fits
abbrev UF:=@Go.wpList_append_own
abbrev WT:=@Go.wpList_load_mid
abbrev qT:=@Go.wpList_lookup_own_ok_int
abbrev Je:=@Go.wpList_make_own
abbrev Jd:=@Go.wpList_plain
abbrev DQ:=@Go.wpList_store_mid
abbrev Mb:=@Go.wpS_region
abbrev DP:=@Go.wp_loop_rounds
abbrev ZH:=@Go.wp_region_held_drew
abbrev Jc:=@Go.yieldsIf_load_mid
def Rd (k:IntKind) (w:World) (v:Value) (xs:List Int):Prop :=
 ∃ao cap,v=.slice ao xs.length cap∧xs.length≤cap∧cap≤maxLen ∧
  (xs=[]∨∃b off,ao=some ⟨b,off,none⟩∧b<w.heap.size∧∀i,i<xs.length→w.cell? ⟨b,off+i,none⟩=some (.int k (xs.getD i 0)))
def Own (k:IntKind) (e:TypeId) (w:World) (base:Nat) (v:Value) (xs:List Int):Prop :=
 w.ownsRow base e 1 v xs.length (xs.map (Value.int k))
theorem Own.rd (h:Own k e w base v xs):Rd k w v xs:=by
 rcases h.2 with ⟨rfl,h0⟩ | ⟨g,cap,cur,rfl,hb,hg,hn,hm,hs,ht⟩
 · have:xs=[]:=TN h0
   subst this;exact ⟨none,0,rfl,Nat.le_refl _,Zu _,.inl rfl⟩
 · refine ⟨_,cap,rfl,hn,hm,.inr ⟨g,0,rfl,(Yh.1 hg).1,fun i hi=>?_⟩⟩
   have h1:=Ud h (g:=g) rfl i (.int k (xs.getD i 0)) (by simp [List.getD,hi]);rw [Sg] at h1;exact h1
theorem Own.below (h:Own k e w base v xs) (hb:Below w.heap.size w w'):Own k e w' base v xs:=by
 refine ⟨h.1,?_⟩
 rcases h.2 with hn | ⟨g,cap,cur,rfl,hbg,hgg,rest⟩
 · exact .inl hn
 · exact .inr ⟨g,cap,cur,rfl,hbg,by rw [hb.block g (Yh.1 hgg).1];exact hgg,rest⟩
theorem Own.mono {base':Nat} (h:Own k e w base v xs) (hb:base'≤base):Own k e w base' v xs:=by
 refine ⟨h.1,?_⟩
 rcases h.2 with hn | ⟨g,cap,cur,rfl,hbg,rest⟩
 · exact .inl hn
 · exact .inr ⟨g,cap,cur,rfl,by omega,rest⟩
theorem Rd.below (h:Rd k w v xs) (hb:Below w.heap.size w w'):Rd k w' v xs:=by
 obtain ⟨ao,cap,rfl,h1,h2,h3⟩:=h;refine ⟨ao,cap,rfl,h1,h2,?_⟩
 rcases h3 with h3 | ⟨b,off,rfl,hlt,hc⟩
 · exact .inl h3
 · exact .inr ⟨b,off,rfl,ZL hlt hb.size,fun i hi=>by rw [hb.cell (p:=⟨b,off+i,none⟩) hlt];exact hc i hi⟩
theorem below_drewN' (w:World) (n:Nat):Below w.heap.size w (w.drewN n):=⟨rfl,rfl,rfl,Nat.le_refl _,fun _ _=>rfl⟩
theorem Own.other {row:Option Nat} (h:Own k e w base v xs) (hg:w.grownBy w' row) (hne:v.ownBlock=none∨v.ownBlock≠row):Own k e w' base v xs :=
 Yu h hg hne
theorem Own.lt (h:Own k e w base v xs):∀g,v.ownBlock=some g→base≤g∧g<w.heap.size:=ZD h
theorem Rd.len (h:Rd k w v xs):∃ao cap,v=.slice ao xs.length cap∧xs.length≤cap∧cap≤maxLen:=by
 obtain ⟨ao,cap,h0,h1,h2,_⟩:=h;exact ⟨ao,cap,h0,h1,h2⟩
theorem Z3 {p:Prop} (h:p):Hid p:=h
theorem Y8 {α:Type} (l:List α) (i:Nat) (a:α):l.toArray.setIfInBounds i a=(l.set i a).toArray:=List.setIfInBounds_toArray ..
theorem Y7 {α:Type} (a b:α) (l:List α):(a :: l).set 0 b=b :: l:=rfl
theorem Y6 {α:Type} (a b:α) (l:List α) (n:Nat):(a :: l).set (n+1) b=a :: l.set n b:=rfl
theorem TO {md:Region.Mode} {Q:Exit→Act→World→Prop} {S:World→Prop} (hi:ops[i]?=some oi)
    (hb:(Region.noSelect ops && (Region.free md ops listed i && (Region.ready md ops listed).contains i))=true)
    (hQ:∀c a w,Q (.panic c) (a.put oi.dst v) w→Q (.panic c) a w) (hy:YieldsIf P ops S oi v a) (hS:S w)
    (h:wpAnyH P md ops Q S fuel (listed.setIfInBounds i true) (a.put oi.dst v) w):wpAnyH P md ops Q S (fuel+1) listed a w:=by
 simp only [Yg] at hb
 exact wpAnyH_take hi hb.1 hb.2.1 hb.2.2 hQ hy hS h
theorem ix {md:Region.Mode} {Q:Exit→Act→World→Prop} {S:World→Prop} (hi:ops[i]?=some oi)
    (hb:(Region.noSelect ops && (Region.free md ops listed i && (Region.ready md ops listed).contains i))=true)
    (hQ:∀c a w,Q (.panic c) (a.put oi.dst v) w→Q (.panic c) a w) (hw:Region.wanted oi (yielded ops a.tmps)=true) (hS:S w) (hy:∀w,S w→(execOp a.eval oi).run P w=.ok (.value v) w)
    (h:wpAnyH P md ops Q S fuel (listed.setIfInBounds i true) (a.put oi.dst v) w):wpAnyH P md ops Q S (fuel+1) listed a w:=TO hi hb hQ (Or.inl ⟨hw,hy⟩) hS h
theorem iw {md:Region.Mode} {Q:Exit→Act→World→Prop} {S:World→Prop} (hi:ops[i]?=some oi)
    (hb:(Region.noSelect ops && (Region.free md ops listed i && (Region.ready md ops listed).contains i))=true)
    (hQ:∀c a w,Q (.panic c) (a.put oi.dst undef) w→Q (.panic c) a w) (hw:Region.wanted oi (yielded ops a.tmps)=false) (hS:S w)
    (h:wpAnyH P md ops Q S fuel (listed.setIfInBounds i true) (a.put oi.dst undef) w):wpAnyH P md ops Q S (fuel+1) listed a w:=TO hi hb hQ (Or.inr ⟨hw,rfl⟩) hS h
section
variable {P:Program} {md:Region.Mode} {ops:Array Oper} {Q:Exit→Act→World→Prop} {S:World→Prop} {fuel:Nat} {listed:Array Bool} {a:Act} {w:World} {d:Option Nat} {op:Op} {ty:TypeId} {ps:String} {U:Array Edge} {T:Option (Nat × Bool)} {os:List Oper}
theorem ZG (i:Nat) (v:Value) (hi:ops[i]?=some ⟨d,op,ty,ps,U,T⟩) (hb:((Region.noSelect ops && (Region.free md ops listed i && (Region.ready md ops listed).contains i)) && (Region.wanted ⟨d,op,ty,ps,U,T⟩ (yielded ops a.tmps) == true))=true) (hQ:∀p:List PanicEntry × Act × World,Q (.panic p.1) (p.2.1.put d v) p.2.2→Q (.panic p.1) p.2.1 p.2.2) (hS:S w) (hy:∀w,S w→(execOp a.eval ⟨d,op,ty,ps,U,T⟩).run P w=.ok (.value v) w) (h:wpAnyH P md ops Q S fuel (listed.setIfInBounds i true) (a.put d v) w):wpAnyH P md ops Q S (fuel+1) listed a w:=ix hi (Bool.and_eq_true_iff.1 hb).1 (fun c a w h=>hQ (c,a,w) h) (ZK.1 (Bool.and_eq_true_iff.1 hb).2) hS hy h
theorem ZW (v:Value) (hb:(ops[ops.size - (os.length+1)]?,((Region.noSelect ops && (Region.free md ops listed (ops.size - (os.length+1)) && (Region.ready md ops listed).contains (ops.size - (os.length+1)))) && (Region.wanted ⟨d,op,ty,ps,U,T⟩ (yielded ops a.tmps) == true)))=(some ⟨d,op,ty,ps,U,T⟩,true)) (hQ:∀p:List PanicEntry × Act × World,Q (.panic p.1) (p.2.1.put d v) p.2.2→Q (.panic p.1) p.2.1 p.2.2) (hS:S w) (hy:∀w,S w→(execOp a.eval ⟨d,op,ty,ps,U,T⟩).run P w=.ok (.value v) w) (h:wpAnyH P md ops Q S os.length (listed.setIfInBounds (ops.size - (os.length+1)) true) (a.put d v) w):wpAnyH P md ops Q S (⟨d,op,ty,ps,U,T⟩ :: os).length listed a w:=ZG _ v (PL hb).1 (PL hb).2 hQ hS hy h
theorem iv (i:Nat) (hi:ops[i]?=some ⟨d,op,ty,ps,U,T⟩) (hb:((Region.noSelect ops && (Region.free md ops listed i && (Region.ready md ops listed).contains i)) && (Region.wanted ⟨d,op,ty,ps,U,T⟩ (yielded ops a.tmps) == false))=true) (hQ:∀p:List PanicEntry × Act × World,Q (.panic p.1) (p.2.1.put d undef) p.2.2→Q (.panic p.1) p.2.1 p.2.2) (hS:S w) (h:wpAnyH P md ops Q S fuel (listed.setIfInBounds i true) (a.put d undef) w):wpAnyH P md ops Q S (fuel+1) listed a w:=iw hi (Bool.and_eq_true_iff.1 hb).1 (fun c a w h=>hQ (c,a,w) h) (ZK.1 (Bool.and_eq_true_iff.1 hb).2) hS h
theorem MU (hb:(ops[ops.size - (os.length+1)]?,((Region.noSelect ops && (Region.free md ops listed (ops.size - (os.length+1)) && (Region.ready md ops listed).contains (ops.size - (os.length+1)))) && (Region.wanted ⟨d,op,ty,ps,U,T⟩ (yielded ops a.tmps) == false)))=(some ⟨d,op,ty,ps,U,T⟩,true)) (hQ:∀p:List PanicEntry × Act × World,Q (.panic p.1) (p.2.1.put d undef) p.2.2→Q (.panic p.1) p.2.1 p.2.2) (hS:S w) (h:wpAnyH P md ops Q S os.length (listed.setIfInBounds (ops.size - (os.length+1)) true) (a.put d undef) w):wpAnyH P md ops Q S (⟨d,op,ty,ps,U,T⟩ :: os).length listed a w:=iv _ (PL hb).1 (PL hb).2 hQ hS h
theorem ZU (i:Nat) (ho:ops[i]?=some ⟨d,op,ty,ps,U,T⟩) (hr:Region.ready md ops listed=[i]) (h:∀K':Act→World→Prop,Shut (∀a w,S w→(S w→wpAnyH P md ops Q S fuel (listed.setIfInBounds i true) a w)→K' a w)→if Region.wanted ⟨d,op,ty,ps,U,T⟩ (yielded ops a.tmps)=true then Oper.wp P ⟨d,op,ty,ps,U,T⟩ a w K' Q else K' (a.put d undef) w):wpAnyH P md ops Q S (fuel+1) listed a w:=wpAnyH_ready hr (by simp) (iy ho h AllReadyH.nil)
theorem UY (i j:Nat) {d2:Option Nat} {Z5:Op} {Z4:TypeId} {ps2:String} {Z2:Array Edge} {ZY:Option (Nat × Bool)} (ho:ops[i]?=some ⟨d,op,ty,ps,U,T⟩) (ho2:ops[j]?=some ⟨d2,Z5,Z4,ps2,Z2,ZY⟩) (hr:Region.ready md ops listed=[i,j]) (h:∀K':Act→World→Prop,Shut (∀a w,S w→(S w→wpAnyH P md ops Q S fuel (listed.setIfInBounds i true) a w)→K' a w)→if Region.wanted ⟨d,op,ty,ps,U,T⟩ (yielded ops a.tmps)=true then Oper.wp P ⟨d,op,ty,ps,U,T⟩ a w K' Q else K' (a.put d undef) w) (h2:∀K':Act→World→Prop,Shut (∀a w,S w→(S w→wpAnyH P md ops Q S fuel (listed.setIfInBounds j true) a w)→K' a w)→if Region.wanted ⟨d2,Z5,Z4,ps2,Z2,ZY⟩ (yielded ops a.tmps)=true then Oper.wp P ⟨d2,Z5,Z4,ps2,Z2,ZY⟩ a w K' Q else K' (a.put d2 undef) w):wpAnyH P md ops Q S (fuel+1) listed a w:=wpAnyH_ready hr (by simp) (iy ho h (iy ho2 h2 AllReadyH.nil))
end
@[reducible] def ZX (w W:World):Prop:=Below w.heap.size w W
@[reducible] def YI (w:World) (v:Value) (e:Ending) (W:World):Prop:=e=.returned v∧Below w.heap.size w W
theorem ZT :n≤n:=Nat.le_refl n
theorem ZJ :Below n w w:=Below.refl _ _
theorem YV (h:Below w.heap.size w w1) (k:Below w1.heap.size w1 w2):Below w.heap.size w w2:=h.trans (k.mono h.size)
theorem Tryz.Vh:(Tryz.prog.info? 5).map (fun i=>(i.zero,i.size,i.bytes))=some (some (.int .u8 0),1,1):=by kernel_rfl
theorem YS {a b:Bool} (h:a=b):Ending.returned (.bool a)=.returned (.bool b):=by rw [h]
theorem Ta {a b:Int} (h:a=b):Ending.returned (.int k a)=.returned (.int k b):=by rw [h]
theorem grownBy_set (w w':World) (g i:Nat) (u:Value) (h:w.grownBy w' (some g)):w.grownBy (w'.setCell ⟨g,i,none⟩ u) (some g) :=
 ⟨h.os,h.tape,h.output,by simpa using h.size,fun k hk hne=>by
  have hs:=h.size;rw [←h.block k hk hne];exact Below.heap_setCell _ _ _ _ (fun e=>hne (by rw [e]))⟩
theorem Own.row (h:Own k e w base v xs) :
    (v=.slice none 0 0∧xs=[])∨∃g cap,v=.slice (some ⟨g,0,none⟩) xs.length cap∧base≤g∧xs.length≤cap∧cap≤maxLen:=by
 rcases h.2 with ⟨rfl,h0⟩ | ⟨g,cap,cur,rfl,hb,hg,hn,hm,_⟩
 · exact .inl ⟨rfl,TN h0⟩
 exact .inr ⟨g,cap,rfl,hb,hn,hm⟩
theorem CD (h:w.ownsRow base e 1 (.slice (some ⟨g,0,none⟩) n cap) n (madeCells #[Value.int k 0] n).toList) :
    Own k e w base (.slice (some ⟨g,0,none⟩) n cap) (List.replicate n 0):=by
 unfold Own;rw [toList_madeCells_one] at h
 simpa using h
end
section
variable {a:Act} {listed:Array Bool} {ops:Array Oper} {k:IntKind} {ps rs:List (Int × List Int)} {ZQ xs ys:List Int} {L:List Value} {B base c cap dl fuel g hi i j lo lo' mb n q tb:Nat} {oi:Oper} {ao:Option Addr} {o o':Option Nat} {P:Program} {e t te:TypeId} {u v vd vp x y:Value} {W W' w w' w1 w2:World}
def UE (w:Nat) (xs:List Int):Nat:=xs.foldl (fun a x=>a*2 ^ w+x.toNat % 2 ^ w) 0
theorem CC (w:Nat) (xs:List Int) (x:Int):UE w (xs++[x])=UE w xs*2 ^ w+x.toNat % 2 ^ w:=by
 simp [UE,zY]
theorem Jb (k:Nat):0<2 ^ k:=Nat.two_pow_pos k
theorem OK (xs:List Int) (k:Nat) (h:k<xs.length):xs.take (k+1)=xs.take k++[xs.getD k 0]:=by
 rw [TL h];simp [List.getD,h]
theorem TI (w:Nat) (xs:List Int) (k:Nat) (h:k<xs.length):UE w (xs.take (k+1))=UE w (xs.take k)*2 ^ w+(xs.getD k 0).toNat % 2 ^ w:=by
 rw [OK xs k h,CC]
theorem zk (w:Nat) (xs:List Int) (k:Nat):∀d,k+d≤xs.length→UE w (xs.take (k+d)) / 2 ^ (w*d)=UE w (xs.take k):=by
 intro d
 induction d with
 | zero=>intro _;simp
 | succ d ih =>
  intro h;rw [←Ue,TI w xs (k+d) (by omega),Nat.mul_succ,Nat.add_comm (w*d) w,Mn,←zK];have h2:(xs.getD (k+d) 0).toNat % 2 ^ w<2 ^ w:=SG _ (Jb w);rw [Nat.add_comm,Nat.add_mul_div_right _ _ (Jb w),Nat.div_eq_of_lt h2,YK];exact ih (by omega)
def ug (w v:Nat) (xs:List Int) (q:Nat):Nat:=UE w xs / 2 ^ (w*xs.length - v*(q+1)) % 2 ^ v
theorem zj (w v:Nat) (xs:List Int) (k q:Nat) (hk:k≤xs.length) (hq:v*(q+1)≤w*k) :
    ug w v xs q=UE w (xs.take k) / 2 ^ (w*k - v*(q+1)) % 2 ^ v:=by
 unfold ug;have e1:w*xs.length - v*(q+1)=w*(xs.length - k)+(w*k - v*(q+1)):=by
  rw [Nat.mul_sub];have:w*k≤w*xs.length:=Nat.mul_le_mul_left _ hk;omega
 rw [e1,Mn,←zK];have e2:=zk w xs k (xs.length - k) (by omega);rw [show k+(xs.length - k)=xs.length by omega,Rw] at e2;rw [e2]
theorem uf (r N a v:Nat) (h:r % 2 ^ (a+v)=N % 2 ^ (a+v)):r / 2 ^ a % 2 ^ v=N / 2 ^ a % 2 ^ v:=by
 have key:∀x,x / 2 ^ a % 2 ^ v=x % 2 ^ (a+v) / 2 ^ a:=by
  intro x;rw [Mn,Nat.mod_mul_right_div_self]
 rw [key,key,h]
theorem ud {r N a b:Nat} (hab:a≤b) (h:r % 2 ^ b=N % 2 ^ b):r % 2 ^ a=N % 2 ^ a:=by
 have hd:=Nat.pow_dvd_pow 2 hab;rw [←zH r hd,h,zH N hd]
theorem zi (r N x a w K:Nat) (hK:a+w≤K) (h:r % 2 ^ a=N % 2 ^ a) :
    (r*2 ^ w % 2 ^ K+x) % 2 ^ (a+w)=(N*2 ^ w+x) % 2 ^ (a+w):=by
 have hd:=Nat.pow_dvd_pow 2 hK;have e:r*2 ^ w % 2 ^ (a+w)=N*2 ^ w % 2 ^ (a+w):=by
  rw [Mn,zG,zG,h]
 rw [Nat.add_mod,zH _ hd,e,←Nat.add_mod]
def pk (xs:List Int):List Int :=
 (List.range (8*xs.length / 7)).map (fun q=>((128+ug 8 7 xs q:Nat):Int)) ++
  (if 8*xs.length % 7=0 then [] else [((128+UE 8 xs % 2 ^ (8*xs.length % 7)*2 ^ (7 - 8*xs.length % 7):Nat):Int)])
theorem Ma (xs:List Int):(pk xs).length=(8*xs.length+6) / 7:=by
 unfold pk
 by_cases h:8*xs.length % 7=0
 · simp [h];omega
 simp [h];omega
def up (ps:List Int):List Int:=(List.range (7*ps.length / 8)).map (fun q=>((ug 7 8 ps q:Nat):Int))
theorem FM (f:Nat→Int) (q:Nat):(List.range (q+1)).map f=(List.range q).map f++[f q]:=by
 rw [zP,Wn];rfl
end
section
open Go.RowKit Go.Shelf
variable {a:Act} {listed:Array Bool} {ops:Array Oper} {k:IntKind} {ps rs:List (Int × List Int)} {ZQ xs ys:List Int} {L:List Value} {B base c cap dl fuel g hi i j lo lo' mb n q tb:Nat} {oi:Oper} {ao:Option Addr} {o o':Option Nat} {P:Program} {e t te:TypeId} {u v vd vp x y:Value} {W W' w w' w1 w2:World}
theorem zh (r:Int) (h0:0≤r) (h1:r<65536):bits .and .u16 r 127=r % 128:=by
 rw [u16_and r 127 h0 h1 (by omega) (by omega)];rw [show ((127:Int).toNat)=127 from rfl,nat_mask7];omega
theorem Lk (x:Int) (h0:0≤x) (h1:x<128):bits .or .u8 128 x=128+x:=by
 rw [u8_or 128 x (by omega) (by omega) h0 (by omega)];rw [show ((128:Int).toNat)=128 from rfl,nat_join 7 128 x.toNat (by decide) (by simp only [Nat.reducePow];omega)];omega
theorem Sy (w:World) (r:Int) (h0:0≤r) (h1:r<65536):Calls Tryz.prog 203 #[.int .u16 r] w fun e w'=>e=.returned (.int .u8 (128+r % 128))∧w'=w:=by
 have e1:=zh r h0 h1;have e2:=Lk (r % 128) (by omega) (by omega)
 go_enter Tryz.func203,Tryz.ntmps203
 go_wp2;go_ret;exact ⟨rfl,rfl⟩
def Wm (xs:List Int):Prop:=∀x ∈ xs,0≤x∧x<256
theorem FL (h:Wm xs) (k:Nat):∃x:Nat,x<256∧xs.getD k 0=(x:Int):=by
 by_cases hk:k<xs.length
 · have:=h xs[k] (UO hk)
   exact ⟨xs[k].toNat,by omega,by simp only [List.getD,Xc hk,PM];omega⟩
 exact ⟨0,by omega,by simp [List.getD,show xs.length≤k by omega]⟩
theorem pC (R x A N:Nat) (hx:x<256) (hA:A≤6) (h:R % 2 ^ A=N % 2 ^ A) :
    ∃R':Nat,R'<65536∧bits .or .u16 (IntKind.u16.wrap ((R:Int)*256)) (x:Int)=(R':Int)∧R' % 2 ^ (A+8)=(N*256+x) % 2 ^ (A+8):=by
 have hs:=zi R N x A 8 16 (by omega) h
 simp only [show (2:Nat) ^ 8=256 from rfl,show (2:Nat) ^ 16=65536 from rfl] at hs
 refine ⟨R*256 % 65536+x,by omega,?_,hs⟩;have e:IntKind.u16.wrap ((R:Int)*256)=((R*256 % 65536:Nat):Int):=by rw [pT];omega
 rw [e,u16_or_nat _ _ (by omega) (by omega),nat_join 8 (R*256 % 65536) x (by simp only [Nat.reducePow];omega) (by simpa using hx)]
theorem FK (R A:Nat):(0:Int)≤(R:Int) / 2 ^ A:=Int.ediv_nonneg (by omega) (by exact_mod_cast Zu _)
theorem Rr (R A:Nat):(R:Int) / 2 ^ A=((R / 2 ^ A:Nat):Int):=by simp
theorem py (R A:Nat) (h:R<65536):(R:Int) / 2 ^ A<65536:=by
 rw [Rr];have:=D9 R (2 ^ A);omega
theorem tZ (xs:List Int) (R A k q:Nat) (hk:k≤xs.length) (hq:7*q+(A+7)=8*k) (h:R % 2 ^ (A+7)=UE 8 (xs.take k) % 2 ^ (A+7)) :
    (128+(R:Int) / 2 ^ A % 128)=((128+ug 8 7 xs q:Nat):Int):=by
 rw [Rr,zj 8 7 xs k q hk (by omega),show 8*k - 7*(q+1)=A by omega,←uf R _ A 7 h]
 simp only [Nat.reducePow]
 omega
theorem zg (x:Int):0≤IntKind.u16.wrap x∧IntKind.u16.wrap x<65536:=by rw [pT];omega
theorem ze (R N A:Nat) (hA:A≤7) (h:R % 2 ^ A=N % 2 ^ A):(128+IntKind.u16.wrap ((R:Int)*2 ^ (7 - A)) % 128)=((128+N % 2 ^ A*2 ^ (7 - A):Nat):Int):=by
 have e:(R:Int)*2 ^ (7 - A)=((R*2 ^ (7 - A):Nat):Int):=by simp
 rw [e,pT];have e2:R*2 ^ (7 - A) % 128=N % 2 ^ A*2 ^ (7 - A):=by
  have e3:128=2 ^ A*2 ^ (7 - A):=by rw [←Mn,show A+(7 - A)=7 by omega]
  conv=>lhs;rw [e3]
  rw [zG,h]
 rw [←e2];generalize R*2 ^ (7 - A)=z;omega
def zd (xs:List Int) (q:Nat):List Int:=(List.range q).map (fun j=>((128+ug 8 7 xs j:Nat):Int))
theorem DO (xs:List Int) (q:Nat):(zd xs q).length=q:=by simp [zd]
theorem tY (h:7*q+0=8*xs.length):pk xs=zd xs q:=by
 unfold pk zd;rw [show 8*xs.length / 7=q by omega,ZZ (by omega),TX]
theorem px {A:Nat} (h:7*q+A=8*xs.length) (h0:0<A) (h6:A≤6):pk xs=zd xs q++[((128+UE 8 xs % 2 ^ A*2 ^ (7 - A):Nat):Int)]:=by
 unfold pk zd;rw [show 8*xs.length / 7=q by omega,show 8*xs.length % 7=A by omega,Z1 (by omega)]
theorem Vg (hl:ys.length=q) (he:xs=ys) (h:w.ownsRow base e 1 v q (ys.map (Value.int k))):Own k e w base v xs:=by
 subst he;unfold Own;rw [hl];exact h
theorem Lj (w:World) (b o n cap:Nat) (xs:List Int) (hx:xs.length=n) (hb:b<w.heap.size) (hc:∀i,i<n→w.cell? ⟨b,o+i,none⟩=some (.int .u8 (xs.getD i 0))) (hby:Wm xs) (hn:n≤1099511627776) :
    Calls Tryz.prog 172 #[.slice (some ⟨b,o,none⟩) n cap] w fun e w'=>∃v',e=.returned v'∧Own .u8 5 w' w.heap.size v' (pk xs)∧ZX w w':=by
 obtain ⟨i0,hi,hz0,hz1,hz2⟩:=Yq Tryz.Vh;have HC:=Z3 hc;have HX:=Z3 hx;clear hc hx
 go_enter Tryz.func172,Tryz.ntmps172
 go_wp2_with (at_make;refine Je _ rfl _ _ 22 rfl w.heap.size 5 i0 (.int .u8 0) 1 Tryz.underlying22 hi hz0 hz1 _ _ _ ((8*n+6) / 7) rfl rfl ?b1 ?b2 ?b3 ?b4 ?_)
 case b1=>omega
 case b2=>rw [hz2];omega
 case b3=>unfold maxLen;omega
 case b4=>exact ZT
 intro w1 hown hgrow;go_wp2;have HO:=Z3 hown;have HG:=Z3 (ZJ.grown hgrow ZT (by simp));clear hown hgrow
 go_loopw [3,4,5,16] (fun v r a i wr=>∃k q A R:Nat,k≤n∧i=.int .i64 k∧A≤6∧Hid (7*q+A=8*k)∧a=.int .u8 A∧R<65536∧r=.int .u16 R∧Hid (R % 2 ^ A=UE 8 (xs.take k) % 2 ^ A) ∧
     v=.slice (some ⟨w.heap.size,0,none⟩) q ((8*n+6) / 7)∧wr.ownsRow w.heap.size 5 1 (.slice (some ⟨w.heap.size,0,none⟩) q ((8*n+6) / 7)) q ((zd xs q).map (Value.int .u8))∧ZX w wr) (fun _ _ _ i _=>n - (intOf i).toNat)
 case atStart=>exact ⟨0,0,0,0,Zu _,rfl,by omega,rfl,rfl,by omega,rfl,rfl,rfl,HO.out,HG.out⟩
 case round =>
  obtain ⟨k,q,A,R,hk,rfl,hA,HQ,rfl,hR,rfl,HR,rfl,ho,hg⟩:=hrel
  by_cases hlt:k<n
  · obtain ⟨x,hx,hxe⟩:=FL hby k
    have hsrc:wr.cell? ⟨b,o+k,none⟩=some (.int .u8 (x:Int)):=by rw [←hxe];exact (hg.cell (p:=⟨b,o+k,none⟩) hb).trans (HC.out k hlt)
    have Vp:(k:Int)<(n:Int):=by omega
    obtain ⟨R',hR',ZI,M⟩:=pC R x A (UE 8 (xs.take k)) hx hA HR.out;have HN:Hid (UE 8 (xs.take (k+1))=UE 8 (xs.take k)*256+x):=by
     have:=TI 8 xs k (by rw [HX.out];exact hlt);rw [hxe] at this;show _=_;rw [this,Ww,zI (show x<2 ^ 8 from hx)]
    rw [←HN.out] at M;have HR2:=Z3 M;have mg:Hid (7*q+(A+8)=8*(k+1)):=by have:=HQ.out;show _=_;omega
    clear hxe M HR HN HQ;go_wp2
    go_loopw [3,5] (fun v a wr=>∃q A:Nat,A≤14∧Hid (7*q+A=8*(k+1))∧a=.int .u8 A∧Hid (R' % 2 ^ A=UE 8 (xs.take (k+1)) % 2 ^ A) ∧
        v=.slice (some ⟨w.heap.size,0,none⟩) q ((8*n+6) / 7)∧wr.ownsRow w.heap.size 5 1 (.slice (some ⟨w.heap.size,0,none⟩) q ((8*n+6) / 7)) q ((zd xs q).map (Value.int .u8))∧ZX w wr) (fun _ a _=>(intOf a).toNat)
    case atStart=>exact ⟨q,A+8,by omega,mg,by go_num,HR2,rfl,ho,hg⟩
    case round =>
     clear mg HR2 ho hg hsrc ZI;obtain ⟨q',A',hA',Z',rfl,M,rfl,ho,hg⟩:=hrel
     by_cases h7:7≤A'
     · obtain ⟨A2,rfl⟩:∃A2,A'=A2+7:=⟨A' - 7,by omega⟩
       have Zy:(7:Int)≤((A2+7:Nat):Int):=by omega
       have HD:=Z3 (tZ xs R' A2 (k+1) q' (by rw [HX.out];omega) Z'.out M.out);have hcap:q'+1≤(8*n+6) / 7:=by have:=Z'.out;omega
       go_wp2_with fail
       refine (Sy _ _ (FK R' A2) (py R' A2 hR')).mono ?_;rintro e wr ⟨rfl,rfl⟩
       go_wp2_with (at_builtin;refine Mc _ rfl _ _ 22 rfl w.heap.size 5 i0 1 Tryz.underlying22 hi hz1 w.heap.size q' ((8*n+6) / 7) _ rfl (ho.alloc _) ⟨wr.heap.size,0,none⟩ 1 1 [.int .u8 (128+(R':Int) / 2 ^ A2 % 128)] rfl rfl (Vx _ _ _) (by intro u hu;simp at hu;subst hu;rfl) hcap ?_)
       intro w2 ho2 hg2;have FJ:Hid (w2.ownsRow w.heap.size 5 1 (.slice (some ⟨w.heap.size,0,none⟩) (q'+1) ((8*n+6) / 7)) (q'+1) ((zd xs (q'+1)).map (Value.int .u8))):=by
        rw [HD.out] at ho2;unfold zd;rw [FM,Wn];exact ho2
       have HG2:=Z3 ((hg.alloc (hg.size) _).grown hg2 (by have:=hg.size;simp;omega) (by intro k hk;simp at hk;omega));clear ho2 hg2 ho hg;go_wp2
       go_roundw
       case rel=>exact ⟨q'+1,A2,by omega,(by have:=Z'.out;show _=_;omega),by go_num,ud (by omega) M.out,rfl,FJ.out,HG2.out⟩
       case measure=>simp [intOf];omega
     have Zy:((A':Nat):Int)<7:=by omega
     go_wp2
     go_roundw
     case rel=>exact ⟨k+1,q',A',R',by omega,by go_num,by omega,Z',rfl,hR',rfl,M,rfl,ho,hg⟩
     case measure=>simp [intOf];omega
  have hkn:k=n:=by omega
  subst hkn
  by_cases hA0:A=0
  · subst hA0
    go_wp2;go_ret;exact ⟨_,rfl,Vg (DO xs q) (tY (by rw [HX.out];exact HQ.out)) ho,hg⟩
  have hA1:(0:Int)<(A:Int):=by omega
  have HD:Hid ((128+IntKind.u16.wrap ((R:Int)*2 ^ (7 - A)) % 128)=((128+UE 8 xs % 2 ^ A*2 ^ (7 - A):Nat):Int)):=ze R _ A (by omega) (by have:=HR.out;rw [Wv (by rw [HX.out];exact ZT)] at this;exact this);have hcap:q+1≤(8*k+6) / 7:=by have:=HQ.out;omega
  go_wp2_with fail
  refine (Sy _ _ (zg _).1 (zg _).2).mono ?_;rintro e wr ⟨rfl,rfl⟩
  go_wp2_with (at_builtin;refine Mc _ rfl _ _ 22 rfl w.heap.size 5 i0 1 Tryz.underlying22 hi hz1 w.heap.size q ((8*k+6) / 7) _ rfl (ho.alloc _) ⟨wr.heap.size,0,none⟩ 1 1 [.int .u8 (128+IntKind.u16.wrap ((R:Int)*2 ^ (7 - A)) % 128)] rfl rfl (Vx _ _ _) (by intro u hu;simp at hu;subst hu;rfl) hcap ?_)
  intro w2 ho2 hg2;have FJ:Hid (Own .u8 5 w2 w.heap.size (.slice (some ⟨w.heap.size,0,none⟩) (q+1) ((8*k+6) / 7)) (pk xs)):=by
   rw [HD.out] at ho2;exact Vg (q:=q+1) (ys:=zd xs q++[((128+UE 8 xs % 2 ^ A*2 ^ (7 - A):Nat):Int)]) (by simp [DO]) (px (by rw [HX.out];exact HQ.out) (by omega) (by omega)) (by rw [Wn];exact ho2)
  have HG2:=Z3 ((hg.alloc (hg.size) _).grown hg2 (by have:=hg.size;simp;omega) (by intro k hk;simp at hk;omega));clear ho2 hg2 ho hg;go_wp2;go_ret;exact ⟨_,rfl,FJ.out,HG2.out⟩
theorem Li (w:World) (ao:Option Addr) (cap:Nat) :
    Calls Tryz.prog 172 #[.slice ao 0 cap] w fun e w'=>∃v',e=.returned v'∧Own .u8 5 w' w.heap.size v' []∧ZX w w':=by
 obtain ⟨i0,hi,hz0,hz1,hz2⟩:=Yq Tryz.Vh
 go_enter Tryz.func172,Tryz.ntmps172
 go_wp2_with (at_make;refine Je _ rfl _ _ 22 rfl w.heap.size 5 i0 (.int .u8 0) 1 Tryz.underlying22 hi hz0 hz1 _ _ _ 0 rfl rfl ?b1 ?b2 ?b3 ?b4 ?_)
 case b1=>rfl
 case b2=>rw [hz2];omega
 case b3=>unfold maxLen;omega
 case b4=>exact ZT
 intro w1 hown hgrow;have HO:=Z3 hown;have HG:=Z3 (ZJ.grown hgrow ZT (by simp));clear hown hgrow;go_wp2
 go_rounds 1
 go_ret;exact ⟨_,rfl,HO.out,HG.out⟩
theorem Lh (w:World) (v:Value) (xs:List Int) (h:Rd .u8 w v xs) (hby:Wm xs) (hn:xs.length≤1099511627776) :
    Calls Tryz.prog 172 #[v] w fun e w'=>∃v',e=.returned v'∧Own .u8 5 w' w.heap.size v' (pk xs)∧ZX w w':=by
 obtain ⟨ao,cap,rfl,h1,h2,h3⟩:=h
 rcases h3 with rfl | ⟨b,o,rfl,hb,hc⟩
 · exact Li w ao cap
 exact Lj w b o xs.length cap xs rfl hb hc hby hn
theorem WS (h:Rd .u8 w v xs):(convert 22 9 v).run Tryz.prog w=.ok (.string (strOfNums xs)) w:=by
 obtain ⟨ao,cap,rfl,h1,h2,h3⟩:=h
 rcases h3 with rfl | ⟨b,o,rfl,hb,hc⟩
 · cases ao with
   | none=>exact run_convert_bytes_nil w _ _ Tryz.underlying22 Tryz.underlying5 0 cap _ Tryz.underlying9
   | some a =>
    rw [run_convert_bytes_string w _ _ _ _ _ _ Tryz.underlying22 Tryz.underlying5 Tryz.underlying9];exact run_bytesToString w a 0 cap [] (by simp [loadCells,loadCellsFrom])
 exact run_convert_bytes_arg w _ _ Tryz.underlying22 Tryz.underlying5 b o _ cap xs rfl hc _ Tryz.underlying9
theorem FH (hx:Wm xs) (hy:Wm ys) (h:xs.map (fun n=>UInt8.ofNat n.toNat)=ys.map (fun n=>UInt8.ofNat n.toNat)):xs=ys:=by
 induction xs generalizing ys with
 | nil=>cases ys with
  | nil=>rfl
  | cons y ys=>simp at h
 | cons x xs ih=>cases ys with
  | nil=>simp at h
  | cons y ys =>
   simp only [TM,pP] at h
   have bx:=hx x (by simp);have by':=hy y (by simp);have e:x=y:=by
    have h1:=ZR UInt8.toNat h.1
    simp only [UInt8.toNat_ofNat'] at h1
    omega
   rw [e,ih (fun z hz=>hx z (by simp [hz])) (fun z hz=>hy z (by simp [hz])) h.2]
theorem same_iff (hx:Wm xs) (hy:Wm ys):((strOfNums xs).toList == (strOfNums ys).toList)=decide (xs=ys):=by
 rw [Sf,Sf,strOfNums_data,strOfNums_data]
 by_cases h:xs=ys
 · subst h;simp
 rw [YW h,Vy];exact fun e=>h (FH hx hy e)
theorem OJ (w:World) (va vb:Value) (xs ys:List Int) (ha:Rd .u8 w va xs) (hb:Rd .u8 w vb ys) (hx:Wm xs) (hy:Wm ys) :
    Calls Tryz.prog 68 #[va,vb] w fun e w'=>e=.returned (.bool (decide (xs=ys)))∧w'=w:=by
 have h1:=WS ha;have h2:=WS hb;have HS:=Z3 (same_iff hx hy);clear ha hb
 go_enter Tryz.func68,Tryz.ntmps68
 go_wp2;go_ret;exact ⟨YS HS.out,rfl⟩
theorem lj (hb:ZX W w1):(∀b o,b<W.heap.size→w1.cell? ⟨b,o,none⟩=W.cell? ⟨b,o,none⟩)∧(∀b o,b<W.heap.size→w1.frozen? ⟨b,o,none⟩=W.frozen? ⟨b,o,none⟩) :=
 ⟨fun b o h=>hb.cell (p:=⟨b,o,none⟩) h,fun b o h=>hb.frozen (p:=⟨b,o,none⟩) h⟩
theorem Own.Yk (h:Own k e w base v xs) {a:Addr} (ha:a.block<base) (u:Value):Own k e (w.setCell a u) base v xs:=ownsRow_setCell_below h ha u
def g8 (xs:List Int) (q t:Nat):Nat:=UE 7 xs / 2 ^ (7*xs.length - (8*q+t)) % 2 ^ t
def zeros (n:Nat):List Int:=List.replicate n 0
theorem Zh (n:Nat):(zeros n).length=n:=by simp [zeros]
def pv (k:Int):Nat:=if 1≤k∧k≤300 then k.toNat*64 else 0
theorem OI (hb:Below (w.alloc (.cells #[x,y] t)).heap.size (w.alloc (.cells #[x,y] t)) w1) :
    w1.cell? ⟨w.heap.size,0,none⟩=some x∧w1.cell? ⟨w.heap.size,1,none⟩=some y∧w1.frozen? ⟨w.heap.size,0,none⟩=false∧w1.frozen? ⟨w.heap.size,1,none⟩=false∧w.heap.size<w1.heap.size:=by
 obtain ⟨hc,hf⟩:=lj hb;have hs:=hb.size
 simp at hs
 refine ⟨?_,?_,?_,?_,by omega⟩
 · rw [hc _ _ (by simp)];simp
 · rw [hc _ _ (by simp)];simp
 · rw [hf _ _ (by simp)];simp
 rw [hf _ _ (by simp)];simp
theorem Po (w:World) (k:Int) :
    Calls Tryz.prog 44 #[.int .i64 k] w fun e w'=>∃v',e=.returned (.agg #[v',.slice none 0 0])∧Own .u8 5 w' w.heap.size v' (zeros (pv k))∧ZX w w':=by
 obtain ⟨i0,hi,hz0,hz1,hz2⟩:=Yq Tryz.Vh
 by_cases h1:k<1
 · have e:pv k=0:=Z1 (by omega)
   rw [e]
   go_enter Tryz.func44,Tryz.ntmps44
   go_wp2;exact ZS (v:=.agg #[.slice none 0 0,.slice none 0 0]) (by simp [results,Tryz.results44,go_sem]) rfl ⟨_,rfl,Zl _ _ _ _,ZJ.alloc ZT _⟩
 by_cases h2:300<k
 · have e:pv k=0:=Z1 (by omega)
   rw [e]
   go_enter Tryz.func44,Tryz.ntmps44
   go_wp2;exact ZS (v:=.agg #[.slice none 0 0,.slice none 0 0]) (by simp [results,Tryz.results44,go_sem]) rfl ⟨_,rfl,Zl _ _ _ _,ZJ.alloc ZT _⟩
 obtain ⟨n,rfl⟩:∃n:Nat,k=(n:Int):=⟨k.toNat,by omega⟩;have e:pv (n:Int)=n*64:=by unfold pv;rw [ZZ (by omega),Ww]
 rw [e];clear e
 go_enter Tryz.func44,Tryz.ntmps44
 go_wp2_with (at_make;go_must (refine wpList_make_full _ rfl _ _ 22 rfl (w.heap.size+1) 5 i0 (.int .u8 0) 1 Tryz.underlying22 hi hz0 hz1 _ _ _ _ (n*64) rfl rfl ?a1 ?a2 ?b2 ?b3 ?b4 ?_))
 case b2=>omega
 case b3=>unfold maxLen;omega
 intro w1 hown hgrow;have B1:Below (w.alloc (.cells #[.slice none 0 0,.slice none 0 0] 52)).heap.size (w.alloc (.cells #[.slice none 0 0,.slice none 0 0] 52)) w1:=ZJ.grown hgrow ZT (by simp);obtain ⟨c0,c1,f0,f1,z1⟩:=OI B1;have HB:Hid (ZX w w1):=(ZJ.alloc ZT _).trans (B1.mono (by simp));have HO:Hid (Own .u8 5 w1 (w.heap.size+1) (.slice (some ⟨w.heap.size+1,0,none⟩) (n*64) (n*64)) (List.replicate (n*64) 0)):=CD (by simpa using hown);clear hown hgrow B1;go_wp2;refine ZS (v:=.agg #[.slice (some ⟨w.heap.size+1,0,none⟩) (n*64) (n*64),.slice none 0 0]) (by simp [results,Tryz.results44,go_sem,c0,c1]) rfl ⟨_,rfl,?_,?_⟩
 · exact (Own.Yk (Own.Yk HO.out (a:=⟨w.heap.size,0,none⟩) (by simp) _) (a:=⟨w.heap.size,1,none⟩) (by simp) _).mono (by omega)
 exact (HB.out.setCell ZT _).setCell ZT _
def Ya (w:World) (b:Nat) (x y:Value):Prop:=b<w.heap.size∧w.cell? ⟨b,0,none⟩=some x∧w.cell? ⟨b,1,none⟩=some y
theorem Ya.below {b:Nat} (h:Ya w b x y) (hb:ZX w w'):Ya w' b x y :=
 ⟨ZL h.1 hb.size,(hb.cell (p:=⟨b,0,none⟩) h.1).trans h.2.1,(hb.cell (p:=⟨b,1,none⟩) h.1).trans h.2.2⟩
theorem Ya.other {b:Nat} {row:Option Nat} (h:Ya w b x y) (hg:w.grownBy w' row) (hne:some b≠row):Ya w' b x y :=
 ⟨ZL h.1 hg.size,hg.cell h.2.1 hne,hg.cell h.2.2 hne⟩
theorem Ya.new (w:World) (x y:Value) (t:TypeId):Ya (w.alloc (.cells #[x,y] t)) w.heap.size x y:=⟨by simp,by simp,by simp⟩
def pB (ps:List (Int × List Int)) (i:Nat):Int:=(ps.getD i (0,[])).1
def pD (ps:List (Int × List Int)) (i:Nat):List Int:=(ps.getD i (0,[])).2
def MZ (w:World) (v:Value) (ps:List (Int × List Int)):Prop :=
 ∃ao cap,v=.slice ao ps.length cap∧ps.length≤cap∧cap≤maxLen ∧
  (ps=[]∨∃b off,ao=some ⟨b,off,none⟩∧b<w.heap.size∧∀i,i<ps.length →
   w.cell? ⟨b,off+i*2,none⟩=some (.int .i64 (pB ps i))∧∃da c,w.cell? ⟨b,off+i*2+1,none⟩=some (.slice da (pD ps i).length c)∧Rd .u8 w (.slice da (pD ps i).length c) (pD ps i))
theorem MZ.len (h:MZ w v ps):∃ao cap,v=.slice ao ps.length cap∧ps.length≤cap∧cap≤maxLen:=by
 obtain ⟨ao,cap,h0,h1,h2,_⟩:=h;exact ⟨ao,cap,h0,h1,h2⟩
theorem MZ.below (h:MZ w v ps) (hb:ZX w w'):MZ w' v ps:=by
 obtain ⟨ao,cap,rfl,h1,h2,h3⟩:=h;refine ⟨ao,cap,rfl,h1,h2,?_⟩
 rcases h3 with h3 | ⟨b,off,rfl,hlt,hc⟩
 · exact .inl h3
 refine .inr ⟨b,off,rfl,ZL hlt hb.size,fun i hi=>?_⟩;obtain ⟨c1,da,c,c2,r⟩:=hc i hi;exact ⟨(hb.cell (p:=⟨b,_,none⟩) hlt).trans c1,da,c,(hb.cell (p:=⟨b,_,none⟩) hlt).trans c2,r.below hb⟩
def tot (ps:List (Int × List Int)):Nat:=(ps.map fun p=>p.2.length).sum
def SO (n:Nat) (f:Nat→Int) (g:Nat→Value):List Value:=(List.range n).flatMap fun i=>[.int .i64 (f i),g i]
theorem Qr (n:Nat) (f:Nat→Int) (g:Nat→Value):SO (n+1) f g=SO n f g++[.int .i64 (f n),g n]:=by
 unfold SO;rw [zP,MY];simp
theorem TG (n:Nat) (f:Nat→Int) (g:Nat→Value):(SO n f g).length=n*2:=by
 induction n with
 | zero=>rfl
 | succ n ih=>rw [Qr,ZA,ih];simp;omega
theorem Ja (n:Nat) (f:Nat→Int) (g:Nat→Value) (j:Nat) (h:j<n*2):(SO n f g)[j]?=some (if j % 2=0 then .int .i64 (f (j / 2)) else g (j / 2)):=by
 induction n with
 | zero=>omega
 | succ n ih =>
  rw [Qr]
  by_cases hj:j<n*2
  · rw [Wd (by rw [TG];exact hj),ih hj]
  rw [VG (by rw [TG];omega),TG]
  by_cases e:j=n*2
  · subst e
    simp [show n*2 % 2=0 by omega]
  have e2:j=n*2+1:=by omega
  subst e2;rw [Z1 (by omega),show n*2+1 - n*2=1 by omega,show (n*2+1) / 2=n by omega]
  rfl
theorem FG {f f':Nat→Int} {g g':Nat→Value} (hf:∀i,i<n→f i=f' i) (hg:∀i,i<n→g i=g' i):SO n f g=SO n f' g':=by
 unfold SO;rw [List.flatMap_def,List.flatMap_def]
 congr 1
 apply ui;intro i hi;have hi:=UT.1 hi;rw [hf i hi,hg i hi]
def uN (a b:Value):Prop:=a.ownBlock=none∨a.ownBlock≠b.ownBlock
theorem Own.slice (h:Own k e w lo v xs):∃a c,v=.slice a xs.length c:=by
 obtain ⟨a,c,h0,_⟩:=h.rd.len;exact ⟨a,c,h0⟩
theorem Own.setAt (h:Own k e w lo v xs) (hne:v.ownBlock=none∨v.ownBlock≠some g):Own k e (w.setCell ⟨g,j,none⟩ u) lo v xs :=
 h.other (grownBy_set w w g j u (YT _ _)) hne
def UX (w:World) (lo:Nat) (v:Value) (xs:List Int):Prop:=∃te,Own .u8 te w lo v xs
theorem Own.b (h:Own .u8 te w lo v xs):UX w lo v xs:=⟨te,h⟩
theorem UX.rd (h:UX w lo v xs):Rd .u8 w v xs:=h.elim fun _ h=>h.rd
theorem UX.below (h:UX w lo v xs) (hb:ZX w w'):UX w' lo v xs:=h.elim fun _ h=>⟨_,h.below hb⟩
theorem UX.mono (h:UX w lo v xs) (hl:lo'≤lo):UX w lo' v xs:=h.elim fun _ h=>⟨_,h.mono hl⟩
theorem UX.other {row:Option Nat} (h:UX w lo v xs) (hg:w.grownBy w' row) (hne:v.ownBlock=none∨v.ownBlock≠row):UX w' lo v xs:=h.elim fun _ h=>⟨_,h.other hg hne⟩
theorem UX.lt (h:UX w lo v xs):∀g,v.ownBlock=some g→lo≤g∧g<w.heap.size:=h.elim fun _ h=>h.lt
theorem UX.slice (h:UX w lo v xs):∃a c,v=.slice a xs.length c:=h.elim fun _ h=>h.slice
theorem UX.setAt (h:UX w lo v xs) (hne:v.ownBlock=none∨v.ownBlock≠some g):UX (w.setCell ⟨g,j,none⟩ u) lo v xs:=h.elim fun _ h=>⟨_,h.setAt hne⟩
def OG (e:TypeId) (w:World) (lo:Nat) (v:Value) (ps:List (Int × List Int)) (dv:Nat→Value):Prop :=
 w.ownsRow lo e 2 v ps.length (SO ps.length (pB ps) dv)∧(∀i,i<ps.length→UX w lo (dv i) (pD ps i)) ∧
 (∀i j,i<ps.length→j<ps.length→i≠j→uN (dv i) (dv j))∧∀i,i<ps.length→uN (dv i) v
theorem OG.rd {dv:Nat→Value} (h:OG e w lo v ps dv):MZ w v ps:=by
 obtain ⟨ho,hd,_,_⟩:=h
 rcases ho.2 with ⟨rfl,h0⟩ | ⟨g,cap,cur,rfl,hb,hg,hn,hm,hs,ht⟩
 · have:ps=[]:=TN h0
   subst this;exact ⟨none,0,rfl,ZT,Zu _,.inl rfl⟩
 refine ⟨_,cap,rfl,hn,hm,.inr ⟨g,0,rfl,(Yh.1 hg).1,fun i hi=>?_⟩⟩;have c1:=Ud ho (g:=g) rfl (i*2) _ (Ja _ _ _ _ (by omega));have c2:=Ud ho (g:=g) rfl (i*2+1) _ (Ja _ _ _ _ (by omega));rw [Sg] at c1 c2;rw [ZZ (by omega),show i*2 / 2=i by omega] at c1;rw [Z1 (by omega),show (i*2+1) / 2=i by omega] at c2;obtain ⟨a,c,e⟩:=(hd i hi).slice;refine ⟨c1,a,c,?_,?_⟩
 · rw [←e,Ue];exact c2
 rw [←e];exact (hd i hi).rd
theorem OG.below {dv:Nat→Value} (h:OG e w lo v ps dv) (hb:ZX w w'):OG e w' lo v ps dv:=by
 obtain ⟨ho,hd,h3,h4⟩:=h;refine ⟨⟨ho.1,?_⟩,fun i hi=>(hd i hi).below hb,h3,h4⟩
 rcases ho.2 with hn | ⟨g,cap,cur,rfl,hbg,hgg,rest⟩
 · exact .inl hn
 exact .inr ⟨g,cap,cur,rfl,hbg,by rw [hb.block g (Yh.1 hgg).1];exact hgg,rest⟩
theorem OG.mono {dv:Nat→Value} (h:OG e w lo v ps dv) (hl:lo'≤lo):OG e w lo' v ps dv:=by
 obtain ⟨ho,hd,h3,h4⟩:=h;refine ⟨⟨ho.1,?_⟩,fun i hi=>(hd i hi).mono hl,h3,h4⟩
 rcases ho.2 with hn | ⟨g,cap,cur,rfl,hbg,rest⟩
 · exact .inl hn
 exact .inr ⟨g,cap,cur,rfl,by omega,rest⟩
theorem Tryz.qS:(Tryz.prog.info? 132).map (fun i=>(i.zero,i.size,i.bytes))=some (some (.agg #[.int .i64 0,.slice none 0 0]),2,32):=by kernel_rfl
def UR (dv:Nat→Value) (k:Nat) (v:Value) (i:Nat):Value:=if i=k then v else dv i
theorem OG.slice {dv:Nat→Value} (h:OG e w lo v ps dv):∃a c,v=.slice a ps.length c:=by
 obtain ⟨a,c,h0,_⟩:=h.rd.len;exact ⟨a,c,h0⟩
def mf (n:Nat) (ps:List (Int × List Int)) (i:Nat):Prop:=0≤pB ps i∧pB ps i<n∧(pD ps i).length=64
def tX (dl:Nat) (ps:List (Int × List Int)):Prop:=dl % 64=0∧1≤dl / 64∧dl / 64≤300∧ps.length≤2000∧∀i,i<ps.length→mf (dl / 64) ps i
def pu (n:Nat) (ps:List (Int × List Int)) (i:Nat):Bool:=decide (0≤pB ps i) && decide (pB ps i<n) && decide ((pD ps i).length=64)
theorem zc (n:Nat) (ps:List (Int × List Int)) (i:Nat):pu n ps i=true↔mf n ps i:=by unfold pu mf;simp [and_assoc]
def Vf (dl:Nat) (ps:List (Int × List Int)):Bool:=decide (dl % 64=0) && decide (1≤dl / 64) && decide (dl / 64≤300) && decide (ps.length≤2000) && (List.range ps.length).all (pu (dl / 64) ps)
theorem Wu (dl:Nat) (ps:List (Int × List Int)):Vf dl ps=true↔tX dl ps:=by
 unfold Vf tX
 simp only [Yg,Yt,Se,UT,zc,and_assoc]
theorem zb (h:tX dl ps):Vf dl ps=true:=(Wu dl ps).2 h
theorem DN (h:¬tX dl ps):Vf dl ps=false:=by
 cases e:Vf dl ps with
 | false=>rfl
 | true=>exact absurd ((Wu dl ps).1 e) h
theorem Wt (w:World) (ao:Option Addr) (n cap:Nat) (vp:Value) (hn:n≤1048576) :
    Calls Tryz.prog 81 #[.agg #[.slice ao n cap,vp]] w (YI w (.int .i64 ((n / 64:Nat):Int))):=by
 go_enter Tryz.func81,Tryz.ntmps81
 go_wp2;go_ret;exact ⟨Ta (by omega),ZJ.alloc ZT _⟩
theorem Lg (w:World) (ao:Option Addr) (n cap:Nat) (vp:Value) (x:Int) (hn:n≤1048576) :
    Calls Tryz.prog 130 #[.agg #[.slice ao n cap,vp],.int .i64 x] w (YI w (.bool (decide (0≤x∧x<(n / 64:Nat))))):=by
 have B0:Hid (ZX w (w.alloc (.cells #[.slice ao n cap,vp] 52))):=ZJ.alloc ZT _
 by_cases h0:0≤x
 · go_enter Tryz.func130,Tryz.ntmps130
   go_wp2_with fail
   refine (Wt _ ao n cap vp hn).mono ?_;rintro e w1 ⟨rfl,b1⟩;have B1:=Z3 (B0.out.trans (b1.mono (by simp)));generalize hm:n / 64=m at *;have HM:=Z3 hm
   by_cases h1:x<(m:Int)
   · go_wp2
     go_ret;exact ⟨YS (by have:=HM.out;symm;rw [Yt];omega),B1.out⟩
   go_wp2;go_ret;exact ⟨YS (by have:=HM.out;symm;rw [DU];omega),B1.out⟩
 have hd:decide (0≤x)=false:=by simpa using h0
 go_enter Tryz.func130,Tryz.ntmps130
 go_wp2;go_ret;exact ⟨YS (by symm;first | rfl | (rw [Mh];omega)),B0.out⟩
def Lf (w:World) (b o n:Nat) (ps:List (Int × List Int)):Prop :=
 ∀i,i<n→w.cell? ⟨b,o+i*2,none⟩=some (.int .i64 (pB ps i))∧∃da c,w.cell? ⟨b,o+i*2+1,none⟩=some (.slice da (pD ps i).length c)
theorem MZ.cells (h:MZ w (.slice ao n cap) ps) (hn:0<n):∃b o,ao=some ⟨b,o,none⟩∧b<w.heap.size∧Lf w b o n ps∧ps.length=n:=by
 obtain ⟨pt,cap',e,h1,h2,h3⟩:=h
 simp only [Y4] at e
 obtain ⟨rfl,rfl,rfl⟩:=e
 rcases h3 with rfl | ⟨b,o,rfl,hb,hc⟩
 · simp at hn
 exact ⟨b,o,rfl,hb,fun i hi=>⟨(hc i hi).1,by obtain ⟨da,c,h,_⟩:=(hc i hi).2;exact ⟨da,c,h⟩⟩,rfl⟩
theorem Lf.below {b o:Nat} (h:Lf w b o n ps) (hb:b<w.heap.size) (hB:ZX w w'):Lf w' b o n ps :=
 fun i hi=>⟨(hB.cell (p:=⟨b,_,none⟩) hb).trans (h i hi).1,by obtain ⟨da,c,e⟩:=(h i hi).2;exact ⟨da,c,(hB.cell (p:=⟨b,_,none⟩) hb).trans e⟩⟩
theorem OD (w:World) (va vb:Option Addr) (dl ca n cb:Nat) (hd:dl≤1048576) (hn:n≤1048576) (h:¬(dl % 64=0∧1≤dl / 64∧dl / 64≤300∧n≤2000)) :
    Calls Tryz.prog 80 #[.agg #[.slice va dl ca,.slice vb n cb]] w (YI w (.bool false)):=by
 have B0:Hid (ZX w (w.alloc (.cells #[.slice va dl ca,.slice vb n cb] 52))):=ZJ.alloc ZT _
 by_cases h1:dl % 64=0
 · have t1:(((dl:Int) % 64) != 0)=false:=by rw [zv];omega
   have HX:=Z3 h;have H1:=Z3 h1
   go_enter Tryz.func80,Tryz.ntmps80
   go_wp2_with fail
   refine (Wt _ va dl ca _ hd).mono ?_;rintro e w1 ⟨rfl,b1⟩;obtain ⟨c0,c1,_,_,z1⟩:=OI b1;have B1:=Z3 (B0.out.trans (b1.mono (by simp)));have h:=HX.out;have h1:=H1.out;generalize dl / 64=m at *
   by_cases h2:(m:Int)<1
   · clear h h1
     go_wp2;go_ret;exact ⟨rfl,B1.out⟩
   by_cases h3:(300:Int)<(m:Int)
   · clear h h1
     go_wp2;go_ret;exact ⟨rfl,B1.out⟩
   have h4:(2000:Int)<(n:Int):=by omega
   go_wp2;go_ret;exact ⟨rfl,B1.out⟩
 have t1:(((dl:Int) % 64) != 0)=true:=by rw [bne_iff_ne];omega
 go_enter Tryz.func80,Tryz.ntmps80
 go_wp2;go_ret;exact ⟨rfl,B0.out⟩
theorem OB (w:World) (va vb:Option Addr) (dl ca n cb:Nat) (ps:List (Int × List Int)) (hp:MZ w (.slice vb n cb) ps) (hl:ps.length=n) (hd:dl≤1048576)
    (h1:dl % 64=0) (h2:1≤dl / 64) (h3:dl / 64≤300) (h4:n≤2000) (hdl:∀i,(pD ps i).length≤1048576) :
    Calls Tryz.prog 80 #[.agg #[.slice va dl ca,.slice vb n cb]] w (YI w (.bool (Vf dl ps))):=by
 have B0:Hid (ZX w (w.alloc (.cells #[.slice va dl ca,.slice vb n cb] 52))):=ZJ.alloc ZT _;have HP:=Z3 hp;have HL:=Z3 hl;have SM:=Z3 hdl;have H1:=Z3 h1;have H2:Hid (1≤dl / 64∧dl / 64≤300):=⟨h2,h3⟩;have t1:(((dl:Int) % 64) != 0)=false:=by rw [zv];omega
 go_enter Tryz.func80,Tryz.ntmps80
 go_wp2_with fail
 refine (Wt _ va dl ca _ hd).mono ?_;rintro e w1 ⟨rfl,b1⟩;have X1:=Z3 ((Ya.new w _ _ _).below b1);have B1:=Z3 (B0.out.trans (b1.mono (by simp)));have h2:=H2.out;generalize hm:dl / 64=m at *;have HM:=Z3 hm;have t2:¬(m:Int)<1:=by omega
 have t3:¬(300:Int)<(m:Int):=by omega
 have t4:¬(2000:Int)<(n:Int):=by omega
 obtain ⟨z1,c0,c1⟩:=X1.out;go_wp2
 go_loopw [28] (fun i wr=>∃k:Nat,k≤n∧i=.int .i64 k∧Hid (∀i,i<k→mf m ps i)∧Hid (Ya wr w.heap.size (.slice va dl ca) (.slice vb n cb))∧ZX w wr) (fun i _=>n - (intOf i).toNat)
 case atStart=>exact ⟨0,Zu _,rfl,fun i hi=>by omega,X1,B1.out⟩
 case round =>
  obtain ⟨k,hk,rfl,Ub,HX,hg⟩:=hrel
  by_cases hlt:k<n
  · obtain ⟨b,o,rfl,hb,hc,_⟩:=HP.out.cells (by omega)
    obtain ⟨e1,da,dc,e2⟩:=(hc.below hb hg) k hlt;have Vp:(k:Int)<(n:Int):=by omega
    have hdk:=SM.out k;obtain ⟨z1,c0,c1⟩:=HX.out;have HG:=Z3 hg
    go_wp2_with fail
    have BA:Hid (ZX w (wr.alloc (.cells #[.int .i64 (pB ps k),.slice da (pD ps k).length dc] 132))):=HG.out.alloc HG.out.size _;have XA:Hid (Ya (wr.alloc (.cells #[.int .i64 (pB ps k),.slice da (pD ps k).length dc] 132)) w.heap.size (.slice va dl ca) (.slice (some ⟨b,o,none⟩) n cb)):=HX.out.below (ZJ.alloc ZT _);have XB:Hid (Ya (wr.alloc (.cells #[.int .i64 (pB ps k),.slice da (pD ps k).length dc] 132)) wr.heap.size (.int .i64 (pB ps k)) (.slice da (pD ps k).length dc)):=Ya.new _ _ _ _;generalize wr.alloc _=wa at *;refine (Lg _ va dl ca _ (pB ps k) hd).mono ?_;rintro e w2 ⟨rfl,b2⟩;rw [HM.out];have X2:=Z3 (XA.out.below b2);have XC:=Z3 (XB.out.below b2);have B2:=Z3 (YV BA.out b2);obtain ⟨_,d0,d1⟩:=XC.out
    by_cases hok:mf m ps k
    · have HK:Hid (mf m ps k):=hok
      obtain ⟨q1,q2,q3⟩:=hok;have q4:(((pD ps k).length:Int) != 64)=false:=by rw [zv];omega
      rw [show decide (0≤pB ps k∧pB ps k<(m:Int))=true by rw [Yt];omega];go_wp2
      go_roundw
      case rel=>exact ⟨k+1,by omega,by go_num,(fun i hi=>by by_cases e:i=k;(subst e;exact HK.out);exact Ub.out i (by omega)),X2,B2.out⟩
      case measure=>simp [intOf];omega
    have HN:Hid (Vf dl ps=false):=DN (by rintro ⟨_,_,_,_,h5⟩;rw [HM.out] at h5;exact hok (h5 k (by rw [HL.out];exact hlt)))
    by_cases q1:0≤pB ps k∧pB ps k<(m:Int)
    · rw [show decide (0≤pB ps k∧pB ps k<(m:Int))=true by rw [Yt];exact q1]
      have q3:(((pD ps k).length:Int) != 64)=true:=by rw [bne_iff_ne];intro e;exact hok ⟨q1.1,q1.2,by omega⟩
      go_wp2;go_ret;exact ⟨YS HN.out.symm,B2.out⟩
    rw [show decide (0≤pB ps k∧pB ps k<(m:Int))=false by rw [Mh];exact q1];go_wp2;go_ret;exact ⟨YS HN.out.symm,B2.out⟩
  have HY:Hid (Vf dl ps=true):=zb ⟨H1.out,by rw [HM.out];exact H2.out.1,by rw [HM.out];exact H2.out.2,by rw [HL.out];omega,fun i hi=>by rw [HM.out];exact Ub.out i (by rw [HL.out] at hi;omega)⟩;have Vp:¬(k:Int)<(n:Int):=by omega
  have HG:=Z3 hg;go_wp2;go_ret;exact ⟨YS HY.out.symm,HG.out⟩
theorem UN (w:World) (va vb:Option Addr) (dl ca n cb:Nat) (ps:List (Int × List Int)) (hp:MZ w (.slice vb n cb) ps) (hl:ps.length=n) (hd:dl≤1048576) (hn:n≤1048576) (hdl:∀i,(pD ps i).length≤1048576) :
    Calls Tryz.prog 80 #[.agg #[.slice va dl ca,.slice vb n cb]] w (YI w (.bool (Vf dl ps))):=by
 by_cases h:dl % 64=0∧1≤dl / 64∧dl / 64≤300∧n≤2000
 · exact OB w va vb dl ca n cb ps hp hl hd h.1 h.2.1 h.2.2.1 h.2.2.2 hdl
 rw [DN (fun h5=>h ⟨h5.1,h5.2.1,h5.2.2.1,by have:=h5.2.2.2.1;omega⟩)];exact OD w va vb dl ca n cb hd hn h
def ks (ps:List (Int × List Int)) (k:Int) (i:Nat):Int:=k+i+tot (ps.take i)
def mB (ps:List (Int × List Int)) (k0:Int) (k i:Nat):Int:=if i<k then ks ps k0 i else pB ps i
structure Wc (w:World) (lo hi:Nat) (vd vp:Value) (ZQ:List Int) (ps:List (Int × List Int)) (dv:Nat→Value):Prop where
 d:Own .u8 5 w lo vd ZQ
 p:OG 132 w lo vp ps dv
 me:∀g,vd.ownBlock=some g→g<hi
 pn:∀g,vp.ownBlock=some g→g<hi
 iU:∀i,i<ps.length→∀g,(dv i).ownBlock=some g→g<hi
 dp:uN vp vd
 dq:∀i,i<ps.length→uN (dv i) vd
theorem Wc.below {dv:Nat→Value} (ho:Wc w lo hi vd vp ZQ ps dv) (hb:ZX w w'):Wc w' lo hi vd vp ZQ ps dv :=
 ⟨ho.d.below hb,ho.p.below hb,ho.me,ho.pn,ho.iU,ho.dp,ho.dq⟩
theorem FF {b o:Nat} (hc:∀i,i<xs.length→w.cell? ⟨b,o+i,none⟩=some (.int k (xs.getD i 0))):∀j u,(xs.map (Value.int k))[j]?=some u→w.cell? ((⟨b,o,none⟩:Addr).add j)=some u:=by
 intro j u hu;have hj:j<xs.length:=by have:=(UG.1 hu).1;simpa using this
 rw [Sg,hc j hj]
 simp [Xc hj] at hu
 simp [List.getD,hj,hu]
theorem L8 (w:World) (v:Value) (xs:List Int) (h:Rd .u8 w v xs) (hn:xs.length≤1099511627776) :
    Calls Tryz.prog 82 #[v] w fun e w'=>∃v',e=.returned v'∧Own .u8 5 w' w.heap.size v' xs∧ZX w w':=by
 obtain ⟨i0,hi,hz0,hz1,hz2⟩:=Yq Tryz.Vh;obtain ⟨ao,cap,rfl,h1,h2,h3⟩:=h;have q22:∀(w:World) (a:Option Addr) (n c n' c':Nat),(binOp .eql 22 (.slice a n c) (.slice none n' c')).run Tryz.prog w=.ok (.bool a.isNone) w:=fun w a n c n' c'=>pS w _ _ a n c n' c' Tryz.underlying22
 have HE:Hid ((w.alloc (.cells #[] 5)).ownsRow w.heap.size 5 1 (.slice (some ⟨w.heap.size,0,none⟩) 0 0) 0 []):=OO w #[] 0 ZT (Zu _) rfl;have HB:Hid (ZX w (w.alloc (.cells #[] 5))):=ZJ.alloc ZT _
 cases ao with
 | none =>
  have hx:xs=[]:=by
   rcases h3 with h3 | ⟨b,o,e,_⟩
   · exact h3
   cases e
  subst hx;clear h3
  go_enter Tryz.func82,Tryz.ntmps82
  go_wp2;go_ret;exact ⟨_,rfl,Zl _ _ _ _,ZJ⟩
 | some a =>
  have hcs:∀j u,(xs.map (Value.int .u8))[j]?=some u→(w.alloc (.cells #[] 5)).cell? (a.add j)=some u:=by
   rcases h3 with rfl | ⟨b,o,e,hb,hc⟩
   · intro j u hu;simp at hu
   injection e with e
   subst e;exact FF (fun i hi=>(HB.out.cell (p:=⟨b,o+i,none⟩) hb).trans (hc i hi))
  have li:=Z3 hcs;clear h3 hcs
  go_enter Tryz.func82,Tryz.ntmps82
  go_wp2_with (at_builtin;go_must (refine UF _ rfl _ _ 22 rfl w.heap.size 5 i0 (.int .u8 0) 1 1 Tryz.underlying22 hi hz0 hz1 hz2 rfl (by decide) _ _ _ rfl HE.out a xs.length cap (xs.map (Value.int .u8)) rfl ?c0 li.out (Wf _ _) ?c3 ?c4 ?c5 ?_))
  case c0=>simp
  case c3=>unfold maxLen;omega
  case c4=>omega
  case c5=>simp
  intro v2 w2 ho2 hg2 _;have FJ:Hid (Own .u8 5 w2 w.heap.size v2 xs):=by
   exact ho2
  have HG2:=Z3 (HB.out.grown hg2 (by simp) (by intro q hq;simp [Value.ownBlock] at hq;omega));clear ho2 hg2;go_wp2;go_ret;exact ⟨_,rfl,FJ.out,HG2.out⟩
def WI (w:World) (b:Nat) (x y:Value):Prop:=Ya w b x y∧w.frozen? ⟨b,0,none⟩=false∧w.frozen? ⟨b,1,none⟩=false
theorem WI.below {b:Nat} (h:WI w b x y) (hb:ZX w w'):WI w' b x y :=
 ⟨h.1.below hb,(hb.frozen (p:=⟨b,0,none⟩) h.1.1).trans h.2.1,(hb.frozen (p:=⟨b,1,none⟩) h.1.1).trans h.2.2⟩
theorem WI.new (w:World) (x y:Value) (t:TypeId):WI (w.alloc (.cells #[x,y] t)) w.heap.size x y:=⟨Ya.new _ _ _ _,by simp,by simp⟩
theorem MZ.recAt {k:Nat} (h:MZ w (.slice ao n cap) ps) (hl:ps.length=n) (hk:k<n):∃b o,ao=some ⟨b,o,none⟩∧b<w.heap.size ∧
    w.cell? ⟨b,o+k*2,none⟩=some (.int .i64 (pB ps k))∧∃da c,w.cell? ⟨b,o+k*2+1,none⟩=some (.slice da (pD ps k).length c)∧Rd .u8 w (.slice da (pD ps k).length c) (pD ps k):=by
 obtain ⟨pt,cap',e,h1,h2,h3⟩:=h
 simp only [Y4] at e
 obtain ⟨rfl,_,rfl⟩:=e
 rcases h3 with rfl | ⟨b,o,rfl,hb,hc⟩
 · simp at hl;omega
 obtain ⟨c1,da,c,c2,r⟩:=hc k (by omega);exact ⟨b,o,rfl,hb,c1,da,c,c2,r⟩
theorem Wc.mono {hi':Nat} {dv:Nat→Value} (ho:Wc w lo hi vd vp ZQ ps dv) (hl:lo'≤lo) (hh:hi≤hi'):Wc w lo' hi' vd vp ZQ ps dv :=
 ⟨ho.d.mono hl,ho.p.mono hl,fun g hg=>ZL (ho.me g hg) hh,fun g hg=>ZL (ho.pn g hg) hh,fun i hi g hg=>ZL (ho.iU i hi g hg) hh,ho.dp,ho.dq⟩
theorem Xa (ps:List (Int × List Int)) (p:Int × List Int) (i:Nat) (h:i<ps.length):pB (ps++[p]) i=pB ps i:=by unfold pB;simp [List.getD,Wd h]
theorem Le (ps:List (Int × List Int)) (p:Int × List Int) (i:Nat) (h:i<ps.length):pD (ps++[p]) i=pD ps i:=by unfold pD;simp [List.getD,Wd h]
theorem WL (ps:List (Int × List Int)) (p:Int × List Int):pB (ps++[p]) ps.length=p.1:=by unfold pB;simp [List.getD]
theorem Pd (ps:List (Int × List Int)) (p:Int × List Int):pD (ps++[p]) ps.length=p.2:=by unfold pD;simp [List.getD]
theorem Own.far (h:Own k e w base v xs) (hu:∀g,u.ownBlock=some g→g<base):v.ownBlock=none∨v.ownBlock≠u.ownBlock:=by
 cases hv:v.ownBlock with
 | none=>exact .inl rfl
 | some q =>
  right;intro e
  have:=(h.lt q hv).1;have:=hu q e.symm;omega
theorem CA {wr w4:World} {k:Nat} {vk:Value} {x:Int} {dv:Nat→Value} {ob:Obj} (ho:Wc wr lo hi vd vk ZQ ps dv) (hhi:hi≤wr.heap.size) (hlo:lo≤wr.heap.size) (hk:ps.length=k) (bw:ZX wr w') (o':Own .u8 te w' wr.heap.size v xs)
    (JM:w4.ownsRow lo 132 2 (.slice (some ⟨g,0,none⟩) (k+1) cap) (k+1) (SO k (pB ps) dv++[.int .i64 x,v])) (hg4:(w'.alloc ob).grownBy w4 vk.ownBlock) (hat:vk.ownBlock=some g∨g=w'.heap.size+1) :
    Wc w4 lo w4.heap.size vd (.slice (some ⟨g,0,none⟩) (k+1) cap) ZQ (ps++[(x,xs)]) (UR dv k v):=by
 subst hk;have G:=Mm (Ml w' ob _) hg4;have hsz:=bw.size;have hs4:=G.size;have hvk:∀q,vk.ownBlock=some q→q<wr.heap.size:=fun q hq=>ZL (ho.pn q hq) hhi
 have hnew:=(o'.other G (o'.far hvk)).b;have hold:∀i,i<ps.length→UX w4 lo (dv i) (pD ps i):=fun i hi=>((ho.p.2.1 i hi).below bw).other G (ho.p.2.2.2 i hi)
 have hlen:(ps++[(x,xs)]).length=ps.length+1:=by simp
 have hd4:Own .u8 5 w4 lo vd ZQ:=by
  refine (ho.d.below bw).other G ?_
  rcases ho.dp with h | h
  · rw [h];cases vd.ownBlock with
    | none=>exact .inl rfl
    | some q=>exact .inr (by simp)
  exact .inr (Ne.symm h)
 have hgv:∀u:Value,(∀q,u.ownBlock=some q→q<wr.heap.size)→uN u vk→uN u (.slice (some ⟨g,0,none⟩) (ps.length+1) cap):=by
  intro u hu hn;unfold uN
  cases e:u.ownBlock with
  | none=>exact .inl rfl
  | some q =>
   right
   simp only [Value.ownBlock,ne_eq,Zo]
   intro eq;have:=hu q e
   rcases hat with h | h
   · rcases hn with h' | h'
     · rw [h'] at e;cases e
     exact h' (by rw [e,h,eq])
   omega
 have hlast:uN v (.slice (some ⟨g,0,none⟩) (ps.length+1) cap):=by
  unfold uN
  cases e:v.ownBlock with
  | none=>exact .inl rfl
  | some q =>
   right
   simp only [Value.ownBlock,ne_eq,Zo]
   intro eq;have h1:=o'.lt q e
   rcases hat with h | h
   · have:=hvk g h;omega
   omega
 refine ⟨hd4,⟨?_,?_,?_,?_⟩,fun q hq=>(hd4.lt q hq).2,fun q hq=>(ZD JM q hq).2,?_,?_,?_⟩
 · rw [hlen]
   have e:SO (ps.length+1) (pB (ps++[(x,xs)])) (UR dv ps.length v)=SO ps.length (pB ps) dv++[.int .i64 x,v]:=by
    rw [Qr]
    congr 1
    · exact FG (fun i hi=>Xa _ _ _ hi) (fun i hi=>by unfold UR;rw [Z1 (by omega)])
    rw [WL];unfold UR;rw [ZZ rfl]
   rw [e];exact JM
 · intro i hi
   rw [hlen] at hi;unfold UR
   by_cases e:i=ps.length
   · rw [ZZ e,e,Pd];exact hnew.mono hlo
   rw [Z1 e,Le _ _ _ (by omega)];exact hold i (by omega)
 · intro i j hi hj hne
   rw [hlen] at hi hj;unfold UR
   by_cases e:i=ps.length
   · rw [ZZ e,Z1 (by omega)]
     exact o'.far (fun q hq=>((ho.p.2.1 j (by omega)).lt q hq).2)
   by_cases e':j=ps.length
   · rw [Z1 e,ZZ e']
     unfold uN
     cases hv:(dv i).ownBlock with
     | none=>exact .inl rfl
     | some q =>
      right;intro hq
      have:=(o'.lt q hq.symm).1;have:=((ho.p.2.1 i (by omega)).lt q hv).2;omega
   rw [Z1 e,Z1 e'];exact ho.p.2.2.1 i j (by omega) (by omega) hne
 · intro i hi
   rw [hlen] at hi;unfold UR
   by_cases e:i=ps.length
   · rw [ZZ e];exact hlast
   rw [Z1 e];exact hgv _ (fun q hq=>((ho.p.2.1 i (by omega)).lt q hq).2) (ho.p.2.2.2 i (by omega))
 · intro i hi q hq
   rw [hlen] at hi;unfold UR at hq
   by_cases e:i=ps.length
   · rw [ZZ e] at hq;exact (hnew.lt q hq).2
   rw [Z1 e] at hq;exact ((hold i (by omega)).lt q hq).2
 · right
   simp only [Value.ownBlock,ne_eq]
   intro e;have h1:=ho.me g e.symm
   rcases hat with h | h
   · rcases ho.dp with h' | h'
     · rw [h'] at h;cases h
     exact h' (h.trans e)
   omega
 intro i hi;rw [hlen] at hi;unfold UR
 by_cases e:i=ps.length
 · rw [ZZ e]
   exact o'.far (fun q hq=>by have:=ho.me q hq;omega)
 rw [Z1 e];exact ho.dq i (by omega)
theorem Cy {C:List Int} (hb:base≤w.heap.size) (hC:C.length=64):Own .u8 t (w.alloc (.cells (C.map (Value.int .u8)).toArray t)) base (.slice (some ⟨w.heap.size,0,none⟩) 64 64) C:=by
 have:=OO (size:=1) (e:=t) w (C.map (Value.int .u8)).toArray 64 hb (by unfold maxLen;omega) (by simp [hC]);unfold Own;rw [hC]
 simpa using this
theorem Ld (w:World) (pb off lo hi0:Nat) (vd vp:Value) (ZQ:List Int) (ps:List (Int × List Int)) (dv:Nat→Value) (x:Int) (C:List Int) (hD:Wc w lo hi0 vd vp ZQ ps dv) (hhi:hi0≤w.heap.size) (hlo:lo≤w.heap.size) (hc:w.cell? ⟨pb,off+1,none⟩=some vp) (hf:w.frozen? ⟨pb,off+1,none⟩=false) (hpb:pb<w.heap.size) (hne:vp.ownBlock≠some pb) (hC:C.length=64) (hn:ps.length≤1000000) :
    Calls Tryz.prog 139 #[.pointer (some ⟨pb,off,none⟩),.int .i64 x,.agg (C.map (Value.int .u8)).toArray] w fun e w'=>e=.returned (.tuple #[])∧∃w5 g cap v,Wc w5 lo w5.heap.size vd (.slice (some ⟨g,0,none⟩) (ps.length+1) cap) ZQ (ps++[(x,C)]) (UR dv ps.length v)∧w.grownBy w5 vp.ownBlock∧(vp.ownBlock=some g∨w.heap.size≤g)∧v.ownBlock=some w.heap.size∧w'=w5.setCell ⟨pb,off+1,none⟩ (.slice (some ⟨g,0,none⟩) (ps.length+1) cap):=by
 obtain ⟨i0,hi,hz0,hz1,hz2⟩:=Yq Tryz.qS;obtain ⟨vk,ck,rfl⟩:=hD.p.slice;have JL:Hid (∀v ∈ (C.map (Value.int .u8)),v.oneCell'=true):=Wf _ _;have OC:Hid (Own .u8 117 (w.alloc (.cells (C.map (Value.int .u8)).toArray 117)) w.heap.size (.slice (some ⟨w.heap.size,0,none⟩) 64 64) C):=Cy ZT hC;have bA:Below w.heap.size w (w.alloc (.cells (C.map (Value.int .u8)).toArray 117)):=ZJ.alloc ZT _;obtain ⟨X,hX⟩:∃X,X=C.map (Value.int .u8):=⟨_,rfl⟩;rw [←hX] at OC bA JL ⊢;have HX:Hid (X.length=64):=by subst hX;show _=_;simpa using hC
 have ZO:=Z3 bA;have HD:=Z3 hD;have pm:Hid (w.cell? ⟨pb,off+1,none⟩=some (.slice vk ps.length ck)∧w.frozen? ⟨pb,off+1,none⟩=false):=⟨hc,hf⟩;obtain ⟨n0,hn0⟩:∃n,n=ps.length:=⟨_,rfl⟩;have tW:=Z3 hn0.symm;have ey:n0≤1000000:=by omega
 rw [←hn0] at pm hne ⊢;have ZE:Hid (Wc w lo hi0 vd (.slice vk n0 ck) ZQ ps dv):=by rw [hn0];exact HD.out
 clear hD hX bA hc hf HD hn0 hn
 go_enter Tryz.func139,Tryz.ntmps139
 go_wp2_with fail
 generalize hW0:w.alloc _=w0 at *;have hs0:w0.heap.size=w.heap.size+1:=by rw [←hW0];simp
 clear hW0;have bP:Below w.heap.size w w0.drew:=ZO.out.trans ((below_drewN' w0 1).mono ZO.out.size);have hS0:w0.drew.cell? ⟨pb,off+1,none⟩=some (.slice vk n0 ck)∧w0.drew.frozen? ⟨pb,off+1,none⟩=false:=⟨(bP.cell (p:=⟨pb,off+1,none⟩) hpb).trans pm.out.1,(bP.frozen (p:=⟨pb,off+1,none⟩) hpb).trans pm.out.2⟩;refine ZH (S:=fun _=>True) (by kernel_rfl) trivial (fun Z9=>?_);have ir:=Z3 hS0;clear hS0;have OP:Hid (Own .u8 117 w0.drew w.heap.size (.slice (some ⟨w.heap.size,0,none⟩) 64 64) C):=OC.out;have hsp:w0.drew.heap.size=w.heap.size+1:=hs0;have Z8:=Z3 bP;have uM:=Z3 hsp;clear bP OC ZO hs0 hsp;generalize w0.drew=wp at *;generalize H:w.heap.size=BX at *;have bW:∀ob,Below wp.heap.size wp (wp.alloc ob):=fun ob=>ZJ.alloc ZT _
 have lh:Hid ((wp.alloc (.cells #[.int .i64 x,.slice (some ⟨BX,0,none⟩) 64 64] 132)).cell? ⟨pb,off+1,none⟩=some (.slice vk n0 ck)∧(wp.alloc (.cells #[.int .i64 x,.slice (some ⟨BX,0,none⟩) 64 64] 132)).frozen? ⟨pb,off+1,none⟩=false) :=
  ⟨((bW _).cell (p:=⟨pb,off+1,none⟩) (show pb<wp.heap.size by have:=uM.out;omega)).trans ((Z8.out.cell (p:=⟨pb,off+1,none⟩) (by show pb<_;omega)).trans pm.out.1),((bW _).frozen (p:=⟨pb,off+1,none⟩) (show pb<wp.heap.size by have:=uM.out;omega)).trans ((Z8.out.frozen (p:=⟨pb,off+1,none⟩) (by show pb<_;omega)).trans pm.out.2)⟩
 have ZC:Hid (∀w4,(wp.alloc (.cells #[.int .i64 x,.slice (some ⟨BX,0,none⟩) 64 64] 132)).grownBy w4 (Value.ownBlock (.slice vk n0 ck))→w4.cell? ⟨pb,off+1,none⟩=some (.slice vk n0 ck)∧w4.frozen? ⟨pb,off+1,none⟩=false):=fun w4 hg =>
  ⟨(hg.cell_far ⟨pb,off+1,none⟩ (by have:=uM.out;simp;omega) (Ne.symm hne)).trans lh.out.1,(hg.frozen_far ⟨pb,off+1,none⟩ (by have:=uM.out;simp;omega) (Ne.symm hne)).trans lh.out.2⟩
 have HOW:Hid ((wp.alloc (.cells #[.int .i64 x,.slice (some ⟨BX,0,none⟩) 64 64] 132)).ownsRow lo 132 2 (.slice vk n0 ck) n0 (SO n0 (pB ps) dv)):=by
  have h1:=(ZE.out.below (by have h9:=Z8.out;rw [←H] at h9;exact h9)).p.1;rw [tW.out] at h1;exact h1.alloc _
 have Z6:Hid (lo≤(wp.alloc (.cells #[.int .i64 x,.slice (some ⟨BX,0,none⟩) 64 64] 132)).heap.size):=by show _≤_;have:=uM.out;simp;omega
 have TW:Hid (∀(g4 cap4:Nat) (w4:World),w4.ownsRow lo 132 2 (.slice (some ⟨g4,0,none⟩) (n0+1) cap4) (n0+1) (SO n0 (pB ps) dv++[.int .i64 x,.slice (some ⟨BX,0,none⟩) 64 64])→(wp.alloc (.cells #[.int .i64 x,.slice (some ⟨BX,0,none⟩) 64 64] 132)).grownBy w4 (Value.ownBlock (.slice vk n0 ck))→(Value.ownBlock (.slice vk n0 ck)=some g4∨g4=wp.heap.size+1) →
     ∃w5 g cap v,Wc w5 lo w5.heap.size vd (.slice (some ⟨g,0,none⟩) (n0+1) cap) ZQ (ps++[(x,C)]) (UR dv n0 v)∧w.grownBy w5 (Value.ownBlock (.slice vk n0 ck))∧(Value.ownBlock (.slice vk n0 ck)=some g∨w.heap.size≤g)∧v.ownBlock=some w.heap.size∧w4.setCell ⟨pb,off+1,none⟩ (.slice (some ⟨g4,0,none⟩) (n0+1) cap4)=w5.setCell ⟨pb,off+1,none⟩ (.slice (some ⟨g,0,none⟩) (n0+1) cap)):=by
  intro g4 cap4 w4 JM hg4 Rq;have F:Below w.heap.size w wp:=by rw [H];exact Z8.out
  refine ⟨w4,g4,cap4,.slice (some ⟨BX,0,none⟩) 64 64,?_,?_,?_,by rw [H];rfl,rfl⟩
  · exact CA (te:=117) ZE.out (by rw [H];exact hhi) (by rw [H];exact hlo) tW.out F (by rw [H];exact OP.out) JM hg4 Rq
  · refine Mm ?_ (Mm (Ml wp _ _) hg4)
    exact ⟨F.os,F.tape,F.output,F.size,fun q hq _=>F.block q hq⟩
  rcases Rq with h | h
  · exact .inl h
  right;have:=uM.out;omega
 clear bW
 iterate 4 (refine ZW ?_ (by kernel_rfl) (fun _=>id) Z9 ?_ ?_;rotate_left;· intro w9 Z0;go_simp;try with_reducible rfl)
 refine ZG 5 (.int .i64 x) rfl (by kernel_rfl) (fun _=>id) Z9 ?FE ?_
 case FE=>intro w9 Z0;go_simp
 refine ZG 6 (.slice (some ⟨BX,0,none⟩) 64 64) rfl (by kernel_rfl) (fun _=>id) Z9 ?tV ?_
 case tV=>intro w9 Z0;go_simp
 refine ZG 7 (.agg #[.int .i64 x,.slice (some ⟨BX,0,none⟩) 64 64]) rfl (by kernel_rfl) (fun _=>id) Z9 ?tU ?_
 case tU=>intro w9 Z0;go_simp
 refine UY 4 8 rfl rfl (by kernel_rfl) (fun K hK=>?_) (fun K hK=>?_)
 · have hcp:=ir.out.1
   go_simp;refine hK.out _ _ trivial (fun ZM=>?_);clear hK K ZM;refine ZU 8 rfl (by kernel_rfl) (fun K hK=>?_);go_simp;refine hK.out _ _ trivial (fun ZM=>?_);clear hK K ZM;refine ZU 9 rfl (by kernel_rfl) (fun K hK=>?_);refine step_append_lies _ (by rfl) (.tmp 10) (.tmp 14) 50 (by rfl) lo 132 i0 (.agg #[.int .i64 0,.slice none 0 0]) 2 32 Tryz.underlying50 hi hz0 hz1 hz2 rfl (by omega) (.slice vk n0 ck) n0 (SO n0 (pB ps) dv) (by rfl) HOW.out ⟨wp.heap.size,0,none⟩ 1 1 [.int .i64 x,.slice (some ⟨BX,0,none⟩) 64 64] (by rfl) (by rfl) (cell_two_new _ _ _ _) (by intro u hu;simp at hu;rcases hu with rfl | rfl <;> rfl) (by omega) (by unfold maxLen;omega) (by omega) Z6.out (wp.heap.size+1) (by simp) ?_;intro g4 cap4 w4 JM hg4 Rq Lc;obtain ⟨hq0,hq1⟩:=ZC.out w4 hg4;have FIN:=TW.out g4 cap4 w4 JM hg4 Rq;have za:Hid _:=FIN;clear FIN JM hg4 Rq Lc;refine hK.out _ _ trivial (fun ZM=>?_);clear hK K ZM
   iterate 2 (refine ZW ?_ (by kernel_rfl) (fun _=>id) Z9 ?_ ?_;rotate_left;· intro w9 Z0;go_simp;try with_reducible rfl)
   refine ZU 12 rfl (by kernel_rfl) (fun K hK=>?_);go_simp;refine hK.out _ _ trivial (fun ZM=>?_);clear hK K ZM;refine ZP (by kernel_rfl) ?_ _
   try simp only [Act.put,Y8,Y7,Y6]
   clear Z9;go_wp2
   go_end0
   exact ⟨rfl,za.out⟩
 go_simp;refine hK.out _ _ trivial (fun ZM=>?_);clear hK K ZM;refine ZU 4 rfl (by kernel_rfl) (fun K hK=>?_);have hcp:=lh.out.1;go_simp;refine hK.out _ _ trivial (fun ZM=>?_);clear hK K ZM;refine ZU 9 rfl (by kernel_rfl) (fun K hK=>?_);refine step_append_lies _ (by rfl) (.tmp 10) (.tmp 14) 50 (by rfl) lo 132 i0 (.agg #[.int .i64 0,.slice none 0 0]) 2 32 Tryz.underlying50 hi hz0 hz1 hz2 rfl (by omega) (.slice vk n0 ck) n0 (SO n0 (pB ps) dv) (by rfl) HOW.out ⟨wp.heap.size,0,none⟩ 1 1 [.int .i64 x,.slice (some ⟨BX,0,none⟩) 64 64] (by rfl) (by rfl) (cell_two_new _ _ _ _) (by intro u hu;simp at hu;rcases hu with rfl | rfl <;> rfl) (by omega) (by unfold maxLen;omega) (by omega) Z6.out (wp.heap.size+1) (by simp) ?_;intro g4 cap4 w4 JM hg4 Rq Lc;obtain ⟨hq0,hq1⟩:=ZC.out w4 hg4;have FIN:=TW.out g4 cap4 w4 JM hg4 Rq;have za:Hid _:=FIN;clear FIN JM hg4 Rq Lc;refine hK.out _ _ trivial (fun ZM=>?_);clear hK K ZM
 iterate 2 (refine ZW ?_ (by kernel_rfl) (fun _=>id) Z9 ?_ ?_;rotate_left;· intro w9 Z0;go_simp;try with_reducible rfl)
 refine ZU 12 rfl (by kernel_rfl) (fun K hK=>?_);go_simp;refine hK.out _ _ trivial (fun ZM=>?_);clear hK K ZM;refine ZP (by kernel_rfl) ?_ _
 try simp only [Act.put,Y8,Y7,Y6]
 clear Z9;go_wp2
 go_end0
 exact ⟨rfl,za.out⟩
end
section
variable {a:Act} {listed:Array Bool} {ops:Array Oper} {k:IntKind} {ps rs:List (Int × List Int)} {ZQ xs ys:List Int} {L:List Value} {B base c cap dl fuel g hi i j lo lo' mb n q tb:Nat} {oi:Oper} {ao:Option Addr} {o o':Option Nat} {P:Program} {e t te:TypeId} {u v vd vp x y:Value} {W W' w w' w1 w2:World}
def cP:Nat:=2197175160
def cT (r:Nat):Nat:=(r / 2) ^^^ (if r % 2=1 then cP else 0)
theorem y8 (a b:Nat):(a ^^^ b) / 2=a / 2 ^^^ b / 2:=by
 have:=Nat.xor_div_two (a:=a) (b:=b);exact this
theorem y7 (a b:Nat):(a ^^^ b) % 2=(a+b) % 2:=by
 have:=Nat.xor_mod_two_eq_one (a:=a) (b:=b);omega
theorem pj (a b:Nat):cT (a ^^^ b)=cT a ^^^ cT b:=by
 unfold cT;rw [y8,y7]
 rcases qW a with ha | ha <;> rcases qW b with hb | hb
 · rw [Z1 (by omega),Z1 (by omega),Z1 (by omega)];simp
 · rw [ZZ (by omega),Z1 (by omega),ZZ (by omega)];simp [Jp]
 · rw [ZZ (by omega),ZZ (by omega),Z1 (by omega),zD,Jp,Nat.xor_comm (b / 2),←Jp]
 rw [Z1 (by omega),ZZ (by omega),ZZ (by omega)];rw [zD,Nat.xor_comm (b / 2) cP,←Jp,Jp (a / 2) cP cP,Nat.xor_self,zD]
def Ar (r:Nat):Nat:=cT (cT (cT (cT r)))
theorem tT (a b:Nat):Ar (a ^^^ b)=Ar a ^^^ Ar b:=by unfold Ar;simp only [pj]
theorem Pc (q:Nat):cT (2*q)=q:=by unfold cT;rw [Z1 (by omega)];simp
theorem pi (q:Nat):Ar (16*q)=q:=by
 unfold Ar;rw [show 16*q=2*(2*(2*(2*q))) by omega,Pc,Pc,Pc,Pc]
theorem tS (r:Nat):r=16*(r / 16) ^^^ r % 16:=by
 apply Nat.eq_of_testBit_eq;intro k;rw [Nat.testBit_xor,show 16*(r / 16)=r / 2 ^ 4*2 ^ 4 by simp only [Nat.reducePow];omega,Nat.testBit_mul_two_pow,show r % 16=r % 2 ^ 4 by rfl,Nat.testBit_mod_two_pow]
 by_cases h:4≤k
 · have h2:¬k<4:=by omega
   simp only [h,h2,decide_true,decide_false,Qv,Bool.false_and,Bool.xor_false,Nat.testBit_div_two_pow]
   congr 1;omega
 have h2:k<4:=by omega
 simp [h,h2]
def Pn:List Nat:=[0,274646895,549293790,820201905,1098587580,1361435347,1640403810,1905808397,2197175160,2460548119,2722870694,2987750089,3280807620,3553878443,3811616794,4084100981]
theorem pd:∀i,i<16→Pn.getD i 0=Ar i:=by decide +kernel
theorem yZ (r:Nat):Ar r=r / 16 ^^^ Pn.getD (r % 16) 0:=by
 rw [pd _ (SG _ (by omega))]
 conv=>lhs;rw [tS r]
 rw [tT,pi]
def cB (r x:Nat):Nat:=Ar (Ar (r ^^^ x))
def cS (r x:Nat):Nat→Nat
 | 0=>r
 | j+1=>(cS r x j / 2) ^^^ (if (cS r x j+x / 2 ^ j) % 2=1 then cP else 0)
def Rp (r:Nat) (xs:List Int):Nat:=xs.foldl (fun a x=>cB a x.toNat) r
theorem Cx (r:Nat) (xs:List Int) (x:Int):Rp r (xs++[x])=cB (Rp r xs) x.toNat:=by simp [Rp,zY]
theorem I9 {a b:Nat} (ha:a<4294967296) (hb:b<4294967296):a ^^^ b<4294967296:=by
 have:=Nat.xor_lt_two_pow (n:=32) (by simpa using ha) (by simpa using hb)
 simpa using this
end
section
open Go.RowKit Go.Shelf
variable {a:Act} {listed:Array Bool} {ops:Array Oper} {k:IntKind} {ps rs:List (Int × List Int)} {ZQ xs ys:List Int} {L:List Value} {B base c cap dl fuel g hi i j lo lo' mb n q tb:Nat} {oi:Oper} {ao:Option Addr} {o o':Option Nat} {P:Program} {e t te:TypeId} {u v vd vp x y:Value} {W W' w w' w1 w2:World}
theorem take_snoc' (xs:List Int) (k:Nat) (h:k<xs.length):xs.take (k+1)=xs.take k++[xs.getD k 0]:=by
 rw [TL h];simp [List.getD,h]
def I8:Nat:=4294967296
theorem I4 (a b:Nat) (ha:a<I8) (hb:b<I8):∃z:Nat,z<I8∧bits .xor .u32 (a:Int) (b:Int)=(z:Int)∧z=a ^^^ b :=
 ⟨a ^^^ b,I9 ha hb,u32_xor_nat a b ha hb,rfl⟩
theorem I3 (a:Nat) (ha:a<I8):∃i:Nat,i<16∧bits .and .u32 (a:Int) 15=(i:Int)∧i=a % 16 :=
 ⟨a % 16,SG _ (by omega),by rw [show (15:Int)=((15:Nat):Int) from rfl,u32_and_nat a 15 ha (by unfold I8 at *;omega),nat_mask4],rfl⟩
theorem PK (a b:Nat) (ha:a<I8) (hb:b<I8):∃z:Nat,z<I8∧bits .xor .u32 ((a:Int) / 16) (b:Int)=(z:Int)∧z=a / 16 ^^^ b:=by
 refine ⟨a / 16 ^^^ b,I9 (by unfold I8 at *;omega) hb,?_,rfl⟩;have e:(a:Int) / 16=((a / 16:Nat):Int):=by omega
 rw [e,u32_xor_nat (a / 16) b (by unfold I8 at *;omega) hb]
theorem Cw (R:Nat) (h:R<I8):4294967295 ^^^ R=4294967295 - R:=by
 have e:=ZR BitVec.toNat (BitVec.allOnes_xor (x:=BitVec.ofNat 32 R));rw [BitVec.toNat_xor,BitVec.toNat_not,BitVec.toNat_allOnes,BitVec.toNat_ofNat,zI (show R<2 ^ 32 from h)] at e
 simpa using e
theorem qR (R:Nat) (h:R<I8):wrap64 (bits .xor .u32 IntKind.u32.max (R:Int))=((4294967295 - R:Nat):Int):=by
 rw [show IntKind.u32.max=((4294967295:Nat):Int) from by decide,u32_xor_nat 4294967295 R (by decide) h,Cw R h];have hz:4294967295 - R≤4294967295:=Nat.sub_le _ _;generalize 4294967295 - R=z at *;exact IntWalk.wrap64_in _ ⟨by omega,by omega⟩
def TF (w:World):Prop:=∀i,i<16→w.cell? ⟨0,i,none⟩=some (.int .u32 ((Pn.getD i 0:Nat):Int))
theorem TF.below (h:TF w) (h0:0<w.heap.size) (hb:ZX w w'):TF w':=fun i hi=>(hb.cell (p:=⟨0,i,none⟩) h0).trans (h i hi)
theorem DM (i:Nat):Pn.getD i 0<I8:=by
 by_cases h:i<16
 · exact (show ∀i,i<16→Pn.getD i 0<I8 by decide +kernel) i h
 rw [show Pn.getD i 0=0 by rw [List.getD,MX (show Pn.length≤i by simp [Pn];omega)];rfl];decide
theorem I2 (w:World) (b o n cap:Nat) (xs:List Int) (hx:xs.length=n) (hc:∀i,i<n→w.cell? ⟨b,o+i,none⟩=some (.int .u8 (xs.getD i 0))) (hby:Wm xs) (hn:n≤1099511627776) (ht:TF w) :
    Calls Tryz.prog 48 #[.slice (some ⟨b,o,none⟩) n cap] w fun e w'=>e=.returned (.int .i64 ((4294967295 - Rp 4294967295 xs:Nat):Int))∧w'=w:=by
 have HC:=Z3 hc;have HX:=Z3 hx;have HT:=Z3 ht;clear hc hx ht
 go_enter Tryz.func48,Tryz.ntmps48
 go_wp2
 go_loop [3,8] (fun r i=>∃k R:Nat,k≤n∧i=.int .i64 k∧Hid (R<I8)∧r=.int .u32 R∧Hid (R=Rp 4294967295 (xs.take k))) (fun _ i=>n - (intOf i).toNat)
 case atStart=>exact ⟨0,4294967295,Zu _,rfl,(by show _<I8;decide),rfl,rfl⟩
 case round =>
  obtain ⟨k,R,hk,rfl,HR,rfl,HE⟩:=hrel
  by_cases hlt:k<n
  · obtain ⟨x,hx,hxe⟩:=FL hby k
    have hsrc:w.cell? ⟨b,o+k,none⟩=some (.int .u8 (x:Int)):=by rw [←hxe];exact HC.out k hlt
    have Vp:(k:Int)<(n:Int):=by omega
    obtain ⟨Y,hY,e1,y1⟩:=I4 R x HR.out (by unfold I8;omega);obtain ⟨I,hI,e2,y2⟩:=I3 Y hY;have c1:=HT.out I hI;obtain ⟨T1,hT1⟩:∃t,t=Pn.getD I 0:=⟨_,rfl⟩;rw [←hT1] at c1;obtain ⟨Z,hZ,e3,y3⟩:=PK Y T1 hY (by rw [hT1];exact DM _);obtain ⟨J,hJ,e4,y4⟩:=I3 Z hZ;have c2:=HT.out J hJ;obtain ⟨T2,Z7⟩:∃t,t=Pn.getD J 0:=⟨_,rfl⟩;rw [←Z7] at c2;obtain ⟨V,hV,e5,y5⟩:=PK Z T2 hZ (by rw [Z7];exact DM _);have HV:Hid (V=Rp 4294967295 (xs.take (k+1))):=by
     show _=_;rw [take_snoc' xs k (by rw [HX.out];exact hlt),Cx,←HE.out,hxe,Ww];have z1:Z=Ar Y:=by rw [yZ,y3,hT1,y2]
     have v1:V=Ar Z:=by rw [yZ,y5,Z7,y4]
     rw [v1,z1,y1]
     rfl
    have UZ:=Z3 hV;clear hV y1 y2 y3 y4 y5 hT1 Z7 hY hZ hxe HE HR;go_wp2
    go_round
    case rel=>exact ⟨k+1,V,by omega,by go_num,UZ,rfl,HV⟩
    case measure=>simp [intOf];omega
  go_wp2;go_ret;exact ⟨Ta (by rw [qR R HR.out,HE.out,Wv (by rw [HX.out];omega)]),rfl⟩
theorem I1 (w:World) (ao:Option Addr) (cap:Nat) :
    Calls Tryz.prog 48 #[.slice ao 0 cap] w fun e w'=>e=.returned (.int .i64 0)∧w'=w:=by
 go_enter Tryz.func48,Tryz.ntmps48
 go_wp2
 go_rounds 1
 go_ret;exact ⟨Ta (qR 4294967295 (by decide)),rfl⟩
theorem TC (w:World) (v:Value) (xs:List Int) (h:Rd .u8 w v xs) (hby:Wm xs) (hn:xs.length≤1099511627776) (ht:TF w) :
    Calls Tryz.prog 48 #[v] w fun e w'=>e=.returned (.int .i64 ((4294967295 - Rp 4294967295 xs:Nat):Int))∧w'=w:=by
 obtain ⟨ao,cap,rfl,h1,h2,h3⟩:=h
 rcases h3 with rfl | ⟨b,o,rfl,hb,hc⟩
 · exact I1 w ao cap
 exact I2 w b o xs.length cap xs rfl hc hby hn ht
structure St (W:World) (b:Nat) (L:List Value):Prop where
 lt:b<W.heap.size
 fz:∀j,W.frozen? ⟨b,j,none⟩=false
 cl:∀(j:Nat) (v:Value),L[j]?=some v→W.cell? ⟨b,j,none⟩=some v
theorem St.Zc {b m:Nat} (h:St W b L) (hb:Below m W W') (hm:b<m):St W' b L :=
 ⟨ZL h.lt hb.size,fun j=>(hb.frozen (p:=⟨b,j,none⟩) hm).trans (h.fz j),fun j v hv=>(hb.cell (p:=⟨b,j,none⟩) hm).trans (h.cl j v hv)⟩
theorem St.below {b:Nat} (h:St W b L) (hb:ZX W W'):St W' b L:=h.Zc hb h.lt
theorem St.set {b:Nat} (h:St W b L) (j:Nat) (x:Value):St (W.setCell ⟨b,j,none⟩ x) b (L.set j x):=by
 refine ⟨by simpa using h.lt,fun i=>by rw [WU];exact h.fz i,fun i v hv=>?_⟩
 by_cases e:j=i
 · subst e
   have hj:j<L.length:=by
    have:=(UG.1 hv).1
    simpa using this
   rw [List.getElem?_set_self hj] at hv;obtain rfl:=Yv hv;exact Xo _ _ _ (h.cl j _ (Xc hj))
 rw [uj e] at hv;exact (Zs _ _ _ _ (by intro e9;injection e9 with e1 e2;first | exact e e2 | exact e e2.symm)).trans (h.cl i v hv)
theorem St.other {b:Nat} (h:St W b L) (hne:b≠c):St (W.setCell ⟨c,j,none⟩ x) b L :=
 ⟨by simpa using h.lt,fun i=>by rw [WU];exact h.fz i,fun i v hv=>(Zs _ _ _ _ (by intro e9;injection e9 with e1 e2;first | exact hne e1 | exact hne e1.symm)).trans (h.cl i v hv)⟩
theorem St.new (W:World) (cs:Array Value) (t:TypeId):St (W.alloc (.cells cs t)) W.heap.size cs.toList:=by
 refine ⟨by simp,fun j=>by simp,fun j v hv=>?_⟩;rw [Xn _ _ j cs t (0,0) (Y9 W _)]
 simpa using hv
structure Tw (w:World) (b:Nat) (o:Option Nat) (w':World) (o':Option Nat):Prop where
 os:w'.os=w.os
 tape:w'.tape=w.tape
 output:w'.output=w.output
 size:w.heap.size≤w'.heap.size
 block:∀q,q<w.heap.size→q≠b→o≠some q→w'.heap[q]?=w.heap[q]?
 own:o'=o∨o'=none∨∃g,o'=some g∧w.heap.size≤g
theorem Tw.ZV (h:ZX w w') (b:Nat) (o:Option Nat):Tw w b o w' o:=⟨h.os,h.tape,h.output,h.size,fun q hq _ _=>h.block q hq,.inl rfl⟩
theorem Tw.refl (w:World) (b:Nat) (o:Option Nat):Tw w b o w o:=Tw.ZV ZJ b o
theorem Tw.trans {b:Nat} {o1 o2:Option Nat} (h:Tw w b o w1 o1) (h':Tw w1 b o1 w2 o2):Tw w b o w2 o2:=by
 refine ⟨h'.os.trans h.os,h'.tape.trans h.tape,h'.output.trans h.output,ZF h.size h'.size,fun q hq hb ho=>?_,?_⟩
 · refine (h'.block q (ZL hq h.size) hb ?_).trans (h.block q hq hb ho)
   rcases h.own with e | e | ⟨g,e,hg⟩
   · rw [e];exact ho
   · rw [e];simp
   rw [e];intro e2;injection e2 with e2;omega
 rcases h'.own with e | e | ⟨g,e,hg⟩
 · rw [e];exact h.own
 · exact .inr (.inl e)
 exact .inr (.inr ⟨g,e,ZF h.size hg⟩)
theorem Tw.below {b:Nat} (h:Tw w b o w' o') (hB:B≤w.heap.size) (hb:B≤b) (ho:∀g,o=some g→B≤g):Below B w w' :=
 ⟨h.os,h.tape,h.output,h.size,fun q hq=>h.block q (by omega) (by omega) (fun e=>by have:=ho q e;omega)⟩
theorem Tw.st {b:Nat} (h:Tw w b o w' o') (hs:St w c L) (hne:c≠b) (ho:o≠some c):St w' c L:=by
 have e:=h.block c hs.lt hne ho;refine ⟨ZL hs.lt h.size,fun j=>?_,fun j v hv=>(Zj (w:=w) (a:=⟨c,j,none⟩) e).trans (hs.cl j v hv)⟩;have:=hs.fz j;unfold World.frozen? at this ⊢;rw [e];exact this
theorem Tw.set {b:Nat} (h:Tw w b o w' o'):Tw w b o (w'.setCell ⟨b,j,none⟩ x) o':=by
 refine ⟨h.os,h.tape,h.output,by simpa using h.size,fun q hq hb ho=>?_,h.own⟩;rw [Below.heap_setCell w' ⟨b,j,none⟩ x q hb];exact h.block q hq hb ho
def pos (R:List (List Int × Nat)) (k:Nat):Nat:=((R.take k).map (·.2)).sum
theorem IZ (h:Below B w w') (q:Nat):Below B w (w'.drewN q):=⟨h.os,h.tape,h.output,h.size,h.block⟩
def Sw (lim made:Int):Int:=if lim<0 then -1 else lim - made
theorem yY (w:World) (b o:Nat) (lim made:Int) (c2:w.cell? ⟨b,o+2,none⟩=some (.int .i64 lim)) (c3:w.cell? ⟨b,o+3,none⟩=some (.int .i64 made)) (hl:-9223372036854775808≤lim∧lim≤9223372036854775807) (hm:0≤made∧made≤10000) :
    Calls Tryz.prog 70 #[.pointer (some ⟨b,o,none⟩)] w (YI w (.int .i64 (Sw lim made))):=by
 by_cases h:lim<0
 · unfold Sw
   rw [ZZ h]
   go_enter Tryz.func70,Tryz.ntmps70
   go_wp2;go_ret;exact ⟨rfl,ZJ⟩
 unfold Sw;rw [Z1 h]
 go_enter Tryz.func70,Tryz.ntmps70
 go_wp2_with fail
 go_quiet (fail)
 go_wp2;go_ret;exact ⟨Ta (by omega),IZ ZJ _⟩
theorem L7 (w:World) (b o:Nat) (lim made:Int) (c2:w.cell? ⟨b,o+2,none⟩=some (.int .i64 lim)) (c3:w.cell? ⟨b,o+3,none⟩=some (.int .i64 made)) (f3:w.frozen? ⟨b,o+3,none⟩=false) (hlt:b<w.heap.size) (hl:-9223372036854775808≤lim∧lim≤9223372036854775807) (hm:0≤made∧made≤10000) (h:Sw lim made≠0) :
    Calls Tryz.prog 138 #[.pointer (some ⟨b,o,none⟩)] w fun e w'=>e=.returned (.bool true)∧∃w1,ZX w w1∧w'=w1.setCell ⟨b,o+3,none⟩ (.int .i64 (made+1)):=by
 have HL:=Z3 (yY w b o lim made c2 c3 hl hm);have hq:(Sw lim made == 0)=false:=by simpa using h
 generalize Sw lim made=q at *;clear c2
 go_enter Tryz.func138,Tryz.ntmps138
 go_wp2_with fail
 refine (HL.out).mono ?_;rintro e w1 ⟨rfl,b1⟩;have d3:=(b1.cell (p:=⟨b,o+3,none⟩) hlt).trans c3;have g3:=(b1.frozen (p:=⟨b,o+3,none⟩) hlt).trans f3;have B1:=Z3 b1;clear b1 c3 f3;have hw3:IntKind.i64.wrap (made+1)=made+1:=by rw [XK];omega
 go_wp2;go_ret;exact ⟨rfl,_,B1.out,rfl⟩
def rdv (ZQ:List Int) (ps:List (Int × List Int)) (b:Nat):Nat→List Int
 | 0=>(ZQ.drop (b*64)).take 64
 | k+1=>if pB ps k=b then pD ps k else rdv ZQ ps b k
theorem Rd.part {blk o:Nat} (h:Rd k w (.slice (some ⟨blk,o,none⟩) n cap) xs) (hn:xs.length=n) (i m:Nat) (hm:i+m≤n):Rd k w (.slice (some ⟨blk,o+i,none⟩) m (cap - i)) ((xs.drop i).take m):=by
 obtain ⟨ao,cap',e,h1,h2,h3⟩:=h
 simp only [Y4] at e
 obtain ⟨rfl,hl,rfl⟩:=e;have hlen:((xs.drop i).take m).length=m:=by rw [XU,Zd];omega
 refine ⟨_,cap - i,by rw [hlen],by omega,by omega,?_⟩
 rcases h3 with rfl | ⟨b',o',e,hb,hc⟩
 · left;simp
 injection e with e
 injection e with e1 e2 _
 subst e1;subst e2;refine .inr ⟨blk,o+i,rfl,hb,fun j hj=>?_⟩;rw [hlen] at hj;have:=hc (i+j) (by omega);rw [Ue,this]
 simp [List.getD,Qt,hj]
theorem Yc (w:World) (cs:Array Value) (t:TypeId) (n:Nat) (hn:cs.size=n):(w.alloc (.cells cs t)).there w.heap.size 0 n:=by
 intro j hj;subst hn;rw [YK];have h:=Xn (w.alloc (.cells cs t)) w.heap.size j cs t (0,0) (Y9 w _);refine ⟨by rw [h];simp [hj],by simp⟩
theorem below_setCells {b:Nat} (hB:B≤b):∀(vs:List Value) (o:Nat) (w':World),Below B w w'→Below B w (w'.setCells b o vs)
 | [],_,_,h=>h
 | v :: vs,o,w',h=>below_setCells hB vs (o+1) (w'.setCell ⟨b,o,none⟩ v) (h.setCell hB v)
theorem PJ (w:World) (blk o dl ca b:Nat) (ZQ:List Int) (hd:Rd .u8 w (.slice (some ⟨blk,o,none⟩) dl ca) ZQ) (hdl:ZQ.length=dl) (hb:(b+1)*64≤dl) (_hd1:dl≤1048576) :
    Calls Tryz.prog 108 #[.slice (some ⟨blk,o,none⟩) dl ca,.int .i64 b] w (YI w (.agg (((ZQ.drop (b*64)).take 64).map (Value.int .u8)).toArray)):=by
 have HD:=Z3 hd;have ip:dl≤ca∧ca≤maxLen:=by
  obtain ⟨ao,c',e,h1,h2⟩:=HD.out.len
  simp only [Y4] at e
  obtain ⟨_,e2,rfl⟩:=e;omega
 obtain ⟨Zv,ZB⟩:=ip;unfold maxLen at ZB;have hge:64≤dl - b*64:=by omega
 have hlt:¬dl - b*64<64:=by omega
 have hat:∀W,(Instr.arrayAt 117 (.slice (some ⟨blk,o+b*64,none⟩) (dl - b*64) (ca - b*64))).run Tryz.prog W=.ok (.pointer (some ⟨blk,o+b*64,none⟩)) W:=fun W=>run_arrayAt W 117 _ 64 _ _ _ Tryz.underlying117 hge
 have hsz:(Tryz.prog.info? 117).map (·.size)=some (((ZQ.drop (b*64)).take 64).map (Value.int .u8)).length:=by
  rw [XJ,XU,Zd,show min 64 (ZQ.length - b*64)=64 by omega]
  kernel_rfl
 have hrg:w.rangeAt blk (o+b*64) (((ZQ.drop (b*64)).take 64).map (Value.int .u8)):=by
  obtain ⟨ao,cap',e,h1,h2,h3⟩:=hd
  simp only [Y4] at e
  obtain ⟨rfl,hl,rfl⟩:=e
  rcases h3 with rfl | ⟨b',o',e,hb',hc⟩
  · simp at hdl;omega
  injection e with e
  injection e with e1 e2 _
  subst e1;subst e2;intro j u hu;have hj:j<64:=by have:=(UG.1 hu).1;simp at this;omega
  have:=hc (b*64+j) (by omega);rw [Ue,this]
  simp [Qt,hj] at hu
  obtain ⟨y,hy,rfl⟩:=hu
  simp [List.getD,hy]
 have Pm:=Z3 hsz;have Zx:=Z3 hrg;clear hsz hrg;clear hd
 go_enter Tryz.func108,Tryz.ntmps108
 go_wp2_with (first | (refine WT rfl 117 _ rfl blk (o+b*64) rfl (((ZQ.drop (b*64)).take 64).map (Value.int .u8)) _ (Jm Zx.out _) Tryz.underlying117 rfl Pm.out ?_) | (refine DQ rfl 117 _ _ rfl w.heap.size 0 (((ZQ.drop (b*64)).take 64).map (Value.int .u8)).toArray rfl rfl ?s1 ?s2 ?s3 ?_))
 case s1=>exact Yc _ _ _ _ (by have h:(((ZQ.drop (b*64)).take 64).map (Value.int .u8)).toArray.size=64:=by { rw [Zm,XJ,XU,Zd];omega };rw [h];rfl)
 case s2=>rw [Zm];exact Pm.out
 case s3=>exact Ru (Wf _ _)
 have hlen:(((ZQ.drop (b*64)).take 64).map (Value.int .u8)).length=64:=by rw [XJ,XU,Zd];omega
 refine ZS (v:=.agg (((ZQ.drop (b*64)).take 64).map (Value.int .u8)).toArray) ?_ rfl ⟨rfl,?_⟩
 · have LV:∀cs:Array Value,cs.size=64→(loadVar 117 ⟨w.heap.size,0,none⟩).run Tryz.prog ((w.alloc (.cells cs 117)).setCells w.heap.size 0 (((ZQ.drop (b*64)).take 64).map (Value.int .u8)))=.ok (.agg (((ZQ.drop (b*64)).take 64).map (Value.int .u8)).toArray) ((w.alloc (.cells cs 117)).setCells w.heap.size 0 (((ZQ.drop (b*64)).take 64).map (Value.int .u8))):=fun cs hcs =>
    run_loadVar_mid (P:=Tryz.prog) _ w.heap.size 0 117 _ _ (OM _ _ _ _ (Yc _ _ _ _ (by rw [hlen,hcs]))) Tryz.underlying117 rfl Pm.out
   simp [results,Tryz.results108,Act.put,asAddr,-List.map_take,-List.map_drop]
   exact LV _ rfl
 exact below_setCells ZT _ _ _ (ZJ.alloc ZT _)
theorem XI {α:Type} (L:List α) (off:Nat) (cs:List α) (h:off+cs.length≤L.length) (j:Nat) :
    (splice L off cs)[j]?=if j<off then L[j]? else if j<off+cs.length then cs[j - off]? else L[j]?:=by
 unfold splice;have hl:(L.take off).length=off:=by rw [XU];omega
 by_cases h1:j<off
 · rw [ZZ h1,Wd (by omega),FO h1]
 rw [Z1 h1,VG (by omega),hl]
 by_cases h2:j<off+cs.length
 · rw [ZZ h2,Wd (by omega)]
 rw [Z1 h2,VG (by omega),Qt]
 congr 1
 omega
theorem Sb {α β:Type} (f:α→β) (L:List α) (off:Nat) (cs:List α):(splice L off cs).map f=splice (L.map f) off (cs.map f):=by
 simp [splice,zU,List.map_drop]
theorem Oz {α:Type} (L:List α) (off:Nat):splice L off []=L:=by simp [splice]
def uL (ZQ:List Int) (ps:List (Int × List Int)) (c:Nat→Nat):Nat→List Int
 | 0=>ZQ
 | k+1=>splice (uL ZQ ps c k) ((pB ps k).toNat*64) ((pD ps k).take (c k))
theorem FC (h:Vf dl ps=true) (k:Nat) (hk:k<ps.length):∃b:Nat,pB ps k=b∧b*64+64≤dl∧b≤300∧(pD ps k).length=64:=by
 obtain ⟨h1,h2,h3,h4,h5⟩:=(Wu dl ps).1 h;obtain ⟨k1,k2,k3⟩:=h5 k hk;exact ⟨(pB ps k).toNat,by omega,by omega,by omega,k3⟩
theorem Ro (ZQ:List Int) (ps:List (Int × List Int)) (c:Nat→Nat) (h:Vf ZQ.length ps=true):∀k,k≤ps.length→(uL ZQ ps c k).length=ZQ.length
 | 0,_=>rfl
 | k+1,hk=>by
  have ih:=Ro ZQ ps c h k (by omega);obtain ⟨b,hb,hb2,_,hd⟩:=FC h k (by omega);rw [uL,length_splice,ih];rw [hb,Ww,XU,ih,hd];omega
def Qq (ZQ:List Int) (ps:List (Int × List Int)):List Int:=if Vf ZQ.length ps then uL ZQ ps (fun _=>64) ps.length else []
theorem tR (ZQ:List Int) (ps:List (Int × List Int)):(Qq ZQ ps).length≤ZQ.length:=by
 unfold Qq;split
 · rename_i h
   rw [Ro ZQ ps _ h _ ZT];exact ZT
 simp
def WR (rs:List (Int × List Int)):List Value:=rs.flatMap fun r=>.int .i64 r.1 :: r.2.map (Value.int .u8)
theorem Oy (a b:List (Int × List Int)):WR (a++b)=WR a++WR b:=by simp [WR]
theorem IY (x:Int) (V:List Int):WR [(x,V)]=.int .i64 x :: V.map (Value.int .u8):=by simp [WR]
theorem Rm:∀(rs:List (Int × List Int)),(∀i,i<rs.length→(pD rs i).length=64)→(WR rs).length=rs.length*65
 | [],_=>rfl
 | r :: rs,h=>by
  have h0:r.2.length=64:=h 0 (by simp);have ih:=Rm rs (fun i hi=>h (i+1) (by simp;omega));have e:WR (r :: rs)=WR [(r.1,r.2)]++WR rs:=by simp [WR]
  rw [e,ZA,ih,IY]
  simp [h0];omega
theorem tQ (rs:List (Int × List Int)) (i k:Nat) (h:i<k):pD (rs.take k) i=pD rs i:=by unfold pD;simp [List.getD,FO h]
theorem yX (rs:List (Int × List Int)) (i:Nat) (hi:i<rs.length):rs=rs.take i++((pB rs i,pD rs i) :: rs.drop (i+1)):=by
 have e:(pB rs i,pD rs i)=rs[i]:=by unfold pB pD;simp [List.getD,hi]
 rw [e]
 conv=>lhs;rw [←VC i rs]
 rw [Jz hi]
theorem Sa (rs:List (Int × List Int)) (i:Nat) (hi:i<rs.length):WR rs=WR (rs.take i)++(.int .i64 (pB rs i) :: ((pD rs i).map (Value.int .u8)++WR (rs.drop (i+1)))):=by
 conv=>lhs;rw [yX rs i hi]
 rw [Oy]
 congr 1
theorem TB (rs:List (Int × List Int)) (i:Nat) (hi:i≤rs.length) (h:∀i,i<rs.length→(pD rs i).length=64):(WR (rs.take i)).length=i*65:=by
 rw [Rm _ (fun j hj=>by rw [XU] at hj;rw [tQ _ _ _ (by omega)];exact h j (by omega)),XU,Wh hi]
theorem yW (rs:List (Int × List Int)) (i:Nat) (hi:i<rs.length) (h:∀i,i<rs.length→(pD rs i).length=64):(WR rs)[i*65]?=some (.int .i64 (pB rs i)):=by
 rw [Sa rs i hi,VG (by rw [TB rs i (by omega) h];exact ZT),TB rs i (by omega) h]
 simp
theorem yV (rs:List (Int × List Int)) (i:Nat) (hi:i<rs.length) (h:∀i,i<rs.length→(pD rs i).length=64) (j:Nat) (u:Value) (hu:((pD rs i).map (Value.int .u8))[j]?=some u):(WR rs)[i*65+1+j]?=some u:=by
 have hj:j<(pD rs i).length:=by have:=(UG.1 hu).1;simpa using this
 rw [Sa rs i hi,VG (by rw [TB rs i (by omega) h];omega),TB rs i (by omega) h,show i*65+1+j - i*65=j+1 by omega,CF,Wd (by simpa using hj)];exact hu
theorem Cv (rs:List (Int × List Int)) (i:Nat) (hi:i<rs.length) (r:Int × List Int):rs.set i r=rs.take i++(r :: rs.drop (i+1)):=by
 rw [qX,ZZ hi]
theorem yU (rs:List (Int × List Int)) (i:Nat) (hi:i<rs.length) (h:∀i,i<rs.length→(pD rs i).length=64) (V:List Int) (hV:V.length=64) :
    WR (rs.set i (pB rs i,V))=splice (WR rs) (i*65+1) (V.map (Value.int .u8)):=by
 have hp:=TB rs i (by omega) h;have hd:=h i hi;rw [Cv rs i hi,Oy];have e1:WR ((pB rs i,V) :: rs.drop (i+1))=.int .i64 (pB rs i) :: (V.map (Value.int .u8)++WR (rs.drop (i+1))):=by simp [WR]
 rw [e1,Sa rs i hi];generalize WR (rs.take i)=A at *;generalize WR (rs.drop (i+1))=B at *;have hO:((pD rs i).map (Value.int .u8)).length=64:=by simpa using hd
 have hV':(V.map (Value.int .u8)).length=64:=by simpa using hV
 generalize (pD rs i).map (Value.int .u8)=O at *;generalize V.map (Value.int .u8)=V' at *;generalize Value.int .i64 (pB rs i)=x at *;unfold splice;have t1:(A++x :: (O++B)).take (i*65+1)=A++[x]:=by
  rw [List.take_append,Wv (by omega),show i*65+1 - A.length=1 by omega];rfl
 have t2:(A++x :: (O++B)).drop (i*65+1+V'.length)=B:=by
  rw [pO,FR (by omega),show i*65+1+V'.length - A.length=64+1 by omega,pM,pO,FR (by omega),show 64 - O.length=0 by omega]
  simp
 rw [t1,t2]
 simp
theorem Tz (rs:List (Int × List Int)) (i j:Nat) (hi:i<rs.length) (V:List Int):pB (rs.set i (pB rs i,V)) j=pB rs j:=by
 unfold pB
 simp only [List.getD,pG]
 by_cases e:i=j
 · subst e;simp [hi]
 simp [e]
theorem yT (rs:List (Int × List Int)) (i j:Nat) (hi:i<rs.length) (V:List Int):pD (rs.set i (pB rs i,V)) j=if j=i then V else pD rs j:=by
 unfold pD
 simp only [List.getD,pG]
 by_cases e:i=j
 · subst e;simp [hi]
 rw [Z1 e,Z1 (fun h=>e h.symm)]
def Put (rs:List (Int × List Int)) (x:Int) (V:List Int) (rs':List (Int × List Int)):Prop :=
 (∃i,i<rs.length∧pB rs i=x∧rs'=rs.set i (pB rs i,V))∨((∀i,i<rs.length→pB rs i≠x)∧rs'=rs++[(x,V)])
def Ox (ZQ:List Int) (ps:List (Int × List Int)) (k:Nat) (rs:List (Int × List Int)):Prop :=
 (∀b:Nat,(∀i,i<rs.length→pB rs i=b→rdv ZQ ps b k=pD rs i)∧((∀i,i<rs.length→pB rs i≠b)→rdv ZQ ps b k=rdv ZQ ps b 0)) ∧
 (∀i,i<rs.length→∃b:Nat,pB rs i=b∧b*64+64≤ZQ.length∧b≤300)
theorem Cu (ZQ:List Int) (ps:List (Int × List Int)):Ox ZQ ps 0 []:=⟨fun b=>⟨fun i hi=>by simp at hi,fun _=>rfl⟩,fun i hi=>by simp at hi⟩
theorem FB (ZQ:List Int) (ps:List (Int × List Int)) (b k:Nat) (h:pB ps k=b):rdv ZQ ps b (k+1)=pD ps k:=by unfold rdv;rw [ZZ h]
theorem Rl (ZQ:List Int) (ps:List (Int × List Int)) (b k:Nat) (h:¬pB ps k=b):rdv ZQ ps b (k+1)=rdv ZQ ps b k:=by rw [rdv,Z1 h]
theorem Ct (ZQ:List Int) (ps rs rs':List (Int × List Int)) (k:Nat) (ht:Ox ZQ ps k rs) (hk:∃b:Nat,pB ps k=b∧b*64+64≤ZQ.length∧b≤300)
    (hap:∀i j,i<rs.length→j<rs.length→pB rs i=pB rs j→i=j) (h:Put rs (pB ps k) (pD ps k) rs'):Ox ZQ ps (k+1) rs':=by
 obtain ⟨h1,h2⟩:=ht
 rcases h with ⟨i,hi,hx,rfl⟩ | ⟨hno,rfl⟩
 · have hl:(rs.set i (pB rs i,pD ps k)).length=rs.length:=MW ..
   refine ⟨fun b=>⟨fun j hj hb=>?_,fun hb=>?_⟩,fun j hj=>?_⟩
   · rw [hl] at hj
     rw [Tz rs i j hi] at hb;rw [yT rs i j hi]
     by_cases e:j=i
     · subst e;rw [ZZ rfl];exact FB ZQ ps b k (by rw [←hx];exact hb)
     rw [Z1 e,Rl ZQ ps b k (fun e'=>e (hap j i hj hi (by rw [hb,hx,e'])))];exact (h1 b).1 j hj hb
   · have hb':∀j,j<rs.length→pB rs j≠b:=fun j hj=>by have:=hb j (by rw [hl];exact hj);rw [Tz rs i j hi] at this;exact this
     rw [Rl ZQ ps b k (fun e=>hb' i hi (by rw [hx,e]))];exact (h1 b).2 hb'
   rw [hl] at hj;rw [Tz rs i j hi];exact h2 j hj
 have hl:(rs++[(pB ps k,pD ps k)]).length=rs.length+1:=by simp
 refine ⟨fun b=>⟨fun j hj hb=>?_,fun hb=>?_⟩,fun j hj=>?_⟩
 · rw [hl] at hj
   by_cases e:j=rs.length
   · subst e
     rw [WL] at hb;rw [Pd];exact FB ZQ ps b k hb
   rw [Xa _ _ _ (by omega)] at hb;rw [Le _ _ _ (by omega),Rl ZQ ps b k (fun e'=>hno j (by omega) (by rw [hb,e']))];exact (h1 b).1 j (by omega) hb
 · have hn:=hb rs.length (by rw [hl];omega)
   rw [WL] at hn;rw [Rl ZQ ps b k hn];exact (h1 b).2 (fun j hj=>by have:=hb j (by rw [hl];omega);rw [Xa _ _ _ hj] at this;exact this)
 rw [hl] at hj
 by_cases e:j=rs.length
 · subst e;rw [WL];exact hk
 rw [Xa _ _ _ (by omega)];exact h2 j (by omega)
def MF (D:DataW Unit) (rs:List (Int × List Int)):Prop :=
 (∀x:Int,Maps.has D (.int .i64 x)=true↔∃i,i<rs.length∧pB rs i=x)∧∀i,i<rs.length→∀z,D.atKey (.int .i64 (pB rs i)) z=.lit (.int .i64 i)
theorem MF.set {D:DataW Unit} (h:MF D rs) (i:Nat) (hi:i<rs.length) (V:List Int):MF D (rs.set i (pB rs i,V)):=by
 have hl:(rs.set i (pB rs i,V)).length=rs.length:=MW ..;refine ⟨fun x=>?_,fun j hj z=>?_⟩
 · rw [h.1 x,hl]
   constructor
   · rintro ⟨j,hj,e⟩;exact ⟨j,hj,by rw [Tz rs i j hi];exact e⟩
   rintro ⟨j,hj,e⟩;rw [Tz rs i j hi] at e;exact ⟨j,hj,e⟩
 rw [hl] at hj;rw [Tz rs i j hi];exact h.2 j hj z
theorem MF.snoc {D:DataW Unit} (h:MF D rs) (hD:Maps.IsMap D) (x:Int) (V:List Int) (hno:∀i,i<rs.length→pB rs i≠x):MF (D.put (.int .i64 x) (.lit (.int .i64 (rs.length:Int)))) (rs++[(x,V)]):=by
 have hl:(rs++[(x,V)]).length=rs.length+1:=by simp
 refine ⟨fun y=>?_,fun j hj z=>?_⟩
 · by_cases e:y=x
   · subst e
     rw [Maps.has_put_same (k:=.int .i64 y) hD trivial];exact ⟨fun _=>⟨rs.length,by rw [hl];omega,WL _ _⟩,fun _=>rfl⟩
   rw [Maps.has_put_other (by intro h;injection h;contradiction),h.1 y,hl]
   constructor
   · rintro ⟨j,hj,e'⟩;exact ⟨j,by omega,by rw [Xa _ _ _ hj];exact e'⟩
   rintro ⟨j,hj,e'⟩
   by_cases ej:j=rs.length
   · subst ej;rw [WL] at e';exact absurd e'.symm e
   rw [Xa _ _ _ (by omega)] at e';exact ⟨j,by omega,e'⟩
 rw [hl] at hj
 by_cases ej:j=rs.length
 · subst ej;rw [WL];exact Maps.atKey_put_same (k:=.int .i64 x) hD trivial _ _
 rw [Xa _ _ _ (by omega),Maps.atKey_put_other (by intro h';injection h' with _ h';exact hno j (by omega) h')];exact h.2 j (by omega) z
theorem VF {o:Oper} {K:Act→World→Prop} {Q:Exit→Act→World→Prop} {E:Prop} (hgd:o.guard=none) (d s:Operand) (dT sT:TypeId)
    (ho:o.op=.call { callee:=.builtin .copy,args:=#[d,s],argTypes:=#[dT,sT] }) (elem:TypeId) (hu:P.underlying dT=some (.slice elem)) (hsz:(P.info? elem).map (·.size)=some 1)
    (dp sp:Option Addr) (dLen dCap sLen sCap:Nat) (hd:a.eval d=.slice dp dLen dCap) (hs:a.eval s=.slice sp sLen sCap)
    (g off:Nat) (cur:List Value) (t:TypeId) (hg:w.heap[g]?=some (.cells cur.toArray t (0,0))) (cs:List Value) (hn:cs.length=Nat.min sLen dLen)
    (hpos:0<cs.length→dp=some ⟨g,off,none⟩∧∃ad,sp=some ad∧∀j v,cs[j]?=some v→w.cell? (ad.add j)=some v)
    (hfit:off+cs.length≤cur.length) (h1:∀v ∈ cs,v.oneCell'=true)
    (h:∀w',Hid (w'.heap[g]?=some (.cells (splice cur off cs).toArray t (0,0)))→Hid (w.grownBy w' (some g))→K (a.put o.dst (goInt cs.length)) w') :
    if Region.wanted o (yielded ops a.tmps)=true then Oper.wp P o a w K Q else E:=by
 have hw:Region.wanted o (yielded ops a.tmps)=true:=by simp [Region.wanted,hgd]
 rw [ZZ hw]
 by_cases h0:cs.length=0
 · obtain rfl:cs=[]:=TN h0
   have hrun:=run_copy_none (P:=P) w dT sT o.type elem dp sp dLen dCap sLen sCap hu hsz (by simpa using hn.symm);unfold Oper.wp
   simp [execOp,ho,resolve,invoke,builtin,hd,hs,hrun,Result.andThen]
   exact h w (show _=_ by simpa [splice] using hg) (YT _ _)
 obtain ⟨rfl,ad,rfl,hsrc⟩:=hpos (by omega);have hrun:=run_copy_row (P:=P) w dT sT o.type elem g off dLen dCap ad sLen sCap cur.toArray t cs hu hsz hg hn hsrc (by simpa using hfit) h1;unfold Oper.wp
 simp [execOp,ho,resolve,invoke,builtin,hd,hs,hrun,Result.andThen]
 exact h _ (show _=_ by simpa [splice] using Sz w g _ _ t _ hg) (show World.grownBy _ _ _ from ⟨rfl,rfl,rfl,by simp [World.setRow],fun k _ hne=>Jg w g k _ (fun e=>hne (by rw [e]))⟩)
theorem YH (n:Nat) (h:n=64):(Tryz.prog.info? 117).map (·.size)=some n:=by subst h;kernel_rfl
theorem yS:(Tryz.prog.info? 5).map (·.size)=some 1:=by kernel_rfl
theorem Rj (w:World) (base g dl cap b:Nat) (D C:List Int) (ho:Own .u8 5 w base (.slice (some ⟨g,0,none⟩) dl cap) D) (hD:D.length=dl) (hC:C.length=64) (hb:b*64+64≤dl) (hd1:dl≤1048576) :
    Calls Tryz.prog 51 #[.slice (some ⟨g,0,none⟩) dl cap,.int .i64 b,.agg (C.map (Value.int .u8)).toArray] w fun e w'=>e=.returned (.tuple #[])∧Own .u8 5 w' base (.slice (some ⟨g,0,none⟩) dl cap) (splice D (b*64) C)∧w.grownBy w' (some g):=by
 obtain ⟨X,hX⟩:∃X,X=C.map (Value.int .u8):=⟨_,rfl⟩;rw [←hX];have HX:Hid (X.length=64):=by subst hX;show _=_;simpa using hC
 have JL:Hid (∀v ∈ X,v.oneCell'=true):=by subst hX;exact Wf _ _
 have HO:=Z3 ho;obtain ⟨cur,hgb,TV,hcap,hcm,htake⟩:∃cur:Array Value,w.heap[g]?=some (.cells cur 5 (0,0))∧cur.size=cap∧dl≤cap∧cap≤maxLen∧cur.toList.take dl=D.map (Value.int .u8):=by
  rcases ho.2 with ⟨h,-⟩ | ⟨g',cap',cur,e,-,h2,h3,h4,h5,h6⟩
  · simp at h
  simp only [Y4,Zo,JB] at e
  obtain ⟨⟨rfl,-⟩,-,rfl⟩:=e;rw [hD] at h3 h6;rw [WV] at h5 h6;exact ⟨cur,h2,h5,h3,h4,h6⟩
 have hgz:=(Yh.1 hgb).1;have lf:=Z3 hgb;have Zz:=Z3 TV;have ZN:=Z3 ((ZD ho g rfl).1);have TW:Hid ((splice cur.toList (b*64) X).take dl=(splice D (b*64) C).map (Value.int .u8)∧(splice D (b*64) C).length=dl∧(splice cur.toList (b*64) X).length=cap):=by
  have hcl:cur.toList.length=cap:=by simpa using TV
  have hxl:=HX.out;refine ⟨?_,by rw [length_splice _ _ _ (by omega),hD],by rw [length_splice _ _ _ (by omega),hcl]⟩;rw [Sb,←htake,←hX];apply CH;intro j;rw [XI _ _ _ (by rw [XU];omega),CE]
  by_cases hj:j<dl
  · rw [ZZ hj,XI _ _ _ (by omega),FO hj]
  rw [Z1 hj,Z1 (by omega),Z1 (by omega),CE,Z1 hj]
 unfold maxLen at hcm;clear hX hC ho hgb htake TV
 go_enter Tryz.func51,Tryz.ntmps51
 go_wp2_with fail
 have GA:Hid ((w.alloc (.cells X.toArray 117)).heap[g]?=some (.cells cur.toList.toArray 5 (0,0))):=by
  show _=_;rw [Below.heap_alloc _ _ _ hgz,Array.toArray_toList];exact lf.out
 have CX:Hid (∀(j:Nat) (v:Value),X[j]?=some v→(w.alloc (.cells X.toArray 117)).cell? ((⟨w.heap.size,0,none⟩:Addr).add j)=some v):=by
  intro j v h;rw [Sg,YK,Xn _ _ j _ _ _ (Y9 w _)]
  simpa using h
 have o0:((b*64:Nat):Int)≤(dl:Int):=by omega
 have Zt:(b:Int)*64≤(dl:Int):=by omega
 have hwr:IntKind.i64.wrap ((b:Int)*64)=((b*64:Nat):Int):=by rw [XK];omega
 have hnc:¬cap=b*64:=by omega
 have hb0:(0:Int)≤(b:Int)*64:=by omega
 have htn:((b:Int)*64).toNat=b*64:=by omega
 have hgr:w.grownBy (w.alloc (.cells X.toArray 117)) (some g):=Ml _ _ _;have Zw:=Z3 hgr;clear hgr;generalize w.alloc _=W0 at *
 go_region_law (refine VF rfl (.tmp 9) (.tmp 10) 22 22 rfl 5 Tryz.underlying22 yS _ _ _ _ _ _ rfl rfl g (b*64) cur.toList 5 GA.out X (by rw [HX.out];exact (Wh (show 64≤dl - b*64 by omega)).symm) (fun _=>⟨rfl,⟨w.heap.size,0,none⟩,rfl,CX.out⟩) (by rw [HX.out,Gc,Zz.out];omega) JL.out ?_;intro w4 hg4 hb4)
 go_wp2
 go_end0
 refine ⟨rfl,?_,?_⟩
 · refine ⟨by rw [TW.out.2.1];simpa using TW.out.2.1,.inr ⟨g,cap,(splice cur.toList (b*64) X).toArray,?_,ZN.out,hg4.out,by rw [TW.out.2.1];exact hcap,hcm,?_,?_⟩⟩
   · rw [TW.out.2.1]
   · simpa using TW.out.2.2
   rw [TW.out.2.1,WV];exact TW.out.1
 exact Zw.out.trans (show W0.grownBy w4 (some g) from ⟨hb4.out.os,hb4.out.tape,hb4.out.output,hb4.out.size,hb4.out.block⟩)
structure UM (w:World) (lo tb mb:Nat) (v:Value) (rs:List (Int × List Int)):Prop where
 box:WI w tb v (.map (some mb))
 rows:w.ownsRow lo 210 65 v rs.length (WR rs)
 map:∃D:DataW Unit,w.ownsMap Tryz.prog 2 (plainElem Tryz.prog 3) mb rs.length D∧MF D rs
 full:∀i,i<rs.length→(pD rs i).length=64
 apart:∀i j,i<rs.length→j<rs.length→pB rs i=pB rs j→i=j
 lot:lo≤tb
 ld:lo≤mb
 ne:tb≠mb
 vt:v.ownBlock≠some tb
 vm:v.ownBlock≠some mb
theorem UM.below (h:UM w lo tb mb v rs) (hb:ZX w w'):UM w' lo tb mb v rs:=by
 have G:w.grownBy w' none:=⟨hb.os,hb.tape,hb.output,hb.size,fun q hq _=>hb.block q hq⟩;obtain ⟨D,hD,hM⟩:=h.map;refine ⟨h.box.below hb,Yu h.rows G ?_,⟨D,hD.kept G (by simp),hM⟩,h.full,h.apart,h.lot,h.ld,h.ne,h.vt,h.vm⟩
 cases v.ownBlock with
 | none=>exact .inl rfl
 | some q=>exact .inr (by simp)
theorem oZ:Maps.Keyed Tryz.prog 2:=Maps.int_keyed Tryz.underlying2
theorem DL (w:World):(zeroValue 3).run Tryz.prog w=.ok (.int .i64 0) w:=by kernel_rfl
theorem Ri (w:World):Calls Tryz.prog 135 #[] w fun e w'=>e=.returned (.pointer (some ⟨w.heap.size+1,0,none⟩))∧UM w' w.heap.size (w.heap.size+1) w.heap.size (.slice none 0 0) []∧ZX w w':=by
 have hmm:=@run_makeMap Tryz.prog
 go_enter Tryz.func135,Tryz.ntmps135
 go_wp2;go_ret;have B1:ZX w (w.alloc (.map #[] 0)):=ZJ.alloc ZT _;have hbx:=WI.new (w.alloc (.map #[] 0)) (.slice none 0 0) (.map (some w.heap.size)) 208;rw [Wg] at hbx;refine ⟨rfl,⟨hbx,Zl _ _ _ _,⟨.map [],(World.ownsMap_made w Tryz.prog _ _).alloc _,⟨fun x=>⟨fun h=>by simp [Maps.has] at h,fun ⟨i,hi,_⟩=>by simp at hi⟩,fun i hi=>by simp at hi⟩⟩,fun i hi=>by simp at hi,fun i j hi=>by simp at hi,by omega,ZT,by omega,by simp [Value.ownBlock],by simp [Value.ownBlock]⟩,B1.alloc B1.size _⟩
theorem SZ (w:World) (cs:Array Value) (t:TypeId):(w.alloc (.cells cs t)).rangeAt w.heap.size 0 cs.toList:=by
 intro j v hv;rw [YK,Xn _ _ j cs t (0,0) (Y9 w _)]
 simpa using hv
theorem UM.form (h:UM w lo tb mb v rs) (h0:0<rs.length):∃g cap,v=.slice (some ⟨g,0,none⟩) rs.length cap∧lo≤g∧g<w.heap.size∧rs.length≤cap∧cap≤maxLen:=by
 rcases h.rows.2 with ⟨-,h1⟩ | ⟨g,cap,cur,rfl,hb,hg,h2,h3,-⟩
 · omega
 exact ⟨g,cap,rfl,hb,(Yh.1 hg).1,h2,h3⟩
theorem Own.pos (h:Own .u8 5 w base v xs) (hn:xs.length=n) (h0:0<n):∃g cap,v=.slice (some ⟨g,0,none⟩) n cap∧base≤g∧g<w.heap.size:=by
 subst hn
 rcases h.2 with ⟨-,h1⟩ | ⟨g,cap,cur,rfl,hb,hg,-⟩
 · omega
 exact ⟨g,cap,rfl,hb,(Yh.1 hg).1⟩
theorem Rd.cellAt (h:Rd k w (.slice ao n cap) xs) (hl:xs.length=n) (hi:i<n):∃b o,ao=some ⟨b,o,none⟩∧b<w.heap.size∧w.cell? ⟨b,o+i,none⟩=some (.int k (xs.getD i 0)):=by
 obtain ⟨pt,cap',e,h1,h2,h3⟩:=h
 simp only [Y4] at e
 obtain ⟨rfl,_,rfl⟩:=e
 rcases h3 with rfl | ⟨b,o,rfl,hb,hc⟩
 · simp at hl;omega
 exact ⟨b,o,rfl,hb,hc i (by omega)⟩
theorem WI.other {b:Nat} {row:Option Nat} (h:WI w b x y) (hg:w.grownBy w' row) (hne:some b≠row):WI w' b x y :=
 ⟨h.1.other hg hne,(hg.frozen_far ⟨b,0,none⟩ h.1.1 hne).trans h.2.1,(hg.frozen_far ⟨b,1,none⟩ h.1.1 hne).trans h.2.2⟩
end
end Go.Proofs.YtpmjnbmkippaiaaGreatDoor


