import Derived.OrdersHeld
import Derived.WalkKit
import Derived.ProofKit
import Derived.OpenShut
import Derived.Handy
import Derived.Carry
import Derived.WalkSpells
import Derived.WalkSmall
import Derived.Deep.RegionHeld
import Derived.Test.YtpmjnbmkippaiaaGreatDoorChecked
import Derived.Deep.QuietTactic
import Derived.BigQuiet
import Derived.Laws.BytesArg
import Derived.Lib.ConvBytes
import Derived.Laws.OwnMore
import Derived.Lib.Bytealg
import Derived.Laws.Externs
import Derived.Lib.IndexLaws
import Derived.RangeFuncNested
import Derived.RangeFuncLeaves
import Derived.Shelf.Abstract
import Derived.OwnWalkIn
import Derived.TacticsInMore
import Derived.LoopNIn
import Derived.LoopIn
import Derived.RangeFuncBox
import Derived.Deep.RegionWith
import Derived.Deep.RegionHeld3
import Derived.Laws.Cover1
import Derived.IntWalk
import Derived.Lib.AppendStr
set_option maxRecDepth 100000
set_option maxHeartbeats 16000000
set_option linter.all false
namespace Go.Proofs.YtpmjnbmkippaiaaGreatDoor
section
open Go.RowKit Go.Shelf
variable {a:Act} {listed:Array Bool} {ops:Array Oper} {lb:Array Value} {s:ByteArray} {k:IntKind} {R:List (List UInt8)} {xs:List Int} {L:List Value} {B b base c fuel gf i j lo m n p q:Nat} {oi:Oper} {o o':Option Nat} {P:Program} {e:TypeId} {v x:Value} {W W' X Y w w' w1 w2:World}
abbrev YY:=@Go.Addr.add_lit
abbrev Ym:=@Go.Addr.mk.injEq
abbrev Sj:=@Go.AllReadyH.cons
abbrev UW:=@Array.ext'
abbrev Xj:=@Array.getElem?_eq_getElem
abbrev Ts:=@Array.getElem?_eq_none
abbrev Z3:=@Array.getElem?_eq_some_iff
abbrev YJ:=@Array.length_toList
abbrev YV:=@Array.replicate_succ
abbrev YU:=@Array.replicate_zero
abbrev TJ:=@Array.size_append
abbrev Wz:=@Array.size_replicate
abbrev Vx:=@Array.toList_append
abbrev UV:=@Array.toList_extract
abbrev SO:=@Bool.and_eq_false_iff
abbrev ZA:=@Bool.and_eq_true
abbrev VE:=@Bool.and_false
abbrev SJ:=@Bool.eq_iff_iff
abbrev Yu:=@Bool.false_eq_true
abbrev Vl:=@Bool.or_eq_true
abbrev Xz:=@Bool.true_and
abbrev Yd:=@ByteArray.data_append
abbrev Ve:=@ByteArray.data_extract
abbrev WM:=@ByteArray.ext
abbrev VX:=@ByteArray.size_append
abbrev YG:=@Go.ByteArray.toList_eq
abbrev SI:=@Go.DataW.trod_bool
abbrev UF:=@Int.tdiv_eq_ediv_of_nonneg
abbrev Ze:=@Int.toNat_natCast
abbrev Zq:=@Go.IntKind.wrap_i64
abbrev Te:=@Go.IntKind.wrap_u16
abbrev UE:=@Go.Lib.run_append_grow_string
abbrev U7:=@Go.Lib.run_eql_slice_nil
abbrev Us:=@Go.Lib.strCells_length
abbrev VW:=@List.Pairwise.sublist
abbrev VR:=@List.all_cons
abbrev VQ:=@List.all_eq_false
abbrev Yw:=@List.all_eq_true
abbrev Td:=@List.any_eq_true
abbrev ZO:=@List.append_assoc
abbrev YD:=@List.append_nil
abbrev YT:=@List.append_toArray
abbrev SG:=@List.cons.injEq
abbrev Y3:=@List.cons_append
abbrev Tc:=@List.drop_append
abbrev Yc:=@List.drop_drop
abbrev Yg:=@List.drop_eq_getElem_cons
abbrev Xx:=@List.drop_eq_nil_of_le
abbrev XS:=@List.drop_of_length_le
abbrev Ur:=@List.drop_succ_cons
abbrev XR:=@List.drop_zero
abbrev Zg:=@List.eq_nil_of_length_eq_zero
abbrev Ug:=@List.eq_of_mem_replicate
abbrev Vs:=@List.eraseIdx_eq_take_drop_succ
abbrev Tb:=@List.ext_getElem
abbrev Wn:=@List.ext_getElem?
abbrev VL:=@List.extract_eq_take_drop
abbrev Ta:=@List.filter_cons
abbrev VP:=@List.findIdx_cons
abbrev XZ:=@List.flatMap_append
abbrev WY:=@List.flatMap_cons
abbrev UU:=@List.flatMap_nil
abbrev TI:=@List.flatten_cons
abbrev VO:=@List.foldl_append
abbrev WS:=@List.foldl_cons
abbrev Uq:=@List.getD_cons_succ
abbrev XM:=@List.getD_cons_zero
abbrev Xy:=@List.getD_eq_getElem?_getD
abbrev Zy:=@List.getElem?_append_left
abbrev Zv:=@List.getElem?_append_right
abbrev Xr:=@List.getElem?_cons_succ
abbrev Yt:=@List.getElem?_drop
abbrev ZF:=@List.getElem?_eq_getElem
abbrev Yk:=@List.getElem?_eq_none
abbrev Zh:=@List.getElem?_eq_some_iff
abbrev Yo:=@List.getElem?_map
abbrev WZ:=@List.getElem?_replicate
abbrev TG:=@List.getElem?_set
abbrev VK:=@List.getElem?_set_ne
abbrev WJ:=@List.getElem?_take
abbrev XP:=@List.getElem?_take_of_lt
abbrev XK:=@List.getElem?_toArray
abbrev YP:=@List.getElem_mem
abbrev Up:=@List.getElem_of_mem
abbrev ZZ:=@List.length_append
abbrev ZE:=@List.length_cons
abbrev ZS:=@List.length_drop
abbrev Zl:=@List.length_map
abbrev Y7:=@List.length_nil
abbrev XJ:=@List.length_replicate
abbrev Xt:=@List.length_set
abbrev Zw:=@List.length_take
abbrev Y6:=@List.map_append
abbrev Vw:=@List.map_congr_left
abbrev Yl:=@List.map_cons
abbrev SF:=@List.map_map
abbrev WO:=@List.map_nil
abbrev Uf:=@List.map_replicate
abbrev UD:=@List.map_take
abbrev WL:=@List.map_toArray
abbrev Y4:=@List.mem_append
abbrev Y9:=@List.mem_cons
abbrev Zp:=@List.mem_cons_of_mem
abbrev YO:=@List.mem_cons_self
abbrev SZ:=@List.mem_nil_iff
abbrev UT:=@List.mem_of_getElem?
abbrev XV:=@List.mem_of_mem_drop
abbrev Xa:=@List.mem_of_mem_take
abbrev Yb:=@List.mem_range
abbrev Vk:=@List.mem_singleton
abbrev Zd:=@List.nil_append
abbrev SW:=@List.not_mem_nil
abbrev YI:=@List.push_toArray
abbrev SD:=@List.range_succ
abbrev US:=@List.replicate_succ'
abbrev VI:=@List.set_eq_take_append_cons_drop
abbrev Q8:=@List.set_set
abbrev ZI:=@List.size_toArray
abbrev Ti:=@List.sum_cons
abbrev Vv:=@List.takeWhile_cons
abbrev TF:=@List.take_add_one
abbrev YQ:=@List.take_append_drop
abbrev W8:=@List.take_left
abbrev SC:=@List.take_left'
abbrev Xp:=@List.take_length
abbrev Y8:=@List.take_of_length_le
abbrev YW:=@List.take_succ_eq_append_getElem
abbrev U6:=@List.take_take
abbrev WI:=@List.take_zero
abbrev Vu:=@List.toList_toArray
abbrev Xu:=@Nat.add_assoc
abbrev Tr:=@Nat.add_mul
abbrev Yj:=@Nat.add_zero
abbrev Vd:=@Nat.div_div_eq_div_mul
abbrev Uk:=@Nat.div_le_self
abbrev U5:=@Nat.le_of_eq
abbrev Ux:=@Nat.le_succ
abbrev ZJ:=@Nat.le_trans
abbrev Ue:=@Nat.lt_of_le_of_lt
abbrev ZY:=@Nat.lt_of_lt_of_le
abbrev Sz:=@Nat.lt_or_ge
abbrev WK:=@Nat.lt_succ_self
abbrev YC:=@Nat.min_eq_left
abbrev VV:=@Nat.min_le_left
abbrev UR:=@Nat.min_le_right
abbrev SV:=@Nat.mod_eq_of_lt
abbrev Wg:=@Nat.mod_lt
abbrev Ud:=@Nat.mod_mod_of_dvd
abbrev UC:=@Nat.mod_two_eq_zero_or_one
abbrev U4:=@Nat.mul_mod_mul_right
abbrev Yr:=@Nat.mul_one
abbrev Q3:=@Nat.mul_zero
abbrev Q2:=@Nat.ne_of_gt
abbrev Uw:=@Nat.one_mul
abbrev Uv:=@Nat.pow_add
abbrev Wx:=@Nat.pow_le_pow_right
abbrev Uc:=@Nat.pow_succ
abbrev Wf:=@Nat.sub_self
abbrev XY:=@Nat.sub_zero
abbrev UB:=@Nat.xor_assoc
abbrev Q1:=@Nat.xor_zero
abbrev Za:=@Nat.zero_add
abbrev Zu:=@Nat.zero_le
abbrev Xg:=@Nat.zero_mul
abbrev Yv:=@Go.Oper.semAt_some
abbrev Xf:=@Option.getD_some
abbrev Sy:=@Option.map_some
abbrev Zc:=@Option.some.inj
abbrev ZK:=@Option.some.injEq
abbrev VH:=@Prod.mk.inj
abbrev Rv:=@Prod.mk.injEq
abbrev XH:=@Go.Result.andThen_ok
abbrev XX:=@Go.Sem.run_bind
abbrev Ww:=@Go.Sem.run_pure
abbrev Rl:=@Go.Steps.head
abbrev TC:=@UInt8.le_antisymm
abbrev Vj:=@UInt8.lt_irrefl
abbrev Uj:=@UInt8.toNat.inj
abbrev ZC:=@Go.Value.slice.injEq
abbrev ZG:=@Go.World.block_lt_of_cell?
abbrev VJ:=@Go.World.cell?_alloc_at
abbrev ZP:=@Go.World.cell?_of_block
abbrev ZV:=@Go.World.cell?_setCell_other
abbrev Zk:=@Go.World.cell?_setCell_same
abbrev Ub:=@Go.World.cell?_setCells_out
abbrev Yq:=@Go.World.frozen?_of_block
abbrev Zb:=@Go.World.frozen?_setCell
abbrev Zz:=@Go.World.grownBy.refl
abbrev WR:=@Go.World.grownBy.trans
abbrev WQ:=@Go.World.grownBy_alloc
abbrev WP:=@Go.World.ownsRow.alloc
abbrev Wv:=@Go.World.ownsRow.cellAt
abbrev Ys:=@Go.World.ownsRow.cells
abbrev Xm:=@Go.World.ownsRow.frozenAt
abbrev Zn:=@Go.World.ownsRow.kept
abbrev ZT:=@Go.World.ownsRow.lt
abbrev WX:=@Go.World.ownsRow_lit
abbrev ZH:=@Go.World.ownsRow_nil
abbrev Wk:=@Go.World.rangeAt_alloc
abbrev Vi:=@Go.World.rangeAt_drew
abbrev U3:=@Go.World.rangeAt_setCells_apart
abbrev Yf:=@Go.World.rangeAt_setCells_same
abbrev YF:=@Go.World.size_alloc
abbrev Sw:=@Go.World.var?_cell
abbrev XL:=@Go.all_oneCell_toArray
abbrev VB:=@and_true
abbrev YH:=@beq_eq_false_iff_ne
abbrev VU:=@beq_false_of_ne
abbrev ZL:=@beq_iff_eq
abbrev Uo:=@bne_eq_false_iff_eq
abbrev ZW:=@Go.bodyPost_ret
abbrev UA:=@Go.callsD_of_wpS
abbrev Xb:=@Go.callsIn_of_wp
abbrev YK:=@Go.callsIn_wide
abbrev Yz:=@Go.cell_of_row
abbrev XW:=@Go.cell_one_new
abbrev ZM:=@congrArg
abbrev UQ:=@decide_eq_decide
abbrev Zo:=@decide_eq_false
abbrev Xq:=@decide_eq_false_iff_not
abbrev Zm:=@decide_eq_true
abbrev Zj:=@decide_eq_true_eq
abbrev Tq:=@Go.grownCap_ge
abbrev We:=@Go.grownCap_le_maxLen
abbrev U2:=@Go.growslice_fits
abbrev Zs:=@Go.heap_alloc_new
abbrev WW:=@if_false
abbrev Z1:=@if_neg
abbrev Z0:=@if_pos
abbrev Vo:=@if_true
abbrev YN:=@Go.info_parts
abbrev Yi:=@Go.ints_oneCell
abbrev Si:=@ite_self
abbrev XE:=@Go.leaves_cons
abbrev Wm:=@of_decide_eq_true
abbrev Sh:=@or_false
abbrev Wu:=@Go.results_none
abbrev Tp:=@Go.rounds_succ
abbrev Un:=@Go.run_callFunc_extern
abbrev Vt:=@Go.run_firstCells_some
abbrev TB:=@Go.run_storeCells_at
abbrev Ya:=@Go.run_underlying
abbrev WB:=@Go.setRow_heap
abbrev Ua:=@Go.setRow_other
abbrev TO:=@Go.size_zeroCells
abbrev UP:=@Go.step_block
abbrev Sg:=@Go.step_seq
abbrev Q0:=@true_and
abbrev ZR:=@Go.wpAnyH_done
abbrev Sf:=@Go.wpListIn_plain
abbrev WG:=@Go.wpList_append_fits
abbrev Yn:=@Go.wpList_append_own
abbrev YM:=@Go.wpList_load_mid
abbrev T0:=@Go.wpList_lookup_own_ok_int
abbrev Vh:=@Go.wpList_make_own
abbrev TZ:=@Go.wpList_plain
abbrev UO:=@Go.wpList_store_mid
abbrev TN:=@Go.wpS_region
abbrev TM:=@Go.wp_loop_rounds
abbrev ZX:=@Go.wp_region_held_drew
abbrev VN:=@Go.yieldsIf_load_mid
def Rd (k:IntKind) (w:World) (v:Value) (xs:List Int):Prop :=
 ∃ao cap,v=.slice ao xs.length cap∧xs.length≤cap∧cap≤maxLen ∧
  (xs=[]∨∃b off,ao=some ⟨b,off,none⟩∧b<w.heap.size∧∀i,i<xs.length→w.cell? ⟨b,off+i,none⟩=some (.int k (xs.getD i 0)))
def Own (k:IntKind) (e:TypeId) (w:World) (base:Nat) (v:Value) (xs:List Int):Prop :=
 w.ownsRow base e 1 v xs.length (xs.map (Value.int k))
theorem Own.rd (h:Own k e w base v xs):Rd k w v xs:=by
 rcases h.2 with ⟨rfl,h0⟩ | ⟨g,cap,cur,rfl,hb,hg,hn,hm,hs,ht⟩
 · have:xs=[]:=Zg h0
   subst this;exact ⟨none,0,rfl,Nat.le_refl _,Zu _,.inl rfl⟩
 · refine ⟨_,cap,rfl,hn,hm,.inr ⟨g,0,rfl,(Z3.1 hg).1,fun i hi=>?_⟩⟩
   have h1:=Ys h (g:=g) rfl i (.int k (xs.getD i 0)) (by simp [List.getD,hi]);rw [YY] at h1;exact h1
theorem Own.below (h:Own k e w base v xs) (hb:Below w.heap.size w w'):Own k e w' base v xs:=by
 refine ⟨h.1,?_⟩
 rcases h.2 with hn | ⟨g,cap,cur,rfl,hbg,hgg,rest⟩
 · exact .inl hn
 · exact .inr ⟨g,cap,cur,rfl,hbg,by rw [hb.block g (Z3.1 hgg).1];exact hgg,rest⟩
theorem Own.mono {base':Nat} (h:Own k e w base v xs) (hb:base'≤base):Own k e w base' v xs:=by
 refine ⟨h.1,?_⟩
 rcases h.2 with hn | ⟨g,cap,cur,rfl,hbg,rest⟩
 · exact .inl hn
 · exact .inr ⟨g,cap,cur,rfl,by omega,rest⟩
theorem Rd.below (h:Rd k w v xs) (hb:Below w.heap.size w w'):Rd k w' v xs:=by
 obtain ⟨ao,cap,rfl,h1,h2,h3⟩:=h;refine ⟨ao,cap,rfl,h1,h2,?_⟩
 rcases h3 with h3 | ⟨b,off,rfl,hlt,hc⟩
 · exact .inl h3
 · exact .inr ⟨b,off,rfl,ZY hlt hb.size,fun i hi=>by rw [hb.cell (p:=⟨b,off+i,none⟩) hlt];exact hc i hi⟩
theorem below_drewN' (w:World) (n:Nat):Below w.heap.size w (w.drewN n):=⟨rfl,rfl,rfl,Nat.le_refl _,fun _ _=>rfl⟩
theorem Own.other {row:Option Nat} (h:Own k e w base v xs) (hg:w.grownBy w' row) (hne:v.ownBlock=none∨v.ownBlock≠row):Own k e w' base v xs :=
 Zn h hg hne
theorem Own.lt (h:Own k e w base v xs):∀g,v.ownBlock=some g→base≤g∧g<w.heap.size:=ZT h
theorem Rd.len (h:Rd k w v xs):∃ao cap,v=.slice ao xs.length cap∧xs.length≤cap∧cap≤maxLen:=by
 obtain ⟨ao,cap,h0,h1,h2,_⟩:=h;exact ⟨ao,cap,h0,h1,h2⟩
theorem ZU {p:Prop} (h:p):Hid p:=h
theorem WV {α:Type} (l:List α) (i:Nat) (a:α):l.toArray.setIfInBounds i a=(l.set i a).toArray:=List.setIfInBounds_toArray ..
theorem WU {α:Type} (a b:α) (l:List α):(a :: l).set 0 b=b :: l:=rfl
theorem WT {α:Type} (a b:α) (l:List α) (n:Nat):(a :: l).set (n+1) b=a :: l.set n b:=rfl
theorem PL {md:Region.Mode} {Q:Exit→Act→World→Prop} {S:World→Prop} (hi:ops[i]?=some oi)
    (hb:(Region.noSelect ops && (Region.free md ops listed i && (Region.ready md ops listed).contains i))=true)
    (hQ:∀c a w,Q (.panic c) (a.put oi.dst v) w→Q (.panic c) a w) (hy:YieldsIf P ops S oi v a) (hS:S w)
    (h:wpAnyH P md ops Q S fuel (listed.setIfInBounds i true) (a.put oi.dst v) w):wpAnyH P md ops Q S (fuel+1) listed a w:=by
 simp only [ZA] at hb
 exact wpAnyH_take hi hb.1 hb.2.1 hb.2.2 hQ hy hS h
theorem iO {md:Region.Mode} {Q:Exit→Act→World→Prop} {S:World→Prop} (hi:ops[i]?=some oi)
    (hb:(Region.noSelect ops && (Region.free md ops listed i && (Region.ready md ops listed).contains i))=true)
    (hQ:∀c a w,Q (.panic c) (a.put oi.dst v) w→Q (.panic c) a w) (hw:Region.wanted oi (yielded ops a.tmps)=true) (hS:S w) (hy:∀w,S w→(execOp a.eval oi).run P w=.ok (.value v) w)
    (h:wpAnyH P md ops Q S fuel (listed.setIfInBounds i true) (a.put oi.dst v) w):wpAnyH P md ops Q S (fuel+1) listed a w:=PL hi hb hQ (Or.inl ⟨hw,hy⟩) hS h
theorem iN {md:Region.Mode} {Q:Exit→Act→World→Prop} {S:World→Prop} (hi:ops[i]?=some oi)
    (hb:(Region.noSelect ops && (Region.free md ops listed i && (Region.ready md ops listed).contains i))=true)
    (hQ:∀c a w,Q (.panic c) (a.put oi.dst undef) w→Q (.panic c) a w) (hw:Region.wanted oi (yielded ops a.tmps)=false) (hS:S w)
    (h:wpAnyH P md ops Q S fuel (listed.setIfInBounds i true) (a.put oi.dst undef) w):wpAnyH P md ops Q S (fuel+1) listed a w:=PL hi hb hQ (Or.inr ⟨hw,rfl⟩) hS h
section
variable {P:Program} {md:Region.Mode} {ops:Array Oper} {Q:Exit→Act→World→Prop} {S:World→Prop} {fuel:Nat} {listed:Array Bool} {a:Act} {w:World} {d:Option Nat} {op:Op} {ty:TypeId} {ps:String} {T:Array Edge} {O:Option (Nat × Bool)} {os:List Oper}
theorem Yp (i:Nat) (v:Value) (hi:ops[i]?=some ⟨d,op,ty,ps,T,O⟩) (hb:((Region.noSelect ops && (Region.free md ops listed i && (Region.ready md ops listed).contains i)) && (Region.wanted ⟨d,op,ty,ps,T,O⟩ (yielded ops a.tmps) == true))=true) (hQ:∀p:List PanicEntry × Act × World,Q (.panic p.1) (p.2.1.put d v) p.2.2→Q (.panic p.1) p.2.1 p.2.2) (hS:S w) (hy:∀w,S w→(execOp a.eval ⟨d,op,ty,ps,T,O⟩).run P w=.ok (.value v) w) (h:wpAnyH P md ops Q S fuel (listed.setIfInBounds i true) (a.put d v) w):wpAnyH P md ops Q S (fuel+1) listed a w:=iO hi (Bool.and_eq_true_iff.1 hb).1 (fun c a w h=>hQ (c,a,w) h) (ZL.1 (Bool.and_eq_true_iff.1 hb).2) hS hy h
theorem Zf (v:Value) (hb:(ops[ops.size - (os.length+1)]?,((Region.noSelect ops && (Region.free md ops listed (ops.size - (os.length+1)) && (Region.ready md ops listed).contains (ops.size - (os.length+1)))) && (Region.wanted ⟨d,op,ty,ps,T,O⟩ (yielded ops a.tmps) == true)))=(some ⟨d,op,ty,ps,T,O⟩,true)) (hQ:∀p:List PanicEntry × Act × World,Q (.panic p.1) (p.2.1.put d v) p.2.2→Q (.panic p.1) p.2.1 p.2.2) (hS:S w) (hy:∀w,S w→(execOp a.eval ⟨d,op,ty,ps,T,O⟩).run P w=.ok (.value v) w) (h:wpAnyH P md ops Q S os.length (listed.setIfInBounds (ops.size - (os.length+1)) true) (a.put d v) w):wpAnyH P md ops Q S (⟨d,op,ty,ps,T,O⟩ :: os).length listed a w:=Yp _ v (VH hb).1 (VH hb).2 hQ hS hy h
theorem iM (i:Nat) (hi:ops[i]?=some ⟨d,op,ty,ps,T,O⟩) (hb:((Region.noSelect ops && (Region.free md ops listed i && (Region.ready md ops listed).contains i)) && (Region.wanted ⟨d,op,ty,ps,T,O⟩ (yielded ops a.tmps) == false))=true) (hQ:∀p:List PanicEntry × Act × World,Q (.panic p.1) (p.2.1.put d undef) p.2.2→Q (.panic p.1) p.2.1 p.2.2) (hS:S w) (h:wpAnyH P md ops Q S fuel (listed.setIfInBounds i true) (a.put d undef) w):wpAnyH P md ops Q S (fuel+1) listed a w:=iN hi (Bool.and_eq_true_iff.1 hb).1 (fun c a w h=>hQ (c,a,w) h) (ZL.1 (Bool.and_eq_true_iff.1 hb).2) hS h
theorem J7 (hb:(ops[ops.size - (os.length+1)]?,((Region.noSelect ops && (Region.free md ops listed (ops.size - (os.length+1)) && (Region.ready md ops listed).contains (ops.size - (os.length+1)))) && (Region.wanted ⟨d,op,ty,ps,T,O⟩ (yielded ops a.tmps) == false)))=(some ⟨d,op,ty,ps,T,O⟩,true)) (hQ:∀p:List PanicEntry × Act × World,Q (.panic p.1) (p.2.1.put d undef) p.2.2→Q (.panic p.1) p.2.1 p.2.2) (hS:S w) (h:wpAnyH P md ops Q S os.length (listed.setIfInBounds (ops.size - (os.length+1)) true) (a.put d undef) w):wpAnyH P md ops Q S (⟨d,op,ty,ps,T,O⟩ :: os).length listed a w:=iM _ (VH hb).1 (VH hb).2 hQ hS h
theorem YS (i:Nat) (ho:ops[i]?=some ⟨d,op,ty,ps,T,O⟩) (hr:Region.ready md ops listed=[i]) (h:∀K':Act→World→Prop,Shut (∀a w,S w→(S w→wpAnyH P md ops Q S fuel (listed.setIfInBounds i true) a w)→K' a w)→if Region.wanted ⟨d,op,ty,ps,T,O⟩ (yielded ops a.tmps)=true then Oper.wp P ⟨d,op,ty,ps,T,O⟩ a w K' Q else K' (a.put d undef) w):wpAnyH P md ops Q S (fuel+1) listed a w:=wpAnyH_ready hr (by simp) (Sj ho h AllReadyH.nil)
theorem QG (i j:Nat) {d2:Option Nat} {Z4:Op} {Z2:TypeId} {ps2:String} {ZN:Array Edge} {ZD:Option (Nat × Bool)} (ho:ops[i]?=some ⟨d,op,ty,ps,T,O⟩) (ho2:ops[j]?=some ⟨d2,Z4,Z2,ps2,ZN,ZD⟩) (hr:Region.ready md ops listed=[i,j]) (h:∀K':Act→World→Prop,Shut (∀a w,S w→(S w→wpAnyH P md ops Q S fuel (listed.setIfInBounds i true) a w)→K' a w)→if Region.wanted ⟨d,op,ty,ps,T,O⟩ (yielded ops a.tmps)=true then Oper.wp P ⟨d,op,ty,ps,T,O⟩ a w K' Q else K' (a.put d undef) w) (h2:∀K':Act→World→Prop,Shut (∀a w,S w→(S w→wpAnyH P md ops Q S fuel (listed.setIfInBounds j true) a w)→K' a w)→if Region.wanted ⟨d2,Z4,Z2,ps2,ZN,ZD⟩ (yielded ops a.tmps)=true then Oper.wp P ⟨d2,Z4,Z2,ps2,ZN,ZD⟩ a w K' Q else K' (a.put d2 undef) w):wpAnyH P md ops Q S (fuel+1) listed a w:=wpAnyH_ready hr (by simp) (Sj ho h (Sj ho2 h2 AllReadyH.nil))
end
@[reducible] def Zi (w W:World):Prop:=Below w.heap.size w W
@[reducible] def Wj (w:World) (v:Value) (e:Ending) (W:World):Prop:=e=.returned v∧Below w.heap.size w W
theorem YR :n≤n:=Nat.le_refl n
theorem Yy :Below n w w:=Below.refl _ _
theorem WD (h:Below w.heap.size w w1) (k:Below w1.heap.size w1 w2):Below w.heap.size w w2:=h.trans (k.mono h.size)
theorem Tryz.QZ:(Tryz.prog.info? 5).map (fun i=>(i.zero,i.size,i.bytes))=some (some (.int .u8 0),1,1):=by kernel_rfl
theorem Wt {a b:Bool} (h:a=b):Ending.returned (.bool a)=.returned (.bool b):=by rw [h]
theorem Pd {a b:Int} (h:a=b):Ending.returned (.int k a)=.returned (.int k b):=by rw [h]
theorem grownBy_set (w w':World) (g i:Nat) (u:Value) (h:w.grownBy w' (some g)):w.grownBy (w'.setCell ⟨g,i,none⟩ u) (some g) :=
 ⟨h.os,h.tape,h.output,by simpa using h.size,fun k hk hne=>by
  have hs:=h.size;rw [←h.block k hk hne];exact Below.heap_setCell _ _ _ _ (fun e=>hne (by rw [e]))⟩
theorem Own.row (h:Own k e w base v xs) :
    (v=.slice none 0 0∧xs=[])∨∃g cap,v=.slice (some ⟨g,0,none⟩) xs.length cap∧base≤g∧xs.length≤cap∧cap≤maxLen:=by
 rcases h.2 with ⟨rfl,h0⟩ | ⟨g,cap,cur,rfl,hb,hg,hn,hm,_⟩
 · exact .inl ⟨rfl,Zg h0⟩
 exact .inr ⟨g,cap,rfl,hb,hn,hm⟩
theorem AS {g cap:Nat} (h:w.ownsRow base e 1 (.slice (some ⟨g,0,none⟩) n cap) n (madeCells #[Value.int k 0] n).toList) :
    Own k e w base (.slice (some ⟨g,0,none⟩) n cap) (List.replicate n 0):=by
 unfold Own;rw [toList_madeCells_one] at h
 simpa using h
end
section
variable {a:Act} {listed:Array Bool} {ops:Array Oper} {lb:Array Value} {s:ByteArray} {k:IntKind} {R:List (List UInt8)} {xs:List Int} {L:List Value} {B b base c fuel gf i j lo m n p q:Nat} {oi:Oper} {o o':Option Nat} {P:Program} {e:TypeId} {v x:Value} {W W' X Y w w' w1 w2:World}
def Qr (w:Nat) (xs:List Int):Nat:=xs.foldl (fun a x=>a*2 ^ w+x.toNat % 2 ^ w) 0
theorem AR (w:Nat) (xs:List Int) (x:Int):Qr w (xs++[x])=Qr w xs*2 ^ w+x.toNat % 2 ^ w:=by
 simp [Qr,VO]
theorem GG (k:Nat):0<2 ^ k:=Nat.two_pow_pos k
theorem LA (xs:List Int) (k:Nat) (h:k<xs.length):xs.take (k+1)=xs.take k++[xs.getD k 0]:=by
 rw [YW h];simp [List.getD,h]
theorem PK (w:Nat) (xs:List Int) (k:Nat) (h:k<xs.length):Qr w (xs.take (k+1))=Qr w (xs.take k)*2 ^ w+(xs.getD k 0).toNat % 2 ^ w:=by
 rw [LA xs k h,AR]
theorem yC (w:Nat) (xs:List Int) (k:Nat):∀d,k+d≤xs.length→Qr w (xs.take (k+d)) / 2 ^ (w*d)=Qr w (xs.take k):=by
 intro d
 induction d with
 | zero=>intro _;simp
 | succ d ih =>
  intro h;rw [←Xu,PK w xs (k+d) (by omega),Nat.mul_succ,Nat.add_comm (w*d) w,Uv,←Vd];have h2:(xs.getD (k+d) 0).toNat % 2 ^ w<2 ^ w:=Wg _ (GG w);rw [Nat.add_comm,Nat.add_mul_div_right _ _ (GG w),Nat.div_eq_of_lt h2,Za];exact ih (by omega)
def tA (w v:Nat) (xs:List Int) (q:Nat):Nat:=Qr w xs / 2 ^ (w*xs.length - v*(q+1)) % 2 ^ v
theorem yB (w v:Nat) (xs:List Int) (k q:Nat) (hk:k≤xs.length) (hq:v*(q+1)≤w*k) :
    tA w v xs q=Qr w (xs.take k) / 2 ^ (w*k - v*(q+1)) % 2 ^ v:=by
 unfold tA;have e1:w*xs.length - v*(q+1)=w*(xs.length - k)+(w*k - v*(q+1)):=by
  rw [Nat.mul_sub];have:w*k≤w*xs.length:=Nat.mul_le_mul_left _ hk;omega
 rw [e1,Uv,←Vd];have e2:=yC w xs k (xs.length - k) (by omega);rw [show k+(xs.length - k)=xs.length by omega,Xp] at e2;rw [e2]
theorem tx (r N a v:Nat) (h:r % 2 ^ (a+v)=N % 2 ^ (a+v)):r / 2 ^ a % 2 ^ v=N / 2 ^ a % 2 ^ v:=by
 have key:∀x,x / 2 ^ a % 2 ^ v=x % 2 ^ (a+v) / 2 ^ a:=by
  intro x;rw [Uv,Nat.mod_mul_right_div_self]
 rw [key,key,h]
theorem tu {r N a:Nat} (hab:a≤b) (h:r % 2 ^ b=N % 2 ^ b):r % 2 ^ a=N % 2 ^ a:=by
 have hd:=Nat.pow_dvd_pow 2 hab;rw [←Ud r hd,h,Ud N hd]
theorem yA (r N x a w K:Nat) (hK:a+w≤K) (h:r % 2 ^ a=N % 2 ^ a) :
    (r*2 ^ w % 2 ^ K+x) % 2 ^ (a+w)=(N*2 ^ w+x) % 2 ^ (a+w):=by
 have hd:=Nat.pow_dvd_pow 2 hK;have e:r*2 ^ w % 2 ^ (a+w)=N*2 ^ w % 2 ^ (a+w):=by
  rw [Uv,U4,U4,h]
 rw [Nat.add_mod,Ud _ hd,e,←Nat.add_mod]
def pk (xs:List Int):List Int :=
 (List.range (8*xs.length / 7)).map (fun q=>((128+tA 8 7 xs q:Nat):Int)) ++
  (if 8*xs.length % 7=0 then [] else [((128+Qr 8 xs % 2 ^ (8*xs.length % 7)*2 ^ (7 - 8*xs.length % 7):Nat):Int)])
theorem Jz (xs:List Int):(pk xs).length=(8*xs.length+6) / 7:=by
 unfold pk
 by_cases h:8*xs.length % 7=0
 · simp [h];omega
 simp [h];omega
def up (ps:List Int):List Int:=(List.range (7*ps.length / 8)).map (fun q=>((tA 7 8 ps q:Nat):Int))
theorem DW (f:Nat→Int) (q:Nat):(List.range (q+1)).map f=(List.range q).map f++[f q]:=by
 rw [SD,Y6];rfl
end
section
open Go.RowKit Go.Shelf
variable {a:Act} {listed:Array Bool} {ops:Array Oper} {lb:Array Value} {s:ByteArray} {k:IntKind} {R:List (List UInt8)} {xs:List Int} {L:List Value} {B b base c fuel gf i j lo m n p q:Nat} {oi:Oper} {o o':Option Nat} {P:Program} {e:TypeId} {v x:Value} {W W' X Y w w' w1 w2:World}
theorem yz (r:Int) (h0:0≤r) (h1:r<65536):bits .and .u16 r 127=r % 128:=by
 rw [u16_and r 127 h0 h1 (by omega) (by omega)];rw [show ((127:Int).toNat)=127 from rfl,nat_mask7];omega
theorem IS (x:Int) (h0:0≤x) (h1:x<128):bits .or .u8 128 x=128+x:=by
 rw [u8_or 128 x (by omega) (by omega) h0 (by omega)];rw [show ((128:Int).toNat)=128 from rfl,nat_join 7 128 x.toNat (by decide) (by simp only [Nat.reducePow];omega)];omega
theorem OG (w:World) (r:Int) (h0:0≤r) (h1:r<65536):Calls Tryz.prog 203 #[.int .u16 r] w fun e w'=>e=.returned (.int .u8 (128+r % 128))∧w'=w:=by
 have e1:=yz r h0 h1;have e2:=IS (r % 128) (by omega) (by omega)
 go_enter Tryz.func203,Tryz.ntmps203
 go_wp2;go_ret;exact ⟨rfl,rfl⟩
def Sn (xs:List Int):Prop:=∀x ∈ xs,0≤x∧x<256
theorem DV (h:Sn xs) (k:Nat):∃x:Nat,x<256∧xs.getD k 0=(x:Int):=by
 by_cases hk:k<xs.length
 · have:=h xs[k] (YP hk)
   exact ⟨xs[k].toNat,by omega,by simp only [List.getD,ZF hk,Xf];omega⟩
 exact ⟨0,by omega,by simp [List.getD,show xs.length≤k by omega]⟩
theorem pE (R x A N:Nat) (hx:x<256) (hA:A≤6) (h:R % 2 ^ A=N % 2 ^ A) :
    ∃R':Nat,R'<65536∧bits .or .u16 (IntKind.u16.wrap ((R:Int)*256)) (x:Int)=(R':Int)∧R' % 2 ^ (A+8)=(N*256+x) % 2 ^ (A+8):=by
 have hs:=yA R N x A 8 16 (by omega) h
 simp only [show (2:Nat) ^ 8=256 from rfl,show (2:Nat) ^ 16=65536 from rfl] at hs
 refine ⟨R*256 % 65536+x,by omega,?_,hs⟩;have e:IntKind.u16.wrap ((R:Int)*256)=((R*256 % 65536:Nat):Int):=by rw [Te];omega
 rw [e,u16_or_nat _ _ (by omega) (by omega),nat_join 8 (R*256 % 65536) x (by simp only [Nat.reducePow];omega) (by simpa using hx)]
theorem DU (R A:Nat):(0:Int)≤(R:Int) / 2 ^ A:=Int.ediv_nonneg (by omega) (by exact_mod_cast Zu _)
theorem NT (R A:Nat):(R:Int) / 2 ^ A=((R / 2 ^ A:Nat):Int):=by simp
theorem pC (R A:Nat) (h:R<65536):(R:Int) / 2 ^ A<65536:=by
 rw [NT];have:=Uk R (2 ^ A);omega
theorem ts (xs:List Int) (R A k q:Nat) (hk:k≤xs.length) (hq:7*q+(A+7)=8*k) (h:R % 2 ^ (A+7)=Qr 8 (xs.take k) % 2 ^ (A+7)) :
    (128+(R:Int) / 2 ^ A % 128)=((128+tA 8 7 xs q:Nat):Int):=by
 rw [NT,yB 8 7 xs k q hk (by omega),show 8*k - 7*(q+1)=A by omega,←tx R _ A 7 h]
 simp only [Nat.reducePow]
 omega
theorem yy (x:Int):0≤IntKind.u16.wrap x∧IntKind.u16.wrap x<65536:=by rw [Te];omega
theorem yx (R N A:Nat) (hA:A≤7) (h:R % 2 ^ A=N % 2 ^ A):(128+IntKind.u16.wrap ((R:Int)*2 ^ (7 - A)) % 128)=((128+N % 2 ^ A*2 ^ (7 - A):Nat):Int):=by
 have e:(R:Int)*2 ^ (7 - A)=((R*2 ^ (7 - A):Nat):Int):=by simp
 rw [e,Te];have e2:R*2 ^ (7 - A) % 128=N % 2 ^ A*2 ^ (7 - A):=by
  have e3:128=2 ^ A*2 ^ (7 - A):=by rw [←Uv,show A+(7 - A)=7 by omega]
  conv=>lhs;rw [e3]
  rw [U4,h]
 rw [←e2];generalize R*2 ^ (7 - A)=z;omega
def yw (xs:List Int) (q:Nat):List Int:=(List.range q).map (fun j=>((128+tA 8 7 xs j:Nat):Int))
theorem Ck (xs:List Int) (q:Nat):(yw xs q).length=q:=by simp [yw]
theorem tr (h:7*q+0=8*xs.length):pk xs=yw xs q:=by
 unfold pk yw;rw [show 8*xs.length / 7=q by omega,Z0 (by omega),YD]
theorem py {A:Nat} (h:7*q+A=8*xs.length) (h0:0<A) (h6:A≤6):pk xs=yw xs q++[((128+Qr 8 xs % 2 ^ A*2 ^ (7 - A):Nat):Int)]:=by
 unfold pk yw;rw [show 8*xs.length / 7=q by omega,show 8*xs.length % 7=A by omega,Z1 (by omega)]
theorem QY {ys:List Int} (hl:ys.length=q) (he:xs=ys) (h:w.ownsRow base e 1 v q (ys.map (Value.int k))):Own k e w base v xs:=by
 subst he;unfold Own;rw [hl];exact h
theorem IR (w:World) (b o n cap:Nat) (xs:List Int) (hx:xs.length=n) (hb:b<w.heap.size) (hc:∀i,i<n→w.cell? ⟨b,o+i,none⟩=some (.int .u8 (xs.getD i 0))) (hby:Sn xs) (hn:n≤1099511627776) :
    Calls Tryz.prog 172 #[.slice (some ⟨b,o,none⟩) n cap] w fun e w'=>∃v',e=.returned v'∧Own .u8 5 w' w.heap.size v' (pk xs)∧Zi w w':=by
 obtain ⟨i0,hi,hz0,hz1,hz2⟩:=YN Tryz.QZ;have HC:=ZU hc;have HX:=ZU hx;clear hc hx
 go_enter Tryz.func172,Tryz.ntmps172
 go_wp2_with (at_make;refine Vh _ rfl _ _ 22 rfl w.heap.size 5 i0 (.int .u8 0) 1 Tryz.underlying22 hi hz0 hz1 _ _ _ ((8*n+6) / 7) rfl rfl ?b1 ?b2 ?b3 ?b4 ?_)
 case b1=>omega
 case b2=>rw [hz2];omega
 case b3=>unfold maxLen;omega
 case b4=>exact YR
 intro w1 hown hgrow;go_wp2;have HO:=ZU hown;have HG:=ZU (Yy.grown hgrow YR (by simp));clear hown hgrow
 go_loopw [3,4,5,16] (fun v r a i wr=>∃k q A R:Nat,k≤n∧i=.int .i64 k∧A≤6∧Hid (7*q+A=8*k)∧a=.int .u8 A∧R<65536∧r=.int .u16 R∧Hid (R % 2 ^ A=Qr 8 (xs.take k) % 2 ^ A) ∧
     v=.slice (some ⟨w.heap.size,0,none⟩) q ((8*n+6) / 7)∧wr.ownsRow w.heap.size 5 1 (.slice (some ⟨w.heap.size,0,none⟩) q ((8*n+6) / 7)) q ((yw xs q).map (Value.int .u8))∧Zi w wr) (fun _ _ _ i _=>n - (intOf i).toNat)
 case atStart=>exact ⟨0,0,0,0,Zu _,rfl,by omega,rfl,rfl,by omega,rfl,rfl,rfl,HO.out,HG.out⟩
 case round =>
  obtain ⟨k,q,A,R,hk,rfl,hA,HQ,rfl,hR,rfl,HR,rfl,ho,hg⟩:=hrel
  by_cases hlt:k<n
  · obtain ⟨x,hx,hxe⟩:=DV hby k
    have hsrc:wr.cell? ⟨b,o+k,none⟩=some (.int .u8 (x:Int)):=by rw [←hxe];exact (hg.cell (p:=⟨b,o+k,none⟩) hb).trans (HC.out k hlt)
    have Rj:(k:Int)<(n:Int):=by omega
    obtain ⟨R',hR',Zx,J⟩:=pE R x A (Qr 8 (xs.take k)) hx hA HR.out;have HN:Hid (Qr 8 (xs.take (k+1))=Qr 8 (xs.take k)*256+x):=by
     have:=PK 8 xs k (by rw [HX.out];exact hlt);rw [hxe] at this;show _=_;rw [this,Ze,SV (show x<2 ^ 8 from hx)]
    rw [←HN.out] at J;have HR2:=ZU J;have mf:Hid (7*q+(A+8)=8*(k+1)):=by have:=HQ.out;show _=_;omega
    clear hxe J HR HN HQ;go_wp2
    go_loopw [3,5] (fun v a wr=>∃q A:Nat,A≤14∧Hid (7*q+A=8*(k+1))∧a=.int .u8 A∧Hid (R' % 2 ^ A=Qr 8 (xs.take (k+1)) % 2 ^ A) ∧
        v=.slice (some ⟨w.heap.size,0,none⟩) q ((8*n+6) / 7)∧wr.ownsRow w.heap.size 5 1 (.slice (some ⟨w.heap.size,0,none⟩) q ((8*n+6) / 7)) q ((yw xs q).map (Value.int .u8))∧Zi w wr) (fun _ a _=>(intOf a).toNat)
    case atStart=>exact ⟨q,A+8,by omega,mf,by go_num,HR2,rfl,ho,hg⟩
    case round =>
     clear mf HR2 ho hg hsrc Zx;obtain ⟨q',A',hA',Z7,rfl,J,rfl,ho,hg⟩:=hrel
     by_cases h7:7≤A'
     · obtain ⟨A2,rfl⟩:∃A2,A'=A2+7:=⟨A' - 7,by omega⟩
       have Y0:(7:Int)≤((A2+7:Nat):Int):=by omega
       have HD:=ZU (ts xs R' A2 (k+1) q' (by rw [HX.out];omega) Z7.out J.out);have hcap:q'+1≤(8*n+6) / 7:=by have:=Z7.out;omega
       go_wp2_with fail
       refine (OG _ _ (DU R' A2) (pC R' A2 hR')).mono ?_;rintro e wr ⟨rfl,rfl⟩
       go_wp2_with (at_builtin;refine WG _ rfl _ _ 22 rfl w.heap.size 5 i0 1 Tryz.underlying22 hi hz1 w.heap.size q' ((8*n+6) / 7) _ rfl (ho.alloc _) ⟨wr.heap.size,0,none⟩ 1 1 [.int .u8 (128+(R':Int) / 2 ^ A2 % 128)] rfl rfl (XW _ _ _) (by intro u hu;simp at hu;subst hu;rfl) hcap ?_)
       intro w2 ho2 hg2;have DT:Hid (w2.ownsRow w.heap.size 5 1 (.slice (some ⟨w.heap.size,0,none⟩) (q'+1) ((8*n+6) / 7)) (q'+1) ((yw xs (q'+1)).map (Value.int .u8))):=by
        rw [HD.out] at ho2;unfold yw;rw [DW,Y6];exact ho2
       have HG2:=ZU ((hg.alloc (hg.size) _).grown hg2 (by have:=hg.size;simp;omega) (by intro k hk;simp at hk;omega));clear ho2 hg2 ho hg;go_wp2
       go_roundw
       case rel=>exact ⟨q'+1,A2,by omega,(by have:=Z7.out;show _=_;omega),by go_num,tu (by omega) J.out,rfl,DT.out,HG2.out⟩
       case measure=>simp [intOf];omega
     have Y0:((A':Nat):Int)<7:=by omega
     go_wp2
     go_roundw
     case rel=>exact ⟨k+1,q',A',R',by omega,by go_num,by omega,Z7,rfl,hR',rfl,J,rfl,ho,hg⟩
     case measure=>simp [intOf];omega
  have hkn:k=n:=by omega
  subst hkn
  by_cases hA0:A=0
  · subst hA0
    go_wp2;go_ret;exact ⟨_,rfl,QY (Ck xs q) (tr (by rw [HX.out];exact HQ.out)) ho,hg⟩
  have hA1:(0:Int)<(A:Int):=by omega
  have HD:Hid ((128+IntKind.u16.wrap ((R:Int)*2 ^ (7 - A)) % 128)=((128+Qr 8 xs % 2 ^ A*2 ^ (7 - A):Nat):Int)):=yx R _ A (by omega) (by have:=HR.out;rw [Y8 (by rw [HX.out];exact YR)] at this;exact this);have hcap:q+1≤(8*k+6) / 7:=by have:=HQ.out;omega
  go_wp2_with fail
  refine (OG _ _ (yy _).1 (yy _).2).mono ?_;rintro e wr ⟨rfl,rfl⟩
  go_wp2_with (at_builtin;refine WG _ rfl _ _ 22 rfl w.heap.size 5 i0 1 Tryz.underlying22 hi hz1 w.heap.size q ((8*k+6) / 7) _ rfl (ho.alloc _) ⟨wr.heap.size,0,none⟩ 1 1 [.int .u8 (128+IntKind.u16.wrap ((R:Int)*2 ^ (7 - A)) % 128)] rfl rfl (XW _ _ _) (by intro u hu;simp at hu;subst hu;rfl) hcap ?_)
  intro w2 ho2 hg2;have DT:Hid (Own .u8 5 w2 w.heap.size (.slice (some ⟨w.heap.size,0,none⟩) (q+1) ((8*k+6) / 7)) (pk xs)):=by
   rw [HD.out] at ho2;exact QY (q:=q+1) (ys:=yw xs q++[((128+Qr 8 xs % 2 ^ A*2 ^ (7 - A):Nat):Int)]) (by simp [Ck]) (py (by rw [HX.out];exact HQ.out) (by omega) (by omega)) (by rw [Y6];exact ho2)
  have HG2:=ZU ((hg.alloc (hg.size) _).grown hg2 (by have:=hg.size;simp;omega) (by intro k hk;simp at hk;omega));clear ho2 hg2 ho hg;go_wp2;go_ret;exact ⟨_,rfl,DT.out,HG2.out⟩
theorem IQ (w:World) (ao:Option Addr) (cap:Nat) :
    Calls Tryz.prog 172 #[.slice ao 0 cap] w fun e w'=>∃v',e=.returned v'∧Own .u8 5 w' w.heap.size v' []∧Zi w w':=by
 obtain ⟨i0,hi,hz0,hz1,hz2⟩:=YN Tryz.QZ
 go_enter Tryz.func172,Tryz.ntmps172
 go_wp2_with (at_make;refine Vh _ rfl _ _ 22 rfl w.heap.size 5 i0 (.int .u8 0) 1 Tryz.underlying22 hi hz0 hz1 _ _ _ 0 rfl rfl ?b1 ?b2 ?b3 ?b4 ?_)
 case b1=>rfl
 case b2=>rw [hz2];omega
 case b3=>unfold maxLen;omega
 case b4=>exact YR
 intro w1 hown hgrow;have HO:=ZU hown;have HG:=ZU (Yy.grown hgrow YR (by simp));clear hown hgrow;go_wp2
 go_rounds 1
 go_ret;exact ⟨_,rfl,HO.out,HG.out⟩
theorem IN (w:World) (v:Value) (xs:List Int) (h:Rd .u8 w v xs) (hby:Sn xs) (hn:xs.length≤1099511627776) :
    Calls Tryz.prog 172 #[v] w fun e w'=>∃v',e=.returned v'∧Own .u8 5 w' w.heap.size v' (pk xs)∧Zi w w':=by
 obtain ⟨ao,cap,rfl,h1,h2,h3⟩:=h
 rcases h3 with rfl | ⟨b,o,rfl,hb,hc⟩
 · exact IQ w ao cap
 exact IR w b o xs.length cap xs rfl hb hc hby hn
theorem To (h:Rd .u8 w v xs):(convert 22 9 v).run Tryz.prog w=.ok (.string (strOfNums xs)) w:=by
 obtain ⟨ao,cap,rfl,h1,h2,h3⟩:=h
 rcases h3 with rfl | ⟨b,o,rfl,hb,hc⟩
 · cases ao with
   | none=>exact run_convert_bytes_nil w _ _ Tryz.underlying22 Tryz.underlying5 0 cap _ Tryz.underlying9
   | some a =>
    rw [run_convert_bytes_string w _ _ _ _ _ _ Tryz.underlying22 Tryz.underlying5 Tryz.underlying9];exact run_bytesToString w a 0 cap [] (by simp [loadCells,loadCellsFrom])
 exact run_convert_bytes_arg w _ _ Tryz.underlying22 Tryz.underlying5 b o _ cap xs rfl hc _ Tryz.underlying9
structure St (W:World) (b:Nat) (L:List Value):Prop where
 lt:b<W.heap.size
 fz:∀j,W.frozen? ⟨b,j,none⟩=false
 cl:∀(j:Nat) (v:Value),L[j]?=some v→W.cell? ⟨b,j,none⟩=some v
theorem St.Xe (h:St W b L) (hb:Below m W W') (hm:b<m):St W' b L :=
 ⟨ZY h.lt hb.size,fun j=>(hb.frozen (p:=⟨b,j,none⟩) hm).trans (h.fz j),fun j v hv=>(hb.cell (p:=⟨b,j,none⟩) hm).trans (h.cl j v hv)⟩
theorem St.below (h:St W b L) (hb:Zi W W'):St W' b L:=h.Xe hb h.lt
theorem St.set (h:St W b L) (j:Nat) (x:Value):St (W.setCell ⟨b,j,none⟩ x) b (L.set j x):=by
 refine ⟨by simpa using h.lt,fun i=>by rw [Zb];exact h.fz i,fun i v hv=>?_⟩
 by_cases e:j=i
 · subst e
   have hj:j<L.length:=by
    have:=(Zh.1 hv).1
    simpa using this
   rw [List.getElem?_set_self hj] at hv;obtain rfl:=Zc hv;exact Zk _ _ _ (h.cl j _ (ZF hj))
 rw [VK e] at hv;exact (ZV _ _ _ _ (by intro e9;injection e9 with e1 e2;first | exact e e2 | exact e e2.symm)).trans (h.cl i v hv)
theorem St.other (h:St W b L) (hne:b≠c):St (W.setCell ⟨c,j,none⟩ x) b L :=
 ⟨by simpa using h.lt,fun i=>by rw [Zb];exact h.fz i,fun i v hv=>(ZV _ _ _ _ (by intro e9;injection e9 with e1 e2;first | exact hne e1 | exact hne e1.symm)).trans (h.cl i v hv)⟩
theorem St.new (W:World) (cs:Array Value) (t:TypeId):St (W.alloc (.cells cs t)) W.heap.size cs.toList:=by
 refine ⟨by simp,fun j=>by simp,fun j v hv=>?_⟩;rw [Yz _ _ j cs t (0,0) (Zs W _)]
 simpa using hv
structure Tw (w:World) (b:Nat) (o:Option Nat) (w':World) (o':Option Nat):Prop where
 os:w'.os=w.os
 tape:w'.tape=w.tape
 output:w'.output=w.output
 size:w.heap.size≤w'.heap.size
 block:∀q,q<w.heap.size→q≠b→o≠some q→w'.heap[q]?=w.heap[q]?
 own:o'=o∨o'=none∨∃g,o'=some g∧w.heap.size≤g
theorem Tw.YZ (h:Zi w w') (b:Nat) (o:Option Nat):Tw w b o w' o:=⟨h.os,h.tape,h.output,h.size,fun q hq _ _=>h.block q hq,.inl rfl⟩
theorem Tw.refl (w:World) (b:Nat) (o:Option Nat):Tw w b o w o:=Tw.YZ Yy b o
theorem Tw.trans {o1 o2:Option Nat} (h:Tw w b o w1 o1) (h':Tw w1 b o1 w2 o2):Tw w b o w2 o2:=by
 refine ⟨h'.os.trans h.os,h'.tape.trans h.tape,h'.output.trans h.output,ZJ h.size h'.size,fun q hq hb ho=>?_,?_⟩
 · refine (h'.block q (ZY hq h.size) hb ?_).trans (h.block q hq hb ho)
   rcases h.own with e | e | ⟨g,e,hg⟩
   · rw [e];exact ho
   · rw [e];simp
   rw [e];intro e2;injection e2 with e2;omega
 rcases h'.own with e | e | ⟨g,e,hg⟩
 · rw [e];exact h.own
 · exact .inr (.inl e)
 exact .inr (.inr ⟨g,e,ZJ h.size hg⟩)
theorem Tw.below (h:Tw w b o w' o') (hB:B≤w.heap.size) (hb:B≤b) (ho:∀g,o=some g→B≤g):Below B w w' :=
 ⟨h.os,h.tape,h.output,h.size,fun q hq=>h.block q (by omega) (by omega) (fun e=>by have:=ho q e;omega)⟩
theorem Tw.st (h:Tw w b o w' o') (hs:St w c L) (hne:c≠b) (ho:o≠some c):St w' c L:=by
 have e:=h.block c hs.lt hne ho;refine ⟨ZY hs.lt h.size,fun j=>?_,fun j v hv=>(ZP (w:=w) (a:=⟨c,j,none⟩) e).trans (hs.cl j v hv)⟩;have:=hs.fz j;unfold World.frozen? at this ⊢;rw [e];exact this
theorem Tw.set (h:Tw w b o w' o'):Tw w b o (w'.setCell ⟨b,j,none⟩ x) o':=by
 refine ⟨h.os,h.tape,h.output,by simpa using h.size,fun q hq hb ho=>?_,h.own⟩;rw [Below.heap_setCell w' ⟨b,j,none⟩ x q hb];exact h.block q hq hb ho
theorem Ws {a b:Bool} (h:a=b):Ending.returned (.bool a)=.returned (.bool b):=by rw [h]
def okB (x:Nat):Bool:=(decide (97≤x) && decide (x≤122)) || (decide (48≤x) && decide (x≤57))
def bN (s:ByteArray) (j:Nat):Nat:=(s.data.toList.getD j 0).toNat
def GF (s:ByteArray):Bool:=decide (1≤s.size) && decide (s.size≤16) && (List.range s.size).all (fun j=>okB (bN s j))
theorem yv (s:ByteArray) (j:Nat) (h:j<s.size):bN s j=s[j].toNat:=by
 have h':j<s.data.toList.length:=h;unfold bN
 simp only [List.getD,ZF h',Xf]
 rfl
theorem DR (h:j<s.size) (hb:okB (bN s j)=false):GF s=false:=by
 unfold GF;have:(List.range s.size).all (fun j=>okB (bN s j))=false:=by
  rw [VQ];exact ⟨j,Yb.2 h,by rw [hb];simp⟩
 rw [this,VE]
theorem tq (h1:1≤s.size) (h2:s.size≤16) (h:∀j,j<s.size→okB (bN s j)=true):GF s=true:=by
 unfold GF;rw [Zm h1,Zm h2]
 simp only [Xz,Yw,Yb]
 exact h
def SU:List UInt8→List UInt8→List (List UInt8)
 | cur,[]=>[cur]
 | cur,x :: l=>if x=47 then cur :: SU [] l else SU (cur++[x]) l
theorem Qe (cur l:List UInt8):SU cur (47 :: l)=cur :: SU [] l:=by simp [SU]
theorem QB {x:UInt8} (h:¬x=47) (cur l:List UInt8):SU cur (x :: l)=SU (cur++[x]) l:=by simp [SU,h]
def nm (s:ByteArray):List (List UInt8):=SU [] (s.data.toList.drop 1)
def yN (s:ByteArray) (a b:Nat):List UInt8:=(s.data.toList.drop a).take (b - a)
def sV (l:List UInt8):Value:=.string ⟨l.toArray⟩
theorem RN (s:ByteArray) (a b:Nat):s.extract a b=⟨(yN s a b).toArray⟩:=by
 apply WM;rw [Ve];apply UW;unfold yN;rw [UV,VL]
def Cj (l:List UInt8):Bool:=GF ⟨l.toArray⟩
def Xi (s:ByteArray):Bool:=decide (s.data.toList=[47]) || (decide (2≤s.size) && decide (bN s 0=47) && decide ((nm s).length≤6) && (nm s).all Cj)
theorem GE:∀(l cur:List UInt8),0<(SU cur l).length
 | [],cur=>by simp [SU]
 | x :: l,cur=>by
  by_cases h:x=47
  · subst h;rw [Qe];simp
  rw [QB h];exact GE l _
theorem Lz:∀(l cur:List UInt8),(SU cur l).length≤l.length+1
 | [],cur=>by simp [SU]
 | x :: l,cur=>by
  by_cases h:x=47
  · subst h;rw [Qe];have:=Lz l [];simp only [ZE];omega
  rw [QB h];have:=Lz l (cur++[x]);simp only [ZE];omega
theorem px (s:ByteArray):(nm s).length≤s.size+1:=by
 have:=Lz (s.data.toList.drop 1) [];have h2:(s.data.toList.drop 1).length≤s.size:=by rw [ZS];show s.size - 1≤_;omega
 unfold nm;omega
theorem GD (h:s.data.toList=[47]):Xi s=true:=by unfold Xi;rw [Zm h];rfl
theorem Ly (h:¬s.data.toList=[47]):Xi s=(decide (2≤s.size) && decide (bN s 0=47) && decide ((nm s).length≤6) && (nm s).all Cj):=by unfold Xi;rw [Zo h];rfl
def pN (rs:List (List UInt8)) (i:Nat):ByteArray:=⟨(rs.getD i []).toArray⟩
theorem pv {rs:List (List UInt8)} (h:i<rs.length) (hn:GF (pN rs i)=false):rs.all Cj=false:=by
 rw [VQ];refine ⟨rs[i],YP h,?_⟩;unfold Cj;have:pN rs i=⟨rs[i].toArray⟩:=by unfold pN;simp [List.getD,h]
 rw [←this,hn];simp
theorem GC (w:World) (s:ByteArray) (c:Int) :
    Calls Tryz.prog 184 #[.string s,.int .u8 c] w fun e w'=>e=.returned (.int .i64 (Lib.indexByte s.data.toList c.toNat.toUInt8))∧w'=w:=by
 go_enter Tryz.func184,Tryz.ntmps184
 go_wp2;rw [Un Tryz.func211 (by kernel_rfl) (by kernel_rfl) (by kernel_rfl) (e:=Extern.BytealgIndexByte.indexByte) (by kernel_rfl),Lib.run_indexByteString]
 simp only [Result.andThen]
 rw [Oper.upon_value];go_wp2;go_ret;exact ⟨rfl,rfl⟩
theorem GB (w:World) (s:ByteArray) :
    Calls Tryz.prog 147 #[.string s,.string ⟨#[47]⟩] w fun e w'=>e=.returned (.int .i64 (Lib.indexByte s.data.toList 47))∧w'=w:=by
 by_cases he:s.data.toList=[47]
 · have hb:([47] == s.toList)=true:=by rw [YG,he];rfl
   have HX:Hid (Lib.indexByte s.data.toList 47=0):=by show _=_;rw [he];rfl
   clear he
   go_enter Tryz.func147,Tryz.ntmps147
   go_wp2;go_ret;exact ⟨by rw [HX.out];rfl,rfl⟩
 have hb:([47] == s.toList)=false:=by rw [YG,YH];exact fun h=>he h.symm
 clear he
 go_enter Tryz.func147,Tryz.ntmps147
 go_wp2_with fail
 refine (GC w s 47).mono ?_;rintro e w2 ⟨rfl,rfl⟩;go_wp2;go_ret;exact ⟨rfl,rfl⟩
theorem tp (w:World) (s:ByteArray) :
    Calls Tryz.prog 99 #[.string s,.string ⟨#[47]⟩] w fun e w'=>e=.returned (.int .i64 (Lib.indexByte s.data.toList 47))∧w'=w:=by
 go_enter Tryz.func99,Tryz.ntmps99
 go_wp2_with fail
 refine (GB w s).mono ?_;rintro e w2 ⟨rfl,rfl⟩;go_wp2;go_ret;exact ⟨rfl,rfl⟩
theorem pre_eq (s:ByteArray) (h:1≤s.size):((s.extract 0 1).toList == [47])=decide (bN s 0=47):=by
 have h0:0<s.data.toList.length:=h;rw [YG,Ve,UV,VL];unfold bN
 cases e:s.data.toList with
 | nil=>rw [e] at h0;simp at h0
 | cons x l =>
  simp only [XR,XY,List.take_succ_cons,WI,XM]
  by_cases hx:x=47
  · subst hx;rfl
  have h1:¬x.toNat=47:=fun hh=>hx (UInt8.toNat_inj.1 hh)
  rw [Zo h1,YH]
  simpa using hx
theorem Gz (w:World) (s:ByteArray) (hs:1≤s.size) :
    Calls Tryz.prog 221 #[.string s,.string ⟨#[47]⟩] w fun e w'=>e=.returned (.bool (decide (bN s 0=47)))∧w'=w:=by
 have HE:=ZU (pre_eq s hs);have h1:(1:Int)≤(s.size:Int):=by omega
 go_enter Tryz.func221,Tryz.ntmps221
 go_wp2;go_ret;exact ⟨by rw [←HE.out];rfl,rfl⟩
theorem Ci (w:World) (s:ByteArray) (hs:1≤s.size) :
    Calls Tryz.prog 192 #[.string s,.string ⟨#[47]⟩] w fun e w'=>e=.returned (.bool (decide (bN s 0=47)))∧w'=w:=by
 go_enter Tryz.func192,Tryz.ntmps192
 go_wp2_with fail
 refine (Gz w s hs).mono ?_;rintro e w2 ⟨rfl,rfl⟩;go_wp2;go_ret;exact ⟨rfl,rfl⟩
theorem pre_none (w:World) (s:ByteArray) (hs:s.size=0) :
    Calls Tryz.prog 192 #[.string s,.string ⟨#[47]⟩] w fun e w'=>e=.returned (.bool false)∧w'=w:=by
 have h1:¬(1:Int)≤(s.size:Int):=by omega
 clear hs
 go_enter Tryz.func192,Tryz.ntmps192
 go_wp2_with fail
 refine (show Calls Tryz.prog 221 #[.string s,.string ⟨#[47]⟩] w (fun e w'=>e=.returned (.bool false)∧w'=w) from ?_).mono ?_
 · go_enter Tryz.func221,Tryz.ntmps221
   go_wp2;go_ret;exact ⟨rfl,rfl⟩
 rintro e w2 ⟨rfl,rfl⟩;go_wp2;go_ret;exact ⟨rfl,rfl⟩
theorem J6 (w:World) (p:ByteArray) :
    Calls Tryz.prog 194 #[.string p] w fun e w'=>e=.returned (.bool (GF p))∧∃q,w'=w.drewN q:=by
 by_cases hp1:p.size<1
 · have YX:(p.size:Int)<1:=by omega
   have HF:Hid (GF p=false):=by show _=_;unfold GF;rw [Zo (by omega)];rfl
   go_enter Tryz.func194,Tryz.ntmps194
   go_wp2;go_ret;exact ⟨Ws HF.out.symm,0,rfl⟩
 have YX:¬(p.size:Int)<1:=by omega
 by_cases hp2:16<p.size
 · have Zt:(16:Int)<(p.size:Int):=by omega
   have HF:Hid (GF p=false):=by show _=_;unfold GF;rw [Zo (show ¬p.size≤16 by omega)];simp
   go_enter Tryz.func194,Tryz.ntmps194
   go_wp2;go_ret;exact ⟨Ws HF.out.symm,0,rfl⟩
 have Zt:¬(16:Int)<(p.size:Int):=by omega
 go_enter Tryz.func194,Tryz.ntmps194
 go_wp2
 go_loopw [16] (fun vj wr=>∃j:Nat,j≤p.size∧vj=.int .i64 j∧Hid (∀t,t<j→okB (bN p t)=true)∧∃q,wr=w.drewN q) (fun j _=>p.size - (intOf j).toNat)
 case atStart=>exact ⟨0,Zu _,rfl,(fun t ht=>by omega),0,rfl⟩
 case round =>
  obtain ⟨j,hj,rfl,HJ,q,rfl⟩:=hrel
  by_cases hjl:j<p.size
  · have iL:(j:Int)<(p.size:Int):=by omega
    have hbn:=yv p j hjl;have me:p[j].toNat<256:=p[j].toNat_lt;obtain ⟨x,hx⟩:∃x,x=p[j].toNat:=⟨_,rfl⟩;have HX:=ZU hx;have G:Hid (bN p j=x):=by show _=_;rw [hbn,hx]
    clear hx hbn
    by_cases c1:x<48
    · have k1:¬(97:Int)≤(p[j].toNat:Int):=by have:=HX.out;omega
      have k2:¬(48:Int)≤(p[j].toNat:Int):=by have:=HX.out;omega
      have HF:=ZU (DR hjl (by rw [G.out];unfold okB;rw [Zo (show ¬97≤x by omega),Zo (show ¬48≤x by omega)];rfl));go_wp2;go_ret;exact ⟨Ws HF.out.symm,_,rfl⟩
    by_cases c2:x≤57
    · have k1:¬(97:Int)≤(p[j].toNat:Int):=by have:=HX.out;omega
      have k2:(48:Int)≤(p[j].toNat:Int):=by have:=HX.out;omega
      have k3:(p[j].toNat:Int)≤57:=by have:=HX.out;omega
      have PX:Hid (okB (bN p j)=true):=by show _=_;rw [G.out];unfold okB;rw [Zm (show 48≤x by omega),Zm (show x≤57 by omega)];simp
      go_wp2;exact ⟨⟨j+1,by omega,by go_num,(fun t ht=>by by_cases e:t=j;(subst e;exact PX.out);exact HJ.out t (by omega)),q,rfl⟩,by simp [intOf];omega⟩
    by_cases c3:x<97
    · have k1:¬(97:Int)≤(p[j].toNat:Int):=by have:=HX.out;omega
      have k2:(48:Int)≤(p[j].toNat:Int):=by have:=HX.out;omega
      have k3:¬(p[j].toNat:Int)≤57:=by have:=HX.out;omega
      have HF:=ZU (DR hjl (by rw [G.out];unfold okB;rw [Zo (show ¬97≤x by omega),Zo (show ¬x≤57 by omega)];simp));go_wp2;go_ret;exact ⟨Ws HF.out.symm,_,rfl⟩
    by_cases c4:x≤122
    · have k1:(97:Int)≤(p[j].toNat:Int):=by have:=HX.out;omega
      have k2:(p[j].toNat:Int)≤122:=by have:=HX.out;omega
      have k3:(48:Int)≤(p[j].toNat:Int):=by omega
      have k4:¬(p[j].toNat:Int)≤57:=by omega
      have PX:Hid (okB (bN p j)=true):=by show _=_;rw [G.out];unfold okB;rw [Zm (show 97≤x by omega),Zm (show x≤122 by omega)];simp
      go_wp2;exact ⟨⟨j+1,by omega,by go_num,(fun t ht=>by by_cases e:t=j;(subst e;exact PX.out);exact HJ.out t (by omega)),q,rfl⟩,by simp [intOf];omega⟩
    have k1:(97:Int)≤(p[j].toNat:Int):=by have:=HX.out;omega
    have k2:¬(p[j].toNat:Int)≤122:=by have:=HX.out;omega
    have k3:(48:Int)≤(p[j].toNat:Int):=by omega
    have k4:¬(p[j].toNat:Int)≤57:=by omega
    have HF:=ZU (DR hjl (by rw [G.out];unfold okB;rw [Zo (show ¬x≤122 by omega),Zo (show ¬x≤57 by omega)];simp));go_wp2;go_ret;exact ⟨Ws HF.out.symm,_,rfl⟩
  have iL:¬(j:Int)<(p.size:Int):=by omega
  have PX:=ZU (tq (by omega) (by omega) (fun t ht=>HJ.out t (by omega)));go_wp2;go_ret;exact ⟨Ws PX.out.symm,_,rfl⟩
def Book (r:Loop) (M:Nat) (W:World):Prop:=W.heap[M+1]?=some (.loop r)∧W.heap[M]?=some (.deferred (some []))
theorem Book.keep {r:Loop} {M:Nat} (h:Book r M X) (hk:KeepsFrom M X Y):Book r M Y:=⟨hk.same _ _ (by omega) h.1 rfl,hk.same _ _ YR h.2 rfl⟩
theorem PJ {F:Fence} {β:Type} {g:Operand} {ps:Array Tmp} {assign body:Code} {Q:Exit→Act→World→Prop} 
    (hro:F.round=none) (h1:1≤n) (hg:a.eval g=.func (.func gf) #[] lb) (hFg:F.fn gf) (eg:∀args w,(callFunc gf args).run P w=.ok (.enter gf args) w)
    (St:β→World→Prop) (Pre:β→Array Value→World→Prop) (step:β→Array Value→β) (Kp:World→World→Prop) (Fin:β→Prop) (s0:β)
    (hSt:OwnFrom w.heap.size St) (hKt:∀ {A B C:World},Kp A B→Kp B C→Kp A C)
    (hKb:∀(W:World) (l:Nat) (o o':Obj),w.heap.size≤l→W.heap[l]?=some o→o.isCells=false→o.isWalk=false→Kp W (W.putObj l o'))
    (hps:∀s vs W,Pre s vs W→vs.size=ps.size) (h0:St s0 w)
    (Ax:β→Array Value→Act→World→Prop) (hAx:∀s vs a',OwnFrom w.heap.size (fun (_:Unit) W=>Ax s vs a' W))
    (hassign:∀(l:Nat) (s:β) (vs:Array Value) (W:World) (K:Act→World→Prop),St s W→Pre s vs W→(∀a' W',KeepsFrom w.heap.size W W'→Kp W W'→Ax s vs a' W'→K a' W') →
     assign.wpIn (F.inRound l) (n - 1 - 1) P (Exit.then K (fun _ _ _=>False)) { tmps:=(ps.zip vs).foldl (fun t (p,v)=>t.setIfInBounds p v) a.tmps,defers:=[] } W)
    (hbody:∀(l:Nat) (s:β) (vs:Array Value) (a':Act) (W:World),Ax s vs a' W→body.wpIn (F.inRound l) (n - 1 - 1) P (fun e _ W'=>e=.normal∧KeepsFrom w.heap.size W W'∧Kp W W'∧St (step s vs) W') a' W)
    (hcall:∀(Bk:World→Prop) (W1:World),(∀X Y,KeepsFrom w.heap.size X Y→Bk X→Bk Y) →
     (∀s vs W,St s W→Bk W→Pre s vs W→YieldAt F (n - 1 - 1) P (w.heap.size+1) vs W fun e W'=>e=.returned (.bool true)∧St (step s vs) W'∧Bk W'∧Kp W W') →
     Zi w W1→w.heap.size+2≤W1.heap.size→St s0 W1→Bk W1 →
     CallsIn F (n - 1) P gf (#[.func (.yield (w.heap.size+1)) #[] #[]]++lb) W1 fun e W'=>(∃v,e=.returned v)∧∃s,Fin s∧St s W'∧Bk W')
    (hdone:∀(D:Nat) (s:β) (W:World),w.heap.size≤D→Fin s→St s W→W.heap[D]?=some (.deferred (some []))→Q .normal { a with defers:={ target:=.collected D,args:=#[] } :: a.defers } W) :
    (Code.rangeFunc g ps assign body).wpIn F n P Q a w:=by
 refine wpIn_rangeFunc ?_;intro fn hfn;rw [hro];obtain ⟨r0,hr0⟩:∃r:Loop,r={ state:=.ready,pending:=none,fn,tmps:=a.tmps,params:=ps,assign,body,defers:=w.heap.size }:=⟨_,rfl⟩;have hst:r0.state=.ready:=by rw [hr0]
 have hpe:r0.pending=none:=by rw [hr0]
 have hgrow:Zi w ((w.alloc (.deferred (some []))).alloc (.loop r0)):=((Below.refl _ w).alloc YR _).alloc (by simp) _;have I:Book r0 w.heap.size ((w.alloc (.deferred (some []))).alloc (.loop r0)):=by
  constructor
  · have:=Zs (w.alloc (.deferred (some []))) (.loop r0)
    rwa [YF] at this
  exact (Below.heap_alloc _ _ _ (by simp)).trans (Zs w _)
 have Z':St s0 ((w.alloc (.deferred (some []))).alloc (.loop r0)):=hSt.alloc _ (hSt.alloc _ h0);have hsz:w.heap.size+2≤((w.alloc (.deferred (some []))).alloc (.loop r0)).heap.size:=by simp
 have henter:(Instr.enterLoop fn a.tmps ps assign body none).run P w=.ok (w.heap.size+1,[{ target:=.collected w.heap.size,args:=#[] }]) ((w.alloc (.deferred (some []))).alloc (.loop r0)):=by
  rw [hr0];exact run_enterLoop_outer _ _ _ _ _
 generalize (w.alloc _).alloc _=W1 at *;refine ⟨_,_,W1,{ target:=.fn (.func gf) lb,args:=#[.func (.yield (w.heap.size+1)) #[] #[]] },W1,gf,#[.func (.yield (w.heap.size+1)) #[] #[]]++lb,W1,henter,?_,?_,?_,fun _=>h1,?_⟩
 · simp only [resolve,hg]
   simp [go_sem]
 · intro f' hf'
   simp [Target.leads] at hf'
   subst hf';exact hFg
 · simp [invoke,go_sem,eg]
 refine (hcall (Book r0 w.heap.size) W1 (fun X Y hk hb=>hb.keep hk) ?_ hgrow hsz Z' I).mono ?_
 · intro s vs W hs hb hp
   have hy:=run_yield (P:=P) (args:=vs) hb.1 (by rw [hr0];exact hps s vs W hp);rw [hr0] at hy;refine ⟨fn,_,assign,body,hy,roundIn_of_wpIn hfn (hassign _ s vs W _ hs hp ?_)⟩;clear hy;intro a' Wa hka hkp hax;have AQ:=hb.keep hka;have hlt:=(Z3.1 AQ.1).1;refine ⟨_,run_beginRound AQ.1 hst,?_⟩;have hl2:(Wa.putObj (w.heap.size+1) (.loop { r0 with state:=.busy })).heap[w.heap.size+1]?=some (.loop { r0 with state:=.busy }):=World.putObj_heap_same hlt;have hk2:(Wa.putObj (w.heap.size+1) (.loop { r0 with state:=.busy })).heap[w.heap.size]?=some (.deferred (some [])):=(World.putObj_heap_other (by omega)).trans AQ.2;have hkb:Kp Wa (Wa.putObj (w.heap.size+1) (.loop { r0 with state:=.busy })):=hKb _ _ _ _ (by omega) AQ.1 rfl rfl;refine wpIn_mono (hbody _ s vs a' _ ((hAx s vs a').putObj (s:=()) _ hax (by omega) AQ.1 rfl)) ?_;rintro e a3 W3 ⟨rfl,hk3,hp3,hs3⟩;have hl3:=hk3.same _ _ (by omega) hl2 rfl;have hd3:=hk3.same _ _ YR hk2 rfl;have hend:=run_endRound (P:=P) none hl3;have hr1:({ { r0 with state:=.busy } with state:=if (none:Option Code).isNone then .ready else .done,pending:=none }:Loop)=r0:=by rw [hr0];rfl
   rw [hr1] at hend;refine ⟨_,_,hend,rfl,hSt.putObj _ hs3 (by omega) hl3 rfl,⟨World.putObj_heap_same (Z3.1 hl3).1,(World.putObj_heap_other (by omega)).trans hd3⟩,hKt hkp (hKt (hKt hkb hp3) (hKb _ _ _ _ (by omega) hl3 rfl rfl))⟩
 rintro e W2 ⟨⟨v,rfl⟩,s,hF,hs,hb⟩;have hend:=run_endLoop (P:=P) hb.1 (by rw [hst];simp);rw [hpe] at hend;exact ⟨none,_,hend,hdone _ s _ YR hF (hSt.putObj _ hs (by omega) hb.1 rfl) ((World.putObj_heap_other (by omega)).trans hb.2)⟩
theorem IL {F:Fence} {β:Type} {g:Operand} {ps:Array Tmp} {assign body:Code} {Q:Exit→Act→World→Prop} 
    (hro:F.round=none) (h1:1≤n) (hg:a.eval g=.func (.func gf) #[] lb) (hFg:F.fn gf) (eg:∀args w,(callFunc gf args).run P w=.ok (.enter gf args) w)
    (St:β→World→Prop) (Pre:β→Array Value→World→Prop) (step:β→Array Value→β) (Kp:World→World→Prop) (Fin:β→Prop) (V:World→Prop) (Z5:OwnFrom w.heap.size (fun (_:Unit) W=>V W)) (s0:β)
    (hSt:OwnFrom w.heap.size St) (hKt:∀ {A B C:World},Kp A B→Kp B C→Kp A C)
    (hKb:∀(W:World) (l:Nat) (o o':Obj),w.heap.size≤l→W.heap[l]?=some o→o.isCells=false→o.isWalk=false→Kp W (W.putObj l o'))
    (hps:∀s vs W,Pre s vs W→vs.size=ps.size) (h0:St s0 w)
    (Ax:β→Array Value→Act→World→Prop) (hAx:∀s vs a',OwnFrom w.heap.size (fun (_:Unit) W=>Ax s vs a' W))
    (hassign:∀(l:Nat) (s:β) (vs:Array Value) (W:World) (K:Act→World→Prop),St s W→Pre s vs W→(∀a' W',KeepsFrom w.heap.size W W'→Kp W W'→Ax s vs a' W'→K a' W') →
     assign.wpIn (F.inRound l) (n - 1 - 1) P (Exit.then K (fun _ _ _=>False)) { tmps:=(ps.zip vs).foldl (fun t (p,v)=>t.setIfInBounds p v) a.tmps,defers:=[] } W)
    (hbody:∀(l:Nat) (s:β) (vs:Array Value) (a':Act) (W:World),Ax s vs a' W→body.wpIn (F.inRound l) (n - 1 - 1) P (fun e _ W'=>(e=.normal∧KeepsFrom w.heap.size W W'∧Kp W W'∧St (step s vs) W')∨(e=.ret∧KeepsFrom w.heap.size W W'∧V W')) a' W)
    (hcall:∀(Bk U:World→Prop) (W1:World),(∀X Y,KeepsFrom w.heap.size X Y→Bk X→Bk Y)→(∀X Y,KeepsFrom w.heap.size X Y→U X→U Y) →
     (∀s vs W,St s W→Bk W→Pre s vs W→YieldAt F (n - 1 - 1) P (w.heap.size+1) vs W fun e W'=>(e=.returned (.bool true)∧St (step s vs) W'∧Bk W'∧Kp W W')∨(e=.returned (.bool false)∧V W'∧U W')) →
     Zi w W1→w.heap.size+2≤W1.heap.size→St s0 W1→Bk W1 →
     CallsIn F (n - 1) P gf (#[.func (.yield (w.heap.size+1)) #[] #[]]++lb) W1 fun e W'=>(∃v,e=.returned v)∧((∃s,Fin s∧St s W'∧Bk W')∨(V W'∧U W')))
    (hdone:∀(D:Nat) (s:β) (W:World),w.heap.size≤D→Fin s→St s W→W.heap[D]?=some (.deferred (some []))→Q .normal { a with defers:={ target:=.collected D,args:=#[] } :: a.defers } W)
    (hstop:∀(D:Nat) (W:World),w.heap.size≤D→V W→W.heap[D]?=some (.deferred (some []))→Code.ret.wpIn F n P Q { a with defers:={ target:=.collected D,args:=#[] } :: a.defers } W) :
    (Code.rangeFunc g ps assign body).wpIn F n P Q a w:=by
 refine wpIn_rangeFunc ?_;intro fn hfn;rw [hro];obtain ⟨r0,hr0⟩:∃r:Loop,r={ state:=.ready,pending:=none,fn,tmps:=a.tmps,params:=ps,assign,body,defers:=w.heap.size }:=⟨_,rfl⟩;have hst:r0.state=.ready:=by rw [hr0]
 have hpe:r0.pending=none:=by rw [hr0]
 have hgrow:Zi w ((w.alloc (.deferred (some []))).alloc (.loop r0)):=((Below.refl _ w).alloc YR _).alloc (by simp) _;have I:Book r0 w.heap.size ((w.alloc (.deferred (some []))).alloc (.loop r0)):=by
  constructor
  · have:=Zs (w.alloc (.deferred (some []))) (.loop r0)
    rwa [YF] at this
  exact (Below.heap_alloc _ _ _ (by simp)).trans (Zs w _)
 have Z':St s0 ((w.alloc (.deferred (some []))).alloc (.loop r0)):=hSt.alloc _ (hSt.alloc _ h0);have hsz:w.heap.size+2≤((w.alloc (.deferred (some []))).alloc (.loop r0)).heap.size:=by simp
 have henter:(Instr.enterLoop fn a.tmps ps assign body none).run P w=.ok (w.heap.size+1,[{ target:=.collected w.heap.size,args:=#[] }]) ((w.alloc (.deferred (some []))).alloc (.loop r0)):=by
  rw [hr0];exact run_enterLoop_outer _ _ _ _ _
 generalize (w.alloc _).alloc _=W1 at *;refine ⟨_,_,W1,{ target:=.fn (.func gf) lb,args:=#[.func (.yield (w.heap.size+1)) #[] #[]] },W1,gf,#[.func (.yield (w.heap.size+1)) #[] #[]]++lb,W1,henter,?_,?_,?_,fun _=>h1,?_⟩
 · simp only [resolve,hg]
   simp [go_sem]
 · intro f' hf'
   simp [Target.leads] at hf'
   subst hf';exact hFg
 · simp [invoke,go_sem,eg]
 refine (hcall (Book r0 w.heap.size) (Book { r0 with state:=.done,pending:=some .ret } w.heap.size) W1 (fun X Y hk hb=>hb.keep hk) (fun X Y hk hb=>hb.keep hk) ?_ hgrow hsz Z' I).mono ?_
 · intro s vs W hs hb hp
   have hy:=run_yield (P:=P) (args:=vs) hb.1 (by rw [hr0];exact hps s vs W hp);rw [hr0] at hy;refine ⟨fn,_,assign,body,hy,roundIn_of_wpIn hfn (hassign _ s vs W _ hs hp ?_)⟩;clear hy;intro a' Wa hka hkp hax;have AQ:=hb.keep hka;have hlt:=(Z3.1 AQ.1).1;refine ⟨_,run_beginRound AQ.1 hst,?_⟩;have hl2:(Wa.putObj (w.heap.size+1) (.loop { r0 with state:=.busy })).heap[w.heap.size+1]?=some (.loop { r0 with state:=.busy }):=World.putObj_heap_same hlt;have hk2:(Wa.putObj (w.heap.size+1) (.loop { r0 with state:=.busy })).heap[w.heap.size]?=some (.deferred (some [])):=(World.putObj_heap_other (by omega)).trans AQ.2;have hkb:Kp Wa (Wa.putObj (w.heap.size+1) (.loop { r0 with state:=.busy })):=hKb _ _ _ _ (by omega) AQ.1 rfl rfl;refine wpIn_mono (hbody _ s vs a' _ ((hAx s vs a').putObj (s:=()) _ hax (by omega) AQ.1 rfl)) ?_;rintro e a3 W3 (⟨rfl,hk3,hp3,hs3⟩ | ⟨rfl,hk3,hs3⟩)
   · have hl3:=hk3.same _ _ (by omega) hl2 rfl
     have hd3:=hk3.same _ _ YR hk2 rfl;have hend:=run_endRound (P:=P) none hl3;have hr1:({ { r0 with state:=.busy } with state:=if (none:Option Code).isNone then .ready else .done,pending:=none }:Loop)=r0:=by rw [hr0];rfl
     rw [hr1] at hend;exact ⟨_,_,hend,.inl ⟨rfl,hSt.putObj _ hs3 (by omega) hl3 rfl,⟨World.putObj_heap_same (Z3.1 hl3).1,(World.putObj_heap_other (by omega)).trans hd3⟩,hKt hkp (hKt (hKt hkb hp3) (hKb _ _ _ _ (by omega) hl3 rfl rfl))⟩⟩
   have hl3:=hk3.same _ _ (by omega) hl2 rfl;have hd3:=hk3.same _ _ YR hk2 rfl;have hend:=run_endRound (P:=P) (some .ret) hl3;have hr1:({ { r0 with state:=.busy } with state:=if (some Code.ret:Option Code).isNone then .ready else .done,pending:=some .ret }:Loop)={ r0 with state:=.done,pending:=some .ret }:=by rw [hr0];rfl
   rw [hr1] at hend;exact ⟨_,_,hend,.inr ⟨rfl,Z5.putObj (s:=()) _ hs3 (by omega) hl3 rfl,⟨World.putObj_heap_same (Z3.1 hl3).1,(World.putObj_heap_other (by omega)).trans hd3⟩⟩⟩
 rintro e W2 ⟨⟨v,rfl⟩,(⟨s,hF,hs,hb⟩ | ⟨hs,hb⟩)⟩
 · have hend:=run_endLoop (P:=P) hb.1 (by rw [hst];simp)
   rw [hpe] at hend;exact ⟨none,_,hend,hdone _ s _ YR hF (hSt.putObj _ hs (by omega) hb.1 rfl) ((World.putObj_heap_other (by omega)).trans hb.2)⟩
 have hend:=run_endLoop (P:=P) hb.1 (by simp);exact ⟨some .ret,_,hend,hstop _ _ YR (Z5.putObj (s:=()) _ hs (by omega) hb.1 rfl) ((World.putObj_heap_other (by omega)).trans hb.2)⟩
attribute [local go_sem] Yv
theorem Jy:∀(l cur:List UInt8),Lib.indexByte l 47=-1→SU cur l=[cur++l]
 | [],cur,_=>by simp [SU]
 | x :: l,cur,h=>by
  unfold Lib.indexByte at h
  by_cases hx:x=47
  · rw [hx] at h;simp at h
  have hb:=YH.2 hx;rw [hb] at h
  simp only [Yu,WW] at h
  have hge:=Lib.indexByte_ge l 47;have h1:Lib.indexByte l 47=-1:=by
   by_cases e:Lib.indexByte l 47=-1
   · exact e
   rw [Z1 (by simpa using e)] at h;omega
  rw [QB hx,Jy l _ h1];simp
theorem Jw:∀(l cur:List UInt8) (k:Nat),Lib.indexByte l 47=(k:Int)→k<l.length∧SU cur l=(cur++l.take k) :: SU [] (l.drop (k+1))
 | [],cur,k,h=>by simp [Lib.indexByte] at h
 | x :: l,cur,k,h=>by
  unfold Lib.indexByte at h
  by_cases hx:x=47
  · rw [hx] at h
    have hk:k=0:=by simp at h;omega
    subst hk;rw [hx,Qe];simp
  have hb:=YH.2 hx;rw [hb] at h
  simp only [Yu,WW] at h
  by_cases e:Lib.indexByte l 47=-1
  · rw [Z0 (by simpa using e)] at h;omega
  rw [Z1 (by simpa using e)] at h;have hge:=Lib.indexByte_ge l 47;obtain ⟨j,rfl⟩:∃j,k=j+1:=⟨k - 1,by omega⟩;obtain ⟨h1,h2⟩:=Jw l (cur++[x]) j (by omega);refine ⟨by simp;omega,?_⟩;rw [QB hx,h2];simp
def qx (B:Nat) (W:World):Nat:=match W.cell? ⟨B,0,none⟩ with
 | some (.string x)=>x.size
 | _=>0
def lv (Bs:Nat) (St:Nat→World→Prop) (V Bk U:World→Prop) (k:Nat) (W:World) (e:Ending) (W':World):Prop :=
 (e=.returned (.bool true)∧St (k+1) W'∧Bk W'∧∀v,Boxed W Bs 9 v→Boxed W' Bs 9 v)∨(e=.returned (.bool false)∧V W'∧U W')
theorem DQ (nn:Nat) (hn1:1≤nn) (l Bs Be Bv:Nat) (R:List (List UInt8)) (s0:ByteArray)
    (St:Nat→World→Prop) (V Bk U:World→Prop)
    (jh:∀k X Y,Zi X Y→St k X→St k Y) (jg:∀X Y,Zi X Y→Bk X→Bk Y)
    (hSW:∀k X v,St k X→St k (X.setCell ⟨Bs,0,none⟩ v)) (hBW:∀X v,Bk X→Bk (X.setCell ⟨Bs,0,none⟩ v))
    (hSR:∀k W,St k W→W.cell? ⟨Be,0,none⟩=some (.string ⟨#[47]⟩)∧W.cell? ⟨Bv,0,none⟩=some (.int .i64 0))
    (hY:∀k vs W,St k W→Bk W→(k<R.length∧vs=#[sV (R.getD k [])])→YieldAt Fence.wide (nn - 1) Tryz.prog l vs W (lv Bs St V Bk U k W))
    (W:World) (h0:St 0 W) (h1:Bk W) (hs:Boxed W Bs 9 (.string s0)) (hz:s0.size≤1048576) (hR:R=SU [] s0.data.toList) :
    CallsIn Fence.wide nn Tryz.prog 245 #[.func (.yield l) #[] #[],.pointer (some ⟨Be,0,none⟩),.pointer (some ⟨Bs,0,none⟩),.pointer (some ⟨Bv,0,none⟩)] W fun e W'=>(∃v,e=.returned v)∧((∃s,s=R.length∧St s W'∧Bk W')∨(V W'∧U W')):=by
 have HY:=ZU hY;have ma:=ZU jh;have fH:=ZU jg;have iK:=ZU hSW;have lu:=ZU hBW;have jf:=ZU hSR;have H0:=ZU h0;have H1:=ZU h1;have pu:=ZU hs;have HR:Hid (R.drop 0=SU [] s0.data.toList):=hR;obtain ⟨cE,cV⟩:=hSR 0 W h0;have cS:=hs.cell;refine Xb Tryz.func245 rfl trivial ?_ rfl
 simp only [Tryz.ntmps245,ZI,ZE,Y7,Nat.reduceAdd,Nat.reduceSub,YV,YU,YI,YT,Zd,Y3]
 gi_wp2
 gi_loopw [] (fun wr=>∃(k:Nat) (r:ByteArray),Hid (St k wr)∧Hid (Bk wr)∧r.size≤1048576∧Hid (Boxed wr Bs 9 (.string r))∧Hid (R.drop k=SU [] r.data.toList)) (fun wr=>qx Bs wr)
 case atStart=>exact ⟨0,s0,H0,H1,hz,pu,HR⟩
 case round =>
  obtain ⟨k,r,HS,HB,hrz,HX,HD⟩:=hrel;obtain ⟨cE,cV⟩:=jf.out k wr HS.out;have cS:=HX.out.cell
  gi_wp2_with fail
  refine ⟨trivial,?_⟩;refine (YK.2 (tp _ r)).mono ?_;rintro e w2 ⟨rfl,rfl⟩
  by_cases hneg:Lib.indexByte r.data.toList 47=-1
  · have hd:=HD.out
    rw [Jy _ _ hneg,Zd] at hd;have hlt:k<R.length:=by
     by_cases h:k<R.length
     · exact h
     rw [Xx (by omega)] at hd;cases hd
    have hend:Hid (k+1=R.length):=by
     have:=ZM List.length hd;rw [ZS] at this
     simp at this
     show _=_;omega
    have hget:R.getD k []=r.data.toList:=by
     have:=ZM (fun x=>x.getD 0 []) hd
     simpa [List.getD,Yt] using this
    have qw:=HY.out k #[.string r] w2 HS.out HB.out ⟨hlt,by rw [hget];rfl⟩;rw [hneg];obtain ⟨fn,tmps,assign,body,hy,hR⟩:=qw;gi_wp2;refine hR.mono ?_;rintro e W3 (⟨rfl,AP,hB3,-⟩ | ⟨rfl,AP,hB3⟩)
    · have AO:Hid (St (k+1) W3):=AP
      have HB3:=ZU hB3;gi_wp2;refine bodyPost_end (Wu rfl _ _ _) rfl ?_;exact ⟨⟨_,rfl⟩,.inl ⟨k+1,hend.out,AO.out,HB3.out⟩⟩
    have AO:Hid (V W3):=AP;have HB3:=ZU hB3;gi_wp2;refine bodyPost_end (Wu rfl _ _ _) rfl ?_;exact ⟨⟨_,rfl⟩,.inr ⟨AO.out,HB3.out⟩⟩
  have hge:=Lib.indexByte_ge r.data.toList 47;obtain ⟨j,hj⟩:∃j:Nat,Lib.indexByte r.data.toList 47=(j:Int):=⟨(Lib.indexByte r.data.toList 47).toNat,by omega⟩;have hd:=HD.out;obtain ⟨hjl,hsp⟩:=Jw _ [] j hj;have hjr:j<r.size:=hjl;rw [hsp,Zd] at hd;have hlt:k<R.length:=by
   by_cases h:k<R.length
   · exact h
   rw [Xx (by omega)] at hd;cases hd
  have hget:R.getD k []=r.data.toList.take j:=by
   have:=ZM (fun x=>x.getD 0 []) hd
   simpa [List.getD,Yt] using this
  have hD2:Hid (R.drop (k+1)=SU [] (r.extract (j+1) r.size).data.toList):=by
   have h1:=ZM (List.drop 1) hd;rw [Yc,Ur,XR] at h1;show _=_;rw [RN,h1];unfold yN
   congr 1
   rw [Y8 (by rw [ZS];show r.size - _≤_;omega)]
  have qw:=HY.out k #[.string (r.extract 0 j)] w2 HS.out HB.out ⟨hlt,by rw [hget,RN];unfold yN;simp [sV]⟩;rw [hj];have hsz:(r.extract (j+1) r.size).size=r.size - (j+1):=by simp
  have LY:=ZU hsz;have iL:¬(j:Int)<0:=by omega
  have Yx:(j:Int)≤(r.size:Int):=by omega
  have Yh:(j:Int)+1≤(r.size:Int):=by omega
  obtain ⟨fn,tmps,assign,body,hy,hR⟩:=qw;gi_wp2;refine hR.mono ?_;rintro e W3 (⟨rfl,AP,hB3,hK3⟩ | ⟨rfl,AP,hB3⟩)
  · have AO:Hid (St (k+1) W3):=AP
    have HB3:=ZU hB3;have Ch:=ZU (hK3 _ HX.out);obtain ⟨cE,cV⟩:=jf.out (k+1) W3 AO.out;have cS:=Ch.out.cell;have fS:=Ch.out.frozen;gi_wp2
    go_roundw
    case rel=>exact ⟨k+1,_,iK.out _ _ _ AO.out,lu.out _ _ HB3.out,by rw [LY.out];omega,Ch.out.set _,hD2⟩
    case measure =>
     have e1:=(Ch.out.set (.string (r.extract (j+1) r.size))).cell;have e2:=HX.out.cell;unfold qx;rw [e1,e2];show (r.extract (j+1) r.size).size<r.size;rw [LY.out];omega
  have AO:Hid (V W3):=AP;have HB3:=ZU hB3;gi_wp2;refine ZW (Wu rfl _ _ _) rfl ?_;exact ⟨⟨_,rfl⟩,.inr ⟨AO.out,HB3.out⟩⟩
attribute [local go_sem] Yv
def Cg (s:ByteArray) (w:World) (e:Ending) (w':World):Prop :=
 e=.returned (.func (.func 245) #[] #[.pointer (some ⟨w.heap.size+1,0,none⟩),.pointer (some ⟨w.heap.size,0,none⟩),.pointer (some ⟨w.heap.size+2,0,none⟩)]) ∧
 w'=((w.alloc (.cells #[.string s] 9)).alloc (.cells #[.string ⟨#[47]⟩] 9)).alloc (.cells #[.int .i64 0] 3)
theorem Gy (F:Fence) (n:Nat) (h87:F.fn 222) (hro:F.round=none) (s:ByteArray) (w:World) :
    CallsIn F n Tryz.prog 222 #[.string s,.string ⟨#[47]⟩,.int .i64 0] w (Cg s w):=by
 refine Xb Tryz.func222 rfl h87 ?_ hro
 simp only [Tryz.ntmps222,ZI,ZE,Y7,Nat.reduceAdd,Nat.reduceSub,YV,YU,YI,YT,Zd,Y3]
 gi_wp2;go_ret;exact ⟨rfl,rfl⟩
theorem Gx (n:Nat) (hn:1≤n) (s:ByteArray) (w:World) :
    CallsIn Fence.wide n Tryz.prog 193 #[.string s,.string ⟨#[47]⟩] w (Cg s w):=by
 refine Xb Tryz.func193 rfl trivial ?_ rfl
 simp only [Tryz.ntmps193,ZI,ZE,Y7,Nat.reduceAdd,Nat.reduceSub,YV,YU,YI,YT,Zd,Y3]
 gi_wp2_with fail
 refine ⟨trivial,?_⟩;refine (Gy Fence.wide _ trivial rfl s w).mono ?_;rintro e w5 ⟨rfl,NS⟩;have HW:=ZU NS;clear NS;gi_wp2;go_ret;exact ⟨rfl,HW.out⟩
theorem Lx:∀(l cur:List UInt8),((SU cur l).map (fun p=>p.length+1)).sum=cur.length+l.length+1
 | [],cur=>by simp [SU]
 | x :: l,cur=>by
  by_cases h:x=47
  · subst h;rw [Qe];have:=Lx l [];simp only [Yl,Ti,this,ZE,Y7];omega
  rw [QB h,Lx l (cur++[x])];simp only [ZZ,ZE,Y7];omega
theorem yu:∀(rs:List (List UInt8)),rs.all Cj=true→(rs.map (fun p=>p.length+1)).sum≤17*rs.length
 | [],_=>by simp
 | p :: rs,h=>by
  rw [VR,ZA] at h;have h1:=yu rs h.2;have h2:p.length≤16:=by
   have:=h.1;unfold Cj GF at this
   simp only [ZA,Zj] at this
   exact this.1.2
  simp only [Yl,Ti,ZE];omega
theorem Gv (h:102<s.size):Xi s=false:=by
 have h1:¬s.data.toList=[47]:=fun e=>by
  have:s.data.toList.length=1:=by rw [e];rfl
  have h2:s.data.toList.length=s.size:=rfl;omega
 rw [Ly h1]
 cases hn:(decide ((nm s).length≤6)) with
 | false=>simp
 | true =>
  cases ha:(nm s).all Cj with
  | false=>simp
  | true =>
   exfalso
   have h3:=yu _ ha;have h4:=Lx (s.data.toList.drop 1) [];have h5:(s.data.toList.drop 1).length=s.size - 1:=by rw [ZS];rfl
   rw [h5] at h4;unfold nm at h3 hn;rw [h4] at h3
   simp at h3 hn
   omega
attribute [local go_sem] Yv
structure GQ (w:World) (R:List (List UInt8)) (k:Nat) (W:World):Prop where
 le:k≤R.length
 ok:(R.take k).all Cj=true
 res:Boxed W w.heap.size 4 (.bool false)
 dep:Boxed W (w.heap.size+1) 3 (.int .i64 (k:Int))
 txt:∃v,Boxed W (w.heap.size+2) 9 v
 sep:Boxed W (w.heap.size+3) 9 (.string ⟨#[47]⟩)
 Z8:Boxed W (w.heap.size+4) 3 (.int .i64 0)
 below:Zi w W
 size:w.heap.size+5≤W.heap.size
structure l8 (w:World) (R:List (List UInt8)) (W:World):Prop where
 no:R.all Cj=false
 res:Boxed W w.heap.size 4 (.bool false)
 below:Zi w W
 size:w.heap.size+5≤W.heap.size
theorem UX {t:TypeId} (hb:Zi X Y) (h:Boxed X B t v):Boxed Y B t v:=(hb.block _ h.lt).trans h
theorem GQ.later {k:Nat} (h:GQ w R k X) (hb:Zi X Y):GQ w R k Y :=
 ⟨h.le,h.ok,UX hb h.res,UX hb h.dep,h.txt.imp (fun _ hv=>UX hb hv),UX hb h.sep,UX hb h.Z8,h.below.trans (hb.mono (by have:=h.size;omega)),ZJ h.size hb.size⟩
theorem GQ.VA {k:Nat} {row:Option Nat} (h:GQ w R k X) (hg:X.grownBy Y row) (hr:∀r,row=some r→w.heap.size+5≤r∧∃o:Obj,X.heap[r]?=some o∧o.isCells=false):GQ w R k Y :=
 ⟨h.le,h.ok,h.res.kept hg (fun e=>by have:=(hr _ e.symm).1;omega),h.dep.kept hg (fun e=>by have:=(hr _ e.symm).1;omega),h.txt.imp (fun _ hv=>hv.kept hg (fun e=>by have:=(hr _ e.symm).1;omega)),h.sep.kept hg (fun e=>by have:=(hr _ e.symm).1;omega),h.Z8.kept hg (fun e=>by have:=(hr _ e.symm).1;omega),
  h.below.grown hg (by have:=h.size;omega) (fun q e=>by have:=(hr q e).1;omega),ZJ h.size hg.size⟩
theorem l8.VA {row:Option Nat} (h:l8 w R X) (hg:X.grownBy Y row) (hr:∀r,row=some r→w.heap.size+5≤r∧∃o:Obj,X.heap[r]?=some o∧o.isCells=false):l8 w R Y :=
 ⟨h.no,h.res.kept hg (fun e=>by have:=(hr _ e.symm).1;omega),h.below.grown hg (by have:=h.size;omega) (fun q e=>by have:=(hr q e).1;omega),ZJ h.size hg.size⟩
theorem GQ.put {k:Nat} (h:GQ w R k X) (v:Value):GQ w R k (X.setCell ⟨w.heap.size+2,0,none⟩ v):=by
 obtain ⟨u,hu⟩:=h.txt;exact ⟨h.le,h.ok,h.res.other (by omega) _,h.dep.other (by omega) _,⟨v,hu.set v⟩,h.sep.other (by omega) _,h.Z8.other (by omega) _,h.below.setCell (by simp) _,by simpa using h.size⟩
theorem GQ.step {k:Nat} (h:GQ w R k X) (hk:k<R.length) (ho:GF (pN R k)=true):GQ w R (k+1) (X.setCell ⟨w.heap.size+1,0,none⟩ (.int .i64 ((k+1:Nat):Int))):=by
 obtain ⟨u,hu⟩:=h.txt;refine ⟨hk,?_,h.res.other (by omega) _,h.dep.set _,⟨u,hu.other (by omega) _⟩,h.sep.other (by omega) _,h.Z8.other (by omega) _,h.below.setCell (by simp) _,by simpa using h.size⟩;rw [YW hk,List.all_append,h.ok];have e:pN R k=⟨R[k].toArray⟩:=by unfold pN;simp [List.getD,hk]
 rw [e] at ho
 simp [Cj,ho]
theorem GQ.left {k:Nat} (h:GQ w R k X) (hk:k<R.length) (ho:GF (pN R k)=false):l8 w R (X.setCell ⟨w.heap.size,0,none⟩ (.bool false)) :=
 ⟨pv hk ho,h.res.set _,h.below.setCell (by simp) _,by simpa using h.size⟩
theorem QX (h:Zi X Y):KeepsFrom B X Y:=⟨h.size,fun k _ _ hk _=>(h.block k (Z3.1 hk).1).trans hk⟩
def fh (w:World) (R:List (List UInt8)) (tm:Value→Array Value) (k:Nat) (a':Act) (W:World):Prop:=k<R.length∧GQ w R k W∧a'={ tmps:=tm (.string (pN R k)),defers:=[] }
theorem IK (w:World) (s:ByteArray) (hnr:(s.toList == [47])=false) (hs1:1≤s.size) (hs2:s.size≤102) (hb0:bN s 0=47) :
    Calls Tryz.prog 159 #[.string s] w fun e w'=>e=.returned (.bool (decide ((nm s).length≤6) && (nm s).all Cj))∧Zi w w':=by
 have h0:¬(102:Int)<(s.size:Int):=by omega
 have h1:(1:Int)≤(s.size:Int):=by omega
 have HB0:=ZU hb0;clear hb0;refine (YK (n:=6)).1 ?_;refine callsIn_of_wp_marks Tryz.func159 rfl trivial ?_ rfl
 simp only [Tryz.ntmps159,ZI,ZE,Y7,Nat.reduceAdd,Nat.reduceSub,YV,YU,YI,YT,Zd,Y3]
 gi_wp2_with fail
 refine ⟨trivial,?_⟩;refine (YK.2 (Ci _ s hs1)).mono ?_;rintro e w5 ⟨rfl,NS⟩;rw [Zm HB0.out];subst NS
 gi_wp2_with fail
 refine ⟨trivial,?_⟩;refine (Gx _ (by omega) (s.extract 1 s.size) _).mono ?_;rintro e w5 ⟨rfl,NS⟩
 gi_wp2_with fail
 have s5:w5.heap.size=w.heap.size+5:=by rw [NS];simp
 have HT0:Hid (Boxed w5 (w.heap.size+2) 9 (.string (s.extract 1 s.size))):=by
  rw [NS];have:=(((Boxed.new ((w.alloc (.cells #[.bool false] 4)).alloc (.cells #[.int .i64 0] 3)) 9 (.string (s.extract 1 s.size))).alloc (.cells #[.string ⟨#[47]⟩] 9)).alloc (.cells #[.int .i64 0] 3));rw [YF,YF] at this;exact this
 have HR:Hid (nm s=SU [] (s.extract 1 s.size).data.toList):=by
  show _=_;rw [RN];unfold nm yN
  congr 1
  rw [Y8 (by rw [ZS];exact YR)]
 have DP:Hid (GQ w (nm s) 0 w5):=by
  have hsz:∀(X:World) (o:Obj),(X.alloc o).heap.size=X.heap.size+1:=fun X o=>YF X o
  refine ⟨Zu _,by simp,?_,?_,⟨_,HT0.out⟩,?_,?_,?_,by omega⟩
  · rw [NS];exact ((((Boxed.new w 4 (.bool false)).alloc _).alloc _).alloc _).alloc _
  · rw [NS]
    have:=(((Boxed.new (w.alloc (.cells #[.bool false] 4)) 3 (.int .i64 0)).alloc (.cells #[.string (s.extract 1 s.size)] 9)).alloc (.cells #[.string ⟨#[47]⟩] 9)).alloc (.cells #[.int .i64 0] 3)
    simpa using this
  · rw [NS]
    have:=(Boxed.new (((w.alloc (.cells #[.bool false] 4)).alloc (.cells #[.int .i64 0] 3)).alloc (.cells #[.string (s.extract 1 s.size)] 9)) 9 (.string ⟨#[47]⟩)).alloc (.cells #[.int .i64 0] 3)
    simpa using this
  · rw [NS]
    have:=Boxed.new ((((w.alloc (.cells #[.bool false] 4)).alloc (.cells #[.int .i64 0] 3)).alloc (.cells #[.string (s.extract 1 s.size)] 9)).alloc (.cells #[.string ⟨#[47]⟩] 9)) 3 (.int .i64 0)
    simpa using this
  rw [NS];exact ((((Yy.alloc YR _).alloc (by simp) _).alloc (by simp;omega) _).alloc (by simp;omega) _).alloc (by simp;omega) _
 rw [←NS];clear NS;have lZ:Hid ((nm s).length≤103):=by have:=px s;show _≤_;omega
 have lY:Hid ((s.extract 1 s.size).size≤1048576):=by show _≤_;simp;omega
 generalize s.extract 1 s.size=sx at *;generalize lr:nm s=R at HR DP lZ;have Zr:=ZU lr;clear lr;refine IL (F:=Fence.wide) (n:=6) rfl (by omega) (gf:=245) (lb:=#[.pointer (some ⟨w.heap.size+1+1+1,0,none⟩),.pointer (some ⟨w.heap.size+1+1,0,none⟩),.pointer (some ⟨w.heap.size+1+1+2,0,none⟩)]) rfl trivial (enters_of Tryz.func245 (by kernel_rfl) rfl)
  (fun k W=>GQ w R k W) (fun k vs W=>k<R.length∧vs=#[sV (R.getD k [])]) (fun k _=>k+1) (fun X Y=>∀v,Boxed X (w.heap.size+2) 9 v→Boxed Y (w.heap.size+2) 9 v) (fun k=>k=R.length) (l8 w R)
  (fun _ X Y row hs hg hr=>hs.VA hg (fun r e=>by have:=hr r e;rw [s5] at this;exact this)) 0
  (fun k X Y row hs hg hr=>hs.VA hg (fun r e=>by have:=hr r e;rw [s5] at this;exact this)) (fun h1 h2 v hv=>h2 v (h1 v hv))
  (fun W l o o' hl ho _ _ v hv=>hv.kept (grownBy_putObj' W l o') (fun e=>by injection e with e;omega))
  (fun k vs W hp=>by rw [hp.2];rfl) DP.out
  (fun k vs a' W=>fh w R (fun p=>#[.string s,undef,.pointer (some ⟨w.heap.size,0,none⟩),.pointer (some ⟨w.heap.size+1,0,none⟩),p,.string s,.bool false,.string s,.int .i64 s.size,.bool false,.bool false,.string s,.bool true,.bool false,.bool false,.string s,.string sx,.func (.func 245) #[] #[.pointer (some ⟨w.heap.size+1+1+1,0,none⟩),.pointer (some ⟨w.heap.size+1+1,0,none⟩),.pointer (some ⟨w.heap.size+1+1+2,0,none⟩)],p,undef,undef,undef,undef,undef,undef,undef]) k a' W)
  ?ax ?assign ?body ?call ?done ?stop
 case ax =>
  rintro k vs a' _ X Y row ⟨h1,h2,h3⟩ hg hr;exact ⟨h1,h2.VA hg (fun r e=>by have:=hr r e;rw [s5] at this;exact this),h3⟩
 case assign =>
  rintro l k vs W K hs ⟨hlt,rfl⟩ hK;have HS:=ZU hs;have HK:Hid (∀a' W',_→_→_→K a' W'):=hK;have NR:=ZU hlt;clear hs hK hlt;gi_wp2;refine HK.out _ _ (QX Yy) (fun v h=>h) ⟨NR.out,HS.out,rfl⟩
 case body =>
  rintro l k vs a' W ⟨hlt,hS,rfl⟩;have HS:=ZU hS;have NR:=ZU hlt;have hk:k≤103:=by have:=lZ.out;omega
  clear hS hlt
  gi_wp2_with fail
  refine ⟨trivial,?_⟩;refine (YK.2 (J6 _ (pN R k))).mono ?_;rintro e w6 ⟨rfl,q,rfl⟩;have HS2:=ZU (HS.out.later (below_drewN' W q));have Y':Hid (KeepsFrom (w.heap.size+5) W (W.drewN q)):=QX (below_drewN' W q);have iJ:Hid (∀v,Boxed W (w.heap.size+2) 9 v→Boxed (W.drewN q) (w.heap.size+2) 9 v):=fun v hv=>UX (below_drewN' W q) hv
  have cR:=HS.out.res.cell;have fR:=HS.out.res.frozen;have cD:=HS.out.dep.cell;have fD:=HS.out.dep.frozen
  by_cases hok:GF (pN R k)=true
  · have HST:Hid _:=HS2.out.step NR.out hok
    rw [hok];clear hok;gi_wp2;refine ⟨Y'.out.trans ((KeepsOthers.setCell _ _ _).from _),fun v hv=>(iJ.out v hv).other (by omega) _,HST.out⟩
  have hok':GF (pN R k)=false:=by simpa using hok
  have HST:Hid _:=HS2.out.left NR.out hok';rw [hok'];clear hok hok';gi_wp2;refine ⟨Y'.out.trans ((KeepsOthers.setCell _ _ _).from _),HST.out⟩
 case call =>
  intro Bk U W1 tk X' hY hb5 hsz5 hs0 hb0;refine (DQ 5 (by omega) (w5.heap.size+1) (w.heap.size+2) (w.heap.size+3) (w.heap.size+4) R sx (fun k W=>GQ w R k W) (l8 w R) Bk U (fun k X Y hb h=>h.later hb) (fun X Y hb h=>tk X Y (QX hb) h) (fun k X v h=>h.put v) (fun X v h=>tk _ _ ((KeepsOthers.setCell _ _ _).from _) h) (fun k W h=>⟨h.sep.cell,h.Z8.cell⟩) (fun k vs W hs hb hp=>?_) W1 hs0 hb0 ?_ lY.out HR.out)
  · obtain ⟨fn,tm,YL,bd,hy,hR⟩:=hY k vs W hs hb hp
    exact ⟨fn,tm,YL,bd,hy,hR⟩
  exact (hb5.block _ (by omega)).trans HT0.out
 case done =>
  rintro D k W hD hfin hS hK;have H:=hfin;have hk:k≤103:=by have:=lZ.out;omega
  have je:Hid (R.all Cj=true):=by have:=hS.ok;rw [H,Xp] at this;exact this
  have yt:=ZU H;have hB:=hS.below;have zW:=hS.size;have cR:=hS.res.cell;have fR:=hS.res.frozen;have cD:=hS.dep.cell;have GP:=ZU hS.res;clear hS hfin H;gi_wp2;have BX:Zi w (W.setCell ⟨w.heap.size,0,none⟩ (.bool (decide ((k:Int)≤6)))):=hB.setCell (by simp) _;have hK2:(W.setCell ⟨w.heap.size,0,none⟩ (.bool (decide ((k:Int)≤6)))).heap[D]?=some (.deferred (some [])):=(KeepsOthers.setCell _ _ _).same D _ hK rfl;have RX:Boxed (W.setCell ⟨w.heap.size,0,none⟩ (.bool (decide ((k:Int)≤6)))) w.heap.size 4 (.bool (decide ((k:Int)≤6))):=GP.out.set _;have SX:(W.setCell ⟨w.heap.size,0,none⟩ (.bool (decide ((k:Int)≤6)))).heap.size=W.heap.size:=by simp
  refine ⟨by simp,.inl ⟨_,_,rfl,run_takeDeferred hK2,?_⟩⟩;generalize W.setCell _ _=X at *;have GX:=grownBy_putObj' X D (.deferred none);have y0:=(RX.kept GX (by simp;omega)).cell;have BF:=BX.grown GX (by omega) (fun q e=>by injection e with e;omega);generalize X.putObj D (.deferred none)=Z at *;refine ⟨.bool (decide ((k:Int)≤6)),?_,?_,BF⟩
  · simp [results,Tryz.results159,go_sem,y0]
  refine Ws ?_;rw [Zr.out,je.out,←yt.out,Bool.and_true];apply UQ.2;omega
 case stop =>
  rintro D W hD hS hK;have zW:=hS.size;have HX:=ZU hS;clear hS;gi_wp2;refine ⟨by simp,.inl ⟨_,_,rfl,run_takeDeferred hK,?_⟩⟩;have GX:=grownBy_putObj' W D (.deferred none);have y0:=(HX.out.res.kept GX (by simp;omega)).cell;have BF:=HX.out.below.grown GX (by omega) (fun q e=>by injection e with e;omega);have ST:=ZU HX.out.no;generalize W.putObj D (.deferred none)=Z at *;refine ⟨.bool false,?_,?_,BF⟩
  · simp [results,Tryz.results159,go_sem,y0]
  refine Ws ?_;rw [Zr.out,ST.out,VE]
theorem Qd (w:World) (s:ByteArray) :
    Calls Tryz.prog 159 #[.string s] w (Wj w (.bool (Xi s))):=by
 by_cases hr:s.data.toList=[47]
 · have hrt:(s.toList == [47])=true:=by rw [YG,hr];rfl
   have HP:=ZU (GD hr);clear hr
   go_enter Tryz.func159,Tryz.ntmps159
   go_wp2;refine ZW (v:=.bool true) ?_ rfl ?_
   · simp [results,Tryz.results159,go_sem]
   exact ⟨Ws HP.out.symm,Yy.alloc YR _⟩
 have hrt:(s.toList == [47])=false:=by rw [YG,YH];exact hr
 have HP:=ZU (Ly hr)
 by_cases hl:102<s.size
 · have fG:(102:Int)<(s.size:Int):=by omega
   have yM:=ZU (Gv hl);clear hr HP
   go_enter Tryz.func159,Tryz.ntmps159
   go_wp2;refine ZW (v:=.bool false) ?_ rfl ?_
   · simp [results,Tryz.results159,go_sem]
   exact ⟨Ws yM.out.symm,Yy.alloc YR _⟩
 have fG:¬(102:Int)<(s.size:Int):=by omega
 by_cases h0:s.size=0
 · have yM:Hid (Xi s=false):=by show _=_;rw [HP.out,Zo (by omega)];rfl
   have HZ:=ZU h0;clear hr HP h0
   go_enter Tryz.func159,Tryz.ntmps159
   go_wp2_with fail
   refine (pre_none _ s HZ.out).mono ?_;rintro e w5 ⟨rfl,rfl⟩;go_wp2;refine ZW (v:=.bool false) ?_ rfl ?_
   · simp [results,Tryz.results159,go_sem]
   exact ⟨Ws yM.out.symm,Yy.alloc YR _⟩
 by_cases hb:bN s 0=47
 · have h2:2≤s.size:=by
    by_cases h2:2≤s.size
    · exact h2
    exfalso
    apply hr;have h3:s.data.toList.length=1:=by show s.size=1;omega
    unfold bN at hb
    cases e:s.data.toList with
    | nil=>rw [e] at h3;cases h3
    | cons x l =>
     rw [e] at h3 hb
     cases l with
     | nil=>simp only [XM] at hb;rw [show x=47 from UInt8.toNat_inj.1 hb]
     | cons y l=>simp at h3
   have:=IK w s hrt (by omega) (by omega) hb;rw [HP.out,Zm h2,Zm hb];exact this
 have yM:Hid (Xi s=false):=by show _=_;rw [HP.out,Zo hb,VE];rfl
 have YB:=ZU (Zo hb);clear hr HP hb
 go_enter Tryz.func159,Tryz.ntmps159
 go_wp2_with fail
 refine (Ci _ s (by omega)).mono ?_;rintro e w5 ⟨rfl,rfl⟩;rw [YB.out];go_wp2;refine ZW (v:=.bool false) ?_ rfl ?_
 · simp [results,Tryz.results159,go_sem]
 exact ⟨Ws yM.out.symm,Yy.alloc YR _⟩
structure Nd where
 path:ByteArray
 data:ByteArray
 XT:Int
 XQ:Int
 cz:Int
 mz:Int
 pz:Int
def Uu (n:Nd):List Value:=[.string n.path,.string n.data,.int .i64 n.XT,.int .i64 n.XQ,.int .i64 n.cz,.int .i64 n.mz,.int .i64 n.pz]
def nd0:Nd:=⟨ByteArray.empty,ByteArray.empty,0,0,0,0,0⟩
def Ye (ns:List Nd) (i:Nat):Nd:=ns.getD i nd0
theorem WF {ns:List Nd} (h:i<ns.length):Ye ns i=ns[i]:=by unfold Ye;simp [List.getD,h]
structure Um (w:World) (b p:Nat) (n:Nd):Prop where
 c0:w.cell? ⟨b,p,none⟩=some (.string n.path)
 c1:w.cell? ⟨b,p+1,none⟩=some (.string n.data)
 c2:w.cell? ⟨b,p+2,none⟩=some (.int .i64 n.XT)
 c3:w.cell? ⟨b,p+3,none⟩=some (.int .i64 n.XQ)
 c4:w.cell? ⟨b,p+4,none⟩=some (.int .i64 n.cz)
 c5:w.cell? ⟨b,p+5,none⟩=some (.int .i64 n.mz)
 c6:w.cell? ⟨b,p+6,none⟩=some (.int .i64 n.pz)
theorem Um.below {n:Nd} (h:Um w b p n) (hb:Below m w w') (hl:b<m):Um w' b p n :=
 ⟨(hb.cell (p:=⟨b,_,none⟩) hl).trans h.c0,(hb.cell (p:=⟨b,_,none⟩) hl).trans h.c1,(hb.cell (p:=⟨b,_,none⟩) hl).trans h.c2,(hb.cell (p:=⟨b,_,none⟩) hl).trans h.c3,
  (hb.cell (p:=⟨b,_,none⟩) hl).trans h.c4,(hb.cell (p:=⟨b,_,none⟩) hl).trans h.c5,(hb.cell (p:=⟨b,_,none⟩) hl).trans h.c6⟩
def SK (w:World) (v:Value) (ns:List Nd):Prop :=
 ∃ao cap,v=.slice ao ns.length cap∧ns.length≤cap∧cap≤maxLen ∧
  (ns=[]∨∃b off,ao=some ⟨b,off,none⟩∧b<w.heap.size∧∀i,i<ns.length→Um w b (off+i*7) (Ye ns i))
theorem SK.len {ns:List Nd} (h:SK w v ns):∃ao cap,v=.slice ao ns.length cap∧ns.length≤cap∧cap≤maxLen:=by
 obtain ⟨ao,cap,h0,h1,h2,_⟩:=h;exact ⟨ao,cap,h0,h1,h2⟩
theorem SK.below {ns:List Nd} (h:SK w v ns) (hb:Zi w w'):SK w' v ns:=by
 obtain ⟨ao,cap,rfl,h1,h2,h3⟩:=h;refine ⟨ao,cap,rfl,h1,h2,?_⟩
 rcases h3 with h3 | ⟨b,off,rfl,hlt,hc⟩
 · exact .inl h3
 exact .inr ⟨b,off,rfl,ZY hlt hb.size,fun i hi=>(hc i hi).below hb hlt⟩
def YE (ns:List Nd):List Value:=ns.flatMap Uu
theorem Ut (n:Nd) (ns:List Nd):YE (n :: ns)=Uu n++YE ns:=by simp [YE]
theorem Wd (ns ms:List Nd):YE (ns++ms)=YE ns++YE ms:=by simp [YE]
theorem Xw:∀ns:List Nd,(YE ns).length=ns.length*7
 | []=>rfl
 | n :: ns=>by rw [Ut,ZZ,Xw ns,ZE];show 7+_=_;omega
theorem NQ:∀(ns:List Nd) (i j:Nat),i<ns.length→j<7→(YE ns)[i*7+j]?=(Uu (Ye ns i))[j]?
 | [],i,j,h,_=>by simp at h
 | n :: ns,0,j,_,hj=>by
  rw [Ut,Xg,Za,Zy (by show j<7;exact hj)];rfl
 | n :: ns,i+1,j,h,hj=>by
  rw [Ut,Zv (by show 7≤_;omega),show (i+1)*7+j - (Uu n).length=i*7+j by show (i+1)*7+j - 7=_;omega,NQ ns i j (by simpa using h) hj]
  rfl
def XU (e:TypeId) (w:World) (lo:Nat) (v:Value) (ns:List Nd):Prop:=w.ownsRow lo e 7 v ns.length (YE ns)
theorem XU.rd {ns:List Nd} (h:XU e w lo v ns):SK w v ns:=by
 rcases h.2 with ⟨rfl,h0⟩ | ⟨g,cap,cur,rfl,hb,hg,hn,hm,hs,ht⟩
 · have:ns=[]:=Zg h0
   subst this;exact ⟨none,0,rfl,YR,Zu _,.inl rfl⟩
 refine ⟨_,cap,rfl,hn,hm,.inr ⟨g,0,rfl,(Z3.1 hg).1,fun i hi=>?_⟩⟩;have c:∀j,j<7→w.cell? ⟨g,0+(i*7+j),none⟩=(Uu (Ye ns i))[j]?:=fun j hj=>by
  have hh:=NQ ns i j hi hj;have h9:(Uu (Ye ns i))[j]?=some ((Uu (Ye ns i)).getD j undef):=by
   match j,hj with
   | 0,_=>rfl
   | 1,_=>rfl
   | 2,_=>rfl
   | 3,_=>rfl
   | 4,_=>rfl
   | 5,_=>rfl
   | 6,_=>rfl
  rw [h9] at hh;have:=Ys h (g:=g) rfl (i*7+j) _ hh;rw [YY] at this;rw [this,h9]
 exact ⟨c 0 (by omega),c 1 (by omega),c 2 (by omega),c 3 (by omega),c 4 (by omega),c 5 (by omega),c 6 (by omega)⟩
theorem XU.below {ns:List Nd} (h:XU e w lo v ns) (hb:Zi w w'):XU e w' lo v ns:=by
 refine ⟨h.1,?_⟩
 rcases h.2 with hn | ⟨g,cap,cur,rfl,hbg,hgg,rest⟩
 · exact .inl hn
 exact .inr ⟨g,cap,cur,rfl,hbg,by rw [hb.block g (Z3.1 hgg).1];exact hgg,rest⟩
theorem XU.mono {lo':Nat} {ns:List Nd} (h:XU e w lo v ns) (hl:lo'≤lo):XU e w lo' v ns:=by
 refine ⟨h.1,?_⟩
 rcases h.2 with hn | ⟨g,cap,cur,rfl,hbg,rest⟩
 · exact .inl hn
 exact .inr ⟨g,cap,cur,rfl,ZJ hl hbg,rest⟩
theorem XU.slice {ns:List Nd} (h:XU e w lo v ns):∃a c,v=.slice a ns.length c:=by
 obtain ⟨a,c,h0,_⟩:=h.rd.len;exact ⟨a,c,h0⟩
@[reducible] def jd (W:World) (b:Nat) (n:Nd):Prop:=W.cell? ⟨b,0,none⟩=some (.string n.path)∧W.cell? ⟨b,1,none⟩=some (.string n.data)∧W.cell? ⟨b,2,none⟩=some (.int .i64 n.XT)∧W.cell? ⟨b,3,none⟩=some (.int .i64 n.XQ)∧W.cell? ⟨b,4,none⟩=some (.int .i64 n.cz)∧W.cell? ⟨b,5,none⟩=some (.int .i64 n.mz)∧W.cell? ⟨b,6,none⟩=some (.int .i64 n.pz)
theorem Tryz.Ml:(Tryz.prog.info? 147).map (fun i=>(i.zero,i.size,i.bytes))=some (some (.agg #[.string ByteArray.empty,.string ByteArray.empty,.int .i64 0,.int .i64 0,.int .i64 0,.int .i64 0,.int .i64 0]),7,72):=by kernel_rfl
theorem XU.Vz {ns:List Nd} (h:XU e w lo v ns) {a:Addr} (ha:a.block<lo) (u:Value):XU e (w.setCell a u) lo v ns:=ownsRow_setCell_below h ha u
structure Ef where
 del:Bool
 nd:Nd
def GO (e:Ef):List Value:=[.bool e.del,.string e.nd.path,.string e.nd.data,.int .i64 e.nd.XT,.int .i64 e.nd.XQ,.int .i64 e.nd.cz,.int .i64 e.nd.mz,.int .i64 e.nd.pz]
def fF:Ef:=⟨false,nd0⟩
def Vr (ns:List Ef) (i:Nat):Ef:=ns.getD i fF
theorem NP {ns:List Ef} (h:i<ns.length):Vr ns i=ns[i]:=by unfold Vr;simp [List.getD,h]
structure PI (w:World) (b p:Nat) (n:Ef):Prop where
 c0:w.cell? ⟨b,p,none⟩=some (.bool n.del)
 c1:w.cell? ⟨b,p+1,none⟩=some (.string n.nd.path)
 c2:w.cell? ⟨b,p+2,none⟩=some (.string n.nd.data)
 c3:w.cell? ⟨b,p+3,none⟩=some (.int .i64 n.nd.XT)
 c4:w.cell? ⟨b,p+4,none⟩=some (.int .i64 n.nd.XQ)
 c5:w.cell? ⟨b,p+5,none⟩=some (.int .i64 n.nd.cz)
 c6:w.cell? ⟨b,p+6,none⟩=some (.int .i64 n.nd.mz)
 c7:w.cell? ⟨b,p+7,none⟩=some (.int .i64 n.nd.pz)
theorem PI.below {n:Ef} (h:PI w b p n) (hb:Below m w w') (hl:b<m):PI w' b p n :=
 ⟨(hb.cell (p:=⟨b,_,none⟩) hl).trans h.c0,(hb.cell (p:=⟨b,_,none⟩) hl).trans h.c1,(hb.cell (p:=⟨b,_,none⟩) hl).trans h.c2,(hb.cell (p:=⟨b,_,none⟩) hl).trans h.c3,(hb.cell (p:=⟨b,_,none⟩) hl).trans h.c4,(hb.cell (p:=⟨b,_,none⟩) hl).trans h.c5,(hb.cell (p:=⟨b,_,none⟩) hl).trans h.c6,(hb.cell (p:=⟨b,_,none⟩) hl).trans h.c7⟩
def Gu (w:World) (v:Value) (ns:List Ef):Prop :=
 ∃ao cap,v=.slice ao ns.length cap∧ns.length≤cap∧cap≤maxLen ∧
  (ns=[]∨∃b off,ao=some ⟨b,off,none⟩∧b<w.heap.size∧∀i,i<ns.length→PI w b (off+i*8) (Vr ns i))
theorem Gu.len {ns:List Ef} (h:Gu w v ns):∃ao cap,v=.slice ao ns.length cap∧ns.length≤cap∧cap≤maxLen:=by
 obtain ⟨ao,cap,h0,h1,h2,_⟩:=h;exact ⟨ao,cap,h0,h1,h2⟩
theorem Gu.below {ns:List Ef} (h:Gu w v ns) (hb:Zi w w'):Gu w' v ns:=by
 obtain ⟨ao,cap,rfl,h1,h2,h3⟩:=h;refine ⟨ao,cap,rfl,h1,h2,?_⟩
 rcases h3 with h3 | ⟨b,off,rfl,hlt,hc⟩
 · exact .inl h3
 exact .inr ⟨b,off,rfl,ZY hlt hb.size,fun i hi=>(hc i hi).below hb hlt⟩
def MU (ns:List Ef):List Value:=ns.flatMap GO
theorem Jv (n:Ef) (ns:List Ef):MU (n :: ns)=GO n++MU ns:=by simp [MU]
theorem Gt (ns ms:List Ef):MU (ns++ms)=MU ns++MU ms:=by simp [MU]
theorem Gq:∀(ns:List Ef) (i j:Nat),i<ns.length→j<8→(MU ns)[i*8+j]?=(GO (Vr ns i))[j]?
 | [],i,j,h,_=>by simp at h
 | n :: ns,0,j,_,hj=>by
  rw [Jv,Xg,Za,Zy (by show j<8;exact hj)];rfl
 | n :: ns,i+1,j,h,hj=>by
  rw [Jv,Zv (by show 8≤_;omega),show (i+1)*8+j - (GO n).length=i*8+j by show (i+1)*8+j - 8=_;omega,Gq ns i j (by simpa using h) hj]
  rfl
def UN (e:TypeId) (w:World) (lo:Nat) (v:Value) (ns:List Ef):Prop:=w.ownsRow lo e 8 v ns.length (MU ns)
theorem UN.rd {ns:List Ef} (h:UN e w lo v ns):Gu w v ns:=by
 rcases h.2 with ⟨rfl,h0⟩ | ⟨g,cap,cur,rfl,hb,hg,hn,hm,hs,ht⟩
 · have:ns=[]:=Zg h0
   subst this;exact ⟨none,0,rfl,YR,Zu _,.inl rfl⟩
 refine ⟨_,cap,rfl,hn,hm,.inr ⟨g,0,rfl,(Z3.1 hg).1,fun i hi=>?_⟩⟩;have c:∀j,j<8→w.cell? ⟨g,0+(i*8+j),none⟩=(GO (Vr ns i))[j]?:=fun j hj=>by
  have hh:=Gq ns i j hi hj;have h9:(GO (Vr ns i))[j]?=some ((GO (Vr ns i)).getD j undef):=by
   match j,hj with
   | 0,_=>rfl
   | 1,_=>rfl
   | 2,_=>rfl
   | 3,_=>rfl
   | 4,_=>rfl
   | 5,_=>rfl
   | 6,_=>rfl
   | 7,_=>rfl
  rw [h9] at hh;have:=Ys h (g:=g) rfl (i*8+j) _ hh;rw [YY] at this;rw [this,h9]
 exact ⟨c 0 (by omega),c 1 (by omega),c 2 (by omega),c 3 (by omega),c 4 (by omega),c 5 (by omega),c 6 (by omega),c 7 (by omega)⟩
theorem UN.below {ns:List Ef} (h:UN e w lo v ns) (hb:Zi w w'):UN e w' lo v ns:=by
 refine ⟨h.1,?_⟩
 rcases h.2 with hn | ⟨g,cap,cur,rfl,hbg,hgg,rest⟩
 · exact .inl hn
 exact .inr ⟨g,cap,cur,rfl,hbg,by rw [hb.block g (Z3.1 hgg).1];exact hgg,rest⟩
@[reducible] def jc (W:World) (b:Nat) (n:Ef):Prop:=W.cell? ⟨b,0,none⟩=some (.bool n.del)∧W.cell? ⟨b,1,none⟩=some (.string n.nd.path)∧W.cell? ⟨b,2,none⟩=some (.string n.nd.data)∧W.cell? ⟨b,3,none⟩=some (.int .i64 n.nd.XT)∧W.cell? ⟨b,4,none⟩=some (.int .i64 n.nd.XQ)∧W.cell? ⟨b,5,none⟩=some (.int .i64 n.nd.cz)∧W.cell? ⟨b,6,none⟩=some (.int .i64 n.nd.mz)∧W.cell? ⟨b,7,none⟩=some (.int .i64 n.nd.pz)
theorem XU.lq {ns:List Nd} (h:XU 147 w lo v ns) (hn:v.ownBlock≠some b) (u:Value):XU 147 (w.setCell ⟨b,j,none⟩ u) lo v ns:=Zn h (grownBy_set _ _ _ _ _ (Zz _ _)) (.inr hn)
theorem UN.QW {es:List Ef} (h:UN e w lo v es):∃a c,v=.slice a es.length c:=by
 obtain ⟨a,c,h0,_⟩:=(UN.rd h).len;exact ⟨a,c,h0⟩
theorem XU.QW {ns:List Nd} (h:XU e w lo v ns):∃a c,v=.slice a ns.length c:=by
 obtain ⟨a,c,h0,_⟩:=h.rd.len;exact ⟨a,c,h0⟩
def PR (v:Int):Bool:=decide (0≤v) && decide (v≤2147483647)
def Wl (n:Nd):Bool:=Xi n.path && decide (n.data.size≤64) && PR n.XT && PR n.XQ && PR n.cz && PR n.mz && PR n.pz
theorem Rc (w:World) (v:Int):Calls Tryz.prog 143 #[.int .i64 v] w fun e w'=>e=.returned (.bool (PR v))∧w'=w:=by
 by_cases h1:0≤v
 · by_cases h2:v≤2147483647
   · have HO:Hid (PR v=true):=by show _=_;unfold PR;rw [Zm h1,Zm h2];rfl
     go_enter Tryz.func143,Tryz.ntmps143
     go_wp2;go_ret;exact ⟨Ws HO.out.symm,rfl⟩
   have HO:Hid (PR v=false):=by show _=_;unfold PR;rw [Zo h2];simp
   go_enter Tryz.func143,Tryz.ntmps143
   go_wp2;go_ret;exact ⟨Ws HO.out.symm,rfl⟩
 have HO:Hid (PR v=false):=by show _=_;unfold PR;rw [Zo h1];rfl
 go_enter Tryz.func143,Tryz.ntmps143
 go_wp2;go_ret;exact ⟨Ws HO.out.symm,rfl⟩
structure MT (w:World) (B:Nat) (n:Nd):Prop where
 lt:B<w.heap.size
 c0:w.cell? ⟨B,0,none⟩=some (.string n.path)
 c1:w.cell? ⟨B,1,none⟩=some (.string n.data)
 c2:w.cell? ⟨B,2,none⟩=some (.int .i64 n.XT)
 c3:w.cell? ⟨B,3,none⟩=some (.int .i64 n.XQ)
 c4:w.cell? ⟨B,4,none⟩=some (.int .i64 n.cz)
 c5:w.cell? ⟨B,5,none⟩=some (.int .i64 n.mz)
 c6:w.cell? ⟨B,6,none⟩=some (.int .i64 n.pz)
theorem MT.new (w:World) (n:Nd) (t:TypeId):MT (w.alloc (.cells #[.string n.path,.string n.data,.int .i64 n.XT,.int .i64 n.XQ,.int .i64 n.cz,.int .i64 n.mz,.int .i64 n.pz] t)) w.heap.size n :=
 ⟨by simp,by simp,by simp,by simp,by simp,by simp,by simp,by simp⟩
theorem MT.below {n:Nd} (h:MT w B n) (hb:Zi w w'):MT w' B n :=
 ⟨ZY h.lt hb.size,(hb.cell (p:=⟨B,_,none⟩) h.lt).trans h.c0,(hb.cell (p:=⟨B,_,none⟩) h.lt).trans h.c1,(hb.cell (p:=⟨B,_,none⟩) h.lt).trans h.c2,(hb.cell (p:=⟨B,_,none⟩) h.lt).trans h.c3,
  (hb.cell (p:=⟨B,_,none⟩) h.lt).trans h.c4,(hb.cell (p:=⟨B,_,none⟩) h.lt).trans h.c5,(hb.cell (p:=⟨B,_,none⟩) h.lt).trans h.c6⟩
theorem Qc (w:World) (n:Nd) (hd:n.data.size≤1048576) :
    Calls Tryz.prog 140 #[.agg #[.string n.path,.string n.data,.int .i64 n.XT,.int .i64 n.XQ,.int .i64 n.cz,.int .i64 n.mz,.int .i64 n.pz]] w (Wj w (.bool (Wl n))):=by
 have X0:Hid (MT (w.alloc (.cells #[.string n.path,.string n.data,.int .i64 n.XT,.int .i64 n.XQ,.int .i64 n.cz,.int .i64 n.mz,.int .i64 n.pz] 147)) w.heap.size n):=MT.new _ _ _;have B0:Hid (Zi w (w.alloc (.cells #[.string n.path,.string n.data,.int .i64 n.XT,.int .i64 n.XQ,.int .i64 n.cz,.int .i64 n.mz,.int .i64 n.pz] 147))):=Yy.alloc YR _
 go_enter Tryz.func140,Tryz.ntmps140
 go_wp2_with fail
 generalize w.alloc _=w0 at *;refine (Qd _ n.path).mono ?_;rintro e w1 ⟨rfl,b1⟩;have B1:=ZU (WD B0.out b1);obtain ⟨-,c0,c1,c2,c3,c4,c5,c6⟩:=X0.out.below b1
 cases hP:Xi n.path with
 | false =>
  have HO:Hid (Wl n=false):=by show _=_;unfold Wl;rw [hP];simp
  go_wp2;go_ret;exact ⟨Ws HO.out.symm,B1.out⟩
 | true =>
  have HP:=ZU hP
  by_cases hD:64<n.data.size
  · have YA:(64:Int)<(n.data.size:Int):=by omega
    have HO:Hid (Wl n=false):=by show _=_;unfold Wl;rw [Zo (show ¬n.data.size≤64 by omega)];simp
    go_wp2;go_ret;exact ⟨Ws HO.out.symm,B1.out⟩
  have YA:¬(64:Int)<(n.data.size:Int):=by omega
  have pt:=ZU (Zm (show n.data.size≤64 by omega))
  go_wp2_with fail
  refine (Rc _ n.XT).mono ?_;rintro e w2 ⟨rfl,rfl⟩
  cases Gp:PR n.XT with
  | false =>
   have HO:Hid (Wl n=false):=by show _=_;unfold Wl;rw [Gp];simp
   go_wp2;go_ret;exact ⟨Ws HO.out.symm,B1.out⟩
  | true =>
   have ZB:=ZU Gp
   go_wp2_with fail
   refine (Rc _ n.XQ).mono ?_;rintro e w2 ⟨rfl,rfl⟩
   cases Lw:PR n.XQ with
   | false =>
    have HO:Hid (Wl n=false):=by show _=_;unfold Wl;rw [Lw];simp
    go_wp2;go_ret;exact ⟨Ws HO.out.symm,B1.out⟩
   | true =>
    have Z6:=ZU Lw
    go_wp2_with fail
    refine (Rc _ n.cz).mono ?_;rintro e w2 ⟨rfl,rfl⟩
    cases yr:PR n.cz with
    | false =>
     have HO:Hid (Wl n=false):=by show _=_;unfold Wl;rw [yr];simp
     go_wp2;go_ret;exact ⟨Ws HO.out.symm,B1.out⟩
    | true =>
     have Y5:=ZU yr
     go_wp2_with fail
     refine (Rc _ n.mz).mono ?_;rintro e w2 ⟨rfl,rfl⟩
     cases yq:PR n.mz with
     | false =>
      have HO:Hid (Wl n=false):=by show _=_;unfold Wl;rw [yq];simp
      go_wp2;go_ret;exact ⟨Ws HO.out.symm,B1.out⟩
     | true =>
      have Y2:=ZU yq
      go_wp2_with fail
      refine (Rc _ n.pz).mono ?_;rintro e w2 ⟨rfl,rfl⟩
      cases yp:PR n.pz with
      | false =>
       have HO:Hid (Wl n=false):=by show _=_;unfold Wl;rw [yp];simp
       go_wp2;go_ret;exact ⟨Ws HO.out.symm,B1.out⟩
      | true =>
       have Y1:=ZU yp;have HO:Hid (Wl n=true):=by show _=_;unfold Wl;rw [HP.out,pt.out,ZB.out,Z6.out,Y5.out,Y2.out,Y1.out];rfl
       go_wp2;go_ret;exact ⟨Ws HO.out.symm,B1.out⟩
theorem Um.all {n:Nd} (h:Um w b p n):w.cell? ⟨b,p,none⟩=some (.string n.path)∧w.cell? ⟨b,p+1,none⟩=some (.string n.data)∧w.cell? ⟨b,p+2,none⟩=some (.int .i64 n.XT)∧w.cell? ⟨b,p+3,none⟩=some (.int .i64 n.XQ)∧w.cell? ⟨b,p+4,none⟩=some (.int .i64 n.cz)∧w.cell? ⟨b,p+5,none⟩=some (.int .i64 n.mz)∧w.cell? ⟨b,p+6,none⟩=some (.int .i64 n.pz):=⟨h.c0,h.c1,h.c2,h.c3,h.c4,h.c5,h.c6⟩
theorem Ol:∀x y:List UInt8,(!(Op.bytesLess x y))=(Op.bytesLess y x || y == x)
 | [],[]=>by simp [Op.bytesLess]
 | [],b :: y=>by simp [Op.bytesLess]
 | a :: x,[]=>by simp [Op.bytesLess]
 | a :: x,b :: y=>by
  have ih:=Ol x y;unfold Op.bytesLess
  by_cases h1:a<b
  · have h2:¬b<a:=fun h=>absurd (UInt8.lt_trans h1 h) (Vj a)
    have h3:¬b=a:=fun h=>by subst h;exact Vj _ h1
    simp [h1,h2,h3]
  by_cases h2:b<a
  · have h3:¬b=a:=fun h=>by subst h;exact Vj _ h2
    have h4:¬a=b:=fun h=>h3 h.symm
    simp [h1,h2,h4]
  have h3:=TC (UInt8.not_lt.1 h2) (UInt8.not_lt.1 h1);subst h3
  simp only [Vj,decide_false,beq_self_eq_true,Bool.false_or,Xz,List.cons_beq_cons]
  exact ih
def Tz (a b:ByteArray):Bool:=Op.bytesLess a.toList b.toList
theorem IJ {a b:ByteArray} (h:Tz a b=true):Op.bytesLess b.toList a.toList=false∧(b.toList == a.toList)=false:=by
 have:=Ol a.toList b.toList;unfold Tz at h;rw [h] at this
 simpa using this
theorem pn {a b:ByteArray} (h:Tz a b=false):Op.bytesLess b.toList a.toList=true∨(Op.bytesLess b.toList a.toList=false∧(b.toList == a.toList)=true):=by
 have:=Ol a.toList b.toList;unfold Tz at h;rw [h] at this
 cases h1:Op.bytesLess b.toList a.toList with
 | true=>exact .inl rfl
 | false=>rw [h1] at this;exact .inr ⟨rfl,by simpa using this⟩
def MS (ns:List Nd) (k:Nat):Bool:=Wl (Ye ns k) && (decide (k=0) || Tz (Ye ns (k - 1)).path (Ye ns k).path)
def TY (ns:List Nd):Bool:=(List.range ns.length).all (MS ns)
def WE (ns:List Nd):Bool:=decide (ns.length≤1000) && TY ns
theorem Ju {ns:List Nd} {k:Nat} (h:k<ns.length) (hn:MS ns k=false):TY ns=false:=by
 unfold TY;rw [VQ];exact ⟨k,Yb.2 h,by rw [hn];simp⟩
theorem Lu {ns:List Nd} (h:∀k,k<ns.length→MS ns k=true):TY ns=true:=by
 unfold TY;rw [Yw];exact fun k hk=>h k (Yb.1 hk)
theorem Jt (ns:List Nd):MS ns 0=Wl (Ye ns 0):=by unfold MS;simp
theorem Pc (ns:List Nd) (j:Nat):MS ns (j+1)=(Wl (Ye ns (j+1)) && Tz (Ye ns j).path (Ye ns (j+1)).path):=by unfold MS;simp
theorem MT.all {n:Nd} (h:MT w B n):w.cell? ⟨B,0,none⟩=some (.string n.path)∧w.cell? ⟨B,1,none⟩=some (.string n.data)∧w.cell? ⟨B,2,none⟩=some (.int .i64 n.XT)∧w.cell? ⟨B,3,none⟩=some (.int .i64 n.XQ)∧w.cell? ⟨B,4,none⟩=some (.int .i64 n.cz)∧w.cell? ⟨B,5,none⟩=some (.int .i64 n.mz)∧w.cell? ⟨B,6,none⟩=some (.int .i64 n.pz):=⟨h.c0,h.c1,h.c2,h.c3,h.c4,h.c5,h.c6⟩
theorem II (w:World) (b o n cap:Nat) (ns:List Nd) (hp:ns.length=n) (hn:n≤1000) (hb:b<w.heap.size) (hsz:∀i,(Ye ns i).path.size≤1048576∧(Ye ns i).data.size≤1048576)
    (hc:∀i,i<n→Um w b (o+i*7) (Ye ns i)) :
    Calls Tryz.prog 93 #[.agg #[.slice (some ⟨b,o,none⟩) n cap]] w (Wj w (.bool (TY ns))):=by
 have HC:=ZU hc;have HP:=ZU hp;have HZ:=ZU hsz;have yo:¬(1000:Int)<(n:Int):=by omega
 clear hc hp hsz;have B0:Hid (Zi w (w.alloc (.cells #[.slice (some ⟨b,o,none⟩) n cap] 63))):=Yy.alloc YR _;have c00:Hid ((w.alloc (.cells #[.slice (some ⟨b,o,none⟩) n cap] 63)).cell? ⟨w.heap.size,0,none⟩=some (.slice (some ⟨b,o,none⟩) n cap)):=by show _=_;simp
 have z0:w.heap.size<(w.alloc (.cells #[.slice (some ⟨b,o,none⟩) n cap] 63)).heap.size:=by simp
 go_enter Tryz.func93,Tryz.ntmps93
 go_wp2;generalize w.alloc _=w0 at *
 go_loopw [12] (fun i wr=>∃k:Nat,k≤n∧i=.int .i64 k∧Hid (∀t,t<k→MS ns t=true)∧Hid (Zi w0 wr)) (fun i _=>n - (intOf i).toNat)
 case atStart=>exact ⟨0,Zu _,rfl,(fun t ht=>by omega),Yy⟩
 case round =>
  obtain ⟨k,hk,rfl,HA,HG⟩:=hrel;have yn:=ZU (B0.out.trans (HG.out.mono (by omega)))
  by_cases hlt:k<n
  · have Rj:(k:Int)<(n:Int):=by omega
    have g0:(0:Int)≤(k:Int):=by omega
    have NR:Hid (k<ns.length):=by rw [HP.out];exact hlt
    obtain ⟨c0,c1,c2,c3,c4,c5,c6⟩:=(HC.out k hlt).below yn.out hb;have XN:Hid (MT (wr.alloc (.cells #[.string (Ye ns k).path,.string (Ye ns k).data,.int .i64 (Ye ns k).XT,.int .i64 (Ye ns k).XQ,.int .i64 (Ye ns k).cz,.int .i64 (Ye ns k).mz,.int .i64 (Ye ns k).pz] 147)) wr.heap.size (Ye ns k)):=MT.new _ _ _;have BN:Hid (Zi wr (wr.alloc (.cells #[.string (Ye ns k).path,.string (Ye ns k).data,.int .i64 (Ye ns k).XT,.int .i64 (Ye ns k).XQ,.int .i64 (Ye ns k).cz,.int .i64 (Ye ns k).mz,.int .i64 (Ye ns k).pz] 147))):=Yy.alloc YR _;go_wp2;clear c0 c1 c2 c3 c4 c5 c6;generalize wr.alloc _=wn at *;have zr:=HG.out.size;obtain ⟨B,hB⟩:∃B,B=wr.heap.size:=⟨_,rfl⟩;rw [←hB] at XN;rw [←hB];have AN:Hid (∀W,Zi wn W→Zi w W):=fun W hW=>(WD yn.out BN.out).trans (hW.mono (ZJ yn.out.size BN.out.size))
    have pm:Hid (∀W,Zi wn W→Hid (Zi w0 W)):=fun W hW=>(WD HG.out BN.out).trans (hW.mono (ZJ HG.out.size BN.out.size))
    have CT:Hid (∀W,Zi wn W→W.cell? ⟨w.heap.size,0,none⟩=some (.slice (some ⟨b,o,none⟩) n cap)):=fun W hW=>((pm.out W hW).out.cell (p:=⟨w.heap.size,0,none⟩) z0).trans c00.out
    have HE:Hid (∀q,Calls Tryz.prog 140 #[.agg #[.string (Ye ns k).path,.string (Ye ns k).data,.int .i64 (Ye ns k).XT,.int .i64 (Ye ns k).XQ,.int .i64 (Ye ns k).cz,.int .i64 (Ye ns k).mz,.int .i64 (Ye ns k).pz]] (wn.drewN q) fun e w'=>e=.returned (.bool (Wl (Ye ns k)))∧Hid (Zi wn w')):=by
     intro q;refine (Qc _ (Ye ns k) (HZ.out k).2).mono ?_;rintro e w' ⟨rfl,b'⟩;exact ⟨rfl,(below_drewN' wn q).trans b'⟩
    have HD:Hid (Zi wn wn.drew):=below_drewN' wn 1;have fe:=ZU hB;clear hB BN
    cases hok:Wl (Ye ns k) with
    | false =>
     have PX:=ZU hok;have HN:=ZU (Ju NR.out (by unfold MS;rw [hok];rfl));clear hok;refine ZX (S:=fun W=>Hid (Zi wn W)∧jd W B (Ye ns k)) (by kernel_rfl) (⟨HD,(XN.out.below HD.out).all⟩) (fun Z9=>?_);refine Zf ?_ (by kernel_rfl) (fun _=>id) Z9 ?_ ?_
     rotate_left
     · intro w9 ZQ;obtain ⟨-,ZQ⟩:=ZQ;go_simp;try with_reducible rfl
     refine YS 1 rfl (by kernel_rfl) (fun K hK=>?_);go_simp;refine (HE.out 1).mono ?_;rintro e w' ⟨rfl,HB⟩;rw [PX.out];clear Z9;refine hK.out _ _ (⟨HB,(XN.out.below HB.out).all⟩) (fun Z9=>?_);clear hK K
     iterate 2 (refine Zf ?_ (by kernel_rfl) (fun _=>id) Z9 ?_ ?_;rotate_left;· intro w9 ZQ;obtain ⟨-,ZQ⟩:=ZQ;go_simp;try with_reducible rfl)
     iterate 14 (refine J7 (by kernel_rfl) (fun _=>id) Z9 ?_)
     refine Zf ?_ (by kernel_rfl) (fun _=>id) Z9 ?_ ?_
     rotate_left
     · intro w9 ZQ;obtain ⟨-,ZQ⟩:=ZQ;go_simp;try with_reducible rfl
     refine ZR (by kernel_rfl) ?_ _
     try simp only [Act.put,WV,WU,WT]
     clear Z9;go_wp2;go_ret;exact ⟨Ws HN.out.symm,AN.out _ HB.out⟩
    | true =>
     have PX:=ZU hok;clear hok
     cases k with
     | zero =>
      have HT:Hid (MS ns 0=true):=by show _=_;rw [Jt];exact PX.out
      have g2:(0:Int)<(n:Int):=by omega
      refine ZX (S:=fun W=>Hid (Zi wn W)∧jd W B (Ye ns 0)) (by kernel_rfl) (⟨HD,(XN.out.below HD.out).all⟩) (fun Z9=>?_);refine Zf ?_ (by kernel_rfl) (fun _=>id) Z9 ?_ ?_
      rotate_left
      · intro w9 ZQ;obtain ⟨-,ZQ⟩:=ZQ;go_simp;try with_reducible rfl
      refine YS 1 rfl (by kernel_rfl) (fun K hK=>?_);go_simp;refine (HE.out 1).mono ?_;rintro e w' ⟨rfl,HB⟩;rw [PX.out];clear Z9;refine hK.out _ _ (⟨HB,(XN.out.below HB.out).all⟩) (fun Z9=>?_);clear hK K
      iterate 5 (refine Zf ?_ (by kernel_rfl) (fun _=>id) Z9 ?_ ?_;rotate_left;· intro w9 ZQ;obtain ⟨-,ZQ⟩:=ZQ;go_simp;try with_reducible rfl)
      iterate 10 (refine J7 (by kernel_rfl) (fun _=>id) Z9 ?_)
      iterate 2 (refine Zf ?_ (by kernel_rfl) (fun _=>id) Z9 ?_ ?_;rotate_left;· intro w9 ZQ;obtain ⟨-,ZQ⟩:=ZQ;go_simp;try with_reducible rfl)
      refine ZR (by kernel_rfl) ?_ _
      try simp only [Act.put,WV,WU,WT]
      clear Z9;go_wp2
      go_roundw
      case rel=>exact ⟨0+1,by omega,by go_num,(fun t ht=>by by_cases e:t=0;(subst e;exact HT.out);exact HA.out t (by omega)),pm.out _ HB.out⟩
      case measure=>simp [intOf];omega
     | succ j =>
      have g1:(0:Int)≤(j:Int)+1:=by omega
      have g2:(j:Int)+1<(n:Int):=by omega
      have g3:(0:Int)≤(j:Int):=by omega
      have g4:(j:Int)<(n:Int):=by omega
      have g5:(0:Int)<(j:Int)+1:=by omega
      have g6:IntKind.i64.wrap (j:Int)=(j:Int):=by rw [Zq];omega
      cases hcmp:Tz (Ye ns j).path (Ye ns (j+1)).path with
      | true =>
       have HT:Hid (MS ns (j+1)=true):=by show _=_;rw [Pc,PX.out,hcmp];rfl
       have l1:Op.bytesLess (Ye ns j).path.toList (Ye ns (j+1)).path.toList=true:=hcmp;clear hcmp;refine ZX (S:=fun W=>Hid (Zi wn W)∧jd W B (Ye ns (j+1))∧W.cell? ⟨w.heap.size,0,none⟩=some (.slice (some ⟨b,o,none⟩) n cap)∧W.cell? ⟨b,o+j*7,none⟩=some (.string (Ye ns j).path)) (by kernel_rfl) (⟨HD,(XN.out.below HD.out).all,(CT.out _ HD.out),((HC.out j (by omega)).below (AN.out _ HD.out) hb).c0⟩) (fun Z9=>?_);refine Zf ?_ (by kernel_rfl) (fun _=>id) Z9 ?_ ?_
       rotate_left
       · intro w9 ZQ;obtain ⟨-,ZQ⟩:=ZQ;go_simp;try with_reducible rfl
       refine YS 1 rfl (by kernel_rfl) (fun K hK=>?_);go_simp;refine (HE.out 1).mono ?_;rintro e w' ⟨rfl,HB⟩;rw [PX.out];clear Z9;refine hK.out _ _ (⟨HB,(XN.out.below HB.out).all,(CT.out _ HB.out),((HC.out j (by omega)).below (AN.out _ HB.out) hb).c0⟩) (fun Z9=>?_);clear hK K
       iterate 17 (refine Zf ?_ (by kernel_rfl) (fun _=>id) Z9 ?_ ?_;rotate_left;· intro w9 ZQ;obtain ⟨-,ZQ⟩:=ZQ;go_simp;try with_reducible rfl)
       refine ZR (by kernel_rfl) ?_ _
       try simp only [Act.put,WV,WU,WT]
       clear Z9;go_wp2
       go_roundw
       case rel=>exact ⟨(j+1)+1,by omega,by go_num,(fun t ht=>by by_cases e:t=(j+1);(subst e;exact HT.out);exact HA.out t (by omega)),pm.out _ HB.out⟩
       case measure=>simp [intOf];omega
      | false =>
       have HN:=ZU (Ju NR.out (by rw [Pc,hcmp,VE]));have l1:Op.bytesLess (Ye ns j).path.toList (Ye ns (j+1)).path.toList=false:=hcmp;clear hcmp;refine ZX (S:=fun W=>Hid (Zi wn W)∧jd W B (Ye ns (j+1))∧W.cell? ⟨w.heap.size,0,none⟩=some (.slice (some ⟨b,o,none⟩) n cap)∧W.cell? ⟨b,o+j*7,none⟩=some (.string (Ye ns j).path)) (by kernel_rfl) (⟨HD,(XN.out.below HD.out).all,(CT.out _ HD.out),((HC.out j (by omega)).below (AN.out _ HD.out) hb).c0⟩) (fun Z9=>?_);refine Zf ?_ (by kernel_rfl) (fun _=>id) Z9 ?_ ?_
       rotate_left
       · intro w9 ZQ;obtain ⟨-,ZQ⟩:=ZQ;go_simp;try with_reducible rfl
       refine YS 1 rfl (by kernel_rfl) (fun K hK=>?_);go_simp;refine (HE.out 1).mono ?_;rintro e w' ⟨rfl,HB⟩;rw [PX.out];clear Z9;refine hK.out _ _ (⟨HB,(XN.out.below HB.out).all,(CT.out _ HB.out),((HC.out j (by omega)).below (AN.out _ HB.out) hb).c0⟩) (fun Z9=>?_);clear hK K
       iterate 17 (refine Zf ?_ (by kernel_rfl) (fun _=>id) Z9 ?_ ?_;rotate_left;· intro w9 ZQ;obtain ⟨-,ZQ⟩:=ZQ;go_simp;try with_reducible rfl)
       refine ZR (by kernel_rfl) ?_ _
       try simp only [Act.put,WV,WU,WT]
       clear Z9;go_wp2;go_ret;exact ⟨Ws HN.out.symm,AN.out _ HB.out⟩
  have HY:Hid (TY ns=true):=Lu (fun t ht=>HA.out t (by rw [HP.out] at ht;omega));go_wp2;go_ret;exact ⟨Ws HY.out.symm,yn.out⟩
theorem IH (w:World) (ao:Option Addr) (cap:Nat) :
    Calls Tryz.prog 93 #[.agg #[.slice ao 0 cap]] w (Wj w (.bool true)):=by
 go_enter Tryz.func93,Tryz.ntmps93
 go_wp2
 go_rounds 1
 go_ret;exact ⟨rfl,Yy.alloc YR _⟩
theorem J1 (w:World) (ao:Option Addr) (n cap:Nat) (h:1000<n) :
    Calls Tryz.prog 93 #[.agg #[.slice ao n cap]] w (Wj w (.bool false)):=by
 have yo:(1000:Int)<(n:Int):=by omega
 go_enter Tryz.func93,Tryz.ntmps93
 go_wp2;go_ret;exact ⟨rfl,Yy.alloc YR _⟩
theorem UM (w:World) (v:Value) (ns:List Nd) (h:SK w v ns) (hsz:∀i,(Ye ns i).path.size≤1048576∧(Ye ns i).data.size≤1048576) :
    Calls Tryz.prog 93 #[.agg #[v]] w (Wj w (.bool (WE ns))):=by
 obtain ⟨ao,cap,rfl,k1,k2,k3⟩:=h
 by_cases hl:1000<ns.length
 · have:WE ns=false:=by unfold WE;rw [Zo (by omega)];rfl
   rw [this];exact J1 w ao ns.length cap hl
 have:WE ns=TY ns:=by unfold WE;rw [Zm (by omega)];rfl
 rw [this]
 rcases k3 with rfl | ⟨b,o,rfl,hb,hc⟩
 · exact IH w ao cap
 exact II w b o ns.length cap ns rfl (by omega) hb hsz hc
end
section
variable {a:Act} {listed:Array Bool} {ops:Array Oper} {lb:Array Value} {s:ByteArray} {k:IntKind} {R:List (List UInt8)} {xs:List Int} {L:List Value} {B b base c fuel gf i j lo m n p q:Nat} {oi:Oper} {o o':Option Nat} {P:Program} {e:TypeId} {v x:Value} {W W' X Y w w' w1 w2:World}
def Xo:Nat→Nat→List Int
 | _,0=>[]
 | N,n+1=>Xo (N / 256) n++[((N % 256:Nat):Int)]
theorem Xd:∀(n N:Nat),(Xo N n).length=n
 | 0,_=>rfl
 | n+1,N=>by unfold Xo;rw [ZZ,Xd n];rfl
theorem Tn:∀(n N:Nat),∀x ∈ Xo N n,0≤x∧x<256
 | 0,_,x,h=>by cases h
 | n+1,N,x,h=>by
  unfold Xo at h
  rcases Y4.1 h with h | h
  · exact Tn n _ x h
  simp only [Y9,SW,Sh] at h
  omega
theorem Js (N m k:Nat):Xo (N / 2 ^ (8*(m+1))) k++[((N / 2 ^ (8*m) % 256:Nat):Int)]=Xo (N / 2 ^ (8*m)) (k+1):=by
 conv=>rhs;unfold Xo
 rw [Vd,show 8*(m+1)=8*m+8 by omega,Uv]
def Uh (xs:List Int):Nat:=xs.foldl (fun a x=>a*256+x.toNat) 0
theorem Jr (xs:List Int) (x:Int):Uh (xs++[x])=Uh xs*256+x.toNat:=by unfold Uh;rw [VO];rfl
theorem ym:Uh []=0:=rfl
theorem MR:∀(n:Nat) (xs:List Int),xs.length=n→(∀x ∈ xs,0≤x∧x<256)→Xo (Uh xs) n=xs∧Uh xs<256 ^ n
 | 0,xs,hn,h=>by
  have:=Zg hn;subst this;exact ⟨rfl,by decide⟩
 | n+1,xs,hn,h=>by
  rcases List.eq_nil_or_concat xs with rfl | ⟨ys,y,hc⟩
  · simp at hn
  rw [List.concat_eq_append] at hc;subst hc;have hl:ys.length=n:=by simpa using hn
  have hy:=h y (by simp);obtain ⟨i1,i2⟩:=MR n ys hl (fun x hx=>h x (List.mem_append_left _ hx));rw [Jr];refine ⟨?_,by rw [Uc];omega⟩;unfold Xo;have e1:(Uh ys*256+y.toNat) / 256=Uh ys:=by omega
  have e2:(Uh ys*256+y.toNat) % 256=y.toNat:=by omega
  rw [e1,e2,i1,Int.toNat_of_nonneg hy.1]
def PG (g b s l c:Int):Bool:=decide (1≤g) && (decide (b=0) || decide (b=1)) && decide (0≤s∧s≤2147483647) && decide (0≤l∧l≤4096) && decide (0≤c∧c≤4294967295)
def AM (g b s l c:Nat):List Int:=Xo g 8++Xo b 1++Xo s 4++Xo l 4++Xo c 4++List.replicate 35 0++Xo g 8
def sup (g b s l c:Int):List Int:=if PG g b s l c then AM g.toNat b.toNat s.toNat l.toNat c.toNat else []
theorem Lt (g b s l c:Nat):(AM g b s l c).length=64:=by unfold AM;simp [Xd]
end
section
open Go.RowKit Go.Shelf
variable {a:Act} {listed:Array Bool} {ops:Array Oper} {lb:Array Value} {s:ByteArray} {k:IntKind} {R:List (List UInt8)} {xs:List Int} {L:List Value} {B b base c fuel gf i j lo m n p q:Nat} {oi:Oper} {o o':Option Nat} {P:Program} {e:TypeId} {v x:Value} {W W' X Y w w' w1 w2:World}
def KT (e:TypeId) (w w':World):Prop:=w.heap.size≤w'.heap.size∧∀b,b<w.heap.size→(¬∃cur,w.heap[b]?=some (.cells cur e (0,0)))→w'.heap[b]?=w.heap[b]?
theorem KT.refl (e:TypeId) (w:World):KT e w w:=⟨YR,fun _ _ _=>rfl⟩
theorem KT.trans (h:KT e w w1) (h2:KT e w1 w2):KT e w w2 :=
 ⟨ZJ h.1 h2.1,fun b hb hn=>by
  have h3:=h.2 b hb hn;rw [h2.2 b (ZY hb h.1) (by rw [h3];exact hn),h3]⟩
theorem KT.below (h:KT e w w1) (hb:Zi w1 w2):KT e w w2 :=
 h.trans ⟨hb.size,fun b hb' _=>hb.block b hb'⟩
theorem KT.alloc (h:KT e w w1) (o:Obj):KT e w (w1.alloc o):=h.below (Yy.alloc YR o)
theorem KT.grown {size:Nat} {xs:List Value} (h:KT e w w1) (ho:w1.ownsRow base e size v n xs) (hg:w1.grownBy w2 v.ownBlock):KT e w w2:=by
 refine h.trans ⟨hg.size,fun b hb hn=>hg.block b hb fun he=>hn ?_⟩
 rcases ho.2 with ⟨rfl,-⟩ | ⟨g,cap,cur,rfl,-,hgg,-⟩
 · simp [Value.ownBlock] at he
 simp only [Value.ownBlock,ZK] at he
 subst he;exact ⟨cur,hgg⟩
theorem Wr (w:World) (base:Nat) (v:Value) (xs:List Int) (N n:Nat) (h:Own .u8 5 w base v xs) (hb:base≤w.heap.size) (hl:xs.length≤1048576) (hn:n≤8) :
    Calls Tryz.prog 96 #[v,.int .i64 N,.int .i64 n] w fun e w'=>∃v',e=.returned v'∧Own .u8 5 w' base v' (xs++Xo N n)∧Below base w w'∧KT 5 w w':=by
 obtain ⟨i0,hi,hz0,hz1,hz2⟩:=YN Tryz.QZ;have HO:=ZU h;clear h
 go_enter Tryz.func96,Tryz.ntmps96
 go_wp2
 go_loopw [0,7] (fun vi vl wr=>∃(k:Nat) (z:Int),k≤n∧vl=.int .i64 z∧z+1+(k:Int)=(n:Int)∧Hid (Own .u8 5 wr base vi (xs++Xo (N / 2 ^ (8*(n - k))) k))∧Hid (Below base w wr)∧Hid (KT 5 w wr)) (fun _ i _=>((intOf i)+1).toNat)
 case atStart=>exact ⟨0,(n:Int) - 1,Zu _,rfl,by omega,by show Own _ _ _ _ _ _;unfold Xo;rw [YD];exact HO.out,Yy,KT.refl _ _⟩
 case round =>
  obtain ⟨k,z,hk,rfl,hz,HW,HB,HK⟩:=hrel;have sB:=HB.out.size
  by_cases hz0':0≤z
  · obtain ⟨l,rfl⟩:∃l:Nat,z=(l:Int):=⟨z.toNat,by omega⟩
    have fa:l≤7:=by omega
    have HST:Hid (Xo (N / 2 ^ (8*(n - k))) k++[((N / 2 ^ (8*l) % 256:Nat):Int)]=Xo (N / 2 ^ (8*(n - (k+1)))) (k+1)):=by
     show _=_;rw [show n - k=l+1 by omega,show n - (k+1)=l by omega];exact Js N l k
    obtain ⟨ys,hys⟩:∃ys,ys=xs++Xo (N / 2 ^ (8*(n - k))) k:=⟨_,rfl⟩;have tj:=ZU hys;have HW1:Hid (wr.ownsRow base 5 1 u0 ys.length (ys.map (Value.int .u8))):=by rw [hys];exact HW.out
    have hyl:ys.length≤1048600:=by rw [hys,ZZ,Xd];omega
    clear hys HW;have HV:Hid ((N:Int) / 2 ^ (8*l) % 256=((N / 2 ^ (8*l) % 256:Nat):Int)):=by show _=_;rw [NT];rfl
    go_wp2_with (at_builtin;go_must (refine Yn _ rfl _ _ 22 rfl base 5 i0 (.int .u8 0) 1 1 Tryz.underlying22 hi hz0 hz1 hz2 rfl (by decide) _ _ _ rfl (WP HW1.out _) ⟨wr.heap.size,0,none⟩ 1 1 [.int .u8 ((N:Int) / 2 ^ (8*l) % 256)] rfl rfl (XW _ _ _) (by intro u hu;simp at hu;subst hu;rfl) ?c3 ?c4 ?c5 ?_))
    case c3=>unfold maxLen;omega
    case c4=>omega
    case c5=>simp;omega
    intro v2 w2 ho2 hg2 _;have DT:Hid (Own .u8 5 w2 base v2 (xs++Xo (N / 2 ^ (8*(n - (k+1)))) (k+1))):=by
     rw [HV.out] at ho2;refine QY (q:=ys.length+1) (ys:=ys++[((N / 2 ^ (8*l) % 256:Nat):Int)]) (by simp) ?_ (by rw [Y6];exact ho2);rw [←HST.out,←ZO,←tj.out]
    have HB2:=ZU ((HB.out.alloc (by omega) _).grown hg2 (by simp;omega) (fun q hq=>(ZT HW1.out q hq).1));have lp:=ZU ((HK.out.alloc _).grown (HW1.out.alloc _) hg2);clear ho2 hg2 HW1 HB HK;go_wp2;exact ⟨⟨k+1,(l:Int) - 1,by omega,by go_num,by omega,DT,HB2,lp⟩,by simp [intOf]⟩
  have hkn:k=n:=by omega
  subst hkn;have eZ:=hz0';go_wp2;go_ret;refine ⟨_,rfl,?_,HB.out,HK.out⟩;have:=HW.out;rw [Wf,Q3,Nat.pow_zero,Nat.div_one] at this;exact this
theorem step_append {o:Oper} {K:Act→World→Prop} {Q:Exit→Act→World→Prop} {E:Prop}
    (hg:o.guard=none) (s x:Operand) (t:TypeId) (hop:o.op=Op.call { callee:=Callee.builtin Builtin.append,args:=#[s,x],argTypes:=#[t,t] })
    (base:Nat) (e:TypeId) (i:TypeInfo) (z:Value) (size bytes:Nat) (h1:P.underlying t=some (.slice e)) (h2:P.info? e=some i) (h3:i.zero=some z) (h4:i.size=size) (h5:i.bytes=bytes) (h6:z.cells.size=size) (h7:0<size)
    (v:Value) (n:Nat) (xs:List Value) (hs:a.eval s=v) (hown:w.ownsRow base e size v n xs) (ad:Addr) (m c:Nat) (news:List Value) (hx:a.eval x=.slice (some ad) m c) (hn:news.length=m*size)
    (hc:∀j u,news[j]?=some u→w.cell? (ad.add j)=some u) (h1c:∀u ∈ news,u.oneCell'=true) (b1:n+m≤maxLen) (b2:(n+m)*bytes≤140737488355328) (hb:base≤w.heap.size)
    (hK:∀v' w',w'.ownsRow base e size v' (n+m) (xs++news)→w.grownBy w' v.ownBlock→K (a.put o.dst v') w') :
    if Region.wanted o (yielded ops a.tmps)=true then Oper.wp P o a w K Q else E:=by
 have hw:Region.wanted o (yielded ops a.tmps)=true:=by simp [Region.wanted,hg]
 rw [Z0 hw];obtain ⟨v',w',hrun,r1,r2,_⟩:=run_append_own (P:=P) w base t o.type e i z size bytes h1 h2 h3 h4 h5 h6 h7 v n xs hown ad m c news hn hc h1c b1 b2 hb;unfold Oper.wp
 simp [execOp,hop,resolve,invoke,builtin,hs,hx,hrun,Result.andThen]
 exact hK v' w' r1 r2
def U0 (s:ByteArray):List Int:=s.data.toList.map fun b=>(b.toNat:Int)
theorem Wq (s:ByteArray):(U0 s).length=s.size:=by unfold U0;rw [Zl,YJ];rfl
theorem Qb (s:ByteArray):Lib.strCells s=(U0 s).map (Value.int .u8):=by unfold Lib.strCells U0;rw [SF];rfl
def J0 (s:ByteArray):List Int:=[(s.size:Int)]++U0 s
theorem NO (s:ByteArray):(J0 s).length=1+s.size:=by unfold J0;rw [ZZ,Wq];rfl
theorem Qa (w:World) (base:Nat) (v:Value) (xs:List Int) (s:ByteArray) (h:Own .u8 5 w base v xs) (hb:base≤w.heap.size) (hl:xs.length≤1048576) (hs:s.size<256) :
    Calls Tryz.prog 141 #[v,.string s] w fun e w'=>∃v',e=.returned v'∧Own .u8 5 w' base v' (xs++J0 s)∧Below base w w'∧KT 5 w w':=by
 obtain ⟨i0,hi,hz0,hz1,hz2⟩:=YN Tryz.QZ;have HO:Hid (w.ownsRow base 5 1 v xs.length (xs.map (Value.int .u8))):=h;clear h
 go_enter Tryz.func141,Tryz.ntmps141
 go_wp2_with (at_builtin;go_must (refine Yn _ rfl _ _ 22 rfl base 5 i0 (.int .u8 0) 1 1 Tryz.underlying22 hi hz0 hz1 hz2 rfl (by decide) _ _ _ rfl (WP HO.out _) ⟨w.heap.size,0,none⟩ 1 1 [.int .u8 (s.size:Int)] rfl rfl (XW _ _ _) (by intro u hu;simp at hu;subst hu;rfl) ?c3 ?c4 ?c5 ?_))
 case c3=>unfold maxLen;omega
 case c4=>omega
 case c5=>simp;omega
 intro v2 w2 ho2 hg2 _;have O2:Hid (w2.ownsRow base 5 1 v2 (xs.length+1) ((xs++[(s.size:Int)]).map (Value.int .u8))):=by
  rw [Y6];exact ho2
 have B2:Hid (Below base w w2):=(Yy.alloc hb _).grown hg2 (by simp;omega) (fun q hq=>(ZT HO.out q hq).1);have K2:Hid (KT 5 w w2):=((KT.refl _ _).alloc _).grown (HO.out.alloc _) hg2;have s2:=B2.out.size;clear ho2 hg2
 go_wp2_with (at_builtin;go_must (refine Lib.wpList_append_own_string _ rfl _ _ 22 9 rfl base 5 i0 Tryz.underlying22 Tryz.underlying9 hi hz0 hz1 hz2 _ _ _ rfl O2.out s rfl ?d3 ?d4 ?d5 ?_))
 case d3=>unfold maxLen;omega
 case d4=>omega
 case d5=>omega
 intro v3 w3 ho3 hg3 _;have O3:Hid (Own .u8 5 w3 base v3 (xs++J0 s)):=by
  refine QY (q:=xs.length+1+s.size) (ys:=xs++J0 s) (by rw [ZZ,NO];omega) rfl ?_;rw [Qb] at ho3;rw [Y6];exact ho3
 have B3:Hid (Below base w w3):=B2.out.grown hg3 (by omega) (fun q hq=>(ZT O2.out q hq).1);have K3:Hid (KT 5 w w3):=K2.out.grown O2.out hg3;clear ho3 hg3;go_wp2;go_ret;exact ⟨_,rfl,O3.out,B3.out,K3.out⟩
theorem Ls:∀l cur:List UInt8,((SU cur l).map List.length).sum+(SU cur l).length=cur.length+l.length+1
 | [],cur=>by simp [SU]
 | x :: l,cur=>by
  by_cases h:x=47
  · subst h
    have:=Ls l [];rw [Qe]
    simp only [Yl,Ti,ZE,Y7] at this ⊢
    omega
  have:=Ls l (cur++[x]);rw [QB h]
  simp only [ZZ,ZE,Y7] at this ⊢
  omega
theorem yl (m:Nat):∀L:List (List UInt8),(∀x ∈ L,x.length≤m)→(L.map List.length).sum≤L.length*m
 | [],_=>by simp
 | x :: L,h=>by
  have h1:=h x (by simp);have h2:=yl m L (fun y hy=>h y (by simp [hy]));rw [Yl,Ti,ZE,Tr];omega
theorem ti {l:List UInt8} (h:Cj l=true):l.length≤16:=by
 unfold Cj GF at h
 simp only [ZA,Zj] at h
 have h2:(ByteArray.mk l.toArray).size=l.length:=rfl;omega
theorem PF (h:Xi s=true):s.size≤102:=by
 have hs:s.data.toList.length=s.size:=by rw [YJ];rfl
 unfold Xi at h
 simp only [Vl,ZA,Zj] at h
 rcases h with h | ⟨⟨⟨h1,h2⟩,h3⟩,h4⟩
 · rw [h] at hs;simp at hs;omega
 have h5:=Ls (s.data.toList.drop 1) [];have h6:=yl 16 (nm s) (fun x hx=>ti (Yw.1 h4 x hx));unfold nm at h3 h6;rw [ZS,hs] at h5
 simp only [Y7] at h5
 omega
theorem TX {n:Nd} (h:Wl n=true):n.path.size≤102∧n.data.size≤64∧(0≤n.XT∧n.XT≤2147483647)∧(0≤n.XQ∧n.XQ≤2147483647)∧(0≤n.cz∧n.cz≤2147483647)∧(0≤n.mz∧n.mz≤2147483647)∧(0≤n.pz∧n.pz≤2147483647):=by
 unfold Wl PR at h
 simp only [ZA,Zj] at h
 obtain ⟨⟨⟨⟨⟨⟨h1,h2⟩,h3⟩,h4⟩,h5⟩,h6⟩,h7⟩:=h;exact ⟨PF h1,h2,h3,h4,h5,h6,h7⟩
def jb (n:Nd):List Int:=Xo n.XT.toNat 4++Xo n.XQ.toNat 4++Xo n.cz.toNat 4++Xo n.mz.toNat 4++Xo n.pz.toNat 4
def Vy (n:Nd):List Int:=J0 n.path++J0 n.data++jb n
theorem Se (n:Nd):(Vy n).length=22+n.path.size+n.data.size:=by
 unfold Vy jb
 simp only [ZZ,NO,Xd]
 omega
def Xn (ns:List Nd):List Int:=ns.flatMap Vy
theorem Mk (ns:List Nd) (k:Nat) (h:k<ns.length):Xn (ns.take k)++Vy (Ye ns k)=Xn (ns.take (k+1)):=by
 unfold Xn;rw [YW h,XZ,WF h]
 simp
theorem DO (ns:List Nd) (k:Nat) (h:ns.length≤k):Xn (ns.take k)=Xn ns:=by rw [Y8 h]
theorem MQ {ns:List Nd} (h:WE ns=true) (k:Nat) (hk:k<ns.length):Wl (Ye ns k)=true:=by
 unfold WE TY at h
 simp only [ZA] at h
 have:=Yw.1 h.2 k (by simpa using hk);unfold MS at this
 simp only [ZA] at this
 exact this.1
theorem Ok {ns:List Nd} (h:WE ns=true):ns.length≤1000:=by
 unfold WE at h
 simp only [ZA,Zj] at h
 exact h.1
theorem Lr {ns:List Nd} (h:∀k,k<ns.length→Wl (Ye ns k)=true):∀k,k≤ns.length→(Xn (ns.take k)).length≤k*188
 | 0,_=>by simp [Xn]
 | k+1,hk=>by
  have h1:=Lr h k (by omega);have h2:=TX (h k (by omega));rw [←Mk ns k (by omega),ZZ,Se];omega
def Mj (ns:List Nd):List Int:=if WE ns then Xn ns else []
theorem MP:∀(l cur:List UInt8),47 :: (cur++l)=(SU cur l).flatMap (fun a=>47 :: a)
 | [],cur=>by simp [SU]
 | x :: l,cur=>by
  by_cases h:x=47
  · subst h
    rw [Qe,WY,←MP l []]
    simp
  rw [QB h,←MP l (cur++[x])]
  simp
theorem IG:∀(l cur:List UInt8),(47:UInt8) ∉ cur→∀a ∈ SU cur l,(47:UInt8) ∉ a
 | [],cur,h,a,ha=>by simp [SU] at ha;subst ha;exact h
 | x :: l,cur,h,a,ha=>by
  by_cases hx:x=47
  · subst hx
    rw [Qe] at ha
    rcases Y9.1 ha with rfl | ha
    · exact h
    exact IG l [] (by simp) a ha
  rw [QB hx] at ha;refine IG l (cur++[x]) ?_ a ha;intro hm
  rcases Y4.1 hm with hm | hm
  · exact h hm
  simp at hm;exact hx hm.symm
def Qq (s:ByteArray):List UInt8:=(nm s).dropLast.flatMap (fun a=>47 :: a)
def Lq (s:ByteArray):List UInt8:=(nm s).getLastD []
theorem lm (s:ByteArray):nm s≠[]:=fun h=>by have:=GE (s.data.toList.drop 1) [];unfold nm at h;rw [h] at this;simp at this
theorem Gn (s:ByteArray):nm s=(nm s).dropLast++[Lq s]:=by
 unfold Lq;have h:=lm s;rw [List.getLastD_eq_getLast?,List.getLast?_eq_some_getLast h,Xf];exact (List.dropLast_concat_getLast h).symm
theorem Oj (h1:1≤s.size) (h0:bN s 0=47):s.data.toList=Qq s++47 :: Lq s:=by
 have hl:0<s.data.toList.length:=by rw [YJ];exact h1
 have hc:s.data.toList=47 :: s.data.toList.drop 1:=by
  conv=>lhs;rw [←XR (l:=s.data.toList),Yg hl]
  congr 1
  unfold bN at h0
  simp only [List.getD,ZF hl,Xf] at h0
  exact Uj (by simpa using h0)
 have hj:=MP (s.data.toList.drop 1) [];rw [Zd,←hc] at hj;have hj2:s.data.toList=(nm s).flatMap (fun a=>47 :: a):=hj;rw [hj2]
 conv=>lhs;rw [Gn s]
 rw [XZ]
 simp [Qq]
theorem IE (s:ByteArray):(47:UInt8) ∉ Lq s:=by
 refine IG (s.data.toList.drop 1) [] (by simp) _ ?_;show Lq s ∈ nm s;rw [Gn s]
 simp
def ID (s:ByteArray):List UInt8:=if Qq s=[] then [47] else Qq s
theorem PE (h:Xi s=true):1≤s.size∧bN s 0=47:=by
 unfold Xi at h
 simp only [Vl,ZA,Zj] at h
 rcases h with h | ⟨⟨⟨h1,h2⟩,-⟩,-⟩
 · have hs:s.data.toList.length=s.size:=by rw [YJ];rfl
   rw [h] at hs;refine ⟨by simp at hs;omega,?_⟩;unfold bN;rw [h];rfl
 exact ⟨by omega,h2⟩
theorem yk:∀a b:List UInt8,(Lib.compareBytes a b<0)↔Op.bytesLess a b=true
 | [],[]=>by simp [Lib.compareBytes,Op.bytesLess]
 | [],_ :: _=>by simp [Lib.compareBytes,Op.bytesLess]
 | _ :: _,[]=>by simp [Lib.compareBytes,Op.bytesLess]
 | a :: l,b :: m=>by
  unfold Lib.compareBytes Op.bytesLess
  by_cases h1:a<b
  · simp [h1]
  by_cases h2:b<a
  · have h3:¬a=b:=fun e=>by subst e;exact absurd h2 h1
    simp [h1,h2,h3]
  have h3:=TC (UInt8.not_lt.1 h2) (UInt8.not_lt.1 h1);subst h3
  simp [h1,yk l m]
theorem Cf:∀a b:List UInt8,(Lib.compareBytes a b=0)↔a=b
 | [],[]=>by simp [Lib.compareBytes]
 | [],_ :: _=>by simp [Lib.compareBytes]
 | _ :: _,[]=>by simp [Lib.compareBytes]
 | a :: l,b :: m=>by
  unfold Lib.compareBytes
  by_cases h1:a<b
  · have h3:¬a=b:=fun e=>by subst e;exact absurd h1 (Vj _)
    simp [h1,h3]
  by_cases h2:b<a
  · have h3:¬a=b:=fun e=>by subst e;exact absurd h2 h1
    simp [h1,h2,h3]
  have h3:=TC (UInt8.not_lt.1 h2) (UInt8.not_lt.1 h1);subst h3
  simp [h1,Cf l m]
def PD (a b:ByteArray):Int:=Lib.compareBytes a.data.toList b.data.toList
theorem DN (w:World) (a b:ByteArray) :
    Calls Tryz.prog 191 #[.string a,.string b] w fun e w'=>e=.returned (.int .i64 (PD a b))∧w'=w:=by
 go_enter Tryz.func191,Tryz.ntmps191
 go_wp2;rw [Un Tryz.func220 (by kernel_rfl) (by kernel_rfl) (by kernel_rfl) (e:=Extern.BytealgCompare.compare) (by kernel_rfl),Lib.run_compareString]
 simp only [Result.andThen]
 rw [Oper.upon_value];go_wp2;go_ret;exact ⟨rfl,rfl⟩
theorem Gm (w:World) (a b:ByteArray) :
    Calls Tryz.prog 158 #[.string a,.string b] w fun e w'=>e=.returned (.int .i64 (PD a b))∧w'=w:=by
 go_enter Tryz.func158,Tryz.ntmps158
 go_wp2_with fail
 refine (DN w a b).mono ?_;rintro e w1 ⟨rfl,rfl⟩;go_wp2;go_ret;exact ⟨rfl,rfl⟩
theorem Jq (w:World) (n:Nd) (p:ByteArray) :
    Calls Tryz.prog 157 #[.agg #[.string n.path,.string n.data,.int .i64 n.XT,.int .i64 n.XQ,.int .i64 n.cz,.int .i64 n.mz,.int .i64 n.pz],.string p] w (Wj w (.int .i64 (PD n.path p))):=by
 have B0:Hid (Zi w (w.alloc (.cells #[.string n.path,.string n.data,.int .i64 n.XT,.int .i64 n.XQ,.int .i64 n.cz,.int .i64 n.mz,.int .i64 n.pz] 147))):=Yy.alloc YR _
 go_enter Tryz.func157,Tryz.ntmps157
 go_wp2_with fail
 generalize w.alloc _=w0 at *;refine (Gm w0 n.path p).mono ?_;rintro e w1 ⟨rfl,hw⟩;obtain rfl:w0=w1:=hw.symm;go_wp2;go_ret;exact ⟨rfl,B0.out⟩
end
end Go.Proofs.YtpmjnbmkippaiaaGreatDoor


