import Derived.OrdersHeld
import Derived.WalkKit
import Derived.ProofKit
import Derived.OpenShut
import Derived.Handy
import Derived.Carry
import Derived.WalkSpells
import Derived.WalkSmall
import Derived.Deep.RegionHeld
import Derived.Test.YtpmjnbmkippaiaaGreatDoorChecked
import Derived.Deep.QuietTactic
import Derived.BigQuiet
import Derived.Laws.BytesArg
import Derived.Lib.ConvBytes
import Derived.Test.YtpmjnbmkippaiaaGreatDoorRows
import Derived.Deep.RegionWith
import Derived.Deep.RegionLaw
import Derived.Deep.RegionHeld3
import Derived.Deep.AppendLies
import Derived.Laws.OwnMore
import Derived.Laws.Cover3
import Derived.Deep.MidRow
import Derived.Laws.CopyOwn
import Derived.Great.BuildSlice
import Derived.Maps.OwnSet
import Derived.BigRegion
import Derived.Shelf.Abstract
set_option maxRecDepth 100000
set_option maxHeartbeats 16000000
set_option linter.unusedVariables false
set_option linter.unusedSimpArgs false
namespace Go.Proofs.YtpmjnbmkippaiaaGreatDoor
section
open Go.RowKit Go.Shelf
variable {a:Act} {listed:Array Bool} {ops:Array Oper} {k:IntKind} {ps rs:List (Int × List Int)} {YN xs ys:List Int} {L:List Value} {B base c cap dl fuel g hi i j lo lo' mb n q tb:Nat} {oi:Oper} {ao:Option Addr} {o o':Option Nat} {P:Program} {e t te:TypeId} {u v vd vp x y:Value} {W W' w w' w1 w2:World}
abbrev YY:=@Go.Addr.add_lit
abbrev Ym:=@Go.Addr.mk.injEq
abbrev Sj:=@Go.AllReadyH.cons
abbrev UW:=@Array.ext'
abbrev Xj:=@Array.getElem?_eq_getElem
abbrev Ts:=@Array.getElem?_eq_none
abbrev Z3:=@Array.getElem?_eq_some_iff
abbrev YJ:=@Array.length_toList
abbrev YV:=@Array.replicate_succ
abbrev YU:=@Array.replicate_zero
abbrev TJ:=@Array.size_append
abbrev Wz:=@Array.size_replicate
abbrev Vx:=@Array.toList_append
abbrev UV:=@Array.toList_extract
abbrev SO:=@Bool.and_eq_false_iff
abbrev ZA:=@Bool.and_eq_true
abbrev VE:=@Bool.and_false
abbrev SJ:=@Bool.eq_iff_iff
abbrev Yu:=@Bool.false_eq_true
abbrev Vl:=@Bool.or_eq_true
abbrev Xz:=@Bool.true_and
abbrev Yd:=@ByteArray.data_append
abbrev Ve:=@ByteArray.data_extract
abbrev WM:=@ByteArray.ext
abbrev VX:=@ByteArray.size_append
abbrev YG:=@Go.ByteArray.toList_eq
abbrev SI:=@Go.DataW.trod_bool
abbrev UF:=@Int.tdiv_eq_ediv_of_nonneg
abbrev Ze:=@Int.toNat_natCast
abbrev Zq:=@Go.IntKind.wrap_i64
abbrev Te:=@Go.IntKind.wrap_u16
abbrev UE:=@Go.Lib.run_append_grow_string
abbrev U7:=@Go.Lib.run_eql_slice_nil
abbrev Us:=@Go.Lib.strCells_length
abbrev VW:=@List.Pairwise.sublist
abbrev VR:=@List.all_cons
abbrev VQ:=@List.all_eq_false
abbrev Yw:=@List.all_eq_true
abbrev Td:=@List.any_eq_true
abbrev ZO:=@List.append_assoc
abbrev YD:=@List.append_nil
abbrev YT:=@List.append_toArray
abbrev SG:=@List.cons.injEq
abbrev Y3:=@List.cons_append
abbrev Tc:=@List.drop_append
abbrev Yc:=@List.drop_drop
abbrev Yg:=@List.drop_eq_getElem_cons
abbrev Xx:=@List.drop_eq_nil_of_le
abbrev XS:=@List.drop_of_length_le
abbrev Ur:=@List.drop_succ_cons
abbrev XR:=@List.drop_zero
abbrev Zg:=@List.eq_nil_of_length_eq_zero
abbrev Ug:=@List.eq_of_mem_replicate
abbrev Vs:=@List.eraseIdx_eq_take_drop_succ
abbrev Tb:=@List.ext_getElem
abbrev Wn:=@List.ext_getElem?
abbrev VL:=@List.extract_eq_take_drop
abbrev Ta:=@List.filter_cons
abbrev VP:=@List.findIdx_cons
abbrev XZ:=@List.flatMap_append
abbrev WY:=@List.flatMap_cons
abbrev UU:=@List.flatMap_nil
abbrev TI:=@List.flatten_cons
abbrev VO:=@List.foldl_append
abbrev WS:=@List.foldl_cons
abbrev Uq:=@List.getD_cons_succ
abbrev XM:=@List.getD_cons_zero
abbrev Xy:=@List.getD_eq_getElem?_getD
abbrev Zy:=@List.getElem?_append_left
abbrev Zv:=@List.getElem?_append_right
abbrev Xr:=@List.getElem?_cons_succ
abbrev Yt:=@List.getElem?_drop
abbrev ZF:=@List.getElem?_eq_getElem
abbrev Yk:=@List.getElem?_eq_none
abbrev Zh:=@List.getElem?_eq_some_iff
abbrev Yo:=@List.getElem?_map
abbrev WZ:=@List.getElem?_replicate
abbrev TG:=@List.getElem?_set
abbrev VK:=@List.getElem?_set_ne
abbrev WJ:=@List.getElem?_take
abbrev XP:=@List.getElem?_take_of_lt
abbrev XK:=@List.getElem?_toArray
abbrev YP:=@List.getElem_mem
abbrev Up:=@List.getElem_of_mem
abbrev ZZ:=@List.length_append
abbrev ZE:=@List.length_cons
abbrev ZS:=@List.length_drop
abbrev Zl:=@List.length_map
abbrev Y7:=@List.length_nil
abbrev XJ:=@List.length_replicate
abbrev Xt:=@List.length_set
abbrev Zw:=@List.length_take
abbrev Y6:=@List.map_append
abbrev Vw:=@List.map_congr_left
abbrev Yl:=@List.map_cons
abbrev SF:=@List.map_map
abbrev WO:=@List.map_nil
abbrev Uf:=@List.map_replicate
abbrev UD:=@List.map_take
abbrev WL:=@List.map_toArray
abbrev Y4:=@List.mem_append
abbrev Y9:=@List.mem_cons
abbrev Zp:=@List.mem_cons_of_mem
abbrev YO:=@List.mem_cons_self
abbrev SZ:=@List.mem_nil_iff
abbrev UT:=@List.mem_of_getElem?
abbrev XV:=@List.mem_of_mem_drop
abbrev Xa:=@List.mem_of_mem_take
abbrev Yb:=@List.mem_range
abbrev Vk:=@List.mem_singleton
abbrev Zd:=@List.nil_append
abbrev SW:=@List.not_mem_nil
abbrev YI:=@List.push_toArray
abbrev SD:=@List.range_succ
abbrev US:=@List.replicate_succ'
abbrev VI:=@List.set_eq_take_append_cons_drop
abbrev Q8:=@List.set_set
abbrev ZI:=@List.size_toArray
abbrev Ti:=@List.sum_cons
abbrev Vv:=@List.takeWhile_cons
abbrev TF:=@List.take_add_one
abbrev YQ:=@List.take_append_drop
abbrev W8:=@List.take_left
abbrev SC:=@List.take_left'
abbrev Xp:=@List.take_length
abbrev Y8:=@List.take_of_length_le
abbrev YW:=@List.take_succ_eq_append_getElem
abbrev U6:=@List.take_take
abbrev WI:=@List.take_zero
abbrev Vu:=@List.toList_toArray
abbrev Xu:=@Nat.add_assoc
abbrev Tr:=@Nat.add_mul
abbrev Yj:=@Nat.add_zero
abbrev Vd:=@Nat.div_div_eq_div_mul
abbrev Uk:=@Nat.div_le_self
abbrev U5:=@Nat.le_of_eq
abbrev Ux:=@Nat.le_succ
abbrev ZJ:=@Nat.le_trans
abbrev Ue:=@Nat.lt_of_le_of_lt
abbrev ZY:=@Nat.lt_of_lt_of_le
abbrev Sz:=@Nat.lt_or_ge
abbrev WK:=@Nat.lt_succ_self
abbrev YC:=@Nat.min_eq_left
abbrev VV:=@Nat.min_le_left
abbrev UR:=@Nat.min_le_right
abbrev SV:=@Nat.mod_eq_of_lt
abbrev Wg:=@Nat.mod_lt
abbrev Ud:=@Nat.mod_mod_of_dvd
abbrev UC:=@Nat.mod_two_eq_zero_or_one
abbrev U4:=@Nat.mul_mod_mul_right
abbrev Yr:=@Nat.mul_one
abbrev Q3:=@Nat.mul_zero
abbrev Q2:=@Nat.ne_of_gt
abbrev Uw:=@Nat.one_mul
abbrev Uv:=@Nat.pow_add
abbrev Wx:=@Nat.pow_le_pow_right
abbrev Uc:=@Nat.pow_succ
abbrev Wf:=@Nat.sub_self
abbrev XY:=@Nat.sub_zero
abbrev UB:=@Nat.xor_assoc
abbrev Q1:=@Nat.xor_zero
abbrev Za:=@Nat.zero_add
abbrev Zu:=@Nat.zero_le
abbrev Xg:=@Nat.zero_mul
abbrev Yv:=@Go.Oper.semAt_some
abbrev Xf:=@Option.getD_some
abbrev Sy:=@Option.map_some
abbrev Zc:=@Option.some.inj
abbrev ZK:=@Option.some.injEq
abbrev VH:=@Prod.mk.inj
abbrev Rv:=@Prod.mk.injEq
abbrev XH:=@Go.Result.andThen_ok
abbrev XX:=@Go.Sem.run_bind
abbrev Ww:=@Go.Sem.run_pure
abbrev Rl:=@Go.Steps.head
abbrev TC:=@UInt8.le_antisymm
abbrev Vj:=@UInt8.lt_irrefl
abbrev Uj:=@UInt8.toNat.inj
abbrev ZC:=@Go.Value.slice.injEq
abbrev ZG:=@Go.World.block_lt_of_cell?
abbrev VJ:=@Go.World.cell?_alloc_at
abbrev ZP:=@Go.World.cell?_of_block
abbrev ZV:=@Go.World.cell?_setCell_other
abbrev Zk:=@Go.World.cell?_setCell_same
abbrev Ub:=@Go.World.cell?_setCells_out
abbrev Yq:=@Go.World.frozen?_of_block
abbrev Zb:=@Go.World.frozen?_setCell
abbrev Zz:=@Go.World.grownBy.refl
abbrev WR:=@Go.World.grownBy.trans
abbrev WQ:=@Go.World.grownBy_alloc
abbrev WP:=@Go.World.ownsRow.alloc
abbrev Wv:=@Go.World.ownsRow.cellAt
abbrev Ys:=@Go.World.ownsRow.cells
abbrev Xm:=@Go.World.ownsRow.frozenAt
abbrev Zn:=@Go.World.ownsRow.kept
abbrev ZT:=@Go.World.ownsRow.lt
abbrev WX:=@Go.World.ownsRow_lit
abbrev ZH:=@Go.World.ownsRow_nil
abbrev Wk:=@Go.World.rangeAt_alloc
abbrev Vi:=@Go.World.rangeAt_drew
abbrev U3:=@Go.World.rangeAt_setCells_apart
abbrev Yf:=@Go.World.rangeAt_setCells_same
abbrev YF:=@Go.World.size_alloc
abbrev Sw:=@Go.World.var?_cell
abbrev XL:=@Go.all_oneCell_toArray
abbrev VB:=@and_true
abbrev YH:=@beq_eq_false_iff_ne
abbrev VU:=@beq_false_of_ne
abbrev ZL:=@beq_iff_eq
abbrev Uo:=@bne_eq_false_iff_eq
abbrev ZW:=@Go.bodyPost_ret
abbrev UA:=@Go.callsD_of_wpS
abbrev Xb:=@Go.callsIn_of_wp
abbrev YK:=@Go.callsIn_wide
abbrev Yz:=@Go.cell_of_row
abbrev XW:=@Go.cell_one_new
abbrev ZM:=@congrArg
abbrev UQ:=@decide_eq_decide
abbrev Zo:=@decide_eq_false
abbrev Xq:=@decide_eq_false_iff_not
abbrev Zm:=@decide_eq_true
abbrev Zj:=@decide_eq_true_eq
abbrev Tq:=@Go.grownCap_ge
abbrev We:=@Go.grownCap_le_maxLen
abbrev U2:=@Go.growslice_fits
abbrev Zs:=@Go.heap_alloc_new
abbrev WW:=@if_false
abbrev Z1:=@if_neg
abbrev Z0:=@if_pos
abbrev Vo:=@if_true
abbrev YM:=@Go.info_parts
abbrev Yi:=@Go.ints_oneCell
abbrev Si:=@ite_self
abbrev XE:=@Go.leaves_cons
abbrev Wm:=@of_decide_eq_true
abbrev Sh:=@or_false
abbrev Wu:=@Go.results_none
abbrev Tp:=@Go.rounds_succ
abbrev Un:=@Go.run_callFunc_extern
abbrev Vt:=@Go.run_firstCells_some
abbrev TB:=@Go.run_storeCells_at
abbrev Ya:=@Go.run_underlying
abbrev WB:=@Go.setRow_heap
abbrev Ua:=@Go.setRow_other
abbrev TN:=@Go.size_zeroCells
abbrev UP:=@Go.step_block
abbrev Sg:=@Go.step_seq
abbrev Q0:=@true_and
abbrev ZR:=@Go.wpAnyH_done
abbrev Sf:=@Go.wpListIn_plain
abbrev WG:=@Go.wpList_append_fits
abbrev Yn:=@Go.wpList_append_own
abbrev YL:=@Go.wpList_load_mid
abbrev T0:=@Go.wpList_lookup_own_ok_int
abbrev Vh:=@Go.wpList_make_own
abbrev TZ:=@Go.wpList_plain
abbrev UO:=@Go.wpList_store_mid
abbrev TM:=@Go.wpS_region
abbrev TL:=@Go.wp_loop_rounds
abbrev ZX:=@Go.wp_region_held_drew
abbrev VN:=@Go.yieldsIf_load_mid
def Rd (k:IntKind) (w:World) (v:Value) (xs:List Int):Prop :=
 ∃ao cap,v=.slice ao xs.length cap∧xs.length≤cap∧cap≤maxLen ∧
  (xs=[]∨∃b off,ao=some ⟨b,off,none⟩∧b<w.heap.size∧∀i,i<xs.length→w.cell? ⟨b,off+i,none⟩=some (.int k (xs.getD i 0)))
def Own (k:IntKind) (e:TypeId) (w:World) (base:Nat) (v:Value) (xs:List Int):Prop :=
 w.ownsRow base e 1 v xs.length (xs.map (Value.int k))
theorem Own.rd (h:Own k e w base v xs):Rd k w v xs:=by
 rcases h.2 with ⟨rfl,h0⟩ | ⟨g,cap,cur,rfl,hb,hg,hn,hm,hs,ht⟩
 · have:xs=[]:=Zg h0
   subst this;exact ⟨none,0,rfl,Nat.le_refl _,Zu _,.inl rfl⟩
 · refine ⟨_,cap,rfl,hn,hm,.inr ⟨g,0,rfl,(Z3.1 hg).1,fun i hi=>?_⟩⟩
   have h1:=Ys h (g:=g) rfl i (.int k (xs.getD i 0)) (by simp [List.getD,hi]);rw [YY] at h1;exact h1
theorem Own.below (h:Own k e w base v xs) (hb:Below w.heap.size w w'):Own k e w' base v xs:=by
 refine ⟨h.1,?_⟩
 rcases h.2 with hn | ⟨g,cap,cur,rfl,hbg,hgg,rest⟩
 · exact .inl hn
 · exact .inr ⟨g,cap,cur,rfl,hbg,by rw [hb.block g (Z3.1 hgg).1];exact hgg,rest⟩
theorem Own.mono {base':Nat} (h:Own k e w base v xs) (hb:base'≤base):Own k e w base' v xs:=by
 refine ⟨h.1,?_⟩
 rcases h.2 with hn | ⟨g,cap,cur,rfl,hbg,rest⟩
 · exact .inl hn
 · exact .inr ⟨g,cap,cur,rfl,by omega,rest⟩
theorem Rd.below (h:Rd k w v xs) (hb:Below w.heap.size w w'):Rd k w' v xs:=by
 obtain ⟨ao,cap,rfl,h1,h2,h3⟩:=h;refine ⟨ao,cap,rfl,h1,h2,?_⟩
 rcases h3 with h3 | ⟨b,off,rfl,hlt,hc⟩
 · exact .inl h3
 · exact .inr ⟨b,off,rfl,ZY hlt hb.size,fun i hi=>by rw [hb.cell (p:=⟨b,off+i,none⟩) hlt];exact hc i hi⟩
theorem below_drewN' (w:World) (n:Nat):Below w.heap.size w (w.drewN n):=⟨rfl,rfl,rfl,Nat.le_refl _,fun _ _=>rfl⟩
theorem Own.other {row:Option Nat} (h:Own k e w base v xs) (hg:w.grownBy w' row) (hne:v.ownBlock=none∨v.ownBlock≠row):Own k e w' base v xs :=
 Zn h hg hne
theorem Own.lt (h:Own k e w base v xs):∀g,v.ownBlock=some g→base≤g∧g<w.heap.size:=ZT h
theorem Rd.len (h:Rd k w v xs):∃ao cap,v=.slice ao xs.length cap∧xs.length≤cap∧cap≤maxLen:=by
 obtain ⟨ao,cap,h0,h1,h2,_⟩:=h;exact ⟨ao,cap,h0,h1,h2⟩
theorem ZU {p:Prop} (h:p):Hid p:=h
theorem WV {α:Type} (l:List α) (i:Nat) (a:α):l.toArray.setIfInBounds i a=(l.set i a).toArray:=List.setIfInBounds_toArray ..
theorem WU {α:Type} (a b:α) (l:List α):(a :: l).set 0 b=b :: l:=rfl
theorem WT {α:Type} (a b:α) (l:List α) (n:Nat):(a :: l).set (n+1) b=a :: l.set n b:=rfl
theorem PM {md:Region.Mode} {Q:Exit→Act→World→Prop} {S:World→Prop} (hi:ops[i]?=some oi)
    (hb:(Region.noSelect ops && (Region.free md ops listed i && (Region.ready md ops listed).contains i))=true)
    (hQ:∀c a w,Q (.panic c) (a.put oi.dst v) w→Q (.panic c) a w) (hy:YieldsIf P ops S oi v a) (hS:S w)
    (h:wpAnyH P md ops Q S fuel (listed.setIfInBounds i true) (a.put oi.dst v) w):wpAnyH P md ops Q S (fuel+1) listed a w:=by
 simp only [ZA] at hb
 exact wpAnyH_take hi hb.1 hb.2.1 hb.2.2 hQ hy hS h
theorem iw {md:Region.Mode} {Q:Exit→Act→World→Prop} {S:World→Prop} (hi:ops[i]?=some oi)
    (hb:(Region.noSelect ops && (Region.free md ops listed i && (Region.ready md ops listed).contains i))=true)
    (hQ:∀c a w,Q (.panic c) (a.put oi.dst v) w→Q (.panic c) a w) (hw:Region.wanted oi (yielded ops a.tmps)=true) (hS:S w) (hy:∀w,S w→(execOp a.eval oi).run P w=.ok (.value v) w)
    (h:wpAnyH P md ops Q S fuel (listed.setIfInBounds i true) (a.put oi.dst v) w):wpAnyH P md ops Q S (fuel+1) listed a w:=PM hi hb hQ (Or.inl ⟨hw,hy⟩) hS h
theorem iv {md:Region.Mode} {Q:Exit→Act→World→Prop} {S:World→Prop} (hi:ops[i]?=some oi)
    (hb:(Region.noSelect ops && (Region.free md ops listed i && (Region.ready md ops listed).contains i))=true)
    (hQ:∀c a w,Q (.panic c) (a.put oi.dst undef) w→Q (.panic c) a w) (hw:Region.wanted oi (yielded ops a.tmps)=false) (hS:S w)
    (h:wpAnyH P md ops Q S fuel (listed.setIfInBounds i true) (a.put oi.dst undef) w):wpAnyH P md ops Q S (fuel+1) listed a w:=PM hi hb hQ (Or.inr ⟨hw,rfl⟩) hS h
section
variable {P:Program} {md:Region.Mode} {ops:Array Oper} {Q:Exit→Act→World→Prop} {S:World→Prop} {fuel:Nat} {listed:Array Bool} {a:Act} {w:World} {d:Option Nat} {op:Op} {ty:TypeId} {ps:String} {U:Array Edge} {T:Option (Nat × Bool)} {os:List Oper}
theorem Yp (i:Nat) (v:Value) (hi:ops[i]?=some ⟨d,op,ty,ps,U,T⟩) (hb:((Region.noSelect ops && (Region.free md ops listed i && (Region.ready md ops listed).contains i)) && (Region.wanted ⟨d,op,ty,ps,U,T⟩ (yielded ops a.tmps) == true))=true) (hQ:∀p:List PanicEntry × Act × World,Q (.panic p.1) (p.2.1.put d v) p.2.2→Q (.panic p.1) p.2.1 p.2.2) (hS:S w) (hy:∀w,S w→(execOp a.eval ⟨d,op,ty,ps,U,T⟩).run P w=.ok (.value v) w) (h:wpAnyH P md ops Q S fuel (listed.setIfInBounds i true) (a.put d v) w):wpAnyH P md ops Q S (fuel+1) listed a w:=iw hi (Bool.and_eq_true_iff.1 hb).1 (fun c a w h=>hQ (c,a,w) h) (ZL.1 (Bool.and_eq_true_iff.1 hb).2) hS hy h
theorem Zf (v:Value) (hb:(ops[ops.size - (os.length+1)]?,((Region.noSelect ops && (Region.free md ops listed (ops.size - (os.length+1)) && (Region.ready md ops listed).contains (ops.size - (os.length+1)))) && (Region.wanted ⟨d,op,ty,ps,U,T⟩ (yielded ops a.tmps) == true)))=(some ⟨d,op,ty,ps,U,T⟩,true)) (hQ:∀p:List PanicEntry × Act × World,Q (.panic p.1) (p.2.1.put d v) p.2.2→Q (.panic p.1) p.2.1 p.2.2) (hS:S w) (hy:∀w,S w→(execOp a.eval ⟨d,op,ty,ps,U,T⟩).run P w=.ok (.value v) w) (h:wpAnyH P md ops Q S os.length (listed.setIfInBounds (ops.size - (os.length+1)) true) (a.put d v) w):wpAnyH P md ops Q S (⟨d,op,ty,ps,U,T⟩ :: os).length listed a w:=Yp _ v (VH hb).1 (VH hb).2 hQ hS hy h
theorem ir (i:Nat) (hi:ops[i]?=some ⟨d,op,ty,ps,U,T⟩) (hb:((Region.noSelect ops && (Region.free md ops listed i && (Region.ready md ops listed).contains i)) && (Region.wanted ⟨d,op,ty,ps,U,T⟩ (yielded ops a.tmps) == false))=true) (hQ:∀p:List PanicEntry × Act × World,Q (.panic p.1) (p.2.1.put d undef) p.2.2→Q (.panic p.1) p.2.1 p.2.2) (hS:S w) (h:wpAnyH P md ops Q S fuel (listed.setIfInBounds i true) (a.put d undef) w):wpAnyH P md ops Q S (fuel+1) listed a w:=iv hi (Bool.and_eq_true_iff.1 hb).1 (fun c a w h=>hQ (c,a,w) h) (ZL.1 (Bool.and_eq_true_iff.1 hb).2) hS h
theorem J7 (hb:(ops[ops.size - (os.length+1)]?,((Region.noSelect ops && (Region.free md ops listed (ops.size - (os.length+1)) && (Region.ready md ops listed).contains (ops.size - (os.length+1)))) && (Region.wanted ⟨d,op,ty,ps,U,T⟩ (yielded ops a.tmps) == false)))=(some ⟨d,op,ty,ps,U,T⟩,true)) (hQ:∀p:List PanicEntry × Act × World,Q (.panic p.1) (p.2.1.put d undef) p.2.2→Q (.panic p.1) p.2.1 p.2.2) (hS:S w) (h:wpAnyH P md ops Q S os.length (listed.setIfInBounds (ops.size - (os.length+1)) true) (a.put d undef) w):wpAnyH P md ops Q S (⟨d,op,ty,ps,U,T⟩ :: os).length listed a w:=ir _ (VH hb).1 (VH hb).2 hQ hS h
theorem YS (i:Nat) (ho:ops[i]?=some ⟨d,op,ty,ps,U,T⟩) (hr:Region.ready md ops listed=[i]) (h:∀K':Act→World→Prop,Shut (∀a w,S w→(S w→wpAnyH P md ops Q S fuel (listed.setIfInBounds i true) a w)→K' a w)→if Region.wanted ⟨d,op,ty,ps,U,T⟩ (yielded ops a.tmps)=true then Oper.wp P ⟨d,op,ty,ps,U,T⟩ a w K' Q else K' (a.put d undef) w):wpAnyH P md ops Q S (fuel+1) listed a w:=wpAnyH_ready hr (by simp) (Sj ho h AllReadyH.nil)
theorem QG (i j:Nat) {d2:Option Nat} {Z5:Op} {Z4:TypeId} {ps2:String} {Z2:Array Edge} {ZN:Option (Nat × Bool)} (ho:ops[i]?=some ⟨d,op,ty,ps,U,T⟩) (ho2:ops[j]?=some ⟨d2,Z5,Z4,ps2,Z2,ZN⟩) (hr:Region.ready md ops listed=[i,j]) (h:∀K':Act→World→Prop,Shut (∀a w,S w→(S w→wpAnyH P md ops Q S fuel (listed.setIfInBounds i true) a w)→K' a w)→if Region.wanted ⟨d,op,ty,ps,U,T⟩ (yielded ops a.tmps)=true then Oper.wp P ⟨d,op,ty,ps,U,T⟩ a w K' Q else K' (a.put d undef) w) (h2:∀K':Act→World→Prop,Shut (∀a w,S w→(S w→wpAnyH P md ops Q S fuel (listed.setIfInBounds j true) a w)→K' a w)→if Region.wanted ⟨d2,Z5,Z4,ps2,Z2,ZN⟩ (yielded ops a.tmps)=true then Oper.wp P ⟨d2,Z5,Z4,ps2,Z2,ZN⟩ a w K' Q else K' (a.put d2 undef) w):wpAnyH P md ops Q S (fuel+1) listed a w:=wpAnyH_ready hr (by simp) (Sj ho h (Sj ho2 h2 AllReadyH.nil))
end
@[reducible] def Zi (w W:World):Prop:=Below w.heap.size w W
@[reducible] def Wj (w:World) (v:Value) (e:Ending) (W:World):Prop:=e=.returned v∧Below w.heap.size w W
theorem YR :n≤n:=Nat.le_refl n
theorem Yy :Below n w w:=Below.refl _ _
theorem WD (h:Below w.heap.size w w1) (k:Below w1.heap.size w1 w2):Below w.heap.size w w2:=h.trans (k.mono h.size)
theorem Tryz.QZ:(Tryz.prog.info? 5).map (fun i=>(i.zero,i.size,i.bytes))=some (some (.int .u8 0),1,1):=by kernel_rfl
theorem Wt {a b:Bool} (h:a=b):Ending.returned (.bool a)=.returned (.bool b):=by rw [h]
theorem Pe {a b:Int} (h:a=b):Ending.returned (.int k a)=.returned (.int k b):=by rw [h]
theorem grownBy_set (w w':World) (g i:Nat) (u:Value) (h:w.grownBy w' (some g)):w.grownBy (w'.setCell ⟨g,i,none⟩ u) (some g) :=
 ⟨h.os,h.tape,h.output,by simpa using h.size,fun k hk hne=>by
  have hs:=h.size;rw [←h.block k hk hne];exact Below.heap_setCell _ _ _ _ (fun e=>hne (by rw [e]))⟩
theorem Own.row (h:Own k e w base v xs) :
    (v=.slice none 0 0∧xs=[])∨∃g cap,v=.slice (some ⟨g,0,none⟩) xs.length cap∧base≤g∧xs.length≤cap∧cap≤maxLen:=by
 rcases h.2 with ⟨rfl,h0⟩ | ⟨g,cap,cur,rfl,hb,hg,hn,hm,_⟩
 · exact .inl ⟨rfl,Zg h0⟩
 exact .inr ⟨g,cap,rfl,hb,hn,hm⟩
theorem AO (h:w.ownsRow base e 1 (.slice (some ⟨g,0,none⟩) n cap) n (madeCells #[Value.int k 0] n).toList) :
    Own k e w base (.slice (some ⟨g,0,none⟩) n cap) (List.replicate n 0):=by
 unfold Own;rw [toList_madeCells_one] at h
 simpa using h
end
section
variable {a:Act} {listed:Array Bool} {ops:Array Oper} {k:IntKind} {ps rs:List (Int × List Int)} {YN xs ys:List Int} {L:List Value} {B base c cap dl fuel g hi i j lo lo' mb n q tb:Nat} {oi:Oper} {ao:Option Addr} {o o':Option Nat} {P:Program} {e t te:TypeId} {u v vd vp x y:Value} {W W' w w' w1 w2:World}
def Qr (w:Nat) (xs:List Int):Nat:=xs.foldl (fun a x=>a*2 ^ w+x.toNat % 2 ^ w) 0
theorem AN (w:Nat) (xs:List Int) (x:Int):Qr w (xs++[x])=Qr w xs*2 ^ w+x.toNat % 2 ^ w:=by
 simp [Qr,VO]
theorem GG (k:Nat):0<2 ^ k:=Nat.two_pow_pos k
theorem LA (xs:List Int) (k:Nat) (h:k<xs.length):xs.take (k+1)=xs.take k++[xs.getD k 0]:=by
 rw [YW h];simp [List.getD,h]
theorem PL (w:Nat) (xs:List Int) (k:Nat) (h:k<xs.length):Qr w (xs.take (k+1))=Qr w (xs.take k)*2 ^ w+(xs.getD k 0).toNat % 2 ^ w:=by
 rw [LA xs k h,AN]
theorem yw (w:Nat) (xs:List Int) (k:Nat):∀d,k+d≤xs.length→Qr w (xs.take (k+d)) / 2 ^ (w*d)=Qr w (xs.take k):=by
 intro d
 induction d with
 | zero=>intro _;simp
 | succ d ih =>
  intro h;rw [←Xu,PL w xs (k+d) (by omega),Nat.mul_succ,Nat.add_comm (w*d) w,Uv,←Vd];have h2:(xs.getD (k+d) 0).toNat % 2 ^ w<2 ^ w:=Wg _ (GG w);rw [Nat.add_comm,Nat.add_mul_div_right _ _ (GG w),Nat.div_eq_of_lt h2,Za];exact ih (by omega)
def tj (w v:Nat) (xs:List Int) (q:Nat):Nat:=Qr w xs / 2 ^ (w*xs.length - v*(q+1)) % 2 ^ v
theorem yv (w v:Nat) (xs:List Int) (k q:Nat) (hk:k≤xs.length) (hq:v*(q+1)≤w*k) :
    tj w v xs q=Qr w (xs.take k) / 2 ^ (w*k - v*(q+1)) % 2 ^ v:=by
 unfold tj;have e1:w*xs.length - v*(q+1)=w*(xs.length - k)+(w*k - v*(q+1)):=by
  rw [Nat.mul_sub];have:w*k≤w*xs.length:=Nat.mul_le_mul_left _ hk;omega
 rw [e1,Uv,←Vd];have e2:=yw w xs k (xs.length - k) (by omega);rw [show k+(xs.length - k)=xs.length by omega,Xp] at e2;rw [e2]
theorem ti (r N a v:Nat) (h:r % 2 ^ (a+v)=N % 2 ^ (a+v)):r / 2 ^ a % 2 ^ v=N / 2 ^ a % 2 ^ v:=by
 have key:∀x,x / 2 ^ a % 2 ^ v=x % 2 ^ (a+v) / 2 ^ a:=by
  intro x;rw [Uv,Nat.mod_mul_right_div_self]
 rw [key,key,h]
theorem th {r N a b:Nat} (hab:a≤b) (h:r % 2 ^ b=N % 2 ^ b):r % 2 ^ a=N % 2 ^ a:=by
 have hd:=Nat.pow_dvd_pow 2 hab;rw [←Ud r hd,h,Ud N hd]
theorem yu (r N x a w K:Nat) (hK:a+w≤K) (h:r % 2 ^ a=N % 2 ^ a) :
    (r*2 ^ w % 2 ^ K+x) % 2 ^ (a+w)=(N*2 ^ w+x) % 2 ^ (a+w):=by
 have hd:=Nat.pow_dvd_pow 2 hK;have e:r*2 ^ w % 2 ^ (a+w)=N*2 ^ w % 2 ^ (a+w):=by
  rw [Uv,U4,U4,h]
 rw [Nat.add_mod,Ud _ hd,e,←Nat.add_mod]
def pk (xs:List Int):List Int :=
 (List.range (8*xs.length / 7)).map (fun q=>((128+tj 8 7 xs q:Nat):Int)) ++
  (if 8*xs.length % 7=0 then [] else [((128+Qr 8 xs % 2 ^ (8*xs.length % 7)*2 ^ (7 - 8*xs.length % 7):Nat):Int)])
theorem Jz (xs:List Int):(pk xs).length=(8*xs.length+6) / 7:=by
 unfold pk
 by_cases h:8*xs.length % 7=0
 · simp [h];omega
 simp [h];omega
def up (ps:List Int):List Int:=(List.range (7*ps.length / 8)).map (fun q=>((tj 7 8 ps q:Nat):Int))
theorem DV (f:Nat→Int) (q:Nat):(List.range (q+1)).map f=(List.range q).map f++[f q]:=by
 rw [SD,Y6];rfl
end
section
open Go.RowKit Go.Shelf
variable {a:Act} {listed:Array Bool} {ops:Array Oper} {k:IntKind} {ps rs:List (Int × List Int)} {YN xs ys:List Int} {L:List Value} {B base c cap dl fuel g hi i j lo lo' mb n q tb:Nat} {oi:Oper} {ao:Option Addr} {o o':Option Nat} {P:Program} {e t te:TypeId} {u v vd vp x y:Value} {W W' w w' w1 w2:World}
theorem yt (r:Int) (h0:0≤r) (h1:r<65536):bits .and .u16 r 127=r % 128:=by
 rw [u16_and r 127 h0 h1 (by omega) (by omega)];rw [show ((127:Int).toNat)=127 from rfl,nat_mask7];omega
theorem IS (x:Int) (h0:0≤x) (h1:x<128):bits .or .u8 128 x=128+x:=by
 rw [u8_or 128 x (by omega) (by omega) h0 (by omega)];rw [show ((128:Int).toNat)=128 from rfl,nat_join 7 128 x.toNat (by decide) (by simp only [Nat.reducePow];omega)];omega
theorem OI (w:World) (r:Int) (h0:0≤r) (h1:r<65536):Calls Tryz.prog 203 #[.int .u16 r] w fun e w'=>e=.returned (.int .u8 (128+r % 128))∧w'=w:=by
 have e1:=yt r h0 h1;have e2:=IS (r % 128) (by omega) (by omega)
 go_enter Tryz.func203,Tryz.ntmps203
 go_wp2;go_ret;exact ⟨rfl,rfl⟩
def Sn (xs:List Int):Prop:=∀x ∈ xs,0≤x∧x<256
theorem DU (h:Sn xs) (k:Nat):∃x:Nat,x<256∧xs.getD k 0=(x:Int):=by
 by_cases hk:k<xs.length
 · have:=h xs[k] (YP hk)
   exact ⟨xs[k].toNat,by omega,by simp only [List.getD,ZF hk,Xf];omega⟩
 exact ⟨0,by omega,by simp [List.getD,show xs.length≤k by omega]⟩
theorem pj (R x A N:Nat) (hx:x<256) (hA:A≤6) (h:R % 2 ^ A=N % 2 ^ A) :
    ∃R':Nat,R'<65536∧bits .or .u16 (IntKind.u16.wrap ((R:Int)*256)) (x:Int)=(R':Int)∧R' % 2 ^ (A+8)=(N*256+x) % 2 ^ (A+8):=by
 have hs:=yu R N x A 8 16 (by omega) h
 simp only [show (2:Nat) ^ 8=256 from rfl,show (2:Nat) ^ 16=65536 from rfl] at hs
 refine ⟨R*256 % 65536+x,by omega,?_,hs⟩;have e:IntKind.u16.wrap ((R:Int)*256)=((R*256 % 65536:Nat):Int):=by rw [Te];omega
 rw [e,u16_or_nat _ _ (by omega) (by omega),nat_join 8 (R*256 % 65536) x (by simp only [Nat.reducePow];omega) (by simpa using hx)]
theorem DT (R A:Nat):(0:Int)≤(R:Int) / 2 ^ A:=Int.ediv_nonneg (by omega) (by exact_mod_cast Zu _)
theorem NU (R A:Nat):(R:Int) / 2 ^ A=((R / 2 ^ A:Nat):Int):=by simp
theorem pi (R A:Nat) (h:R<65536):(R:Int) / 2 ^ A<65536:=by
 rw [NU];have:=Uk R (2 ^ A);omega
theorem tf (xs:List Int) (R A k q:Nat) (hk:k≤xs.length) (hq:7*q+(A+7)=8*k) (h:R % 2 ^ (A+7)=Qr 8 (xs.take k) % 2 ^ (A+7)) :
    (128+(R:Int) / 2 ^ A % 128)=((128+tj 8 7 xs q:Nat):Int):=by
 rw [NU,yv 8 7 xs k q hk (by omega),show 8*k - 7*(q+1)=A by omega,←ti R _ A 7 h]
 simp only [Nat.reducePow]
 omega
theorem yr (x:Int):0≤IntKind.u16.wrap x∧IntKind.u16.wrap x<65536:=by rw [Te];omega
theorem yq (R N A:Nat) (hA:A≤7) (h:R % 2 ^ A=N % 2 ^ A):(128+IntKind.u16.wrap ((R:Int)*2 ^ (7 - A)) % 128)=((128+N % 2 ^ A*2 ^ (7 - A):Nat):Int):=by
 have e:(R:Int)*2 ^ (7 - A)=((R*2 ^ (7 - A):Nat):Int):=by simp
 rw [e,Te];have e2:R*2 ^ (7 - A) % 128=N % 2 ^ A*2 ^ (7 - A):=by
  have e3:128=2 ^ A*2 ^ (7 - A):=by rw [←Uv,show A+(7 - A)=7 by omega]
  conv=>lhs;rw [e3]
  rw [U4,h]
 rw [←e2];generalize R*2 ^ (7 - A)=z;omega
def yp (xs:List Int) (q:Nat):List Int:=(List.range q).map (fun j=>((128+tj 8 7 xs j:Nat):Int))
theorem Ch (xs:List Int) (q:Nat):(yp xs q).length=q:=by simp [yp]
theorem s8 (h:7*q+0=8*xs.length):pk xs=yp xs q:=by
 unfold pk yp;rw [show 8*xs.length / 7=q by omega,Z0 (by omega),YD]
theorem pd {A:Nat} (h:7*q+A=8*xs.length) (h0:0<A) (h6:A≤6):pk xs=yp xs q++[((128+Qr 8 xs % 2 ^ A*2 ^ (7 - A):Nat):Int)]:=by
 unfold pk yp;rw [show 8*xs.length / 7=q by omega,show 8*xs.length % 7=A by omega,Z1 (by omega)]
theorem QY (hl:ys.length=q) (he:xs=ys) (h:w.ownsRow base e 1 v q (ys.map (Value.int k))):Own k e w base v xs:=by
 subst he;unfold Own;rw [hl];exact h
theorem IR (w:World) (b o n cap:Nat) (xs:List Int) (hx:xs.length=n) (hb:b<w.heap.size) (hc:∀i,i<n→w.cell? ⟨b,o+i,none⟩=some (.int .u8 (xs.getD i 0))) (hby:Sn xs) (hn:n≤1099511627776) :
    Calls Tryz.prog 172 #[.slice (some ⟨b,o,none⟩) n cap] w fun e w'=>∃v',e=.returned v'∧Own .u8 5 w' w.heap.size v' (pk xs)∧Zi w w':=by
 obtain ⟨i0,hi,hz0,hz1,hz2⟩:=YM Tryz.QZ;have HC:=ZU hc;have HX:=ZU hx;clear hc hx
 go_enter Tryz.func172,Tryz.ntmps172
 go_wp2_with (at_make;refine Vh _ rfl _ _ 22 rfl w.heap.size 5 i0 (.int .u8 0) 1 Tryz.underlying22 hi hz0 hz1 _ _ _ ((8*n+6) / 7) rfl rfl ?b1 ?b2 ?b3 ?b4 ?_)
 case b1=>omega
 case b2=>rw [hz2];omega
 case b3=>unfold maxLen;omega
 case b4=>exact YR
 intro w1 hown hgrow;go_wp2;have HO:=ZU hown;have HG:=ZU (Yy.grown hgrow YR (by simp));clear hown hgrow
 go_loopw [3,4,5,16] (fun v r a i wr=>∃k q A R:Nat,k≤n∧i=.int .i64 k∧A≤6∧Hid (7*q+A=8*k)∧a=.int .u8 A∧R<65536∧r=.int .u16 R∧Hid (R % 2 ^ A=Qr 8 (xs.take k) % 2 ^ A) ∧
     v=.slice (some ⟨w.heap.size,0,none⟩) q ((8*n+6) / 7)∧wr.ownsRow w.heap.size 5 1 (.slice (some ⟨w.heap.size,0,none⟩) q ((8*n+6) / 7)) q ((yp xs q).map (Value.int .u8))∧Zi w wr) (fun _ _ _ i _=>n - (intOf i).toNat)
 case atStart=>exact ⟨0,0,0,0,Zu _,rfl,by omega,rfl,rfl,by omega,rfl,rfl,rfl,HO.out,HG.out⟩
 case round =>
  obtain ⟨k,q,A,R,hk,rfl,hA,HQ,rfl,hR,rfl,HR,rfl,ho,hg⟩:=hrel
  by_cases hlt:k<n
  · obtain ⟨x,hx,hxe⟩:=DU hby k
    have hsrc:wr.cell? ⟨b,o+k,none⟩=some (.int .u8 (x:Int)):=by rw [←hxe];exact (hg.cell (p:=⟨b,o+k,none⟩) hb).trans (HC.out k hlt)
    have Rj:(k:Int)<(n:Int):=by omega
    obtain ⟨R',hR',Zx,M⟩:=pj R x A (Qr 8 (xs.take k)) hx hA HR.out;have HN:Hid (Qr 8 (xs.take (k+1))=Qr 8 (xs.take k)*256+x):=by
     have:=PL 8 xs k (by rw [HX.out];exact hlt);rw [hxe] at this;show _=_;rw [this,Ze,SV (show x<2 ^ 8 from hx)]
    rw [←HN.out] at M;have HR2:=ZU M;have lW:Hid (7*q+(A+8)=8*(k+1)):=by have:=HQ.out;show _=_;omega
    clear hxe M HR HN HQ;go_wp2
    go_loopw [3,5] (fun v a wr=>∃q A:Nat,A≤14∧Hid (7*q+A=8*(k+1))∧a=.int .u8 A∧Hid (R' % 2 ^ A=Qr 8 (xs.take (k+1)) % 2 ^ A) ∧
        v=.slice (some ⟨w.heap.size,0,none⟩) q ((8*n+6) / 7)∧wr.ownsRow w.heap.size 5 1 (.slice (some ⟨w.heap.size,0,none⟩) q ((8*n+6) / 7)) q ((yp xs q).map (Value.int .u8))∧Zi w wr) (fun _ a _=>(intOf a).toNat)
    case atStart=>exact ⟨q,A+8,by omega,lW,by go_num,HR2,rfl,ho,hg⟩
    case round =>
     clear lW HR2 ho hg hsrc Zx;obtain ⟨q',A',hA',Z',rfl,M,rfl,ho,hg⟩:=hrel
     by_cases h7:7≤A'
     · obtain ⟨A2,rfl⟩:∃A2,A'=A2+7:=⟨A' - 7,by omega⟩
       have Y2:(7:Int)≤((A2+7:Nat):Int):=by omega
       have HD:=ZU (tf xs R' A2 (k+1) q' (by rw [HX.out];omega) Z'.out M.out);have hcap:q'+1≤(8*n+6) / 7:=by have:=Z'.out;omega
       go_wp2_with fail
       refine (OI _ _ (DT R' A2) (pi R' A2 hR')).mono ?_;rintro e wr ⟨rfl,rfl⟩
       go_wp2_with (at_builtin;refine WG _ rfl _ _ 22 rfl w.heap.size 5 i0 1 Tryz.underlying22 hi hz1 w.heap.size q' ((8*n+6) / 7) _ rfl (ho.alloc _) ⟨wr.heap.size,0,none⟩ 1 1 [.int .u8 (128+(R':Int) / 2 ^ A2 % 128)] rfl rfl (XW _ _ _) (by intro u hu;simp at hu;subst hu;rfl) hcap ?_)
       intro w2 ho2 hg2;have DR:Hid (w2.ownsRow w.heap.size 5 1 (.slice (some ⟨w.heap.size,0,none⟩) (q'+1) ((8*n+6) / 7)) (q'+1) ((yp xs (q'+1)).map (Value.int .u8))):=by
        rw [HD.out] at ho2;unfold yp;rw [DV,Y6];exact ho2
       have HG2:=ZU ((hg.alloc (hg.size) _).grown hg2 (by have:=hg.size;simp;omega) (by intro k hk;simp at hk;omega));clear ho2 hg2 ho hg;go_wp2
       go_roundw
       case rel=>exact ⟨q'+1,A2,by omega,(by have:=Z'.out;show _=_;omega),by go_num,th (by omega) M.out,rfl,DR.out,HG2.out⟩
       case measure=>simp [intOf];omega
     have Y2:((A':Nat):Int)<7:=by omega
     go_wp2
     go_roundw
     case rel=>exact ⟨k+1,q',A',R',by omega,by go_num,by omega,Z',rfl,hR',rfl,M,rfl,ho,hg⟩
     case measure=>simp [intOf];omega
  have hkn:k=n:=by omega
  subst hkn
  by_cases hA0:A=0
  · subst hA0
    go_wp2;go_ret;exact ⟨_,rfl,QY (Ch xs q) (s8 (by rw [HX.out];exact HQ.out)) ho,hg⟩
  have hA1:(0:Int)<(A:Int):=by omega
  have HD:Hid ((128+IntKind.u16.wrap ((R:Int)*2 ^ (7 - A)) % 128)=((128+Qr 8 xs % 2 ^ A*2 ^ (7 - A):Nat):Int)):=yq R _ A (by omega) (by have:=HR.out;rw [Y8 (by rw [HX.out];exact YR)] at this;exact this);have hcap:q+1≤(8*k+6) / 7:=by have:=HQ.out;omega
  go_wp2_with fail
  refine (OI _ _ (yr _).1 (yr _).2).mono ?_;rintro e wr ⟨rfl,rfl⟩
  go_wp2_with (at_builtin;refine WG _ rfl _ _ 22 rfl w.heap.size 5 i0 1 Tryz.underlying22 hi hz1 w.heap.size q ((8*k+6) / 7) _ rfl (ho.alloc _) ⟨wr.heap.size,0,none⟩ 1 1 [.int .u8 (128+IntKind.u16.wrap ((R:Int)*2 ^ (7 - A)) % 128)] rfl rfl (XW _ _ _) (by intro u hu;simp at hu;subst hu;rfl) hcap ?_)
  intro w2 ho2 hg2;have DR:Hid (Own .u8 5 w2 w.heap.size (.slice (some ⟨w.heap.size,0,none⟩) (q+1) ((8*k+6) / 7)) (pk xs)):=by
   rw [HD.out] at ho2;exact QY (q:=q+1) (ys:=yp xs q++[((128+Qr 8 xs % 2 ^ A*2 ^ (7 - A):Nat):Int)]) (by simp [Ch]) (pd (by rw [HX.out];exact HQ.out) (by omega) (by omega)) (by rw [Y6];exact ho2)
  have HG2:=ZU ((hg.alloc (hg.size) _).grown hg2 (by have:=hg.size;simp;omega) (by intro k hk;simp at hk;omega));clear ho2 hg2 ho hg;go_wp2;go_ret;exact ⟨_,rfl,DR.out,HG2.out⟩
theorem IQ (w:World) (ao:Option Addr) (cap:Nat) :
    Calls Tryz.prog 172 #[.slice ao 0 cap] w fun e w'=>∃v',e=.returned v'∧Own .u8 5 w' w.heap.size v' []∧Zi w w':=by
 obtain ⟨i0,hi,hz0,hz1,hz2⟩:=YM Tryz.QZ
 go_enter Tryz.func172,Tryz.ntmps172
 go_wp2_with (at_make;refine Vh _ rfl _ _ 22 rfl w.heap.size 5 i0 (.int .u8 0) 1 Tryz.underlying22 hi hz0 hz1 _ _ _ 0 rfl rfl ?b1 ?b2 ?b3 ?b4 ?_)
 case b1=>rfl
 case b2=>rw [hz2];omega
 case b3=>unfold maxLen;omega
 case b4=>exact YR
 intro w1 hown hgrow;have HO:=ZU hown;have HG:=ZU (Yy.grown hgrow YR (by simp));clear hown hgrow;go_wp2
 go_rounds 1
 go_ret;exact ⟨_,rfl,HO.out,HG.out⟩
theorem IN (w:World) (v:Value) (xs:List Int) (h:Rd .u8 w v xs) (hby:Sn xs) (hn:xs.length≤1099511627776) :
    Calls Tryz.prog 172 #[v] w fun e w'=>∃v',e=.returned v'∧Own .u8 5 w' w.heap.size v' (pk xs)∧Zi w w':=by
 obtain ⟨ao,cap,rfl,h1,h2,h3⟩:=h
 rcases h3 with rfl | ⟨b,o,rfl,hb,hc⟩
 · exact IQ w ao cap
 exact IR w b o xs.length cap xs rfl hb hc hby hn
theorem To (h:Rd .u8 w v xs):(convert 22 9 v).run Tryz.prog w=.ok (.string (strOfNums xs)) w:=by
 obtain ⟨ao,cap,rfl,h1,h2,h3⟩:=h
 rcases h3 with rfl | ⟨b,o,rfl,hb,hc⟩
 · cases ao with
   | none=>exact run_convert_bytes_nil w _ _ Tryz.underlying22 Tryz.underlying5 0 cap _ Tryz.underlying9
   | some a =>
    rw [run_convert_bytes_string w _ _ _ _ _ _ Tryz.underlying22 Tryz.underlying5 Tryz.underlying9];exact run_bytesToString w a 0 cap [] (by simp [loadCells,loadCellsFrom])
 exact run_convert_bytes_arg w _ _ Tryz.underlying22 Tryz.underlying5 b o _ cap xs rfl hc _ Tryz.underlying9
theorem DQ (hx:Sn xs) (hy:Sn ys) (h:xs.map (fun n=>UInt8.ofNat n.toNat)=ys.map (fun n=>UInt8.ofNat n.toNat)):xs=ys:=by
 induction xs generalizing ys with
 | nil=>cases ys with
  | nil=>rfl
  | cons y ys=>simp at h
 | cons x xs ih=>cases ys with
  | nil=>simp at h
  | cons y ys =>
   simp only [Yl,SG] at h
   have bx:=hx x (by simp);have by':=hy y (by simp);have e:x=y:=by
    have h1:=ZM UInt8.toNat h.1
    simp only [UInt8.toNat_ofNat'] at h1
    omega
   rw [e,ih (fun z hz=>hx z (by simp [hz])) (fun z hz=>hy z (by simp [hz])) h.2]
theorem same_iff (hx:Sn xs) (hy:Sn ys):((strOfNums xs).toList == (strOfNums ys).toList)=decide (xs=ys):=by
 rw [YG,YG,strOfNums_data,strOfNums_data]
 by_cases h:xs=ys
 · subst h;simp
 rw [Zo h,YH];exact fun e=>h (DQ hx hy e)
theorem Lz (w:World) (va vb:Value) (xs ys:List Int) (ha:Rd .u8 w va xs) (hb:Rd .u8 w vb ys) (hx:Sn xs) (hy:Sn ys) :
    Calls Tryz.prog 68 #[va,vb] w fun e w'=>e=.returned (.bool (decide (xs=ys)))∧w'=w:=by
 have h1:=To ha;have h2:=To hb;have HS:=ZU (same_iff hx hy);clear ha hb
 go_enter Tryz.func68,Tryz.ntmps68
 go_wp2;go_ret;exact ⟨Wt HS.out,rfl⟩
theorem lh (hb:Zi W w1):(∀b o,b<W.heap.size→w1.cell? ⟨b,o,none⟩=W.cell? ⟨b,o,none⟩)∧(∀b o,b<W.heap.size→w1.frozen? ⟨b,o,none⟩=W.frozen? ⟨b,o,none⟩) :=
 ⟨fun b o h=>hb.cell (p:=⟨b,o,none⟩) h,fun b o h=>hb.frozen (p:=⟨b,o,none⟩) h⟩
theorem Own.VA (h:Own k e w base v xs) {a:Addr} (ha:a.block<base) (u:Value):Own k e (w.setCell a u) base v xs:=ownsRow_setCell_below h ha u
def g8 (xs:List Int) (q t:Nat):Nat:=Qr 7 xs / 2 ^ (7*xs.length - (8*q+t)) % 2 ^ t
def zeros (n:Nat):List Int:=List.replicate n 0
theorem Xl (n:Nat):(zeros n).length=n:=by simp [zeros]
def o0 (k:Int):Nat:=if 1≤k∧k≤300 then k.toNat*64 else 0
theorem Ly (hb:Below (w.alloc (.cells #[x,y] t)).heap.size (w.alloc (.cells #[x,y] t)) w1) :
    w1.cell? ⟨w.heap.size,0,none⟩=some x∧w1.cell? ⟨w.heap.size,1,none⟩=some y∧w1.frozen? ⟨w.heap.size,0,none⟩=false∧w1.frozen? ⟨w.heap.size,1,none⟩=false∧w.heap.size<w1.heap.size:=by
 obtain ⟨hc,hf⟩:=lh hb;have hs:=hb.size
 simp at hs
 refine ⟨?_,?_,?_,?_,by omega⟩
 · rw [hc _ _ (by simp)];simp
 · rw [hc _ _ (by simp)];simp
 · rw [hf _ _ (by simp)];simp
 rw [hf _ _ (by simp)];simp
theorem LY (w:World) (k:Int) :
    Calls Tryz.prog 44 #[.int .i64 k] w fun e w'=>∃v',e=.returned (.agg #[v',.slice none 0 0])∧Own .u8 5 w' w.heap.size v' (zeros (o0 k))∧Zi w w':=by
 obtain ⟨i0,hi,hz0,hz1,hz2⟩:=YM Tryz.QZ
 by_cases h1:k<1
 · have e:o0 k=0:=Z1 (by omega)
   rw [e]
   go_enter Tryz.func44,Tryz.ntmps44
   go_wp2;exact ZW (v:=.agg #[.slice none 0 0,.slice none 0 0]) (by simp [results,Tryz.results44,go_sem]) rfl ⟨_,rfl,ZH _ _ _ _,Yy.alloc YR _⟩
 by_cases h2:300<k
 · have e:o0 k=0:=Z1 (by omega)
   rw [e]
   go_enter Tryz.func44,Tryz.ntmps44
   go_wp2;exact ZW (v:=.agg #[.slice none 0 0,.slice none 0 0]) (by simp [results,Tryz.results44,go_sem]) rfl ⟨_,rfl,ZH _ _ _ _,Yy.alloc YR _⟩
 obtain ⟨n,rfl⟩:∃n:Nat,k=(n:Int):=⟨k.toNat,by omega⟩;have e:o0 (n:Int)=n*64:=by unfold o0;rw [Z0 (by omega),Ze]
 rw [e];clear e
 go_enter Tryz.func44,Tryz.ntmps44
 go_wp2_with (at_make;go_must (refine wpList_make_full _ rfl _ _ 22 rfl (w.heap.size+1) 5 i0 (.int .u8 0) 1 Tryz.underlying22 hi hz0 hz1 _ _ _ _ (n*64) rfl rfl ?a1 ?a2 ?b2 ?b3 ?b4 ?_))
 case b2=>omega
 case b3=>unfold maxLen;omega
 intro w1 hown hgrow;have B1:Below (w.alloc (.cells #[.slice none 0 0,.slice none 0 0] 52)).heap.size (w.alloc (.cells #[.slice none 0 0,.slice none 0 0] 52)) w1:=Yy.grown hgrow YR (by simp);obtain ⟨c0,c1,f0,f1,z1⟩:=Ly B1;have HB:Hid (Zi w w1):=(Yy.alloc YR _).trans (B1.mono (by simp));have HO:Hid (Own .u8 5 w1 (w.heap.size+1) (.slice (some ⟨w.heap.size+1,0,none⟩) (n*64) (n*64)) (List.replicate (n*64) 0)):=AO (by simpa using hown);clear hown hgrow B1;go_wp2;refine ZW (v:=.agg #[.slice (some ⟨w.heap.size+1,0,none⟩) (n*64) (n*64),.slice none 0 0]) (by simp [results,Tryz.results44,go_sem,c0,c1]) rfl ⟨_,rfl,?_,?_⟩
 · exact (Own.VA (Own.VA HO.out (a:=⟨w.heap.size,0,none⟩) (by simp) _) (a:=⟨w.heap.size,1,none⟩) (by simp) _).mono (by omega)
 exact (HB.out.setCell YR _).setCell YR _
def Vg (w:World) (b:Nat) (x y:Value):Prop:=b<w.heap.size∧w.cell? ⟨b,0,none⟩=some x∧w.cell? ⟨b,1,none⟩=some y
theorem Vg.below {b:Nat} (h:Vg w b x y) (hb:Zi w w'):Vg w' b x y :=
 ⟨ZY h.1 hb.size,(hb.cell (p:=⟨b,0,none⟩) h.1).trans h.2.1,(hb.cell (p:=⟨b,1,none⟩) h.1).trans h.2.2⟩
theorem Vg.other {b:Nat} {row:Option Nat} (h:Vg w b x y) (hg:w.grownBy w' row) (hne:some b≠row):Vg w' b x y :=
 ⟨ZY h.1 hg.size,hg.cell h.2.1 hne,hg.cell h.2.2 hne⟩
theorem Vg.new (w:World) (x y:Value) (t:TypeId):Vg (w.alloc (.cells #[x,y] t)) w.heap.size x y:=⟨by simp,by simp,by simp⟩
def pB (ps:List (Int × List Int)) (i:Nat):Int:=(ps.getD i (0,[])).1
def pD (ps:List (Int × List Int)) (i:Nat):List Int:=(ps.getD i (0,[])).2
def J8 (w:World) (v:Value) (ps:List (Int × List Int)):Prop :=
 ∃ao cap,v=.slice ao ps.length cap∧ps.length≤cap∧cap≤maxLen ∧
  (ps=[]∨∃b off,ao=some ⟨b,off,none⟩∧b<w.heap.size∧∀i,i<ps.length →
   w.cell? ⟨b,off+i*2,none⟩=some (.int .i64 (pB ps i))∧∃da c,w.cell? ⟨b,off+i*2+1,none⟩=some (.slice da (pD ps i).length c)∧Rd .u8 w (.slice da (pD ps i).length c) (pD ps i))
theorem J8.len (h:J8 w v ps):∃ao cap,v=.slice ao ps.length cap∧ps.length≤cap∧cap≤maxLen:=by
 obtain ⟨ao,cap,h0,h1,h2,_⟩:=h;exact ⟨ao,cap,h0,h1,h2⟩
theorem J8.below (h:J8 w v ps) (hb:Zi w w'):J8 w' v ps:=by
 obtain ⟨ao,cap,rfl,h1,h2,h3⟩:=h;refine ⟨ao,cap,rfl,h1,h2,?_⟩
 rcases h3 with h3 | ⟨b,off,rfl,hlt,hc⟩
 · exact .inl h3
 refine .inr ⟨b,off,rfl,ZY hlt hb.size,fun i hi=>?_⟩;obtain ⟨c1,da,c,c2,r⟩:=hc i hi;exact ⟨(hb.cell (p:=⟨b,_,none⟩) hlt).trans c1,da,c,(hb.cell (p:=⟨b,_,none⟩) hlt).trans c2,r.below hb⟩
def tot (ps:List (Int × List Int)):Nat:=(ps.map fun p=>p.2.length).sum
def OQ (n:Nat) (f:Nat→Int) (g:Nat→Value):List Value:=(List.range n).flatMap fun i=>[.int .i64 (f i),g i]
theorem MU (n:Nat) (f:Nat→Int) (g:Nat→Value):OQ (n+1) f g=OQ n f g++[.int .i64 (f n),g n]:=by
 unfold OQ;rw [SD,XZ];simp
theorem PK (n:Nat) (f:Nat→Int) (g:Nat→Value):(OQ n f g).length=n*2:=by
 induction n with
 | zero=>rfl
 | succ n ih=>rw [MU,ZZ,ih];simp;omega
theorem GF (n:Nat) (f:Nat→Int) (g:Nat→Value) (j:Nat) (h:j<n*2):(OQ n f g)[j]?=some (if j % 2=0 then .int .i64 (f (j / 2)) else g (j / 2)):=by
 induction n with
 | zero=>omega
 | succ n ih =>
  rw [MU]
  by_cases hj:j<n*2
  · rw [Zy (by rw [PK];exact hj),ih hj]
  rw [Zv (by rw [PK];omega),PK]
  by_cases e:j=n*2
  · subst e
    simp [show n*2 % 2=0 by omega]
  have e2:j=n*2+1:=by omega
  subst e2;rw [Z1 (by omega),show n*2+1 - n*2=1 by omega,show (n*2+1) / 2=n by omega]
  rfl
theorem DP {f f':Nat→Int} {g g':Nat→Value} (hf:∀i,i<n→f i=f' i) (hg:∀i,i<n→g i=g' i):OQ n f g=OQ n f' g':=by
 unfold OQ;rw [List.flatMap_def,List.flatMap_def]
 congr 1
 apply Vw;intro i hi;have hi:=Yb.1 hi;rw [hf i hi,hg i hi]
def tN (a b:Value):Prop:=a.ownBlock=none∨a.ownBlock≠b.ownBlock
theorem Own.slice (h:Own k e w lo v xs):∃a c,v=.slice a xs.length c:=by
 obtain ⟨a,c,h0,_⟩:=h.rd.len;exact ⟨a,c,h0⟩
theorem Own.setAt (h:Own k e w lo v xs) (hne:v.ownBlock=none∨v.ownBlock≠some g):Own k e (w.setCell ⟨g,j,none⟩ u) lo v xs :=
 h.other (grownBy_set w w g j u (Zz _ _)) hne
def QF (w:World) (lo:Nat) (v:Value) (xs:List Int):Prop:=∃te,Own .u8 te w lo v xs
theorem Own.b (h:Own .u8 te w lo v xs):QF w lo v xs:=⟨te,h⟩
theorem QF.rd (h:QF w lo v xs):Rd .u8 w v xs:=h.elim fun _ h=>h.rd
theorem QF.below (h:QF w lo v xs) (hb:Zi w w'):QF w' lo v xs:=h.elim fun _ h=>⟨_,h.below hb⟩
theorem QF.mono (h:QF w lo v xs) (hl:lo'≤lo):QF w lo' v xs:=h.elim fun _ h=>⟨_,h.mono hl⟩
theorem QF.other {row:Option Nat} (h:QF w lo v xs) (hg:w.grownBy w' row) (hne:v.ownBlock=none∨v.ownBlock≠row):QF w' lo v xs:=h.elim fun _ h=>⟨_,h.other hg hne⟩
theorem QF.lt (h:QF w lo v xs):∀g,v.ownBlock=some g→lo≤g∧g<w.heap.size:=h.elim fun _ h=>h.lt
theorem QF.slice (h:QF w lo v xs):∃a c,v=.slice a xs.length c:=h.elim fun _ h=>h.slice
theorem QF.setAt (h:QF w lo v xs) (hne:v.ownBlock=none∨v.ownBlock≠some g):QF (w.setCell ⟨g,j,none⟩ u) lo v xs:=h.elim fun _ h=>⟨_,h.setAt hne⟩
def Lx (e:TypeId) (w:World) (lo:Nat) (v:Value) (ps:List (Int × List Int)) (dv:Nat→Value):Prop :=
 w.ownsRow lo e 2 v ps.length (OQ ps.length (pB ps) dv)∧(∀i,i<ps.length→QF w lo (dv i) (pD ps i)) ∧
 (∀i j,i<ps.length→j<ps.length→i≠j→tN (dv i) (dv j))∧∀i,i<ps.length→tN (dv i) v
theorem Lx.rd {dv:Nat→Value} (h:Lx e w lo v ps dv):J8 w v ps:=by
 obtain ⟨ho,hd,_,_⟩:=h
 rcases ho.2 with ⟨rfl,h0⟩ | ⟨g,cap,cur,rfl,hb,hg,hn,hm,hs,ht⟩
 · have:ps=[]:=Zg h0
   subst this;exact ⟨none,0,rfl,YR,Zu _,.inl rfl⟩
 refine ⟨_,cap,rfl,hn,hm,.inr ⟨g,0,rfl,(Z3.1 hg).1,fun i hi=>?_⟩⟩;have c1:=Ys ho (g:=g) rfl (i*2) _ (GF _ _ _ _ (by omega));have c2:=Ys ho (g:=g) rfl (i*2+1) _ (GF _ _ _ _ (by omega));rw [YY] at c1 c2;rw [Z0 (by omega),show i*2 / 2=i by omega] at c1;rw [Z1 (by omega),show (i*2+1) / 2=i by omega] at c2;obtain ⟨a,c,e⟩:=(hd i hi).slice;refine ⟨c1,a,c,?_,?_⟩
 · rw [←e,Xu];exact c2
 rw [←e];exact (hd i hi).rd
theorem Lx.below {dv:Nat→Value} (h:Lx e w lo v ps dv) (hb:Zi w w'):Lx e w' lo v ps dv:=by
 obtain ⟨ho,hd,h3,h4⟩:=h;refine ⟨⟨ho.1,?_⟩,fun i hi=>(hd i hi).below hb,h3,h4⟩
 rcases ho.2 with hn | ⟨g,cap,cur,rfl,hbg,hgg,rest⟩
 · exact .inl hn
 exact .inr ⟨g,cap,cur,rfl,hbg,by rw [hb.block g (Z3.1 hgg).1];exact hgg,rest⟩
theorem Lx.mono {dv:Nat→Value} (h:Lx e w lo v ps dv) (hl:lo'≤lo):Lx e w lo' v ps dv:=by
 obtain ⟨ho,hd,h3,h4⟩:=h;refine ⟨⟨ho.1,?_⟩,fun i hi=>(hd i hi).mono hl,h3,h4⟩
 rcases ho.2 with hn | ⟨g,cap,cur,rfl,hbg,rest⟩
 · exact .inl hn
 exact .inr ⟨g,cap,cur,rfl,by omega,rest⟩
theorem Tryz.qp:(Tryz.prog.info? 132).map (fun i=>(i.zero,i.size,i.bytes))=some (some (.agg #[.int .i64 0,.slice none 0 0]),2,32):=by kernel_rfl
def QB (dv:Nat→Value) (k:Nat) (v:Value) (i:Nat):Value:=if i=k then v else dv i
theorem Lx.slice {dv:Nat→Value} (h:Lx e w lo v ps dv):∃a c,v=.slice a ps.length c:=by
 obtain ⟨a,c,h0,_⟩:=h.rd.len;exact ⟨a,c,h0⟩
def lV (n:Nat) (ps:List (Int × List Int)) (i:Nat):Prop:=0≤pB ps i∧pB ps i<n∧(pD ps i).length=64
def sZ (dl:Nat) (ps:List (Int × List Int)):Prop:=dl % 64=0∧1≤dl / 64∧dl / 64≤300∧ps.length≤2000∧∀i,i<ps.length→lV (dl / 64) ps i
def oZ (n:Nat) (ps:List (Int × List Int)) (i:Nat):Bool:=decide (0≤pB ps i) && decide (pB ps i<n) && decide ((pD ps i).length=64)
theorem yo (n:Nat) (ps:List (Int × List Int)) (i:Nat):oZ n ps i=true↔lV n ps i:=by unfold oZ lV;simp [and_assoc]
def QX (dl:Nat) (ps:List (Int × List Int)):Bool:=decide (dl % 64=0) && decide (1≤dl / 64) && decide (dl / 64≤300) && decide (ps.length≤2000) && (List.range ps.length).all (oZ (dl / 64) ps)
theorem Su (dl:Nat) (ps:List (Int × List Int)):QX dl ps=true↔sZ dl ps:=by
 unfold QX sZ
 simp only [ZA,Zj,Yw,Yb,yo,and_assoc]
theorem yn (h:sZ dl ps):QX dl ps=true:=(Su dl ps).2 h
theorem Cg (h:¬sZ dl ps):QX dl ps=false:=by
 cases e:QX dl ps with
 | false=>rfl
 | true=>exact absurd ((Su dl ps).1 e) h
theorem Ss (w:World) (ao:Option Addr) (n cap:Nat) (vp:Value) (hn:n≤1048576) :
    Calls Tryz.prog 81 #[.agg #[.slice ao n cap,vp]] w (Wj w (.int .i64 ((n / 64:Nat):Int))):=by
 go_enter Tryz.func81,Tryz.ntmps81
 go_wp2;go_ret;exact ⟨Pe (by omega),Yy.alloc YR _⟩
theorem IL (w:World) (ao:Option Addr) (n cap:Nat) (vp:Value) (x:Int) (hn:n≤1048576) :
    Calls Tryz.prog 130 #[.agg #[.slice ao n cap,vp],.int .i64 x] w (Wj w (.bool (decide (0≤x∧x<(n / 64:Nat))))):=by
 have B0:Hid (Zi w (w.alloc (.cells #[.slice ao n cap,vp] 52))):=Yy.alloc YR _
 by_cases h0:0≤x
 · go_enter Tryz.func130,Tryz.ntmps130
   go_wp2_with fail
   refine (Ss _ ao n cap vp hn).mono ?_;rintro e w1 ⟨rfl,b1⟩;have B1:=ZU (B0.out.trans (b1.mono (by simp)));generalize hm:n / 64=m at *;have HM:=ZU hm
   by_cases h1:x<(m:Int)
   · go_wp2
     go_ret;exact ⟨Wt (by have:=HM.out;symm;rw [Zj];omega),B1.out⟩
   go_wp2;go_ret;exact ⟨Wt (by have:=HM.out;symm;rw [UQ];omega),B1.out⟩
 have hd:decide (0≤x)=false:=by simpa using h0
 go_enter Tryz.func130,Tryz.ntmps130
 go_wp2;go_ret;exact ⟨Wt (by symm;first | rfl | (rw [Xq];omega)),B0.out⟩
def IK (w:World) (b o n:Nat) (ps:List (Int × List Int)):Prop :=
 ∀i,i<n→w.cell? ⟨b,o+i*2,none⟩=some (.int .i64 (pB ps i))∧∃da c,w.cell? ⟨b,o+i*2+1,none⟩=some (.slice da (pD ps i).length c)
theorem J8.cells (h:J8 w (.slice ao n cap) ps) (hn:0<n):∃b o,ao=some ⟨b,o,none⟩∧b<w.heap.size∧IK w b o n ps∧ps.length=n:=by
 obtain ⟨oY,cap',e,h1,h2,h3⟩:=h
 simp only [ZC] at e
 obtain ⟨rfl,rfl,rfl⟩:=e
 rcases h3 with rfl | ⟨b,o,rfl,hb,hc⟩
 · simp at hn
 exact ⟨b,o,rfl,hb,fun i hi=>⟨(hc i hi).1,by obtain ⟨da,c,h,_⟩:=(hc i hi).2;exact ⟨da,c,h⟩⟩,rfl⟩
theorem IK.below {b o:Nat} (h:IK w b o n ps) (hb:b<w.heap.size) (hB:Zi w w'):IK w' b o n ps :=
 fun i hi=>⟨(hB.cell (p:=⟨b,_,none⟩) hb).trans (h i hi).1,by obtain ⟨da,c,e⟩:=(h i hi).2;exact ⟨da,c,(hB.cell (p:=⟨b,_,none⟩) hb).trans e⟩⟩
theorem Lw (w:World) (va vb:Option Addr) (dl ca n cb:Nat) (hd:dl≤1048576) (hn:n≤1048576) (h:¬(dl % 64=0∧1≤dl / 64∧dl / 64≤300∧n≤2000)) :
    Calls Tryz.prog 80 #[.agg #[.slice va dl ca,.slice vb n cb]] w (Wj w (.bool false)):=by
 have B0:Hid (Zi w (w.alloc (.cells #[.slice va dl ca,.slice vb n cb] 52))):=Yy.alloc YR _
 by_cases h1:dl % 64=0
 · have t1:(((dl:Int) % 64) != 0)=false:=by rw [Uo];omega
   have HX:=ZU h;have H1:=ZU h1
   go_enter Tryz.func80,Tryz.ntmps80
   go_wp2_with fail
   refine (Ss _ va dl ca _ hd).mono ?_;rintro e w1 ⟨rfl,b1⟩;obtain ⟨c0,c1,_,_,z1⟩:=Ly b1;have B1:=ZU (B0.out.trans (b1.mono (by simp)));have h:=HX.out;have h1:=H1.out;generalize dl / 64=m at *
   by_cases h2:(m:Int)<1
   · clear h h1
     go_wp2;go_ret;exact ⟨rfl,B1.out⟩
   by_cases h3:(300:Int)<(m:Int)
   · clear h h1
     go_wp2;go_ret;exact ⟨rfl,B1.out⟩
   have h4:(2000:Int)<(n:Int):=by omega
   go_wp2;go_ret;exact ⟨rfl,B1.out⟩
 have t1:(((dl:Int) % 64) != 0)=true:=by rw [bne_iff_ne];omega
 go_enter Tryz.func80,Tryz.ntmps80
 go_wp2;go_ret;exact ⟨rfl,B0.out⟩
theorem Lu (w:World) (va vb:Option Addr) (dl ca n cb:Nat) (ps:List (Int × List Int)) (hp:J8 w (.slice vb n cb) ps) (hl:ps.length=n) (hd:dl≤1048576)
    (h1:dl % 64=0) (h2:1≤dl / 64) (h3:dl / 64≤300) (h4:n≤2000) (hdl:∀i,(pD ps i).length≤1048576) :
    Calls Tryz.prog 80 #[.agg #[.slice va dl ca,.slice vb n cb]] w (Wj w (.bool (QX dl ps))):=by
 have B0:Hid (Zi w (w.alloc (.cells #[.slice va dl ca,.slice vb n cb] 52))):=Yy.alloc YR _;have HP:=ZU hp;have HL:=ZU hl;have OO:=ZU hdl;have H1:=ZU h1;have H2:Hid (1≤dl / 64∧dl / 64≤300):=⟨h2,h3⟩;have t1:(((dl:Int) % 64) != 0)=false:=by rw [Uo];omega
 go_enter Tryz.func80,Tryz.ntmps80
 go_wp2_with fail
 refine (Ss _ va dl ca _ hd).mono ?_;rintro e w1 ⟨rfl,b1⟩;have X1:=ZU ((Vg.new w _ _ _).below b1);have B1:=ZU (B0.out.trans (b1.mono (by simp)));have h2:=H2.out;generalize hm:dl / 64=m at *;have HM:=ZU hm;have t2:¬(m:Int)<1:=by omega
 have t3:¬(300:Int)<(m:Int):=by omega
 have t4:¬(2000:Int)<(n:Int):=by omega
 obtain ⟨z1,c0,c1⟩:=X1.out;go_wp2
 go_loopw [28] (fun i wr=>∃k:Nat,k≤n∧i=.int .i64 k∧Hid (∀i,i<k→lV m ps i)∧Hid (Vg wr w.heap.size (.slice va dl ca) (.slice vb n cb))∧Zi w wr) (fun i _=>n - (intOf i).toNat)
 case atStart=>exact ⟨0,Zu _,rfl,fun i hi=>by omega,X1,B1.out⟩
 case round =>
  obtain ⟨k,hk,rfl,PX,HX,hg⟩:=hrel
  by_cases hlt:k<n
  · obtain ⟨b,o,rfl,hb,hc,_⟩:=HP.out.cells (by omega)
    obtain ⟨e1,da,dc,e2⟩:=(hc.below hb hg) k hlt;have Rj:(k:Int)<(n:Int):=by omega
    have hdk:=OO.out k;obtain ⟨z1,c0,c1⟩:=HX.out;have HG:=ZU hg
    go_wp2_with fail
    have BA:Hid (Zi w (wr.alloc (.cells #[.int .i64 (pB ps k),.slice da (pD ps k).length dc] 132))):=HG.out.alloc HG.out.size _;have XA:Hid (Vg (wr.alloc (.cells #[.int .i64 (pB ps k),.slice da (pD ps k).length dc] 132)) w.heap.size (.slice va dl ca) (.slice (some ⟨b,o,none⟩) n cb)):=HX.out.below (Yy.alloc YR _);have XB:Hid (Vg (wr.alloc (.cells #[.int .i64 (pB ps k),.slice da (pD ps k).length dc] 132)) wr.heap.size (.int .i64 (pB ps k)) (.slice da (pD ps k).length dc)):=Vg.new _ _ _ _;generalize wr.alloc _=wa at *;refine (IL _ va dl ca _ (pB ps k) hd).mono ?_;rintro e w2 ⟨rfl,b2⟩;rw [HM.out];have X2:=ZU (XA.out.below b2);have XC:=ZU (XB.out.below b2);have B2:=ZU (WD BA.out b2);obtain ⟨_,d0,d1⟩:=XC.out
    by_cases hok:lV m ps k
    · have HK:Hid (lV m ps k):=hok
      obtain ⟨q1,q2,q3⟩:=hok;have q4:(((pD ps k).length:Int) != 64)=false:=by rw [Uo];omega
      rw [show decide (0≤pB ps k∧pB ps k<(m:Int))=true by rw [Zj];omega];go_wp2
      go_roundw
      case rel=>exact ⟨k+1,by omega,by go_num,(fun i hi=>by by_cases e:i=k;(subst e;exact HK.out);exact PX.out i (by omega)),X2,B2.out⟩
      case measure=>simp [intOf];omega
    have HN:Hid (QX dl ps=false):=Cg (by rintro ⟨_,_,_,_,h5⟩;rw [HM.out] at h5;exact hok (h5 k (by rw [HL.out];exact hlt)))
    by_cases q1:0≤pB ps k∧pB ps k<(m:Int)
    · rw [show decide (0≤pB ps k∧pB ps k<(m:Int))=true by rw [Zj];exact q1]
      have q3:(((pD ps k).length:Int) != 64)=true:=by rw [bne_iff_ne];intro e;exact hok ⟨q1.1,q1.2,by omega⟩
      go_wp2;go_ret;exact ⟨Wt HN.out.symm,B2.out⟩
    rw [show decide (0≤pB ps k∧pB ps k<(m:Int))=false by rw [Xq];exact q1];go_wp2;go_ret;exact ⟨Wt HN.out.symm,B2.out⟩
  have HY:Hid (QX dl ps=true):=yn ⟨H1.out,by rw [HM.out];exact H2.out.1,by rw [HM.out];exact H2.out.2,by rw [HL.out];omega,fun i hi=>by rw [HM.out];exact PX.out i (by rw [HL.out] at hi;omega)⟩;have Rj:¬(k:Int)<(n:Int):=by omega
  have HG:=ZU hg;go_wp2;go_ret;exact ⟨Wt HY.out.symm,HG.out⟩
theorem Qy (w:World) (va vb:Option Addr) (dl ca n cb:Nat) (ps:List (Int × List Int)) (hp:J8 w (.slice vb n cb) ps) (hl:ps.length=n) (hd:dl≤1048576) (hn:n≤1048576) (hdl:∀i,(pD ps i).length≤1048576) :
    Calls Tryz.prog 80 #[.agg #[.slice va dl ca,.slice vb n cb]] w (Wj w (.bool (QX dl ps))):=by
 by_cases h:dl % 64=0∧1≤dl / 64∧dl / 64≤300∧n≤2000
 · exact Lu w va vb dl ca n cb ps hp hl hd h.1 h.2.1 h.2.2.1 h.2.2.2 hdl
 rw [Cg (fun h5=>h ⟨h5.1,h5.2.1,h5.2.2.1,by have:=h5.2.2.2.1;omega⟩)];exact Lw w va vb dl ca n cb hd hn h
def ks (ps:List (Int × List Int)) (k:Int) (i:Nat):Int:=k+i+tot (ps.take i)
def mB (ps:List (Int × List Int)) (k0:Int) (k i:Nat):Int:=if i<k then ks ps k0 i else pB ps i
structure Se (w:World) (lo hi:Nat) (vd vp:Value) (YN:List Int) (ps:List (Int × List Int)) (dv:Nat→Value):Prop where
 d:Own .u8 5 w lo vd YN
 p:Lx 132 w lo vp ps dv
 lU:∀g,vd.ownBlock=some g→g<hi
 oX:∀g,vp.ownBlock=some g→g<hi
 iS:∀i,i<ps.length→∀g,(dv i).ownBlock=some g→g<hi
 dp:tN vp vd
 dq:∀i,i<ps.length→tN (dv i) vd
theorem Se.below {dv:Nat→Value} (ho:Se w lo hi vd vp YN ps dv) (hb:Zi w w'):Se w' lo hi vd vp YN ps dv :=
 ⟨ho.d.below hb,ho.p.below hb,ho.lU,ho.oX,ho.iS,ho.dp,ho.dq⟩
theorem DO {b o:Nat} (hc:∀i,i<xs.length→w.cell? ⟨b,o+i,none⟩=some (.int k (xs.getD i 0))):∀j u,(xs.map (Value.int k))[j]?=some u→w.cell? ((⟨b,o,none⟩:Addr).add j)=some u:=by
 intro j u hu;have hj:j<xs.length:=by have:=(Zh.1 hu).1;simpa using this
 rw [YY,hc j hj]
 simp [ZF hj] at hu
 simp [List.getD,hj,hu]
theorem Jy (w:World) (v:Value) (xs:List Int) (h:Rd .u8 w v xs) (hn:xs.length≤1099511627776) :
    Calls Tryz.prog 82 #[v] w fun e w'=>∃v',e=.returned v'∧Own .u8 5 w' w.heap.size v' xs∧Zi w w':=by
 obtain ⟨i0,hi,hz0,hz1,hz2⟩:=YM Tryz.QZ;obtain ⟨ao,cap,rfl,h1,h2,h3⟩:=h;have q22:∀(w:World) (a:Option Addr) (n c n' c':Nat),(binOp .eql 22 (.slice a n c) (.slice none n' c')).run Tryz.prog w=.ok (.bool a.isNone) w:=fun w a n c n' c'=>U7 w _ _ a n c n' c' Tryz.underlying22
 have HE:Hid ((w.alloc (.cells #[] 5)).ownsRow w.heap.size 5 1 (.slice (some ⟨w.heap.size,0,none⟩) 0 0) 0 []):=WX w #[] 0 YR (Zu _) rfl;have HB:Hid (Zi w (w.alloc (.cells #[] 5))):=Yy.alloc YR _
 cases ao with
 | none =>
  have hx:xs=[]:=by
   rcases h3 with h3 | ⟨b,o,e,_⟩
   · exact h3
   cases e
  subst hx;clear h3
  go_enter Tryz.func82,Tryz.ntmps82
  go_wp2;go_ret;exact ⟨_,rfl,ZH _ _ _ _,Yy⟩
 | some a =>
  have hcs:∀j u,(xs.map (Value.int .u8))[j]?=some u→(w.alloc (.cells #[] 5)).cell? (a.add j)=some u:=by
   rcases h3 with rfl | ⟨b,o,e,hb,hc⟩
   · intro j u hu;simp at hu
   injection e with e
   subst e;exact DO (fun i hi=>(HB.out.cell (p:=⟨b,o+i,none⟩) hb).trans (hc i hi))
  have lf:=ZU hcs;clear h3 hcs
  go_enter Tryz.func82,Tryz.ntmps82
  go_wp2_with (at_builtin;go_must (refine Yn _ rfl _ _ 22 rfl w.heap.size 5 i0 (.int .u8 0) 1 1 Tryz.underlying22 hi hz0 hz1 hz2 rfl (by decide) _ _ _ rfl HE.out a xs.length cap (xs.map (Value.int .u8)) rfl ?c0 lf.out (Yi _ _) ?c3 ?c4 ?c5 ?_))
  case c0=>simp
  case c3=>unfold maxLen;omega
  case c4=>omega
  case c5=>simp
  intro v2 w2 ho2 hg2 _;have DR:Hid (Own .u8 5 w2 w.heap.size v2 xs):=by
   exact ho2
  have HG2:=ZU (HB.out.grown hg2 (by simp) (by intro q hq;simp [Value.ownBlock] at hq;omega));clear ho2 hg2;go_wp2;go_ret;exact ⟨_,rfl,DR.out,HG2.out⟩
def SU (w:World) (b:Nat) (x y:Value):Prop:=Vg w b x y∧w.frozen? ⟨b,0,none⟩=false∧w.frozen? ⟨b,1,none⟩=false
theorem SU.below {b:Nat} (h:SU w b x y) (hb:Zi w w'):SU w' b x y :=
 ⟨h.1.below hb,(hb.frozen (p:=⟨b,0,none⟩) h.1.1).trans h.2.1,(hb.frozen (p:=⟨b,1,none⟩) h.1.1).trans h.2.2⟩
theorem SU.new (w:World) (x y:Value) (t:TypeId):SU (w.alloc (.cells #[x,y] t)) w.heap.size x y:=⟨Vg.new _ _ _ _,by simp,by simp⟩
theorem J8.recAt {k:Nat} (h:J8 w (.slice ao n cap) ps) (hl:ps.length=n) (hk:k<n):∃b o,ao=some ⟨b,o,none⟩∧b<w.heap.size ∧
    w.cell? ⟨b,o+k*2,none⟩=some (.int .i64 (pB ps k))∧∃da c,w.cell? ⟨b,o+k*2+1,none⟩=some (.slice da (pD ps k).length c)∧Rd .u8 w (.slice da (pD ps k).length c) (pD ps k):=by
 obtain ⟨oY,cap',e,h1,h2,h3⟩:=h
 simp only [ZC] at e
 obtain ⟨rfl,_,rfl⟩:=e
 rcases h3 with rfl | ⟨b,o,rfl,hb,hc⟩
 · simp at hl;omega
 obtain ⟨c1,da,c,c2,r⟩:=hc k (by omega);exact ⟨b,o,rfl,hb,c1,da,c,c2,r⟩
theorem Se.mono {hi':Nat} {dv:Nat→Value} (ho:Se w lo hi vd vp YN ps dv) (hl:lo'≤lo) (hh:hi≤hi'):Se w lo' hi' vd vp YN ps dv :=
 ⟨ho.d.mono hl,ho.p.mono hl,fun g hg=>ZY (ho.lU g hg) hh,fun g hg=>ZY (ho.oX g hg) hh,fun i hi g hg=>ZY (ho.iS i hi g hg) hh,ho.dp,ho.dq⟩
theorem Tz (ps:List (Int × List Int)) (p:Int × List Int) (i:Nat) (h:i<ps.length):pB (ps++[p]) i=pB ps i:=by unfold pB;simp [List.getD,Zy h]
theorem IJ (ps:List (Int × List Int)) (p:Int × List Int) (i:Nat) (h:i<ps.length):pD (ps++[p]) i=pD ps i:=by unfold pD;simp [List.getD,Zy h]
theorem Th (ps:List (Int × List Int)) (p:Int × List Int):pB (ps++[p]) ps.length=p.1:=by unfold pB;simp [List.getD]
theorem LM (ps:List (Int × List Int)) (p:Int × List Int):pD (ps++[p]) ps.length=p.2:=by unfold pD;simp [List.getD]
theorem Own.far (h:Own k e w base v xs) (hu:∀g,u.ownBlock=some g→g<base):v.ownBlock=none∨v.ownBlock≠u.ownBlock:=by
 cases hv:v.ownBlock with
 | none=>exact .inl rfl
 | some q =>
  right;intro e
  have:=(h.lt q hv).1;have:=hu q e.symm;omega
theorem AM {wr w4:World} {k:Nat} {vk:Value} {x:Int} {dv:Nat→Value} {ob:Obj} (ho:Se wr lo hi vd vk YN ps dv) (hhi:hi≤wr.heap.size) (hlo:lo≤wr.heap.size) (hk:ps.length=k) (bw:Zi wr w') (o':Own .u8 te w' wr.heap.size v xs)
    (GR:w4.ownsRow lo 132 2 (.slice (some ⟨g,0,none⟩) (k+1) cap) (k+1) (OQ k (pB ps) dv++[.int .i64 x,v])) (hg4:(w'.alloc ob).grownBy w4 vk.ownBlock) (hat:vk.ownBlock=some g∨g=w'.heap.size+1) :
    Se w4 lo w4.heap.size vd (.slice (some ⟨g,0,none⟩) (k+1) cap) YN (ps++[(x,xs)]) (QB dv k v):=by
 subst hk;have G:=WR (WQ w' ob _) hg4;have hsz:=bw.size;have hs4:=G.size;have hvk:∀q,vk.ownBlock=some q→q<wr.heap.size:=fun q hq=>ZY (ho.oX q hq) hhi
 have hnew:=(o'.other G (o'.far hvk)).b;have hold:∀i,i<ps.length→QF w4 lo (dv i) (pD ps i):=fun i hi=>((ho.p.2.1 i hi).below bw).other G (ho.p.2.2.2 i hi)
 have hlen:(ps++[(x,xs)]).length=ps.length+1:=by simp
 have hd4:Own .u8 5 w4 lo vd YN:=by
  refine (ho.d.below bw).other G ?_
  rcases ho.dp with h | h
  · rw [h];cases vd.ownBlock with
    | none=>exact .inl rfl
    | some q=>exact .inr (by simp)
  exact .inr (Ne.symm h)
 have hgv:∀u:Value,(∀q,u.ownBlock=some q→q<wr.heap.size)→tN u vk→tN u (.slice (some ⟨g,0,none⟩) (ps.length+1) cap):=by
  intro u hu hn;unfold tN
  cases e:u.ownBlock with
  | none=>exact .inl rfl
  | some q =>
   right
   simp only [Value.ownBlock,ne_eq,ZK]
   intro eq;have:=hu q e
   rcases hat with h | h
   · rcases hn with h' | h'
     · rw [h'] at e;cases e
     exact h' (by rw [e,h,eq])
   omega
 have hlast:tN v (.slice (some ⟨g,0,none⟩) (ps.length+1) cap):=by
  unfold tN
  cases e:v.ownBlock with
  | none=>exact .inl rfl
  | some q =>
   right
   simp only [Value.ownBlock,ne_eq,ZK]
   intro eq;have h1:=o'.lt q e
   rcases hat with h | h
   · have:=hvk g h;omega
   omega
 refine ⟨hd4,⟨?_,?_,?_,?_⟩,fun q hq=>(hd4.lt q hq).2,fun q hq=>(ZT GR q hq).2,?_,?_,?_⟩
 · rw [hlen]
   have e:OQ (ps.length+1) (pB (ps++[(x,xs)])) (QB dv ps.length v)=OQ ps.length (pB ps) dv++[.int .i64 x,v]:=by
    rw [MU]
    congr 1
    · exact DP (fun i hi=>Tz _ _ _ hi) (fun i hi=>by unfold QB;rw [Z1 (by omega)])
    rw [Th];unfold QB;rw [Z0 rfl]
   rw [e];exact GR
 · intro i hi
   rw [hlen] at hi;unfold QB
   by_cases e:i=ps.length
   · rw [Z0 e,e,LM];exact hnew.mono hlo
   rw [Z1 e,IJ _ _ _ (by omega)];exact hold i (by omega)
 · intro i j hi hj hne
   rw [hlen] at hi hj;unfold QB
   by_cases e:i=ps.length
   · rw [Z0 e,Z1 (by omega)]
     exact o'.far (fun q hq=>((ho.p.2.1 j (by omega)).lt q hq).2)
   by_cases e':j=ps.length
   · rw [Z1 e,Z0 e']
     unfold tN
     cases hv:(dv i).ownBlock with
     | none=>exact .inl rfl
     | some q =>
      right;intro hq
      have:=(o'.lt q hq.symm).1;have:=((ho.p.2.1 i (by omega)).lt q hv).2;omega
   rw [Z1 e,Z1 e'];exact ho.p.2.2.1 i j (by omega) (by omega) hne
 · intro i hi
   rw [hlen] at hi;unfold QB
   by_cases e:i=ps.length
   · rw [Z0 e];exact hlast
   rw [Z1 e];exact hgv _ (fun q hq=>((ho.p.2.1 i (by omega)).lt q hq).2) (ho.p.2.2.2 i (by omega))
 · intro i hi q hq
   rw [hlen] at hi;unfold QB at hq
   by_cases e:i=ps.length
   · rw [Z0 e] at hq;exact (hnew.lt q hq).2
   rw [Z1 e] at hq;exact ((hold i (by omega)).lt q hq).2
 · right
   simp only [Value.ownBlock,ne_eq]
   intro e;have h1:=ho.lU g e.symm
   rcases hat with h | h
   · rcases ho.dp with h' | h'
     · rw [h'] at h;cases h
     exact h' (h.trans e)
   omega
 intro i hi;rw [hlen] at hi;unfold QB
 by_cases e:i=ps.length
 · rw [Z0 e]
   exact o'.far (fun q hq=>by have:=ho.lU q hq;omega)
 rw [Z1 e];exact ho.dq i (by omega)
theorem AL {C:List Int} (hb:base≤w.heap.size) (hC:C.length=64):Own .u8 t (w.alloc (.cells (C.map (Value.int .u8)).toArray t)) base (.slice (some ⟨w.heap.size,0,none⟩) 64 64) C:=by
 have:=WX (size:=1) (e:=t) w (C.map (Value.int .u8)).toArray 64 hb (by unfold maxLen;omega) (by simp [hC]);unfold Own;rw [hC]
 simpa using this
theorem II (w:World) (pb off lo hi0:Nat) (vd vp:Value) (YN:List Int) (ps:List (Int × List Int)) (dv:Nat→Value) (x:Int) (C:List Int) (hD:Se w lo hi0 vd vp YN ps dv) (hhi:hi0≤w.heap.size) (hlo:lo≤w.heap.size) (hc:w.cell? ⟨pb,off+1,none⟩=some vp) (hf:w.frozen? ⟨pb,off+1,none⟩=false) (hpb:pb<w.heap.size) (hne:vp.ownBlock≠some pb) (hC:C.length=64) (hn:ps.length≤1000000) :
    Calls Tryz.prog 139 #[.pointer (some ⟨pb,off,none⟩),.int .i64 x,.agg (C.map (Value.int .u8)).toArray] w fun e w'=>e=.returned (.tuple #[])∧∃w5 g cap v,Se w5 lo w5.heap.size vd (.slice (some ⟨g,0,none⟩) (ps.length+1) cap) YN (ps++[(x,C)]) (QB dv ps.length v)∧w.grownBy w5 vp.ownBlock∧(vp.ownBlock=some g∨w.heap.size≤g)∧v.ownBlock=some w.heap.size∧w'=w5.setCell ⟨pb,off+1,none⟩ (.slice (some ⟨g,0,none⟩) (ps.length+1) cap):=by
 obtain ⟨i0,hi,hz0,hz1,hz2⟩:=YM Tryz.qp;obtain ⟨vk,ck,rfl⟩:=hD.p.slice;have GQ:Hid (∀v ∈ (C.map (Value.int .u8)),v.oneCell'=true):=Yi _ _;have OC:Hid (Own .u8 117 (w.alloc (.cells (C.map (Value.int .u8)).toArray 117)) w.heap.size (.slice (some ⟨w.heap.size,0,none⟩) 64 64) C):=AL YR hC;have bA:Below w.heap.size w (w.alloc (.cells (C.map (Value.int .u8)).toArray 117)):=Yy.alloc YR _;obtain ⟨X,hX⟩:∃X,X=C.map (Value.int .u8):=⟨_,rfl⟩;rw [←hX] at OC bA GQ ⊢;have HX:Hid (X.length=64):=by subst hX;show _=_;simpa using hC
 have ZD:=ZU bA;have HD:=ZU hD;have oV:Hid (w.cell? ⟨pb,off+1,none⟩=some (.slice vk ps.length ck)∧w.frozen? ⟨pb,off+1,none⟩=false):=⟨hc,hf⟩;obtain ⟨n0,hn0⟩:∃n,n=ps.length:=⟨_,rfl⟩;have sW:=ZU hn0.symm;have ey:n0≤1000000:=by omega
 rw [←hn0] at oV hne ⊢;have Zt:Hid (Se w lo hi0 vd (.slice vk n0 ck) YN ps dv):=by rw [hn0];exact HD.out
 clear hD hX bA hc hf HD hn0 hn
 go_enter Tryz.func139,Tryz.ntmps139
 go_wp2_with fail
 generalize hW0:w.alloc _=w0 at *;have hs0:w0.heap.size=w.heap.size+1:=by rw [←hW0];simp
 clear hW0;have bP:Below w.heap.size w w0.drew:=ZD.out.trans ((below_drewN' w0 1).mono ZD.out.size);have hS0:w0.drew.cell? ⟨pb,off+1,none⟩=some (.slice vk n0 ck)∧w0.drew.frozen? ⟨pb,off+1,none⟩=false:=⟨(bP.cell (p:=⟨pb,off+1,none⟩) hpb).trans oV.out.1,(bP.frozen (p:=⟨pb,off+1,none⟩) hpb).trans oV.out.2⟩;refine ZX (S:=fun _=>True) (by kernel_rfl) trivial (fun Z9=>?_);have ip:=ZU hS0;clear hS0;have OP:Hid (Own .u8 117 w0.drew w.heap.size (.slice (some ⟨w.heap.size,0,none⟩) 64 64) C):=OC.out;have hsp:w0.drew.heap.size=w.heap.size+1:=hs0;have Z8:=ZU bP;have tM:=ZU hsp;clear bP OC ZD hs0 hsp;generalize w0.drew=wp at *;generalize H:w.heap.size=BX at *;have bW:∀ob,Below wp.heap.size wp (wp.alloc ob):=fun ob=>Yy.alloc YR _
 have ld:Hid ((wp.alloc (.cells #[.int .i64 x,.slice (some ⟨BX,0,none⟩) 64 64] 132)).cell? ⟨pb,off+1,none⟩=some (.slice vk n0 ck)∧(wp.alloc (.cells #[.int .i64 x,.slice (some ⟨BX,0,none⟩) 64 64] 132)).frozen? ⟨pb,off+1,none⟩=false) :=
  ⟨((bW _).cell (p:=⟨pb,off+1,none⟩) (show pb<wp.heap.size by have:=tM.out;omega)).trans ((Z8.out.cell (p:=⟨pb,off+1,none⟩) (by show pb<_;omega)).trans oV.out.1),((bW _).frozen (p:=⟨pb,off+1,none⟩) (show pb<wp.heap.size by have:=tM.out;omega)).trans ((Z8.out.frozen (p:=⟨pb,off+1,none⟩) (by show pb<_;omega)).trans oV.out.2)⟩
 have Zr:Hid (∀w4,(wp.alloc (.cells #[.int .i64 x,.slice (some ⟨BX,0,none⟩) 64 64] 132)).grownBy w4 (Value.ownBlock (.slice vk n0 ck))→w4.cell? ⟨pb,off+1,none⟩=some (.slice vk n0 ck)∧w4.frozen? ⟨pb,off+1,none⟩=false):=fun w4 hg =>
  ⟨(hg.cell_far ⟨pb,off+1,none⟩ (by have:=tM.out;simp;omega) (Ne.symm hne)).trans ld.out.1,(hg.frozen_far ⟨pb,off+1,none⟩ (by have:=tM.out;simp;omega) (Ne.symm hne)).trans ld.out.2⟩
 have HOW:Hid ((wp.alloc (.cells #[.int .i64 x,.slice (some ⟨BX,0,none⟩) 64 64] 132)).ownsRow lo 132 2 (.slice vk n0 ck) n0 (OQ n0 (pB ps) dv)):=by
  have h1:=(Zt.out.below (by have h9:=Z8.out;rw [←H] at h9;exact h9)).p.1;rw [sW.out] at h1;exact h1.alloc _
 have Z6:Hid (lo≤(wp.alloc (.cells #[.int .i64 x,.slice (some ⟨BX,0,none⟩) 64 64] 132)).heap.size):=by show _≤_;have:=tM.out;simp;omega
 have PR:Hid (∀(g4 cap4:Nat) (w4:World),w4.ownsRow lo 132 2 (.slice (some ⟨g4,0,none⟩) (n0+1) cap4) (n0+1) (OQ n0 (pB ps) dv++[.int .i64 x,.slice (some ⟨BX,0,none⟩) 64 64])→(wp.alloc (.cells #[.int .i64 x,.slice (some ⟨BX,0,none⟩) 64 64] 132)).grownBy w4 (Value.ownBlock (.slice vk n0 ck))→(Value.ownBlock (.slice vk n0 ck)=some g4∨g4=wp.heap.size+1) →
     ∃w5 g cap v,Se w5 lo w5.heap.size vd (.slice (some ⟨g,0,none⟩) (n0+1) cap) YN (ps++[(x,C)]) (QB dv n0 v)∧w.grownBy w5 (Value.ownBlock (.slice vk n0 ck))∧(Value.ownBlock (.slice vk n0 ck)=some g∨w.heap.size≤g)∧v.ownBlock=some w.heap.size∧w4.setCell ⟨pb,off+1,none⟩ (.slice (some ⟨g4,0,none⟩) (n0+1) cap4)=w5.setCell ⟨pb,off+1,none⟩ (.slice (some ⟨g,0,none⟩) (n0+1) cap)):=by
  intro g4 cap4 w4 GR hg4 NT;have F:Below w.heap.size w wp:=by rw [H];exact Z8.out
  refine ⟨w4,g4,cap4,.slice (some ⟨BX,0,none⟩) 64 64,?_,?_,?_,by rw [H];rfl,rfl⟩
  · exact AM (te:=117) Zt.out (by rw [H];exact hhi) (by rw [H];exact hlo) sW.out F (by rw [H];exact OP.out) GR hg4 NT
  · refine WR ?_ (WR (WQ wp _ _) hg4)
    exact ⟨F.os,F.tape,F.output,F.size,fun q hq _=>F.block q hq⟩
  rcases NT with h | h
  · exact .inl h
  right;have:=tM.out;omega
 clear bW
 iterate 4 (refine Zf ?_ (by kernel_rfl) (fun _=>id) Z9 ?_ ?_;rotate_left;· intro w9 ZQ;go_simp;try with_reducible rfl)
 refine Yp 5 (.int .i64 x) rfl (by kernel_rfl) (fun _=>id) Z9 ?DN ?_
 case DN=>intro w9 ZQ;go_simp
 refine Yp 6 (.slice (some ⟨BX,0,none⟩) 64 64) rfl (by kernel_rfl) (fun _=>id) Z9 ?sU ?_
 case sU=>intro w9 ZQ;go_simp
 refine Yp 7 (.agg #[.int .i64 x,.slice (some ⟨BX,0,none⟩) 64 64]) rfl (by kernel_rfl) (fun _=>id) Z9 ?sS ?_
 case sS=>intro w9 ZQ;go_simp
 refine QG 4 8 rfl rfl (by kernel_rfl) (fun K hK=>?_) (fun K hK=>?_)
 · have hcp:=ip.out.1
   go_simp;refine hK.out _ _ trivial (fun YA=>?_);clear hK K YA;refine YS 8 rfl (by kernel_rfl) (fun K hK=>?_);go_simp;refine hK.out _ _ trivial (fun YA=>?_);clear hK K YA;refine YS 9 rfl (by kernel_rfl) (fun K hK=>?_);refine step_append_lies _ (by rfl) (.tmp 10) (.tmp 14) 50 (by rfl) lo 132 i0 (.agg #[.int .i64 0,.slice none 0 0]) 2 32 Tryz.underlying50 hi hz0 hz1 hz2 rfl (by omega) (.slice vk n0 ck) n0 (OQ n0 (pB ps) dv) (by rfl) HOW.out ⟨wp.heap.size,0,none⟩ 1 1 [.int .i64 x,.slice (some ⟨BX,0,none⟩) 64 64] (by rfl) (by rfl) (cell_two_new _ _ _ _) (by intro u hu;simp at hu;rcases hu with rfl | rfl <;> rfl) (by omega) (by unfold maxLen;omega) (by omega) Z6.out (wp.heap.size+1) (by simp) ?_;intro g4 cap4 w4 GR hg4 NT IH;obtain ⟨hq0,hq1⟩:=Zr.out w4 hg4;have FIN:=PR.out g4 cap4 w4 GR hg4 NT;have ym:Hid _:=FIN;clear FIN GR hg4 NT IH;refine hK.out _ _ trivial (fun YA=>?_);clear hK K YA
   iterate 2 (refine Zf ?_ (by kernel_rfl) (fun _=>id) Z9 ?_ ?_;rotate_left;· intro w9 ZQ;go_simp;try with_reducible rfl)
   refine YS 12 rfl (by kernel_rfl) (fun K hK=>?_);go_simp;refine hK.out _ _ trivial (fun YA=>?_);clear hK K YA;refine ZR (by kernel_rfl) ?_ _
   try simp only [Act.put,WV,WU,WT]
   clear Z9;go_wp2
   go_end0
   exact ⟨rfl,ym.out⟩
 go_simp;refine hK.out _ _ trivial (fun YA=>?_);clear hK K YA;refine YS 4 rfl (by kernel_rfl) (fun K hK=>?_);have hcp:=ld.out.1;go_simp;refine hK.out _ _ trivial (fun YA=>?_);clear hK K YA;refine YS 9 rfl (by kernel_rfl) (fun K hK=>?_);refine step_append_lies _ (by rfl) (.tmp 10) (.tmp 14) 50 (by rfl) lo 132 i0 (.agg #[.int .i64 0,.slice none 0 0]) 2 32 Tryz.underlying50 hi hz0 hz1 hz2 rfl (by omega) (.slice vk n0 ck) n0 (OQ n0 (pB ps) dv) (by rfl) HOW.out ⟨wp.heap.size,0,none⟩ 1 1 [.int .i64 x,.slice (some ⟨BX,0,none⟩) 64 64] (by rfl) (by rfl) (cell_two_new _ _ _ _) (by intro u hu;simp at hu;rcases hu with rfl | rfl <;> rfl) (by omega) (by unfold maxLen;omega) (by omega) Z6.out (wp.heap.size+1) (by simp) ?_;intro g4 cap4 w4 GR hg4 NT IH;obtain ⟨hq0,hq1⟩:=Zr.out w4 hg4;have FIN:=PR.out g4 cap4 w4 GR hg4 NT;have ym:Hid _:=FIN;clear FIN GR hg4 NT IH;refine hK.out _ _ trivial (fun YA=>?_);clear hK K YA
 iterate 2 (refine Zf ?_ (by kernel_rfl) (fun _=>id) Z9 ?_ ?_;rotate_left;· intro w9 ZQ;go_simp;try with_reducible rfl)
 refine YS 12 rfl (by kernel_rfl) (fun K hK=>?_);go_simp;refine hK.out _ _ trivial (fun YA=>?_);clear hK K YA;refine ZR (by kernel_rfl) ?_ _
 try simp only [Act.put,WV,WU,WT]
 clear Z9;go_wp2
 go_end0
 exact ⟨rfl,ym.out⟩
end
section
variable {a:Act} {listed:Array Bool} {ops:Array Oper} {k:IntKind} {ps rs:List (Int × List Int)} {YN xs ys:List Int} {L:List Value} {B base c cap dl fuel g hi i j lo lo' mb n q tb:Nat} {oi:Oper} {ao:Option Addr} {o o':Option Nat} {P:Program} {e t te:TypeId} {u v vd vp x y:Value} {W W' w w' w1 w2:World}
def cP:Nat:=2197175160
def cT (r:Nat):Nat:=(r / 2) ^^^ (if r % 2=1 then cP else 0)
theorem yl (a b:Nat):(a ^^^ b) / 2=a / 2 ^^^ b / 2:=by
 have:=Nat.xor_div_two (a:=a) (b:=b);exact this
theorem yk (a b:Nat):(a ^^^ b) % 2=(a+b) % 2:=by
 have:=Nat.xor_mod_two_eq_one (a:=a) (b:=b);omega
theorem oU (a b:Nat):cT (a ^^^ b)=cT a ^^^ cT b:=by
 unfold cT;rw [yl,yk]
 rcases UC a with ha | ha <;> rcases UC b with hb | hb
 · rw [Z1 (by omega),Z1 (by omega),Z1 (by omega)];simp
 · rw [Z0 (by omega),Z1 (by omega),Z0 (by omega)];simp [UB]
 · rw [Z0 (by omega),Z0 (by omega),Z1 (by omega),Q1,UB,Nat.xor_comm (b / 2),←UB]
 rw [Z1 (by omega),Z0 (by omega),Z0 (by omega)];rw [Q1,Nat.xor_comm (b / 2) cP,←UB,UB (a / 2) cP cP,Nat.xor_self,Q1]
def yJ (r:Nat):Nat:=cT (cT (cT (cT r)))
theorem sR (a b:Nat):yJ (a ^^^ b)=yJ a ^^^ yJ b:=by unfold yJ;simp only [oU]
theorem LL (q:Nat):cT (2*q)=q:=by unfold cT;rw [Z1 (by omega)];simp
theorem oT (q:Nat):yJ (16*q)=q:=by
 unfold yJ;rw [show 16*q=2*(2*(2*(2*q))) by omega,LL,LL,LL,LL]
theorem sQ (r:Nat):r=16*(r / 16) ^^^ r % 16:=by
 apply Nat.eq_of_testBit_eq;intro k;rw [Nat.testBit_xor,show 16*(r / 16)=r / 2 ^ 4*2 ^ 4 by simp only [Nat.reducePow];omega,Nat.testBit_mul_two_pow,show r % 16=r % 2 ^ 4 by rfl,Nat.testBit_mod_two_pow]
 by_cases h:4≤k
 · have h2:¬k<4:=by omega
   simp only [h,h2,decide_true,decide_false,Xz,Bool.false_and,Bool.xor_false,Nat.testBit_div_two_pow]
   congr 1;omega
 have h2:k<4:=by omega
 simp [h,h2]
def LX:List Nat:=[0,274646895,549293790,820201905,1098587580,1361435347,1640403810,1905808397,2197175160,2460548119,2722870694,2987750089,3280807620,3553878443,3811616794,4084100981]
theorem oS:∀i,i<16→LX.getD i 0=yJ i:=by decide +kernel
theorem yj (r:Nat):yJ r=r / 16 ^^^ LX.getD (r % 16) 0:=by
 rw [oS _ (Wg _ (by omega))]
 conv=>lhs;rw [sQ r]
 rw [sR,oT]
def cB (r x:Nat):Nat:=yJ (yJ (r ^^^ x))
def cS (r x:Nat):Nat→Nat
 | 0=>r
 | j+1=>(cS r x j / 2) ^^^ (if (cS r x j+x / 2 ^ j) % 2=1 then cP else 0)
def NS (r:Nat) (xs:List Int):Nat:=xs.foldl (fun a x=>cB a x.toNat) r
theorem AK (r:Nat) (xs:List Int) (x:Int):NS r (xs++[x])=cB (NS r xs) x.toNat:=by simp [NS,VO]
theorem GE {a b:Nat} (ha:a<4294967296) (hb:b<4294967296):a ^^^ b<4294967296:=by
 have:=Nat.xor_lt_two_pow (n:=32) (by simpa using ha) (by simpa using hb)
 simpa using this
end
section
open Go.RowKit Go.Shelf
variable {a:Act} {listed:Array Bool} {ops:Array Oper} {k:IntKind} {ps rs:List (Int × List Int)} {YN xs ys:List Int} {L:List Value} {B base c cap dl fuel g hi i j lo lo' mb n q tb:Nat} {oi:Oper} {ao:Option Addr} {o o':Option Nat} {P:Program} {e t te:TypeId} {u v vd vp x y:Value} {W W' w w' w1 w2:World}
theorem take_snoc' (xs:List Int) (k:Nat) (h:k<xs.length):xs.take (k+1)=xs.take k++[xs.getD k 0]:=by
 rw [YW h];simp [List.getD,h]
def GD:Nat:=4294967296
theorem GC (a b:Nat) (ha:a<GD) (hb:b<GD):∃z:Nat,z<GD∧bits .xor .u32 (a:Int) (b:Int)=(z:Int)∧z=a ^^^ b :=
 ⟨a ^^^ b,GE ha hb,u32_xor_nat a b ha hb,rfl⟩
theorem GB (a:Nat) (ha:a<GD):∃i:Nat,i<16∧bits .and .u32 (a:Int) 15=(i:Int)∧i=a % 16 :=
 ⟨a % 16,Wg _ (by omega),by rw [show (15:Int)=((15:Nat):Int) from rfl,u32_and_nat a 15 ha (by unfold GD at *;omega),nat_mask4],rfl⟩
theorem Ml (a b:Nat) (ha:a<GD) (hb:b<GD):∃z:Nat,z<GD∧bits .xor .u32 ((a:Int) / 16) (b:Int)=(z:Int)∧z=a / 16 ^^^ b:=by
 refine ⟨a / 16 ^^^ b,GE (by unfold GD at *;omega) hb,?_,rfl⟩;have e:(a:Int) / 16=((a / 16:Nat):Int):=by omega
 rw [e,u32_xor_nat (a / 16) b (by unfold GD at *;omega) hb]
theorem AJ (R:Nat) (h:R<GD):4294967295 ^^^ R=4294967295 - R:=by
 have e:=ZM BitVec.toNat (BitVec.allOnes_xor (x:=BitVec.ofNat 32 R));rw [BitVec.toNat_xor,BitVec.toNat_not,BitVec.toNat_allOnes,BitVec.toNat_ofNat,SV (show R<2 ^ 32 from h)] at e
 simpa using e
theorem qo (R:Nat) (h:R<GD):wrap64 (bits .xor .u32 IntKind.u32.max (R:Int))=((4294967295 - R:Nat):Int):=by
 rw [show IntKind.u32.max=((4294967295:Nat):Int) from by decide,u32_xor_nat 4294967295 R (by decide) h,AJ R h];have hz:4294967295 - R≤4294967295:=Nat.sub_le _ _;generalize 4294967295 - R=z at *;exact IntWalk.wrap64_in _ ⟨by omega,by omega⟩
def PJ (w:World):Prop:=∀i,i<16→w.cell? ⟨0,i,none⟩=some (.int .u32 ((LX.getD i 0:Nat):Int))
theorem PJ.below (h:PJ w) (h0:0<w.heap.size) (hb:Zi w w'):PJ w':=fun i hi=>(hb.cell (p:=⟨0,i,none⟩) h0).trans (h i hi)
theorem Cf (i:Nat):LX.getD i 0<GD:=by
 by_cases h:i<16
 · exact (show ∀i,i<16→LX.getD i 0<GD by decide +kernel) i h
 rw [show LX.getD i 0=0 by rw [List.getD,Yk (show LX.length≤i by simp [LX];omega)];rfl];decide
theorem Gz (w:World) (b o n cap:Nat) (xs:List Int) (hx:xs.length=n) (hc:∀i,i<n→w.cell? ⟨b,o+i,none⟩=some (.int .u8 (xs.getD i 0))) (hby:Sn xs) (hn:n≤1099511627776) (ht:PJ w) :
    Calls Tryz.prog 48 #[.slice (some ⟨b,o,none⟩) n cap] w fun e w'=>e=.returned (.int .i64 ((4294967295 - NS 4294967295 xs:Nat):Int))∧w'=w:=by
 have HC:=ZU hc;have HX:=ZU hx;have HT:=ZU ht;clear hc hx ht
 go_enter Tryz.func48,Tryz.ntmps48
 go_wp2
 go_loop [3,8] (fun r i=>∃k R:Nat,k≤n∧i=.int .i64 k∧Hid (R<GD)∧r=.int .u32 R∧Hid (R=NS 4294967295 (xs.take k))) (fun _ i=>n - (intOf i).toNat)
 case atStart=>exact ⟨0,4294967295,Zu _,rfl,(by show _<GD;decide),rfl,rfl⟩
 case round =>
  obtain ⟨k,R,hk,rfl,HR,rfl,HE⟩:=hrel
  by_cases hlt:k<n
  · obtain ⟨x,hx,hxe⟩:=DU hby k
    have hsrc:w.cell? ⟨b,o+k,none⟩=some (.int .u8 (x:Int)):=by rw [←hxe];exact HC.out k hlt
    have Rj:(k:Int)<(n:Int):=by omega
    obtain ⟨Y,hY,e1,y1⟩:=GC R x HR.out (by unfold GD;omega);obtain ⟨I,hI,e2,y2⟩:=GB Y hY;have c1:=HT.out I hI;obtain ⟨T1,hT1⟩:∃t,t=LX.getD I 0:=⟨_,rfl⟩;rw [←hT1] at c1;obtain ⟨Z,hZ,e3,y3⟩:=Ml Y T1 hY (by rw [hT1];exact Cf _);obtain ⟨J,hJ,e4,y4⟩:=GB Z hZ;have c2:=HT.out J hJ;obtain ⟨T2,Z7⟩:∃t,t=LX.getD J 0:=⟨_,rfl⟩;rw [←Z7] at c2;obtain ⟨V,hV,e5,y5⟩:=Ml Z T2 hZ (by rw [Z7];exact Cf _);have HV:Hid (V=NS 4294967295 (xs.take (k+1))):=by
     show _=_;rw [take_snoc' xs k (by rw [HX.out];exact hlt),AK,←HE.out,hxe,Ze];have z1:Z=yJ Y:=by rw [yj,y3,hT1,y2]
     have v1:V=yJ Z:=by rw [yj,y5,Z7,y4]
     rw [v1,z1,y1]
     rfl
    have QH:=ZU hV;clear hV y1 y2 y3 y4 y5 hT1 Z7 hY hZ hxe HE HR;go_wp2
    go_round
    case rel=>exact ⟨k+1,V,by omega,by go_num,QH,rfl,HV⟩
    case measure=>simp [intOf];omega
  go_wp2;go_ret;exact ⟨Pe (by rw [qo R HR.out,HE.out,Y8 (by rw [HX.out];omega)]),rfl⟩
theorem Gy (w:World) (ao:Option Addr) (cap:Nat) :
    Calls Tryz.prog 48 #[.slice ao 0 cap] w fun e w'=>e=.returned (.int .i64 0)∧w'=w:=by
 go_enter Tryz.func48,Tryz.ntmps48
 go_wp2
 go_rounds 1
 go_ret;exact ⟨Pe (qo 4294967295 (by decide)),rfl⟩
theorem PI (w:World) (v:Value) (xs:List Int) (h:Rd .u8 w v xs) (hby:Sn xs) (hn:xs.length≤1099511627776) (ht:PJ w) :
    Calls Tryz.prog 48 #[v] w fun e w'=>e=.returned (.int .i64 ((4294967295 - NS 4294967295 xs:Nat):Int))∧w'=w:=by
 obtain ⟨ao,cap,rfl,h1,h2,h3⟩:=h
 rcases h3 with rfl | ⟨b,o,rfl,hb,hc⟩
 · exact Gy w ao cap
 exact Gz w b o xs.length cap xs rfl hc hby hn ht
structure St (W:World) (b:Nat) (L:List Value):Prop where
 lt:b<W.heap.size
 fz:∀j,W.frozen? ⟨b,j,none⟩=false
 cl:∀(j:Nat) (v:Value),L[j]?=some v→W.cell? ⟨b,j,none⟩=some v
theorem St.Xe {b m:Nat} (h:St W b L) (hb:Below m W W') (hm:b<m):St W' b L :=
 ⟨ZY h.lt hb.size,fun j=>(hb.frozen (p:=⟨b,j,none⟩) hm).trans (h.fz j),fun j v hv=>(hb.cell (p:=⟨b,j,none⟩) hm).trans (h.cl j v hv)⟩
theorem St.below {b:Nat} (h:St W b L) (hb:Zi W W'):St W' b L:=h.Xe hb h.lt
theorem St.set {b:Nat} (h:St W b L) (j:Nat) (x:Value):St (W.setCell ⟨b,j,none⟩ x) b (L.set j x):=by
 refine ⟨by simpa using h.lt,fun i=>by rw [Zb];exact h.fz i,fun i v hv=>?_⟩
 by_cases e:j=i
 · subst e
   have hj:j<L.length:=by
    have:=(Zh.1 hv).1
    simpa using this
   rw [List.getElem?_set_self hj] at hv;obtain rfl:=Zc hv;exact Zk _ _ _ (h.cl j _ (ZF hj))
 rw [VK e] at hv;exact (ZV _ _ _ _ (by intro e9;injection e9 with e1 e2;first | exact e e2 | exact e e2.symm)).trans (h.cl i v hv)
theorem St.other {b:Nat} (h:St W b L) (hne:b≠c):St (W.setCell ⟨c,j,none⟩ x) b L :=
 ⟨by simpa using h.lt,fun i=>by rw [Zb];exact h.fz i,fun i v hv=>(ZV _ _ _ _ (by intro e9;injection e9 with e1 e2;first | exact hne e1 | exact hne e1.symm)).trans (h.cl i v hv)⟩
theorem St.new (W:World) (cs:Array Value) (t:TypeId):St (W.alloc (.cells cs t)) W.heap.size cs.toList:=by
 refine ⟨by simp,fun j=>by simp,fun j v hv=>?_⟩;rw [Yz _ _ j cs t (0,0) (Zs W _)]
 simpa using hv
structure Tw (w:World) (b:Nat) (o:Option Nat) (w':World) (o':Option Nat):Prop where
 os:w'.os=w.os
 tape:w'.tape=w.tape
 output:w'.output=w.output
 size:w.heap.size≤w'.heap.size
 block:∀q,q<w.heap.size→q≠b→o≠some q→w'.heap[q]?=w.heap[q]?
 own:o'=o∨o'=none∨∃g,o'=some g∧w.heap.size≤g
theorem Tw.YZ (h:Zi w w') (b:Nat) (o:Option Nat):Tw w b o w' o:=⟨h.os,h.tape,h.output,h.size,fun q hq _ _=>h.block q hq,.inl rfl⟩
theorem Tw.refl (w:World) (b:Nat) (o:Option Nat):Tw w b o w o:=Tw.YZ Yy b o
theorem Tw.trans {b:Nat} {o1 o2:Option Nat} (h:Tw w b o w1 o1) (h':Tw w1 b o1 w2 o2):Tw w b o w2 o2:=by
 refine ⟨h'.os.trans h.os,h'.tape.trans h.tape,h'.output.trans h.output,ZJ h.size h'.size,fun q hq hb ho=>?_,?_⟩
 · refine (h'.block q (ZY hq h.size) hb ?_).trans (h.block q hq hb ho)
   rcases h.own with e | e | ⟨g,e,hg⟩
   · rw [e];exact ho
   · rw [e];simp
   rw [e];intro e2;injection e2 with e2;omega
 rcases h'.own with e | e | ⟨g,e,hg⟩
 · rw [e];exact h.own
 · exact .inr (.inl e)
 exact .inr (.inr ⟨g,e,ZJ h.size hg⟩)
theorem Tw.below {b:Nat} (h:Tw w b o w' o') (hB:B≤w.heap.size) (hb:B≤b) (ho:∀g,o=some g→B≤g):Below B w w' :=
 ⟨h.os,h.tape,h.output,h.size,fun q hq=>h.block q (by omega) (by omega) (fun e=>by have:=ho q e;omega)⟩
theorem Tw.st {b:Nat} (h:Tw w b o w' o') (hs:St w c L) (hne:c≠b) (ho:o≠some c):St w' c L:=by
 have e:=h.block c hs.lt hne ho;refine ⟨ZY hs.lt h.size,fun j=>?_,fun j v hv=>(ZP (w:=w) (a:=⟨c,j,none⟩) e).trans (hs.cl j v hv)⟩;have:=hs.fz j;unfold World.frozen? at this ⊢;rw [e];exact this
theorem Tw.set {b:Nat} (h:Tw w b o w' o'):Tw w b o (w'.setCell ⟨b,j,none⟩ x) o':=by
 refine ⟨h.os,h.tape,h.output,by simpa using h.size,fun q hq hb ho=>?_,h.own⟩;rw [Below.heap_setCell w' ⟨b,j,none⟩ x q hb];exact h.block q hq hb ho
def pos (R:List (List Int × Nat)) (k:Nat):Nat:=((R.take k).map (·.2)).sum
theorem Gx (h:Below B w w') (q:Nat):Below B w (w'.drewN q):=⟨h.os,h.tape,h.output,h.size,h.block⟩
def OG (lim made:Int):Int:=if lim<0 then -1 else lim - made
theorem yi (w:World) (b o:Nat) (lim made:Int) (c2:w.cell? ⟨b,o+2,none⟩=some (.int .i64 lim)) (c3:w.cell? ⟨b,o+3,none⟩=some (.int .i64 made)) (hl:-9223372036854775808≤lim∧lim≤9223372036854775807) (hm:0≤made∧made≤10000) :
    Calls Tryz.prog 70 #[.pointer (some ⟨b,o,none⟩)] w (Wj w (.int .i64 (OG lim made))):=by
 by_cases h:lim<0
 · unfold OG
   rw [Z0 h]
   go_enter Tryz.func70,Tryz.ntmps70
   go_wp2;go_ret;exact ⟨rfl,Yy⟩
 unfold OG;rw [Z1 h]
 go_enter Tryz.func70,Tryz.ntmps70
 go_wp2_with fail
 go_quiet (fail)
 go_wp2;go_ret;exact ⟨Pe (by omega),Gx Yy _⟩
theorem Jw (w:World) (b o:Nat) (lim made:Int) (c2:w.cell? ⟨b,o+2,none⟩=some (.int .i64 lim)) (c3:w.cell? ⟨b,o+3,none⟩=some (.int .i64 made)) (f3:w.frozen? ⟨b,o+3,none⟩=false) (hlt:b<w.heap.size) (hl:-9223372036854775808≤lim∧lim≤9223372036854775807) (hm:0≤made∧made≤10000) (h:OG lim made≠0) :
    Calls Tryz.prog 138 #[.pointer (some ⟨b,o,none⟩)] w fun e w'=>e=.returned (.bool true)∧∃w1,Zi w w1∧w'=w1.setCell ⟨b,o+3,none⟩ (.int .i64 (made+1)):=by
 have HL:=ZU (yi w b o lim made c2 c3 hl hm);have hq:(OG lim made == 0)=false:=by simpa using h
 generalize OG lim made=q at *;clear c2
 go_enter Tryz.func138,Tryz.ntmps138
 go_wp2_with fail
 refine (HL.out).mono ?_;rintro e w1 ⟨rfl,b1⟩;have d3:=(b1.cell (p:=⟨b,o+3,none⟩) hlt).trans c3;have g3:=(b1.frozen (p:=⟨b,o+3,none⟩) hlt).trans f3;have B1:=ZU b1;clear b1 c3 f3;have hw3:IntKind.i64.wrap (made+1)=made+1:=by rw [Zq];omega
 go_wp2;go_ret;exact ⟨rfl,_,B1.out,rfl⟩
def rdv (YN:List Int) (ps:List (Int × List Int)) (b:Nat):Nat→List Int
 | 0=>(YN.drop (b*64)).take 64
 | k+1=>if pB ps k=b then pD ps k else rdv YN ps b k
theorem Rd.part {blk o:Nat} (h:Rd k w (.slice (some ⟨blk,o,none⟩) n cap) xs) (hn:xs.length=n) (i m:Nat) (hm:i+m≤n):Rd k w (.slice (some ⟨blk,o+i,none⟩) m (cap - i)) ((xs.drop i).take m):=by
 obtain ⟨ao,cap',e,h1,h2,h3⟩:=h
 simp only [ZC] at e
 obtain ⟨rfl,hl,rfl⟩:=e;have hlen:((xs.drop i).take m).length=m:=by rw [Zw,ZS];omega
 refine ⟨_,cap - i,by rw [hlen],by omega,by omega,?_⟩
 rcases h3 with rfl | ⟨b',o',e,hb,hc⟩
 · left;simp
 injection e with e
 injection e with e1 e2 _
 subst e1;subst e2;refine .inr ⟨blk,o+i,rfl,hb,fun j hj=>?_⟩;rw [hlen] at hj;have:=hc (i+j) (by omega);rw [Xu,this]
 simp [List.getD,Yt,hj]
theorem Vn (w:World) (cs:Array Value) (t:TypeId) (n:Nat) (hn:cs.size=n):(w.alloc (.cells cs t)).there w.heap.size 0 n:=by
 intro j hj;subst hn;rw [Za];have h:=Yz (w.alloc (.cells cs t)) w.heap.size j cs t (0,0) (Zs w _);refine ⟨by rw [h];simp [hj],by simp⟩
theorem below_setCells {b:Nat} (hB:B≤b):∀(vs:List Value) (o:Nat) (w':World),Below B w w'→Below B w (w'.setCells b o vs)
 | [],_,_,h=>h
 | v :: vs,o,w',h=>below_setCells hB vs (o+1) (w'.setCell ⟨b,o,none⟩ v) (h.setCell hB v)
theorem Mk (w:World) (blk o dl ca b:Nat) (YN:List Int) (hd:Rd .u8 w (.slice (some ⟨blk,o,none⟩) dl ca) YN) (hdl:YN.length=dl) (hb:(b+1)*64≤dl) (_hd1:dl≤1048576) :
    Calls Tryz.prog 108 #[.slice (some ⟨blk,o,none⟩) dl ca,.int .i64 b] w (Wj w (.agg (((YN.drop (b*64)).take 64).map (Value.int .u8)).toArray)):=by
 have HD:=ZU hd;have io:dl≤ca∧ca≤maxLen:=by
  obtain ⟨ao,c',e,h1,h2⟩:=HD.out.len
  simp only [ZC] at e
  obtain ⟨_,e2,rfl⟩:=e;omega
 obtain ⟨YX,Y'⟩:=io;unfold maxLen at Y';have hge:64≤dl - b*64:=by omega
 have hlt:¬dl - b*64<64:=by omega
 have hat:∀W,(Instr.arrayAt 117 (.slice (some ⟨blk,o+b*64,none⟩) (dl - b*64) (ca - b*64))).run Tryz.prog W=.ok (.pointer (some ⟨blk,o+b*64,none⟩)) W:=fun W=>run_arrayAt W 117 _ 64 _ _ _ Tryz.underlying117 hge
 have hsz:(Tryz.prog.info? 117).map (·.size)=some (((YN.drop (b*64)).take 64).map (Value.int .u8)).length:=by
  rw [Zl,Zw,ZS,show min 64 (YN.length - b*64)=64 by omega]
  kernel_rfl
 have hrg:w.rangeAt blk (o+b*64) (((YN.drop (b*64)).take 64).map (Value.int .u8)):=by
  obtain ⟨ao,cap',e,h1,h2,h3⟩:=hd
  simp only [ZC] at e
  obtain ⟨rfl,hl,rfl⟩:=e
  rcases h3 with rfl | ⟨b',o',e,hb',hc⟩
  · simp at hdl;omega
  injection e with e
  injection e with e1 e2 _
  subst e1;subst e2;intro j u hu;have hj:j<64:=by have:=(Zh.1 hu).1;simp at this;omega
  have:=hc (b*64+j) (by omega);rw [Xu,this]
  simp [Yt,hj] at hu
  obtain ⟨y,hy,rfl⟩:=hu
  simp [List.getD,hy]
 have LW:=ZU hsz;have Y1:=ZU hrg;clear hsz hrg;clear hd
 go_enter Tryz.func108,Tryz.ntmps108
 go_wp2_with (first | (refine YL rfl 117 _ rfl blk (o+b*64) rfl (((YN.drop (b*64)).take 64).map (Value.int .u8)) _ (Wk Y1.out _) Tryz.underlying117 rfl LW.out ?_) | (refine UO rfl 117 _ _ rfl w.heap.size 0 (((YN.drop (b*64)).take 64).map (Value.int .u8)).toArray rfl rfl ?s1 ?s2 ?s3 ?_))
 case s1=>exact Vn _ _ _ _ (by have h:(((YN.drop (b*64)).take 64).map (Value.int .u8)).toArray.size=64:=by { rw [ZI,Zl,Zw,ZS];omega };rw [h];rfl)
 case s2=>rw [ZI];exact LW.out
 case s3=>exact XL (Yi _ _)
 have hlen:(((YN.drop (b*64)).take 64).map (Value.int .u8)).length=64:=by rw [Zl,Zw,ZS];omega
 refine ZW (v:=.agg (((YN.drop (b*64)).take 64).map (Value.int .u8)).toArray) ?_ rfl ⟨rfl,?_⟩
 · have LV:∀cs:Array Value,cs.size=64→(loadVar 117 ⟨w.heap.size,0,none⟩).run Tryz.prog ((w.alloc (.cells cs 117)).setCells w.heap.size 0 (((YN.drop (b*64)).take 64).map (Value.int .u8)))=.ok (.agg (((YN.drop (b*64)).take 64).map (Value.int .u8)).toArray) ((w.alloc (.cells cs 117)).setCells w.heap.size 0 (((YN.drop (b*64)).take 64).map (Value.int .u8))):=fun cs hcs =>
    run_loadVar_mid (P:=Tryz.prog) _ w.heap.size 0 117 _ _ (Yf _ _ _ _ (Vn _ _ _ _ (by rw [hlen,hcs]))) Tryz.underlying117 rfl LW.out
   simp [results,Tryz.results108,Act.put,asAddr,-List.map_take,-List.map_drop]
   exact LV _ rfl
 exact below_setCells YR _ _ _ (Yy.alloc YR _)
theorem UN {α:Type} (L:List α) (off:Nat) (cs:List α) (h:off+cs.length≤L.length) (j:Nat) :
    (splice L off cs)[j]?=if j<off then L[j]? else if j<off+cs.length then cs[j - off]? else L[j]?:=by
 unfold splice;have hl:(L.take off).length=off:=by rw [Zw];omega
 by_cases h1:j<off
 · rw [Z0 h1,Zy (by omega),XP h1]
 rw [Z1 h1,Zv (by omega),hl]
 by_cases h2:j<off+cs.length
 · rw [Z0 h2,Zy (by omega)]
 rw [Z1 h2,Zv (by omega),Yt]
 congr 1
 omega
theorem Om {α β:Type} (f:α→β) (L:List α) (off:Nat) (cs:List α):(splice L off cs).map f=splice (L.map f) off (cs.map f):=by
 simp [splice,UD,List.map_drop]
theorem Lt {α:Type} (L:List α) (off:Nat):splice L off []=L:=by simp [splice]
def tL (YN:List Int) (ps:List (Int × List Int)) (c:Nat→Nat):Nat→List Int
 | 0=>YN
 | k+1=>splice (tL YN ps c k) ((pB ps k).toNat*64) ((pD ps k).take (c k))
theorem DM (h:QX dl ps=true) (k:Nat) (hk:k<ps.length):∃b:Nat,pB ps k=b∧b*64+64≤dl∧b≤300∧(pD ps k).length=64:=by
 obtain ⟨h1,h2,h3,h4,h5⟩:=(Su dl ps).1 h;obtain ⟨k1,k2,k3⟩:=h5 k hk;exact ⟨(pB ps k).toNat,by omega,by omega,by omega,k3⟩
theorem NR (YN:List Int) (ps:List (Int × List Int)) (c:Nat→Nat) (h:QX YN.length ps=true):∀k,k≤ps.length→(tL YN ps c k).length=YN.length
 | 0,_=>rfl
 | k+1,hk=>by
  have ih:=NR YN ps c h k (by omega);obtain ⟨b,hb,hb2,_,hd⟩:=DM h k (by omega);rw [tL,length_splice,ih];rw [hb,Ze,Zw,ih,hd];omega
def MT (YN:List Int) (ps:List (Int × List Int)):List Int:=if QX YN.length ps then tL YN ps (fun _=>64) ps.length else []
theorem sP (YN:List Int) (ps:List (Int × List Int)):(MT YN ps).length≤YN.length:=by
 unfold MT;split
 · rename_i h
   rw [NR YN ps _ h _ YR];exact YR
 simp
def Tn (rs:List (Int × List Int)):List Value:=rs.flatMap fun r=>.int .i64 r.1 :: r.2.map (Value.int .u8)
theorem Ls (a b:List (Int × List Int)):Tn (a++b)=Tn a++Tn b:=by simp [Tn]
theorem Gv (x:Int) (V:List Int):Tn [(x,V)]=.int .i64 x :: V.map (Value.int .u8):=by simp [Tn]
theorem NQ:∀(rs:List (Int × List Int)),(∀i,i<rs.length→(pD rs i).length=64)→(Tn rs).length=rs.length*65
 | [],_=>rfl
 | r :: rs,h=>by
  have h0:r.2.length=64:=h 0 (by simp);have ih:=NQ rs (fun i hi=>h (i+1) (by simp;omega));have e:Tn (r :: rs)=Tn [(r.1,r.2)]++Tn rs:=by simp [Tn]
  rw [e,ZZ,ih,Gv]
  simp [h0];omega
theorem sO (rs:List (Int × List Int)) (i k:Nat) (h:i<k):pD (rs.take k) i=pD rs i:=by unfold pD;simp [List.getD,XP h]
theorem yh (rs:List (Int × List Int)) (i:Nat) (hi:i<rs.length):rs=rs.take i++((pB rs i,pD rs i) :: rs.drop (i+1)):=by
 have e:(pB rs i,pD rs i)=rs[i]:=by unfold pB pD;simp [List.getD,hi]
 rw [e]
 conv=>lhs;rw [←YQ i rs]
 rw [Yg hi]
theorem Ol (rs:List (Int × List Int)) (i:Nat) (hi:i<rs.length):Tn rs=Tn (rs.take i)++(.int .i64 (pB rs i) :: ((pD rs i).map (Value.int .u8)++Tn (rs.drop (i+1)))):=by
 conv=>lhs;rw [yh rs i hi]
 rw [Ls]
 congr 1
theorem PG (rs:List (Int × List Int)) (i:Nat) (hi:i≤rs.length) (h:∀i,i<rs.length→(pD rs i).length=64):(Tn (rs.take i)).length=i*65:=by
 rw [NQ _ (fun j hj=>by rw [Zw] at hj;rw [sO _ _ _ (by omega)];exact h j (by omega)),Zw,YC hi]
theorem ye (rs:List (Int × List Int)) (i:Nat) (hi:i<rs.length) (h:∀i,i<rs.length→(pD rs i).length=64):(Tn rs)[i*65]?=some (.int .i64 (pB rs i)):=by
 rw [Ol rs i hi,Zv (by rw [PG rs i (by omega) h];exact YR),PG rs i (by omega) h]
 simp
theorem yd (rs:List (Int × List Int)) (i:Nat) (hi:i<rs.length) (h:∀i,i<rs.length→(pD rs i).length=64) (j:Nat) (u:Value) (hu:((pD rs i).map (Value.int .u8))[j]?=some u):(Tn rs)[i*65+1+j]?=some u:=by
 have hj:j<(pD rs i).length:=by have:=(Zh.1 hu).1;simpa using this
 rw [Ol rs i hi,Zv (by rw [PG rs i (by omega) h];omega),PG rs i (by omega) h,show i*65+1+j - i*65=j+1 by omega,Xr,Zy (by simpa using hj)];exact hu
theorem AI (rs:List (Int × List Int)) (i:Nat) (hi:i<rs.length) (r:Int × List Int):rs.set i r=rs.take i++(r :: rs.drop (i+1)):=by
 rw [VI,Z0 hi]
theorem yb (rs:List (Int × List Int)) (i:Nat) (hi:i<rs.length) (h:∀i,i<rs.length→(pD rs i).length=64) (V:List Int) (hV:V.length=64) :
    Tn (rs.set i (pB rs i,V))=splice (Tn rs) (i*65+1) (V.map (Value.int .u8)):=by
 have hp:=PG rs i (by omega) h;have hd:=h i hi;rw [AI rs i hi,Ls];have e1:Tn ((pB rs i,V) :: rs.drop (i+1))=.int .i64 (pB rs i) :: (V.map (Value.int .u8)++Tn (rs.drop (i+1))):=by simp [Tn]
 rw [e1,Ol rs i hi];generalize Tn (rs.take i)=A at *;generalize Tn (rs.drop (i+1))=B at *;have hO:((pD rs i).map (Value.int .u8)).length=64:=by simpa using hd
 have hV':(V.map (Value.int .u8)).length=64:=by simpa using hV
 generalize (pD rs i).map (Value.int .u8)=O at *;generalize V.map (Value.int .u8)=V' at *;generalize Value.int .i64 (pB rs i)=x at *;unfold splice;have t1:(A++x :: (O++B)).take (i*65+1)=A++[x]:=by
  rw [List.take_append,Y8 (by omega),show i*65+1 - A.length=1 by omega];rfl
 have t2:(A++x :: (O++B)).drop (i*65+1+V'.length)=B:=by
  rw [Tc,Xx (by omega),show i*65+1+V'.length - A.length=64+1 by omega,Ur,Tc,Xx (by omega),show 64 - O.length=0 by omega]
  simp
 rw [t1,t2]
 simp
theorem PF (rs:List (Int × List Int)) (i j:Nat) (hi:i<rs.length) (V:List Int):pB (rs.set i (pB rs i,V)) j=pB rs j:=by
 unfold pB
 simp only [List.getD,TG]
 by_cases e:i=j
 · subst e;simp [hi]
 simp [e]
theorem x8 (rs:List (Int × List Int)) (i j:Nat) (hi:i<rs.length) (V:List Int):pD (rs.set i (pB rs i,V)) j=if j=i then V else pD rs j:=by
 unfold pD
 simp only [List.getD,TG]
 by_cases e:i=j
 · subst e;simp [hi]
 rw [Z1 e,Z1 (fun h=>e h.symm)]
def Put (rs:List (Int × List Int)) (x:Int) (V:List Int) (rs':List (Int × List Int)):Prop :=
 (∃i,i<rs.length∧pB rs i=x∧rs'=rs.set i (pB rs i,V))∨((∀i,i<rs.length→pB rs i≠x)∧rs'=rs++[(x,V)])
def Lr (YN:List Int) (ps:List (Int × List Int)) (k:Nat) (rs:List (Int × List Int)):Prop :=
 (∀b:Nat,(∀i,i<rs.length→pB rs i=b→rdv YN ps b k=pD rs i)∧((∀i,i<rs.length→pB rs i≠b)→rdv YN ps b k=rdv YN ps b 0)) ∧
 (∀i,i<rs.length→∃b:Nat,pB rs i=b∧b*64+64≤YN.length∧b≤300)
theorem AH (YN:List Int) (ps:List (Int × List Int)):Lr YN ps 0 []:=⟨fun b=>⟨fun i hi=>by simp at hi,fun _=>rfl⟩,fun i hi=>by simp at hi⟩
theorem DL (YN:List Int) (ps:List (Int × List Int)) (b k:Nat) (h:pB ps k=b):rdv YN ps b (k+1)=pD ps k:=by unfold rdv;rw [Z0 h]
theorem NP (YN:List Int) (ps:List (Int × List Int)) (b k:Nat) (h:¬pB ps k=b):rdv YN ps b (k+1)=rdv YN ps b k:=by rw [rdv,Z1 h]
theorem AG (YN:List Int) (ps rs rs':List (Int × List Int)) (k:Nat) (ht:Lr YN ps k rs) (hk:∃b:Nat,pB ps k=b∧b*64+64≤YN.length∧b≤300)
    (hap:∀i j,i<rs.length→j<rs.length→pB rs i=pB rs j→i=j) (h:Put rs (pB ps k) (pD ps k) rs'):Lr YN ps (k+1) rs':=by
 obtain ⟨h1,h2⟩:=ht
 rcases h with ⟨i,hi,hx,rfl⟩ | ⟨hno,rfl⟩
 · have hl:(rs.set i (pB rs i,pD ps k)).length=rs.length:=Xt ..
   refine ⟨fun b=>⟨fun j hj hb=>?_,fun hb=>?_⟩,fun j hj=>?_⟩
   · rw [hl] at hj
     rw [PF rs i j hi] at hb;rw [x8 rs i j hi]
     by_cases e:j=i
     · subst e;rw [Z0 rfl];exact DL YN ps b k (by rw [←hx];exact hb)
     rw [Z1 e,NP YN ps b k (fun e'=>e (hap j i hj hi (by rw [hb,hx,e'])))];exact (h1 b).1 j hj hb
   · have hb':∀j,j<rs.length→pB rs j≠b:=fun j hj=>by have:=hb j (by rw [hl];exact hj);rw [PF rs i j hi] at this;exact this
     rw [NP YN ps b k (fun e=>hb' i hi (by rw [hx,e]))];exact (h1 b).2 hb'
   rw [hl] at hj;rw [PF rs i j hi];exact h2 j hj
 have hl:(rs++[(pB ps k,pD ps k)]).length=rs.length+1:=by simp
 refine ⟨fun b=>⟨fun j hj hb=>?_,fun hb=>?_⟩,fun j hj=>?_⟩
 · rw [hl] at hj
   by_cases e:j=rs.length
   · subst e
     rw [Th] at hb;rw [LM];exact DL YN ps b k hb
   rw [Tz _ _ _ (by omega)] at hb;rw [IJ _ _ _ (by omega),NP YN ps b k (fun e'=>hno j (by omega) (by rw [hb,e']))];exact (h1 b).1 j (by omega) hb
 · have hn:=hb rs.length (by rw [hl];omega)
   rw [Th] at hn;rw [NP YN ps b k hn];exact (h1 b).2 (fun j hj=>by have:=hb j (by rw [hl];omega);rw [Tz _ _ _ hj] at this;exact this)
 rw [hl] at hj
 by_cases e:j=rs.length
 · subst e;rw [Th];exact hk
 rw [Tz _ _ _ (by omega)];exact h2 j (by omega)
def MF (D:DataW Unit) (rs:List (Int × List Int)):Prop :=
 (∀x:Int,Maps.has D (.int .i64 x)=true↔∃i,i<rs.length∧pB rs i=x)∧∀i,i<rs.length→∀z,D.atKey (.int .i64 (pB rs i)) z=.lit (.int .i64 i)
theorem MF.set {D:DataW Unit} (h:MF D rs) (i:Nat) (hi:i<rs.length) (V:List Int):MF D (rs.set i (pB rs i,V)):=by
 have hl:(rs.set i (pB rs i,V)).length=rs.length:=Xt ..;refine ⟨fun x=>?_,fun j hj z=>?_⟩
 · rw [h.1 x,hl]
   constructor
   · rintro ⟨j,hj,e⟩;exact ⟨j,hj,by rw [PF rs i j hi];exact e⟩
   rintro ⟨j,hj,e⟩;rw [PF rs i j hi] at e;exact ⟨j,hj,e⟩
 rw [hl] at hj;rw [PF rs i j hi];exact h.2 j hj z
theorem MF.snoc {D:DataW Unit} (h:MF D rs) (hD:Maps.IsMap D) (x:Int) (V:List Int) (hno:∀i,i<rs.length→pB rs i≠x):MF (D.put (.int .i64 x) (.lit (.int .i64 (rs.length:Int)))) (rs++[(x,V)]):=by
 have hl:(rs++[(x,V)]).length=rs.length+1:=by simp
 refine ⟨fun y=>?_,fun j hj z=>?_⟩
 · by_cases e:y=x
   · subst e
     rw [Maps.has_put_same (k:=.int .i64 y) hD trivial];exact ⟨fun _=>⟨rs.length,by rw [hl];omega,Th _ _⟩,fun _=>rfl⟩
   rw [Maps.has_put_other (by intro h;injection h;contradiction),h.1 y,hl]
   constructor
   · rintro ⟨j,hj,e'⟩;exact ⟨j,by omega,by rw [Tz _ _ _ hj];exact e'⟩
   rintro ⟨j,hj,e'⟩
   by_cases ej:j=rs.length
   · subst ej;rw [Th] at e';exact absurd e'.symm e
   rw [Tz _ _ _ (by omega)] at e';exact ⟨j,by omega,e'⟩
 rw [hl] at hj
 by_cases ej:j=rs.length
 · subst ej;rw [Th];exact Maps.atKey_put_same (k:=.int .i64 x) hD trivial _ _
 rw [Tz _ _ _ (by omega),Maps.atKey_put_other (by intro h';injection h' with _ h';exact hno j (by omega) h')];exact h.2 j (by omega) z
theorem Ru {o:Oper} {K:Act→World→Prop} {Q:Exit→Act→World→Prop} {E:Prop} (hgd:o.guard=none) (d s:Operand) (dT sT:TypeId)
    (ho:o.op=.call { callee:=.builtin .copy,args:=#[d,s],argTypes:=#[dT,sT] }) (elem:TypeId) (hu:P.underlying dT=some (.slice elem)) (hsz:(P.info? elem).map (·.size)=some 1)
    (dp sp:Option Addr) (dLen dCap sLen sCap:Nat) (hd:a.eval d=.slice dp dLen dCap) (hs:a.eval s=.slice sp sLen sCap)
    (g off:Nat) (cur:List Value) (t:TypeId) (hg:w.heap[g]?=some (.cells cur.toArray t (0,0))) (cs:List Value) (hn:cs.length=Nat.min sLen dLen)
    (hpos:0<cs.length→dp=some ⟨g,off,none⟩∧∃ad,sp=some ad∧∀j v,cs[j]?=some v→w.cell? (ad.add j)=some v)
    (hfit:off+cs.length≤cur.length) (h1:∀v ∈ cs,v.oneCell'=true)
    (h:∀w',Hid (w'.heap[g]?=some (.cells (splice cur off cs).toArray t (0,0)))→Hid (w.grownBy w' (some g))→K (a.put o.dst (goInt cs.length)) w') :
    if Region.wanted o (yielded ops a.tmps)=true then Oper.wp P o a w K Q else E:=by
 have hw:Region.wanted o (yielded ops a.tmps)=true:=by simp [Region.wanted,hgd]
 rw [Z0 hw]
 by_cases h0:cs.length=0
 · obtain rfl:cs=[]:=Zg h0
   have hrun:=run_copy_none (P:=P) w dT sT o.type elem dp sp dLen dCap sLen sCap hu hsz (by simpa using hn.symm);unfold Oper.wp
   simp [execOp,ho,resolve,invoke,builtin,hd,hs,hrun,Result.andThen]
   exact h w (show _=_ by simpa [splice] using hg) (Zz _ _)
 obtain ⟨rfl,ad,rfl,hsrc⟩:=hpos (by omega);have hrun:=run_copy_row (P:=P) w dT sT o.type elem g off dLen dCap ad sLen sCap cur.toArray t cs hu hsz hg hn hsrc (by simpa using hfit) h1;unfold Oper.wp
 simp [execOp,ho,resolve,invoke,builtin,hd,hs,hrun,Result.andThen]
 exact h _ (show _=_ by simpa [splice] using WB w g _ _ t _ hg) (show World.grownBy _ _ _ from ⟨rfl,rfl,rfl,by simp [World.setRow],fun k _ hne=>Ua w g k _ (fun e=>hne (by rw [e]))⟩)
theorem Wi (n:Nat) (h:n=64):(Tryz.prog.info? 117).map (·.size)=some n:=by subst h;kernel_rfl
theorem xZ:(Tryz.prog.info? 5).map (·.size)=some 1:=by kernel_rfl
theorem NO (w:World) (base g dl cap b:Nat) (D C:List Int) (ho:Own .u8 5 w base (.slice (some ⟨g,0,none⟩) dl cap) D) (hD:D.length=dl) (hC:C.length=64) (hb:b*64+64≤dl) (hd1:dl≤1048576) :
    Calls Tryz.prog 51 #[.slice (some ⟨g,0,none⟩) dl cap,.int .i64 b,.agg (C.map (Value.int .u8)).toArray] w fun e w'=>e=.returned (.tuple #[])∧Own .u8 5 w' base (.slice (some ⟨g,0,none⟩) dl cap) (splice D (b*64) C)∧w.grownBy w' (some g):=by
 obtain ⟨X,hX⟩:∃X,X=C.map (Value.int .u8):=⟨_,rfl⟩;rw [←hX];have HX:Hid (X.length=64):=by subst hX;show _=_;simpa using hC
 have GQ:Hid (∀v ∈ X,v.oneCell'=true):=by subst hX;exact Yi _ _
 have HO:=ZU ho;obtain ⟨cur,hgb,PQ,hcap,hcm,htake⟩:∃cur:Array Value,w.heap[g]?=some (.cells cur 5 (0,0))∧cur.size=cap∧dl≤cap∧cap≤maxLen∧cur.toList.take dl=D.map (Value.int .u8):=by
  rcases ho.2 with ⟨h,-⟩ | ⟨g',cap',cur,e,-,h2,h3,h4,h5,h6⟩
  · simp at h
  simp only [ZC,ZK,Ym] at e
  obtain ⟨⟨rfl,-⟩,-,rfl⟩:=e;rw [hD] at h3 h6;rw [Yr] at h5 h6;exact ⟨cur,h2,h5,h3,h4,h6⟩
 have hgz:=(Z3.1 hgb).1;have kZ:=ZU hgb;have Y5:=ZU PQ;have ZB:=ZU ((ZT ho g rfl).1);have PR:Hid ((splice cur.toList (b*64) X).take dl=(splice D (b*64) C).map (Value.int .u8)∧(splice D (b*64) C).length=dl∧(splice cur.toList (b*64) X).length=cap):=by
  have hcl:cur.toList.length=cap:=by simpa using PQ
  have hxl:=HX.out;refine ⟨?_,by rw [length_splice _ _ _ (by omega),hD],by rw [length_splice _ _ _ (by omega),hcl]⟩;rw [Om,←htake,←hX];apply Wn;intro j;rw [UN _ _ _ (by rw [Zw];omega),WJ]
  by_cases hj:j<dl
  · rw [Z0 hj,UN _ _ _ (by omega),XP hj]
  rw [Z1 hj,Z1 (by omega),Z1 (by omega),WJ,Z1 hj]
 unfold maxLen at hcm;clear hX hC ho hgb htake PQ
 go_enter Tryz.func51,Tryz.ntmps51
 go_wp2_with fail
 have GA:Hid ((w.alloc (.cells X.toArray 117)).heap[g]?=some (.cells cur.toList.toArray 5 (0,0))):=by
  show _=_;rw [Below.heap_alloc _ _ _ hgz,Array.toArray_toList];exact kZ.out
 have CX:Hid (∀(j:Nat) (v:Value),X[j]?=some v→(w.alloc (.cells X.toArray 117)).cell? ((⟨w.heap.size,0,none⟩:Addr).add j)=some v):=by
  intro j v h;rw [YY,Za,Yz _ _ j _ _ _ (Zs w _)]
  simpa using h
 have oR:((b*64:Nat):Int)≤(dl:Int):=by omega
 have YE:(b:Int)*64≤(dl:Int):=by omega
 have hwr:IntKind.i64.wrap ((b:Int)*64)=((b*64:Nat):Int):=by rw [Zq];omega
 have hnc:¬cap=b*64:=by omega
 have hb0:(0:Int)≤(b:Int)*64:=by omega
 have htn:((b:Int)*64).toNat=b*64:=by omega
 have hgr:w.grownBy (w.alloc (.cells X.toArray 117)) (some g):=WQ _ _ _;have Y0:=ZU hgr;clear hgr;generalize w.alloc _=W0 at *
 go_region_law (refine Ru rfl (.tmp 9) (.tmp 10) 22 22 rfl 5 Tryz.underlying22 xZ _ _ _ _ _ _ rfl rfl g (b*64) cur.toList 5 GA.out X (by rw [HX.out];exact (YC (show 64≤dl - b*64 by omega)).symm) (fun _=>⟨rfl,⟨w.heap.size,0,none⟩,rfl,CX.out⟩) (by rw [HX.out,YJ,Y5.out];omega) GQ.out ?_;intro w4 hg4 hb4)
 go_wp2
 go_end0
 refine ⟨rfl,?_,?_⟩
 · refine ⟨by rw [PR.out.2.1];simpa using PR.out.2.1,.inr ⟨g,cap,(splice cur.toList (b*64) X).toArray,?_,ZB.out,hg4.out,by rw [PR.out.2.1];exact hcap,hcm,?_,?_⟩⟩
   · rw [PR.out.2.1]
   · simpa using PR.out.2.2
   rw [PR.out.2.1,Yr];exact PR.out.1
 exact Y0.out.trans (show W0.grownBy w4 (some g) from ⟨hb4.out.os,hb4.out.tape,hb4.out.output,hb4.out.size,hb4.out.block⟩)
structure Qx (w:World) (lo tb mb:Nat) (v:Value) (rs:List (Int × List Int)):Prop where
 box:SU w tb v (.map (some mb))
 rows:w.ownsRow lo 210 65 v rs.length (Tn rs)
 map:∃D:DataW Unit,w.ownsMap Tryz.prog 2 (plainElem Tryz.prog 3) mb rs.length D∧MF D rs
 full:∀i,i<rs.length→(pD rs i).length=64
 apart:∀i j,i<rs.length→j<rs.length→pB rs i=pB rs j→i=j
 lot:lo≤tb
 kY:lo≤mb
 ne:tb≠mb
 vt:v.ownBlock≠some tb
 vm:v.ownBlock≠some mb
theorem Qx.below (h:Qx w lo tb mb v rs) (hb:Zi w w'):Qx w' lo tb mb v rs:=by
 have G:w.grownBy w' none:=⟨hb.os,hb.tape,hb.output,hb.size,fun q hq _=>hb.block q hq⟩;obtain ⟨D,hD,hM⟩:=h.map;refine ⟨h.box.below hb,Zn h.rows G ?_,⟨D,hD.kept G (by simp),hM⟩,h.full,h.apart,h.lot,h.kY,h.ne,h.vt,h.vm⟩
 cases v.ownBlock with
 | none=>exact .inl rfl
 | some q=>exact .inr (by simp)
theorem oQ:Maps.Keyed Tryz.prog 2:=Maps.int_keyed Tryz.underlying2
theorem Ce (w:World):(zeroValue 3).run Tryz.prog w=.ok (.int .i64 0) w:=by kernel_rfl
theorem NM (w:World):Calls Tryz.prog 135 #[] w fun e w'=>e=.returned (.pointer (some ⟨w.heap.size+1,0,none⟩))∧Qx w' w.heap.size (w.heap.size+1) w.heap.size (.slice none 0 0) []∧Zi w w':=by
 have hmm:=@run_makeMap Tryz.prog
 go_enter Tryz.func135,Tryz.ntmps135
 go_wp2;go_ret;have B1:Zi w (w.alloc (.map #[] 0)):=Yy.alloc YR _;have hbx:=SU.new (w.alloc (.map #[] 0)) (.slice none 0 0) (.map (some w.heap.size)) 208;rw [YF] at hbx;refine ⟨rfl,⟨hbx,ZH _ _ _ _,⟨.map [],(World.ownsMap_made w Tryz.prog _ _).alloc _,⟨fun x=>⟨fun h=>by simp [Maps.has] at h,fun ⟨i,hi,_⟩=>by simp at hi⟩,fun i hi=>by simp at hi⟩⟩,fun i hi=>by simp at hi,fun i j hi=>by simp at hi,by omega,YR,by omega,by simp [Value.ownBlock],by simp [Value.ownBlock]⟩,B1.alloc B1.size _⟩
theorem Pd (w:World) (cs:Array Value) (t:TypeId):(w.alloc (.cells cs t)).rangeAt w.heap.size 0 cs.toList:=by
 intro j v hv;rw [Za,Yz _ _ j cs t (0,0) (Zs w _)]
 simpa using hv
theorem Qx.form (h:Qx w lo tb mb v rs) (h0:0<rs.length):∃g cap,v=.slice (some ⟨g,0,none⟩) rs.length cap∧lo≤g∧g<w.heap.size∧rs.length≤cap∧cap≤maxLen:=by
 rcases h.rows.2 with ⟨-,h1⟩ | ⟨g,cap,cur,rfl,hb,hg,h2,h3,-⟩
 · omega
 exact ⟨g,cap,rfl,hb,(Z3.1 hg).1,h2,h3⟩
theorem Own.pos (h:Own .u8 5 w base v xs) (hn:xs.length=n) (h0:0<n):∃g cap,v=.slice (some ⟨g,0,none⟩) n cap∧base≤g∧g<w.heap.size:=by
 subst hn
 rcases h.2 with ⟨-,h1⟩ | ⟨g,cap,cur,rfl,hb,hg,-⟩
 · omega
 exact ⟨g,cap,rfl,hb,(Z3.1 hg).1⟩
theorem Rd.cellAt (h:Rd k w (.slice ao n cap) xs) (hl:xs.length=n) (hi:i<n):∃b o,ao=some ⟨b,o,none⟩∧b<w.heap.size∧w.cell? ⟨b,o+i,none⟩=some (.int k (xs.getD i 0)):=by
 obtain ⟨oY,cap',e,h1,h2,h3⟩:=h
 simp only [ZC] at e
 obtain ⟨rfl,_,rfl⟩:=e
 rcases h3 with rfl | ⟨b,o,rfl,hb,hc⟩
 · simp at hl;omega
 exact ⟨b,o,rfl,hb,hc i (by omega)⟩
theorem SU.other {b:Nat} {row:Option Nat} (h:SU w b x y) (hg:w.grownBy w' row) (hne:some b≠row):SU w' b x y :=
 ⟨h.1.other hg hne,(hg.frozen_far ⟨b,0,none⟩ h.1.1 hne).trans h.2.1,(hg.frozen_far ⟨b,1,none⟩ h.1.1 hne).trans h.2.2⟩
end
end Go.Proofs.YtpmjnbmkippaiaaGreatDoor


