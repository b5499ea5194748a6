import Derived.Test.YtmmmffcbfepghaaGreatDoorJ11A
import Derived.Test.YtmmmffcbfepghaaGreatDoorJ09
set_option maxRecDepth 100000
set_option maxHeartbeats 16000000
set_option linter.unusedVariables false
set_option linter.unusedSimpArgs false
namespace Go.Proofs.YtmmmffcbfepghaaGreatDoor
open Go.RowKit Go.Shelf
variable {log:Bool} {L S b ZN c g l s:Int} {ps:List (Int × List Int)} {xs ys zs:List Int} {ns:List Nd} {ca cb dl j n p q:Nat} {ao bo:Option Addr} {e:TypeId} {u v v1 v2 vt:Value} {W W' w:World}
structure YU where
 g:Int
 b:Int
 s:Int
 l:Int
 c:Int
def Rw (ys:List Int):YU:=⟨nG ys,nB ys,nS ys,nL ys,nC ys⟩
def Ww (S:Int) (ys:List Int):Bool:=decide (Ub ys) && decide (nL ys≤S*64)
def sQ (xs:List Int):Int:=((4294967295 - Tj 4294967295 xs:Nat):Int)
def Fw (im:List Int) (c:Int):Option (List Nd) :=
 match Ty im with
 | none=>none
 | some ns=>if sQ im=c then some ns else none
def yT (Z7:List Int) (ps:List (Int × List Int)) (S L:Int) (x:YU):List Int:=(Yo Z7 ps S L x.b false).take x.l.toNat
def TQ (Z7:List Int) (ps:List (Int × List Int)) (S L:Int) (x:YU):Option (List Nd):=Fw (yT Z7 ps S L x) x.c
structure UD where
 code:Int
 sp:YU
 zx:Int
 ns:List Nd
 used:Int
 ops:Int
 Z7:List Int
 ps:List (Int × List Int)
def Zq (code:Int):UD:=⟨code,⟨0,0,0,0,0⟩,0,[],0,0,[],[]⟩
def Zu (log:List Int) (e:Nat):List Int:=log.take e++zeros (log.length - (log.take e).length)
def WZ (f:Int) (log want:List Int) (b:Nat):Nat→List (Int × List Int)
 | 0=>[]
 | n+1=>(if blk log b=blk want b then [] else [(f+b,blk want b)])++WZ f log want (b+1) n
def UC (Z7:List Int) (ps:List (Int × List Int)) (S L limit:Int) (code:Int) (x:YU) (log:List Int) (r:List Nd × Int × Nat) (e:Int):UD :=
 if (WZ (YM S L x.b true) log (Zu log e.toNat) 0 L.toNat).length=0 then ⟨code,x,r.2.1,r.1,e,0,Z7,ps⟩
 else if 0≤limit∧limit≤((WZ (YM S L x.b true) log (Zu log e.toNat) 0 L.toNat).length:Int) then
  { Zq 2 with ops:=limit,Z7:=Z7,ps:=ps++(WZ (YM S L x.b true) log (Zu log e.toNat) 0 L.toNat).take limit.toNat }
 else ⟨code,x,r.2.1,r.1,e,((WZ (YM S L x.b true) log (Zu log e.toNat) 0 L.toNat).length:Int)+1,ZC Z7 (ps++WZ (YM S L x.b true) log (Zu log e.toNat) 0 L.toNat),[]⟩
def Xx (Z7:List Int) (ps:List (Int × List Int)) (S L limit:Int) (x y:YU) (yg:Bool):UD :=
 match TQ Z7 ps S L x with
 | some ns=>UC Z7 ps S L limit 0 x (Yo Z7 ps S L x.b true) (Y6 ns x.s (Yo Z7 ps S L x.b true)) (SM ns x.s (Yo Z7 ps S L x.b true))
 | none =>
  if yg=false∨y.g+1≠x.g∨y.b=x.b then Zq 3
  else match TQ Z7 ps S L y with
   | none=>Zq 3
   | some ns=>UC Z7 ps S L limit 1 x (Yo Z7 ps S L x.b true) (Y6 (Y6 ns y.s (Yo Z7 ps S L y.b true)).1 (Y6 ns y.s (Yo Z7 ps S L y.b true)).2.1 (Yo Z7 ps S L x.b true)) (SM (Y6 ns y.s (Yo Z7 ps S L y.b true)).1 (Y6 ns y.s (Yo Z7 ps S L y.b true)).2.1 (Yo Z7 ps S L x.b true))
def rcv (Z7:List Int) (ps:List (Int × List Int)) (S L limit:Int):UD :=
 if WR S L Z7.length ps=false∨1936<ps.length then Zq 4
 else if Ww S (blk (ZC Z7 ps) 0)=false∧Ww S (blk (ZC Z7 ps) 1)=false then Zq 3
 else if Ww S (blk (ZC Z7 ps) 0)=false∨(Ww S (blk (ZC Z7 ps) 1)=true∧nG (blk (ZC Z7 ps) 0)<nG (blk (ZC Z7 ps) 1))
  then Xx Z7 ps S L limit (Rw (blk (ZC Z7 ps) 1)) (Rw (blk (ZC Z7 ps) 0)) (Ww S (blk (ZC Z7 ps) 0))
  else Xx Z7 ps S L limit (Rw (blk (ZC Z7 ps) 0)) (Rw (blk (ZC Z7 ps) 1)) (Ww S (blk (ZC Z7 ps) 1))
def Wg (r:UD) (vt v1 v2:Value):Array Value:=#[.int .i64 r.code,.int .i64 r.sp.g,.int .i64 r.sp.b,.int .i64 r.sp.s,.int .i64 r.sp.l,.int .i64 r.sp.c,.int .i64 r.zx,vt,.int .i64 r.used,.int .i64 r.ops,v1,v2]
def TL (W:World) (b:Nat) (r:UD) (vt v1 v2:Value):Prop:=W.heap[b]?=some (.cells (Wg r vt v1 v2) 38 (0,0))
theorem TL.lt {b:Nat} {r:UD} (h:TL W b r vt v1 v2):b<W.heap.size:=(Array.getElem?_eq_some_iff.1 h).1
theorem TL.below {b:Nat} {r:UD} (h:TL W b r vt v1 v2) (hb:ZX W W'):TL W' b r vt v1 v2:=(hb.block _ h.lt).trans h
theorem TL.new (W:World) (r:UD) (vt v1 v2:Value):TL (W.alloc (.cells (Wg r vt v1 v2) 38)) W.heap.size r vt v1 v2:=WJ W _
theorem TL.cells {b:Nat} {r:UD} (h:TL W b r vt v1 v2):W.cell? ⟨b,0,none⟩=some (.int .i64 r.code)∧W.cell? ⟨b,1,none⟩=some (.int .i64 r.sp.g)∧W.cell? ⟨b,2,none⟩=some (.int .i64 r.sp.b)∧W.cell? ⟨b,3,none⟩=some (.int .i64 r.sp.s)∧W.cell? ⟨b,4,none⟩=some (.int .i64 r.sp.l)∧W.cell? ⟨b,5,none⟩=some (.int .i64 r.sp.c)∧W.cell? ⟨b,6,none⟩=some (.int .i64 r.zx)∧W.cell? ⟨b,7,none⟩=some vt∧W.cell? ⟨b,8,none⟩=some (.int .i64 r.used)∧W.cell? ⟨b,9,none⟩=some (.int .i64 r.ops)∧W.cell? ⟨b,10,none⟩=some v1∧W.cell? ⟨b,11,none⟩=some v2:=by
 refine ⟨?_,?_,?_,?_,?_,?_,?_,?_,?_,?_,?_,?_⟩ <;> (rw [cell_of h];rfl)
theorem JX (w:World) (x:YU) :
    Calls Tryz.prog 38 #[.agg #[.int .i64 x.g,.int .i64 x.b,.int .i64 x.s,.int .i64 x.l,.int .i64 x.c],.agg #[.int .i64 x.g,.int .i64 x.b,.int .i64 x.s,.int .i64 x.l,.int .i64 x.c]] w (Ze w (.bool true)):=by
 have B0:Hid (ZX w ((w.alloc (.cells #[.int .i64 x.g,.int .i64 x.b,.int .i64 x.s,.int .i64 x.l,.int .i64 x.c] 30)).alloc (.cells #[.int .i64 x.g,.int .i64 x.b,.int .i64 x.s,.int .i64 x.l,.int .i64 x.c] 30))):=(ZR.alloc ZW _).alloc (by simp) _
 go_enter Tryz.func38,Tryz.ntmps38
 go_wp2;go_ret;exact ⟨rfl,B0.out⟩
theorem Fv (w:World) (r:UD) (vt v1 v2 ut u1 u2:Value) (ht:VL w vt r.ns) (hu:VL w ut r.ns) (h1:Rd .u8 w v1 r.Z7) (g1:Rd .u8 w u1 r.Z7) (h2:XP w v2 r.ps) (g2:XP w u2 r.ps) (hn:r.ns.length≤1048576) (heq:∀W,Rd .u8 W v1 r.Z7→Rd .u8 W u1 r.Z7→XP W v2 r.ps→XP W u2 r.ps→Calls Tryz.prog 10 #[.agg #[v1,v2],.agg #[u1,u2]] W (Ze W (.bool true))) :
    Calls Tryz.prog 9 #[.agg (Wg r vt v1 v2),.agg (Wg r ut u1 u2)] w (Ze w (.bool true)):=by
 obtain ⟨ta,tc,rfl,-⟩:=ht.len;obtain ⟨ua,uc,rfl,-⟩:=hu.len;obtain ⟨da,dc,rfl,-⟩:=h1.len;obtain ⟨ea,ec,rfl,-⟩:=g1.len;obtain ⟨pa,pc,hv2,-⟩:=id h2;subst hv2;obtain ⟨qa,qc,hu2,-⟩:=id g2;subst hu2;have B0:Hid (ZX w ((w.alloc (.cells (Wg r (.slice ta r.ns.length tc) (.slice da r.Z7.length dc) (.slice pa r.ps.length pc)) 38)).alloc (.cells (Wg r (.slice ua r.ns.length uc) (.slice ea r.Z7.length ec) (.slice qa r.ps.length qc)) 38))):=(ZR.alloc ZW _).alloc (by simp) _;have X1:Hid (TL ((w.alloc (.cells (Wg r (.slice ta r.ns.length tc) (.slice da r.Z7.length dc) (.slice pa r.ps.length pc)) 38)).alloc (.cells (Wg r (.slice ua r.ns.length uc) (.slice ea r.Z7.length ec) (.slice qa r.ps.length qc)) 38)) w.heap.size r (.slice ta r.ns.length tc) (.slice da r.Z7.length dc) (.slice pa r.ps.length pc)):=(TL.new _ _ _ _ _).below (ZR.alloc ZW _);have X2:Hid (TL ((w.alloc (.cells (Wg r (.slice ta r.ns.length tc) (.slice da r.Z7.length dc) (.slice pa r.ps.length pc)) 38)).alloc (.cells (Wg r (.slice ua r.ns.length uc) (.slice ea r.Z7.length ec) (.slice qa r.ps.length qc)) 38)) (w.heap.size+1) r (.slice ua r.ns.length uc) (.slice ea r.Z7.length ec) (.slice qa r.ps.length qc)):=by
  have h9:=TL.new (w.alloc (.cells (Wg r (.slice ta r.ns.length tc) (.slice da r.Z7.length dc) (.slice pa r.ps.length pc)) 38)) r (.slice ua r.ns.length uc) (.slice ea r.Z7.length ec) (.slice qa r.ps.length qc);rw [XE] at h9;exact h9
 unfold Wg at B0 X1 X2 ⊢;have HT:Hid (VL w (.slice ta r.ns.length tc) r.ns∧VL w (.slice ua r.ns.length uc) r.ns):=⟨ht,hu⟩;have HD:Hid (Rd .u8 w (.slice da r.Z7.length dc) r.Z7∧Rd .u8 w (.slice ea r.Z7.length ec) r.Z7∧XP w (.slice pa r.ps.length pc) r.ps∧XP w (.slice qa r.ps.length qc) r.ps):=⟨h1,g1,h2,g2⟩;have HQ:=Z8 heq
 go_enter Tryz.func9,Tryz.ntmps9
 go_wp2_with fail
 generalize hW:(w.alloc _).alloc _=w0 at *;refine (JX _ r.sp).mono ?_;rintro e w1 ⟨rfl,b1⟩;have B1:=Z8 (Ye B0.out b1);have Y1:=Z8 (TL.below X1.out b1);have Y2:=Z8 (TL.below X2.out b1);obtain ⟨c0,c1,c2,c3,c4,c5,c6,c7,c8,c9,c10,c11⟩:=Y1.out.cells;obtain ⟨d0,d1,d2,d3,d4,d5,d6,d7,d8,d9,d10,d11⟩:=Y2.out.cells
 go_wp2_with fail
 refine (I2 _ _ _ r.ns (HT.out.1.below B1.out) (HT.out.2.below B1.out) hn).mono ?_;rintro e w2 ⟨rfl,b2⟩;have B2:=Z8 (Ye B1.out b2);obtain ⟨c0,c1,c2,c3,c4,c5,c6,c7,c8,c9,c10,c11⟩:=(Y1.out.below b2).cells;obtain ⟨d0,d1,d2,d3,d4,d5,d6,d7,d8,d9,d10,d11⟩:=(Y2.out.below b2).cells
 go_wp2_with fail
 refine (HQ.out _ (HD.out.1.below B2.out) (HD.out.2.1.below B2.out) (HD.out.2.2.1.below B2.out) (HD.out.2.2.2.below B2.out)).mono ?_;rintro e w3 ⟨rfl,b3⟩;have B3:=Z8 (Ye B2.out b3);go_wp2;go_ret;exact ⟨rfl,B3.out⟩
theorem TL.frozen {b:Nat} {r:UD} (h:TL W b r vt v1 v2) (j:Nat):W.frozen? ⟨b,j,none⟩=false:=by
 unfold TL at h
 simp [World.frozen?,h]
def Xt (w:World) (b:Nat) (r:UD) (vt v1 v2:Value):World:=((((((((((((w).setCell ⟨b,0,none⟩ (.int .i64 r.code)).setCell ⟨b,1,none⟩ (.int .i64 r.sp.g)).setCell ⟨b,2,none⟩ (.int .i64 r.sp.b)).setCell ⟨b,3,none⟩ (.int .i64 r.sp.s)).setCell ⟨b,4,none⟩ (.int .i64 r.sp.l)).setCell ⟨b,5,none⟩ (.int .i64 r.sp.c)).setCell ⟨b,6,none⟩ (.int .i64 r.zx)).setCell ⟨b,7,none⟩ (vt)).setCell ⟨b,8,none⟩ (.int .i64 r.used)).setCell ⟨b,9,none⟩ (.int .i64 r.ops)).setCell ⟨b,10,none⟩ (v1)).setCell ⟨b,11,none⟩ (v2)
theorem VD (w:World) (b:Nat) (r:UD) (vt v1 v2:Value):Below b w (Xt w b r vt v1 v2):=by
 unfold Xt
 iterate 12 refine Zf ?_ (by show b≤b;exact ZW) _
 exact ZR
theorem XI {b:Nat} (h:w.cell? ⟨b,j,none⟩=some u):(w.setCell ⟨b,j,none⟩ v).cell? ⟨b,j,none⟩=some v:=Ys _ _ _ h
theorem Z6 {b i:Nat} (h:w.cell? ⟨b,i,none⟩=some u) (hne:i≠j):(w.setCell ⟨b,j,none⟩ v).cell? ⟨b,i,none⟩=some u:=(ZG _ _ _ _ (by intro e;injection e with e1 e2;first | exact hne e2 | exact hne e2.symm)).trans h
theorem Xl {b:Nat} {q r:UD} {ut u1 u2:Value} (h:TL w b q ut u1 u2):(Xt w b r vt v1 v2).cell? ⟨b,0,none⟩=some (.int .i64 r.code)∧(Xt w b r vt v1 v2).cell? ⟨b,1,none⟩=some (.int .i64 r.sp.g)∧(Xt w b r vt v1 v2).cell? ⟨b,2,none⟩=some (.int .i64 r.sp.b)∧(Xt w b r vt v1 v2).cell? ⟨b,3,none⟩=some (.int .i64 r.sp.s)∧(Xt w b r vt v1 v2).cell? ⟨b,4,none⟩=some (.int .i64 r.sp.l)∧(Xt w b r vt v1 v2).cell? ⟨b,5,none⟩=some (.int .i64 r.sp.c)∧(Xt w b r vt v1 v2).cell? ⟨b,6,none⟩=some (.int .i64 r.zx)∧(Xt w b r vt v1 v2).cell? ⟨b,7,none⟩=some (vt)∧(Xt w b r vt v1 v2).cell? ⟨b,8,none⟩=some (.int .i64 r.used)∧(Xt w b r vt v1 v2).cell? ⟨b,9,none⟩=some (.int .i64 r.ops)∧(Xt w b r vt v1 v2).cell? ⟨b,10,none⟩=some (v1)∧(Xt w b r vt v1 v2).cell? ⟨b,11,none⟩=some (v2):=by
 obtain ⟨c0,c1,c2,c3,c4,c5,c6,c7,c8,c9,c10,c11⟩:=h.cells;unfold Xt;exact ⟨(Z6 (Z6 (Z6 (Z6 (Z6 (Z6 (Z6 (Z6 (Z6 (Z6 (Z6 (XI c0) (by decide)) (by decide)) (by decide)) (by decide)) (by decide)) (by decide)) (by decide)) (by decide)) (by decide)) (by decide)) (by decide)),(Z6 (Z6 (Z6 (Z6 (Z6 (Z6 (Z6 (Z6 (Z6 (Z6 (XI (Z6 c1 (by decide))) (by decide)) (by decide)) (by decide)) (by decide)) (by decide)) (by decide)) (by decide)) (by decide)) (by decide)) (by decide)),(Z6 (Z6 (Z6 (Z6 (Z6 (Z6 (Z6 (Z6 (Z6 (XI (Z6 (Z6 c2 (by decide)) (by decide))) (by decide)) (by decide)) (by decide)) (by decide)) (by decide)) (by decide)) (by decide)) (by decide)) (by decide)),(Z6 (Z6 (Z6 (Z6 (Z6 (Z6 (Z6 (Z6 (XI (Z6 (Z6 (Z6 c3 (by decide)) (by decide)) (by decide))) (by decide)) (by decide)) (by decide)) (by decide)) (by decide)) (by decide)) (by decide)) (by decide)),(Z6 (Z6 (Z6 (Z6 (Z6 (Z6 (Z6 (XI (Z6 (Z6 (Z6 (Z6 c4 (by decide)) (by decide)) (by decide)) (by decide))) (by decide)) (by decide)) (by decide)) (by decide)) (by decide)) (by decide)) (by decide)),(Z6 (Z6 (Z6 (Z6 (Z6 (Z6 (XI (Z6 (Z6 (Z6 (Z6 (Z6 c5 (by decide)) (by decide)) (by decide)) (by decide)) (by decide))) (by decide)) (by decide)) (by decide)) (by decide)) (by decide)) (by decide)),(Z6 (Z6 (Z6 (Z6 (Z6 (XI (Z6 (Z6 (Z6 (Z6 (Z6 (Z6 c6 (by decide)) (by decide)) (by decide)) (by decide)) (by decide)) (by decide))) (by decide)) (by decide)) (by decide)) (by decide)) (by decide)),(Z6 (Z6 (Z6 (Z6 (XI (Z6 (Z6 (Z6 (Z6 (Z6 (Z6 (Z6 c7 (by decide)) (by decide)) (by decide)) (by decide)) (by decide)) (by decide)) (by decide))) (by decide)) (by decide)) (by decide)) (by decide)),(Z6 (Z6 (Z6 (XI (Z6 (Z6 (Z6 (Z6 (Z6 (Z6 (Z6 (Z6 c8 (by decide)) (by decide)) (by decide)) (by decide)) (by decide)) (by decide)) (by decide)) (by decide))) (by decide)) (by decide)) (by decide)),(Z6 (Z6 (XI (Z6 (Z6 (Z6 (Z6 (Z6 (Z6 (Z6 (Z6 (Z6 c9 (by decide)) (by decide)) (by decide)) (by decide)) (by decide)) (by decide)) (by decide)) (by decide)) (by decide))) (by decide)) (by decide)),(Z6 (XI (Z6 (Z6 (Z6 (Z6 (Z6 (Z6 (Z6 (Z6 (Z6 (Z6 c10 (by decide)) (by decide)) (by decide)) (by decide)) (by decide)) (by decide)) (by decide)) (by decide)) (by decide)) (by decide))) (by decide)),(XI (Z6 (Z6 (Z6 (Z6 (Z6 (Z6 (Z6 (Z6 (Z6 (Z6 (Z6 c11 (by decide)) (by decide)) (by decide)) (by decide)) (by decide)) (by decide)) (by decide)) (by decide)) (by decide)) (by decide)) (by decide)))⟩
theorem Hp (w:World) (v1 v2:Value) (Z7:List Int) (ps:List (Int × List Int)) (S L limit:Int) (hd:Rd .u8 w v1 Z7) (hp:XP w v2 ps) (hdl:Z7.length≤1048576) (hn:ps.length≤1048576) (XV:∀i,(pD ps i).length≤1048576) (hbad:WR S L Z7.length ps=false∨1936<ps.length) :
    Calls Tryz.prog 5 #[.agg #[v1,v2],.agg #[.int .i64 S,.int .i64 L],.int .i64 limit] w (Ze w (.agg (Wg (Zq 4) (.slice none 0 0) (.slice none 0 0) (.slice none 0 0)))):=by
 obtain ⟨ao,ca,rfl,-⟩:=hd.len;obtain ⟨bo,cb,hv2,-⟩:=id hp;subst hv2;have HF:Hid (∀W,ZX w W→Calls Tryz.prog 16 #[.agg #[.slice ao Z7.length ca,.slice bo ps.length cb],.agg #[.int .i64 S,.int .i64 L]] W (Ze W (.bool (WR S L Z7.length ps)))):=fun W hW=>Uk W ao bo Z7.length ca ps.length cb ps S L (hp.below hW) rfl hdl hn XV
 have B0:Hid (ZX w (((w.alloc (.cells #[.slice ao Z7.length ca,.slice bo ps.length cb] 36)).alloc (.cells #[.int .i64 S,.int .i64 L] 41)).alloc (.cells (Wg (Zq 0) (.slice none 0 0) (.slice none 0 0) (.slice none 0 0)) 38))):=((ZR.alloc ZW _).alloc (by simp) _).alloc (by simp;omega) _;have p1:Hid ((((w.alloc (.cells #[.slice ao Z7.length ca,.slice bo ps.length cb] 36)).alloc (.cells #[.int .i64 S,.int .i64 L] 41)).alloc (.cells (Wg (Zq 0) (.slice none 0 0) (.slice none 0 0) (.slice none 0 0)) 38)).cell? ⟨w.heap.size,1,none⟩=some (.slice bo ps.length cb)):=by show _=_;go_simp
 have X0:Hid (TL (((w.alloc (.cells #[.slice ao Z7.length ca,.slice bo ps.length cb] 36)).alloc (.cells #[.int .i64 S,.int .i64 L] 41)).alloc (.cells (Wg (Zq 0) (.slice none 0 0) (.slice none 0 0) (.slice none 0 0)) 38)) (w.heap.size+1+1) (Zq 0) (.slice none 0 0) (.slice none 0 0) (.slice none 0 0)):=by
  have h9:=TL.new ((w.alloc (.cells #[.slice ao Z7.length ca,.slice bo ps.length cb] 36)).alloc (.cells #[.int .i64 S,.int .i64 L] 41)) (Zq 0) (.slice none 0 0) (.slice none 0 0) (.slice none 0 0)
  simp only [XE] at h9
  exact h9
 have hz:w.heap.size+3≤(((w.alloc (.cells #[.slice ao Z7.length ca,.slice bo ps.length cb] 36)).alloc (.cells #[.int .i64 S,.int .i64 L] 41)).alloc (.cells (Wg (Zq 0) (.slice none 0 0) (.slice none 0 0) (.slice none 0 0)) 38)).heap.size:=by simp
 unfold Wg Zq at B0 p1 X0 hz ⊢;dsimp only at B0 p1 X0 hz ⊢;clear hd hp XV
 go_enter Tryz.func5,Tryz.ntmps5
 go_wp2_with fail
 generalize ((w.alloc _).alloc _).alloc _=w0 at *;refine (HF.out _ B0.out).mono ?_;rintro e w1 ⟨rfl,b1⟩;have B1:=Z8 (Ye B0.out b1);have q1:=(b1.cell (p:=⟨w.heap.size,1,none⟩) (show w.heap.size<_ by omega)).trans p1.out;have X1:=TL.below X0.out b1;obtain ⟨c0,c1,c2,c3,c4,c5,c6,c7,c8,c9,c10,c11⟩:=X1.cells;dsimp only at c0 c1 c2 c3 c4 c5 c6 c7 c8 c9 c10 c11;have fz:=X1.frozen;have f0:=fz 0;have f1:=fz 1;have f2:=fz 2;have f3:=fz 3;have f4:=fz 4;have f5:=fz 5;have f6:=fz 6;have f7:=fz 7;have f8:=fz 8;have f9:=fz 9;have f10:=fz 10;have f11:=fz 11;have FIN:Hid (∀W',Below w.heap.size w1 W'→ZX w W'):=fun W' hW=>B1.out.trans hW
 have BE:Hid (ZX w (Xt w1 (w.heap.size+1+1) (Zq 4) (.slice none 0 0) (.slice none 0 0) (.slice none 0 0))):=B1.out.trans ((VD _ _ _ _ _ _).mono (by omega));obtain ⟨e0,e1,e2,e3,e4,e5,e6,e7,e8,e9,e10,e11⟩:=Xl (r:=Zq 4) (vt:=.slice none 0 0) (v1:=.slice none 0 0) (v2:=.slice none 0 0) X1;unfold Xt Zq at BE e0 e1 e2 e3 e4 e5 e6 e7 e8 e9 e10 e11;dsimp only at BE e0 e1 e2 e3 e4 e5 e6 e7 e8 e9 e10 e11;clear fz X1 X0 b1 B0 B1 p1
 cases hfit:WR S L Z7.length ps with
 | false =>
  go_wp2;generalize ((((((((((((w1).setCell _ _).setCell _ _).setCell _ _).setCell _ _).setCell _ _).setCell _ _).setCell _ _).setCell _ _).setCell _ _).setCell _ _).setCell _ _).setCell _ _=wE at *;exact ZT (v:=.agg #[.int .i64 4,.int .i64 0,.int .i64 0,.int .i64 0,.int .i64 0,.int .i64 0,.int .i64 0,.slice none 0 0,.int .i64 0,.int .i64 0,.slice none 0 0,.slice none 0 0]) (by simp [results,Tryz.results5,go_sem,e0,e1,e2,e3,e4,e5,e6,e7,e8,e9,e10,e11]) rfl ⟨rfl,BE.out⟩
 | true =>
  have hlong:1936<ps.length:=by
   rcases hbad with h | h
   · rw [hfit] at h;cases h
   exact h
  have ud:(1936:Int)<(ps.length:Int):=by omega
  have hld:decide ((1936:Int)<(ps.length:Int))=true:=by simpa using ud
  go_wp2;generalize ((((((((((((w1).setCell _ _).setCell _ _).setCell _ _).setCell _ _).setCell _ _).setCell _ _).setCell _ _).setCell _ _).setCell _ _).setCell _ _).setCell _ _).setCell _ _=wE at *;exact ZT (v:=.agg #[.int .i64 4,.int .i64 0,.int .i64 0,.int .i64 0,.int .i64 0,.int .i64 0,.int .i64 0,.slice none 0 0,.int .i64 0,.int .i64 0,.slice none 0 0,.slice none 0 0]) (by simp [results,Tryz.results5,go_sem,e0,e1,e2,e3,e4,e5,e6,e7,e8,e9,e10,e11]) rfl ⟨rfl,BE.out⟩
def ov (k:Nat) (a b:World):Prop:=Below 0 a b∧∀j,j≠k→j<a.heap.size→b.heap[j]?=a.heap[j]?
structure vW (w:World) (v1 v2:Value) (S L:Int) (x:YU) (W:World):Prop where
 YJ:ZX w W
 lt:w.heap.size+4≤W.heap.size
 d0:W.cell? ⟨w.heap.size,0,none⟩=some v1
 d1:W.cell? ⟨w.heap.size,1,none⟩=some v2
 c0:W.cell? ⟨w.heap.size+1,0,none⟩=some (.int .i64 S)
 c1:W.cell? ⟨w.heap.size+1,1,none⟩=some (.int .i64 L)
 x0:W.cell? ⟨w.heap.size+1+1,0,none⟩=some (.int .i64 x.g)
 x1:W.cell? ⟨w.heap.size+1+1,1,none⟩=some (.int .i64 x.b)
 x2:W.cell? ⟨w.heap.size+1+1,2,none⟩=some (.int .i64 x.s)
 x3:W.cell? ⟨w.heap.size+1+1,3,none⟩=some (.int .i64 x.l)
 x4:W.cell? ⟨w.heap.size+1+1,4,none⟩=some (.int .i64 x.c)
 r0:W.cell? ⟨w.heap.size+1+1+1,0,none⟩=some (.slice none 0 0)
 rf:W.frozen? ⟨w.heap.size+1+1+1,0,none⟩=false
theorem vW.below {x:YU} (h:vW w v1 v2 S L x W) (hb:ZX W W'):vW w v1 v2 S L x W':=by
 have hl:=h.lt;have q:∀b j,b<w.heap.size+4→W'.cell? ⟨b,j,none⟩=W.cell? ⟨b,j,none⟩:=fun b j h9=>hb.cell (p:=⟨b,j,none⟩) (show b<_ by omega)
 exact ⟨h.YJ.trans (hb.mono h.YJ.size),ZP hl hb.size,(q _ _ (by omega)).trans h.d0,(q _ _ (by omega)).trans h.d1,(q _ _ (by omega)).trans h.c0,(q _ _ (by omega)).trans h.c1,(q _ _ (by omega)).trans h.x0,(q _ _ (by omega)).trans h.x1,(q _ _ (by omega)).trans h.x2,(q _ _ (by omega)).trans h.x3,(q _ _ (by omega)).trans h.x4,(q _ _ (by omega)).trans h.r0,(hb.frozen (p:=⟨w.heap.size+1+1+1,0,none⟩) (show w.heap.size+1+1+1<_ by omega)).trans h.rf⟩
theorem vW.new (w:World) (v1 v2:Value) (S L:Int) (x:YU):vW w v1 v2 S L x ((((w.alloc (.cells #[v1,v2] 36)).alloc (.cells #[.int .i64 S,.int .i64 L] 41)).alloc (.cells #[.int .i64 x.g,.int .i64 x.b,.int .i64 x.s,.int .i64 x.l,.int .i64 x.c] 30)).alloc (.cells #[.slice none 0 0] 33)):=by
 have b:ZX w ((((w.alloc (.cells #[v1,v2] 36)).alloc (.cells #[.int .i64 S,.int .i64 L] 41)).alloc (.cells #[.int .i64 x.g,.int .i64 x.b,.int .i64 x.s,.int .i64 x.l,.int .i64 x.c] 30)).alloc (.cells #[.slice none 0 0] 33)):=(((ZR.alloc ZW _).alloc (by simp) _).alloc (by simp;omega) _).alloc (by simp;omega) _;refine ⟨b,by simp,?_,?_,?_,?_,?_,?_,?_,?_,?_,?_,?_⟩ <;> go_simp
theorem Ho (w:World) (b j:Nat) (x:Value):ov b w (w.setCell ⟨b,j,none⟩ x):=⟨ZR.setCell (ZQ _) _,fun _ hj _=>Mh w _ _ _ hj⟩
theorem qH {lo lo' m:Nat} {us:List Value} (h:w.ownsRow lo e m v n us) (hl:lo'≤lo):w.ownsRow lo' e m v n us:=by
 refine ⟨h.1,?_⟩
 rcases h.2 with hn | ⟨g,cap,cur,rfl,hbg,rest⟩
 · exact .inl hn
 exact .inr ⟨g,cap,cur,rfl,by omega,rest⟩
theorem Eg {g o c:Nat} (h:Rd .u8 W (.slice (some ⟨g,o,none⟩) n c) xs) (m:Nat) (hm:m≤n):Rd .u8 W (.slice (some ⟨g,o,none⟩) m c) (xs.take m):=by
 obtain ⟨ao,cap,e,h1,h2,h3⟩:=h
 simp only [Zc] at e
 obtain ⟨rfl,rfl,rfl⟩:=e;refine ⟨_,_,by rw [YC,So hm],by rw [YC];omega,h2,?_⟩
 rcases h3 with rfl | ⟨b,o',e,hb,hc⟩
 · exact .inl (by simp)
 refine .inr ⟨b,o',e,hb,fun i hi=>?_⟩;rw [YC] at hi;rw [hc i (by omega)]
 simp [List.getD,show i<m by omega]
def Fu (w:World) (o:Option (List Nd)) (e:Ending) (w':World):Prop :=
 ZX w w'∧((o=none∧∃a n c,e=.returned (.tuple #[.agg #[.slice a n c],.bool false]))∨∃ns v,o=some ns∧e=.returned (.tuple #[.agg #[v],.bool true])∧ZU 134 w' w.heap.size v ns)
theorem Ti {Z7:List Int} (h:WR S L Z7.length ps=true) (hb:0≤ZN∧ZN≤1):(Yo Z7 ps S L ZN log).length=(Rx S L log).toNat*64∧1≤(Rx S L log).toNat∧(Rx S L log).toNat≤64:=by
 have ho:Qf S L Z7.length ps ZN=true:=by unfold Qf;rw [h];simpa using hb
 obtain ⟨hc,hv,hd⟩:=(XU S L Z7.length ps).1 h;obtain ⟨⟨hS1,hS2⟩,hL1,hL2⟩:=(Zs S L).1 hc;have hln:1≤(Rx S L log).toNat∧(Rx S L log).toNat≤64:=by unfold Rx;cases log <;> simp <;> omega
 refine ⟨?_,hln⟩;unfold Yo;rw [ZY ho];refine VE _ _ _ ?_;rw [VF hv];have h1:((YM S L ZN log).toNat+(Rx S L log).toNat:Int)≤2+2*(S+L):=by
  unfold YM Rx;obtain ⟨hb0,hb1⟩:=hb;have:ZN=0∨ZN=1:=by omega
  rcases this with rfl | rfl <;> cases log <;> simp <;> omega
 have h2:Z7.length / 64*64≤Z7.length:=Bj _ _;omega
theorem PG (w:World) (v1 v2:Value) (Z7:List Int) (ps:List (Int × List Int)) (S L:Int) (x:YU) (hd:Rd .u8 w v1 Z7) (hp:XP w v2 ps) (hdl:Z7.length≤1048576) (hn:ps.length≤1048576) (XV:∀i,(pD ps i).length≤1048576) (hby:∀ZN log,YL (Yo Z7 ps S L ZN log)) (hf:WR S L Z7.length ps=true) (hb:0≤x.b∧x.b≤1) (hl:0≤x.l∧x.l≤S*64) :
    Calls Tryz.prog 20 #[.agg #[v1,v2],.agg #[.int .i64 S,.int .i64 L],.agg #[.int .i64 x.g,.int .i64 x.b,.int .i64 x.s,.int .i64 x.l,.int .i64 x.c]] w fun e w'=>Fu w (TQ Z7 ps S L x) e w':=by
 obtain ⟨ao,ca,rfl,-⟩:=hd.len;obtain ⟨bo,cb,hv2,-⟩:=id hp;subst hv2;have S0:Hid (vW w (.slice ao Z7.length ca) (.slice bo ps.length cb) S L x ((((w.alloc (.cells #[.slice ao Z7.length ca,.slice bo ps.length cb] 36)).alloc (.cells #[.int .i64 S,.int .i64 L] 41)).alloc (.cells #[.int .i64 x.g,.int .i64 x.b,.int .i64 x.s,.int .i64 x.l,.int .i64 x.c] 30)).alloc (.cells #[.slice none 0 0] 33))):=vW.new _ _ _ _ _ _;obtain ⟨hal,hs1,hs2⟩:=Ti (log:=false) hf hb;have eS:(Rx S L false).toNat=S.toNat:=rfl;rw [eS] at hal hs1 hs2;have Xe:Hid (YL (Yo Z7 ps S L x.b false)):=hby _ _;have tp:Hid (∀W,vW w (.slice ao Z7.length ca) (.slice bo ps.length cb) S L x W→Calls Tryz.prog 19 #[.agg #[.slice ao Z7.length ca,.slice bo ps.length cb],.agg #[.int .i64 S,.int .i64 L],.int .i64 x.b,.bool false] W fun e w'=>∃g c,e=.returned (.slice (some ⟨g,0,none⟩) (S.toNat*64) c)∧Own .u8 5 w' W.heap.size (.slice (some ⟨g,0,none⟩) (S.toNat*64) c) (Yo Z7 ps S L x.b false)∧ZX W w'):=by
  intro W hW;refine (Uj W _ _ Z7 ps S L x.b false (hd.below hW.YJ) (hp.below hW.YJ) hdl hn XV).mono ?_;rintro e w' ⟨v',rfl,o,b⟩;have o2:=o
  rcases o.row with ⟨rfl,h3⟩ | ⟨g,cp,rfl,-⟩
  · rw [h3] at hal;simp at hal;omega
  rw [hal] at o2;exact ⟨g,cp,by rw [hal],o2,b⟩
 obtain ⟨ln,hln⟩:∃n:Nat,x.l=(n:Int):=⟨x.l.toNat,by omega⟩;have Zm:ln≤S.toNat*64:=by omega
 have Y9:S.toNat*64≤4096:=by omega
 have xV:=Z8 hln;have ZE:Hid (yT Z7 ps S L x=(Yo Z7 ps S L x.b false).take ln):=by show _=_;unfold yT;rw [hln];rfl
 obtain ⟨G,U⟩:∃o,o=TQ Z7 ps S L x:=⟨_,rfl⟩;rw [←U];have xU:Hid (G=Fw (yT Z7 ps S L x) x.c):=U;clear U;generalize Yo Z7 ps S L x.b false=AR at *;generalize hST:S.toNat*64=M at *;clear hd hp hby hf XV hST eS hln
 go_enter Tryz.func20,Tryz.ntmps20
 go_wp2_with fail
 generalize ((((w.alloc _).alloc _).alloc _).alloc _)=w0 at *;have Sd:=Z8 (S0.out.below (below_drewN' w0 1));refine ZF (S:=vW w (.slice ao Z7.length ca) (.slice bo ps.length cb) S L x) (by kernel_rfl) (Sd.out) (fun Z9=>?_)
 iterate 4 (refine ZV ?_ (by kernel_rfl) (fun _=>id) Z9 ?_ ?_;rotate_left;· intro w9 Z4;obtain ⟨-,-,d0,d1,c0,c1,x0,x1,x2,x3,x4,-,-⟩:=Z4;go_simp;try with_reducible rfl)
 refine ZA 5 ?v5 rfl (by kernel_rfl) (fun _=>id) Z9 ?tU ?_
 case tU=>intro w9 Z4;obtain ⟨-,-,d0,d1,c0,c1,x0,x1,x2,x3,x4,-,-⟩:=Z4;go_simp;try with_reducible rfl
 refine ZA 6 (.int .i64 (ln:Int)) rfl (by kernel_rfl) (fun _=>id) Z9 ?sX ?_
 case sX =>
  intro w9 Z4;obtain ⟨-,-,d0,d1,c0,c1,x0,x1,x2,x3,x4,-,-⟩:=Z4;rw [xV.out] at x3;go_simp
 refine ZS 4 rfl (by kernel_rfl) (fun K hK=>?_);go_simp;refine (tp.out _ Z9).mono ?_;rintro e w1 ⟨g,c,rfl,o1,b1⟩;have N1:=Z9.below b1;have O1:Hid (Own .u8 5 w1 w0.heap.size (.slice (some ⟨g,0,none⟩) M c) AR):=o1;have hcap:M≤c:=by
  obtain ⟨a8,c8,h8,h7,h6⟩:=o1.rd.len
  simp only [Zc] at h8
  obtain ⟨-,h5,rfl⟩:=h8;omega
 have hcI:(ln:Int)≤(c:Int):=by omega
 clear o1 b1;refine hK.out _ _ N1 (fun ZI=>?_);clear hK K Z9;have Z9:=ZI;clear ZI
 iterate 2 (refine ZV ?_ (by kernel_rfl) (fun _=>id) Z9 ?_ ?_;rotate_left;· intro w9 Z4;clear Z4;go_simp;try with_reducible rfl)
 refine ZM (by kernel_rfl) ?_ _
 try simp only [Act.put,Zk,Zj,Zi]
 clear Z9 tp S0 Sd;have S1:=Z8 N1;clear N1;have R1:=Z8 (Eg O1.out.rd ln Zm);have Zz:Hid (YL (AR.take ln)):=fun y hy=>Xe.out y (Vp hy)
 have hil:(AR.take ln).length≤1048576:=by
  have h9:=List.length_take_le ln AR;omega
 rw [ZE.out] at xU;clear ZE Xe O1;generalize AR.take ln=IM at *
 go_wp2_with fail
 refine (JZ w1 _ IM R1.out Zz.out hil).mono ?_;intro e w2 hdt;obtain ⟨b2,hdt⟩:=hdt;have S2:=Z8 (S1.out.below b2);have R2:=Z8 (R1.out.below b2);have z1:=S1.out.lt;have z2:=S2.out.lt;have zb:=b2.size;clear b2 S1 R1
 rcases hdt with ⟨hn0,rfl⟩ | ⟨ns,v,hs0,rfl,o2⟩
 · unfold At
   have hso:G=none:=by rw [xU.out];unfold Fw;rw [hn0]
   have bA:ZX w2 (w2.alloc (.cells #[.bool false,.slice none 0 0] 94)):=ZR.alloc ZW _;have S3:=Z8 (S2.out.below bA);have T3:Hid ((w2.alloc (.cells #[.bool false,.slice none 0 0] 94)).cell? ⟨w2.heap.size,0,none⟩=some (.bool false)∧(w2.alloc (.cells #[.bool false,.slice none 0 0] 94)).cell? ⟨w2.heap.size,1,none⟩=some (.slice none 0 0)):=⟨by simp,by simp⟩;have Zh:=z2;have hTL:w2.heap.size<(w2.alloc (.cells #[.bool false,.slice none 0 0] 94)).heap.size:=by simp
   clear bA S2
   go_wp2_with fail
   generalize w2.alloc _=w3 at *;generalize w2.heap.size=TB at *;have X:=Z8 (S3.out.below (below_drewN' w3 1));refine ZF (S:=fun W=>W.cell? ⟨w.heap.size+1+1,4,none⟩=some (.int .i64 x.c)∧W.cell? ⟨TB,0,none⟩=some (.bool false)∧W.cell? ⟨TB,1,none⟩=some (.slice none 0 0)) (by kernel_rfl) (⟨X.out.x4,T3.out.1,T3.out.2⟩) (fun Z9=>?_)
   iterate 5 (refine ZV ?_ (by kernel_rfl) (fun _=>id) Z9 ?_ ?_;rotate_left;· intro w9 Z4;obtain ⟨x4,t0,t1⟩:=Z4;go_simp;try with_reducible rfl)
   iterate 5 (refine TU (by kernel_rfl) (fun _=>id) Z9 ?_)
   refine ZV ?_ (by kernel_rfl) (fun _=>id) Z9 ?_ ?_
   rotate_left
   · intro w9 Z4;obtain ⟨x4,t0,t1⟩:=Z4;go_simp;try with_reducible rfl
   refine ZS 11 rfl (by kernel_rfl) (fun K hK=>?_);have r0:=S3.out.r0;have rf:=S3.out.rf;have bS:Below (w.heap.size+1+1+1) (w3.drewN 1) ((w3.drewN 1).setCell ⟨w.heap.size+1+1+1,0,none⟩ (.slice none 0 0)):=ZR.setCell (by show w.heap.size+1+1+1≤w.heap.size+1+1+1;omega) _;have BE:=Z8 (X.out.YJ.trans (bS.mono (by omega)));have tS:=Ho (w3.drewN 1) (w.heap.size+1+1+1) 0 (.slice none 0 0);have Z1:TB≠w.heap.size+1+1+1:=by omega
   have eT:=tS.2 TB Z1 hTL;have T:((w3.drewN 1).setCell ⟨w.heap.size+1+1+1,0,none⟩ (.slice none 0 0)).cell? ⟨w.heap.size+1+1,4,none⟩=some (.int .i64 x.c)∧((w3.drewN 1).setCell ⟨w.heap.size+1+1+1,0,none⟩ (.slice none 0 0)).cell? ⟨TB,0,none⟩=some (.bool false)∧((w3.drewN 1).setCell ⟨w.heap.size+1+1+1,0,none⟩ (.slice none 0 0)).cell? ⟨TB,1,none⟩=some (.slice none 0 0):=⟨(bS.cell (p:=⟨w.heap.size+1+1,4,none⟩) (show w.heap.size+1+1<_ by omega)).trans X.out.x4,(YI (a:=⟨TB,0,none⟩) eT).trans T3.out.1,(YI (a:=⟨TB,1,none⟩) eT).trans T3.out.2⟩;clear bS eT tS;go_simp;refine hK.out _ _ T (fun ZI=>?_);clear hK K Z9;have Z9:=ZI;clear ZI;clear T;refine ZV ?_ (by kernel_rfl) (fun _=>id) Z9 ?_ ?_
   rotate_left
   · intro w9 Z4;obtain ⟨x4,t0,t1⟩:=Z4;go_simp;try with_reducible rfl
   refine ZM (by kernel_rfl) ?_ _
   try simp only [Act.put,Zk,Zj,Zi]
   clear Z9;clear S3 X T3 R2;go_wp2;exact ZT (v:=.tuple #[.agg #[(.slice none 0 0)],.bool false]) (by simp [results,Tryz.results20,go_sem,r0]) rfl ⟨BE.out,.inl ⟨hso,_,_,_,rfl⟩⟩
 obtain ⟨va,vc,rfl⟩:∃a c,v=.slice a ns.length c:=by
  obtain ⟨a9,c9,h9,-⟩:=o2.rd.len;exact ⟨a9,c9,h9⟩
 have bA:ZX w2 (w2.alloc (.cells #[.bool true,.slice va ns.length vc] 94)):=ZR.alloc ZW _;have S3:=Z8 (S2.out.below bA);have O3:=Z8 (o2.below bA);have Zy:=Z8 (R2.out.below bA);have T3:Hid ((w2.alloc (.cells #[.bool true,.slice va ns.length vc] 94)).cell? ⟨w2.heap.size,0,none⟩=some (.bool true)∧(w2.alloc (.cells #[.bool true,.slice va ns.length vc] 94)).cell? ⟨w2.heap.size,1,none⟩=some (.slice va ns.length vc)):=⟨by simp,by simp⟩;have Zh:=z2;have hTL:w2.heap.size<(w2.alloc (.cells #[.bool true,.slice va ns.length vc] 94)).heap.size:=by simp
 clear bA S2 o2
 go_wp2_with fail
 generalize w2.alloc _=w3 at *;generalize w2.heap.size=TB at *;have X:=Z8 (S3.out.below (below_drewN' w3 1));have R3:=Z8 (Zy.out.below (below_drewN' w3 1));clear Zy;refine ZF (S:=fun W=>W.cell? ⟨w.heap.size+1+1,4,none⟩=some (.int .i64 x.c)∧W.cell? ⟨TB,0,none⟩=some (.bool true)∧W.cell? ⟨TB,1,none⟩=some (.slice va ns.length vc)) (by kernel_rfl) (⟨X.out.x4,T3.out.1,T3.out.2⟩) (fun Z9=>?_)
 iterate 6 (refine ZV ?_ (by kernel_rfl) (fun _=>id) Z9 ?_ ?_;rotate_left;· intro w9 Z4;obtain ⟨x4,t0,t1⟩:=Z4;go_simp;try with_reducible rfl)
 refine ZA 7 ?v22 rfl (by kernel_rfl) (fun _=>id) Z9 ?yX ?_
 case yX=>intro w9 Z4;obtain ⟨x4,t0,t1⟩:=Z4;go_simp;try with_reducible rfl
 refine ZA 8 (.int .i64 x.c) rfl (by kernel_rfl) (fun _=>id) Z9 ?yW ?_
 case yW=>intro w9 Z4;obtain ⟨x4,t0,t1⟩:=Z4;go_simp
 refine ZS 6 rfl (by kernel_rfl) (fun K hK=>?_);go_simp;refine (Hq _ _ IM R3.out Zz.out (by omega)).mono ?_;rintro e w9 ⟨rfl,rfl⟩;have NA:=Z9;refine hK.out _ _ NA (fun ZI=>?_);clear hK K Z9;have Z9:=ZI;clear ZI;clear NA
 iterate 2 (refine ZV ?_ (by kernel_rfl) (fun _=>id) Z9 ?_ ?_;rotate_left;· intro w9 Z4;obtain ⟨x4,t0,t1⟩:=Z4;go_simp;try with_reducible rfl)
 refine ZS 11 rfl (by kernel_rfl) (fun K hK=>?_);have r0:=S3.out.r0;have rf:=S3.out.rf;have bS:Below (w.heap.size+1+1+1) (w3.drewN 1) ((w3.drewN 1).setCell ⟨w.heap.size+1+1+1,0,none⟩ (.slice va ns.length vc)):=ZR.setCell (by show w.heap.size+1+1+1≤w.heap.size+1+1+1;omega) _;have BE:=Z8 (X.out.YJ.trans (bS.mono (by omega)));have tS:=Ho (w3.drewN 1) (w.heap.size+1+1+1) 0 (.slice va ns.length vc);have Z1:TB≠w.heap.size+1+1+1:=by omega
 have eT:=tS.2 TB Z1 hTL;have T:((w3.drewN 1).setCell ⟨w.heap.size+1+1+1,0,none⟩ (.slice va ns.length vc)).cell? ⟨w.heap.size+1+1,4,none⟩=some (.int .i64 x.c)∧((w3.drewN 1).setCell ⟨w.heap.size+1+1+1,0,none⟩ (.slice va ns.length vc)).cell? ⟨TB,0,none⟩=some (.bool true)∧((w3.drewN 1).setCell ⟨w.heap.size+1+1+1,0,none⟩ (.slice va ns.length vc)).cell? ⟨TB,1,none⟩=some (.slice va ns.length vc):=⟨(bS.cell (p:=⟨w.heap.size+1+1,4,none⟩) (show w.heap.size+1+1<_ by omega)).trans X.out.x4,(YI (a:=⟨TB,0,none⟩) eT).trans T3.out.1,(YI (a:=⟨TB,1,none⟩) eT).trans T3.out.2⟩;clear bS eT tS;go_simp;refine hK.out _ _ T (fun ZI=>?_);clear hK K Z9;have Z9:=ZI;clear ZI;clear T;refine ZV ?_ (by kernel_rfl) (fun _=>id) Z9 ?_ ?_
 rotate_left
 · intro w9 Z4;obtain ⟨x4,t0,t1⟩:=Z4;go_simp;try with_reducible rfl
 refine ZM (by kernel_rfl) ?_ _
 try simp only [Act.put,Zk,Zj,Zi]
 clear Z9;have OE:Hid (ZU 134 ((w3.drewN 1).setCell ⟨w.heap.size+1+1+1,0,none⟩ (.slice va ns.length vc)) w.heap.size (.slice va ns.length vc) ns):=by
  have h9:=O3.out.below (below_drewN' w3 1);have h8:=Yy h9 (grownBy_set _ (w3.drewN 1) (w.heap.size+1+1+1) 0 (.slice va ns.length vc) (YT _ _)) (.inr (fun e=>by have:=(ZO h9 _ e).1;omega));exact qH h8 (by omega)
 clear S3 X T3 R2 R3 O3
 by_cases hcc:sQ IM=x.c
 · have hcb:(((4294967295 - Tj 4294967295 IM:Nat):Int) == x.c)=true:=Vn.2 hcc
   have hso:G=some ns:=by rw [xU.out];unfold Fw;rw [hs0];simp only;rw [ZY hcc]
   rw [hcb];go_wp2;exact ZT (v:=.tuple #[.agg #[(.slice va ns.length vc)],.bool true]) (by simp [results,Tryz.results20,go_sem,r0]) rfl ⟨BE.out,.inr ⟨ns,_,hso,rfl,OE.out⟩⟩
 have hcb:(((4294967295 - Tj 4294967295 IM:Nat):Int) == x.c)=false:=Xz.2 hcc;have hso:G=none:=by rw [xU.out];unfold Fw;rw [hs0];simp only;rw [Z3 hcc]
 rw [hcb];go_wp2;exact ZT (v:=.tuple #[.agg #[(.slice va ns.length vc)],.bool false]) (by simp [results,Tryz.results20,go_sem,r0]) rfl ⟨BE.out,.inl ⟨hso,_,_,_,rfl⟩⟩
end Go.Proofs.YtmmmffcbfepghaaGreatDoor
