import Derived.Test.YtpmjnbmkippaiaaGreatDoorJ11
import Derived.Deep.CutRange
import Derived.Conc.LoneSelectN
import Derived.Conc.LoneCalls
import Derived.Shelf.Strconv.AppendIntPublic10
import Derived.Shelf.LaysM
import Derived.Shelf.Strings.Builder2
import Derived.Shelf.Bytes.Small
import Derived.Shelf.Bytes.IndexByte
import Derived.Shelf.Strconv.AppendUint10
import Derived.OrdersIn
set_option maxRecDepth 100000
set_option maxHeartbeats 16000000
set_option linter.all false
namespace Go.Proofs.YtpmjnbmkippaiaaGreatDoor
section
open Go.RowKit Go.Shelf
variable {ops:Array Oper} {buf:Array Value} {cl em tm:Bool} {C9 L S:Int} {D xs ys:List Int} {ns:List Nd} {B Bd Bs N b base blk c cap g i id j k n o r s sB:Nat} {p:Nat × Nat × Nat} {r0 row:Option Nat} {e:TypeId} {P u v v0 v1 v2 vt x y:Value} {W W' w w' w0 w1 w2:World}
theorem Kq {R:Nat} (e:W'.heap[R]?=W.heap[R]?) (h:W.there R o n):W'.there R o n:=fun j hj =>
 ⟨(ZM Option.isSome (ZP (w:=W) (a:=⟨R,o+j,none⟩) e)).trans (h j hj).1,by have:=(h j hj).2;unfold World.frozen? at this ⊢;rw [e];exact this⟩
def Bo (w:World) (R B:Nat) (W:World):Prop:=∃C:List Int,C.length=64∧W.heap[B]?=some (.cells (C.map (Value.int .u8)).toArray 117 (0,0))∧W.there R 0 64∧Zi w W
theorem L7 (w:World) (v:Value) (ys:List Int) (i:Nat) (h:Rd .u8 w v ys) (hl:ys.length≤1048576) (hi:i≤4096) :
    Calls Tryz.prog 155 #[v,.int .i64 (i:Int)] w fun e w'=>(∃C:List Int,C.length=64∧e=.returned (.agg (C.map (Value.int .u8)).toArray))∧Zi w w':=by
 obtain ⟨ao,cp,rfl,h1,h2,h3⟩:=h;have HR:=ZU h3;clear h3
 go_enter Tryz.func155,Tryz.ntmps155
 go_upto_if 12 with fail
 generalize hW:World.alloc _ _=W0;have B0:Hid (Bo w w.heap.size (w.heap.size+1) W0):=by
  refine ⟨List.replicate 64 0,by decide,?_,?_,?_⟩ <;> subst hW
  · have:=Zs (w.alloc (.cells (List.replicate 64 (Value.int .u8 0)).toArray 117)) (.cells (List.replicate 64 (Value.int .u8 0)).toArray 117)
    rw [YF] at this;exact this
  · have:=Vn w (List.replicate 64 (Value.int .u8 0)).toArray 117 64 rfl
    have e:((w.alloc (.cells (List.replicate 64 (Value.int .u8 0)).toArray 117)).alloc (.cells (List.replicate 64 (Value.int .u8 0)).toArray 117)).heap[w.heap.size]?=(w.alloc (.cells (List.replicate 64 (Value.int .u8 0)).toArray 117)).heap[w.heap.size]?:=Below.heap_alloc _ _ _ (by simp);exact Kq e this
  exact (Yy.alloc YR _).alloc (by simp) _
 clear hW;obtain ⟨q,hq⟩:∃q:Nat,q=i*64:=⟨_,rfl⟩;rw [show (i:Int)*64=(q:Int) by omega];clear hq
 go_cut [] from 12 to 18 (fun wx=>Hid (Bo w w.heap.size (w.heap.size+1) wx))
 case first =>
  rename_i J K9 QD hJ
  by_cases hc:q<ys.length
  · obtain ⟨C,c1,c2,c3,c4⟩:=B0.out
    have C1:Hid ((C.map (Value.int .u8)).length=64):=by show _=_;simpa using c1
    have C2:=ZU c2;obtain ⟨b,off,rfl,hb,hcl⟩:∃b off,ao=some ⟨b,off,none⟩∧b<w.heap.size∧∀j,j<ys.length→w.cell? ⟨b,off+j,none⟩=some (.int .u8 (ys.getD j 0)):=HR.out.resolve_left (fun e=>by rw [e] at hc;simp at hc);have hq1:(q:Int)≤ys.length:=by omega
    have hq2:¬cp=q:=by omega
    have HZ:Hid ((((ys.drop (q)).take 64).map (Value.int .u8)).length=Nat.min (ys.length - q) 64):=by
     show _=_;rw [Zl,Zw,ZS];exact Nat.min_comm _ _
    have HL:Hid ((((ys.drop (q)).take 64).map (Value.int .u8)).length≤64):=by
     show _≤_;rw [HZ.out];exact UR _ _
    have Qs:Hid (∀(j:Nat) (v:Value),(((ys.drop (q)).take 64).map (Value.int .u8))[j]?=some v→W0.cell? ((⟨b,off+q,none⟩:Addr).add j)=some v):=by
     intro j v hj;rw [Yo,WJ] at hj
     split at hj
     · rename_i YG
       rw [Yt] at hj
       rcases hx:ys[q+j]? with _ | x
       · rw [hx] at hj;cases hj
       rw [hx] at hj;obtain rfl:Value.int .u8 x=v:=by simpa using hj
       have tC:=(Zh.mp hx).1;have e:=hcl (q+j) tC;rw [Xy,hx] at e;rw [Addr.add_mid,c4.cell (p:=⟨b,off+q+j,none⟩) hb,Xu];exact e
     cases hj
    clear c1 c2 hcl HR
    go_wp2_with fail
    go_region_law (refine Ru rfl (.tmp 13) (.tmp 16) 22 22 rfl 5 Tryz.underlying22 wl _ _ _ _ _ _ rfl rfl (w.heap.size+1) 0 _ 117 C2.out (((ys.drop (q)).take 64).map (Value.int .u8)) HZ.out (fun _=>⟨rfl,⟨b,off+q,none⟩,rfl,Qs.out⟩) (by rw [C1.out];have:=HL.out;omega) (Yi _ _) ?_;intro w4 hg4 hb4)
    refine hJ _ _ (QD _ _  ⟨_,_,_,_,_,_,_,⟨splice C 0 ((ys.drop q).take 64),?_,?_,?_,?_⟩,rfl⟩)
    · have e:=HL.out
      have e1:=C1.out;rw [Zl] at e e1;rw [length_splice _ _ _ (by omega),e1]
    · have e:=hg4.out
      rw [←Oe] at e;exact e
    · exact Kq (hb4.out.block w.heap.size (by have:=c4.size;show _<W0.heap.size;have:=(Z3.mp C2.out).1;omega) (by simp)) c3
    exact (c4.trans ((below_drewN' W0 1).mono c4.size)).grown (show W0.drew.grownBy w4 (some (w.heap.size+1)) from hb4.out) c4.size (by intro g hg;simp at hg;omega)
  go_wp2_with fail
  go_meet
  exact B0
 case rest =>
  rename_i K hK;obtain ⟨C,c1,c2,c3,c4⟩:=hcut.out;have H1:Hid (∀v ∈ C.map (Value.int .u8),v.oneCell'=true):=Yi _ _;have HLEN:Hid ((C.map (Value.int .u8)).length=64):=by show _=_;simpa using c1
  have RG:Hid (wc.rangeAt (w.heap.size+1) 0 (C.map (Value.int .u8))):=by
   intro j v h;rw [Za,Yz wc _ j _ _ _ c2]
   simpa using h
  have TR:=ZU c3;have B4:=ZU c4;have FIN:Hid (∃C':List Int,C'.length=64∧(Ending.returned (.agg (C.map (Value.int .u8)).toArray))=.returned (.agg (C'.map (Value.int .u8)).toArray)):=⟨C,c1,rfl⟩;generalize C.map (Value.int .u8)=V at *;refine hK _ _ ?_;clear hK K c1 c2 c3 c4 hcut B0
  go_wp2_with (first | (refine YM rfl 117 _ rfl (w.heap.size+1) 0 rfl V _ RG.out Tryz.underlying117 rfl (Wh _ HLEN.out) ?_) | (refine UO rfl 117 _ _ rfl w.heap.size 0 V.toArray rfl rfl ?s1 ?s2 ?s3 ?_))
  case s1 =>
   have e:V.toArray.size=64:=by rw [ZI];exact HLEN.out
   rw [e];exact TR.out
  case s2=>rw [ZI];exact Wh _ HLEN.out
  case s3=>exact XL H1.out
  refine ZW (v:=.agg V.toArray) ?_ rfl ⟨FIN.out,?_⟩
  · have LV:(loadVar 117 ⟨w.heap.size,0,none⟩).run Tryz.prog (wc.setCells w.heap.size 0 V)=.ok (.agg V.toArray) (wc.setCells w.heap.size 0 V) :=
     run_loadVar_mid (P:=Tryz.prog) _ w.heap.size 0 117 _ _ (Yf _ _ _ _ (by rw [HLEN.out];exact TR.out)) Tryz.underlying117 rfl (Wh _ HLEN.out)
    simp [results,Tryz.results155,Act.put,asAddr]
    exact LV
  exact below_setCells YR _ _ _ B4.out
theorem Ph.more {k':Nat} (h:Ph r0 w0 sB P S L v0 k w) (hk:k≤k'):Ph r0 w0 sB P S L v0 k' w:=by
 obtain ⟨vd,vp,made,YL,ps,dv,h1,h2,h3,h4,h5,h6,h7,h8,h9,h10⟩:=h;exact ⟨vd,vp,made,YL,ps,dv,h1,h2,h3,by omega,h5,by omega,h7,h8,h9,h10⟩
theorem Ph.gb (h:Ph r0 w0 sB P S L v0 k w):Gr r0 sB w0 w∧sB<w0.heap.size:=by
 obtain ⟨vd,vp,made,YL,ps,dv,h1,h2,h3,h4,h5,h6,h7,h8,h9,h10⟩:=h;exact ⟨h9,h10⟩
theorem M9 (fi bl:Int) (v:Value) (ys:List Int) (f:Nat) (h:Ph r0 w0 sB P S L v0 k w) (hk:k≤8000) (hf:0≤fi∧fi≤100000) (hv:∀W,Gr r0 sB w0 W→Rd .u8 W v ys) (hl:ys.length≤4096) (hfl:f≤ys.length) :
    Calls Tryz.prog 113 #[.pointer (some ⟨sB,0,none⟩),.agg #[.int .i64 fi,.int .i64 bl],v,.int .i64 (f:Int)] w fun e w'=>e=.returned (.tuple #[])∧Ph r0 w0 sB P S L v0 (k+65) w'∧KW sB w w':=by
 obtain ⟨ao,cp,Zm,-⟩:∃ao cp,v=.slice ao ys.length cp∧True:=by
  obtain ⟨ao,cp,e,-⟩:=hv w h.gb.1;exact ⟨ao,cp,e,trivial⟩
 have hbx:=(Below.refl w.heap.size w).alloc YR (.cells #[.int .i64 fi,.int .i64 bl] 111);have HP:Hid (Ph r0 w0 sB P S L v0 k (w.alloc (.cells #[.int .i64 fi,.int .i64 bl] 111))):=h.below hbx;have qd:Hid (KW sB w (w.alloc (.cells #[.int .i64 fi,.int .i64 bl] 111))):=KW.below hbx;have nM:Hid ((w.alloc (.cells #[.int .i64 fi,.int .i64 bl] 111)).heap[w.heap.size]?=some (.cells #[.int .i64 fi,.int .i64 bl] 111)):=Zs _ _;have YE:Hid (w.heap.size<(w.alloc (.cells #[.int .i64 fi,.int .i64 bl] 111)).heap.size):=by show _<_;simp
 have Zc:Hid (∀W k' x (C:List Int),Ph r0 w0 sB P S L v0 k' W→k'≤9000→C.length=64→Calls Tryz.prog 154 #[.pointer (some ⟨sB,0,none⟩),.int .i64 x,.agg (C.map (Value.int .u8)).toArray] W fun e w'=>e=.returned (.tuple #[])∧Ph r0 w0 sB P S L v0 (k'+1) w'∧KW sB W w'):=fun W k' x C a b c=>Hn x C a b c
 have Zb:Hid (∀W k' (i:Nat),Ph r0 w0 sB P S L v0 k' W→i≤4096→Calls Tryz.prog 155 #[v,.int .i64 (i:Int)] W fun e w'=>(∃C:List Int,C.length=64∧e=.returned (.agg (C.map (Value.int .u8)).toArray))∧Zi W w'):=fun W k' i a b=>L7 W v ys i (hv W a.gb.1) (by omega) b
 have Y':sB≠w.heap.size:=by have:=h.gb;have:=this.1.size;omega
 subst Zm;clear h hv hbx
 go_enter Tryz.func113,Tryz.ntmps113
 go_wp2_with fail
 · exact ⟨rfl,_,by kernel_rfl,rfl,HP.out.more (by omega),qd.out⟩
 generalize w.alloc _=w1 at *;rw [show ((f:Int) == (ys.length:Int))=false by assumption]
 go_loopw [8] (fun v8 wr=>∃i:Nat,v8=.int .i64 (i:Int)∧f / 64≤i∧i≤64∧Hid (Ph r0 w0 sB P S L v0 (k+i) wr)∧Hid (KW sB w wr)∧Hid (wr.heap[w.heap.size]?=some (.cells #[.int .i64 fi,.int .i64 bl] 111))) (fun v _=>(64 - intOf v).toNat)
 case atStart=>exact ⟨f / 64,by simp,YR,by omega,HP.out.more (by omega),qd,nM⟩
 case round =>
  obtain ⟨i,rfl,hi1,hi2,PH,KH,BH⟩:=hrel
  by_cases hc:i*64<ys.length
  · have hcI:(i:Int)*64<(ys.length:Int):=by omega
    go_wp2_with fail
    have Z7:Hid (Ph r0 w0 sB P S L v0 (k+i) wr.drew):=PH.out.below (below_drewN' wr 1);have ZN:Hid (KW sB w wr.drew):=KH.out.trans (KW.below (below_drewN' wr 1));have S0:wr.drew.cell? ⟨w.heap.size,0,none⟩=some (.int .i64 fi)∧wr.drew.heap[w.heap.size]?=some (.cells #[.int .i64 fi,.int .i64 bl] 111 (0,0)):=⟨by rw [Yz wr.drew w.heap.size 0 #[.int .i64 fi,.int .i64 bl] 111 (0,0) BH.out];rfl,BH.out⟩;have hwz:w.heap.size<wr.drew.heap.size:=(Z3.mp S0.2).1;refine ZX (S:=fun W=>W.cell? ⟨w.heap.size,0,none⟩=some (.int .i64 fi)∧W.heap[w.heap.size]?=some (.cells #[.int .i64 fi,.int .i64 bl] 111 (0,0))) (by kernel_rfl) S0 (fun Z9=>?_);clear PH KH BH S0;generalize wr.drew=w3 at *
    iterate 7 (refine Zf ?_ (by kernel_rfl) (fun _=>id) Z9 ?_ ?_;rotate_left;· intro w9 ZQ;have Yu:=ZQ.1;clear ZQ;go_simp;try with_reducible rfl)
    refine YS 7 rfl (by kernel_rfl) (fun K hK=>?_);go_simp;refine (Zb.out _ _ i Z7.out (by omega)).mono ?_;rintro e w4 ⟨⟨C,hC,rfl⟩,b4⟩;have S4:w4.cell? ⟨w.heap.size,0,none⟩=some (.int .i64 fi)∧w4.heap[w.heap.size]?=some (.cells #[.int .i64 fi,.int .i64 bl] 111 (0,0)):=⟨(b4.cell (p:=⟨w.heap.size,0,none⟩) hwz).trans Z9.1,(b4.block _ hwz).trans Z9.2⟩;have ZL:=ZU (Z7.out.below b4);have ZF:=ZU (ZN.out.trans (KW.below b4));have z4:=ZY hwz b4.size;refine hK.out _ _ S4 (fun YA=>?_);clear hK K Z9 Z7 ZN b4 hwz;refine YS 8 rfl (by kernel_rfl) (fun K hK=>?_);go_simp;refine (Zc.out _ _ _ C ZL.out (by omega) hC).mono ?_;rintro e w5 ⟨rfl,p5,k5⟩;have e5:=k5.block _ z4 Y'.symm (by rw [S4.2];intro cs z e9;simp at e9);have S5:w5.cell? ⟨w.heap.size,0,none⟩=some (.int .i64 fi)∧w5.heap[w.heap.size]?=some (.cells #[.int .i64 fi,.int .i64 bl] 111 (0,0)):=⟨(ZP (w:=w4) (a:=⟨w.heap.size,0,none⟩) e5).trans S4.1,e5.trans S4.2⟩;have Y9:=ZU p5;have Y8:=ZU (ZF.out.trans k5);have B5:=ZU S5.2;refine hK.out _ _ S5 (fun YA=>?_);clear hK K ZL ZF S4 p5 k5 e5 S5 z4;refine ZR (by kernel_rfl) ?_ _
    try simp only [Act.put,WV,WU,WT]
    clear YA
    go_wp2_with fail
    exact ⟨⟨i+1,by go_num,by omega,by omega,Y9,Y8,B5⟩,by simp [intOf];omega⟩
  have hcI:¬(i:Int)*64<(ys.length:Int):=by omega
  go_wp2_with fail
  exact ⟨rfl,_,by kernel_rfl,rfl,PH.out.more (by omega),KH.out⟩
end
section
open Go.RowKit Go.Conc
variable {ops:Array Oper} {buf:Array Value} {cl em tm:Bool} {C9 L S:Int} {D xs ys:List Int} {ns:List Nd} {B Bd Bs N b base blk c cap g i id j k n o r s sB:Nat} {p:Nat × Nat × Nat} {r0 row:Option Nat} {e:TypeId} {P u v v0 v1 v2 vt x y:Value} {W W' w w' w0 w1 w2:World}
def GI (P:Program) (c:Code) (Q:Exit→Act→World→Prop) (a:Act) (w:World):Prop :=
 ∀(b:Frame) (k:List Item) (cs:List Frame),b.kind=.normal→∃e a' w',Q e a' w'∧Arrives P (lone (b.at a (.code c :: k)) cs w) b k cs e a' w'
section
variable {P:Program} {Q:Exit→Act→World→Prop} {a:Act} {w:World}
theorem Tu {c:Code} (h:c.wp P Q a w):GI P c Q a w:=fun b k cs _=>h b k cs
theorem Bj {x y:Code} (h:GI P x (Exit.then (GI P y Q) Q) a w):GI P (Code.seq x y) Q a w:=by
 intro b k cs hb;obtain ⟨e,a₁,w₁,hq,harr⟩:=h b (.code y :: k) cs hb
 cases e with
 | normal =>
  obtain ⟨e₂,a₂,w₂,hq₂,harr₂⟩:=hq b k cs hb;exact ⟨e₂,a₂,w₂,hq₂,.of_steps (.head Sg harr) harr₂⟩
 | exit id=>exact ⟨_,a₁,w₁,hq,.of_steps (.one Sg) (.pass (x:=.code y) rfl (fun _ _=>.inl (by simp)) harr)⟩
 | goto l=>exact ⟨_,a₁,w₁,hq,.of_steps (.one Sg) (.pass (x:=.code y) rfl (fun _ _=>.inl (by simp)) harr)⟩
 | ret=>exact ⟨_,a₁,w₁,hq,.of_steps (.one Sg) (.pass (x:=.code y) rfl (fun _ _=>.inl (by simp)) harr)⟩
 | panic ch=>exact ⟨_,a₁,w₁,hq,.of_steps (.one Sg) (.pass (x:=.code y) rfl (fun _ _=>.inl (by simp)) harr)⟩
 | outgrown=>exact ⟨_,a₁,w₁,hq,.of_steps (.one Sg) (.pass (x:=.code y) rfl (fun _ _=>.inl (by simp)) harr)⟩
theorem VT {x y:Code} (h:∀K:Act→World→Prop,(∀a w,GI P y Q a w→K a w)→GI P x (Exit.then K Q) a w):GI P (Code.seq x y) Q a w:=Bj (h _ fun _ _ h=>h)
theorem I2 {c:Code} (h:GI P c (Exit.inBlock id Q) a w):GI P (Code.block id c) Q a w:=by
 intro b k cs hb;obtain ⟨e,a₁,w₁,hq,harr⟩:=h b (.inBlock id :: k) cs hb
 cases e with
 | normal=>exact ⟨.normal,a₁,w₁,hq,.head UP (Steps.trans harr (.one step_inBlock))⟩
 | exit id' =>
  by_cases hid:id'=id
  · simp only [Exit.inBlock,hid,Vo] at hq
    exact ⟨.normal,a₁,w₁,hq,.head UP (harr k (by simp [exitTo,hid]))⟩
  simp only [Exit.inBlock,hid,WW] at hq
  refine ⟨.exit id',a₁,w₁,hq,fun k' hk=>.head UP (harr k' ?_)⟩;have:(id == id')=false:=by simp;exact fun h=>hid h.symm
  simp [exitTo,this,hk]
 | goto l=>exact ⟨_,a₁,w₁,hq,fun k' hk=>.head UP (harr k' (by simp [gotoIn,hk]))⟩
 | ret=>exact ⟨_,a₁,w₁,hq,.of_steps (.one UP) harr⟩
 | panic ch=>exact ⟨_,a₁,w₁,hq,.of_steps (.one UP) harr⟩
 | outgrown=>exact ⟨_,a₁,w₁,hq,.of_steps (b:=b) (k:=k) (cs:=cs) (e:=.outgrown) (.one UP) harr⟩
theorem vF {c:Code} (I:Act→World→Prop) (μ:Act→World→Nat) (h₀:I a w)
    (round:∀a w,I a w→GI P c (Exit.then (fun a' w'=>I a' w'∧μ a' w'<μ a w) Q) a w):GI P (Code.loop c) Q a w:=by
 intro b k cs hb;have key:∀n a w,μ a w=n→I a w →
     ∃e a' w',Q e a' w'∧Arrives P (lone (b.at a (.code c :: .inLoop c :: k)) cs w) b k cs e a' w':=by
  intro n
  induction n using Nat.strongRecOn with
  | _ n ih =>
   intro a w hn hI;obtain ⟨e,a₁,w₁,hq,harr⟩:=round a w hI b (.inLoop c :: k) cs hb
   cases e with
   | normal =>
    obtain ⟨hI₁,hlt⟩:=hq;obtain ⟨e₂,a₂,w₂,hq₂,harr₂⟩:=ih (μ a₁ w₁) (hn ▸ hlt) a₁ w₁ rfl hI₁;exact ⟨e₂,a₂,w₂,hq₂,.of_steps (Steps.trans harr (.one step_inLoop)) harr₂⟩
   | exit id=>exact ⟨_,a₁,w₁,hq,.pass (x:=.inLoop c) rfl (fun _ _=>.inl (by simp)) harr⟩
   | goto l=>exact ⟨_,a₁,w₁,hq,.pass (x:=.inLoop c) rfl (fun _ _=>.inl (by simp)) harr⟩
   | ret=>exact ⟨_,a₁,w₁,hq,.pass (x:=.inLoop c) rfl (fun _ _=>.inl (by simp)) harr⟩
   | panic ch=>exact ⟨_,a₁,w₁,hq,.pass (x:=.inLoop c) rfl (fun _ _=>.inl (by simp)) harr⟩
   | outgrown=>exact ⟨_,a₁,w₁,hq,.pass (x:=.inLoop c) rfl (fun _ _=>.inl (by simp)) harr⟩
 obtain ⟨e,a',w',hq,harr⟩:=key _ a w rfl h₀;exact ⟨e,a',w',hq,.of_steps (.one step_loop) harr⟩
theorem M6 {f:FuncId} {fn:Func} {c:Code} {args:Array Value} {R:Ending→World→Prop}
    (hf:P.funcs[f]?=some fn) (hb:fn.body=some c)
    (h:GI P c (bodyPost P fn R) { tmps:=args++Array.replicate (fn.ntmps - args.size) undef,defers:=[] } w):Calls P f args w R:=by
 intro cs
 let b:Frame:={ (default:Frame) with fn:=f,kind:=.normal }
 have henter:Frame.enter P f args .normal=b.at { tmps:=args++Array.replicate (fn.ntmps - args.size) undef,defers:=[] } [.code c]:=by
  simp [Frame.enter,Frame.at,hf,hb,b]
 obtain ⟨e,a',w',hq,harr⟩:=h b [] cs rfl;rw [←henter] at harr
 cases e with
 | normal =>
  obtain ⟨hd,v,hr,hR⟩:=hq;exact ⟨.returned v,w',_,hR,Steps.trans harr (.one step_end),rfl,rfl,hd,rfl,fn,hf,hr⟩
 | ret =>
  obtain ⟨hd,v,hr,hR⟩:=hq;obtain ⟨todo,hs⟩:=harr;exact ⟨.returned v,w',_,hR,hs,rfl,rfl,hd,rfl,fn,hf,hr⟩
 | panic chain =>
  obtain ⟨hd,hR⟩:=hq;obtain ⟨todo,hs⟩:=harr;exact ⟨.panicked chain,w',_,hR,hs,rfl,rfl,hd,fn,hf⟩
 | exit id=>exact hq.elim
 | goto l=>exact hq.elim
 | outgrown=>exact ⟨.outgrown,w',b,hq,harr.resolve_left (by simp [b]),rfl,trivial⟩
def rk (P:Program) (ops:Array Oper):List Nat→Act→World→(Act→World→Prop)→Prop
 | [],a,w,K=>K a w
 | i :: r,a,w,K=>∃o v w1,ops[i]?=some o∧Region.wanted o (yielded ops a.tmps)=true∧(execOp a.eval o).run P w=.ok (.value v) w1∧rk P ops r (a.put o.dst v) w1 K
theorem Mv {K:Act→World→Prop} (b:Frame) (k:List Item) (cs:List Frame) (suf:List Nat):∀(pre:List Nat) (a:Act) (w:World),rk P ops pre a w K →
    ∃a' w',K a' w'∧Steps P (lone (b.at a (.inRegion ops (pre++suf) :: k)) cs w) (lone (b.at a' (.inRegion ops suf :: k)) cs w')
 | [],a,w,h=>⟨a,w,h,Steps.refl _ _⟩
 | i :: r,a,w,h=>by
  obtain ⟨o,v,w1,ho,hw,hr,h2⟩:=h;obtain ⟨a',w',hK,hs⟩:=Mv b k cs suf r _ _ h2;refine ⟨a',w',hK,Rl (step_lone_go ?_) hs⟩;have hg:=stepG_op (P:=P) (b:=b) (k:=k) (cs:=cs) (w:=w) (rest:=r++suf) ho hw;have hfin:(b.at a (.inRegion ops (i :: (r++suf)) :: k)).finish v=b.at (a.put o.dst v) (.inRegion ops (r++suf) :: k):=by
   rw [Frame.finish_at,ho];rfl
  show (stepG P true { frame:=b.at a (.inRegion ops (i :: (r++suf)) :: k),callers:=cs,status:=.running,dying:=none } w).bare=_;rw [hg,←hfin];simp [stepG.apply,hr]
theorem Ko {o:Oper} {pre suf:List Nat} (m:Nat) (hm:List.range ops.size=pre++m :: suf) (ho:ops[m]?=some o)
    (h:rk P ops pre a w (fun a1 w1=>Region.wanted o (yielded ops a1.tmps)=true∧∃cases blocking shape v w2,(execOp a1.eval o).run P w1=.ok (.comm cases blocking shape) w1 ∧
     (∀(fr:Frame) (cs:List Frame) (es:Array Event),stepG P true (G fr cs) w1=.comm (G fr cs) cases blocking shape w1 es→step P (solo (G fr cs) w1)=.next (solo (G (fr.finish v) cs) w2)) ∧
     rk P ops suf (a1.put o.dst v) w2 (fun a2 w3=>Q .normal a2 w3))):GI P (Code.region id ops false) Q a w:=by
 intro b k cs hb;obtain ⟨a1,w1,⟨hw,cases,blocking,shape,v,w2,hr,hst,h2⟩,hs⟩:=Mv b k cs (m :: suf) _ _ _ h;obtain ⟨a2,w3,hq,hs2⟩:=Mv b k cs [] _ _ _ h2;rw [YD] at hs2;refine ⟨.normal,_,_,hq,?_⟩;have hx:=hst _ _ _ (stepG_comm (P:=P) (main:=true) (b:=b) (a:=a1) (k:=k) (cs:=cs) (w:=w1) (rest:=suf) ho hw (by rw [hb];decide) hr);rw [Frame.finish_at,ho] at hx;refine Rl step_region ?_;rw [hm];exact hs.trans (Rl hx (hs2.trans (Rl step_region_end (Steps.refl _ _))))
section
variable {c cap s r:Nat} {buf:Array Value} {v z:Value} {tm:Bool}
theorem vD (hc:w.heap[c]?=some (.chan cap buf false s r tm)) (hroom:buf.size<cap) (fr:Frame) (cs:List Frame) (es:Array Event) (h:stepG P true (G fr cs) w=.comm (G fr cs) #[scase c v z] true .send w es) :
    step P (solo (G fr cs) w)=.next (solo (G (fr.finish undef) cs) (w.setChan c cap (buf.push v) false (s+1) r tm)):=step_lone_send_room h hc hroom
theorem vC (hc:w.heap[c]?=some (.chan cap buf false s r tm)) (hsome:0<buf.size) (fr:Frame) (cs:List Frame) (es:Array Event) (h:stepG P true (G fr cs) w=.comm (G fr cs) #[rcase c z] false .select w es) :
    step P (solo (G fr cs) w)=.next (solo (G (fr.finish (.tuple #[goInt 0,.bool true,buf.getD 0 undef])) cs) (w.setChan c cap (buf.extract 1 buf.size) false s (r+1) tm)):=by
 have hst:=step_lone_sel_recv_buf (k:=0) h rfl (fun n c' hn hc'=>by
  cases n with
  | zero=>exact absurd rfl hn
  | succ n=>simp at hc') hc hsome
 have e:commResult #[rcase c z] .select ((0:Nat):Int) (buf.getD 0 undef) true=.tuple #[goInt 0,.bool true,buf.getD 0 undef]:=by simp [commResult,rcase]
 rwa [e] at hst
theorem EQ (hc:w.heap[c]?=some (.chan cap #[] false s r tm)) (fr:Frame) (cs:List Frame) (es:Array Event) (h:stepG P true (G fr cs) w=.comm (G fr cs) #[rcase c z] false .select w es) :
    step P (solo (G fr cs) w)=.next (solo (G (fr.finish (.tuple #[goInt (-1),.bool false,z])) cs) w):=step_lone_select_default h hc
end
end
theorem vz {c g:Option Nat} (h:w.grownBy w1 c) (h2:w1.grownBy w2 g) (hg:∀q,g=some q→w.heap.size≤q∨c=some q):w.grownBy w2 c :=
 ⟨h2.os.trans h.os,h2.tape.trans h.tape,h2.output.trans h.output,ZJ h.size h2.size,fun q hq hne=>(h2.block q (ZY hq h.size) (fun e=>by
  rcases hg q e.symm with h9 | h9
  · omega
  exact hne h9.symm)).trans (h.block q hq hne)⟩
theorem Hm (w:World) (c cap:Nat) (buf:Array Value) (cl:Bool) (s r:Nat) (tm:Bool):w.grownBy (w.setChan c cap buf cl s r tm) (some c) :=
 ⟨rfl,rfl,rfl,by simp [World.setChan],fun q hq hne=>by simp only [World.setChan];rw [Array.getElem?_setIfInBounds_ne (fun e=>hne (by rw [e]))]⟩
theorem Hl (h:w.grownBy w' (some c)) (hc:w.heap[c]?=some (.chan cap buf cl s r tm)) {p:Addr} (hp:w.cell? p=some v):w'.cell? p=some v:=by
 have hl:=ZG w _ hp;have hne:some p.block≠some c:=fun e=>by
  injection e with e
  unfold World.cell? at hp;rw [e,hc] at hp
  simp at hp
 exact (ZP (w:=w) (a:=p) (h.block _ hl hne)).trans hp
theorem qb (h:w.grownBy w' (some c)) (hc:w.heap[c]?=some (.chan cap buf cl s r tm)) (hr:Rd .u8 w v xs):Rd .u8 w' v xs:=by
 obtain ⟨ao,cp,e,h1,h2,h3⟩:=hr;refine ⟨ao,cp,e,h1,h2,h3.imp id ?_⟩;rintro ⟨b,off,e1,hb,hcl⟩;exact ⟨b,off,e1,ZY hb h.size,fun i hi=>Hl h hc (hcl i hi)⟩
theorem Bh {k:IntKind} (h:Own k e w base v xs) (hc:c<base):v.ownBlock=none∨v.ownBlock≠some c:=by
 rcases h.2 with ⟨rfl,h0⟩ | ⟨g,cap,cur,rfl,hb,hg,hn,hm,hs,ht⟩
 · exact .inl rfl
 exact .inr (fun e=>by simp only [Value.ownBlock,ZK] at e;omega)
def kf (w:World) (L:List Value) (fs:List (List Int)):Prop:=L.length=fs.length∧∀i,i<L.length→Rd .u8 w (L.getD i undef) (fs.getD i [])∧0<(fs.getD i []).length
def nr (w:World) (c:Nat):Nat:=match w.heap[c]? with | some (.chan _ b _ _ _ _)=>b.size | _=>0
theorem Bg (h:w.heap[c]?=some (.chan cap buf cl s r tm)):nr w c=buf.size:=by unfold nr;rw [h]
def eP (w:World) (c cap s r:Nat) (tm:Bool) (fs:List (List Int)) (e:Ending) (w':World):Prop :=
 ∃v,e=.returned (.tuple #[v,.int .i64 (fs.length:Int)])∧Own .u8 5 w' w.heap.size v fs.flatten∧w.grownBy w' (some c)∧∃r',w'.heap[c]?=some (.chan cap #[] false s r' tm)
theorem p9 (w:World) (sB mB c cap s r:Nat) (tm:Bool) (L:List Value) (fs:List (List Int)) (h1:w.cell? ⟨sB,0,none⟩=some (.pointer (some ⟨mB,0,none⟩))) (h2:w.cell? ⟨mB,4,none⟩=some (.chan (some c))) (hc:w.heap[c]?=some (.chan cap L.toArray false s r tm)) (hq:kf w L fs) (hT:fs.flatten.length≤1048576) (hN:fs.length≤1048576) :
    Calls Tryz.prog 112 #[.pointer (some ⟨sB,0,none⟩)] w fun e w'=>eP w c cap s r tm fs e w':=by
 obtain ⟨i0,hi,hz0,hz1,hz2⟩:=YN Tryz.QZ;have HC:=ZU hc;have U:Hid (c<w.heap.size):=(Z3.mp hc).1;have HQ:=ZU hq;have HT:=ZU hT;have H1:=ZU h1;have H2:=ZU h2;clear hc hq h1 h2;refine M6 Tryz.func112 rfl ?_
 simp only [Tryz.ntmps112,ZI,ZE,Y7,Nat.reduceAdd,Nat.reduceSub,YV,YU,YI,YT,Zd,Y3]
 iterate 3 (refine VT (fun K hK=>Tu ?_);have HK:Hid _:=hK;clear hK;go_wp2_with fail;refine HK.out _ _ ?_;clear HK K)
 refine I2 (vF (fun a wr=>∃(k:Nat) (v4:Value) (xs:List Int) (M:List Value) (gs:List (List Int)) (r':Nat) (u6 u7 u8 u9 u10 u11 u12 u13 u14 u15 u16 u17 u18 u19 u20 u21 u22 u23 u24:Value),
     a={ tmps:=#[.pointer (some ⟨sB,0,none⟩),undef,.slice none 0 0,.int .i64 0,v4,.int .i64 (k:Int),u6,u7,u8,u9,u10,u11,u12,u13,u14,u15,u16,u17,u18,u19,u20,u21,u22,u23,u24],defers:=[] } ∧
     k+M.length=fs.length∧Hid (xs++gs.flatten=fs.flatten)∧Hid (kf w M gs)∧Hid (Own .u8 5 wr w.heap.size v4 xs)∧Hid (w.grownBy wr (some c))∧Hid (wr.heap[c]?=some (.chan cap M.toArray false s r' tm)))
  (fun a wr=>nr wr c) ?_ ?_)
 · exact ⟨0,.slice none 0 0,[],L,fs,r,undef,undef,undef,undef,undef,undef,undef,undef,undef,undef,undef,undef,undef,undef,undef,undef,undef,undef,undef,rfl,by have:=HQ.out.1;omega,rfl,HQ,ZH _ _ _ _,Zz _ _,HC⟩
 intro a wr hI;obtain ⟨k,v4,xs,M,gs,r',u6,u7,u8,u9,u10,u11,u12,u13,u14,u15,u16,u17,u18,u19,u20,u21,u22,u23,u24,rfl,hk,HX,HM,HO,HG,pZ⟩:=hI;have c1:=Hl HG.out HC.out H1.out;have c2:=Hl HG.out HC.out H2.out;refine I2 ?_;refine VT (fun K hK=>Tu ?_);have HK:Hid _:=hK;clear hK
 go_wp2_with fail
 refine HK.out _ _ ?_;clear HK K c1 c2;refine VT (fun K hK=>?_);have HK:Hid _:=hK;clear hK
 cases M with
 | nil =>
  refine Ko (pre:=[]) (suf:=[1,2]) 0 rfl rfl ?_;refine ⟨by kernel_rfl,#[rcase c (.slice none 0 0)],false,.select,.tuple #[goInt (-1),.bool false,.slice none 0 0],wr,?_,EQ pZ.out,?_⟩
  · kernel_rfl
  refine ⟨_,goInt (-1),wr,rfl,by kernel_rfl,by kernel_rfl,?_⟩;refine ⟨_,.bool false,wr,rfl,by kernel_rfl,by kernel_rfl,?_⟩;show K _ _;refine HK.out _ _ ?_;clear HK K;refine Tu ?_
  go_wp2_with fail
  refine ⟨rfl,.tuple #[v4,.int .i64 (k:Int)],by kernel_rfl,v4,?_,?_,HG.out,r',pZ.out⟩
  · rw [show fs.length=k from hk.symm]
  have e:gs=[]:=Zg HM.out.1.symm;have e2:=HX.out;rw [e] at e2
  simp only [List.flatten_nil,YD] at e2
  rw [←e2];exact HO.out
 | cons m M =>
  obtain ⟨g,gs',rfl⟩:∃g gs',gs=g :: gs':=by
   cases gs with
   | nil=>exact absurd HM.out.1 (by simp)
   | cons g gs'=>exact ⟨g,gs',rfl⟩
  have hR:=HM.out.2 0 (by simp)
  simp only [XM] at hR
  obtain ⟨hR,hg0⟩:=hR;obtain ⟨wc,hwc⟩:∃W,W=wr.setChan c cap M.toArray false s (r'+1) tm:=⟨_,rfl⟩;have Y5:Hid (wc=wr.setChan c cap M.toArray false s (r'+1) tm):=hwc;have nD:Hid (w.grownBy wc (some c)):=by
   rw [hwc];exact vz HG.out (Hm wr c cap M.toArray false s (r'+1) tm) (fun q e=>.inr e)
  have hR2:=qb nD.out HC.out hR;obtain ⟨ao,mc,em,hm1,hm2,Y2⟩:=hR2
  rcases Y2 with h0 | ⟨mb,mo,rfl,hmb,hmc⟩
  · rw [h0] at hg0;simp at hg0
  have NR:Hid (g.length≤1048576∧xs.length+g.length≤1048576):=by
   have e:=ZM List.length HX.out
   simp only [ZZ,TI] at e
   constructor <;> omega
  refine Ko (pre:=[]) (suf:=[1,2]) 0 rfl rfl ?_;refine ⟨by kernel_rfl,#[rcase c (.slice none 0 0)],false,.select,.tuple #[goInt 0,.bool true,m],wc,by kernel_rfl,fun fr cs es h=>?_,?_⟩
  · have h9:=vC pZ.out (by simp) fr cs es h
    have e:((m :: M).toArray).extract 1 ((m :: M).toArray).size=M.toArray:=by
     apply Array.toList_inj.mp;simp
    rw [e] at h9;rw [hwc];exact h9
  refine ⟨_,goInt 0,wc,rfl,by kernel_rfl,by kernel_rfl,?_⟩;refine ⟨_,.bool true,wc,rfl,by kernel_rfl,by kernel_rfl,?_⟩;show K _ _;refine HK.out _ _ ?_;clear HK K;refine Tu ?_;subst em;have Z6:Hid (Own .u8 5 wc w.heap.size v4 xs):=by rw [hwc];exact Zn HO.out (Hm wr c cap M.toArray false s (r'+1) tm) (Bh HO.out U.out)
  have Qs:Hid (∀j u,(g.map (Value.int .u8))[j]?=some u→wc.cell? ((⟨mb,mo,none⟩:Addr).add j)=some u):=by
   intro j u hj;rw [Yo] at hj
   rcases hx:g[j]? with _ | x
   · rw [hx] at hj;exact absurd hj (by simp)
   rw [hx] at hj
   simp only [Sy,ZK] at hj
   have hjl:=(Zh.mp hx).1;have e:=hmc j hjl;rw [Xy,hx] at e;rw [←hj];have e2:(⟨mb,mo,none⟩:Addr).add j=⟨mb,mo+j,none⟩:=by
    unfold Addr.add
    by_cases h0:j=0
    · rw [Z0 h0,h0,Yj]
    rw [Z1 h0]
   rw [e2];exact e
  have LY:Hid (w.heap.size≤wc.heap.size):=nD.out.size;clear hmc hwc hR hm1 hm2 hmb;have Yn:=NR.out
  go_wp2_with (at_builtin;go_must (refine wpList_append_lies _ rfl _ _ 22 rfl w.heap.size 5 i0 (.int .u8 0) 1 1 Tryz.underlying22 hi hz0 hz1 hz2 rfl (by decide) v4 xs.length (xs.map (Value.int .u8)) rfl Z6.out ⟨mb,mo,none⟩ g.length mc (g.map (Value.int .u8)) rfl (by simp) Qs.out (Yi _ _) (by omega) (by unfold maxLen;omega) (by omega) LY.out _ rfl ?_))
  intro g2 cap2 w2 ho2 hg2 hb2 hl2;have DT:=ZU ho2;have HG2:=ZU hg2;clear ho2 hg2 hb2 hl2;have tH:k+1≤1048576:=by have e:k+(M.length+1)=fs.length:=hk;omega
  go_wp2_with fail
  have wZ:Hid (w2.heap[c]?=some (.chan cap M.toArray false s (r'+1) tm)):=by
   rw [show w2.heap[c]?=wc.heap[c]? from HG2.out.block c (ZY U.out LY.out) (fun e=>by rcases Bh Z6.out U.out with h | h <;> rw [←e] at h <;> simp at h),Y5.out];exact heap_setChan _ _ _ _ _ _ _ _ (ZY U.out HG.out.size)
  refine ⟨⟨k+1,_,xs++g,M,gs',r'+1,_,_,_,_,_,_,_,_,_,_,_,_,_,_,_,_,_,_,_,rfl,?_,?_,?_,?_,?_,wZ⟩,?_⟩
  · have e:k+(M.length+1)=fs.length:=hk
    omega
  · have e:=HX.out
    rw [TI,←ZO] at e;exact e
  · refine ⟨by have:=HM.out.1;simpa using this,fun i hi=>?_⟩
    have e:=HM.out.2 (i+1) (by simp;exact hi)
    simpa using e
  · exact QY (q:=xs.length+g.length) (by simp) rfl (by rw [Y6];exact DT.out)
  · exact vz nD.out HG2.out (fun q e=>.inl (by
     rcases Z6.out.2 with ⟨e9,h0⟩ | ⟨g9,gk,YQ,e9,OS,np,-⟩
     · rw [e9] at e;simp [Value.ownBlock] at e
     rw [e9] at e;simp [Value.ownBlock] at e;omega))
  rw [Bg wZ.out,Bg pZ.out];simp
structure Sc where
 sB:Nat
 mB:Nat
 c:Nat
 lb:Nat
 lo:Nat
 cap:Nat
 S:Int
 L:Int
 X:List Nat
 up:sB<mB∧sB<c∧sB<lb
structure Sx where
 T:List Nd
 zf:Nat
 Q:List Nd
 zq:Nat
 fs:List (List Int)
 ql:Nat
 g:Int
 b:Int
 s:Int
 l:Int
 r:Int
 full:List Int
 off:Nat
 sn:Option (Nat × Nat × Nat)
 k:Nat
 em:Bool
 pw:Option Nat
def Pg (κ:Sc) (v:Value):Prop:=∀q,v.ownBlock=some q→q≠κ.sB∧q≠κ.mB∧q≠κ.c∧q≠κ.lb∧q ∉ κ.X
structure Gs (κ:Sc) (w w':World):Prop where
 os:w'.os=w.os
 tape:w'.tape=w.tape
 output:w'.output=w.output
 size:w.heap.size≤w'.heap.size
 block:∀q,q<w.heap.size→q≠κ.sB→q≠κ.mB→q≠κ.c→q≠κ.lb→w'.heap[q]?=w.heap[q]?
theorem Gs.YZ {κ:Sc} (h:Zi w w'):Gs κ w w':=⟨h.os,h.tape,h.output,h.size,fun q hq _ _ _ _=>h.block q hq⟩
theorem Gs.trans {κ:Sc} (h:Gs κ w w1) (h':Gs κ w1 w2):Gs κ w w2 :=
 ⟨h'.os.trans h.os,h'.tape.trans h.tape,h'.output.trans h.output,ZJ h.size h'.size,fun q hq a b c d=>(h'.block q (ZY hq h.size) a b c d).trans (h.block q hq a b c d)⟩
theorem Gs.I1 {κ:Sc} {q:Nat} (h:w.grownBy w' (some q)) (hq:q=κ.sB∨q=κ.mB∨q=κ.c∨q=κ.lb):Gs κ w w' :=
 ⟨h.os,h.tape,h.output,h.size,fun p hp a b c d=>h.block p hp (fun e=>by injection e with e;subst e;rcases hq with e | e | e | e <;> contradiction)⟩
theorem Rg {k:IntKind} (h:Rd k w v xs) (hs:w.heap.size≤w'.heap.size) (hb:∀q,v.ownBlock=some q→q<w.heap.size→w'.heap[q]?=w.heap[q]?):Rd k w' v xs:=by
 obtain ⟨ao,cp,rfl,h1,h2,h3⟩:=h;refine ⟨ao,cp,rfl,h1,h2,h3.imp id ?_⟩;rintro ⟨b,off,rfl,hlt,hcl⟩;exact ⟨b,off,rfl,ZY hlt hs,fun i hi=>(ZP (w:=w) (a:=⟨b,off+i,none⟩) (hb b rfl hlt)).trans (hcl i hi)⟩
theorem VM (h:SK w v ns) (hs:w.heap.size≤w'.heap.size) (hb:∀q,v.ownBlock=some q→q<w.heap.size→w'.heap[q]?=w.heap[q]?):SK w' v ns:=by
 obtain ⟨ao,cp,rfl,h1,h2,h3⟩:=h;refine ⟨ao,cp,rfl,h1,h2,h3.imp id ?_⟩;rintro ⟨b,off,rfl,hlt,hcl⟩;refine ⟨b,off,rfl,ZY hlt hs,fun i hi=>?_⟩;have e:∀j,w'.cell? ⟨b,j,none⟩=w.cell? ⟨b,j,none⟩:=fun j=>ZP (w:=w) (a:=⟨b,j,none⟩) (hb b rfl hlt)
 have h9:=hcl i hi;exact ⟨(e _).trans h9.c0,(e _).trans h9.c1,(e _).trans h9.c2,(e _).trans h9.c3,(e _).trans h9.c4,(e _).trans h9.c5,(e _).trans h9.c6⟩
theorem Wo {L:List Value} (h:St w b L) (hs:w.heap.size≤w'.heap.size) (e:w'.heap[b]?=w.heap[b]?):St w' b L:=by
 refine ⟨ZY h.lt hs,fun j=>?_,fun j v hv=>(ZP (w:=w) (a:=⟨b,j,none⟩) e).trans (h.cl j v hv)⟩;have:=h.fz j;unfold World.frozen? at this ⊢;rw [e];exact this
def UI (w:World) (v:Value) (xs:List Int):Prop:=∃g lo cp pre,v=.slice (some ⟨g,lo,none⟩) xs.length cp∧pre.length=lo∧Own .u8 5 w 0 (.slice (some ⟨g,0,none⟩) (lo+xs.length) (lo+cp)) (pre++xs)
theorem UI.below (h:UI w v xs) (hb:Zi w w'):UI w' v xs:=by
 obtain ⟨g,lo,cp,pre,h1,h2,h3⟩:=h;exact ⟨g,lo,cp,pre,h1,h2,Own.below h3 hb⟩
theorem UI.kept (h:UI w v xs) (hg:w.grownBy w' row) (hne:v.ownBlock=none∨v.ownBlock≠row):UI w' v xs:=by
 obtain ⟨g,lo,cp,pre,rfl,h2,h3⟩:=h;exact ⟨g,lo,cp,pre,rfl,h2,Zn h3 hg (.inr (hne.resolve_left (by simp [Value.ownBlock])))⟩
theorem UI.setAt (h:UI w v xs) (hne:v.ownBlock=none∨v.ownBlock≠some g):UI (w.setCell ⟨g,j,none⟩ u) v xs:=by
 obtain ⟨q,lo,cp,pre,rfl,h2,h3⟩:=h;exact ⟨q,lo,cp,pre,rfl,h2,Own.setAt h3 (.inr (hne.resolve_left (by simp [Value.ownBlock])))⟩
theorem UI.lt (h:UI w v xs) (k:Nat) (e:v.ownBlock=some k):0≤k∧k<w.heap.size:=by
 obtain ⟨g,lo,cp,pre,rfl,h2,h3⟩:=h;exact ZT h3 k e
theorem UI.rd (h:UI w v xs):Rd .u8 w v xs:=by
 obtain ⟨g,lo,cp,pre,rfl,h2,h3⟩:=h;obtain ⟨ao,c,e,r1,r2,r3⟩:=h3.rd
 simp only [ZZ,ZC] at e r1
 obtain ⟨rfl,-,rfl⟩:=e;refine ⟨_,cp,rfl,by omega,by omega,?_⟩
 rcases r3 with r3 | ⟨b,o',e2,hb,hc⟩
 · exact .inl (List.append_eq_nil_iff.1 r3).2
 simp only [ZK,Ym,VB] at e2
 obtain ⟨rfl,rfl⟩:=e2;refine .inr ⟨_,_,rfl,hb,fun i hi=>?_⟩;have:=hc (lo+i) (by simp only [ZZ];omega);rw [Za] at this;rw [this]
 simp [List.getD,Zv (show pre.length≤lo+i by omega),h2]
def yG (κ:Sc) (σ:Sx) (vt vq:Value) (cp:Nat):List Value :=
 [vt,.int .i64 (σ.zf:Int),vq,.int .i64 (σ.zq:Int),.chan (some κ.c),.int .i64 (σ.ql:Int),.int .i64 σ.g,.int .i64 σ.b,.int .i64 σ.s,.int .i64 σ.l,.int .i64 σ.r,.slice (some ⟨κ.lb,κ.lo+(if σ.off=cp then 0 else σ.off),none⟩) (σ.full.length - σ.off) (cp - σ.off),
  .pointer (σ.sn.map fun p=>⟨p.1,0,none⟩),.bool false]
def tB (w:World) (p:Nat × Nat × Nat) (em:Bool):Prop:=p.1<w.heap.size∧(em=false→w.heap[p.1]?=some (.cells #[.int .i64 (p.2.1:Int),.int .i64 (p.2.2:Int),.string ⟨#[]⟩,.slice none 0 0] 186 (0,0)))
theorem tB.lt (h:tB w p em):p.1<w.heap.size:=h.1
theorem tB.same (h:tB w p em) (e:w'.heap[p.1]?=w.heap[p.1]?):tB w' p em:=by
 refine ⟨?_,fun h9=>e.trans (h.2 h9)⟩;rw [Xj h.1] at e;exact (Z3.mp e).1
def nj:Option Nat→Value
 | none=>.slice none 0 0
 | some g=>.slice (some ⟨g,0,none⟩) 0 1
def ni (κ:Sc) (pw:Option Nat) (w:World):Prop:=∀g,pw=some g→w.heap[g]?=some (.cells #[.int .i64 0,.slice none 0 0] 132 (0,0))∧κ.sB<g∧g≠κ.mB∧g≠κ.c∧g≠κ.lb∧g ∉ κ.X
theorem ni.keep {κ:Sc} {pw:Option Nat} (h:ni κ pw w) (hb:∀g,g<w.heap.size→κ.sB<g→g≠κ.mB→g≠κ.c→g≠κ.lb→g ∉ κ.X→w.heap[g]?=some (.cells #[.int .i64 0,.slice none 0 0] 132 (0,0))→w'.heap[g]?=w.heap[g]?):ni κ pw w':=fun g hg =>
 let ⟨h1,h2,h3,h4,h5,h6⟩:=h g hg
 ⟨(hb g (Z3.mp h1).1 h2 h3 h4 h5 h6 h1).trans h1,h2,h3,h4,h5,h6⟩
theorem ni.none {κ:Sc} :ni κ none w:=fun g hg=>by cases hg
structure Sv (κ:Sc) (σ:Sx) (w:World):Prop where
 ne:κ.sB≠κ.mB∧κ.sB≠κ.c∧κ.sB≠κ.lb∧κ.mB≠κ.c∧κ.mB≠κ.lb∧κ.c≠κ.lb
 fx:∀x ∈ κ.X,x<w.heap.size∧x≠κ.sB∧x≠κ.mB∧x≠κ.c∧x≠κ.lb
 dk:∃vd made YL,St w κ.sB (Hp (.pointer (some ⟨κ.mB,0,none⟩)) κ.S κ.L vd (nj σ.pw) made)∧Own .u8 5 w (κ.sB+1) vd YL∧YL.length≤1048576∧(0≤made∧made≤(σ.k:Int))∧Pg κ vd
 mm:∃vt vq cp,St w κ.mB (yG κ σ vt vq cp)∧SK w vt σ.T∧SK w vq σ.Q∧PU vq∧Pg κ vt∧Pg κ vq∧UI w (.slice (some ⟨κ.lb,κ.lo,none⟩) σ.full.length cp) σ.full∧κ.L*64≤(cp:Int)
 ch:∃Lv s r,w.heap[κ.c]?=some (.chan κ.cap Lv.toArray false s r false)∧kf w Lv σ.fs∧∀i,i<Lv.length→Pg κ (Lv.getD i undef)
 sn:∀p,σ.sn=some p→tB w p σ.em∧κ.sB<p.1∧p.1≠κ.mB∧p.1≠κ.c∧p.1≠κ.lb∧p.1 ∉ κ.X
 pw:ni κ σ.pw w
theorem Sv.below {κ:Sc} {σ:Sx} (h:Sv κ σ w) (hb:Zi w w'):Sv κ σ w':=by
 obtain ⟨vd,made,YL,a1,a2,a3,a4,a5⟩:=h.dk;obtain ⟨vt,vq,cp,b1,b2,b3,b4,b5,b6,b7,b8⟩:=h.mm;obtain ⟨Lv,s,r,c1,c2,c3⟩:=h.ch;refine ⟨h.ne,fun x hx=>⟨ZY (h.fx x hx).1 hb.size,(h.fx x hx).2⟩,⟨vd,made,YL,a1.below hb,a2.below hb,a3,a4,a5⟩,⟨vt,vq,cp,b1.below hb,b2.below hb,b3.below hb,b4,b5,b6,b7.below hb,b8⟩,⟨Lv,s,r,(hb.block _ (Z3.mp c1).1).trans c1,⟨c2.1,fun i hi=>⟨(c2.2 i hi).1.below hb,(c2.2 i hi).2⟩⟩,c3⟩,fun p hp=>⟨(h.sn p hp).1.same (hb.block _ (h.sn p hp).1.lt),(h.sn p hp).2⟩,h.pw.keep (fun g hl _ _ _ _ _ _=>hb.block g hl)⟩
theorem Sv.re {κ:Sc} {σ σ':Sx} (h:Sv κ σ w) (hg:Gs κ w w') (hk:σ.k=σ'.k) (hS:w'.heap[κ.sB]?=w.heap[κ.sB]?) (hn:σ'.sn=σ.sn)
    (hm:∀vt vq cp,St w κ.mB (yG κ σ vt vq cp)→SK w' vt σ.T→SK w' vq σ.Q→PU vq→Pg κ vt→Pg κ vq→UI w (.slice (some ⟨κ.lb,κ.lo,none⟩) σ.full.length cp) σ.full→κ.L*64≤(cp:Int) →
     ∃iU ke cp',St w' κ.mB (yG κ σ' iU ke cp')∧SK w' iU σ'.T∧SK w' ke σ'.Q∧PU ke∧Pg κ iU∧Pg κ ke∧UI w' (.slice (some ⟨κ.lb,κ.lo,none⟩) σ'.full.length cp') σ'.full∧κ.L*64≤(cp':Int))
    (hc:∀Lv s r,w.heap[κ.c]?=some (.chan κ.cap Lv.toArray false s r false)→kf w' Lv σ.fs→(∀i,i<Lv.length→Pg κ (Lv.getD i undef))→∃lA s' r',w'.heap[κ.c]?=some (.chan κ.cap lA.toArray false s' r' false)∧kf w' lA σ'.fs∧∀i,i<lA.length→Pg κ (lA.getD i undef)) (he:σ'.em=σ.em:=by rfl) (hpw:σ'.pw=σ.pw:=by rfl):Sv κ σ' w':=by
 obtain ⟨vd,made,YL,a1,a2,a3,a4,a5⟩:=h.dk;obtain ⟨vt,vq,cp,b1,b2,b3,b4,b5,b6,b7,b8⟩:=h.mm;obtain ⟨Lv,s,r,c1,c2,c3⟩:=h.ch;have Mu:∀v,Pg κ v→∀q,v.ownBlock=some q→q<w.heap.size→w'.heap[q]?=w.heap[q]?:=fun v hv q hq hl=>hg.block q hl (hv q hq).1 (hv q hq).2.1 (hv q hq).2.2.1 (hv q hq).2.2.2.1
 refine ⟨h.ne,fun x hx=>⟨ZY (h.fx x hx).1 hg.size,(h.fx x hx).2⟩,⟨vd,made,YL,by rw [hpw];exact Wo a1 hg.size hS,?_,a3,by rw [←hk];exact a4,a5⟩,hm vt vq cp b1 (VM b2 hg.size (Mu vt b5)) (VM b3 hg.size (Mu vq b6)) b4 b5 b6 b7 b8,hc Lv s r c1 ⟨c2.1,fun i hi=>⟨Rg (c2.2 i hi).1 hg.size (Mu _ (c3 i hi)),(c2.2 i hi).2⟩⟩ c3,fun p hp=>?_,by rw [hpw];exact h.pw.keep (fun g hl h1 h2 h3 h4 _ _=>hg.block g hl (by omega) h2 h3 h4)⟩
 · refine ⟨a2.1,a2.2.imp id ?_⟩
   rintro ⟨q,cap,cur,rfl,e1,e2,e3⟩;exact ⟨q,cap,cur,rfl,e1,(Mu _ a5 q rfl (Z3.1 e2).1).trans e2,e3⟩
 rw [hn] at hp;obtain ⟨p1,p2,p3,p4,p5⟩:=h.sn p hp;rw [he];exact ⟨p1.same (hg.block _ p1.lt (Q2 p2) p3 p4 p5.1),p2,p3,p4,p5⟩
structure Gw (κ:Sc) (w w':World):Prop where
 os:w'.os=w.os
 tape:w'.tape=w.tape
 output:w'.output=w.output
 size:w.heap.size≤w'.heap.size
 block:∀q,q<w.heap.size→q≠κ.sB→q≠κ.mB→q≠κ.c→q≠κ.lb→(κ.sB<q→w.cell? ⟨q,3,none⟩≠some (.slice none 0 0))→(κ.sB<q→w.cell? ⟨q,1,none⟩≠some (.slice none 0 0))→w'.heap[q]?=w.heap[q]?
theorem Gs.gw {κ:Sc} (h:Gs κ w w'):Gw κ w w':=⟨h.os,h.tape,h.output,h.size,fun q hq a b c d _ _=>h.block q hq a b c d⟩
theorem Gw.trans {κ:Sc} (h:Gw κ w w1) (h':Gw κ w1 w2):Gw κ w w2 :=
 ⟨h'.os.trans h.os,h'.tape.trans h.tape,h'.output.trans h.output,ZJ h.size h'.size,fun q hq a b c d e e2 =>
  have e1:=h.block q hq a b c d e e2
  (h'.block q (ZY hq h.size) a b c d (by rw [ZP (w:=w) (a:=⟨q,3,none⟩) e1];exact e) (by rw [ZP (w:=w) (a:=⟨q,1,none⟩) e1];exact e2)).trans e1⟩
theorem Gw.low {κ:Sc} (h:Gw κ w w') (hn:n≤κ.sB) (hw:n≤w.heap.size):Below n w w':=by
 obtain ⟨u1,u2,u3⟩:=κ.up;exact ⟨h.os,h.tape,h.output,h.size,fun q hq=>h.block q (by omega) (by omega) (by omega) (by omega) (by omega) (fun e=>absurd e (by omega)) (fun e=>absurd e (by omega))⟩
end
section
open Go.RowKit Go.Shelf
variable {ops:Array Oper} {buf:Array Value} {cl em tm:Bool} {C9 L S:Int} {D xs ys:List Int} {ns:List Nd} {B Bd Bs N b base blk c cap g i id j k n o r s sB:Nat} {p:Nat × Nat × Nat} {r0 row:Option Nat} {e:TypeId} {P u v v0 v1 v2 vt x y:Value} {W W' w w' w0 w1 w2:World}
def Ul (w:World) (base:Nat) (v:Value) (xs:List Int):Prop :=
 ∃g cap,v=.slice (some ⟨g,0,none⟩) xs.length cap∧base≤g∧g<w.heap.size∧xs.length≤cap∧cap≤maxLen∧w.rangeAt g 0 (xs.map (Value.int .u8))∧w.there g 0 cap
theorem Qu :∀(vs:List Value) (o:Nat) (W:World),w.grownBy W (some g)→w.grownBy (W.setCells g o vs) (some g)
 | [],_,_,h=>h
 | v :: r,o,W,h=>Qu r (o+1) _ (grownBy_set w W g o v h)
theorem zl {A B:List Value} (h1:W.rangeAt g 0 A) (h2:W.rangeAt g A.length B):W.rangeAt g 0 (A++B):=by
 intro j v hj
 rcases Sz j A.length with h | h
 · rw [Zy h] at hj;exact h1 j v hj
 rw [Zv h] at hj;have:=h2 (j - A.length) v hj;rw [Za]
 rwa [show A.length+(j - A.length)=j by omega] at this
theorem EP {T:Array Value} (hb:base≤w.heap.size) (hc:xs.length≤cap) (hm:cap≤maxLen) (hT:(((xs.map (Value.int .u8)).toArray++T).size=cap)) :
    Ul (w.alloc (.cells ((xs.map (Value.int .u8)).toArray++T) 5)) base (.slice (some ⟨w.heap.size,0,none⟩) xs.length cap) xs:=by
 refine ⟨_,cap,rfl,hb,by simp,hc,hm,?_,Vn w _ _ _ hT⟩;intro j v hj;rw [Za,Yz _ w.heap.size j _ _ _ (Zs w _),Array.getElem?_append];have:=(Zh.1 hj).1;rw [Z0 (by simpa using this)]
 simpa using hj
section
variable (w:World)
theorem ka (h:Ul w base v xs) (hb:base≤w.heap.size) (x:Value) (u ty:TypeId) (hl:xs.length+ys.length≤1048576)
    (room:∀g cap,v=.slice (some ⟨g,0,none⟩) xs.length cap→xs.length+ys.length≤cap→∀W',(storeCells ⟨g,xs.length,none⟩ (ys.map (Value.int .u8)) 0).run Tryz.prog w=.ok () W'→(Builtin.append_ #[22,u] ty #[v,x]).run Tryz.prog w=.ok (.slice (some ⟨g,0,none⟩) (xs.length+ys.length) cap) W')
    (grow:∀g cap,v=.slice (some ⟨g,0,none⟩) xs.length cap→cap<xs.length+ys.length→(∀j c,(xs.map (Value.int .u8))[j]?=some c→w.cell? ((⟨g,0,none⟩:Addr).add j)=some c)→(Builtin.append_ #[22,u] ty #[v,x]).run Tryz.prog w=.ok (.slice (some ⟨w.heap.size,0,none⟩) (xs.length+ys.length) (grownCap w (xs.length+ys.length) cap 5)) (w.drew.alloc (.cells ((xs.map (Value.int .u8)).toArray++(ys.map (Value.int .u8)).toArray++Builtin.zeroCells (Value.int .u8 0).cells (grownCap w (xs.length+ys.length) cap 5 - (xs.length+ys.length))) 5))) :
    ∃v' w',(Builtin.append_ #[22,u] ty #[v,x]).run Tryz.prog w=.ok v' w'∧Ul w' base v' (xs++ys)∧w.grownBy w' v.ownBlock:=by
 obtain ⟨g,cap,rfl,hbg,hg,hc,hm,hr,ht⟩:=h
 by_cases hroom:xs.length+ys.length≤cap
 · have h1:=run_storeCells_cells (P:=Tryz.prog) g xs.length (ys.map (Value.int .u8)) 0 w (fun j hj=>by have:=(ht (xs.length+j) (by simp at hj;omega)).1;simpa using this) (fun j hj=>by have:=(ht (xs.length+j) (by simp at hj;omega)).2;simpa using this) (Yi _ _)
   refine ⟨_,_,room g cap rfl hroom _ h1,?_,Qu _ _ _ (Zz _ _)⟩;refine ⟨g,cap,by rw [ZZ],hbg,ZY hg (Qu _ _ _ (Zz w (some g))).size,by rw [ZZ];exact hroom,hm,?_,World.there_setCells ht _ _ _⟩;rw [Y6];refine zl (U3 hr _ _ _ (.inr (.inl (by simp)))) ?_;rw [Zl];exact Yf _ _ _ _ (fun j hj=>by have:=ht (xs.length+j) (by simp at hj;omega);simpa using this)
 have hge:=Tq w (xs.length+ys.length) cap 5;have hcm:grownCap w (xs.length+ys.length) cap 5≤maxLen:=We w _ _ _ (by unfold maxLen;omega);refine ⟨_,_,grow g cap rfl (by omega) (fun j c hj=>by have:=hr j c hj;rw [YY];exact this),?_,⟨rfl,rfl,rfl,by simp,fun k hk _=>Below.heap_alloc w.drew _ k hk⟩⟩;have e:=EP (w:=w.drew) (base:=base) (cap:=grownCap w (xs.length+ys.length) cap 5) (xs:=xs++ys) (T:=Builtin.zeroCells (Value.int .u8 0).cells (grownCap w (xs.length+ys.length) cap 5 - (xs.length+ys.length))) hb (by rw [ZZ];exact hge) hcm (by simp [TO,Value.cells];omega);rw [Y6,ZZ] at e
 simpa using e
theorem vy (s:ByteArray) (ty:TypeId) (h:Ul w base v xs) (hb:base≤w.heap.size) (hl:xs.length+s.size≤1048576) :
    ∃v' w',(Builtin.append_ #[22,9] ty #[v,.string s]).run Tryz.prog w=.ok v' w'∧Ul w' base v' (xs++U0 s)∧w.grownBy w' v.ownBlock:=by
 obtain ⟨i0,hi,hz0,hz1,hz2⟩:=YN Tryz.QZ;have hn:(U0 s).length=s.size:=Wq s;refine ka w h hb (.string s) 9 ty (by omega) ?_ ?_
 · rintro g cap rfl hroom W' hst
   have hf:=Lib.run_firstCells_string (P:=Tryz.prog) w 1 s;rw [←Qb] at hst;rw [hn] at hroom ⊢
   simp [Builtin.append_,Ya Tryz.underlying22,Ya Tryz.underlying9,sizeOf,typeInfo,hi,hz1,Builtin.lenOf,hroom,hf,YY,hst]
 rintro g cap rfl hg ho;rw [hn] at hg ⊢;rw [←Qb];exact UE (P:=Tryz.prog) w 22 9 ty 5 i0 (.int .u8 0) Tryz.underlying22 Tryz.underlying9 hi hz0 ⟨g,0,none⟩ xs.length cap (xs.map (Value.int .u8)) (by rw [hz1,Zl,Yr]) ho s hg (by omega) (by rw [hz2];exact U2 (by omega) (by omega))
theorem vw (a:Addr) (c:Nat) (ty:TypeId) (h:Ul w base v xs) (hb:base≤w.heap.size) (hl:xs.length+ys.length≤1048576) (hy:∀j u,(ys.map (Value.int .u8))[j]?=some u→w.cell? (a.add j)=some u) :
    ∃v' w',(Builtin.append_ #[22,22] ty #[v,.slice (some a) ys.length c]).run Tryz.prog w=.ok v' w'∧Ul w' base v' (xs++ys)∧w.grownBy w' v.ownBlock:=by
 obtain ⟨i0,hi,hz0,hz1,hz2⟩:=YN Tryz.QZ;refine ka w h hb (.slice (some a) ys.length c) 22 ty hl ?_ ?_
 · rintro g cap rfl hroom W' hst
   have hf:=Vt (P:=Tryz.prog) w 1 ys.length a ys.length c (ys.map (Value.int .u8)) (by simp) hy
   simp [Builtin.append_,Ya Tryz.underlying22,sizeOf,typeInfo,hi,hz1,Builtin.lenOf,hroom,hf,YY,hst]
 rintro g cap rfl hg ho;exact run_append_grow (P:=Tryz.prog) w 22 ty 5 i0 (.int .u8 0) Tryz.underlying22 hi hz0 ⟨g,0,none⟩ xs.length cap (xs.map (Value.int .u8)) (by rw [hz1,Zl,Yr]) ho a ys.length c (ys.map (Value.int .u8)) (by rw [hz1,Zl,Yr]) hy hg (by omega) (by rw [hz2];exact U2 (by omega) (by omega))
end
end
section
open Go.Shelf
variable {ops:Array Oper} {buf:Array Value} {cl em tm:Bool} {C9 L S:Int} {D xs ys:List Int} {ns:List Nd} {B Bd Bs N b base blk c cap g i id j k n o r s sB:Nat} {p:Nat × Nat × Nat} {r0 row:Option Nat} {e:TypeId} {P u v v0 v1 v2 vt x y:Value} {W W' w w' w0 w1 w2:World}
def Tryz.L5:Go.Shelf.Ren:=⟨fun | 169=>120 | n=>n,fun | 70=>178 | 9=>9 | 0=>0 | 72=>180 | 37=>22 | 127=>236 | 3=>3 | 5=>5 | n=>n,fun | n=>n⟩
theorem Tryz.rj:Go.Proofs.Lays.n169 Tryz.prog Tryz.L5:={
 mixed:=by kernel_rfl
 f169:=Tryz.func120.trans (ZM some (by kernel_rfl))
 t0:=Tryz.underlying0
 a0:=Tryz.isAgg0
 z0:=Tryz.sizeOf0
 v0:=Tryz.zeroValue0
 t3:=Tryz.underlying3
 a3:=Tryz.isAgg3
 z3:=Tryz.sizeOf3
 v3:=Tryz.zeroValue3
 t9:=Tryz.underlying9
 a9:=Tryz.isAgg9
 z9:=Tryz.sizeOf9
 v9:=Tryz.zeroValue9
 t37:=Tryz.underlying22
 a37:=Tryz.isAgg22
 z37:=Tryz.sizeOf22
 v37:=Tryz.zeroValue22
 t70:=Tryz.underlying178
 a70:=Tryz.isAgg178
 z70:=Tryz.sizeOf178
 v70:=Tryz.zeroValue178
 t72:=Tryz.underlying180
 a72:=Tryz.isAgg180
 z72:=Tryz.sizeOf180
 v72:=Tryz.zeroValue180
 t127:=Tryz.underlying236
 a127:=Tryz.isAgg236
 z127:=Tryz.sizeOf236
 v127:=Tryz.zeroValue236 }
theorem Tryz.M5:Builder.Extra Tryz.prog Tryz.L5:={
 sizeBuilder:=by kernel_rfl
 liesBuilder:=by kernel_rfl
 t5:=Tryz.underlying5
 a5:=Tryz.isAgg5
 z5:=Tryz.sizeOf5
 v5:=Tryz.zeroValue5
 infoByte:=by kernel_rfl
 cellsByte:=by kernel_rfl
 sizeByte:=by kernel_rfl
 neB5:=by decide }
open Go.RowKit in
theorem Tryz.Builder_String_empty (B b:Nat) (w:World) (h:Lib.IsBuilder 180 5 B b [] w) (hBw:B≤w.heap.size) :
    Calls Tryz.prog 120 #[.pointer (some ⟨b,0,none⟩)] w fun e w'=>e=.returned (.string ⟨#[]⟩)∧Below B w w':=Any.Builder_String_empty Tryz.rj Tryz.M5 B b w h hBw
def Tryz.Hk:Go.Shelf.Ren:=⟨fun | 176=>111 | 249=>153 | 288=>190 | 283=>216 | 284=>217 | 285=>218 | 286=>219 | 129=>241 | 317=>240 | 318=>242 | 319=>243 | 320=>244 | 337=>263 | 338=>264 | n=>n,fun | 37=>22 | 2=>2 | 3=>3 | 53=>273 | 4=>4 | 9=>9 | 171=>313 | 0=>0 | 173=>316 | 212=>340 | 51=>150 | 5=>5 | 20=>20 | 213=>341 | 46=>151 | 232=>377 | 233=>116 | n=>n,fun | 17=>6 | 18=>9 | 19=>10 | n=>n⟩
theorem Tryz.Kn:Go.Proofs.LaysM.n176 Tryz.prog Tryz.Hk:={
 mixed:=by kernel_rfl
 f129:=Tryz.func241.trans (ZM some (by kernel_rfl))
 f176:=Tryz.func111.trans (ZM some (by kernel_rfl))
 f249:=Tryz.func153.trans (ZM some (by kernel_rfl))
 f283:=Tryz.func216.trans (ZM some (by kernel_rfl))
 f284:=Tryz.func217.trans (ZM some (by kernel_rfl))
 f285:=Tryz.func218.trans (ZM some (by kernel_rfl))
 f286:=Tryz.func219.trans (ZM some (by kernel_rfl))
 f288:=Tryz.func190.trans (ZM some (by kernel_rfl))
 f317:=Tryz.func240.trans (ZM some (by kernel_rfl))
 f318:=Tryz.func242.trans (ZM some (by kernel_rfl))
 f319:=Tryz.func243.trans (ZM some (by kernel_rfl))
 f320:=Tryz.func244.trans (ZM some (by kernel_rfl))
 f337:=Tryz.func263.trans (ZM some (by kernel_rfl))
 f338:=Tryz.func264.trans (ZM some (by kernel_rfl))
 t0:=Tryz.underlying0
 a0:=Tryz.isAgg0
 z0:=Tryz.sizeOf0
 v0:=Tryz.zeroValue0
 t2:=Tryz.underlying2
 a2:=Tryz.isAgg2
 z2:=Tryz.sizeOf2
 v2:=Tryz.zeroValue2
 t3:=Tryz.underlying3
 a3:=Tryz.isAgg3
 z3:=Tryz.sizeOf3
 v3:=Tryz.zeroValue3
 t4:=Tryz.underlying4
 a4:=Tryz.isAgg4
 z4:=Tryz.sizeOf4
 v4:=Tryz.zeroValue4
 t5:=Tryz.underlying5
 a5:=Tryz.isAgg5
 z5:=Tryz.sizeOf5
 v5:=Tryz.zeroValue5
 t9:=Tryz.underlying9
 a9:=Tryz.isAgg9
 z9:=Tryz.sizeOf9
 v9:=Tryz.zeroValue9
 t20:=Tryz.underlying20
 a20:=Tryz.isAgg20
 z20:=Tryz.sizeOf20
 v20:=Tryz.zeroValue20
 t37:=Tryz.underlying22
 a37:=Tryz.isAgg22
 z37:=Tryz.sizeOf22
 v37:=Tryz.zeroValue22
 t46:=Tryz.underlying151
 a46:=Tryz.isAgg151
 z46:=Tryz.sizeOf151
 v46:=Tryz.zeroValue151
 t51:=Tryz.underlying150
 a51:=Tryz.isAgg150
 z51:=Tryz.sizeOf150
 v51:=Tryz.zeroValue150
 t53:=Tryz.underlying273
 a53:=Tryz.isAgg273
 z53:=Tryz.sizeOf273
 v53:=Tryz.zeroValue273
 t171:=Tryz.underlying313
 a171:=Tryz.isAgg313
 z171:=Tryz.sizeOf313
 v171:=Tryz.zeroValue313
 t173:=Tryz.underlying316
 a173:=Tryz.isAgg316
 z173:=Tryz.sizeOf316
 v173:=Tryz.zeroValue316
 t212:=Tryz.underlying340
 a212:=Tryz.isAgg340
 z212:=Tryz.sizeOf340
 v212:=Tryz.zeroValue340
 t213:=Tryz.underlying341
 a213:=Tryz.isAgg341
 z213:=Tryz.sizeOf341
 t232:=Tryz.underlying377
 a232:=Tryz.isAgg377
 z232:=Tryz.sizeOf377
 v232:=Tryz.zeroValue377
 t233:=Tryz.underlying116
 a233:=Tryz.isAgg116
 z233:=Tryz.sizeOf116
 v233:=Tryz.zeroValue116
 g17:=by kernel_rfl
 g18:=by kernel_rfl
 g19:=by kernel_rfl
 i0:=by kernel_rfl
 i2:=by kernel_rfl
 i3:=by kernel_rfl
 i4:=by kernel_rfl
 i5:=by kernel_rfl
 i9:=by kernel_rfl
 i20:=by kernel_rfl
 i37:=by kernel_rfl
 i46:=by kernel_rfl
 i51:=by kernel_rfl
 i53:=by kernel_rfl
 i171:=by kernel_rfl
 i173:=by kernel_rfl
 i212:=by kernel_rfl
 i232:=by kernel_rfl
 i233:=by kernel_rfl
 m17:=by kernel_rfl
 m18:=by kernel_rfl
 m19:=by kernel_rfl }
def Tryz.JN:Go.Shelf.Ren:=⟨fun | 140=>13 | 117=>27 | 115=>68 | n=>n,fun | 37=>22 | 4=>4 | 3=>3 | 9=>9 | 5=>5 | n=>n,fun | n=>n⟩
theorem Tryz.zk:Go.Proofs.Lays.nb140 Tryz.prog Tryz.JN:={
 mixed:=by kernel_rfl
 f115:=Tryz.func68.trans (ZM some (by kernel_rfl))
 f117:=Tryz.func27.trans (ZM some (by kernel_rfl))
 f140:=Tryz.func13.trans (ZM some (by kernel_rfl))
 t3:=Tryz.underlying3
 a3:=Tryz.isAgg3
 z3:=Tryz.sizeOf3
 v3:=Tryz.zeroValue3
 t4:=Tryz.underlying4
 a4:=Tryz.isAgg4
 z4:=Tryz.sizeOf4
 v4:=Tryz.zeroValue4
 t9:=Tryz.underlying9
 a9:=Tryz.isAgg9
 z9:=Tryz.sizeOf9
 v9:=Tryz.zeroValue9
 t37:=Tryz.underlying22
 a37:=Tryz.isAgg22
 z37:=Tryz.sizeOf22
 v37:=Tryz.zeroValue22
 t5:=Tryz.underlying5
 a5:=Tryz.isAgg5
 z5:=Tryz.sizeOf5
 v5:=Tryz.zeroValue5 }
theorem Tryz.bytes_TrimSuffix (b1 o1 n c b2 o2 m d:Nat) (xs ys:List Int) (w:World) (hx:xs.length=n) (hy:ys.length=m) (hnc:n≤c) (hbig:n≤9223372036854775807) (hc1:∀i,i<n→w.cell? ⟨b1,o1+i,none⟩=some (.int .u8 (xs.getD i 0))) (hc2:∀i,i<m→w.cell? ⟨b2,o2+i,none⟩=some (.int .u8 (ys.getD i 0))) :
    Calls Tryz.prog 13 #[.slice (some ⟨b1,o1,none⟩) n c,.slice (some ⟨b2,o2,none⟩) m d] w fun e w'=>e=.returned (Lib.bytesTrimSuffix b1 o1 n c xs ys)∧w'=w:=Any.bytes_TrimSuffix Tryz.zk b1 o1 n c b2 o2 m d xs ys w hx hy hnc hbig hc1 hc2
def Tryz.EO:Go.Shelf.Ren:=⟨fun | 187=>22 | 255=>54 | n=>n,fun | 37=>22 | 5=>5 | 3=>3 | n=>n,fun | n=>n⟩
theorem Tryz.ri:Go.Proofs.Lays.n187 Tryz.prog Tryz.EO:={
 mixed:=by kernel_rfl
 f187:=Tryz.func22.trans (ZM some (by kernel_rfl))
 f255:=Tryz.func54.trans (ZM some (by kernel_rfl))
 t3:=Tryz.underlying3
 a3:=Tryz.isAgg3
 z3:=Tryz.sizeOf3
 v3:=Tryz.zeroValue3
 t5:=Tryz.underlying5
 a5:=Tryz.isAgg5
 z5:=Tryz.sizeOf5
 v5:=Tryz.zeroValue5
 t37:=Tryz.underlying22
 a37:=Tryz.isAgg22
 z37:=Tryz.sizeOf22
 v37:=Tryz.zeroValue22 }
theorem Tryz.bytes_IndexByte (b o n c:Nat) (xs:List Int) (cv:Int) (w:World) (hx:xs.length=n) (hc:∀i,i<n→w.cell? ⟨b,o+i,none⟩=some (.int .u8 (xs.getD i 0))) :
    Calls Tryz.prog 22 #[.slice (some ⟨b,o,none⟩) n c,.int .u8 cv] w fun e w'=>e=.returned (.int .i64 (Lib.indexByte (Lib.bytesOf xs) cv.toNat.toUInt8))∧w'=w:=Any.bytes_IndexByte Tryz.ri b o n c xs cv w hx hc
end
section
open Go.RowKit Go.Shelf
variable {ops:Array Oper} {buf:Array Value} {cl em tm:Bool} {C9 L S:Int} {D xs ys:List Int} {ns:List Nd} {B Bd Bs N b base blk c cap g i id j k n o r s sB:Nat} {p:Nat × Nat × Nat} {r0 row:Option Nat} {e:TypeId} {P u v v0 v1 v2 vt x y:Value} {W W' w w' w0 w1 w2:World}
section
variable {P:Program} {w:World} {ops:Array Oper} {rest:List Oper} {o:Oper} {a:Act} {Q:Exit→Act→World→Prop}
theorem Rr (hgd:o.guard=none) (sl x:Operand) (ho:o.op=.call { callee:=.builtin .append,args:=#[sl,x],argTypes:=#[22,9] }) (base:Nat) (v:Value) (xs:List Int) (s:ByteArray) (hs:a.eval sl=v) (hx:a.eval x=.string s) (h:Ul w base v xs) (hb:base≤w.heap.size) (hl:xs.length+s.size≤1048576)
    (hk:∀v' w',Ul w' base v' (xs++U0 s)→w.grownBy w' v.ownBlock→wpList Tryz.prog ops Q rest (a.put o.dst v') w'):wpList Tryz.prog ops Q (o :: rest) a w:=by
 refine TZ hgd fun K hK=>?_
 obtain ⟨v',w',hr,h2,h3⟩:=vy w s o.type h hb hl;unfold Oper.wp execOp
 simp only [ho,resolve,invoke,builtin,XX,Ww,XH,WL,Yl,WO,hs,hx,hr]
 exact hK _ _ (hk v' w' h2 h3)
theorem PT (hgd:o.guard=none) (sl x:Operand) (ho:o.op=.call { callee:=.builtin .append,args:=#[sl,x],argTypes:=#[22,22] }) (base:Nat) (v:Value) (xs ys:List Int) (ad:Addr) (n c:Nat) (hn:ys.length=n) (hs:a.eval sl=v) (hx:a.eval x=.slice (some ad) n c) (h:Ul w base v xs) (hb:base≤w.heap.size) (hl:xs.length+ys.length≤1048576) (hy:∀j u,(ys.map (Value.int .u8))[j]?=some u→w.cell? (ad.add j)=some u)
    (hk:∀v' w',Ul w' base v' (xs++ys)→w.grownBy w' v.ownBlock→wpList Tryz.prog ops Q rest (a.put o.dst v') w'):wpList Tryz.prog ops Q (o :: rest) a w:=by
 refine TZ hgd fun K hK=>?_
 subst hn;obtain ⟨v',w',hr,h2,h3⟩:=vw w ad c o.type h hb hl hy;unfold Oper.wp execOp
 simp only [ho,resolve,invoke,builtin,XX,Ww,XH,WL,Yl,WO,hs,hx,hr]
 exact hK _ _ (hk v' w' h2 h3)
end
theorem Ul.below (h:Ul w base v xs) (hb:Zi w w'):Ul w' base v xs:=by
 obtain ⟨g,cap,h1,h2,h3,h4,h5,h6,h7⟩:=h;refine ⟨g,cap,h1,h2,ZY h3 hb.size,h4,h5,fun j v hj=>(hb.cell (p:=⟨g,0+j,none⟩) h3).trans (h6 j v hj),fun j hj=>⟨?_,(hb.frozen (p:=⟨g,0+j,none⟩) h3).trans (h7 j hj).2⟩⟩;rw [hb.cell (p:=⟨g,0+j,none⟩) h3];exact (h7 j hj).1
theorem Ul.lt (h:Ul w base v xs):∀g,v.ownBlock=some g→base≤g:=by
 obtain ⟨g,cap,rfl,h2,h3,h4,h5,h6,h7⟩:=h;intro q hq
 simp only [Value.ownBlock,ZK] at hq
 omega
def QC (u:Nat):List Int:=(Lib.decDigits u).map fun b=>(b.toNat:Int)
theorem Km (u:Nat):(QC u).length=Lib.nDigits u:=by unfold QC;rw [Zl,Lib.decDigits_length]
theorem JM (w:World) (base:Nat) (v:Value) (xs:List Int) (u:Nat) (hu:u<100) (h:Ul w base v xs) (hb:base≤w.heap.size) (hl:xs.length≤1000000) :
    Calls Tryz.prog 190 #[v,.int .u64 u,.int .i64 10] w fun e w'=>∃v',e=.returned v'∧Ul w' base v' (xs++QC u)∧Below base w w':=by
 have hd:Lib.nDigits u≤2:=by
  rcases Sz u 10 with h10 | h10
  · rw [Lib.nDigits_small h10];omega
  rw [Lib.nDigits_big (by omega),Lib.nDigits_small (show u / 10<10 by omega)];omega
 have hsz:(⟨(Lib.decDigits u).toArray⟩:ByteArray).size≤2:=by
  show (Lib.decDigits u).toArray.size≤2;rw [ZI,Lib.decDigits_length];exact hd
 have es:U0 ⟨(Lib.decDigits u).toArray⟩=QC u:=by unfold U0 QC;simp
 have Yk:(u:Int)<100:=by omega
 have HO:=ZU h;have HS:=ZU (Any.internal_strconv_small { Tryz.Kn with } u hu w);clear h
 go_enter Tryz.func190,Tryz.ntmps190
 go_wp2_with fail
 refine HS.out.mono ?_;rintro e w' ⟨rfl,rfl⟩
 go_wp2_with (at_builtin;go_must (refine Rr rfl _ _ rfl base v xs ⟨(Lib.decDigits u).toArray⟩ rfl rfl HO.out hb (by omega) ?_))
 intro v2 w2 o2 g2;have O2:=ZU o2;have B2:=ZU ((Below.refl base w').grown g2 hb (HO.out.lt));clear o2 g2;go_wp2;go_ret;refine ⟨v2,rfl,?_,B2.out⟩;rw [←es];exact O2.out
theorem EN (w : World) (base : Nat) (v : Value) (xs : List Int) (u : Nat) (hu : 100 ≤ u) (hu2 : u < 1000000) (h : Ul w base v xs) (hb : base ≤ w.heap.size) (hl : xs.length ≤ 1000000) (htab : Lib.TabIs Tryz.prog w "internal/strconv.uint64pow10" .u64 Lib.pow10Tab) :
    Calls Tryz.prog 190 #[v,.int .u64 u,.int .i64 10] w fun e w'=>∃v',e=.returned v'∧Ul w' base v' (xs++QC u)∧Below base w w':=by
 have hnd:Lib.nDigits u≤20:=by have:=Lib.numDigits_eq u (by omega) (by omega);split at this <;> omega
 have hH0:=Lib.holds_zero0 w 313 (Lib.nDigits u) (by omega);have hfmt:=Any.internal_strconv_formatBase10 { Tryz.Kn with } w.heap.size 0 24 u (Array.replicate (Lib.nDigits u) 0) (w.alloc (.cells Lib.zeros24 313)) hH0 (by rw [Wz];exact Lib.lt_pow_nDigits u) (by omega) (by rw [Wz];omega);rw [Wz] at hfmt;have HF:=ZU hfmt;have HN:=ZU (Any.internal_strconv_numDigits { Tryz.Kn with } u (by omega) (by omega) _ (Lib.tabIs_alloc htab (.cells Lib.zeros24 313)));have HO:=ZU h;have iu:(100:Int)≤(u:Int):=by omega
 have YP:(Lib.nDigits u:Int)≤24:=by omega
 clear hfmt h
 go_enter Tryz.func190,Tryz.ntmps190
 go_wp2_with fail
 refine HN.out.mono ?_;rintro e w' ⟨rfl,rfl⟩;have YO:Lib.nDigits u≤24:=by omega
 go_wp2_with fail
 refine HF.out.mono ?_;rintro e w' ⟨rfl,k,v',dk,rfl,hF⟩;have HC:Hid (∀j c,((QC u).map (Value.int .u8))[j]?=some c→((Sort.putRow (fun (b:UInt8)=>Value.int .u8 (b.toNat:Int)) (w.alloc (.cells Lib.zeros24 313)) w.heap.size 0 dk).drewN k).cell? ((⟨w.heap.size,0,none⟩:Addr).add j)=some c):=by
  intro j c hj;have hjl:j<(Lib.decDigits u).length:=by
   have h5:=(Zh.1 hj).1;rw [Zl] at h5;unfold QC at h5
   rwa [Zl] at h5
  have e5:((QC u).map (Value.int .u8))[j]?=some (Value.int .u8 ((Lib.decDigits u)[j].toNat:Int)):=by unfold QC;simp [hjl]
  rw [e5] at hj
  cases hj
  rw [Lib.row_is_numeral hF j hjl,YY,World.cell?_drewN];exact Sort.cell?_putRow (fun (b:UInt8)=>Value.int .u8 (b.toNat:Int)) _ w.heap.size 0 _ dk hH0 (by rw [hF.size,Wz]) j (by rw [hF.size];rw [Lib.decDigits_length] at hjl;exact hjl)
 obtain ⟨os,eo⟩:=Lib.fin_at w (.cells Lib.zeros24 313) dk k 0;have hb2:Zi w ((Sort.putRow (fun (b:UInt8)=>Value.int .u8 (b.toNat:Int)) (w.alloc (.cells Lib.zeros24 313)) w.heap.size 0 dk).drewN k):=by rw [eo];exact Lib.below_grow w.heap.size w YR k os
 have O2:=ZU (HO.out.below hb2);have B2:=ZU hb2;clear eo hF HF HN htab hH0 hb2;generalize (Sort.putRow (fun (b:UInt8)=>Value.int .u8 (b.toNat:Int)) (w.alloc _) w.heap.size 0 dk).drewN k=W2 at *;have s2:=B2.out.size
 go_wp2_with (at_builtin;go_must (refine PT rfl _ _ rfl base v xs (QC u) ⟨w.heap.size,0,none⟩ (Lib.nDigits u) 24 (Km u) rfl rfl O2.out (by omega) (by rw [Km];omega) HC.out ?_))
 intro v3 w3 o3 g3;have O3:=ZU o3;have B3:=ZU ((B2.out.mono hb).trans ((Below.refl base W2).grown g3 (by omega) O2.out.lt));clear o3 g3;go_wp2;go_ret;exact ⟨v3,rfl,O3.out,B3.out⟩
theorem C6 (w : World) (base : Nat) (v : Value) (xs : List Int) (u : Nat) (hu2 : u < 1000000) (h : Ul w base v xs) (hb : base ≤ w.heap.size) (hl : xs.length ≤ 1000000) (htab : Lib.TabIs Tryz.prog w "internal/strconv.uint64pow10" .u64 Lib.pow10Tab) :
    Calls Tryz.prog 111 #[v,.int .i64 u,.int .i64 10] w fun e w'=>∃v',e=.returned v'∧Ul w' base v' (xs++QC u)∧Below base w w':=by
 have HU:Hid (Calls Tryz.prog 190 #[v,.int .u64 u,.int .i64 10] w fun e w'=>∃v',e=.returned v'∧Ul w' base v' (xs++QC u)∧Below base w w'):=by
  by_cases h1:u<100
  · exact JM w base v xs u h1 h hb hl
  exact EN w base v xs u (by omega) hu2 h hb hl htab
 have HI:Hid (Calls Tryz.prog 153 #[v,.int .i64 u,.int .i64 10] w fun e w'=>∃v',e=.returned v'∧Ul w' base v' (xs++QC u)∧Below base w w'):=by
  clear h htab;show Calls _ _ _ _ _
  go_enter Tryz.func153,Tryz.ntmps153
  go_wp2_with fail
  refine HU.out.mono ?_;rintro e w' ⟨v',rfl,h9⟩;have H9:=ZU h9;clear h9;go_wp2;go_ret;exact ⟨v',rfl,H9.out⟩
 clear h htab HU
 go_enter Tryz.func111,Tryz.ntmps111
 go_wp2_with fail
 refine HI.out.mono ?_;rintro e w' ⟨v',rfl,h9⟩;have H9:=ZU h9;clear h9;go_wp2;go_ret;exact ⟨v',rfl,H9.out⟩
theorem EL (w:World):Calls Tryz.prog 29 #[.nilIface] w (Wj w (.tuple #[.agg #[.slice none 0 0],.bool false])):=by
 go_enter Tryz.func29,Tryz.ntmps29
 go_wp2_with fail
 refine ZW (v:=.tuple #[.agg #[.slice none 0 0],.bool false]) (by simp [results,Tryz.results29,go_sem]) rfl ⟨rfl,?_⟩;exact Yy.alloc YR _
theorem zj (w:World) (p q:Value) :
    CallsD Tryz.prog 28 #[p,q] .returning w fun e u' w'=>e=.returned (.tuple #[])∧u'=.returning∧Zi w w':=by
 refine UA Tryz.func28 rfl fun c₀ cs hu=>?_
 refine wpS_seq ?_;apply TN
 simp [wpOpsS,go_sem,recoverD,hu,Tryz.ntmps28]
 refine (EL w).mono ?_;rintro e w1 ⟨rfl,b1⟩
 simp [go_sem]
 have B2:Zi w (w1.alloc (.cells #[.slice none 0 0] 79)):=b1.alloc b1.size _;refine wpS_seq ?_;apply TN
 simp [wpOpsS,go_sem]
 refine wpS_cond (t:=false) (by simp [go_sem]) ?_;refine wpS_of_wp ?_
 go_wp2_with fail
 cases c₀
 simp_all [bodyPostS,results,Tryz.results28]
end
section
open Go.RowKit Go.Conc
variable {ops:Array Oper} {buf:Array Value} {cl em tm:Bool} {C9 L S:Int} {D xs ys:List Int} {ns:List Nd} {B Bd Bs N b base blk c cap g i id j k n o r s sB:Nat} {p:Nat × Nat × Nat} {r0 row:Option Nat} {e:TypeId} {P u v v0 v1 v2 vt x y:Value} {W W' w w' w0 w1 w2:World}
theorem j9 {k:IntKind} (h:Rd k w v xs) (hs:w.heap.size≤w'.heap.size) (hc:∀p u,w.cell? p=some u→w'.cell? p=some u):Rd k w' v xs:=by
 obtain ⟨ao,cp,rfl,h1,h2,h3⟩:=h;refine ⟨ao,cp,rfl,h1,h2,h3.imp id ?_⟩;rintro ⟨b,off,rfl,hlt,hcl⟩;exact ⟨b,off,rfl,ZY hlt hs,fun i hi=>hc _ _ (hcl i hi)⟩
theorem vu (h:SK w v ns) (hs:w.heap.size≤w'.heap.size) (hc:∀p u,w.cell? p=some u→w'.cell? p=some u):SK w' v ns:=by
 obtain ⟨ao,cp,rfl,h1,h2,h3⟩:=h;refine ⟨ao,cp,rfl,h1,h2,h3.imp id ?_⟩;rintro ⟨b,off,rfl,hlt,hcl⟩;refine ⟨b,off,rfl,ZY hlt hs,fun i hi=>?_⟩;have h9:=hcl i hi;exact ⟨hc _ _ h9.c0,hc _ _ h9.c1,hc _ _ h9.c2,hc _ _ h9.c3,hc _ _ h9.c4,hc _ _ h9.c5,hc _ _ h9.c6⟩
theorem UI.VA (h:UI W v xs) (hg:W.grownBy W' row) (hr:∀r,row=some r→∃o:Obj,W.heap[r]?=some o∧o.isCells=false):UI W' v xs:=by
 obtain ⟨g,lo,cp,pre,h1,h2,h3⟩:=h;exact ⟨g,lo,cp,pre,h1,h2,VD h3 hg hr⟩
theorem nh (h:tB W p em) (hs:W.heap.size≤W'.heap.size) (hg:W.grownBy W' row) (hr:∀r,row=some r→r≠c∧∃o:Obj,W.heap[r]?=some o∧o.isCells=false):tB W' p em:=by
 refine ⟨ZY h.1 hs,fun h9=>?_⟩;have e:=h.2 h9;refine (hg.block _ h.1 (fun e9=>?_)).trans e;obtain ⟨-,o,ho,hc⟩:=hr _ e9.symm;rw [e] at ho
 injection ho with ho
 rw [←ho] at hc
 cases hc
theorem Sv.VA {κ:Sc} {σ:Sx} (h:Sv κ σ W) (hg:W.grownBy W' row) (hr:∀r,row=some r→r≠κ.c∧∃o:Obj,W.heap[r]?=some o∧o.isCells=false):Sv κ σ W':=by
 have hs:=hg.size;have hb:∀(p:Addr) (u:Value),W.cell? p=some u→W'.heap[p.block]?=W.heap[p.block]?:=by
  intro p u hp;refine hg.block _ (ZG W _ hp) (fun e=>?_);obtain ⟨-,o,ho,hc⟩:=hr _ e.symm;unfold World.cell? at hp;rw [ho] at hp
  cases o <;> first | (simp at hp;done) | (cases hc)
 have hc:∀p u,W.cell? p=some u→W'.cell? p=some u:=fun p u hp=>(ZP (w:=W) (a:=p) (hb p u hp)).trans hp
 obtain ⟨vd,made,YL,a1,a2,a3,a4,a5⟩:=h.dk;obtain ⟨vt,vq,cp,b1,b2,b3,b4,b5,b6,b7,b8⟩:=h.mm;obtain ⟨Lv,s,r,c1,c2,c3⟩:=h.ch;refine ⟨h.ne,fun x hx=>⟨ZY (h.fx x hx).1 hs,(h.fx x hx).2⟩,⟨vd,made,YL,Wo a1 hs (hb ⟨κ.sB,0,none⟩ _ (a1.cl 0 _ rfl)),VD a2 hg (fun r e=>(hr r e).2),a3,a4,a5⟩,⟨vt,vq,cp,Wo b1 hs (hb ⟨κ.mB,0,none⟩ _ (b1.cl 0 _ rfl)),vu b2 hs hc,vu b3 hs hc,b4,b5,b6,UI.VA b7 hg (fun r e=>(hr r e).2),b8⟩,⟨Lv,s,r,(hg.block _ (Z3.mp c1).1 (fun e=>(hr _ e.symm).1 rfl)).trans c1,⟨c2.1,fun i hi=>⟨j9 (c2.2 i hi).1 hs hc,(c2.2 i hi).2⟩⟩,c3⟩,fun p hp=>⟨nh (h.sn p hp).1 (by omega) hg hr,(h.sn p hp).2⟩,h.pw.keep (fun g hl _ _ _ _ _ e=>hg.block g hl (fun e9=>by obtain ⟨-,o,ho,hc⟩:=hr g e9.symm;rw [e] at ho;injection ho with ho;rw [←ho] at hc;cases hc))⟩
end
section
open Go.RowKit Go.Shelf
variable {ops:Array Oper} {buf:Array Value} {cl em tm:Bool} {C9 L S:Int} {D xs ys:List Int} {ns:List Nd} {B Bd Bs N b base blk c cap g i id j k n o r s sB:Nat} {p:Nat × Nat × Nat} {r0 row:Option Nat} {e:TypeId} {P u v v0 v1 v2 vt x y:Value} {W W' w w' w0 w1 w2:World}
section
variable (w:World) (p:Value) (vo vn:Value) (mu:Bool) (pa s:ByteArray) (R:World→Prop)
theorem EK (hU:∀W,Zi w W→Calls Tryz.prog 72 #[p] W fun e w'=>e=.returned (.string s)∧R w') :
    Calls Tryz.prog 34 #[p,.agg #[.int .i64 2,vo,.bool mu,.string pa,vn]] w fun e w'=>e=.returned (.string s)∧R w':=by
 have HU:=ZU (hU _ ((Below.refl w.heap.size w).alloc YR (.cells #[.int .i64 2,vo,.bool mu,.string pa,vn] 43)));clear hU
 go_enter Tryz.func34,Tryz.ntmps34
 go_wp2_with fail
 refine HU.out.mono ?_;rintro e w4 ⟨rfl,r4⟩;have F:=ZU r4;clear r4;go_wp2;go_ret;exact ⟨rfl,F.out⟩
theorem rh (hU:∀W,Zi w W→Calls Tryz.prog 76 #[p] W fun e w'=>e=.returned (.string s)∧R w') :
    Calls Tryz.prog 34 #[p,.agg #[.int .i64 6,vo,.bool mu,.string pa,vn]] w fun e w'=>e=.returned (.string s)∧R w':=by
 have HU:=ZU (hU _ ((Below.refl w.heap.size w).alloc YR (.cells #[.int .i64 6,vo,.bool mu,.string pa,vn] 43)));clear hU
 go_enter Tryz.func34,Tryz.ntmps34
 go_wp2_with fail
 refine HU.out.mono ?_;rintro e w4 ⟨rfl,r4⟩;have F:=ZU r4;clear r4;go_wp2;go_ret;exact ⟨rfl,F.out⟩
theorem C5 (hU:∀W,Zi w W→Calls Tryz.prog 78 #[p,.agg #[.int .i64 1,vo,.bool mu,.string pa,vn]] W fun e w'=>e=.returned (.string s)∧R w') :
    Calls Tryz.prog 34 #[p,.agg #[.int .i64 1,vo,.bool mu,.string pa,vn]] w fun e w'=>e=.returned (.string s)∧R w':=by
 have HU:=ZU (hU _ ((Below.refl w.heap.size w).alloc YR (.cells #[.int .i64 1,vo,.bool mu,.string pa,vn] 43)));clear hU
 go_enter Tryz.func34,Tryz.ntmps34
 go_wp2_with fail
 refine HU.out.mono ?_;rintro e w4 ⟨rfl,r4⟩;have F:=ZU r4;clear r4;go_wp2;go_ret;exact ⟨rfl,F.out⟩
theorem rg (z:Int) (hv:Rd .i64 w vn [z]) (hU:∀W,Zi w W→Calls Tryz.prog 77 #[p,.int .i64 z] W fun e w'=>e=.returned (.string s)∧R w') :
    Calls Tryz.prog 34 #[p,.agg #[.int .i64 7,vo,.bool mu,.string pa,vn]] w fun e w'=>e=.returned (.string s)∧R w':=by
 obtain ⟨ao,cp,rfl,h1,h2,h3⟩:=hv;obtain ⟨b,off,rfl,hb,hc⟩:=h3.resolve_left (by simp);have hc0:w.cell? ⟨b,off,none⟩=some (.int .i64 z):=hc 0 (by simp);have hb1:=(Below.refl w.heap.size w).alloc YR (.cells #[.int .i64 7,vo,.bool mu,.string pa,.slice (some ⟨b,off,none⟩) 1 cp] 43);have HU:=ZU (hU _ hb1);have c1:=(hb1.cell (p:=⟨b,off,none⟩) hb).trans hc0;have h1':1≤cp:=h1;clear hU hc h1 hb1;show Calls _ _ #[p,.agg #[.int .i64 7,vo,.bool mu,.string pa,.slice (some ⟨b,off,none⟩) 1 cp]] _ _
 go_enter Tryz.func34,Tryz.ntmps34
 go_wp2_with fail
 refine HU.out.mono ?_;rintro e w4 ⟨rfl,r4⟩;have F:=ZU r4;clear r4;go_wp2;go_ret;exact ⟨rfl,F.out⟩
end
theorem tI.new (w:World) (e:Ef):tI (w.alloc (.cells #[.string e.nd.path,.string e.nd.data,.int .i64 e.nd.XT,.int .i64 e.nd.XQ,.int .i64 e.nd.cz,.int .i64 e.nd.mz,.int .i64 e.nd.pz,.int .u8 (Hx e)] 251)) w.heap.size e:=by
 have:=Zs w (.cells #[.string e.nd.path,.string e.nd.data,.int .i64 e.nd.XT,.int .i64 e.nd.XQ,.int .i64 e.nd.cz,.int .i64 e.nd.mz,.int .i64 e.nd.pz,.int .u8 (Hx e)] 251);exact ⟨⟨⟨_,_,_,this,by decide⟩,(cell_of this _).trans rfl,(cell_of this _).trans rfl,(cell_of this _).trans rfl,(cell_of this _).trans rfl,(cell_of this _).trans rfl,(cell_of this _).trans rfl,(cell_of this _).trans rfl⟩,(cell_of this _).trans rfl⟩
theorem C3 (w:World) (z:Int) (b o n cap:Nat) (ns:List Ef) (hp:ns.length=n) (hb:b<w.heap.size) (hc:∀i,i<n→PI w b (o+i*8) (Vr ns i)) (hR:Gu w (.slice (some ⟨b,o,none⟩) n cap) ns)
    (hsz:∀i,(Vr ns i).nd.path.size≤1048576∧(Vr ns i).nd.data.size≤1048576) :
    Calls Tryz.prog 126 #[.agg #[.int .i64 z,.slice (some ⟨b,o,none⟩) n cap]] w fun e w'=>∃v',e=.returned v'∧Own .u8 5 w' w.heap.size v' (Va z ns)∧Zi w w':=by
 have HC:Hid (∀i,i<n→PI w b (o+i*8) (Vr ns i)):=hc;have HP:Hid (ns.length=n):=hp;have HR:Hid (Gu w (.slice (some ⟨b,o,none⟩) n cap) ns):=hR;have HZ:Hid (∀i,(Vr ns i).nd.path.size≤1048576∧(Vr ns i).nd.data.size≤1048576):=hsz;have B0:Hid (Zi w (w.alloc (.cells #[.int .i64 z,.slice (some ⟨b,o,none⟩) n cap] 192))):=Yy.alloc YR _;have X0:Hid (Hw (w.alloc (.cells #[.int .i64 z,.slice (some ⟨b,o,none⟩) n cap] 192)) w.heap.size z (.slice (some ⟨b,o,none⟩) n cap)):=Hw.new _ _ _ _;clear hc hp hR hsz
 go_enter Tryz.func126,Tryz.ntmps126
 go_wp2_with fail
 generalize w.alloc _=w0 at *;refine (Pz _ _ _ ns (HR.out.below B0.out) HZ.out).mono ?_;rintro e w1 ⟨rfl,b1⟩;have B1:=ZU (WD B0.out b1);have X1:=ZU (X0.out.below b1);clear b1 X0 B0
 by_cases hok:Tm z ns=true
 rotate_left
 · have hok':Tm z ns=false:=by simpa using hok
   have HT:Hid (Va z ns=[]):=by show _=_;unfold Va;rw [Z1 hok]
   rw [hok'];clear hok hok';go_wp2;go_ret;exact ⟨_,rfl,(by rw [HT.out];exact ZH _ _ _ _),B1.out⟩
 obtain ⟨g1,g2,g3,g4⟩:=My hok;rw [HP.out] at g3 g4;obtain ⟨Z,rfl⟩:∃Z:Nat,z=(Z:Int):=⟨z.toNat,by omega⟩;have HT:Hid (Va Z ns=Xo Z 4++Xo n 2++SL ns):=by show _=_;unfold Va;rw [Z0 hok,HP.out,Ze]
 have PX:Hid (∀k,k<n→Sm (Vr ns k)=true):=g4;have Pu:Hid (∀k,k≤n→(SL (ns.take k)).length≤k*189):=fun k hk=>Ja (fun k hk=>g4 k (by rw [←HP.out];exact hk)) k (by rw [HP.out];exact hk)
 rw [hok];clear hok g4;obtain ⟨z1,c0,c1⟩:=X1.out;have s1:w.heap.size+1≤w1.heap.size:=z1;have D1:Hid (Below (w.heap.size+1) w1 w1):=Yy;have C1:Hid (w1.cell? ⟨w.heap.size,1,none⟩=some (.slice (some ⟨b,o,none⟩) n cap)):=c1
 go_wp2_with fail
 refine (Wr w1 (w.heap.size+1) (.slice none 0 0) [] Z 4 (ZH _ _ _ _) s1 (by simp) (by omega)).mono ?_;rintro e w2 ⟨v2,rfl,o2,b2,-⟩;have O2:Hid (Own .u8 5 w2 (w.heap.size+1) v2 (Xo Z 4)):=o2;have D2:Hid (Below (w.heap.size+1) w1 w2):=b2;clear o2 b2 c0 c1 D1;have c1:=(D2.out.cell (p:=⟨w.heap.size,1,none⟩) (WK _)).trans C1.out;have s2:w.heap.size+1≤w2.heap.size:=ZJ s1 D2.out.size
 go_wp2_with fail
 refine (Wr w2 (w.heap.size+1) v2 (Xo Z 4) n 2 O2.out s2 (by rw [Xd];omega) (by omega)).mono ?_;rintro e w3 ⟨v3,rfl,o3,b3,-⟩;obtain ⟨H,hH⟩:∃H,H=Xo Z 4++Xo n 2:=⟨_,rfl⟩;have HH:Hid (H.length=6):=by show _=_;rw [hH,ZZ,Xd,Xd]
 rw [←hH] at o3 HT;have O3:Hid (Own .u8 5 w3 (w.heap.size+1) v3 (H++SL (ns.take 0))):=by show Own _ _ _ _ _ _;rw [WI,show SL []=[] from rfl,YD];exact o3
 have D3:=ZU (D2.out.trans b3);clear o3 b3 hH O2 D2 c1;have c1:=(D3.out.cell (p:=⟨w.heap.size,1,none⟩) (WK _)).trans C1.out;go_wp2
 go_loopw [3,21] (fun vi vk wr=>∃k:Nat,k≤n∧vk=.int .i64 k∧Hid (Own .u8 5 wr (w.heap.size+1) vi (H++SL (ns.take k)))∧Hid (Below (w.heap.size+1) w1 wr)) (fun _ i _=>n - (intOf i).toNat)
 case atStart=>exact ⟨0,Zu _,rfl,O3,D3⟩
 case round =>
  clear c1;obtain ⟨k,hk,rfl,HW,HD⟩:=hrel;have sD:w.heap.size+1≤wr.heap.size:=ZJ s1 HD.out.size
  by_cases hlt:k<n
  · have Rj:(k:Int)<(n:Int):=by omega
    obtain ⟨c0,c1,c2,c3,c4,c5,c6,c7⟩:=((HC.out k hlt).below B1.out hb).below HD.out (Nat.lt_succ_of_lt hb)
    go_wp2_with fail
    clear c0 c1 c2 c3 c4 c5 c6 c7;refine (EY _ (Vr ns k)).mono ?_;rintro e w4 ⟨rfl,b4⟩;have D4:Hid (Below (w.heap.size+1) w1 w4):=(HD.out.alloc sD _).trans (b4.mono (by simp;omega));have O4:Hid (Own .u8 5 w4 (w.heap.size+1) u3 (H++SL (ns.take k))):=(HW.out.below (Yy.alloc YR _)).below b4;have s4:w.heap.size+1≤w4.heap.size:=ZJ s1 D4.out.size;clear b4 HW HD
    go_wp2_with fail
    refine (Dh _ (w.heap.size+1) u3 (H++SL (ns.take k)) w4.heap.size (Vr ns k) ?e1 ?e2 ?e3 ?e4 (PX.out k hlt)).mono ?_
    case e1=>exact O4.out.below (Yy.alloc YR _)
    case e2=>simp;omega
    case e3=>have:=Pu.out k hk;rw [ZZ,HH.out];omega
    case e4=>exact tI.new _ _
    rintro e w5 ⟨v5,rfl,o5,b5,-⟩;have O5:Hid (Own .u8 5 w5 (w.heap.size+1) v5 (H++SL (ns.take (k+1)))):=by
     rw [ZO,KC ns k (by rw [HP.out];exact hlt)] at o5;exact o5
    have D5:Hid (Below (w.heap.size+1) w1 w5):=(D4.out.alloc s4 _).trans b5;clear o5 b5 O4 D4;go_wp2;exact ⟨⟨k+1,by omega,by go_num,O5,D5⟩,by simp [intOf];omega⟩
  have hkn:k=n:=by omega
  subst hkn;go_wp2;go_ret;refine ⟨_,rfl,?_,B1.out.trans (HD.out.mono (Ux _))⟩;rw [HT.out,←zL ns k (by rw [HP.out];exact YR)];exact HW.out.mono (Ux _)
theorem CZ (w:World) (z:Int) (ao:Option Addr) (cap:Nat) (hc:cap≤maxLen) :
    Calls Tryz.prog 126 #[.agg #[.int .i64 z,.slice ao 0 cap]] w fun e w'=>∃v',e=.returned v'∧Own .u8 5 w' w.heap.size v' (Va z [])∧Zi w w':=by
 have HR:Hid (Gu w (.slice ao 0 cap) []):=⟨ao,cap,rfl,Zu _,hc,.inl rfl⟩;have B0:Hid (Zi w (w.alloc (.cells #[.int .i64 z,.slice ao 0 cap] 192))):=Yy.alloc YR _;have X0:Hid (Hw (w.alloc (.cells #[.int .i64 z,.slice ao 0 cap] 192)) w.heap.size z (.slice ao 0 cap)):=Hw.new _ _ _ _;clear hc
 go_enter Tryz.func126,Tryz.ntmps126
 go_wp2_with fail
 generalize w.alloc _=w0 at *;refine (Pz _ _ _ [] (HR.out.below B0.out) (fun i=>by simp [Vr,fF,nd0])).mono ?_;rintro e w1 ⟨rfl,b1⟩;have B1:=ZU (WD B0.out b1);have X1:=ZU (X0.out.below b1);clear b1 X0 B0
 by_cases hok:Tm z []=true
 rotate_left
 · have hok':Tm z []=false:=by simpa using hok
   have HT:Hid (Va z []=[]):=by show _=_;unfold Va;rw [Z1 hok]
   rw [hok'];clear hok hok';go_wp2;go_ret;exact ⟨_,rfl,(by rw [HT.out];exact ZH _ _ _ _),B1.out⟩
 obtain ⟨g1,g2,-,-⟩:=My hok;obtain ⟨Z,rfl⟩:∃Z:Nat,z=(Z:Int):=⟨z.toNat,by omega⟩;have HT:Hid (Va Z []=Xo Z 4++Xo 0 2):=by show _=_;unfold Va;rw [Z0 hok,Ze];simp [SL]
 rw [hok];clear hok;obtain ⟨z1,c0,c1⟩:=X1.out;have s1:w.heap.size+1≤w1.heap.size:=z1;have C1:Hid (w1.cell? ⟨w.heap.size,1,none⟩=some (.slice ao 0 cap)):=c1
 go_wp2_with fail
 refine (Wr w1 (w.heap.size+1) (.slice none 0 0) [] Z 4 (ZH _ _ _ _) s1 (by simp) (by omega)).mono ?_;rintro e w2 ⟨v2,rfl,o2,b2,-⟩;have O2:Hid (Own .u8 5 w2 (w.heap.size+1) v2 (Xo Z 4)):=o2;have D2:Hid (Below (w.heap.size+1) w1 w2):=b2;clear o2 b2 c0 c1;have c1:=(D2.out.cell (p:=⟨w.heap.size,1,none⟩) (WK _)).trans C1.out;have s2:w.heap.size+1≤w2.heap.size:=ZJ s1 D2.out.size
 go_wp2_with fail
 refine (Wr w2 (w.heap.size+1) v2 (Xo Z 4) 0 2 O2.out s2 (by rw [Xd];omega) (by omega)).mono ?_;rintro e w3 ⟨v3,rfl,o3,b3,-⟩;have O3:Hid (Own .u8 5 w3 w.heap.size v3 (Va Z [])):=by rw [HT.out];exact o3.mono (Ux _)
 have D3:=ZU (D2.out.trans b3);clear o3 b3 O2 D2 c1;have c1:=(D3.out.cell (p:=⟨w.heap.size,1,none⟩) (WK _)).trans C1.out;go_wp2
 go_rounds 1
 go_ret;exact ⟨_,rfl,O3.out,B1.out.trans (D3.out.mono (Ux _))⟩
theorem CY (w:World) (z:Int) (v:Value) (ns:List Ef) (h:Gu w v ns) (hsz:∀i,(Vr ns i).nd.path.size≤1048576∧(Vr ns i).nd.data.size≤1048576) :
    Calls Tryz.prog 126 #[.agg #[.int .i64 z,v]] w fun e w'=>∃v',e=.returned v'∧Own .u8 5 w' w.heap.size v' (Va z ns)∧Zi w w':=by
 have h0:=h;obtain ⟨ao,cap,rfl,h1,h2,h3⟩:=h
 rcases h3 with rfl | ⟨b,o,rfl,hb,hc⟩
 · exact CZ w z ao cap h2
 exact C3 w z b o ns.length cap ns rfl hb hc h0 hsz
theorem EJ (h:Sn xs) (h':Sn ys):Sn (xs++ys):=fun x hx=>by
 rcases Y4.1 hx with hx | hx
 · exact h x hx
 exact h' x hx
theorem Kl {s:ByteArray} (h:s.size<256):Sn (J0 s):=by
 intro x hx;unfold J0 at hx
 rcases Y4.1 hx with hx | hx
 · simp at hx;omega
 unfold U0 at hx;obtain ⟨b,-,rfl⟩:=List.mem_map.1 hx;have:=b.toNat_lt;omega
theorem P1 {n:Nd} (h:Wl n=true):Sn (Vy n):=by
 have hs:=TX h;intro x hx;unfold Vy jb at hx
 simp only [Y4] at hx
 rcases hx with (hx | hx) | ((((hx | hx) | hx) | hx) | hx)
 · exact Kl (by omega) x hx
 · exact Kl (by omega) x hx
 all_goals exact Tn _ _ x hx
theorem vh (z:Int) (es:List Ef):Sn (Va z es):=by
 unfold Va
 split
 · rename_i h
   obtain ⟨-,-,-,h4⟩:=My h;refine EJ (EJ (Tn 4 _) (Tn 2 _)) ?_;intro x hx;unfold SL at hx;obtain ⟨e,he,hx⟩:=List.mem_flatMap.1 hx;obtain ⟨i,hi,rfl⟩:=List.mem_iff_getElem.1 he;have h5:=KD (h4 i hi);rw [NP hi] at h5;have h6:=TX h5;unfold OK at hx
   split at hx
   · rcases Y4.1 hx with h | h
     · simp at h;subst h;omega
     exact Kl (by omega) x h
   rcases Y4.1 hx with h | h
   · simp at h;subst h;omega
   exact P1 h5 x h
 intro x hx;cases hx
end
section
variable {ops:Array Oper} {buf:Array Value} {cl em tm:Bool} {C9 L S:Int} {D xs ys:List Int} {ns:List Nd} {B Bd Bs N b base blk c cap g i id j k n o r s sB:Nat} {p:Nat × Nat × Nat} {r0 row:Option Nat} {e:TypeId} {P u v v0 v1 v2 vt x y:Value} {W W' w w' w0 w1 w2:World}
theorem CW (h0:0<xs.length) (h1:xs.length≤2000):(fr xs).length=2+(8*xs.length+6) / 7:=by
 rw [vS h0 h1,ZZ,Jz];rfl
end
section
open Go.RowKit Go.Shelf
variable {ops:Array Oper} {buf:Array Value} {cl em tm:Bool} {C9 L S:Int} {D xs ys:List Int} {ns:List Nd} {B Bd Bs N b base blk c cap g i id j k n o r s sB:Nat} {p:Nat × Nat × Nat} {r0 row:Option Nat} {e:TypeId} {P u v v0 v1 v2 vt x y:Value} {W W' w w' w0 w1 w2:World}
theorem zi (w:World) (sB:Nat) (P vd vp x5 x6 x7:Value) (S L:Int) (h:St w sB [P,.int .i64 S,.int .i64 L,vd,vp,x5,x6,x7]) :
    Calls Tryz.prog 17 #[.pointer (some ⟨sB,0,none⟩),.int .i64 (-1),.slice none 0 0] w fun e w'=>e=.returned (.tuple #[])∧St w' sB (Hp P S L vd vp 0)∧w.grownBy w' (some sB):=by
 have S1:=h.set 5 (.int .i64 (-1));have S2:=S1.set 6 (.int .i64 0);have S3:=S2.set 7 (.slice none 0 0);have c5:=h.cl 5 _ rfl;have f5:=h.fz 5;have c6:=S1.cl 6 _ rfl;have f6:=S1.fz 6;have c7:=S2.cl 7 _ rfl;have f7:=S2.fz 7;have FIN:=ZU (And.intro S3 (grownBy_set w _ sB 7 (.slice none 0 0) (grownBy_set w _ sB 6 (.int .i64 0) (grownBy_set w w sB 5 (.int .i64 (-1)) (Zz _ _)))));clear S1 S2 S3 h
 go_enter Tryz.func17,Tryz.ntmps17
 go_wp2_with fail
 exact ⟨rfl,_,by kernel_rfl,rfl,FIN.out⟩
theorem CV (w:World) (g:Nat) (hg:g≤1000000):Calls Tryz.prog 52 #[.int .i64 (g:Int)] w fun e w'=>e=.returned (.int .i64 ((g % 2:Nat):Int))∧w'=w:=by
 go_enter Tryz.func52,Tryz.ntmps52
 go_wp2;go_ret;exact ⟨by first | rfl | (simp;done) | (congr 2;omega),rfl⟩
def Ro (w:World) (B:Nat) (p d:ByteArray) (a b c e f:Int):Prop :=
 w.heap[B]?=some (.cells #[.string p,.string d,.int .i64 a,.int .i64 b,.int .i64 c,.int .i64 e,.int .i64 f] 147 (0,0))
theorem Ro.lt {p d:ByteArray} {a b c e f:Int} (h:Ro w B p d a b c e f):B<w.heap.size:=(Z3.1 h).1
def Vq:ByteArray:=⟨#[47]⟩
def empty:ByteArray:=⟨#[]⟩
theorem LQ (w:World):Calls Tryz.prog 47 #[] w fun e w'=>e=.returned (.agg #[.slice (some ⟨w.heap.size+1,0,none⟩) 1 1])∧Ro w' (w.heap.size+1) Vq empty 0 0 0 0 0∧Zi w w':=by
 go_enter Tryz.func47,Tryz.ntmps47
 go_wp2;refine ZW (v:=.agg #[.slice (some ⟨w.heap.size+1,0,none⟩) 1 1]) (by simp [results,Tryz.results47,go_sem]) rfl ⟨rfl,?_,(Yy.alloc YR _).alloc (by simp) _⟩;have:=Zs (w.alloc (.cells #[.slice (some ⟨w.heap.size+1,0,none⟩) 1 1] 63)) (.cells #[.string Vq,.string empty,.int .i64 0,.int .i64 0,.int .i64 0,.int .i64 0,.int .i64 0] 147);rw [YF] at this;exact this
def m1:ByteArray:=⟨#[109,49]⟩
def m2:ByteArray:=⟨#[109,50]⟩
theorem Ro.set {cs:Array Value} {t:TypeId} (h:w.heap[B]?=some (.cells cs t (0,0))) (j:Nat) (u:Value):(w.setCell ⟨B,j,none⟩ u).heap[B]?=some (.cells (cs.setIfInBounds j u) t (0,0)):=by
 rw [setCell_eq_setRow w B j cs t (0,0) u h];exact WB w B cs _ t _ h
def Yx:Nd:=⟨Vq,empty,0,0,0,0,0⟩
theorem vg (h:Ro w B Vq empty 0 0 0 0 0):SK w (.slice (some ⟨B,0,none⟩) 1 1) [Yx]:=by
 refine ⟨_,1,rfl,YR,by unfold maxLen;omega,.inr ⟨B,0,rfl,h.lt,fun i hi=>?_⟩⟩;obtain rfl:i=0:=by simp at hi;omega
 have hc:=fun j=>cell_of h j
 refine ⟨?_,?_,?_,?_,?_,?_,?_⟩ <;> simp [hc,Ye,Yx]
theorem rf (i:Nat):(Ye [Yx] i).path.size≤1048576∧(Ye [Yx] i).data.size≤1048576:=by
 cases i with
 | zero=>exact ⟨by decide,by decide⟩
 | succ i=>exact ⟨by simp [Ye,nd0],by simp [Ye,nd0]⟩
theorem M4:WE [Yx]=true:=by decide +kernel
theorem EI (h:Own .u8 e w base v xs) (hn:0<xs.length):∃g c,v=.slice (some ⟨g,0,none⟩) xs.length c:=by
 rcases h.2 with ⟨-,h0⟩ | ⟨g,cap,cur,rfl,-⟩
 · omega
 exact ⟨g,cap,rfl⟩
def Bf (w:World) (S L:Int) (W:World):Prop:=Zi w W∧Vg W w.heap.size (.int .i64 S) (.int .i64 L)∧SQ W (w.heap.size+1) (.slice none 0 0) (.slice none 0 0)
theorem Bf.below (h:Bf w S L W) (hb:Zi W W'):Bf w S L W':=⟨h.1.trans (hb.mono h.1.size),h.2.1.below hb,h.2.2.below hb⟩
theorem Bf.lt (h:Bf w S L W):w.heap.size+2≤W.heap.size:=h.2.2.1.1
theorem Bf.new (w:World) (S L:Int):Bf w S L ((w.alloc (.cells #[.int .i64 S,.int .i64 L] 25)).alloc (.cells #[.slice none 0 0,.slice none 0 0] 52)):=by
 refine ⟨(Yy.alloc YR _).alloc (by simp) _,(Vg.new w _ _ _).below (Yy.alloc YR _),?_⟩;have:=SQ.new (w.alloc (.cells #[.int .i64 S,.int .i64 L] 25)) (.slice none 0 0) (.slice none 0 0) 52
 simpa using this
def I0:List Int:=Mj [Yx]
theorem Tt:I0.length=23:=by
 unfold I0 Mj Xn;rw [Z0 M4]
 simp [Se,Yx,Vq,empty]
 rfl
theorem vf:Sn I0:=by
 have:I0.all (fun x=>decide (0≤x∧x<256))=true:=by decide +kernel
 intro x hx;have:=Yw.1 this x hx
 simpa using this
def C0:Nat:=4294967295 - No 4294967295 I0
theorem j8:C0≤4294967295:=Nat.sub_le _ _
def L4:List Int:=sup 1 0 0 23 (C0:Int)
theorem ng:PG 1 0 0 23 (C0:Int)=true:=by
 have:=j8;unfold PG
 simp
 omega
theorem UH:L4.length=64:=by unfold L4 sup;rw [Z0 ng];exact Lt _ _ _ _ _
def IZ (n:Nat):List Int:=zeros 64++L4++I0++zeros (n*64 - 151)
def IY (S L:Int):Nat:=(2+2*(S+L)).toNat
theorem LB (n:Nat) (h:3≤n):(IZ n).length=n*64:=by
 unfold IZ;simp only [ZZ,Xl,UH,Tt];omega
theorem Mt (h:Wp S L=true):2+2*(S+L)=((IY S L:Nat):Int)∧6≤IY S L∧IY S L≤258:=by
 obtain ⟨⟨h1,h2⟩,h3,h4⟩:=(Xk S L).1 h;unfold IY;omega
theorem uZ (n:Nat) (h:3≤n):splice (splice (zeros (n*64)) 128 I0) 64 L4=IZ n:=by
 apply Wn;intro j;have hz:(zeros (n*64)).length=n*64:=Xl _;rw [UJ _ _ _ (by rw [length_splice _ _ _ (by rw [hz,Tt];omega),hz,UH];omega),UH,UJ _ _ _ (by rw [hz,Tt];omega),Tt];unfold IZ
 by_cases h1:j<64
 · rw [Z0 h1,Z0 (show j<128 by omega),ZO,ZO,Zy (by rw [Xl];exact h1)]
   unfold zeros;rw [WZ,WZ,Z0 (show j<n*64 by omega),Z0 h1]
 by_cases h2:j<128
 · rw [Z1 h1,Z0 (show j<64+64 by omega),ZO,ZO,Zv (by rw [Xl];omega),Xl,Zy (by rw [UH];omega)]
 by_cases h3:j<151
 · have e:j - 128=j - 64 - 64:=by omega
   rw [Z1 h1,Z1 (show ¬j<64+64 by omega),Z1 h2,Z0 (show j<128+23 by omega),ZO,ZO,Zv (by rw [Xl];omega),Xl,Zv (by rw [UH];omega),UH,Zy (by rw [Tt];omega),e]
 rw [Z1 h1,Z1 (show ¬j<64+64 by omega),Z1 h2,Z1 (show ¬j<128+23 by omega),ZO,ZO,Zv (by rw [Xl];omega),Xl,Zv (by rw [UH];omega),UH,Zv (by rw [Tt];omega),Tt];unfold zeros;rw [WZ,WZ]
 by_cases h4:j<n*64
 · rw [Z0 h4,Z0 (show j - 64 - 64 - 23<n*64 - 151 by omega)]
 rw [Z1 h4,Z1 (show ¬j - 64 - 64 - 23<n*64 - 151 by omega)]
def Hj (W:World) (b:Nat) (c:Int):Prop:=b<W.heap.size∧W.cell? ⟨b,0,none⟩=some (.int .i64 1)∧W.cell? ⟨b,1,none⟩=some (.int .i64 0)∧W.cell? ⟨b,2,none⟩=some (.int .i64 0)∧W.cell? ⟨b,3,none⟩=some (.int .i64 23)∧W.cell? ⟨b,4,none⟩=some (.int .i64 c)
theorem Hj.below {c:Int} (h:Hj W b c) (hb:Zi W W'):Hj W' b c :=
 ⟨ZY h.1 hb.size,(hb.cell (p:=⟨b,0,none⟩) h.1).trans h.2.1,(hb.cell (p:=⟨b,1,none⟩) h.1).trans h.2.2.1,(hb.cell (p:=⟨b,2,none⟩) h.1).trans h.2.2.2.1,(hb.cell (p:=⟨b,3,none⟩) h.1).trans h.2.2.2.2.1,(hb.cell (p:=⟨b,4,none⟩) h.1).trans h.2.2.2.2.2⟩
theorem Hj.other {c:Int} (h:Hj W b c) (hg:W.grownBy W' (some g)) (hn:b≠g):Hj W' b c:=by
 have hbl:=hg.block b h.1 (fun e=>hn (by simpa using e));exact ⟨ZY h.1 hg.size,(ZP (a:=⟨b,0,none⟩) hbl).trans h.2.1,(ZP (a:=⟨b,1,none⟩) hbl).trans h.2.2.1,(ZP (a:=⟨b,2,none⟩) hbl).trans h.2.2.2.1,(ZP (a:=⟨b,3,none⟩) hbl).trans h.2.2.2.2.1,(ZP (a:=⟨b,4,none⟩) hbl).trans h.2.2.2.2.2⟩
theorem NY (h:Vg W b x y) (hg:W.grownBy W' (some g)) (hn:b≠g):Vg W' b x y:=by
 have hbl:=hg.block b h.1 (fun e=>hn (by simpa using e));exact ⟨ZY h.1 hg.size,(ZP (a:=⟨b,0,none⟩) hbl).trans h.2.1,(ZP (a:=⟨b,1,none⟩) hbl).trans h.2.2⟩
theorem CU (h:SQ W b x y) (hg:W.grownBy W' (some g)) (hn:b≠g):SQ W' b x y:=by
 have hbl:=hg.block b h.1.1 (fun e=>hn (by simpa using e));exact ⟨NY h.1 hg hn,(Yq (a:=⟨b,0,none⟩) hbl).trans h.2.1,(Yq (a:=⟨b,1,none⟩) hbl).trans h.2.2⟩
theorem Bf.other (h:Bf w S L W) (hg:W.grownBy W' (some g)) (hn:w.heap.size+2≤g):Bf w S L W' :=
 ⟨h.1.grown hg (by have:=h.lt;omega) (fun q hq=>by simp at hq;omega),NY h.2.1 hg (by omega),CU h.2.2 hg (by omega)⟩
def Hi (w:World) (S L:Int) (Bd Bs g N cap:Nat) (C9:Int) (W:World):Prop :=
 Hid (Bf w S L W∧Vg W Bd (.slice (some ⟨g,0,none⟩) N cap) (.slice none 0 0)∧Hj W Bs C9)∧W.cell? ⟨w.heap.size,0,none⟩=some (.int .i64 S)∧W.cell? ⟨w.heap.size,1,none⟩=some (.int .i64 L) ∧
  W.cell? ⟨Bd,0,none⟩=some (.slice (some ⟨g,0,none⟩) N cap)∧W.cell? ⟨Bd,1,none⟩=some (.slice none 0 0) ∧
  W.cell? ⟨Bs,0,none⟩=some (.int .i64 1)∧W.cell? ⟨Bs,1,none⟩=some (.int .i64 0)∧W.cell? ⟨Bs,2,none⟩=some (.int .i64 0)∧W.cell? ⟨Bs,3,none⟩=some (.int .i64 23)∧W.cell? ⟨Bs,4,none⟩=some (.int .i64 C9)
theorem Hi.mk (h1:Bf w S L W) (h2:Vg W Bd (.slice (some ⟨g,0,none⟩) N cap) (.slice none 0 0)) (h3:Hj W Bs C9):Hi w S L Bd Bs g N cap C9 W :=
 ⟨⟨h1,h2,h3⟩,h1.2.1.2.1,h1.2.1.2.2,h2.2.1,h2.2.2,h3.2⟩
theorem Hi.below (h:Hi w S L Bd Bs g N cap C9 W) (hb:Zi W W'):Hi w S L Bd Bs g N cap C9 W' :=
 Hi.mk (h.1.out.1.below hb) (h.1.out.2.1.below hb) (h.1.out.2.2.below hb)
theorem Hi.other (h:Hi w S L Bd Bs g N cap C9 W) (hg:W.grownBy W' (some g)) (h1:w.heap.size+2≤g) (h2:Bd≠g) (h3:Bs≠g):Hi w S L Bd Bs g N cap C9 W' :=
 Hi.mk (h.1.out.1.other hg h1) (NY h.1.out.2.1 hg h2) (h.1.out.2.2.other hg h3)
theorem EH {C:List Int} {off:Nat} {cur:List Value} (ho:Own .u8 5 W base (.slice (some ⟨g,0,none⟩) N cap) D) (hD:D.length=N) (hgb:W.heap[g]?=some (.cells cur.toArray 5 (0,0))) (hoff:off+C.length≤N)
    (hg:W'.heap[g]?=some (.cells (splice cur off (C.map (Value.int .u8))).toArray 5 (0,0))):Own .u8 5 W' base (.slice (some ⟨g,0,none⟩) N cap) (splice D off C):=by
 rcases ho.2 with ⟨h,-⟩ | ⟨g',cap',cur',e,hb,h2,h3,h4,h5,h6⟩
 · simp at h
 simp only [ZC,ZK,Ym] at e
 obtain ⟨⟨rfl,-⟩,-,rfl⟩:=e;rw [hgb] at h2
 simp only [ZK,Obj.cells.injEq] at h2
 obtain ⟨rfl,-⟩:=h2;rw [hD] at h3 h6;rw [Yr] at h5 h6;have hcl:cur.length=cap:=by simpa using h5
 have hl:(splice D off C).length=N:=by rw [length_splice _ _ _ (by omega),hD]
 refine ⟨by rw [Zl,hl];omega,.inr ⟨g,cap,_,by rw [hl],hb,hg,by rw [hl];exact h3,h4,?_,?_⟩⟩
 · rw [ZI,length_splice _ _ _ (by rw [Zl];omega),hcl,Yr]
 rw [hl,Yr,Oe,←h6];apply Wn;intro j;rw [UJ _ _ _ (by rw [Zw,Zl];simp;omega),WJ]
 by_cases hj:j<N
 · rw [Z0 hj,UJ _ _ _ (by rw [Zl];omega)]
   simp only [XP hj]
 rw [Z1 hj,Z1 (by omega),Z1 (by rw [Zl];omega),WJ,Z1 hj]
theorem CQ (w:World):Calls Tryz.prog 52 #[.int .i64 1] w fun e w'=>e=.returned (.int .i64 ((1:Nat):Int))∧w'=w:=by
 go_enter Tryz.func52,Tryz.ntmps52
 go_wp2;go_ret;exact ⟨rfl,rfl⟩
theorem uY (g c:Nat) (W:World):(Instr.arrayAt 117 (.slice (some ⟨g,0,none⟩) 64 c)).run Tryz.prog W=.ok (.pointer (some ⟨g,0,none⟩)) W:=by kernel_rfl
theorem zh (ho:Own .u8 5 W base (.slice (some ⟨g,0,none⟩) N cap) D):∃cur:List Value,W.heap[g]?=some (.cells cur.toArray 5 (0,0))∧cur.length=cap:=by
 rcases ho.2 with ⟨h,-⟩ | ⟨g',cap',cur,e,-,h2,h3,h4,h5,h6⟩
 · simp at h
 simp only [ZC,ZK,Ym] at e
 obtain ⟨⟨rfl,-⟩,-,rfl⟩:=e;exact ⟨cur.toList,by simpa using h2,by simpa using h5⟩
theorem Kk (w:World) (S L:Int) (hc:Wp S L=true) (hT:Po w) (h0:0<w.heap.size) :
    Calls Tryz.prog 20 #[.agg #[.int .i64 S,.int .i64 L]] w fun e w'=>∃v',e=.returned (.agg #[v',.slice none 0 0])∧Own .u8 5 w' (w.heap.size+2) v' (IZ (IY S L))∧Zi w w':=by
 have HC:Hid (Wp S L=true):=hc;have HT:Hid (Po w):=hT;have H0:Hid (0<w.heap.size):=h0;obtain ⟨hk1,hk2,hk3⟩:=Mt hc;obtain ⟨⟨hS1,hS2⟩,hL1,hL2⟩:=(Xk S L).1 hc;have HK:Hid (2+2*(S+L)=((IY S L:Nat):Int)):=hk1;have ZB:Hid (∀W,Calls Tryz.prog 44 #[.int .i64 (2+2*(S+L))] W fun e w'=>∃g cap,e=.returned (.agg #[.slice (some ⟨g,0,none⟩) (IY S L*64) cap,.slice none 0 0])∧Own .u8 5 w' W.heap.size (.slice (some ⟨g,0,none⟩) (IY S L*64) cap) (zeros (IY S L*64))∧(IY S L*64≤cap∧cap≤maxLen)∧Zi W w'):=by
  intro W;rw [HK.out];refine (LT W _).mono ?_;rintro e w' ⟨v',rfl,o,b⟩;have hn:od ((IY S L:Nat):Int)=IY S L*64:=by unfold od;rw [Z0 (by omega)];rfl
  rw [hn] at o
  rcases o.row with ⟨rfl,hz⟩ | ⟨g,c,rfl,hg,h1,h2⟩
  · have:=ZM List.length hz;rw [Xl] at this;simp at this;omega
  rw [Xl] at o h1 ⊢;exact ⟨g,c,rfl,o,⟨h1,h2⟩,b⟩
 obtain ⟨l,hl⟩:∃l:Nat,(l:Int)=S:=⟨S.toNat,by omega⟩;have hl1:1≤l:=by omega
 have kB:Hid (∀W,Calls Tryz.prog 49 #[.agg #[.int .i64 S,.int .i64 L],.int .i64 0] W (Wj W (.agg #[.int .i64 ((2:Nat):Int),.int .i64 (l:Int)]))):=by
  intro W;have:=So W S L 0 HC.out ⟨by omega,by omega⟩;unfold Rx I9 at this;rw [hl]
  simpa using this
 obtain ⟨N,hN⟩:∃N,N=IY S L*64:=⟨_,rfl⟩;have Y1:(2+l)*64≤N:=by omega
 have Zx:N≤1048576:=by omega
 have HN:Hid (N=IY S L*64):=hN;rw [←hN] at ZB;clear hN hc hT h0 hk1 hl
 go_enter Tryz.func20,Tryz.ntmps20
 go_wp2_with fail
 have F0:Hid (Bf w S L ((w.alloc (.cells #[.int .i64 S,.int .i64 L] 25)).alloc (.cells #[.slice none 0 0,.slice none 0 0] 52))):=Bf.new _ _ _;generalize (w.alloc _).alloc _=w0 at *;refine (Rs _ S L).mono ?_;rintro e w1 ⟨rfl,b1⟩;rw [HC.out];have F1:=ZU (F0.out.below b1);clear b1 F0;obtain ⟨-,x0,x1⟩:=F1.out.2.1
 go_wp2_with fail
 refine (Pi _ S L hS1 hS2 hL1 hL2).mono ?_;rintro e w2 ⟨rfl,b2⟩;have F2:=ZU (F1.out.below b2);clear b2 F1 x0 x1
 go_wp2_with fail
 refine (ZB.out _).mono ?_;rintro e w3 ⟨g,cap,rfl,o3,⟨hNc,hcm⟩,b3⟩;have F3:=ZU (F2.out.below b3);have O3:Hid (Own .u8 5 w3 w2.heap.size (.slice (some ⟨g,0,none⟩) N cap) (zeros N)):=o3;have s2:=F2.out.lt;have hg2:w.heap.size+2≤g:=ZJ s2 (o3.lt g rfl).1;have hg3:g<w3.heap.size:=(o3.lt g rfl).2;clear o3 b3 F2
 go_wp2_with fail
 have BA:Hid (Zi w3 (w3.alloc (.cells #[(.slice (some ⟨g,0,none⟩) N cap),.slice none 0 0] 52))):=Yy.alloc YR _;have Z5:Hid (Vg (w3.alloc (.cells #[(.slice (some ⟨g,0,none⟩) N cap),.slice none 0 0] 52)) w3.heap.size (.slice (some ⟨g,0,none⟩) N cap) (.slice none 0 0)):=Vg.new _ _ _ _;generalize w3.alloc _=wd at *;obtain ⟨Bd,O⟩:∃Bd,Bd=w3.heap.size:=⟨_,rfl⟩;have Fd:=ZU (F3.out.below BA.out);have Od:Hid (Own .u8 5 wd (w.heap.size+2) (.slice (some ⟨g,0,none⟩) N cap) (zeros N)):=(O3.out.below BA.out).mono s2;have hBd:Bd≠g:=by omega
 rw [←O] at Z5;refine (LQ _).mono ?_;rintro e w4 ⟨rfl,I8,b4⟩;have N4:Hid (SK w4 (.slice (some ⟨wd.heap.size+1,0,none⟩) 1 1) [Yx]):=vg I8;have F4:=ZU (Fd.out.below b4);have O4:=ZU (Od.out.below b4);have X4:=ZU (Z5.out.below b4);have YJ:g<w4.heap.size:=(O4.out.lt g rfl).2;clear b4 I8 Fd Od Z5 BA F3 O3;rw [←O];clear O
 go_wp2_with fail
 refine (EZ _ _ [Yx] N4.out rf).mono ?_;rintro e w5 ⟨v5,rfl,o5,b5⟩;have Z4:Own .u8 5 w5 w4.heap.size v5 I0:=o5;obtain ⟨g4,c4,hv5⟩:=EI Z4 (by rw [Tt];omega);rw [Tt] at hv5;subst hv5;have I5:Hid (Own .u8 5 w5 w4.heap.size (.slice (some ⟨g4,0,none⟩) 23 c4) I0):=Z4;have F5:=ZU (F4.out.below b5);have O5:=ZU (O4.out.below b5);have X5:=ZU (X4.out.below b5);have Yh:=b5.size;clear o5 Z4 b5 N4 F4 O4 X4
 go_wp2_with fail
 refine (Pn _ _ I0 I5.out.rd vf (by rw [Tt];omega) (HT.out.below H0.out F5.out.1)).mono ?_;rintro e wq ⟨rfl,hwq⟩;rw [hwq];clear hwq;have tL:Hid (∀W,Calls Tryz.prog 53 #[.agg #[.int .i64 1,.int .i64 0,.int .i64 0,.int .i64 23,.int .i64 ((4294967295 - No 4294967295 I0:Nat):Int)]] W fun e w'=>∃g c,e=.returned (.slice (some ⟨g,0,none⟩) 64 c)∧Own .u8 5 w' W.heap.size (.slice (some ⟨g,0,none⟩) 64 c) L4∧Zi W w'):=by
  intro W;refine (Qv W 1 0 0 23 _).mono ?_;rintro e w' ⟨v,rfl,o,b⟩;have o':Own .u8 5 w' W.heap.size v L4:=o;obtain ⟨g,c,hv⟩:=EI o' (by rw [UH];omega);rw [UH] at hv;subst hv;exact ⟨g,c,rfl,o',b⟩
 generalize ((4294967295 - No 4294967295 I0:Nat):Int)=C9 at *
 go_wp2_with fail
 have BA:Hid (Zi w5 (w5.alloc (.cells #[.int .i64 1,.int .i64 0,.int .i64 0,.int .i64 23,.int .i64 C9] 60))):=Yy.alloc YR _;have Z2:Hid (Hj (w5.alloc (.cells #[.int .i64 1,.int .i64 0,.int .i64 0,.int .i64 23,.int .i64 C9] 60)) w5.heap.size C9):=⟨by simp,by simp,by simp,by simp,by simp,by simp⟩;generalize w5.alloc _=w6 at *;obtain ⟨Bs,Z8⟩:∃Bs,Bs=w5.heap.size:=⟨_,rfl⟩;have Zt:Bs≠g:=by omega
 rw [←Z8] at Z2 ⊢;have bP:Zi w6 w6.drew:=below_drewN' w6 1;have FP:Hid (Hi w S L Bd Bs g N cap C9 w6.drew):=Hi.mk ((F5.out.below BA.out).below bP) ((X5.out.below BA.out).below bP) (Z2.out.below bP);have OP:Hid (Own .u8 5 w6.drew (w.heap.size+2) (.slice (some ⟨g,0,none⟩) N cap) (zeros N)):=(O5.out.below BA.out).below bP;have IP:Hid (Own .u8 5 w6.drew w4.heap.size (.slice (some ⟨g4,0,none⟩) 23 c4) I0):=(I5.out.below BA.out).below bP;clear bP BA Z2 X5 O5 I5 F5 Z8;refine ZX (S:=Hi w S L Bd Bs g N cap C9) (by kernel_rfl) (FP.out) (fun Z9=>?_);generalize w6.drew=p6 at *
 iterate 3 (refine Zf ?_ (by kernel_rfl) (fun _=>id) Z9 ?_ ?_;rotate_left;· intro w9 ZQ;obtain ⟨-,k0,k1,k2,k3,k4,k5,k6,k7,k8⟩:=ZQ;go_simp;try with_reducible rfl)
 refine Yp 4 ?v4 rfl (by kernel_rfl) (fun _=>id) Z9 ?hy4 ?_
 case hy4=>intro w9 ZQ;obtain ⟨-,k0,k1,k2,k3,k4,k5,k6,k7,k8⟩:=ZQ;go_simp;try with_reducible rfl
 refine Yp 5 ?v5 rfl (by kernel_rfl) (fun _=>id) Z9 ?DH ?_
 case DH=>intro w9 ZQ;obtain ⟨-,k0,k1,k2,k3,k4,k5,k6,k7,k8⟩:=ZQ;go_simp;try with_reducible rfl
 refine Yp 7 ?v6 rfl (by kernel_rfl) (fun _=>id) Z9 ?rP ?_
 case rP=>intro w9 ZQ;obtain ⟨-,k0,k1,k2,k3,k4,k5,k6,k7,k8⟩:=ZQ;go_simp;try with_reducible rfl
 refine YS 3 rfl (by kernel_rfl) (fun K hK=>?_);go_simp;refine (kB.out _).mono ?_;rintro e Y0 ⟨rfl,b6⟩;have F6:Hid (Hi w S L Bd Bs g N cap C9 Y0):=Z9.below b6;have O6:=ZU (OP.out.below b6);have I6:=ZU (IP.out.below b6);clear b6 OP IP;clear Z9;refine hK.out _ _ (F6.out) (fun Z9=>?_);clear hK K;refine YS 6 rfl (by kernel_rfl) (fun K hK=>?_);go_simp;refine (QM _ g N cap 2 l Y1 hl1 hNc Zx).mono ?_;rintro e w7 ⟨rfl,b7⟩;have F7:=ZU (F6.out.below b7);have O7:=ZU (O6.out.below b7);have I7:=ZU (I6.out.below b7);clear b7 O6 I6 F6;obtain ⟨cur,hgb,PP⟩:=zh O7.out;have N7:Hid (∀j u,(I0.map (Value.int .u8))[j]?=some u→w7.cell? ((⟨g4,0,none⟩:Addr).add j)=some u):=Ys I7.out rfl;have kw:Hid (w7.heap[g]?=some (.cells cur.toArray 5 (0,0))):=hgb;have Zr:Hid (cur.length=cap):=PP;clear hgb PP;clear Z9;refine hK.out _ _ (F7.out) (fun Z9=>?_);clear hK K;refine YS 8 rfl (by kernel_rfl) (fun K hK=>?_);refine Ru rfl (.tmp 26) (.tmp 27) 22 22 rfl 5 Tryz.underlying22 wl _ _ _ _ _ _ rfl rfl g 128 cur 5 kw.out (I0.map (Value.int .u8)) (by rw [Zl,Tt];exact (YC (show 23≤l*64 by omega)).symm) (fun _=>⟨rfl,⟨g4,0,none⟩,rfl,N7.out⟩) (by rw [Zl,Tt,Zr.out];omega) (Yi _ _) ?_;intro w8 kA Zq;have F8:Hid (Hi w S L Bd Bs g N cap C9 w8):=F7.out.other Zq.out hg2 hBd Zt;have O8:Hid (Own .u8 5 w8 (w.heap.size+2) (.slice (some ⟨g,0,none⟩) N cap) (splice (zeros N) 128 I0)):=EH O7.out (Xl _) kw.out (by rw [Tt];omega) kA.out;clear kA Zq O7 I7 N7 kw Zr F7;clear Z9;refine hK.out _ _ (F8.out) (fun Z9=>?_);clear hK K;refine ZR (by kernel_rfl) ?_ _
 try simp only [Act.put,WV,WU,WT]
 clear Z9
 go_wp2_with fail
 have ma:Hid (∀W,Own .u8 5 W (w.heap.size+2) (.slice (some ⟨g,0,none⟩) N cap) (splice (zeros N) 128 I0)→Calls Tryz.prog 51 #[(.slice (some ⟨g,0,none⟩) N cap),.int .i64 ((1:Nat):Int),.agg (L4.map (Value.int .u8)).toArray] W fun e w'=>e=.returned (.tuple #[])∧Own .u8 5 w' (w.heap.size+2) (.slice (some ⟨g,0,none⟩) N cap) (IZ (IY S L))∧W.grownBy w' (some g)):=by
  intro W hW;have hlz:(splice (zeros N) 128 I0).length=N:=by rw [length_splice _ _ _ (by rw [Xl,Tt];omega),Xl]
  refine (Nk W (w.heap.size+2) g N cap 1 (splice (zeros N) 128 I0) L4 hW hlz UH (by omega) Zx).mono ?_;rintro e w' ⟨rfl,o,hg⟩;rw [show 1*64=64 from rfl,HN.out,uZ _ (by omega)] at o;rw [HN.out];exact ⟨rfl,o,hg⟩
 have bP:Zi w8 w8.drew:=below_drewN' w8 1;have FP:Hid (Hi w S L Bd Bs g N cap C9 w8.drew):=F8.out.below bP;have OP:Hid (Own .u8 5 w8.drew (w.heap.size+2) (.slice (some ⟨g,0,none⟩) N cap) (splice (zeros N) 128 I0)):=O8.out.below bP;clear bP O8 F8;refine ZX (S:=Hi w S L Bd Bs g N cap C9) (by kernel_rfl) (FP.out) (fun Z9=>?_);generalize w8.drew=p8 at *
 iterate 4 (refine Zf ?_ (by kernel_rfl) (fun _=>id) Z9 ?_ ?_;rotate_left;· intro w9 ZQ;obtain ⟨-,k0,k1,k2,k3,k4,k5,k6,k7,k8⟩:=ZQ;go_simp;try with_reducible rfl)
 refine Yp 5 ?v11 rfl (by kernel_rfl) (fun _=>id) Z9 ?Ks ?_
 case Ks=>intro w9 ZQ;obtain ⟨-,k0,k1,k2,k3,k4,k5,k6,k7,k8⟩:=ZQ;go_simp;try with_reducible rfl
 refine YS 4 rfl (by kernel_rfl) (fun K hK=>?_);go_simp;refine (CQ _).mono ?_;rintro e wq ⟨rfl,hwq⟩;rw [hwq];clear hwq;clear Z9;refine hK.out _ _ (FP.out) (fun Z9=>?_);clear hK K;refine YS 6 rfl (by kernel_rfl) (fun K hK=>?_);go_simp;refine (tL.out _).mono ?_;rintro e Zp ⟨g9,c9,rfl,o9,b9⟩;have F9:Hid (Hi w S L Bd Bs g N cap C9 Zp):=Z9.below b9;have O9:=ZU (OP.out.below b9);have RG:Hid (Zp.rangeAt g9 0 (L4.map (Value.int .u8))):=fun j v hj=>by have:=Ys o9 rfl j v hj;rw [YY] at this;exact this
 clear o9 b9 OP;clear Z9;refine hK.out _ _ (F9.out) (fun Z9=>?_);clear hK K;refine Zf (.pointer (some ⟨g9,0,none⟩)) (by kernel_rfl) (fun _=>id) Z9 ?_ ?_
 · intro w9 ZQ;have eN:=uY g9 c9 w9;go_simp
 refine YS 8 rfl (by kernel_rfl) (fun K hK=>?_);rw [Z0 (by rfl)];refine wp_load_mid 117 _ rfl g9 0 rfl (L4.map (Value.int .u8)) _ RG.out Tryz.underlying117 rfl (Wh _ (by rw [Zl,UH])) ?_;clear Z9;refine hK.out _ _ (F9.out) (fun Z9=>?_);clear hK K;refine YS 9 rfl (by kernel_rfl) (fun K hK=>?_);go_simp;refine (ma.out _ O9.out).mono ?_;rintro e Jg ⟨rfl,Zo,g10⟩;have E:Hid (Hi w S L Bd Bs g N cap C9 Jg):=F9.out.other g10 hg2 hBd Zt;have YX:Hid (Own .u8 5 Jg (w.heap.size+2) (.slice (some ⟨g,0,none⟩) N cap) (IZ (IY S L))):=Zo;clear Zo g10 O9 F9 RG;clear Z9;refine hK.out _ _ (E.out) (fun Z9=>?_);clear hK K;refine ZR (by kernel_rfl) ?_ _
 try simp only [Act.put,WV,WU,WT]
 clear Z9;obtain ⟨-,-,-,k2,k3,-⟩:=E.out;have zr:=E.out.1.out.1.2.2.1.1;obtain ⟨⟨-,d0,d1⟩,f0,f1⟩:=E.out.1.out.1.2.2;go_wp2;refine ZW (v:=.agg #[(.slice (some ⟨g,0,none⟩) N cap),.slice none 0 0]) (by simp [results,Tryz.results20,go_sem,d0,d1]) rfl ⟨_,rfl,?_,?_⟩
 · repeat (first | exact YX.out | refine Own.Vz ?_ (show w.heap.size+1<w.heap.size+2 by omega) _)
 repeat (first | exact E.out.1.out.1.1 | refine Below.setCell ?_ (by simp) _)
theorem DY.frozen {r:zD} (h:DY W b r vt v1 v2) (j:Nat):W.frozen? ⟨b,j,none⟩=false:=by
 unfold DY at h
 simp [World.frozen?,h]
def Qf (w:World) (b:Nat) (r:zD) (vt v1 v2:Value):World:=((((((((((((w).setCell ⟨b,0,none⟩ (.int .i64 r.code)).setCell ⟨b,1,none⟩ (.int .i64 r.sp.g)).setCell ⟨b,2,none⟩ (.int .i64 r.sp.b)).setCell ⟨b,3,none⟩ (.int .i64 r.sp.s)).setCell ⟨b,4,none⟩ (.int .i64 r.sp.l)).setCell ⟨b,5,none⟩ (.int .i64 r.sp.c)).setCell ⟨b,6,none⟩ (.int .i64 r.zx)).setCell ⟨b,7,none⟩ (vt)).setCell ⟨b,8,none⟩ (.int .i64 r.used)).setCell ⟨b,9,none⟩ (.int .i64 r.ops)).setCell ⟨b,10,none⟩ (v1)).setCell ⟨b,11,none⟩ (v2)
theorem Uy (h:w.cell? ⟨b,j,none⟩=some u):(w.setCell ⟨b,j,none⟩ v).cell? ⟨b,j,none⟩=some v:=Zk _ _ _ h
theorem ZD (h:w.cell? ⟨b,i,none⟩=some u) (hne:i≠j):(w.setCell ⟨b,j,none⟩ v).cell? ⟨b,i,none⟩=some u:=(ZV _ _ _ _ (by intro e;injection e with e1 e2;first | exact hne e2 | exact hne e2.symm)).trans h
theorem CO {q r:zD} {ut u1 u2:Value} (h:DY w b q ut u1 u2):(Qf w b r vt v1 v2).cell? ⟨b,0,none⟩=some (.int .i64 r.code)∧(Qf w b r vt v1 v2).cell? ⟨b,1,none⟩=some (.int .i64 r.sp.g)∧(Qf w b r vt v1 v2).cell? ⟨b,2,none⟩=some (.int .i64 r.sp.b)∧(Qf w b r vt v1 v2).cell? ⟨b,3,none⟩=some (.int .i64 r.sp.s)∧(Qf w b r vt v1 v2).cell? ⟨b,4,none⟩=some (.int .i64 r.sp.l)∧(Qf w b r vt v1 v2).cell? ⟨b,5,none⟩=some (.int .i64 r.sp.c)∧(Qf w b r vt v1 v2).cell? ⟨b,6,none⟩=some (.int .i64 r.zx)∧(Qf w b r vt v1 v2).cell? ⟨b,7,none⟩=some (vt)∧(Qf w b r vt v1 v2).cell? ⟨b,8,none⟩=some (.int .i64 r.used)∧(Qf w b r vt v1 v2).cell? ⟨b,9,none⟩=some (.int .i64 r.ops)∧(Qf w b r vt v1 v2).cell? ⟨b,10,none⟩=some (v1)∧(Qf w b r vt v1 v2).cell? ⟨b,11,none⟩=some (v2):=by
 obtain ⟨c0,c1,c2,c3,c4,c5,c6,c7,c8,c9,c10,c11⟩:=h.cells;unfold Qf;exact ⟨(ZD (ZD (ZD (ZD (ZD (ZD (ZD (ZD (ZD (ZD (ZD (Uy c0) (by decide)) (by decide)) (by decide)) (by decide)) (by decide)) (by decide)) (by decide)) (by decide)) (by decide)) (by decide)) (by decide)),(ZD (ZD (ZD (ZD (ZD (ZD (ZD (ZD (ZD (ZD (Uy (ZD c1 (by decide))) (by decide)) (by decide)) (by decide)) (by decide)) (by decide)) (by decide)) (by decide)) (by decide)) (by decide)) (by decide)),(ZD (ZD (ZD (ZD (ZD (ZD (ZD (ZD (ZD (Uy (ZD (ZD c2 (by decide)) (by decide))) (by decide)) (by decide)) (by decide)) (by decide)) (by decide)) (by decide)) (by decide)) (by decide)) (by decide)),(ZD (ZD (ZD (ZD (ZD (ZD (ZD (ZD (Uy (ZD (ZD (ZD c3 (by decide)) (by decide)) (by decide))) (by decide)) (by decide)) (by decide)) (by decide)) (by decide)) (by decide)) (by decide)) (by decide)),(ZD (ZD (ZD (ZD (ZD (ZD (ZD (Uy (ZD (ZD (ZD (ZD c4 (by decide)) (by decide)) (by decide)) (by decide))) (by decide)) (by decide)) (by decide)) (by decide)) (by decide)) (by decide)) (by decide)),(ZD (ZD (ZD (ZD (ZD (ZD (Uy (ZD (ZD (ZD (ZD (ZD c5 (by decide)) (by decide)) (by decide)) (by decide)) (by decide))) (by decide)) (by decide)) (by decide)) (by decide)) (by decide)) (by decide)),(ZD (ZD (ZD (ZD (ZD (Uy (ZD (ZD (ZD (ZD (ZD (ZD c6 (by decide)) (by decide)) (by decide)) (by decide)) (by decide)) (by decide))) (by decide)) (by decide)) (by decide)) (by decide)) (by decide)),(ZD (ZD (ZD (ZD (Uy (ZD (ZD (ZD (ZD (ZD (ZD (ZD c7 (by decide)) (by decide)) (by decide)) (by decide)) (by decide)) (by decide)) (by decide))) (by decide)) (by decide)) (by decide)) (by decide)),(ZD (ZD (ZD (Uy (ZD (ZD (ZD (ZD (ZD (ZD (ZD (ZD c8 (by decide)) (by decide)) (by decide)) (by decide)) (by decide)) (by decide)) (by decide)) (by decide))) (by decide)) (by decide)) (by decide)),(ZD (ZD (Uy (ZD (ZD (ZD (ZD (ZD (ZD (ZD (ZD (ZD c9 (by decide)) (by decide)) (by decide)) (by decide)) (by decide)) (by decide)) (by decide)) (by decide)) (by decide))) (by decide)) (by decide)),(ZD (Uy (ZD (ZD (ZD (ZD (ZD (ZD (ZD (ZD (ZD (ZD c10 (by decide)) (by decide)) (by decide)) (by decide)) (by decide)) (by decide)) (by decide)) (by decide)) (by decide)) (by decide))) (by decide)),(Uy (ZD (ZD (ZD (ZD (ZD (ZD (ZD (ZD (ZD (ZD (ZD c11 (by decide)) (by decide)) (by decide)) (by decide)) (by decide)) (by decide)) (by decide)) (by decide)) (by decide)) (by decide)) (by decide)))⟩
structure yF (w:World) (v1 v2:Value) (S L:Int) (W:World):Prop where
 WC:Zi w W
 lt:w.heap.size+3≤W.heap.size
 d0:W.cell? ⟨w.heap.size,0,none⟩=some v1
 d1:W.cell? ⟨w.heap.size,1,none⟩=some v2
 c0:W.cell? ⟨w.heap.size+1,0,none⟩=some (.int .i64 S)
 c1:W.cell? ⟨w.heap.size+1,1,none⟩=some (.int .i64 L)
 rx:DY W (w.heap.size+1+1) (nJ 0) (.slice none 0 0) (.slice none 0 0) (.slice none 0 0)
 fd:∀j,W.frozen? ⟨w.heap.size,j,none⟩=false
 fc:∀j,W.frozen? ⟨w.heap.size+1,j,none⟩=false
theorem yF.Xe {m:Nat} (h:yF w v1 v2 S L W) (hb:Below m W W') (hm:w.heap.size+3≤m):yF w v1 v2 S L W':=by
 have hl:=h.lt;have q:∀b j,b<w.heap.size+3→W'.cell? ⟨b,j,none⟩=W.cell? ⟨b,j,none⟩:=fun b j h9=>hb.cell (p:=⟨b,j,none⟩) (show b<_ by omega)
 exact ⟨h.WC.trans (hb.mono (by omega)),ZJ hl hb.size,(q _ _ (by omega)).trans h.d0,(q _ _ (by omega)).trans h.d1,(q _ _ (by omega)).trans h.c0,(q _ _ (by omega)).trans h.c1,(hb.block _ (by omega)).trans h.rx,fun j=>(hb.frozen (p:=⟨w.heap.size,j,none⟩) (show w.heap.size<_ by omega)).trans (h.fd j),fun j=>(hb.frozen (p:=⟨w.heap.size+1,j,none⟩) (show w.heap.size+1<_ by omega)).trans (h.fc j)⟩
theorem yF.below (h:yF w v1 v2 S L W) (hb:Zi W W'):yF w v1 v2 S L W':=h.Xe hb h.lt
theorem yF.new (w:World) (v1 v2:Value) (S L:Int):yF w v1 v2 S L (((w.alloc (.cells #[v1,v2] 52)).alloc (.cells #[.int .i64 S,.int .i64 L] 25)).alloc (.cells #[.int .i64 0,.int .i64 0,.int .i64 0,.int .i64 0,.int .i64 0,.int .i64 0,.int .i64 0,.slice none 0 0,.int .i64 0,.int .i64 0,.slice none 0 0,.slice none 0 0] 65)):=by
 have b:Zi w (((w.alloc (.cells #[v1,v2] 52)).alloc (.cells #[.int .i64 S,.int .i64 L] 25)).alloc (.cells #[.int .i64 0,.int .i64 0,.int .i64 0,.int .i64 0,.int .i64 0,.int .i64 0,.int .i64 0,.slice none 0 0,.int .i64 0,.int .i64 0,.slice none 0 0,.slice none 0 0] 65)):=((Yy.alloc YR _).alloc (by simp) _).alloc (by simp;omega) _;refine ⟨b,by simp,by go_simp,by go_simp,by go_simp,by go_simp,?_,fun j=>by go_simp,fun j=>by go_simp⟩;have h9:=DY.new ((w.alloc (.cells #[v1,v2] 52)).alloc (.cells #[.int .i64 S,.int .i64 L] 25)) (nJ 0) (.slice none 0 0) (.slice none 0 0) (.slice none 0 0)
 simp only [YF] at h9
 exact h9
theorem CM (r:zD) (vt v1 v2:Value) (h:g≠B):(Qf W B r vt v1 v2).heap[g]?=W.heap[g]?:=by
 unfold Qf
 iterate 12 refine (Below.heap_setCell _ _ _ g h).trans ?_
 rfl
structure Kp (a b:Nat) (W W':World):Prop where
 os:W'.os=W.os
 tape:W'.tape=W.tape
 output:W'.output=W.output
 size:W.heap.size≤W'.heap.size
 block:∀q,q<W.heap.size→q≠a→q≠b→W'.heap[q]?=W.heap[q]?
structure gj (YL:List Int) (ps:List (Int × List Int)) (S:Int) (sn N:Nat) (lim:Int):Prop where
 fit:Kv S (sn:Int) YL.length ps=true
 n:ps.length≤1936
 fu:Sn (MA YL ps)
 len:(MA YL ps).length=N
 n9:N≤1048576
 lim:-9223372036854775808≤lim∧lim≤9223372036854775807
theorem gj.facts {YL:List Int} {ps:List (Int × List Int)} {sn:Nat} {lim:Int} (h:gj YL ps S sn N lim):Wp S (sn:Int)=true∧2+2*(S+(sn:Int))≤((N / 64:Nat):Int)∧128≤N∧(1≤S∧S≤64)∧1≤sn∧sn≤64:=by
 obtain ⟨hc,hv,hd⟩:=(RI S sn YL.length ps).1 h.fit;obtain ⟨⟨hS1,hS2⟩,hL1,hL2⟩:=(Xk S sn).1 hc;have hl:=h.len;rw [Ku hv] at hl;rw [hl] at hd;exact ⟨hc,by omega,by omega,⟨hS1,hS2⟩,by omega,by omega⟩
def uX (ops:Array Oper):Bool:=ops.all fun o=>match o.op with | .defer _=>false | _=>true
theorem CL (h:uX ops=true) {o:Oper} (hi:ops[i]?=some o):∀c,o.op≠.defer c:=by
 intro c hc;unfold uX at h;obtain ⟨hlt,rfl⟩:=Z3.1 hi;have h2:=Array.all_eq_true.1 h i hlt;rw [hc] at h2
 cases h2
theorem EG {F:Fence} {P:Program} {md:Region.Mode} {Q:Exit→Act→World→Prop} (l:Nat) (hro:F.round=none) (hd:uX ops=true) :
    ∀(fuel:Nat) (listed:Array Bool) (a:Act) (w:World),wpAnyIn F n P md ops Q fuel listed a w→wpAnyIn (F.inRound l) n P md ops Q fuel listed a w:=by
 intro fuel
 induction fuel with
 | zero=>intro listed a w h;exact h
 | succ fuel ih =>
  intro listed a w h;refine ⟨h.1,fun i hi=>?_⟩;have h2:=wpOpIn_mono (fun a w h=>ih _ a w h) (h.2 i hi);unfold wpOpIn at h2 ⊢
  cases ho:ops[i]? with
  | none=>rw [ho] at h2;exact h2
  | some o =>
   rw [ho] at h2;dsimp only at h2 ⊢
   split
   · rename_i hw
     rw [Z0 hw] at h2;refine ⟨h2.1,?_⟩;have h3:=h2.2;rw [hro,Oper.semAt_none] at h3;rw [Fence.inRound_round,Yv _ _ _ (CL hd ho)];exact h3
   rename_i hw;rw [Z1 hw] at h2;exact h2
attribute [local go_sem] Yv
attribute [local go_sem] Yv
theorem EF (w:World) (blk o n cap:Nat) (h0:w.cell? ⟨blk,o,none⟩=some (.int .u8 0)) (hn:2≤n) (hc:n≤cap) (hc2:cap≤maxLen) :
    Calls Tryz.prog 207 #[.slice (some ⟨blk,o,none⟩) n cap] w (Wj w (.tuple #[.agg #[.slice none 0 0],.int .i64 0])):=by
 have h1:=ZG w _ h0;unfold maxLen at hc2;have e1:¬((n:Int)<2):=by omega
 have e2:(0:Int)<(n:Int):=by omega
 go_enter Tryz.func207,Tryz.ntmps207
 go_wp2;refine ZW (v:=.tuple #[.agg #[.slice none 0 0],.int .i64 0]) (by simp [results,Tryz.results207,go_sem]) rfl ⟨rfl,?_⟩;exact Yy.alloc YR _
structure qZ (w:World) (vt:Value) (Bo blk o n cap:Nat) (v:Value) (ns:List Nd) (W:World):Prop where
 head:Bp w vt W
 out:MV W Bo v (.int .i64 0) (.int .i64 0) (.int .i64 0)
 own:XU 147 W (w.heap.size+2) v ns
 ne:v.ownBlock≠some Bo
 Z':Boxed W (Bo+2) 22 (.slice (some ⟨blk,o,none⟩) n cap)
 size:Bo+3≤W.heap.size
 low:w.heap.size+2≤Bo
theorem qZ.later {Bo:Nat} (h:qZ w vt Bo blk o n cap v ns W) (hb:Zi W W'):qZ w vt Bo blk o n cap v ns W' :=
 ⟨h.head.below hb,h.out.below hb,h.own.below hb,h.ne,(hb.block _ (by have:=h.size;omega)).trans h.Z',ZJ h.size hb.size,h.low⟩
theorem qZ.VA {Bo:Nat} (h:qZ w vt Bo blk o n cap v ns W) (hg:W.grownBy W' row) (hr:∀r,row=some r→Bo+3≤r∧∃o:Obj,W.heap[r]?=some o∧o.isCells=false):qZ w vt Bo blk o n cap v ns W':=by
 have hz:=h.size;have hl:=h.low;refine ⟨h.head.other hg (fun r e=>by have:=(hr r e).1;omega),h.out.other hg (fun e=>by have:=(hr _ e.symm).1;omega),VD h.own hg (fun r e=>(hr r e).2),h.ne,(hg.block _ (by omega) (fun e=>by have:=(hr _ e.symm).1;omega)).trans h.Z',ZJ hz hg.size,hl⟩
theorem Hh (nn:Nat) (hn1:1≤nn) (l Ba blk o n cap:Nat) (P:World→Prop) (hP:∀X Y,Zi X Y→P X→P Y) (W:World) (hW:P W) (hB:W.cell? ⟨Ba,0,none⟩=some (.slice (some ⟨blk,o,none⟩) n cap)) (h0:W.cell? ⟨blk,o,none⟩=some (.int .u8 0)) (hn:2≤n) (hc:n≤cap) (hc2:cap≤maxLen) :
    CallsIn Fence.wide nn Tryz.prog 206 #[.func (.yield l) #[] #[],.pointer (some ⟨Ba,0,none⟩)] W fun e W'=>(∃v,e=.returned v)∧P W':=by
 have HP:=ZU hP;have H0:=ZU hW;have HN:Hid (2≤n∧n≤cap∧cap≤maxLen):=⟨hn,hc,hc2⟩;have hcp:¬cap=0:=by omega
 have HZ:=ZU h0;clear hP hW h0;unfold maxLen at hc2;refine Xb Tryz.func206 rfl trivial ?_ rfl
 simp only [Tryz.ntmps206,ZI,ZE,Y7,Nat.reduceAdd,Nat.reduceSub,YV,YU,YI,YT,Zd,Y3]
 gi_wp2
 gi_loopw [3] (fun i wr=>i=.int .i64 0∧wr=W) (fun _ _=>0)
 case atStart=>exact ⟨rfl,rfl⟩
 case round =>
  obtain ⟨rfl,rfl⟩:=hrel
  gi_wp2_with fail
  refine ⟨trivial,?_⟩;refine (YK.2 (EF wr blk o n cap HZ.out HN.out.1 HN.out.2.1 HN.out.2.2)).mono ?_;rintro e w2 ⟨rfl,b2⟩;have H2:=ZU (HP.out _ _ ((b2.alloc b2.size (.cells #[.slice none 0 0] 263))) H0.out);clear b2;gi_wp2;refine ZW (Wu rfl _ _ _) rfl ?_;exact ⟨⟨_,rfl⟩,H2.out⟩
theorem EE (w:World) (ta:Option Addr) (tc:Nat) (ns:List Nd) (blk o n cap:Nat) (ht:SK w (.slice ta ns.length tc) ns) (hok:WE ns=true) (h0:w.cell? ⟨blk,o,none⟩=some (.int .u8 0)) (hn1:2≤n) (hc:n≤cap) (hc2:cap≤maxLen) (hn:n≤8192) :
    Calls Tryz.prog 134 #[.agg #[.slice ta ns.length tc],.int .i64 0,.slice (some ⟨blk,o,none⟩) n cap] w fun e w'=>∃va vc,e=.returned (.agg #[.slice va ns.length vc,.int .i64 0,.int .i64 0,.int .i64 0])∧XU 147 w' w.heap.size (.slice va ns.length vc) ns∧Zi w w':=by
 have HN:=ZU ht;have PX:=ZU hok;have H0:=ZU h0;have HC:Hid (2≤n∧n≤cap∧cap≤maxLen):=⟨hn1,hc,hc2⟩;have hnl:ns.length≤1000:=by unfold WE at hok;simp only [ZA,Zj] at hok;exact hok.1
 have HG:=ZU (zH hok);have hn2:¬(8192:Int)<(n:Int):=by omega
 have YH:decide ((8192:Int)<(n:Int))=false:=by simpa using hn2
 have hb0:=ZG w _ h0;clear ht hok h0 hc2;refine (YK (n:=6)).1 ?_;refine callsIn_of_wp_marks Tryz.func134 rfl trivial ?_ rfl
 simp only [Tryz.ntmps134,ZI,ZE,Y7,Nat.reduceAdd,Nat.reduceSub,YV,YU,YI,YT,Zd,Y3]
 gi_wp2_with fail
 have F0:Hid (Bp w (.slice ta ns.length tc) ((w.alloc (.cells #[.slice ta ns.length tc] 63)).alloc (.cells #[.slice none 0 0,.int .i64 0,.int .i64 0,.int .i64 0] 99))):=Bp.new _ _ _ _;generalize (w.alloc _).alloc _=w0 at *;refine ⟨trivial,?_⟩;refine (YK.2 (UM _ _ ns (HN.out.below F0.out.1) (rB HG.out))).mono ?_;rintro e w1 ⟨rfl,b1⟩;rw [PX.out];have F1:=ZU (F0.out.below b1);clear b1 F0
 gi_wp2_with fail
 refine ⟨trivial,?_⟩;refine (YK.2 (Hu _ 0)).mono ?_;rintro e wq ⟨rfl,hwq⟩;rw [show decide ((0:Int)≤0∧(0:Int)≤2147483647)=true by decide,hwq];clear hwq;obtain ⟨-,-,x0,-⟩:=F1.out
 gi_wp2_with fail
 clear x0;refine ⟨trivial,?_⟩;refine (YK.2 (Dg _ ta tc ns (HN.out.below F1.out.1) hnl)).mono ?_;rintro e w2 ⟨v2,rfl,o2,b2⟩;obtain ⟨na,nc,rfl⟩:=XU.QW o2;have F2:=ZU (F1.out.below b2);have O2:=ZU o2;have s1:=F1.out.2.1;clear o2 b2 F1
 gi_wp2_with fail
 refine ⟨trivial,?_⟩;refine (zK Fence.wide _ trivial rfl _ _ _ _).mono ?_;rintro e w5 ⟨rfl,NS⟩
 gi_wp2_with fail
 have s2:=F2.out.2.1;have DP:Hid (qZ w (.slice ta ns.length tc) w2.heap.size blk o n cap (.slice na ns.length nc) ns w5):=by
  rw [NS];have bA:Zi w2 (w2.alloc (.cells #[.slice na ns.length nc,.int .i64 0,.int .i64 0,.int .i64 0] 99)):=Yy.alloc YR _;have hO:=O2.out.below bA;have hF:=F2.out.below bA;have hX:=MV.new w2 (.slice na ns.length nc) (.int .i64 0) (.int .i64 0) (.int .i64 0) 99;have sA:(w2.alloc (.cells #[.slice na ns.length nc,.int .i64 0,.int .i64 0,.int .i64 0] 99)).heap.size=w2.heap.size+1:=by simp
  have hlt:=fun q hq=>ZT O2.out q hq
  generalize w2.alloc _=wA at *;have bB:Zi wA (wA.alloc (.cells #[.int .i64 0] 2)):=Yy.alloc YR _;have sB:(wA.alloc (.cells #[.int .i64 0] 2)).heap.size=w2.heap.size+2:=by simp [sA]
  generalize wA.alloc _=wB at *;have bC:Zi wB (wB.alloc (.cells #[.slice (some ⟨blk,o,none⟩) n cap] 22)):=Yy.alloc YR _;refine ⟨(hF.below bB).below bC,(hX.below bB).below bC,((hO.below bB).below bC).mono (by omega),fun e=>by have:=hlt _ e;omega,?_,by simp [sB],s2⟩;have:=Boxed.new wB 22 (.slice (some ⟨blk,o,none⟩) n cap);rw [sB] at this;exact this
 have s5:w5.heap.size=w2.heap.size+3:=by rw [NS];simp
 rw [←NS];clear NS O2 F2;refine PJ (F:=Fence.wide) (n:=6) rfl (by omega) (gf:=206) (lb:=#[.pointer (some ⟨w2.heap.size+2,0,none⟩)]) rfl trivial (enters_of Tryz.func206 (by kernel_rfl) rfl)
  (fun (_:Unit) W=>qZ w (.slice ta ns.length tc) w2.heap.size blk o n cap (.slice na ns.length nc) ns W) (fun _ _ _=>False) (fun s _=>s) (fun _ _=>True) (fun _=>True) ()
  (fun s X Y row hs hg hr=>hs.VA hg (fun r e=>by have:=hr r e;rw [s5] at this;exact this)) (fun _ _=>trivial) (fun _ _ _ _ _ _ _ _=>trivial)
  (fun s vs W hp=>hp.elim) DP.out (fun _ _ _ _=>False) (fun _ _ _ _ _ _ _ h=>h.elim) (fun _ _ _ _ _ _ h=>h.elim) (fun _ _ _ _ _ h=>h.elim) ?call ?done
 case call =>
  intro Bk W1 tk hY hb1 _ hs0 nf;have hbw:=hs0.head.1;refine (Hh _ (by omega) _ _ blk o n cap (fun W=>qZ w (.slice ta ns.length tc) w2.heap.size blk o n cap (.slice na ns.length nc) ns W∧Bk W) (fun X Y hb h=>⟨h.1.later hb,tk X Y (Vf hb) h.2⟩) W1 ⟨hs0,nf⟩ hs0.Z'.cell ((hbw.cell (p:=⟨blk,o,none⟩) hb0).trans H0.out) HC.out.1 HC.out.2.1 HC.out.2.2).mono ?_;rintro e W' ⟨h1,h2,h3⟩;exact ⟨h1,(),trivial,h2,h3⟩
 case done =>
  rintro D s W hD hfin hS hK;obtain ⟨hH,hX,hO,hlow,hsz⟩:=(⟨hS.head,hS.out,hS.own,hS.low,hS.size⟩:_∧_∧_∧_∧_);clear hS hfin;have HO:=ZU hO;have HH:=ZU hH;have YW:=ZU hK;have hB:=hH.1;obtain ⟨zo,⟨e0,e1,e2,e3⟩,-⟩:=hX;obtain ⟨zr,⟨d0,d1,d2,d3⟩,f0,f1,f2,f3⟩:=hH.2.2.2;clear hO hH hK;gi_wp2;have hK2:((((W.setCell ⟨w.heap.size+1,0,none⟩ (.slice na ns.length nc)).setCell ⟨w.heap.size+1,1,none⟩ (.int .i64 0)).setCell ⟨w.heap.size+1,2,none⟩ (.int .i64 0)).setCell ⟨w.heap.size+1,3,none⟩ (.int .i64 0)).heap[D]?=some (.deferred (some [])):=(KeepsOthers.setCell _ _ _).same D _ ((KeepsOthers.setCell _ _ _).same D _ ((KeepsOthers.setCell _ _ _).same D _ ((KeepsOthers.setCell _ _ _).same D _ YW.out rfl) rfl) rfl) rfl;refine ⟨by simp,.inl ⟨_,_,rfl,run_takeDeferred hK2,?_⟩⟩;have XB:MV ((((W.setCell ⟨w.heap.size+1,0,none⟩ (.slice na ns.length nc)).setCell ⟨w.heap.size+1,1,none⟩ (.int .i64 0)).setCell ⟨w.heap.size+1,2,none⟩ (.int .i64 0)).setCell ⟨w.heap.size+1,3,none⟩ (.int .i64 0)) (w.heap.size+1) (.slice na ns.length nc) (.int .i64 0) (.int .i64 0) (.int .i64 0):=(((HH.out.2.2.2.set0 _).set1 _).set2 _).gt _;have OX:XU 147 ((((W.setCell ⟨w.heap.size+1,0,none⟩ (.slice na ns.length nc)).setCell ⟨w.heap.size+1,1,none⟩ (.int .i64 0)).setCell ⟨w.heap.size+1,2,none⟩ (.int .i64 0)).setCell ⟨w.heap.size+1,3,none⟩ (.int .i64 0)) (w.heap.size+2) (.slice na ns.length nc) ns:=(((HO.out.Vz (show w.heap.size+1<w.heap.size+2 by omega) _).Vz (show w.heap.size+1<w.heap.size+2 by omega) _).Vz (show w.heap.size+1<w.heap.size+2 by omega) _).Vz (show w.heap.size+1<w.heap.size+2 by omega) _;have BX:Zi w ((((W.setCell ⟨w.heap.size+1,0,none⟩ (.slice na ns.length nc)).setCell ⟨w.heap.size+1,1,none⟩ (.int .i64 0)).setCell ⟨w.heap.size+1,2,none⟩ (.int .i64 0)).setCell ⟨w.heap.size+1,3,none⟩ (.int .i64 0)):=(((hB.setCell (by simp) _).setCell (by simp) _).setCell (by simp) _).setCell (by simp) _;have SX:((((W.setCell ⟨w.heap.size+1,0,none⟩ (.slice na ns.length nc)).setCell ⟨w.heap.size+1,1,none⟩ (.int .i64 0)).setCell ⟨w.heap.size+1,2,none⟩ (.int .i64 0)).setCell ⟨w.heap.size+1,3,none⟩ (.int .i64 0)).heap.size=W.heap.size:=by simp
  generalize ((((W.setCell _ _).setCell _ _).setCell _ _).setCell _ _)=X at *;have GX:=grownBy_putObj' X D (.deferred none);have Yg:w.heap.size+1<D:=by omega
  have YB:=XB.other GX (by simp;omega);have OF:=OX.VA GX (fun r e=>by injection e with e;subst e;exact ⟨_,hK2,rfl⟩);have BF:=BX.grown GX (by omega) (fun q e=>by injection e with e;omega);generalize X.putObj D (.deferred none)=Z at *;obtain ⟨-,⟨y0,y1,y2,y3⟩,-⟩:=YB;refine ⟨.agg #[.slice na ns.length nc,.int .i64 0,.int .i64 0,.int .i64 0],?_,na,nc,rfl,OF.mono (by omega),BF⟩
  simp [results,Tryz.results134,go_sem,y0,y1,y2,y3]
end
end Go.Proofs.YtpmjnbmkippaiaaGreatDoor


