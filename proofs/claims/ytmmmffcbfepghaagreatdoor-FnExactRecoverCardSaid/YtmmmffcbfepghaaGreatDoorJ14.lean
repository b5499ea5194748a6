import Derived.Test.YtmmmffcbfepghaaGreatDoorJ12S
set_option maxRecDepth 100000
set_option maxHeartbeats 16000000
set_option linter.unusedVariables false
set_option linter.unusedSimpArgs false
namespace Go.Proofs.YtmmmffcbfepghaaGreatDoor
open Go.RowKit Go.Shelf
variable {ps:List (Int × List Int)} {Z7:List Int} {B lo:Nat} {vd vk:Value}
theorem Zz.sN {w:World} {hi j:Nat} {u:Value} {dv:Nat→Value} (ho:Zz w lo hi vd vk Z7 ps dv) (h1:vd.ownBlock≠some B) (h2:vk.ownBlock≠some B) (h3:∀i,i<ps.length→(dv i).ownBlock≠some B):Zz (w.setCell ⟨B,j,none⟩ u) lo hi vd vk Z7 ps dv :=
 ⟨ho.d.setAt (.inr h1),⟨Yy ho.p.1 (grownBy_set w w B j u (YT _ _)) (.inr h2),fun i hi=>(ho.p.2.1 i hi).setAt (.inr (h3 i hi)),ho.p.2.2.1,ho.p.2.2.2⟩,ho.NY,ho.Pm,ho.MK,ho.dp,ho.dq⟩
structure Th (w:World) (lo B k:Nat) (vd vk:Value) (Z7:List Int) (ps:List (Int × List Int)) (dv:Nat→Value):Prop where
 box:Zm w B vd vk
 own:Zz w lo w.heap.size vd vk Z7 (ps.take k) dv
 d:vd.ownBlock≠some B
 p:vk.ownBlock≠some B
 q:∀i,i<k→(dv i).ownBlock≠some B
theorem Th.step {wr w' w4:World} {k g cap:Nat} {v:Value} {dv:Nat→Value} {ob:Obj} (h:Th wr lo B k vd vk Z7 ps dv) (hk:k<ps.length) (hlo:lo≤wr.heap.size) (bw:ZX wr w') (o':Own .u8 5 w' wr.heap.size v (pD ps k))
    (ST:w4.ownsRow lo 91 2 (.slice (some ⟨g,0,none⟩) (k+1) cap) (k+1) (Yt k (pB ps) dv++[.int .i64 (pB ps k),v])) (hg4:(w'.alloc ob).grownBy w4 vk.ownBlock) (hat:vk.ownBlock=some g∨g=w'.heap.size+1) :
    Th (w4.setCell ⟨B,1,none⟩ (.slice (some ⟨g,0,none⟩) (k+1) cap)) lo B (k+1) vd (.slice (some ⟨g,0,none⟩) (k+1) cap) Z7 ps (Zb dv k v):=by
 have G:=P4 (Ri w' ob _) hg4;have hsz:=bw.size;have hB:=h.box.1.1;have htk:ps.take (k+1)=ps.take k++[(pB ps k,pD ps k)]:=by
  rw [uj,VM hk];have e:(pB ps k,pD ps k)=ps[k]:=by unfold pB pD;simp [List.getD,hk]
  rw [e];rfl
 have hlen:(ps.take k).length=k:=by rw [YC];omega
 have hrow:Yt k (pB (ps.take k)) dv=Yt k (pB ps) dv:=WS (fun i hi=>by unfold pB;simp [List.getD,hi]) (fun _ _=>rfl);have hown:=Lv (hi:=wr.heap.size) h.own ZW hlo hlen bw o' (by rw [hrow];exact ST) hg4 hat;have hp':Value.ownBlock (.slice (some ⟨g,0,none⟩) (k+1) cap)≠some B:=by
  simp only [Value.ownBlock,ne_eq,Xu]
  rcases hat with e | e
  · intro eq;exact h.p (by rw [e,eq])
  omega
 have hq':∀i,i<k+1→(Zb dv k v i).ownBlock≠some B:=by
  intro i hi;unfold Zb
  by_cases e:i=k
  · rw [ZY e];intro eq;have:=(o'.lt B eq).1;omega
  rw [Z3 e];exact h.q i (by omega)
 have Do:=G.cell_far ⟨B,0,none⟩ (by show B<_;omega) (Ne.symm h.p);have X:=G.cell_far ⟨B,1,none⟩ (by show B<_;omega) (Ne.symm h.p);have W:=G.frozen_far ⟨B,0,none⟩ (by show B<_;omega) (Ne.symm h.p);have V:=G.frozen_far ⟨B,1,none⟩ (by show B<_;omega) (Ne.symm h.p);have Z:=h.box.below bw;refine ⟨?_,?_,h.d,hp',hq'⟩
 · have c0:=Do.trans Z.1.2.1
   have c1:=X.trans Z.1.2.2;have f0:=W.trans Z.2.1;have f1:=V.trans Z.2.2;have hs4:=G.size;refine ⟨⟨by simp;omega,?_,?_⟩,?_,?_⟩
   · rw [ZG _ _ _ _ (by simp)];exact c0
   · exact Ys _ _ _ c1
   · simp [f0]
   simp [f1]
 rw [htk];have:=hown.sN (j:=1) (u:=.slice (some ⟨g,0,none⟩) (k+1) cap) h.d hp' (B:=B) (fun i hi=>hq' i (by simp at hi;omega))
 simpa using this
theorem VV (w:World) (va vb:Option Addr) (dl ca n cb:Nat) (Z7:List Int) (ps:List (Int × List Int)) (hd:Rd .u8 w (.slice va dl ca) Z7) (hdl:Z7.length=dl) (hp:XP w (.slice vb n cb) ps) (hl:ps.length=n) (hn:n≤1048576) (hd1:dl≤1048576) (XV:∀i,(pD ps i).length≤1048576) :
    Calls Tryz.prog 24 #[.agg #[.slice va dl ca,.slice vb n cb]] w fun e w'=>∃v1 v2 dv,e=.returned (.agg #[v1,v2])∧Zz w' w.heap.size w'.heap.size v1 v2 Z7 ps dv∧ZX w w':=by
 obtain ⟨i0,hi,hz0,hz1,hz2⟩:=YH Tryz.LD;have HD:=Z8 hd;have HP:=Z8 hp;have HL:=Z8 hl;have Uo:=Z8 hdl;have Xd:=Z8 XV;have BA:Hid (∀o1 o2,ZX w ((w.alloc o1).alloc o2)):=fun o1 o2=>(ZR.alloc ZW _).alloc (by simp) _
 clear hd hp hl hdl XV
 go_enter Tryz.func24,Tryz.ntmps24
 go_wp2_with fail
 have GI:Hid (Zm ((w.alloc (.cells #[.slice va dl ca,.slice vb n cb] 36)).alloc (.cells #[.slice none 0 0,.slice none 0 0] 36)) w.heap.size (.slice va dl ca) (.slice vb n cb)):=(Zm.new w _ _ _).below (ZR.alloc ZW _);have Ni:Hid (Zm ((w.alloc (.cells #[.slice va dl ca,.slice vb n cb] 36)).alloc (.cells #[.slice none 0 0,.slice none 0 0] 36)) (w.heap.size+1) (.slice none 0 0) (.slice none 0 0)):=by
  have:=Zm.new (w.alloc (.cells #[.slice va dl ca,.slice vb n cb] 36)) (.slice none 0 0) (.slice none 0 0) 36;show Zm _ _ _ _
  simpa using this
 have B0:=BA.out (.cells #[.slice va dl ca,.slice vb n cb] 36) (.cells #[.slice none 0 0,.slice none 0 0] 36);have HB0:=Z8 B0;clear B0 BA;generalize (w.alloc _).alloc _=w0 at *;refine (Wq _ _ Z7 (HD.out.below HB0.out) (by have:=Uo.out;omega)).mono ?_;rintro e w1 ⟨v1,rfl,o1,b1⟩;obtain ⟨a1,c1,rfl⟩:=o1.slice;have HB1:=Z8 (Ye HB0.out b1);have Ko:=Z8 (GI.out.below b1);have Nh:=Z8 (Ni.out.below b1);have O1:=Z8 o1;have s0:=HB0.out.size;have Y:=GI.out.1.1;have U:=Ni.out.1.1;have oE:=b1.size;clear b1 o1 GI Ni HB0;have C1:Hid (Th (w1.alloc (.cells #[.slice a1 Z7.length c1,.slice none 0 0] 36)) w0.heap.size w1.heap.size 0 (.slice a1 Z7.length c1) (.slice none 0 0) Z7 ps (fun _=>.slice none 0 0)):=by
  have B2:ZX w1 (w1.alloc (.cells #[.slice a1 Z7.length c1,.slice none 0 0] 36)):=ZR.alloc ZW _;refine ⟨Zm.new _ _ _ _,⟨O1.out.below B2,⟨Yf _ _ _ _,fun i hi=>by simp at hi,fun i j hi=>by simp at hi,fun i hi=>by simp at hi⟩,fun g hg=>?_,fun g hg=>by simp [Value.ownBlock] at hg,fun i hi=>by simp at hi,.inl rfl,fun i hi=>by simp at hi⟩,?_,by simp [Value.ownBlock],fun i hi=>by omega⟩
  · have:=(O1.out.lt g hg).2;simp;omega
  intro e;have:=(O1.out.lt _ e).2;omega
 have HW:Hid (ZX w (w1.alloc (.cells #[.slice a1 Z7.length c1,.slice none 0 0] 36))):=HB1.out.alloc HB1.out.size _;have GH:Hid (Zm (w1.alloc (.cells #[.slice a1 Z7.length c1,.slice none 0 0] 36)) w.heap.size (.slice va dl ca) (.slice vb n cb)):=Ko.out.below (ZR.alloc ZW _);have GG:Hid (Zm (w1.alloc (.cells #[.slice a1 Z7.length c1,.slice none 0 0] 36)) (w.heap.size+1) (.slice none 0 0) (.slice none 0 0)):=Nh.out.below (ZR.alloc ZW _);go_wp2
 go_loopw [4] (fun i wr=>∃(k:Nat) (dv:Nat→Value) (vk:Value),k≤n∧i=.int .i64 k∧Hid (Th wr w0.heap.size w1.heap.size k (.slice a1 Z7.length c1) vk Z7 ps dv)∧Hid (Below w0.heap.size (w1.alloc (.cells #[.slice a1 Z7.length c1,.slice none 0 0] 36)) wr)) (fun i _=>n - (intOf i).toNat)
 case atStart=>exact ⟨0,_,_,ZQ _,rfl,C1,ZR⟩
 case round =>
  clear C1;obtain ⟨k,dv,vk,hk,rfl,HC,HG⟩:=hrel;have sg:=HG.out.size;have zA:=Ko.out.1.1;have zR:=Nh.out.1.1;obtain ⟨⟨z3,x0,x1⟩,-⟩:=GH.out.ZL HG.out Y;clear x0
  by_cases hlt:k<n
  · obtain ⟨b,o,rfl,hb,e1,da,dc,e2,r⟩:=HP.out.recAt HL.out hlt
    have BW:=Z8 (HW.out.trans (HG.out.mono s0));have uS:=(BW.out.cell (p:=⟨b,o+k*2,none⟩) hb).trans e1;have e2':=(BW.out.cell (p:=⟨b,o+k*2+1,none⟩) hb).trans e2;have RK:=Z8 (r.below BW.out);have YN:(k:Int)<(n:Int):=by omega
    have hpk:=Xd.out k;clear e1 e2 r;obtain ⟨⟨z4,-,y1⟩,-,y2⟩:=HC.out.box;have n1:w1.heap.size≠w.heap.size:=by omega
    have n2:w1.heap.size≠b:=by omega
    have Jw:Hid (Calls Tryz.prog 53 #[.slice da (pD ps k).length dc] wr.drew fun e w'=>∃a c,e=.returned (.slice a (pD ps k).length c)∧Hid (Own .u8 5 w' wr.heap.size (.slice a (pD ps k).length c) (pD ps k)) ∧
        w'.cell? ⟨w.heap.size,1,none⟩=some (.slice (some ⟨b,o,none⟩) n cb)∧w'.cell? ⟨b,o+k*2,none⟩=some (.int .i64 (pB ps k))∧w'.cell? ⟨b,o+k*2+1,none⟩=some (.slice da (pD ps k).length dc)∧w'.cell? ⟨w1.heap.size,1,none⟩=some vk∧w'.frozen? ⟨w1.heap.size,1,none⟩=false∧Hid (ZX wr w')):=by
     refine (Wq _ _ (pD ps k) (RK.out.drewN 1) (by omega)).mono ?_;rintro e w' ⟨v',rfl,o',b'⟩;obtain ⟨a,c,rfl⟩:=o'.slice;have b2:ZX wr w':=(below_drewN' _ 1).trans b';exact ⟨a,c,rfl,o',(b2.cell (p:=⟨w.heap.size,1,none⟩) (by show _<_;omega)).trans x1,(b2.cell (p:=⟨b,o+k*2,none⟩) (by show b<_;have:=BW.out.size;omega)).trans uS,(b2.cell (p:=⟨b,o+k*2+1,none⟩) (by show b<_;have:=BW.out.size;omega)).trans e2',(b2.cell (p:=⟨w1.heap.size,1,none⟩) z4).trans y1,(b2.frozen (p:=⟨w1.heap.size,1,none⟩) z4).trans y2,b2⟩
    have HOW:Hid (∀W' ob,ZX wr W'→(W'.alloc ob).ownsRow w0.heap.size 91 2 vk k (Yt k (pB ps) dv)):=by
     intro W' ob hW';have h0:=HC.out.own.p.1;rw [show (ps.take k).length=k by rw [YC,HL.out];omega,show Yt k (pB (ps.take k)) dv=Yt k (pB ps) dv from WS (fun i hi=>by unfold pB;simp [List.getD,hi]) (fun _ _=>rfl)] at h0;refine Ud (Yy h0 (row:=none) ⟨hW'.os,hW'.tape,hW'.output,hW'.size,fun q hq _=>hW'.block q hq⟩ ?_) ob
     cases vk.ownBlock with
     | none=>exact .inl rfl
     | some q=>exact .inr (by simp)
    have qF:Hid (∀W' W4 ob,ZX wr W'→(World.alloc W' ob).grownBy W4 vk.ownBlock→W4.cell? ⟨w.heap.size,1,none⟩=some (.slice (some ⟨b,o,none⟩) n cb)∧W4.cell? ⟨b,o+k*2,none⟩=some (.int .i64 (pB ps k))∧W4.cell? ⟨b,o+k*2+1,none⟩=some (.slice da (pD ps k).length dc)∧W4.cell? ⟨w1.heap.size,1,none⟩=some vk∧W4.frozen? ⟨w1.heap.size,1,none⟩=false):=by
     intro W' W4 ob hW' hG;have hs:=hW'.size;have hv:∀q,vk.ownBlock=some q→w0.heap.size≤q:=fun q hq=>(ZO HC.out.own.p.1 q hq).1
     have hA:∀q,q<w0.heap.size→some q≠vk.ownBlock:=fun q hq e=>by have:=hv q e.symm;omega
     have hcell:∀p:Addr,p.block<wr.heap.size→some p.block≠vk.ownBlock→W4.cell? p=wr.cell? p∧W4.frozen? p=wr.frozen? p:=by
      intro p hp hne;have hp2:p.block<(World.alloc W' ob).heap.size:=by simp;omega
      have hb2:ZX wr (World.alloc W' ob):=hW'.alloc hs _;exact ⟨(hG.cell_far p hp2 hne).trans (hb2.cell hp),(hG.frozen_far p hp2 hne).trans (hb2.frozen hp)⟩
     have hbs:=BW.out.size;exact ⟨(hcell ⟨w.heap.size,1,none⟩ (by show w.heap.size<_;omega) (hA _ (by show w.heap.size<_;exact Y))).1.trans x1,(hcell ⟨b,o+k*2,none⟩ (by show b<_;omega) (hA b (by omega))).1.trans uS,(hcell ⟨b,o+k*2+1,none⟩ (by show b<_;omega) (hA b (by omega))).1.trans e2',
      (hcell ⟨w1.heap.size,1,none⟩ z4 (Ne.symm HC.out.p)).1.trans y1,(hcell ⟨w1.heap.size,1,none⟩ z4 (Ne.symm HC.out.p)).2.trans y2⟩
    have OT:Hid (∀(W' W4:World) (ob:Obj) (g cap:Nat) (v:Value),ZX wr W'→Own .u8 5 W' wr.heap.size v (pD ps k)→W4.ownsRow w0.heap.size 91 2 (.slice (some ⟨g,0,none⟩) (k+1) cap) (k+1) (Yt k (pB ps) dv++[.int .i64 (pB ps k),v])→(W'.alloc ob).grownBy W4 vk.ownBlock→(vk.ownBlock=some g∨g=W'.heap.size+1) →
        Hid (Th (W4.setCell ⟨w1.heap.size,1,none⟩ (.slice (some ⟨g,0,none⟩) (k+1) cap)) w0.heap.size w1.heap.size (k+1) (.slice a1 Z7.length c1) (.slice (some ⟨g,0,none⟩) (k+1) cap) Z7 ps (Zb dv k v))∧Hid (Below w0.heap.size (w1.alloc (.cells #[.slice a1 Z7.length c1,.slice none 0 0] 36)) (W4.setCell ⟨w1.heap.size,1,none⟩ (.slice (some ⟨g,0,none⟩) (k+1) cap)))):=by
     intro W' W4 ob g cap v hW o4 r4 g4 at4;have hs:w0.heap.size≤wr.heap.size:=by simp at sg;omega
     refine ⟨HC.out.step (by rw [HL.out];exact hlt) hs hW o4 r4 g4 at4,?_⟩;have:=((HG.out.trans (hW.mono hs)).alloc (ZP hs hW.size) ob).grown g4 (by have:=hW.size;simp;omega) (fun q hq=>(ZO HC.out.own.p.1 q hq).1);exact this.setCell (by show w0.heap.size≤w1.heap.size;exact oE) _
    have Lz:k+1≤maxLen:=by unfold maxLen;omega
    have Ly:(k+1)*32≤140737488355328:=by omega
    have hk0:(0:Int)≤(k:Int):=Int.natCast_nonneg _
    go_wp2_with fail
    have T:Hid (w0.heap.size≤wr.heap.size):=by show _≤_;simp at sg;omega
    clear RK HB1 Ko Nh GH O1 Uo HD
    go_region_law (first
        | (refine step_append_lies _ (by rfl) _ _ _ (by rfl) w0.heap.size 91 i0 _ 2 32 Tryz.underlying34 hi hz0 hz1 hz2 rfl (by omega) vk k (Yt k (pB ps) dv) (by rfl) (HOW.out w' _ bw.out) ⟨w'.heap.size,0,none⟩ 1 1 [.int .i64 (pB ps k),.slice a (pD ps k).length c] (by rfl) (by rfl) (Jg _ _ _ _) (by intro u hu;simp at hu;rcases hu with rfl | rfl <;> rfl)
            (by omega) Lz Ly (by have:=bw.out.size;have:=T.out;simp;omega) (w'.heap.size+1) (by simp) ?_;intro g4 cap4 w4 ST hg4 UE Qh;obtain ⟨q1,q2,q3,q4,q5⟩:=qF.out _ _ _ bw.out hg4)
        | (go_simp;go_at_call 53;refine Jw.out.mono ?_;rintro e w' ⟨a,c,rfl,o',k1,k2,k3,k4,k5,bw⟩;have k6:(w'.alloc (.cells #[.int .i64 (pB ps k),.slice a (pD ps k).length c] 91)).cell? ⟨w1.heap.size,1,none⟩=some vk:=(World.cell?_alloc_some _ _ _ (by rw [k4];rfl)).trans k4))
    all_goals
     obtain ⟨C4,G4⟩:=OT.out _ _ _ _ _ _ bw.out o'.out ST hg4 UE;clear ST hg4 UE Qh q1 q2 q3 q4 q5 o' bw k1 k2 k3 k4 k5 k6 qF HOW Jw OT HC HG;go_wp2
     go_roundw
     case rel=>exact ⟨k+1,_,_,by omega,by go_num,C4,G4⟩
     case measure=>simp [intOf];omega
  have hkn:k=n:=by omega
  subst hkn;obtain ⟨⟨z4,y0,y1⟩,-⟩:=HC.out.box;obtain ⟨⟨z5,d0,d1⟩,f0,f1⟩:=GG.out.ZL HG.out U;have HB:=Z8 (HW.out.trans (HG.out.mono s0));have OD:Hid (Zz wr w0.heap.size wr.heap.size (.slice a1 Z7.length c1) vk Z7 ps dv):=by
   have:=HC.out.own;rw [We (by rw [HL.out];exact ZW)] at this;exact this
  obtain ⟨a2,c2,rfl⟩:=OD.out.p.slice;clear HC HG;go_wp2;refine ZT (v:=.agg #[.slice a1 Z7.length c1,.slice a2 ps.length c2]) (by simp [results,Tryz.results24,go_sem,d0,d1]) rfl ⟨_,_,dv,rfl,?_,?_⟩
  · refine Zz.mono (lo:=w0.heap.size) (hi:=wr.heap.size) ?_ s0 (by simp)
    repeat (first | exact OD.out | refine Zz.within (l:=w.heap.size+1) (h:=w.heap.size+2) ?_ (Within.setCell _ ZW (by omega) _ _) (.inr (by omega)))
  repeat (first | exact HB.out | refine Zf ?_ (by simp;try omega) _)
end Go.Proofs.YtmmmffcbfepghaaGreatDoor


