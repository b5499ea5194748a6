import Derived.Test.YtpmjnbmkippaiaaGreatDoorJ09
set_option maxRecDepth 100000
set_option maxHeartbeats 16000000
set_option linter.unusedVariables false
set_option linter.unusedSimpArgs false
namespace Go.Proofs.YtpmjnbmkippaiaaGreatDoor
open Go.RowKit Go.Shelf
variable {cs:Array Value} {C9 L S c:Int} {D xs:List Int} {B Bd Bs N b base cap g o pB z:Nat} {κ:Sc} {σ:Sx} {v x y:Value} {W W' w:World}
theorem Hf (w:World) (vo vn:Value) (os:List Xd) (h:MJ w vo os) (hs:∀i,(Ut os i).seq=false) (hl:os.length≤1000) :
    Calls Tryz.prog 129 #[vo,vn] w (YI w (.string ⟨#[]⟩)):=by
 obtain ⟨ao,cp,rfl,h1,h2,h3⟩:=h;have HR:=Z3 h3;have HS:=Z3 hs;clear h3 hs
 go_enter Tryz.func129,Tryz.ntmps129
 go_wp2_with fail
 have W0:Hid ((w.alloc (.cells #[.pointer none,.slice none 0 0] 180)).heap[w.heap.size]?=some (.cells #[.pointer none,.slice none 0 0] 180)):=Y9 _ _;have B0:Hid (ZX w (w.alloc (.cells #[.pointer none,.slice none 0 0] 180))):=ZJ.alloc ZT _;generalize w.alloc _=w1 at *
 go_loopw [10] (fun v wr=>∃i:Nat,v=.int .i64 (i:Int)∧i≤os.length∧Hid (wr.heap[w.heap.size]?=some (.cells #[.pointer none,.slice none 0 0] 180))∧Hid (ZX w wr)) (fun v _=>((os.length:Int) - intOf v).toNat)
 case atStart=>exact ⟨0,rfl,Zu _,W0,B0⟩
 case round =>
  obtain ⟨i,rfl,hi,WH,BH⟩:=hrel
  by_cases hc:i<os.length
  · obtain ⟨b,off,rfl,hb,hcl⟩:=HR.out.resolve_left (fun e=>by rw [e] at hc;simp at hc)
    obtain ⟨k0,k1,k2,k3,k4⟩:=(hcl i hc).below BH.out hb;rw [HS.out i] at k4;clear hcl
    go_wp2_with fail
    have hw:=(Yh.mp WH.out).1;exact ⟨⟨i+1,by go_num,by omega,(Below.heap_alloc _ _ _ hw).trans WH.out,BH.out.alloc BH.out.size _⟩,by simp [intOf];omega⟩
  go_wp2_with fail
  refine (Tryz.Builder_String_empty w.heap.size w.heap.size wr (.inl ⟨ZT,.slice none 0 0,WH.out,Zl _ _ _ _,by simp [Value.ownBlock]⟩) BH.out.size).mono ?_;rintro e w' ⟨rfl,b'⟩;have B2:=Z3 (BH.out.trans b');clear b';go_wp2;go_ret;exact ⟨rfl,B2.out⟩
theorem uJ.new (w:World) (e:Ef):uJ (w.alloc (.cells #[.string e.nd.path,.string e.nd.data,.int .i64 e.nd.Zy,.int .i64 e.nd.Zw,.int .i64 e.nd.cz,.int .i64 e.nd.mz,.int .i64 e.nd.pz,.int .u8 (KE e)] 251)) w.heap.size e:=by
 have:=Y9 w (.cells #[.string e.nd.path,.string e.nd.data,.int .i64 e.nd.Zy,.int .i64 e.nd.Zw,.int .i64 e.nd.cz,.int .i64 e.nd.mz,.int .i64 e.nd.pz,.int .u8 (KE e)] 251);exact ⟨⟨⟨_,_,_,this,by decide⟩,(cell_of this _).trans rfl,(cell_of this _).trans rfl,(cell_of this _).trans rfl,(cell_of this _).trans rfl,(cell_of this _).trans rfl,(cell_of this _).trans rfl,(cell_of this _).trans rfl⟩,(cell_of this _).trans rfl⟩
theorem EL (w:World) (z:Int) (b o n cap:Nat) (ns:List Ef) (hp:ns.length=n) (hb:b<w.heap.size) (hc:∀i,i<n→Tx w b (o+i*8) (Yf ns i)) (hR:IJ w (.slice (some ⟨b,o,none⟩) n cap) ns)
    (hsz:∀i,(Yf ns i).nd.path.size≤1048576∧(Yf ns i).nd.data.size≤1048576) :
    Calls Tryz.prog 126 #[.agg #[.int .i64 z,.slice (some ⟨b,o,none⟩) n cap]] w fun e w'=>∃v',e=.returned v'∧Own .u8 5 w' w.heap.size v' (XX z ns)∧ZX w w':=by
 have HC:Hid (∀i,i<n→Tx w b (o+i*8) (Yf ns i)):=hc;have HP:Hid (ns.length=n):=hp;have HR:Hid (IJ w (.slice (some ⟨b,o,none⟩) n cap) ns):=hR;have HZ:Hid (∀i,(Yf ns i).nd.path.size≤1048576∧(Yf ns i).nd.data.size≤1048576):=hsz;have B0:Hid (ZX w (w.alloc (.cells #[.int .i64 z,.slice (some ⟨b,o,none⟩) n cap] 192))):=ZJ.alloc ZT _;have X0:Hid (KD (w.alloc (.cells #[.int .i64 z,.slice (some ⟨b,o,none⟩) n cap] 192)) w.heap.size z (.slice (some ⟨b,o,none⟩) n cap)):=KD.new _ _ _ _;clear hc hp hR hsz
 go_enter Tryz.func126,Tryz.ntmps126
 go_wp2_with fail
 generalize w.alloc _=w0 at *;refine (Tp _ _ _ ns (HR.out.below B0.out) HZ.out).mono ?_;rintro e w1 ⟨rfl,b1⟩;have B1:=Z3 (YV B0.out b1);have X1:=Z3 (X0.out.below b1);clear b1 X0 B0
 by_cases hok:WP z ns=true
 rotate_left
 · have hok':WP z ns=false:=by simpa using hok
   have HT:Hid (XX z ns=[]):=by show _=_;unfold XX;rw [Z1 hok]
   rw [hok'];clear hok hok';go_wp2;go_ret;exact ⟨_,rfl,(by rw [HT.out];exact Zl _ _ _ _),B1.out⟩
 obtain ⟨g1,g2,g3,g4⟩:=Qg hok;rw [HP.out] at g3 g4;obtain ⟨Z,rfl⟩:∃Z:Nat,z=(Z:Int):=⟨z.toNat,by omega⟩;have HT:Hid (XX Z ns=Zk Z 4++Zk n 2++Wz ns):=by show _=_;unfold XX;rw [ZZ hok,HP.out,Ww]
 have Ub:Hid (∀k,k<n→Wl (Yf ns k)=true):=g4;have To:Hid (∀k,k≤n→(Wz (ns.take k)).length≤k*189):=fun k hk=>LP (fun k hk=>g4 k (by rw [←HP.out];exact hk)) k (by rw [HP.out];exact hk)
 rw [hok];clear hok g4;obtain ⟨z1,c0,c1⟩:=X1.out;have s1:w.heap.size+1≤w1.heap.size:=z1;have D1:Hid (Below (w.heap.size+1) w1 w1):=ZJ;have C1:Hid (w1.cell? ⟨w.heap.size,1,none⟩=some (.slice (some ⟨b,o,none⟩) n cap)):=c1
 go_wp2_with fail
 refine (YQ w1 (w.heap.size+1) (.slice none 0 0) [] Z 4 (Zl _ _ _ _) s1 (by simp) (by omega)).mono ?_;rintro e w2 ⟨v2,rfl,o2,b2,-⟩;have O2:Hid (Own .u8 5 w2 (w.heap.size+1) v2 (Zk Z 4)):=o2;have D2:Hid (Below (w.heap.size+1) w1 w2):=b2;clear o2 b2 c0 c1 D1;have c1:=(D2.out.cell (p:=⟨w.heap.size,1,none⟩) (OQ _)).trans C1.out;have s2:w.heap.size+1≤w2.heap.size:=ZF s1 D2.out.size
 go_wp2_with fail
 refine (YQ w2 (w.heap.size+1) v2 (Zk Z 4) n 2 O2.out s2 (by rw [Zb];omega) (by omega)).mono ?_;rintro e w3 ⟨v3,rfl,o3,b3,-⟩;obtain ⟨H,hH⟩:∃H,H=Zk Z 4++Zk n 2:=⟨_,rfl⟩;have HH:Hid (H.length=6):=by show _=_;rw [hH,ZA,Zb,Zb]
 rw [←hH] at o3 HT;have O3:Hid (Own .u8 5 w3 (w.heap.size+1) v3 (H++Wz (ns.take 0))):=by show Own _ _ _ _ _ _;rw [PO,show Wz []=[] from rfl,TX];exact o3
 have D3:=Z3 (D2.out.trans b3);clear o3 b3 hH O2 D2 c1;have c1:=(D3.out.cell (p:=⟨w.heap.size,1,none⟩) (OQ _)).trans C1.out;go_wp2
 go_loopw [3,21] (fun vi vk wr=>∃k:Nat,k≤n∧vk=.int .i64 k∧Hid (Own .u8 5 wr (w.heap.size+1) vi (H++Wz (ns.take k)))∧Hid (Below (w.heap.size+1) w1 wr)) (fun _ i _=>n - (intOf i).toNat)
 case atStart=>exact ⟨0,Zu _,rfl,O3,D3⟩
 case round =>
  clear c1;obtain ⟨k,hk,rfl,HW,HD⟩:=hrel;have sD:w.heap.size+1≤wr.heap.size:=ZF s1 HD.out.size
  by_cases hlt:k<n
  · have Vp:(k:Int)<(n:Int):=by omega
    obtain ⟨c0,c1,c2,c3,c4,c5,c6,c7⟩:=((HC.out k hlt).below B1.out hb).below HD.out (Nat.lt_succ_of_lt hb)
    go_wp2_with fail
    clear c0 c1 c2 c3 c4 c5 c6 c7;refine (Io _ (Yf ns k)).mono ?_;rintro e w4 ⟨rfl,b4⟩;have D4:Hid (Below (w.heap.size+1) w1 w4):=(HD.out.alloc sD _).trans (b4.mono (by simp;omega));have O4:Hid (Own .u8 5 w4 (w.heap.size+1) u3 (H++Wz (ns.take k))):=(HW.out.below (ZJ.alloc ZT _)).below b4;have s4:w.heap.size+1≤w4.heap.size:=ZF s1 D4.out.size;clear b4 HW HD
    go_wp2_with fail
    refine (Fl _ (w.heap.size+1) u3 (H++Wz (ns.take k)) w4.heap.size (Yf ns k) ?e1 ?e2 ?e3 ?e4 (Ub.out k hlt)).mono ?_
    case e1=>exact O4.out.below (ZJ.alloc ZT _)
    case e2=>simp;omega
    case e3=>have:=To.out k hk;rw [ZA,HH.out];omega
    case e4=>exact uJ.new _ _
    rintro e w5 ⟨v5,rfl,o5,b5,-⟩;have O5:Hid (Own .u8 5 w5 (w.heap.size+1) v5 (H++Wz (ns.take (k+1)))):=by
     rw [YM,NS ns k (by rw [HP.out];exact hlt)] at o5;exact o5
    have D5:Hid (Below (w.heap.size+1) w1 w5):=(D4.out.alloc s4 _).trans b5;clear o5 b5 O4 D4;go_wp2;exact ⟨⟨k+1,by omega,by go_num,O5,D5⟩,by simp [intOf];omega⟩
  have hkn:k=n:=by omega
  subst hkn;go_wp2;go_ret;refine ⟨_,rfl,?_,B1.out.trans (HD.out.mono (Mr _))⟩;rw [HT.out,←Ci ns k (by rw [HP.out];exact ZT)];exact HW.out.mono (Mr _)
theorem EK (w:World) (z:Int) (ao:Option Addr) (cap:Nat) (hc:cap≤maxLen) :
    Calls Tryz.prog 126 #[.agg #[.int .i64 z,.slice ao 0 cap]] w fun e w'=>∃v',e=.returned v'∧Own .u8 5 w' w.heap.size v' (XX z [])∧ZX w w':=by
 have HR:Hid (IJ w (.slice ao 0 cap) []):=⟨ao,cap,rfl,Zu _,hc,.inl rfl⟩;have B0:Hid (ZX w (w.alloc (.cells #[.int .i64 z,.slice ao 0 cap] 192))):=ZJ.alloc ZT _;have X0:Hid (KD (w.alloc (.cells #[.int .i64 z,.slice ao 0 cap] 192)) w.heap.size z (.slice ao 0 cap)):=KD.new _ _ _ _;clear hc
 go_enter Tryz.func126,Tryz.ntmps126
 go_wp2_with fail
 generalize w.alloc _=w0 at *;refine (Tp _ _ _ [] (HR.out.below B0.out) (fun i=>by simp [Yf,eP,nd0])).mono ?_;rintro e w1 ⟨rfl,b1⟩;have B1:=Z3 (YV B0.out b1);have X1:=Z3 (X0.out.below b1);clear b1 X0 B0
 by_cases hok:WP z []=true
 rotate_left
 · have hok':WP z []=false:=by simpa using hok
   have HT:Hid (XX z []=[]):=by show _=_;unfold XX;rw [Z1 hok]
   rw [hok'];clear hok hok';go_wp2;go_ret;exact ⟨_,rfl,(by rw [HT.out];exact Zl _ _ _ _),B1.out⟩
 obtain ⟨g1,g2,-,-⟩:=Qg hok;obtain ⟨Z,rfl⟩:∃Z:Nat,z=(Z:Int):=⟨z.toNat,by omega⟩;have HT:Hid (XX Z []=Zk Z 4++Zk 0 2):=by show _=_;unfold XX;rw [ZZ hok,Ww];simp [Wz]
 rw [hok];clear hok;obtain ⟨z1,c0,c1⟩:=X1.out;have s1:w.heap.size+1≤w1.heap.size:=z1;have C1:Hid (w1.cell? ⟨w.heap.size,1,none⟩=some (.slice ao 0 cap)):=c1
 go_wp2_with fail
 refine (YQ w1 (w.heap.size+1) (.slice none 0 0) [] Z 4 (Zl _ _ _ _) s1 (by simp) (by omega)).mono ?_;rintro e w2 ⟨v2,rfl,o2,b2,-⟩;have O2:Hid (Own .u8 5 w2 (w.heap.size+1) v2 (Zk Z 4)):=o2;have D2:Hid (Below (w.heap.size+1) w1 w2):=b2;clear o2 b2 c0 c1;have c1:=(D2.out.cell (p:=⟨w.heap.size,1,none⟩) (OQ _)).trans C1.out;have s2:w.heap.size+1≤w2.heap.size:=ZF s1 D2.out.size
 go_wp2_with fail
 refine (YQ w2 (w.heap.size+1) v2 (Zk Z 4) 0 2 O2.out s2 (by rw [Zb];omega) (by omega)).mono ?_;rintro e w3 ⟨v3,rfl,o3,b3,-⟩;have O3:Hid (Own .u8 5 w3 w.heap.size v3 (XX Z [])):=by rw [HT.out];exact o3.mono (Mr _)
 have D3:=Z3 (D2.out.trans b3);clear o3 b3 O2 D2 c1;have c1:=(D3.out.cell (p:=⟨w.heap.size,1,none⟩) (OQ _)).trans C1.out;go_wp2
 go_rounds 1
 go_ret;exact ⟨_,rfl,O3.out,B1.out.trans (D3.out.mono (Mr _))⟩
theorem EJ (w:World) (z:Int) (v:Value) (ns:List Ef) (h:IJ w v ns) (hsz:∀i,(Yf ns i).nd.path.size≤1048576∧(Yf ns i).nd.data.size≤1048576) :
    Calls Tryz.prog 126 #[.agg #[.int .i64 z,v]] w fun e w'=>∃v',e=.returned v'∧Own .u8 5 w' w.heap.size v' (XX z ns)∧ZX w w':=by
 have h0:=h;obtain ⟨ao,cap,rfl,h1,h2,h3⟩:=h
 rcases h3 with rfl | ⟨b,o,rfl,hb,hc⟩
 · exact EK w z ao cap h2
 exact EL w z b o ns.length cap ns rfl hb hc h0 hsz
theorem He {ys:List Int} (h:Wm xs) (h':Wm ys):Wm (xs++ys):=fun x hx=>by
 rcases XP.1 hx with hx | hx
 · exact h x hx
 exact h' x hx
theorem Nq {s:ByteArray} (h:s.size<256):Wm (MR s):=by
 intro x hx;unfold MR at hx
 rcases XP.1 hx with hx | hx
 · simp at hx;omega
 unfold XS at hx;obtain ⟨b,-,rfl⟩:=List.mem_map.1 hx;have:=b.toNat_lt;omega
theorem Ui {n:Nd} (h:YL n=true):Wm (Yi n):=by
 have hs:=Xj h;intro x hx;unfold Yi iM at hx
 simp only [XP] at hx
 rcases hx with (hx | hx) | ((((hx | hx) | hx) | hx) | hx)
 · exact Nq (by omega) x hx
 · exact Nq (by omega) x hx
 all_goals exact WQ _ _ x hx
theorem wy (z:Int) (es:List Ef):Wm (XX z es):=by
 unfold XX
 split
 · rename_i h
   obtain ⟨-,-,-,h4⟩:=Qg h;refine He (He (WQ 4 _) (WQ 2 _)) ?_;intro x hx;unfold Wz at hx;obtain ⟨e,he,hx⟩:=List.mem_flatMap.1 hx;obtain ⟨i,hi,rfl⟩:=List.mem_iff_getElem.1 he;have h5:=NT (h4 i hi);rw [Q3 hi] at h5;have h6:=Xj h5;unfold SL at hx
   split at hx
   · rcases XP.1 hx with h | h
     · simp at h;subst h;omega
     exact Nq (by omega) x h
   rcases XP.1 hx with h | h
   · simp at h;subst h;omega
   exact Ui h5 x h
 intro x hx;cases hx
end Go.Proofs.YtpmjnbmkippaiaaGreatDoor
namespace Go.Proofs.YtpmjnbmkippaiaaGreatDoor
variable {cs:Array Value} {C9 L S c:Int} {D xs:List Int} {B Bd Bs N b base cap g o pB z:Nat} {κ:Sc} {σ:Sx} {v x y:Value} {W W' w:World}
theorem EI (h0:0<xs.length) (h1:xs.length≤2000):(fr xs).length=2+(8*xs.length+6) / 7:=by
 rw [yb h0 h1,ZA,Mb];rfl
end Go.Proofs.YtpmjnbmkippaiaaGreatDoor
namespace Go.Proofs.YtpmjnbmkippaiaaGreatDoor
open Go.RowKit Go.Conc
variable {cs:Array Value} {C9 L S c:Int} {D xs:List Int} {B Bd Bs N b base cap g o pB z:Nat} {κ:Sc} {σ:Sx} {v x y:Value} {W W' w:World}
def EH (κ:Sc) (σ:Sx) (A:Pa):ByteArray × Sx :=
 if A.c≠0 then (strOfNums (Yx ⟨#[101,114,114,111,114]⟩ [A.c.toNat]),σ)
 else if κ.L*64<(((σ.full.length - σ.off)+(σ.ql+(fr (XX A.z A.es)).length):Nat):Int) then (strOfNums (Yx ⟨#[101,114,114,111,114]⟩ [8]),σ)
 else (strOfNums (Yx ⟨#[113,117,101,117,101,100]⟩ [A.z.toNat]),{ σ with Q:=TQ σ.Q A.z A.es,zq:=A.z.toNat,fs:=σ.fs++[fr (XX A.z A.es)],ql:=σ.ql+(fr (XX A.z A.es)).length })
structure jU (w:World) (vo vn ve vx:Value) (pa:ByteArray) (A:Pa) (b5:Nat) (W:World):Prop where
 YU:ZX w W
 ln:St W w.heap.size [.int .i64 1,vo,.bool false,.string pa,vn]
 pr:St W b5 [.int .i64 A.c,.int .i64 A.i,ve,.int .i64 A.z,vx]
 lo:w.heap.size<b5
 es:IJ W vx A.es
 xf:∀q,vx.ownBlock=some q→w.heap.size≤q
theorem jU.below {vo vn ve vx:Value} {pa:ByteArray} {A:Pa} {b5:Nat} (h:jU w vo vn ve vx pa A b5 W) (hb:ZX W W'):jU w vo vn ve vx pa A b5 W' :=
 ⟨h.YU.trans (hb.mono h.YU.size),h.ln.below hb,h.pr.below hb,h.lo,h.es.below hb,h.xf⟩
theorem Hd (κ:Sc) (σ:Sx) (w:World) (h:Sv κ σ w) (vo vn:Value) (pa:ByteArray) (os:List Xd) (ho:MJ w vo os) (EG:Tk κ vo) (hseq:∀i,(Ut os i).seq=false) (hol:os.length≤1000) (hos:∀i,(Ut os i).path.size≤1048576∧(Ut os i).data.size≤1048576)
    (hQ:∀i,(ZC σ.Q i).path.size≤1048576∧(ZC σ.Q i).data.size≤1048576) (hz:σ.zq<900000) (A:Pa) (hA:EN σ.Q os ((σ.zq:Int)+1)=A) (fK:0≤A.c∧A.c<1000) (fJ:0≤A.z∧A.z<1000000)
    (hes:∀i,(Yf A.es i).nd.path.size≤1048576∧(Yf A.es i).nd.data.size≤1048576) (him:A.c=0→0<(XX A.z A.es).length∧(XX A.z A.es).length≤2000) (hL:0≤κ.L∧κ.L≤64) (hfl:σ.full.length≤4096) (qw:σ.ql≤4096)
    (hroom:A.c=0→(((σ.full.length - σ.off)+(σ.ql+(fr (XX A.z A.es)).length):Nat):Int)≤κ.L*64→σ.fs.length<κ.cap)
    (hg:w.cell? ⟨5,0,none⟩=some (.iface 345 (.agg #[.pointer (some ⟨11,182,none⟩)]))) (htab:iD κ w) :
    Calls Tryz.prog 78 #[.pointer (some ⟨κ.sB,0,none⟩),.agg #[.int .i64 1,vo,.bool false,.string pa,vn]] w fun e w'=>e=.returned (.string (EH κ σ A).1)∧Gs κ w w'∧Sv κ (EH κ σ A).2 w':=by
 obtain ⟨vt,vq,cp,b1,b2,b3,b4,b5,b6,b7,b8⟩:=h.mm;obtain ⟨vd,made,ZQ,a1,-⟩:=h.dk;obtain ⟨qa,qc,rfl,-⟩:=Wx.len b3;obtain ⟨oa,oc,rfl,-⟩:=ho.len;have hsb:=a1.lt;have hmb:=b1.lt;have hgb:=YJ w _ hg;have hb1:=(Below.refl w.heap.size w).alloc ZT (.cells #[.int .i64 1,.slice oa os.length oc,.bool false,.string pa,vn] 43);have BL:Hid (ZX w (w.alloc (.cells #[.int .i64 1,.slice oa os.length oc,.bool false,.string pa,vn] 43))):=hb1;have LN:Hid (St (w.alloc (.cells #[.int .i64 1,.slice oa os.length oc,.bool false,.string pa,vn] 43)) w.heap.size [.int .i64 1,.slice oa os.length oc,.bool false,.string pa,vn]):=St.new _ _ _;have lK:Hid (∀W,ZX w W→Calls Tryz.prog 125 #[.agg #[.slice qa σ.Q.length qc],.agg #[.slice oa os.length oc],.int .i64 ((σ.zq:Int)+1)] W fun e w'=>PA W A e w'):=fun W hW=>by
  rw [←hA];exact AV W _ _ σ.Q os _ (b3.below hW) (ho.below hW) hQ hos ((hW.cell (p:=⟨5,0,none⟩) hgb).trans hg) (ZL hgb hW.size) (Vi (htab w (Gs.ZV ZJ).gw) hW)
 have A1:=Z3 a1;have B1:=Z3 b1;have HV:=Z3 h;have HO:=Z3 ho;clear h a1 b1 b2 b3 b7 ho hb1;refine QT Tryz.func78 rfl ?_
 simp only [Tryz.ntmps78,Zm,Yr,Wo,Nat.reduceAdd,Nat.reduceSub,JQ,JO,Wj,Ur,Yw,Vq]
 refine Yy (fun K hK=>WY ?_);have HK:Hid _:=hK;clear hK
 go_wp2_with fail
 refine HK.out _ _ ?_;clear HK K;generalize w.alloc _=w1 at *;refine rZ (fun a W=>∃(b5:Nat) (ve vx:Value) (u9 u10 u11 u12 u13 u14 u15 u16 u17 u18 u19 u20 u21 u22 u23 u24 u25 u26 u27 u28:Value),a={ tmps:=#[.pointer (some ⟨κ.sB,0,none⟩),.agg #[.int .i64 1,.slice oa os.length oc,.bool false,.string pa,vn],undef,.pointer (some ⟨w.heap.size,0,none⟩),.string ⟨#[]⟩,.pointer (some ⟨b5,0,none⟩),undef,undef,undef,u9,u10,u11,u12,u13,u14,u15,u16,u17,u18,u19,u20,u21,u22,u23,u24,u25,u26,u27,u28,undef,undef,undef,undef,undef,undef,undef,undef,undef,undef,undef,undef,undef,undef,undef,undef,undef,undef,undef,undef,undef,undef,undef,undef,undef,undef,undef,undef,undef,undef,undef,undef,undef,undef,undef,undef,undef,undef,undef,undef,undef,undef,undef,undef,undef,undef,undef,undef,undef,undef,undef,undef,undef,undef,undef,undef,undef,undef,undef,undef,undef,undef,undef,undef,undef,undef,undef,undef,undef,undef,undef,undef,undef,undef,undef,undef,undef,undef,undef,undef,undef,undef,undef,undef,undef,undef,undef,undef,undef,undef,undef,undef,undef,undef,undef,undef,undef,undef,undef,undef,undef,undef,undef,undef,undef,undef,undef],defers:=[] }∧Hid (jU w (.slice oa os.length oc) vn ve vx pa A b5 W)) ?rest (WY ?_)
 case rest =>
  clear lK BL LN;rintro a W ⟨b5,ve,vx,u9,u10,u11,u12,u13,u14,u15,u16,u17,u18,u19,u20,u21,u22,u23,u24,u25,u26,u27,u28,rfl,HR⟩;obtain ⟨c,i,z,NL,es⟩:=A
  simp only at hA fK fJ hes him hroom HR
  obtain ⟨cn,rfl⟩:∃cn:Nat,c=(cn:Int):=⟨c.toNat,by omega⟩;obtain ⟨Y,rfl⟩:∃Y:Nat,z=(Y:Int):=⟨z.toNat,by omega⟩;have V1:=Z3 (HV.out.below HR.out.YU);have G1:Hid (Gs κ w W):=Gs.ZV HR.out.YU;have p0:=HR.out.pr.cl 0 _ rfl;have l2:=HR.out.ln.cl 2 _ rfl
  by_cases hc:cn=0
  · subst hc
    obtain ⟨hi0,hi1⟩:=him rfl;have hroom':=hroom rfl;have Z6:=Z3 hroom';obtain ⟨xa,xc,rfl,-⟩:=IJ.len HR.out.es;have p3:=HR.out.pr.cl 3 _ rfl;have p4:=HR.out.pr.cl 4 _ rfl;have HE:=Z3 (EJ W (Y:Int) _ es HR.out.es hes);clear him hroom hroom';refine Yy (fun K hK=>WY ?_);have HK:Hid _:=hK;clear hK
    go_wp2_with fail
    refine HK.out _ _ ?_;clear HK K;refine Yy (fun K hK=>WY ?_);have HK:Hid _:=hK;clear hK
    go_wp2_with fail
    refine HK.out _ _ ?_;clear HK K;refine Yy (fun K hK=>WY ?_);have HK:Hid _:=hK;clear hK
    go_wp2_with fail
    refine HE.out.mono ?_;rintro e w2 ⟨v6,rfl,o6,b2⟩;have R2:=Z3 (HR.out.below b2);have hz2:=R2.out.YU.size;have V2:=Z3 (V1.out.below b2);have G2:=Z3 (G1.out.trans (Gs.ZV b2));obtain ⟨ia,ic,rfl⟩:=Own.slice o6;have HF:=Z3 (MP w2 _ _ o6.rd (wy _ _) (by omega));have J:0<(fr (XX (Y:Int) es)).length∧(fr (XX (Y:Int) es)).length≤2300:=by rw [EI hi0 hi1];omega
    clear HE V1 G1 HR p0 l2 p3 p4 b2 o6;obtain ⟨il,hil⟩:∃n,n=(XX (Y:Int) es).length:=⟨_,rfl⟩;rw [←hil] at hi0 hi1 HF;rw [←hil];obtain ⟨F,hF⟩:∃F,F=fr (XX (Y:Int) es):=⟨_,rfl⟩;rw [←hF] at J HF Z6;have Z5:=Z3 hF;clear hF hil;have Y':¬(2000:Int)<(il:Int):=by omega
    go_wp2_with fail
    refine HK.out _ _ ?_;clear HK K;refine Yy (fun K hK=>WY ?_);have HK:Hid _:=hK;clear hK
    go_wp2_with fail
    refine HK.out _ _ ?_;clear HK K;refine Yy (fun K hK=>WY ?_);have HK:Hid _:=hK;clear hK
    go_wp2_with fail
    refine HF.out.mono ?_;rintro e w3 ⟨v7,rfl,o7,b3⟩;have R3:=Z3 (R2.out.below b3);have V3:=Z3 (V2.out.below b3);have G3:=Z3 (G2.out.trans (Gs.ZV b3));have s3:=b3.size;obtain ⟨fg,fc,rfl,Y3,Y2⟩:=o7.pos rfl (by omega);have O7:=Z3 o7;clear HF V2 G2 R2 b3 o7;obtain ⟨YW,YS,jY,m3,q2,q3,q4,q5,q6,q7,q8⟩:=V3.out.mm;obtain ⟨YR,Zn,Y1,s3',-⟩:=V3.out.dk;have c0:=s3'.cl 0 _ rfl;have m5:=m3.cl 5 _ rfl;have hw1:IntKind.i64.wrap ((σ.ql:Int)+(F.length:Int))=(σ.ql:Int)+(F.length:Int):=by rw [XK];omega
    go_wp2_with fail
    refine HK.out _ _ ?_;clear HK K;refine Yy (fun K hK=>WY ?_);have HK:Hid _:=hK;clear hK
    go_wp2_with fail
    refine HK.out _ _ ?_;clear HK K;refine Yy (fun K hK=>WY ?_);have HK:Hid _:=hK;clear hK
    go_wp2_with fail
    have b4:=below_drewN' w3 1;have R4:Hid (jU w (.slice oa os.length oc) vn ve (.slice xa es.length xc) pa ⟨0,i,(Y:Int),NL,es⟩ b5 w3.drew):=R3.out.below b4;have V4:Hid (Sv κ σ w3.drew):=V3.out.below b4;have G4:Hid (Gs κ w w3.drew):=G3.out.trans (Gs.ZV b4);have O8:Hid (Own .u8 5 w3.drew w2.heap.size (.slice (some ⟨fg,0,none⟩) F.length fc) F):=Own.below O7.out b4;obtain ⟨lg,lM⟩:∃n,n=σ.full.length - σ.off:=⟨_,rfl⟩;obtain ⟨la,hla⟩:∃x,x=κ.lo+(if σ.off=jY then 0 else σ.off):=⟨_,rfl⟩;have m11:w3.cell? ⟨κ.mB,11,none⟩=some (.slice (some ⟨κ.lb,la,none⟩) lg (jY - σ.off)):=by rw [lM,hla];exact m3.cl 11 _ rfl
    clear hla;have c2:=s3'.cl 2 _ rfl;have Y0:lg≤4096:=by omega
    have m:=Z3 lM;clear lM V3 G3 R3 O7 m5 q2 q3 q4 q5 q6 q7 q8;refine ZH (S:=fun W=>W.cell? ⟨κ.sB,0,none⟩=some (.pointer (some ⟨κ.mB,0,none⟩))∧W.cell? ⟨κ.sB,2,none⟩=some (.int .i64 κ.L)∧W.cell? ⟨κ.mB,11,none⟩=some (.slice (some ⟨κ.lb,la,none⟩) lg (jY - σ.off))) (by kernel_rfl) ⟨c0,c2,m11⟩ (fun Z9=>?_);clear c0 c2 m11 m3 s3' b4;generalize w3.drew=w4 at *
    iterate 9 (refine ZW ?_ Z9 ?_ ?_;rotate_left;· intro w9 Z0;obtain ⟨k0,k1,k2⟩:=Z0;go_simp;try with_reducible rfl)
    refine ZW (.int .i64 ((lg:Int)+((σ.ql:Int)+(F.length:Int)))) Z9 ?_ ?_
    · intro w9 Z0;obtain ⟨k0,k1,k2⟩:=Z0;go_simp;rw [XK];omega
    iterate 5 (refine ZW ?_ Z9 ?_ ?_;rotate_left;· intro w9 Z0;obtain ⟨k0,k1,k2⟩:=Z0;go_simp;try with_reducible rfl)
    refine ZW (.int .i64 (κ.L*64)) Z9 ?_ ?_
    · intro w9 Z0;obtain ⟨k0,k1,k2⟩:=Z0;go_simp;rw [XK];omega
    refine ZW ?_ Z9 ?_ ?_
    rotate_left
    · intro w9 Z0;obtain ⟨k0,k1,k2⟩:=Z0;go_simp;try with_reducible rfl
    refine ZP (by kernel_rfl) ?_ _
    try simp only [Act.put,Y8,Y7,Y6]
    clear Z9
    by_cases hbig:κ.L*64<(lg:Int)+((σ.ql:Int)+(F.length:Int))
    · go_wp2_with fail
      have TT:Calls Tryz.prog 71 #[.string ⟨#[101,114,114,111,114]⟩,.slice (some ⟨w4.heap.size,0,none⟩) 1 1] (w4.alloc (.cells #[.int .i64 8] 2)) (YI w4 (.string (strOfNums (Yx ⟨#[101,114,114,111,114]⟩ [8])))):=Tf w4 _ 8 (by decide) (by decide) (htab _ G4.out.gw);refine TT.mono ?_;rintro e w5 ⟨rfl,Z4⟩;clear TT
      go_wp2_with fail
      go_ret;have e:EH κ σ ⟨((0:Nat):Int),i,(Y:Int),NL,es⟩=(strOfNums (Yx ⟨#[101,114,114,111,114]⟩ [8]),σ):=by
       unfold EH;rw [Z1 (by simp),←Z5.out,←m.out,ZZ (by show κ.L*64<((lg+(σ.ql+F.length):Nat):Int);omega)]
      rw [e];exact ⟨rfl,G4.out.trans (Gs.ZV Z4),V4.out.below Z4⟩
    go_wp2_with fail
    refine HK.out _ _ ?_;clear HK K;obtain ⟨fP,fO,qy,m4,-⟩:=V4.out.mm;obtain ⟨eH,qx,fN,s4,-⟩:=V4.out.dk;obtain ⟨Lv,ss,rr,c1,c2,c3⟩:=V4.out.ch;have k0:=s4.cl 0 _ rfl;have k4:=m4.cl 4 _ rfl;have hcap:Lv.toArray.size<κ.cap:=by
     have:=Z6.out (by rw [←m.out];show ((lg+(σ.ql+F.length):Nat):Int)≤κ.L*64;omega);have e:=c2.1
     simp only [Zm];omega
    refine Yy (fun K hK=>?_);have HK:Hid _:=hK;clear hK;refine ND (pre:=[0,1,2,3,4,5,6,7]) (suf:=[]) 8 rfl rfl ?_;refine ⟨_,.pointer (some ⟨κ.sB,0,none⟩),w4,rfl,by kernel_rfl,by kernel_rfl,?_⟩;refine ⟨_,.pointer (some ⟨κ.sB,0,none⟩),w4,rfl,by kernel_rfl,by kernel_rfl,?_⟩;refine ⟨_,.pointer (some ⟨κ.sB,0,none⟩),w4,rfl,by kernel_rfl,by kernel_rfl,?_⟩;refine ⟨_,.pointer (some ⟨κ.mB,0,none⟩),w4,rfl,by kernel_rfl,?_,?_⟩
    · go_simp
    refine ⟨_,.pointer (some ⟨κ.mB,0,none⟩),w4,rfl,by kernel_rfl,by kernel_rfl,?_⟩;refine ⟨_,.pointer (some ⟨κ.mB,4,none⟩),w4,rfl,by kernel_rfl,by kernel_rfl,?_⟩;refine ⟨_,.chan (some κ.c),w4,rfl,by kernel_rfl,?_,?_⟩
    · go_simp
    refine ⟨_,.slice (some ⟨fg,0,none⟩) F.length fc,w4,rfl,by kernel_rfl,by kernel_rfl,?_⟩;refine ⟨by kernel_rfl,#[scase κ.c (.slice (some ⟨fg,0,none⟩) F.length fc) undef],true,.send,undef,w4.setChan κ.c κ.cap (Lv.toArray.push (.slice (some ⟨fg,0,none⟩) F.length fc)) false (ss+1) rr false,?_,xJ c1 hcap,?_⟩
    · kernel_rfl
    show K _ _;refine HK.out _ _ ?_;clear HK K;have Qc:Tk κ (.slice (some ⟨fg,0,none⟩) F.length fc):=HV.out.far (fun q hq=>by
     simp only [Value.ownBlock,Zo] at hq
     have:=R4.out.YU.size;omega)
    obtain ⟨V5,G5⟩:=V4.out.sent c1 O8.out.rd J.1 Qc;have V5:=Z3 V5;have Q4:lB κ w.heap.size (.slice oa os.length oc) vn ve (.slice xa es.length xc) os pa ⟨0,i,(Y:Int),NL,es⟩ b5 w4:=⟨HV.out.jV,R4.out.ln,R4.out.pr,R4.out.lo,R4.out.es,R4.out.xf,HO.out.below R4.out.YU,EG⟩;have Q5:=Z3 (Q4.gs G5);have G5:=Z3 (G4.out.trans G5);clear Q4 V4 G4 R4 O8 c1 c2 c3 k0 k4 m4 s4 hcap Qc HO;generalize w4.setChan κ.c κ.cap (Lv.toArray.push (.slice (some ⟨fg,0,none⟩) F.length fc)) false (ss+1) rr false=w5 at *;obtain ⟨V6,G6⟩:=V5.out.fL (σ.ql+F.length);rw [Int.natCast_add] at V6 G6;have V6:=Z3 V6;have Q6:=Z3 (Q5.out.gs G6);have G6:=Z3 (G5.out.trans G6);obtain ⟨eG,eF,fI,m5,-⟩:=V5.out.mm;obtain ⟨YP,Zf,YZ,s5,-⟩:=V5.out.dk;have k0:=s5.cl 0 _ rfl;have k5:=m5.cl 5 _ rfl;have f5:=m5.fz 5;clear V5 G5 Q5 m5 s5;refine WY ?_
    go_wp2_with fail
    clear k0 k5 f5;generalize w5.setCell _ _=w6 at *;have b7:=below_drewN' w6 1;have V7:Hid (Sv κ { σ with fs:=σ.fs++[F],ql:=σ.ql+F.length } w6.drew):=V6.out.below b7;have G7:Hid (Gs κ w w6.drew):=G6.out.trans (Gs.ZV b7);have Q7:Hid (lB κ w.heap.size (.slice oa os.length oc) vn ve (.slice xa es.length xc) os pa ⟨0,i,(Y:Int),NL,es⟩ b5 w6.drew):=Q6.out.gs (Gs.ZV b7);clear V6 G6 Q6 b7;obtain ⟨YK,YG,YF,m7,-,r7,n7,-,f7,-⟩:=V7.out.mm;obtain ⟨dY,jX,fM,s7,-⟩:=V7.out.dk;obtain ⟨ya,yc,rfl,-⟩:=Wx.len r7;have M7:=Z3 m7;have S7:=Z3 s7;have jT:=Z3 (MO w6.drew _ σ.Q (Y:Int) _ es r7 n7 Q7.out.es hQ hes);have k2:w6.drew.cell? ⟨κ.mB,2,none⟩=some (.slice ya σ.Q.length yc):=M7.out.cl 2 _ rfl;have K2:=Z3 k2;clear k2 r7 n7 f7 m7 s7;refine ZH (S:=fun W=>W.cell? ⟨κ.sB,0,none⟩=some (.pointer (some ⟨κ.mB,0,none⟩))∧W.cell? ⟨b5,3,none⟩=some (.int .i64 (Y:Int))∧W.cell? ⟨b5,4,none⟩=some (.slice xa es.length xc)) (by kernel_rfl) ⟨S7.out.cl 0 _ rfl,Q7.out.pr.cl 3 _ rfl,Q7.out.pr.cl 4 _ rfl⟩ (fun Z9=>?_);generalize w6.drew=w7 at *
    iterate 11 (refine ZW ?_ Z9 ?_ ?_;rotate_left;· intro w9 Z0;obtain ⟨k0,k1,k2⟩:=Z0;go_simp;try with_reducible rfl)
    refine ZG 12 ?v29 rfl Z9 ?hy29 ?_
    case hy29=>intro w9 Z0;obtain ⟨k0,k1,k2⟩:=Z0;go_simp;try with_reducible rfl
    refine ZG 13 ?v30 rfl Z9 ?wG ?_
    case wG=>intro w9 Z0;obtain ⟨k0,k1,k2⟩:=Z0;go_simp;try with_reducible rfl
    refine ZG 15 ?v31 rfl Z9 ?hy31 ?_
    case hy31=>intro w9 Z0;obtain ⟨k0,k1,k2⟩:=Z0;go_simp;try with_reducible rfl
    refine ZG 16 ?v32 rfl Z9 ?hy32 ?_
    case hy32=>intro w9 Z0;obtain ⟨k0,k1,k2⟩:=Z0;go_simp;try with_reducible rfl
    refine ZG 17 ?v33 rfl Z9 ?wD ?_
    case wD=>intro w9 Z0;obtain ⟨k0,k1,k2⟩:=Z0;go_simp;try with_reducible rfl
    refine ZU 11 rfl (fun K hK=>?_);have k2:=K2.out;go_simp;refine hK.out _ _ Z9 (fun ZM=>?_);clear hK K k2 ZM;refine ZU 14 rfl (fun K hK=>?_);go_simp;refine jT.out.mono ?_;rintro e w8 ⟨v8,rfl,o8,X⟩;have hs7:=S7.out.lt;have M:=Q7.out.pr.lt;have YE:=M7.out.lt;obtain ⟨ra,rc,rfl⟩:=Zz.Vc o8;refine hK.out _ _ ⟨(X.cell (p:=⟨κ.sB,0,none⟩) hs7).trans Z9.1,(X.cell (p:=⟨b5,3,none⟩) M).trans Z9.2.1,(X.cell (p:=⟨b5,4,none⟩) M).trans Z9.2.2⟩ (fun ZM=>?_);have Z2:w8.cell? ⟨κ.sB,0,none⟩=some (.pointer (some ⟨κ.mB,0,none⟩))∧w8.cell? ⟨b5,3,none⟩=some (.int .i64 (Y:Int))∧w8.cell? ⟨b5,4,none⟩=some (.slice xa es.length xc):=⟨(X.cell (p:=⟨κ.sB,0,none⟩) hs7).trans Z9.1,(X.cell (p:=⟨b5,3,none⟩) M).trans Z9.2.1,(X.cell (p:=⟨b5,4,none⟩) M).trans Z9.2.2⟩;have U:Tk κ (.slice ra (TQ σ.Q (Y:Int) es).length rc):=V7.out.far (fun q hq=>(ZD o8 q hq).1);have V8:=V7.out.below X;obtain ⟨V9,G9⟩:=V8.nv (z:=Y) (Zz.rd o8) (Zz.qK o8) U;have V9:=Z3 V9;have Q9:=Z3 ((Q7.out.gs (Gs.ZV X)).gs G9);have G9:=Z3 ((G7.out.trans (Gs.ZV X)).trans G9);have M8:=M7.out.below X;have S8:=S7.out.below X;have S9:=(S8.other (c:=κ.mB) (j:=2) (x:=.slice ra (TQ σ.Q (Y:Int) es).length rc) HV.out.ne.1).other (c:=κ.mB) (j:=3) (x:=.int .i64 (Y:Int)) HV.out.ne.1;have k3:=M8.cl 2 _ rfl;have k4:=M8.cl 3 _ rfl;have f2:=M8.fz 2;have f3:=M8.fz 3;clear hK K ZM Z9 jT o8 X V7 G7 Q7 M7 S7 K2 V8 U;have Z9:=Z2;clear Z2
    iterate 3 (refine ZW ?_ Z9 ?_ ?_;rotate_left;· intro w9 Z0;obtain ⟨k0,k1,k2⟩:=Z0;go_simp;try with_reducible rfl)
    refine ZU 21 rfl (fun K hK=>?_);go_simp;refine hK.out _ _ ⟨S9.cl 0 _ rfl,Q9.out.pr.cl 3 _ rfl,Q9.out.pr.cl 4 _ rfl⟩ (fun ZM=>?_);clear hK K ZM Z9 k3 k4 f2 f3 M8 S8 S9;refine ZP (by kernel_rfl) ?_ _
    try simp only [Act.put,Y8,Y7,Y6]
    generalize (w8.setCell _ _).setCell _ _=w9 at *;have b10:=below_drewN' w9 1;have jW:Hid (Sv κ { σ with Q:=TQ σ.Q (Y:Int) es,zq:=Y,fs:=σ.fs++[F],ql:=σ.ql+F.length } w9.drew):=V9.out.below b10;have lC:Hid (Gs κ w w9.drew):=G9.out.trans (Gs.ZV b10);have V:Hid (lB κ w.heap.size (.slice oa os.length oc) vn ve (.slice xa es.length xc) os pa ⟨0,i,(Y:Int),NL,es⟩ b5 w9.drew):=Q9.out.gs (Gs.ZV b10);clear V9 G9 Q9 b10
    go_wp2_with fail
    refine ZH (S:=fun W=>W.cell? ⟨b5,3,none⟩=some (.int .i64 (Y:Int))∧W.cell? ⟨b5,2,none⟩=some ve∧W.cell? ⟨w.heap.size,1,none⟩=some (.slice oa os.length oc)) (by kernel_rfl) ⟨V.out.pr.cl 3 _ rfl,V.out.pr.cl 2 _ rfl,V.out.ln.cl 1 _ rfl⟩ (fun Z9=>?_);generalize w9.drew=LF at *
    iterate 3 (refine ZW ?_ Z9 ?_ ?_;rotate_left;· intro w9 Z0;obtain ⟨k0,k1,k2⟩:=Z0;go_simp;try with_reducible rfl)
    refine ZG 5 ?v40 rfl Z9 ?ZY ?_
    case ZY=>intro w9 Z0;obtain ⟨k0,k1,k2⟩:=Z0;go_simp;try with_reducible rfl
    refine ZG 6 ?v41 rfl Z9 ?ZO ?_
    case ZO=>intro w9 Z0;obtain ⟨k0,k1,k2⟩:=Z0;go_simp;try with_reducible rfl
    refine ZG 7 ?v42 rfl Z9 ?ZN ?_
    case ZN=>intro w9 Z0;obtain ⟨k0,k1,k2⟩:=Z0;go_simp;try with_reducible rfl
    refine ZG 8 ?v43 rfl Z9 ?ZK ?_
    case ZK=>intro w9 Z0;obtain ⟨k0,k1,k2⟩:=Z0;go_simp;try with_reducible rfl
    refine ZG 9 ?v44 rfl Z9 ?ZE ?_
    case ZE=>intro w9 Z0;obtain ⟨k0,k1,k2⟩:=Z0;go_simp;try with_reducible rfl
    refine ZU 3 rfl (fun K hK=>?_);go_simp;have TT:=Z3 (Tf LF ⟨#[113,117,101,117,101,100]⟩ Y (by decide) (by omega) (htab _ lC.out.gw));have ba:ZX LF (LF.alloc (.cells #[.int .i64 (Y:Int)] 2)):=ZJ.alloc ZT _;have I:=V.out.pr.lt;have ZB:=V.out.ln.lt;have hH1:∀W,ZX LF W→W.cell? ⟨b5,3,none⟩=some (.int .i64 (Y:Int))∧W.cell? ⟨b5,2,none⟩=some ve∧W.cell? ⟨w.heap.size,1,none⟩=some (.slice oa os.length oc):=fun W hW=>⟨(hW.cell (p:=⟨b5,3,none⟩) I).trans Z9.1,(hW.cell (p:=⟨b5,2,none⟩) I).trans Z9.2.1,(hW.cell (p:=⟨w.heap.size,1,none⟩) ZB).trans Z9.2.2⟩
    refine hK.out _ _ (hH1 _ ba) (fun ZM=>?_);clear hK K ZM Z9 ba;refine ZU 4 rfl (fun K hK=>?_);have EF:=Z3 hH1;clear hH1;go_simp;refine TT.out.mono ?_;rintro e fH ⟨rfl,b11⟩;refine hK.out _ _ (EF.out _ b11) (fun ZM=>?_);have Z9:=EF.out _ b11;have Ze:=Z3 (rS ⟨#[113,117,101,117,101,100]⟩ Y (by decide) (by omega));have SN:=Z3 (Hf fH _ ve os (V.out.op.below b11) hseq hol);have B11:=Z3 b11;clear hK K ZM TT b11;refine ZU 10 rfl (fun K hK=>?_);go_simp;refine SN.out.mono ?_;rintro e uC ⟨rfl,b12⟩;have ny:=Z3 (YV B11.out b12);refine hK.out _ _ (EF.out _ ny.out) (fun ZM=>?_);clear Z9;have Z9:=EF.out _ ny.out;clear hK K ZM SN b12 B11 EF;refine ZW (.string (strOfNums (Yx ⟨#[113,117,101,117,101,100]⟩ [Y]))) Z9 ?_ ?_
    · intro w9 Z0;clear Z0;go_simp;rw [Z1 (by have:=Ze.out;omega),Hg]
    refine ZW ?_ Z9 ?_ ?_
    rotate_left
    · intro w9 Z0;obtain ⟨k0,k1,k2⟩:=Z0;go_simp;try with_reducible rfl
    refine ZP (by kernel_rfl) ?_ _
    try simp only [Act.put,Y8,Y7,Y6]
    clear Z9
    go_wp2_with fail
    go_ret;have e:EH κ σ ⟨((0:Nat):Int),i,(Y:Int),NL,es⟩=(strOfNums (Yx ⟨#[113,117,101,117,101,100]⟩ [Y]),{ σ with Q:=TQ σ.Q (Y:Int) es,zq:=Y,fs:=σ.fs++[F],ql:=σ.ql+F.length }):=by
     unfold EH;rw [Z1 (by simp),←Z5.out,←m.out,Z1 (by show ¬κ.L*64<((lg+(σ.ql+F.length):Nat):Int);omega)]
     simp
    rw [e];exact ⟨rfl,lC.out.trans (Gs.ZV ny.out),jW.out.below ny.out⟩
  have hci:¬(cn:Int)=0:=by omega
  have hcb:((cn:Int) == 0)=false:=by simpa using hci
  have HC:=Z3 hc;clear hc him hroom;refine Yy (fun K hK=>WY ?_);have HK:Hid _:=hK;clear hK
  go_wp2_with fail
  refine HK.out _ _ ?_;clear HK K;refine Yy (fun K hK=>WY ?_);have HK:Hid _:=hK;clear hK
  go_wp2_with fail
  have TT:=Tf W ⟨#[101,114,114,111,114]⟩ cn (by decide) (by omega) (htab _ G1.out.gw);refine TT.mono ?_;rintro e w3 ⟨rfl,b3⟩;clear TT
  go_wp2_with fail
  go_ret;have e:EH κ σ ⟨(cn:Int),i,(Y:Int),NL,es⟩=(strOfNums (Yx ⟨#[101,114,114,111,114]⟩ [cn]),σ):=by
   unfold EH;rw [ZZ (by simpa using HC.out)]
   simp
  rw [e];exact ⟨rfl,G1.out.trans (Gs.ZV b3),V1.out.below b3⟩
 have BD:Hid (ZX w w1.drew):=BL.out.trans ((below_drewN' w1 1).mono BL.out.size);have LD:Hid (St w1.drew w.heap.size [.int .i64 1,.slice oa os.length oc,.bool false,.string pa,vn]):=LN.out.below (below_drewN' w1 1);refine ZH (S:=fun W=>ZX w W∧St W w.heap.size [.int .i64 1,.slice oa os.length oc,.bool false,.string pa,vn]) (by kernel_rfl) ⟨BD.out,LD.out⟩ (fun Z9=>?_);clear BD LD BL LN;generalize w1.drew=w2 at *
 iterate 18 (refine ZW ?_ Z9 ?_ ?_;rotate_left;· intro w9 Z0;obtain ⟨kb,kl⟩:=Z0;have k0:=(kb.cell (p:=⟨κ.sB,0,none⟩) hsb).trans (A1.out.cl 0 _ rfl);have k1:=(kb.cell (p:=⟨κ.mB,2,none⟩) hmb).trans (B1.out.cl 2 _ rfl);have k2:=(kb.cell (p:=⟨κ.mB,3,none⟩) hmb).trans (B1.out.cl 3 _ rfl);have k3:=kl.cl 1 _ rfl;clear kb kl;go_simp;try with_reducible rfl)
 refine ZW (.int .i64 ((σ.zq:Int)+1)) Z9 ?_ ?_
 · intro w9 Z0;obtain ⟨kb,kl⟩:=Z0;have k0:=(kb.cell (p:=⟨κ.sB,0,none⟩) hsb).trans (A1.out.cl 0 _ rfl);have k1:=(kb.cell (p:=⟨κ.mB,2,none⟩) hmb).trans (B1.out.cl 2 _ rfl);have k2:=(kb.cell (p:=⟨κ.mB,3,none⟩) hmb).trans (B1.out.cl 3 _ rfl);have k3:=kl.cl 1 _ rfl;clear kb kl;go_simp;rw [XK];omega
 refine UY 19 20 rfl rfl (fun K hK=>?_) (fun K hK=>?_)
 · go_simp
   refine (lK.out _ Z9.1).mono ?_;rintro e w4 ⟨ve,vx,rfl,o1,o2,h4⟩;obtain ⟨xa,xc,rfl⟩:=XH.Vc o2;obtain ⟨na,nl,nc,rfl⟩:∃a l c,ve=.slice a l c:=by rcases o1.2 with ⟨rfl,-⟩ | ⟨g,cap,cur,rfl,-⟩ <;> exact ⟨_,_,_,rfl⟩
   have LM:ZX w w4∧St w4 w.heap.size [.int .i64 1,.slice oa os.length oc,.bool false,.string pa,vn]:=⟨Z9.1.trans (h4.mono Z9.1.size),Z9.2.below h4⟩;refine hK.out _ _ LM (fun ZM=>?_);have RE:=Z3 (XH.rd o2);have XF:Hid (∀q,(Value.slice xa A.es.length xc).ownBlock=some q→w.heap.size≤q):=fun q hq=>by have:=(ZD o2 q hq).1;have:=Z9.1.size;omega
   clear hK K Z9 ZM o1 o2 h4;refine ZU 20 rfl (fun K hK=>?_);go_simp;have bA:ZX w4 (w4.alloc (.cells #[.int .i64 0,.int .i64 0,.slice none 0 0,.int .i64 0,.slice none 0 0] 194)):=ZJ.alloc ZT _;have Ah:ZX w (w4.alloc (.cells #[.int .i64 0,.int .i64 0,.slice none 0 0,.int .i64 0,.slice none 0 0] 194))∧St (w4.alloc (.cells #[.int .i64 0,.int .i64 0,.slice none 0 0,.int .i64 0,.slice none 0 0] 194)) w.heap.size [.int .i64 1,.slice oa os.length oc,.bool false,.string pa,vn]:=⟨LM.1.trans (bA.mono LM.1.size),LM.2.below bA⟩;refine hK.out _ _ Ah (fun ZM=>?_);clear hK K ZM;refine ZU 21 rfl (fun K hK=>?_);have hzz:=LM.2.lt;have hne:w4.heap.size≠w.heap.size:=by omega
   have X5:=St.new w4 #[.int .i64 0,.int .i64 0,.slice none 0 0,.int .i64 0,.slice none 0 0] 194;have t0:=X5.cl 0 _ rfl;have t1:=X5.cl 1 _ rfl;have t2:=X5.cl 2 _ rfl;have t3:=X5.cl 3 _ rfl;have t4:=X5.cl 4 _ rfl;have f0:=X5.fz 0;have f1:=X5.fz 1;have f2:=X5.fz 2;have f3:=X5.fz 3;have f4:=X5.fz 4;have X6:=Z3 (St.new w4 #[.int .i64 A.c,.int .i64 A.i,.slice na nl nc,.int .i64 A.z,.slice xa A.es.length xc] 194);have b6:Hid (ZX w4 (w4.alloc (.cells #[.int .i64 A.c,.int .i64 A.i,.slice na nl nc,.int .i64 A.z,.slice xa A.es.length xc] 194))):=ZJ.alloc ZT _;clear X5 bA;go_simp;refine hK.out _ _ ⟨LM.1.trans (b6.out.mono LM.1.size),LM.2.below b6.out⟩ (fun ZM=>?_);clear hK K ZM t0 t1 t2 t3 t4 f0 f1 f2 f3 f4;refine ZP (by kernel_rfl) ?_ _
   try simp only [Act.put,Y8,Y7,Y6]
   exact ⟨w4.heap.size,_,_,_,_,_,_,_,_,_,_,_,_,_,_,_,_,_,_,_,_,_,_,rfl,LM.1.trans (b6.out.mono LM.1.size),LM.2.below b6.out,X6.out,hzz,RE.out.below b6.out,XF.out⟩
 · go_simp
   have bA:ZX w2 (w2.alloc (.cells #[.int .i64 0,.int .i64 0,.slice none 0 0,.int .i64 0,.slice none 0 0] 194)):=ZJ.alloc ZT _;have Ah:ZX w (w2.alloc (.cells #[.int .i64 0,.int .i64 0,.slice none 0 0,.int .i64 0,.slice none 0 0] 194))∧St (w2.alloc (.cells #[.int .i64 0,.int .i64 0,.slice none 0 0,.int .i64 0,.slice none 0 0] 194)) w.heap.size [.int .i64 1,.slice oa os.length oc,.bool false,.string pa,vn]:=⟨Z9.1.trans (bA.mono Z9.1.size),Z9.2.below bA⟩;have X5:=Z3 (St.new w2 #[.int .i64 0,.int .i64 0,.slice none 0 0,.int .i64 0,.slice none 0 0] 194);have hzz:=Z9.2.lt;refine hK.out _ _ Ah (fun ZM=>?_);clear hK K ZM Z9 bA;generalize hb5:w2.heap.size=b5 at *;have QL:b5<(w2.alloc (.cells #[.int .i64 0,.int .i64 0,.slice none 0 0,.int .i64 0,.slice none 0 0] 194)).heap.size:=by simp [hb5]
   generalize w2.alloc _=w3 at *;refine ZU 19 rfl (fun K hK=>?_);go_simp;refine (lK.out _ Ah.1).mono ?_;rintro e w4 ⟨ve,vx,rfl,o1,o2,h4⟩;obtain ⟨xa,xc,rfl⟩:=XH.Vc o2;obtain ⟨na,nl,nc,rfl⟩:∃a l c,ve=.slice a l c:=by rcases o1.2 with ⟨rfl,-⟩ | ⟨g,cap,cur,rfl,-⟩ <;> exact ⟨_,_,_,rfl⟩
   have LM:ZX w w4∧St w4 w.heap.size [.int .i64 1,.slice oa os.length oc,.bool false,.string pa,vn]:=⟨Ah.1.trans (h4.mono Ah.1.size),Ah.2.below h4⟩;refine hK.out _ _ LM (fun ZM=>?_);have Y5:=X5.out.below h4;have XF:Hid (∀q,(Value.slice xa A.es.length xc).ownBlock=some q→w.heap.size≤q):=fun q hq=>by have:=(ZD o2 q hq).1;have:=Ah.1.size;omega
   have hxe:(Value.slice xa A.es.length xc).ownBlock=none∨(Value.slice xa A.es.length xc).ownBlock≠some b5:=.inr (fun e=>by have:=(ZD o2 _ e).1;omega);have RE:=Z3 (Yu (Yu (Yu (Yu (Yu o2 (grownBy_set _ _ b5 0 (.int .i64 A.c) (YT _ _)) hxe) (grownBy_set _ _ b5 1 (.int .i64 A.i) (YT _ _)) hxe) (grownBy_set _ _ b5 2 (.slice na nl nc) (YT _ _)) hxe) (grownBy_set _ _ b5 3 (.int .i64 A.z) (YT _ _)) hxe) (grownBy_set _ _ b5 4 (.slice xa A.es.length xc) (YT _ _)) hxe);clear hK K ZM o1 o2 h4 hxe Ah X5;refine ZU 21 rfl (fun K hK=>?_);have t0:=Y5.cl 0 _ rfl;have t1:=Y5.cl 1 _ rfl;have t2:=Y5.cl 2 _ rfl;have t3:=Y5.cl 3 _ rfl;have t4:=Y5.cl 4 _ rfl;have f0:=Y5.fz 0;have f1:=Y5.fz 1;have f2:=Y5.fz 2;have f3:=Y5.fz 3;have f4:=Y5.fz 4;have X6:=Z3 (((((Y5.set 0 (.int .i64 A.c)).set 1 (.int .i64 A.i)).set 2 (.slice na nl nc)).set 3 (.int .i64 A.z)).set 4 (.slice xa A.es.length xc));have b6:Hid (ZX w (((((w4.setCell ⟨b5,0,none⟩ (.int .i64 A.c)).setCell ⟨b5,1,none⟩ (.int .i64 A.i)).setCell ⟨b5,2,none⟩ (.slice na nl nc)).setCell ⟨b5,3,none⟩ (.int .i64 A.z)).setCell ⟨b5,4,none⟩ (.slice xa A.es.length xc))):=by
    show Below _ _ _
    iterate 5 refine Below.setCell ?_ (Nat.le_of_lt hzz) _
    exact LM.1
   have hne:w.heap.size≠b5:=by omega
   have l6:=Z3 (((((LM.2.other (c:=b5) (j:=0) (x:=.int .i64 A.c) hne).other (c:=b5) (j:=1) (x:=.int .i64 A.i) hne).other (c:=b5) (j:=2) (x:=.slice na nl nc) hne).other (c:=b5) (j:=3) (x:=.int .i64 A.z) hne).other (c:=b5) (j:=4) (x:=.slice xa A.es.length xc) hne);clear Y5;go_simp;refine hK.out _ _ ⟨b6.out,l6.out⟩ (fun ZM=>?_);clear hK K ZM t0 t1 t2 t3 t4 f0 f1 f2 f3 f4;refine ZP (by kernel_rfl) ?_ _
   try simp only [Act.put,Y8,Y7,Y6]
   exact ⟨b5,_,_,_,_,_,_,_,_,_,_,_,_,_,_,_,_,_,_,_,_,_,_,rfl,b6.out,l6.out,X6.out,hzz,XH.rd RE.out,XF.out⟩
 end Go.Proofs.YtpmjnbmkippaiaaGreatDoor
namespace Go.Proofs.YtpmjnbmkippaiaaGreatDoor
open Go.RowKit Go.Conc
variable {cs:Array Value} {C9 L S c:Int} {D xs:List Int} {B Bd Bs N b base cap g o pB z:Nat} {κ:Sc} {σ:Sx} {v x y:Value} {W W' w:World}
theorem P9 {ns:List Nd} (h:Wx w v ns) (hn:ns≠[]) (hb:w.heap[pB]?=some (.cells #[.int .i64 (z:Int),.int .i64 (o:Int),.string ⟨#[]⟩,.slice none 0 0] 186 (0,0))):∀q,v.ownBlock=some q→q≠pB:=by
 obtain ⟨ao,cp,rfl,h1,h2,h3⟩:=h;obtain ⟨b,off,rfl,hlt,hcl⟩:=h3.resolve_left hn;rintro q hq rfl
 simp only [Value.ownBlock,Zo] at hq
 subst hq;have h9:=hcl 0 (List.length_pos_iff.2 hn);have c0:=h9.c0;have c1:=h9.c1;rw [cell_of hb] at c0 c1
 simp only [TK,Wi] at c0 c1
 match off,c0,c1 with
 | 0,c0,_=>simp at c0
 | 1,c0,_=>simp at c0
 | 2,_,c1=>simp at c1
 | 3,c0,_=>simp at c0
 | k+4,c0,_=>simp at c0
theorem Lz {lo:Nat} (h:Own .u8 5 w lo v xs) (hb:w.heap[pB]?=some (.cells cs 186 (0,0))):v.ownBlock≠some pB:=by
 rcases h.2 with ⟨rfl,-⟩ | ⟨g,cap,cur,rfl,-,hg,-⟩
 · simp [Value.ownBlock]
 intro e
 simp only [Value.ownBlock,Zo] at e
 subst e;rw [hg] at hb
 injection hb with hb
 injection hb with _ h2
 exact absurd h2 (by decide)
theorem Xy.apart (h:Xy w v xs) (hb:w.heap[pB]?=some (.cells cs 186 (0,0))):v.ownBlock≠some pB:=by
 obtain ⟨g,lo,cp,pre,rfl,h2,h3⟩:=h;have h9:=Lz h3 hb
 simp only [Value.ownBlock] at h9 ⊢
 exact h9
theorem Sv.rR {w':World} (h:Sv κ σ w) (hsn:σ.sn=some (pB,z,o)) (hem:σ.em=false) (hT:σ.T≠[]) (hQ:σ.Q≠[]) (hfs:σ.fs=[]) (hg:w.grownBy w' (some pB)):Sv κ { σ with em:=true } w'∧Gw κ w w':=by
 obtain ⟨vd,made,ZQ,a1,a2,a3,a4,a5⟩:=h.dk;obtain ⟨vt,vq,cp,b1,b2,b3,b4,b5,b6,b7,b8⟩:=h.mm;obtain ⟨Lv,s,r,c1,c2,c3⟩:=h.ch;obtain ⟨p1,p2,p3,p4,p5,p6⟩:=h.sn _ hsn;have hb:=p1.2 hem;have hs:=hg.size;have hbl:∀q,q<w.heap.size→q≠pB→w'.heap[q]?=w.heap[q]?:=fun q hq hn=>hg.block q hq (fun e=>hn (by injection e))
 have hL:Lv=[]:=TN (by rw [c2.1,hfs];rfl);subst hL;obtain ⟨l1,l2,l3,l4⟩:=h.jV;refine ⟨⟨h.ne,fun x hx=>⟨ZL (h.fx x hx).1 hs,(h.fx x hx).2⟩,⟨vd,made,ZQ,YN a1 hs (hbl _ l1 (Nat.ne_of_lt p2)),Yu a2 hg (.inr (Lz a2 hb)),a3,a4,a5⟩,⟨vt,vq,cp,YN b1 hs (hbl _ l2 (Ne.symm p3)),Ys b2 hs (fun q hq hl=>hbl q hl (P9 b2 hT hb q hq)),Ys b3 hs (fun q hq hl=>hbl q hl (P9 b3 hQ hb q hq)),b4,b5,b6,Xy.kept b7 hg (.inr (Xy.apart b7 hb)),b8⟩,⟨[],s,r,(hbl _ l3 (Ne.symm p4)).trans c1,⟨c2.1,fun i hi=>absurd hi (by simp)⟩,c3⟩,fun p hp=>?_,h.pw.keep (fun g hl _ _ _ _ _ e=>hbl g hl (fun e9=>by rw [e9,hb] at e;simp at e))⟩,⟨hg.os,hg.tape,hg.output,hs,fun q hq _ _ _ _ e _=>hbl q hq (fun e9=>?_)⟩⟩
 · rw [hsn] at hp
   cases hp
   exact ⟨⟨ZL p1.1 hs,fun e=>by cases e⟩,p2,p3,p4,p5,p6⟩
 subst e9;exact e p2 (by rw [cell_of hb];rfl)
theorem Sv.nu (h:Sv κ σ w):Sv κ { σ with sn:=none } (w.setCell ⟨κ.mB,12,none⟩ (.pointer none))∧Gs κ w (w.setCell ⟨κ.mB,12,none⟩ (.pointer none)):=by
 have hne:=h.ne;obtain ⟨vd,made,ZQ,a1,a2,a3,a4,a5⟩:=h.dk;obtain ⟨vt,vq,cp,b1,b2,b3,b4,b5,b6,b7,b8⟩:=h.mm;obtain ⟨Lv,s,r,c1,c2,c3⟩:=h.ch;have hs:w.heap.size≤(w.setCell ⟨κ.mB,12,none⟩ (.pointer none)).heap.size:=by simp
 have hbl:∀q,q≠κ.mB→(w.setCell ⟨κ.mB,12,none⟩ (.pointer none)).heap[q]?=w.heap[q]?:=fun q hn=>Below.heap_setCell w ⟨κ.mB,12,none⟩ _ q hn
 have G:Gs κ w (w.setCell ⟨κ.mB,12,none⟩ (.pointer none)):=⟨rfl,rfl,rfl,hs,fun q hq _ h2 _ _=>hbl q h2⟩;refine ⟨⟨hne,fun x hx=>⟨ZL (h.fx x hx).1 hs,(h.fx x hx).2⟩,⟨vd,made,ZQ,YN a1 hs (hbl _ hne.1),a2.setAt (.inr (fun e=>(a5 _ e).2.1 rfl)),a3,a4,a5⟩,⟨vt,vq,cp,b1.set 12 _,Ys b2 hs (fun q hq _=>hbl q (b5 q hq).2.1),Ys b3 hs (fun q hq _=>hbl q (b6 q hq).2.1),b4,b5,b6,b7.setAt (.inr (by simp [Value.ownBlock];exact fun e=>hne.2.2.2.2.1 e.symm)),b8⟩,⟨Lv,s,r,(hbl _ hne.2.2.2.1.symm).trans c1,⟨c2.1,fun i hi=>⟨Vo (c2.2 i hi).1 hs (fun q hq _=>hbl q (c3 i hi q hq).2.1),(c2.2 i hi).2⟩⟩,c3⟩,(fun p hp=>by cases hp),h.pw.keep (fun g _ _ h2 _ _ _ _=>hbl g h2)⟩,G⟩
theorem Sv.nt {cp:Nat} {g b s l r:Int} (o:Nat) (h:Sv κ σ w) (ho:σ.off+o≤σ.full.length) (hcp:∀vt vq cp',St w κ.mB (Ai κ σ vt vq cp')→cp'=cp) :
    Sv κ { σ with g:=g,b:=b,s:=s,l:=l,r:=r,off:=σ.off+o,sn:=none } (((((((w.setCell ⟨κ.mB,6,none⟩ (.int .i64 g)).setCell ⟨κ.mB,7,none⟩ (.int .i64 b)).setCell ⟨κ.mB,8,none⟩ (.int .i64 s)).setCell ⟨κ.mB,9,none⟩ (.int .i64 l)).setCell ⟨κ.mB,10,none⟩ (.int .i64 r)).setCell ⟨κ.mB,11,none⟩ (.slice (some ⟨κ.lb,κ.lo+(if σ.off+o=cp then 0 else σ.off+o),none⟩) (σ.full.length - (σ.off+o)) (cp - (σ.off+o)))).setCell ⟨κ.mB,12,none⟩ (.pointer none)) ∧
    Gs κ w (((((((w.setCell ⟨κ.mB,6,none⟩ (.int .i64 g)).setCell ⟨κ.mB,7,none⟩ (.int .i64 b)).setCell ⟨κ.mB,8,none⟩ (.int .i64 s)).setCell ⟨κ.mB,9,none⟩ (.int .i64 l)).setCell ⟨κ.mB,10,none⟩ (.int .i64 r)).setCell ⟨κ.mB,11,none⟩ (.slice (some ⟨κ.lb,κ.lo+(if σ.off+o=cp then 0 else σ.off+o),none⟩) (σ.full.length - (σ.off+o)) (cp - (σ.off+o)))).setCell ⟨κ.mB,12,none⟩ (.pointer none)):=by
 have hne:=h.ne;obtain ⟨vd,made,ZQ,a1,a2,a3,a4,a5⟩:=h.dk;obtain ⟨vt,vq,cp',b1,b2,b3,b4,b5,b6,b7,b8⟩:=h.mm;obtain ⟨Lv,s',r',c1,c2,c3⟩:=h.ch;obtain rfl:=hcp _ _ _ b1;have b9:=(((((((b1.set 6 (.int .i64 g)).set 7 (.int .i64 b)).set 8 (.int .i64 s)).set 9 (.int .i64 l)).set 10 (.int .i64 r)).set 11 (.slice (some ⟨κ.lb,κ.lo+(if σ.off+o=cp' then 0 else σ.off+o),none⟩) (σ.full.length - (σ.off+o)) (cp' - (σ.off+o)))).set 12 (.pointer none));have hg:=grownBy_set _ _ κ.mB 12 (.pointer none) (grownBy_set _ _ κ.mB 11 (.slice (some ⟨κ.lb,κ.lo+(if σ.off+o=cp' then 0 else σ.off+o),none⟩) (σ.full.length - (σ.off+o)) (cp' - (σ.off+o))) (grownBy_set _ _ κ.mB 10 (.int .i64 r) (grownBy_set _ _ κ.mB 9 (.int .i64 l) (grownBy_set _ _ κ.mB 8 (.int .i64 s) (grownBy_set _ _ κ.mB 7 (.int .i64 b) (grownBy_set _ _ κ.mB 6 (.int .i64 g) (YT w (some κ.mB))))))));generalize (((((((w.setCell _ _).setCell _ _).setCell _ _).setCell _ _).setCell _ _).setCell _ _).setCell _ _)=w' at *;have hs:=hg.size;obtain ⟨l1,l2,l3,l4⟩:=h.jV;have hbl:∀q,q<w.heap.size→q≠κ.mB→w'.heap[q]?=w.heap[q]?:=fun q hq hn=>hg.block q hq (fun e=>hn (by injection e))
 exact ⟨⟨hne,fun x hx=>⟨ZL (h.fx x hx).1 hs,(h.fx x hx).2⟩,⟨vd,made,ZQ,YN a1 hs (hbl _ l1 hne.1),Yu a2 hg (.inr (fun e=>(a5 _ e).2.1 rfl)),a3,a4,a5⟩,⟨vt,vq,cp',b9,Ys b2 hs (fun q hq hl=>hbl q hl (b5 q hq).2.1),Ys b3 hs (fun q hq hl=>hbl q hl (b6 q hq).2.1),b4,b5,b6,Xy.kept b7 hg (.inr (by simp [Value.ownBlock];exact fun e=>hne.2.2.2.2.1 e.symm)),b8⟩,⟨Lv,s',r',(hbl _ l3 hne.2.2.2.1.symm).trans c1,⟨c2.1,fun i hi=>⟨Vo (c2.2 i hi).1 hs (fun q hq hl=>hbl q hl (c3 i hi q hq).2.1),(c2.2 i hi).2⟩⟩,c3⟩,(fun p hp=>by cases hp),h.pw.keep (fun g hl _ h2 _ _ _ _=>hbl g hl h2)⟩,Gs.LI hg (.inr (.inl rfl))⟩
end Go.Proofs.YtpmjnbmkippaiaaGreatDoor
namespace Go.Proofs.YtpmjnbmkippaiaaGreatDoor
open Go.RowKit Go.Shelf
variable {cs:Array Value} {C9 L S c:Int} {D xs:List Int} {B Bd Bs N b base cap g o pB z:Nat} {κ:Sc} {σ:Sx} {v x y:Value} {W W' w:World}
theorem AU (w:World) (sB:Nat) (P vd vp x5 x6 x7:Value) (S L:Int) (h:St w sB [P,.int .i64 S,.int .i64 L,vd,vp,x5,x6,x7]) :
    Calls Tryz.prog 17 #[.pointer (some ⟨sB,0,none⟩),.int .i64 (-1),.slice none 0 0] w fun e w'=>e=.returned (.tuple #[])∧St w' sB (Ku P S L vd vp 0)∧w.grownBy w' (some sB):=by
 have S1:=h.set 5 (.int .i64 (-1));have S2:=S1.set 6 (.int .i64 0);have S3:=S2.set 7 (.slice none 0 0);have c5:=h.cl 5 _ rfl;have f5:=h.fz 5;have c6:=S1.cl 6 _ rfl;have f6:=S1.fz 6;have c7:=S2.cl 7 _ rfl;have f7:=S2.fz 7;have FIN:=Z3 (And.intro S3 (grownBy_set w _ sB 7 (.slice none 0 0) (grownBy_set w _ sB 6 (.int .i64 0) (grownBy_set w w sB 5 (.int .i64 (-1)) (YT _ _)))));clear S1 S2 S3 h
 go_enter Tryz.func17,Tryz.ntmps17
 go_wp2_with fail
 exact ⟨rfl,_,by kernel_rfl,rfl,FIN.out⟩
theorem EE (w:World) (g:Nat) (hg:g≤1000000):Calls Tryz.prog 52 #[.int .i64 (g:Int)] w fun e w'=>e=.returned (.int .i64 ((g % 2:Nat):Int))∧w'=w:=by
 go_enter Tryz.func52,Tryz.ntmps52
 go_wp2;go_ret;exact ⟨by first | rfl | (simp;done) | (congr 2;omega),rfl⟩
def Vt (w:World) (B:Nat) (p d:ByteArray) (a b c e f:Int):Prop :=
 w.heap[B]?=some (.cells #[.string p,.string d,.int .i64 a,.int .i64 b,.int .i64 c,.int .i64 e,.int .i64 f] 147 (0,0))
theorem Vt.lt {p d:ByteArray} {a b e f:Int} (h:Vt w B p d a b c e f):B<w.heap.size:=(Yh.1 h).1
def Ye:ByteArray:=⟨#[47]⟩
def empty:ByteArray:=⟨#[]⟩
theorem Pf (w:World):Calls Tryz.prog 47 #[] w fun e w'=>e=.returned (.agg #[.slice (some ⟨w.heap.size+1,0,none⟩) 1 1])∧Vt w' (w.heap.size+1) Ye empty 0 0 0 0 0∧ZX w w':=by
 go_enter Tryz.func47,Tryz.ntmps47
 go_wp2;refine ZS (v:=.agg #[.slice (some ⟨w.heap.size+1,0,none⟩) 1 1]) (by simp [results,Tryz.results47,go_sem]) rfl ⟨rfl,?_,(ZJ.alloc ZT _).alloc (by simp) _⟩;have:=Y9 (w.alloc (.cells #[.slice (some ⟨w.heap.size+1,0,none⟩) 1 1] 63)) (.cells #[.string Ye,.string empty,.int .i64 0,.int .i64 0,.int .i64 0,.int .i64 0,.int .i64 0] 147);rw [Wg] at this;exact this
def m1:ByteArray:=⟨#[109,49]⟩
def m2:ByteArray:=⟨#[109,50]⟩
theorem Vt.set {t:TypeId} (h:w.heap[B]?=some (.cells cs t (0,0))) (j:Nat) (u:Value):(w.setCell ⟨B,j,none⟩ u).heap[B]?=some (.cells (cs.setIfInBounds j u) t (0,0)):=by
 rw [setCell_eq_setRow w B j cs t (0,0) u h];exact Sz w B cs _ t _ h
def ZI:Nd:=⟨Ye,empty,0,0,0,0,0⟩
theorem ww (h:Vt w B Ye empty 0 0 0 0 0):Wx w (.slice (some ⟨B,0,none⟩) 1 1) [ZI]:=by
 refine ⟨_,1,rfl,ZT,by unfold maxLen;omega,.inr ⟨B,0,rfl,h.lt,fun i hi=>?_⟩⟩;obtain rfl:i=0:=by simp at hi;omega
 have hc:=fun j=>cell_of h j
 refine ⟨?_,?_,?_,?_,?_,?_,?_⟩ <;> simp [hc,ZC,ZI]
theorem rQ (i:Nat):(ZC [ZI] i).path.size≤1048576∧(ZC [ZI] i).data.size≤1048576:=by
 cases i with
 | zero=>exact ⟨by decide,by decide⟩
 | succ i=>exact ⟨by simp [ZC,nd0],by simp [ZC,nd0]⟩
theorem QK:YY [ZI]=true:=by decide +kernel
theorem Hc {e:TypeId} (h:Own .u8 e w base v xs) (hn:0<xs.length):∃g c,v=.slice (some ⟨g,0,none⟩) xs.length c:=by
 rcases h.2 with ⟨-,h0⟩ | ⟨g,cap,cur,rfl,-⟩
 · omega
 exact ⟨g,cap,rfl⟩
def De (w:World) (S L:Int) (W:World):Prop:=ZX w W∧Ya W w.heap.size (.int .i64 S) (.int .i64 L)∧WI W (w.heap.size+1) (.slice none 0 0) (.slice none 0 0)
theorem De.below (h:De w S L W) (hb:ZX W W'):De w S L W':=⟨h.1.trans (hb.mono h.1.size),h.2.1.below hb,h.2.2.below hb⟩
theorem De.lt (h:De w S L W):w.heap.size+2≤W.heap.size:=h.2.2.1.1
theorem De.new (w:World) (S L:Int):De w S L ((w.alloc (.cells #[.int .i64 S,.int .i64 L] 25)).alloc (.cells #[.slice none 0 0,.slice none 0 0] 52)):=by
 refine ⟨(ZJ.alloc ZT _).alloc (by simp) _,(Ya.new w _ _ _).below (ZJ.alloc ZT _),?_⟩;have:=WI.new (w.alloc (.cells #[.int .i64 S,.int .i64 L] 25)) (.slice none 0 0) (.slice none 0 0) 52
 simpa using this
def I0:List Int:=PE [ZI]
theorem WX:I0.length=23:=by
 unfold I0 PE Zi;rw [ZZ QK]
 simp [Wb,ZI,Ye,empty]
 rfl
theorem wv:Wm I0:=by
 have:I0.all (fun x=>decide (0≤x∧x<256))=true:=by decide +kernel
 intro x hx;have:=Se.1 this x hx
 simpa using this
def C0:Nat:=4294967295 - Rp 4294967295 I0
theorem jS:C0≤4294967295:=Nat.sub_le _ _
def Pu:List Int:=sup 1 0 0 23 (C0:Int)
theorem nr:Tv 1 0 0 23 (C0:Int)=true:=by
 have:=jS;unfold Tv
 simp
 omega
theorem Xx:Pu.length=64:=by unfold Pu sup;rw [ZZ nr];exact Ok _ _ _ _ _
def Ly (n:Nat):List Int:=zeros 64++Pu++I0++zeros (n*64 - 151)
def Lx (S L:Int):Nat:=(2+2*(S+L)).toNat
theorem OS (n:Nat) (h:3≤n):(Ly n).length=n*64:=by
 unfold Ly;simp only [ZA,Zh,Xx,WX];omega
theorem P8 (h:YO S L=true):2+2*(S+L)=((Lx S L:Nat):Int)∧6≤Lx S L∧Lx S L≤258:=by
 obtain ⟨⟨h1,h2⟩,h3,h4⟩:=(Zg S L).1 h;unfold Lx;omega
theorem wu (n:Nat) (h:3≤n):splice (splice (zeros (n*64)) 128 I0) 64 Pu=Ly n:=by
 apply CJ;intro j;have hz:(zeros (n*64)).length=n*64:=Zh _;rw [XI _ _ _ (by rw [length_splice _ _ _ (by rw [hz,WX];omega),hz,Xx];omega),Xx,XI _ _ _ (by rw [hz,WX];omega),WX];unfold Ly
 by_cases h1:j<64
 · rw [ZZ h1,ZZ (show j<128 by omega),YM,YM,Wd (by rw [Zh];exact h1)]
   unfold zeros;rw [zZ,zZ,ZZ (show j<n*64 by omega),ZZ h1]
 by_cases h2:j<128
 · rw [Z1 h1,ZZ (show j<64+64 by omega),YM,YM,VG (by rw [Zh];omega),Zh,Wd (by rw [Xx];omega)]
 by_cases h3:j<151
 · have e:j - 128=j - 64 - 64:=by omega
   rw [Z1 h1,Z1 (show ¬j<64+64 by omega),Z1 h2,ZZ (show j<128+23 by omega),YM,YM,VG (by rw [Zh];omega),Zh,VG (by rw [Xx];omega),Xx,Wd (by rw [WX];omega),e]
 rw [Z1 h1,Z1 (show ¬j<64+64 by omega),Z1 h2,Z1 (show ¬j<128+23 by omega),YM,YM,VG (by rw [Zh];omega),Zh,VG (by rw [Xx];omega),Xx,VG (by rw [WX];omega),WX];unfold zeros;rw [zZ,zZ]
 by_cases h4:j<n*64
 · rw [ZZ h4,ZZ (show j - 64 - 64 - 23<n*64 - 151 by omega)]
 rw [Z1 h4,Z1 (show ¬j - 64 - 64 - 23<n*64 - 151 by omega)]
def Kf (W:World) (b:Nat) (c:Int):Prop:=b<W.heap.size∧W.cell? ⟨b,0,none⟩=some (.int .i64 1)∧W.cell? ⟨b,1,none⟩=some (.int .i64 0)∧W.cell? ⟨b,2,none⟩=some (.int .i64 0)∧W.cell? ⟨b,3,none⟩=some (.int .i64 23)∧W.cell? ⟨b,4,none⟩=some (.int .i64 c)
theorem Kf.below (h:Kf W b c) (hb:ZX W W'):Kf W' b c :=
 ⟨ZL h.1 hb.size,(hb.cell (p:=⟨b,0,none⟩) h.1).trans h.2.1,(hb.cell (p:=⟨b,1,none⟩) h.1).trans h.2.2.1,(hb.cell (p:=⟨b,2,none⟩) h.1).trans h.2.2.2.1,(hb.cell (p:=⟨b,3,none⟩) h.1).trans h.2.2.2.2.1,(hb.cell (p:=⟨b,4,none⟩) h.1).trans h.2.2.2.2.2⟩
theorem Kf.other (h:Kf W b c) (hg:W.grownBy W' (some g)) (hn:b≠g):Kf W' b c:=by
 have hbl:=hg.block b h.1 (fun e=>hn (by simpa using e));exact ⟨ZL h.1 hg.size,(Zj (a:=⟨b,0,none⟩) hbl).trans h.2.1,(Zj (a:=⟨b,1,none⟩) hbl).trans h.2.2.1,(Zj (a:=⟨b,2,none⟩) hbl).trans h.2.2.2.1,(Zj (a:=⟨b,3,none⟩) hbl).trans h.2.2.2.2.1,(Zj (a:=⟨b,4,none⟩) hbl).trans h.2.2.2.2.2⟩
theorem RJ (h:Ya W b x y) (hg:W.grownBy W' (some g)) (hn:b≠g):Ya W' b x y:=by
 have hbl:=hg.block b h.1 (fun e=>hn (by simpa using e));exact ⟨ZL h.1 hg.size,(Zj (a:=⟨b,0,none⟩) hbl).trans h.2.1,(Zj (a:=⟨b,1,none⟩) hbl).trans h.2.2⟩
theorem ED (h:WI W b x y) (hg:W.grownBy W' (some g)) (hn:b≠g):WI W' b x y:=by
 have hbl:=hg.block b h.1.1 (fun e=>hn (by simpa using e));exact ⟨RJ h.1 hg hn,(SD (a:=⟨b,0,none⟩) hbl).trans h.2.1,(SD (a:=⟨b,1,none⟩) hbl).trans h.2.2⟩
theorem De.other (h:De w S L W) (hg:W.grownBy W' (some g)) (hn:w.heap.size+2≤g):De w S L W' :=
 ⟨h.1.grown hg (by have:=h.lt;omega) (fun q hq=>by simp at hq;omega),RJ h.2.1 hg (by omega),ED h.2.2 hg (by omega)⟩
def Ke (w:World) (S L:Int) (Bd Bs g N cap:Nat) (C9:Int) (W:World):Prop :=
 Hid (De w S L W∧Ya W Bd (.slice (some ⟨g,0,none⟩) N cap) (.slice none 0 0)∧Kf W Bs C9)∧W.cell? ⟨w.heap.size,0,none⟩=some (.int .i64 S)∧W.cell? ⟨w.heap.size,1,none⟩=some (.int .i64 L) ∧
  W.cell? ⟨Bd,0,none⟩=some (.slice (some ⟨g,0,none⟩) N cap)∧W.cell? ⟨Bd,1,none⟩=some (.slice none 0 0) ∧
  W.cell? ⟨Bs,0,none⟩=some (.int .i64 1)∧W.cell? ⟨Bs,1,none⟩=some (.int .i64 0)∧W.cell? ⟨Bs,2,none⟩=some (.int .i64 0)∧W.cell? ⟨Bs,3,none⟩=some (.int .i64 23)∧W.cell? ⟨Bs,4,none⟩=some (.int .i64 C9)
theorem Ke.mk (h1:De w S L W) (h2:Ya W Bd (.slice (some ⟨g,0,none⟩) N cap) (.slice none 0 0)) (h3:Kf W Bs C9):Ke w S L Bd Bs g N cap C9 W :=
 ⟨⟨h1,h2,h3⟩,h1.2.1.2.1,h1.2.1.2.2,h2.2.1,h2.2.2,h3.2⟩
theorem Ke.below (h:Ke w S L Bd Bs g N cap C9 W) (hb:ZX W W'):Ke w S L Bd Bs g N cap C9 W' :=
 Ke.mk (h.1.out.1.below hb) (h.1.out.2.1.below hb) (h.1.out.2.2.below hb)
theorem Ke.other (h:Ke w S L Bd Bs g N cap C9 W) (hg:W.grownBy W' (some g)) (h1:w.heap.size+2≤g) (h2:Bd≠g) (h3:Bs≠g):Ke w S L Bd Bs g N cap C9 W' :=
 Ke.mk (h.1.out.1.other hg h1) (RJ h.1.out.2.1 hg h2) (h.1.out.2.2.other hg h3)
theorem Hb {C:List Int} {off:Nat} {cur:List Value} (ho:Own .u8 5 W base (.slice (some ⟨g,0,none⟩) N cap) D) (hD:D.length=N) (hgb:W.heap[g]?=some (.cells cur.toArray 5 (0,0))) (hoff:off+C.length≤N)
    (hg:W'.heap[g]?=some (.cells (splice cur off (C.map (Value.int .u8))).toArray 5 (0,0))):Own .u8 5 W' base (.slice (some ⟨g,0,none⟩) N cap) (splice D off C):=by
 rcases ho.2 with ⟨h,-⟩ | ⟨g',cap',cur',e,hb,h2,h3,h4,h5,h6⟩
 · simp at h
 simp only [Y4,Zo,JD] at e
 obtain ⟨⟨rfl,-⟩,-,rfl⟩:=e;rw [hgb] at h2
 simp only [Zo,Obj.cells.injEq] at h2
 obtain ⟨rfl,-⟩:=h2;rw [hD] at h3 h6;rw [WV] at h5 h6;have hcl:cur.length=cap:=by simpa using h5
 have hl:(splice D off C).length=N:=by rw [length_splice _ _ _ (by omega),hD]
 refine ⟨by rw [XJ,hl];omega,.inr ⟨g,cap,_,by rw [hl],hb,hg,by rw [hl];exact h3,h4,?_,?_⟩⟩
 · rw [Zm,length_splice _ _ _ (by rw [XJ];omega),hcl,WV]
 rw [hl,WV,Sb,←h6];apply CJ;intro j;rw [XI _ _ _ (by rw [XU,XJ];simp;omega),CG]
 by_cases hj:j<N
 · rw [ZZ hj,XI _ _ _ (by rw [XJ];omega)]
   simp only [FQ hj]
 rw [Z1 hj,Z1 (by omega),Z1 (by rw [XJ];omega),CG,Z1 hj]
theorem EC (w:World):Calls Tryz.prog 52 #[.int .i64 1] w fun e w'=>e=.returned (.int .i64 ((1:Nat):Int))∧w'=w:=by
 go_enter Tryz.func52,Tryz.ntmps52
 go_wp2;go_ret;exact ⟨rfl,rfl⟩
theorem wt (g c:Nat) (W:World):(Instr.arrayAt 117 (.slice (some ⟨g,0,none⟩) 64 c)).run Tryz.prog W=.ok (.pointer (some ⟨g,0,none⟩)) W:=by kernel_rfl
theorem AT (ho:Own .u8 5 W base (.slice (some ⟨g,0,none⟩) N cap) D):∃cur:List Value,W.heap[g]?=some (.cells cur.toArray 5 (0,0))∧cur.length=cap:=by
 rcases ho.2 with ⟨h,-⟩ | ⟨g',cap',cur,e,-,h2,h3,h4,h5,h6⟩
 · simp at h
 simp only [Y4,Zo,JD] at e
 obtain ⟨⟨rfl,-⟩,-,rfl⟩:=e;exact ⟨cur.toList,by simpa using h2,by simpa using h5⟩
theorem Np (w:World) (S L:Int) (hc:YO S L=true) (hT:TF w) (h0:0<w.heap.size) :
    Calls Tryz.prog 20 #[.agg #[.int .i64 S,.int .i64 L]] w fun e w'=>∃v',e=.returned (.agg #[v',.slice none 0 0])∧Own .u8 5 w' (w.heap.size+2) v' (Ly (Lx S L))∧ZX w w':=by
 have HC:Hid (YO S L=true):=hc;have HT:Hid (TF w):=hT;have H0:Hid (0<w.heap.size):=h0;obtain ⟨hk1,hk2,hk3⟩:=P8 hc;obtain ⟨⟨hS1,hS2⟩,hL1,hL2⟩:=(Zg S L).1 hc;have HK:Hid (2+2*(S+L)=((Lx S L:Nat):Int)):=hk1;have Zx:Hid (∀W,Calls Tryz.prog 44 #[.int .i64 (2+2*(S+L))] W fun e w'=>∃g cap,e=.returned (.agg #[.slice (some ⟨g,0,none⟩) (Lx S L*64) cap,.slice none 0 0])∧Own .u8 5 w' W.heap.size (.slice (some ⟨g,0,none⟩) (Lx S L*64) cap) (zeros (Lx S L*64))∧(Lx S L*64≤cap∧cap≤maxLen)∧ZX W w'):=by
  intro W;rw [HK.out];refine (Po W _).mono ?_;rintro e w' ⟨v',rfl,o,b⟩;have hn:py ((Lx S L:Nat):Int)=Lx S L*64:=by unfold py;rw [ZZ (by omega)];rfl
  rw [hn] at o
  rcases o.row with ⟨rfl,hz⟩ | ⟨g,c,rfl,hg,h1,h2⟩
  · have:=ZR List.length hz;rw [Zh] at this;simp at this;omega
  rw [Zh] at o h1 ⊢;exact ⟨g,c,rfl,o,⟨h1,h2⟩,b⟩
 obtain ⟨l,hl⟩:∃l:Nat,(l:Int)=S:=⟨S.toNat,by omega⟩;have hl1:1≤l:=by omega
 have kH:Hid (∀W,Calls Tryz.prog 49 #[.agg #[.int .i64 S,.int .i64 L],.int .i64 0] W (YI W (.agg #[.int .i64 ((2:Nat):Int),.int .i64 (l:Int)]))):=by
  intro W;have:=Ws W S L 0 HC.out ⟨by omega,by omega⟩;unfold VJ LO at this;rw [hl]
  simpa using this
 obtain ⟨N,hN⟩:∃N,N=Lx S L*64:=⟨_,rfl⟩;have Zd:(2+l)*64≤N:=by omega
 have Zv:N≤1048576:=by omega
 have HN:Hid (N=Lx S L*64):=hN;rw [←hN] at Zx;clear hN hc hT h0 hk1 hl
 go_enter Tryz.func20,Tryz.ntmps20
 go_wp2_with fail
 have F0:Hid (De w S L ((w.alloc (.cells #[.int .i64 S,.int .i64 L] 25)).alloc (.cells #[.slice none 0 0,.slice none 0 0] 52))):=De.new _ _ _;generalize (w.alloc _).alloc _=w0 at *;refine (VE _ S L).mono ?_;rintro e w1 ⟨rfl,b1⟩;rw [HC.out];have F1:=Z3 (F0.out.below b1);clear b1 F0;obtain ⟨-,x0,x1⟩:=F1.out.2.1
 go_wp2_with fail
 refine (Tl _ S L hS1 hS2 hL1 hL2).mono ?_;rintro e w2 ⟨rfl,b2⟩;have F2:=Z3 (F1.out.below b2);clear b2 F1 x0 x1
 go_wp2_with fail
 refine (Zx.out _).mono ?_;rintro e w3 ⟨g,cap,rfl,o3,⟨hNc,hcm⟩,b3⟩;have F3:=Z3 (F2.out.below b3);have O3:Hid (Own .u8 5 w3 w2.heap.size (.slice (some ⟨g,0,none⟩) N cap) (zeros N)):=o3;have s2:=F2.out.lt;have hg2:w.heap.size+2≤g:=ZF s2 (o3.lt g rfl).1;have hg3:g<w3.heap.size:=(o3.lt g rfl).2;clear o3 b3 F2
 go_wp2_with fail
 have BA:Hid (ZX w3 (w3.alloc (.cells #[(.slice (some ⟨g,0,none⟩) N cap),.slice none 0 0] 52))):=ZJ.alloc ZT _;have Z':Hid (Ya (w3.alloc (.cells #[(.slice (some ⟨g,0,none⟩) N cap),.slice none 0 0] 52)) w3.heap.size (.slice (some ⟨g,0,none⟩) N cap) (.slice none 0 0)):=Ya.new _ _ _ _;generalize w3.alloc _=wd at *;obtain ⟨Bd,R⟩:∃Bd,Bd=w3.heap.size:=⟨_,rfl⟩;have Fd:=Z3 (F3.out.below BA.out);have Od:Hid (Own .u8 5 wd (w.heap.size+2) (.slice (some ⟨g,0,none⟩) N cap) (zeros N)):=(O3.out.below BA.out).mono s2;have hBd:Bd≠g:=by omega
 rw [←R] at Z';refine (Pf _).mono ?_;rintro e w4 ⟨rfl,LM,b4⟩;have N4:Hid (Wx w4 (.slice (some ⟨wd.heap.size+1,0,none⟩) 1 1) [ZI]):=ww LM;have F4:=Z3 (Fd.out.below b4);have O4:=Z3 (Od.out.below b4);have X4:=Z3 (Z'.out.below b4);have YX:g<w4.heap.size:=(O4.out.lt g rfl).2;clear b4 LM Fd Od Z' BA F3 O3;rw [←R];clear R
 go_wp2_with fail
 refine (Ip _ _ [ZI] N4.out rQ).mono ?_;rintro e w5 ⟨v5,rfl,o5,b5⟩;have Z8:Own .u8 5 w5 w4.heap.size v5 I0:=o5;obtain ⟨g4,c4,hv5⟩:=Hc Z8 (by rw [WX];omega);rw [WX] at hv5;subst hv5;have I5:Hid (Own .u8 5 w5 w4.heap.size (.slice (some ⟨g4,0,none⟩) 23 c4) I0):=Z8;have F5:=Z3 (F4.out.below b5);have O5:=Z3 (O4.out.below b5);have X5:=Z3 (X4.out.below b5);have YD:=b5.size;clear o5 Z8 b5 N4 F4 O4 X4
 go_wp2_with fail
 refine (TC _ _ I0 I5.out.rd wv (by rw [WX];omega) (HT.out.below H0.out F5.out.1)).mono ?_;rintro e wq ⟨rfl,hwq⟩;rw [hwq];clear hwq;have uO:Hid (∀W,Calls Tryz.prog 53 #[.agg #[.int .i64 1,.int .i64 0,.int .i64 0,.int .i64 23,.int .i64 ((4294967295 - Rp 4294967295 I0:Nat):Int)]] W fun e w'=>∃g c,e=.returned (.slice (some ⟨g,0,none⟩) 64 c)∧Own .u8 5 w' W.heap.size (.slice (some ⟨g,0,none⟩) 64 c) Pu∧ZX W w'):=by
  intro W;refine (UL W 1 0 0 23 _).mono ?_;rintro e w' ⟨v,rfl,o,b⟩;have o':Own .u8 5 w' W.heap.size v Pu:=o;obtain ⟨g,c,hv⟩:=Hc o' (by rw [Xx];omega);rw [Xx] at hv;subst hv;exact ⟨g,c,rfl,o',b⟩
 generalize ((4294967295 - Rp 4294967295 I0:Nat):Int)=C9 at *
 go_wp2_with fail
 have BA:Hid (ZX w5 (w5.alloc (.cells #[.int .i64 1,.int .i64 0,.int .i64 0,.int .i64 23,.int .i64 C9] 60))):=ZJ.alloc ZT _;have Z7:Hid (Kf (w5.alloc (.cells #[.int .i64 1,.int .i64 0,.int .i64 0,.int .i64 23,.int .i64 C9] 60)) w5.heap.size C9):=⟨by simp,by simp,by simp,by simp,by simp,by simp⟩;generalize w5.alloc _=w6 at *;obtain ⟨Bs,E⟩:∃Bs,Bs=w5.heap.size:=⟨_,rfl⟩;have Zt:Bs≠g:=by omega
 rw [←E] at Z7 ⊢;have bP:ZX w6 w6.drew:=below_drewN' w6 1;have FP:Hid (Ke w S L Bd Bs g N cap C9 w6.drew):=Ke.mk ((F5.out.below BA.out).below bP) ((X5.out.below BA.out).below bP) (Z7.out.below bP);have OP:Hid (Own .u8 5 w6.drew (w.heap.size+2) (.slice (some ⟨g,0,none⟩) N cap) (zeros N)):=(O5.out.below BA.out).below bP;have IP:Hid (Own .u8 5 w6.drew w4.heap.size (.slice (some ⟨g4,0,none⟩) 23 c4) I0):=(I5.out.below BA.out).below bP;clear bP BA Z7 X5 O5 I5 F5 E;refine ZH (S:=Ke w S L Bd Bs g N cap C9) (by kernel_rfl) (FP.out) (fun Z9=>?_);generalize w6.drew=p6 at *
 iterate 3 (refine ZW ?_ Z9 ?_ ?_;rotate_left;· intro w9 Z0;obtain ⟨-,k0,k1,k2,k3,k4,k5,k6,k7,k8⟩:=Z0;go_simp;try with_reducible rfl)
 refine ZG 4 ?v4 rfl Z9 ?hy4 ?_
 case hy4=>intro w9 Z0;obtain ⟨-,k0,k1,k2,k3,k4,k5,k6,k7,k8⟩:=Z0;go_simp;try with_reducible rfl
 refine ZG 5 ?v5 rfl Z9 ?FF ?_
 case FF=>intro w9 Z0;obtain ⟨-,k0,k1,k2,k3,k4,k5,k6,k7,k8⟩:=Z0;go_simp;try with_reducible rfl
 refine ZG 7 ?v6 rfl Z9 ?tX ?_
 case tX=>intro w9 Z0;obtain ⟨-,k0,k1,k2,k3,k4,k5,k6,k7,k8⟩:=Z0;go_simp;try with_reducible rfl
 refine ZU 3 rfl (fun K hK=>?_);go_simp;refine (kH.out _).mono ?_;rintro e Zc ⟨rfl,b6⟩;have F6:Hid (Ke w S L Bd Bs g N cap C9 Zc):=Z9.below b6;have O6:=Z3 (OP.out.below b6);have I6:=Z3 (IP.out.below b6);clear b6 OP IP;clear Z9;refine hK.out _ _ (F6.out) (fun Z9=>?_);clear hK K;refine ZU 6 rfl (fun K hK=>?_);go_simp;refine (U8 _ g N cap 2 l Zd hl1 hNc Zv).mono ?_;rintro e w7 ⟨rfl,b7⟩;have F7:=Z3 (F6.out.below b7);have O7:=Z3 (O6.out.below b7);have I7:=Z3 (I6.out.below b7);clear b7 O6 I6 F6;obtain ⟨cur,hgb,TV⟩:=AT O7.out;have N7:Hid (∀j u,(I0.map (Value.int .u8))[j]?=some u→w7.cell? ((⟨g4,0,none⟩:Addr).add j)=some u):=Ud I7.out rfl;have lh:Hid (w7.heap[g]?=some (.cells cur.toArray 5 (0,0))):=hgb;have Zs:Hid (cur.length=cap):=TV;clear hgb TV;clear Z9;refine hK.out _ _ (F7.out) (fun Z9=>?_);clear hK K;refine ZU 8 rfl (fun K hK=>?_);refine VF rfl (.tmp 26) (.tmp 27) 22 22 rfl 5 Tryz.underlying22 yU _ _ _ _ _ _ rfl rfl g 128 cur 5 lh.out (I0.map (Value.int .u8)) (by rw [XJ,WX];exact (Wh (show 23≤l*64 by omega)).symm) (fun _=>⟨rfl,⟨g4,0,none⟩,rfl,N7.out⟩) (by rw [XJ,WX,Zs.out];omega) (Wf _ _) ?_;intro w8 kt Zr;have F8:Hid (Ke w S L Bd Bs g N cap C9 w8):=F7.out.other Zr.out hg2 hBd Zt;have O8:Hid (Own .u8 5 w8 (w.heap.size+2) (.slice (some ⟨g,0,none⟩) N cap) (splice (zeros N) 128 I0)):=Hb O7.out (Zh _) lh.out (by rw [WX];omega) kt.out;clear kt Zr O7 I7 N7 lh Zs F7;clear Z9;refine hK.out _ _ (F8.out) (fun Z9=>?_);clear hK K;refine ZP (by kernel_rfl) ?_ _
 try simp only [Act.put,Y8,Y7,Y6]
 clear Z9
 go_wp2_with fail
 have l8:Hid (∀W,Own .u8 5 W (w.heap.size+2) (.slice (some ⟨g,0,none⟩) N cap) (splice (zeros N) 128 I0)→Calls Tryz.prog 51 #[(.slice (some ⟨g,0,none⟩) N cap),.int .i64 ((1:Nat):Int),.agg (Pu.map (Value.int .u8)).toArray] W fun e w'=>e=.returned (.tuple #[])∧Own .u8 5 w' (w.heap.size+2) (.slice (some ⟨g,0,none⟩) N cap) (Ly (Lx S L))∧W.grownBy w' (some g)):=by
  intro W hW;have hlz:(splice (zeros N) 128 I0).length=N:=by rw [length_splice _ _ _ (by rw [Zh,WX];omega),Zh]
  refine (Rj W (w.heap.size+2) g N cap 1 (splice (zeros N) 128 I0) Pu hW hlz Xx (by omega) Zv).mono ?_;rintro e w' ⟨rfl,o,hg⟩;rw [show 1*64=64 from rfl,HN.out,wu _ (by omega)] at o;rw [HN.out];exact ⟨rfl,o,hg⟩
 have bP:ZX w8 w8.drew:=below_drewN' w8 1;have FP:Hid (Ke w S L Bd Bs g N cap C9 w8.drew):=F8.out.below bP;have OP:Hid (Own .u8 5 w8.drew (w.heap.size+2) (.slice (some ⟨g,0,none⟩) N cap) (splice (zeros N) 128 I0)):=O8.out.below bP;clear bP O8 F8;refine ZH (S:=Ke w S L Bd Bs g N cap C9) (by kernel_rfl) (FP.out) (fun Z9=>?_);generalize w8.drew=p8 at *
 iterate 4 (refine ZW ?_ Z9 ?_ ?_;rotate_left;· intro w9 Z0;obtain ⟨-,k0,k1,k2,k3,k4,k5,k6,k7,k8⟩:=Z0;go_simp;try with_reducible rfl)
 refine ZG 5 ?v11 rfl Z9 ?NH ?_
 case NH=>intro w9 Z0;obtain ⟨-,k0,k1,k2,k3,k4,k5,k6,k7,k8⟩:=Z0;go_simp;try with_reducible rfl
 refine ZU 4 rfl (fun K hK=>?_);go_simp;refine (EC _).mono ?_;rintro e wq ⟨rfl,hwq⟩;rw [hwq];clear hwq;clear Z9;refine hK.out _ _ (FP.out) (fun Z9=>?_);clear hK K;refine ZU 6 rfl (fun K hK=>?_);go_simp;refine (uO.out _).mono ?_;rintro e Zq ⟨g9,c9,rfl,o9,b9⟩;have F9:Hid (Ke w S L Bd Bs g N cap C9 Zq):=Z9.below b9;have O9:=Z3 (OP.out.below b9);have RG:Hid (Zq.rangeAt g9 0 (Pu.map (Value.int .u8))):=fun j v hj=>by have:=Ud o9 rfl j v hj;rw [Sg] at this;exact this
 clear o9 b9 OP;clear Z9;refine hK.out _ _ (F9.out) (fun Z9=>?_);clear hK K;refine ZW (.pointer (some ⟨g9,0,none⟩)) Z9 ?_ ?_
 · intro w9 Z0;have dX:=wt g9 c9 w9;go_simp
 refine ZU 8 rfl (fun K hK=>?_);rw [ZZ (by rfl)];refine wp_load_mid 117 _ rfl g9 0 rfl (Pu.map (Value.int .u8)) _ RG.out Tryz.underlying117 rfl (YH _ (by rw [XJ,Xx])) ?_;clear Z9;refine hK.out _ _ (F9.out) (fun Z9=>?_);clear hK K;refine ZU 9 rfl (fun K hK=>?_);go_simp;refine (l8.out _ O9.out).mono ?_;rintro e LF ⟨rfl,Zp,g10⟩;have O:Hid (Ke w S L Bd Bs g N cap C9 LF):=F9.out.other g10 hg2 hBd Zt;have Za:Hid (Own .u8 5 LF (w.heap.size+2) (.slice (some ⟨g,0,none⟩) N cap) (Ly (Lx S L))):=Zp;clear Zp g10 O9 F9 RG;clear Z9;refine hK.out _ _ (O.out) (fun Z9=>?_);clear hK K;refine ZP (by kernel_rfl) ?_ _
 try simp only [Act.put,Y8,Y7,Y6]
 clear Z9;obtain ⟨-,-,-,k2,k3,-⟩:=O.out;have zr:=O.out.1.out.1.2.2.1.1;obtain ⟨⟨-,d0,d1⟩,f0,f1⟩:=O.out.1.out.1.2.2;go_wp2;refine ZS (v:=.agg #[(.slice (some ⟨g,0,none⟩) N cap),.slice none 0 0]) (by simp [results,Tryz.results20,go_sem,d0,d1]) rfl ⟨_,rfl,?_,?_⟩
 · repeat (first | exact Za.out | refine Own.Yk ?_ (show w.heap.size+1<w.heap.size+2 by omega) _)
 repeat (first | exact O.out.1.out.1.1 | refine Below.setCell ?_ (by simp) _)
end Go.Proofs.YtpmjnbmkippaiaaGreatDoor


