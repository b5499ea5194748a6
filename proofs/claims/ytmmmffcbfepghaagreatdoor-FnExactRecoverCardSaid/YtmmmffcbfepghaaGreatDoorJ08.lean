import Derived.Test.YtmmmffcbfepghaaGreatDoorJ06
set_option maxRecDepth 100000
set_option maxHeartbeats 16000000
set_option linter.unusedVariables false
set_option linter.unusedSimpArgs false
namespace Go.Proofs.YtmmmffcbfepghaaGreatDoor
open Go.RowKit Go.Shelf
theorem NL (w:World) (ta:Option Addr) (tc:Nat) (ns:List Nd) (start:Int) (ao:Option Addr) (n cap:Nat) (a:List Int) (ht:VL w (.slice ta ns.length tc) ns) (hok:Zp ns=true) (hs:Uc start=true) (hr:Rd .u8 w (.slice ao n cap) a) (hl:a.length=n) (hby:YL a) (hn:n≤8192) :
    Calls Tryz.prog 21 #[.agg #[.slice ta ns.length tc],.int .i64 start,.slice ao n cap] w (FJ w (Yl n a) (TY start 0 ((Yl n a).map (·.1)) ns start 0)):=by
 have HN:=Z8 ht;have WC:=Z8 hok;have HS:=Z8 hs;have HR:=Z8 hr;have HL:=Z8 hl;have Xe:=Z8 hby
 have hnl:ns.length≤1000:=by unfold Zp at hok;simp only [Yg,Zg] at hok;exact hok.1
 have hst:0≤start∧start≤2147483647:=by unfold Uc at hs;simpa using hs
 have HG:=Z8 (SO hok);obtain ⟨res,hres⟩:∃res,res=TY start 0 ((Yl n a).map (·.1)) ns start 0:=⟨_,rfl⟩;have Um:=Z8 hres.symm;rw [←hres];have hn2:¬(8192:Int)<(n:Int):=by omega
 have pp:decide ((8192:Int)<(n:Int))=false:=by simpa using hn2
 clear ht hok hs hr hl hby hres
 go_enter Tryz.func21,Tryz.ntmps21
 go_wp2_with fail
 have F0:Hid (RD w (.slice ta ns.length tc) ((w.alloc (.cells #[.slice ta ns.length tc] 33)).alloc (.cells #[.slice none 0 0,.int .i64 0,.int .i64 0,.int .i64 0] 60))):=RD.new _ _ _ _;generalize (w.alloc _).alloc _=w0 at *;refine (Vh _ _ ns (HN.out.below F0.out.1) (by omega) (QS HG.out)).mono ?_;rintro e w1 ⟨rfl,b1⟩;rw [WC.out];have F1:=Z8 (F0.out.below b1);clear b1 F0
 go_wp2_with fail
 refine (U8 _ start).mono ?_;rintro e wq ⟨rfl,hwq⟩;rw [HS.out,hwq];clear hwq
 go_wp2_with fail
 refine (Kk n _ ao n cap a (HR.out.below F1.out.1) HL.out Xe.out hn ZW).mono ?_;rintro e w2 ⟨v2,us,rfl,o2,b2⟩;have F2:=Z8 (F1.out.below b2);obtain ⟨P,hP⟩:∃P,P=(Yl n a).map (·.1):=⟨_,rfl⟩;rw [←hP] at o2;have wG:=Z8 hP;clear hP;obtain ⟨pa,pc,rfl⟩:=UH.slice o2;have P2:=Z8 o2;have s1:=F1.out.2.1;have s2:=b2.size;clear o2 b2 F1;have tj:=FH (.slice pa P.length pc) (.int .i64 ((pos (Yl n a) (Yl n a).length:Nat):Int)) w2;obtain ⟨-,-,x0,-⟩:=F2.out
 go_wp2_with fail
 clear tj x0;refine (Tv _ _ ns ⟨#[]⟩ (HN.out.below F2.out.1) (by omega)).mono ?_;rintro e w3 ⟨v3,rfl,o3,b3⟩;rw [IC (fun k hk=>Ep HG.out k hk) ⟨#[]⟩ (by rw [SC])] at o3;obtain ⟨na,nc,rfl⟩:=ZU.YW o3;have F3:=Z8 (F2.out.below b3);have O3:=Z8 o3;have P3:=Z8 (P2.out.below b3);have Z4:=Z8 b3.size;clear o3 b3 F2 P2
 go_wp2_with fail
 have BA:Hid (ZX w3 (w3.alloc (.cells #[.slice na ns.length nc,.int .i64 start,.int .i64 0,.int .i64 0] 60))):=ZR.alloc ZW _;have XO:Hid (UX (w3.alloc (.cells #[.slice na ns.length nc,.int .i64 start,.int .i64 0,.int .i64 0] 60)) w3.heap.size (.slice na ns.length nc) (.int .i64 start) (.int .i64 0) (.int .i64 0)):=UX.new _ _ _ _ _ _;generalize w3.alloc _=w4 at *;have s3:=F3.out.2.1;have ZV:=Z4.out;have b:Hid (Rp w (.slice ta ns.length tc) w3.heap.size (Yl n a) start res 0 (.slice na ns.length nc) ns start 0 w4) :=
  ⟨F3.out.below BA.out,by have:=XO.out;rw [Tr];exact this,(O3.out.below BA.out).mono (by omega),fun e=>by have:=(ZO O3.out _ e).2;omega,HG.out,hnl,⟨by omega,by omega⟩,fun h=>by omega,by rw [Jq];exact Um.out⟩
 have hP:=wG.out;have Z2:P.length=(Yl n a).length:=by rw [hP,Vi]
 have ZS:P.length≤8192:=by have:=Km n a;omega
 have Z':Hid (∀k,k<P.length→∃g ua uc,pa=some ⟨g,0,none⟩∧g<w3.heap.size∧w3.cell? ⟨g,k,none⟩=some (.slice ua (pR P k).length uc)∧Rd .u8 w3 (.slice ua (pR P k).length uc) (pR P k)):=by
  intro k hk;have h1:=P3.out.2.1 k hk;obtain ⟨ua,uc,hu⟩:=Own.slice h1
  rcases P3.out.1.2 with ⟨h2,h3⟩ | ⟨g,gc,cur,h2,-⟩
  · omega
  simp only [Zc] at h2
  obtain ⟨rfl,-,rfl⟩:=h2;refine ⟨g,ua,uc,rfl,(ZO P3.out.1 g rfl).2,?_,by rw [←hu];exact h1.rd⟩;have h4:=U0 P3.out.1 k (by omega);rw [h4,zU (by rw [UH.len P3.out];exact hk),hu]
 have Z9:Hid (∀k,k<P.length→YL (pR P k)∧(pR P k).length≤2000∧(fr (pR P k)).length=((Yl n a).getD k ([],0)).2):=fun k hk=>by rw [hP];exact El HL.out k (by omega)
 have K:Hid (∀k,k≤P.length→pos (Yl n a) k≤8192):=fun k hk=>by have:=(VC n a (by rw [HL.out];exact ZW)).2.2 k (by omega);have:=HL.out;omega
 have HDR:Hid (∀k,k<P.length→((Yl n a).drop k).map (·.1)=pR P k :: ((Yl n a).drop (k+1)).map (·.1)):=fun k hk=>by rw [hP];exact Ii _ k (by omega)
 have uN:Hid (∀k,k<P.length→pos (Yl n a) (k+1)=pos (Yl n a) k+((Yl n a).getD k ([],0)).2):=fun k hk=>Oi _ _ (by omega)
 have OT:Hid (∀k,P.length≤k→((Yl n a).drop k).map (·.1)=[]):=fun k hk=>by rw [List.drop_of_length_le (by omega)];rfl
 clear wG hP;generalize Yl n a=R at *;have B4:=Z8 BA.out;clear XO BA P3 O3 Z2 Um
 go_loopw [9,10] (fun Z1 i wr=>∃(k:Nat) (v:Value) (ns':List Nd) (zx last bv:Int),k≤P.length∧i=.int .i64 k∧Z1=.int .i64 bv∧Hid (bv=if k=0 then -1 else last)∧Hid (Rp w (.slice ta ns.length tc) w3.heap.size R start res k v ns' zx last wr)∧Hid (ZX w3 wr)) (fun _ i _=>P.length - (intOf i).toNat)
 case atStart=>exact ⟨0,_,_,_,0,-1,ZQ _,rfl,rfl,(show _=_ from rfl),b,B4⟩
 case round =>
  clear b B4;obtain ⟨k,v,ns',zx,last,bv,hk,rfl,rfl,J,FB,HB⟩:=hrel;obtain ⟨va,vc,rfl⟩:=ZU.YW FB.out.own
  by_cases hlt:k<P.length
  · obtain ⟨g,ua,uc,rfl,hg3,hcell,hrd⟩:=Z'.out k hlt
    have YN:(k:Int)<(P.length:Int):=by omega
    have hce:=(HB.out.cell (p:=⟨g,k,none⟩) hg3).trans hcell;have Ua:=Z8 (hrd.below HB.out);obtain ⟨hby,hp2,hfr⟩:=Z9.out k hlt;have I:=Z8 hby
    have m:=Z8 hfr;have l:=Z8 hcell;have HR3:=Z8 hrd;clear hcell hrd hby hfr
    go_wp2_with fail
    refine (KP _ _ (pR P k) Ua.out I.out (by omega)).mono ?_;rintro e w5 ⟨b5,hd⟩;have H:=Z8 (FB.out.below b5);have B5:=Z8 (Ye HB.out b5);have j:=Z8 (Ua.out.below b5);clear b5 FB HB hce Ua;have sr:=H.out.head.2.1;have hzx:=H.out.wu;have hps:=K.out k hk;rename_i pn zC K9 Dj;have Kd:Hid _:=zC;clear zC
    rcases hd with ⟨hd,rfl⟩ | ⟨z,es,vx,hd,rfl,ox⟩
    · have Wk:Hid (res=(ns',zx,k)):=by
       have:=H.out.goes;rw [HDR.out k hlt,Ij hd] at this;exact this.symm
      clear hd;have Z:Hid (Rp w (.slice ta ns.length tc) w3.heap.size R start res k (.slice va ns'.length vc) ns' zx last (w5.alloc (.cells #[.bool false,.int .i64 0,.slice none 0 0] 107))):=H.out.below (ZR.alloc ZW _);have t0:(w5.alloc (.cells #[.bool false,.int .i64 0,.slice none 0 0] 107)).cell? ⟨w5.heap.size,0,none⟩=some (.bool false):=by simp
      unfold Ai
      go_wp2_with fail
      generalize w5.alloc _=w6 at *;refine Kd.out _ _ ?_;clear Kd;clear H;have hrs:=Z.out.head.2.2.2;obtain ⟨zr,⟨d0,d1,d2,d3⟩,f0,f1,f2,f3⟩:=hrs;obtain ⟨zo,⟨e0,e1,e2,e3⟩,-⟩:=Z.out.out;go_wp2;refine ZT (v:=.agg #[.slice va ns'.length vc,.int .i64 zx,.int .i64 (k:Int),.int .i64 ((pos R k:Nat):Int)]) (by simp [results,Tryz.results21,go_sem,d0,d1,d2,d3]) rfl ?_;rw [Wk.out];exact ⟨_,rfl,ZU.mono (by repeat (first | exact Z.out.own | refine ZU.ZK ?_ (show w.heap.size+1<w.heap.size+2 by omega) _)) (by omega),by repeat (first | exact Z.out.head.1 | refine Zf ?_ (by simp) _)⟩
    have hzz:=En (Vf hd);have HD:=Z8 hd;obtain ⟨xa,xc,rfl⟩:=Xr.YW ox;have OX:=Z8 ox;clear hd ox;have Z:Hid (Rp w (.slice ta ns.length tc) w3.heap.size R start res k (.slice va ns'.length vc) ns' zx last (w5.alloc (.cells #[.bool true,.int .i64 z,.slice xa es.length xc] 107))):=H.out.below (ZR.alloc ZW _);have B6:Hid (ZX w3 (w5.alloc (.cells #[.bool true,.int .i64 z,.slice xa es.length xc] 107))):=B5.out.alloc B5.out.size _;have u:Hid (Rd .u8 (w5.alloc (.cells #[.bool true,.int .i64 z,.slice xa es.length xc] 107)) (.slice ua (pR P k).length uc) (pR P k)):=j.out.below (ZR.alloc ZW _);have t:Hid (BL (w5.alloc (.cells #[.bool true,.int .i64 z,.slice xa es.length xc] 107)) (.slice xa es.length xc) es):=(Xr.rd OX.out).below (ZR.alloc ZW _);have t0:(w5.alloc (.cells #[.bool true,.int .i64 z,.slice xa es.length xc] 107)).cell? ⟨w5.heap.size,0,none⟩=some (.bool true):=by simp
    have t1:(w5.alloc (.cells #[.bool true,.int .i64 z,.slice xa es.length xc] 107)).cell? ⟨w5.heap.size,1,none⟩=some (.int .i64 z):=by simp
    have t2:(w5.alloc (.cells #[.bool true,.int .i64 z,.slice xa es.length xc] 107)).cell? ⟨w5.heap.size,2,none⟩=some (.slice xa es.length xc):=by simp
    have s:Hid ((w5.alloc (.cells #[.bool true,.int .i64 z,.slice xa es.length xc] 107)).heap.size=w5.heap.size+1):=by show _=_;simp
    have S5:=Z8 H.out.out.1
    go_wp2_with fail
    generalize w5.alloc _=w6 at *;generalize hBx:w5.heap.size=Bx at *;clear hBx;refine Kd.out _ _ ?_;clear Kd H B5 j OX
    cases hbad:(if k=0 then decide (start+1<z) else decide (z≠last+1)) with
    | true =>
     have Wk:Hid (res=(ns',zx,k)):=by
      have:=Z.out.goes;rw [HDR.out k hlt,Em HD.out hbad] at this;exact this.symm
     by_cases hk0:k=0
     · have hbv:bv=-1:=by have:=J.out;rw [ZY hk0] at this;exact this
       rw [ZY hk0] at hbad;have E:start+1<z:=by simpa using hbad
       clear hbad hk0 J;subst hbv;have hrs:=Z.out.head.2.2.2;obtain ⟨zr,⟨d0,d1,d2,d3⟩,f0,f1,f2,f3⟩:=hrs;obtain ⟨zo,⟨e0,e1,e2,e3⟩,-⟩:=Z.out.out;go_wp2;refine ZT (v:=.agg #[.slice va ns'.length vc,.int .i64 zx,.int .i64 (k:Int),.int .i64 ((pos R k:Nat):Int)]) (by simp [results,Tryz.results21,go_sem,d0,d1,d2,d3]) rfl ?_;rw [Wk.out];exact ⟨_,rfl,ZU.mono (by repeat (first | exact Z.out.own | refine ZU.ZK ?_ (show w.heap.size+1<w.heap.size+2 by omega) _)) (by omega),by repeat (first | exact Z.out.head.1 | refine Zf ?_ (by simp) _)⟩
     have hbv:bv=last:=by have:=J.out;rw [Z3 hk0] at this;exact this
     rw [Z3 hk0] at hbad;have hla:=Z.out.NS (by omega);have E:¬z=last+1:=by simpa using hbad
     have Z7:(z != last+1)=true:=by simpa using E
     have Z6:¬last<0:=by omega
     clear hbad hk0 J;subst hbv;have hrs:=Z.out.head.2.2.2;obtain ⟨zr,⟨d0,d1,d2,d3⟩,f0,f1,f2,f3⟩:=hrs;obtain ⟨zo,⟨e0,e1,e2,e3⟩,-⟩:=Z.out.out;go_wp2;refine ZT (v:=.agg #[.slice va ns'.length vc,.int .i64 zx,.int .i64 (k:Int),.int .i64 ((pos R k:Nat):Int)]) (by simp [results,Tryz.results21,go_sem,d0,d1,d2,d3]) rfl ?_;rw [Wk.out];exact ⟨_,rfl,ZU.mono (by repeat (first | exact Z.out.own | refine ZU.ZK ?_ (show w.heap.size+1<w.heap.size+2 by omega) _)) (by omega),by repeat (first | exact Z.out.head.1 | refine Zf ?_ (by simp) _)⟩
    | false =>
     by_cases hk0:k=0
     · have hbv:bv=-1:=by have:=J.out;rw [ZY hk0] at this;exact this
       have HBAD:=Z8 hbad;rw [ZY hk0] at hbad;have E:¬start+1<z:=by simpa using hbad
       clear hbad hk0 J;subst hbv;obtain ⟨zo,⟨e0,e1,e2,e3⟩,g0,g1,g2,g3⟩:=Z.out.out
       by_cases T:zx<z
       · have HLEN:=Z.out.len
         have T6:Hid (Bx<w6.heap.size∧w6.cell? ⟨Bx,0,none⟩=some (.bool true)∧w6.cell? ⟨Bx,1,none⟩=some (.int .i64 z)∧w6.cell? ⟨Bx,2,none⟩=some (.slice xa es.length xc)):=⟨by have:=s.out;omega,t0,t1,t2⟩
         go_wp2_with fail
         refine (Sg _ (.slice va ns'.length vc) ns' z (.slice xa es.length xc) es Z.out.own.rd t.out (by omega) (QS Z.out.good) (zH (Vf HD.out))).mono ?_;rintro e w7 ⟨v7,rfl,o7,b7⟩;rename_i Z0 G ZZ Z5;have F:Hid _:=G;clear G e0 e1 e2 e3 g0 g1 g2 g3 zo t0 t1 t2;obtain ⟨ra,rc,rfl⟩:=ZU.YW o7;have Di:=Ot ns' z es;have bA:ZX w7 (w7.alloc (.cells #[(.slice ra (ZE ns' z es).length rc)] 33)):=ZR.alloc ZW _;have M:=Ye b7 bA;have Y:=Z8 (Z.out.below M);have T8:=Z8 ((M.cell (p:=⟨Bx,1,none⟩) T6.out.1).trans T6.out.2.2.1);have Y8:Hid ((w7.alloc (.cells #[(.slice ra (ZE ns' z es).length rc)] 33)).cell? ⟨w7.heap.size,0,none⟩=some (.slice ra (ZE ns' z es).length rc)):=by show _=_;simp
         have O9:=Z8 (o7.below bA);have B9:=Z8 (Ye B6.out M);have L:Hid (w3.heap.size<w6.heap.size∧Bx≠w3.heap.size∧w7.heap.size≠w3.heap.size):=⟨Z.out.out.1,by have:=S5.out;omega,by have:=Z.out.out.1;have:=b7.size;omega⟩;clear b7 bA M o7 Z B6 t u s T6 S5
         go_wp2_with fail
         generalize w7.alloc _=w8 at *;generalize tk:w7.heap.size=By at *;clear tk;refine F.out _ _ ?_;clear F;have y0:=Y8.out;have t1:=T8.out
         by_cases hbig:1000<(ZE ns' z es).length
         · have Wk:Hid (res=(ns',zx,k)):=by
            have:=Y.out.goes;rw [HDR.out k hlt,Ki HD.out HBAD.out T hbig] at this;exact this.symm
           have QP:(1000:Int)<((ZE ns' z es).length:Int):=by omega
           have hrs:=Y.out.head.2.2.2;obtain ⟨zr,⟨d0,d1,d2,d3⟩,f0,f1,f2,f3⟩:=hrs;obtain ⟨zo,⟨e0,e1,e2,e3⟩,-⟩:=Y.out.out;go_wp2;refine ZT (v:=.agg #[.slice va ns'.length vc,.int .i64 zx,.int .i64 (k:Int),.int .i64 ((pos R k:Nat):Int)]) (by simp [results,Tryz.results21,go_sem,d0,d1,d2,d3]) rfl ?_;rw [Wk.out];exact ⟨_,rfl,ZU.mono (by repeat (first | exact Y.out.own | refine ZU.ZK ?_ (show w.heap.size+1<w.heap.size+2 by omega) _)) (by omega),by repeat (first | exact Y.out.head.1 | refine Zf ?_ (by simp) _)⟩
         have GOES:Hid (TY start (k+1) ((R.drop (k+1)).map (·.1)) (ZE ns' z es) z z=res):=by
          have:=Y.out.goes;rw [HDR.out k hlt,Kh HD.out HBAD.out T hbig] at this;exact this
         have QP:¬(1000:Int)<((ZE ns' z es).length:Int):=by omega
         obtain ⟨zo,⟨e0,e1,e2,e3⟩,g0,g1,g2,g3⟩:=Y.out.out;have hne1:=L.out.2.1;have hne2:=L.out.2.2;have r:w3.heap.size≠Bx:=fun e=>hne1 e.symm
         have q:w3.heap.size≠By:=fun e=>hne2 e.symm
         go_wp2_with fail
         have d:Hid (RD w (.slice ta ns.length tc) (((w8.setCell ⟨w3.heap.size,0,none⟩ (.slice ra (ZE ns' z es).length rc)).setCell ⟨w3.heap.size,1,none⟩ (.int .i64 z)).setCell ⟨w3.heap.size,2,none⟩ (.int .i64 ((k:Int)+1)))):=((Y.out.head.Yu s3 _).Yu s3 _).Yu s3 _;have V:Hid (UX (((w8.setCell ⟨w3.heap.size,0,none⟩ (.slice ra (ZE ns' z es).length rc)).setCell ⟨w3.heap.size,1,none⟩ (.int .i64 z)).setCell ⟨w3.heap.size,2,none⟩ (.int .i64 ((k:Int)+1))) w3.heap.size (.slice ra (ZE ns' z es).length rc) (.int .i64 z) (.int .i64 ((k:Int)+1)) (.int .i64 ((pos R k:Nat):Int))):=((Y.out.out.set0 _).set1 _).set2 _;have U:Hid (Value.ownBlock (.slice ra (ZE ns' z es).length rc)≠some w3.heap.size):=fun e=>by have h1:w6.heap.size≤w3.heap.size:=(ZO O9.out _ e).1;have:=L.out.1;omega
         have O8:Hid (ZU 134 (((w8.setCell ⟨w3.heap.size,0,none⟩ (.slice ra (ZE ns' z es).length rc)).setCell ⟨w3.heap.size,1,none⟩ (.int .i64 z)).setCell ⟨w3.heap.size,2,none⟩ (.int .i64 ((k:Int)+1))) (w.heap.size+2) (.slice ra (ZE ns' z es).length rc) (ZE ns' z es)):=(((O9.out.Yu U.out _).Yu U.out _).Yu U.out _).mono (by have:=L.out.1;omega);have B8:Hid (ZX w3 (((w8.setCell ⟨w3.heap.size,0,none⟩ (.slice ra (ZE ns' z es).length rc)).setCell ⟨w3.heap.size,1,none⟩ (.int .i64 z)).setCell ⟨w3.heap.size,2,none⟩ (.int .i64 ((k:Int)+1)))):=((B9.out.setCell ZW _).setCell ZW _).setCell ZW _;have S:=Z8 ((HR3.out).below B8.out);have D:=Z8 (SN Y.out.good (Vf HD.out));have C:Hid ((ZE ns' z es).length≤1000):=by show _≤_;omega
         have B:Hid (-1≤z∧z≤2147483647):=⟨by omega,by omega⟩;clear Y O9 B9 T8 Y8 y0 t1 e0 e1 e2 e3 g0 g1 g2 g3 zo hne1 hne2 r q QP;generalize ((w8.setCell _ _).setCell _ _).setCell _ _=A at *;have o:=(B8.out.cell (p:=⟨g,k,none⟩) hg3).trans l.out;have W:Hid (Calls Tryz.prog 63 #[.slice ua (pR P k).length uc] A.drew fun e w'=>∃fa fc,e=.returned (.slice fa (R.getD k ([],0)).2 fc)∧w'.cell? ⟨w3.heap.size,3,none⟩=some (.int .i64 ((pos R k:Nat):Int))∧w'.frozen? ⟨w3.heap.size,3,none⟩=false∧w3.heap.size<w'.heap.size∧Hid (ZX A w')):=by
          refine (VB _ _ (pR P k) (S.out.drewN 1) I.out (by omega)).mono ?_;rintro e w' ⟨v',rfl,o',b'⟩;obtain ⟨fa,fc,rfl⟩:=Own.slice o';have b2:ZX A w':=(below_drewN' _ 1).trans b';have X:=V.out.below b2;rw [m.out];exact ⟨fa,fc,rfl,X.2.1.2.2.2,X.2.2.2.2.2,X.1,b2⟩
         obtain ⟨f,⟨-,-,-,q3⟩,-,-,-,r3⟩:=V.out;have hsz2:=uN.out k hlt;have Q:=K.out (k+1) (by omega);have O:Hid (((pos R k:Nat):Int)+(((R.getD k ([],0)).2:Nat):Int)=((pos R (k+1):Nat):Int)):=by show _=_;omega
         have hbd:((pos R k:Nat):Int)+(((R.getD k ([],0)).2:Nat):Int)≤8192:=by omega
         clear hsz2 Q;generalize (R.getD k ([],0)).2=sz at *;generalize hpk:pos R k=N at *
         go_region_law (go_simp;go_at_call 63;refine W.out.mono ?_;rintro e w' ⟨fa,fc,rfl,k3,y,c,bw⟩)
         all_goals
          have x:Hid (Rp w (.slice ta ns.length tc) w3.heap.size R start res (k+1) (.slice ra (ZE ns' z es).length rc) (ZE ns' z es) z z (w'.setCell ⟨w3.heap.size,3,none⟩ (.int .i64 ((N:Int)+(sz:Int))))):=Rp.next s3 d.out (by rw [hpk];exact V.out) O8.out U.out D.out C.out B.out hzz GOES.out bw.out _ (by rw [O.out]);have BN:Hid (ZX w3 (w'.setCell ⟨w3.heap.size,3,none⟩ (.int .i64 ((N:Int)+(sz:Int))))):=(Ye B8.out bw.out).setCell ZW _;clear k3 y c bw W q3 r3;go_wp2;exact ⟨⟨k+1,_,_,_,z,z,by omega,by go_num,rfl,(show _=_ by rw [Z3 (by omega)]),x,BN⟩,by simp [intOf];omega⟩
       have GOES:Hid (TY start (k+1) ((R.drop (k+1)).map (·.1)) ns' zx z=res):=by
        have:=Z.out.goes;rw [HDR.out k hlt,NT HD.out HBAD.out T] at this;exact this
       go_wp2_with fail
       have d:Hid (RD w (.slice ta ns.length tc) (w6.setCell ⟨w3.heap.size,2,none⟩ (.int .i64 ((k:Int)+1)))):=Z.out.head.Yu s3 _;have V:Hid (UX (w6.setCell ⟨w3.heap.size,2,none⟩ (.int .i64 ((k:Int)+1))) w3.heap.size (.slice va ns'.length vc) (.int .i64 zx) (.int .i64 ((k:Int)+1)) (.int .i64 ((pos R k:Nat):Int))):=Z.out.out.set2 _;have O8:Hid (ZU 134 (w6.setCell ⟨w3.heap.size,2,none⟩ (.int .i64 ((k:Int)+1))) (w.heap.size+2) (.slice va ns'.length vc) ns'):=Z.out.own.Yu Z.out.ne _;have B8:Hid (ZX w3 (w6.setCell ⟨w3.heap.size,2,none⟩ (.int .i64 ((k:Int)+1)))):=B6.out.setCell ZW _;have S:=Z8 ((HR3.out).below B8.out);have U:=Z8 Z.out.ne;have D:=Z8 Z.out.good;have C:=Z8 Z.out.len;have B:=Z8 Z.out.wu;clear Z e0 e1 e2 e3 g0 g1 g2 g3 zo t0 t1 t2 u t s;generalize w6.setCell _ _=w8 at *;have o:=(B8.out.cell (p:=⟨g,k,none⟩) hg3).trans l.out;have W:Hid (Calls Tryz.prog 63 #[.slice ua (pR P k).length uc] w8.drew fun e w'=>∃fa fc,e=.returned (.slice fa (R.getD k ([],0)).2 fc)∧w'.cell? ⟨w3.heap.size,3,none⟩=some (.int .i64 ((pos R k:Nat):Int))∧w'.frozen? ⟨w3.heap.size,3,none⟩=false∧w3.heap.size<w'.heap.size∧Hid (ZX w8 w')):=by
        refine (VB _ _ (pR P k) (S.out.drewN 1) I.out (by omega)).mono ?_;rintro e w' ⟨v',rfl,o',b'⟩;obtain ⟨fa,fc,rfl⟩:=Own.slice o';have b2:ZX w8 w':=(below_drewN' _ 1).trans b';have X:=V.out.below b2;rw [m.out];exact ⟨fa,fc,rfl,X.2.1.2.2.2,X.2.2.2.2.2,X.1,b2⟩
       obtain ⟨f,⟨-,-,-,q3⟩,-,-,-,r3⟩:=V.out;have hsz2:=uN.out k hlt;have Q:=K.out (k+1) (by omega);have O:Hid (((pos R k:Nat):Int)+(((R.getD k ([],0)).2:Nat):Int)=((pos R (k+1):Nat):Int)):=by show _=_;omega
       have hbd:((pos R k:Nat):Int)+(((R.getD k ([],0)).2:Nat):Int)≤8192:=by omega
       clear hsz2 Q;generalize (R.getD k ([],0)).2=sz at *;generalize hpk:pos R k=N at *
       go_region_law (go_simp;go_at_call 63;refine W.out.mono ?_;rintro e w' ⟨fa,fc,rfl,k3,y,c,bw⟩)
       all_goals
        have x:Hid (Rp w (.slice ta ns.length tc) w3.heap.size R start res (k+1) (.slice va ns'.length vc) ns' zx z (w'.setCell ⟨w3.heap.size,3,none⟩ (.int .i64 ((N:Int)+(sz:Int))))):=Rp.next s3 d.out (by rw [hpk];exact V.out) O8.out U.out D.out C.out B.out hzz GOES.out bw.out _ (by rw [O.out]);have BN:Hid (ZX w3 (w'.setCell ⟨w3.heap.size,3,none⟩ (.int .i64 ((N:Int)+(sz:Int))))):=(Ye B8.out bw.out).setCell ZW _;clear k3 y c bw W q3 r3;go_wp2;exact ⟨⟨k+1,_,_,_,z,z,by omega,by go_num,rfl,(show _=_ by rw [Z3 (by omega)]),x,BN⟩,by simp [intOf];omega⟩
     have hbv:bv=last:=by have:=J.out;rw [Z3 hk0] at this;exact this
     have HBAD:=Z8 hbad;rw [Z3 hk0] at hbad;have hla:=Z.out.NS (by omega);have E:z=last+1:=by simpa using hbad
     have Z7:(z != last+1)=false:=by simpa using E
     have Z6:¬last<0:=by omega
     have ZP:=Z8 E;clear hbad hk0 J E;subst hbv;obtain ⟨zo,⟨e0,e1,e2,e3⟩,g0,g1,g2,g3⟩:=Z.out.out
     by_cases T:zx<z
     · have HLEN:=Z.out.len
       have T6:Hid (Bx<w6.heap.size∧w6.cell? ⟨Bx,0,none⟩=some (.bool true)∧w6.cell? ⟨Bx,1,none⟩=some (.int .i64 z)∧w6.cell? ⟨Bx,2,none⟩=some (.slice xa es.length xc)):=⟨by have:=s.out;omega,t0,t1,t2⟩
       go_wp2_with fail
       refine (Sg _ (.slice va ns'.length vc) ns' z (.slice xa es.length xc) es Z.out.own.rd t.out (by omega) (QS Z.out.good) (zH (Vf HD.out))).mono ?_;rintro e w7 ⟨v7,rfl,o7,b7⟩;rename_i Z0 G ZZ Z5;have F:Hid _:=G;clear G e0 e1 e2 e3 g0 g1 g2 g3 zo t0 t1 t2;obtain ⟨ra,rc,rfl⟩:=ZU.YW o7;have Di:=Ot ns' z es;have bA:ZX w7 (w7.alloc (.cells #[(.slice ra (ZE ns' z es).length rc)] 33)):=ZR.alloc ZW _;have M:=Ye b7 bA;have Y:=Z8 (Z.out.below M);have T8:=Z8 ((M.cell (p:=⟨Bx,1,none⟩) T6.out.1).trans T6.out.2.2.1);have Y8:Hid ((w7.alloc (.cells #[(.slice ra (ZE ns' z es).length rc)] 33)).cell? ⟨w7.heap.size,0,none⟩=some (.slice ra (ZE ns' z es).length rc)):=by show _=_;simp
       have O9:=Z8 (o7.below bA);have B9:=Z8 (Ye B6.out M);have L:Hid (w3.heap.size<w6.heap.size∧Bx≠w3.heap.size∧w7.heap.size≠w3.heap.size):=⟨Z.out.out.1,by have:=S5.out;omega,by have:=Z.out.out.1;have:=b7.size;omega⟩;clear b7 bA M o7 Z B6 t u s T6 S5
       go_wp2_with fail
       generalize w7.alloc _=w8 at *;generalize tk:w7.heap.size=By at *;clear tk;refine F.out _ _ ?_;clear F;have y0:=Y8.out;have t1:=T8.out
       by_cases hbig:1000<(ZE ns' z es).length
       · have Wk:Hid (res=(ns',zx,k)):=by
          have:=Y.out.goes;rw [HDR.out k hlt,Ki HD.out HBAD.out T hbig] at this;exact this.symm
         have QP:(1000:Int)<((ZE ns' z es).length:Int):=by omega
         have hrs:=Y.out.head.2.2.2;obtain ⟨zr,⟨d0,d1,d2,d3⟩,f0,f1,f2,f3⟩:=hrs;obtain ⟨zo,⟨e0,e1,e2,e3⟩,-⟩:=Y.out.out;go_wp2;refine ZT (v:=.agg #[.slice va ns'.length vc,.int .i64 zx,.int .i64 (k:Int),.int .i64 ((pos R k:Nat):Int)]) (by simp [results,Tryz.results21,go_sem,d0,d1,d2,d3]) rfl ?_;rw [Wk.out];exact ⟨_,rfl,ZU.mono (by repeat (first | exact Y.out.own | refine ZU.ZK ?_ (show w.heap.size+1<w.heap.size+2 by omega) _)) (by omega),by repeat (first | exact Y.out.head.1 | refine Zf ?_ (by simp) _)⟩
       have GOES:Hid (TY start (k+1) ((R.drop (k+1)).map (·.1)) (ZE ns' z es) z z=res):=by
        have:=Y.out.goes;rw [HDR.out k hlt,Kh HD.out HBAD.out T hbig] at this;exact this
       have QP:¬(1000:Int)<((ZE ns' z es).length:Int):=by omega
       obtain ⟨zo,⟨e0,e1,e2,e3⟩,g0,g1,g2,g3⟩:=Y.out.out;have hne1:=L.out.2.1;have hne2:=L.out.2.2;have r:w3.heap.size≠Bx:=fun e=>hne1 e.symm
       have q:w3.heap.size≠By:=fun e=>hne2 e.symm
       go_wp2_with fail
       have d:Hid (RD w (.slice ta ns.length tc) (((w8.setCell ⟨w3.heap.size,0,none⟩ (.slice ra (ZE ns' z es).length rc)).setCell ⟨w3.heap.size,1,none⟩ (.int .i64 z)).setCell ⟨w3.heap.size,2,none⟩ (.int .i64 ((k:Int)+1)))):=((Y.out.head.Yu s3 _).Yu s3 _).Yu s3 _;have V:Hid (UX (((w8.setCell ⟨w3.heap.size,0,none⟩ (.slice ra (ZE ns' z es).length rc)).setCell ⟨w3.heap.size,1,none⟩ (.int .i64 z)).setCell ⟨w3.heap.size,2,none⟩ (.int .i64 ((k:Int)+1))) w3.heap.size (.slice ra (ZE ns' z es).length rc) (.int .i64 z) (.int .i64 ((k:Int)+1)) (.int .i64 ((pos R k:Nat):Int))):=((Y.out.out.set0 _).set1 _).set2 _;have U:Hid (Value.ownBlock (.slice ra (ZE ns' z es).length rc)≠some w3.heap.size):=fun e=>by have h1:w6.heap.size≤w3.heap.size:=(ZO O9.out _ e).1;have:=L.out.1;omega
       have O8:Hid (ZU 134 (((w8.setCell ⟨w3.heap.size,0,none⟩ (.slice ra (ZE ns' z es).length rc)).setCell ⟨w3.heap.size,1,none⟩ (.int .i64 z)).setCell ⟨w3.heap.size,2,none⟩ (.int .i64 ((k:Int)+1))) (w.heap.size+2) (.slice ra (ZE ns' z es).length rc) (ZE ns' z es)):=(((O9.out.Yu U.out _).Yu U.out _).Yu U.out _).mono (by have:=L.out.1;omega);have B8:Hid (ZX w3 (((w8.setCell ⟨w3.heap.size,0,none⟩ (.slice ra (ZE ns' z es).length rc)).setCell ⟨w3.heap.size,1,none⟩ (.int .i64 z)).setCell ⟨w3.heap.size,2,none⟩ (.int .i64 ((k:Int)+1)))):=((B9.out.setCell ZW _).setCell ZW _).setCell ZW _;have S:=Z8 ((HR3.out).below B8.out);have D:=Z8 (SN Y.out.good (Vf HD.out));have C:Hid ((ZE ns' z es).length≤1000):=by show _≤_;omega
       have B:Hid (-1≤z∧z≤2147483647):=⟨by omega,by omega⟩;clear Y O9 B9 T8 Y8 y0 t1 e0 e1 e2 e3 g0 g1 g2 g3 zo hne1 hne2 r q QP;generalize ((w8.setCell _ _).setCell _ _).setCell _ _=A at *;have o:=(B8.out.cell (p:=⟨g,k,none⟩) hg3).trans l.out;have W:Hid (Calls Tryz.prog 63 #[.slice ua (pR P k).length uc] A.drew fun e w'=>∃fa fc,e=.returned (.slice fa (R.getD k ([],0)).2 fc)∧w'.cell? ⟨w3.heap.size,3,none⟩=some (.int .i64 ((pos R k:Nat):Int))∧w'.frozen? ⟨w3.heap.size,3,none⟩=false∧w3.heap.size<w'.heap.size∧Hid (ZX A w')):=by
        refine (VB _ _ (pR P k) (S.out.drewN 1) I.out (by omega)).mono ?_;rintro e w' ⟨v',rfl,o',b'⟩;obtain ⟨fa,fc,rfl⟩:=Own.slice o';have b2:ZX A w':=(below_drewN' _ 1).trans b';have X:=V.out.below b2;rw [m.out];exact ⟨fa,fc,rfl,X.2.1.2.2.2,X.2.2.2.2.2,X.1,b2⟩
       obtain ⟨f,⟨-,-,-,q3⟩,-,-,-,r3⟩:=V.out;have hsz2:=uN.out k hlt;have Q:=K.out (k+1) (by omega);have O:Hid (((pos R k:Nat):Int)+(((R.getD k ([],0)).2:Nat):Int)=((pos R (k+1):Nat):Int)):=by show _=_;omega
       have hbd:((pos R k:Nat):Int)+(((R.getD k ([],0)).2:Nat):Int)≤8192:=by omega
       clear hsz2 Q;generalize (R.getD k ([],0)).2=sz at *;generalize hpk:pos R k=N at *
       go_region_law (go_simp;go_at_call 63;refine W.out.mono ?_;rintro e w' ⟨fa,fc,rfl,k3,y,c,bw⟩)
       all_goals
        have x:Hid (Rp w (.slice ta ns.length tc) w3.heap.size R start res (k+1) (.slice ra (ZE ns' z es).length rc) (ZE ns' z es) z z (w'.setCell ⟨w3.heap.size,3,none⟩ (.int .i64 ((N:Int)+(sz:Int))))):=Rp.next s3 d.out (by rw [hpk];exact V.out) O8.out U.out D.out C.out B.out hzz GOES.out bw.out _ (by rw [O.out]);have BN:Hid (ZX w3 (w'.setCell ⟨w3.heap.size,3,none⟩ (.int .i64 ((N:Int)+(sz:Int))))):=(Ye B8.out bw.out).setCell ZW _;clear k3 y c bw W q3 r3;go_wp2;exact ⟨⟨k+1,_,_,_,z,z,by omega,by go_num,rfl,(show _=_ by rw [Z3 (by omega)]),x,BN⟩,by simp [intOf];omega⟩
     have GOES:Hid (TY start (k+1) ((R.drop (k+1)).map (·.1)) ns' zx z=res):=by
      have:=Z.out.goes;rw [HDR.out k hlt,NT HD.out HBAD.out T] at this;exact this
     go_wp2_with fail
     have d:Hid (RD w (.slice ta ns.length tc) (w6.setCell ⟨w3.heap.size,2,none⟩ (.int .i64 ((k:Int)+1)))):=Z.out.head.Yu s3 _;have V:Hid (UX (w6.setCell ⟨w3.heap.size,2,none⟩ (.int .i64 ((k:Int)+1))) w3.heap.size (.slice va ns'.length vc) (.int .i64 zx) (.int .i64 ((k:Int)+1)) (.int .i64 ((pos R k:Nat):Int))):=Z.out.out.set2 _;have O8:Hid (ZU 134 (w6.setCell ⟨w3.heap.size,2,none⟩ (.int .i64 ((k:Int)+1))) (w.heap.size+2) (.slice va ns'.length vc) ns'):=Z.out.own.Yu Z.out.ne _;have B8:Hid (ZX w3 (w6.setCell ⟨w3.heap.size,2,none⟩ (.int .i64 ((k:Int)+1)))):=B6.out.setCell ZW _;have S:=Z8 ((HR3.out).below B8.out);have U:=Z8 Z.out.ne;have D:=Z8 Z.out.good;have C:=Z8 Z.out.len;have B:=Z8 Z.out.wu;clear Z e0 e1 e2 e3 g0 g1 g2 g3 zo t0 t1 t2 u t s;generalize w6.setCell _ _=w8 at *;have o:=(B8.out.cell (p:=⟨g,k,none⟩) hg3).trans l.out;have W:Hid (Calls Tryz.prog 63 #[.slice ua (pR P k).length uc] w8.drew fun e w'=>∃fa fc,e=.returned (.slice fa (R.getD k ([],0)).2 fc)∧w'.cell? ⟨w3.heap.size,3,none⟩=some (.int .i64 ((pos R k:Nat):Int))∧w'.frozen? ⟨w3.heap.size,3,none⟩=false∧w3.heap.size<w'.heap.size∧Hid (ZX w8 w')):=by
      refine (VB _ _ (pR P k) (S.out.drewN 1) I.out (by omega)).mono ?_;rintro e w' ⟨v',rfl,o',b'⟩;obtain ⟨fa,fc,rfl⟩:=Own.slice o';have b2:ZX w8 w':=(below_drewN' _ 1).trans b';have X:=V.out.below b2;rw [m.out];exact ⟨fa,fc,rfl,X.2.1.2.2.2,X.2.2.2.2.2,X.1,b2⟩
     obtain ⟨f,⟨-,-,-,q3⟩,-,-,-,r3⟩:=V.out;have hsz2:=uN.out k hlt;have Q:=K.out (k+1) (by omega);have O:Hid (((pos R k:Nat):Int)+(((R.getD k ([],0)).2:Nat):Int)=((pos R (k+1):Nat):Int)):=by show _=_;omega
     have hbd:((pos R k:Nat):Int)+(((R.getD k ([],0)).2:Nat):Int)≤8192:=by omega
     clear hsz2 Q;generalize (R.getD k ([],0)).2=sz at *;generalize hpk:pos R k=N at *
     go_region_law (go_simp;go_at_call 63;refine W.out.mono ?_;rintro e w' ⟨fa,fc,rfl,k3,y,c,bw⟩)
     all_goals
      have x:Hid (Rp w (.slice ta ns.length tc) w3.heap.size R start res (k+1) (.slice va ns'.length vc) ns' zx z (w'.setCell ⟨w3.heap.size,3,none⟩ (.int .i64 ((N:Int)+(sz:Int))))):=Rp.next s3 d.out (by rw [hpk];exact V.out) O8.out U.out D.out C.out B.out hzz GOES.out bw.out _ (by rw [O.out]);have BN:Hid (ZX w3 (w'.setCell ⟨w3.heap.size,3,none⟩ (.int .i64 ((N:Int)+(sz:Int))))):=(Ye B8.out bw.out).setCell ZW _;clear k3 y c bw W q3 r3;go_wp2;exact ⟨⟨k+1,_,_,_,z,z,by omega,by go_num,rfl,(show _=_ by rw [Z3 (by omega)]),x,BN⟩,by simp [intOf];omega⟩
  have hkn:k=P.length:=by omega
  have YN:¬(k:Int)<(P.length:Int):=by omega
  have Wk:Hid (res=(ns',zx,k)):=by
   have:=FB.out.goes;rw [OT.out k (by omega),TY] at this;exact this.symm
  have sr:=FB.out.head.2.1;clear hkn;have hrs:=FB.out.head.2.2.2;obtain ⟨zr,⟨d0,d1,d2,d3⟩,f0,f1,f2,f3⟩:=hrs;obtain ⟨zo,⟨e0,e1,e2,e3⟩,-⟩:=FB.out.out;go_wp2;refine ZT (v:=.agg #[.slice va ns'.length vc,.int .i64 zx,.int .i64 (k:Int),.int .i64 ((pos R k:Nat):Int)]) (by simp [results,Tryz.results21,go_sem,d0,d1,d2,d3]) rfl ?_;rw [Wk.out];exact ⟨_,rfl,ZU.mono (by repeat (first | exact FB.out.own | refine ZU.ZK ?_ (show w.heap.size+1<w.heap.size+2 by omega) _)) (by omega),by repeat (first | exact FB.out.head.1 | refine Zf ?_ (by simp) _)⟩
end Go.Proofs.YtmmmffcbfepghaaGreatDoor


