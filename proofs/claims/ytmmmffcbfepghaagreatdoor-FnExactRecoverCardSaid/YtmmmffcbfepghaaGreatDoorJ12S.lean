import Derived.Test.YtmmmffcbfepghaaGreatDoorJ06
set_option maxRecDepth 100000
set_option maxHeartbeats 16000000
set_option linter.unusedVariables false
set_option linter.unusedSimpArgs false
namespace Go.Proofs.YtmmmffcbfepghaaGreatDoor
open Go.RowKit Go.Shelf
variable {S:Int} {ps:List (Int × List Int)} {Z7 xs ys:List Int} {L us:List Value} {B b base c hi j k lo n:Nat} {o o':Option Nat} {e:TypeId} {u v vd vk x:Value} {W W' w w':World}
theorem Own.far {k:IntKind} (h:Own k e w base v xs) (hu:∀g,u.ownBlock=some g→g<base):v.ownBlock=none∨v.ownBlock≠u.ownBlock:=by
 cases hv:v.ownBlock with
 | none=>exact .inl rfl
 | some q =>
  right;intro e
  have:=(h.lt q hv).1;have:=hu q e.symm;omega
theorem Lv {wr w4:World} {g cap:Nat} {x:Int} {dv:Nat→Value} {ob:Obj} {te:TypeId} (ho:Zz wr lo hi vd vk Z7 ps dv) (hhi:hi≤wr.heap.size) (hlo:lo≤wr.heap.size) (hk:ps.length=k) (bw:ZX wr w') (o':Own .u8 te w' wr.heap.size v xs)
    (ST:w4.ownsRow lo 91 2 (.slice (some ⟨g,0,none⟩) (k+1) cap) (k+1) (Yt k (pB ps) dv++[.int .i64 x,v])) (hg4:(w'.alloc ob).grownBy w4 vk.ownBlock) (hat:vk.ownBlock=some g∨g=w'.heap.size+1) :
    Zz w4 lo w4.heap.size vd (.slice (some ⟨g,0,none⟩) (k+1) cap) Z7 (ps++[(x,xs)]) (Zb dv k v):=by
 subst hk;have G:=P4 (Ri w' ob _) hg4;have hsz:=bw.size;have hs4:=G.size;have hvk:∀q,vk.ownBlock=some q→q<wr.heap.size:=fun q hq=>ZB (ho.Pm q hq) hhi
 have hnew:=(o'.other G (o'.far hvk)).b;have hold:∀i,i<ps.length→WK w4 lo (dv i) (pD ps i):=fun i hi=>((ho.p.2.1 i hi).below bw).other G (ho.p.2.2.2 i hi)
 have hlen:(ps++[(x,xs)]).length=ps.length+1:=by simp
 have hd4:Own .u8 5 w4 lo vd Z7:=by
  refine (ho.d.below bw).other G ?_
  rcases ho.dp with h | h
  · rw [h];cases vd.ownBlock with
    | none=>exact .inl rfl
    | some q=>exact .inr (by simp)
  exact .inr (Ne.symm h)
 have hgv:∀u:Value,(∀q,u.ownBlock=some q→q<wr.heap.size)→PL u vk→PL u (.slice (some ⟨g,0,none⟩) (ps.length+1) cap):=by
  intro u hu hn;unfold PL
  cases e:u.ownBlock with
  | none=>exact .inl rfl
  | some q =>
   right
   simp only [Value.ownBlock,ne_eq,Xu]
   intro eq;have:=hu q e
   rcases hat with h | h
   · rcases hn with h' | h'
     · rw [h'] at e;cases e
     exact h' (by rw [e,h,eq])
   omega
 have hlast:PL v (.slice (some ⟨g,0,none⟩) (ps.length+1) cap):=by
  unfold PL
  cases e:v.ownBlock with
  | none=>exact .inl rfl
  | some q =>
   right
   simp only [Value.ownBlock,ne_eq,Xu]
   intro eq;have h1:=o'.lt q e
   rcases hat with h | h
   · have:=hvk g h;omega
   omega
 refine ⟨hd4,⟨?_,?_,?_,?_⟩,fun q hq=>(hd4.lt q hq).2,fun q hq=>(ZO ST q hq).2,?_,?_,?_⟩
 · rw [hlen]
   have e:Yt (ps.length+1) (pB (ps++[(x,xs)])) (Zb dv ps.length v)=Yt ps.length (pB ps) dv++[.int .i64 x,v]:=by
    rw [SU]
    congr 1
    · exact WS (fun i hi=>Xc _ _ _ hi) (fun i hi=>by unfold Zb;rw [Z3 (by omega)])
    rw [Xa];unfold Zb;rw [ZY rfl]
   rw [e];exact ST
 · intro i hi
   rw [hlen] at hi;unfold Zb
   by_cases e:i=ps.length
   · rw [ZY e,e,SR];exact hnew.mono hlo
   rw [Z3 e,NW _ _ _ (by omega)];exact hold i (by omega)
 · intro i j hi hj hne
   rw [hlen] at hi hj;unfold Zb
   by_cases e:i=ps.length
   · rw [ZY e,Z3 (by omega)]
     exact o'.far (fun q hq=>((ho.p.2.1 j (by omega)).lt q hq).2)
   by_cases e':j=ps.length
   · rw [Z3 e,ZY e']
     unfold PL
     cases hv:(dv i).ownBlock with
     | none=>exact .inl rfl
     | some q =>
      right;intro hq
      have:=(o'.lt q hq.symm).1;have:=((ho.p.2.1 i (by omega)).lt q hv).2;omega
   rw [Z3 e,Z3 e'];exact ho.p.2.2.1 i j (by omega) (by omega) hne
 · intro i hi
   rw [hlen] at hi;unfold Zb
   by_cases e:i=ps.length
   · rw [ZY e];exact hlast
   rw [Z3 e];exact hgv _ (fun q hq=>((ho.p.2.1 i (by omega)).lt q hq).2) (ho.p.2.2.2 i (by omega))
 · intro i hi q hq
   rw [hlen] at hi;unfold Zb at hq
   by_cases e:i=ps.length
   · rw [ZY e] at hq;exact (hnew.lt q hq).2
   rw [Z3 e] at hq;exact ((hold i (by omega)).lt q hq).2
 · right
   simp only [Value.ownBlock,ne_eq]
   intro e;have h1:=ho.NY g e.symm
   rcases hat with h | h
   · rcases ho.dp with h' | h'
     · rw [h'] at h;cases h
     exact h' (h.trans e)
   omega
 intro i hi;rw [hlen] at hi;unfold Zb
 by_cases e:i=ps.length
 · rw [ZY e]
   exact o'.far (fun q hq=>by have:=ho.NY q hq;omega)
 rw [Z3 e];exact ho.dq i (by omega)
end Go.Proofs.YtmmmffcbfepghaaGreatDoor
