import Derived.Test.YtabbahpalemlhaaGreatDoorJ12
namespace Go.Proofs.YtabbahpalemlhaaGreatDoor
open Go.RowKit
set_option maxRecDepth 20000
def Parts (w w':World) (v:Value) (n N:Nat):Prop:=∃ (xs:List Value) (ls:List (List Nd)),xs.length=n∧w'.ownsRow w.heap.size 48 1 v n xs∧xs.length=ls.length∧(∀ (j:Nat) u l,xs[j]?=some u→ls[j]?=some l→NdIn w' u l)∧NdOk N ls.flatten
theorem Parts.gk {B:Nat} {w w1 w2:World} {v:Value} {n N:Nat} (h:Parts w w1 v n N) (hg:Gk B w1 w2):Parts w w2 v n N:=by
 obtain ⟨xs,ls,h1,h2,h3,h4,h5⟩:=h
 refine ⟨xs,ls,h1,?_,h3,fun j u l hu hl=>(h4 j u l hu hl).gk hg,h5⟩
 obtain ⟨a1,a2 | ⟨g,cap,cur,b1,b2,b3,b4⟩⟩:=h2
 ·exact ⟨a1,.inl a2⟩
 ·exact ⟨a1,.inr ⟨g,cap,cur,b1,b2,(hg.block g _ _ _ b3 (by unfold GenT;decide)).trans b3,b4⟩⟩
theorem At.parted {s:Gs} {C:Nat} {w w1 w2:World} {v:Value} {n:Nat} {xs:List Value} (h:At s C w w1) (hv:w1.ownsRow w.heap.size 48 1 v n xs) (hg:w1.grownBy w2 v.ownBlock) :
  At s C w w2∧∀ u l,NdIn w1 u l→NdIn w2 u l:=by
 obtain ⟨p',c',sz',h1,h2,h3,h4,h5,h6,h7,h8⟩:=h
 have hlo:∀ k,v.ownBlock=some k→w.heap.size≤k∧∃ cur,w1.heap[k]?=some (.cells cur 48 (0,0)):=fun k hk=>by
  rcases hv.2 with ⟨rfl,_⟩ | ⟨g,cap,cur,rfl,a,b,_⟩
  ·simp [Value.ownBlock] at hk
  ·simp only [Value.ownBlock,Option.some.injEq] at hk
   subst hk
   exact ⟨a,cur,b⟩
 have keep:∀ (k:Nat) cs t fr,w1.heap[k]?=some (.cells cs t fr)→t≠48→w2.heap[k]?=w1.heap[k]?:=fun k cs t fr hc ht=>hg.block k (Array.getElem?_eq_some_iff.1 hc).1 fun e2=>by
  obtain ⟨_,cur,hc2⟩:=hlo k e2.symm
  rw [hc] at hc2
  cases hc2
  exact ht rfl
 have old:∀ k,k < w.heap.size→k < w1.heap.size→w2.heap[k]?=w1.heap[k]?:=fun k hk hk1=>hg.block k hk1 fun e2=>by have:=(hlo k e2.symm).1;omega
 have hgk:Gk s.R w w2:=⟨hg.os.trans h8.os,hg.tape.trans h8.tape,hg.output.trans h8.output,Nat.le_trans h8.size hg.size,fun k hk=>by
   have hR:=h7.rd.lt
   have hlow:=h8.low k hk
   by_cases hkw:k < w.heap.size
   ·exact (old k hkw (Nat.lt_of_lt_of_le hkw h8.size)).trans hlow
   ·have e0:w.heap[k]?=none:=Array.getElem?_eq_none (by omega)
    rw [e0] at hlow
    exact absurd (Array.getElem?_eq_none_iff.1 hlow) (by omega),
  fun k cs t fr hc ht=>(old k (Array.getElem?_eq_some_iff.1 hc).1 (Nat.lt_of_lt_of_le (Array.getElem?_eq_some_iff.1 hc).1 h8.size)).trans (h8.block k cs t fr hc ht),
  fun k cs fr hc=>by
   obtain ⟨cs',h9,e9⟩:=h8.fld k cs fr hc
   exact ⟨cs',(old k (Array.getElem?_eq_some_iff.1 hc).1 (Nat.lt_of_lt_of_le (Array.getElem?_eq_some_iff.1 hc).1 h8.size)).trans h9,e9⟩⟩
 refine ⟨⟨p',c',sz',h1,h2,h3,h4,h5,h6,?_,hgk⟩,fun u l hn=>hn.keep fun g cur hc=>keep g _ _ _ hc (by decide)⟩
 obtain ⟨⟨vn,vf,e1,e2,e3⟩,e4,e5,e6,e7⟩:=h7
 have own:∀ {e size n:Nat} {v:Value} {xs:List Value},w1.ownsRow s.R e size v n xs→e≠48→w2.ownsRow s.R e size v n xs:=fun {e size n v xs} h ht=>by
  obtain ⟨a1,a2 | ⟨g,cap,cur,b1,b2,b3,b4⟩⟩:=h
  ·exact ⟨a1,.inl a2⟩
  ·exact ⟨a1,.inr ⟨g,cap,cur,b1,b2,(keep g _ _ _ b3 ht).trans b3,b4⟩⟩
 refine ⟨⟨vn,vf,(keep s.G _ _ _ e1 (by decide)).trans e1,own e2 (by decide),own e3 (by decide)⟩,?_,e5,e6,fun f hf=>?_⟩
 ·obtain ⟨ad,n,cap,r1,r2,r3⟩:=e4
  refine ⟨ad,n,cap,(keep s.R _ _ _ r1 (by decide)).trans r1,r2,?_⟩
  rcases r3 with r3 | ⟨a,q2,r4,r5⟩
  ·exact .inl r3
  ·refine .inr ⟨a,q2,r4,fun i hi=>?_⟩
   obtain ⟨x,hx⟩:=r5 i hi
   refine ⟨x,?_⟩
   have hlow:=(hgk.low a.block r4).trans (h8.low a.block r4).symm
   rw [← hx]
   exact World.cell?_of_block (w:=w1) (a:=a.add i) (h:=by rw [add_block];exact hlow)
 ·obtain ⟨f1,f2,f3,f4⟩:=e7 f hf
  refine ⟨f1,f2,f3,f4.imp_right ?_⟩
  rintro ⟨g,cur,q,qa,qb⟩
  exact ⟨g,cur,q,(keep g _ _ _ qa (by decide)).trans qa,qb⟩
theorem Parts.more {s:Gs} {C:Nat} {w w1 w2:World} {v v2 u:Value} {n N K:Nat} {xs:List Value} {ls:List (List Nd)} (hn:xs.length=n) (hl:xs.length=ls.length) (hh:∀ (j:Nat) u l,xs[j]?=some u→ls[j]?=some l→NdIn w1 u l) (hok:NdOk N ls.flatten) (hu:Has K w1 u) (h:At s C w w1) (hv:w1.ownsRow w.heap.size 48 1 v n xs) (hg:w1.grownBy w2 v.ownBlock) (ho:w2.ownsRow w.heap.size 48 1 v2 (n+1) (xs ++ [u])) :
  At s C w w2∧Parts w w2 v2 (n+1) (N+K):=by
 obtain ⟨ha,hk⟩:=h.parted hv hg
 obtain ⟨lu,h1,h2⟩:=hu
 refine ⟨ha,xs ++ [u],ls ++ [lu],by simp [hn],ho,by simp [hl],fun j u' l' hu' hl'=>?_,by rw [List.flatten_append];simpa using hok.app h2⟩
 by_cases hj:j < xs.length
 ·rw [List.getElem?_append_left hj] at hu'
  rw [List.getElem?_append_left (by omega)] at hl'
  exact hk _ _ (hh j u' l' hu' hl')
 ·rw [List.getElem?_append_right (by omega)] at hu'
  rw [List.getElem?_append_right (by omega)] at hl'
  have hj0:j - xs.length=0:=by
   have:=(List.getElem?_eq_some_iff.1 hu').1
   simp at this
   omega
  rw [hj0] at hu'
  rw [show j - ls.length=0 by omega] at hl'
  cases hu';cases hl'
  exact hk _ _ h1
theorem overP_at {s:Gs} {C n N g c:Nat} {w w':World} (h:At s C w w') (x:Nd) (hp:Parts w w' (.slice (some ⟨g,0,none⟩) n c) n N) (hn:n≤1000) (hx:x.text.size≤1000) (hK:N≤100000) :
  Calls Tryz.prog 61 #[.agg #[.int .i64 x.kind,.int .i64 x.op,.int .i64 x.n,.string x.text,.int .i64 x.kids],.slice (some ⟨g,0,none⟩) n c] w' (NdEnd s (N+1) C w w'):=by
 obtain ⟨xs,ls,h1,h2,h3,h4,h5⟩:=hp
 have hparts:PartsIn w' (some ⟨g,0,none⟩) xs ls:=by
  refine ⟨h3,?_,h4⟩
  rcases h2.2 with ⟨e,_⟩ | ⟨g',cap,cur,e,_,b3,_,_,_,b4⟩
  ·cases e
  ·cases e
   refine .inr ⟨g,rfl,cur,b3,fun j u hu=>?_⟩
   rw [Nat.mul_one] at b4
   rw [← b4] at hu
   have hj:=(List.getElem?_eq_some_iff.1 hu).1
   rw [List.length_take] at hj
   rw [List.getElem?_take_of_lt (by omega)] at hu
   simpa using hu
 refine (l2Over_any x (some ⟨g,0,none⟩) n c xs ls w' h1 (by omega) hparts (by have:=h5.1;omega)).mono ?_
 rintro e w2 ⟨v,rfl,h6,h7⟩
 exact ⟨v,_,rfl,h6,h5.over hx,h.next h7,h.gk_next h7⟩
end Go.Proofs.YtabbahpalemlhaaGreatDoor
