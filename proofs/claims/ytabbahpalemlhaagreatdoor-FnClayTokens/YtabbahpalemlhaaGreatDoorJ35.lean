import Derived.Deep.DeepCutAuto
import Derived.Test.YtabbahpalemlhaaGreatDoorJ34
import Derived.Test.YtabbahpalemlhaaGreatDoorJ31
namespace Go.Proofs.YtabbahpalemlhaaGreatDoor
open Go.RowKit
set_option maxRecDepth 20000
theorem Gd.lo {B:Nat} {w w':World} (h:Gd B w w'):Below B w w':=⟨h.os,h.tape,h.output,h.size,h.low⟩
theorem GS.start {R p:Nat} {w:World} (h:Rd R w p) (x:Nat) (hx:x≤100):GS R w.heap.size [] [] (p+1) (w.alloc (.cells #[.pointer (some ⟨R,0,none⟩),.slice none 0 0,.slice none 0 0,.int .i64 0,.int .i64 (20+x)] 102)) :=
 ⟨0,20+x,p,⟨⟨.slice none 0 0,.slice none 0 0,heap_alloc_new w _,⟨rfl,.inl ⟨rfl,rfl⟩⟩,⟨rfl,.inl ⟨rfl,rfl⟩⟩⟩,h.next ((Below.refl _ _).alloc (Nat.le_refl _) _),⟨Nat.le_refl _,h.lt⟩,fun y hy=>(nomatch hy),fun y hy=>(nomatch hy)⟩,by omega,by omega,by omega,by omega⟩
set_option maxHeartbeats 4000000 in
theorem prog_any (R p:Nat) (w:World) (h:Rd R w p) (hp:p≤1000) :
  Calls Tryz.prog 41 #[.pointer (some ⟨R,0,none⟩)] w fun e w2=>∃ g n c,e=.returned (.agg #[.slice (some ⟨g,0,none⟩) n c])∧Has 3100 w2 (.slice (some ⟨g,0,none⟩) n c)∧(∃ p',p'≤p+40000∧Rd R w2 p')∧BR R w w2:=by
 have HB0:=hid ((Below.refl w.heap.size w).alloc (Nat.le_refl _) (.cells #[.slice none 0 0] 50))
 have HBX:=hid (heap_alloc_new w (.cells #[.slice none 0 0] 50))
 have HR:=hid (h.next HB0.out)
 have hRl:=h.lt
 clear h
 go_enter Tryz.func41,Tryz.ntmps41
 go_wp2_with fail
 refine (pick_any R p 80 _ (by omega) (by omega) HR.out).mono ?_
 rintro e w1 ⟨⟨x1,rfl,hx1⟩,r1,s1⟩
 obtain ⟨rb,hrb⟩:∃ g,w.heap.size=g:=⟨_,rfl⟩
 have hb1:=(s1.block w.heap.size (by simp) (by show ¬ w.heap.size=R;omega)).trans HBX.out
 rw [hrb] at hb1
 have HB1:=hid hb1
 have HS1:=hid s1
 have HR1:=hid r1
 have hrb1:rb < w1.heap.size:=(Array.getElem?_eq_some_iff.1 hb1).1
 clear hb1 s1 r1 HR
 have hw1:IntKind.i64.wrap (20+(x1:Int))=20+(x1:Int):=by rw [IntKind.wrap_i64];omega
 go_upto_region 2 with fail
 have HAL:=hid (((Below.refl w1.heap.size w1).alloc (Nat.le_refl _) (.cells #[.pointer (some ⟨R,0,none⟩),.slice none 0 0,.slice none 0 0,.int .i64 0,.int .i64 (20+x1)] 102)).alloc (by simp) (.cells #[] 48))
 have HGS:=hid ((GS.start HR1.out x1 (by omega)).next ((Below.refl _ _).alloc (Nat.le_refl _) (.cells #[] 48)))
 have HB2:=hid (hp_next HB1.out HAL.out)
 go_wp2_with fail
 refine (pick_gs HGS.out (by omega) 5 (by omega)).mono ?_
 rintro e w3 ⟨x3,rfl,hx3,g3,k3⟩
 have HG3:=hid g3
 have HB3:=hid ((k3.block rb _ _ _ HB2.out (by unfold GenT;decide)).trans HB2.out)
 have HK3:=hid k3
 clear g3 k3 HGS
 have hw3:IntKind.i64.wrap (1+(x3:Int))=((1+x3:Nat):Int):=by rw [IntKind.wrap_i64];omega
 go_wp2_with fail
 refine (file_any R w1.heap.size _ _ (1+x3) w3 [] [] HG3.out (by omega) (by decide) (by decide) (by omega) (by omega)).mono ?_
 rintro e w4 ⟨g4,n4,k4,rfl,l4,⟨ns4,fs4,gs4⟩,d4⟩
 have HB4:=hid ((d4.block rb _ _ _ HB3.out (by unfold GenT;decide) (by decide)).trans HB3.out)
 have r0:=cell_hp HB4.out 0
 have rf:=frozen_hp HB4.out 0
 simp at r0
 have HG4:=hid gs4
 have HL4:=hid l4
 have HD4:=hid d4
 clear gs4 l4 d4
 go_wp2
 refine bodyPost_ret (v:=.agg #[.slice (some ⟨g4,0,none⟩) n4 k4]) (by simp [results,Tryz.results41,go_sem,r0]) rfl ⟨g4,n4,k4,rfl,?_,?_,?_⟩
 ·obtain ⟨l,h1,h2⟩:=HL4.out
  refine ⟨l,h1.keep fun g cur hc=>Below.heap_setCell _ _ _ _ (fun e=>?_),h2⟩
  have e':g=rb:=e
  subst e'
  rw [HB4.out] at hc
  cases hc
 ·obtain ⟨c5,sz5,p5,g5,_,hp5,_⟩:=HG4.out.set_other (i:=0) HB4.out (by unfold GenT;decide) (by decide) (by decide) (by omega) (.slice (some ⟨g4,0,none⟩) n4 k4)
  exact ⟨p5,by omega,g5.rd⟩
 ·have b1:BR R w w1:=(BR.of_below HB0.out (by omega)).trans (BR.of_sv HS1.out (by simp;omega))
  have b2:BR R w1 w4:=(BR.of_below HAL.out (by omega)).trans (BR.of_gd (HK3.out.d.trans HD4.out))
  exact (b1.trans b2).set (by omega) (by omega) _
def slLen:Value→Nat
 | .slice _ n _=>n
 | _=>0
structure EI (R eb:Nat) (w:World) (N a P:Nat) (kd:Int) (pv:Value) (wr:World):Prop where
 rd:∃ p,p≤P∧Rd R wr p
 parts:∃ (xs:List Value) (ls:List (List Nd)),xs.length=a∧wr.ownsRow w.heap.size 48 1 pv a xs∧xs.length=ls.length∧(∀ (j:Nat) u l,xs[j]?=some u→ls[j]?=some l→NdIn wr u l)∧NdOk N ls.flatten∧∀ u ∈ xs,u.ownBlock≠some eb
 box:wr.heap[eb]?=some (.cells #[.int .i64 kd,.int .i64 0,.int .i64 0,.string ⟨#[]⟩,.int .i64 0] 81 (0,0))
 sv:Sv (fun k=>k=R) w wr
 lo:w.heap.size≤eb
 lt:R < w.heap.size
section
variable {R eb:Nat} {w:World} {N a P:Nat} {kd:Int} {pv:Value} {wr:World}
theorem EI.psl (h:EI R eb w N a P kd pv wr):∃ pa pc,pv=.slice pa a pc:=by
 obtain ⟨xs,ls,_,h2,_⟩:=h.parts
 exact own_sl h2
theorem EI.at_row (h:EI R eb w N a P kd pv wr) (ha:0 < a):∃ g c,pv=.slice (some ⟨g,0,none⟩) a c:=by
 obtain ⟨xs,ls,h1,h2,_⟩:=h.parts
 rcases h2.2 with ⟨_,h0⟩ | ⟨g,cap,cur,e,_⟩
 ·omega
 ·exact ⟨g,cap,e⟩
theorem EI.next (h:EI R eb w N a P kd pv wr) {w2:World} (hb:Below wr.heap.size wr w2):EI R eb w N a P kd pv w2:=by
 obtain ⟨⟨p,h1,h2⟩,⟨xs,ls,q1,q2,q3,q4,q5,q6⟩,h3,h4,h5,h6⟩:=h
 exact ⟨⟨p,h1,h2.next hb⟩,⟨xs,ls,q1,own_below q2 hb,q3,fun j u l hu hl=>(q4 j u l hu hl).next hb,q5,q6⟩,hp_next h3 hb,h4.trans (Sv.of_below hb),h5,h6⟩
theorem EI.mono (h:EI R eb w N a P kd pv wr) {N' P':Nat} (hN:N≤N') (hP:P≤P'):EI R eb w N' a P' kd pv wr:=by
 obtain ⟨⟨p,h1,h2⟩,⟨xs,ls,q1,q2,q3,q4,q5,q6⟩,h3,h4,h5,h6⟩:=h
 exact ⟨⟨p,by omega,h2⟩,⟨xs,ls,q1,q2,q3,q4,q5.mono hN,q6⟩,h3,h4,h5,h6⟩
theorem EI.pick (h:EI R eb w N a P kd pv wr) (hP:P≤1000000) (n:Int) (hn:n≤1000000000) :
  Calls Tryz.prog 8 #[.pointer (some ⟨R,0,none⟩),.int .i64 n] wr fun e w2=>∃ x:Nat,e=.returned (.int .i64 x)∧(x=0∨(x:Int) < n)∧EI R eb w N a (P+1) kd pv w2:=by
 obtain ⟨⟨p,h1,h2⟩,⟨xs,ls,q1,q2,q3,q4,q5,q6⟩,h3,h4,h5,h6⟩:=h
 have h2b:=h2
 obtain ⟨ad,m,cap,hR,_⟩:=h2b
 refine (pick_any R p n wr (by omega) hn h2).mono ?_
 rintro e w2 ⟨⟨x,rfl,hx⟩,h9,h10⟩
 have keep:∀ (k:Nat) cs t fr,wr.heap[k]?=some (.cells cs t fr)→t≠45→w2.heap[k]?=wr.heap[k]?:=fun k cs t fr hc ht=>h10.block k (Array.getElem?_eq_some_iff.1 hc).1 (fun e=>by
  have e':k=R:=e
  subst e'
  rw [hR] at hc
  cases hc
  exact ht rfl)
 exact ⟨x,rfl,hx,⟨p+1,by omega,h9⟩,⟨xs,ls,q1,own_keep q2 fun k cur _ hc=>keep k _ _ _ hc (by decide),q3,fun j u l hu hl=>(q4 j u l hu hl).keep fun g cur hc=>keep g _ _ _ hc (by decide),q5,q6⟩,(keep eb _ _ _ h3 (by decide)).trans h3,h4.trans h10,h5,h6⟩
theorem EI.setk (h:EI R eb w N a P kd pv wr) (k':Int):EI R eb w N a P k' pv (wr.setCell ⟨eb,0,none⟩ (.int .i64 k')):=by
 obtain ⟨⟨p,h1,h2⟩,⟨xs,ls,q1,q2,q3,q4,q5,q6⟩,h3,h4,h5,h6⟩:=h
 have keep:∀ k,k≠eb→(wr.setCell ⟨eb,0,none⟩ (.int .i64 k')).heap[k]?=wr.heap[k]?:=fun k hk=>Below.heap_setCell _ _ _ _ hk
 have ne:∀ (k:Nat) cs t fr,wr.heap[k]?=some (.cells cs t fr)→t≠81→k≠eb:=fun k cs t fr hc ht e=>by
  subst e
  rw [h3] at hc
  cases hc
  exact ht rfl
 refine ⟨⟨p,h1,h2.sv (S:=fun k=>k=eb) (Sv.setCell (S:=fun k=>k=eb) (Sv.refl _ wr) (p:=⟨eb,0,none⟩) (.inl rfl) _) (fun k e=>by subst e;omega)⟩,⟨xs,ls,q1,own_keep q2 fun k cur _ hc=>keep k (ne k _ _ _ hc (by decide)),q3,fun j u l hu hl=>?_,q5,q6⟩,?_,h4.setCell (.inr h5) _,h5,h6⟩
 ·obtain ⟨e0,g,cap,cur,e1,e2,e3⟩:=q4 j u l hu hl
  refine ⟨e0,g,cap,cur,e1,(keep g fun e=>?_).trans e2,e3⟩
  exact q6 u (List.mem_of_getElem? hu) (by rw [e1,e];rfl)
 ·rw [set_at _ h3];rfl
theorem EI.parted (h:EI R eb w N a P kd pv wr) {w2:World} {v2 u:Value} {K:Nat} {xs:List Value} {ls:List (List Nd)} (hn:xs.length=a) (hl:xs.length=ls.length) (hh:∀ (j:Nat) u l,xs[j]?=some u→ls[j]?=some l→NdIn wr u l) (hok:NdOk N ls.flatten) (hne:∀ u ∈ xs,u.ownBlock≠some eb) (hv:wr.ownsRow w.heap.size 48 1 pv a xs) (hu:Has K wr u) (hub:u.ownBlock≠some eb) (hg:wr.grownBy w2 pv.ownBlock) (ho:w2.ownsRow w.heap.size 48 1 v2 (a+1) (xs ++ [u])):EI R eb w (N+K) (a+1) P kd v2 w2:=by
 have hlo:=own_lo hv
 obtain ⟨⟨p,h1,h2⟩,_,h3,h4,h5,h6⟩:=h
 have keep:∀ (k:Nat) cs t fr,wr.heap[k]?=some (.cells cs t fr)→t≠48→w2.heap[k]?=wr.heap[k]?:=fun k cs t fr hc ht=>hg.block k (Array.getElem?_eq_some_iff.1 hc).1 fun e2=>by
  obtain ⟨_,cur,hc2⟩:=hlo k e2.symm
  rw [hc] at hc2
  cases hc2
  exact ht rfl
 have hnd:∀ u l,NdIn wr u l→NdIn w2 u l:=fun u l hn=>hn.keep fun g cur hc=>keep g _ _ _ hc (by decide)
 obtain ⟨lu,u1,u2⟩:=hu
 refine ⟨⟨p,h1,h2.sv (S:=fun k=>pv.ownBlock=some k) ((Sv.refl _ wr).grown hg fun k hk=>.inl hk) (fun k e=>?_)⟩,⟨xs ++ [u],ls ++ [lu],by simp [hn],ho,by simp [hl],fun j u' l' hu' hl'=>?_,by rw [List.flatten_append];simpa using hok.app u2,fun v hv=>?_⟩,(keep eb _ _ _ h3 (by decide)).trans h3,h4.grown hg (fun k hk=>.inr (hlo k hk).1),h5,h6⟩
 ·have:=(hlo k e).1
  omega
 ·by_cases hj:j < xs.length
  ·rw [List.getElem?_append_left hj] at hu'
   rw [List.getElem?_append_left (by omega)] at hl'
   exact hnd _ _ (hh j u' l' hu' hl')
  ·rw [List.getElem?_append_right (by omega)] at hu'
   rw [List.getElem?_append_right (by omega)] at hl'
   have hj0:j - xs.length=0:=by
    have:=(List.getElem?_eq_some_iff.1 hu').1
    simp at this
    omega
   rw [hj0] at hu'
   rw [show j - ls.length=0 by omega] at hl'
   cases hu';cases hl'
   exact hnd _ _ u1
 ·rcases List.mem_append.1 hv with hv | hv
  ·exact hne v hv
  ·simp at hv
   subst hv
   exact hub
theorem EI.putAll (h:EI R eb w N a P kd pv wr) {g k:Nat} (hv:pv=.slice (some ⟨g,0,none⟩) a k) (ha:a≤1000) (hK:N≤100000) :
  Calls Tryz.prog 61 #[.agg #[.int .i64 kd,.int .i64 0,.int .i64 0,.string ⟨#[]⟩,.int .i64 0],.slice (some ⟨g,0,none⟩) a k] wr fun e w2=>∃ g n k,e=.returned (.slice (some ⟨g,0,none⟩) n k)∧Has (N+1) w2 (.slice (some ⟨g,0,none⟩) n k)∧Below wr.heap.size wr w2:=by
 obtain ⟨xs,ls,h1,h2,h3,h4,h5,_⟩:=h.parts
 subst hv
 have hparts:PartsIn wr (some ⟨g,0,none⟩) xs ls:=by
  refine ⟨h3,?_,h4⟩
  rcases h2.2 with ⟨e,_⟩ | ⟨g',cap,cur,e,_,b3,_,_,_,b4⟩
  ·cases e
  ·cases e
   refine .inr ⟨g,rfl,cur,b3,fun j u hu=>?_⟩
   rw [Nat.mul_one] at b4
   rw [← b4] at hu
   have hj:=(List.getElem?_eq_some_iff.1 hu).1
   rw [List.length_take] at hj
   rw [List.getElem?_take_of_lt (by omega)] at hu
   simpa using hu
 refine (l2Over_any ⟨kd,0,0,⟨#[]⟩,0⟩ (some ⟨g,0,none⟩) a k xs ls wr h1 (by omega) hparts (by have:=h5.1;omega)).mono ?_
 rintro e w2 ⟨v,rfl,h6,h7⟩
 obtain ⟨g2,n2,k2,rfl⟩:=h6.sl
 exact ⟨g2,n2,k2,rfl,⟨_,h6,h5.over (by show (⟨#[]⟩:ByteArray).size≤1000;decide)⟩,h7⟩
end
theorem put_one (x:Nd) (u:Value) {K:Nat} {W:World} (hu:Has K W u) (hx:x.text.size≤1000) (hK:K≤100000) :
  Calls Tryz.prog 61 #[.agg #[.int .i64 x.kind,.int .i64 x.op,.int .i64 x.n,.string x.text,.int .i64 x.kids],.slice (some ⟨W.heap.size,0,none⟩) 1 1] (W.alloc (.cells #[u] 48)) fun e w2=>∃ g n k,e=.returned (.slice (some ⟨g,0,none⟩) n k)∧Has (K+1) w2 (.slice (some ⟨g,0,none⟩) n k)∧Below W.heap.size W w2:=by
 obtain ⟨l,h1,h2⟩:=hu
 refine (over1 x u l W h1 (by have:=h2.1;omega)).mono ?_
 rintro e w2 ⟨v,rfl,h3,h4⟩
 obtain ⟨g,n,k,rfl⟩:=h3.sl
 exact ⟨g,n,k,rfl,⟨_,h3,h2.over hx⟩,h4⟩
theorem nd_ne {W:World} {u:Value} {x:Nd} {l:List Nd} {eb:Nat} {kd:Int} {a1 a2 a3 a4:Value} (h:NdIn W u (x :: l)) (hb:W.heap[eb]?=some (.cells #[.int .i64 kd,a1,a2,a3,a4] 81 (0,0))) (hk:x.kind≠kd):u.ownBlock≠some eb:=fun e=>by
 obtain ⟨_,g,cap,cur,e1,e2,e3⟩:=h
 rw [e1] at e
 simp only [Value.ownBlock,Option.some.injEq] at e
 subst e
 rw [hb] at e2
 cases e2
 have:=e3 0 (.int .i64 x.kind) rfl
 simp at this
 exact hk this.symm
end Go.Proofs.YtabbahpalemlhaaGreatDoor
