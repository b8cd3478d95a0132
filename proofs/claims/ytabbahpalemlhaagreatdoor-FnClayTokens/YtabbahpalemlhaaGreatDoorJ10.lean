import Derived.Test.YtabbahpalemlhaaGreatDoorJ09
import Derived.Test.YtabbahpalemlhaaGreatDoorJ08
namespace Go.Proofs.YtabbahpalemlhaaGreatDoor
open Go.RowKit
theorem leaf_any (R G B:Nat) (kind:Int) (w:World) (ns:List (ByteArray × Int)) (fs:List Fn) (c:Nat) (sz:Int) (p:Nat) (h:GenAt R G B w ns fs c sz p) (hp:p≤1000000) (hn:ns.length≤1000000) :
  Calls Tryz.prog 92 #[.pointer (some ⟨G,0,none⟩),.int .i64 kind] w fun e w'=>LeafEnd R G B 3 20 w ns fs c sz p e w':=by
 have hk:kind=0∨kind=1∨kind=2∨kind=3∨kind=4∨kind < 0∨4 < kind:=by omega
 rcases hk with rfl | rfl | rfl | rfl | rfl | hk
 ·exact leaf0 R G B w ns fs c sz p h hp hn
 ·exact leaf1 R G B w ns fs c sz p h hp hn
 ·exact leaf2 R G B w ns fs c sz p h hp hn
 ·exact leaf3 R G B w ns fs c sz p h hp hn
 ·exact leaf4 R G B w ns fs c sz p h hp hn
 ·exact leaf5 R G B kind w ns fs c sz p h hp hn hk
end Go.Proofs.YtabbahpalemlhaaGreatDoor
namespace Go.Proofs.YtabbahpalemlhaaGreatDoor
open Go.RowKit
set_option maxRecDepth 20000
structure Gs where
 R:Nat
 G:Nat
 ns:List (ByteArray × Int)
 fs:List Fn
 c:Nat
 sz:Int
 p:Nat
structure Room (C:Nat) (s:Gs):Prop where
 p:s.p+C≤1000000
 c:s.c+C≤1000000
 lo:-1000000≤s.sz - C
 hi:s.sz≤1000
 n:s.ns.length+C≤1000000
 f:s.fs.length≤1000
def At (s:Gs) (C:Nat) (w w':World):Prop:=∃ p' c' sz',s.p≤p'∧p'≤s.p+C∧s.c≤c'∧c'≤s.c+C∧s.sz - C≤sz'∧sz'≤s.sz∧GenAt s.R s.G s.R w' s.ns s.fs c' sz' p'∧Gk s.R w w'
theorem At.refl {s:Gs} {w:World} (h:GenAt s.R s.G s.R w s.ns s.fs s.c s.sz s.p):At s 0 w w:=⟨s.p,s.c,s.sz,Nat.le_refl _,Nat.le_refl _,Nat.le_refl _,Nat.le_refl _,by omega,Int.le_refl _,h,Gk.refl _ _⟩
theorem At.mono {s:Gs} {C C':Nat} {w w':World} (h:At s C w w') (hc:C≤C'):At s C' w w':=by
 obtain ⟨p',c',sz',h1,h2,h3,h4,h5,h6,h7⟩:=h
 exact ⟨p',c',sz',h1,by omega,h3,by omega,by omega,h6,h7⟩
theorem At.gk {s:Gs} {C:Nat} {w w':World} (h:At s C w w'):Gk s.R w w':=by obtain ⟨_,_,_,_,_,_,_,_,_,_,h⟩:=h;exact h
theorem At.next {s:Gs} {C:Nat} {w w1 w2:World} (h:At s C w w1) (hb:Below w1.heap.size w1 w2):At s C w w2:=by
 obtain ⟨p',c',sz',h1,h2,h3,h4,h5,h6,h7,h8⟩:=h
 exact ⟨p',c',sz',h1,h2,h3,h4,h5,h6,h7.next hb,h8.trans (Gk.of_below hb h7.bw)⟩
theorem At.gk_next {s:Gs} {C:Nat} {w w1 w2:World} (h:At s C w w1) (hb:Below w1.heap.size w1 w2):Gk s.R w1 w2:=by
 obtain ⟨p',c',sz',h1,h2,h3,h4,h5,h6,h7,h8⟩:=h
 exact Gk.of_below hb h7.bw
theorem At.g0 {s:Gs} {C:Nat} {w w':World} (h:At s C w w'):w'.cell? ⟨s.G,0,none⟩=some (.pointer (some ⟨s.R,0,none⟩)):=by
 obtain ⟨p',c',sz',h1,h2,h3,h4,h5,h6,h7,h8⟩:=h
 exact h7.g0
theorem pick_at {s:Gs} {C:Nat} {w w':World} (h:At s C w w') (hr:Room C s) (n:Int) (hn:n≤1000000000) :
  Calls Tryz.prog 8 #[.pointer (some ⟨s.R,0,none⟩),.int .i64 n] w' fun e w2=>∃ x:Nat,e=.returned (.int .i64 x)∧(x=0∨(x:Int) < n)∧At s (C+1) w w2∧Gk s.R w' w2:=by
 obtain ⟨p',c',sz',h1,h2,h3,h4,h5,h6,h7,h8⟩:=h
 refine (pick_any s.R p' n w' (by have:=hr.p;omega) hn h7.rd).mono ?_
 rintro e w2 ⟨⟨x,rfl,hx⟩,h9,h10⟩
 obtain ⟨k1,k2⟩:=h7.picked h9 h10
 exact ⟨x,rfl,hx,⟨p'+1,c',sz',by omega,by omega,h3,by omega,by omega,h6,k1,h8.trans k2⟩,k2⟩
theorem fresh_at {s:Gs} {C:Nat} {w w':World} (h:At s C w w') (hr:Room C s) :
  Calls Tryz.prog 93 #[.pointer (some ⟨s.G,0,none⟩)] w' fun e w2=>∃ t:ByteArray,e=.returned (.string t)∧t.size≤100∧At s (C+1) w w2∧Gk s.R w' w2:=by
 obtain ⟨p',c',sz',h1,h2,h3,h4,h5,h6,h7,h8⟩:=h
 refine (fresh_any s.R s.G s.R w' s.ns s.fs c' sz' p' h7 (by have:=hr.c;omega)).mono ?_
 rintro e w2 ⟨⟨t,rfl,ht⟩,k1,k2⟩
 exact ⟨t,rfl,ht,⟨p',c'+1,sz',h1,by omega,by omega,by omega,by omega,h6,k1,h8.trans k2⟩,k2⟩
def NdEnd (s:Gs) (K C:Nat) (w w':World) (e:Ending) (w2:World):Prop:=∃ v l,e=.returned v∧NdIn w2 v l∧NdOk K l∧At s C w w2∧Gk s.R w' w2
theorem leaf_at {s:Gs} {C:Nat} {w w':World} (h:At s C w w') (hr:Room C s) (kind:Int) :
  Calls Tryz.prog 92 #[.pointer (some ⟨s.G,0,none⟩),.int .i64 kind] w' (NdEnd s 3 (C+20) w w'):=by
 obtain ⟨p',c',sz',h1,h2,h3,h4,h5,h6,h7,h8⟩:=h
 refine (leaf_any s.R s.G s.R kind w' s.ns s.fs c' sz' p' h7 (by have:=hr.p;omega) (by have:=hr.n;omega)).mono ?_
 rintro e w2 ⟨⟨v,l,rfl,hv,hl⟩,⟨p2,q1,q2,k1⟩,k2⟩
 exact ⟨v,l,rfl,hv,hl,⟨p2,c',sz',by omega,by omega,h3,by omega,by omega,h6,k1,h8.trans k2⟩,k2⟩
def EOk (d:Int) (K C:Nat):Prop:=∀ (s:Gs) (kind:Int) (w:World),GenAt s.R s.G s.R w s.ns s.fs s.c s.sz s.p→Room (C+10) s →
  Calls Tryz.prog 83 #[.pointer (some ⟨s.G,0,none⟩),.int .i64 kind,.int .i64 d] w (NdEnd s K C w w)
theorem Room.sub {C C':Nat} {s:Gs} (h:Room C s) (hc:C'≤C):Room C' s:=⟨by have:=h.p;omega,by have:=h.c;omega,by have:=h.lo;omega,h.hi,by have:=h.n;omega,h.f⟩
theorem e_at {d:Int} {K Ce:Nat} (he:EOk d K Ce) {s:Gs} {C:Nat} {w w':World} (h:At s C w w') (hr:Room (C+Ce+10) s) (kind:Int) :
  Calls Tryz.prog 83 #[.pointer (some ⟨s.G,0,none⟩),.int .i64 kind,.int .i64 d] w' (NdEnd s K (C+Ce) w w'):=by
 obtain ⟨p',c',sz',h1,h2,h3,h4,h5,h6,h7,h8⟩:=h
 refine (he ⟨s.R,s.G,s.ns,s.fs,c',sz',p'⟩ kind w' h7 ⟨by have:=hr.p;simp only;omega,by have:=hr.c;simp only;omega,by have:=hr.lo;simp only;omega,by have:=hr.hi;simp only;omega,by have:=hr.n;simp only;omega,hr.f⟩).mono ?_
 rintro e w2 ⟨v,l,rfl,hv,hl,⟨p2,c2,sz2,q1,q2,q3,q4,q5,q6,q7,q8⟩,k2⟩
 simp only at q1 q2 q3 q4 q5 q6 q7 q8 k2
 exact ⟨v,l,rfl,hv,hl,⟨p2,c2,sz2,by omega,by omega,by omega,by omega,by omega,by omega,q7,h8.trans q8⟩,k2⟩
theorem info_sn:(Tryz.prog.info? 123).map (fun i=>(i.zero,i.size,i.bytes))=some (some (.agg #[.string ⟨#[]⟩,.int .i64 0]),2,24):=by kernel_rfl
theorem seenRow_append (a b:List (ByteArray × Int)):seenRow (a ++ b)=seenRow a ++ seenRow b:=by
 induction a with
 | nil=>rfl
 | cons x a ih=>simp [seenRow,ih]
theorem seenRow_length (a:List (ByteArray × Int)):(seenRow a).length=a.length * 2:=by
 induction a with
 | nil=>rfl
 | cons x a ih=>simp only [seenRow,List.length_cons,ih];omega
theorem GenAt.names {R G B:Nat} {w:World} {ns ns':List (ByteArray × Int)} {fs:List Fn} {c:Nat} {sz:Int} {p:Nat} (h:GenAt R G B w ns fs c sz p) (v:Value) (hv:w.ownsRow B 123 2 v ns'.length (seenRow ns')) (hn:∀ x ∈ ns',x.1.size≤100):GenAt R G B (w.setCell ⟨G,1,none⟩ v) ns' fs c sz p∧Gk B w (w.setCell ⟨G,1,none⟩ v):=by
 obtain ⟨⟨vn,vf,h1,h2,h3⟩,h4,h5,h6,h7⟩:=h
 have hg:Gk B w (w.setCell ⟨G,1,none⟩ v):=(Gk.refl B w).set h1 (by unfold GenT;decide) (by omega) (by decide) _
 refine ⟨⟨⟨v,vf,?_,own_setG hv h1 (by decide),own_setG h3 h1 (by decide)⟩,?_,h5,hn,fun f hf=>(h7 f hf).gk hg⟩,hg⟩
 ·have:=set_at (i:=1) v h1
  simpa using this
 ·exact h4.sv (S:=fun k=>k=G) (Sv.setCell (S:=fun k=>k=G) (Sv.refl _ w) (p:=⟨G,1,none⟩) (.inl rfl) _) (fun k e=>by subst e;exact h5.2)
theorem GenAt.grown {R G:Nat} {w w':World} {ns:List (ByteArray × Int)} {fs:List Fn} {c:Nat} {sz:Int} {p:Nat} {n:Nat} {e size:Nat} {v:Value} {xs:List Value} (h:GenAt R G R w ns fs c sz p) (hv:w.ownsRow R e size v n xs) (he:e=123) (hg:w.grownBy w' v.ownBlock) :
  (∃ vn vf,w.heap[G]?=some (.cells #[.pointer (some ⟨R,0,none⟩),vn,vf,.int .i64 c,.int .i64 sz] 102 (0,0))∧w'.heap[G]?=some (.cells #[.pointer (some ⟨R,0,none⟩),vn,vf,.int .i64 c,.int .i64 sz] 102 (0,0))∧w'.ownsRow R 129 4 vf fs.length (fnRow fs))∧Rd R w' p∧(∀ f ∈ fs,FnOk w' f)∧Gk R w w':=by
 obtain ⟨⟨vn,vf,h1,h2,h3⟩,h4,h5,h6,h7⟩:=h
 have hlo:∀ k,v.ownBlock=some k→R≤k∧∃ cur,w.heap[k]?=some (.cells cur e (0,0)):=fun k hk=>by
  rcases hv.2 with ⟨rfl,_⟩ | ⟨g,cap,cur,rfl,a,b,_⟩
  ·simp [Value.ownBlock] at hk
  ·simp only [Value.ownBlock,Option.some.injEq] at hk
   subst hk
   exact ⟨a,cur,b⟩
 have keep:∀ (k:Nat) cs t fr,w.heap[k]?=some (.cells cs t fr)→t≠e→w'.heap[k]?=w.heap[k]?:=fun k cs t fr hc ht=>hg.block k (Array.getElem?_eq_some_iff.1 hc).1 fun e2=>by
  obtain ⟨_,cur,hc2⟩:=hlo k e2.symm
  rw [hc] at hc2
  cases hc2
  exact ht rfl
 have hgk:Gk R w w':=⟨hg.os,hg.tape,hg.output,hg.size,fun k hk=>by
   have hR:=h4.lt
   exact hg.block k (by omega) (fun e2=>by have:=(hlo k e2.symm).1;omega),fun k cs t fr hc ht=>keep k cs t fr hc (fun e2=>ht (by subst e2;subst he;unfold GenT;decide)),fun k cs fr hc=>⟨cs,(keep k cs _ fr hc (by rw [he];decide)).trans hc,rfl⟩⟩
 refine ⟨⟨vn,vf,h1,(keep G _ _ _ h1 (by rw [he];decide)).trans h1,?_⟩,?_,fun f hf=>(h7 f hf).gk hgk,hgk⟩
 ·obtain ⟨a1,a2 | ⟨g,cap,cur,b1,b2,b3,b4⟩⟩:=h3
  ·exact ⟨a1,.inl a2⟩
  ·exact ⟨a1,.inr ⟨g,cap,cur,b1,b2,(keep g _ _ _ b3 (by rw [he];decide)).trans b3,b4⟩⟩
 ·obtain ⟨ad,n,cap,r1,r2,r3⟩:=h4
  refine ⟨ad,n,cap,(keep R _ _ _ r1 (by rw [he];decide)).trans r1,r2,?_⟩
  rcases r3 with r3 | ⟨a,e2,r4,r5⟩
  ·exact .inl r3
  ·refine .inr ⟨a,e2,r4,fun i hi=>?_⟩
   obtain ⟨x,hx⟩:=r5 i hi
   refine ⟨x,?_⟩
   have:=hgk.low a.block r4
   rw [← hx]
   exact World.cell?_of_block (w:=w) (a:=a.add i) (h:=by rw [add_block];exact this)
end Go.Proofs.YtabbahpalemlhaaGreatDoor
