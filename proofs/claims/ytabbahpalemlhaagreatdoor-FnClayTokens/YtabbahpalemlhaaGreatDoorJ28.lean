import Derived.Test.YtabbahpalemlhaaGreatDoorJ27
namespace Go.Proofs.YtabbahpalemlhaaGreatDoor
open Go.RowKit
set_option maxRecDepth 20000
structure Gd (B:Nat) (w w':World):Prop where
 os:w'.os=w.os
 tape:w'.tape=w.tape
 output:w'.output=w.output
 size:w.heap.size≤w'.heap.size
 low:∀ k,k < B→w'.heap[k]?=w.heap[k]?
 block:∀ (k:Nat) cs t fr,w.heap[k]?=some (.cells cs t fr)→¬ GenT t→t≠129→w'.heap[k]?=w.heap[k]?
theorem Gk.d {B:Nat} {w w':World} (h:Gk B w w'):Gd B w w':=⟨h.os,h.tape,h.output,h.size,h.low,fun k cs t fr hc ht _=>h.block k cs t fr hc ht⟩
theorem Gd.refl (B:Nat) (w:World):Gd B w w:=(Gk.refl B w).d
theorem Gd.trans {B:Nat} {u v w:World} (h:Gd B u v) (k:Gd B v w):Gd B u w :=
 ⟨k.os.trans h.os,k.tape.trans h.tape,k.output.trans h.output,Nat.le_trans h.size k.size,fun i hi=>(k.low i hi).trans (h.low i hi),fun i cs t fr hc ht h2=>(k.block i cs t fr ((h.block i cs t fr hc ht h2).trans hc) ht h2).trans (h.block i cs t fr hc ht h2)⟩
theorem Gd.of_below {B:Nat} {w w':World} (h:Below w.heap.size w w') (hB:B≤w.heap.size):Gd B w w':=(Gk.of_below h hB).d
theorem NdIn.gd {B:Nat} {w w':World} {v:Value} {l:List Nd} (h:NdIn w v l) (hg:Gd B w w'):NdIn w' v l:=h.keep fun g cur hc=>hg.block g _ _ _ hc (by unfold GenT;decide) (by decide)
theorem Has.gd {K B:Nat} {w w':World} {v:Value} (h:Has K w v) (hg:Gd B w w'):Has K w' v:=by obtain ⟨l,h1,h2⟩:=h;exact ⟨l,h1.gd hg,h2⟩
theorem FnOk.gd {B:Nat} {w w':World} {f:Fn} (h:FnOk w f) (hg:Gd B w w'):FnOk w' f:=by
 obtain ⟨h1,h2,h3,h4⟩:=h
 refine ⟨h1,h2,h3,h4.imp_right ?_⟩
 rintro ⟨g,cur,e,a,b⟩
 exact ⟨g,cur,e,(hg.block g _ _ _ a (by unfold GenT;decide) (by decide)).trans a,b⟩
theorem Parts.gd {B:Nat} {w w1 w2:World} {v:Value} {n N:Nat} (h:Parts w w1 v n N) (hg:Gd B w1 w2):Parts w w2 v n N:=by
 obtain ⟨xs,ls,h1,h2,h3,h4,h5⟩:=h
 refine ⟨xs,ls,h1,?_,h3,fun j u l hu hl=>(h4 j u l hu hl).gd hg,h5⟩
 obtain ⟨a1,a2 | ⟨g,cap,cur,b1,b2,b3,b4⟩⟩:=h2
 ·exact ⟨a1,.inl a2⟩
 ·exact ⟨a1,.inr ⟨g,cap,cur,b1,b2,(hg.block g _ _ _ b3 (by unfold GenT;decide) (by decide)).trans b3,b4⟩⟩
theorem GenAt.keep {R G:Nat} {w1 w2:World} {ns:List (ByteArray × Int)} {fs:List Fn} {c:Nat} {sz:Int} {p:Nat} (h:GenAt R G R w1 ns fs c sz p)
  (hk:∀ (k:Nat) cs t fr,w1.heap[k]?=some (.cells cs t fr)→GenT t∨(t=129∧∃ vf:Value,w1.cell? ⟨G,2,none⟩=some vf∧vf.ownBlock=some k)→w2.heap[k]?=w1.heap[k]?) (hl:∀ k,k < R→w2.heap[k]?=w1.heap[k]?) (hf:∀ f ∈ fs,FnOk w2 f):GenAt R G R w2 ns fs c sz p:=by
 obtain ⟨⟨vn,vf,e1,e2,e3⟩,e4,e5,e6,e7⟩:=h
 have c2:w1.cell? ⟨G,2,none⟩=some vf:=by have:=cell_hp e1 2;simpa using this
 refine ⟨⟨vn,vf,(hk G _ _ _ e1 (.inl (by unfold GenT;decide))).trans e1,?_,?_⟩,?_,e5,e6,hf⟩
 ·obtain ⟨a1,a2 | ⟨g,cap,cur,b1,b2,b3,b4⟩⟩:=e2
  ·exact ⟨a1,.inl a2⟩
  ·exact ⟨a1,.inr ⟨g,cap,cur,b1,b2,(hk g _ _ _ b3 (.inl (by unfold GenT;decide))).trans b3,b4⟩⟩
 ·obtain ⟨a1,a2 | ⟨g,cap,cur,b1,b2,b3,b4⟩⟩:=e3
  ·exact ⟨a1,.inl a2⟩
  ·exact ⟨a1,.inr ⟨g,cap,cur,b1,b2,(hk g _ _ _ b3 (.inr ⟨rfl,vf,c2,by rw [b1];rfl⟩)).trans b3,b4⟩⟩
 ·obtain ⟨ad,n,cap,r1,r2,r3⟩:=e4
  refine ⟨ad,n,cap,(hk R _ _ _ r1 (.inl (by unfold GenT;decide))).trans r1,r2,?_⟩
  rcases r3 with r3 | ⟨a,q2,r4,r5⟩
  ·exact .inl r3
  ·refine .inr ⟨a,q2,r4,fun i hi=>?_⟩
   obtain ⟨x,hx⟩:=r5 i hi
   refine ⟨x,?_⟩
   rw [← hx]
   exact World.cell?_of_block (w:=w1) (a:=a.add i) (h:=by rw [add_block];exact hl a.block r4)
theorem Gk.vf {B R G:Nat} {w w':World} {ns:List (ByteArray × Int)} {fs:List Fn} {c:Nat} {sz:Int} {p:Nat} (hg:Gk B w w') (h:GenAt R G R w ns fs c sz p) {vf:Value} (hv:w.cell? ⟨G,2,none⟩=some vf):w'.cell? ⟨G,2,none⟩=some vf:=by
 obtain ⟨vn,v1,e1,_,_⟩:=h.ex
 obtain ⟨cs',e2,e3⟩:=hg.fld G _ _ e1
 have e4:=cell_hp e1 2
 rw [hv] at e4
 rw [cell_hp e2 2,e3,← e4]
def GS (R G:Nat) (ns:List (ByteArray × Int)) (fs:List Fn) (P:Nat) (w:World):Prop:=∃ (c:Nat) (sz:Int) (p:Nat),GenAt R G R w ns fs c sz p∧c≤P∧p≤P∧-(P:Int)≤sz∧sz≤1000
theorem GS.next {R G P:Nat} {ns:List (ByteArray × Int)} {fs:List Fn} {w w':World} (h:GS R G ns fs P w) (hb:Below w.heap.size w w'):GS R G ns fs P w':=by
 obtain ⟨c,sz,p,h1,h2⟩:=h
 exact ⟨c,sz,p,h1.next hb,h2⟩
theorem GS.mono {R G P P':Nat} {ns:List (ByteArray × Int)} {fs:List Fn} {w:World} (h:GS R G ns fs P w) (hp:P≤P'):GS R G ns fs P' w:=by
 obtain ⟨c,sz,p,h1,h2,h3,h4,h5⟩:=h
 exact ⟨c,sz,p,h1,by omega,by omega,by omega,h5⟩
theorem GS.bw {R G P:Nat} {ns:List (ByteArray × Int)} {fs:List Fn} {w:World} (h:GS R G ns fs P w):R≤w.heap.size:=by
 obtain ⟨c,sz,p,h1,_⟩:=h
 exact h1.bw
theorem GS.g0 {R G P:Nat} {ns:List (ByteArray × Int)} {fs:List Fn} {w:World} (h:GS R G ns fs P w):w.cell? ⟨G,0,none⟩=some (.pointer (some ⟨R,0,none⟩)):=by
 obtain ⟨c,sz,p,h1,_⟩:=h
 exact (At.refl (s:=⟨R,G,ns,fs,c,sz,p⟩) h1).g0
theorem pick_gs {R G P:Nat} {ns:List (ByteArray × Int)} {fs:List Fn} {w:World} (h:GS R G ns fs P w) (hP:P+10≤1000000) (n:Int) (hn:n≤1000000000) :
  Calls Tryz.prog 8 #[.pointer (some ⟨R,0,none⟩),.int .i64 n] w fun e w2=>∃ x:Nat,e=.returned (.int .i64 x)∧(x=0∨(x:Int) < n)∧GS R G ns fs (P+1) w2∧Gk R w w2:=by
 obtain ⟨c,sz,p,h1,h2,h3,h4,h5⟩:=h
 refine (pick_any R p n w (by omega) hn h1.rd).mono ?_
 rintro e w2 ⟨⟨x,rfl,hx⟩,h9,h10⟩
 obtain ⟨k1,k2⟩:=h1.picked h9 h10
 exact ⟨x,rfl,hx,⟨c,sz,p+1,k1,by omega,by omega,by omega,h5⟩,k2⟩
theorem e_gs {d:Int} {K Ce:Nat} (he:EOk d K Ce) {R G P:Nat} {ns:List (ByteArray × Int)} {fs:List Fn} {w:World} (h:GS R G ns fs P w) (hP:P+Ce+10≤1000000) (hn:ns.length+Ce+10≤1000000) (hf:fs.length≤1000) (kind:Int) :
  Calls Tryz.prog 83 #[.pointer (some ⟨G,0,none⟩),.int .i64 kind,.int .i64 d] w fun e w2=>∃ g n c,e=.returned (.slice (some ⟨g,0,none⟩) n c)∧Has K w2 (.slice (some ⟨g,0,none⟩) n c)∧GS R G ns fs (P+Ce) w2∧Gk R w w2:=by
 obtain ⟨c,sz,p,h1,h2,h3,h4,h5⟩:=h
 refine (he ⟨R,G,ns,fs,c,sz,p⟩ kind w h1 ⟨by simp only;omega,by simp only;omega,by simp only;omega,by simp only;omega,by simp only;omega,hf⟩).mono ?_
 rintro e w2 hh
 obtain ⟨g,n,k,rfl,hl,⟨p2,c2,sz2,q1,q2,q3,q4,q5,q6,q7,q8⟩,hk⟩:=hh.get
 simp only at q1 q2 q3 q4 q5 q6 q7 q8 hk
 exact ⟨g,n,k,rfl,hl,⟨c2,sz2,p2,q7,by omega,by omega,by omega,by omega⟩,hk⟩
def intsRow (ks:List Int):List Value:=ks.map fun k=>Value.int .i64 k
structure DI (R G F:Nat) (w:World) (ns:List (ByteArray × Int)) (fs:List Fn) (name:ByteArray) (kd:Int) (vf:Value) (N a b c f P:Nat) (pv:Value) (wr:World):Prop where
 gs:∃ ns2:List (ByteArray × Int),ns2.length=b∧GS R G (ns ++ ns2) fs P wr
 parts:Parts w wr pv a N
 box:∃ vp ks,wr.heap[F]?=some (.cells #[.string name,vp,.int .i64 (f:Nat),.int .i64 kd] 129 (0,0))∧ks.length=c∧wr.ownsRow w.heap.size 3 1 vp c (intsRow ks)
 vf:wr.cell? ⟨G,2,none⟩=some vf
 gd:Gd R w wr
 lt:R < w.heap.size
theorem own_keep {w w':World} {B e size n:Nat} {v:Value} {xs:List Value} (h:w.ownsRow B e size v n xs) (hk:∀ k cur,v.ownBlock=some k→w.heap[k]?=some (.cells cur e (0,0))→w'.heap[k]?=w.heap[k]?):w'.ownsRow B e size v n xs:=by
 obtain ⟨a1,a2 | ⟨g,cap,cur,b1,b2,b3,b4⟩⟩:=h
 ·exact ⟨a1,.inl a2⟩
 ·exact ⟨a1,.inr ⟨g,cap,cur,b1,b2,(hk g cur (by rw [b1];rfl) b3).trans b3,b4⟩⟩
theorem own_lo {w:World} {B e size n:Nat} {v:Value} {xs:List Value} (h:w.ownsRow B e size v n xs):∀ k,v.ownBlock=some k→B≤k∧∃ cur,w.heap[k]?=some (.cells cur e (0,0)):=fun k hk=>by
 rcases h.2 with ⟨rfl,_⟩ | ⟨g,cap,cur,rfl,a,b,_⟩
 ·simp [Value.ownBlock] at hk
 ·simp only [Value.ownBlock,Option.some.injEq] at hk
  subst hk
  exact ⟨a,cur,b⟩
section
variable {R G F:Nat} {w:World} {ns:List (ByteArray × Int)} {fs:List Fn} {name:ByteArray} {kd:Int} {vf:Value} {N a b c f P:Nat} {pv:Value} {wr:World}
theorem DI.gk' (h:DI R G F w ns fs name kd vf N a b c f P pv wr) {w2:World} {P' b':Nat} {ns2:List (ByteArray × Int)} (hl:ns2.length=b') (hg:GS R G (ns ++ ns2) fs P' w2) (hk:Gk R wr w2):DI R G F w ns fs name kd vf N a b' c f P' pv w2:=by
 obtain ⟨⟨ns1,h1,h2⟩,h3,⟨vp,ks,h4,h5,h6⟩,h7,h8,h9⟩:=h
 refine ⟨⟨ns2,hl,hg⟩,h3.gk hk,⟨vp,ks,(hk.block F _ _ _ h4 (by unfold GenT;decide)).trans h4,h5,own_keep h6 fun k cur _ hc=>hk.block k _ _ _ hc (by unfold GenT;decide)⟩,?_,h8.trans hk.d,h9⟩
 obtain ⟨c0,sz0,p0,g0,_⟩:=h2
 exact hk.vf g0 h7
theorem DI.gk (h:DI R G F w ns fs name kd vf N a b c f P pv wr) {w2:World} {P':Nat} (hg:∀ ns2:List (ByteArray × Int),ns2.length=b→GS R G (ns ++ ns2) fs P wr→GS R G (ns ++ ns2) fs P' w2) (hk:Gk R wr w2):DI R G F w ns fs name kd vf N a b c f P' pv w2:=by
 obtain ⟨ns1,h1,h2⟩:=h.gs
 exact h.gk' h1 (hg ns1 h1 h2) hk
theorem DI.next (h:DI R G F w ns fs name kd vf N a b c f P pv wr) {w2:World} (hb:Below wr.heap.size wr w2):DI R G F w ns fs name kd vf N a b c f P pv w2:=by
 have hR:R≤wr.heap.size:=by obtain ⟨ns2,_,h2⟩:=h.gs;exact h2.bw
 exact h.gk (fun _ _ hg=>hg.next hb) (Gk.of_below hb hR)
theorem DI.mono (h:DI R G F w ns fs name kd vf N a b c f P pv wr) {P':Nat} (hp:P≤P'):DI R G F w ns fs name kd vf N a b c f P' pv wr :=
 h.gk (fun _ _ hg=>hg.mono hp) (Gk.refl _ _)
theorem kept0 {ns2:List (ByteArray × Int)} (h2:GS R G (ns ++ ns2) fs P wr) (h7:wr.cell? ⟨G,2,none⟩=some vf) (h8:Gd R w wr) (h9:R < w.heap.size) {w2:World} (X:Option Nat) (hg:wr.grownBy w2 X) (hX:∀ k,X=some k→w.heap.size≤k∧vf.ownBlock≠some k∧∃ cs t,wr.heap[k]?=some (.cells cs t (0,0))∧¬ GenT t) (hfn:Gd R w w2→∀ x ∈ fs,FnOk w2 x) :
  GS R G (ns ++ ns2) fs P w2∧w2.cell? ⟨G,2,none⟩=some vf∧Gd R w w2:=by
 obtain ⟨c0,sz0,p0,h2,h2b⟩:=h2
 have old:∀ k,k < w.heap.size→w2.heap[k]?=wr.heap[k]?:=fun k hk=>hg.block k (Nat.lt_of_lt_of_le hk h8.size) fun e=>by have:=(hX k e.symm).1;omega
 have hgd:Gd R w w2:=⟨hg.os.trans h8.os,hg.tape.trans h8.tape,hg.output.trans h8.output,Nat.le_trans h8.size hg.size,fun k hk=>(old k (by omega)).trans (h8.low k hk),fun k cs t fr hc ht h2=>(old k (Array.getElem?_eq_some_iff.1 hc).1).trans (h8.block k cs t fr hc ht h2)⟩
 have gen:∀ (k:Nat) cs t fr,wr.heap[k]?=some (.cells cs t fr)→GenT t∨(t=129∧∃ v:Value,wr.cell? ⟨G,2,none⟩=some v∧v.ownBlock=some k)→w2.heap[k]?=wr.heap[k]?:=fun k cs t fr hc ht=>hg.block k (Array.getElem?_eq_some_iff.1 hc).1 fun e=>by
  obtain ⟨_,hv,cs',t',hc',ht'⟩:=hX k e.symm
  rw [hc] at hc'
  cases hc'
  rcases ht with ht | ⟨_,v,e1,e2⟩
  ·exact ht' ht
  ·rw [h7] at e1
   cases e1
   exact hv e2
 refine ⟨⟨c0,sz0,p0,h2.keep gen (fun k hk=>old k (by omega)) (hfn hgd),h2b⟩,?_,hgd⟩
 obtain ⟨vn,v1,e1,_,_⟩:=h2.ex
 have e2:=(gen G _ _ _ e1 (.inl (by unfold GenT;decide))).trans e1
 have e3:=cell_hp e1 2
 rw [h7] at e3
 rw [cell_hp e2 2,← e3]
theorem DI.kept (h:DI R G F w ns fs name kd vf N a b c f P pv wr) {w2:World} (X:Option Nat) (hg:wr.grownBy w2 X) (hX:∀ k,X=some k→w.heap.size≤k∧vf.ownBlock≠some k∧∃ cs t,wr.heap[k]?=some (.cells cs t (0,0))∧¬ GenT t) (hfn:Gd R w w2→∀ x ∈ fs,FnOk w2 x) :
  (∃ ns2:List (ByteArray × Int),ns2.length=b∧GS R G (ns ++ ns2) fs P w2)∧w2.cell? ⟨G,2,none⟩=some vf∧Gd R w w2:=by
 obtain ⟨⟨ns2,h1,h2⟩,_,_,h7,h8,h9⟩:=h
 obtain ⟨k1,k2⟩:=kept0 h2 h7 h8 h9 X hg hX hfn
 exact ⟨⟨ns2,h1,k1⟩,k2⟩
theorem DI.vfl (h:DI R G F w ns fs name kd vf N a b c f P pv wr):wr.ownsRow R 129 4 vf fs.length (fnRow fs):=by
 obtain ⟨⟨ns2,_,c0,sz0,p0,h2,_⟩,_,_,h7,_,_⟩:=h
 obtain ⟨vn,v1,e1,_,e3⟩:=h2.ex
 have e4:=cell_hp e1 2
 rw [h7] at e4
 simp at e4
 rw [e4];exact e3
theorem FnOk.other {wr w2:World} {x:Fn} (h:FnOk wr x) {X:Option Nat} (hg:wr.grownBy w2 X) (hX:∀ k,X=some k→∃ cs t,wr.heap[k]?=some (.cells cs t (0,0))∧t≠3):FnOk w2 x:=by
 obtain ⟨h1,h2,h3,h4⟩:=h
 refine ⟨h1,h2,h3,h4.imp_right ?_⟩
 rintro ⟨g,cur,e,b1,b2⟩
 refine ⟨g,cur,e,(hg.block g (Array.getElem?_eq_some_iff.1 b1).1 fun e2=>?_).trans b1,b2⟩
 obtain ⟨cs,t,hc,ht⟩:=hX g e2.symm
 rw [b1] at hc
 cases hc
 exact ht rfl
theorem DI.fok (h:DI R G F w ns fs name kd vf N a b c f P pv wr):∀ x ∈ fs,FnOk wr x:=by
 obtain ⟨ns2,_,c0,sz0,p0,h2,_⟩:=h.gs
 exact h2.fok
theorem DI.parted (h:DI R G F w ns fs name kd vf N a b c f P pv wr) {w2:World} {v2 u:Value} {K:Nat} {xs:List Value} {ls:List (List Nd)} (hn:xs.length=a) (hl:xs.length=ls.length) (hh:∀ (j:Nat) u l,xs[j]?=some u→ls[j]?=some l→NdIn wr u l) (hok:NdOk N ls.flatten) (hv:wr.ownsRow w.heap.size 48 1 pv a xs) (hu:Has K wr u) (hg:wr.grownBy w2 pv.ownBlock) (ho:w2.ownsRow w.heap.size 48 1 v2 (a+1) (xs ++ [u])):DI R G F w ns fs name kd vf (N+K) (a+1) b c f P v2 w2:=by
 have hlo:=own_lo hv
 have hX:∀ k,pv.ownBlock=some k→w.heap.size≤k∧vf.ownBlock≠some k∧∃ cs t,wr.heap[k]?=some (.cells cs t (0,0))∧¬ GenT t:=fun k hk=>by
  obtain ⟨e1,cur,e2⟩:=hlo k hk
  refine ⟨e1,fun e3=>?_,cur,_,e2,by unfold GenT;decide⟩
  obtain ⟨_,cs,hc⟩:=own_lo h.vfl k e3
  rw [e2] at hc
  cases hc
 obtain ⟨k1,k2,k3⟩:=h.kept pv.ownBlock hg hX (fun _ x hx=>(h.fok x hx).other hg fun k hk=>by obtain ⟨_,cur,e2⟩:=hlo k hk;exact ⟨cur,_,e2,by decide⟩)
 have keep:∀ (k:Nat) cs t fr,wr.heap[k]?=some (.cells cs t fr)→t≠48→w2.heap[k]?=wr.heap[k]?:=fun k cs t fr hc ht=>hg.block k (Array.getElem?_eq_some_iff.1 hc).1 fun e2=>by
  obtain ⟨_,cur,hc2⟩:=hlo k e2.symm
  rw [hc] at hc2
  cases hc2
  exact ht rfl
 obtain ⟨vp,ks,h4,h5,h6⟩:=h.box
 obtain ⟨lu,u1,u2⟩:=hu
 have hnd:∀ u l,NdIn wr u l→NdIn w2 u l:=fun u l hn=>hn.keep fun g cur hc=>keep g _ _ _ hc (by decide)
 refine ⟨k1,⟨xs ++ [u],ls ++ [lu],by simp [hn],ho,by simp [hl],fun j u' l' hu' hl'=>?_,by rw [List.flatten_append];simpa using hok.app u2⟩,⟨vp,ks,(keep F _ _ _ h4 (by decide)).trans h4,h5,own_keep h6 fun k cur _ hc=>keep k _ _ _ hc (by decide)⟩,k2,k3,h.lt⟩
 by_cases hj:j < xs.length
 ·rw [List.getElem?_append_left hj] at hu'
  rw [List.getElem?_append_left (by omega)] at hl'
  exact hnd _ _ (hh j u' l' hu' hl')
 ·rw [List.getElem?_append_right (by omega)] at hu'
  rw [List.getElem?_append_right (by omega)] at hl'
  have hj0:j - xs.length=0:=by
   have:=(List.getElem?_eq_some_iff.1 hu').1
   simp at this
   omega
  rw [hj0] at hu'
  rw [show j - ls.length=0 by omega] at hl'
  cases hu';cases hl'
  exact hnd _ _ u1
theorem set_grown (W:World) (g i:Nat) (v:Value):W.grownBy (W.setCell ⟨g,i,none⟩ v) (some g):=⟨rfl,rfl,rfl,by simp [World.setCell],fun k _ hk=>Below.heap_setCell _ _ _ _ (fun e=>hk (by simp [e]))⟩
theorem DI.boxed (h:DI R G F w ns fs name kd vf N a b c f P pv wr) (hF:w.heap.size≤F) (hvF:vf.ownBlock≠some F) {i:Nat} {v vp:Value} {ks:List Int} {f':Nat} (hb:((#[.string name,vp,.int .i64 (f:Nat),.int .i64 kd]:Array Value).setIfInBounds i v)=#[.string name,vp,.int .i64 (f':Nat),.int .i64 kd]) (hbx:wr.heap[F]?=some (.cells #[.string name,vp,.int .i64 (f:Nat),.int .i64 kd] 129 (0,0))) (hk:ks.length=c) (hv:wr.ownsRow w.heap.size 3 1 vp c (intsRow ks)):DI R G F w ns fs name kd vf N a b c f' P pv (wr.setCell ⟨F,i,none⟩ v):=by
 have hg:=set_grown wr F i v
 obtain ⟨k1,k2,k3⟩:=h.kept (some F) hg (fun k e=>by cases e;exact ⟨hF,hvF,_,_,hbx,by unfold GenT;decide⟩) (fun _ x hx=>(h.fok x hx).other hg fun k e=>by cases e;exact ⟨_,_,hbx,by decide⟩)
 have keep:∀ (k:Nat) cs t fr,wr.heap[k]?=some (.cells cs t fr)→t≠129→(wr.setCell ⟨F,i,none⟩ v).heap[k]?=wr.heap[k]?:=fun k cs t fr hc ht=>Below.heap_setCell _ _ _ _ (fun e=>by
  have e':k=F:=e
  subst e'
  rw [hbx] at hc
  cases hc
  exact ht rfl)
 obtain ⟨xs,ls,p1,p2,p3,p4,p5⟩:=h.parts
 refine ⟨k1,⟨xs,ls,p1,own_keep p2 fun k cur _ hc=>keep k _ _ _ hc (by decide),p3,fun j u l hu hl=>(p4 j u l hu hl).keep fun g cur hc=>keep g _ _ _ hc (by decide),p5⟩,⟨vp,ks,?_,hk,own_keep hv fun k cur _ hc=>keep k _ _ _ hc (by decide)⟩,k2,k3,h.lt⟩
 rw [set_at v hbx,hb]
theorem DI.param (h:DI R G F w ns fs name kd vf N a b c f P pv wr) (hF:w.heap.size≤F) (hvF:vf.ownBlock≠some F) (hroot:∀ x ∈ fs,FnOk w x) {vp v2:Value} {ks:List Int} {k:Int} {w1:World} (hbx:wr.heap[F]?=some (.cells #[.string name,vp,.int .i64 (f:Nat),.int .i64 kd] 129 (0,0))) (hk:ks.length=c) (hv:wr.ownsRow w.heap.size 3 1 vp c (intsRow ks)) (hg:wr.grownBy w1 vp.ownBlock) (ho:w1.ownsRow w.heap.size 3 1 v2 (c+1) (intsRow ks ++ [.int .i64 k])) :
  w1.heap[F]?=some (.cells #[.string name,vp,.int .i64 (f:Nat),.int .i64 kd] 129 (0,0))∧DI R G F w ns fs name kd vf N a b (c+1) f P pv (w1.setCell ⟨F,1,none⟩ v2):=by
 have hlo:=own_lo hv
 have keep:∀ (k:Nat) cs t fr,wr.heap[k]?=some (.cells cs t fr)→t≠3→w1.heap[k]?=wr.heap[k]?:=fun k cs t fr hc ht=>hg.block k (Array.getElem?_eq_some_iff.1 hc).1 fun e2=>by
  obtain ⟨_,cur,hc2⟩:=hlo k e2.symm
  rw [hc] at hc2
  cases hc2
  exact ht rfl
 have hbx1:=(keep F _ _ _ hbx (by decide)).trans hbx
 have hvl:=own_lo h.vfl
 obtain ⟨⟨ns2,h1,h2⟩,⟨xs,ls,p1,p2,p3,p4,p5⟩,_,h7,h8,h9⟩:=h
 obtain ⟨k1,k2,k3⟩:=kept0 h2 h7 h8 h9 vp.ownBlock hg (fun k hk=>by
  obtain ⟨e1,cur,e2⟩:=hlo k hk
  refine ⟨e1,fun e3=>?_,cur,_,e2,by unfold GenT;decide⟩
  obtain ⟨_,cs,hc⟩:=hvl k e3
  rw [e2] at hc
  cases hc) (fun hgd x hx=>(hroot x hx).gd hgd)
 have hg2:=set_grown w1 F 1 v2
 obtain ⟨m1,m2,m3⟩:=kept0 k1 k2 k3 h9 (some F) hg2 (fun k e=>by cases e;exact ⟨hF,hvF,_,_,hbx1,by unfold GenT;decide⟩) (fun hgd x hx=>(hroot x hx).gd hgd)
 have keep2:∀ (k:Nat) cs t fr,w1.heap[k]?=some (.cells cs t fr)→t≠129→(w1.setCell ⟨F,1,none⟩ v2).heap[k]?=w1.heap[k]?:=fun k cs t fr hc ht=>Below.heap_setCell _ _ _ _ (fun e=>by
  have e':k=F:=e
  subst e'
  rw [hbx1] at hc
  cases hc
  exact ht rfl)
 have keep3:∀ (k:Nat) cs t fr,wr.heap[k]?=some (.cells cs t fr)→t≠3→t≠129→(w1.setCell ⟨F,1,none⟩ v2).heap[k]?=wr.heap[k]?:=fun k cs t fr hc ht h2=>(keep2 k cs t fr ((keep k cs t fr hc ht).trans hc) h2).trans (keep k cs t fr hc ht)
 refine ⟨hbx1,⟨ns2,h1,m1⟩,⟨xs,ls,p1,own_keep p2 fun k cur _ hc=>keep3 k _ _ _ hc (by decide) (by decide),p3,fun j u l hu hl=>(p4 j u l hu hl).keep fun g cur hc=>keep3 g _ _ _ hc (by decide) (by decide),p5⟩,⟨v2,ks ++ [k],?_,by simp [hk],?_⟩,m2,m3,h9⟩
 ·rw [set_at v2 hbx1];rfl
 ·have:intsRow (ks ++ [k])=intsRow ks ++ [.int .i64 k]:=by simp [intsRow]
  rw [this]
  exact own_keep ho fun k cur _ hc=>keep2 k _ _ _ hc (by decide)
theorem DI.named (h:DI R G F w ns fs name kd vf N a b c f P pv wr) {ns2:List (ByteArray × Int)} {x:ByteArray × Int} (hl:ns2.length=b) (hgs:GS R G (ns ++ ns2) fs P wr) (hx:x.1.size≤100) {vn v2:Value} {w1:World} (h1:wr.cell? ⟨G,1,none⟩=some vn) (hg:wr.grownBy w1 vn.ownBlock) (ho:w1.ownsRow R 123 2 v2 ((ns ++ ns2).length+1) (seenRow (ns ++ ns2) ++ [.string x.1,.int .i64 x.2])) :
  DI R G F w ns fs name kd vf N a (b+1) c f P pv (w1.setCell ⟨G,1,none⟩ v2):=by
 obtain ⟨c0,sz0,p0,g0,g1,g2,g3,g4⟩:=hgs
 obtain ⟨un,uf,e1,e2,e3⟩:=g0.ex
 have e4:=cell_hp e1 1
 rw [h1] at e4
 simp at e4
 subst e4
 obtain ⟨⟨vn2,vf2,b1,b2,b3⟩,rd2,fk2,gk2⟩:=g0.grown e2 rfl hg
 have hs:=gen_set (ns':=ns ++ (ns2 ++ [x])) b2 b3 rd2 g0.le.2 fk2 v2 (by rw [← List.append_assoc,seenRow_append,List.length_append];exact ho) (fun y hy=>by
  rw [← List.append_assoc] at hy
  rcases List.mem_append.1 hy with hy | hy
  ·exact g0.nok y hy
  ·simp at hy;subst hy;exact hx)
 exact h.gk' (ns2:=ns2 ++ [x]) (by simp [hl]) ⟨c0,sz0,p0,hs.1,g1,g2,g3,g4⟩ (gk2.trans hs.2)
theorem fnRow_append (x y:List Fn):fnRow (x ++ y)=fnRow x ++ fnRow y:=by
 induction x with
 | nil=>rfl
 | cons z x ih=>simp [fnRow,ih]
theorem DI.fned (h:DI R G F w ns fs name kd vf N a b c f P pv wr) (hvF:vf.ownBlock≠some F) (hnm:name.size≤100) (hc3:c≤3) (hfc:f≤c) {pad:Option Addr} {pc:Nat} (hbx:wr.heap[F]?=some (.cells #[.string name,.slice pad c pc,.int .i64 (f:Nat),.int .i64 kd] 129 (0,0))) {v2:Value} {w1:World} (hg:wr.grownBy w1 vf.ownBlock) (ho:w1.ownsRow R 129 4 v2 (fs.length+1) (fnRow fs ++ [.string name,.slice pad c pc,.int .i64 (f:Nat),.int .i64 kd])) :
  DI R G F w ns (fs ++ [⟨name,pad,c,pc,f,kd⟩]) name kd v2 N a b c f P pv (w1.setCell ⟨G,2,none⟩ v2):=by
 have hvl:=own_lo h.vfl
 have hfok:=h.fok
 obtain ⟨⟨ns2,h1,c0,sz0,p0,h2,h2b⟩,⟨xs,ls,p1,p2,p3,p4,p5⟩,⟨vp,ks,q4,q5,q6⟩,h7,h8,h9⟩:=h
 rw [hbx] at q4
 cases q4
 obtain ⟨vn,uf,e1,e2,e3⟩:=h2.ex
 have keep:∀ (k:Nat) cs t fr,wr.heap[k]?=some (.cells cs t fr)→t≠129→w1.heap[k]?=wr.heap[k]?:=fun k cs t fr hc ht=>hg.block k (Array.getElem?_eq_some_iff.1 hc).1 fun e2=>by
  obtain ⟨_,cur,hc2⟩:=hvl k e2.symm
  rw [hc] at hc2
  cases hc2
  exact ht rfl
 have hF1:w1.heap[F]?=some (.cells #[.string name,.slice pad c pc,.int .i64 (f:Nat),.int .i64 kd] 129 (0,0)):=(hg.block F (Array.getElem?_eq_some_iff.1 hbx).1 fun e=>hvF e.symm).trans hbx
 have hG1:=(keep G _ _ _ e1 (by decide)).trans e1
 have keep2:∀ (k:Nat) cs t fr,w1.heap[k]?=some (.cells cs t fr)→t≠102→(w1.setCell ⟨G,2,none⟩ v2).heap[k]?=w1.heap[k]?:=fun k cs t fr hc ht=>Below.heap_setCell _ _ _ _ (fun e=>by
  have e':k=G:=e
  subst e'
  rw [hG1] at hc
  cases hc
  exact ht rfl)
 have keep3:∀ (k:Nat) cs t fr,wr.heap[k]?=some (.cells cs t fr)→t≠129→t≠102→(w1.setCell ⟨G,2,none⟩ v2).heap[k]?=wr.heap[k]?:=fun k cs t fr hc ht h2=>(keep2 k cs t fr ((keep k cs t fr hc ht).trans hc) h2).trans (keep k cs t fr hc ht)
 have hlow:∀ k,k < R→(w1.setCell ⟨G,2,none⟩ v2).heap[k]?=wr.heap[k]?:=fun k hk=>by
  have hlt:=h2.rd.lt
  have hRG:=h2.le.2
  exact (Below.heap_setCell _ _ _ _ (by show k≠G;omega)).trans (hg.block k (by omega) fun e=>by have:=(hvl k e.symm).1;omega)
 refine ⟨⟨ns2,h1,c0,sz0,p0,⟨⟨vn,v2,?_,?_,?_⟩,?_,h2.le,h2.nok,?_⟩,h2b⟩,⟨xs,ls,p1,own_keep p2 fun k cur _ hc=>keep3 k _ _ _ hc (by decide) (by decide),p3,fun j u l hu hl=>(p4 j u l hu hl).keep fun g cur hc=>keep3 g _ _ _ hc (by decide) (by decide),p5⟩,⟨_,ks,(keep2 F _ _ _ hF1 (by decide)).trans hF1,q5,own_keep q6 fun k cur _ hc=>keep3 k _ _ _ hc (by decide) (by decide)⟩,?_,?_,h9⟩
 ·have:=set_at (i:=2) v2 hG1
  simpa using this
 ·exact own_keep e2 fun k cur _ hc=>keep3 k _ _ _ hc (by decide) (by decide)
 ·rw [List.length_append,fnRow_append]
  exact own_setG ho hG1 (by decide)
 ·obtain ⟨ad,n,cap,r1,r2,r3⟩:=h2.rd
  refine ⟨ad,n,cap,(keep3 R _ _ _ r1 (by decide) (by decide)).trans r1,r2,?_⟩
  rcases r3 with r3 | ⟨a,z2,r4,r5⟩
  ·exact .inl r3
  ·refine .inr ⟨a,z2,r4,fun i hi=>?_⟩
   obtain ⟨x,hx⟩:=r5 i hi
   refine ⟨x,?_⟩
   rw [← hx]
   exact World.cell?_of_block (w:=wr) (a:=a.add i) (h:=by rw [add_block];exact hlow a.block r4)
 ·intro x hx
  rcases List.mem_append.1 hx with hx | hx
  ·obtain ⟨f1,f2,f3,f4⟩:=hfok x hx
   refine ⟨f1,f2,f3,f4.imp_right ?_⟩
   rintro ⟨g,cur,y,qa,qb⟩
   exact ⟨g,cur,y,(keep3 g _ _ _ qa (by decide) (by decide)).trans qa,qb⟩
  ·simp at hx
   subst hx
   refine ⟨hnm,hc3,hfc,?_⟩
   rcases q6.2 with ⟨_,hz⟩ | ⟨g,cap,cur,e5,_,e6,e7,_,e8,e9⟩
   ·exact .inl hz
   ·refine .inr ⟨g,cur,by cases e5;rfl,(keep3 g _ _ _ e6 (by decide) (by decide)).trans e6,fun i hi=>?_⟩
    have hi':i < c:=hi
    have hlen:(intsRow ks).length=c:=by simp [intsRow,q5]
    obtain ⟨k,hk⟩:∃ k:Int,(intsRow ks)[i]?=some (.int .i64 k):=⟨ks[i]'(by omega),by simp [intsRow,List.getElem?_eq_getElem (show i < ks.length by omega)]⟩
    refine ⟨k,?_⟩
    rw [← e9,List.getElem?_take_of_lt (by omega)] at hk
    simpa using hk
 ·have:=cell_hp (set_at (i:=2) v2 hG1) 2
  simpa using this
 ·exact h8.trans ⟨hg.os,hg.tape,hg.output,by have:=hg.size;simpa [World.setCell] using this,hlow,fun k cs t fr hc ht h2=>keep3 k cs t fr hc h2 (fun e=>ht (by subst e;unfold GenT;decide))⟩
theorem DI.cut (h:DI R G F w ns fs name kd vf N a b c f P pv wr):∃ (m:Nat) (an:Option Addr) (cn:Nat),wr.cell? ⟨G,1,none⟩=some (.slice an m cn)∧wr.frozen? ⟨G,1,none⟩=false∧m≤cn∧cn≤maxLen∧ns.length≤m∧(an=none→m=0∧cn=0)∧(an=none∨∃ g,an=some ⟨g,0,none⟩)∧DI R G F w ns fs name kd vf N a 0 c f P pv (wr.setCell ⟨G,1,none⟩ (.slice an ns.length cn)):=by
 obtain ⟨ns2,h1,c0,sz0,p0,g0,g1,g2,g3,g4⟩:=h.gs
 obtain ⟨un,uf,e1,e2,e3⟩:=g0.ex
 have e4:=cell_hp e1 1
 have e5:=frozen_hp e1 1
 simp at e4
 have hlen:(ns ++ ns2).length=ns.length+ns2.length:=List.length_append
 have fin:∀ (an:Option Addr) (cn:Nat),wr.ownsRow R 123 2 (.slice an ns.length cn) ns.length (seenRow ns)→DI R G F w ns fs name kd vf N a 0 c f P pv (wr.setCell ⟨G,1,none⟩ (.slice an ns.length cn)):=fun an cn ho=>by
  have hs:=gen_set (ns':=ns ++ []) e1 e3 g0.rd g0.le.2 g0.fok (.slice an ns.length cn) (by simpa using ho) (fun y hy=>g0.nok y (by simp at hy ⊢;exact .inl hy))
  exact h.gk' (ns2:=[]) rfl ⟨c0,sz0,p0,hs.1,g1,g2,g3,g4⟩ hs.2
 rcases e2.2 with ⟨rfl,hz⟩ | ⟨g,cap,cur,rfl,f1,f2,f3,f4,f5,f6⟩
 ·refine ⟨0,none,0,e4,e5,Nat.le_refl _,Nat.zero_le _,by omega,fun _=>⟨rfl,rfl⟩,.inl rfl,fin none 0 ?_⟩
  have hn:ns=[]:=by
   have:ns.length=0:=by omega
   exact List.length_eq_zero_iff.1 this
  subst hn
  exact ⟨rfl,.inl ⟨rfl,rfl⟩⟩
 ·refine ⟨(ns ++ ns2).length,some ⟨g,0,none⟩,cap,e4,e5,f3,f4,by omega,fun e=>(by cases e),.inr ⟨g,rfl⟩,fin _ cap ?_⟩
  refine ⟨seenRow_length ns,.inr ⟨g,cap,cur,rfl,f1,f2,by omega,f4,f5,?_⟩⟩
  have:=congrArg (List.take (ns.length * 2)) f6
  rw [List.take_take,Nat.min_eq_left (by omega),seenRow_append,List.take_left' (seenRow_length ns)] at this
  exact this
end
end Go.Proofs.YtabbahpalemlhaaGreatDoor
