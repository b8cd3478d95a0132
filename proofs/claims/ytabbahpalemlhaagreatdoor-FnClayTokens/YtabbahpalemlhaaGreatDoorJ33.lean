import Derived.Test.YtabbahpalemlhaaGreatDoorJ32
namespace Go.Proofs.YtabbahpalemlhaaGreatDoor
open Go.RowKit
set_option maxRecDepth 20000
structure FI (R G:Nat) (w:World) (N a nn nf P:Nat) (pv:Value) (wr:World):Prop where
 gs:∃ ns fs,ns.length≤nn∧fs.length≤nf∧GS R G ns fs P wr
 parts:Parts w wr pv a N
 gd:Gd R w wr
 lt:R < w.heap.size
section
variable {R G:Nat} {w:World} {N a nn nf P:Nat} {pv:Value} {wr:World}
theorem FI.gd' (h:FI R G w N a nn nf P pv wr) {w2:World} {nn' nf' P':Nat} (hg:∃ ns fs,ns.length≤nn'∧fs.length≤nf'∧GS R G ns fs P' w2) (hk:Gd R wr w2):FI R G w N a nn' nf' P' pv w2:=⟨hg,h.parts.gd hk,h.gd.trans hk,h.lt⟩
theorem FI.next (h:FI R G w N a nn nf P pv wr) {w2:World} (hb:Below wr.heap.size wr w2):FI R G w N a nn nf P pv w2:=by
 obtain ⟨ns,fs,h1,h2,h3⟩:=h.gs
 exact h.gd' ⟨ns,fs,h1,h2,h3.next hb⟩ (Gd.of_below hb h3.bw)
theorem FI.mono (h:FI R G w N a nn nf P pv wr) {N' nn' nf' P':Nat} (h1:N≤N') (h2:nn≤nn') (h3:nf≤nf') (h4:P≤P'):FI R G w N' a nn' nf' P' pv wr:=by
 obtain ⟨ns,fs,e1,e2,e3⟩:=h.gs
 obtain ⟨xs,ls,p1,p2,p3,p4,p5⟩:=h.parts
 exact ⟨⟨ns,fs,by omega,by omega,e3.mono h4⟩,⟨xs,ls,p1,p2,p3,p4,p5.mono h1⟩,h.gd,h.lt⟩
theorem FI.g0 (h:FI R G w N a nn nf P pv wr):wr.cell? ⟨G,0,none⟩=some (.pointer (some ⟨R,0,none⟩)):=by
 obtain ⟨ns,fs,_,_,h3⟩:=h.gs
 exact h3.g0
theorem FI.psl (h:FI R G w N a nn nf P pv wr):∃ pa pc,pv=.slice pa a pc:=by
 obtain ⟨xs,ls,_,h2,_⟩:=h.parts
 exact own_sl h2
theorem FI.pick (h:FI R G w N a nn nf P pv wr) (hP:P+10≤1000000) (n:Int) (hn:n≤1000000000) :
  Calls Tryz.prog 8 #[.pointer (some ⟨R,0,none⟩),.int .i64 n] wr fun e w2=>∃ x:Nat,e=.returned (.int .i64 x)∧(x=0∨(x:Int) < n)∧FI R G w N a nn nf (P+1) pv w2:=by
 obtain ⟨ns,fs,h1,h2,h3⟩:=h.gs
 refine (pick_gs h3 hP n hn).mono ?_
 rintro e w2 ⟨x,rfl,hx,g,k⟩
 exact ⟨x,rfl,hx,h.gd' ⟨ns,fs,h1,h2,g⟩ k.d⟩
theorem FI.e {d:Int} {K Ce:Nat} (he:EOk d K Ce) (h:FI R G w N a nn nf P pv wr) (hP:P+Ce+10≤1000000) (hn:nn+Ce+10≤1000000) (hf:nf≤1000) (kind:Int) :
  Calls Tryz.prog 83 #[.pointer (some ⟨G,0,none⟩),.int .i64 kind,.int .i64 d] wr fun e w2=>∃ g n k,e=.returned (.slice (some ⟨g,0,none⟩) n k)∧Has K w2 (.slice (some ⟨g,0,none⟩) n k)∧FI R G w N a nn nf (P+Ce) pv w2:=by
 obtain ⟨ns,fs,h1,h2,h3⟩:=h.gs
 refine (e_gs he h3 hP (by omega) (by omega) kind).mono ?_
 rintro e w2 ⟨g,n,k,rfl,hl,hg,hk⟩
 exact ⟨g,n,k,rfl,hl,h.gd' ⟨ns,fs,h1,h2,hg⟩ hk.d⟩
theorem FI.def (h:FI R G w N a nn nf P pv wr) (hP:P+4000≤1000000) (hn:nn≤10000) (hf:nf≤900) (name:ByteArray) (hnm:name.size≤100) :
  Calls Tryz.prog 82 #[.pointer (some ⟨G,0,none⟩),.string name,.int .i64 3] wr fun e w2=>∃ g n k,e=.returned (.slice (some ⟨g,0,none⟩) n k)∧Has 260 w2 (.slice (some ⟨g,0,none⟩) n k)∧FI R G w N a nn (nf+2) (P+3000) pv w2:=by
 obtain ⟨ns,fs,h1,h2,h3⟩:=h.gs
 refine (def_any R G P wr ns fs name h3 hP (by omega) (by omega) hnm).mono ?_
 rintro e w2 ⟨g,n,k,fs',rfl,hl,hg,hlen,hk⟩
 exact ⟨g,n,k,rfl,hl,h.gd' ⟨ns,fs',h1,by omega,hg⟩ hk⟩
theorem FI.put1 (h:FI R G w N a nn nf P pv wr) (x:Nd) (u:Value) {K:Nat} (hu:Has K wr u) (hx:x.text.size≤1000) (hK:K≤100000) :
  Calls Tryz.prog 61 #[.agg #[.int .i64 x.kind,.int .i64 x.op,.int .i64 x.n,.string x.text,.int .i64 x.kids],.slice (some ⟨wr.heap.size,0,none⟩) 1 1] (wr.alloc (.cells #[u] 48)) fun e w2=>∃ g n k,e=.returned (.slice (some ⟨g,0,none⟩) n k)∧Has (K+1) w2 (.slice (some ⟨g,0,none⟩) n k)∧FI R G w N a nn nf P pv w2:=by
 obtain ⟨l,h1,h2⟩:=hu
 refine (over1 x u l wr h1 (by have:=h2.1;omega)).mono ?_
 rintro e w2 ⟨v,rfl,h3,h4⟩
 obtain ⟨g,n,k,rfl⟩:=h3.sl
 exact ⟨g,n,k,rfl,⟨_,h3,h2.over hx⟩,h.next h4⟩
theorem FI.putAll (h:FI R G w N a nn nf P pv wr) (x:Nd) {g k:Nat} (hv:pv=.slice (some ⟨g,0,none⟩) a k) (ha:a≤1000) (hx:x.text.size≤1000) (hK:N≤100000) :
  Calls Tryz.prog 61 #[.agg #[.int .i64 x.kind,.int .i64 x.op,.int .i64 x.n,.string x.text,.int .i64 x.kids],.slice (some ⟨g,0,none⟩) a k] wr fun e w2=>∃ g n k,e=.returned (.slice (some ⟨g,0,none⟩) n k)∧Has (N+1) w2 (.slice (some ⟨g,0,none⟩) n k)∧FI R G w N a nn nf P pv w2:=by
 obtain ⟨xs,ls,h1,h2,h3,h4,h5⟩:=h.parts
 subst hv
 have hparts:PartsIn wr (some ⟨g,0,none⟩) xs ls:=by
  refine ⟨h3,?_,h4⟩
  rcases h2.2 with ⟨e,_⟩ | ⟨g',cap,cur,e,_,b3,_,_,_,b4⟩
  ·cases e
  ·cases e
   refine .inr ⟨g,rfl,cur,b3,fun j u hu=>?_⟩
   rw [Nat.mul_one] at b4
   rw [← b4] at hu
   have hj:=(List.getElem?_eq_some_iff.1 hu).1
   rw [List.length_take] at hj
   rw [List.getElem?_take_of_lt (by omega)] at hu
   simpa using hu
 refine (l2Over_any x (some ⟨g,0,none⟩) a k xs ls wr h1 (by omega) hparts (by have:=h5.1;omega)).mono ?_
 rintro e w2 ⟨v,rfl,h6,h7⟩
 obtain ⟨g2,n2,k2,rfl⟩:=h6.sl
 exact ⟨g2,n2,k2,rfl,⟨_,h6,h5.over hx⟩,h.next h7⟩
theorem FI.parted (h:FI R G w N a nn nf P pv wr) {w2:World} {v2 u:Value} {K:Nat} {xs:List Value} {ls:List (List Nd)} (hn:xs.length=a) (hl:xs.length=ls.length) (hh:∀ (j:Nat) u l,xs[j]?=some u→ls[j]?=some l→NdIn wr u l) (hok:NdOk N ls.flatten) (hv:wr.ownsRow w.heap.size 48 1 pv a xs) (hu:Has K wr u) (hg:wr.grownBy w2 pv.ownBlock) (ho:w2.ownsRow w.heap.size 48 1 v2 (a+1) (xs ++ [u])):FI R G w (N+K) (a+1) nn nf P v2 w2:=by
 have hlo:=own_lo hv
 have keep:∀ (k:Nat) cs t fr,wr.heap[k]?=some (.cells cs t fr)→t≠48→w2.heap[k]?=wr.heap[k]?:=fun k cs t fr hc ht=>hg.block k (Array.getElem?_eq_some_iff.1 hc).1 fun e2=>by
  obtain ⟨_,cur,hc2⟩:=hlo k e2.symm
  rw [hc] at hc2
  cases hc2
  exact ht rfl
 have old:∀ k,k < w.heap.size→w2.heap[k]?=wr.heap[k]?:=fun k hk=>hg.block k (Nat.lt_of_lt_of_le hk h.gd.size) fun e=>by have:=(hlo k e.symm).1;omega
 obtain ⟨⟨ns,fs,e1,e2,c0,sz0,p0,g0,gb⟩,_,h8,h9⟩:=h
 obtain ⟨lu,u1,u2⟩:=hu
 have hnd:∀ u l,NdIn wr u l→NdIn w2 u l:=fun u l hn=>hn.keep fun g cur hc=>keep g _ _ _ hc (by decide)
 refine ⟨⟨ns,fs,e1,e2,c0,sz0,p0,g0.keep (fun k cs t fr hc ht=>keep k cs t fr hc ?_) (fun k hk=>old k (by omega)) (fun x hx=>(g0.fok x hx).other hg fun k hk=>by obtain ⟨_,cur,e5⟩:=hlo k hk;exact ⟨cur,_,e5,by decide⟩),gb⟩,⟨xs ++ [u],ls ++ [lu],by simp [hn],ho,by simp [hl],fun j u' l' hu' hl'=>?_,by rw [List.flatten_append];simpa using hok.app u2⟩,⟨hg.os.trans h8.os,hg.tape.trans h8.tape,hg.output.trans h8.output,Nat.le_trans h8.size hg.size,fun k hk=>(old k (by omega)).trans (h8.low k hk),fun k cs t fr hc ht h2=>(old k (Array.getElem?_eq_some_iff.1 hc).1).trans (h8.block k cs t fr hc ht h2)⟩,h9⟩
 ·rcases ht with ht | ⟨rfl,_⟩
  ·rintro rfl
   revert ht
   unfold GenT
   decide
  ·decide
 by_cases hj:j < xs.length
 ·rw [List.getElem?_append_left hj] at hu'
  rw [List.getElem?_append_left (by omega)] at hl'
  exact hnd _ _ (hh j u' l' hu' hl')
 ·rw [List.getElem?_append_right (by omega)] at hu'
  rw [List.getElem?_append_right (by omega)] at hl'
  have hj0:j - xs.length=0:=by
   have:=(List.getElem?_eq_some_iff.1 hu').1
   simp at this
   omega
  rw [hj0] at hu'
  rw [show j - ls.length=0 by omega] at hl'
  cases hu';cases hl'
  exact hnd _ _ u1
theorem FI.regrown (h:FI R G w N a nn nf P pv wr) {w2:World} {v2:Value} {xs:List Value} {ls:List (List Nd)} (hn:xs.length=a) (hl:xs.length=ls.length) (hh:∀ (j:Nat) u l,xs[j]?=some u→ls[j]?=some l→NdIn wr u l) (hok:NdOk N ls.flatten) (hv:wr.ownsRow w.heap.size 48 1 pv a xs) (hg:wr.grownBy w2 pv.ownBlock) (ho:w2.ownsRow w.heap.size 48 1 v2 a xs):FI R G w N a nn nf P v2 w2:=by
 have hlo:=own_lo hv
 have keep:∀ (k:Nat) cs t fr,wr.heap[k]?=some (.cells cs t fr)→t≠48→w2.heap[k]?=wr.heap[k]?:=fun k cs t fr hc ht=>hg.block k (Array.getElem?_eq_some_iff.1 hc).1 fun e2=>by
  obtain ⟨_,cur,hc2⟩:=hlo k e2.symm
  rw [hc] at hc2
  cases hc2
  exact ht rfl
 have old:∀ k,k < w.heap.size→w2.heap[k]?=wr.heap[k]?:=fun k hk=>hg.block k (Nat.lt_of_lt_of_le hk h.gd.size) fun e=>by have:=(hlo k e.symm).1;omega
 obtain ⟨⟨ns,fs,e1,e2,c0,sz0,p0,g0,gb⟩,_,h8,h9⟩:=h
 have hnd:∀ u l,NdIn wr u l→NdIn w2 u l:=fun u l hn=>hn.keep fun g cur hc=>keep g _ _ _ hc (by decide)
 refine ⟨⟨ns,fs,e1,e2,c0,sz0,p0,g0.keep (fun k cs t fr hc ht=>keep k cs t fr hc ?_) (fun k hk=>old k (by omega)) (fun x hx=>(g0.fok x hx).other hg fun k hk=>by obtain ⟨_,cur,e5⟩:=hlo k hk;exact ⟨cur,_,e5,by decide⟩),gb⟩,⟨xs,ls,hn,ho,hl,fun j u l hu hl=>hnd _ _ (hh j u l hu hl),hok⟩,⟨hg.os.trans h8.os,hg.tape.trans h8.tape,hg.output.trans h8.output,Nat.le_trans h8.size hg.size,fun k hk=>(old k (by omega)).trans (h8.low k hk),fun k cs t fr hc ht h2=>(old k (Array.getElem?_eq_some_iff.1 hc).1).trans (h8.block k cs t fr hc ht h2)⟩,h9⟩
 rcases ht with ht | ⟨rfl,_⟩
 ·rintro rfl
  revert ht
  unfold GenT
  decide
 ·decide
theorem FI.named (h:FI R G w N a nn nf P pv wr):∃ (ns:List (ByteArray × Int)) (an:Option Addr) (cn:Nat),ns.length≤nn∧wr.cell? ⟨G,1,none⟩=some (.slice an ns.length cn)∧wr.frozen? ⟨G,1,none⟩=false∧wr.ownsRow R 123 2 (.slice an ns.length cn) ns.length (seenRow ns) ∧
  ∀ (x:ByteArray × Int) (v2:Value) (w1:World),x.1.size≤100→wr.grownBy w1 (Value.slice an ns.length cn).ownBlock→w1.ownsRow R 123 2 v2 (ns.length+1) (seenRow ns ++ [.string x.1,.int .i64 x.2]) →
   w1.cell? ⟨G,1,none⟩=some (.slice an ns.length cn)∧w1.frozen? ⟨G,1,none⟩=false∧FI R G w N a (nn+1) nf P pv (w1.setCell ⟨G,1,none⟩ v2):=by
 have hself:=h
 obtain ⟨⟨ns,fs,e1,e2,c0,sz0,p0,g0,gb⟩,_,h8,h9⟩:=h
 obtain ⟨un,uf,f1,f2,f3⟩:=g0.ex
 have f4:=cell_hp f1 1
 have f5:=frozen_hp f1 1
 simp at f4
 obtain ⟨an,cn,rfl⟩:=own_sl f2
 refine ⟨ns,an,cn,e1,f4,f5,f2,fun x v2 w1 hx hg ho=>?_⟩
 obtain ⟨⟨vn2,vf2,b1,b2,b3⟩,rd2,fk2,gk2⟩:=g0.grown f2 rfl hg
 have b1':=cell_hp b1 1
 rw [f4] at b1'
 simp at b1'
 have b4:=cell_hp b2 1
 simp at b4
 have hs:=gen_set (ns':=ns ++ [x]) b2 b3 rd2 g0.le.2 fk2 v2 (by rw [seenRow_append,List.length_append];exact ho) (fun y hy=>by
  rcases List.mem_append.1 hy with hy | hy
  ·exact g0.nok y hy
  ·simp at hy;subst hy;exact hx)
 exact ⟨by rw [b1'];exact b4,frozen_hp b2 1,hself.gd' ⟨ns ++ [x],fs,by simp;omega,e2,c0,sz0,p0,hs.1,gb⟩ (gk2.trans hs.2).d⟩
end
theorem GS.set_other {R G P:Nat} {ns:List (ByteArray × Int)} {fs:List Fn} {W:World} (h:GS R G ns fs P W) {g i:Nat} {cs:Array Value} {t:TypeId} (hc:W.heap[g]?=some (.cells cs t (0,0))) (h1:¬ GenT t) (h2:t≠129) (h3:t≠3) (hR:R≤g) (v:Value):GS R G ns fs P (W.setCell ⟨g,i,none⟩ v):=by
 obtain ⟨c0,sz0,p0,g0,gb⟩:=h
 have hg:=set_grown W g i v
 have keep:∀ (k:Nat) cs' t' fr,W.heap[k]?=some (.cells cs' t' fr)→t'≠t→(W.setCell ⟨g,i,none⟩ v).heap[k]?=W.heap[k]?:=fun k cs' t' fr hc' ht=>Below.heap_setCell _ _ _ _ (fun e=>by
  have e':k=g:=e
  subst e'
  rw [hc] at hc'
  cases hc'
  exact ht rfl)
 refine ⟨c0,sz0,p0,g0.keep (fun k cs' t' fr hc' ht=>keep k cs' t' fr hc' ?_) (fun k hk=>Below.heap_setCell _ _ _ _ (by show k≠g;omega)) (fun x hx=>(g0.fok x hx).other hg fun k e=>by cases e;exact ⟨_,_,hc,h3⟩),gb⟩
 rcases ht with ht | ⟨rfl,_⟩
 ·rintro rfl
  exact h1 ht
 ·exact fun e=>h2 e.symm
end Go.Proofs.YtabbahpalemlhaaGreatDoor
