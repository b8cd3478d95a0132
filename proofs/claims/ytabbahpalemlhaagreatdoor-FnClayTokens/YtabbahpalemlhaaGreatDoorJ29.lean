import Derived.Test.YtabbahpalemlhaaGreatDoorJ28
namespace Go.Proofs.YtabbahpalemlhaaGreatDoor
open Go.RowKit
set_option maxRecDepth 20000
theorem DI.start {R G P:Nat} {w w1:World} {ns:List (ByteArray × Int)} {fs:List Fn} (name:ByteArray) (kd:Int) (h:GS R G ns fs P w1) (hk:Gk R w w1) (hR:R < w.heap.size) :
  ∃ vf:Value,vf.ownBlock≠some w1.heap.size∧DI R G w1.heap.size w ns fs name kd vf 0 0 0 0 0 P (.slice (some ⟨w1.heap.size+1,0,none⟩) 0 0) ((w1.alloc (.cells #[.string name,.slice none 0 0,.int .i64 0,.int .i64 kd] 129)).alloc (.cells #[] 48)):=by
 have hb:Below w1.heap.size w1 ((w1.alloc (.cells #[.string name,.slice none 0 0,.int .i64 0,.int .i64 kd] 129)).alloc (.cells #[] 48)):=((Below.refl _ _).alloc (Nat.le_refl _) _).alloc (by simp) _
 have h2:=h.next hb
 obtain ⟨c0,sz0,p0,g0,_⟩:=h
 obtain ⟨vn,vf,e1,e2,e3⟩:=g0.ex
 have hbw:=hk.size
 refine ⟨vf,fun e=>?_,⟨[],rfl,by simpa using h2⟩,?_,⟨.slice none 0 0,[],?_,rfl,⟨rfl,.inl ⟨rfl,rfl⟩⟩⟩,?_,(hk.trans (Gk.of_below hb g0.bw)).d,hR⟩
 ·obtain ⟨_,cur,hc⟩:=own_lo e3 _ e
  have:=(Array.getElem?_eq_some_iff.1 hc).1
  omega
 ·have:=Parts.none (w:=w) (W:=w1.alloc (.cells #[.string name,.slice none 0 0,.int .i64 0,.int .i64 kd] 129)) (by simp;omega)
  simpa using this
 ·rw [Below.heap_alloc _ _ _ (by simp)]
  exact heap_alloc_new w1 _
 ·have:=cell_hp e1 2
  rw [hb.cell (p:=⟨G,2,none⟩) (Array.getElem?_eq_some_iff.1 e1).1]
  simpa using this
section
variable {R G F:Nat} {w:World} {ns:List (ByteArray × Int)} {fs:List Fn} {name:ByteArray} {kd:Int} {vf:Value} {N a b c f P:Nat} {pv:Value} {wr:World}
theorem DI.g0 (h:DI R G F w ns fs name kd vf N a b c f P pv wr):wr.cell? ⟨G,0,none⟩=some (.pointer (some ⟨R,0,none⟩)):=by
 obtain ⟨ns2,_,h2⟩:=h.gs
 exact h2.g0
theorem DI.g1 (h:DI R G F w ns fs name kd vf N a b c f P pv wr):∃ ns2:List (ByteArray × Int),ns2.length=b∧GS R G (ns ++ ns2) fs P wr∧∃ an cn,wr.cell? ⟨G,1,none⟩=some (.slice an (ns.length+b) cn)∧wr.frozen? ⟨G,1,none⟩=false∧wr.ownsRow R 123 2 (.slice an (ns.length+b) cn) (ns.length+b) (seenRow (ns ++ ns2)):=by
 obtain ⟨ns2,h1,h2⟩:=h.gs
 refine ⟨ns2,h1,h2,?_⟩
 obtain ⟨c0,sz0,p0,g0,_⟩:=h2
 obtain ⟨vn,uf,e1,e2,e3⟩:=g0.ex
 have e4:=cell_hp e1 1
 have e5:=frozen_hp e1 1
 simp at e4
 obtain ⟨an,cn,rfl⟩:=own_sl e2
 have hl:(ns ++ ns2).length=ns.length+b:=by rw [List.length_append,h1]
 rw [hl] at e4 e2
 exact ⟨an,cn,e4,e5,e2⟩
theorem DI.bxs (h:DI R G F w ns fs name kd vf N a b c f P pv wr):∃ pad pc ks,wr.heap[F]?=some (.cells #[.string name,.slice pad c pc,.int .i64 (f:Nat),.int .i64 kd] 129 (0,0))∧ks.length=c∧wr.ownsRow w.heap.size 3 1 (.slice pad c pc) c (intsRow ks):=by
 obtain ⟨vp,ks,h1,h2,h3⟩:=h.box
 obtain ⟨pad,pc,rfl⟩:=own_sl h3
 exact ⟨pad,pc,ks,h1,h2,h3⟩
theorem DI.psl (h:DI R G F w ns fs name kd vf N a b c f P pv wr):∃ pa pc,pv=.slice pa a pc:=by
 obtain ⟨xs,ls,h1,h2,_⟩:=h.parts
 exact own_sl h2
theorem DI.gs1 (h:DI R G F w ns fs name kd vf N a b c f P pv wr) (hP:P+10≤1000000) (n:Int) (hn:n≤1000000000) :
  Calls Tryz.prog 8 #[.pointer (some ⟨R,0,none⟩),.int .i64 n] wr fun e w2=>∃ x:Nat,e=.returned (.int .i64 x)∧(x=0∨(x:Int) < n)∧DI R G F w ns fs name kd vf N a b c f (P+1) pv w2∧Gk R wr w2:=by
 obtain ⟨ns2,h1,h2⟩:=h.gs
 refine (pick_gs h2 hP n hn).mono ?_
 rintro e w2 ⟨x,rfl,hx,g,k⟩
 exact ⟨x,rfl,hx,h.gk' h1 g k,k⟩
theorem DI.gse {d:Int} {K Ce:Nat} (he:EOk d K Ce) (h:DI R G F w ns fs name kd vf N a b c f P pv wr) (hP:P+Ce+10≤1000000) (hn:ns.length+b+Ce+10≤1000000) (hf:fs.length≤1000) (kind:Int) :
  Calls Tryz.prog 83 #[.pointer (some ⟨G,0,none⟩),.int .i64 kind,.int .i64 d] wr fun e w2=>∃ g n k,e=.returned (.slice (some ⟨g,0,none⟩) n k)∧Has K w2 (.slice (some ⟨g,0,none⟩) n k)∧DI R G F w ns fs name kd vf N a b c f (P+Ce) pv w2∧Gk R wr w2:=by
 obtain ⟨ns2,h1,h2⟩:=h.gs
 refine (e_gs he h2 hP (by rw [List.length_append];omega) hf kind).mono ?_
 rintro e w2 ⟨g,n,k,rfl,hl,hg,hk⟩
 exact ⟨g,n,k,rfl,hl,h.gk' h1 hg hk,hk⟩
theorem DI.put1 (h:DI R G F w ns fs name kd vf N a b c f P pv wr) (x:Nd) (u:Value) {K:Nat} (hu:Has K wr u) (hx:x.text.size≤1000) (hK:K≤100000) :
  Calls Tryz.prog 61 #[.agg #[.int .i64 x.kind,.int .i64 x.op,.int .i64 x.n,.string x.text,.int .i64 x.kids],.slice (some ⟨wr.heap.size,0,none⟩) 1 1] (wr.alloc (.cells #[u] 48)) fun e w2=>∃ g n k,e=.returned (.slice (some ⟨g,0,none⟩) n k)∧Has (K+1) w2 (.slice (some ⟨g,0,none⟩) n k)∧DI R G F w ns fs name kd vf N a b c f P pv w2∧Below wr.heap.size wr w2:=by
 obtain ⟨l,h1,h2⟩:=hu
 refine (over1 x u l wr h1 (by have:=h2.1;omega)).mono ?_
 rintro e w2 ⟨v,rfl,h3,h4⟩
 obtain ⟨g,n,k,rfl⟩:=h3.sl
 exact ⟨g,n,k,rfl,⟨_,h3,h2.over hx⟩,h.next h4,h4⟩
theorem DI.putAll (h:DI R G F w ns fs name kd vf N a b c f P pv wr) (x:Nd) {g k:Nat} (hv:pv=.slice (some ⟨g,0,none⟩) a k) (ha:a≤1000) (hx:x.text.size≤1000) (hK:N≤100000) :
  Calls Tryz.prog 61 #[.agg #[.int .i64 x.kind,.int .i64 x.op,.int .i64 x.n,.string x.text,.int .i64 x.kids],.slice (some ⟨g,0,none⟩) a k] wr fun e w2=>∃ g n k,e=.returned (.slice (some ⟨g,0,none⟩) n k)∧Has (N+1) w2 (.slice (some ⟨g,0,none⟩) n k)∧DI R G F w ns fs name kd vf N a b c f P pv w2:=by
 obtain ⟨xs,ls,h1,h2,h3,h4,h5⟩:=h.parts
 subst hv
 have hparts:PartsIn wr (some ⟨g,0,none⟩) xs ls:=by
  refine ⟨h3,?_,h4⟩
  rcases h2.2 with ⟨e,_⟩ | ⟨g',cap,cur,e,_,b3,_,_,_,b4⟩
  ·cases e
  ·cases e
   refine .inr ⟨g,rfl,cur,b3,fun j u hu=>?_⟩
   rw [Nat.mul_one] at b4
   rw [← b4] at hu
   have hj:=(List.getElem?_eq_some_iff.1 hu).1
   rw [List.length_take] at hj
   rw [List.getElem?_take_of_lt (by omega)] at hu
   simpa using hu
 refine (l2Over_any x (some ⟨g,0,none⟩) a k xs ls wr h1 (by omega) hparts (by have:=h5.1;omega)).mono ?_
 rintro e w2 ⟨v,rfl,h6,h7⟩
 obtain ⟨g2,n2,k2,rfl⟩:=h6.sl
 exact ⟨g2,n2,k2,rfl,⟨_,h6,h5.over hx⟩,h.next h7⟩
theorem DI.gfr (h:DI R G F w ns fs name kd vf N a b c f P pv wr) (i:Nat):wr.frozen? ⟨G,i,none⟩=false∧∃ cs,wr.heap[G]?=some (.cells cs 102 (0,0)):=by
 obtain ⟨ns2,_,c0,sz0,p0,h2,_⟩:=h.gs
 obtain ⟨vn,uf,e1,_,_⟩:=h2.ex
 exact ⟨frozen_hp e1 i,_,e1⟩
theorem DI.nmono (h:DI R G F w ns fs name kd vf N a b c f P pv wr) {N':Nat} (hN:N≤N'):DI R G F w ns fs name kd vf N' a b c f P pv wr:=by
 obtain ⟨xs,ls,h1,h2,h3,h4,h5⟩:=h.parts
 exact ⟨h.gs,⟨xs,ls,h1,h2,h3,h4,h5.mono hN⟩,h.box,h.vf,h.gd,h.lt⟩
end
theorem five_at {W:World} {g:Nat} {a0 a1 a2 a3 a4:Value} {t:TypeId} (h:W.heap[g]?=some (.cells #[a0,a1,a2,a3,a4] t (0,0))):W.cell? ⟨g,0,none⟩=some a0∧W.cell? ⟨g,1,none⟩=some a1∧W.cell? ⟨g,2,none⟩=some a2∧W.cell? ⟨g,3,none⟩=some a3∧W.cell? ⟨g,4,none⟩=some a4 :=
 ⟨cell_hp h 0,cell_hp h 1,cell_hp h 2,cell_hp h 3,cell_hp h 4⟩
theorem four_at {W:World} {g:Nat} {a0 a1 a2 a3:Value} {t:TypeId} (h:W.heap[g]?=some (.cells #[a0,a1,a2,a3] t (0,0))):W.cell? ⟨g,0,none⟩=some a0∧W.cell? ⟨g,1,none⟩=some a1∧W.cell? ⟨g,2,none⟩=some a2∧W.cell? ⟨g,3,none⟩=some a3 :=
 ⟨cell_hp h 0,cell_hp h 1,cell_hp h 2,cell_hp h 3⟩
theorem nd_grown {W V:World} {g:Nat} {cs:Array Value} {B e size n:Nat} {v:Value} {xs:List Value} (h:W.heap[g]?=some (.cells cs 81 (0,0))) (ho:W.ownsRow B e size v n xs) (he:e≠81) (hg:W.grownBy V v.ownBlock):V.heap[g]?=some (.cells cs 81 (0,0)) :=
 (hg.block g (Array.getElem?_eq_some_iff.1 h).1 fun e2=>by
  obtain ⟨_,cur,hc⟩:=own_lo ho g e2.symm
  rw [h] at hc
  cases hc
  exact he rfl).trans h
theorem hp_next {W V:World} {g:Nat} {o:Obj} (h:W.heap[g]?=some o) (hb:Below W.heap.size W V):V.heap[g]?=some o:=(hb.block g (Array.getElem?_eq_some_iff.1 h).1).trans h
theorem info_fn:(Tryz.prog.info? 129).map (fun i=>(i.zero,i.size,i.bytes))=some (some (.agg #[.string ⟨#[]⟩,.slice none 0 0,.int .i64 0,.int .i64 0]),4,56):=by kernel_rfl
theorem cell_four_newG (w:World) (a b c d:Value) (t:TypeId):∀ j u,[a,b,c,d][j]?=some u→(w.alloc (.cells #[a,b,c,d] t)).cell? ((⟨w.heap.size,0,none⟩:Addr).add j)=some u:=by
 intro j u hj
 rw [add_none,cell_new_row]
 simpa using hj
theorem info_in:(Tryz.prog.info? 3).map (fun i=>(i.zero,i.size,i.bytes))=some (some (.int .i64 0),1,8):=by kernel_rfl
end Go.Proofs.YtabbahpalemlhaaGreatDoor
