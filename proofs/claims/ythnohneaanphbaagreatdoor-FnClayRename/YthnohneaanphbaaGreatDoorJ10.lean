import Derived.Test.YthnohneaanphbaaGreatDoorJ09
namespace Go.Proofs.YthnohneaanphbaaGreatDoor
open Go.RowKit
set_option maxRecDepth 20000
structure Fn where
 name:ByteArray
 pad:Option Addr
 pn:Nat
 pc:Nat
 free:Nat
 kind:Int
def seenRow:List (ByteArray × Int)→List Value
 | []=>[]
 | x :: l=>.string x.1 :: .int .i64 x.2 :: seenRow l
def fnRow:List Fn→List Value
 | []=>[]
 | f :: l=>.string f.name :: .slice f.pad f.pn f.pc :: .int .i64 f.free :: .int .i64 f.kind :: fnRow l
def FnOk (w:World) (f:Fn):Prop:=f.name.size≤100∧f.pn≤3∧f.free≤f.pn∧(f.pn=0∨∃ (g:Nat) (cur:Array Value),f.pad=some ⟨g,0,none⟩∧w.heap[g]?=some (.cells cur 3 (0,0))∧∀ i,i < f.pn→∃ k:Int,cur[i]?=some (.int .i64 k))
def GenT (t:TypeId):Prop:=t=65∨t=106∨t=140
structure Gk (B:Nat) (w w':World):Prop where
 os:w'.os=w.os
 tape:w'.tape=w.tape
 output:w'.output=w.output
 size:w.heap.size≤w'.heap.size
 low:∀ k,k < B→w'.heap[k]?=w.heap[k]?
 block:∀ (k:Nat) cs t fr,w.heap[k]?=some (.cells cs t fr)→¬ GenT t→w'.heap[k]?=w.heap[k]?
 fld:∀ (k:Nat) cs fr,w.heap[k]?=some (.cells cs 106 fr)→∃ cs',w'.heap[k]?=some (.cells cs' 106 fr)∧cs'[2]?=cs[2]?
theorem Gk.refl (B:Nat) (w:World):Gk B w w:=⟨rfl,rfl,rfl,Nat.le_refl _,fun _ _=>rfl,fun _ _ _ _ _ _=>rfl,fun _ cs _ h=>⟨cs,h,rfl⟩⟩
theorem Gk.trans {B:Nat} {u v w:World} (h:Gk B u v) (k:Gk B v w):Gk B u w :=
 ⟨k.os.trans h.os,k.tape.trans h.tape,k.output.trans h.output,Nat.le_trans h.size k.size,fun i hi=>(k.low i hi).trans (h.low i hi),fun i cs t fr hc ht=>(k.block i cs t fr ((h.block i cs t fr hc ht).trans hc) ht).trans (h.block i cs t fr hc ht),fun i cs fr hc=>by
  obtain ⟨cs1,h1,e1⟩:=h.fld i cs fr hc
  obtain ⟨cs2,h2,e2⟩:=k.fld i cs1 fr h1
  exact ⟨cs2,h2,e2.trans e1⟩⟩
theorem Gk.of_below {B:Nat} {w w':World} (h:Below w.heap.size w w') (hB:B≤w.heap.size):Gk B w w':=⟨h.os,h.tape,h.output,h.size,fun k hk=>h.block k (by omega),fun k _ _ _ hc _=>h.block k (Array.getElem?_eq_some_iff.1 hc).1,fun k cs _ hc=>⟨cs,(h.block k (Array.getElem?_eq_some_iff.1 hc).1).trans hc,rfl⟩⟩
theorem Gk.of_sv {B R:Nat} {w w':World} (h:Sv (fun k=>k=R) w w') (hB:B≤R) (hR:R < w.heap.size) {cs:Array Value} {fr:Nat × Nat} {t:TypeId} (hc:w.heap[R]?=some (.cells cs t fr)) (ht:GenT t) (ht2:t≠106):Gk B w w' :=
 ⟨h.os,h.tape,h.output,h.size,fun k hk=>h.block k (by omega) (by show ¬ k=R;omega),fun k cs' t' fr' hc' ht'=>h.block k (Array.getElem?_eq_some_iff.1 hc').1 (fun e=>by subst e;rw [hc] at hc';cases hc';exact ht' ht),fun k cs' fr' hc'=>⟨cs',(h.block k (Array.getElem?_eq_some_iff.1 hc').1 (fun e=>by subst e;rw [hc] at hc';cases hc';exact ht2 rfl)).trans hc',rfl⟩⟩
theorem Gk.set {B:Nat} {w w':World} (h:Gk B w w') {G i:Nat} {cs:Array Value} {fr:Nat × Nat} {t:TypeId} (hc:w'.heap[G]?=some (.cells cs t fr)) (ht:GenT t) (hB:B≤G) (hi:i≠2) (v:Value):Gk B w (w'.setCell ⟨G,i,none⟩ v) :=
 h.trans ⟨rfl,rfl,rfl,by simp [World.setCell],fun k hk=>Below.heap_setCell _ _ _ _ (by show k≠G;omega),fun k cs' t' fr' hc' ht'=>Below.heap_setCell _ _ _ _ (fun e=>by subst e;rw [hc] at hc';cases hc';exact ht' ht),fun k cs' fr' hc'=>by
  by_cases e:k=G
  ·subst e
   refine ⟨cs'.setIfInBounds i v,?_,by rw [Array.getElem?_setIfInBounds_ne hi]⟩
   unfold World.setCell
   simp only [Array.getElem?_modify,hc']
   simp
  ·exact ⟨cs',(Below.heap_setCell _ _ _ _ e).trans hc',rfl⟩⟩
theorem NdIn.gk {B:Nat} {w w':World} {v:Value} {l:List Nd} (h:NdIn w v l) (hg:Gk B w w'):NdIn w' v l:=h.keep fun g cur hc=>hg.block g _ _ _ hc (by unfold GenT;decide)
theorem FnOk.gk {B:Nat} {w w':World} {f:Fn} (h:FnOk w f) (hg:Gk B w w'):FnOk w' f:=by
 obtain ⟨h1,h2,h3,h4⟩:=h
 refine ⟨h1,h2,h3,h4.imp_right ?_⟩
 rintro ⟨g,cur,e,a,b⟩
 exact ⟨g,cur,e,(hg.block g _ _ _ a (by unfold GenT;decide)).trans a,b⟩
structure GenAt (R G B:Nat) (w:World) (ns:List (ByteArray × Int)) (fs:List Fn) (c:Nat) (sz:Int) (p:Nat):Prop where
 ex:∃ vn vf,w.heap[G]?=some (.cells #[.pointer (some ⟨R,0,none⟩),vn,vf,.int .i64 c,.int .i64 sz] 106 (0,0))∧w.ownsRow B 140 2 vn ns.length (seenRow ns)∧w.ownsRow B 148 4 vf fs.length (fnRow fs)
 rd:Rd R w p
 le:B≤R∧R < G
 nok:∀ x ∈ ns,x.1.size≤100
 fok:∀ f ∈ fs,FnOk w f
theorem GenAt.next {R G B:Nat} {w w':World} {ns:List (ByteArray × Int)} {fs:List Fn} {c:Nat} {sz:Int} {p:Nat} (h:GenAt R G B w ns fs c sz p) (hb:Below w.heap.size w w'):GenAt R G B w' ns fs c sz p:=by
 obtain ⟨⟨vn,vf,h1,h2,h3⟩,h4,h5,h6,h7⟩:=h
 exact ⟨⟨vn,vf,(hb.block G (Array.getElem?_eq_some_iff.1 h1).1).trans h1,own_below h2 hb,own_below h3 hb⟩,h4.next hb,h5,h6,fun f hf=>(h7 f hf).gk (Gk.of_below (B:=0) hb (Nat.zero_le _))⟩
theorem GenAt.bw {R G B:Nat} {w:World} {ns:List (ByteArray × Int)} {fs:List Fn} {c:Nat} {sz:Int} {p:Nat} (h:GenAt R G B w ns fs c sz p):B≤w.heap.size:=by have:=h.rd.lt;have:=h.le.1;omega
theorem own_setG {w:World} {B G i e size n:Nat} {v q:Value} {xs:List Value} (h:w.ownsRow B e size v n xs) {cs:Array Value} {t:TypeId} (hc:w.heap[G]?=some (.cells cs t (0,0))) (ht:t≠e):(w.setCell ⟨G,i,none⟩ q).ownsRow B e size v n xs:=by
 have hne:v.ownBlock≠some G:=by
  rcases h.2 with ⟨rfl,_⟩ | ⟨g,cap,cur,rfl,_,hg,_⟩
  ·simp [Value.ownBlock]
  ·intro e
   simp only [Value.ownBlock,Option.some.injEq] at e
   subst e
   rw [hg] at hc
   cases hc
   exact ht rfl
 exact h.kept (row:=some G) ⟨rfl,rfl,rfl,by simp [World.setCell],fun k _ hk=>Below.heap_setCell _ _ _ _ (fun e=>hk (by simp [e]))⟩ (Or.inr hne)
theorem GenAt.count {R G B:Nat} {w:World} {ns:List (ByteArray × Int)} {fs:List Fn} {c:Nat} {sz:Int} {p:Nat} (h:GenAt R G B w ns fs c sz p) (c':Nat):GenAt R G B (w.setCell ⟨G,3,none⟩ (.int .i64 c')) ns fs c' sz p∧Gk B w (w.setCell ⟨G,3,none⟩ (.int .i64 c')):=by
 obtain ⟨⟨vn,vf,h1,h2,h3⟩,h4,h5,h6,h7⟩:=h
 have hg:Gk B w (w.setCell ⟨G,3,none⟩ (.int .i64 c')):=(Gk.refl B w).set h1 (by unfold GenT;decide) (by omega) (by decide) _
 refine ⟨⟨⟨vn,vf,?_,own_setG h2 h1 (by decide),own_setG h3 h1 (by decide)⟩,?_,h5,h6,fun f hf=>(h7 f hf).gk hg⟩,hg⟩
 ·have:=set_at (i:=3) (.int .i64 (c':Int)) h1
  simpa using this
 ·exact h4.sv (S:=fun k=>k=G) (Sv.setCell (S:=fun k=>k=G) (Sv.refl _ w) (p:=⟨G,3,none⟩) (.inl rfl) _) (fun k e=>by subst e;exact h5.2)
theorem GenAt.sized {R G B:Nat} {w:World} {ns:List (ByteArray × Int)} {fs:List Fn} {c:Nat} {sz:Int} {p:Nat} (h:GenAt R G B w ns fs c sz p) (s':Int):GenAt R G B (w.setCell ⟨G,4,none⟩ (.int .i64 s')) ns fs c s' p∧Gk B w (w.setCell ⟨G,4,none⟩ (.int .i64 s')):=by
 obtain ⟨⟨vn,vf,h1,h2,h3⟩,h4,h5,h6,h7⟩:=h
 have hg:Gk B w (w.setCell ⟨G,4,none⟩ (.int .i64 s')):=(Gk.refl B w).set h1 (by unfold GenT;decide) (by omega) (by decide) _
 refine ⟨⟨⟨vn,vf,?_,own_setG h2 h1 (by decide),own_setG h3 h1 (by decide)⟩,?_,h5,h6,fun f hf=>(h7 f hf).gk hg⟩,hg⟩
 ·have:=set_at (i:=4) (.int .i64 s') h1
  simpa using this
 ·exact h4.sv (S:=fun k=>k=G) (Sv.setCell (S:=fun k=>k=G) (Sv.refl _ w) (p:=⟨G,4,none⟩) (.inl rfl) _) (fun k e=>by subst e;exact h5.2)
theorem GenAt.picked {R G B:Nat} {w w':World} {ns:List (ByteArray × Int)} {fs:List Fn} {c:Nat} {sz:Int} {p p':Nat} (h:GenAt R G B w ns fs c sz p) (hr:Rd R w' p') (hs:Sv (fun k=>k=R) w w'):GenAt R G B w' ns fs c sz p'∧Gk B w w':=by
 obtain ⟨⟨vn,vf,h1,h2,h3⟩,h4,h5,h6,h7⟩:=h
 obtain ⟨ad,n,cap,hR,_⟩:=h4
 have hlt:=(Array.getElem?_eq_some_iff.1 hR).1
 have hg:Gk B w w':=Gk.of_sv hs h5.1 hlt hR (by unfold GenT;decide) (by decide)
 have own:∀ {e size n:Nat} {v:Value} {xs:List Value},w.ownsRow B e size v n xs→65≠e→w'.ownsRow B e size v n xs:=fun {e size n v xs} h ht=>by
  obtain ⟨a1,a2 | ⟨g,cap,cur,b1,b2,b3,b4⟩⟩:=h
  ·exact ⟨a1,.inl a2⟩
  ·exact ⟨a1,.inr ⟨g,cap,cur,b1,b2,(hs.block g (Array.getElem?_eq_some_iff.1 b3).1 (fun e=>by subst e;rw [hR] at b3;cases b3;exact ht rfl)).trans b3,b4⟩⟩
 exact ⟨⟨⟨vn,vf,(hs.block G (Array.getElem?_eq_some_iff.1 h1).1 (by show ¬ G=R;omega)).trans h1,own h2 (by decide),own h3 (by decide)⟩,hr,h5,h6,fun f hf=>(h7 f hf).gk hg⟩,hg⟩
set_option maxHeartbeats 1000000 in
theorem fresh_any (R G B:Nat) (w:World) (ns:List (ByteArray × Int)) (fs:List Fn) (c:Nat) (sz:Int) (p:Nat) (h:GenAt R G B w ns fs c sz p) (hc:c≤1000000) :
  Calls Tryz.prog 107 #[.pointer (some ⟨G,0,none⟩)] w fun e w'=>(∃ s:ByteArray,e=.returned (.string s)∧s.size≤100)∧GenAt R G B w' ns fs (c+1) sz p∧Gk B w w':=by
 obtain ⟨hG2,hk2⟩:=h.count (c+1)
 have HG2:=hid hG2
 have HK2:=hid hk2
 obtain ⟨vn,vf,h1,h2,h3⟩:=h.ex
 have c3:=cell_hp h1 3
 have f3:=frozen_hp h1 3
 simp at c3
 have hB:=h.bw
 have hw:IntKind.i64.wrap ((c:Int)+1)=(c:Int)+1:=by rw [IntKind.wrap_i64];omega
 have c3':(w.setCell ⟨G,3,none⟩ (.int .i64 ((c:Int)+1))).cell? ⟨G,3,none⟩=some (.int .i64 ((c:Int)+1)):=by
  have h:=cell_hp (set_at (i:=3) (.int .i64 ((c:Int)+1)) h1) 3
  simpa using h
 have HD:Hid (∀ W,Calls Tryz.prog 57 #[.int .i64 ((c:Int)+1)] W fun e w'=>∃ s:ByteArray,e=.returned (.string s)∧s.size≤18∧Below W.heap.size W w'):=fun W=>l1Dec_any 17 (c+1) W (by omega) (by omega)
 clear hG2 hk2 h1 h2 h3 h
 go_enter Tryz.func107,Tryz.ntmps107
 go_wp2_with fail
 refine (HD.out _).mono ?_
 rintro e w1 ⟨s,rfl,hs,hb⟩
 have HS:=hid hs
 have HB:=hid hb
 clear hb
 go_wp2
 go_ret
 have hz:(w.setCell ⟨G,3,none⟩ (.int .i64 ((c:Int)+1))).heap.size=w.heap.size:=by simp [World.setCell]
 exact ⟨⟨_,rfl,by rw [ByteArray.size_append];have:=HS.out;show 1+s.size≤100;omega⟩,HG2.out.next HB.out,HK2.out.trans (Gk.of_below HB.out (by rw [show ((c+1:Nat):Int)=(c:Int)+1 by omega,hz];exact hB))⟩
theorem seenRow_get (ns:List (ByteArray × Int)) (i:Nat) (h:i < ns.length):(seenRow ns)[i * 2]?=some (.string ns[i].1)∧(seenRow ns)[i * 2+1]?=some (.int .i64 ns[i].2):=by
 induction ns generalizing i with
 | nil=>simp at h
 | cons x ns ih =>
  cases i with
  | zero=>exact ⟨rfl,rfl⟩
  | succ i =>
   have:=ih i (by simpa using h)
   rw [show (i+1) * 2=i * 2+2 by omega]
   exact ⟨this.1,this.2⟩
def NdAns (K:Nat) (e:Ending) (w:World):Prop:=(∃ v l,e=.returned (.tuple #[v,.bool true])∧NdIn w v l∧NdOk K l)∨∃ g c,e=.returned (.tuple #[.slice (some ⟨g,0,none⟩) 0 c,.bool false])
set_option maxHeartbeats 2000000 in
theorem named_any (R G B:Nat) (kind:Int) (w:World) (ns:List (ByteArray × Int)) (fs:List Fn) (c:Nat) (sz:Int) (p:Nat) (h:GenAt R G B w ns fs c sz p) (hp:p≤1000000) (hn:ns.length≤1000000) :
  Calls Tryz.prog 118 #[.pointer (some ⟨G,0,none⟩),.int .i64 kind] w fun e w'=>NdAns 1 e w'∧GenAt R G B w' ns fs c sz (p+1)∧Gk B w w':=by
 have HG:=hid h
 obtain ⟨vn,vf,h1,h2,h3⟩:=h.ex
 have c0:=cell_hp h1 0
 have c1:=cell_hp h1 1
 simp at c0 c1
 obtain ⟨an,cn,rfl⟩:=own_sl h2
 have HO:=hid h2
 clear h1 h2 h3 h
 go_enter Tryz.func118,Tryz.ntmps118
 go_wp2_with fail
 refine (pick_any R p _ _ (by omega) (by omega) HG.out.rd).mono ?_
 rintro e w1 ⟨⟨x,rfl,hx⟩,hr1,hs1⟩
 obtain ⟨hg1,hk1⟩:=HG.out.picked hr1 hs1
 have HG1:=hid hg1
 have HK1:=hid hk1
 have HXB:=hid hx
 clear hr1 hs1 hg1 hk1 hx
 go_wp2
 go_loopw [8] (fun a wr=>∃ i:Nat,i≤ns.length∧a=.int .i64 i∧Below w1.heap.size w1 wr) (fun a _=>ns.length - (intOf a).toNat)
 case atStart=>exact ⟨0,Nat.zero_le _,rfl,Below.refl _ _⟩
 case round =>
  obtain ⟨i,hi,rfl,hb⟩:=hrel
  have HB:=hid hb
  have HGR:=hid (HG1.out.next hb)
  clear hb
  by_cases hlt:i < ns.length
  ·obtain ⟨un,uf,g1,g2,g3⟩:=HGR.out.ex
   have hlen:ns.length≠0:=by omega
   have hxn:x < ns.length:=by have:=HXB.out;omega
   obtain ⟨gn,cap,cur,rfl,hcur,hgn,htk⟩:∃ gn cap cur,un=.slice (some ⟨gn,0,none⟩) ns.length cap∧ns.length≤cap∧wr.heap[gn]?=some (.cells cur 140 (0,0))∧cur.toList.take (ns.length * 2)=seenRow ns:=by
    rcases g2.2 with ⟨_,hz⟩ | ⟨gn,cap,cur,hv,_,hg,hc,_,_,ht⟩
    ·omega
    ·exact ⟨gn,cap,cur,hv,hc,hg,ht⟩
   obtain ⟨q,hq⟩:∃ q,(x+i) % ns.length=q:=⟨_,rfl⟩
   have hqn:q < ns.length:=by rw [← hq];exact Nat.mod_lt _ (by omega)
   have hrem:((x:Int)+i).tmod ns.length=(q:Int):=by
    rw [Int.tmod_eq_emod_of_nonneg (by omega),← hq,Int.natCast_emod,Int.natCast_add]
   have hseen:=seenRow_get ns q hqn
   have hcell:∀ j u,(seenRow ns)[j]?=some u→wr.cell? ⟨gn,j,none⟩=some u:=fun j u hu=>by
    rw [← htk] at hu
    have hj:=(List.getElem?_eq_some_iff.1 hu).1
    rw [List.length_take] at hj
    rw [List.getElem?_take_of_lt (by omega)] at hu
    unfold World.cell?
    rw [hgn]
    simpa using hu
   have k0:=hcell _ _ hseen.1
   have k1:=hcell _ _ hseen.2
   have d1:=cell_hp g1 1
   simp at d1
   have hw:IntKind.i64.wrap ((x:Int)+i)=(x:Int)+i:=by rw [IntKind.wrap_i64];omega
   have hGl:=(Array.getElem?_eq_some_iff.1 g1).1
   have hgl:=(Array.getElem?_eq_some_iff.1 hgn).1
   have HAL:=(Below.refl wr.heap.size wr).alloc (Nat.le_refl _) (.cells #[.string ⟨#[]⟩,.int .i64 0] 140)
   have a1:(wr.alloc (.cells #[.string ⟨#[]⟩,.int .i64 0] 140)).drew.cell? ⟨G,1,none⟩=_:=(HAL.cell (p:=⟨G,1,none⟩) hGl).trans d1
   have a2:(wr.alloc (.cells #[.string ⟨#[]⟩,.int .i64 0] 140)).drew.cell? ⟨gn,q * 2,none⟩=_:=(HAL.cell (p:=⟨gn,q * 2,none⟩) hgl).trans k0
   have a3:(wr.alloc (.cells #[.string ⟨#[]⟩,.int .i64 0] 140)).drew.cell? ⟨gn,q * 2+1,none⟩=_:=(HAL.cell (p:=⟨gn,q * 2+1,none⟩) hgl).trans k1
   have HALH:=hid HAL
   obtain ⟨nm,hnm⟩:∃ nm,ns[q].1=nm:=⟨_,rfl⟩
   obtain ⟨kd,hkd⟩:∃ kd,ns[q].2=kd:=⟨_,rfl⟩
   have HNM:Hid (nm.size≤100):=by show _≤_;rw [← hnm];exact HG.out.nok _ (List.getElem_mem hqn)
   rw [hnm] at k0 a2
   rw [hkd] at k1 a3
   clear hcell hseen htk hgn g1 g2 g3 hq HAL hnm hkd
   go_wp2_with fail
   go_region
   have HBX:Hid (Below w1.heap.size w1 (wr.alloc (.cells #[.string nm,.int .i64 kd] 140)).drew):=(HB.out.alloc HB.out.size _).drew
   by_cases hkk:kd=kind
   ·have hkb:(kd == kind)=true:=by simpa using hkk
    clear hkk
    go_wp2_with fail
    refine (nameNode_any nm _).mono ?_
    rintro e w2 ⟨v,rfl,h1,h2⟩
    have H1:=hid h1
    have H2:=hid (HBX.out.trans (h2.mono HBX.out.size))
    obtain ⟨g3,c3,rfl⟩:∃ g c,v=.slice (some ⟨g,0,none⟩) 1 c:=by obtain ⟨_,g,c,_,e,_⟩:=h1;exact ⟨g,_,e⟩
    clear h1 h2
    go_wp2
    refine bodyPost_ret (v:=.tuple #[.slice (some ⟨g3,0,none⟩) 1 c3,.bool true]) (by simp [results,Tryz.results118,go_sem]) rfl ⟨.inl ⟨_,_,rfl,H1.out,by simp,fun y hy=>?_⟩,HG1.out.next H2.out,HK1.out.trans (Gk.of_below H2.out HG1.out.bw)⟩
    rw [List.mem_singleton] at hy
    subst hy
    have:=HNM.out
    show nm.size≤1000
    omega
   ·have hkb:(kd == kind)=false:=by simpa using hkk
    go_wp2
    go_roundw
    case rel=>exact ⟨i+1,by omega,by go_num,HBX.out⟩
    case measure=>simp [intOf];omega
  ·obtain rfl:i=ns.length:=by omega
   go_wp2
   refine bodyPost_ret (v:=.tuple #[.slice (some ⟨wr.heap.size,0,none⟩) 0 0,.bool false]) (by simp [results,Tryz.results118,go_sem]) rfl ⟨.inr ⟨_,_,rfl⟩,HG1.out.next (HB.out.alloc HB.out.size _),HK1.out.trans (Gk.of_below (HB.out.alloc HB.out.size _) HG1.out.bw)⟩
theorem GenAt.g0 {R G B:Nat} {w:World} {ns:List (ByteArray × Int)} {fs:List Fn} {c:Nat} {sz:Int} {p:Nat} (h:GenAt R G B w ns fs c sz p):w.cell? ⟨G,0,none⟩=some (.pointer (some ⟨R,0,none⟩)):=by
 obtain ⟨vn,vf,h1,_⟩:=h.ex
 have:=cell_hp h1 0
 simpa using this
def LeafEnd (R G B K c':Nat) (w:World) (ns:List (ByteArray × Int)) (fs:List Fn) (c:Nat) (sz:Int) (p:Nat) (e:Ending) (w':World):Prop :=
 (∃ v l,e=.returned v∧NdIn w' v l∧NdOk K l)∧(∃ p',p≤p'∧p'≤p+c'∧GenAt R G B w' ns fs c sz p')∧Gk B w w'
set_option maxHeartbeats 2000000 in
theorem leaf0 (R G B:Nat) (w:World) (ns:List (ByteArray × Int)) (fs:List Fn) (c:Nat) (sz:Int) (p:Nat) (h:GenAt R G B w ns fs c sz p) (hp:p≤1000000) (hn:ns.length≤1000000) :
  Calls Tryz.prog 106 #[.pointer (some ⟨G,0,none⟩),.int .i64 0] w fun e w'=>LeafEnd R G B 3 20 w ns fs c sz p e w':=by
 have HG:=hid h
 clear h
 go_enter Tryz.func106,Tryz.ntmps106
 go_wp2_with fail
 refine (named_any R G B 0 w ns fs c sz p HG.out hp hn).mono ?_
 rintro e w1 ⟨ha,hg1,hk1⟩
 have HG1:=hid hg1
 have HK1:=hid hk1
 have k1:=hg1.g0
 clear hg1 hk1
 rcases ha with ⟨v,l,rfl,hnd,hok⟩ | ⟨g0,cc0,rfl⟩
 ·have HND:=hid hnd
  have HOK:=hid hok
  obtain ⟨g2,n2,c2,rfl⟩:=hnd.sl
  clear hnd hok
  go_wp2_with fail
  refine (pick_any R (p+1) 3 _ (by omega) (by omega) HG1.out.rd).mono ?_
  rintro e w2 ⟨⟨x,rfl,hx⟩,hr2,hs2⟩
  obtain ⟨hg2,hk2⟩:=HG1.out.picked hr2 hs2
  have HG2:=hid hg2
  have HK2:=hid (HK1.out.trans hk2)
  have HN2:=hid (HND.out.gk hk2)
  have k2:=hg2.g0
  clear hg2 hk2 hr2 hs2
  by_cases hx0:0 < x
  ·have hx1:(0:Int) < x:=by omega
   clear hx hx0
   go_wp2
   go_ret
   exact ⟨⟨_,l,rfl,HN2.out,HOK.out.mono (by omega)⟩,⟨p+1+1,by omega,by omega,HG2.out⟩,HK2.out⟩
  ·obtain rfl:x=0:=by omega
   clear hx hx0
   have HGA:=hid (HG2.out.next ((Below.refl w2.heap.size w2).alloc (Nat.le_refl _) (.cells #[.int .i64 0,.int .i64 1,.int .i64 2,.int .i64 3,.int .i64 7,.int .i64 200,.int .i64 9223372036854775807] 2)))
   have kA:=HGA.out.g0
   go_wp2_with fail
   refine (pick_any R (p+1+1) 7 _ (by omega) (by omega) HGA.out.rd).mono ?_
   rintro e w5 ⟨⟨x5,rfl,hx5⟩,hr5,hs5⟩
   obtain ⟨hg5,hk5⟩:=HGA.out.picked hr5 hs5
   have HG5:=hid hg5
   have HK5:=hid (HK2.out.trans ((Gk.of_below ((Below.refl w2.heap.size w2).alloc (Nat.le_refl _) _) HG2.out.bw).trans hk5))
   have hx7:x5 < 7:=by omega
   have hRl:=HG2.out.rd.lt
   obtain ⟨y,hy⟩:∃ y:Int,w5.cell? ⟨w2.heap.size,x5,none⟩=some (.int .i64 y):=by
    have e1:=hs5.cell (p:=⟨w2.heap.size,x5,none⟩) (by simp) (by show ¬ w2.heap.size=R;omega)
    rw [e1,cell_new_row]
    have h7:x5=0∨x5=1∨x5=2∨x5=3∨x5=4∨x5=5∨x5=6:=by omega
    rcases h7 with rfl | rfl | rfl | rfl | rfl | rfl | rfl <;> exact ⟨_,rfl⟩
   have hx7i:(x5:Int) < 7:=by omega
   clear hg5 hk5 hr5 hs5 hx5
   go_wp2_with fail
   refine (intNode_any y _).mono ?_
   rintro e w6 ⟨v6,rfl,h1,h2⟩
   have H1:=hid h1
   have H2:=hid h2
   obtain ⟨g6,n6,c6,rfl⟩:=h1.sl
   clear h1 h2
   go_wp2
   go_ret
   exact ⟨⟨_,_,rfl,H1.out,(NdOk.one (by show (⟨#[]⟩:ByteArray).size≤1000;decide)).mono (by omega)⟩,⟨p+1+1+1,by omega,by omega,HG5.out.next H2.out⟩,HK5.out.trans (Gk.of_below H2.out HG5.out.bw)⟩
 ·have HGA:=hid (HG1.out.next ((Below.refl w1.heap.size w1).alloc (Nat.le_refl _) (.cells #[.int .i64 0,.int .i64 1,.int .i64 2,.int .i64 3,.int .i64 7,.int .i64 200,.int .i64 9223372036854775807] 2)))
  have kA:=HGA.out.g0
  go_wp2_with fail
  refine (pick_any R (p+1) 7 _ (by omega) (by omega) HGA.out.rd).mono ?_
  rintro e w5 ⟨⟨x5,rfl,hx5⟩,hr5,hs5⟩
  obtain ⟨hg5,hk5⟩:=HGA.out.picked hr5 hs5
  have HG5:=hid hg5
  have HK5:=hid (HK1.out.trans ((Gk.of_below ((Below.refl w1.heap.size w1).alloc (Nat.le_refl _) _) HG1.out.bw).trans hk5))
  have hx7:x5 < 7:=by omega
  have hRl:=HG1.out.rd.lt
  obtain ⟨y,hy⟩:∃ y:Int,w5.cell? ⟨w1.heap.size,x5,none⟩=some (.int .i64 y):=by
   have e1:=hs5.cell (p:=⟨w1.heap.size,x5,none⟩) (by simp) (by show ¬ w1.heap.size=R;omega)
   rw [e1,cell_new_row]
   have h7:x5=0∨x5=1∨x5=2∨x5=3∨x5=4∨x5=5∨x5=6:=by omega
   rcases h7 with rfl | rfl | rfl | rfl | rfl | rfl | rfl <;> exact ⟨_,rfl⟩
  have hx7i:(x5:Int) < 7:=by omega
  clear hg5 hk5 hr5 hs5 hx5
  go_wp2_with fail
  refine (intNode_any y _).mono ?_
  rintro e w6 ⟨v6,rfl,h1,h2⟩
  have H1:=hid h1
  have H2:=hid h2
  obtain ⟨g6,n6,c6,rfl⟩:=h1.sl
  clear h1 h2
  go_wp2
  go_ret
  exact ⟨⟨_,_,rfl,H1.out,(NdOk.one (by show (⟨#[]⟩:ByteArray).size≤1000;decide)).mono (by omega)⟩,⟨p+1+1,by omega,by omega,HG5.out.next H2.out⟩,HK5.out.trans (Gk.of_below H2.out HG5.out.bw)⟩
set_option maxHeartbeats 2000000 in
theorem leaf1 (R G B:Nat) (w:World) (ns:List (ByteArray × Int)) (fs:List Fn) (c:Nat) (sz:Int) (p:Nat) (h:GenAt R G B w ns fs c sz p) (hp:p≤1000000) (hn:ns.length≤1000000) :
  Calls Tryz.prog 106 #[.pointer (some ⟨G,0,none⟩),.int .i64 1] w fun e w'=>LeafEnd R G B 3 20 w ns fs c sz p e w':=by
 have HG:=hid h
 clear h
 go_enter Tryz.func106,Tryz.ntmps106
 go_wp2_with fail
 refine (named_any R G B 1 w ns fs c sz p HG.out hp hn).mono ?_
 rintro e w1 ⟨ha,hg1,hk1⟩
 have HG1:=hid hg1
 have HK1:=hid hk1
 have k1:=hg1.g0
 clear hg1 hk1
 rcases ha with ⟨v,l,rfl,hnd,hok⟩ | ⟨g0,cc0,rfl⟩
 ·have HND:=hid hnd
  have HOK:=hid hok
  obtain ⟨g2,n2,c2,rfl⟩:=hnd.sl
  clear hnd hok
  go_wp2_with fail
  refine (pick_any R (p+1) 3 _ (by omega) (by omega) HG1.out.rd).mono ?_
  rintro e w2 ⟨⟨x,rfl,hx⟩,hr2,hs2⟩
  obtain ⟨hg2,hk2⟩:=HG1.out.picked hr2 hs2
  have HG2:=hid hg2
  have HK2:=hid (HK1.out.trans hk2)
  have HN2:=hid (HND.out.gk hk2)
  have k2:=hg2.g0
  clear hg2 hk2 hr2 hs2
  by_cases hx0:0 < x
  ·have hx1:(0:Int) < x:=by omega
   clear hx hx0
   go_wp2
   go_ret
   exact ⟨⟨_,l,rfl,HN2.out,HOK.out.mono (by omega)⟩,⟨p+1+1,by omega,by omega,HG2.out⟩,HK2.out⟩
  ·obtain rfl:x=0:=by omega
   clear hx hx0
   go_wp2_with fail
   refine (l1DrawText_any R (p+1+1) _ (by omega) HG2.out.rd).mono ?_
   rintro e w5 ⟨⟨tx,rfl,htx⟩,p5,hp5,hp6,hr5,hs5⟩
   obtain ⟨hg5,hk5⟩:=HG2.out.picked hr5 hs5
   have HG5:=hid hg5
   have HK5:=hid (HK2.out.trans hk5)
   have HTX:=hid htx
   clear hg5 hk5 hr5 hs5 htx
   go_wp2_with fail
   refine (textNode_any tx _).mono ?_
   rintro e w6 ⟨v6,rfl,h1,h2⟩
   have H1:=hid h1
   have H2:=hid h2
   obtain ⟨g6,n6,c6,rfl⟩:=h1.sl
   clear h1 h2
   go_wp2
   go_ret
   exact ⟨⟨_,_,rfl,H1.out,(NdOk.one (by have:=HTX.out;show tx.size≤1000;omega)).mono (by omega)⟩,⟨p5,by omega,by omega,HG5.out.next H2.out⟩,HK5.out.trans (Gk.of_below H2.out HG5.out.bw)⟩
 ·go_wp2_with fail
  refine (l1DrawText_any R (p+1) _ (by omega) HG1.out.rd).mono ?_
  rintro e w5 ⟨⟨tx,rfl,htx⟩,p5,hp5,hp6,hr5,hs5⟩
  obtain ⟨hg5,hk5⟩:=HG1.out.picked hr5 hs5
  have HG5:=hid hg5
  have HK5:=hid (HK1.out.trans hk5)
  have HTX:=hid htx
  clear hg5 hk5 hr5 hs5 htx
  go_wp2_with fail
  refine (textNode_any tx _).mono ?_
  rintro e w6 ⟨v6,rfl,h1,h2⟩
  have H1:=hid h1
  have H2:=hid h2
  obtain ⟨g6,n6,c6,rfl⟩:=h1.sl
  clear h1 h2
  go_wp2
  go_ret
  exact ⟨⟨_,_,rfl,H1.out,(NdOk.one (by have:=HTX.out;show tx.size≤1000;omega)).mono (by omega)⟩,⟨p5,by omega,by omega,HG5.out.next H2.out⟩,HK5.out.trans (Gk.of_below H2.out HG5.out.bw)⟩
set_option maxHeartbeats 2000000 in
theorem leaf2 (R G B:Nat) (w:World) (ns:List (ByteArray × Int)) (fs:List Fn) (c:Nat) (sz:Int) (p:Nat) (h:GenAt R G B w ns fs c sz p) (hp:p≤1000000) (hn:ns.length≤1000000) :
  Calls Tryz.prog 106 #[.pointer (some ⟨G,0,none⟩),.int .i64 2] w fun e w'=>LeafEnd R G B 3 20 w ns fs c sz p e w':=by
 have HG:=hid h
 clear h
 go_enter Tryz.func106,Tryz.ntmps106
 go_wp2_with fail
 refine (named_any R G B 2 w ns fs c sz p HG.out hp hn).mono ?_
 rintro e w1 ⟨ha,hg1,hk1⟩
 have HG1:=hid hg1
 have HK1:=hid hk1
 have k1:=hg1.g0
 clear hg1 hk1
 rcases ha with ⟨v,l,rfl,hnd,hok⟩ | ⟨g0,cc0,rfl⟩
 ·have HND:=hid hnd
  have HOK:=hid hok
  obtain ⟨g2,n2,c2,rfl⟩:=hnd.sl
  clear hnd hok
  go_wp2_with fail
  refine (pick_any R (p+1) 3 _ (by omega) (by omega) HG1.out.rd).mono ?_
  rintro e w2 ⟨⟨x,rfl,hx⟩,hr2,hs2⟩
  obtain ⟨hg2,hk2⟩:=HG1.out.picked hr2 hs2
  have HG2:=hid hg2
  have HK2:=hid (HK1.out.trans hk2)
  have HN2:=hid (HND.out.gk hk2)
  have k2:=hg2.g0
  clear hg2 hk2 hr2 hs2
  by_cases hx0:0 < x
  ·have hx1:(0:Int) < x:=by omega
   clear hx hx0
   go_wp2
   go_ret
   exact ⟨⟨_,l,rfl,HN2.out,HOK.out.mono (by omega)⟩,⟨p+1+1,by omega,by omega,HG2.out⟩,HK2.out⟩
  ·obtain rfl:x=0:=by omega
   clear hx hx0
   go_wp2_with fail
   refine (pick_any R (p+1+1) 2 _ (by omega) (by omega) HG2.out.rd).mono ?_
   rintro e w5 ⟨⟨x5,rfl,hx5⟩,hr5,hs5⟩
   obtain ⟨hg5,hk5⟩:=HG2.out.picked hr5 hs5
   have HG5:=hid hg5
   have HK5:=hid (HK2.out.trans hk5)
   have H1:=hid (nd_one w5 ⟨2,0,(x5:Int),⟨#[]⟩,0⟩)
   have H2:Hid (∀ X,Below w5.heap.size w5 (w5.alloc X)):=fun X=>(Below.refl _ _).alloc (Nat.le_refl _) X
   clear hg5 hk5 hr5 hs5 hx5
   go_wp2
   go_ret
   exact ⟨⟨_,_,rfl,H1.out,(NdOk.one (by show (⟨#[]⟩:ByteArray).size≤1000;decide)).mono (by omega)⟩,⟨p+1+1+1,by omega,by omega,HG5.out.next (H2.out _)⟩,HK5.out.trans (Gk.of_below (H2.out _) HG5.out.bw)⟩
 ·go_wp2_with fail
  refine (pick_any R (p+1) 2 _ (by omega) (by omega) HG1.out.rd).mono ?_
  rintro e w5 ⟨⟨x5,rfl,hx5⟩,hr5,hs5⟩
  obtain ⟨hg5,hk5⟩:=HG1.out.picked hr5 hs5
  have HG5:=hid hg5
  have HK5:=hid (HK1.out.trans hk5)
  have H1:=hid (nd_one w5 ⟨2,0,(x5:Int),⟨#[]⟩,0⟩)
  have H2:Hid (∀ X,Below w5.heap.size w5 (w5.alloc X)):=fun X=>(Below.refl _ _).alloc (Nat.le_refl _) X
  clear hg5 hk5 hr5 hs5 hx5
  go_wp2
  go_ret
  exact ⟨⟨_,_,rfl,H1.out,(NdOk.one (by show (⟨#[]⟩:ByteArray).size≤1000;decide)).mono (by omega)⟩,⟨p+1+1,by omega,by omega,HG5.out.next (H2.out _)⟩,HK5.out.trans (Gk.of_below (H2.out _) HG5.out.bw)⟩
set_option maxHeartbeats 2000000 in
theorem leaf3 (R G B:Nat) (w:World) (ns:List (ByteArray × Int)) (fs:List Fn) (c:Nat) (sz:Int) (p:Nat) (h:GenAt R G B w ns fs c sz p) (hp:p≤1000000) (hn:ns.length≤1000000) :
  Calls Tryz.prog 106 #[.pointer (some ⟨G,0,none⟩),.int .i64 3] w fun e w'=>LeafEnd R G B 3 20 w ns fs c sz p e w':=by
 have HG:=hid h
 clear h
 go_enter Tryz.func106,Tryz.ntmps106
 go_wp2_with fail
 refine (named_any R G B 3 w ns fs c sz p HG.out hp hn).mono ?_
 rintro e w1 ⟨ha,hg1,hk1⟩
 have HG1:=hid hg1
 have HK1:=hid hk1
 have k1:=hg1.g0
 clear hg1 hk1
 rcases ha with ⟨v,l,rfl,hnd,hok⟩ | ⟨g0,cc0,rfl⟩
 ·have HND:=hid hnd
  have HOK:=hid hok
  obtain ⟨g2,n2,c2,rfl⟩:=hnd.sl
  clear hnd hok
  go_wp2_with fail
  refine (pick_any R (p+1) 3 _ (by omega) (by omega) HG1.out.rd).mono ?_
  rintro e w2 ⟨⟨x,rfl,hx⟩,hr2,hs2⟩
  obtain ⟨hg2,hk2⟩:=HG1.out.picked hr2 hs2
  have HG2:=hid hg2
  have HK2:=hid (HK1.out.trans hk2)
  have HN2:=hid (HND.out.gk hk2)
  have k2:=hg2.g0
  clear hg2 hk2 hr2 hs2
  by_cases hx0:0 < x
  ·have hx1:(0:Int) < x:=by omega
   clear hx hx0
   go_wp2
   go_ret
   exact ⟨⟨_,l,rfl,HN2.out,HOK.out.mono (by omega)⟩,⟨p+1+1,by omega,by omega,HG2.out⟩,HK2.out⟩
  ·obtain rfl:x=0:=by omega
   clear hx hx0
   go_wp2_with fail
   refine (textNode_any ⟨#[120]⟩ _).mono ?_
   rintro e w5 ⟨v5,rfl,h1,h2⟩
   have H1:=hid h1
   have H2:=hid h2
   obtain ⟨g5,n5,c5,rfl⟩:=h1.sl
   clear h1 h2
   go_wp2_with fail
   refine (textNode_any ⟨#[97,46,99]⟩ _).mono ?_
   rintro e w6 ⟨v6,rfl,h1,h2⟩
   have H3:=hid h1
   have H4:=hid h2
   have H1b:=hid (H1.out.next h2)
   obtain ⟨g6,n6,c6,rfl⟩:=h1.sl
   clear h1 h2
   go_wp2_with fail
   refine (over2 ⟨8,0,0,⟨#[]⟩,0⟩ _ _ _ _ w6 H1b.out H3.out (by simp)).mono ?_
   rintro e w7 ⟨v7,rfl,h1,h2⟩
   have H5:=hid h1
   have H6:=hid ((H2.out.trans (H4.out.mono H2.out.size)).trans (h2.mono (by have:=H2.out.size;have:=H4.out.size;omega)))
   obtain ⟨g7,n7,c7,rfl⟩:=h1.sl
   clear h1 h2
   go_wp2
   go_ret
   exact ⟨⟨_,_,rfl,H5.out,(((NdOk.one (by decide)).app (NdOk.one (by decide))).over (by decide)).mono (by omega)⟩,⟨p+1+1,by omega,by omega,HG2.out.next H6.out⟩,HK2.out.trans (Gk.of_below H6.out HG2.out.bw)⟩
 ·go_wp2_with fail
  refine (textNode_any ⟨#[120]⟩ _).mono ?_
  rintro e w5 ⟨v5,rfl,h1,h2⟩
  have H1:=hid h1
  have H2:=hid h2
  obtain ⟨g5,n5,c5,rfl⟩:=h1.sl
  clear h1 h2
  go_wp2_with fail
  refine (textNode_any ⟨#[97,46,99]⟩ _).mono ?_
  rintro e w6 ⟨v6,rfl,h1,h2⟩
  have H3:=hid h1
  have H4:=hid h2
  have H1b:=hid (H1.out.next h2)
  obtain ⟨g6,n6,c6,rfl⟩:=h1.sl
  clear h1 h2
  go_wp2_with fail
  refine (over2 ⟨8,0,0,⟨#[]⟩,0⟩ _ _ _ _ w6 H1b.out H3.out (by simp)).mono ?_
  rintro e w7 ⟨v7,rfl,h1,h2⟩
  have H5:=hid h1
  have H6:=hid ((H2.out.trans (H4.out.mono H2.out.size)).trans (h2.mono (by have:=H2.out.size;have:=H4.out.size;omega)))
  obtain ⟨g7,n7,c7,rfl⟩:=h1.sl
  clear h1 h2
  go_wp2
  go_ret
  exact ⟨⟨_,_,rfl,H5.out,(((NdOk.one (by decide)).app (NdOk.one (by decide))).over (by decide)).mono (by omega)⟩,⟨p+1,by omega,by omega,HG1.out.next H6.out⟩,HK1.out.trans (Gk.of_below H6.out HG1.out.bw)⟩
set_option maxHeartbeats 2000000 in
theorem leaf4 (R G B:Nat) (w:World) (ns:List (ByteArray × Int)) (fs:List Fn) (c:Nat) (sz:Int) (p:Nat) (h:GenAt R G B w ns fs c sz p) (hp:p≤1000000) (hn:ns.length≤1000000) :
  Calls Tryz.prog 106 #[.pointer (some ⟨G,0,none⟩),.int .i64 4] w fun e w'=>LeafEnd R G B 3 20 w ns fs c sz p e w':=by
 have HG:=hid h
 clear h
 go_enter Tryz.func106,Tryz.ntmps106
 go_wp2_with fail
 refine (named_any R G B 4 w ns fs c sz p HG.out hp hn).mono ?_
 rintro e w1 ⟨ha,hg1,hk1⟩
 have HG1:=hid hg1
 have HK1:=hid hk1
 have k1:=hg1.g0
 clear hg1 hk1
 rcases ha with ⟨v,l,rfl,hnd,hok⟩ | ⟨g0,cc0,rfl⟩
 ·have HND:=hid hnd
  have HOK:=hid hok
  obtain ⟨g2,n2,c2,rfl⟩:=hnd.sl
  clear hnd hok
  go_wp2_with fail
  refine (pick_any R (p+1) 3 _ (by omega) (by omega) HG1.out.rd).mono ?_
  rintro e w2 ⟨⟨x,rfl,hx⟩,hr2,hs2⟩
  obtain ⟨hg2,hk2⟩:=HG1.out.picked hr2 hs2
  have HG2:=hid hg2
  have HK2:=hid (HK1.out.trans hk2)
  have HN2:=hid (HND.out.gk hk2)
  have k2:=hg2.g0
  clear hg2 hk2 hr2 hs2
  by_cases hx0:0 < x
  ·have hx1:(0:Int) < x:=by omega
   clear hx hx0
   go_wp2
   go_ret
   exact ⟨⟨_,l,rfl,HN2.out,HOK.out.mono (by omega)⟩,⟨p+1+1,by omega,by omega,HG2.out⟩,HK2.out⟩
  ·obtain rfl:x=0:=by omega
   clear hx hx0
   go_wp2_with fail
   refine (intNode_any 1 _).mono ?_
   rintro e w5 ⟨v5,rfl,h1,h2⟩
   have H1:=hid h1
   have H2:=hid h2
   obtain ⟨g5,n5,c5,rfl⟩:=h1.sl
   clear h1 h2
   go_wp2_with fail
   refine (over1 ⟨17,0,0,⟨#[97]⟩,0⟩ _ _ w5 H1.out (by simp)).mono ?_
   rintro e w6 ⟨v6,rfl,h1,h2⟩
   have H3:=hid h1
   have H4:=hid (H2.out.trans (h2.mono H2.out.size))
   obtain ⟨g6,n6,c6,rfl⟩:=h1.sl
   clear h1 h2
   go_wp2_with fail
   refine (over1 ⟨9,0,0,⟨#[]⟩,0⟩ _ _ w6 H3.out (by simp)).mono ?_
   rintro e w7 ⟨v7,rfl,h1,h2⟩
   have H5:=hid h1
   have H6:=hid (H4.out.trans (h2.mono H4.out.size))
   obtain ⟨g7,n7,c7,rfl⟩:=h1.sl
   clear h1 h2
   go_wp2
   go_ret
   exact ⟨⟨_,_,rfl,H5.out,(((NdOk.one (by decide)).over (by decide)).over (by decide)).mono (by omega)⟩,⟨p+1+1,by omega,by omega,HG2.out.next H6.out⟩,HK2.out.trans (Gk.of_below H6.out HG2.out.bw)⟩
 ·go_wp2_with fail
  refine (intNode_any 1 _).mono ?_
  rintro e w5 ⟨v5,rfl,h1,h2⟩
  have H1:=hid h1
  have H2:=hid h2
  obtain ⟨g5,n5,c5,rfl⟩:=h1.sl
  clear h1 h2
  go_wp2_with fail
  refine (over1 ⟨17,0,0,⟨#[97]⟩,0⟩ _ _ w5 H1.out (by simp)).mono ?_
  rintro e w6 ⟨v6,rfl,h1,h2⟩
  have H3:=hid h1
  have H4:=hid (H2.out.trans (h2.mono H2.out.size))
  obtain ⟨g6,n6,c6,rfl⟩:=h1.sl
  clear h1 h2
  go_wp2_with fail
  refine (over1 ⟨9,0,0,⟨#[]⟩,0⟩ _ _ w6 H3.out (by simp)).mono ?_
  rintro e w7 ⟨v7,rfl,h1,h2⟩
  have H5:=hid h1
  have H6:=hid (H4.out.trans (h2.mono H4.out.size))
  obtain ⟨g7,n7,c7,rfl⟩:=h1.sl
  clear h1 h2
  go_wp2
  go_ret
  exact ⟨⟨_,_,rfl,H5.out,(((NdOk.one (by decide)).over (by decide)).over (by decide)).mono (by omega)⟩,⟨p+1,by omega,by omega,HG1.out.next H6.out⟩,HK1.out.trans (Gk.of_below H6.out HG1.out.bw)⟩
set_option maxHeartbeats 2000000 in
theorem leaf5 (R G B:Nat) (kind:Int) (w:World) (ns:List (ByteArray × Int)) (fs:List Fn) (c:Nat) (sz:Int) (p:Nat) (h:GenAt R G B w ns fs c sz p) (hp:p≤1000000) (hn:ns.length≤1000000) (hk:kind < 0∨4 < kind) :
  Calls Tryz.prog 106 #[.pointer (some ⟨G,0,none⟩),.int .i64 kind] w fun e w'=>LeafEnd R G B 3 20 w ns fs c sz p e w':=by
 have HG:=hid h
 clear h
 have q0:(kind == 0)=false:=by simp;omega
 have q1:(kind == 1)=false:=by simp;omega
 have q2:(kind == 2)=false:=by simp;omega
 have q3:(kind == 3)=false:=by simp;omega
 have q4:(kind == 4)=false:=by simp;omega
 go_enter Tryz.func106,Tryz.ntmps106
 go_wp2_with fail
 refine (named_any R G B kind w ns fs c sz p HG.out hp hn).mono ?_
 rintro e w1 ⟨ha,hg1,hk1⟩
 have HG1:=hid hg1
 have HK1:=hid hk1
 have k1:=hg1.g0
 clear hg1 hk1
 rcases ha with ⟨v,l,rfl,hnd,hok⟩ | ⟨g0,cc0,rfl⟩
 ·have HND:=hid hnd
  have HOK:=hid hok
  obtain ⟨g2,n2,c2,rfl⟩:=hnd.sl
  clear hnd hok
  go_wp2_with fail
  refine (pick_any R (p+1) 3 _ (by omega) (by omega) HG1.out.rd).mono ?_
  rintro e w2 ⟨⟨x,rfl,hx⟩,hr2,hs2⟩
  obtain ⟨hg2,hk2⟩:=HG1.out.picked hr2 hs2
  have HG2:=hid hg2
  have HK2:=hid (HK1.out.trans hk2)
  have HN2:=hid (HND.out.gk hk2)
  have k2:=hg2.g0
  clear hg2 hk2 hr2 hs2
  by_cases hx0:0 < x
  ·have hx1:(0:Int) < x:=by omega
   clear hx hx0
   go_wp2
   go_ret
   exact ⟨⟨_,l,rfl,HN2.out,HOK.out.mono (by omega)⟩,⟨p+1+1,by omega,by omega,HG2.out⟩,HK2.out⟩
  ·obtain rfl:x=0:=by omega
   clear hx hx0
   have H1:=hid (nd_one w2 ⟨1,0,0,⟨#[]⟩,0⟩)
   have H2:Hid (∀ X,Below w2.heap.size w2 (w2.alloc X)):=fun X=>(Below.refl _ _).alloc (Nat.le_refl _) X
   go_wp2
   go_ret
   exact ⟨⟨_,_,rfl,H1.out,(NdOk.one (by decide)).mono (by omega)⟩,⟨p+1+1,by omega,by omega,HG2.out.next (H2.out _)⟩,HK2.out.trans (Gk.of_below (H2.out _) HG2.out.bw)⟩
 ·have H1:=hid (nd_one w1 ⟨1,0,0,⟨#[]⟩,0⟩)
  have H2:Hid (∀ X,Below w1.heap.size w1 (w1.alloc X)):=fun X=>(Below.refl _ _).alloc (Nat.le_refl _) X
  go_wp2
  go_ret
  exact ⟨⟨_,_,rfl,H1.out,(NdOk.one (by decide)).mono (by omega)⟩,⟨p+1,by omega,by omega,HG1.out.next (H2.out _)⟩,HK1.out.trans (Gk.of_below (H2.out _) HG1.out.bw)⟩
end Go.Proofs.YthnohneaanphbaaGreatDoor
