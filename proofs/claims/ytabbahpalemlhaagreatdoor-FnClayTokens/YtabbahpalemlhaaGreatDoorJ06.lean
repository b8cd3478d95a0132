import Derived.Test.YtabbahpalemlhaaGreatDoorJ01
import Derived.Test.YtabbahpalemlhaaGreatDoorJ05
namespace Go.Proofs.YtabbahpalemlhaaGreatDoor
theorem run_take (p:UInt8→Bool) (l:List UInt8) (k:Nat) (h:run p l≤k):run p (l.take k)=run p l:=by
 induction l generalizing k with
 | nil=>simp
 | cons c r ih =>
  rw [run_cons] at h ⊢
  by_cases hc:p c=true
  ·rw [if_pos hc] at h ⊢
   obtain ⟨k,rfl⟩:∃ k',k=k'+1:=⟨k - 1,by omega⟩
   rw [List.take_succ_cons,run_cons,if_pos hc,ih k (by omega)]
  ·rw [if_neg hc]
   cases k with
   | zero=>rfl
   | succ k=>rw [List.take_succ_cons,run_cons,if_neg hc]
theorem tb_take {l:List UInt8} {b:UInt8} {k:Nat} (h:tb l=some (b,k)) (n:Nat) (hn:k≤n):tb (l.take n)=some (b,k):=by
 cases l with
 | nil=>simp [tb] at h
 | cons c r =>
  have hk:=tb_pos h
  obtain ⟨n,rfl⟩:∃ n',n=n'+1:=⟨n - 1,by omega⟩
  rw [List.take_succ_cons]
  simp only [tb] at h ⊢
  split at h
  ·cases h
  ·rename_i h1
   rw [if_neg h1]
   split at h
   ·rename_i h2;rw [if_pos h2];exact h
   ·rename_i h2
    rw [if_neg h2]
    match r,h with
    | a :: d :: q,h =>
     simp only at h
     split at h
     ·cases h
     ·rename_i h3
      simp only [Option.some.injEq,Prod.mk.injEq] at h
      obtain ⟨n,rfl⟩:∃ n',n=n'+2:=⟨n - 2,by omega⟩
      rw [List.take_succ_cons,List.take_succ_cons]
      simp only
      rw [if_neg h3,h.1,h.2]
theorem unqF_take {f:Nat} {l o:List UInt8} {k:Nat} (h:unqF f l=some (o,k)) (n:Nat) (hn:k≤n) (f':Nat) (hf:(l.take n).length < f'):unqF f' (l.take n)=some (o,k):=by
 induction f generalizing l o k f' n with
 | zero=>simp [unqF] at h
 | succ f ih =>
  have hk:=unqF_pos h
  cases l with
  | nil=>simp [unqF] at h
  | cons c r =>
   obtain ⟨n,rfl⟩:∃ n',n=n'+1:=⟨n - 1,by omega⟩
   obtain ⟨f',rfl⟩:∃ g,f'=g+1:=⟨f' - 1,by omega⟩
   have ht:=fun b m (h:tb (c :: r)=some (b,m)) (hm:m≤n+1)=>tb_take h (n+1) hm
   rw [List.take_succ_cons] at hf ht ⊢
   simp only [unqF] at h ⊢
   split at h
   ·rename_i hc;rw [if_pos hc];exact h
   ·rename_i hc
    rw [if_neg hc]
    cases hb:tb (c :: r) with
    | none=>rw [hb] at h;cases h
    | some x =>
     obtain ⟨b,m⟩:=x
     have hp:=tb_pos hb
     rw [hb] at h
     simp only at h
     cases hu:unqF f ((c :: r).drop m) with
     | none=>rw [hu] at h;cases h
     | some z =>
      obtain ⟨o',k'⟩:=z
      rw [hu] at h
      have hk':=unqF_pos hu
      simp only [Option.some.injEq,Prod.mk.injEq] at h
      rw [ht b m hb (by omega)]
      simp only
      have e:(c :: r.take n).drop m=((c :: r).drop m).take (n+1 - m):=by
       rw [← List.take_succ_cons,List.drop_take]
      have hl:(((c :: r).drop m).take (n+1 - m)).length < f':=by
       rw [List.length_take,List.length_drop]
       simp only [List.length_cons,List.length_take] at hf hp ⊢
       omega
      rw [e,ih hu (n+1 - m) (by omega) f' hl]
      simp only [Option.some.injEq,Prod.mk.injEq]
      exact h
theorem gapN_take (b:Bool) (l:List UInt8):gapN b (l.take (gapN b l))=gapN b l:=by
 induction l generalizing b with
 | nil=>cases b <;> rfl
 | cons c r ih =>
  cases b
  ·simp only [gapN]
   by_cases h1:c=35
   ·rw [if_pos h1,List.take_succ_cons];simp only [gapN];rw [if_pos h1,ih]
   ·rw [if_neg h1]
    by_cases h2:c=32∨c=10
    ·rw [if_pos h2,List.take_succ_cons];simp only [gapN];rw [if_neg h1,if_pos h2,ih]
    ·rw [if_neg h2];rfl
  ·simp only [gapN]
   by_cases h1:c=10
   ·rw [if_pos h1,List.take_succ_cons];simp only [gapN];rw [if_pos h1,ih]
   ·rw [if_neg h1,List.take_succ_cons];simp only [gapN];rw [if_neg h1,ih]
def nextAt (l:List UInt8) (p:Nat):Nat:=p+(mone (l.drop p)).size+gapN false (l.drop (p+(mone (l.drop p)).size))
def pieceAt (l:List UInt8) (p:Nat):List UInt8:=(l.drop p).take (nextAt l p - p)
def pieces (l:List UInt8):List MTok→List UInt8
 | []=>[]
 | t :: ts=>pieceAt l t.place ++ 10 :: pieces l ts
end Go.Proofs.YtabbahpalemlhaaGreatDoor
namespace Go.Proofs.YtabbahpalemlhaaGreatDoor
open Go.RowKit
set_option maxRecDepth 20000
theorem own_keepD {w w':World} {B e size n:Nat} {v:Value} {xs:List Value} (h:w.ownsRow B e size v n xs) (hk:∀ k cur,v.ownBlock=some k→w.heap[k]?=some (.cells cur e (0,0))→w'.heap[k]?=w.heap[k]?):w'.ownsRow B e size v n xs:=by
 obtain ⟨a1,a2 | ⟨g,cap,cur,b1,b2,b3,b4⟩⟩:=h
 ·exact ⟨a1,.inl a2⟩
 ·exact ⟨a1,.inr ⟨g,cap,cur,b1,b2,(hk g cur (by rw [b1];rfl) b3).trans b3,b4⟩⟩
theorem own_loD {w:World} {B e size n:Nat} {v:Value} {xs:List Value} (h:w.ownsRow B e size v n xs):∀ k,v.ownBlock=some k→B≤k∧∃ cur,w.heap[k]?=some (.cells cur e (0,0)):=fun k hk=>by
 rcases h.2 with ⟨rfl,_⟩ | ⟨g,cap,cur,rfl,a,b,_⟩
 ·simp [Value.ownBlock] at hk
 ·simp only [Value.ownBlock,Option.some.injEq] at hk
  subst hk
  exact ⟨a,cur,b⟩
theorem hp_nextD {W V:World} {g:Nat} {o:Obj} (h:W.heap[g]?=some o) (hb:Below W.heap.size W V):V.heap[g]?=some o:=(hb.block g (Array.getElem?_eq_some_iff.1 h).1).trans h
structure Tk where
 kind:Int
 text:ByteArray
 n:Int
 place:Int
def TksAt (w:World) (b T:Nat) (tk:Nat→Tk):Prop:=∀ i,i < T→w.cell? ⟨b,i * 4,none⟩=some (.int .i64 (tk i).kind)∧w.cell? ⟨b,i * 4+1,none⟩=some (.string (tk i).text)∧w.cell? ⟨b,i * 4+2,none⟩=some (.int .i64 (tk i).n)∧w.cell? ⟨b,i * 4+3,none⟩=some (.int .i64 (tk i).place)
structure Ds where
 D:Nat
 B:Nat
 b:Nat
 T:Nat
 tc:Nat
 ta:Option Addr
 tk:Nat→Tk
 sz:Int
structure Dk (s:Ds) (p:Nat) (bad:Bool) (n:Nat) (ov:Value) (w:World):Prop where
 box:∃ q:Int,w.heap[s.D]?=some (.cells #[.slice s.ta s.T s.tc,.int .i64 s.sz,.int .i64 p,.bool bad,.int .i64 q,ov] 91 (0,0))
 tad:s.T=0∨s.ta=some ⟨s.b,0,none⟩
 tks:TksAt w s.b s.T s.tk
 txt:∀ i,i < s.T→(s.tk i).text.size≤1000
 bB:s.b < s.B∧s.b≠s.D
 DB:s.D < s.B
 Bz:s.B≤w.heap.size
 out:∃ O:List Nd,O.length=n∧w.ownsRow s.B 81 5 ov n (ndRow O)∧∀ x ∈ O,x.text.size≤1000
 pT:p≤s.T
 TT:s.T≤100000
theorem TksAt.keep {w w':World} {b T:Nat} {tk:Nat→Tk} (h:TksAt w b T tk) (hk:w'.heap[b]?=w.heap[b]?):TksAt w' b T tk:=fun i hi=>by
 obtain ⟨h0,h1,h2,h3⟩:=h i hi
 have f:∀ j,w'.cell? ⟨b,j,none⟩=w.cell? ⟨b,j,none⟩:=fun j=>World.cell?_of_block (w:=w) hk
 exact ⟨(f _).trans h0,(f _).trans h1,(f _).trans h2,(f _).trans h3⟩
structure Dt (s:Ds) (ov:Value) (w:World) (ov':Value) (w':World):Prop where
 sv:Sv (fun k=>k=s.D∨ov.ownBlock=some k) w w'
 row:∀ k,ov'.ownBlock=some k→ov.ownBlock=some k∨w.heap.size≤k
theorem Dt.refl (s:Ds) (ov:Value) (w:World):Dt s ov w ov w:=⟨Sv.refl _ _,fun _ h=>.inl h⟩
theorem Dt.trans {s:Ds} {ov ov1 ov2:Value} {w w1 w2:World} (h:Dt s ov w ov1 w1) (k:Dt s ov1 w1 ov2 w2):Dt s ov w ov2 w2:=by
 refine ⟨⟨k.sv.os.trans h.sv.os,k.sv.tape.trans h.sv.tape,k.sv.output.trans h.sv.output,Nat.le_trans h.sv.size k.sv.size,fun i hi hs=>?_⟩,fun i hi=>?_⟩
 ·have hz:=h.sv.size
  refine (k.sv.block i (by omega) fun e=>?_).trans (h.sv.block i hi hs)
  rcases e with e | e
  ·exact hs (.inl e)
  ·rcases h.row i e with e | e
   ·exact hs (.inr e)
   ·omega
 ·rcases k.row i hi with e | e
  ·exact h.row i e
  ·have:=h.sv.size
   exact .inr (by omega)
theorem Dt.next {s:Ds} {ov ov1:Value} {w w1 w2:World} (h:Dt s ov w ov1 w1) (hb:Below w1.heap.size w1 w2):Dt s ov w ov1 w2:=h.trans ⟨Sv.of_below hb,fun _ h=>.inl h⟩
section
variable {s:Ds} {p n:Nat} {bad:Bool} {ov:Value} {w:World}
theorem Dk.lt (h:Dk s p bad n ov w):s.D < w.heap.size:=by obtain ⟨q,h⟩:=h.box;exact (Array.getElem?_eq_some_iff.1 h).1
theorem tks_lt {w:World} {b T:Nat} {tk:Nat→Tk} (h:TksAt w b T tk) (h0:0 < T):b < w.heap.size:=World.block_lt_of_cell? w _ (h 0 h0).1
theorem Dk.keepT (h:Dk s p bad n ov w) {w2:World} (hk:s.b < w.heap.size→w2.heap[s.b]?=w.heap[s.b]?):TksAt w2 s.b s.T s.tk:=fun i hi=>(h.tks.keep (hk (tks_lt h.tks (by omega)))) i hi
theorem Dk.next (h:Dk s p bad n ov w) {w2:World} (hb:Below w.heap.size w w2):Dk s p bad n ov w2:=by
 have hT:=h.keepT (w2:=w2) fun hl=>hb.block _ hl
 obtain ⟨⟨q,h1⟩,h2,h3,h4,h5,h6,hz,⟨O,h7,h8,h9⟩,h10,h11⟩:=h
 exact ⟨⟨q,hp_nextD h1 hb⟩,h2,hT,h4,h5,h6,Nat.le_trans hz hb.size,⟨O,h7,own_below h8 hb,h9⟩,h10,h11⟩
theorem Dk.ne (h:Dk s p bad n ov w):ov.ownBlock≠some s.D:=fun e=>by
 obtain ⟨O,_,h8,_⟩:=h.out
 have:=(own_loD h8 _ e).1
 have:=h.DB
 omega
theorem Dk.neb (h:Dk s p bad n ov w):ov.ownBlock≠some s.b:=fun e=>by
 obtain ⟨O,_,h8,_⟩:=h.out
 have:=(own_loD h8 _ e).1
 have:=h.bB
 omega
theorem Dk.step (h:Dk s p bad n ov w) (i:Nat) (v:Value) {p':Nat} {bad':Bool} (hp:p'≤s.T)
  (hs:∀ q:Int,∃ q':Int,(#[Value.slice s.ta s.T s.tc,.int .i64 s.sz,.int .i64 p,.bool bad,.int .i64 q,ov]:Array Value).setIfInBounds i v=#[.slice s.ta s.T s.tc,.int .i64 s.sz,.int .i64 p',.bool bad',.int .i64 q',ov]) :
  Dk s p' bad' n ov (w.setCell ⟨s.D,i,none⟩ v):=by
 have hne:=h.ne
 have keep:∀ k,k≠s.D→(w.setCell ⟨s.D,i,none⟩ v).heap[k]?=w.heap[k]?:=fun k hk=>Below.heap_setCell _ _ _ _ hk
 have hT:=h.keepT (w2:=w.setCell ⟨s.D,i,none⟩ v) fun _=>keep _ h.bB.2
 obtain ⟨⟨q,h1⟩,h2,h3,h4,h5,h6,hz,⟨O,h7,h8,h9⟩,h10,h11⟩:=h
 obtain ⟨q',hq⟩:=hs q
 refine ⟨⟨q',?_⟩,h2,hT,h4,h5,h6,by simpa [World.setCell] using hz,⟨O,h7,own_keepD h8 fun k cur e _=>keep k (fun e2=>hne (by rw [e,e2])),h9⟩,hp,h11⟩
 rw [set_at v h1,hq]
theorem Dk.setp (h:Dk s p bad n ov w) (p':Nat) (hp:p'≤s.T):Dk s p' bad n ov (w.setCell ⟨s.D,2,none⟩ (.int .i64 p')):=h.step 2 _ hp fun q=>⟨q,rfl⟩
theorem Dk.setbad (h:Dk s p bad n ov w) (b':Bool):Dk s p b' n ov (w.setCell ⟨s.D,3,none⟩ (.bool b')):=h.step 3 _ h.pT fun q=>⟨q,rfl⟩
theorem Dk.setat (h:Dk s p bad n ov w) (q':Int):Dk s p bad n ov (w.setCell ⟨s.D,4,none⟩ (.int .i64 q')):=h.step 4 _ h.pT fun _=>⟨q',rfl⟩
theorem Dt.set (s:Ds) (ov:Value) (w:World) (i:Nat) (v:Value):Dt s ov w ov (w.setCell ⟨s.D,i,none⟩ v):=⟨(Sv.refl _ w).setCell (.inl (.inl rfl)) v,fun _ h=>.inl h⟩
theorem Dk.cells (h:Dk s p bad n ov w):w.cell? ⟨s.D,0,none⟩=some (.slice s.ta s.T s.tc)∧w.cell? ⟨s.D,1,none⟩=some (.int .i64 s.sz)∧w.cell? ⟨s.D,2,none⟩=some (.int .i64 p)∧w.cell? ⟨s.D,3,none⟩=some (.bool bad)∧w.cell? ⟨s.D,5,none⟩=some ov:=by
 obtain ⟨q,h⟩:=h.box
 exact ⟨cell_hp h 0,cell_hp h 1,cell_hp h 2,cell_hp h 3,cell_hp h 5⟩
theorem Dk.cell4 (h:Dk s p bad n ov w):∃ q:Int,w.cell? ⟨s.D,4,none⟩=some (.int .i64 q):=by
 obtain ⟨q,h⟩:=h.box
 exact ⟨q,cell_hp h 4⟩
theorem Dk.fz (h:Dk s p bad n ov w) (i:Nat):w.frozen? ⟨s.D,i,none⟩=false:=by
 obtain ⟨q,h⟩:=h.box
 exact frozen_hp h i
end
theorem Dk.setout {s:Ds} {p n m:Nat} {bad:Bool} {ov ov':Value} {w w1:World} (h:Dk s p bad n ov w) (hg:w.grownBy w1 ov.ownBlock) {O:List Nd} (ho:w1.ownsRow s.B 81 5 ov' m (ndRow O)) (hO:O.length=m) (hx:∀ x ∈ O,x.text.size≤1000):Dk s p bad m ov' (w1.setCell ⟨s.D,5,none⟩ ov'):=by
 have hne:=h.ne
 have hneb:=h.neb
 have keep:∀ k,k≠s.D→(w1.setCell ⟨s.D,5,none⟩ ov').heap[k]?=w1.heap[k]?:=fun k hk=>Below.heap_setCell _ _ _ _ hk
 have hT:=h.keepT (w2:=w1.setCell ⟨s.D,5,none⟩ ov') fun hl=>(keep _ h.bB.2).trans (hg.block _ hl (fun e=>hneb e.symm))
 have hlt:=h.lt
 obtain ⟨⟨q,h1⟩,h2,h3,h4,h5,h6,hz,_,h10,h11⟩:=h
 have h1':=(hg.block s.D hlt (fun e=>hne e.symm)).trans h1
 refine ⟨⟨q,?_⟩,h2,hT,h4,h5,h6,by have:=hg.size;simp [World.setCell];omega,⟨O,hO,own_keepD ho fun k cur e _=>keep k (fun e2=>?_),hx⟩,h10,h11⟩
 ·rw [set_at _ h1'];rfl
 ·have:=(own_loD ho k e).1
  omega
theorem Dt.setout {s:Ds} {ov ov':Value} {w w1:World} (hg:w.grownBy w1 ov.ownBlock) (hr:∀ k,ov'.ownBlock=some k→ov.ownBlock=some k∨w.heap.size≤k):Dt s ov w ov' (w1.setCell ⟨s.D,5,none⟩ ov') :=
 ⟨((Sv.refl _ w).grown hg fun _ hk=>.inl (.inr hk)).setCell (.inl (.inl rfl)) _,hr⟩
def Ad (s:Ds) (ov0:Value) (w0:World) (p:Nat) (bad:Bool) (n:Nat) (w:World):Prop:=∃ ov,Dk s p bad n ov w∧Dt s ov0 w0 ov w
theorem Ad.next {s:Ds} {ov0:Value} {w0:World} {p n:Nat} {bad:Bool} {w w2:World} (h:Ad s ov0 w0 p bad n w) (hb:Below w.heap.size w w2):Ad s ov0 w0 p bad n w2:=by
 obtain ⟨ov,h1,h2⟩:=h
 exact ⟨ov,h1.next hb,h2.next hb⟩
theorem Ad.pT {s:Ds} {ov0:Value} {w0:World} {p n:Nat} {bad:Bool} {w:World} (h:Ad s ov0 w0 p bad n w):p≤s.T∧s.T≤100000:=by
 obtain ⟨ov,h1,h2⟩:=h
 exact ⟨h1.pT,h1.TT⟩
theorem NdOk.over {K:Nat} {la:List Nd} {x:Nd} (h:NdOk K la) (hx:x.text.size≤1000):NdOk (K+1) (la ++ [x]):=by
 refine ⟨by rw [List.length_append];have:=h.1;show _+1≤_;omega,fun y hy=>?_⟩
 rcases List.mem_append.1 hy with hy | hy
 ·exact h.2 y hy
 ·rw [List.mem_singleton] at hy;subst hy;exact hx
theorem NdOk.app {K K':Nat} {la lb:List Nd} (h:NdOk K la) (h':NdOk K' lb):NdOk (K+K') (la ++ lb):=by
 refine ⟨by rw [List.length_append];have:=h.1;have:=h'.1;omega,fun y hy=>?_⟩
 rcases List.mem_append.1 hy with hy | hy
 ·exact h.2 y hy
 ·exact h'.2 y hy
theorem NdOk.one {x:Nd} (hx:x.text.size≤1000):NdOk 1 [x]:=⟨Nat.le_refl _,fun y hy=>by rw [List.mem_singleton] at hy;subst hy;exact hx⟩
theorem NdIn.sl {w:World} {v:Value} {l:List Nd} (h:NdIn w v l):∃ g n c,v=.slice (some ⟨g,0,none⟩) n c:=by obtain ⟨_,g,c,_,e,_⟩:=h;exact ⟨g,_,_,e⟩
set_option maxHeartbeats 1000000 in
theorem l2Deep_any (n:Nat) (w:World) (hn:n≤1000) :
  Calls Tryz.prog 59 #[.int .i64 n] w fun e w'=>(∃ v l,e=.returned (.agg #[v])∧NdIn w' v l∧NdOk 2000 l)∧Below w.heap.size w w':=by
 go_enter Tryz.func59,Tryz.ntmps59
 go_wp2_with fail
 refine (intNode_any 1 _).mono ?_
 rintro e w1 ⟨v,rfl,h1,h2⟩
 have H1:=hid h1
 have H2:=hid h2
 obtain ⟨g1,n1,c1,rfl⟩:=h1.sl
 clear h1 h2
 go_wp2
 go_loopw [3,4] (fun v a wr=>∃ (j:Nat) (l:List Nd),j≤n∧a=.int .i64 j∧NdIn wr v l∧NdOk (j+1) l∧Below (w.alloc (.cells #[.slice none 0 0] 50)).heap.size (w.alloc (.cells #[.slice none 0 0] 50)) wr) (fun _ a _=>n - (intOf a).toNat)
 case atStart=>exact ⟨0,_,Nat.zero_le _,rfl,H1.out,NdOk.one (by decide),H2.out⟩
 case round =>
  obtain ⟨j,l,hj,rfl,hnd,hok,hb⟩:=hrel
  have HND:=hid hnd
  have HOK:=hid hok
  have HB:=hid hb
  have hll:=hok.1
  have hz:=hb.size
  obtain ⟨g,m,c,rfl⟩:=hnd.sl
  clear hnd hok hb
  have hw:IntKind.i64.wrap ((n:Int) - 2)=(n:Int) - 2:=by rw [IntKind.wrap_i64];omega
  by_cases hlt:(j:Int) < (n:Int) - 2
  ·go_wp2_with fail
   refine (over1 ⟨6,2,0,⟨#[]⟩,0⟩ _ l wr HND.out (by omega)).mono ?_
   rintro e w2 ⟨v,rfl,h1,h2⟩
   have H3:=hid h1
   have H4:=hid (HB.out.trans (h2.mono hz))
   obtain ⟨g2,n2,c2,rfl⟩:=h1.sl
   clear h1 h2
   go_wp2
   go_roundw
   case rel=>exact ⟨j+1,_,by omega,by go_num,H3.out,HOK.out.over (by decide),H4.out⟩
   case measure=>simp [intOf];omega
  ·have hge:(n:Int) - 2≤j:=by omega
   go_wp2_with fail
   refine (over1 ⟨21,0,0,⟨#[120]⟩,0⟩ _ l wr HND.out (by omega)).mono ?_
   rintro e w2 ⟨v,rfl,h1,h2⟩
   have H3:=hid h1
   have H4:=hid (HB.out.trans (h2.mono hz))
   have hz2:=h2.size
   obtain ⟨g2,n2,c2,rfl⟩:=h1.sl
   clear h1 h2
   go_wp2_with fail
   refine (over1 ⟨24,0,0,⟨#[]⟩,0⟩ _ _ w2 H3.out (by rw [List.length_append];show _+1≤_;omega)).mono ?_
   rintro e w3 ⟨v,rfl,h1,h2⟩
   have H5:=hid h1
   have H6:=hid (H4.out.trans (h2.mono (by omega)))
   obtain ⟨g3,n3,c3,rfl⟩:=h1.sl
   have hh:w3.heap[w.heap.size]?=some (.cells #[.slice none 0 0] 50 (0,0)):=(H6.out.block w.heap.size (by simp)).trans (heap_alloc_new w _)
   have e0:=cell_hp hh 0
   have e1:=frozen_hp hh 0
   simp at e0
   clear h1 h2
   have hset:=cell_hp (set_at (i:=0) (.slice (some ⟨g3,0,none⟩) n3 c3) hh) 0
   simp at hset
   have HBF:Hid (Below w.heap.size w (w3.setCell ⟨w.heap.size,0,none⟩ (.slice (some ⟨g3,0,none⟩) n3 c3))):=(((Below.refl w.heap.size w).alloc (Nat.le_refl _) _).trans (H6.out.mono (by simp))).setCell (p:=⟨w.heap.size,0,none⟩) (Nat.le_refl _) _
   have HNF:Hid (NdIn (w3.setCell ⟨w.heap.size,0,none⟩ (.slice (some ⟨g3,0,none⟩) n3 c3)) (.slice (some ⟨g3,0,none⟩) n3 c3) _):=H5.out.keep fun g cur hc=>Below.heap_setCell _ _ _ _ (fun e=>by
    have e2:g=w.heap.size:=e
    subst e2;rw [hh] at hc;cases hc)
   have HOF:=hid ((HOK.out.over (x:={ (⟨21,0,0,⟨#[120]⟩,0⟩:Nd) with kids:=1 }) (by decide)).over (x:={ (⟨24,0,0,⟨#[]⟩,0⟩:Nd) with kids:=1 }) (by decide))
   clear hh
   go_wp2
   exact bodyPost_ret (v:=.agg #[.slice (some ⟨g3,0,none⟩) n3 c3]) (by simp [results,Tryz.results59,go_sem,hset]) rfl ⟨⟨_,_,rfl,HNF.out,HOF.out.mono (by omega)⟩,HBF.out⟩
theorem seenRow_get (ns:List (ByteArray × Int)) (i:Nat) (h:i < ns.length):(seenRow ns)[i * 2]?=some (.string ns[i].1)∧(seenRow ns)[i * 2+1]?=some (.int .i64 ns[i].2):=by
 induction ns generalizing i with
 | nil=>simp at h
 | cons x ns ih =>
  cases i with
  | zero=>exact ⟨rfl,rfl⟩
  | succ i =>
   have:=ih i (by simpa using h)
   rw [show (i+1) * 2=i * 2+2 by omega]
   exact ⟨this.1,this.2⟩
def NdAns (K:Nat) (e:Ending) (w:World):Prop:=(∃ v l,e=.returned (.tuple #[v,.bool true])∧NdIn w v l∧NdOk K l)∨∃ g c,e=.returned (.tuple #[.slice (some ⟨g,0,none⟩) 0 c,.bool false])
set_option maxHeartbeats 2000000 in
theorem named_any (R G B:Nat) (kind:Int) (w:World) (ns:List (ByteArray × Int)) (fs:List Fn) (c:Nat) (sz:Int) (p:Nat) (h:GenAt R G B w ns fs c sz p) (hp:p≤1000000) (hn:ns.length≤1000000) :
  Calls Tryz.prog 105 #[.pointer (some ⟨G,0,none⟩),.int .i64 kind] w fun e w'=>NdAns 1 e w'∧GenAt R G B w' ns fs c sz (p+1)∧Gk B w w':=by
 have HG:=hid h
 obtain ⟨vn,vf,h1,h2,h3⟩:=h.ex
 have c0:=cell_hp h1 0
 have c1:=cell_hp h1 1
 simp at c0 c1
 obtain ⟨an,cn,rfl⟩:=own_sl h2
 have HO:=hid h2
 clear h1 h2 h3 h
 go_enter Tryz.func105,Tryz.ntmps105
 go_wp2_with fail
 refine (pick_any R p _ _ (by omega) (by omega) HG.out.rd).mono ?_
 rintro e w1 ⟨⟨x,rfl,hx⟩,hr1,hs1⟩
 obtain ⟨hg1,hk1⟩:=HG.out.picked hr1 hs1
 have HG1:=hid hg1
 have HK1:=hid hk1
 have HXB:=hid hx
 clear hr1 hs1 hg1 hk1 hx
 go_wp2
 go_loopw [8] (fun a wr=>∃ i:Nat,i≤ns.length∧a=.int .i64 i∧Below w1.heap.size w1 wr) (fun a _=>ns.length - (intOf a).toNat)
 case atStart=>exact ⟨0,Nat.zero_le _,rfl,Below.refl _ _⟩
 case round =>
  obtain ⟨i,hi,rfl,hb⟩:=hrel
  have HB:=hid hb
  have HGR:=hid (HG1.out.next hb)
  clear hb
  by_cases hlt:i < ns.length
  ·obtain ⟨un,uf,g1,g2,g3⟩:=HGR.out.ex
   have hlen:ns.length≠0:=by omega
   have hxn:x < ns.length:=by have:=HXB.out;omega
   obtain ⟨gn,cap,cur,rfl,hcur,hgn,htk⟩:∃ gn cap cur,un=.slice (some ⟨gn,0,none⟩) ns.length cap∧ns.length≤cap∧wr.heap[gn]?=some (.cells cur 123 (0,0))∧cur.toList.take (ns.length * 2)=seenRow ns:=by
    rcases g2.2 with ⟨_,hz⟩ | ⟨gn,cap,cur,hv,_,hg,hc,_,_,ht⟩
    ·omega
    ·exact ⟨gn,cap,cur,hv,hc,hg,ht⟩
   obtain ⟨q,hq⟩:∃ q,(x+i) % ns.length=q:=⟨_,rfl⟩
   have hqn:q < ns.length:=by rw [← hq];exact Nat.mod_lt _ (by omega)
   have hrem:((x:Int)+i).tmod ns.length=(q:Int):=by
    rw [Int.tmod_eq_emod_of_nonneg (by omega),← hq,Int.natCast_emod,Int.natCast_add]
   have hseen:=seenRow_get ns q hqn
   have hcell:∀ j u,(seenRow ns)[j]?=some u→wr.cell? ⟨gn,j,none⟩=some u:=fun j u hu=>by
    rw [← htk] at hu
    have hj:=(List.getElem?_eq_some_iff.1 hu).1
    rw [List.length_take] at hj
    rw [List.getElem?_take_of_lt (by omega)] at hu
    unfold World.cell?
    rw [hgn]
    simpa using hu
   have k0:=hcell _ _ hseen.1
   have k1:=hcell _ _ hseen.2
   have d1:=cell_hp g1 1
   simp at d1
   have hw:IntKind.i64.wrap ((x:Int)+i)=(x:Int)+i:=by rw [IntKind.wrap_i64];omega
   have hGl:=(Array.getElem?_eq_some_iff.1 g1).1
   have hgl:=(Array.getElem?_eq_some_iff.1 hgn).1
   have HAL:=(Below.refl wr.heap.size wr).alloc (Nat.le_refl _) (.cells #[.string ⟨#[]⟩,.int .i64 0] 123)
   have a1:(wr.alloc (.cells #[.string ⟨#[]⟩,.int .i64 0] 123)).drew.cell? ⟨G,1,none⟩=_:=(HAL.cell (p:=⟨G,1,none⟩) hGl).trans d1
   have a2:(wr.alloc (.cells #[.string ⟨#[]⟩,.int .i64 0] 123)).drew.cell? ⟨gn,q * 2,none⟩=_:=(HAL.cell (p:=⟨gn,q * 2,none⟩) hgl).trans k0
   have a3:(wr.alloc (.cells #[.string ⟨#[]⟩,.int .i64 0] 123)).drew.cell? ⟨gn,q * 2+1,none⟩=_:=(HAL.cell (p:=⟨gn,q * 2+1,none⟩) hgl).trans k1
   have HALH:=hid HAL
   obtain ⟨nm,hnm⟩:∃ nm,ns[q].1=nm:=⟨_,rfl⟩
   obtain ⟨kd,hkd⟩:∃ kd,ns[q].2=kd:=⟨_,rfl⟩
   have HNM:Hid (nm.size≤100):=by show _≤_;rw [← hnm];exact HG.out.nok _ (List.getElem_mem hqn)
   rw [hnm] at k0 a2
   rw [hkd] at k1 a3
   clear hcell hseen htk hgn g1 g2 g3 hq HAL hnm hkd
   go_wp2_with fail
   go_region
   have HBX:Hid (Below w1.heap.size w1 (wr.alloc (.cells #[.string nm,.int .i64 kd] 123)).drew):=(HB.out.alloc HB.out.size _).drew
   by_cases hkk:kd=kind
   ·have hkb:(kd == kind)=true:=by simpa using hkk
    clear hkk
    go_wp2_with fail
    refine (nameNode_any nm _).mono ?_
    rintro e w2 ⟨v,rfl,h1,h2⟩
    have H1:=hid h1
    have H2:=hid (HBX.out.trans (h2.mono HBX.out.size))
    obtain ⟨g3,c3,rfl⟩:∃ g c,v=.slice (some ⟨g,0,none⟩) 1 c:=by obtain ⟨_,g,c,_,e,_⟩:=h1;exact ⟨g,_,e⟩
    clear h1 h2
    go_wp2
    refine bodyPost_ret (v:=.tuple #[.slice (some ⟨g3,0,none⟩) 1 c3,.bool true]) (by simp [results,Tryz.results105,go_sem]) rfl ⟨.inl ⟨_,_,rfl,H1.out,by simp,fun y hy=>?_⟩,HG1.out.next H2.out,HK1.out.trans (Gk.of_below H2.out HG1.out.bw)⟩
    rw [List.mem_singleton] at hy
    subst hy
    have:=HNM.out
    show nm.size≤1000
    omega
   ·have hkb:(kd == kind)=false:=by simpa using hkk
    go_wp2
    go_roundw
    case rel=>exact ⟨i+1,by omega,by go_num,HBX.out⟩
    case measure=>simp [intOf];omega
  ·obtain rfl:i=ns.length:=by omega
   go_wp2
   refine bodyPost_ret (v:=.tuple #[.slice (some ⟨wr.heap.size,0,none⟩) 0 0,.bool false]) (by simp [results,Tryz.results105,go_sem]) rfl ⟨.inr ⟨_,_,rfl⟩,HG1.out.next (HB.out.alloc HB.out.size _),HK1.out.trans (Gk.of_below (HB.out.alloc HB.out.size _) HG1.out.bw)⟩
end Go.Proofs.YtabbahpalemlhaaGreatDoor
