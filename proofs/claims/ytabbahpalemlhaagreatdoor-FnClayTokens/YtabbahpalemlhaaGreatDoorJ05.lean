import Derived.Maps.AppendAt
import Derived.Deep.RegionLaw
import Derived.Test.YtabbahpalemlhaaGreatDoorJ04
namespace Go.Proofs.YtabbahpalemlhaaGreatDoor
open Go.RowKit
set_option maxRecDepth 20000
def ndRow:List Nd→List Value
 | []=>[]
 | x :: l=>.int .i64 x.kind :: .int .i64 x.op :: .int .i64 x.n :: .string x.text :: .int .i64 x.kids :: ndRow l
theorem ndRow_length (l:List Nd):(ndRow l).length=l.length * 5:=by
 induction l with
 | nil=>rfl
 | cons x l ih=>simp only [ndRow,List.length_cons,ih];omega
theorem ndRow_append (a b:List Nd):ndRow (a ++ b)=ndRow a ++ ndRow b:=by
 induction a with
 | nil=>rfl
 | cons x a ih=>simp [ndRow,ih]
theorem ndRow_one (l:List Nd):∀ u ∈ ndRow l,u.oneCell'=true:=by
 induction l with
 | nil=>simp [ndRow]
 | cons x l ih =>
  intro u hu
  simp only [ndRow,List.mem_cons] at hu
  rcases hu with rfl | rfl | rfl | rfl | rfl | hu
  ·rfl
  ·rfl
  ·rfl
  ·rfl
  ·rfl
  ·exact ih u hu
theorem add_none (g o j:Nat):((⟨g,o,none⟩:Addr).add j)=⟨g,o+j,none⟩:=by
 unfold Addr.add
 split
 ·rename_i h;rw [h];rfl
 ·rfl
def NdIn (w:World) (v:Value) (l:List Nd):Prop:=l≠[]∧∃ (g k:Nat) (cur:Array Value),v=.slice (some ⟨g,0,none⟩) l.length (l.length+k)∧w.heap[g]?=some (.cells cur 81 (0,0))∧∀ (j:Nat) u,(ndRow l)[j]?=some u→cur[j]?=some u
theorem NdIn.keep {w w':World} {v:Value} {l:List Nd} (h:NdIn w v l) (hk:∀ (g:Nat) (cur:Array Value),w.heap[g]?=some (.cells cur 81 (0,0))→w'.heap[g]?=w.heap[g]?):NdIn w' v l:=by
 obtain ⟨h0,g,cap,cur,e,h1,h2⟩:=h
 exact ⟨h0,g,cap,cur,e,(hk g cur h1).trans h1,h2⟩
theorem NdIn.next {w w':World} {v:Value} {l:List Nd} (h:NdIn w v l) (hb:Below w.heap.size w w'):NdIn w' v l:=h.keep fun g _ hg=>hb.block g (Array.getElem?_eq_some_iff.1 hg).1
theorem NdIn.of_own {w:World} {B:Nat} {v:Value} {l:List Nd} (h:w.ownsRow B 81 5 v l.length (ndRow l)) (h0:l≠[]):NdIn w v l:=by
 have hl:l.length≠0:=by simpa using h0
 rcases h.2 with ⟨_,hz⟩ | ⟨g,cap,cur,hv,_,hg,hc,_,_,ht⟩
 ·exact absurd hz hl
 ·refine ⟨h0,g,cap - l.length,cur,by rw [hv];congr 1;omega,hg,fun j u hu=>?_⟩
  rw [← ht] at hu
  have hj:=(List.getElem?_eq_some_iff.1 hu).1
  rw [List.length_take] at hj
  rw [List.getElem?_take_of_lt (by omega)] at hu
  simpa using hu
theorem NdIn.cells {w:World} {g n cap:Nat} {l:List Nd} (h:NdIn w (.slice (some ⟨g,0,none⟩) n cap) l):n=l.length∧g < w.heap.size∧∀ j u,(ndRow l)[j]?=some u→w.cell? ((⟨g,0,none⟩:Addr).add j)=some u:=by
 obtain ⟨h0,g',cap',cur,e,h1,h2⟩:=h
 injection e with e1 e2 e3
 injection e1 with e1
 injection e1 with e1
 subst e1 e2
 refine ⟨rfl,(Array.getElem?_eq_some_iff.1 h1).1,fun j u hu=>?_⟩
 rw [add_none,Nat.zero_add]
 unfold World.cell?
 rw [h1]
 exact h2 j u hu
def NdOk (K:Nat) (l:List Nd):Prop:=l.length≤K∧∀ x ∈ l,x.text.size≤1000
theorem NdOk.mono {K K':Nat} {l:List Nd} (h:NdOk K l) (hK:K≤K'):NdOk K' l:=⟨Nat.le_trans h.1 hK,h.2⟩
theorem info_nd:(Tryz.prog.info? 81).map (fun i=>(i.zero,i.size,i.bytes))=some (some (.agg #[.int .i64 0,.int .i64 0,.int .i64 0,.string ⟨#[]⟩,.int .i64 0]),5,48):=by kernel_rfl
def PartsIn (w:World) (ad:Option Addr) (xs:List Value) (ls:List (List Nd)):Prop :=
 xs.length=ls.length∧(xs=[]∨∃ g:Nat,ad=some ⟨g,0,none⟩∧(∃ cur:Array Value,w.heap[g]?=some (.cells cur 48 (0,0))∧∀ (j:Nat) u,xs[j]?=some u→cur[j]?=some u))∧∀ (j:Nat) u l,xs[j]?=some u→ls[j]?=some l→NdIn w u l
theorem PartsIn.next {w w':World} {ad:Option Addr} {xs:List Value} {ls:List (List Nd)} (h:PartsIn w ad xs ls) (hb:Below w.heap.size w w'):PartsIn w' ad xs ls:=by
 obtain ⟨h1,h2,h3⟩:=h
 refine ⟨h1,h2.imp_right ?_,fun j u l hu hl=>(h3 j u l hu hl).next hb⟩
 rintro ⟨g,e,cur,a,b⟩
 exact ⟨g,e,cur,(hb.block g (Array.getElem?_eq_some_iff.1 a).1).trans a,b⟩
theorem flat_take_succ (ls:List (List Nd)) (j:Nat) (l:List Nd) (h:ls[j]?=some l):(ls.take (j+1)).flatten=(ls.take j).flatten ++ l:=by
 obtain ⟨hj,rfl⟩:=List.getElem?_eq_some_iff.1 h
 rw [List.take_succ_eq_append_getElem hj,List.flatten_append];simp
theorem flat_take_le (ls:List (List Nd)) (j:Nat):(ls.take j).flatten.length≤ls.flatten.length:=by
 have:ls.flatten=(ls.take j).flatten ++ (ls.drop j).flatten:=by rw [← List.flatten_append,List.take_append_drop]
 rw [this,List.length_append];omega
theorem own_blk {w:World} {B n:Nat} {v:Value} {xs:List Value} {e size:Nat} (h:w.ownsRow B e size v n xs):∀ k,v.ownBlock=some k→B≤k:=fun k hk=>(h.lt k hk).1
theorem own_sl {w:World} {B e size k:Nat} {v:Value} {xs:List Value} (h:w.ownsRow B e size v k xs):∃ a cap,v=.slice a k cap:=by
 rcases h.2 with ⟨hv,h0⟩ | ⟨g,cap,cur,hv,_⟩
 ·exact ⟨none,0,by rw [hv,h0]⟩
 ·exact ⟨_,_,hv⟩
set_option maxHeartbeats 4000000 in
theorem l2Over_any (x:Nd) (ad:Option Addr) (n c:Nat) (xs:List Value) (ls:List (List Nd)) (w:World) (hn:xs.length=n) (hn2:n≤100000) (hk:PartsIn w ad xs ls) (hsz:ls.flatten.length≤1000000) :
  Calls Tryz.prog 61 #[.agg #[.int .i64 x.kind,.int .i64 x.op,.int .i64 x.n,.string x.text,.int .i64 x.kids],.slice ad n c] w fun e w'=>∃ s,e=.returned s∧NdIn w' s (ls.flatten ++ [{ x with kids:=n }])∧Below w.heap.size w w':=by
 obtain ⟨i0,hi,hz0,hz1,hz2⟩:=info_parts info_nd
 have HHI:=hid (And.intro hi (And.intro hz0 (And.intro hz1 hz2)))
 have HK:=hid hk
 have HN:=hid hn
 have HSZ:=hid hsz
 clear hi hz0 hz1 hz2 hk hn hsz
 have HB0:Hid (Below w.heap.size w ((w.alloc (.cells #[.int .i64 x.kind,.int .i64 x.op,.int .i64 x.n,.string x.text,.int .i64 x.kids] 81)).alloc (.cells #[] 81))):=((Below.refl _ _).alloc (Nat.le_refl _) _).alloc (by simp) _
 have HX0:Hid (((w.alloc (.cells #[.int .i64 x.kind,.int .i64 x.op,.int .i64 x.n,.string x.text,.int .i64 x.kids] 81)).alloc (.cells #[] 81)).heap[w.heap.size]?=some (.cells #[.int .i64 x.kind,.int .i64 x.op,.int .i64 x.n,.string x.text,.int .i64 x.kids] 81 (0,0))):=by
  show _=_
  rw [Below.heap_alloc _ _ _ (by simp)];exact heap_alloc_new w _
 have HO0:Hid (((w.alloc (.cells #[.int .i64 x.kind,.int .i64 x.op,.int .i64 x.n,.string x.text,.int .i64 x.kids] 81)).alloc (.cells #[] 81)).ownsRow (w.heap.size+1) 81 5 (.slice (some ⟨w.heap.size+1,0,none⟩) 0 0) 0 []):=by
  refine ⟨rfl,.inr ⟨w.heap.size+1,0,#[],rfl,Nat.le_refl _,?_,Nat.le_refl _,by unfold maxLen;omega,rfl,rfl⟩⟩
  have:=heap_alloc_new (w.alloc (.cells #[.int .i64 x.kind,.int .i64 x.op,.int .i64 x.n,.string x.text,.int .i64 x.kids] 81)) (.cells #[] 81)
  rwa [World.size_alloc] at this
 go_enter Tryz.func61,Tryz.ntmps61
 go_wp2
 go_loopw [5,6] (fun v i wr=>∃ (j m:Nat),j≤n∧i=.int .i64 j∧(ls.take j).flatten.length=m∧wr.heap[w.heap.size]?=some (.cells #[.int .i64 x.kind,.int .i64 x.op,.int .i64 x.n,.string x.text,.int .i64 x.kids] 81 (0,0))∧wr.ownsRow (w.heap.size+1) 81 5 v m (ndRow (ls.take j).flatten)∧Below w.heap.size w wr∧w.heap.size+2≤wr.heap.size) (fun _ i _=>n - (intOf i).toNat)
 case atStart=>exact ⟨0,0,Nat.zero_le _,rfl,by simp,HX0.out,HO0.out,HB0.out,by simp⟩
 case round =>
  obtain ⟨j,m,hj,rfl,hm,hx,how,hbw,hs2⟩:=hrel
  have HM:=hid hm
  have HXW:=hid hx
  have HOW:=hid how
  have HBW:=hid hbw
  have hmle:m≤1000000:=by rw [← hm];exact Nat.le_trans (flat_take_le ls j) HSZ.out
  obtain ⟨ao,ac,rfl⟩:=own_sl how
  clear hm hx how hbw
  by_cases hlt:j < n
  ·have hjl:j < xs.length:=by rw [HN.out];exact hlt
   obtain ⟨hk1,hk2,hk3⟩:=HK.out
   obtain ⟨u,hu⟩:∃ u,xs[j]?=some u:=⟨_,List.getElem?_eq_getElem hjl⟩
   obtain ⟨l,hl⟩:∃ l,ls[j]?=some l:=⟨_,List.getElem?_eq_getElem (by rw [← hk1];exact hjl)⟩
   have hnd:=hk3 j u l hu hl
   obtain ⟨pg,rfl,pcur,hp1,hp2⟩:=hk2.resolve_left (fun e=>by rw [e] at hjl;simp at hjl)
   have hpl:=(Array.getElem?_eq_some_iff.1 hp1).1
   have hck:wr.cell? ⟨pg,j,none⟩=some u:=by
    rw [HBW.out.cell (p:=⟨pg,j,none⟩) hpl]
    unfold World.cell?
    rw [hp1]
    exact hp2 j u hu
   have hl0:=hnd.1
   obtain ⟨g,cap,rfl⟩:∃ g cap,u=.slice (some ⟨g,0,none⟩) l.length cap:=by obtain ⟨_,g,cap,_,e,_⟩:=hnd;exact ⟨g,_,e⟩
   obtain ⟨_,hgl,hcl⟩:=hnd.cells
   have HCL:Hid (∀ q u,(ndRow l)[q]?=some u→wr.cell? ((⟨g,0,none⟩:Addr).add q)=some u):=fun q u h=>by
    rw [← hcl q u h,add_none]
    exact HBW.out.cell (p:=⟨g,0+q,none⟩) hgl
   have HNX:=hid (flat_take_succ ls j l hl)
   have hmN:m+l.length≤1000000:=by
    have h1:=flat_take_le ls (j+1)
    rw [HNX.out,List.length_append,HM.out] at h1
    exact Nat.le_trans h1 HSZ.out
   have hlp:0 < l.length:=List.length_pos_iff.2 hl0
   obtain ⟨N,hN⟩:∃ N,l.length=N:=⟨_,rfl⟩
   have HLN:=hid hN
   rw [hN] at hck hmN hlp
   have HRL:Hid ((ndRow l).length=N * 5):=by show _=_;rw [ndRow_length,HLN.out]
   clear hN hcl hnd hl0 hk1 hk2 hk3 hu hl hp1 hp2
   go_wp2_with (at_builtin;refine wpList_append_own_at _ rfl (.tmp 14) (.tmp 18) 48 rfl (w.heap.size+1) 81 i0 (.agg #[.int .i64 0,.int .i64 0,.int .i64 0,.string ⟨#[]⟩,.int .i64 0]) 5 48 Tryz.underlying48 HHI.out.1 HHI.out.2.1 HHI.out.2.2.1 HHI.out.2.2.2 rfl (by decide) _ m (ndRow (ls.take j).flatten) rfl HOW.out ⟨g,0,none⟩ N cap (ndRow l) rfl HRL.out HCL.out (ndRow_one l) (by unfold maxLen;omega) (by omega) (by omega) ?_)
   intro v' w1 h2 h3 h4 h5
   have HO1:Hid (w1.ownsRow (w.heap.size+1) 81 5 v' (m+N) (ndRow (ls.take (j+1)).flatten)):=by
    show World.ownsRow _ _ _ _ _ _ _
    rw [HNX.out,ndRow_append]
    exact h2
   have HB1:=hid (HBW.out.grown h3 HBW.out.size (fun k e=>by have:=own_blk HOW.out k e;omega))
   have HX1:Hid (w1.heap[w.heap.size]?=some (.cells #[.int .i64 x.kind,.int .i64 x.op,.int .i64 x.n,.string x.text,.int .i64 x.kids] 81 (0,0))):=(h3.block w.heap.size (by omega) (fun e=>by have:=own_blk HOW.out _ e.symm;omega)).trans HXW.out
   have hz1:wr.heap.size≤w1.heap.size:=h3.size
   obtain ⟨a1,c1,rfl⟩:=own_sl HO1.out
   clear h2 h3 h4 h5
   go_wp2
   go_roundw
   case rel=>exact ⟨j+1,m+N,by omega,by go_num,by rw [HNX.out,List.length_append,HM.out,HLN.out],HX1.out,HO1.out,HB1.out,by omega⟩
   case measure=>simp [intOf];omega
  ·obtain rfl:j=n:=by omega
   have HALL:Hid ((ls.take j).flatten=ls.flatten):=by show _=_;rw [List.take_of_length_le (by rw [← HK.out.1,HN.out];omega)]
   have c0:=cell_hp HXW.out 0
   have c1:=cell_hp HXW.out 1
   have c2:=cell_hp HXW.out 2
   have c3:=cell_hp HXW.out 3
   have c4:=cell_hp HXW.out 4
   have f4:=frozen_hp HXW.out 4
   simp at c0 c1 c2 c3 c4
   have HBS:Hid (Below w.heap.size w (wr.setCell ⟨w.heap.size,4,none⟩ (.int .i64 (j:Int)))):=HBW.out.setCell (p:=⟨w.heap.size,4,none⟩) (Nat.le_refl _) _
   have HOS:Hid ((wr.setCell ⟨w.heap.size,4,none⟩ (.int .i64 (j:Int))).ownsRow (w.heap.size+1) 81 5 (.slice ao m ac) m (ndRow (ls.take j).flatten)) :=
    HOW.out.kept (row:=some w.heap.size) ⟨rfl,rfl,rfl,by simp [World.setCell],fun k _ hk=>Below.heap_setCell _ _ _ _ (fun e=>hk (by simp [e]))⟩ (Or.inr (fun e=>by have:=own_blk HOW.out _ e;omega))
   have hzs:(wr.setCell ⟨w.heap.size,4,none⟩ (.int .i64 (j:Int))).heap.size=wr.heap.size:=by simp [World.setCell]
   have HOA:=hid (HOS.out.alloc (.cells #[.int .i64 x.kind,.int .i64 x.op,.int .i64 x.n,.string x.text,.int .i64 (j:Int)] 81))
   have HBA:Hid (Below w.heap.size w ((wr.setCell ⟨w.heap.size,4,none⟩ (.int .i64 (j:Int))).alloc (.cells #[.int .i64 x.kind,.int .i64 x.op,.int .i64 x.n,.string x.text,.int .i64 (j:Int)] 81))):=HBS.out.alloc (by rw [hzs];omega) _
   have HCL:Hid (∀ q u,(ndRow [{ x with kids:=(j:Int) }])[q]?=some u→((wr.setCell ⟨w.heap.size,4,none⟩ (.int .i64 (j:Int))).alloc (.cells #[.int .i64 x.kind,.int .i64 x.op,.int .i64 x.n,.string x.text,.int .i64 (j:Int)] 81)).cell? ((⟨wr.heap.size,0,none⟩:Addr).add q)=some u):=fun q u h=>by
    have e:=cell_new_row (wr.setCell ⟨w.heap.size,4,none⟩ (.int .i64 (j:Int))) #[.int .i64 x.kind,.int .i64 x.op,.int .i64 x.n,.string x.text,.int .i64 (j:Int)] 81 q
    rw [hzs] at e
    rw [add_none,Nat.zero_add,e]
    simpa [ndRow] using h
   go_wp2_with (at_builtin;refine wpList_append_own_at _ rfl (.tmp 23) (.tmp 25) 48 rfl (w.heap.size+1) 81 i0 (.agg #[.int .i64 0,.int .i64 0,.int .i64 0,.string ⟨#[]⟩,.int .i64 0]) 5 48 Tryz.underlying48 HHI.out.1 HHI.out.2.1 HHI.out.2.2.1 HHI.out.2.2.2 rfl (by decide) _ m (ndRow (ls.take j).flatten) rfl HOA.out ⟨wr.heap.size,0,none⟩ 1 1 (ndRow [{ x with kids:=(j:Int) }]) rfl rfl HCL.out (ndRow_one _) (by unfold maxLen;omega) (by omega) (by rw [World.size_alloc,hzs];omega) ?_)
   intro v' w1 h2 h3 h4 h5
   rw [← ndRow_append,HALL.out] at h2
   have HL:Hid ((ls.flatten ++ [{ x with kids:=(j:Int) }]).length=m+1):=by
    show _=_
    rw [List.length_append,← HALL.out,HM.out];rfl
   have HN1:Hid (NdIn w1 v' (ls.flatten ++ [{ x with kids:=(j:Int) }])):=NdIn.of_own (B:=w.heap.size+1) (by rw [HL.out];exact h2) (by simp)
   have HB1:=hid (HBA.out.grown h3 HBA.out.size (fun k e=>by have:=own_blk HOS.out k e;omega))
   obtain ⟨a1,c1,rfl⟩:=own_sl h2
   clear h2 h3 h4 h5
   go_wp2
   go_ret
   exact ⟨_,rfl,HN1.out,HB1.out⟩
theorem nd_one (w:World) (x:Nd):NdIn (w.alloc (.cells #[.int .i64 x.kind,.int .i64 x.op,.int .i64 x.n,.string x.text,.int .i64 x.kids] 81)) (.slice (some ⟨w.heap.size,0,none⟩) 1 1) [x] :=
 ⟨by simp,w.heap.size,0,_,rfl,heap_alloc_new w _,fun j u h=>by simpa [ndRow] using h⟩
set_option maxHeartbeats 400000 in
theorem textNode_any (s:ByteArray) (w:World) :
  Calls Tryz.prog 106 #[.string s] w fun e w'=>∃ v,e=.returned v∧NdIn w' v [⟨4,0,0,s,0⟩]∧Below w.heap.size w w':=by
 have HN:=hid (nd_one w ⟨4,0,0,s,0⟩)
 go_enter Tryz.func106,Tryz.ntmps106
 go_wp2
 go_ret
 exact ⟨_,rfl,HN.out,(Below.refl _ _).alloc (Nat.le_refl _) _⟩
set_option maxHeartbeats 400000 in
theorem intNode_any (n:Int) (w:World) :
  Calls Tryz.prog 60 #[.int .i64 n] w fun e w'=>∃ v,e=.returned v∧NdIn w' v [⟨3,0,n,⟨#[]⟩,0⟩]∧Below w.heap.size w w':=by
 have HN:=hid (nd_one w ⟨3,0,n,⟨#[]⟩,0⟩)
 go_enter Tryz.func60,Tryz.ntmps60
 go_wp2
 go_ret
 exact ⟨_,rfl,HN.out,(Below.refl _ _).alloc (Nat.le_refl _) _⟩
set_option maxHeartbeats 400000 in
theorem nameNode_any (s:ByteArray) (w:World) :
  Calls Tryz.prog 107 #[.string s] w fun e w'=>∃ v,e=.returned v∧NdIn w' v [⟨5,0,0,s,0⟩]∧Below w.heap.size w w':=by
 have HN:=hid (nd_one w ⟨5,0,0,s,0⟩)
 go_enter Tryz.func107,Tryz.ntmps107
 go_wp2
 go_ret
 exact ⟨_,rfl,HN.out,(Below.refl _ _).alloc (Nat.le_refl _) _⟩
theorem over_row (x:Nd) (xs:List Value) (ls:List (List Nd)) (n:Nat) (W:World) (hn:xs.length=n) (hn2:n≤1000) (hl:xs.length=ls.length) (h:∀ (j:Nat) u l,xs[j]?=some u→ls[j]?=some l→NdIn W u l) (hsz:ls.flatten.length≤1000000) :
  Calls Tryz.prog 61 #[.agg #[.int .i64 x.kind,.int .i64 x.op,.int .i64 x.n,.string x.text,.int .i64 x.kids],.slice (some ⟨W.heap.size,0,none⟩) n n] (W.alloc (.cells xs.toArray 48)) fun e w'=>∃ s,e=.returned s∧NdIn w' s (ls.flatten ++ [{ x with kids:=n }])∧Below W.heap.size W w':=by
 have hb:=(Below.refl W.heap.size W).alloc (Nat.le_refl _) (.cells xs.toArray 48)
 refine (l2Over_any x (some ⟨W.heap.size,0,none⟩) n n xs ls _ hn (by omega) ⟨hl,.inr ⟨W.heap.size,rfl,xs.toArray,heap_alloc_new W _,fun j u h=>by simpa using h⟩,fun j u l hu hl=>(h j u l hu hl).next hb⟩ hsz).mono ?_
 rintro e w' ⟨s,h1,h2,h3⟩
 exact ⟨s,h1,h2,hb.trans (h3.mono (by simp))⟩
theorem over1 (x:Nd) (a:Value) (la:List Nd) (W:World) (ha:NdIn W a la) (hsz:la.length≤1000000) :
  Calls Tryz.prog 61 #[.agg #[.int .i64 x.kind,.int .i64 x.op,.int .i64 x.n,.string x.text,.int .i64 x.kids],.slice (some ⟨W.heap.size,0,none⟩) 1 1] (W.alloc (.cells #[a] 48)) fun e w'=>∃ s,e=.returned s∧NdIn w' s (la ++ [{ x with kids:=1 }])∧Below W.heap.size W w':=by
 refine (over_row x [a] [la] 1 W rfl (by omega) rfl (fun j u l hu hl=>?_) (by simpa using hsz)).mono ?_
 ·match j,hu,hl with
  | 0,hu,hl=>cases hu;cases hl;exact ha
 ·rintro e w' ⟨s,h1,h2,h3⟩
  exact ⟨s,h1,by simpa using h2,h3⟩
theorem over2 (x:Nd) (a b:Value) (la lb:List Nd) (W:World) (ha:NdIn W a la) (hb:NdIn W b lb) (hsz:la.length+lb.length≤1000000) :
  Calls Tryz.prog 61 #[.agg #[.int .i64 x.kind,.int .i64 x.op,.int .i64 x.n,.string x.text,.int .i64 x.kids],.slice (some ⟨W.heap.size,0,none⟩) 2 2] (W.alloc (.cells #[a,b] 48)) fun e w'=>∃ s,e=.returned s∧NdIn w' s (la ++ lb ++ [{ x with kids:=2 }])∧Below W.heap.size W w':=by
 refine (over_row x [a,b] [la,lb] 2 W rfl (by omega) rfl (fun j u l hu hl=>?_) (by simpa using hsz)).mono ?_
 ·match j,hu,hl with
  | 0,hu,hl=>cases hu;cases hl;exact ha
  | 1,hu,hl=>cases hu;cases hl;exact hb
 ·rintro e w' ⟨s,h1,h2,h3⟩
  exact ⟨s,h1,by simpa using h2,h3⟩
theorem over3 (x:Nd) (a b c:Value) (la lb lc:List Nd) (W:World) (ha:NdIn W a la) (hb:NdIn W b lb) (hc:NdIn W c lc) (hsz:la.length+lb.length+lc.length≤1000000) :
  Calls Tryz.prog 61 #[.agg #[.int .i64 x.kind,.int .i64 x.op,.int .i64 x.n,.string x.text,.int .i64 x.kids],.slice (some ⟨W.heap.size,0,none⟩) 3 3] (W.alloc (.cells #[a,b,c] 48)) fun e w'=>∃ s,e=.returned s∧NdIn w' s (la ++ lb ++ lc ++ [{ x with kids:=3 }])∧Below W.heap.size W w':=by
 refine (over_row x [a,b,c] [la,lb,lc] 3 W rfl (by omega) rfl (fun j u l hu hl=>?_) (by simp;omega)).mono ?_
 ·match j,hu,hl with
  | 0,hu,hl=>cases hu;cases hl;exact ha
  | 1,hu,hl=>cases hu;cases hl;exact hb
  | 2,hu,hl=>cases hu;cases hl;exact hc
 ·rintro e w' ⟨s,h1,h2,h3⟩
  exact ⟨s,h1,by simpa using h2,h3⟩
set_option maxHeartbeats 1000000 in
theorem binNode_any (op:Int) (a b:Value) (la lb:List Nd) (w:World) (ha:NdIn w a la) (hb:NdIn w b lb) (hsz:la.length+lb.length≤1000000) :
  Calls Tryz.prog 109 #[.int .i64 op,a,b] w fun e w'=>∃ v,e=.returned v∧NdIn w' v (la ++ lb ++ [⟨7,op,0,⟨#[]⟩,2⟩])∧Below w.heap.size w w':=by
 have HC:Hid (∀ W,Below w.heap.size w W→Calls Tryz.prog 61 #[.agg #[.int .i64 7,.int .i64 op,.int .i64 0,.string ⟨#[]⟩,.int .i64 0],.slice (some ⟨W.heap.size,0,none⟩) 2 2] (W.alloc (.cells #[a,b] 48)) fun e w'=>∃ s,e=.returned s∧NdIn w' s (la ++ lb ++ [⟨7,op,0,⟨#[]⟩,2⟩])∧Below W.heap.size W w'):=fun W hW=>over2 ⟨7,op,0,⟨#[]⟩,0⟩ a b la lb W (ha.next hW) (hb.next hW) hsz
 obtain ⟨ga,ca,rfl⟩:∃ g c,a=.slice (some ⟨g,0,none⟩) la.length c:=by obtain ⟨_,g,c,_,e,_⟩:=ha;exact ⟨g,_,e⟩
 obtain ⟨gb,cb,rfl⟩:∃ g c,b=.slice (some ⟨g,0,none⟩) lb.length c:=by obtain ⟨_,g,c,_,e,_⟩:=hb;exact ⟨g,_,e⟩
 clear ha hb
 go_enter Tryz.func109,Tryz.ntmps109
 go_wp2_with fail
 refine (HC.out _ (Below.refl _ _)).mono ?_
 rintro e w1 ⟨v,rfl,h1,h2⟩
 have H1:=hid h1
 have H2:=hid h2
 obtain ⟨g,n,c,rfl⟩:∃ g n c,v=.slice (some ⟨g,0,none⟩) n c:=by obtain ⟨_,g,c,_,e,_⟩:=h1;exact ⟨g,_,_,e⟩
 clear h1 h2
 go_wp2
 go_ret
 exact ⟨_,rfl,H1.out,H2.out⟩
theorem info_ns:(Tryz.prog.info? 48).map (fun i=>(i.zero,i.size,i.bytes))=some (some (.slice none 0 0),1,24):=by kernel_rfl
set_option maxHeartbeats 1000000 in
theorem callNode_any (s:ByteArray) (g n:Nat) (xs:List Value) (ls:List (List Nd)) (w:World) (hn:xs.length=n) (hn2:n≤100) (hk:PartsIn w (some ⟨g,0,none⟩) xs ls) (h0:xs≠[]) (hsz:ls.flatten.length≤900000) :
  Calls Tryz.prog 108 #[.string s,.slice (some ⟨g,0,none⟩) n n] w fun e w'=>∃ v,e=.returned v∧NdIn w' v (⟨5,0,0,s,0⟩ :: ls.flatten ++ [⟨12,0,0,⟨#[]⟩,n+1⟩])∧Below w.heap.size w w':=by
 obtain ⟨i0,hi,hz0,hz1,hz2⟩:=info_parts info_ns
 have HHI:=hid (And.intro hi (And.intro hz0 (And.intro hz1 hz2)))
 have HK:=hid hk
 have HN:=hid hn
 have HSZ:=hid hsz
 clear hi hz0 hz1 hz2 hk hn hsz
 have hx1:∀ u ∈ xs,u.oneCell'=true:=fun u hu=>by
  obtain ⟨j,hj,rfl⟩:=List.mem_iff_getElem.1 hu
  obtain ⟨_,_,_,_,e,_⟩:=HK.out.2.2 j xs[j] ls[j]?.get! (List.getElem?_eq_getElem hj) (by rw [List.getElem?_eq_getElem (by rw [← HK.out.1];exact hj)];rfl)
  rw [e];rfl
 have HX1:=hid hx1
 clear hx1
 go_enter Tryz.func108,Tryz.ntmps108
 go_wp2_with fail
 refine (nameNode_any s w).mono ?_
 rintro e w1 ⟨v,rfl,h1,h2⟩
 have H1:=hid h1
 have H2:=hid h2
 have hz1:=h2.size
 obtain ⟨g1,c1,rfl⟩:∃ g c,v=.slice (some ⟨g,0,none⟩) 1 c:=by obtain ⟨_,g,c,_,e,_⟩:=h1;exact ⟨g,_,e⟩
 clear h1 h2
 have HO:Hid ((w1.alloc (.cells #[.slice (some ⟨g1,0,none⟩) 1 c1] 48)).ownsRow w1.heap.size 48 1 (.slice (some ⟨w1.heap.size,0,none⟩) 1 1) 1 [.slice (some ⟨g1,0,none⟩) 1 c1]) :=
  ⟨rfl,.inr ⟨w1.heap.size,1,_,rfl,Nat.le_refl _,heap_alloc_new w1 _,Nat.le_refl _,by unfold maxLen;omega,rfl,rfl⟩⟩
 have HBA:Hid (Below w.heap.size w (w1.alloc (.cells #[.slice (some ⟨g1,0,none⟩) 1 c1] 48))):=H2.out.alloc hz1 _
 have HCL:Hid (∀ q u,xs[q]?=some u→(w1.alloc (.cells #[.slice (some ⟨g1,0,none⟩) 1 c1] 48)).cell? ((⟨g,0,none⟩:Addr).add q)=some u):=fun q u hu=>by
  obtain ⟨g',e,cur,a,b⟩:=HK.out.2.1.resolve_left h0
  injection e with e
  injection e with e
  subst e
  rw [add_none,Nat.zero_add,HBA.out.cell (p:=⟨g,q,none⟩) (Array.getElem?_eq_some_iff.1 a).1]
  unfold World.cell?
  rw [a]
  exact b q u hu
 go_wp2_with (at_builtin;refine wpList_append_own_at _ rfl _ _ 93 rfl w1.heap.size 48 i0 (.slice none 0 0) 1 24 Tryz.underlying93 HHI.out.1 HHI.out.2.1 HHI.out.2.2.1 HHI.out.2.2.2 rfl (by decide) _ 1 _ rfl HO.out ⟨g,0,none⟩ n n xs rfl (by rw [HN.out,Nat.mul_one]) HCL.out HX1.out (by unfold maxLen;omega) (by omega) (by simp) ?_)
 intro v' w2 h2 h3 h4 h5
 have HB2:=hid (HBA.out.grown h3 HBA.out.size (fun k e=>by have:=own_blk HO.out k e;omega))
 have HB12:Hid (Below w1.heap.size w1 w2):=((Below.refl w1.heap.size w1).alloc (Nat.le_refl _) _).grown h3 (by simp) (fun k e=>own_blk HO.out k e)
 obtain ⟨g2,c2,cur2,rfl,hg2,ht2⟩:∃ g2 c2 cur2,v'=.slice (some ⟨g2,0,none⟩) (1+n) c2∧w2.heap[g2]?=some (.cells cur2 48 (0,0))∧cur2.toList.take ((1+n) * 1)=[.slice (some ⟨g1,0,none⟩) 1 c1] ++ xs:=by
  rcases h2.2 with ⟨_,hz⟩ | ⟨g2,cap,cur,hv,_,hg,_,_,_,ht⟩
  ·omega
  ·exact ⟨g2,cap,cur,hv,hg,ht⟩
 have HP:Hid (PartsIn w2 (some ⟨g2,0,none⟩) ([.slice (some ⟨g1,0,none⟩) 1 c1] ++ xs) ([⟨5,0,0,s,0⟩] :: ls)):=by
  refine ⟨by simp [HK.out.1],.inr ⟨g2,rfl,cur2,hg2,fun j u hu=>?_⟩,fun j u l hu hl=>?_⟩
  ·rw [← ht2] at hu
   have hj:=(List.getElem?_eq_some_iff.1 hu).1
   rw [List.length_take] at hj
   rw [List.getElem?_take_of_lt (by omega)] at hu
   simpa using hu
  ·cases j with
   | zero=>cases hu;cases hl;exact H1.out.next HB12.out
   | succ j=>exact ((HK.out.next H2.out).next HB12.out).2.2 j u l (by simpa using hu) (by simpa using hl)
 clear h2 h3 h4 h5 hg2 ht2
 have e1:((1+n:Nat):Int)=(n:Int)+1:=by omega
 go_wp2_with fail
 refine (l2Over_any ⟨12,0,0,⟨#[]⟩,0⟩ (some ⟨g2,0,none⟩) (1+n) c2 ([.slice (some ⟨g1,0,none⟩) 1 c1] ++ xs) ([⟨5,0,0,s,0⟩] :: ls) _ (by simp [HN.out];omega) (by omega) HP.out (by have:=HSZ.out;simp;simp at this;omega)).mono ?_
 rintro e w3 ⟨v3,rfl,h6,h7⟩
 have H6:=hid h6
 have H7:=hid (HB2.out.trans (h7.mono HB2.out.size))
 obtain ⟨g3,n3,c3,rfl⟩:∃ g n c,v3=.slice (some ⟨g,0,none⟩) n c:=by obtain ⟨_,g,c,_,e,_⟩:=h6;exact ⟨g,_,_,e⟩
 clear h6 h7
 go_wp2
 go_ret
 refine ⟨_,rfl,?_,H7.out⟩
 have h:=H6.out
 simp only [List.flatten_cons,e1] at h
 simpa using h
theorem conv_one (W:World) (d:Int) (b:UInt8) (hd:(b.toNat:Int)=d):(convert 22 9 (.slice (some ⟨W.heap.size,0,none⟩) 1 1)).run Tryz.prog (W.alloc (.cells #[.int .u8 d] 5))=.ok (.string ⟨[b].toArray⟩) (W.alloc (.cells #[.int .u8 d] 5)):=by
 refine run_convert_bytes_back (W.alloc (.cells #[.int .u8 d] 5)) 22 9 5 ⟨W.heap.size,0,none⟩ 1 [b] Tryz.underlying22 Tryz.underlying5 Tryz.underlying9 ?_
 intro j hj
 obtain rfl:j=0:=by simpa using hj
 have h:=cell_new_row W #[.int .u8 d] 5 0
 subst hd
 exact h
theorem conv_dig (W:World) (n:Nat) (h:n < 10):(convert 22 9 (.slice (some ⟨W.heap.size,0,none⟩) 1 1)).run Tryz.prog (W.alloc (.cells #[.int .u8 (48+(n:Int))] 5))=.ok (.string ⟨[UInt8.ofNat (48+n)].toArray⟩) (W.alloc (.cells #[.int .u8 (48+(n:Int))] 5)) :=
 conv_one W (48+(n:Int)) (UInt8.ofNat (48+n)) (by rw [UInt8.toNat_ofNat'];omega)
set_option maxHeartbeats 1000000 in
theorem l1Dec_any (k:Nat):∀ (n:Nat) (w:World),n < 10 ^ (k+1)→k≤17 →
  Calls Tryz.prog 20 #[.int .i64 n] w fun e w'=>∃ s:ByteArray,e=.returned (.string s)∧s.size≤k+1∧Below w.heap.size w w':=by
 induction k with
 | zero =>
  intro n w hn _
  have hn:n < 10:=by simpa using hn
  have hlt:(n:Int) < 10:=by omega
  have hw:IntKind.i64.wrap (48+(n:Int))=48+(n:Int):=by rw [IntKind.wrap_i64];omega
  have hw2:IntKind.u8.wrap (48+(n:Int))=48+(n:Int):=by rw [IntKind.wrap_u8];omega
  have hc:=conv_dig w n hn
  go_enter Tryz.func20,Tryz.ntmps20
  go_wp2
  go_ret
  exact ⟨_,rfl,Nat.le_refl _,(Below.refl _ _).alloc (Nat.le_refl _) _⟩
 | succ k ih =>
  intro n w hn hk
  by_cases h10:n < 10
  ·have hlt:(n:Int) < 10:=by omega
   have hw:IntKind.i64.wrap (48+(n:Int))=48+(n:Int):=by rw [IntKind.wrap_i64];omega
   have hw2:IntKind.u8.wrap (48+(n:Int))=48+(n:Int):=by rw [IntKind.wrap_u8];omega
   have hc:=conv_dig w n h10
   clear ih hn
   go_enter Tryz.func20,Tryz.ntmps20
   go_wp2
   go_ret
   exact ⟨_,rfl,Nat.le_add_left _ _,(Below.refl _ _).alloc (Nat.le_refl _) _⟩
  ·have hge:(10:Int)≤n:=by omega
   have HIH:Hid (∀ W,Calls Tryz.prog 20 #[.int .i64 ((n / 10:Nat):Int)] W fun e w'=>∃ s:ByteArray,e=.returned (.string s)∧s.size≤k+1∧Below W.heap.size W w'):=fun W=>ih (n / 10) W (by rw [Nat.pow_succ] at hn;omega) (by omega)
   have hq:(n:Int) / 10=((n / 10:Nat):Int):=by omega
   have hr:(n:Int).tmod 10=((n % 10:Nat):Int):=by rw [Int.tmod_eq_emod_of_nonneg (by omega)];omega
   have hm:n % 10 < 10:=Nat.mod_lt _ (by omega)
   have hnb:n < 10 ^ 18:=Nat.lt_of_lt_of_le hn (Nat.pow_le_pow_right (by omega) (by omega))
   obtain ⟨D,hD⟩:∃ D,n % 10=D:=⟨_,rfl⟩
   obtain ⟨Q,hQ⟩:∃ Q,n / 10=Q:=⟨_,rfl⟩
   have hQb:Q < 10 ^ 18:=by omega
   rw [hD] at hr hm
   rw [hQ] at hq HIH
   have hwq:IntKind.i64.wrap (Q:Int)=(Q:Int):=by rw [IntKind.wrap_i64];omega
   have hw:IntKind.i64.wrap (48+(D:Int))=48+(D:Int):=by rw [IntKind.wrap_i64];omega
   have hw2:IntKind.u8.wrap (48+(D:Int))=48+(D:Int):=by rw [IntKind.wrap_u8];omega
   have hcv:∀ (g:Nat) (W:World),W.cell? ⟨g,0,none⟩=some (.int .u8 (48+(D:Int)))→(convert 22 9 (.slice (some ⟨g,0,none⟩) 1 1)).run Tryz.prog W=.ok (.string ⟨[UInt8.ofNat (48+D)].toArray⟩) W:=fun g W hg=>by
    refine run_convert_bytes_back W 22 9 5 ⟨g,0,none⟩ 1 [UInt8.ofNat (48+D)] Tryz.underlying22 Tryz.underlying5 Tryz.underlying9 ?_
    intro j hj
    obtain rfl:j=0:=by simpa using hj
    have e:((UInt8.ofNat (48+D)).toNat:Int)=48+(D:Int):=by rw [UInt8.toNat_ofNat'];omega
    show W.cell? _=some (.int .u8 ((UInt8.ofNat (48+D)).toNat:Int))
    rw [e]
    exact hg
   have cA:=hcv w.heap.size (w.drew.alloc (.cells #[.int .u8 (48+(D:Int))] 5)) (cell_new_row w.drew #[.int .u8 (48+(D:Int))] 5 0)
   have cA2:=hcv w.heap.size (w.alloc (.cells #[.int .u8 (48+(D:Int))] 5)).drew (cell_new_row w #[.int .u8 (48+(D:Int))] 5 0)
   have HCV:=hid hcv
   clear hcv hn hD hQ ih hnb hQb
   go_enter Tryz.func20,Tryz.ntmps20
   go_wp2_with fail
   go_region_with (go_at_call 20;refine (HIH.out _).mono ?_;rintro e w1 ⟨s1,rfl,hs1,hb1⟩;first | (have cB:=HCV.out w.heap.size w1 ((hb1.cell (p:=⟨w.heap.size,0,none⟩) (by simp)).trans (cell_new_row w #[.int .u8 (48+(D:Int))] 5 0))) | (have cC:=HCV.out w1.heap.size (w1.alloc (.cells #[.int .u8 (48+(D:Int))] 5)) (cell_new_row w1 #[.int .u8 (48+(D:Int))] 5 0)))
   all_goals
    have HS1:=hid hs1
    have HB1:=hid hb1
    clear hs1 hb1
    go_wp2
    go_ret
    refine ⟨_,rfl,by rw [ByteArray.size_append];have:=HS1.out;show s1.size+1≤_;omega,?_⟩
    first
     | exact (((Below.refl w.heap.size w).drew.trans (HB1.out.mono (Nat.le_refl _))).alloc HB1.out.size _)
     | exact ((Below.refl w.heap.size w).alloc (Nat.le_refl _) _).drew.trans (HB1.out.mono (by simp))
structure Fn where
 name:ByteArray
 pad:Option Addr
 pn:Nat
 pc:Nat
 free:Nat
 kind:Int
def seenRow:List (ByteArray × Int)→List Value
 | []=>[]
 | x :: l=>.string x.1 :: .int .i64 x.2 :: seenRow l
def fnRow:List Fn→List Value
 | []=>[]
 | f :: l=>.string f.name :: .slice f.pad f.pn f.pc :: .int .i64 f.free :: .int .i64 f.kind :: fnRow l
def FnOk (w:World) (f:Fn):Prop:=f.name.size≤100∧f.pn≤3∧f.free≤f.pn∧(f.pn=0∨∃ (g:Nat) (cur:Array Value),f.pad=some ⟨g,0,none⟩∧w.heap[g]?=some (.cells cur 3 (0,0))∧∀ i,i < f.pn→∃ k:Int,cur[i]?=some (.int .i64 k))
def GenT (t:TypeId):Prop:=t=45∨t=102∨t=123
structure Gk (B:Nat) (w w':World):Prop where
 os:w'.os=w.os
 tape:w'.tape=w.tape
 output:w'.output=w.output
 size:w.heap.size≤w'.heap.size
 low:∀ k,k < B→w'.heap[k]?=w.heap[k]?
 block:∀ (k:Nat) cs t fr,w.heap[k]?=some (.cells cs t fr)→¬ GenT t→w'.heap[k]?=w.heap[k]?
 fld:∀ (k:Nat) cs fr,w.heap[k]?=some (.cells cs 102 fr)→∃ cs',w'.heap[k]?=some (.cells cs' 102 fr)∧cs'[2]?=cs[2]?
theorem Gk.refl (B:Nat) (w:World):Gk B w w:=⟨rfl,rfl,rfl,Nat.le_refl _,fun _ _=>rfl,fun _ _ _ _ _ _=>rfl,fun _ cs _ h=>⟨cs,h,rfl⟩⟩
theorem Gk.trans {B:Nat} {u v w:World} (h:Gk B u v) (k:Gk B v w):Gk B u w :=
 ⟨k.os.trans h.os,k.tape.trans h.tape,k.output.trans h.output,Nat.le_trans h.size k.size,fun i hi=>(k.low i hi).trans (h.low i hi),fun i cs t fr hc ht=>(k.block i cs t fr ((h.block i cs t fr hc ht).trans hc) ht).trans (h.block i cs t fr hc ht),fun i cs fr hc=>by
  obtain ⟨cs1,h1,e1⟩:=h.fld i cs fr hc
  obtain ⟨cs2,h2,e2⟩:=k.fld i cs1 fr h1
  exact ⟨cs2,h2,e2.trans e1⟩⟩
theorem Gk.of_below {B:Nat} {w w':World} (h:Below w.heap.size w w') (hB:B≤w.heap.size):Gk B w w':=⟨h.os,h.tape,h.output,h.size,fun k hk=>h.block k (by omega),fun k _ _ _ hc _=>h.block k (Array.getElem?_eq_some_iff.1 hc).1,fun k cs _ hc=>⟨cs,(h.block k (Array.getElem?_eq_some_iff.1 hc).1).trans hc,rfl⟩⟩
theorem Gk.of_sv {B R:Nat} {w w':World} (h:Sv (fun k=>k=R) w w') (hB:B≤R) (hR:R < w.heap.size) {cs:Array Value} {fr:Nat × Nat} {t:TypeId} (hc:w.heap[R]?=some (.cells cs t fr)) (ht:GenT t) (ht2:t≠102):Gk B w w' :=
 ⟨h.os,h.tape,h.output,h.size,fun k hk=>h.block k (by omega) (by show ¬ k=R;omega),fun k cs' t' fr' hc' ht'=>h.block k (Array.getElem?_eq_some_iff.1 hc').1 (fun e=>by subst e;rw [hc] at hc';cases hc';exact ht' ht),fun k cs' fr' hc'=>⟨cs',(h.block k (Array.getElem?_eq_some_iff.1 hc').1 (fun e=>by subst e;rw [hc] at hc';cases hc';exact ht2 rfl)).trans hc',rfl⟩⟩
theorem Gk.set {B:Nat} {w w':World} (h:Gk B w w') {G i:Nat} {cs:Array Value} {fr:Nat × Nat} {t:TypeId} (hc:w'.heap[G]?=some (.cells cs t fr)) (ht:GenT t) (hB:B≤G) (hi:i≠2) (v:Value):Gk B w (w'.setCell ⟨G,i,none⟩ v) :=
 h.trans ⟨rfl,rfl,rfl,by simp [World.setCell],fun k hk=>Below.heap_setCell _ _ _ _ (by show k≠G;omega),fun k cs' t' fr' hc' ht'=>Below.heap_setCell _ _ _ _ (fun e=>by subst e;rw [hc] at hc';cases hc';exact ht' ht),fun k cs' fr' hc'=>by
  by_cases e:k=G
  ·subst e
   refine ⟨cs'.setIfInBounds i v,?_,by rw [Array.getElem?_setIfInBounds_ne hi]⟩
   unfold World.setCell
   simp only [Array.getElem?_modify,hc']
   simp
  ·exact ⟨cs',(Below.heap_setCell _ _ _ _ e).trans hc',rfl⟩⟩
theorem NdIn.gk {B:Nat} {w w':World} {v:Value} {l:List Nd} (h:NdIn w v l) (hg:Gk B w w'):NdIn w' v l:=h.keep fun g cur hc=>hg.block g _ _ _ hc (by unfold GenT;decide)
theorem FnOk.gk {B:Nat} {w w':World} {f:Fn} (h:FnOk w f) (hg:Gk B w w'):FnOk w' f:=by
 obtain ⟨h1,h2,h3,h4⟩:=h
 refine ⟨h1,h2,h3,h4.imp_right ?_⟩
 rintro ⟨g,cur,e,a,b⟩
 exact ⟨g,cur,e,(hg.block g _ _ _ a (by unfold GenT;decide)).trans a,b⟩
structure GenAt (R G B:Nat) (w:World) (ns:List (ByteArray × Int)) (fs:List Fn) (c:Nat) (sz:Int) (p:Nat):Prop where
 ex:∃ vn vf,w.heap[G]?=some (.cells #[.pointer (some ⟨R,0,none⟩),vn,vf,.int .i64 c,.int .i64 sz] 102 (0,0))∧w.ownsRow B 123 2 vn ns.length (seenRow ns)∧w.ownsRow B 129 4 vf fs.length (fnRow fs)
 rd:Rd R w p
 le:B≤R∧R < G
 nok:∀ x ∈ ns,x.1.size≤100
 fok:∀ f ∈ fs,FnOk w f
theorem GenAt.next {R G B:Nat} {w w':World} {ns:List (ByteArray × Int)} {fs:List Fn} {c:Nat} {sz:Int} {p:Nat} (h:GenAt R G B w ns fs c sz p) (hb:Below w.heap.size w w'):GenAt R G B w' ns fs c sz p:=by
 obtain ⟨⟨vn,vf,h1,h2,h3⟩,h4,h5,h6,h7⟩:=h
 exact ⟨⟨vn,vf,(hb.block G (Array.getElem?_eq_some_iff.1 h1).1).trans h1,own_below h2 hb,own_below h3 hb⟩,h4.next hb,h5,h6,fun f hf=>(h7 f hf).gk (Gk.of_below (B:=0) hb (Nat.zero_le _))⟩
theorem GenAt.bw {R G B:Nat} {w:World} {ns:List (ByteArray × Int)} {fs:List Fn} {c:Nat} {sz:Int} {p:Nat} (h:GenAt R G B w ns fs c sz p):B≤w.heap.size:=by have:=h.rd.lt;have:=h.le.1;omega
theorem own_setG {w:World} {B G i e size n:Nat} {v q:Value} {xs:List Value} (h:w.ownsRow B e size v n xs) {cs:Array Value} {t:TypeId} (hc:w.heap[G]?=some (.cells cs t (0,0))) (ht:t≠e):(w.setCell ⟨G,i,none⟩ q).ownsRow B e size v n xs:=by
 have hne:v.ownBlock≠some G:=by
  rcases h.2 with ⟨rfl,_⟩ | ⟨g,cap,cur,rfl,_,hg,_⟩
  ·simp [Value.ownBlock]
  ·intro e
   simp only [Value.ownBlock,Option.some.injEq] at e
   subst e
   rw [hg] at hc
   cases hc
   exact ht rfl
 exact h.kept (row:=some G) ⟨rfl,rfl,rfl,by simp [World.setCell],fun k _ hk=>Below.heap_setCell _ _ _ _ (fun e=>hk (by simp [e]))⟩ (Or.inr hne)
theorem GenAt.count {R G B:Nat} {w:World} {ns:List (ByteArray × Int)} {fs:List Fn} {c:Nat} {sz:Int} {p:Nat} (h:GenAt R G B w ns fs c sz p) (c':Nat):GenAt R G B (w.setCell ⟨G,3,none⟩ (.int .i64 c')) ns fs c' sz p∧Gk B w (w.setCell ⟨G,3,none⟩ (.int .i64 c')):=by
 obtain ⟨⟨vn,vf,h1,h2,h3⟩,h4,h5,h6,h7⟩:=h
 have hg:Gk B w (w.setCell ⟨G,3,none⟩ (.int .i64 c')):=(Gk.refl B w).set h1 (by unfold GenT;decide) (by omega) (by decide) _
 refine ⟨⟨⟨vn,vf,?_,own_setG h2 h1 (by decide),own_setG h3 h1 (by decide)⟩,?_,h5,h6,fun f hf=>(h7 f hf).gk hg⟩,hg⟩
 ·have:=set_at (i:=3) (.int .i64 (c':Int)) h1
  simpa using this
 ·exact h4.sv (S:=fun k=>k=G) (Sv.setCell (S:=fun k=>k=G) (Sv.refl _ w) (p:=⟨G,3,none⟩) (.inl rfl) _) (fun k e=>by subst e;exact h5.2)
theorem GenAt.sized {R G B:Nat} {w:World} {ns:List (ByteArray × Int)} {fs:List Fn} {c:Nat} {sz:Int} {p:Nat} (h:GenAt R G B w ns fs c sz p) (s':Int):GenAt R G B (w.setCell ⟨G,4,none⟩ (.int .i64 s')) ns fs c s' p∧Gk B w (w.setCell ⟨G,4,none⟩ (.int .i64 s')):=by
 obtain ⟨⟨vn,vf,h1,h2,h3⟩,h4,h5,h6,h7⟩:=h
 have hg:Gk B w (w.setCell ⟨G,4,none⟩ (.int .i64 s')):=(Gk.refl B w).set h1 (by unfold GenT;decide) (by omega) (by decide) _
 refine ⟨⟨⟨vn,vf,?_,own_setG h2 h1 (by decide),own_setG h3 h1 (by decide)⟩,?_,h5,h6,fun f hf=>(h7 f hf).gk hg⟩,hg⟩
 ·have:=set_at (i:=4) (.int .i64 s') h1
  simpa using this
 ·exact h4.sv (S:=fun k=>k=G) (Sv.setCell (S:=fun k=>k=G) (Sv.refl _ w) (p:=⟨G,4,none⟩) (.inl rfl) _) (fun k e=>by subst e;exact h5.2)
theorem GenAt.picked {R G B:Nat} {w w':World} {ns:List (ByteArray × Int)} {fs:List Fn} {c:Nat} {sz:Int} {p p':Nat} (h:GenAt R G B w ns fs c sz p) (hr:Rd R w' p') (hs:Sv (fun k=>k=R) w w'):GenAt R G B w' ns fs c sz p'∧Gk B w w':=by
 obtain ⟨⟨vn,vf,h1,h2,h3⟩,h4,h5,h6,h7⟩:=h
 obtain ⟨ad,n,cap,hR,_⟩:=h4
 have hlt:=(Array.getElem?_eq_some_iff.1 hR).1
 have hg:Gk B w w':=Gk.of_sv hs h5.1 hlt hR (by unfold GenT;decide) (by decide)
 have own:∀ {e size n:Nat} {v:Value} {xs:List Value},w.ownsRow B e size v n xs→45≠e→w'.ownsRow B e size v n xs:=fun {e size n v xs} h ht=>by
  obtain ⟨a1,a2 | ⟨g,cap,cur,b1,b2,b3,b4⟩⟩:=h
  ·exact ⟨a1,.inl a2⟩
  ·exact ⟨a1,.inr ⟨g,cap,cur,b1,b2,(hs.block g (Array.getElem?_eq_some_iff.1 b3).1 (fun e=>by subst e;rw [hR] at b3;cases b3;exact ht rfl)).trans b3,b4⟩⟩
 exact ⟨⟨⟨vn,vf,(hs.block G (Array.getElem?_eq_some_iff.1 h1).1 (by show ¬ G=R;omega)).trans h1,own h2 (by decide),own h3 (by decide)⟩,hr,h5,h6,fun f hf=>(h7 f hf).gk hg⟩,hg⟩
set_option maxHeartbeats 1000000 in
theorem fresh_any (R G B:Nat) (w:World) (ns:List (ByteArray × Int)) (fs:List Fn) (c:Nat) (sz:Int) (p:Nat) (h:GenAt R G B w ns fs c sz p) (hc:c≤1000000) :
  Calls Tryz.prog 93 #[.pointer (some ⟨G,0,none⟩)] w fun e w'=>(∃ s:ByteArray,e=.returned (.string s)∧s.size≤100)∧GenAt R G B w' ns fs (c+1) sz p∧Gk B w w':=by
 obtain ⟨hG2,hk2⟩:=h.count (c+1)
 have HG2:=hid hG2
 have HK2:=hid hk2
 obtain ⟨vn,vf,h1,h2,h3⟩:=h.ex
 have c3:=cell_hp h1 3
 have f3:=frozen_hp h1 3
 simp at c3
 have hB:=h.bw
 have hw:IntKind.i64.wrap ((c:Int)+1)=(c:Int)+1:=by rw [IntKind.wrap_i64];omega
 have c3':(w.setCell ⟨G,3,none⟩ (.int .i64 ((c:Int)+1))).cell? ⟨G,3,none⟩=some (.int .i64 ((c:Int)+1)):=by
  have h:=cell_hp (set_at (i:=3) (.int .i64 ((c:Int)+1)) h1) 3
  simpa using h
 have HD:Hid (∀ W,Calls Tryz.prog 20 #[.int .i64 ((c:Int)+1)] W fun e w'=>∃ s:ByteArray,e=.returned (.string s)∧s.size≤18∧Below W.heap.size W w'):=fun W=>l1Dec_any 17 (c+1) W (by omega) (by omega)
 clear hG2 hk2 h1 h2 h3 h
 go_enter Tryz.func93,Tryz.ntmps93
 go_wp2_with fail
 refine (HD.out _).mono ?_
 rintro e w1 ⟨s,rfl,hs,hb⟩
 have HS:=hid hs
 have HB:=hid hb
 clear hb
 go_wp2
 go_ret
 have hz:(w.setCell ⟨G,3,none⟩ (.int .i64 ((c:Int)+1))).heap.size=w.heap.size:=by simp [World.setCell]
 exact ⟨⟨_,rfl,by rw [ByteArray.size_append];have:=HS.out;show 1+s.size≤100;omega⟩,HG2.out.next HB.out,HK2.out.trans (Gk.of_below HB.out (by rw [show ((c+1:Nat):Int)=(c:Int)+1 by omega,hz];exact hB))⟩
end Go.Proofs.YtabbahpalemlhaaGreatDoor
