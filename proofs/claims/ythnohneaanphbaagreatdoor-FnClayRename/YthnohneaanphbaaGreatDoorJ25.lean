import Derived.Deep.RegionLaw
import Derived.Test.YthnohneaanphbaaGreatDoorJ00
import Derived.Test.YthnohneaanphbaaGreatDoorJ20
import Derived.Test.YthnohneaanphbaaGreatDoorJ21
import Derived.Test.YthnohneaanphbaaGreatDoorJ22
import Derived.Test.YthnohneaanphbaaGreatDoorJ19
import Derived.Test.YthnohneaanphbaaGreatDoorJ05
import Derived.Test.YthnohneaanphbaaGreatDoorJ04
import Derived.Test.YthnohneaanphbaaGreatDoorJ15
import Derived.Test.YthnohneaanphbaaGreatDoorJ23
import Derived.Test.YthnohneaanphbaaGreatDoorJ24
import Derived.Test.YthnohneaanphbaaGreatDoorJ17
import Derived.Test.YthnohneaanphbaaGreatDoorJ09
import Derived.Test.YthnohneaanphbaaGreatDoorJ18
namespace Go.Proofs.YthnohneaanphbaaGreatDoor.K
theorem run_pos (p:UInt8→Bool) (c:UInt8) (r:List UInt8) (h:p c=true):1≤run p (c :: r):=by rw [run_cons,if_pos h];omega
theorem marks_pos:∀ m ∈ marks,1≤m.length:=by decide
theorem one_size (L:List UInt8) (h:(one L).code=0):1≤(one L).size∧(one L).size≤L.length:=by
 cases L with
 | nil=>simp [one,One.bad] at h
 | cons c r =>
  simp only [one] at h ⊢
  split at h
  ·rename_i hc
   rw [if_pos hc]
   unfold textOne at h ⊢
   cases hu:unqF (r.length+1) r with
   | none=>rw [hu] at h;simp [One.bad] at h
   | some x =>
    obtain ⟨o,k⟩:=x
    rw [hu] at h
    have:=unqF_pos hu
    simp only at h ⊢
    by_cases hl:1000 < o.length
    ·rw [if_pos hl] at h;simp [One.bad] at h
    ·rw [if_neg hl];simp;omega
  ·rename_i hc
   rw [if_neg hc]
   split at h
   ·rename_i hd
    rw [if_pos hd]
    unfold numOne at h ⊢
    split at h
    ·simp [One.bad] at h
    ·rename_i hx
     rw [if_neg hx]
     exact ⟨run_pos _ _ _ hd,run_le _ _⟩
   ·rename_i hd
    rw [if_neg hd]
    split at h
    ·rename_i hl
     rw [if_pos hl]
     unfold nameOne at h ⊢
     split at h
     ·rename_i hx
      rw [if_pos hx];exact ⟨run_pos _ _ _ hl,run_le _ _⟩
     ·rename_i hx
      rw [if_neg hx]
      split at h
      ·simp [One.bad] at h
      ·rename_i hy
       rw [if_neg hy];exact ⟨run_pos _ _ _ hl,run_le _ _⟩
    ·rename_i hl
     rw [if_neg hl]
     unfold markOne at h ⊢
     cases hm:marks.find? (fun m=>m.isPrefixOf (c :: r)) with
     | none=>rw [hm] at h;simp [One.bad] at h
     | some m =>
      have h1:=List.mem_of_find?_eq_some hm
      have h2:=List.find?_some hm
      have h3:=(List.isPrefixOf_iff_prefix.1 h2).length_le
      exact ⟨marks_pos m h1,h3⟩
theorem scanA_end (f:Nat) (l:List UInt8) (p:Nat) (h:l.length≤p):scanA f l p=([],none):=by
 cases f with
 | zero=>rfl
 | succ f=>unfold scanA;rw [if_pos h]
theorem scanA_bad (f:Nat) (l:List UInt8) (p:Nat) (h:p < l.length) (hc:¬ (one (l.drop p)).code=0):scanA (f+1) l p=([],some ((one (l.drop p)).code,p)):=by
 unfold scanA;rw [if_neg (by omega),if_pos hc]
theorem scanA_go (f:Nat) (l:List UInt8) (p:Nat) (h:p < l.length) (hc:(one (l.drop p)).code=0):scanA (f+1) l p =
  (⟨(one (l.drop p)).kind,(one (l.drop p)).text,(one (l.drop p)).n,p⟩ :: (scanA f l (p+(one (l.drop p)).size+gapN false (l.drop (p+(one (l.drop p)).size)))).1,
    (scanA f l (p+(one (l.drop p)).size+gapN false (l.drop (p+(one (l.drop p)).size)))).2):=by
 rw [scanA,if_neg (by omega),if_neg (by simp [hc])]
def scanRest (l:List UInt8) (f p:Nat) (pre:List Tok):Prop:=scanA (l.length+1) l (gapN false l)=(pre ++ (scanA f l p).1,(scanA f l p).2)
theorem scanRest_go {l:List UInt8} {f p:Nat} {pre:List Tok} (hr:scanRest l (f+1) p pre) (h:p < l.length) (hc:(one (l.drop p)).code=0) :
  scanRest l f (p+(one (l.drop p)).size+gapN false (l.drop (p+(one (l.drop p)).size))) (pre ++ [⟨(one (l.drop p)).kind,(one (l.drop p)).text,(one (l.drop p)).n,p⟩]):=by
 unfold scanRest at *;rw [hr,scanA_go f l p h hc];simp
theorem scanRest_bad {l:List UInt8} {f p:Nat} {pre:List Tok} (hr:scanRest l (f+1) p pre) (h:p < l.length) (hl:l.length≤8000) (hc:¬ (one (l.drop p)).code=0) :
  scanR l=([],(one (l.drop p)).code,p):=by
 unfold scanRest at hr;unfold scanR;rw [if_neg (by omega),hr,scanA_bad f l p h hc]
theorem scanRest_end {l:List UInt8} {f p:Nat} {pre:List Tok} (hr:scanRest l f p pre) (h:l.length≤p) (hl:l.length≤8000):scanR l=(pre,0,0):=by
 unfold scanRest at hr;unfold scanR;rw [if_neg (by omega),hr,scanA_end f l p h];simp
end Go.Proofs.YthnohneaanphbaaGreatDoor.K
namespace Go.Proofs.YthnohneaanphbaaGreatDoor
open Go.RowKit
theorem l2Plain_any (x:Nd) (w:World) (ht:x.text.size≤maxLen) :
  Calls Tryz.prog 48 #[ndV x] w fun e w'=>Says e (PlainNd x)∧Below w.heap.size w w':=by
 obtain ⟨k,op,n,t,kids⟩:=x
 have h:Pl1 k:=by
  by_cases a:k=1∨k=2∨k=3∨k=4∨k=5∨k=6
  ·exact l2Plain_A k a
  ·by_cases b:k=7∨k=8∨k=9∨k=10∨k=11∨k=12
   ·exact l2Plain_B k b
   ·by_cases c:k=13∨k=14∨k=15∨k=16∨k=17∨k=18
    ·exact l2Plain_C k c
    ·by_cases d:k=19∨k=20∨k=21∨k=22∨k=23∨k=24
     ·exact l2Plain_D k d
     ·exact l2Plain_E k (by omega)
 exact h op n kids t w ht
end Go.Proofs.YthnohneaanphbaaGreatDoor
namespace Go.Proofs.YthnohneaanphbaaGreatDoor
open Go.RowKit
set_option maxRecDepth 20000
set_option maxHeartbeats 4000000 in
theorem KO_D (kind:Int) (hkind:kind=18∨kind=19∨kind=21∨kind=22):KO kind:=by
 intro b N cap g o m c nd ks w hm hb hg hn hk
 have HN:=hid hn
 have HK:=hid hk
 clear hn hk
 go_enter Tryz.func49,Tryz.ntmps49
 go_wp2
 go_loopw [8,10] (fun es i wr=>∃ j e:Nat,j≤m∧e≤j∧i=.int .i64 j∧es=.int .i64 e∧(e=j ↔ AllE j (fun i=>nd (ks i)))∧Below (w.heap.size+1) (w.alloc (.cells #[.slice (some ⟨b,0,none⟩) N cap] 25)) wr) (fun _ i _=>m - (intOf i).toNat)
 case atStart=>exact ⟨0,0,Nat.zero_le _,Nat.zero_le _,rfl,rfl,⟨fun _ i h=>absurd h (Nat.not_lt_zero _),fun _=>rfl⟩,Below.refl _ _⟩
 case round =>
  obtain ⟨j,e,hj,he,rfl,rfl,hall,hbw⟩:=hrel
  have HALL:=hid hall
  have HBW:=hid hbw
  clear hall hbw
  by_cases hlt:j < m
  ·have t0:=tree_cell HBW.out
   obtain ⟨a0,a1⟩:=(HK.out.below (btree HBW.out) hg) j hlt
   obtain ⟨a2,_⟩:=(HN.out.below (btree HBW.out) hb) (ks j) a1
   have HS:=hid (AllE_step HALL.out he)
   cases hE:isE (nd (ks j)).kind
   ·have NX:=hid (HS.out.2 hE)
    clear HS
    go_wp2
    go_region_with (go_at_call 75;refine (l2E_any _ _).mono ?_;rintro e w' ⟨rfl,hw⟩;have hw2:=hw.symm;clear hw;subst hw2)
    all_goals go_wp2
    all_goals
     go_roundw
     case rel=>exact ⟨j+1,e,by omega,by omega,by go_num,rfl,NX.out,HBW.out.drew⟩
     case measure=>simp [intOf];omega
   ·have NX:=hid (HS.out.1 hE)
    clear HS
    go_wp2
    go_region_with (go_at_call 75;refine (l2E_any _ _).mono ?_;rintro e w' ⟨rfl,hw⟩;have hw2:=hw.symm;clear hw;subst hw2)
    all_goals go_wp2
    all_goals
     go_roundw
     case rel=>exact ⟨j+1,e+1,by omega,by omega,by go_num,by go_num,NX.out,HBW.out.drew⟩
     case measure=>simp [intOf];omega
  ·obtain rfl:j=m:=by omega
   rcases hkind with rfl | rfl | rfl | rfl
   all_goals go_wp2
   all_goals go_ret
   all_goals refine ⟨⟨_,rfl,?_⟩,btree HBW.out⟩
   all_goals simp [KidsOk,← HALL.out, *]
   all_goals omega
theorem NodesAt.set {W:World} {g N b:Nat} {nd:Nat→Nd} (h:NodesAt W g N nd) (hb:b≠g) (v:Value):NodesAt (W.setCell ⟨b,0,none⟩ v) g N nd:=by
 intro i hi
 obtain ⟨c0,c1,c2,c3,c4⟩:=h i hi
 have k:∀ j,(W.setCell ⟨b,0,none⟩ v).cell? ⟨g,j,none⟩=W.cell? ⟨g,j,none⟩:=fun j=>by
  unfold World.cell? World.setCell
  simp only [Array.getElem?_modify]
  rw [if_neg hb]
 exact ⟨(k _).trans c0,(k _).trans c1,(k _).trans c2,(k _).trans c3,(k _).trans c4⟩
end Go.Proofs.YthnohneaanphbaaGreatDoor
namespace Go.Proofs.YthnohneaanphbaaGreatDoor
open Go.RowKit
theorem usesFit_any (x:Nd) (r:Nat) (w:World) (ht:x.text.size≤maxLen) (hr:w.heap[r]?=some (.map (wordE 17) 17)) :
  Calls Tryz.prog 61 #[ndV x,.map (some r)] w fun e w'=>Says e (PlainNd x∧1≤x.kind∧x.kind≤24)∧Below w.heap.size w w':=by
 obtain ⟨k,op,n,t,kids⟩:=x
 have h:UF k:=by
  by_cases a:k=1∨k=8∨k=9∨k=10∨k=12∨k=13∨k=15∨k=22∨k=24
  ·exact UF_A k a
  ·by_cases b:k=2∨k=3∨k=4∨k=17∨k=6∨k=7
   ·exact UF_B k b
   ·by_cases c:k=5∨k=11∨k=14∨k=16∨k=18∨k=19∨k=20∨k=21
    ·exact UF_C k c
    ·by_cases d:k=23
     ·subst d;exact UF_23
     ·exact UF_E k (by omega)
 exact h op n kids t r w ht hr
end Go.Proofs.YthnohneaanphbaaGreatDoor
namespace Go.Proofs.YthnohneaanphbaaGreatDoor
open Go.RowKit
set_option maxRecDepth 20000
structure KPI (nd:Nat→Nd) (O:List (List Nat)) (N B gk:Nat) (W0 W:World) (j:Nat) (vo:Value) (s:List Nat):Prop where
 kf:kidsF nd j=some (O.take j,s)
 own:W.ownsRow B 3 1 vo s.length (intRow s)
 vne:vo.ownBlock≠some gk
 grid:∃ cur,W.heap[gk]?=some (.cells cur 31 (0,0))∧cur.size=N∧∀ i,i < N→∃ v,cur[i]?=some v∧(j≤i→v=.slice none 0 0) ∧
  (i < j→W.ownsRow B 3 1 v (O.getD i []).length (intRow (O.getD i []))∧v.ownBlock≠some gk∧∀ r,v.ownBlock=some r→vo.ownBlock≠some r)
 bel:Below B W0 W
 gkB:B≤gk
theorem own_keepC {w w':World} {B e size n:Nat} {v:Value} {xs:List Value} (h:w.ownsRow B e size v n xs) (hk:∀ r,v.ownBlock=some r→w'.heap[r]?=w.heap[r]?):w'.ownsRow B e size v n xs:=by
 obtain ⟨h1,h2 | ⟨g,cap,cur,rfl,b,c,d⟩⟩:=h
 ·exact ⟨h1,.inl h2⟩
 ·exact ⟨h1,.inr ⟨g,cap,cur,rfl,b,(hk g rfl).trans c,d⟩⟩
theorem own_lt {w:World} {B e size n r:Nat} {v:Value} {xs:List Value} (h:w.ownsRow B e size v n xs) (hr:v.ownBlock=some r):B≤r∧r < w.heap.size:=h.lt r hr
theorem KPI_step {nd:Nat→Nd} {O:List (List Nat)} {N B gk:Nat} {W0 wr X w2 w5:World} {j:Nat} {vo v1 v3:Value} {s sp sk:List Nat} {row:Option Nat} {o:Obj} (h:KPI nd O N B gk W0 wr j vo s) (hj:j < N) (hO:O.getD j []=sk) (hkf:kidsF nd (j+1)=some (O.take (j+1),sp ++ [j]))
  (hB:B≤wr.heap.size) (hX:Below wr.heap.size wr X) (o1:w2.ownsRow B 3 1 v1 sk.length (intRow sk)) (g1:X.grownBy w2 none) (b1:∀ r,v1.ownBlock=some r→wr.heap.size≤r)
  (o3:w5.ownsRow B 3 1 v3 (sp.length+1) (intRow sp ++ [.int .i64 j])) (g3:((w2.setCell ⟨gk,j,none⟩ v1).alloc o).grownBy w5 row) (hr:∀ k,row=some k→vo.ownBlock=some k) (b3:v3.ownBlock=row∨v3.ownBlock=some ((w2.setCell ⟨gk,j,none⟩ v1).alloc o).heap.size) :
  KPI nd O N B gk W0 w5 (j+1) v3 (sp ++ [j]):=by
 obtain ⟨_,ho,hv,⟨cur,c1,c2,c3⟩,hb,hg⟩:=h
 have lgk:=(Array.getElem?_eq_some_iff.1 c1).1
 have e2:∀ r,r < wr.heap.size→w2.heap[r]?=wr.heap[r]?:=fun r hr=>(g1.block r (Nat.lt_of_lt_of_le hr hX.size) (fun e=>by cases e)).trans (hX.block r hr)
 have z2:wr.heap.size≤w2.heap.size:=Nat.le_trans hX.size g1.size
 have z3:(w2.setCell ⟨gk,j,none⟩ v1).heap.size=w2.heap.size:=by simp [World.setCell]
 have z4:((w2.setCell ⟨gk,j,none⟩ v1).alloc o).heap.size=w2.heap.size+1:=by rw [World.size_alloc,z3]
 have e5:∀ r,r < w2.heap.size→r≠gk→row≠some r→w5.heap[r]?=w2.heap[r]?:=fun r h1 h2 h3 =>
  (g3.block r (by rw [z4];omega) (fun e=>h3 e.symm)).trans ((Below.heap_alloc _ _ _ (by rw [z3];exact h1)).trans (Below.heap_setCell _ _ _ _ h2))
 have hrgk:row≠some gk:=fun e=>hv (hr gk e)
 have egk:w5.heap[gk]?=some (.cells (cur.setIfInBounds j v1) 31 (0,0)):=by
  rw [g3.block gk (by rw [z4];omega) (fun e=>hrgk e.symm),Below.heap_alloc _ _ _ (by rw [z3];omega)]
  exact set_atC v1 ((e2 gk lgk).trans c1)
 have hv3:∀ r,v3.ownBlock=some r→vo.ownBlock=some r∨r=w2.heap.size+1:=fun r e=>by
  rcases b3 with h | h
  ·exact .inl (hr r (h.symm.trans e))
  ·rw [e,z4] at h;injection h with h;exact .inr h
 refine ⟨hkf,?_,?_,⟨_,egk,by simp [c2],fun i hi=>?_⟩,?_,hg⟩
 ·rw [List.length_append]
  have e:intRow (sp ++ [j])=intRow sp ++ [.int .i64 j]:=by simp [intRow]
  rw [e];exact o3
 ·intro e
  rcases hv3 gk e with h | h
  ·exact hv h
  ·omega
 ·by_cases e:i=j
  ·subst e
   refine ⟨v1,Array.getElem?_setIfInBounds_self_of_lt (by omega),fun h=>by omega,fun _=>⟨?_,?_,?_⟩⟩
   ·rw [hO]
    exact own_keepC o1 fun r hr1=>e5 r (own_lt o1 hr1).2 (by have:=b1 r hr1;omega) (fun e=>by have:=own_lt ho (hr r e);have:=b1 r hr1;omega)
   ·intro e;have:=b1 _ e;omega
   ·intro r hr1 e
    have:=b1 r hr1
    have:=(own_lt o1 hr1).2
    rcases hv3 r e with h | h
    ·have:=own_lt ho h;omega
    ·omega
  ·obtain ⟨v,d1,d2,d3⟩:=c3 i hi
   refine ⟨v,by rw [Array.getElem?_setIfInBounds_ne (fun h=>e h.symm)];exact d1,fun h=>d2 (by omega),fun h=>?_⟩
   obtain ⟨q1,q2,q3⟩:=d3 (by omega)
   refine ⟨own_keepC q1 fun r hr1=>?_,q2,fun r hr1 e=>?_⟩
   ·have:=(own_lt q1 hr1).2
    exact (e5 r (by omega) (fun e=>q2 (by rw [hr1,e])) (fun e=>q3 r hr1 (hr r e))).trans (e2 r this)
   ·have:=(own_lt q1 hr1).2
    rcases hv3 r e with h | h
    ·exact q3 r hr1 h
    ·omega
 ·refine hb.trans ⟨?_,?_,?_,?_,fun r hr1=>?_⟩
  ·exact g3.os.trans (g1.os.trans hX.os)
  ·exact g3.tape.trans (g1.tape.trans hX.tape)
  ·exact g3.output.trans (g1.output.trans hX.output)
  ·have:=g3.size;rw [z4] at this;omega
  ·exact (e5 r (by omega) (by omega) (fun e=>by have:=own_lt ho (hr r e);omega)).trans (e2 r (by omega))
theorem set_alloc (w:World) (O:Obj) (a:Addr) (v:Value) (h:a.block < w.heap.size):((w.setCell a v).alloc O).drew=((w.alloc O).drew).setCell a v:=by
 unfold World.setCell World.alloc World.drew
 simp only [World.mk.injEq,and_true]
 apply Array.ext
 ·simp
 ·intro i h1 h2
  simp only [Array.getElem_push,Array.getElem_modify,Array.size_modify]
  by_cases hi:i < w.heap.size
  ·simp [hi]
  ·rw [dif_neg hi,dif_neg hi,if_neg (by omega)]
theorem append_nil (ty:TypeId) (w:World):(Builtin.append_ #[31,31] ty #[.slice none 0 0,.slice none 0 0]).run Tryz.prog w=.ok (.slice none 0 0) w:=by
 rfl
set_option maxHeartbeats 2000000 in
theorem kidPlaces_any (b N cap:Nat) (nd:Nat→Nd) (O:List (List Nat)) (S:List Nat) (w:World) (hN:N≤5000) (hb:b < w.heap.size) (hn:NodesAt w b N nd) (hO:kidsF nd N=some (O,S)) :
  Calls Tryz.prog 35 #[.slice (some ⟨b,0,none⟩) N cap] w fun e w'=>∃ gk,e=.returned (.slice (some ⟨gk,0,none⟩) N N)∧w.heap.size≤gk∧KG w' gk N O∧(∀ i,i < N→∀ g n c,w'.cell? ⟨gk,i,none⟩=some (.slice (some ⟨g,0,none⟩) n c)→w.heap.size≤g)∧Below w.heap.size w w':=by
 have HN:=hid hn
 have HO:=hid hO
 clear hn hO
 obtain ⟨i0,hi,hz0,hz1,hz2⟩:=info_parts info_int
 have HHI:=hid (And.intro hi (And.intro hz0 (And.intro hz1 hz2)))
 clear hi hz0 hz1 hz2
 obtain ⟨i1,hi,hz0,hz1,hz2⟩:=info_parts info_ints
 have HHS:=hid (And.intro hi (And.intro hz0 (And.intro hz1 hz2)))
 clear hi hz0 hz1
 go_enter Tryz.func35,Tryz.ntmps35
 go_wp2_with (at_make;refine wpList_make_full _ rfl _ _ 61 rfl w.heap.size 31 i1 (.slice none 0 0) 1 Tryz.underlying61 HHS.out.1 HHS.out.2.1 HHS.out.2.2.1 _ _ _ _ N rfl rfl rfl rfl (by rw [hz2];omega) (by unfold maxLen;omega) (Nat.le_refl _) ?_;intro w1 o1 g1)
 have HG0:Hid (∃ cur,w1.heap[w.heap.size]?=some (.cells cur 31 (0,0))∧cur.size=N∧∀ i,i < N→cur[i]?=some (.slice none 0 0)):=by
  obtain ⟨h1,⟨h2,_⟩ | ⟨g,c,cur,e,_,h4,_,_,h7,h8⟩⟩:=o1
  ·cases h2
  ·cases e
   refine ⟨cur,h4,by omega,fun i hi=>?_⟩
   rw [Nat.mul_one,List.take_of_length_le (by simp;omega)] at h8
   have e:(Value.slice none 0 0).cells=#[.slice none 0 0]:=rfl
   rw [e,toList_madeCells_one] at h8
   rw [← Array.getElem?_toList,h8,List.getElem?_replicate,if_pos hi]
 have HB0:=hid ((Below.refl w.heap.size w).grown g1 (Nat.le_refl _) (fun q e=>by cases e))
 clear o1 g1
 go_loopw [4,13] (fun vo i wr=>∃ (j:Nat) (s:List Nat),j≤N∧i=.int .i64 j∧KPI nd O N w.heap.size w.heap.size w wr j vo s) (fun _ i _=>N - (intOf i).toNat)
 case atStart =>
  refine ⟨0,[],Nat.zero_le _,rfl,rfl,World.ownsRow_nil _ _ _ _,(by simp [Value.ownBlock]),?_,HB0.out,Nat.le_refl _⟩
  obtain ⟨cur,h1,h2,h3⟩:=HG0.out
  exact ⟨cur,h1,h2,fun i hi=>⟨_,h3 i hi,fun _=>rfl,fun h=>absurd h (Nat.not_lt_zero _)⟩⟩
 case round =>
  obtain ⟨j,s,hj,rfl,hkp⟩:=hrel
  have HKP:=hid hkp
  clear hkp HB0
  have HBW:=hid HKP.out.bel
  have hsz:=HBW.out.size
  by_cases hlt:j < N
  ·obtain ⟨a0,a1,a2,a3,a4⟩:=(HN.out.below HBW.out hb) j hlt
   obtain ⟨sp,sk,hk1,hk2,hk3⟩:=kidsF_at HO.out j hlt
   have hs:s=sp ++ sk:=by have:=HKP.out.kf;rw [hk1] at this;injection this with this;injection this with _ this;exact this.symm
   subst hs
   have hkk:(nd j).kids=sk.length:=by
    obtain ⟨o',sp',sk',q1,q2,q3,q4⟩:=kidsF_step hk2
    rw [q1] at hk1
    injection hk1 with hk1
    injection hk1 with _ hk1
    have e1:=List.append_inj_left' q3 rfl
    subst e1
    rw [q4,List.append_cancel_left hk1]
   have HK2:=hid hk2
   have HK3:=hid hk3
   have hle:=(kidsF_len nd _ _ _ hk1).2.1
   obtain ⟨p,hp⟩:∃ p,sp.length=p:=⟨_,rfl⟩
   obtain ⟨k,hsk⟩:∃ k,sk.length=k:=⟨_,rfl⟩
   rw [List.length_append,hp,hsk] at hle
   rw [hkk,hsk] at a4
   have HP:=hid hp
   have HSK:=hid hsk
   clear hkk hk1 hk2 hk3 hp hsk
   obtain ⟨cur,hc1,hc2,hc3⟩:=HKP.out.grid
   have lgk:=(Array.getElem?_eq_some_iff.1 hc1).1
   obtain ⟨v0,hv0,hv1,_⟩:=hc3 j hlt
   obtain rfl:=hv1 (Nat.le_refl _)
   have HGR:Hid (∀ W:World,W.heap[w.heap.size]?=wr.heap[w.heap.size]?→W.cell? ⟨w.heap.size,j,none⟩=some (.slice none 0 0)∧W.frozen? ⟨w.heap.size,j,none⟩=false):=fun W hW=>by
    rw [hc1] at hW
    constructor
    ·unfold World.cell?;rw [hW];exact hv0
    ·unfold World.frozen?;rw [hW];simp
   clear hc1 hc2 hc3 hv0 hv1
   have hown:=HKP.out.own
   rw [List.length_append,HP.out,HSK.out] at hown
   rcases hown with ⟨_,⟨rfl,h0⟩ | ⟨g,co,cur,rfl,hBg,hcu,hpc,hcm,hcs,hct⟩⟩
   ·obtain rfl:k=0:=by omega
    obtain rfl:p=0:=by omega
    obtain rfl:sp=[]:=List.length_eq_zero_iff.1 HP.out
    obtain rfl:sk=[]:=List.length_eq_zero_iff.1 HSK.out
    have HXB:Hid (Below wr.heap.size wr (wr.alloc (.cells #[.int .i64 (nd j).kind,.int .i64 (nd j).op,.int .i64 (nd j).n,.string (nd j).text,.int .i64 0] 35)).drew):=((Below.refl _ _).alloc (Nat.le_refl _) _).drew
    obtain ⟨x0,x1⟩:=HGR.out (wr.alloc (.cells #[.int .i64 (nd j).kind,.int .i64 (nd j).op,.int .i64 (nd j).n,.string (nd j).text,.int .i64 0] 35)).drew (HXB.out.block _ lgk)
    go_wp2
    go_region
    rw [set_alloc _ _ _ _ lgk]
    have HW2:Hid (∃ w2,w2=(wr.alloc (.cells #[.int .i64 (nd j).kind,.int .i64 (nd j).op,.int .i64 (nd j).n,.string (nd j).text,.int .i64 0] 35)).drew∧Below wr.heap.size wr w2):=⟨_,rfl,HXB.out⟩
    clear x0 x1 HXB
    generalize hw3:World.setCell (wr.alloc (.cells #[.int .i64 (nd j).kind,.int .i64 (nd j).op,.int .i64 (nd j).n,.string (nd j).text,.int .i64 0] 35)).drew ⟨w.heap.size,j,none⟩ (.slice none 0 0)=w3
    have hw3':∃ w2,w3=World.setCell w2 ⟨w.heap.size,j,none⟩ (.slice none 0 0)∧Below wr.heap.size wr w2:=by
     obtain ⟨w2,e,h⟩:=HW2.out
     exact ⟨w2,by rw [e];exact hw3.symm,h⟩
    clear hw3 HW2
    obtain ⟨w2,hw3,hb2⟩:=hw3'
    have HW3:=hid hw3
    have HB2:=hid hb2
    have hz3:wr.heap.size≤w3.heap.size:=by rw [hw3];have:=hb2.size;simpa [World.setCell] using this
    clear hw3 hb2
    have OWN8:Hid (World.ownsRow (w3.alloc (.cells #[.int .i64 j] 3)) w.heap.size 3 1 (.slice none 0 0) 0 []):=World.ownsRow_nil _ _ _ _
    go_wp2_with (at_builtin;refine wpList_append_own_at _ rfl (.tmp 36) (.tmp 38) 31 rfl w.heap.size 3 i0 (.int .i64 0) 1 8 Tryz.underlying31 HHI.out.1 HHI.out.2.1 HHI.out.2.2.1 HHI.out.2.2.2 rfl (by decide) (.slice none 0 0) _ _ rfl OWN8.out ⟨w3.heap.size,0,none⟩ 1 1 [.int .i64 j] rfl rfl (cell_one_new w3 _ _) (by simp [Value.oneCell']) (by unfold maxLen;omega) (by omega) (by simp;omega) ?_;intro v3 w5 o5 g5 nn5 b5;have O5:=hid o5;have G5:=hid g5;have NN5:=hid nn5;have B5:=hid b5;clear o5 g5 nn5 b5)
    have HST:Hid (∃ v',v3=v'∧KPI nd O N w.heap.size w.heap.size w w5 (j+1) v3 ([] ++ [j])):=by
     have g5:=G5.out
     rw [HW3.out] at g5
     have b5:=B5.out
     rw [HW3.out] at b5
     exact ⟨_,rfl,KPI_step (sk:=[]) (v1:=.slice none 0 0) HKP.out hlt HK3.out HK2.out hsz HB2.out (World.ownsRow_nil _ _ _ _) ⟨rfl,rfl,rfl,Nat.le_refl _,fun _ _ _=>rfl⟩ (fun r e=>by cases e) O5.out g5 (fun k e=>e) b5⟩
    clear O5 G5 NN5 B5
    go_wp2
    go_roundw
    case rel =>
     obtain ⟨v',_,h⟩:=HST.out
     exact ⟨j+1,_,by omega,by go_num,h⟩
    case measure=>simp [intOf];omega
   ·have hgne:g≠w.heap.size:=fun e=>HKP.out.vne (by rw [← e];rfl)
    have hgl:g < wr.heap.size:=(Array.getElem?_eq_some_iff.1 hcu).1
    have HROW:Hid (RowAt wr 3 g co (p+k) (intRow (sp ++ sk))):=⟨by rw [intRow_length,List.length_append,HP.out,HSK.out],hpc,hcm,cur,hcu,by omega,by rw [Nat.mul_one] at hct;exact hct⟩
    have HFR:Hid (World.ownsRow wr w.heap.size 3 1 (.slice (some ⟨g,0,none⟩) p co) p (intRow sp)):=by
     have h1:=HROW.out
     rw [intRow_append] at h1
     have:=h1.front
     rw [intRow_length,HP.out] at this
     exact this.own hBg
    clear hcu hct
    by_cases hk0:k=0
    ·subst hk0
     have hsk0:sk=[]:=List.length_eq_zero_iff.1 HSK.out
     simp only [Nat.add_zero] at *
     have HXB:Hid (Below wr.heap.size wr (wr.alloc (.cells #[.int .i64 (nd j).kind,.int .i64 (nd j).op,.int .i64 (nd j).n,.string (nd j).text,.int .i64 0] 35)).drew):=((Below.refl _ _).alloc (Nat.le_refl _) _).drew
     obtain ⟨x0,x1⟩:=HGR.out (wr.alloc (.cells #[.int .i64 (nd j).kind,.int .i64 (nd j).op,.int .i64 (nd j).n,.string (nd j).text,.int .i64 0] 35)).drew (HXB.out.block _ lgk)
     by_cases hcp:co=p
     ·subst hcp
      go_wp2
      go_region
      rw [set_alloc _ _ _ _ lgk]
      obtain ⟨w2,hw2⟩:∃ w2,w2=(wr.alloc (.cells #[.int .i64 (nd j).kind,.int .i64 (nd j).op,.int .i64 (nd j).n,.string (nd j).text,.int .i64 0] 35)).drew:=⟨_,rfl⟩
      have HG1:Hid (World.grownBy (wr.alloc (.cells #[.int .i64 (nd j).kind,.int .i64 (nd j).op,.int .i64 (nd j).n,.string (nd j).text,.int .i64 0] 35)).drew w2 none):=by rw [hw2];exact ⟨rfl,rfl,rfl,Nat.le_refl _,fun _ _ _=>rfl⟩
      have HO1:Hid (World.ownsRow w2 w.heap.size 3 1 (.slice none 0 0) 0 (intRow sk)):=by rw [hsk0];exact World.ownsRow_nil _ _ _ _
      have HB1:Hid (∀ r,(Value.slice none 0 0).ownBlock=some r→wr.heap.size≤r):=fun r hr=>by cases hr
      rw [← hw2]
      clear hw2 x0 x1
      generalize hw3:World.setCell w2 ⟨w.heap.size,j,none⟩ (.slice none 0 0)=w3
      have HW3:=hid hw3
      have hz3:wr.heap.size≤w3.heap.size:=by rw [← hw3];have:=HG1.out.size;have:=HXB.out.size;simp only [World.setCell,Array.size_modify];omega
      clear hw3
      have OWN8:Hid (World.ownsRow (w3.alloc (.cells #[.int .i64 j] 3)) w.heap.size 3 1 (.slice (some ⟨g,0,none⟩) co co) co (intRow sp)):=by
       refine own_keepC HFR.out fun r hr=>?_
       cases hr
       rw [Below.heap_alloc w3 _ g (Nat.lt_of_lt_of_le hgl hz3),← HW3.out,Below.heap_setCell _ _ _ _ hgne,HG1.out.block g (Nat.lt_of_lt_of_le hgl HXB.out.size) (fun e=>by cases e),HXB.out.block g hgl]
      go_wp2_with (at_builtin;refine wpList_append_own_at _ rfl (.tmp 36) (.tmp 38) 31 rfl w.heap.size 3 i0 (.int .i64 0) 1 8 Tryz.underlying31 HHI.out.1 HHI.out.2.1 HHI.out.2.2.1 HHI.out.2.2.2 rfl (by decide) (.slice (some ⟨g,0,none⟩) co co) _ _ rfl OWN8.out ⟨w3.heap.size,0,none⟩ 1 1 [.int .i64 j] rfl rfl (cell_one_new w3 _ _) (by simp [Value.oneCell']) (by unfold maxLen;omega) (by omega) (by simp;omega) ?_;intro v3 w5 o5 g5 nn5 b5;have O5:=hid o5;have G5:=hid g5;have NN5:=hid nn5;have B5:=hid b5;clear o5 g5 nn5 b5)
      have HST:Hid (KPI nd O N w.heap.size w.heap.size w w5 (j+1) v3 (sp ++ [j])):=by
       have g5:=G5.out
       rw [← HW3.out] at g5
       have b5:=B5.out
       rw [← HW3.out] at b5
       exact KPI_step (v1:=.slice none 0 0) HKP.out hlt HK3.out HK2.out hsz HXB.out (by rw [HSK.out];exact HO1.out) HG1.out HB1.out (by rw [HP.out];exact O5.out) g5 (fun k e=>e) b5
      clear O5 G5 NN5 B5
      go_wp2
      go_roundw
      case rel=>exact ⟨j+1,_,by omega,by go_num,HST.out⟩
      case measure=>simp [intOf];omega
     ·go_wp2
      go_region
      rw [set_alloc _ _ _ _ lgk]
      obtain ⟨w2,hw2⟩:∃ w2,w2=(wr.alloc (.cells #[.int .i64 (nd j).kind,.int .i64 (nd j).op,.int .i64 (nd j).n,.string (nd j).text,.int .i64 0] 35)).drew:=⟨_,rfl⟩
      have HG1:Hid (World.grownBy (wr.alloc (.cells #[.int .i64 (nd j).kind,.int .i64 (nd j).op,.int .i64 (nd j).n,.string (nd j).text,.int .i64 0] 35)).drew w2 none):=by rw [hw2];exact ⟨rfl,rfl,rfl,Nat.le_refl _,fun _ _ _=>rfl⟩
      have HO1:Hid (World.ownsRow w2 w.heap.size 3 1 (.slice none 0 0) 0 (intRow sk)):=by rw [hsk0];exact World.ownsRow_nil _ _ _ _
      have HB1:Hid (∀ r,(Value.slice none 0 0).ownBlock=some r→wr.heap.size≤r):=fun r hr=>by cases hr
      rw [← hw2]
      clear hw2 x0 x1
      generalize hw3:World.setCell w2 ⟨w.heap.size,j,none⟩ (.slice none 0 0)=w3
      have HW3:=hid hw3
      have hz3:wr.heap.size≤w3.heap.size:=by rw [← hw3];have:=HG1.out.size;have:=HXB.out.size;simp only [World.setCell,Array.size_modify];omega
      clear hw3
      have OWN8:Hid (World.ownsRow (w3.alloc (.cells #[.int .i64 j] 3)) w.heap.size 3 1 (.slice (some ⟨g,0,none⟩) p co) p (intRow sp)):=by
       refine own_keepC HFR.out fun r hr=>?_
       cases hr
       rw [Below.heap_alloc w3 _ g (Nat.lt_of_lt_of_le hgl hz3),← HW3.out,Below.heap_setCell _ _ _ _ hgne,HG1.out.block g (Nat.lt_of_lt_of_le hgl HXB.out.size) (fun e=>by cases e),HXB.out.block g hgl]
      go_wp2_with (at_builtin;refine wpList_append_own_at _ rfl (.tmp 36) (.tmp 38) 31 rfl w.heap.size 3 i0 (.int .i64 0) 1 8 Tryz.underlying31 HHI.out.1 HHI.out.2.1 HHI.out.2.2.1 HHI.out.2.2.2 rfl (by decide) (.slice (some ⟨g,0,none⟩) p co) _ _ rfl OWN8.out ⟨w3.heap.size,0,none⟩ 1 1 [.int .i64 j] rfl rfl (cell_one_new w3 _ _) (by simp [Value.oneCell']) (by unfold maxLen;omega) (by omega) (by simp;omega) ?_;intro v3 w5 o5 g5 nn5 b5;have O5:=hid o5;have G5:=hid g5;have NN5:=hid nn5;have B5:=hid b5;clear o5 g5 nn5 b5)
      have HST:Hid (KPI nd O N w.heap.size w.heap.size w w5 (j+1) v3 (sp ++ [j])):=by
       have g5:=G5.out
       rw [← HW3.out] at g5
       have b5:=B5.out
       rw [← HW3.out] at b5
       exact KPI_step (v1:=.slice none 0 0) HKP.out hlt HK3.out HK2.out hsz HXB.out (by rw [HSK.out];exact HO1.out) HG1.out HB1.out (by rw [HP.out];exact O5.out) g5 (fun k e=>e) b5
      clear O5 G5 NN5 B5
      go_wp2
      go_roundw
      case rel=>exact ⟨j+1,_,by omega,by go_num,HST.out⟩
      case measure=>simp [intOf];omega
    ·have hcp:¬ co=p:=by omega
     have HXB:Hid (Below wr.heap.size wr (wr.alloc (.cells #[.int .i64 (nd j).kind,.int .i64 (nd j).op,.int .i64 (nd j).n,.string (nd j).text,.int .i64 k] 35)).drew):=((Below.refl _ _).alloc (Nat.le_refl _) _).drew
     obtain ⟨x0,x1⟩:=HGR.out (wr.alloc (.cells #[.int .i64 (nd j).kind,.int .i64 (nd j).op,.int .i64 (nd j).n,.string (nd j).text,.int .i64 k] 35)).drew (HXB.out.block _ lgk)
     have HTC:=hid (tail_cells (HROW.out.below HXB.out hgl) HP.out)
     have hpk1:(p:Int)≤(p:Int)+(k:Int):=by omega
     go_wp2
     go_region_law (refine step_append_own_at rfl (.tmp 28) (.tmp 31) 31 rfl w.heap.size 3 i0 (.int .i64 0) 1 8 Tryz.underlying31 HHI.out.1 HHI.out.2.1 HHI.out.2.2.1 HHI.out.2.2.2 rfl (by decide) (.slice none 0 0) 0 [] (by simp [Act.eval]) (World.ownsRow_nil _ _ _ _) ⟨g,p,none⟩ k (co - p) (intRow sk) (by simp [Act.eval]) (by rw [intRow_length,HSK.out,Nat.mul_one]) HTC.out (intRow_one sk) (by unfold maxLen;omega) (by omega) (Nat.le_trans hsz HXB.out.size) ?_;intro v1 w2 o1 g1 nn1 b1;rw [List.nil_append,Nat.zero_add] at o1;have hnn:¬ v1=.slice none 0 0:=(fun e=>hk0 (nn1.1 e).2);obtain ⟨r1,d1,rfl,_,_⟩:=RowAt.of_own o1 hnn;have HO1:=hid o1;have HG1:Hid (World.grownBy (wr.alloc (.cells #[.int .i64 (nd j).kind,.int .i64 (nd j).op,.int .i64 (nd j).n,.string (nd j).text,.int .i64 k] 35)).drew w2 none):=g1;have HBB:=hid b1;obtain ⟨y0,y1⟩:=HGR.out w2 ((HG1.out.block _ (Nat.lt_of_lt_of_le lgk HXB.out.size) (fun e=>by cases e)).trans (HXB.out.block _ lgk));clear o1 g1 nn1 b1 hnn)
     have HB1:Hid (∀ r,(Value.slice (some ⟨r1,0,none⟩) k d1).ownBlock=some r→wr.heap.size≤r):=fun r hr=>by
      rcases HBB.out with h | h
      ·rw [hr] at h;cases h
      ·rw [hr] at h;injection h with h;have:=HXB.out.size;omega
     generalize hw3:World.setCell w2 ⟨w.heap.size,j,none⟩ (.slice (some ⟨r1,0,none⟩) k d1)=w3
     have HW3:=hid hw3
     have hz3:wr.heap.size≤w3.heap.size:=by rw [← hw3];have:=HG1.out.size;have:=HXB.out.size;simp only [World.setCell,Array.size_modify];omega
     clear hw3 y0 y1
     have OWN8:Hid (World.ownsRow (w3.alloc (.cells #[.int .i64 j] 3)) w.heap.size 3 1 (.slice (some ⟨g,0,none⟩) p co) p (intRow sp)):=by
      refine own_keepC HFR.out fun r hr=>?_
      cases hr
      rw [Below.heap_alloc w3 _ g (Nat.lt_of_lt_of_le hgl hz3),← HW3.out,Below.heap_setCell _ _ _ _ hgne,HG1.out.block g (Nat.lt_of_lt_of_le hgl HXB.out.size) (fun e=>by cases e),HXB.out.block g hgl]
     go_wp2_with (at_builtin;refine wpList_append_own_at _ rfl (.tmp 36) (.tmp 38) 31 rfl w.heap.size 3 i0 (.int .i64 0) 1 8 Tryz.underlying31 HHI.out.1 HHI.out.2.1 HHI.out.2.2.1 HHI.out.2.2.2 rfl (by decide) (.slice (some ⟨g,0,none⟩) p co) _ _ rfl OWN8.out ⟨w3.heap.size,0,none⟩ 1 1 [.int .i64 j] rfl rfl (cell_one_new w3 _ _) (by simp [Value.oneCell']) (by unfold maxLen;omega) (by omega) (by simp;omega) ?_;intro v3 w5 o5 g5 nn5 b5;have O5:=hid o5;have G5:=hid g5;have NN5:=hid nn5;have B5:=hid b5;clear o5 g5 nn5 b5)
     have HST:Hid (KPI nd O N w.heap.size w.heap.size w w5 (j+1) v3 (sp ++ [j])):=by
      have g5:=G5.out
      rw [← HW3.out] at g5
      have b5:=B5.out
      rw [← HW3.out] at b5
      exact KPI_step (v1:=.slice (some ⟨r1,0,none⟩) k d1) HKP.out hlt HK3.out HK2.out hsz HXB.out (by rw [HSK.out];exact HO1.out) HG1.out HB1.out (by rw [HP.out];exact O5.out) g5 (fun k e=>e) b5
     clear O5 G5 NN5 B5
     go_wp2
     go_roundw
     case rel=>exact ⟨j+1,_,by omega,by go_num,HST.out⟩
     case measure=>simp [intOf];omega
  ·obtain rfl:j=N:=by omega
   have HKG:Hid (KG wr w.heap.size j O):=by
    obtain ⟨cur,hc1,hc2,hc3⟩:=HKP.out.grid
    intro i hi
    obtain ⟨v,d1,d2,d3⟩:=hc3 i hi
    obtain ⟨⟨q1,q2⟩,_,_⟩:=d3 hi
    have hcell:wr.cell? ⟨w.heap.size,i,none⟩=some v:=by unfold World.cell?;rw [hc1];exact d1
    rcases q2 with ⟨rfl,h0⟩ | ⟨g,cap,cur2,rfl,_,h4,h5,h6,h7,h8⟩
    ·exact ⟨none,0,by rw [hcell,h0],by omega,by omega,.inl (List.length_eq_zero_iff.1 h0)⟩
    ·refine ⟨some ⟨g,0,none⟩,cap,hcell,h5,h6,.inr ⟨g,rfl,fun q hq=>?_⟩⟩
     have:wr.cell? ⟨g,q,none⟩=cur2[q]?:=by unfold World.cell?;rw [h4];rfl
     rw [this]
     have e:cur2.toList[q]?=(intRow (O.getD i []))[q]?:=by rw [← h8,List.getElem?_take_of_lt (by omega)]
     rw [← Array.getElem?_toList,e]
     unfold intRow
     rw [List.getElem?_map,List.getElem?_eq_getElem hq,show (O.getD i []).getD q 0=(O.getD i [])[q] by rw [List.getD_eq_getElem?_getD (l:=O.getD i []),List.getElem?_eq_getElem hq];rfl]
     rfl
   have HKB:Hid (∀ i,i < j→∀ g n c,wr.cell? ⟨w.heap.size,i,none⟩=some (.slice (some ⟨g,0,none⟩) n c)→w.heap.size≤g):=by
    obtain ⟨cur,hc1,hc2,hc3⟩:=HKP.out.grid
    intro i hi g n c hcell
    obtain ⟨v,d1,d2,d3⟩:=hc3 i hi
    obtain ⟨⟨q1,q2⟩,_,_⟩:=d3 hi
    have hcell2:wr.cell? ⟨w.heap.size,i,none⟩=some v:=by unfold World.cell?;rw [hc1];exact d1
    rw [hcell2] at hcell
    injection hcell with hcell
    subst hcell
    rcases q2 with ⟨h,_⟩ | ⟨g',cap,cur2,h,h3,_⟩
    ·cases h
    ·cases h;exact h3
   go_wp2
   go_ret
   exact ⟨w.heap.size,rfl,Nat.le_refl _,HKG.out,HKB.out,HBW.out⟩
structure BR (R:Nat) (w w2:World):Prop where
 lo:Below R w w2
 tr:∀ (k:Nat) cs,R < k→w.heap[k]?=some (.cells cs 25 (0,0))→w2.heap[k]?=w.heap[k]?
theorem BR.trans {R:Nat} {a b c:World} (h:BR R a b) (k:BR R b c):BR R a c:=⟨h.lo.trans k.lo,fun i cs hi hc=>(k.tr i cs hi ((h.tr i cs hi hc).trans hc)).trans (h.tr i cs hi hc)⟩
theorem BR.of_below {R:Nat} {w w2:World} (h:Below w.heap.size w w2) (hR:R≤w.heap.size):BR R w w2:=⟨h.mono hR,fun k _ _ hc=>h.block k (Array.getElem?_eq_some_iff.1 hc).1⟩
theorem BR.of_sv {R:Nat} {w w2:World} (h:Sv (fun k=>k=R) w w2) (hR:R≤w.heap.size):BR R w w2:=⟨h.below hR (fun k e=>by subst e;exact Nat.le_refl _),fun k _ hk hc=>h.block k (Array.getElem?_eq_some_iff.1 hc).1 (by show ¬ k=R;omega)⟩
theorem BR.of_gd {R:Nat} {w w2:World} (h:Gd R w w2):BR R w w2:=⟨⟨h.os,h.tape,h.output,h.size,h.low⟩,fun k _ _ hc=>h.block k _ _ _ hc (by unfold GenT;decide) (by decide)⟩
theorem BR.set {R b i:Nat} {w w2:World} (h:BR R w w2) (hR:R≤w.heap.size) (hb:w.heap.size≤b) (v:Value):BR R w (w2.setCell ⟨b,i,none⟩ v):=⟨h.lo.setCell (by show R≤b;omega) _,fun k cs hk hc=>(Below.heap_setCell _ _ _ _ (fun e=>by have:=(Array.getElem?_eq_some_iff.1 hc).1;have e':k=b:=e;omega)).trans (h.tr k cs hk hc)⟩
end Go.Proofs.YthnohneaanphbaaGreatDoor
