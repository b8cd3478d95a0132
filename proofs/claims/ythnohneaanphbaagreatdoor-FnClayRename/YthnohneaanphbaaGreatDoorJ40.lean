import Derived.Deep.OwnRows
import Derived.Deep.DeepCutAuto
import Derived.Deep.RegionLaw
import Derived.Test.YthnohneaanphbaaGreatDoorJ37
import Derived.Test.YthnohneaanphbaaGreatDoorJ39
namespace Go.Proofs.YthnohneaanphbaaGreatDoor
open Go.RowKit
set_option maxRecDepth 20000
theorem kg_of_grid {W:World} {L:List (Nat × Nat × List Nat)} {go co B:Nat} (h:RowAt W 31 go co L.length (gridRow L)) (hr:∀ x ∈ L,B≤x.1∧RowAt W 3 x.1 x.2.1 x.2.2.length (intRow x.2.2)):KG W go L.length (L.map (·.2.2)):=by
 intro i hi
 have e:(L.map (·.2.2)).getD i []=L[i].2.2:=by rw [List.getD_eq_getElem?_getD,List.getElem?_map,List.getElem?_eq_getElem hi];rfl
 obtain ⟨_,r⟩:=hr L[i] (List.getElem_mem hi)
 refine ⟨some ⟨L[i].1,0,none⟩,L[i].2.1,?_,?_,r.2.2.1,.inr ⟨L[i].1,rfl,fun j hj=>?_⟩⟩
 ·rw [h.cell i hi]
  unfold gridRow
  rw [List.getElem?_map,List.getElem?_eq_getElem hi,e]
  rfl
 ·rw [e];exact r.2.1
 ·rw [e] at hj ⊢
  rw [r.cell j hj]
  unfold intRow
  rw [List.getElem?_map,List.getElem?_eq_getElem hj,show L[i].2.2.getD j 0=L[i].2.2[j] by rw [List.getD_eq_getElem?_getD,List.getElem?_eq_getElem hj];rfl]
  rfl
theorem bn_made {W:World} {g N:Nat} (h:W.heap[g]?=some (.cells (madeCells #[.int .i64 0] N) 3 (0,0))):BnAt W g N (fun _=>0) :=
 ⟨_,h,size_madeCells _ _,fun i hi=>by rw [← Array.getElem?_toList,toList_madeCells_one,List.getElem?_replicate,if_pos hi]⟩
theorem heap3 (w:World) (A B C:Obj):(((w.alloc A).alloc B).alloc C).heap[w.heap.size]?=some A∧(((w.alloc A).alloc B).alloc C).heap[w.heap.size+1]?=some B∧(((w.alloc A).alloc B).alloc C).heap[w.heap.size+2]?=some C:=by
 have h1:=heap_alloc_new w A
 have h2:=heap_alloc_new (w.alloc A) B
 have h3:=heap_alloc_new ((w.alloc A).alloc B) C
 rw [World.size_alloc] at h2
 rw [World.size_alloc,World.size_alloc] at h3
 refine ⟨?_,?_,h3⟩
 ·rw [Below.heap_alloc _ _ _ (by simp;omega),Below.heap_alloc _ _ _ (by simp)];exact h1
 ·rw [Below.heap_alloc _ _ _ (by simp)];exact h2
theorem Tile.len {o:List (List Nat)} {s:List Nat} {a b:Nat} (h:Tile o a s b):s.length+a≤b:=by
 induction s generalizing a with
 | nil=>have:a=b:=h;simp;omega
 | cons x r ih=>have:=ih h.2.2;have:=h.2.1;simp;omega
theorem kids_len5 {nd:Nat→Nd} {N:Nat} {o:List (List Nat)} {S:List Nat} (h:kidsF nd N=some (o,S)) (hN:N≤5000) (k:Nat):(o.getD k []).length≤5000:=by
 have hl:=(kidsF_len nd _ _ _ h).1
 by_cases hk:k < N
 ·obtain ⟨_,_,_,h3⟩:=tile_all h N (Nat.le_refl _)
  have:=(h3 k hk).len
  omega
 ·rw [List.getD_eq_getElem?_getD,List.getElem?_eq_none (by omega)];simp
theorem kids_placeN {nd:Nat→Nd} {N:Nat} {o:List (List Nat)} {S:List Nat} (h:kidsF nd N=some (o,S)) (k q:Nat) (hq:q ∈ o.getD k []):q < N:=by
 have hl:=(kidsF_len nd _ _ _ h).1
 by_cases hk:k < N
 ·have:=down_of h k q hq;omega
 ·rw [List.getD_eq_getElem?_getD,List.getElem?_eq_none (by omega)] at hq;cases hq
theorem fits_kidded {nd:Nat→Nd} {o:List (List Nat)} {N:Nat} (h:∀ i,i < N→FitAt nd o i) (k:Nat) (hk:k < N):Kidded nd o k:=by
 intro hq
 rcases hq with hq | hq | hq | hq
 ·obtain ⟨a,b,r,e⟩:=kids_two (h k hk) (.inl hq);rw [e];simp
 ·obtain ⟨a,b,r,e⟩:=kids_two (h k hk) (.inr hq);rw [e];simp
 ·obtain ⟨a,b,e,_⟩:=kids_one (h k hk) (.inl hq);rw [e];simp
 ·obtain ⟨a,b,e,_⟩:=kids_one (h k hk) (.inr hq);rw [e];simp
def madeE (nd:Nat→Nd) (ms:List Nat) (n:Nat):List Ev:=(List.range n).flatMap fun i=>flt8 (dupB nd (ms.take i) (nd (ms.getD i 0)).text) (ms.getD i 0) 8
theorem madeE_succ (nd:Nat→Nd) (ms:List Nat) (n:Nat):madeE nd ms (n+1)=madeE nd ms n ++ flt8 (dupB nd (ms.take n) (nd (ms.getD n 0)).text) (ms.getD n 0) 8:=by
 unfold madeE
 rw [List.range_succ,List.flatMap_append]
 simp
def knOf (nd:Nat→Nd) (ms:List Nat):List (ByteArray × Nat):=ms.map fun m=>((nd m).text,m)
def lookE (nd:Nat→Nd) (o:List (List Nat)) (N:Nat):List Ev :=
 madeE nd ((o.getD (N - 1) []).flatMap (makersOf nd o)) ((o.getD (N - 1) []).flatMap (makersOf nd o)).length ++ wk nd o (N - 1) (envL (knOf nd ((o.getD (N - 1) []).flatMap (makersOf nd o))))
def LookEnd (nd:Nat→Nd) (o:List (List Nat)) (N:Nat) (w w':World) (e:Ending):Prop:=∃ wb gc gb gk b cap ck cf bn,e=.returned (.pointer (some ⟨wb,0,none⟩))∧w'.heap[wb]?=some (.cells #[.slice (some ⟨b,0,none⟩) N cap,.slice (some ⟨gk,0,none⟩) N ck,.slice (some ⟨gc,0,none⟩) N N,.slice (some ⟨gb,0,none⟩) N N] 63 (0,0)) ∧
 BnAt w' gc N (fun i=>((cf i:Nat):Int))∧BnAt w' gb N bn∧CodesOk cf (fun y=>y ∈ fls (lookE nd o N))∧(fls (lookE nd o N)=[]→bn=apB (fun _=>-1) (lookE nd o N))∧w.heap.size≤gb∧Below w.heap.size w w'
set_option maxHeartbeats 4000000 in
theorem l3Look_any (b N cap:Nat) (nd:Nat→Nd) (o:List (List Nat)) (w:World) (hb:b < w.heap.size) (hn:NodesAt w b N nd) (hx:∀ i,i < N→(nd i).text.size≤maxLen) (hV:ValidT nd N) (x:Nat) (ho:kidsF nd N=some (o,[x])) :
  Calls Tryz.prog 28 #[.agg #[.slice (some ⟨b,0,none⟩) N cap]] w fun e w'=>LookEnd nd o N w w' e:=by
 obtain ⟨hN1,hN2,h24,o',x',ho',hfit'⟩:=hV
 rw [ho] at ho'
 injection ho' with ho'
 injection ho' with e1 e2
 subst e1
 have hfit:∀ i,i < N→FitAt nd o i:=fun i hi=>(hfit' i hi).2
 have HN:=hid hn
 have HX:=hid hx
 have HO:=hid ho
 have HFT:=hid hfit
 have H24:=hid h24
 clear hn hx ho hfit hfit' h24 e2
 have HA:Hid (Below w.heap.size w (w.alloc (.cells #[.slice (some ⟨b,0,none⟩) N cap] 25))):=(Below.refl _ _).alloc (Nat.le_refl _) _
 have hmk:=run_make_row' (P:=Tryz.prog) 31 3 (.int .i64 0) 8 Tryz.underlying31 info_int rfl .i64 .i64 N (by omega) (by omega)
 go_enter Tryz.func28,Tryz.ntmps28
 go_wp2_with fail
 refine (l2Kids_any b N cap nd _ hN2 (by simp;omega) (HN.out.below HA.out hb)).mono ?_
 rintro e w1 ⟨hb1,hke⟩
 have HB1:=hid (HA.out.trans (hb1.mono (by simp)))
 have t1:w1.cell? ⟨w.heap.size,0,none⟩=some (.slice (some ⟨b,0,none⟩) N cap):=(hb1.cell (p:=⟨w.heap.size,0,none⟩) (by simp)).trans (cell_new_row w _ _ 0)
 have hw1:=hb1.size
 simp only [World.size_alloc] at hw1
 clear hb1
 rcases hke with ⟨v,rfl,hno⟩ | ⟨LL,xx,go,co,rfl,hkf,hrow,hgo,hrows⟩
 ·exact absurd HO.out (hno o x)
 rw [HO.out] at hkf
 injection hkf with hkf
 injection hkf with hkf _
 have hLN:LL.length=N:=by have:=(kidsF_len nd N o _ HO.out).1;rw [hkf,List.length_map] at this;exact this
 have HKG:=hid (kg_of_grid hrow hrows)
 have hcoN:N≤co:=by have:=hrow.2.1;omega
 rw [← hkf,hLN] at HKG
 rw [hLN]
 clear hkf hrow hrows
 have e1:∀ O,(w1.alloc O).cell? ⟨w.heap.size,0,none⟩=some (.slice (some ⟨b,0,none⟩) N cap):=fun O=>(cell_alloc_lt w1 O _ _ (by omega)).trans t1
 have e2:∀ O O',((w1.alloc O).alloc O').cell? ⟨w.heap.size,0,none⟩=some (.slice (some ⟨b,0,none⟩) N cap):=fun O O'=>(cell_alloc_lt _ O' _ _ (by simp;omega)).trans (e1 O)
 go_upto_region 2 with fail
 go_cut [5] (fun v wx=>∃ gc gb,gc≠gb∧v=.pointer (some ⟨w1.heap.size+2,0,none⟩)∧wx.heap[w1.heap.size+2]?=some (.cells #[.slice (some ⟨b,0,none⟩) N cap,.slice (some ⟨go,0,none⟩) N co,.slice (some ⟨gc,0,none⟩) N N,.slice (some ⟨gb,0,none⟩) N N] 63 (0,0))∧BnAt wx gc N (fun _=>0)∧BnAt wx gb N (fun _=>0)∧w1.heap.size≤gc∧w1.heap.size≤gb∧gc < w1.heap.size+2∧gb < w1.heap.size+2∧Below w1.heap.size w1 wx)
 case first =>
  have A1:=hid (heap3 w1 (.cells (madeCells #[.int .i64 0] N) 3) (.cells (madeCells #[.int .i64 0] N) 3) (.cells #[.slice (some ⟨b,0,none⟩) N cap,.slice (some ⟨go,0,none⟩) N co,.slice (some ⟨w1.heap.size,0,none⟩) N N,.slice (some ⟨w1.heap.size+1,0,none⟩) N N] 63))
  have A2:=hid (heap3 w1 (.cells (madeCells #[.int .i64 0] N) 3) (.cells (madeCells #[.int .i64 0] N) 3) (.cells #[.slice (some ⟨b,0,none⟩) N cap,.slice (some ⟨go,0,none⟩) N co,.slice (some ⟨w1.heap.size+1,0,none⟩) N N,.slice (some ⟨w1.heap.size,0,none⟩) N N] 63))
  have B1:Hid (∀ A B C,Below w1.heap.size w1 (((w1.alloc A).alloc B).alloc C)):=fun A B C=>(((Below.refl _ _).alloc (Nat.le_refl _) _).alloc (by simp) _).alloc (by simp;omega) _
  go_region
  ·go_wp2_with fail
   go_meet
   case rel=>exact ⟨w1.heap.size,w1.heap.size+1,by omega,rfl,A1.out.2.2,bn_made A1.out.1,bn_made A1.out.2.1,Nat.le_refl _,by omega,by omega,by omega,(B1.out _ _ _).drew⟩
  ·go_wp2_with fail
   go_meet
   case rel=>exact ⟨w1.heap.size+1,w1.heap.size,by omega,rfl,A2.out.2.2,bn_made A2.out.2.1,bn_made A2.out.1,by omega,Nat.le_refl _,by omega,by omega,(B1.out _ _ _).drew⟩
 case rest =>
  obtain ⟨gc,gb,hne,rfl,hwb,hgc,hgb,l1,l2,l3,l4,hbw⟩:=hcut
  clear e1 e2 hmk
  have HWB:=hid hwb
  have HGC:=hid hgc
  have HGB:=hid hgb
  have HBW:=hid hbw
  have hwbl:=(Array.getElem?_eq_some_iff.1 hwb).1
  have f3:wc.cell? ⟨w1.heap.size+2,3,none⟩=some (.slice (some ⟨gb,0,none⟩) N N):=by unfold World.cell?;rw [hwb];rfl
  clear hwb hgc hgb hbw
  go_wp2
  clear f3
  go_loopw [6] (fun i wr=>∃ j:Nat,j≤N∧i=.int .i64 j∧wr.heap[w1.heap.size+2]?=wc.heap[w1.heap.size+2]?∧wr.heap[gc]?=wc.heap[gc]?∧BnAt wr gb N (fun i=>if i < j then -1 else 0)∧Below w1.heap.size w1 wr) (fun i _=>N - (intOf i).toNat)
  case atStart=>exact ⟨0,Nat.zero_le _,rfl,rfl,rfl,HGB.out,HBW.out⟩
  case round =>
   obtain ⟨j,hj,rfl,hw3,hw4,hgb,hbw⟩:=hrel
   clear HGB HBW
   have HW3:=hid hw3
   have HW4:=hid hw4
   have HGB:=hid hgb
   have HBW:=hid hbw
   clear hw3 hw4 hgb hbw
   have f3:wr.cell? ⟨w1.heap.size+2,3,none⟩=some (.slice (some ⟨gb,0,none⟩) N N):=by unfold World.cell?;rw [HW3.out,HWB.out];rfl
   by_cases hlt:j < N
   ·obtain ⟨b0,b1⟩:=HGB.out.cell j hlt
    rw [if_neg (Nat.lt_irrefl _)] at b0
    have HN3:Hid ((wr.setCell ⟨gb,j,none⟩ (.int .i64 (-1))).heap[w1.heap.size+2]?=wc.heap[w1.heap.size+2]?):=(Below.heap_setCell _ _ _ _ (by show w1.heap.size+2≠gb;omega)).trans HW3.out
    have HN4:Hid ((wr.setCell ⟨gb,j,none⟩ (.int .i64 (-1))).heap[gc]?=wc.heap[gc]?):=(Below.heap_setCell _ _ _ _ hne).trans HW4.out
    have HNB:Hid (BnAt (wr.setCell ⟨gb,j,none⟩ (.int .i64 (-1))) gb N (fun i=>if i < j+1 then -1 else 0)):=by
     have:=HGB.out.set j hlt (-1)
     have e:(fun i=>if i=j then (-1:Int) else if i < j then -1 else 0)=fun i=>if i < j+1 then -1 else 0:=by
      funext i
      by_cases h1:i=j
      ·rw [if_pos h1,if_pos (by omega)]
      ·rw [if_neg h1]
       by_cases h2:i < j
       ·rw [if_pos h2,if_pos (by omega)]
       ·rw [if_neg h2,if_neg (by omega)]
     rw [e] at this
     exact this
    have HNW:=hid (HBW.out.setCell (p:=⟨gb,j,none⟩) l2 (.int .i64 (-1)))
    go_wp2
    go_roundw
    case rel=>exact ⟨j+1,by omega,by go_num,HN3.out,HN4.out,HNB.out,HNW.out⟩
    case measure=>simp [intOf];omega
   ·obtain rfl:j=N:=by omega
    have HGB2:Hid (BnAt wr gb j (fun _=>-1)):=by
     obtain ⟨cur,q1,q2,q3⟩:=HGB.out
     exact ⟨cur,q1,q2,fun i hi=>by have:=q3 i hi;simp only [if_pos hi] at this;exact this⟩
    clear HGB
    obtain ⟨wz,hwz⟩:∃ wz,wz=wr:=⟨_,rfl⟩
    subst hwz
    have tw:wz.cell? ⟨w.heap.size,0,none⟩=some (.slice (some ⟨b,0,none⟩) j cap):=(HBW.out.cell (p:=⟨w.heap.size,0,none⟩) (by show w.heap.size < w1.heap.size;omega)).trans t1
    have te:∀ O,(wz.alloc O).cell? ⟨w.heap.size,0,none⟩=some (.slice (some ⟨b,0,none⟩) j cap):=fun O=>(cell_alloc_lt wz O _ _ (World.block_lt_of_cell? wz _ tw)).trans tw
    have hzr:=HBW.out.size
    obtain ⟨w3,hw3⟩:∃ w3,w3=wz.alloc (.cells #[] 86):=⟨_,rfl⟩
    have HB3:Hid (Below w1.heap.size w1 w3):=by rw [hw3];exact HBW.out.alloc HBW.out.size _
    have HBr:Hid (Below wz.heap.size wz w3):=by rw [hw3];exact (Below.refl _ _).alloc (Nat.le_refl _) _
    have HKN0:Hid (KnR w3 wz.heap.size 0 (knOf nd [])):=by
     rw [hw3]
     exact ⟨Nat.zero_le _,by unfold maxLen;omega,#[],heap_alloc_new wz _,rfl,rfl⟩
    have hz3:w3.heap.size=wz.heap.size+1:=by rw [hw3];simp
    have HW1:=hid HB1.out
    go_wp2_with fail
    rw [← hw3]
    clear te hw3
    have HOL:=(kidsF_len nd j o _ HO.out).1
    have HDN:=hid (down_of HO.out)
    have HKL5:=hid (kids_len5 HO.out hN2)
    have HPL5:=hid (kids_placeN HO.out)
    have HNW:Hid (NodesAt w3 b j nd):=HN.out.below (HW1.out.trans (HB3.out.mono (by omega))) hb
    have HKW:Hid (KG w3 go j o):=HKG.out.below HB3.out (Nat.le_refl _)
    have HT1:=hid t1
    have hgcl:gc < wz.heap.size:=by obtain ⟨cur,q1,_⟩:=HGC.out;exact (Array.getElem?_eq_some_iff.1 (HW4.out.trans q1)).1
    have hgbl:gb < wz.heap.size:=by obtain ⟨cur,q1,_⟩:=HGB2.out;exact (Array.getElem?_eq_some_iff.1 q1).1
    clear tw t1
    refine (l3Makes_any b j cap go co nd o w3 hN1 hN2 (by omega) HNW.out HKW.out hcoN H24.out HFT.out HKL5.out HPL5.out).mono ?_
    rintro e w4 ⟨gm,cm,rfl,hgm,hrow,hb4⟩
    obtain ⟨fl,hfl⟩:∃ fl,fl=(o.getD (j - 1) []).flatMap (makersOf nd o):=⟨_,rfl⟩
    rw [← hfl] at hrow ⊢
    have HFL:=hid hfl
    have hM:fl.length≤1000000:=by
     rw [hfl]
     have e:∀ l:List Nat,(l.flatMap (makersOf nd o)).length≤l.length * 5000:=fun l=>by
      induction l with
      | nil=>simp
      | cons a l ih =>
       rw [List.flatMap_cons,List.length_append,List.length_cons]
       have:(makersOf nd o a).length≤5000:=by
        unfold makersOf
        split
        ·simp
        ·split
         ·exact HKL5.out a
         ·simp
       omega
     have h1:=e (o.getD (j - 1) [])
     have h2:=(kids_file (HFT.out (j - 1) (by omega)) H24.out).1
     omega
    have HMP:Hid (∀ m ∈ fl,m < j):=fun m hm=>by
     rw [hfl] at hm
     obtain ⟨s,hs,hm⟩:=List.mem_flatMap.1 hm
     have hsN:=HPL5.out _ s hs
     unfold makersOf at hm
     split at hm
     ·simp at hm;omega
     ·split at hm
      ·exact HPL5.out s m hm
      ·cases hm
    obtain ⟨M,hMl⟩:∃ M,fl.length=M:=⟨_,rfl⟩
    have HML:=hid hMl
    rw [hMl] at hM hrow ⊢
    have HROW:=hid hrow
    have HB4:=hid hb4
    clear hfl hMl hrow hb4
    have hz4:=HB4.out.size
    obtain ⟨X,hX⟩:∃ X:Mx,X=⟨w1.heap.size+2,gc,gb,b,j,cap,go,co,nd,o⟩:=⟨_,rfl⟩
    have HXS:Hid (∀ k,X.S k→k=gc∨k=gb):=by rw [hX];exact fun k h=>h
    have hgol:go < w1.heap.size:=by
     obtain ⟨ad,c,q1,_⟩:=HKG.out 0 (by omega)
     exact World.block_lt_of_cell? w1 _ q1
    have HOKX:Hid X.Ok:=by
     rw [hX]
     refine ⟨hne,hN2,HX.out,HDN.out,fun k hk=>fits_kidded HFT.out k hk,HOL,?_,?_,?_,HKL5.out,HPL5.out,HFT.out⟩
     ·rintro (h | h) <;> simp only at h <;> omega
     ·rintro (h | h) <;> simp only at h <;> omega
     ·rintro (h | h) <;> simp only at h <;> omega
    have HB14:Hid (Below w1.heap.size w1 w4):=HB3.out.trans (HB4.out.mono (by omega))
    have HBz:Hid (Below wz.heap.size wz w4):=HBr.out.trans (HB4.out.mono (by omega))
    have HAT:Hid (X.At wz (fun _=>0) (fun _=>-1)):=by
     rw [hX]
     refine ⟨?_,HGB2.out⟩
     obtain ⟨cur,q1,q2⟩:=HGC.out
     exact ⟨cur,HW4.out.trans q1,q2⟩
    have HWBz:Hid (wz.heap[w1.heap.size+2]?=some (.cells #[.slice (some ⟨b,0,none⟩) j cap,.slice (some ⟨go,0,none⟩) j co,.slice (some ⟨gc,0,none⟩) j j,.slice (some ⟨gb,0,none⟩) j j] 63 (0,0))):=HW3.out.trans HWB.out
    have HTR:Hid (Stb X.S wz X.Tree):=fun W hW=>by
     have hlb:Below w1.heap.size wz W:=hW.below (by omega) (fun k hk=>by rcases HXS.out k hk with h | h <;> omega)
     have hl2:=HBW.out.trans hlb
     rw [hX]
     refine ⟨?_,?_,?_⟩
     ·exact (hW.block _ (Array.getElem?_eq_some_iff.1 HWBz.out).1 (fun h=>by rcases HXS.out _ h with h | h <;> omega)).trans HWBz.out
     ·exact HN.out.below (HW1.out.trans (hl2.mono (by omega))) hb
     ·exact HKG.out.below hl2 (Nat.le_refl _)
    have HKN4:Hid (KnR w4 wz.heap.size 0 (knOf nd (fl.take 0))):=HKN0.out.keep (HB4.out.block _ (by omega))
    obtain ⟨i0,hi,hz0,hz1,hz2⟩:=info_parts info_kn
    have HHI:=hid (And.intro hi (And.intro hz0 (And.intro hz1 hz2)))
    clear hi hz0 hz1 hz2 HKN0 HGC HGB2 HW3 HW4 f3
    have HTC:Hid (∀ W,Sv X.S wz W→W.cell? ⟨w.heap.size,0,none⟩=some (.slice (some ⟨b,0,none⟩) j cap)):=fun W hW=>by
     have hlb:Below w1.heap.size wz W:=hW.below (by omega) (fun k hk=>by rcases HXS.out k hk with h | h <;> omega)
     exact ((HBW.out.trans hlb).cell (p:=⟨w.heap.size,0,none⟩) (by show w.heap.size < w1.heap.size;omega)).trans HT1.out
    have HNT:Hid (∀ W,Sv X.S wz W→NodesAt W b j nd):=fun W hW=>by
     have:=(HTR.out W hW).2.1
     rw [hX] at this
     exact this
    have HMC:Hid (∀ q y,fl[q]?=some y→w4.cell? ⟨gm,q,none⟩=some (.int .i64 (y:Nat))):=fun q y hq=>by
     have hl:=(List.getElem?_eq_some_iff.1 hq).1
     have e1:=HROW.out.cell q (by have:=HML.out;omega)
     have e2:(intRow fl)[q]?=some (.int .i64 (y:Nat)):=by unfold intRow;rw [List.getElem?_map,hq];rfl
     rw [e2] at e1
     exact e1
    have HSL:Hid (∀ k,X.S k→k < wz.heap.size):=fun k hk=>by rcases HXS.out k hk with h | h <;> omega
    have HLT:Hid (∀ q,(knOf nd (fl.take q)).length=min q M):=fun q=>by show _=_;unfold knOf;rw [List.length_map,List.length_take,HML.out]
    go_wp2
    go_loopw [7,9] (fun vk i wr=>∃ (q gi ci:Nat),q≤M∧i=.int .i64 q∧vk=.slice (some ⟨gi,0,none⟩) q ci∧KnR wr gi ci (knOf nd (fl.take q))∧wz.heap.size≤gi∧gi≠gm∧gm < wr.heap.size∧(∀ q y,fl[q]?=some y→wr.cell? ⟨gm,q,none⟩=some (.int .i64 (y:Nat)))∧X.Ends wz wr (fun _=>False) (fun _=>-1) (madeE nd fl q)) (fun _ i _=>M - (intOf i).toNat)
    case atStart=>exact ⟨0,_,0,Nat.zero_le _,rfl,rfl,HKN4.out,Nat.le_refl _,by omega,HROW.out.lt,HMC.out,⟨Sv.of_below HBz.out,_,_,HAT.out.go HBz.out,fun k=>.inl ⟨rfl,fun c h=>by rcases h with h | h;exact h;cases h⟩,fun _=>rfl⟩⟩
    case round =>
     obtain ⟨q,gi,ci,hq,rfl,rfl,hkr,hgi,hgn,hgl,hmk,hen⟩:=hrel
     have HMK:=hid hmk
     have hSgm:¬ X.S gm:=fun h=>by have:=HSL.out gm h;omega
     have HSgm:=hid hSgm
     clear hmk hSgm
     have HKR:=hid hkr
     have HEN:=hid hen
     have HSC:=hid hen.1
     clear hkr hen HKN4 HAT
     have hSgi:¬ X.S gi:=fun h=>by have:=HSL.out gi h;omega
     have HSgi:=hid hSgi
     clear hSgi
     by_cases hlt:q < M
     ·obtain ⟨y,hy⟩:∃ y,fl[q]?=some y:=⟨_,List.getElem?_eq_getElem (by have:=HML.out;omega)⟩
      have HY:=hid hy
      have hyN:=HMP.out y (List.mem_of_getElem? hy)
      clear hy
      obtain ⟨wo,hwo⟩:∃ wo,wo=wr:=⟨_,rfl⟩
      subst hwo
      go_wp2
      go_loopw [10] (fun i wq=>∃ (r:Nat),r≤q∧i=.int .i64 r∧Sv X.S wo wq∧X.Ends wz wq (fun _=>False) (fun _=>-1) (madeE nd fl q ++ flt8 (dupB nd (fl.take r) (nd y).text) y 8)) (fun i _=>q - (intOf i).toNat)
      case atStart =>
       refine ⟨0,Nat.zero_le _,rfl,Sv.refl _ _,?_⟩
       have:madeE nd fl q ++ flt8 (dupB nd (fl.take 0) (nd y).text) y 8=madeE nd fl q:=by simp [flt8,dupB]
       rw [this]
       exact HEN.out
      case round =>
       obtain ⟨r,hr,rfl,hsr,hen⟩:=hrel
       clear HEN HSC
       have HEN:=hid hen
       have HSR:=hid hsr
       have HSC:=hid hen.1
       clear hsr hen
       have t0:=HTC.out _ HSC.out
       have m0:=(HSR.out.cell (p:=⟨gm,q,none⟩) hgl HSgm.out).trans (HMK.out q y HY.out)
       obtain ⟨_,_,_,y3,_⟩:=HNT.out _ HSC.out y hyN
       by_cases hrq:r < q
       ·obtain ⟨z,hz⟩:∃ z,fl[r]?=some z:=⟨_,List.getElem?_eq_getElem (by have:=HML.out;omega)⟩
        have HTQ:Hid (fl.take (r+1)=fl.take r ++ [z]):=by
         show _=_
         rw [List.take_succ_eq_append_getElem (by have:=HML.out;omega),(List.getElem?_eq_some_iff.1 hz).2]
        have hkz:(knOf nd (fl.take q))[r]?=some ((nd z).text,z):=by unfold knOf;rw [List.getElem?_map,List.getElem?_take_of_lt hrq,hz];rfl
        obtain ⟨k0,k1⟩:=(HKR.out.keep (HSR.out.block gi HKR.out.lt HSgi.out)).at.2.2.2 r _ hkz
        simp only at k0 k1
        clear hz hkz
        obtain ⟨hsc,cfc,bnc,hac,hoc,hnc⟩:=HEN.out
        have HAC:=hid hac
        have HOC:=hid hoc
        have HNC:=hid hnc
        clear hsc hac hoc hnc
        cases he:((nd z).text.toList == (nd y).text.toList)
        ·have HNE:Hid (¬ (nd z).text=(nd y).text):=fun h=>by rw [h] at he;simp at he
         have HNX:Hid (X.Ends wz wr.drew (fun _=>False) (fun _=>-1) (madeE nd fl q ++ flt8 (dupB nd (fl.take (r+1)) (nd y).text) y 8)):=by
          rw [HTQ.out,dupB_snoc]
          have e:decide ((nd z).text=(nd y).text)=false:=by simp [HNE.out]
          rw [e,Bool.or_false]
          exact ⟨HSC.out.drew,cfc,bnc,HAC.out,HOC.out,HNC.out⟩
         have HSR2:=hid HSR.out.drew
         go_wp2
         go_region
         go_wp2
         go_roundw
         case rel=>exact ⟨r+1,by omega,by go_num,HSR2.out,HNX.out⟩
         case measure=>simp [intOf];omega
        ·have HEQ:Hid ((nd z).text=(nd y).text):=bytes_eq he
         go_wp2
         go_region
         have HSC2:=hid HSC.out.drew
         have HSR2:=hid HSR.out.drew
         have HAC2:Hid (X.At wr.drew cfc bnc):=HAC.out
         clear t0 y3 k0 k1 HSC HSR HAC HEN
         generalize wr.drew=w5 at *
         have m0:=(HSR2.out.cell (p:=⟨gm,q,none⟩) hgl HSgm.out).trans (HMK.out q y HY.out)
         have HF2:=hid (fault_more (x:=X) HOKX.out y 8 (by decide) (by rw [hX];exact hyN) HSC2.out HAC2.out (HTR.out _ HSC2.out) HOC.out HNC.out)
         have hwbx:X.wb=w1.heap.size+2:=by rw [hX]
         rw [hwbx] at HF2
         clear hwbx
         go_wp2_with (first
          | (go_at_call 51;refine HF2.out.mono ?_;rintro e w6 ⟨rfl,hen,hsv⟩;have HEN:=hid hen.twice;have HSR:=hid (HSR2.out.trans hsv);clear hen hsv))
         have HNX:Hid (X.Ends wz w6 (fun _=>False) (fun _=>-1) (madeE nd fl q ++ flt8 (dupB nd (fl.take (r+1)) (nd y).text) y 8)):=by
          rw [HTQ.out,dupB_snoc]
          have e:decide ((nd z).text=(nd y).text)=true:=by simp [HEQ.out]
          rw [e,Bool.or_true]
          exact HEN.out
         go_roundw
         case rel=>exact ⟨r+1,by omega,by go_num,HSR.out,HNX.out⟩
         case measure=>simp [intOf];omega
       ·obtain rfl:r=q:=by omega
        have HLQ:Hid ((knOf nd (fl.take r)).length=r):=by
         have:=HLT.out r
         show _=_
         omega
        have HKO:Hid (World.ownsRow wr (wz.heap.size) 86 2 (.slice (some ⟨gi,0,none⟩) r ci) r (knRow (knOf nd (fl.take r)))):=by
         have:=(HKR.out.keep (HSR.out.block gi HKR.out.lt HSgi.out)).own (B:=wz.heap.size) hgi
         rw [HLQ.out] at this
         exact this
        have HTQ:Hid (knOf nd (fl.take (r+1))=knOf nd (fl.take r) ++ [((nd y).text,y)]):=by
         show _=_
         rw [List.take_succ_eq_append_getElem (by have:=HML.out;omega),(List.getElem?_eq_some_iff.1 HY.out).2]
         simp [knOf]
        have HME:Hid (madeE nd fl (r+1)=madeE nd fl r ++ flt8 (dupB nd (fl.take r) (nd y).text) y 8):=by
         show _=_
         rw [madeE_succ,List.getD_eq_getElem?_getD,HY.out]
         rfl
        have hzq:=HSC.out.size
        go_wp2_with fail
        go_region_law (refine step_append_own_at rfl (.tmp 80) (.tmp 95) 83 rfl wz.heap.size 86 i0 (.agg #[.string ⟨#[]⟩,.int .i64 0]) 2 24 Tryz.underlying83 HHI.out.1 HHI.out.2.1 HHI.out.2.2.1 HHI.out.2.2.2 rfl (by decide) (.slice (some ⟨gi,0,none⟩) r ci) r (knRow (knOf nd (fl.take r))) (by simp [Act.eval]) (by exact own_two HKO.out _) ⟨wr.heap.size,0,none⟩ 1 1 [.string (nd y).text,.int .i64 y] (by simp [Act.eval]) rfl (by exact cell_two_new wr _ _ _) (by simp [Value.oneCell']) (by unfold maxLen;omega) (by omega) (by simp;omega) ?_;intro v5 w5 o5 g5 nn5 b5;have O5:=hid o5;have G5:Hid ((wr.alloc (.cells #[.string (nd y).text,.int .i64 y] 86)).grownBy w5 (some gi)):=⟨g5.os,g5.tape,g5.output,g5.size,g5.block⟩;have NN5:=hid (some_not_nil nn5);have BB5:Hid (v5.ownBlock=some gi∨v5.ownBlock=some (wr.alloc (.cells #[.string (nd y).text,.int .i64 y] 86)).heap.size):=b5;clear o5 g5 nn5 b5)
        all_goals
         obtain ⟨g6,c6,rfl,hb6,hk6⟩:=KnR.of_own (n:=r+1) (L:=knOf nd (fl.take r) ++ [((nd y).text,y)]) (by rw [knRow_append];exact O5.out) (by rw [List.length_append,HLQ.out];rfl) NN5.out
         have HK6:=hid hk6
         have HEX:Hid (X.Ends wz w5 (fun _=>False) (fun _=>-1) (madeE nd fl (r+1))):=by
          rw [HME.out]
          exact Mx.Ends.grown (gi:=gi) HEN.out G5.out hgi HSgi.out
         have hgl2:gm < wr.heap.size:=Nat.lt_of_lt_of_le hgl HSR.out.size
         have hg6:g6≠gm:=by
          rcases BB5.out with h | h
          ·simp [Value.ownBlock] at h;omega
          ·simp [Value.ownBlock] at h;omega
         have hgl3:gm < w5.heap.size:=by have:=G5.out.size;simp at this;omega
         have HMK2:Hid (∀ q y,fl[q]?=some y→w5.cell? ⟨gm,q,none⟩=some (.int .i64 (y:Nat))):=fun q y hq=>by
          have e1:=(HSR.out.cell (p:=⟨gm,q,none⟩) hgl HSgm.out).trans (HMK.out q y hq)
          have e2:=(cell_alloc_lt wr (.cells #[.string (nd y).text,.int .i64 y] 86) gm q hgl2)
          have e3:w5.heap[gm]?=wr.heap[gm]?:=(G5.out.block gm (by simp;omega) (by simp;omega)).trans (Below.heap_alloc _ _ _ hgl2)
          exact (World.cell?_of_block (w:=wr) (a:=⟨gm,q,none⟩) e3).trans e1
         clear O5 G5 NN5 BB5 hk6 t0 m0 y3
         go_wp2
         go_roundw
         case rel=>exact ⟨r+1,g6,c6,by omega,by go_num,rfl,by rw [HTQ.out];exact HK6.out,hb6,hg6,hgl3,HMK2.out,HEX.out⟩
         case measure=>simp [intOf];omega
     ·obtain rfl:q=M:=by omega
      have efl:fl.take q=fl:=List.take_of_length_le (by have:=HML.out;omega)
      rw [efl] at HKR
      have hlk:(knOf nd fl).length=q:=by unfold knOf;rw [List.length_map];exact HML.out
      obtain ⟨hsc,cfc,bnc,hac,hoc,hnc⟩:=HEN.out
      have HNC:=hid hnc
      have HG:=hid (go1_all X HOKX.out (j - 1) (by rw [hX];show j - 1 < j;omega) (knOf nd fl) gi ci _ cfc bnc wr (by rw [hlk];omega) hac (HTR.out.go hsc) hoc HKR.out HSgi.out)
      have hj1:((j - 1:Nat):Int)=(j:Int) - 1:=by omega
      have hwbx:X.wb=w1.heap.size+2:=by rw [hX]
      have hndx:X.nd=nd:=by rw [hX]
      have hox:X.o=o:=by rw [hX]
      rw [hlk,hj1,hwbx,hndx,hox] at HG
      have t0:=HTC.out _ HSC.out
      clear hsc hac hoc hnc efl hlk hj1 hwbx hndx hox
      go_wp2_with (first
       | (go_at_call 52;refine HG.out.mono ?_;rintro e w6 ⟨rfl,hen6⟩;have HE6:=hid (mends_join HSC.out HNC.out hen6);clear hen6))
      have HEND:Hid (LookEnd nd o j w w6 (.returned (.pointer (some ⟨w1.heap.size+2,0,none⟩)))):=by
       obtain ⟨s6,cf6,bn6,a6,k6,n6⟩:=HE6.out
       have hbl:Below w1.heap.size wz w6:=s6.below (by omega) (fun k hk=>by rcases HXS.out k hk with h | h <;> omega)
       have hw6:w6.heap[w1.heap.size+2]?=wz.heap[w1.heap.size+2]?:=s6.block _ (Array.getElem?_eq_some_iff.1 HWBz.out).1 (fun h=>by rcases HXS.out _ h with h | h <;> omega)
       rw [hX] at a6
       have el:lookE nd o j=madeE nd fl q ++ wk nd o (j - 1) (envL (knOf nd fl)):=by unfold lookE;rw [← HFL.out,HML.out]
       refine ⟨w1.heap.size+2,gc,gb,go,b,cap,co,cf6,bn6,rfl,hw6.trans HWBz.out,a6.1,a6.2,?_,?_,by omega,HW1.out.trans ((HBW.out.trans hbl).mono (by omega))⟩
       ·rw [el]
        exact k6.congr fun y=>by simp
       ·rw [el]
        exact n6
      clear t0 HG HE6
      go_wp2
      go_ret
      exact HEND.out
end Go.Proofs.YthnohneaanphbaaGreatDoor
