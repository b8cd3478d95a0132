import Derived.Deep.RegionLaw
import Derived.Deep.DeepCutAuto
import Derived.Test.YthnohneaanphbaaGreatDoorJ35
import Derived.Test.YthnohneaanphbaaGreatDoorJ25
namespace Go.Proofs.YthnohneaanphbaaGreatDoor
open Go.RowKit
set_option maxRecDepth 20000
theorem own_two {W:World} {B e size n:Nat} {v:Value} {xs:List Value} (h:W.ownsRow B e size v n xs) (o:Obj):(W.alloc o).ownsRow B e size v n xs:=own_keepC h fun _ hr=>Below.heap_alloc _ _ _ (own_lt h hr).2
def EltAt (W:World) (b:Nat) (t:ByteArray) (k:Nat):Prop:=∀ j u,[Value.string t,.int .i64 k][j]?=some u→W.cell? ((⟨b,0,none⟩:Addr).add j)=some u
theorem EltAt.keep {W W':World} {b:Nat} {t:ByteArray} {k:Nat} (h:EltAt W b t k) (hk:W'.heap[b]?=W.heap[b]?):EltAt W' b t k:=by
 intro j u hj
 have e1:((⟨b,0,none⟩:Addr).add j).block=b:=by unfold Addr.add;split <;> rfl
 rw [World.cell?_of_block (w:=W) (by rw [e1];exact hk)]
 exact h j u hj
theorem NodeAt.alloc {W:World} {b:Nat} {y:Nd} (h:NodeAt W b y) (o:Obj):NodeAt (W.alloc o) b y:=(Below.heap_alloc W o b (Array.getElem?_eq_some_iff.1 h).1).trans h
structure More (x:Mx) (w W:World) (L:List (ByteArray × Nat)) (k nL gm cm:Nat):Prop where
 kn:KnR W gm cm (L ++ [((x.nd k).text,k)])
 bel:Below w.heap.size w W
 ge:w.heap.size≤gm
 node:NodeAt W w.heap.size (x.nd k)
theorem mends_from {x:Mx} {w wr w1:World} {F:Nat × Nat→Prop} {bn:Nat→Int} {e:List Ev} (hs:Sv x.S w wr) (h:x.Ends wr w1 F bn e):x.Ends w w1 F bn e:=by
 obtain ⟨s,r⟩:=h
 exact ⟨hs.trans s,r⟩
theorem kids_let {nd:Nat→Nd} {o:List (List Nat)} {k:Nat} (h:FitAt nd o k) (hk:(nd k).kind=14):∃ a b,o.getD k []=[a,b]:=by
 obtain ⟨_,h⟩:=h
 have hl:(o.getD k []).length=2:=by
  rcases h with h | h | h | h | h | h | h | h | h | h | h | h <;> omega
 match hq:o.getD k [],hl with
 | [a,b],_=>exact ⟨a,b,rfl⟩
theorem kids_param {nd:Nat→Nd} {o:List (List Nat)} {k q:Nat} (h:FitAt nd o k) (hk:(nd k).kind=15∨(nd k).kind=20) {ps:List Nat} {l:Nat} (hp:o.getD k []=ps ++ [l]) (hq:q ∈ ps):(nd q).kind=19:=by
 obtain ⟨_,h⟩:=h
 rw [hp] at h
 have hh:∀ i,i+1 < (ps ++ [l]).length→(nd ((ps ++ [l]).getD i 0)).kind=19:=by
  rcases h with h | h | h | h | h | h | h | h | h | h | h | h
  all_goals first | omega | exact h.2.2.2.1
 obtain ⟨i,hi,rfl⟩:=List.getElem_of_mem hq
 have:=hh i (by simp;omega)
 rw [List.getD_eq_getElem?_getD,List.getElem?_append_left hi,List.getElem?_eq_getElem hi] at this
 exact this
theorem param_one {nd:Nat→Nd} {o:List (List Nat)} {k:Nat} (h:FitAt nd o k) (hk:(nd k).kind=19):(o.getD k []).length≤1:=by
 obtain ⟨_,h⟩:=h
 rcases h with h | h | h | h | h | h | h | h | h | h | h | h <;> omega
set_option maxHeartbeats 4000000 in
theorem go1_any (x:Mx) (hx:x.Ok) (k:Nat) (hkN:k < x.N) (ih:∀ j,j < k→GoOk x j):GoOk x k:=by
 intro L g c F cf bn w hb h ht hok hk hSg
 have e0:=wk_eq hx.down (hx.kidded k hkN) (envL L)
 obtain ⟨evs,hev⟩:∃ evs,evs=wk x.nd x.o k (envL L):=⟨_,rfl⟩
 rw [← hev]
 rw [e0] at hev
 clear e0
 have HEV:=hid hev
 clear hev
 obtain ⟨f0,f1,f2,f3⟩:=ht.now.four
 obtain ⟨c0,c1,c2,c3,c4⟩:=ht.now.2.1 k hkN
 have HX:=hid hx
 have HIH:=hid ih
 have H:=hid h
 have HT:=hid ht
 have HOK:=hid hok
 have HK:=hid hk
 have HSg:=hid hSg
 have hN5:=hx.N
 obtain ⟨ad,cc,hk1,hk2,hk3,hk4⟩:=Mx.kids hx ht k hkN
 obtain ⟨kl,hkl⟩:∃ kl,x.o.getD k []=kl:=⟨_,rfl⟩
 rw [hkl] at hk4 hk1 hk3
 have HKL:=hid hkl
 have HK4:=hid hk4
 have HK3:=hid hk3
 have hb1:∀ O,Below w.heap.size w (w.alloc O):=fun O=>(Below.refl _ _).alloc (Nat.le_refl _) O
 have g0:∀ O,(w.alloc O).cell? ⟨x.wb,1,none⟩=_:=fun O=>(ht _ (Sv.of_below (hb1 O))).four.2.1
 have k1:∀ O,(w.alloc O).cell? ⟨x.gk,k,none⟩=_:=fun O=>(hk4 _ (Sv.of_below (hb1 O))).1
 have HB1:=hid hb1
 obtain ⟨nL,hnL⟩:∃ nL,L.length=nL:=⟨_,rfl⟩
 have HNL:=hid hnL
 rw [hnL] at hb ⊢
 obtain ⟨i0,hi,hz0,hz1,hz2⟩:=info_parts info_kn
 have HHI:=hid (And.intro hi (And.intro hz0 (And.intro hz1 hz2)))
 clear hi hz0 hz1 hz2 hnL hkl hk4 hk3 hx ih h ht hok hk hSg hb1
 go_enter Tryz.func52,Tryz.ntmps52
 have HND:Hid (NodeAt (w.alloc (.cells #[.int .i64 (x.nd k).kind,.int .i64 (x.nd k).op,.int .i64 (x.nd k).n,.string (x.nd k).text,.int .i64 (x.nd k).kids] 35)) w.heap.size (x.nd k)):=heap_alloc_new w _
 have B1:Hid (Below w.heap.size w ((w.alloc (.cells #[.int .i64 (x.nd k).kind,.int .i64 (x.nd k).op,.int .i64 (x.nd k).n,.string (x.nd k).text,.int .i64 (x.nd k).kids] 35)).alloc (.cells #[] 86)).drew):=((HB1.out _).alloc (by simp) _).drew
 have B2:Hid (Below w.heap.size w (((w.alloc (.cells #[.int .i64 (x.nd k).kind,.int .i64 (x.nd k).op,.int .i64 (x.nd k).n,.string (x.nd k).text,.int .i64 (x.nd k).kids] 35)).alloc (.cells #[] 86)).alloc (.cells #[.string (x.nd k).text,.int .i64 k] 86)).drew):=(((HB1.out _).alloc (by simp) _).alloc (by simp;omega) _).drew
 have B3:Hid (Below w.heap.size w (((w.alloc (.cells #[.int .i64 (x.nd k).kind,.int .i64 (x.nd k).op,.int .i64 (x.nd k).n,.string (x.nd k).text,.int .i64 (x.nd k).kids] 35)).alloc (.cells #[.string (x.nd k).text,.int .i64 k] 86)).alloc (.cells #[] 86)).drew):=(((HB1.out _).alloc (by simp) _).alloc (by simp;omega) _).drew
 have HKC:Hid (∀ W,Below w.heap.size w W→∀ j u,(knRow L)[j]?=some u→W.cell? ((⟨g,0,none⟩:Addr).add j)=some u):=fun W hW=>(HK.out.keep (hW.block g HK.out.lt)).cells
 have W1:Hid (World.ownsRow ((w.alloc (.cells #[.int .i64 (x.nd k).kind,.int .i64 (x.nd k).op,.int .i64 (x.nd k).n,.string (x.nd k).text,.int .i64 (x.nd k).kids] 35)).alloc (.cells #[] 86)).drew w.heap.size 86 2 (.slice (some ⟨w.heap.size+1,0,none⟩) 0 0) 0 []):=by
  have:=World.ownsRow_made (base:=w.heap.size) (e:=86) (size:=2) (w.alloc (.cells #[.int .i64 (x.nd k).kind,.int .i64 (x.nd k).op,.int .i64 (x.nd k).n,.string (x.nd k).text,.int .i64 (x.nd k).kids] 35)) #[] 0 (by simp;try omega) (by unfold maxLen;omega) rfl
  rw [World.size_alloc] at this
  exact this
 have W2:Hid (World.ownsRow (((w.alloc (.cells #[.int .i64 (x.nd k).kind,.int .i64 (x.nd k).op,.int .i64 (x.nd k).n,.string (x.nd k).text,.int .i64 (x.nd k).kids] 35)).alloc (.cells #[] 86)).alloc (.cells #[.string (x.nd k).text,.int .i64 k] 86)).drew w.heap.size 86 2 (.slice (some ⟨w.heap.size+1,0,none⟩) 0 0) 0 []):=own_two (W:=(w.alloc (.cells #[.int .i64 (x.nd k).kind,.int .i64 (x.nd k).op,.int .i64 (x.nd k).n,.string (x.nd k).text,.int .i64 (x.nd k).kids] 35)).alloc (.cells #[] 86)) W1.out _
 have W3:Hid (World.ownsRow (((w.alloc (.cells #[.int .i64 (x.nd k).kind,.int .i64 (x.nd k).op,.int .i64 (x.nd k).n,.string (x.nd k).text,.int .i64 (x.nd k).kids] 35)).alloc (.cells #[.string (x.nd k).text,.int .i64 k] 86)).alloc (.cells #[] 86)).drew w.heap.size 86 2 (.slice (some ⟨w.heap.size+1+1,0,none⟩) 0 0) 0 []):=by
  have:=World.ownsRow_made (base:=w.heap.size) (e:=86) (size:=2) ((w.alloc (.cells #[.int .i64 (x.nd k).kind,.int .i64 (x.nd k).op,.int .i64 (x.nd k).n,.string (x.nd k).text,.int .i64 (x.nd k).kids] 35)).alloc (.cells #[.string (x.nd k).text,.int .i64 k] 86)) #[] 0 (by simp;try omega) (by unfold maxLen;omega) rfl
  rw [World.size_alloc,World.size_alloc] at this
  exact this
 have T2:Hid (EltAt (((w.alloc (.cells #[.int .i64 (x.nd k).kind,.int .i64 (x.nd k).op,.int .i64 (x.nd k).n,.string (x.nd k).text,.int .i64 (x.nd k).kids] 35)).alloc (.cells #[] 86)).alloc (.cells #[.string (x.nd k).text,.int .i64 k] 86)).drew (w.heap.size+1+1) (x.nd k).text k):=by
  have:=cell_two_new ((w.alloc (.cells #[.int .i64 (x.nd k).kind,.int .i64 (x.nd k).op,.int .i64 (x.nd k).n,.string (x.nd k).text,.int .i64 (x.nd k).kids] 35)).alloc (.cells #[] 86)) (.string (x.nd k).text) (.int .i64 k) 86
  rw [World.size_alloc,World.size_alloc] at this
  exact this
 have T3:Hid (EltAt (((w.alloc (.cells #[.int .i64 (x.nd k).kind,.int .i64 (x.nd k).op,.int .i64 (x.nd k).n,.string (x.nd k).text,.int .i64 (x.nd k).kids] 35)).alloc (.cells #[.string (x.nd k).text,.int .i64 k] 86)).alloc (.cells #[] 86)).drew (w.heap.size+1) (x.nd k).text k):=by
  have:=cell_two_new (w.alloc (.cells #[.int .i64 (x.nd k).kind,.int .i64 (x.nd k).op,.int .i64 (x.nd k).n,.string (x.nd k).text,.int .i64 (x.nd k).kids] 35)) (.string (x.nd k).text) (.int .i64 k) 86
  rw [World.size_alloc] at this
  exact EltAt.keep (W:=(w.alloc (.cells #[.int .i64 (x.nd k).kind,.int .i64 (x.nd k).op,.int .i64 (x.nd k).n,.string (x.nd k).text,.int .i64 (x.nd k).kids] 35)).alloc (.cells #[.string (x.nd k).text,.int .i64 k] 86)) this (Below.heap_alloc _ _ _ (by simp))
 go_upto_region 2 with fail
 go_cut [8] (fun vm wx=>∃ gm cm,vm=.slice (some ⟨gm,0,none⟩) (nL+1) cm∧More x w wx L k nL gm cm)
 case first =>
  go_region_law (first
   | (refine step_append_own_at rfl (.tmp 26) (.tmp 27) 83 rfl w.heap.size 86 i0 (.agg #[.string ⟨#[]⟩,.int .i64 0]) 2 24 Tryz.underlying83 HHI.out.1 HHI.out.2.1 HHI.out.2.2.1 HHI.out.2.2.2 rfl (by decide) (.slice (some ⟨w.heap.size+1,0,none⟩) 0 0) 0 [] (by simp [Act.eval,Act.put]) W1.out ⟨g,0,none⟩ nL c (knRow L) (by simp [Act.eval,Act.put]) (by rw [knRow_length,HNL.out]) (HKC.out _ B1.out) (knRow_one L) (by unfold maxLen;omega) (by omega) B1.out.size ?_;intro v1 w2 o1 g1 nn1 b1;rw [Nat.zero_add,List.nil_append] at o1;have hnn1:=some_not_nil nn1;obtain ⟨g1',c1',rfl,hbg,hkr⟩:=KnR.of_own o1 HNL.out hnn1;have O1:=hid o1;have HN2:Hid (NodeAt w2 w.heap.size (x.nd k)):=(g1.block w.heap.size (by first | omega | (simp;omega) | simp) (by simp [Value.ownBlock] <;> omega)).trans (HND.out.alloc _);have HB2:Hid (Below w.heap.size w w2):=B1.out.grown g1 B1.out.size (fun q e=>by simp [Value.ownBlock] at e;omega);have n3:=HN2.out.cells.2.2.2.1;have hw2:=(Array.getElem?_eq_some_iff.1 HN2.out).1;have hg1:w.heap.size < g1':=(by rcases b1 with h | h <;> (simp [Value.ownBlock] at h;omega));clear o1 g1 nn1 b1 hnn1 hkr)
   | (refine step_append_own_at rfl (.tmp 26) (.tmp 27) 83 rfl w.heap.size 86 i0 (.agg #[.string ⟨#[]⟩,.int .i64 0]) 2 24 Tryz.underlying83 HHI.out.1 HHI.out.2.1 HHI.out.2.2.1 HHI.out.2.2.2 rfl (by decide) (.slice (some ⟨w.heap.size+1,0,none⟩) 0 0) 0 [] (by simp [Act.eval]) W2.out ⟨g,0,none⟩ nL c (knRow L) (by simp [Act.eval]) (by rw [knRow_length,HNL.out]) (HKC.out _ B2.out) (knRow_one L) (by unfold maxLen;omega) (by omega) B2.out.size ?_;intro v1 w2 o1 g1 nn1 b1;rw [Nat.zero_add,List.nil_append] at o1;have hnn1:=some_not_nil nn1;obtain ⟨g1',c1',rfl,hbg,hkr⟩:=KnR.of_own o1 HNL.out hnn1;have O1:=hid o1;have HN2:Hid (NodeAt w2 w.heap.size (x.nd k)):=(g1.block w.heap.size (by first | omega | (simp;omega) | simp) (by simp [Value.ownBlock] <;> omega)).trans ((HND.out.alloc _).alloc _);have HB2:Hid (Below w.heap.size w w2):=B2.out.grown g1 B2.out.size (fun q e=>by simp [Value.ownBlock] at e;omega);have n3:=HN2.out.cells.2.2.2.1;have hw2:=(Array.getElem?_eq_some_iff.1 HN2.out).1;have hg1:w.heap.size < g1':=(by rcases b1 with h | h <;> (simp [Value.ownBlock] at h;omega));have HEL:=hid (EltAt.keep T2.out (g1.block _ (by simp) (by simp [Value.ownBlock])));clear o1 g1 nn1 b1 hnn1 hkr)
   | (refine step_append_own_at rfl (.tmp 26) (.tmp 27) 83 rfl w.heap.size 86 i0 (.agg #[.string ⟨#[]⟩,.int .i64 0]) 2 24 Tryz.underlying83 HHI.out.1 HHI.out.2.1 HHI.out.2.2.1 HHI.out.2.2.2 rfl (by decide) (.slice (some ⟨w.heap.size+1+1,0,none⟩) 0 0) 0 [] (by simp [Act.eval]) W3.out ⟨g,0,none⟩ nL c (knRow L) (by simp [Act.eval]) (by rw [knRow_length,HNL.out]) (HKC.out _ B3.out) (knRow_one L) (by unfold maxLen;omega) (by omega) B3.out.size ?_;intro v1 w2 o1 g1 nn1 b1;rw [Nat.zero_add,List.nil_append] at o1;have hnn1:=some_not_nil nn1;obtain ⟨g1',c1',rfl,hbg,hkr⟩:=KnR.of_own o1 HNL.out hnn1;have O1:=hid o1;have HN2:Hid (NodeAt w2 w.heap.size (x.nd k)):=(g1.block w.heap.size (by first | omega | (simp;omega) | simp) (by simp [Value.ownBlock] <;> omega)).trans ((HND.out.alloc _).alloc _);have HB2:Hid (Below w.heap.size w w2):=B3.out.grown g1 B3.out.size (fun q e=>by simp [Value.ownBlock] at e;omega);have n3:=HN2.out.cells.2.2.2.1;have hw2:=(Array.getElem?_eq_some_iff.1 HN2.out).1;have hg1:w.heap.size < g1':=(by rcases b1 with h | h <;> (simp [Value.ownBlock] at h;omega));have HEL:=hid (EltAt.keep T3.out (g1.block _ (by simp) (by simp [Value.ownBlock])));clear o1 g1 nn1 b1 hnn1 hkr)
   | (refine step_append_own_at rfl (.tmp 28) (.tmp 33) 83 rfl w.heap.size 86 i0 (.agg #[.string ⟨#[]⟩,.int .i64 0]) 2 24 Tryz.underlying83 HHI.out.1 HHI.out.2.1 HHI.out.2.2.1 HHI.out.2.2.2 rfl (by decide) (.slice (some ⟨g1',0,none⟩) nL c1') nL (knRow L) (by simp [Act.eval]) (own_two O1.out _) ⟨w2.heap.size,0,none⟩ 1 1 [.string (x.nd k).text,.int .i64 k] (by simp [Act.eval]) rfl (cell_two_new w2 _ _ _) (by simp [Value.oneCell']) (by unfold maxLen;omega) (by omega) (by first | exact HB2.out.size | (simp;omega)) ?_;intro v3 w3 o3 g3 nn3 b3;have O3:=hid o3;have NN3:=hid (some_not_nil nn3);have HB3:Hid (Below w.heap.size w w3):=Below.grown (HB2.out.alloc HB2.out.size _) g3 (by first | exact HB2.out.size | (simp;omega)) (fun q e=>by simp [Value.ownBlock] at e;omega);have HN3:Hid (NodeAt w3 w.heap.size (x.nd k)):=(g3.block w.heap.size (by first | omega | (simp;omega)) (by simp [Value.ownBlock];omega)).trans (by first | exact HN2.out.alloc _ | exact HN2.out);clear o3 g3 nn3 b3)
   | (refine step_append_own_at rfl (.tmp 28) (.tmp 33) 83 rfl w.heap.size 86 i0 (.agg #[.string ⟨#[]⟩,.int .i64 0]) 2 24 Tryz.underlying83 HHI.out.1 HHI.out.2.1 HHI.out.2.2.1 HHI.out.2.2.2 rfl (by decide) (.slice (some ⟨g1',0,none⟩) nL c1') nL (knRow L) (by simp [Act.eval]) O1.out ⟨w.heap.size+1+1,0,none⟩ 1 1 [.string (x.nd k).text,.int .i64 k] (by simp [Act.eval]) rfl HEL.out (by simp [Value.oneCell']) (by unfold maxLen;omega) (by omega) (by first | exact HB2.out.size | (simp;omega)) ?_;intro v3 w3 o3 g3 nn3 b3;have O3:=hid o3;have NN3:=hid (some_not_nil nn3);have HB3:Hid (Below w.heap.size w w3):=Below.grown HB2.out g3 (by first | exact HB2.out.size | (simp;omega)) (fun q e=>by simp [Value.ownBlock] at e;omega);have HN3:Hid (NodeAt w3 w.heap.size (x.nd k)):=(g3.block w.heap.size (by first | omega | (simp;omega)) (by simp [Value.ownBlock];omega)).trans (by first | exact HN2.out.alloc _ | exact HN2.out);clear o3 g3 nn3 b3)
   | (refine step_append_own_at rfl (.tmp 28) (.tmp 33) 83 rfl w.heap.size 86 i0 (.agg #[.string ⟨#[]⟩,.int .i64 0]) 2 24 Tryz.underlying83 HHI.out.1 HHI.out.2.1 HHI.out.2.2.1 HHI.out.2.2.2 rfl (by decide) (.slice (some ⟨g1',0,none⟩) nL c1') nL (knRow L) (by simp [Act.eval]) O1.out ⟨w.heap.size+1,0,none⟩ 1 1 [.string (x.nd k).text,.int .i64 k] (by simp [Act.eval]) rfl HEL.out (by simp [Value.oneCell']) (by unfold maxLen;omega) (by omega) (by first | exact HB2.out.size | (simp;omega)) ?_;intro v3 w3 o3 g3 nn3 b3;have O3:=hid o3;have NN3:=hid (some_not_nil nn3);have HB3:Hid (Below w.heap.size w w3):=Below.grown HB2.out g3 (by first | exact HB2.out.size | (simp;omega)) (fun q e=>by simp [Value.ownBlock] at e;omega);have HN3:Hid (NodeAt w3 w.heap.size (x.nd k)):=(g3.block w.heap.size (by first | omega | (simp;omega)) (by simp [Value.ownBlock];omega)).trans (by first | exact HN2.out.alloc _ | exact HN2.out);clear o3 g3 nn3 b3))
  all_goals
   go_wp2_with fail
   go_meet
   case rel =>
    obtain ⟨gm,cm,rfl,hbm,hkm⟩:=KnR.of_own (L:=L ++ [((x.nd k).text,k)]) (by rw [knRow_append];exact O3.out) (by rw [List.length_append,HNL.out];rfl) NN3.out
    exact ⟨gm,cm,rfl,hkm,HB3.out,hbm,HN3.out⟩
 case rest =>
  obtain ⟨gm,cm,rfl,hmore⟩:=hcut
  have HMO:=hid hmore
  have HS2:Hid (Sv x.S w wc):=Sv.of_below hmore.bel
  have HA2:=hid (H.out.go hmore.bel)
  have HSm:Hid (¬ x.S gm):=fun h=>by have:=H.out.lt gm h;have:=hmore.ge;omega
  have HSn:Hid (¬ x.S w.heap.size):=fun h=>absurd (H.out.lt _ h) (Nat.lt_irrefl _)
  have HKW:Hid (∀ W,Sv x.S w W→KnR W g c L):=fun W hW=>HK.out.keep (hW.block g HK.out.lt HSg.out)
  have HGO:Hid (∀ j,j < k→∀ (F:Nat × Nat→Prop) (cf:Nat→Nat) (bn:Nat→Int) (W:World),x.At W cf bn→Stb x.S W x.Tree→CodesOk cf F→Sv x.S w W →
    Calls Tryz.prog 52 #[.pointer (some ⟨x.wb,0,none⟩),.int .i64 j,.slice (some ⟨g,0,none⟩) nL c] W fun e w'=>e=.returned (.tuple #[])∧x.Ends W w' F bn (wk x.nd x.o j (envL L))):=fun j hj F cf bn W h1 h2 h3 h4=>by
   have:=HIH.out j hj L g c F cf bn W (by rw [HNL.out];omega) h1 h2 h3 (HKW.out W h4) HSg.out
   rw [HNL.out] at this
   exact this
  have HGM:Hid (∀ j,j < k→∀ (F:Nat × Nat→Prop) (cf:Nat→Nat) (bn:Nat→Int) (W:World),x.At W cf bn→Stb x.S W x.Tree→CodesOk cf F→Sv x.S wc W →
    Calls Tryz.prog 52 #[.pointer (some ⟨x.wb,0,none⟩),.int .i64 j,.slice (some ⟨gm,0,none⟩) (nL+1) cm] W fun e w'=>e=.returned (.tuple #[])∧x.Ends W w' F bn (wk x.nd x.o j ((envL L).ext (x.nd k).text k))):=fun j hj F cf bn W h1 h2 h3 h4=>by
   have:=HIH.out j hj (L ++ [((x.nd k).text,k)]) gm cm F cf bn W (by rw [List.length_append,HNL.out];simp;omega) h1 h2 h3 (HMO.out.kn.keep (h4.block gm HMO.out.kn.lt HSm.out)) HSm.out
   rw [List.length_append,HNL.out,envL_snoc] at this
   exact this
  clear f0 f1 f2 f3 c0 c1 c2 c3 c4 g0 k1 hmore HHI HB1
  obtain ⟨n0,n1,n2,n3,n4,_,_,_,_,_⟩:=HMO.out.node.cells
  by_cases h5:(x.nd k).kind=5
  ·have E:Hid (evs=useE x.nd (envL L) k):=by
    have:=HEV.out
    unfold nodeE at this
    rw [if_pos h5] at this
    exact this
   rw [h5] at n0
   clear h5
   have HUSE:=hid (use_any x HX.out k L g c F cf bn wc (by rw [HNL.out];omega) HA2.out (HT.out.go HS2.out) HOK.out (HKW.out _ HS2.out).at hkN)
   rw [HNL.out] at HUSE
   go_wp2_with (first
    | (go_at_call 77;refine HUSE.out.mono ?_;rintro e w3 ⟨rfl,hen1⟩;have HE1:=hid hen1;clear hen1))
   go_end0
   rw [E.out]
   exact ⟨rfl,mends_from HS2.out HE1.out⟩
  by_cases h23:(x.nd k).kind=23
  ·have E:Hid (evs=[]):=by
    have:=HEV.out
    unfold nodeE at this
    rw [if_neg h5,if_neg (by omega),if_neg (by omega),if_pos h23] at this
    exact this
   rw [h23] at n0
   clear h23 h5
   go_wp2
   go_end0
   rw [E.out]
   exact ⟨rfl,HS2.out,cf,bn,HA2.out,HOK.out.congr (fun y=>by simp [fls]),fun _=>rfl⟩
  by_cases h15:(x.nd k).kind=15∨(x.nd k).kind=20
  ·obtain ⟨ps,l,hpl,h8⟩:=kids_one (HX.out.fit k hkN) h15
   have hkl:kl=ps ++ [l]:=HKL.out.symm.trans hpl
   have E:Hid (evs=(prm x.nd x.o (fun kn j=>wk x.nd x.o j kn) ps (envL L) [] false).1 ++ wk x.nd x.o l (prm x.nd x.o (fun kn j=>wk x.nd x.o j kn) ps (envL L) [] false).2):=by
    have:=HEV.out
    unfold nodeE at this
    rw [if_neg h5,if_neg (by omega),if_pos h15] at this
    unfold fnE at this
    rw [hpl,List.dropLast_concat,List.getLastD_concat] at this
    exact this
   have hdn:=HX.out.down k
   have hpN:=HX.out.place k
   have hpar:∀ q ∈ ps,(x.nd q).kind=19:=fun q hq=>kids_param (HX.out.fit k hkN) h15 hpl hq
   rw [hpl] at hdn hpN
   subst hkl
   rcases HK3.out with e | ⟨gg,rfl⟩
   ·simp at e
   have hle:(ps ++ [l]).length=ps.length+1:=by simp
   rw [hle] at hk1
   have HFN:=hid (function_m x HX.out k ps l L (fun q hq j hj=>⟨Nat.lt_trans (HX.out.down q j hj) (hdn q (by simp [hq])),HIH.out j (Nat.lt_trans (HX.out.down q j hj) (hdn q (by simp [hq])))⟩) (hdn l (by simp)) (HIH.out l (hdn l (by simp))) (fun q hq=>hpN q (by simp [hq])) h8 (fun q hq=>param_one (HX.out.fit q (hpN q (by simp [hq]))) (hpar q hq)) gg cc g c F cf bn wc hk1 (by rw [HNL.out];omega)
    (fun W hW i hi=>by
     rcases (HK4.out _ (HS2.out.trans hW)).2 with e | ⟨g',q',e,hc⟩
     ·simp at e
     ·cases e
      have:=hc i (by simp;omega)
      rwa [Nat.zero_add] at this) HA2.out (HT.out.go HS2.out) HOK.out (HKW.out _ HS2.out) HSg.out)
   rw [HNL.out] at HFN
   rw [hle]
   clear hdn hpN hpar hpl
   rcases h15 with h15 | h15
   all_goals
    rw [h15] at n0
    clear h15 h5 h23
    go_wp2_with (first
     | (go_at_call 78;refine HFN.out.mono ?_;rintro e w3 ⟨rfl,hen1⟩;have HE1:=hid hen1;clear hen1))
    go_end0
    rw [E.out]
    exact ⟨rfl,mends_from HS2.out HE1.out⟩
  by_cases h14:(x.nd k).kind=14
  ·obtain ⟨z,y,hzr⟩:=kids_let (HX.out.fit k hkN) h14
   have hkl:kl=[z,y]:=HKL.out.symm.trans hzr
   have E:Hid (evs=wk x.nd x.o z (envL L) ++ wk x.nd x.o y ((envL L).ext (x.nd k).text k)):=by
    have:=HEV.out
    unfold nodeE at this
    rw [if_neg h5,if_pos (.inl h14),hzr] at this
    simp at this
    exact this
   have hdn:=HX.out.down k
   rw [hzr] at hdn
   have hzk:=hdn z (by simp)
   have hyk:=hdn y (by simp)
   clear hdn hzr
   subst hkl
   rcases HK3.out with e | ⟨gg,rfl⟩
   ·cases e
   have HZC:Hid (∀ W,Sv x.S w W→W.cell? ⟨gg,0,none⟩=some (.int .i64 (z:Nat))∧W.cell? ⟨gg,1,none⟩=some (.int .i64 (y:Nat))):=fun W hW=>by
    rcases (HK4.out _ hW).2 with e | ⟨g',q',e,hc⟩
    ·cases e
    ·cases e;exact ⟨hc 0 (by simp),hc 1 (by simp)⟩
   obtain ⟨z0,z1⟩:=HZC.out _ HS2.out
   simp only [List.length_cons,List.length_nil] at *
   rw [h14] at n0
   clear h14 h5 h23 h15
   go_wp2_with (first
    | (go_at_call_of 52 (Value.int IntKind.i64 (z:Nat));refine (HGO.out z hzk F cf bn wc HA2.out (HT.out.go HS2.out) HOK.out HS2.out).mono ?_;rintro e w3 ⟨rfl,hen1⟩;have HE1:=hid (mends_from HS2.out hen1);have HSC:=hid hen1.1;clear hen1 z0 z1;obtain ⟨hs3,cf3,bn3,ha3,ho3,hn3⟩:=HE1.out;have HS3:=hid hs3;have HA3:=hid ha3;have HO3:=hid ho3;have HN3:=hid hn3;clear hs3 ha3 ho3 hn3;obtain ⟨z0,z1⟩:=HZC.out _ HS3.out)
    | (go_at_call_of 52 (Value.int IntKind.i64 (y:Nat));refine (HGM.out y hyk _ cf3 bn3 w3 HA3.out (HT.out.go HS3.out) HO3.out HSC.out).mono ?_;rintro e w4 ⟨rfl,hen4⟩;have HE4:=hid (mends_join HS3.out HN3.out hen4);clear hen4))
   go_end0
   rw [E.out]
   exact ⟨rfl,HE4.out⟩
  by_cases h16:(x.nd k).kind=16
  ·obtain ⟨z,y,r',hzr⟩:=kids_two (HX.out.fit k hkN) (.inr h16)
   obtain ⟨r,hr⟩:∃ r,r=y :: r':=⟨_,rfl⟩
   rw [← hr] at hzr
   clear hr
   have hkl:kl=z :: r:=HKL.out.symm.trans hzr
   have E:Hid (evs=wk x.nd x.o z (envL L) ++ r.flatMap (fun j=>wk x.nd x.o j ((envL L).ext (x.nd k).text k))):=by
    have:=HEV.out
    unfold nodeE at this
    rw [if_neg h5,if_pos (.inr h16),hzr] at this
    exact this
   have hdn:=HX.out.down k
   rw [hzr] at hdn
   have hzk:=hdn z (by simp)
   have HRK:Hid (∀ j ∈ r,j < k):=fun j hj=>hdn j (by simp [hj])
   have hl5:=HX.out.kids k
   rw [hzr] at hl5
   clear hdn hzr
   subst hkl
   rcases HK3.out with e | ⟨gg,rfl⟩
   ·cases e
   have HZC:Hid (∀ W,Sv x.S w W→W.cell? ⟨gg,0,none⟩=some (.int .i64 (z:Nat))∧∀ i,i < r.length→W.cell? ⟨gg,i+1,none⟩=some (.int .i64 (r.getD i 0:Nat))):=fun W hW=>by
    rcases (HK4.out _ hW).2 with e | ⟨g',q',e,hc⟩
    ·cases e
    ·cases e
     refine ⟨hc 0 (by simp),fun i hi=>?_⟩
     have:=hc (i+1) (by simp;omega)
     rw [Nat.zero_add] at this
     simpa using this
   obtain ⟨z0,_⟩:=HZC.out _ HS2.out
   obtain ⟨m,hm⟩:∃ m,r.length=m:=⟨_,rfl⟩
   have HM:=hid hm
   simp only [List.length_cons] at *
   rw [hm] at hl5 hk1 ⊢
   rw [h16] at n0
   clear h16 h5 h23 h15 h14 hm
   go_wp2_with (first
    | (go_at_call 52;refine (HGO.out z hzk F cf bn wc HA2.out (HT.out.go HS2.out) HOK.out HS2.out).mono ?_;rintro e w3 ⟨rfl,hen1⟩;have HE1:=hid (mends_from HS2.out hen1);have HSC:=hid hen1.1;clear hen1 z0))
   clear n0 n1 n2 n3 n4
   go_loopw [9] (fun i wr=>∃ j:Nat,j≤m∧i=.int .i64 ((j:Int)+1)∧Sv x.S wc wr∧x.Ends w wr F bn (wk x.nd x.o z (envL L) ++ (r.take j).flatMap fun j=>wk x.nd x.o j ((envL L).ext (x.nd k).text k))) (fun i _=>m+1 - (intOf i).toNat)
   case atStart =>
    refine ⟨0,Nat.zero_le _,by go_num,HSC.out,?_⟩
    rw [List.take_zero,List.flatMap_nil,List.append_nil]
    exact HE1.out
   case round =>
    obtain ⟨j,hj,rfl,hsr,hen⟩:=hrel
    clear HSC HE1
    have HSC:=hid hsr
    have HE1:=hid hen
    clear hsr hen
    obtain ⟨hs3,cf3,bn3,ha3,ho3,hn3⟩:=HE1.out;have HS3:=hid hs3;have HA3:=hid ha3;have HO3:=hid ho3;have HN3:=hid hn3;clear hs3 ha3 ho3 hn3
    by_cases hlt:j < m
    ·obtain ⟨y,hy⟩:∃ y,r[j]?=some y:=⟨_,List.getElem?_eq_getElem (by have:=HM.out;omega)⟩
     have HY:=hid hy
     have hyk:=HRK.out y (List.mem_of_getElem? hy)
     have c0:=(HZC.out _ HS3.out).2 j (by have:=HM.out;omega)
     rw [List.getD_eq_getElem?_getD,hy] at c0
     simp only [Option.getD_some] at c0
     clear hy
     go_wp2_with (first
      | (go_at_call 52;refine (HGM.out y hyk _ cf3 bn3 _ HA3.out (HT.out.go HS3.out) HO3.out HSC.out).mono ?_;rintro e w4 ⟨rfl,hen4⟩;have HE4:=hid (mends_join HS3.out HN3.out hen4);have HSC4:=hid (HSC.out.trans hen4.1);clear hen4))
     have HNX:Hid (x.Ends w w4 F bn (wk x.nd x.o z (envL L) ++ (r.take (j+1)).flatMap fun j=>wk x.nd x.o j ((envL L).ext (x.nd k).text k))):=by
      rw [List.take_succ_eq_append_getElem (by have:=HM.out;omega),(List.getElem?_eq_some_iff.1 HY.out).2,List.flatMap_append]
      have e2:[y].flatMap (fun j=>wk x.nd x.o j ((envL L).ext (x.nd k).text k))=wk x.nd x.o y ((envL L).ext (x.nd k).text k):=by simp
      rw [e2,← List.append_assoc]
      exact HE4.out
     go_wp2
     go_roundw
     case rel=>exact ⟨j+1,by omega,by go_num,HSC4.out,HNX.out⟩
     case measure=>simp [intOf];omega
    ·obtain rfl:j=m:=by omega
     have HEND:Hid (x.Ends w wr F bn evs):=by
      rw [E.out]
      have:=HE1.out
      rw [List.take_of_length_le (by have:=HM.out;omega)] at this
      exact this
     go_wp2
     go_end0
     exact ⟨rfl,HEND.out⟩
  ·have E:Hid (evs=kl.flatMap (fun j=>wk x.nd x.o j (envL L))):=by
    have:=HEV.out
    unfold nodeE at this
    rw [if_neg h5,if_neg (by omega),if_neg h15,if_neg h23,HKL.out] at this
    exact this
   have hdn:=HX.out.down k
   have hl5:=HX.out.kids k
   rw [HKL.out] at hdn hl5
   have HRK:=hid hdn
   clear hdn
   have q1:((x.nd k).kind == 5)=false:=by rw [beq_eq_false_iff_ne];omega
   have q2:((x.nd k).kind == 14)=false:=by rw [beq_eq_false_iff_ne];omega
   have q3:((x.nd k).kind == 16)=false:=by rw [beq_eq_false_iff_ne];omega
   have q4:((x.nd k).kind == 15)=false:=by rw [beq_eq_false_iff_ne];omega
   have q5:((x.nd k).kind == 20)=false:=by rw [beq_eq_false_iff_ne];omega
   have q7:((x.nd k).kind == 23)=false:=by rw [beq_eq_false_iff_ne];omega
   obtain ⟨m,hm⟩:∃ m,kl.length=m:=⟨_,rfl⟩
   have HM:=hid hm
   rw [hm] at hl5 hk1 HK4 ⊢
   clear h5 h14 h15 h16 h23 hm
   go_wp2
   clear n0 n1 n2 n3 n4
   go_loopw [10] (fun i wr=>∃ j:Nat,j≤m∧i=.int .i64 j∧x.Ends w wr F bn ((kl.take j).flatMap fun j=>wk x.nd x.o j (envL L))) (fun i _=>m - (intOf i).toNat)
   case atStart=>exact ⟨0,Nat.zero_le _,rfl,⟨HS2.out,cf,bn,HA2.out,HOK.out.congr (fun y=>by simp [fls]),fun _=>rfl⟩⟩
   case round =>
    obtain ⟨j,hj,rfl,hen⟩:=hrel
    have HE1:=hid hen
    clear hen
    obtain ⟨hs3,cf3,bn3,ha3,ho3,hn3⟩:=HE1.out;have HS3:=hid hs3;have HA3:=hid ha3;have HO3:=hid ho3;have HN3:=hid hn3;clear hs3 ha3 ho3 hn3
    by_cases hlt:j < m
    ·have hpl:=(HK4.out _ HS3.out).2
     rcases hpl with e | ⟨gg,qq,rfl,hc⟩
     ·have:=HM.out;rw [e] at this;simp at this;omega
     obtain ⟨y,hy⟩:∃ y,kl[j]?=some y:=⟨_,List.getElem?_eq_getElem (by have:=HM.out;omega)⟩
     have HY:=hid hy
     have hyk:=HRK.out y (List.mem_of_getElem? hy)
     have c0:=hc j (by have:=HM.out;omega)
     rw [List.getD_eq_getElem?_getD,hy] at c0
     simp only [Option.getD_some] at c0
     clear hy hc
     go_wp2_with (first
      | (go_at_call 52;refine (HGO.out y hyk _ cf3 bn3 _ HA3.out (HT.out.go HS3.out) HO3.out HS3.out).mono ?_;rintro e w4 ⟨rfl,hen4⟩;have HE4:=hid (mends_join HS3.out HN3.out hen4);clear hen4))
     have HNX:Hid (x.Ends w w4 F bn ((kl.take (j+1)).flatMap fun j=>wk x.nd x.o j (envL L))):=by
      rw [List.take_succ_eq_append_getElem (by have:=HM.out;omega),(List.getElem?_eq_some_iff.1 HY.out).2,List.flatMap_append]
      have e2:[y].flatMap (fun j=>wk x.nd x.o j (envL L))=wk x.nd x.o y (envL L):=by simp
      rw [e2]
      exact HE4.out
     go_wp2
     go_roundw
     case rel=>exact ⟨j+1,by omega,by go_num,HNX.out⟩
     case measure=>simp [intOf];omega
    ·obtain rfl:j=m:=by omega
     have HEND:Hid (x.Ends w wr F bn evs):=by
      rw [E.out]
      have:=HE1.out
      rw [List.take_of_length_le (by have:=HM.out;omega)] at this
      exact this
     go_wp2
     go_end0
     exact ⟨rfl,HEND.out⟩
theorem go1_all (x:Mx) (hx:x.Ok) (k:Nat):k < x.N→GoOk x k:=by
 induction k using Nat.strongRecOn with
 | ind k ih=>exact fun hk=>go1_any x hx k hk fun j hj=>ih j hj (by omega)
theorem Gd.lo {B:Nat} {w w':World} (h:Gd B w w'):Below B w w':=⟨h.os,h.tape,h.output,h.size,h.low⟩
theorem GS.start {R p:Nat} {w:World} (h:Rd R w p) (x:Nat) (hx:x≤100):GS R w.heap.size [] [] (p+1) (w.alloc (.cells #[.pointer (some ⟨R,0,none⟩),.slice none 0 0,.slice none 0 0,.int .i64 0,.int .i64 (20+x)] 106)) :=
 ⟨0,20+x,p,⟨⟨.slice none 0 0,.slice none 0 0,heap_alloc_new w _,⟨rfl,.inl ⟨rfl,rfl⟩⟩,⟨rfl,.inl ⟨rfl,rfl⟩⟩⟩,h.next ((Below.refl _ _).alloc (Nat.le_refl _) _),⟨Nat.le_refl _,h.lt⟩,fun y hy=>(nomatch hy),fun y hy=>(nomatch hy)⟩,by omega,by omega,by omega,by omega⟩
set_option maxHeartbeats 4000000 in
theorem prog_any (R p:Nat) (w:World) (h:Rd R w p) (hp:p≤1000) :
  Calls Tryz.prog 33 #[.pointer (some ⟨R,0,none⟩)] w fun e w2=>∃ g n c,e=.returned (.agg #[.slice (some ⟨g,0,none⟩) n c])∧Has 3100 w2 (.slice (some ⟨g,0,none⟩) n c)∧(∃ p',p'≤p+40000∧Rd R w2 p')∧BR R w w2:=by
 have HB0:=hid ((Below.refl w.heap.size w).alloc (Nat.le_refl _) (.cells #[.slice none 0 0] 25))
 have HBX:=hid (heap_alloc_new w (.cells #[.slice none 0 0] 25))
 have HR:=hid (h.next HB0.out)
 have hRl:=h.lt
 clear h
 go_enter Tryz.func33,Tryz.ntmps33
 go_wp2_with fail
 refine (pick_any R p 80 _ (by omega) (by omega) HR.out).mono ?_
 rintro e w1 ⟨⟨x1,rfl,hx1⟩,r1,s1⟩
 obtain ⟨rb,hrb⟩:∃ g,w.heap.size=g:=⟨_,rfl⟩
 have hb1:=(s1.block w.heap.size (by simp) (by show ¬ w.heap.size=R;omega)).trans HBX.out
 rw [hrb] at hb1
 have HB1:=hid hb1
 have HS1:=hid s1
 have HR1:=hid r1
 have hrb1:rb < w1.heap.size:=(Array.getElem?_eq_some_iff.1 hb1).1
 clear hb1 s1 r1 HR
 have hw1:IntKind.i64.wrap (20+(x1:Int))=20+(x1:Int):=by rw [IntKind.wrap_i64];omega
 go_upto_region 2 with fail
 have HAL:=hid (((Below.refl w1.heap.size w1).alloc (Nat.le_refl _) (.cells #[.pointer (some ⟨R,0,none⟩),.slice none 0 0,.slice none 0 0,.int .i64 0,.int .i64 (20+x1)] 106)).alloc (by simp) (.cells #[] 23))
 have HGS:=hid ((GS.start HR1.out x1 (by omega)).next ((Below.refl _ _).alloc (Nat.le_refl _) (.cells #[] 23)))
 have HB2:=hid (hp_next HB1.out HAL.out)
 go_wp2_with fail
 refine (pick_gs HGS.out (by omega) 5 (by omega)).mono ?_
 rintro e w3 ⟨x3,rfl,hx3,g3,k3⟩
 have HG3:=hid g3
 have HB3:=hid ((k3.block rb _ _ _ HB2.out (by unfold GenT;decide)).trans HB2.out)
 have HK3:=hid k3
 clear g3 k3 HGS
 have hw3:IntKind.i64.wrap (1+(x3:Int))=((1+x3:Nat):Int):=by rw [IntKind.wrap_i64];omega
 go_wp2_with fail
 refine (file_any R w1.heap.size _ _ (1+x3) w3 [] [] HG3.out (by omega) (by decide) (by decide) (by omega) (by omega)).mono ?_
 rintro e w4 ⟨g4,n4,k4,rfl,l4,⟨ns4,fs4,gs4⟩,d4⟩
 have HB4:=hid ((d4.block rb _ _ _ HB3.out (by unfold GenT;decide) (by decide)).trans HB3.out)
 have r0:=cell_hp HB4.out 0
 have rf:=frozen_hp HB4.out 0
 simp at r0
 have HG4:=hid gs4
 have HL4:=hid l4
 have HD4:=hid d4
 clear gs4 l4 d4
 go_wp2
 refine bodyPost_ret (v:=.agg #[.slice (some ⟨g4,0,none⟩) n4 k4]) (by simp [results,Tryz.results33,go_sem,r0]) rfl ⟨g4,n4,k4,rfl,?_,?_,?_⟩
 ·obtain ⟨l,h1,h2⟩:=HL4.out
  refine ⟨l,h1.keep fun g cur hc=>Below.heap_setCell _ _ _ _ (fun e=>?_),h2⟩
  have e':g=rb:=e
  subst e'
  rw [HB4.out] at hc
  cases hc
 ·obtain ⟨c5,sz5,p5,g5,_,hp5,_⟩:=HG4.out.set_other (i:=0) HB4.out (by unfold GenT;decide) (by decide) (by decide) (by omega) (.slice (some ⟨g4,0,none⟩) n4 k4)
  exact ⟨p5,by omega,g5.rd⟩
 ·have b1:BR R w w1:=(BR.of_below HB0.out (by omega)).trans (BR.of_sv HS1.out (by simp;omega))
  have b2:BR R w1 w4:=(BR.of_below HAL.out (by omega)).trans (BR.of_gd (HK3.out.d.trans HD4.out))
  exact (b1.trans b2).set (by omega) (by omega) _
def slLen:Value→Nat
 | .slice _ n _=>n
 | _=>0
structure EI (R eb:Nat) (w:World) (N a P:Nat) (kd:Int) (pv:Value) (wr:World):Prop where
 rd:∃ p,p≤P∧Rd R wr p
 parts:∃ (xs:List Value) (ls:List (List Nd)),xs.length=a∧wr.ownsRow w.heap.size 23 1 pv a xs∧xs.length=ls.length∧(∀ (j:Nat) u l,xs[j]?=some u→ls[j]?=some l→NdIn wr u l)∧NdOk N ls.flatten∧∀ u ∈ xs,u.ownBlock≠some eb
 box:wr.heap[eb]?=some (.cells #[.int .i64 kd,.int .i64 0,.int .i64 0,.string ⟨#[]⟩,.int .i64 0] 35 (0,0))
 sv:Sv (fun k=>k=R) w wr
 lo:w.heap.size≤eb
 lt:R < w.heap.size
section
variable {R eb:Nat} {w:World} {N a P:Nat} {kd:Int} {pv:Value} {wr:World}
theorem EI.psl (h:EI R eb w N a P kd pv wr):∃ pa pc,pv=.slice pa a pc:=by
 obtain ⟨xs,ls,_,h2,_⟩:=h.parts
 exact own_sl h2
theorem EI.at_row (h:EI R eb w N a P kd pv wr) (ha:0 < a):∃ g c,pv=.slice (some ⟨g,0,none⟩) a c:=by
 obtain ⟨xs,ls,h1,h2,_⟩:=h.parts
 rcases h2.2 with ⟨_,h0⟩ | ⟨g,cap,cur,e,_⟩
 ·omega
 ·exact ⟨g,cap,e⟩
theorem EI.next (h:EI R eb w N a P kd pv wr) {w2:World} (hb:Below wr.heap.size wr w2):EI R eb w N a P kd pv w2:=by
 obtain ⟨⟨p,h1,h2⟩,⟨xs,ls,q1,q2,q3,q4,q5,q6⟩,h3,h4,h5,h6⟩:=h
 exact ⟨⟨p,h1,h2.next hb⟩,⟨xs,ls,q1,own_below q2 hb,q3,fun j u l hu hl=>(q4 j u l hu hl).next hb,q5,q6⟩,hp_next h3 hb,h4.trans (Sv.of_below hb),h5,h6⟩
theorem EI.mono (h:EI R eb w N a P kd pv wr) {N' P':Nat} (hN:N≤N') (hP:P≤P'):EI R eb w N' a P' kd pv wr:=by
 obtain ⟨⟨p,h1,h2⟩,⟨xs,ls,q1,q2,q3,q4,q5,q6⟩,h3,h4,h5,h6⟩:=h
 exact ⟨⟨p,by omega,h2⟩,⟨xs,ls,q1,q2,q3,q4,q5.mono hN,q6⟩,h3,h4,h5,h6⟩
theorem EI.pick (h:EI R eb w N a P kd pv wr) (hP:P≤1000000) (n:Int) (hn:n≤1000000000) :
  Calls Tryz.prog 14 #[.pointer (some ⟨R,0,none⟩),.int .i64 n] wr fun e w2=>∃ x:Nat,e=.returned (.int .i64 x)∧(x=0∨(x:Int) < n)∧EI R eb w N a (P+1) kd pv w2:=by
 obtain ⟨⟨p,h1,h2⟩,⟨xs,ls,q1,q2,q3,q4,q5,q6⟩,h3,h4,h5,h6⟩:=h
 have h2b:=h2
 obtain ⟨ad,m,cap,hR,_⟩:=h2b
 refine (pick_any R p n wr (by omega) hn h2).mono ?_
 rintro e w2 ⟨⟨x,rfl,hx⟩,h9,h10⟩
 have keep:∀ (k:Nat) cs t fr,wr.heap[k]?=some (.cells cs t fr)→t≠65→w2.heap[k]?=wr.heap[k]?:=fun k cs t fr hc ht=>h10.block k (Array.getElem?_eq_some_iff.1 hc).1 (fun e=>by
  have e':k=R:=e
  subst e'
  rw [hR] at hc
  cases hc
  exact ht rfl)
 exact ⟨x,rfl,hx,⟨p+1,by omega,h9⟩,⟨xs,ls,q1,own_keep q2 fun k cur _ hc=>keep k _ _ _ hc (by decide),q3,fun j u l hu hl=>(q4 j u l hu hl).keep fun g cur hc=>keep g _ _ _ hc (by decide),q5,q6⟩,(keep eb _ _ _ h3 (by decide)).trans h3,h4.trans h10,h5,h6⟩
theorem EI.setk (h:EI R eb w N a P kd pv wr) (k':Int):EI R eb w N a P k' pv (wr.setCell ⟨eb,0,none⟩ (.int .i64 k')):=by
 obtain ⟨⟨p,h1,h2⟩,⟨xs,ls,q1,q2,q3,q4,q5,q6⟩,h3,h4,h5,h6⟩:=h
 have keep:∀ k,k≠eb→(wr.setCell ⟨eb,0,none⟩ (.int .i64 k')).heap[k]?=wr.heap[k]?:=fun k hk=>Below.heap_setCell _ _ _ _ hk
 have ne:∀ (k:Nat) cs t fr,wr.heap[k]?=some (.cells cs t fr)→t≠35→k≠eb:=fun k cs t fr hc ht e=>by
  subst e
  rw [h3] at hc
  cases hc
  exact ht rfl
 refine ⟨⟨p,h1,h2.sv (S:=fun k=>k=eb) (Sv.setCell (S:=fun k=>k=eb) (Sv.refl _ wr) (p:=⟨eb,0,none⟩) (.inl rfl) _) (fun k e=>by subst e;omega)⟩,⟨xs,ls,q1,own_keep q2 fun k cur _ hc=>keep k (ne k _ _ _ hc (by decide)),q3,fun j u l hu hl=>?_,q5,q6⟩,?_,h4.setCell (.inr h5) _,h5,h6⟩
 ·obtain ⟨e0,g,cap,cur,e1,e2,e3⟩:=q4 j u l hu hl
  refine ⟨e0,g,cap,cur,e1,(keep g fun e=>?_).trans e2,e3⟩
  exact q6 u (List.mem_of_getElem? hu) (by rw [e1,e];rfl)
 ·rw [set_at _ h3];rfl
theorem EI.parted (h:EI R eb w N a P kd pv wr) {w2:World} {v2 u:Value} {K:Nat} {xs:List Value} {ls:List (List Nd)} (hn:xs.length=a) (hl:xs.length=ls.length) (hh:∀ (j:Nat) u l,xs[j]?=some u→ls[j]?=some l→NdIn wr u l) (hok:NdOk N ls.flatten) (hne:∀ u ∈ xs,u.ownBlock≠some eb) (hv:wr.ownsRow w.heap.size 23 1 pv a xs) (hu:Has K wr u) (hub:u.ownBlock≠some eb) (hg:wr.grownBy w2 pv.ownBlock) (ho:w2.ownsRow w.heap.size 23 1 v2 (a+1) (xs ++ [u])):EI R eb w (N+K) (a+1) P kd v2 w2:=by
 have hlo:=own_lo hv
 obtain ⟨⟨p,h1,h2⟩,_,h3,h4,h5,h6⟩:=h
 have keep:∀ (k:Nat) cs t fr,wr.heap[k]?=some (.cells cs t fr)→t≠23→w2.heap[k]?=wr.heap[k]?:=fun k cs t fr hc ht=>hg.block k (Array.getElem?_eq_some_iff.1 hc).1 fun e2=>by
  obtain ⟨_,cur,hc2⟩:=hlo k e2.symm
  rw [hc] at hc2
  cases hc2
  exact ht rfl
 have hnd:∀ u l,NdIn wr u l→NdIn w2 u l:=fun u l hn=>hn.keep fun g cur hc=>keep g _ _ _ hc (by decide)
 obtain ⟨lu,u1,u2⟩:=hu
 refine ⟨⟨p,h1,h2.sv (S:=fun k=>pv.ownBlock=some k) ((Sv.refl _ wr).grown hg fun k hk=>.inl hk) (fun k e=>?_)⟩,⟨xs ++ [u],ls ++ [lu],by simp [hn],ho,by simp [hl],fun j u' l' hu' hl'=>?_,by rw [List.flatten_append];simpa using hok.app u2,fun v hv=>?_⟩,(keep eb _ _ _ h3 (by decide)).trans h3,h4.grown hg (fun k hk=>.inr (hlo k hk).1),h5,h6⟩
 ·have:=(hlo k e).1
  omega
 ·by_cases hj:j < xs.length
  ·rw [List.getElem?_append_left hj] at hu'
   rw [List.getElem?_append_left (by omega)] at hl'
   exact hnd _ _ (hh j u' l' hu' hl')
  ·rw [List.getElem?_append_right (by omega)] at hu'
   rw [List.getElem?_append_right (by omega)] at hl'
   have hj0:j - xs.length=0:=by
    have:=(List.getElem?_eq_some_iff.1 hu').1
    simp at this
    omega
   rw [hj0] at hu'
   rw [show j - ls.length=0 by omega] at hl'
   cases hu';cases hl'
   exact hnd _ _ u1
 ·rcases List.mem_append.1 hv with hv | hv
  ·exact hne v hv
  ·simp at hv
   subst hv
   exact hub
theorem EI.putAll (h:EI R eb w N a P kd pv wr) {g k:Nat} (hv:pv=.slice (some ⟨g,0,none⟩) a k) (ha:a≤1000) (hK:N≤100000) :
  Calls Tryz.prog 59 #[.agg #[.int .i64 kd,.int .i64 0,.int .i64 0,.string ⟨#[]⟩,.int .i64 0],.slice (some ⟨g,0,none⟩) a k] wr fun e w2=>∃ g n k,e=.returned (.slice (some ⟨g,0,none⟩) n k)∧Has (N+1) w2 (.slice (some ⟨g,0,none⟩) n k)∧Below wr.heap.size wr w2:=by
 obtain ⟨xs,ls,h1,h2,h3,h4,h5,_⟩:=h.parts
 subst hv
 have hparts:PartsIn wr (some ⟨g,0,none⟩) xs ls:=by
  refine ⟨h3,?_,h4⟩
  rcases h2.2 with ⟨e,_⟩ | ⟨g',cap,cur,e,_,b3,_,_,_,b4⟩
  ·cases e
  ·cases e
   refine .inr ⟨g,rfl,cur,b3,fun j u hu=>?_⟩
   rw [Nat.mul_one] at b4
   rw [← b4] at hu
   have hj:=(List.getElem?_eq_some_iff.1 hu).1
   rw [List.length_take] at hj
   rw [List.getElem?_take_of_lt (by omega)] at hu
   simpa using hu
 refine (l2Over_any ⟨kd,0,0,⟨#[]⟩,0⟩ (some ⟨g,0,none⟩) a k xs ls wr h1 (by omega) hparts (by have:=h5.1;omega)).mono ?_
 rintro e w2 ⟨v,rfl,h6,h7⟩
 obtain ⟨g2,n2,k2,rfl⟩:=h6.sl
 exact ⟨g2,n2,k2,rfl,⟨_,h6,h5.over (by show (⟨#[]⟩:ByteArray).size≤1000;decide)⟩,h7⟩
end
theorem put_one (x:Nd) (u:Value) {K:Nat} {W:World} (hu:Has K W u) (hx:x.text.size≤1000) (hK:K≤100000) :
  Calls Tryz.prog 59 #[.agg #[.int .i64 x.kind,.int .i64 x.op,.int .i64 x.n,.string x.text,.int .i64 x.kids],.slice (some ⟨W.heap.size,0,none⟩) 1 1] (W.alloc (.cells #[u] 23)) fun e w2=>∃ g n k,e=.returned (.slice (some ⟨g,0,none⟩) n k)∧Has (K+1) w2 (.slice (some ⟨g,0,none⟩) n k)∧Below W.heap.size W w2:=by
 obtain ⟨l,h1,h2⟩:=hu
 refine (over1 x u l W h1 (by have:=h2.1;omega)).mono ?_
 rintro e w2 ⟨v,rfl,h3,h4⟩
 obtain ⟨g,n,k,rfl⟩:=h3.sl
 exact ⟨g,n,k,rfl,⟨_,h3,h2.over hx⟩,h4⟩
theorem nd_ne {W:World} {u:Value} {x:Nd} {l:List Nd} {eb:Nat} {kd:Int} {a1 a2 a3 a4:Value} (h:NdIn W u (x :: l)) (hb:W.heap[eb]?=some (.cells #[.int .i64 kd,a1,a2,a3,a4] 35 (0,0))) (hk:x.kind≠kd):u.ownBlock≠some eb:=fun e=>by
 obtain ⟨_,g,cap,cur,e1,e2,e3⟩:=h
 rw [e1] at e
 simp only [Value.ownBlock,Option.some.injEq] at e
 subst e
 rw [hb] at e2
 cases e2
 have:=e3 0 (.int .i64 x.kind) rfl
 simp at this
 exact hk this.symm
end Go.Proofs.YthnohneaanphbaaGreatDoor
