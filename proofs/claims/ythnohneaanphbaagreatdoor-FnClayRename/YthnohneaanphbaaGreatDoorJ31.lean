import Derived.Test.YthnohneaanphbaaGreatDoorJ30
namespace Go.Proofs.YthnohneaanphbaaGreatDoor
open Go.RowKit Go.Maps Go.WideMaps
set_option maxRecDepth 20000
theorem isE_le {k:Int} (h:isE k=true):1≤k∧k≤16:=by
 simp [isE,inR] at h;exact h
theorem kids_inner {nd:Nat→Nd} {o:List (List Nat)} {k:Nat} (h:FitAt nd o k) (hk:(nd k).kind≤22):∀ j ∈ o.getD k [],(nd j).kind≤19:=by
 obtain ⟨_,h⟩:=h
 generalize o.getD k []=ks at h
 intro j hj
 obtain ⟨i,hi,rfl⟩:=List.getElem_of_mem hj
 have e:ks.getD i 0=ks[i]:=by rw [List.getD_eq_getElem?_getD,List.getElem?_eq_getElem hi];rfl
 have allE:AllE ks.length (fun k=>nd (ks.getD k 0))→(nd ks[i]).kind≤19:=fun h=>by
  have:=isE_le (h i hi);simp only [e] at this;omega
 rcases h with ⟨_,h⟩ | ⟨_,_,h⟩ | ⟨_,_,h⟩ | ⟨_,_,h⟩ | ⟨_,_,_,h⟩ | ⟨_,_,h⟩ | ⟨_,_,h⟩ | ⟨_,_,h,_⟩ | ⟨_,f,_,_,_,h1,h2,_⟩ | ⟨_,_,_,h1,h2⟩ | ⟨h,_⟩ | ⟨h,_⟩
 ·omega
 ·exact allE h
 ·exact allE h
 ·exact allE h
 ·exact allE h
 ·exact allE h
 ·exact allE h
 ·have:=h i hi;simp only [e] at this;omega
 ·by_cases hf:i < f
  ·have:=isE_le (h1 i hf);simp only [e] at this;omega
  ·have:=h2 i (by omega) hi;simp only [e] at this;omega
 ·by_cases hf:i+1 < ks.length
  ·have:=h1 i hf;simp only [e] at this;omega
  ·have e2:ks.length - 1=i:=by omega
   rw [e2] at h2
   have:=isE_le h2;simp only [e] at this;omega
 ·omega
 ·omega
theorem kids_two {nd:Nat→Nd} {o:List (List Nat)} {k:Nat} (h:FitAt nd o k) (hk:(nd k).kind=14∨(nd k).kind=16):∃ a b r,o.getD k []=a :: b :: r:=by
 obtain ⟨_,h⟩:=h
 have hl:2≤(o.getD k []).length:=by
  rcases h with h | h | h | h | h | h | h | h | h | h | h | h <;> omega
 match hq:o.getD k [],hl with
 | a :: b :: r,_=>exact ⟨a,b,r,rfl⟩
theorem kids_one {nd:Nat→Nd} {o:List (List Nat)} {k:Nat} (h:FitAt nd o k) (hk:(nd k).kind=15∨(nd k).kind=20):∃ ps l,o.getD k []=ps ++ [l]∧ps.length≤8:=by
 obtain ⟨_,h⟩:=h
 have hl:1≤(o.getD k []).length∧(o.getD k []).length≤9:=by
  rcases h with h | h | h | h | h | h | h | h | h | h | h | h <;> omega
 have hne:o.getD k []≠[]:=by intro e;rw [e] at hl;simp at hl
 refine ⟨_,_,last_split hne,?_⟩
 rw [List.length_dropLast];omega
def mksE (nd:Nat→Nd) (o:List (List Nat)) (k:Nat) (kn:Env):List Ev :=
 if (nd k).kind=20∨(nd k).kind=21 then mkE nd kn k else if (nd k).kind=23 then (o.getD k []).flatMap (mkE nd kn) else []
def NodeAt (W:World) (b:Nat) (y:Nd):Prop:=W.heap[b]?=some (.cells #[.int .i64 y.kind,.int .i64 y.op,.int .i64 y.n,.string y.text,.int .i64 y.kids] 35 (0,0))
theorem NodeAt.cells {W:World} {b:Nat} {y:Nd} (h:NodeAt W b y):W.cell? ⟨b,0,none⟩=some (.int .i64 y.kind)∧W.cell? ⟨b,1,none⟩=some (.int .i64 y.op)∧W.cell? ⟨b,2,none⟩=some (.int .i64 y.n)∧W.cell? ⟨b,3,none⟩=some (.string y.text)∧W.cell? ⟨b,4,none⟩=some (.int .i64 y.kids) ∧
  W.frozen? ⟨b,0,none⟩=false∧W.frozen? ⟨b,1,none⟩=false∧W.frozen? ⟨b,2,none⟩=false∧W.frozen? ⟨b,3,none⟩=false∧W.frozen? ⟨b,4,none⟩=false:=by
 have f:∀ i,W.frozen? ⟨b,i,none⟩=false:=fun i=>by unfold World.frozen?;rw [h];simp
 refine ⟨?_,?_,?_,?_,?_,f 0,f 1,f 2,f 3,f 4⟩ <;> (unfold World.cell?;rw [h];rfl)
theorem NodeAt.set {W:World} {b:Nat} {y:Nd} (h:NodeAt W b y) (z:Nd):NodeAt (((((W.setCell ⟨b,0,none⟩ (.int .i64 z.kind)).setCell ⟨b,1,none⟩ (.int .i64 z.op)).setCell ⟨b,2,none⟩ (.int .i64 z.n)).setCell ⟨b,3,none⟩ (.string z.text)).setCell ⟨b,4,none⟩ (.int .i64 z.kids)) b z:=by
 have e:=set_atC (.int .i64 z.kids) (i:=4) (set_atC (.string z.text) (i:=3) (set_atC (.int .i64 z.n) (i:=2) (set_atC (.int .i64 z.op) (i:=1) (set_atC (.int .i64 z.kind) (i:=0) h))))
 unfold NodeAt
 rw [e]
 simp
theorem kids_set {nd:Nat→Nd} {o:List (List Nat)} {k:Nat} (h:FitAt nd o k) (hk:(nd k).kind=21):∃ z,o.getD k []=[z]:=by
 obtain ⟨_,h⟩:=h
 have hl:(o.getD k []).length=1:=by
  rcases h with h | h | h | h | h | h | h | h | h | h | h | h <;> omega
 exact List.length_eq_one_iff.1 hl
set_option maxHeartbeats 2000000 in
theorem walk_any (x:Bx) (hx:x.Ok) (k:Nat) (hkN:k < x.N) (h23:(x.nd k).kind≤23) (ih:∀ j,j < k→(x.nd j).kind≤19→WalkOk x j) (kn:Env):WalksTo x k (fun kn=>wk x.nd x.o k kn ++ mksE x.nd x.o k kn) kn:=by
 intro a bn p w h ht hk
 have e0:=wk_eq hx.down (hx.kidded k hkN) kn
 obtain ⟨evs,hev⟩:∃ evs,evs=wk x.nd x.o k kn ++ mksE x.nd x.o k kn:=⟨_,rfl⟩
 show Calls Tryz.prog 36 #[.pointer (some ⟨x.bb,0,none⟩),.int .i64 k,.pointer a] w fun e w'=>e=.returned (.tuple #[])∧x.Ends w w' bn p (wk x.nd x.o k kn ++ mksE x.nd x.o k kn)
 rw [← hev]
 rw [e0] at hev
 clear e0
 have HEV:=hid hev
 clear hev
 have hb1:∀ O,Below w.heap.size w (w.alloc O):=fun O=>(Below.refl _ _).alloc (Nat.le_refl _) O
 have hSn:¬ x.S w.heap.size:=fun e=>absurd (h.lt _ e) (Nat.lt_irrefl _)
 obtain ⟨f0,f1,f2,f3,f4,f5,f6⟩:=h.five
 have g0:∀ O,(w.alloc O).cell? ⟨x.bb,0,none⟩=_:=fun O=>(h.go (hb1 O)).five.1
 have g1:∀ O,(w.alloc O).cell? ⟨x.bb,1,none⟩=_:=fun O=>(h.go (hb1 O)).five.2.1
 obtain ⟨c0,c1,c2,c3,c4⟩:=ht.now.1 k hkN
 have d0:∀ O,(w.alloc O).cell? ⟨x.g,k * 5,none⟩=_:=fun O=>((ht _ (Sv.of_below (hb1 O))).1 k hkN).1
 have d1:∀ O,(w.alloc O).cell? ⟨x.g,k * 5+1,none⟩=_:=fun O=>((ht _ (Sv.of_below (hb1 O))).1 k hkN).2.1
 have d2:∀ O,(w.alloc O).cell? ⟨x.g,k * 5+2,none⟩=_:=fun O=>((ht _ (Sv.of_below (hb1 O))).1 k hkN).2.2.1
 have d3:∀ O,(w.alloc O).cell? ⟨x.g,k * 5+3,none⟩=_:=fun O=>((ht _ (Sv.of_below (hb1 O))).1 k hkN).2.2.2.1
 have d4:∀ O,(w.alloc O).cell? ⟨x.g,k * 5+4,none⟩=_:=fun O=>((ht _ (Sv.of_below (hb1 O))).1 k hkN).2.2.2.2
 obtain ⟨ad,c,hk1,hk2,hk3,hk4⟩:=Bx.kids hx ht k hkN
 obtain ⟨kl,hkl⟩:∃ kl,x.o.getD k []=kl:=⟨_,rfl⟩
 rw [hkl] at hk4 hk1 hk3
 have k0:=hk4.now.1
 have k1:∀ O,(w.alloc O).cell? ⟨x.gk,k,none⟩=_:=fun O=>(hk4 _ (Sv.of_below (hb1 O))).1
 have HX:=hid hx
 have HSn:=hid hSn
 have HB1:=hid hb1
 have HA:=hid h
 have HKL:=hid hkl
 have HK4:=hid hk4
 have HK3:=hid hk3
 have HIH:=hid ih
 have HT:=hid ht
 have HK:=hid hk
 have hN5:=hx.N
 clear h hx ht hk hk4 hkl hk3 hb1 ih hSn
 go_enter Tryz.func36,Tryz.ntmps36
 go_wp2
 go_region
 have HN2:Hid (NodeAt (w.alloc (.cells #[.int .i64 (x.nd k).kind,.int .i64 (x.nd k).op,.int .i64 (x.nd k).n,.string (x.nd k).text,.int .i64 (x.nd k).kids] 35)).drew w.heap.size (x.nd k)):=heap_alloc_new w _
 have HS2:Hid (Sv x.S w (w.alloc (.cells #[.int .i64 (x.nd k).kind,.int .i64 (x.nd k).op,.int .i64 (x.nd k).n,.string (x.nd k).text,.int .i64 (x.nd k).kids] 35)).drew):=Sv.drew (w:=w.alloc (.cells #[.int .i64 (x.nd k).kind,.int .i64 (x.nd k).op,.int .i64 (x.nd k).n,.string (x.nd k).text,.int .i64 (x.nd k).kids] 35)) (Sv.of_below (HB1.out _))
 have HA2:Hid (x.At (w.alloc (.cells #[.int .i64 (x.nd k).kind,.int .i64 (x.nd k).op,.int .i64 (x.nd k).n,.string (x.nd k).text,.int .i64 (x.nd k).kids] 35)).drew bn p.1 p.2):=HA.out.go (HB1.out _).drew
 clear g0 g1 d0 d1 d2 d3 d4 k0 k1 c0 c1 c2 c3 c4 f0 f1 f2 f3 f4 f5 f6 HB1 HA
 generalize (w.alloc (.cells #[.int .i64 (x.nd k).kind,.int .i64 (x.nd k).op,.int .i64 (x.nd k).n,.string (x.nd k).text,.int .i64 (x.nd k).kids] 35)).drew=w2 at *
 have HT2:=hid (HT.out.go HS2.out)
 have HK2:=hid (HK.out.go HS2.out)
 obtain ⟨n0,n1,n2,n3,n4,_,_,_,_,_⟩:=HN2.out.cells
 obtain ⟨f0,f1,f2,f3,f4,f5,f6⟩:=HA2.out.five
 by_cases h5:(x.nd k).kind=5
 ·have E:Hid (evs=useE x.nd kn k):=by
   have:=HEV.out
   unfold nodeE mksE at this
   rw [if_pos h5,if_neg (by omega),if_neg (by omega),List.append_nil] at this
   exact this
  rw [h5] at n0
  clear h5
  go_wp2_with (first
   | (go_at_call 64;refine (uses_any x HX.out k kn a bn p _ HA2.out HT2.out.now HK2.out hkN).mono ?_;rintro e w3 ⟨rfl,hen1⟩;have HE1:=hid hen1;clear hen1))
  go_end0
  rw [E.out]
  exact ⟨rfl,ends_join (e1:=[]) HS2.out (fun _=>rfl) HE1.out⟩
 by_cases h14:(x.nd k).kind=14∨(x.nd k).kind=16
 ·obtain ⟨z,y,r,hzr⟩:=kids_two (HX.out.fit k hkN) h14
  have hkl:kl=z :: y :: r:=HKL.out.symm.trans hzr
  have E:Hid (evs=wk x.nd x.o z kn ++ (y :: r).flatMap (fun j=>wk x.nd x.o j (kn.ext (x.nd k).text k))):=by
   have:=HEV.out
   unfold nodeE mksE at this
   rw [if_neg h5,if_pos h14,if_neg (by omega),if_neg (by omega),List.append_nil,hzr] at this
   exact this
  have hin:=kids_inner (HX.out.fit k hkN) (by omega)
  have hdn:=HX.out.down k
  rw [hzr] at hin hdn
  have HZ:=hid (HIH.out z (hdn z (by simp)) (hin z (by simp)))
  have HR:Hid (∀ j ∈ y :: r,WalkOk x j):=fun j hj=>HIH.out j (hdn j (List.mem_cons_of_mem _ hj)) (hin j (List.mem_cons_of_mem _ hj))
  have hl5:=HX.out.kids k
  rw [hzr] at hl5
  clear hin hdn hzr
  subst hkl
  rcases HK3.out with e | ⟨gg,rfl⟩
  ·cases e
  have z0:w2.cell? ⟨gg,0,none⟩=some (.int .i64 (z:Nat)):=by
   rcases (HK4.out _ HS2.out).2 with e | ⟨g',q',e,hc⟩
   ·cases e
   ·cases e;exact hc 0 (by simp)
  have HPL:Hid (Stb x.S w fun W=>PlA W (some ⟨gg,1,none⟩) (y :: r)):=fun W hW=>by
   rcases (HK4.out _ hW).2 with e | ⟨g',q',e,hc⟩
   ·cases e
   ·cases e
    refine .inr ⟨gg,1,rfl,fun i hi=>?_⟩
    have:=hc (i+1) (by simp at hi ⊢;omega)
    rw [show 0+(i+1)=1+i by omega] at this
    simpa using this
  simp only [List.length_cons] at *
  have hcc:¬ c=1:=by omega
  have H14:=hid h14
  have H5:=hid h5
  have hcb:r.length+1+1≤c:=hk1
  rcases h14 with h14 | h14
  all_goals
   rw [h14] at n0
   clear h14 h5
   go_wp2_with (first
    | (go_at_call 36;refine (HZ.out kn a bn p _ HA2.out HT2.out HK2.out).mono ?_;rintro e w3 ⟨rfl,hen1⟩;have HE1:=hid hen1;clear hen1))
   clear f0 f1 f2 f3 f4 f5 f6 n0 n1 n2 n3 n4 z0
   have hS3:=HE1.out.1
   have n3:w3.cell? ⟨w.heap.size,3,none⟩=some (.string (x.nd k).text):=(hS3.cell (p:=⟨w.heap.size,3,none⟩) (by show w.heap.size < w2.heap.size;exact World.block_lt_of_cell? _ _ HN2.out.cells.1) HSn.out).trans HN2.out.cells.2.2.2.1
   have HS3:=hid (HS2.out.trans hS3)
   obtain ⟨_,bn3,ha3,hn3⟩:=HE1.out
   have HA3:=hid ha3
   have HN3:=hid hn3
   clear ha3 hn3 hS3
   go_region_with (first
    | (go_at_call 66;refine (with_any x.S a kn _ k w3.drew (HX.out.text k hkN) (by omega) HA3.out.lt (HK.out.go HS3.out.drew)).mono ?_;rintro e w4 ⟨b4,rfl,hk4,hb4⟩;have HK4':=hid hk4;have HB4:=hid hb4;clear hk4 hb4)
    | (go_at_call 65;refine (walkAll_of x (y :: r) (kn.ext (x.nd k).text k) (fun j kn=>wk x.nd x.o j kn) (fun j hj=>HR.out j hj _) (some ⟨gg,1,none⟩) _ (some ⟨b4,0,none⟩) bn3 (ft p (fls (wk x.nd x.o z kn))) w4 (by simp at hl5 ⊢;omega) (HPL.out.go (HS3.out.drew.trans (Sv.of_below HB4.out))) (Bx.At.go (W:=w3.drew) HA3.out HB4.out) (HT.out.go (HS3.out.drew.trans (Sv.of_below HB4.out))) HK4'.out).mono ?_;rintro e w5 ⟨rfl,hen5⟩;have HE5:=hid hen5;clear hen5))
   all_goals
    go_wp2
    go_end0
    rw [E.out]
    exact ⟨rfl,ends_join (HS3.out.drew.trans (Sv.of_below HB4.out)) HN3.out HE5.out⟩
 by_cases h15:(x.nd k).kind=15∨(x.nd k).kind=20
 ·obtain ⟨ps,l,hpl,h8⟩:=kids_one (HX.out.fit k hkN) h15
  have hkl:kl=ps ++ [l]:=HKL.out.symm.trans hpl
  have E0:Hid (nodeE x.nd x.o (fun kn j=>wk x.nd x.o j kn) k kn=(prm x.nd x.o (fun kn j=>wk x.nd x.o j kn) ps kn [] false).1 ++ wk x.nd x.o l (prm x.nd x.o (fun kn j=>wk x.nd x.o j kn) ps kn [] false).2):=by
   show _=_
   unfold nodeE
   rw [if_neg h5,if_neg h14,if_pos h15]
   unfold fnE
   rw [hpl,List.dropLast_concat,List.getLastD_concat]
  have hin:=kids_inner (HX.out.fit k hkN) (by omega)
  have hdn:=HX.out.down k
  have hpN:=HX.out.place k
  rw [hpl] at hin hdn hpN
  have HZ:=hid (HIH.out l (hdn l (by simp)) (hin l (by simp)))
  have HR:Hid (∀ q ∈ ps,∀ j ∈ x.o.getD q [],WalkOk x j):=fun q hq j hj=>HIH.out j (Nat.lt_trans (HX.out.down q j hj) (hdn q (by simp [hq]))) (kids_inner (HX.out.fit q (hpN q (by simp [hq]))) (by have:=hin q (by simp [hq]);omega) j hj)
  have HPN:Hid (∀ q ∈ ps,q < x.N):=fun q hq=>hpN q (by simp [hq])
  clear hin hdn hpl hpN
  subst hkl
  rcases HK3.out with e | ⟨gg,rfl⟩
  ·simp at e
  have HPL:Hid (Stb x.S w fun W=>∀ i,i < ps.length+1→W.cell? ⟨gg,i,none⟩=some (.int .i64 ((ps ++ [l]).getD i 0:Nat))):=fun W hW i hi=>by
   rcases (HK4.out _ hW).2 with e | ⟨g',q',e,hc⟩
   ·simp at e
   ·cases e
    have:=hc i (by simp;omega)
    rwa [Nat.zero_add] at this
  have hle:(ps ++ [l]).length=ps.length+1:=by simp
  rw [hle] at hk1 ⊢
  have H5:=hid h5
  have H14:=hid h14
  rcases h15 with h15 | h15
  ·have E:Hid (evs=(prm x.nd x.o (fun kn j=>wk x.nd x.o j kn) ps kn [] false).1 ++ wk x.nd x.o l (prm x.nd x.o (fun kn j=>wk x.nd x.o j kn) ps kn [] false).2):=by
    have:=HEV.out
    rw [E0.out] at this
    unfold mksE at this
    rw [if_neg (by omega),if_neg (by omega),List.append_nil] at this
    exact this
   rw [h15] at n0
   clear h15 h5 h14
   go_wp2_with (first
    | (go_at_call 67;refine (function_of x HX.out ps l kn (fun kn j=>wk x.nd x.o j kn) (fun q hq j hj kn=>HR.out q hq j hj kn) (fun kn=>HZ.out kn) HPN.out (by omega) gg c a bn p _ hk1 (HPL.out.go HS2.out) HA2.out HT2.out HK2.out).mono ?_;rintro e w3 ⟨rfl,hen1⟩;have HE1:=hid hen1;clear hen1))
   go_end0
   rw [E.out]
   exact ⟨rfl,ends_join (e1:=[]) HS2.out (fun _=>rfl) HE1.out⟩
  ·have E:Hid (evs=((prm x.nd x.o (fun kn j=>wk x.nd x.o j kn) ps kn [] false).1 ++ wk x.nd x.o l (prm x.nd x.o (fun kn j=>wk x.nd x.o j kn) ps kn [] false).2) ++ mkE x.nd kn k):=by
    have:=HEV.out
    rw [E0.out] at this
    unfold mksE at this
    rw [if_pos (by omega)] at this
    exact this
   rw [h15] at n0
   clear h15 h5 h14
   go_wp2_with (first
    | (go_at_call 67;refine (function_of x HX.out ps l kn (fun kn j=>wk x.nd x.o j kn) (fun q hq j hj kn=>HR.out q hq j hj kn) (fun kn=>HZ.out kn) HPN.out (by omega) gg c a bn p _ hk1 (HPL.out.go HS2.out) HA2.out HT2.out HK2.out).mono ?_;rintro e w3 ⟨rfl,hen1⟩;have HE1:=hid (ends_join (e1:=[]) HS2.out (fun _=>rfl) hen1);clear hen1;obtain ⟨hs3,bn3,ha3,hn3⟩:=HE1.out;have HS3:=hid hs3;have HA3:=hid ha3;have HN3:=hid hn3;clear hs3 ha3 hn3)
    | (go_at_call 68;refine (makes_any x HX.out k kn a bn3 _ _ HA3.out (HT.out _ HS3.out) (HK.out.go HS3.out) hkN).mono ?_;rintro e w4 ⟨rfl,hen4⟩;have HE4:=hid (ends_join HS3.out HN3.out hen4);clear hen4))
   go_end0
   rw [E.out]
   exact ⟨rfl,HE4.out⟩
 by_cases h21:(x.nd k).kind=21
 ·obtain ⟨z,hz⟩:=kids_set (HX.out.fit k hkN) h21
  have hkl:kl=[z]:=HKL.out.symm.trans hz
  have E:Hid (evs=wk x.nd x.o z kn ++ mkE x.nd kn k):=by
   have:=HEV.out
   unfold nodeE mksE at this
   rw [if_neg h5,if_neg h14,if_neg h15,if_neg (by omega),if_pos (.inr h21),hz] at this
   simp at this
   exact this
  have hin:=kids_inner (HX.out.fit k hkN) (by omega)
  have hdn:=HX.out.down k
  rw [hz] at hin hdn
  have HZ:=hid (HIH.out z (hdn z (by simp)) (hin z (by simp)))
  clear hin hdn hz
  subst hkl
  rcases HK3.out with e | ⟨gg,rfl⟩
  ·cases e
  have z0:w2.cell? ⟨gg,0,none⟩=some (.int .i64 (z:Nat)):=by
   rcases (HK4.out _ HS2.out).2 with e | ⟨g',q',e,hc⟩
   ·cases e
   ·cases e;exact hc 0 (by simp)
  simp only [List.length_cons,List.length_nil] at *
  rw [h21] at n0
  clear h21 h5 h14 h15
  go_wp2_with (first
   | (go_at_call 36;refine (HZ.out kn a bn p _ HA2.out HT2.out HK2.out).mono ?_;rintro e w3 ⟨rfl,hen1⟩;have HE1:=hid (ends_join (e1:=[]) HS2.out (fun _=>rfl) hen1);clear hen1;obtain ⟨hs3,bn3,ha3,hn3⟩:=HE1.out;have HS3:=hid hs3;have HA3:=hid ha3;have HN3:=hid hn3;clear hs3 ha3 hn3)
   | (go_at_call 68;refine (makes_any x HX.out k kn a bn3 _ _ HA3.out (HT.out _ HS3.out) (HK.out.go HS3.out) hkN).mono ?_;rintro e w4 ⟨rfl,hen4⟩;have HE4:=hid (ends_join HS3.out HN3.out hen4);clear hen4))
  go_end0
  rw [E.out]
  exact ⟨rfl,HE4.out⟩
 by_cases h23':(x.nd k).kind=23
 ·have E:Hid (evs=kl.flatMap (mkE x.nd kn)):=by
   have:=HEV.out
   unfold nodeE mksE at this
   rw [if_neg h5,if_neg h14,if_neg h15,if_pos h23',if_neg (by omega),if_pos h23',HKL.out,List.nil_append] at this
   exact this
  have hpN:=HX.out.place k
  rw [HKL.out] at hpN
  have HPN:=hid hpN
  have hl5:=HX.out.kids k
  rw [HKL.out] at hl5
  clear hpN
  rw [h23'] at n0
  clear h23' h23 h21 h5 h14 h15
  obtain ⟨m,hm⟩:∃ m,kl.length=m:=⟨_,rfl⟩
  have HL:=hid hm
  rw [hm] at hl5 hk1 HK4 ⊢
  clear hm
  go_wp2
  clear f0 f1 f2 f3 f4 f5 f6 n0 n1 n2 n3 n4
  go_loopw [86] (fun i wr=>∃ j:Nat,j≤m∧i=.int .i64 j∧x.Ends w wr bn p ((kl.take j).flatMap (mkE x.nd kn))) (fun i _=>m - (intOf i).toNat)
  case atStart=>exact ⟨0,Nat.zero_le _,rfl,⟨HS2.out,bn,HA2.out,fun _=>rfl⟩⟩
  case round =>
   obtain ⟨j,hj,rfl,hen⟩:=hrel
   obtain ⟨hs1,bn1,ha1,hn1⟩:=hen
   have HS1:=hid hs1
   have HA1:=hid ha1
   have HN1:=hid hn1
   clear hs1 ha1 hn1
   by_cases hlt:j < m
   ·have hpl:=(HK4.out _ HS1.out).2
    rcases hpl with e | ⟨g,q,rfl,hc⟩
    ·have:=HL.out;rw [e] at this;simp at this;omega
    have c0:=hc j (by have:=HL.out;omega)
    obtain ⟨y,hy⟩:∃ y,kl.getD j 0=y:=⟨_,rfl⟩
    have HY:=hid hy
    rw [hy] at c0
    clear hc hy
    have hmem:y ∈ kl:=by
     rw [← HY.out,List.getD_eq_getElem?_getD,List.getElem?_eq_getElem (by have:=HL.out;omega)]
     simp
    have hyN:=HPN.out y hmem
    clear hmem
    go_wp2_with (first
     | (go_at_call 68;refine (makes_any x HX.out y kn a bn1 _ _ HA1.out (HT.out _ HS1.out) (HK.out.go HS1.out) hyN).mono ?_;rintro e w4 ⟨rfl,hen4⟩;have HE4:=hid (ends_join HS1.out HN1.out hen4);clear hen4))
    have HNX:Hid (x.Ends w w4 bn p ((kl.take (j+1)).flatMap (mkE x.nd kn))):=by
     rw [List.take_succ_eq_append_getElem (by have:=HL.out;omega)]
     have e:kl[j]'(by have:=HL.out;omega)=y:=by rw [← HY.out,List.getD_eq_getElem?_getD,List.getElem?_eq_getElem (by have:=HL.out;omega)];simp
     rw [e,List.flatMap_append]
     have e2:[y].flatMap (mkE x.nd kn)=mkE x.nd kn y:=by simp
     rw [e2]
     exact HE4.out
    go_wp2
    go_roundw
    case rel=>exact ⟨j+1,by omega,by go_num,HNX.out⟩
    case measure=>simp [intOf];omega
   ·obtain rfl:j=m:=by omega
    have HEND:Hid (x.Ends w wr bn p evs):=by
     have h:x.Ends w wr bn p ((kl.take j).flatMap (mkE x.nd kn)):=⟨HS1.out,bn1,HA1.out,HN1.out⟩
     rw [List.take_of_length_le (by have:=HL.out;omega)] at h
     rw [E.out]
     exact h
    go_wp2
    go_end0
    exact ⟨rfl,HEND.out⟩
 ·have E:Hid (evs=kl.flatMap (fun j=>wk x.nd x.o j kn)):=by
   have:=HEV.out
   unfold nodeE mksE at this
   rw [if_neg h5,if_neg h14,if_neg h15,if_neg h23',if_neg (by omega),if_neg h23',List.append_nil,HKL.out] at this
   exact this
  have hin:=kids_inner (HX.out.fit k hkN) (by omega)
  have hdn:=HX.out.down k
  have hl5:=HX.out.kids k
  rw [HKL.out] at hin hdn hl5
  have HR:Hid (∀ j ∈ kl,WalkOk x j):=fun j hj=>HIH.out j (hdn j hj) (hin j hj)
  have HL5:=hid hl5
  clear hin hdn hl5
  have q1:((x.nd k).kind == 5)=false:=by rw [beq_eq_false_iff_ne];omega
  have q2:((x.nd k).kind == 14)=false:=by rw [beq_eq_false_iff_ne];omega
  have q3:((x.nd k).kind == 16)=false:=by rw [beq_eq_false_iff_ne];omega
  have q4:((x.nd k).kind == 15)=false:=by rw [beq_eq_false_iff_ne];omega
  have q5:((x.nd k).kind == 20)=false:=by rw [beq_eq_false_iff_ne];omega
  have q6:((x.nd k).kind == 21)=false:=by rw [beq_eq_false_iff_ne];omega
  have q7:((x.nd k).kind == 23)=false:=by rw [beq_eq_false_iff_ne];omega
  have q8:((x.nd k).kind == 24)=false:=by rw [beq_eq_false_iff_ne];omega
  clear h5 h14 h15 h21 h23' h23
  go_wp2_with (first
   | (go_at_call 65;refine (walkAll_of x kl kn (fun j kn=>wk x.nd x.o j kn) (fun j hj=>HR.out j hj _) ad c a bn p w2 HL5.out (fun W hW=>(HK4.out W (HS2.out.trans hW)).2) HA2.out HT2.out HK2.out).mono ?_;rintro e w3 ⟨rfl,hen1⟩;have HE1:=hid hen1;clear hen1))
  go_end0
  rw [E.out]
  exact ⟨rfl,ends_join (e1:=[]) HS2.out (fun _=>rfl) HE1.out⟩
end Go.Proofs.YthnohneaanphbaaGreatDoor
