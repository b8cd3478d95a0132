import Derived.Test.YthnohneaanphbaaGreatDoorJ02
import Derived.Test.YthnohneaanphbaaGreatDoorJ15
namespace Go.Proofs.YthnohneaanphbaaGreatDoor
open Go.RowKit
set_option maxRecDepth 20000
set_option maxHeartbeats 4000000 in
theorem l2Plain_D (k:Int) (hk:k=19∨k=20∨k=21∨k=22∨k=23∨k=24):Pl1 k:=by
 intro op n kids t w ht
 unfold ndV
 have HT:=hid ht
 clear ht
 rcases hk with rfl | rfl | rfl | rfl | rfl | rfl
 all_goals
  go_enter Tryz.func48,Tryz.ntmps48
  go_wp2_with (first
   | (go_at_call 22;refine (l1In_dec _ _ _ _).mono ?_;rintro e w' ⟨rfl,rfl⟩)
   | (go_at_call 74;refine (l2Package_any t _ HT.out).mono ?_;rintro e w' ⟨hs,rfl⟩;rcases hs.get with ⟨rfl,hp⟩ | ⟨rfl,hp⟩)
   | (go_at_call 23;refine (l1NameOk_any t _ HT.out).mono ?_;rintro e w1 ⟨hs,hb⟩;rcases hs.get with ⟨rfl,hp⟩ | ⟨rfl,hp⟩))
  all_goals go_ret
  all_goals refine ⟨⟨_,rfl,?_⟩,?_⟩
  all_goals first
   | exact (Below.refl w.heap.size w).alloc (Nat.le_refl _) _
   | exact Below.trans ((Below.refl w.heap.size w).alloc (Nat.le_refl _) _) (Below.mono hb (B':=w.heap.size) (by simp))
   | (simp [PlainNd,hasText,inR, *];done)
   | ((try simp only [bne_iff_ne,bne_eq_false_iff_eq,ne_eq] at *);(try simp [PlainNd,hasText,inR, *]);done)
def KidsEnd (nd:Nat→Nd) (N:Nat) (w w':World) (e:Ending):Prop :=
 Below w.heap.size w w'∧((∃ v,e=.returned (.tuple #[v,.bool false])∧∀ o x,¬ kidsF nd N=some (o,[x])) ∨
  ∃ L x go co,e=.returned (.tuple #[.slice (some ⟨go,0,none⟩) L.length co,.bool true])∧kidsF nd N=some (L.map (·.2.2),[x])∧RowAt w' 31 go co L.length (gridRow L)∧w.heap.size≤go ∧
   ∀ x ∈ L,w.heap.size≤x.1∧RowAt w' 3 x.1 x.2.1 x.2.2.length (intRow x.2.2))
theorem kids_len {nd:Nat→Nd} {B:Nat} {W0 W:World} {j:Nat} {L:List (Nat × Nat × List Nat)} {s:List Nat} {go co gs cs:Nat} (h:KInv nd B W0 W j L s go co gs cs):L.length=j∧s.length≤j:=by
 have:=kidsF_len nd j _ _ h.1
 rw [List.length_map] at this
 exact ⟨this.1,this.2.1⟩
theorem tail_cells {W:World} {g cap n p:Nat} {sp sk:List Nat} (h:RowAt W 3 g cap n (intRow (sp ++ sk))) (hp:sp.length=p):∀ j u,(intRow sk)[j]?=some u→W.cell? ((⟨g,p,none⟩:Addr).add j)=some u:=by
 intro j u hj
 have hjl:j < sk.length:=by
  have:=(List.getElem?_eq_some_iff.1 hj).1
  rwa [intRow_length] at this
 have hn:n=sp.length+sk.length:=by rw [← h.1,intRow_length,List.length_append]
 have e:((⟨g,p,none⟩:Addr).add j)=⟨g,p+j,none⟩:=by unfold Addr.add;simp
 rw [e,h.cell (p+j) (by omega),intRow_append,List.getElem?_append_right (by rw [intRow_length];omega),intRow_length,hp,Nat.add_sub_cancel_left]
 exact hj
theorem some_not_nil {a:Addr} {n c:Nat} {P:Prop} {v:Value} (h:v=.slice none 0 0 ↔ Value.slice (some a) n c=.slice none 0 0∧P):¬ v=.slice none 0 0:=fun e=>by have:=(h.1 e).1;cases this
set_option maxHeartbeats 2000000 in
theorem l2Kids_any (b N cap:Nat) (nd:Nat→Nd) (w:World) (hN:N≤5000) (hb:b < w.heap.size) (hn:NodesAt w b N nd) :
  Calls Tryz.prog 47 #[.agg #[.slice (some ⟨b,0,none⟩) N cap]] w fun e w'=>KidsEnd nd N w w' e:=by
 have HN:=hid hn
 clear hn
 obtain ⟨i0,hi,hz0,hz1,hz2⟩:=info_parts info_int
 have HHI:=hid (And.intro hi (And.intro hz0 (And.intro hz1 hz2)))
 clear hi hz0 hz1 hz2
 obtain ⟨i1,hi,hz0,hz1,hz2⟩:=info_parts info_ints
 have HHS:=hid (And.intro hi (And.intro hz0 (And.intro hz1 hz2)))
 clear hi hz0 hz1 hz2
 go_enter Tryz.func47,Tryz.ntmps47
 go_wp2
 go_loopw [4,5,6] (fun vo vs i wr=>∃ (j:Nat) (L:List (Nat × Nat × List Nat)) (s:List Nat) (go co gs cs:Nat),j≤N∧i=.int .i64 j∧vo=.slice (some ⟨go,0,none⟩) L.length co∧vs=.slice (some ⟨gs,0,none⟩) s.length cs ∧
   KInv nd (w.heap.size+1) (w.alloc (.cells #[.slice (some ⟨b,0,none⟩) N cap] 25)) wr j L s go co gs cs) (fun _ _ i _=>N - (intOf i).toNat)
 case atStart =>
  refine ⟨0,[],[],w.heap.size+1,0,w.heap.size+2,0,Nat.zero_le _,rfl,rfl,rfl,rfl,?_,?_,by omega,by omega,by omega,by simp,?_⟩
  ·refine ⟨rfl,Nat.le_refl _,by unfold maxLen;omega,#[],?_,rfl,rfl⟩
   have e:∀ (a b:Obj),((w.alloc a).alloc b).heap[w.heap.size+1]?=some b:=fun a b=>by
    have:=heap_alloc_new (w.alloc a) b
    rwa [World.size_alloc] at this
   rw [Below.heap_alloc _ _ _ (by simp)]
   exact e _ _
  ·refine ⟨rfl,Nat.le_refl _,by unfold maxLen;omega,#[],?_,rfl,rfl⟩
   have e:∀ (a b c:Obj),(((w.alloc a).alloc b).alloc c).heap[w.heap.size+2]?=some c:=fun a b c=>by
    have:=heap_alloc_new ((w.alloc a).alloc b) c
    rwa [World.size_alloc,World.size_alloc] at this
   exact e _ _ _
  ·exact ((Below.refl _ _).alloc (by simp) _).alloc (by simp) _
 case round =>
  obtain ⟨j,L,s,go,co,gs,cs,hj,rfl,rfl,rfl,hinv⟩:=hrel
  have HI:=hid hinv
  have hlen:=kids_len hinv
  clear hinv
  obtain ⟨hLl,hsl⟩:=hlen
  have hLb:L.length≤5000:=by omega
  clear hLl
  have t0:=tree_cell HI.out.2.2.2.2.2.2.2
  by_cases hlt:j < N
  ·obtain ⟨_,_,_,_,a4⟩:=(HN.out.below (btree HI.out.2.2.2.2.2.2.2) hb) j hlt
   by_cases hok:0≤(nd j).kids∧(nd j).kids≤s.length
   ·obtain ⟨k,hk⟩:=Int.eq_ofNat_of_zero_le hok.1
    have hks:k≤s.length:=by omega
    clear hok
    obtain ⟨sp,sk,hs,hsk⟩:∃ sp sk,s=sp ++ sk∧sk.length=k:=⟨s.take (s.length - k),s.drop (s.length - k),(List.take_append_drop _ _).symm,by simp;omega⟩
    subst hs
    obtain ⟨p,hp⟩:∃ p,sp.length=p:=⟨_,rfl⟩
    have hpk:(sp ++ sk).length=p+k:=by rw [List.length_append,hp,hsk]
    have HK:=hid hk
    rw [hk] at a4
    rw [hpk] at hks hsl ⊢
    have hBz:w.heap.size+1≤wr.heap.size:=by have:=HI.out.2.2.2.2.2.2.2.size;simpa using this
    have hcs:p+k≤cs:=by have:=HI.out.2.2.1.2.1;omega
    have hgo:=HI.out.2.1.lt
    have hgs:=HI.out.2.2.1.lt
    have hgne:=HI.out.2.2.2.1
    have OWN1:=hid (World.ownsRow_made (e:=3) (size:=1) wr #[] 0 hBz (by unfold maxLen;omega) rfl)
    have R2:=hid HI.out.2.1
    have R3:Hid (RowAt wr 3 gs cs p (intRow sp)):=by
     have:=HI.out.2.2.1
     rw [intRow_append] at this
     have:=this.front
     rw [intRow_length,hp] at this
     exact this
    have TC:=hid (tail_cells (HI.out.2.2.1.alloc (.cells #[] 3)) hp)
    have hskl:(intRow sk).length=k * 1:=by rw [intRow_length,hsk,Nat.mul_one]
    have HSK:=hid hskl
    clear hskl
    by_cases hcp:cs=p
    ·subst hcp
     obtain rfl:k=0:=by omega
     obtain rfl:sk=[]:=List.length_eq_zero_iff.1 hsk
     simp only [Nat.add_zero] at *
     go_wp2_with (first
      | (at_builtin;refine wpList_append_own_at _ rfl (.tmp 33) (.tmp 39) 31 rfl (w.heap.size+1) 3 i0 (.int .i64 0) 1 8 Tryz.underlying31 HHI.out.1 HHI.out.2.1 HHI.out.2.2.1 HHI.out.2.2.2 rfl (by decide) _ _ _ rfl OWN1.out ⟨gs,0,none⟩ 0 (0) (intRow []) rfl rfl (fun j u h=>by cases h) (intRow_one []) (by unfold maxLen;omega) (by omega) (by simp;omega) ?_;intro v1 w1 o1 g1 nn1 b1;rw [Nat.zero_add,List.nil_append] at o1;have hnn1:=some_not_nil nn1;clear nn1;obtain ⟨r1,d1,rfl,rb1,rr1⟩:=RowAt.of_own o1 hnn1;have O1:=hid o1;have G1:=hid g1;have NN1:=hid hnn1;have B1:=hid b1;have hs1:=g1.size;clear o1 g1 hnn1 b1 rr1)
      | (at_builtin;refine wpList_append_own_at _ rfl (.tmp 32) (.tmp 41) 61 rfl (w.heap.size+1) 31 i1 (.slice none 0 0) 1 24 Tryz.underlying61 HHS.out.1 HHS.out.2.1 HHS.out.2.2.1 HHS.out.2.2.2 rfl (by decide) (.slice (some ⟨go,0,none⟩) L.length co) L.length (gridRow L) rfl (((((R2.out.alloc _).grown G1.out (fun e=>by injection e with e;exact absurd e (Nat.ne_of_gt hgo))).alloc _).own HI.out.2.2.2.2.1)) ⟨w1.heap.size,0,none⟩ 1 1 [.slice (some ⟨r1,0,none⟩) 0 d1] rfl rfl (cell_one_new _ _ _) (by simp [Value.oneCell']) (by unfold maxLen;omega) (by omega) (by simp at hs1;simp;omega) ?_;intro v2 w2 o2 g2 nn2 b2;have hnn2:=some_not_nil nn2;have O2:=hid o2;have G2:=hid g2;have NN2:=hid hnn2;have B2:=hid b2;have hs2:=g2.size;clear o2 g2 nn2 hnn2 b2)
      | (at_builtin;refine wpList_append_own_at _ rfl (.tmp 48) (.tmp 50) 31 rfl (w.heap.size+1) 3 i0 (.int .i64 0) 1 8 Tryz.underlying31 HHI.out.1 HHI.out.2.1 HHI.out.2.2.1 HHI.out.2.2.2 rfl (by decide) (.slice (some ⟨gs,0,none⟩) cs cs) cs (intRow sp) rfl (((((((R3.out.alloc _).grown G1.out (fun e=>by injection e with e;exact absurd e (Nat.ne_of_gt hgs))).alloc _).grown G2.out (fun e=>by injection e with e;exact hgne e)).alloc _).own HI.out.2.2.2.2.2.1)) ⟨w2.heap.size,0,none⟩ 1 1 [.int .i64 j] rfl rfl (cell_one_new _ _ _) (by simp [Value.oneCell']) (by unfold maxLen;omega) (by omega) (by simp at hs1 hs2;simp;omega) ?_;intro v3 w3 o3 g3 nn3 b3;have hnn3:=some_not_nil nn3;have O3:=hid o3;have G3:=hid g3;have NN3:=hid hnn3;have B3:=hid b3;clear o3 g3 nn3 hnn3 b3))
     have ST:=hid (KInv_step HI.out hBz HK.out hsk O1.out G1.out NN1.out B1.out O2.out G2.out NN2.out B2.out (by rw [hp];exact O3.out) G3.out NN3.out B3.out)
     clear O1 G1 NN1 B1 O2 G2 NN2 B2 O3 G3 NN3 B3
     go_wp2
     go_roundw
     case rel =>
      obtain ⟨L',s',go',co',gs',cs',e1,e2,hnew⟩:=ST.out
      exact ⟨j+1,L',s',go',co',gs',cs',by omega,by go_num,e1,e2,hnew⟩
     case measure=>simp [intOf];omega
    ·go_wp2_with (first
      | (at_builtin;refine wpList_append_own_at _ rfl (.tmp 33) (.tmp 39) 31 rfl (w.heap.size+1) 3 i0 (.int .i64 0) 1 8 Tryz.underlying31 HHI.out.1 HHI.out.2.1 HHI.out.2.2.1 HHI.out.2.2.2 rfl (by decide) _ _ _ rfl OWN1.out ⟨gs,p,none⟩ k (cs - p) (intRow sk) rfl HSK.out TC.out (intRow_one sk) (by unfold maxLen;omega) (by omega) (by simp;omega) ?_;intro v1 w1 o1 g1 nn1 b1;rw [Nat.zero_add,List.nil_append] at o1;have hnn1:=some_not_nil nn1;clear nn1;obtain ⟨r1,d1,rfl,rb1,rr1⟩:=RowAt.of_own o1 hnn1;have O1:=hid o1;have G1:=hid g1;have NN1:=hid hnn1;have B1:=hid b1;have hs1:=g1.size;clear o1 g1 hnn1 b1 rr1)
      | (at_builtin;refine wpList_append_own_at _ rfl (.tmp 32) (.tmp 41) 61 rfl (w.heap.size+1) 31 i1 (.slice none 0 0) 1 24 Tryz.underlying61 HHS.out.1 HHS.out.2.1 HHS.out.2.2.1 HHS.out.2.2.2 rfl (by decide) (.slice (some ⟨go,0,none⟩) L.length co) L.length (gridRow L) rfl (((((R2.out.alloc _).grown G1.out (fun e=>by injection e with e;exact absurd e (Nat.ne_of_gt hgo))).alloc _).own HI.out.2.2.2.2.1)) ⟨w1.heap.size,0,none⟩ 1 1 [.slice (some ⟨r1,0,none⟩) k d1] rfl rfl (cell_one_new _ _ _) (by simp [Value.oneCell']) (by unfold maxLen;omega) (by omega) (by simp at hs1;simp;omega) ?_;intro v2 w2 o2 g2 nn2 b2;have hnn2:=some_not_nil nn2;have O2:=hid o2;have G2:=hid g2;have NN2:=hid hnn2;have B2:=hid b2;have hs2:=g2.size;clear o2 g2 nn2 hnn2 b2)
      | (at_builtin;refine wpList_append_own_at _ rfl (.tmp 48) (.tmp 50) 31 rfl (w.heap.size+1) 3 i0 (.int .i64 0) 1 8 Tryz.underlying31 HHI.out.1 HHI.out.2.1 HHI.out.2.2.1 HHI.out.2.2.2 rfl (by decide) (.slice (some ⟨gs,0,none⟩) p cs) p (intRow sp) rfl (((((((R3.out.alloc _).grown G1.out (fun e=>by injection e with e;exact absurd e (Nat.ne_of_gt hgs))).alloc _).grown G2.out (fun e=>by injection e with e;exact hgne e)).alloc _).own HI.out.2.2.2.2.2.1)) ⟨w2.heap.size,0,none⟩ 1 1 [.int .i64 j] rfl rfl (cell_one_new _ _ _) (by simp [Value.oneCell']) (by unfold maxLen;omega) (by omega) (by simp at hs1 hs2;simp;omega) ?_;intro v3 w3 o3 g3 nn3 b3;have hnn3:=some_not_nil nn3;have O3:=hid o3;have G3:=hid g3;have NN3:=hid hnn3;have B3:=hid b3;clear o3 g3 nn3 hnn3 b3))
     have ST:=hid (KInv_step HI.out hBz HK.out hsk O1.out G1.out NN1.out B1.out O2.out G2.out NN2.out B2.out (by rw [hp];exact O3.out) G3.out NN3.out B3.out)
     clear O1 G1 NN1 B1 O2 G2 NN2 B2 O3 G3 NN3 B3
     go_wp2
     go_roundw
     case rel =>
      obtain ⟨L',s',go',co',gs',cs',e1,e2,hnew⟩:=ST.out
      exact ⟨j+1,L',s',go',co',gs',cs',by omega,by go_num,e1,e2,hnew⟩
     case measure=>simp [intOf];omega
   ·have HBAD:=hid (kidsF_bad HI.out.1 hok N hlt)
    by_cases hneg:(nd j).kids < 0
    ·go_wp2
     refine bodyPost_ret (v:=.tuple #[.slice (some ⟨go,0,none⟩) L.length co,.bool false]) (by simp [results,Tryz.results47,go_sem]) rfl ⟨btree HI.out.2.2.2.2.2.2.2,.inl ⟨_,rfl,fun o x h=>?_⟩⟩
     rw [HBAD.out] at h;cases h
    ·have hge:0≤(nd j).kids:=by omega
     have hgt:(s.length:Int) < (nd j).kids:=by omega
     go_wp2
     refine bodyPost_ret (v:=.tuple #[.slice (some ⟨go,0,none⟩) L.length co,.bool false]) (by simp [results,Tryz.results47,go_sem]) rfl ⟨btree HI.out.2.2.2.2.2.2.2,.inl ⟨_,rfl,fun o x h=>?_⟩⟩
     rw [HBAD.out] at h;cases h
  ·obtain rfl:j=N:=by omega
   by_cases h1:s.length=1
   ·obtain ⟨x,rfl⟩:=List.length_eq_one_iff.1 h1
    go_wp2
    refine bodyPost_ret (v:=.tuple #[.slice (some ⟨go,0,none⟩) L.length co,.bool true]) (by simp [results,Tryz.results47,go_sem]) rfl ⟨btree HI.out.2.2.2.2.2.2.2,.inr ⟨L,x,go,co,rfl,HI.out.1,HI.out.2.1,by have:=HI.out.2.2.2.2.1;omega,fun x hx=>?_⟩⟩
    obtain ⟨x1,_,_,x4⟩:=HI.out.2.2.2.2.2.2.1 x hx
    exact ⟨by omega,x4⟩
   ·have h2:((s.length:Int) == 1)=false:=by simp;omega
    go_wp2
    refine bodyPost_ret (v:=.tuple #[.slice (some ⟨go,0,none⟩) L.length co,.bool false]) (by simp [results,Tryz.results47,go_sem]) rfl ⟨btree HI.out.2.2.2.2.2.2.2,.inl ⟨_,rfl,fun o x h=>?_⟩⟩
    rw [HI.out.1] at h
    injection h with h
    injection h with _ h
    rw [h] at h1
    exact h1 rfl
end Go.Proofs.YthnohneaanphbaaGreatDoor
