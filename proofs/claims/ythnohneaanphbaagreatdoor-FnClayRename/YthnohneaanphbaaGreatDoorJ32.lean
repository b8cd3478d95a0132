import Derived.Deep.RegionHeld3
import Derived.Test.YthnohneaanphbaaGreatDoorJ15
import Derived.Test.YthnohneaanphbaaGreatDoorJ29
namespace Go.Proofs.YthnohneaanphbaaGreatDoor
open Go.RowKit
set_option maxRecDepth 20000
set_option maxHeartbeats 1000000 in
theorem KO_15:KO 15:=by
 intro b N cap g o m c nd ks w hm hb hg hn hk
 have HN:=hid hn
 have HK:=hid hk
 clear hn hk
 go_enter Tryz.func49,Tryz.ntmps49
 go_wp2
 go_loopw [8,10] (fun es i wr=>∃ j e:Nat,j≤m∧e≤j∧i=.int .i64 j∧es=.int .i64 e∧(e=j ↔ AllE j (fun i=>nd (ks i)))∧Below (w.heap.size+1) (w.alloc (.cells #[.slice (some ⟨b,0,none⟩) N cap] 25)) wr) (fun _ i _=>m - (intOf i).toNat)
 case atStart=>exact ⟨0,0,Nat.zero_le _,Nat.zero_le _,rfl,rfl,⟨fun _ i h=>absurd h (Nat.not_lt_zero _),fun _=>rfl⟩,Below.refl _ _⟩
 case round =>
  obtain ⟨j,e,hj,he,rfl,rfl,hall,hbw⟩:=hrel
  have HALL:=hid hall
  have HBW:=hid hbw
  clear hall hbw
  by_cases hlt:j < m
  ·have t0:=tree_cell HBW.out
   obtain ⟨a0,a1⟩:=(HK.out.below (btree HBW.out) hg) j hlt
   obtain ⟨a2,_⟩:=(HN.out.below (btree HBW.out) hb) (ks j) a1
   have HS:=hid (AllE_step HALL.out he)
   cases hE:isE (nd (ks j)).kind
   ·have NX:=hid (HS.out.2 hE)
    clear HS
    go_wp2
    go_region_with (go_at_call 75;refine (l2E_any _ _).mono ?_;rintro e w' ⟨rfl,hw⟩;have hw2:=hw.symm;clear hw;subst hw2)
    all_goals go_wp2
    all_goals
     go_roundw
     case rel=>exact ⟨j+1,e,by omega,by omega,by go_num,rfl,NX.out,HBW.out.drew⟩
     case measure=>simp [intOf];omega
   ·have NX:=hid (HS.out.1 hE)
    clear HS
    go_wp2
    go_region_with (go_at_call 75;refine (l2E_any _ _).mono ?_;rintro e w' ⟨rfl,hw⟩;have hw2:=hw.symm;clear hw;subst hw2)
    all_goals go_wp2
    all_goals
     go_roundw
     case rel=>exact ⟨j+1,e+1,by omega,by omega,by go_num,by go_num,NX.out,HBW.out.drew⟩
     case measure=>simp [intOf];omega
  ·obtain rfl:j=m:=by omega
   go_wp2
   go_loopw [13] (fun i wr=>∃ q:Nat,q≤j∧i=.int .i64 q∧(∀ i,i < q→(nd (ks i)).kind=19)∧Below (w.heap.size+1) (w.alloc (.cells #[.slice (some ⟨b,0,none⟩) N cap] 25)) wr) (fun i _=>j - (intOf i).toNat)
   case atStart=>exact ⟨0,Nat.zero_le _,rfl,fun i h=>absurd h (Nat.not_lt_zero _),HBW.out⟩
   case round =>
    rename_i wo wr
    obtain ⟨q,hq,rfl,hin,hbw⟩:=hrel
    have HQ:=hid hin
    have HB2:=hid hbw
    clear hin hbw
    by_cases hl2:q+1 < j
    ·have t0:=tree_cell HB2.out
     obtain ⟨a0,a1⟩:=(HK.out.below (btree HB2.out) hg) q (by omega)
     obtain ⟨a2,_⟩:=(HN.out.below (btree HB2.out) hb) (ks q) a1
     cases hE:((nd (ks q)).kind != 19)
     ·have HF:=hid (show (nd (ks q)).kind=19 by simpa using hE)
      go_wp2
      try go_region
      all_goals go_wp2
      all_goals
       go_roundw
       case rel=>exact ⟨q+1,by omega,by go_num,all_step HQ.out HF.out,by first | exact HB2.out | exact HB2.out.drew⟩
       case measure=>simp [intOf];omega
     ·have HF:=hid (show ¬ (nd (ks q)).kind=19 by simpa using hE)
      go_wp2
      try go_region
      all_goals go_wp2
      all_goals go_ret
      all_goals exact ⟨says_f (fun h=>HF.out (((KidsOk_15 _ _).1 h).2.2.1 q (by omega))),by first | exact btree HB2.out | exact (btree HB2.out).drew⟩
    ·by_cases h0:j=0
     ·subst h0
      go_wp2_with fail
      go_quiet (fail)
      go_wp2
      go_ret
      exact ⟨says_f (fun h=>by have:=((KidsOk_15 _ _).1 h).1;omega),below_drewN (btree HB2.out) nq⟩
     ·obtain ⟨p,rfl⟩:∃ p,j=p+1:=⟨j - 1,by omega⟩
      have HR:=hid (show ∀ i,i+1 < p+1→(nd (ks i)).kind=19 from fun i hi=>HQ.out i (by omega))
      have t0:=tree_cell HB2.out
      have hp0:(0:Int)≤p:=by omega
      have hp1:(1:Int)≤p+1:=by omega
      obtain ⟨a0,a1⟩:=(HK.out.below (btree HB2.out) hg) p (by omega)
      obtain ⟨a2,_⟩:=(HN.out.below (btree HB2.out) hb) (ks p) a1
      cases hE:isE (nd (ks p)).kind
      ·have HE:=hid hE
       go_wp2_with fail
       go_quiet ((go_at_call 75;exact Calls.quiet_of_same (l2E_any _ _)))
       all_goals go_wp2
       all_goals go_ret
       all_goals exact ⟨says_f (fun h=>by have:=((KidsOk_15 _ _).1 h).2.2.2;rw [Nat.add_sub_cancel,HE.out] at this;cases this),below_drewN (btree HB2.out) nq⟩
      ·have HE:=hid hE
       go_wp2_with fail
       go_quiet ((go_at_call 75;exact Calls.quiet_of_same (l2E_any _ _)))
       all_goals go_wp2
       all_goals go_ret
       all_goals refine ⟨⟨_,rfl,?_⟩,below_drewN (btree HB2.out) nq⟩
       all_goals rw [KidsOk_15]
       all_goals simp
       all_goals exact ⟨fun h=>⟨by omega,fun i hi=>HR.out i (by omega),HE.out⟩,fun h=>by have:=h.1;omega⟩
set_option maxHeartbeats 1000000 in
theorem KO_20:KO 20:=by
 intro b N cap g o m c nd ks w hm hb hg hn hk
 have HN:=hid hn
 have HK:=hid hk
 clear hn hk
 go_enter Tryz.func49,Tryz.ntmps49
 go_wp2
 go_loopw [8,10] (fun es i wr=>∃ j e:Nat,j≤m∧e≤j∧i=.int .i64 j∧es=.int .i64 e∧(e=j ↔ AllE j (fun i=>nd (ks i)))∧Below (w.heap.size+1) (w.alloc (.cells #[.slice (some ⟨b,0,none⟩) N cap] 25)) wr) (fun _ i _=>m - (intOf i).toNat)
 case atStart=>exact ⟨0,0,Nat.zero_le _,Nat.zero_le _,rfl,rfl,⟨fun _ i h=>absurd h (Nat.not_lt_zero _),fun _=>rfl⟩,Below.refl _ _⟩
 case round =>
  obtain ⟨j,e,hj,he,rfl,rfl,hall,hbw⟩:=hrel
  have HALL:=hid hall
  have HBW:=hid hbw
  clear hall hbw
  by_cases hlt:j < m
  ·have t0:=tree_cell HBW.out
   obtain ⟨a0,a1⟩:=(HK.out.below (btree HBW.out) hg) j hlt
   obtain ⟨a2,_⟩:=(HN.out.below (btree HBW.out) hb) (ks j) a1
   have HS:=hid (AllE_step HALL.out he)
   cases hE:isE (nd (ks j)).kind
   ·have NX:=hid (HS.out.2 hE)
    clear HS
    go_wp2
    go_region_with (go_at_call 75;refine (l2E_any _ _).mono ?_;rintro e w' ⟨rfl,hw⟩;have hw2:=hw.symm;clear hw;subst hw2)
    all_goals go_wp2
    all_goals
     go_roundw
     case rel=>exact ⟨j+1,e,by omega,by omega,by go_num,rfl,NX.out,HBW.out.drew⟩
     case measure=>simp [intOf];omega
   ·have NX:=hid (HS.out.1 hE)
    clear HS
    go_wp2
    go_region_with (go_at_call 75;refine (l2E_any _ _).mono ?_;rintro e w' ⟨rfl,hw⟩;have hw2:=hw.symm;clear hw;subst hw2)
    all_goals go_wp2
    all_goals
     go_roundw
     case rel=>exact ⟨j+1,e+1,by omega,by omega,by go_num,by go_num,NX.out,HBW.out.drew⟩
     case measure=>simp [intOf];omega
  ·obtain rfl:j=m:=by omega
   go_wp2
   go_loopw [13] (fun i wr=>∃ q:Nat,q≤j∧i=.int .i64 q∧(∀ i,i < q→(nd (ks i)).kind=19)∧Below (w.heap.size+1) (w.alloc (.cells #[.slice (some ⟨b,0,none⟩) N cap] 25)) wr) (fun i _=>j - (intOf i).toNat)
   case atStart=>exact ⟨0,Nat.zero_le _,rfl,fun i h=>absurd h (Nat.not_lt_zero _),HBW.out⟩
   case round =>
    rename_i wo wr
    obtain ⟨q,hq,rfl,hin,hbw⟩:=hrel
    have HQ:=hid hin
    have HB2:=hid hbw
    clear hin hbw
    by_cases hl2:q+1 < j
    ·have t0:=tree_cell HB2.out
     obtain ⟨a0,a1⟩:=(HK.out.below (btree HB2.out) hg) q (by omega)
     obtain ⟨a2,_⟩:=(HN.out.below (btree HB2.out) hb) (ks q) a1
     cases hE:((nd (ks q)).kind != 19)
     ·have HF:=hid (show (nd (ks q)).kind=19 by simpa using hE)
      go_wp2
      try go_region
      all_goals go_wp2
      all_goals
       go_roundw
       case rel=>exact ⟨q+1,by omega,by go_num,all_step HQ.out HF.out,by first | exact HB2.out | exact HB2.out.drew⟩
       case measure=>simp [intOf];omega
     ·have HF:=hid (show ¬ (nd (ks q)).kind=19 by simpa using hE)
      go_wp2
      try go_region
      all_goals go_wp2
      all_goals go_ret
      all_goals exact ⟨says_f (fun h=>HF.out (((KidsOk_20 _ _).1 h).2.2.1 q (by omega))),by first | exact btree HB2.out | exact (btree HB2.out).drew⟩
    ·by_cases h0:j=0
     ·subst h0
      go_wp2_with fail
      go_quiet (fail)
      go_wp2
      go_ret
      exact ⟨says_f (fun h=>by have:=((KidsOk_20 _ _).1 h).1;omega),below_drewN (btree HB2.out) nq⟩
     ·obtain ⟨p,rfl⟩:∃ p,j=p+1:=⟨j - 1,by omega⟩
      have HR:=hid (show ∀ i,i+1 < p+1→(nd (ks i)).kind=19 from fun i hi=>HQ.out i (by omega))
      have t0:=tree_cell HB2.out
      have hp0:(0:Int)≤p:=by omega
      have hp1:(1:Int)≤p+1:=by omega
      obtain ⟨a0,a1⟩:=(HK.out.below (btree HB2.out) hg) p (by omega)
      obtain ⟨a2,_⟩:=(HN.out.below (btree HB2.out) hb) (ks p) a1
      cases hE:isE (nd (ks p)).kind
      ·have HE:=hid hE
       go_wp2_with fail
       go_quiet ((go_at_call 75;exact Calls.quiet_of_same (l2E_any _ _)))
       all_goals go_wp2
       all_goals go_ret
       all_goals exact ⟨says_f (fun h=>by have:=((KidsOk_20 _ _).1 h).2.2.2;rw [Nat.add_sub_cancel,HE.out] at this;cases this),below_drewN (btree HB2.out) nq⟩
      ·have HE:=hid hE
       go_wp2_with fail
       go_quiet ((go_at_call 75;exact Calls.quiet_of_same (l2E_any _ _)))
       all_goals go_wp2
       all_goals go_ret
       all_goals refine ⟨⟨_,rfl,?_⟩,below_drewN (btree HB2.out) nq⟩
       all_goals rw [KidsOk_20]
       all_goals simp
       all_goals exact ⟨fun h=>⟨by omega,fun i hi=>HR.out i (by omega),HE.out⟩,fun h=>by have:=h.1;omega⟩
def builts2:List (List UInt8):=[[98,101,103,105,110,115],[99,117,116],[102,97,105,108],[102,105,108,101,115],[105,110,116],[106,111,105,110],[107,101,121,115],[108,101,110],[114,97,110,103,101],[114,101,99,111,114,100],[115,111,114,116,101,100],[115,112,108,105,116],[116,101,120,116],[117,110,105,113,117,101],[119,105,116,104,111,117,116]]
theorem builts_both:(∀ l ∈ builts,l ∈ builts2)∧(∀ l ∈ builts2,l ∈ builts):=by decide
def built2S (i:Nat):ByteArray:=⟨(builts2.getD i []).toArray⟩
theorem mem_builts2 (t:ByteArray):isBuilt t=true ↔ ∃ i,i < 15∧built2S i=t:=by
 unfold isBuilt
 rw [decide_eq_true_iff]
 constructor
 ·intro h
  obtain ⟨i,hl,e⟩:=List.getElem_of_mem (builts_both.1 _ h)
  exact ⟨i,hl,by simp [built2S,hl,e]⟩
 ·rintro ⟨i,h,rfl⟩
  have hl:i < builts2.length:=h
  refine builts_both.2 _ ?_
  simp [built2S,hl]
set_option maxHeartbeats 400000 in
theorem l3Builts_any (w:World) :
  Calls Tryz.prog 25 #[] w fun e w'=>e=.returned (.slice (some ⟨w.heap.size,0,none⟩) 15 15)∧w'=w.alloc (.cells (builts2.map fun x=>Value.string ⟨x.toArray⟩).toArray 9):=by
 go_enter Tryz.func25,Tryz.ntmps25
 go_wp2
 go_ret
 exact ⟨rfl,rfl⟩
theorem built2_cell (w:World) (i:Nat) (h:i < 15):(w.alloc (.cells (builts2.map fun x=>Value.string ⟨x.toArray⟩).toArray 9)).cell? ⟨w.heap.size,i,none⟩=some (.string (built2S i)):=by
 have hl:i < builts2.length:=h
 rw [cell_new_row]
 simp [built2S,hl]
theorem hasBuilt_any (s:ByteArray) (w:World) (b:Nat) (hc:∀ i,i < 15→w.cell? ⟨b,i,none⟩=some (.string (built2S i))) :
  Calls Tryz.prog 24 #[.slice (some ⟨b,0,none⟩) 15 15,.string s] w fun e w'=>e=.returned (.bool (isBuilt s))∧w'=w:=by
 refine (l1Has_any b 15 s built2S w (by omega) hc).mono ?_
 rintro e w' ⟨⟨rfl,h⟩ | ⟨rfl,h⟩,rfl⟩
 ·exact ⟨ret_bool ((mem_builts2 s).2 h).symm,rfl⟩
 ·refine ⟨ret_bool ?_,rfl⟩
  cases hq:isBuilt s with
  | false=>rfl
  | true =>
   obtain ⟨i,hi,e⟩:=(mem_builts2 s).1 hq
   exact absurd e (h i hi)
def envL (L:List (ByteArray × Nat)):Env:=L.foldl (fun kn p=>kn.ext p.1 p.2) builtEnv
theorem envL_snoc (L:List (ByteArray × Nat)) (p:ByteArray × Nat):envL (L ++ [p])=(envL L).ext p.1 p.2:=by simp [envL]
theorem envL_cut (L:List (ByteArray × Nat)) (t:ByteArray) (i:Nat) (h:∀ q,i≤q→∀ p,L[q]?=some p→¬ p.1=t):envL L t=envL (L.take i) t:=by
 induction hn:L.length - i generalizing i with
 | zero=>rw [List.take_of_length_le (by omega)]
 | succ n ih =>
  rw [ih (i+1) (fun q hq=>h q (by omega)) (by omega),List.take_succ_eq_append_getElem (by omega),envL_snoc]
  unfold Env.ext
  rw [if_neg]
  intro e
  exact h i (Nat.le_refl _) _ (List.getElem?_eq_getElem (by omega)) e.symm
theorem envL_at (L:List (ByteArray × Nat)) (t:ByteArray) (i:Nat) (p:ByteArray × Nat) (hp:L[i]?=some p) (he:p.1=t) (h:∀ q,i < q→∀ p,L[q]?=some p→¬ p.1=t):envL L t=(p.2:Int):=by
 obtain ⟨hl,e⟩:=List.getElem?_eq_some_iff.1 hp
 rw [envL_cut L t (i+1) (fun q hq=>h q (by omega)),List.take_succ_eq_append_getElem hl,e,envL_snoc]
 unfold Env.ext
 rw [if_pos he.symm]
def KnAt (W:World) (g c:Nat) (L:List (ByteArray × Nat)):Prop:=L.length≤c∧c≤maxLen∧g < W.heap.size∧∀ i p,L[i]?=some p→W.cell? ⟨g,i * 2,none⟩=some (.string p.1)∧W.cell? ⟨g,i * 2+1,none⟩=some (.int .i64 p.2)
set_option maxHeartbeats 2000000 in
theorem use_any (x:Mx) (hx:x.Ok) (k:Nat) (L:List (ByteArray × Nat)) (g c:Nat) (F:Nat × Nat→Prop) (cf:Nat→Nat) (bn:Nat→Int) (w:World) (hL:L.length≤2000000) (h:x.At w cf bn) (ht:Stb x.S w x.Tree) (hok:CodesOk cf F) (hk:KnAt w g c L) (hkN:k < x.N) :
  Calls Tryz.prog 77 #[.pointer (some ⟨x.wb,0,none⟩),.int .i64 k,.slice (some ⟨g,0,none⟩) L.length c] w fun e w'=>e=.returned (.tuple #[])∧x.Ends w w' F bn (useE x.nd (envL L) k):=by
 obtain ⟨f0,f1,f2,f3⟩:=ht.now.four
 obtain ⟨c0,c1,c2,c3,c4⟩:=ht.now.2.1 k hkN
 obtain ⟨b0,b1⟩:=h.2.cell k hkN
 have H:=hid h
 have HX:=hid hx
 have HT:=hid ht
 have HK:=hid hk
 have HOK:=hid hok
 have hN5:=hx.N
 obtain ⟨n,hn⟩:∃ n,L.length=n:=⟨_,rfl⟩
 have HNL:=hid hn
 rw [hn] at hL ⊢
 clear h ht hk hx hok hn
 go_enter Tryz.func77,Tryz.ntmps77
 go_wp2
 clear f0 f1 f2 f3 c0 c1 c2 c3 c4 b0 b1
 go_loopw [6] (fun i wr=>∃ j:Nat,j≤n∧i=.int .i64 ((j:Int) - 1)∧(∀ q,j≤q→∀ p,L[q]?=some p→¬ p.1=(x.nd k).text)∧Below w.heap.size w wr) (fun i _=>(intOf i+1).toNat)
 case atStart=>exact ⟨n,Nat.le_refl _,by go_num,fun q hq p hp=>by have:=(List.getElem?_eq_some_iff.1 hp).1;have:=HNL.out;omega,Below.refl _ _⟩
 case round =>
  obtain ⟨j,hj,rfl,hno,hbw⟩:=hrel
  have HNO:=hid hno
  have HBW:=hid hbw
  have HA:=hid (H.out.go hbw)
  have HSV:Hid (Sv x.S w wr):=Sv.of_below hbw
  clear hno hbw
  obtain ⟨f0,f1,f2,f3⟩:=(HT.out _ HSV.out).four
  obtain ⟨c0,c1,c2,c3,c4⟩:=(HT.out _ HSV.out).2.1 k hkN
  obtain ⟨b0,b1⟩:=HA.out.2.cell k hkN
  by_cases hlt:0 < j
  ·obtain ⟨i,rfl⟩:∃ i,j=i+1:=⟨j - 1,by omega⟩
   obtain ⟨p,hp⟩:∃ p,L[i]?=some p:=⟨_,List.getElem?_eq_getElem (by have:=HNL.out;omega)⟩
   obtain ⟨d0,d1⟩:=HK.out.2.2.2 i p hp
   have d0:=(HBW.out.cell (p:=⟨g,i * 2,none⟩) HK.out.2.2.1).trans d0
   have d1:=(HBW.out.cell (p:=⟨g,i * 2+1,none⟩) HK.out.2.2.1).trans d1
   have hi1:(((i+1:Nat):Int) - 1)=(i:Int):=by omega
   rw [hi1]
   have HP:=hid hp
   clear hp hi1
   cases he:(p.1.toList == (x.nd k).text.toList)
   ·have HNE:Hid (¬ p.1=(x.nd k).text):=fun h=>by rw [h] at he;simp at he
    go_wp2
    go_region
    go_wp2
    go_roundw
    case rel=>exact ⟨i,by omega,by go_num,fun q hq p' hp'=>by
     by_cases e:q=i
     ·subst e
      have:=HP.out.symm.trans hp'
      injection this with this
      subst this
      exact HNE.out
     ·exact HNO.out q (by omega) p' hp',HBW.out.drew⟩
    case measure=>simp [intOf]
   ·have HEQ:Hid (p.1=(x.nd k).text):=bytes_eq he
    have EV:Hid (useE x.nd (envL L) k=[.bind k (p.2:Int)]):=by
     show _=_
     unfold useE
     rw [envL_at L (x.nd k).text i p HP.out HEQ.out (fun q hq=>HNO.out q (by omega)),if_neg (by omega)]
    go_wp2
    go_region
    have HA2:Hid (x.At wr.drew cf bn):=HA.out
    have HBW2:=hid HBW.out.drew
    have HS2:=hid HSV.out.drew
    clear f0 f1 f2 f3 c0 c1 c2 c3 c4 b0 b1 HA HBW HSV
    have d0:wr.drew.cell? ⟨g,i * 2,none⟩=some (.string p.1):=d0
    have d1:wr.drew.cell? ⟨g,i * 2+1,none⟩=some (.int .i64 p.2):=d1
    generalize wr.drew=w2 at *
    obtain ⟨f0,f1,f2,f3⟩:=(HT.out _ HS2.out).four
    obtain ⟨b0,b1⟩:=HA2.out.2.cell k hkN
    have HEND:Hid (x.Ends w (w2.setCell ⟨x.gb,k,none⟩ (.int .i64 p.2)).drew F bn (useE x.nd (envL L) k)):=by
     rw [EV.out]
     exact ⟨(HS2.out.setCell (p:=⟨x.gb,k,none⟩) (.inl (.inr rfl)) _).drew,cf,_,⟨⟨_,(Below.heap_setCell _ _ _ _ (fun e=>HX.out.ne e)).trans HA2.out.1.choose_spec.1,HA2.out.1.choose_spec.2⟩,HA2.out.2.set k hkN p.2⟩,HOK.out.congr (fun y=>by simp [fls]),fun _=>rfl⟩
    go_wp2
    go_region
    go_wp2
    exact bodyPost_ret (results_none rfl _ _ _) rfl ⟨rfl,HEND.out⟩
  ·obtain rfl:j=0:=by omega
   have HENV:Hid (envL L (x.nd k).text=builtEnv (x.nd k).text):=by
    have:=envL_cut L (x.nd k).text 0 (fun q hq=>HNO.out q (by omega))
    rw [List.take_zero] at this
    exact this
   cases hbt:isBuilt (x.nd k).text
   ·have EV:Hid (useE x.nd (envL L) k=[.bind k (-1),.flt k 9]):=by
     show _=_
     unfold useE
     rw [HENV.out]
     unfold builtEnv
     rw [hbt]
     rfl
    have e0':∀ O,(wr.alloc O).cell? ⟨x.wb,0,none⟩=_:=fun O=>((HT.out _ (HSV.out.alloc O)).four).1
    have e3':∀ O,(wr.alloc O).cell? ⟨x.g,k * 5+3,none⟩=_:=fun O=>((HT.out _ (HSV.out.alloc O)).2.1 k hkN).2.2.2.1
    have e0:∀ O,(wr.drew.alloc O).cell? ⟨x.wb,0,none⟩=_:=fun O=>((HT.out _ (HSV.out.drew.alloc O)).four).1
    have e3:∀ O,(wr.drew.alloc O).cell? ⟨x.g,k * 5+3,none⟩=_:=fun O=>((HT.out _ (HSV.out.drew.alloc O)).2.1 k hkN).2.2.2.1
    go_wp2
    go_region_with (first
     | (go_at_call 25;refine (l3Builts_any _).mono ?_;rintro e w2 ⟨rfl,rfl⟩)
     | (go_at_call 24;refine (hasBuilt_any _ _ wr.heap.size (fun i hi=>by exact built2_cell wr i hi)).mono ?_;rintro e w3 ⟨rfl,hw3⟩;rw [hw3,hbt]))
    all_goals
     have HS2:Hid (Sv x.S w (wr.alloc (.cells (builts2.map fun x=>Value.string ⟨x.toArray⟩).toArray 9)).drew):=(HSV.out.alloc _).drew
     have HA2:Hid (x.At (wr.alloc (.cells (builts2.map fun x=>Value.string ⟨x.toArray⟩).toArray 9)).drew cf bn):=Mx.At.go (W:=wr) HA.out (((Below.refl _ _).alloc (Nat.le_refl _) _).drew)
     clear f0 f1 f2 f3 c0 c1 c2 c3 c4 b0 b1 HA HBW HSV e0 e3 e0' e3'
     generalize (wr.alloc (.cells (builts2.map fun x=>Value.string ⟨x.toArray⟩).toArray 9)).drew=w2 at *
     obtain ⟨f0,f1,f2,f3⟩:=(HT.out _ HS2.out).four
     obtain ⟨b0,b1⟩:=HA2.out.2.cell k hkN
     go_wp2_with (first
      | (go_at_call 51;refine (fault_any x HX.out k 9 (by omega) F cf bn _ hkN HA2.out (HT.out _ HS2.out) HOK.out).mono ?_;rintro e w5 ⟨rfl,hen⟩;have HEN:=hid hen;clear hen))
     go_end0
     rw [EV.out]
     obtain ⟨s5,cf5,bn5,a5,k5,n5⟩:=HEN.out
     exact ⟨rfl,HS2.out.trans s5,cf5,bn5,a5,k5,fun h=>by cases h⟩
   ·have EV:Hid (useE x.nd (envL L) k=[.bind k (-2)]):=by
     show _=_
     unfold useE
     rw [HENV.out]
     unfold builtEnv
     rw [hbt]
     rfl
    have e0':∀ O,(wr.alloc O).cell? ⟨x.wb,0,none⟩=_:=fun O=>((HT.out _ (HSV.out.alloc O)).four).1
    have e3':∀ O,(wr.alloc O).cell? ⟨x.g,k * 5+3,none⟩=_:=fun O=>((HT.out _ (HSV.out.alloc O)).2.1 k hkN).2.2.2.1
    have e0:∀ O,(wr.drew.alloc O).cell? ⟨x.wb,0,none⟩=_:=fun O=>((HT.out _ (HSV.out.drew.alloc O)).four).1
    have e3:∀ O,(wr.drew.alloc O).cell? ⟨x.g,k * 5+3,none⟩=_:=fun O=>((HT.out _ (HSV.out.drew.alloc O)).2.1 k hkN).2.2.2.1
    go_wp2
    go_region_with (first
     | (go_at_call 25;refine (l3Builts_any _).mono ?_;rintro e w2 ⟨rfl,rfl⟩)
     | (go_at_call 24;refine (hasBuilt_any _ _ wr.heap.size (fun i hi=>by exact built2_cell wr i hi)).mono ?_;rintro e w3 ⟨rfl,hw3⟩;rw [hw3,hbt]))
    all_goals
     have HS2:Hid (Sv x.S w (wr.alloc (.cells (builts2.map fun x=>Value.string ⟨x.toArray⟩).toArray 9)).drew):=(HSV.out.alloc _).drew
     have HA2:Hid (x.At (wr.alloc (.cells (builts2.map fun x=>Value.string ⟨x.toArray⟩).toArray 9)).drew cf bn):=Mx.At.go (W:=wr) HA.out (((Below.refl _ _).alloc (Nat.le_refl _) _).drew)
     clear f0 f1 f2 f3 c0 c1 c2 c3 c4 b0 b1 HA HBW HSV e0 e3 e0' e3'
     generalize (wr.alloc (.cells (builts2.map fun x=>Value.string ⟨x.toArray⟩).toArray 9)).drew=w2 at *
     obtain ⟨f0,f1,f2,f3⟩:=(HT.out _ HS2.out).four
     obtain ⟨b0,b1⟩:=HA2.out.2.cell k hkN
     have HEND:Hid (x.Ends w (w2.setCell ⟨x.gb,k,none⟩ (.int .i64 (-2))) F bn (useE x.nd (envL L) k)):=by
      rw [EV.out]
      exact ⟨HS2.out.setCell (p:=⟨x.gb,k,none⟩) (.inl (.inr rfl)) _,cf,_,⟨⟨_,(Below.heap_setCell _ _ _ _ (fun e=>HX.out.ne e)).trans HA2.out.1.choose_spec.1,HA2.out.1.choose_spec.2⟩,HA2.out.2.set k hkN (-2)⟩,HOK.out.congr (fun y=>by simp [fls]),fun _=>rfl⟩
     go_wp2
     exact bodyPost_ret (results_none rfl _ _ _) rfl ⟨rfl,HEND.out⟩
end Go.Proofs.YthnohneaanphbaaGreatDoor
