import Derived.Deep.RegionHeld3
import Derived.Test.YtabbahpalemlhaaGreatDoorJ04
namespace Go.Proofs.YtabbahpalemlhaaGreatDoor
open Go.RowKit
set_option maxRecDepth 20000
theorem KidsOk_12 (m F:Nat) (nd:Nat→Nd) (hF:F≤m) (h1:AllE F nd) (h2:F=m∨isE (nd F).kind=false) :
  KidsOk 12 m nd ↔ 1≤F∧m≤9∧(∀ i,F≤i→i < m→(nd i).kind=18)∧Apart (m - F) (fun i=>nd (F+i)):=by
 have e:KidsOk 12 m nd ↔ ∃ f,1≤f∧f≤m∧m≤9∧AllE f nd∧(∀ i,f≤i→i < m→(nd i).kind=18)∧Apart (m - f) (fun i=>nd (f+i)):=by simp [KidsOk]
 rw [e]
 constructor
 ·rintro ⟨f,g1,g2,g3,g4,g5,g6⟩
  have hf:f=F:=by
   rcases Nat.lt_trichotomy f F with h | h | h
   ·have a:=h1 f h
    rw [g5 f (Nat.le_refl _) (by omega)] at a
    cases a
   ·exact h
   ·rcases h2 with h2 | h2
    ·omega
    ·have:=g4 F h;rw [h2] at this;cases this
  subst hf
  exact ⟨g1,g3,g5,g6⟩
 ·rintro ⟨g1,g2,g3,g4⟩
  exact ⟨F,g1,hF,g2,h1,g3,g4⟩
set_option maxHeartbeats 4000000 in
theorem KO_12 (b N cap g o m c:Nat) (nd:Nat→Nd) (ks:Nat→Nat) (w:World) (hm:m≤1000000) (hcm:m≤c) (hb:b < w.heap.size) (hg:g < w.heap.size) (hn:NodesAt w b N nd) (hk:PlacesAt w g o m N ks) :
  Calls Tryz.prog 52 #[.agg #[.slice (some ⟨b,0,none⟩) N cap],.int .i64 12,.slice (some ⟨g,o,none⟩) m c] w fun e w'=>Says e (KidsOk 12 m (fun i=>nd (ks i)))∧Below w.heap.size w w':=by
 have HN:=hid hn
 have HK:=hid hk
 clear hn hk
 go_enter Tryz.func52,Tryz.ntmps52
 go_wp2
 go_loopw [8,10] (fun es i wr=>∃ j e:Nat,j≤m∧e≤j∧i=.int .i64 j∧es=.int .i64 e∧(e=j ↔ AllE j (fun i=>nd (ks i)))∧Below (w.heap.size+1) (w.alloc (.cells #[.slice (some ⟨b,0,none⟩) N cap] 50)) wr) (fun _ i _=>m - (intOf i).toNat)
 case atStart=>exact ⟨0,0,Nat.zero_le _,Nat.zero_le _,rfl,rfl,⟨fun _ i h=>absurd h (Nat.not_lt_zero _),fun _=>rfl⟩,Below.refl _ _⟩
 case round =>
  obtain ⟨j,e,hj,he,rfl,rfl,hall,hbw⟩:=hrel
  have HALL:=hid hall
  have HBW:=hid hbw
  clear hall hbw
  by_cases hlt:j < m
  ·have t0:=tree_cell HBW.out
   obtain ⟨a0,a1⟩:=(HK.out.below (btree HBW.out) hg) j hlt
   obtain ⟨a2,_⟩:=(HN.out.below (btree HBW.out) hb) (ks j) a1
   have HS:=hid (AllE_step HALL.out he)
   cases hE:isE (nd (ks j)).kind
   ·have NX:=hid (HS.out.2 hE)
    clear HS
    go_wp2
    go_region_with (go_at_call 70;refine (l2E_any _ _).mono ?_;rintro e w' ⟨rfl,hw⟩;have hw2:=hw.symm;clear hw;subst hw2)
    all_goals go_wp2
    all_goals
     go_roundw
     case rel=>exact ⟨j+1,e,by omega,by omega,by go_num,rfl,NX.out,HBW.out.drew⟩
     case measure=>simp [intOf];omega
   ·have NX:=hid (HS.out.1 hE)
    clear HS
    go_wp2
    go_region_with (go_at_call 70;refine (l2E_any _ _).mono ?_;rintro e w' ⟨rfl,hw⟩;have hw2:=hw.symm;clear hw;subst hw2)
    all_goals go_wp2
    all_goals
     go_roundw
     case rel=>exact ⟨j+1,e+1,by omega,by omega,by go_num,by go_num,NX.out,HBW.out.drew⟩
     case measure=>simp [intOf];omega
  ·obtain rfl:j=m:=by omega
   go_wp2
   go_loopw [9] (fun i wr=>∃ F:Nat,F≤j∧i=.int .i64 F∧AllE F (fun i=>nd (ks i))∧Below (w.heap.size+1) (w.alloc (.cells #[.slice (some ⟨b,0,none⟩) N cap] 50)) wr) (fun i _=>j - (intOf i).toNat)
   case atStart=>exact ⟨0,Nat.zero_le _,rfl,fun i h=>absurd h (Nat.not_lt_zero _),HBW.out⟩
   case round =>
    rename_i wo wr
    obtain ⟨F,hF,rfl,hin,hbw⟩:=hrel
    have HF:=hid hin
    have HB2:=hid hbw
    clear hin hbw
    by_cases hgo:F < j∧isE (nd (ks F)).kind=true
    ·obtain ⟨hl2,hE⟩:=hgo
     have HE:=hid hE
     have t0:=tree_cell HB2.out
     obtain ⟨a0,a1⟩:=(HK.out.below (btree HB2.out) hg) F hl2
     obtain ⟨a2,_⟩:=(HN.out.below (btree HB2.out) hb) (ks F) a1
     go_wp2_with fail
     go_quiet ((go_at_call 70;exact Calls.quiet_of_same (l2E_any _ _)))
     all_goals go_wp2
     all_goals
      go_roundw
      case rel=>exact ⟨F+1,by omega,by go_num,fun i hi=>all_step (P:=fun i=>isE (nd (ks i)).kind=true) HF.out HE.out i hi,below_drewN HB2.out nq⟩
      case measure=>simp [intOf];omega
    ·have HST:=hid (show F=j∨isE (nd (ks F)).kind=false by
      by_cases h:F < j
      ·right;cases hE:isE (nd (ks F)).kind
       ·rfl
       ·exact absurd ⟨h,hE⟩ hgo
      ·left;omega)
     have HKI:=hid (KidsOk_12 j F (fun i=>nd (ks i)) hF HF.out HST.out)
     by_cases hl2:F < j
     ·have hE:isE (nd (ks F)).kind=false:=by
       rcases HST.out with h | h
       ·omega
       ·exact h
      have t0:=tree_cell HB2.out
      obtain ⟨a0,a1⟩:=(HK.out.below (btree HB2.out) hg) F hl2
      obtain ⟨a2,_⟩:=(HN.out.below (btree HB2.out) hb) (ks F) a1
      go_wp2_with fail
      go_quiet ((go_at_call 70;exact Calls.quiet_of_same (l2E_any _ _)))
      clear a0 a1 a2 hE hgo
      have HB3:=hid (below_drewN HB2.out nq)
      go_wp2
      go_loopw [12] (fun i wr=>∃ q:Nat,F≤q∧q≤j∧i=.int .i64 q∧(∀ i,F≤i→i < q→(nd (ks i)).kind=18)∧Below (w.heap.size+1) (w.alloc (.cells #[.slice (some ⟨b,0,none⟩) N cap] 50)) wr) (fun i _=>j - (intOf i).toNat)
      case atStart=>exact ⟨F,Nat.le_refl _,hF,rfl,fun i h1 h2=>absurd h2 (by omega),HB3.out⟩
      case round =>
       obtain ⟨q,hq0,hq,rfl,hin,hbw⟩:=hrel
       have HQ:=hid hin
       have HB4:=hid hbw
       clear hin hbw
       by_cases hl3:q < j
       ·have t0:=tree_cell HB4.out
        obtain ⟨a0,a1⟩:=(HK.out.below (btree HB4.out) hg) q hl3
        obtain ⟨a2,_⟩:=(HN.out.below (btree HB4.out) hb) (ks q) a1
        cases hE:((nd (ks q)).kind != 18)
        ·have HF3:=hid (show (nd (ks q)).kind=18 by simpa using hE)
         go_wp2
         try go_region
         all_goals go_wp2
         all_goals
          go_roundw
          case rel=>exact ⟨q+1,by omega,by omega,by go_num,fun i h1 h2=>by
           rcases Nat.lt_or_eq_of_le (Nat.lt_succ_iff.1 h2) with h' | h'
           ·exact HQ.out i h1 h'
           ·subst h';exact HF3.out,by first | exact HB4.out | exact HB4.out.drew⟩
          case measure=>simp [intOf];omega
        ·have HF3:=hid (show ¬ (nd (ks q)).kind=18 by simpa using hE)
         go_wp2
         try go_region
         all_goals go_wp2
         all_goals go_ret
         all_goals exact ⟨says_f (fun h=>HF3.out ((HKI.out.1 h).2.2.1 q hq0 hl3)),by first | exact btree HB4.out | exact (btree HB4.out).drew⟩
       ·obtain rfl:q=j:=by omega
        have t0:=tree_cell HB4.out
        have hz:=HB4.out.size
        rw [World.size_alloc] at hz
        by_cases h1:1≤F∧q≤9
        ·obtain ⟨h1,h9⟩:=h1
         have hd1:decide ((1:Int)≤F)=true:=by simp;omega
         have hw1:IntKind.i64.wrap ((q:Int) - 1)=(q:Int) - 1:=by rw [IntKind.wrap_i64];omega
         have hd9:decide ((q:Int) - 1≤8)=true:=by simp;omega
         have hp9:(q:Int) - 1≤8:=by omega
         by_cases hcF:c=F
         ·obtain rfl:F=q:=by omega
          subst hcF
          have HPL:=hid (show PlacesAt wr.drew g o 0 N (fun i=>ks (c+i)) from fun i hi=>absurd hi (by omega))
          go_wp2_with fail
          go_region_held3 (fun w'=>w'.cell? ⟨w.heap.size,0,none⟩=some (.slice (some ⟨b,0,none⟩) N cap)) (first | (exact (hb1.cell (p:=⟨w.heap.size,0,none⟩) (by simp;omega)).trans (by simpa using t0)) | go_keep) (first | (go_at_call 71;refine (l2Apart_any b N cap g o 0 0 nd (fun i=>ks (c+i)) _ ?_ ?_ ?_ ?_ ?_).mono ?_;(omega);(simp;omega);(simp;omega);(exact HN.out.below (btree HB4.out).drew hb);(exact HPL.out);rintro e w1 ⟨⟨bb,rfl,hbb⟩,hb1⟩))
          all_goals go_wp2
          all_goals go_ret
          all_goals exact ⟨⟨bb,rfl,hbb.trans ⟨fun h=>HKI.out.2 ⟨h1,h9,HQ.out,by rw [Nat.sub_self];exact h⟩,fun _ i hi=>absurd hi (Nat.not_lt_zero _)⟩⟩,(btree HB4.out).drew.trans (hb1.mono (by simp;omega))⟩
         ·have HPL:=hid (show PlacesAt wr.drew g (o+F) (q - F) N (fun i=>ks (F+i)) from fun i hi=>by
           have:=(HK.out.below (btree HB4.out).drew hg) (F+i) (by omega)
           rw [Nat.add_assoc];exact this)
          go_wp2_with fail
          go_region_held3 (fun w'=>w'.cell? ⟨w.heap.size,0,none⟩=some (.slice (some ⟨b,0,none⟩) N cap)) (first | (exact (hb1.cell (p:=⟨w.heap.size,0,none⟩) (by simp;omega)).trans (by simpa using t0)) | go_keep) (first | (go_at_call 71;refine (l2Apart_any b N cap g (o+F) (q - F) (c - F) nd (fun i=>ks (F+i)) _ ?_ ?_ ?_ ?_ ?_).mono ?_;(omega);(simp;omega);(simp;omega);(exact HN.out.below (btree HB4.out).drew hb);(exact HPL.out);rintro e w1 ⟨⟨bb,rfl,hbb⟩,hb1⟩))
          all_goals go_wp2
          all_goals go_ret
          all_goals exact ⟨⟨bb,rfl,hbb.trans ⟨fun h=>HKI.out.2 ⟨h1,h9,HQ.out,h⟩,fun h=>(HKI.out.1 h).2.2.2⟩⟩,(btree HB4.out).drew.trans (hb1.mono (by simp;omega))⟩
        ·have HNO:=hid (show ¬ KidsOk 12 q (fun i=>nd (ks i)) from fun h=>h1 ⟨(HKI.out.1 h).1,(HKI.out.1 h).2.1⟩)
         by_cases h2:1≤F
         ·have h3:decide ((q:Int) - 1≤8)=false:=by simp;omega
          have h4:(1:Int)≤F:=by omega
          go_wp2_with fail
          go_quiet (fail)
          go_wp2
          go_ret
          exact ⟨says_f HNO.out,below_drewN (btree HB4.out) nq⟩
         ·have h3:decide ((1:Int)≤F)=false:=by simp;omega
          go_wp2_with fail
          go_quiet (fail)
          go_wp2
          go_ret
          exact ⟨says_f HNO.out,below_drewN (btree HB4.out) nq⟩
     ·go_wp2_with fail
      go_quiet (fail)
      have HB3:=hid (below_drewN HB2.out nq)
      go_wp2
      go_loopw [12] (fun i wr=>∃ q:Nat,F≤q∧q≤j∧i=.int .i64 q∧(∀ i,F≤i→i < q→(nd (ks i)).kind=18)∧Below (w.heap.size+1) (w.alloc (.cells #[.slice (some ⟨b,0,none⟩) N cap] 50)) wr) (fun i _=>j - (intOf i).toNat)
      case atStart=>exact ⟨F,Nat.le_refl _,hF,rfl,fun i h1 h2=>absurd h2 (by omega),HB3.out⟩
      case round =>
       obtain ⟨q,hq0,hq,rfl,hin,hbw⟩:=hrel
       have HQ:=hid hin
       have HB4:=hid hbw
       clear hin hbw
       by_cases hl3:q < j
       ·have t0:=tree_cell HB4.out
        obtain ⟨a0,a1⟩:=(HK.out.below (btree HB4.out) hg) q hl3
        obtain ⟨a2,_⟩:=(HN.out.below (btree HB4.out) hb) (ks q) a1
        cases hE:((nd (ks q)).kind != 18)
        ·have HF3:=hid (show (nd (ks q)).kind=18 by simpa using hE)
         go_wp2
         try go_region
         all_goals go_wp2
         all_goals
          go_roundw
          case rel=>exact ⟨q+1,by omega,by omega,by go_num,fun i h1 h2=>by
           rcases Nat.lt_or_eq_of_le (Nat.lt_succ_iff.1 h2) with h' | h'
           ·exact HQ.out i h1 h'
           ·subst h';exact HF3.out,by first | exact HB4.out | exact HB4.out.drew⟩
          case measure=>simp [intOf];omega
        ·have HF3:=hid (show ¬ (nd (ks q)).kind=18 by simpa using hE)
         go_wp2
         try go_region
         all_goals go_wp2
         all_goals go_ret
         all_goals exact ⟨says_f (fun h=>HF3.out ((HKI.out.1 h).2.2.1 q hq0 hl3)),by first | exact btree HB4.out | exact (btree HB4.out).drew⟩
       ·obtain rfl:q=j:=by omega
        have t0:=tree_cell HB4.out
        have hz:=HB4.out.size
        rw [World.size_alloc] at hz
        by_cases h1:1≤F∧q≤9
        ·obtain ⟨h1,h9⟩:=h1
         have hd1:decide ((1:Int)≤F)=true:=by simp;omega
         have hw1:IntKind.i64.wrap ((q:Int) - 1)=(q:Int) - 1:=by rw [IntKind.wrap_i64];omega
         have hd9:decide ((q:Int) - 1≤8)=true:=by simp;omega
         have hp9:(q:Int) - 1≤8:=by omega
         by_cases hcF:c=F
         ·obtain rfl:F=q:=by omega
          subst hcF
          have HPL:=hid (show PlacesAt wr.drew g o 0 N (fun i=>ks (c+i)) from fun i hi=>absurd hi (by omega))
          go_wp2_with fail
          go_region_held3 (fun w'=>w'.cell? ⟨w.heap.size,0,none⟩=some (.slice (some ⟨b,0,none⟩) N cap)) (first | (exact (hb1.cell (p:=⟨w.heap.size,0,none⟩) (by simp;omega)).trans (by simpa using t0)) | go_keep) (first | (go_at_call 71;refine (l2Apart_any b N cap g o 0 0 nd (fun i=>ks (c+i)) _ ?_ ?_ ?_ ?_ ?_).mono ?_;(omega);(simp;omega);(simp;omega);(exact HN.out.below (btree HB4.out).drew hb);(exact HPL.out);rintro e w1 ⟨⟨bb,rfl,hbb⟩,hb1⟩))
          all_goals go_wp2
          all_goals go_ret
          all_goals exact ⟨⟨bb,rfl,hbb.trans ⟨fun h=>HKI.out.2 ⟨h1,h9,HQ.out,by rw [Nat.sub_self];exact h⟩,fun _ i hi=>absurd hi (Nat.not_lt_zero _)⟩⟩,(btree HB4.out).drew.trans (hb1.mono (by simp;omega))⟩
         ·have HPL:=hid (show PlacesAt wr.drew g (o+F) (q - F) N (fun i=>ks (F+i)) from fun i hi=>by
           have:=(HK.out.below (btree HB4.out).drew hg) (F+i) (by omega)
           rw [Nat.add_assoc];exact this)
          go_wp2_with fail
          go_region_held3 (fun w'=>w'.cell? ⟨w.heap.size,0,none⟩=some (.slice (some ⟨b,0,none⟩) N cap)) (first | (exact (hb1.cell (p:=⟨w.heap.size,0,none⟩) (by simp;omega)).trans (by simpa using t0)) | go_keep) (first | (go_at_call 71;refine (l2Apart_any b N cap g (o+F) (q - F) (c - F) nd (fun i=>ks (F+i)) _ ?_ ?_ ?_ ?_ ?_).mono ?_;(omega);(simp;omega);(simp;omega);(exact HN.out.below (btree HB4.out).drew hb);(exact HPL.out);rintro e w1 ⟨⟨bb,rfl,hbb⟩,hb1⟩))
          all_goals go_wp2
          all_goals go_ret
          all_goals exact ⟨⟨bb,rfl,hbb.trans ⟨fun h=>HKI.out.2 ⟨h1,h9,HQ.out,h⟩,fun h=>(HKI.out.1 h).2.2.2⟩⟩,(btree HB4.out).drew.trans (hb1.mono (by simp;omega))⟩
        ·have HNO:=hid (show ¬ KidsOk 12 q (fun i=>nd (ks i)) from fun h=>h1 ⟨(HKI.out.1 h).1,(HKI.out.1 h).2.1⟩)
         by_cases h2:1≤F
         ·have h3:decide ((q:Int) - 1≤8)=false:=by simp;omega
          have h4:(1:Int)≤F:=by omega
          go_wp2_with fail
          go_quiet (fail)
          go_wp2
          go_ret
          exact ⟨says_f HNO.out,below_drewN (btree HB4.out) nq⟩
         ·have h3:decide ((1:Int)≤F)=false:=by simp;omega
          go_wp2_with fail
          go_quiet (fail)
          go_wp2
          go_ret
          exact ⟨says_f HNO.out,below_drewN (btree HB4.out) nq⟩
end Go.Proofs.YtabbahpalemlhaaGreatDoor
