import Derived.Deep.RegionWith
import Derived.Maps.OwnSet
import Derived.Maps.Views
import Derived.StringKeys
import Derived.Test.YthnohneaanphbaaGreatDoorJ02
import Derived.Test.YthnohneaanphbaaGreatDoorJ03
namespace Go.Proofs.YthnohneaanphbaaGreatDoor
open Go.RowKit
set_option maxRecDepth 20000
def KO (kind:Int):Prop:=∀ (b N cap g o m c:Nat) (nd:Nat→Nd) (ks:Nat→Nat) (w:World),m≤1000000→b < w.heap.size→g < w.heap.size→NodesAt w b N nd→PlacesAt w g o m N ks →
  Calls Tryz.prog 49 #[.agg #[.slice (some ⟨b,0,none⟩) N cap],.int .i64 kind,.slice (some ⟨g,o,none⟩) m c] w fun e w'=>Says e (KidsOk kind m (fun i=>nd (ks i)))∧Below w.heap.size w w'
theorem AllE_step {j e:Nat} {nd:Nat→Nd} (h:e=j ↔ AllE j nd) (he:e≤j):(isE (nd j).kind=true→(e+1=j+1 ↔ AllE (j+1) nd))∧(isE (nd j).kind=false→(e=j+1 ↔ AllE (j+1) nd)):=by
 constructor
 ·intro hE
  constructor
  ·intro h1 i hi
   rcases Nat.lt_or_eq_of_le (Nat.lt_succ_iff.1 hi) with h2 | h2
   ·exact h.1 (by omega) i h2
   ·subst h2;exact hE
  ·intro h1
   rw [h.2 (fun i hi=>h1 i (by omega))]
 ·intro hE
  constructor
  ·intro h1;omega
  ·intro h1;have:=h1 j (by omega);rw [hE] at this;cases this
set_option maxHeartbeats 4000000 in
theorem KO_A (kind:Int) (hkind:kind=1∨kind=6∨kind=16):KO kind:=by
 intro b N cap g o m c nd ks w hm hb hg hn hk
 have HN:=hid hn
 have HK:=hid hk
 clear hn hk
 go_enter Tryz.func49,Tryz.ntmps49
 go_wp2
 go_loopw [8,10] (fun es i wr=>∃ j e:Nat,j≤m∧e≤j∧i=.int .i64 j∧es=.int .i64 e∧(e=j ↔ AllE j (fun i=>nd (ks i)))∧Below (w.heap.size+1) (w.alloc (.cells #[.slice (some ⟨b,0,none⟩) N cap] 25)) wr) (fun _ i _=>m - (intOf i).toNat)
 case atStart=>exact ⟨0,0,Nat.zero_le _,Nat.zero_le _,rfl,rfl,⟨fun _ i h=>absurd h (Nat.not_lt_zero _),fun _=>rfl⟩,Below.refl _ _⟩
 case round =>
  obtain ⟨j,e,hj,he,rfl,rfl,hall,hbw⟩:=hrel
  have HALL:=hid hall
  have HBW:=hid hbw
  clear hall hbw
  by_cases hlt:j < m
  ·have t0:=tree_cell HBW.out
   obtain ⟨a0,a1⟩:=(HK.out.below (btree HBW.out) hg) j hlt
   obtain ⟨a2,_⟩:=(HN.out.below (btree HBW.out) hb) (ks j) a1
   have HS:=hid (AllE_step HALL.out he)
   cases hE:isE (nd (ks j)).kind
   ·have NX:=hid (HS.out.2 hE)
    clear HS
    go_wp2
    go_region_with (go_at_call 75;refine (l2E_any _ _).mono ?_;rintro e w' ⟨rfl,hw⟩;have hw2:=hw.symm;clear hw;subst hw2)
    all_goals go_wp2
    all_goals
     go_roundw
     case rel=>exact ⟨j+1,e,by omega,by omega,by go_num,rfl,NX.out,HBW.out.drew⟩
     case measure=>simp [intOf];omega
   ·have NX:=hid (HS.out.1 hE)
    clear HS
    go_wp2
    go_region_with (go_at_call 75;refine (l2E_any _ _).mono ?_;rintro e w' ⟨rfl,hw⟩;have hw2:=hw.symm;clear hw;subst hw2)
    all_goals go_wp2
    all_goals
     go_roundw
     case rel=>exact ⟨j+1,e+1,by omega,by omega,by go_num,by go_num,NX.out,HBW.out.drew⟩
     case measure=>simp [intOf];omega
  ·obtain rfl:j=m:=by omega
   rcases hkind with rfl | rfl | rfl
   all_goals go_wp2
   all_goals go_ret
   all_goals refine ⟨⟨_,rfl,?_⟩,btree HBW.out⟩
   all_goals simp [KidsOk,← HALL.out, *]
   all_goals omega
end Go.Proofs.YthnohneaanphbaaGreatDoor
namespace Go.Proofs.YthnohneaanphbaaGreatDoor
open Go.RowKit Go.Maps Go.WideMaps
set_option maxRecDepth 20000
def keyL (t:ByteArray):Lit:=.string t.data.toList
theorem keyL_ne {a b:ByteArray} (h:¬ a=b):keyL a≠keyL b:=fun e=>h (ByteArray.ext (Array.toList_inj.1 (by injection e)))
def TxInv (D:DataW Unit) (j:Nat) (st:Nat→Nd):Prop:=(∀ t,Maps.has D (keyL t)=true ↔ ∃ i,i < j∧(st i).text=t)∧Maps.size D≤j∧(Maps.size D=j ↔ Apart j st)
theorem TxInv_zero (st:Nat→Nd):TxInv (.map []) 0 st :=
 ⟨fun t=>⟨fun h=>by simp [Maps.has_eq] at h,fun ⟨i,h,_⟩=>absurd h (Nat.not_lt_zero _)⟩,Nat.le_refl _,fun _ i h=>absurd h (Nat.not_lt_zero _),fun _=>rfl⟩
theorem TxInv_succ {D:DataW Unit} {j:Nat} {st:Nat→Nd} (hT:Tidy D) (h:TxInv D j st):TxInv (D.put (keyL (st j).text) (.agg [])) (j+1) st:=by
 obtain ⟨h1,h2,h3⟩:=h
 have hs:=Maps.size_put (k:=keyL (st j).text) hT (.agg [])
 refine ⟨fun t=>?_,?_,?_⟩
 ·by_cases e:(st j).text=t
  ·subst e
   exact ⟨fun _=>⟨j,by omega,rfl⟩,fun _=>Maps.has_put_same hT.isMap (by simp [keyL,WideAt.IsKeyLit]) _⟩
  ·rw [Maps.has_put_other (keyL_ne fun h=>e h.symm),h1]
   constructor
   ·rintro ⟨i,hi,he⟩;exact ⟨i,by omega,he⟩
   ·rintro ⟨i,hi,he⟩
    rcases Nat.lt_or_eq_of_le (Nat.lt_succ_iff.1 hi) with h | h
    ·exact ⟨i,h,he⟩
    ·subst h;exact absurd he e
 ·rw [hs];split <;> omega
 ·rw [hs]
  by_cases hh:Maps.has D (keyL (st j).text)=true
  ·rw [if_pos hh]
   constructor
   ·intro e;omega
   ·intro ha
    obtain ⟨i,hi,he⟩:=(h1 _).1 hh
    exact absurd he (ha j (by omega) i hi)
  ·rw [if_neg hh]
   constructor
   ·intro e i hi k hk
    rcases Nat.lt_or_eq_of_le (Nat.lt_succ_iff.1 hi) with h | h
    ·exact h3.1 (by omega) i h k hk
    ·subst h
     exact fun e=>hh ((h1 _).2 ⟨k,hk,e⟩)
   ·intro ha
    rw [h3.2 (fun i hi k hk=>ha i (by omega) k hk)]
set_option maxHeartbeats 1000000 in
theorem textsDiffer_any (g o m c:Nat) (st:Nat→Nd) (sh:Nat→Nat) (w:World) (hm:m≤5000) (hx:∀ i,i < m→(st i).text.size≤maxLen) (hg:g < w.heap.size) (hs:StandAt w g o m st sh) :
  Calls Tryz.prog 93 #[.slice (some ⟨g,o,none⟩) m c] w fun e w'=>Says e (Apart m st)∧Below w.heap.size w w':=by
 have HS:=hid hs
 have HX:=hid hx
 clear hs hx
 have hmm:=@run_makeMap Tryz.prog
 go_enter Tryz.func93,Tryz.ntmps93
 go_wp2
 go_loopw [9] (fun i wr=>∃ (j:Nat) (D:DataW Unit),j≤m∧i=.int .i64 j∧wr.ownsMap Tryz.prog 9 unitElem w.heap.size j D∧TxInv D j st∧Below w.heap.size w wr) (fun i _=>m - (intOf i).toNat)
 case atStart=>exact ⟨0,.map [],Nat.zero_le _,rfl,World.ownsMap_made _ _ _ _,TxInv_zero st,(Below.refl _ _).alloc (Nat.le_refl _) _⟩
 case round =>
  obtain ⟨j,D,hj,rfl,hown,hinv,hbw⟩:=hrel
  have HBW:=hid hbw
  have HINV:=hid hinv
  have HOWN:=hid hown
  clear hbw hinv hown
  by_cases hlt:j < m
  ·obtain ⟨a0,a1,a2,a3,a4,a5⟩:=(HS.out.below HBW.out hg) j hlt
   have hT:=HOWN.out.tidy (string_keyed Tryz.underlying9)
   have HN:=hid (TxInv_succ hT HINV.out)
   obtain ⟨w1,hrun,hown1,hgrow1⟩:=(HOWN.out.alloc (.cells #[.int .i64 (st j).kind,.int .i64 (st j).op,.int .i64 (st j).n,.string (st j).text,.int .i64 (st j).kids,.int .i64 (sh j)] 113)).update (string_keyed Tryz.underlying9) Tryz.underlying155 (by unfold maxLen;omega) (keyOf_string_mk Tryz.underlying9 (HX.out j hlt)) unitElem_mk
   have HO1:=hid hown1
   have HB1:=hid ((HBW.out.alloc HBW.out.size _).grown hgrow1 (by have:=HBW.out.size;simp;omega) (fun k e=>by injection e with e;omega))
   clear hown1 hgrow1 hT
   go_wp2
   go_roundw
   case rel=>exact ⟨j+1,_,by omega,by go_num,HO1.out,HN.out,HB1.out⟩
   case measure=>simp [intOf];omega
  ·obtain rfl:j=m:=by omega
   have hlen:=HOWN.out.len Tryz.underlying155
   by_cases hq:Maps.size D=j
   ·have HQ:=hid (HINV.out.2.2.1 hq)
    have hq':((Maps.size D:Int) == (j:Int))=true:=by rw [beq_iff_eq];omega
    clear hq
    go_wp2
    go_ret
    exact ⟨says_t HQ.out,HBW.out⟩
   ·have HQ:=hid (fun h=>hq (HINV.out.2.2.2 h))
    have hq':((Maps.size D:Int) == (j:Int))=false:=by rw [beq_eq_false_iff_ne];omega
    clear hq
    go_wp2
    go_ret
    exact ⟨says_f HQ.out,HBW.out⟩
set_option maxHeartbeats 1000000 in
theorem textsDiffer_none (ad:Option Addr) (c:Nat) (w:World) :
  Calls Tryz.prog 93 #[.slice ad 0 c] w fun e w'=>e=.returned (.bool true)∧Below w.heap.size w w':=by
 have hmm:=@run_makeMap Tryz.prog
 go_enter Tryz.func93,Tryz.ntmps93
 go_wp2
 go_loopw [9] (fun i wr=>i=.int .i64 0∧wr=w.alloc (.map #[] 0)) (fun _ _=>0)
 case atStart=>exact ⟨rfl,rfl⟩
 case round =>
  obtain ⟨rfl,rfl⟩:=hrel
  have hlen:=(World.ownsMap_made (H:=Unit) w Tryz.prog 9 unitElem).len Tryz.underlying155
  rw [Maps.size_eq] at hlen
  go_wp2
  go_ret
  exact ⟨rfl,(Below.refl _ _).alloc (Nat.le_refl _) _⟩
theorem textsDiffer_all (ad:Option Addr) (m c:Nat) (st:Nat→Nd) (sh:Nat→Nat) (w:World) (hm:m≤5000) (hx:∀ i,i < m→(st i).text.size≤maxLen) (hs:StA w ad m st sh) :
  Calls Tryz.prog 93 #[.slice ad m c] w fun e w'=>Says e (Apart m st)∧Below w.heap.size w w':=by
 rcases hs with rfl | ⟨g,o,rfl,h1,h2⟩
 ·refine (textsDiffer_none ad c w).mono ?_
  rintro e w' ⟨rfl,hb⟩
  exact ⟨says_t (fun i h=>absurd h (Nat.not_lt_zero _)),hb⟩
 ·exact textsDiffer_any g o m c st sh w hm hx h1 h2
end Go.Proofs.YthnohneaanphbaaGreatDoor
namespace Go.Proofs.YthnohneaanphbaaGreatDoor
open Go.RowKit
set_option maxRecDepth 20000
theorem StandAt.front {W:World} {g o m f:Nat} {st:Nat→Nd} {sh:Nat→Nat} (h:StandAt W g o m st sh) (hf:f≤m):StandAt W g o f st sh:=fun i hi=>h i (by omega)
theorem StandAt.back {W:World} {g o m f:Nat} {st:Nat→Nd} {sh:Nat→Nat} (h:StandAt W g o m st sh):StandAt W g (o+f * 6) (m - f) (fun i=>st (f+i)) (fun i=>sh (f+i)):=fun i hi=>by
 have:=h (f+i) (by omega)
 rw [show o+(f+i) * 6=o+f * 6+i * 6 by omega] at this
 exact this
set_option maxHeartbeats 1000000 in
theorem fnFits_any (g o m c:Nat) (st:Nat→Nd) (sh:Nat→Nat) (w:World) (hm:m≤5000) (h0:0 < m) (hcm:m≤c) (_hc:c≤maxLen) (hg:g < w.heap.size) (hs:StandAt w g o m st sh) :
  Calls Tryz.prog 95 #[.slice (some ⟨g,o,none⟩) m c] w fun e w'=>Says e (1≤m∧m≤9∧(∀ i,i+1 < m→(st i).kind=19)∧isE (st (m - 1)).kind=true)∧Below w.heap.size w w':=by
 obtain ⟨l,rfl⟩:∃ l,m=l+1:=⟨m - 1,by omega⟩
 have HF:Hid (StA w (some ⟨g,o,none⟩) l st sh):=.inr ⟨g,o,rfl,hg,hs.front (by omega)⟩
 have HK:Hid (∀ w',Below w.heap.size w w'→StA w' (some ⟨g,o+l * 6,none⟩) 1 (fun i=>st (l+i)) (fun i=>sh (l+i))):=fun w' hb=>by
  have:=hs.back (f:=l)
  rw [Nat.add_sub_cancel_left] at this
  exact .inr ⟨g,_,rfl,Nat.lt_of_lt_of_le hg hb.size,this.below hb hg⟩
 clear hs
 by_cases h8:l≤8
 ·go_enter Tryz.func95,Tryz.ntmps95
  go_wp2_with (first
   | (go_at_call 92;refine (areKinds_any (some ⟨g,o,none⟩) l c _ _ st sh _ (by omega) HF.out).mono ?_;rintro e w1 ⟨hs1,hb1⟩;have HB1:=hid hb1;clear hb1;rcases hs1.get with ⟨rfl,hP1⟩ | ⟨rfl,hP1⟩;all_goals (have HP1:=hid hP1;clear hP1 hs1))
   | (go_at_call 91;refine (areE_any (some ⟨g,o+l * 6,none⟩) 1 _ _ _ (fun i=>st (l+i)) (fun i=>sh (l+i)) _ (by omega) (HK.out _ HB1.out)).mono ?_;rintro e w2 ⟨hs2,hb2⟩;have HB2:=hid hb2;clear hb2;rcases hs2.get with ⟨rfl,hP2⟩ | ⟨rfl,hP2⟩;all_goals (have HP2:=hid hP2;clear hP2 hs2)))
  all_goals go_ret
  ·exact ⟨says_t ⟨by omega,by omega,fun i hi=>by have:=HP1.out i (by omega);omega,HP2.out.2.2 0 (by omega)⟩,HB1.out.trans (HB2.out.mono HB1.out.size)⟩
  ·refine ⟨says_f (fun h=>HP2.out ⟨by omega,by omega,fun i hi=>?_⟩),HB1.out.trans (HB2.out.mono HB1.out.size)⟩
   obtain rfl:i=0:=by omega
   exact h.2.2.2
  ·exact ⟨says_f (fun h=>HP1.out fun i hi=>by have:=h.2.2.1 i (by omega);omega),HB1.out⟩
 ·go_enter Tryz.func95,Tryz.ntmps95
  go_wp2
  go_ret
  exact ⟨says_f (fun h=>by omega),Below.refl _ _⟩
set_option maxHeartbeats 1000000 in
theorem fnFits_none (ad:Option Addr) (c:Nat) (w:World) :
  Calls Tryz.prog 95 #[.slice ad 0 c] w fun e w'=>e=.returned (.bool false)∧w'=w:=by
 go_enter Tryz.func95,Tryz.ntmps95
 go_wp2
 go_ret
 exact ⟨rfl,rfl⟩
end Go.Proofs.YthnohneaanphbaaGreatDoor
