import Derived.Deep.DeepCutAuto
import Derived.RangeFuncNested
import Derived.RangeFuncBound
import Derived.RangeFuncCalls
import Derived.RangeFuncLeaves
import Derived.Shelf.Abstract
import Derived.Shelf.RegionOpen
import Derived.WalkKit
import Derived.OwnWalkIn
import Derived.TacticsInMore
import Derived.LoopNIn
import Derived.LoopIn
import Derived.Scope
import Derived.WalkMore
import Derived.Deep.RegionHeld3
import Derived.Test.YtabbahpalemlhaaGreatDoorJ02
import Derived.Test.YtabbahpalemlhaaGreatDoorJ03
import Derived.Test.YtabbahpalemlhaaGreatDoorJ04
import Derived.Test.YtabbahpalemlhaaGreatDoorJ20
import Derived.Test.YtabbahpalemlhaaGreatDoorJ21
import Derived.Test.YtabbahpalemlhaaGreatDoorJ06
namespace Go.Proofs.YtabbahpalemlhaaGreatDoor
open Go.RowKit Go.Shelf
theorem sl_clone_any (s:ByteArray) (w:World) (hlim:s.size≤8000) :
  Calls Tryz.prog 88 #[.string s] w fun e w'=>e=.returned (.string s)∧Below w.heap.size w w' :=
 Any.stringslite_Clone (ρ:=laysPI_ren) { laysPI with } s w (by omega)
set_option maxHeartbeats 400000 in
theorem clone_any (s:ByteArray) (w:World) (hlim:s.size≤8000) :
  Calls Tryz.prog 67 #[.string s] w fun e w'=>e=.returned (.string s)∧Below w.heap.size w w':=by
 go_enter Tryz.func67,Tryz.ntmps67
 go_wp2_with (go_at_call 88;refine (sl_clone_any _ _ hlim).mono ?_;rintro e w' ⟨rfl,hb⟩)
 go_ret
 exact ⟨rfl,hb⟩
theorem words_len:∀ x ∈ words,x.length≤5:=by decide
set_option maxRecDepth 20000 in
set_option maxHeartbeats 1000000 in
theorem readName_any (s:ByteArray) (r:Nat) (w:World) (hs:s.size≤8000) (hr:w.heap[r]?=some (.map (wordE 17) 17)) :
  Calls Tryz.prog 47 #[.string s,.map (some r)] w fun e w'=>e=.returned (oneV (nameOne s.data.toList) 0)∧Below w.heap.size w w':=by
 have hms:s.size≤maxLen:=by unfold maxLen;omega
 have hk2:=run_le letB s.data.toList
 have HX:=hid (extract_take s (run letB s.data.toList))
 rw [len_size] at hk2
 have HD:Hid (∀ k,run letB s.data.toList=k→nameOne s.data.toList=if s.data.toList.take k ∈ words then ⟨2,s.data.toList.take k,0,k,0⟩ else if 30 < k then One.bad 5 else ⟨1,s.data.toList.take k,0,k,0⟩):=fun k hk=>by subst hk;rfl
 generalize hK:run letB s.data.toList=k at *
 have HK:=hid hK
 have HO:=hid (HD.out k rfl)
 clear hK HD
 have HSZ:Hid ((s.extract 0 k).size≤8000):=by show _≤_;simp;omega
 have HTX:Hid ((⟨(s.data.toList.take k).toArray⟩:ByteArray)=s.extract 0 k):=by show _=_;rw [← HX.out]
 have hrl:r < w.heap.size:=(Array.getElem?_eq_some_iff.1 hr).1
 have HR:Hid (∀ W,Below w.heap.size w W→W.heap[r]?=some (.map (wordE 17) 17)):=fun W hb=>(hb.block r hrl).trans hr
 clear hr
 by_cases h30:30 < k
 ·have hnw:¬ s.data.toList.take k ∈ words:=fun h=>by
   have:=words_len _ h
   rw [List.length_take,len_size] at this;omega
  have HE:=hid (oneV_bad (HO.out.trans (by rw [if_neg hnw,if_pos h30])) (by decide) 0)
  clear hnw
  go_enter Tryz.func47,Tryz.ntmps47
  go_wp2_with (first
   | (go_at_call 65;refine (nameSize_any s _ hms).mono ?_;rintro e w' ⟨rfl,hw⟩;have hw2:=hw.symm;clear hw;subst hw2;rw [HK.out]))
  refine bodyPost_ret (v:=.tuple #[.agg #[.int .i64 0,.string ⟨#[]⟩,.int .i64 0,.int .i64 0],.int .i64 0,.int .i64 5]) (by simp [results,Tryz.results47,go_sem]) rfl ⟨by rw [HE.out];rfl,?_⟩
  exact (Below.refl w.heap.size w).alloc (Nat.le_refl _) _
 ·by_cases hw:s.data.toList.take k ∈ words
  ·have HE:=hid (oneV_good (HO.out.trans (by rw [if_pos hw])) 0)
   have HDE:Hid ((s.extract 0 k).data.toList ∈ words):=by show _ ∈ _;rw [HX.out];exact hw
   clear hw
   go_enter Tryz.func47,Tryz.ntmps47
   go_wp2_with (first
    | (go_at_call 65;refine (nameSize_any s _ hms).mono ?_;rintro e w' ⟨rfl,hw⟩;have hw2:=hw.symm;clear hw;subst hw2;rw [HK.out])
    | (go_at_call 67;refine (clone_any _ _ HSZ.out).mono ?_;rintro e w1 ⟨rfl,hb⟩;have HB:=hid hb;obtain ⟨⟨k0,k1,k2,k3⟩,⟨k4,k5,k6,k7⟩⟩:=tok_cells (hb.mono (by simp));have hlk:=lookup_word w1 r (HR.out w1 (below_tok (hb.mono (by simp)))) (s.extract 0 k);rw [if_pos HDE.out,decide_eq_true HDE.out] at hlk;clear hb))
   refine bodyPost_ret (v:=.tuple #[.agg #[.int .i64 2,.string (s.extract 0 k),.int .i64 0,.int .i64 0],.int .i64 k,.int .i64 0]) (by simp [results,Tryz.results47,go_sem,k0,k1,k2,k3]) rfl ⟨by rw [HE.out,HTX.out];simp,?_⟩
   exact below_set4 (below_tok (HB.out.mono (by simp)))
  ·have HE:=hid (oneV_good (HO.out.trans (by rw [if_neg hw,if_neg h30])) 0)
   have HDE:Hid (¬ (s.extract 0 k).data.toList ∈ words):=by show ¬ _ ∈ _;rw [HX.out];exact hw
   clear hw
   go_enter Tryz.func47,Tryz.ntmps47
   go_wp2_with (first
    | (go_at_call 65;refine (nameSize_any s _ hms).mono ?_;rintro e w' ⟨rfl,hw⟩;have hw2:=hw.symm;clear hw;subst hw2;rw [HK.out])
    | (go_at_call 67;refine (clone_any _ _ HSZ.out).mono ?_;rintro e w1 ⟨rfl,hb⟩;have HB:=hid hb;obtain ⟨⟨k0,k1,k2,k3⟩,⟨k4,k5,k6,k7⟩⟩:=tok_cells (hb.mono (by simp));have hlk:=lookup_word w1 r (HR.out w1 (below_tok (hb.mono (by simp)))) (s.extract 0 k);rw [if_neg HDE.out,decide_eq_false HDE.out] at hlk;clear hb))
   refine bodyPost_ret (v:=.tuple #[.agg #[.int .i64 1,.string (s.extract 0 k),.int .i64 0,.int .i64 0],.int .i64 k,.int .i64 0]) (by simp [results,Tryz.results47,go_sem,k0,k1,k2,k3]) rfl ⟨by rw [HE.out,HTX.out];simp,?_⟩
   exact below_set4 (below_tok (HB.out.mono (by simp)))
end Go.Proofs.YtabbahpalemlhaaGreatDoor
namespace Go.Proofs.YtabbahpalemlhaaGreatDoor
open Go.RowKit
set_option maxRecDepth 20000
def fixT:List (List UInt8):=[
 [108,101,116,32,115,48,32,61,32,108,101,116,32,110,49,32,61,32,49,32,105,110,32,91,110,49,32,102,111,114,32,110,49,32,105,110,32,91,110,49,93,93,59,10,101,109,105,116,32,123,118,58,32,115,48,125,59,10],
 [108,101,116,32,115,48,32,61,32,108,101,116,32,110,49,32,61,32,49,32,105,110,32,91,110,49,32,43,32,110,50,32,102,111,114,32,110,50,32,105,110,32,91,110,49,93,32,105,102,32,110,49,32,61,61,32,110,50,93,59,10,101,109,105,116,32,123,118,58,32,115,48,125,59,10],
 [108,101,116,32,115,48,32,61,32,108,101,116,32,110,49,32,61,32,49,32,105,110,32,40,102,110,40,110,49,32,61,32,50,41,32,61,62,32,110,49,41,40,41,32,43,32,110,49,59,10,101,109,105,116,32,123,118,58,32,115,48,125,59,10],
 [108,101,116,32,115,48,32,61,32,108,101,116,32,110,49,32,61,32,49,32,105,110,32,40,102,110,40,110,50,44,32,110,49,32,61,32,110,49,41,32,61,62,32,91,110,49,44,32,110,50,93,41,40,110,49,41,59,10,101,109,105,116,32,123,118,58,32,115,48,125,59,10],
 [108,101,116,32,115,48,32,61,32,108,101,116,32,110,49,32,61,32,49,32,105,110,32,40,102,110,40,110,49,44,32,110,50,32,61,32,110,49,41,32,61,62,32,91,110,49,44,32,110,50,93,41,40,55,41,59,10,101,109,105,116,32,123,118,58,32,115,48,125,59,10],
 [108,101,116,32,121,32,61,32,53,59,10,100,101,102,32,102,40,120,44,32,121,32,61,32,121,41,32,61,32,91,120,44,32,121,93,59,10,101,109,105,116,32,123,118,58,32,102,40,49,41,125,59,10],
 [100,101,102,32,102,40,120,44,32,121,32,61,32,121,41,32,61,32,120,59,10],
 [100,101,102,32,102,40,120,32,61,32,120,41,32,61,32,120,59,10,108,101,116,32,120,32,61,32,51,59,10,101,109,105,116,32,123,118,58,32,102,40,41,125,59,10],
 [108,101,116,32,115,48,32,61,32,108,101,116,32,110,49,32,61,32,34,110,101,119,95,110,97,109,101,34,32,105,110,32,110,49,32,43,32,34,110,50,34,59,10,101,109,105,116,32,123,110,101,119,95,110,97,109,101,58,32,115,48,44,32,118,58,32,115,48,46,110,49,125,59,10],
 [100,101,102,32,108,101,110,40,120,41,32,61,32,55,59,10,108,101,116,32,97,32,61,32,108,101,110,40,49,41,59,10,101,109,105,116,32,123,118,58,32,97,125,59,10],
 [108,101,116,32,97,32,61,32,108,101,110,40,91,49,93,41,59,10,100,101,102,32,108,101,110,40,120,41,32,61,32,55,59,10,101,109,105,116,32,123,118,58,32,97,125,59,10],
 [108,101,116,32,110,32,61,32,49,59,10,108,101,116,32,102,32,61,32,102,110,40,120,41,32,61,62,32,110,32,43,32,120,59,10,100,101,102,32,103,40,110,41,32,61,32,102,40,110,41,59,10,101,109,105,116,32,123,118,58,32,103,40,49,48,41,125,59,10],
 [108,101,116,32,102,32,61,32,102,110,40,120,41,32,61,62,32,91,120,44,32,110,93,59,10,108,101,116,32,115,48,32,61,32,108,101,116,32,110,32,61,32,50,32,105,110,32,102,40,110,41,59,10,108,101,116,32,110,32,61,32,57,59,10],
 [108,101,116,32,114,32,61,32,123,97,58,32,49,125,59,10,101,109,105,116,32,123,118,58,32,115,111,114,116,101,100,40,91,114,44,32,123,98,58,32,50,125,44,32,114,93,41,44,32,119,58,32,117,110,105,113,117,101,40,91,114,44,32,123,98,58,32,50,125,44,32,114,93,41,125,59,10],
 [101,109,105,116,32,123,95,58,32,49,44,32,95,95,58,32,123,95,97,58,32,50,125,44,32,34,97,45,98,34,58,32,51,125,59,10]]
theorem fix_len:fixT.length=15:=rfl
def fixB (l:List UInt8):Bool:=decide (l.length≤8000) && decide ((scanR l).1.length≤1000) && (scanR l).1.all (fun t=>decide (t.text.length≤1000))
theorem fix_all:fixT.all fixB=true:=by kernel_rfl
def fixS (i:Nat):ByteArray:=⟨(fixT.getD i []).toArray⟩
theorem fix_ok (i:Nat) (h:i < 15):(fixS i).size≤8000∧(scanR (fixS i).data.toList).1.length≤1000∧∀ t ∈ (scanR (fixS i).data.toList).1,t.text.length≤1000:=by
 have hm:fixT.getD i [] ∈ fixT:=by rw [List.getD_eq_getElem?_getD,List.getElem?_eq_getElem (by rw [fix_len];exact h)];exact List.getElem_mem _
 have hb:=List.all_eq_true.1 fix_all _ hm
 unfold fixB at hb
 simp only [Bool.and_eq_true,decide_eq_true_eq,List.all_eq_true] at hb
 obtain ⟨⟨h1,h2⟩,h3⟩:=hb
 have e:(fixS i).data.toList=fixT.getD i []:=by unfold fixS;simp
 refine ⟨?_,by rw [e];exact h2,fun t ht=>by rw [e] at ht;exact h3 t ht⟩
 have:(fixS i).size=(fixT.getD i []).length:=by unfold fixS;simp [ByteArray.size]
 rw [this]
 exact h1
set_option maxHeartbeats 2000000 in
theorem l2Fixed_any (w:World) :
  Calls Tryz.prog 38 #[] w fun e w'=>e=.returned (.slice (some ⟨w.heap.size,0,none⟩) 15 15)∧(∀ i,i < 15→w'.cell? ⟨w.heap.size,i,none⟩=some (.string (fixS i)))∧Below w.heap.size w w':=by
 have HC:Hid (∀ i,i < 15→(w.alloc (.cells #[.string ⟨#[108,101,116,32,115,48,32,61,32,108,101,116,32,110,49,32,61,32,49,32,105,110,32,91,110,49,32,102,111,114,32,110,49,32,105,110,32,91,110,49,93,93,59,10,101,109,105,116,32,123,118,58,32,115,48,125,59,10]⟩,.string ⟨#[108,101,116,32,115,48,32,61,32,108,101,116,32,110,49,32,61,32,49,32,105,110,32,91,110,49,32,43,32,110,50,32,102,111,114,32,110,50,32,105,110,32,91,110,49,93,32,105,102,32,110,49,32,61,61,32,110,50,93,59,10,101,109,105,116,32,123,118,58,32,115,48,125,59,10]⟩,.string ⟨#[108,101,116,32,115,48,32,61,32,108,101,116,32,110,49,32,61,32,49,32,105,110,32,40,102,110,40,110,49,32,61,32,50,41,32,61,62,32,110,49,41,40,41,32,43,32,110,49,59,10,101,109,105,116,32,123,118,58,32,115,48,125,59,10]⟩,.string ⟨#[108,101,116,32,115,48,32,61,32,108,101,116,32,110,49,32,61,32,49,32,105,110,32,40,102,110,40,110,50,44,32,110,49,32,61,32,110,49,41,32,61,62,32,91,110,49,44,32,110,50,93,41,40,110,49,41,59,10,101,109,105,116,32,123,118,58,32,115,48,125,59,10]⟩,.string ⟨#[108,101,116,32,115,48,32,61,32,108,101,116,32,110,49,32,61,32,49,32,105,110,32,40,102,110,40,110,49,44,32,110,50,32,61,32,110,49,41,32,61,62,32,91,110,49,44,32,110,50,93,41,40,55,41,59,10,101,109,105,116,32,123,118,58,32,115,48,125,59,10]⟩,.string ⟨#[108,101,116,32,121,32,61,32,53,59,10,100,101,102,32,102,40,120,44,32,121,32,61,32,121,41,32,61,32,91,120,44,32,121,93,59,10,101,109,105,116,32,123,118,58,32,102,40,49,41,125,59,10]⟩,.string ⟨#[100,101,102,32,102,40,120,44,32,121,32,61,32,121,41,32,61,32,120,59,10]⟩,.string ⟨#[100,101,102,32,102,40,120,32,61,32,120,41,32,61,32,120,59,10,108,101,116,32,120,32,61,32,51,59,10,101,109,105,116,32,123,118,58,32,102,40,41,125,59,10]⟩,.string ⟨#[108,101,116,32,115,48,32,61,32,108,101,116,32,110,49,32,61,32,34,110,101,119,95,110,97,109,101,34,32,105,110,32,110,49,32,43,32,34,110,50,34,59,10,101,109,105,116,32,123,110,101,119,95,110,97,109,101,58,32,115,48,44,32,118,58,32,115,48,46,110,49,125,59,10]⟩,.string ⟨#[100,101,102,32,108,101,110,40,120,41,32,61,32,55,59,10,108,101,116,32,97,32,61,32,108,101,110,40,49,41,59,10,101,109,105,116,32,123,118,58,32,97,125,59,10]⟩,.string ⟨#[108,101,116,32,97,32,61,32,108,101,110,40,91,49,93,41,59,10,100,101,102,32,108,101,110,40,120,41,32,61,32,55,59,10,101,109,105,116,32,123,118,58,32,97,125,59,10]⟩,.string ⟨#[108,101,116,32,110,32,61,32,49,59,10,108,101,116,32,102,32,61,32,102,110,40,120,41,32,61,62,32,110,32,43,32,120,59,10,100,101,102,32,103,40,110,41,32,61,32,102,40,110,41,59,10,101,109,105,116,32,123,118,58,32,103,40,49,48,41,125,59,10]⟩,.string ⟨#[108,101,116,32,102,32,61,32,102,110,40,120,41,32,61,62,32,91,120,44,32,110,93,59,10,108,101,116,32,115,48,32,61,32,108,101,116,32,110,32,61,32,50,32,105,110,32,102,40,110,41,59,10,108,101,116,32,110,32,61,32,57,59,10]⟩,.string ⟨#[108,101,116,32,114,32,61,32,123,97,58,32,49,125,59,10,101,109,105,116,32,123,118,58,32,115,111,114,116,101,100,40,91,114,44,32,123,98,58,32,50,125,44,32,114,93,41,44,32,119,58,32,117,110,105,113,117,101,40,91,114,44,32,123,98,58,32,50,125,44,32,114,93,41,125,59,10]⟩,.string ⟨#[101,109,105,116,32,123,95,58,32,49,44,32,95,95,58,32,123,95,97,58,32,50,125,44,32,34,97,45,98,34,58,32,51,125,59,10]⟩] 9)).cell? ⟨w.heap.size,i,none⟩=some (.string (fixS i))):=fun i hi=>by
  rw [cell_new_row]
  obtain rfl | rfl | rfl | rfl | rfl | rfl | rfl | rfl | rfl | rfl | rfl | rfl | rfl | rfl | rfl:i=0∨i=1∨i=2∨i=3∨i=4∨i=5∨i=6∨i=7∨i=8∨i=9∨i=10∨i=11∨i=12∨i=13∨i=14:=by omega
  all_goals rfl
 go_enter Tryz.func38,Tryz.ntmps38
 go_wp2
 go_ret
 exact ⟨rfl,HC.out,(Below.refl _ _).alloc (Nat.le_refl _) _⟩
end Go.Proofs.YtabbahpalemlhaaGreatDoor
namespace Go.Proofs.YtabbahpalemlhaaGreatDoor
open Go.RowKit
set_option maxRecDepth 20000 in
set_option maxHeartbeats 1000000 in
theorem readTok_text (s:ByteArray) (r:Nat) (w:World) (hs:s.size≤8000) (hp:0 < s.size) (hq:((s[0].toNat:Int) == 34)=true) :
  Calls Tryz.prog 27 #[.string s,.map (some r)] w fun e w'=>e=.returned (oneV (textOne (s.data.toList.drop 1)) 0)∧Below w.heap.size w w':=by
 generalize hO:textOne (s.data.toList.drop 1)=O
 have HO:=hid hO
 clear hO
 by_cases hc:O.code=0
 ·have HV:Hid (oneV O 0=.tuple #[.agg #[.int .i64 O.kind,.string ⟨O.text.toArray⟩,.int .i64 O.n,.int .i64 0],.int .i64 O.size,.int .i64 0]):=by show _=_;unfold oneV;rw [if_pos hc];simp
  clear hc
  go_enter Tryz.func27,Tryz.ntmps27
  go_wp2_with (first
   | (go_at_call 44;refine (isDigit_any _ _).mono ?_;rintro e w' ⟨rfl,hw⟩;have hw2:=hw.symm;clear hw;subst hw2)
   | (go_at_call 46;refine (isName_any _ _).mono ?_;rintro e w' ⟨rfl,hw⟩;have hw2:=hw.symm;clear hw;subst hw2)
   | (go_at_call 43;refine (readText_any s _ hs hp).mono ?_;rintro e w1 ⟨rfl,hb⟩;rw [HO.out,HV.out];have HB:=hid hb;obtain ⟨⟨k0,k1,k2,k3⟩,⟨k4,k5,k6,k7⟩⟩:=tok_cells (hb.mono (by simp));clear hb))
  refine bodyPost_ret (v:=.tuple #[.agg #[.int .i64 O.kind,.string ⟨O.text.toArray⟩,.int .i64 O.n,.int .i64 0],.int .i64 O.size,.int .i64 0]) (by simp [results,Tryz.results27,go_sem,k0,k1,k2,k3]) rfl ⟨by rw [HV.out],?_⟩
  exact below_set4 (below_tok (HB.out.mono (by simp)))
 ·have HV:Hid (oneV O 0=.tuple #[.agg #[.int .i64 0,.string ⟨#[]⟩,.int .i64 0,.int .i64 0],.int .i64 0,.int .i64 O.code]):=if_neg hc
  clear hc
  go_enter Tryz.func27,Tryz.ntmps27
  go_wp2_with (first
   | (go_at_call 44;refine (isDigit_any _ _).mono ?_;rintro e w' ⟨rfl,hw⟩;have hw2:=hw.symm;clear hw;subst hw2)
   | (go_at_call 46;refine (isName_any _ _).mono ?_;rintro e w' ⟨rfl,hw⟩;have hw2:=hw.symm;clear hw;subst hw2)
   | (go_at_call 43;refine (readText_any s _ hs hp).mono ?_;rintro e w1 ⟨rfl,hb⟩;rw [HO.out,HV.out];have HB:=hid hb;obtain ⟨⟨k0,k1,k2,k3⟩,⟨k4,k5,k6,k7⟩⟩:=tok_cells (hb.mono (by simp));clear hb))
  refine bodyPost_ret (v:=.tuple #[.agg #[.int .i64 0,.string ⟨#[]⟩,.int .i64 0,.int .i64 0],.int .i64 0,.int .i64 O.code]) (by simp [results,Tryz.results27,go_sem,k0,k1,k2,k3]) rfl ⟨by rw [HV.out],?_⟩
  exact below_set4 (below_tok (HB.out.mono (by simp)))
set_option maxRecDepth 20000 in
set_option maxHeartbeats 1000000 in
theorem readTok_num (s:ByteArray) (r:Nat) (w:World) (hs:s.size≤8000) (hp:0 < s.size) (hq:((s[0].toNat:Int) == 34)=false) (hd:dig (s[0].toNat:Int)=true) (hE:Env w) :
  Calls Tryz.prog 27 #[.string s,.map (some r)] w fun e w'=>e=.returned (oneV (numOne s.data.toList) 0)∧Below w.heap.size w w':=by
 have HEn:Hid (∀ X:Obj,Env (w.alloc X)):=fun X=>hE.below ((Below.refl _ _).alloc (Nat.le_refl _) _)
 clear hE
 generalize hO:numOne s.data.toList=O
 have HO:=hid hO
 clear hO
 by_cases hc:O.code=0
 ·have HV:Hid (oneV O 0=.tuple #[.agg #[.int .i64 O.kind,.string ⟨O.text.toArray⟩,.int .i64 O.n,.int .i64 0],.int .i64 O.size,.int .i64 0]):=by show _=_;unfold oneV;rw [if_pos hc];simp
  clear hc
  go_enter Tryz.func27,Tryz.ntmps27
  go_wp2_with (first
   | (go_at_call 44;refine (isDigit_any _ _).mono ?_;rintro e w' ⟨rfl,hw⟩;have hw2:=hw.symm;clear hw;subst hw2)
   | (go_at_call 46;refine (isName_any _ _).mono ?_;rintro e w' ⟨rfl,hw⟩;have hw2:=hw.symm;clear hw;subst hw2)
   | (go_at_call 45;refine (readNumber_any s _ hs hp hd (HEn.out _)).mono ?_;rintro e w1 ⟨rfl,hb⟩;rw [HO.out,HV.out];have HB:=hid hb;obtain ⟨⟨k0,k1,k2,k3⟩,⟨k4,k5,k6,k7⟩⟩:=tok_cells (hb.mono (by simp));clear hb))
  refine bodyPost_ret (v:=.tuple #[.agg #[.int .i64 O.kind,.string ⟨O.text.toArray⟩,.int .i64 O.n,.int .i64 0],.int .i64 O.size,.int .i64 0]) (by simp [results,Tryz.results27,go_sem,k0,k1,k2,k3]) rfl ⟨by rw [HV.out],?_⟩
  exact below_set4 (below_tok (HB.out.mono (by simp)))
 ·have HV:Hid (oneV O 0=.tuple #[.agg #[.int .i64 0,.string ⟨#[]⟩,.int .i64 0,.int .i64 0],.int .i64 0,.int .i64 O.code]):=if_neg hc
  clear hc
  go_enter Tryz.func27,Tryz.ntmps27
  go_wp2_with (first
   | (go_at_call 44;refine (isDigit_any _ _).mono ?_;rintro e w' ⟨rfl,hw⟩;have hw2:=hw.symm;clear hw;subst hw2)
   | (go_at_call 46;refine (isName_any _ _).mono ?_;rintro e w' ⟨rfl,hw⟩;have hw2:=hw.symm;clear hw;subst hw2)
   | (go_at_call 45;refine (readNumber_any s _ hs hp hd (HEn.out _)).mono ?_;rintro e w1 ⟨rfl,hb⟩;rw [HO.out,HV.out];have HB:=hid hb;obtain ⟨⟨k0,k1,k2,k3⟩,⟨k4,k5,k6,k7⟩⟩:=tok_cells (hb.mono (by simp));clear hb))
  refine bodyPost_ret (v:=.tuple #[.agg #[.int .i64 0,.string ⟨#[]⟩,.int .i64 0,.int .i64 0],.int .i64 0,.int .i64 O.code]) (by simp [results,Tryz.results27,go_sem,k0,k1,k2,k3]) rfl ⟨by rw [HV.out],?_⟩
  exact below_set4 (below_tok (HB.out.mono (by simp)))
set_option maxRecDepth 20000 in
set_option maxHeartbeats 1000000 in
theorem readTok_name (s:ByteArray) (r:Nat) (w:World) (hs:s.size≤8000) (hp:0 < s.size) (hq:((s[0].toNat:Int) == 34)=false) (hd:dig (s[0].toNat:Int)=false) (hl:let_ (s[0].toNat:Int)=true) (hr:w.heap[r]?=some (.map (wordE 17) 17)) :
  Calls Tryz.prog 27 #[.string s,.map (some r)] w fun e w'=>e=.returned (oneV (nameOne s.data.toList) 0)∧Below w.heap.size w w':=by
 have hrl:r < w.heap.size:=(Array.getElem?_eq_some_iff.1 hr).1
 have HR:Hid (∀ X:Obj,(w.alloc X).heap[r]?=some (.map (wordE 17) 17)):=fun X=>(Below.heap_alloc w X r hrl).trans hr
 clear hr hrl
 generalize hO:nameOne s.data.toList=O
 have HO:=hid hO
 clear hO
 by_cases hc:O.code=0
 ·have HV:Hid (oneV O 0=.tuple #[.agg #[.int .i64 O.kind,.string ⟨O.text.toArray⟩,.int .i64 O.n,.int .i64 0],.int .i64 O.size,.int .i64 0]):=by show _=_;unfold oneV;rw [if_pos hc];simp
  clear hc
  go_enter Tryz.func27,Tryz.ntmps27
  go_wp2_with (first
   | (go_at_call 44;refine (isDigit_any _ _).mono ?_;rintro e w' ⟨rfl,hw⟩;have hw2:=hw.symm;clear hw;subst hw2)
   | (go_at_call 46;refine (isName_any _ _).mono ?_;rintro e w' ⟨rfl,hw⟩;have hw2:=hw.symm;clear hw;subst hw2)
   | (go_at_call 47;refine (readName_any s r _ hs (HR.out _)).mono ?_;rintro e w1 ⟨rfl,hb⟩;rw [HO.out,HV.out];have HB:=hid hb;obtain ⟨⟨k0,k1,k2,k3⟩,⟨k4,k5,k6,k7⟩⟩:=tok_cells (hb.mono (by simp));clear hb))
  refine bodyPost_ret (v:=.tuple #[.agg #[.int .i64 O.kind,.string ⟨O.text.toArray⟩,.int .i64 O.n,.int .i64 0],.int .i64 O.size,.int .i64 0]) (by simp [results,Tryz.results27,go_sem,k0,k1,k2,k3]) rfl ⟨by rw [HV.out],?_⟩
  exact below_set4 (below_tok (HB.out.mono (by simp)))
 ·have HV:Hid (oneV O 0=.tuple #[.agg #[.int .i64 0,.string ⟨#[]⟩,.int .i64 0,.int .i64 0],.int .i64 0,.int .i64 O.code]):=if_neg hc
  clear hc
  go_enter Tryz.func27,Tryz.ntmps27
  go_wp2_with (first
   | (go_at_call 44;refine (isDigit_any _ _).mono ?_;rintro e w' ⟨rfl,hw⟩;have hw2:=hw.symm;clear hw;subst hw2)
   | (go_at_call 46;refine (isName_any _ _).mono ?_;rintro e w' ⟨rfl,hw⟩;have hw2:=hw.symm;clear hw;subst hw2)
   | (go_at_call 47;refine (readName_any s r _ hs (HR.out _)).mono ?_;rintro e w1 ⟨rfl,hb⟩;rw [HO.out,HV.out];have HB:=hid hb;obtain ⟨⟨k0,k1,k2,k3⟩,⟨k4,k5,k6,k7⟩⟩:=tok_cells (hb.mono (by simp));clear hb))
  refine bodyPost_ret (v:=.tuple #[.agg #[.int .i64 0,.string ⟨#[]⟩,.int .i64 0,.int .i64 0],.int .i64 0,.int .i64 O.code]) (by simp [results,Tryz.results27,go_sem,k0,k1,k2,k3]) rfl ⟨by rw [HV.out],?_⟩
  exact below_set4 (below_tok (HB.out.mono (by simp)))
set_option maxRecDepth 20000 in
set_option maxHeartbeats 1000000 in
theorem readTok_mark (s:ByteArray) (r:Nat) (w:World) (hp:0 < s.size) (hq:((s[0].toNat:Int) == 34)=false) (hd:dig (s[0].toNat:Int)=false) (hl:let_ (s[0].toNat:Int)=false) (hE:Env w) :
  Calls Tryz.prog 27 #[.string s,.map (some r)] w fun e w'=>e=.returned (oneV (markOne s.data.toList) 0)∧Below w.heap.size w w':=by
 have HEn:Hid (∀ X:Obj,Env (w.alloc X)):=fun X=>hE.below ((Below.refl _ _).alloc (Nat.le_refl _) _)
 clear hE
 generalize hO:markOne s.data.toList=O
 have HO:=hid hO
 clear hO
 by_cases hc:O.code=0
 ·have HV:Hid (oneV O 0=.tuple #[.agg #[.int .i64 O.kind,.string ⟨O.text.toArray⟩,.int .i64 O.n,.int .i64 0],.int .i64 O.size,.int .i64 0]):=by show _=_;unfold oneV;rw [if_pos hc];simp
  clear hc
  go_enter Tryz.func27,Tryz.ntmps27
  go_wp2_with (first
   | (go_at_call 44;refine (isDigit_any _ _).mono ?_;rintro e w' ⟨rfl,hw⟩;have hw2:=hw.symm;clear hw;subst hw2)
   | (go_at_call 46;refine (isName_any _ _).mono ?_;rintro e w' ⟨rfl,hw⟩;have hw2:=hw.symm;clear hw;subst hw2)
   | (go_at_call 48;refine (readMark_any s _ (HEn.out _)).mono ?_;rintro e w1 ⟨rfl,hb⟩;rw [HO.out,HV.out];have HB:=hid hb;obtain ⟨⟨k0,k1,k2,k3⟩,⟨k4,k5,k6,k7⟩⟩:=tok_cells (hb.mono (by simp));clear hb))
  refine bodyPost_ret (v:=.tuple #[.agg #[.int .i64 O.kind,.string ⟨O.text.toArray⟩,.int .i64 O.n,.int .i64 0],.int .i64 O.size,.int .i64 0]) (by simp [results,Tryz.results27,go_sem,k0,k1,k2,k3]) rfl ⟨by rw [HV.out],?_⟩
  exact below_set4 (below_tok (HB.out.mono (by simp)))
 ·have HV:Hid (oneV O 0=.tuple #[.agg #[.int .i64 0,.string ⟨#[]⟩,.int .i64 0,.int .i64 0],.int .i64 0,.int .i64 O.code]):=if_neg hc
  clear hc
  go_enter Tryz.func27,Tryz.ntmps27
  go_wp2_with (first
   | (go_at_call 44;refine (isDigit_any _ _).mono ?_;rintro e w' ⟨rfl,hw⟩;have hw2:=hw.symm;clear hw;subst hw2)
   | (go_at_call 46;refine (isName_any _ _).mono ?_;rintro e w' ⟨rfl,hw⟩;have hw2:=hw.symm;clear hw;subst hw2)
   | (go_at_call 48;refine (readMark_any s _ (HEn.out _)).mono ?_;rintro e w1 ⟨rfl,hb⟩;rw [HO.out,HV.out];have HB:=hid hb;obtain ⟨⟨k0,k1,k2,k3⟩,⟨k4,k5,k6,k7⟩⟩:=tok_cells (hb.mono (by simp));clear hb))
  refine bodyPost_ret (v:=.tuple #[.agg #[.int .i64 0,.string ⟨#[]⟩,.int .i64 0,.int .i64 0],.int .i64 0,.int .i64 O.code]) (by simp [results,Tryz.results27,go_sem,k0,k1,k2,k3]) rfl ⟨by rw [HV.out],?_⟩
  exact below_set4 (below_tok (HB.out.mono (by simp)))
theorem readTok_any (s:ByteArray) (r:Nat) (w:World) (hs:s.size≤8000) (hp:0 < s.size) (hr:w.heap[r]?=some (.map (wordE 17) 17)) (hE:Env w) :
  Calls Tryz.prog 27 #[.string s,.map (some r)] w fun e w'=>e=.returned (oneV (one s.data.toList) 0)∧Below w.heap.size w w':=by
 have hd:=head_eq s hp
 have ht:s.data.toList.tail=s.data.toList.drop 1:=by simp
 have ho:one s.data.toList=if s[0].toNat=34 then textOne (s.data.toList.drop 1) else if digB s[0]=true then numOne s.data.toList else if letB s[0]=true then nameOne s.data.toList else markOne s.data.toList:=by
  rw [← ht]
  generalize s.data.toList.tail=t at hd
  rw [hd];rfl
 rw [ho]
 by_cases h1:s[0].toNat=34
 ·rw [if_pos h1];exact readTok_text s r w hs hp (by rw [beq_iff_eq];omega)
 ·rw [if_neg h1]
  have h1':((s[0].toNat:Int) == 34)=false:=by rw [beq_eq_false_iff_ne];omega
  by_cases h2:digB s[0]=true
  ·rw [if_pos h2];exact readTok_num s r w hs hp h1' h2 hE
  ·rw [if_neg h2]
   have h2':dig (s[0].toNat:Int)=false:=by simpa [digB] using h2
   by_cases h3:letB s[0]=true
   ·rw [if_pos h3];exact readTok_name s r w hs hp h1' h2' h3 hr
   ·rw [if_neg h3];exact readTok_mark s r w hp h1' h2' (by simpa [letB] using h3) hE
end Go.Proofs.YtabbahpalemlhaaGreatDoor
namespace Go.Proofs.YtabbahpalemlhaaGreatDoor
open Go.RowKit Go.Shelf
attribute [local go_sem] Oper.semAt_some
def zeroTok:Tok:=⟨0,[],0,0⟩
def itemV (x:Tok × Nat × Nat):Array Value:=#[.agg #[.int .i64 x.1.kind,.string ⟨x.1.text.toArray⟩,.int .i64 x.1.n,.int .i64 x.1.place],.agg #[.int .i64 x.2.1,.int .i64 x.2.2]]
def itemsOf (r:List Tok × Option (Nat × Nat)):List (Tok × Nat × Nat) :=
 match r.2 with
 | none=>r.1.map fun t=>(t,0,0)
 | some x=>(r.1.map fun t=>(t,0,0)) ++ [(zeroTok,x)]
def items (l:List UInt8):List (Tok × Nat × Nat):=itemsOf (scanA (l.length+1) l (gapN false l))
def itemsRest (l:List UInt8) (f p:Nat) (pre:List (Tok × Nat × Nat)):Prop:=items l=pre ++ itemsOf (scanA f l p)
theorem itemsOf_cons (t:Tok) (r:List Tok × Option (Nat × Nat)):itemsOf (t :: r.1,r.2)=(t,0,0) :: itemsOf r:=by
 unfold itemsOf;cases r.2 <;> simp
theorem itemsRest_go {l:List UInt8} {f p:Nat} {pre:List (Tok × Nat × Nat)} (hr:itemsRest l (f+1) p pre) (h:p < l.length) (hc:(one (l.drop p)).code=0) :
  itemsRest l f (p+(one (l.drop p)).size+gapN false (l.drop (p+(one (l.drop p)).size))) (pre ++ [(⟨(one (l.drop p)).kind,(one (l.drop p)).text,(one (l.drop p)).n,p⟩,0,0)]):=by
 unfold itemsRest at *;rw [hr,scanA_go f l p h hc,itemsOf_cons];simp
theorem itemsRest_bad {l:List UInt8} {f p:Nat} {pre:List (Tok × Nat × Nat)} (hr:itemsRest l (f+1) p pre) (h:p < l.length) (hc:¬ (one (l.drop p)).code=0) :
  items l=pre ++ [(zeroTok,(one (l.drop p)).code,p)]:=by
 unfold itemsRest at hr;rw [hr,scanA_bad f l p h hc];rfl
theorem itemsRest_end {l:List UInt8} {f p:Nat} {pre:List (Tok × Nat × Nat)} (hr:itemsRest l f p pre) (h:l.length≤p):items l=pre:=by
 unfold itemsRest at hr;rw [hr,scanA_end f l p h];simp [itemsOf]
structure Sees (n0 Bn r:Nat) (s:ByteArray) (W:World):Prop where
 src:W.cell? ⟨Bn,0,none⟩=some (.string s)
 map:W.heap[r]?=some (.map (wordE 17) 17)
 env:Env W
 size:n0≤W.heap.size
theorem below_grown {w w1:World} (h:Below w.heap.size w w1):w.grownBy w1 none:=⟨h.os,h.tape,h.output,h.size,fun k hk _=>h.block k hk⟩
theorem items_lt {l:List UInt8} {f p:Nat} {pre:List (Tok × Nat × Nat)} {x:Tok × Nat × Nat} (h:itemsRest l f p (pre ++ [x])):pre.length < (items l).length:=by
 unfold itemsRest at h;rw [h];simp
theorem yield_form0 {l0 k n p:Nat} {t:List UInt8} {W:World} {x:Result Next} (h:(Instr.yield l0 (itemV (⟨k,t,n,p⟩,0,0))).run Tryz.prog W=x) :
  (Instr.yield l0 #[.agg #[.int .i64 k,.string ⟨t.toArray⟩,.int .i64 n,.int .i64 p],.agg #[.int .i64 0,.int .i64 0]]).run Tryz.prog W=x:=h
theorem yield_formZ {l0 c p:Nat} {W:World} {x:Result Next} (h:(Instr.yield l0 (itemV (zeroTok,c,p))).run Tryz.prog W=x) :
  (Instr.yield l0 #[.agg #[.int .i64 0,.string ⟨#[]⟩,.int .i64 0,.int .i64 0],.agg #[.int .i64 c,.int .i64 p]]).run Tryz.prog W=x:=h
theorem Env.low {w w':World} {n0:Nat} (h:Env w) (h6:6≤n0) (hn:n0≤w.heap.size) (hb:Below n0 w w'):Env w':=by
 refine ⟨?_,?_,?_,Nat.le_trans (Nat.le_trans h6 hn) hb.size⟩
 ·obtain ⟨tp,p,e⟩:=h.bad
  exact ⟨tp,p,(hb.cell (p:=⟨2,0,none⟩) (show 2 < n0 by omega)).trans e⟩
 ·obtain ⟨tp,p,e⟩:=h.big
  exact ⟨tp,p,(hb.cell (p:=⟨3,0,none⟩) (show 3 < n0 by omega)).trans e⟩
 ·obtain ⟨t,fr,e⟩:=h.mark
  exact ⟨t,fr,(hb.block 0 (show 0 < n0 by omega)).trans e⟩
theorem Sees.later {n0 Bn r:Nat} {s:ByteArray} {w w1 w2:World} (h:Sees n0 Bn r s w) (hb:Below w.heap.size w w1) (h6:6≤n0) (hk:Below n0 w1 w2) (hw:KeepsWalks w1 w2) (hc:w2.heap[Bn]?=w1.heap[Bn]?):Sees n0 Bn r s w2:=by
 have hrl:r < w.heap.size:=(Array.getElem?_eq_some_iff.1 h.map).1
 have hs:=h.size
 have hz:=hb.size
 refine ⟨?_,?_,?_,?_⟩
 ·rw [World.cell?_of_block (w:=w1) (w':=w2) (a:=⟨Bn,0,none⟩) hc,hb.cell (p:=⟨Bn,0,none⟩) (World.block_lt_of_cell? w _ h.src)];exact h.src
 ·exact hw.same r _ ((hb.block r hrl).trans h.map) rfl
 ·exact (h.env.below hb).low h6 (by omega) hk
 ·exact Nat.le_trans (Nat.le_trans hs hz) hk.size
set_option maxRecDepth 20000 in
set_option maxHeartbeats 1000000 in
theorem iter_in (n l0 Bn n0:Nat) (s:ByteArray) (hs:s.size≤8000) (hn:1≤n) (h60:6≤n0) (J Jx:List (Tok × Nat × Nat)→World→Prop)
  (hY:∀ pre x W,J pre W→pre.length < (items s.data.toList).length→YieldAt Fence.wide (n - 1) Tryz.prog l0 (itemV x) W fun e W' =>
   (e=.returned (.bool true)∧J (pre ++ [x]) W'∧Below n0 W W'∧KeepsWalks W W'∧W'.heap[Bn]?=W.heap[Bn]?)∨(e=.returned (.bool false)∧Jx (pre ++ [x]) W'))
  (W:World) (hJ:AbidesFrom W.heap.size J) (hsrc:W.cell? ⟨Bn,0,none⟩=some (.string s)) (hE:Env W) (hn0:n0≤W.heap.size) (h0:J [] W) :
  CallsIn Fence.wide n Tryz.prog 24 #[.func (.yield l0) #[] #[],.pointer (some ⟨Bn,0,none⟩)] W fun e W'=>(∃ v,e=.returned v) ∧
   ((∃ ys,ys=items s.data.toList∧J ys W')∨(∃ pre,pre <+: items s.data.toList∧Jx pre W')):=by
 have hms:s.size≤maxLen:=by unfold maxLen;omega
 have HY:=hid hY
 have HJ:=hid hJ
 clear hY hJ
 refine callsIn_of_wp Tryz.func24 rfl trivial ?_ rfl
 simp only [Tryz.ntmps24,List.size_toArray,List.length_cons,List.length_nil,Nat.reduceAdd,Nat.reduceSub,Array.replicate_succ,Array.replicate_zero,List.push_toArray,List.append_toArray,List.nil_append,List.cons_append]
 refine wpIn_wide.2 (wp_scope_straight ((wpIn_wide (n:=n)).1 ?_))
 gi_wp2_with (refine ⟨trivial,?_⟩;gi_at_call 25;refine (callsIn_wide.2 (clayWords_any _)).mono ?_;rintro e w' ⟨rfl,rfl⟩)
 refine wpIn_wide.2 (wp_label ?_)
 have hr0:(W.alloc (.map (wordE 17) 17)).heap[W.heap.size]?=some (.map (wordE 17) 17):=heap_alloc_new W _
 have hb0:Below W.heap.size W (W.alloc (.map (wordE 17) 17)):=(Below.refl _ _).alloc (Nat.le_refl _) _
 have SEE0:Hid (Sees n0 Bn W.heap.size s (W.alloc (.map (wordE 17) 17))):=⟨(hb0.cell (p:=⟨Bn,0,none⟩) (World.block_lt_of_cell? W _ hsrc)).trans hsrc,hr0,hE.below hb0,by simp;omega⟩
 have HJ0:Hid (J [] (W.alloc (.map (wordE 17) 17))):=HJ.out [] W _ none h0 (World.grownBy_alloc W _ none) (fun r e=>by cases e)
 clear hr0 hb0 hsrc hE h0
 generalize hr:W.heap.size=r at *
 gi_wp2
 gi_loopw [4] (fun i wr=>∃ (q f:Nat) (pre:List (Tok × Nat × Nat)),i=.int .i64 q∧q≤s.size∧s.size - q < f∧Sees n0 Bn r s wr∧J pre wr∧itemsRest s.data.toList f (q+gapN false (s.data.toList.drop q)) pre) (fun i _=>s.size - (intOf i).toNat)
 case atStart=>exact ⟨0,s.size+1,[],rfl,Nat.zero_le _,by omega,SEE0.out,HJ0.out,by
  unfold itemsRest items;rw [len_size];simp⟩
 case round =>
  obtain ⟨q,f,pre,rfl,hq,hf,hsee,hjs,hrest⟩:=hrel
  have SEE:=hid hsee
  have HJS:=hid hjs
  have HREST:=hid hrest
  have hsrc:=hsee.src
  clear hsee hjs hrest
  by_cases hlt:q < s.size
  ·obtain ⟨f,rfl⟩:∃ f',f=f'+1:=⟨f - 1,by omega⟩
   generalize hP:q+gapN false (s.data.toList.drop q)=P at *
   have HP:=hid hP
   clear hP
   gi_wp2_with (first
    | (refine ⟨trivial,?_⟩;gi_at_call 26;refine (callsIn_wide.2 (gap_any _ _ (by simp;omega))).mono ?_;rintro e w' ⟨rfl,hw⟩;have hw2:=hw.symm;clear hw;subst hw2;rw [extract_end]))
   gi_loop [4,5] (fun i g=>∃ m:Nat,i=.int .i64 m∧g=.int .i64 (gap1 (s.data.toList.drop m))∧q≤m∧m < s.size∧m+gapN false (s.data.toList.drop m)=P) (fun i _=>s.size - (intOf i).toNat)
   case atStart=>exact ⟨q,rfl,rfl,Nat.le_refl _,hlt,HP.out⟩
   case round =>
    obtain ⟨m,rfl,rfl,hqm,hm,hmp⟩:=hrel
    have HMP:=hid hmp
    clear hmp
    have hgl:=gap1_le (s.data.toList.drop m)
    rw [List.length_drop,len_size] at hgl
    have HG1:=hid (gapN_gap1 (s.data.toList.drop m))
    by_cases hg:gap1 (s.data.toList.drop m)=0
    ·have hPm:P=m:=by
      have h1:=HMP.out
      have h2:=HG1.out
      rw [hg,if_pos rfl] at h2;omega
     subst hPm
     have hg':((gap1 (s.data.toList.drop P):Nat):Int)=0:=by omega
     have HGZ:=hid hg
     rw [hg]
     clear hg HG1 hgl HMP hg'
     have hm':P < s.data.toList.length:=by rw [len_size];exact hm
     generalize hO:one (s.data.toList.drop P)=O
     have HO:Hid (one (s.extract P s.size).data.toList=O):=by show _=_;rw [extract_end];exact hO
     have HOS:=hid hO
     clear hO
     by_cases hc:O.code=0
     ·have HV:Hid (oneV O 0=.tuple #[.agg #[.int .i64 O.kind,.string ⟨O.text.toArray⟩,.int .i64 O.n,.int .i64 0],.int .i64 O.size,.int .i64 0]):=by show _=_;unfold oneV;rw [if_pos hc];simp
      have hs1:=one_size (s.data.toList.drop P) (by rw [HOS.out];exact hc)
      rw [HOS.out,List.length_drop,len_size] at hs1
      obtain ⟨hs1,hs2⟩:=hs1
      have NEXT:=hid (itemsRest_go HREST.out hm' (by rw [HOS.out];exact hc))
      rw [HOS.out] at NEXT
      clear hc
      have HLEN:=hid (items_lt NEXT.out)
      gi_wp2_with (first
       | (refine ⟨trivial,?_⟩;gi_at_call 27;refine (callsIn_wide.2 (readTok_any _ r _ (by simp;omega) (by simp;omega) SEE.out.map SEE.out.env)).mono ?_;rintro e w1 ⟨rfl,hb⟩;rw [HO.out,HV.out];have HB:=hid (hb.alloc hb.size (.cells #[.int .i64 O.kind,.string ⟨O.text.toArray⟩,.int .i64 O.n,.int .i64 P] 30));clear hb;obtain ⟨fn,tmps,assign,body,hy,hR⟩:=HY.out pre (⟨O.kind,O.text,O.n,P⟩,0,0) _ (HJ.out pre wr _ none HJS.out (below_grown HB.out) (fun r e=>by cases e)) HLEN.out;have hy2:=yield_form0 hy;clear hy;have HRR:=hid hR;clear hR))
      refine HRR.out.mono ?_
      rintro e W3 (⟨rfl,hJ3,hk3,hw3,hc3⟩ | ⟨rfl,hJx3⟩)
      ·have SEE3:=hid (SEE.out.later HB.out h60 hk3 hw3 hc3)
       have HJ3:=hid hJ3
       clear hJ3 hk3 hw3 hc3
       gi_wp2
       go_roundw
       case rel=>exact ⟨P+O.size,f,_,by go_num,by omega,by omega,SEE3.out,HJ3.out,NEXT.out⟩
       case measure=>simp [intOf];omega
      ·have HJX:=hid hJx3
       clear hJx3
       gi_wp2
       rw [Exit.noGoto_ret]
       refine bodyPost_ret (results_none rfl _ _ _) rfl ?_
       exact ⟨⟨_,rfl⟩,.inr ⟨_,⟨_,(NEXT.out:_=_).symm⟩,HJX.out⟩⟩
     ·have HV:Hid (oneV O 0=.tuple #[.agg #[.int .i64 0,.string ⟨#[]⟩,.int .i64 0,.int .i64 0],.int .i64 0,.int .i64 O.code]):=if_neg hc
      have HIT:=hid (itemsRest_bad HREST.out hm' (by rw [HOS.out];exact hc))
      rw [HOS.out] at HIT
      have HLEN:Hid (pre.length < (items s.data.toList).length):=by show _ < _;rw [HIT.out];simp
      have hc':((O.code:Int) != 0)=true:=by simp;omega
      clear hc
      gi_wp2_with (first
       | (refine ⟨trivial,?_⟩;gi_at_call 27;refine (callsIn_wide.2 (readTok_any _ r _ (by simp;omega) (by simp;omega) SEE.out.map SEE.out.env)).mono ?_;rintro e w1 ⟨rfl,hb⟩;rw [HO.out,HV.out];have HB:=hid (hb.alloc hb.size (.cells #[.int .i64 0,.string ⟨#[]⟩,.int .i64 0,.int .i64 0] 30));clear hb;obtain ⟨fn,tmps,assign,body,hy,hR⟩:=HY.out pre (zeroTok,O.code,P) _ (HJ.out pre wr _ none HJS.out (below_grown HB.out) (fun r e=>by cases e)) HLEN.out;have hy2:=yield_formZ hy;clear hy;have HRR:=hid hR;clear hR))
      refine HRR.out.mono ?_
      rintro e W3 (⟨rfl,hJ3,hk3,hw3,hc3⟩ | ⟨rfl,hJx3⟩)
      ·have HJ3:=hid hJ3
       clear hJ3 hk3 hw3 hc3
       gi_wp2
       rw [Exit.noGoto_ret]
       refine bodyPost_ret (results_none rfl _ _ _) rfl ?_
       exact ⟨⟨_,rfl⟩,.inl ⟨_,HIT.out.symm,HJ3.out⟩⟩
      ·have HJX:=hid hJx3
       clear hJx3
       gi_wp2
       rw [Exit.noGoto_ret]
       refine bodyPost_ret (results_none rfl _ _ _) rfl ?_
       exact ⟨⟨_,rfl⟩,.inr ⟨_,by rw [HIT.out];exact List.prefix_refl _,HJX.out⟩⟩
    ·have hg':0 < (gap1 (s.data.toList.drop m):Int):=by omega
     have HNX:Hid (m+gap1 (s.data.toList.drop m)+gapN false (s.data.toList.drop (m+gap1 (s.data.toList.drop m)))=P):=by
      have h1:=HMP.out
      have h2:=HG1.out
      rw [if_neg hg,List.drop_drop] at h2
      show _=_;omega
     have hgl2:=gap1_le (s.data.toList.drop (m+gap1 (s.data.toList.drop m)))
     rw [List.length_drop,len_size] at hgl2
     clear HG1 hg
     generalize hgv:gap1 (s.data.toList.drop m)=g at *
     have HGV:=hid hgv
     clear hgv
     by_cases he:m+g=s.size
     ·have he':((m:Int)+(g:Int) == s.size)=true:=by rw [beq_iff_eq];omega
      have HJE:Hid (J (items s.data.toList) wr):=by
       have hPe:s.data.toList.length≤P:=by have:=HNX.out;rw [len_size];omega
       rw [itemsRest_end HREST.out hPe];exact HJS.out
      gi_wp2
      go_end0
      exact ⟨⟨_,rfl⟩,.inl HJE.out⟩
     ·have he':((m:Int)+(g:Int) == s.size)=false:=by rw [beq_eq_false_iff_ne];omega
      gi_wp2_with (first
       | (refine ⟨trivial,?_⟩;gi_at_call 26;refine (callsIn_wide.2 (gap_any _ _ (by simp;omega))).mono ?_;rintro e w' ⟨rfl,hw⟩;have hw2:=hw.symm;clear hw;subst hw2;rw [extract_end]))
      go_round
      case rel=>exact ⟨m+g,by go_num,rfl,by omega,by omega,HNX.out⟩
      case measure=>simp [intOf];omega
  ·have HE:=hid (itemsRest_end HREST.out (by rw [len_size];omega))
   gi_wp2
   rw [Exit.noGoto_normal]
   go_end0
   exact ⟨⟨_,rfl⟩,.inl ⟨pre,HE.out.symm,HJS.out⟩⟩
def Kp (n0 Bn:Nat) (A B:World):Prop:=Below n0 A B∧KeepsWalks A B∧B.heap[Bn]?=A.heap[Bn]?
theorem Kp.trans {n0 Bn:Nat} {A B C:World} (h:Kp n0 Bn A B) (k:Kp n0 Bn B C):Kp n0 Bn A C:=⟨h.1.trans k.1,h.2.1.trans k.2.1,k.2.2.trans h.2.2⟩
theorem Kp.book {n0 Bn:Nat} {w:World} (hn:n0≤w.heap.size) (hB:Bn < w.heap.size) (W:World) (l:Nat) (o o':Obj) (hl:w.heap.size≤l) (h:W.heap[l]?=some o) (h1:o.isCells=false) (h2:o.isWalk=false):Kp n0 Bn W (W.putObj l o') :=
 ⟨belowK_b hn W l o o' hl h h1 h2,walksK_b (w:=w) W l o o' hl h h1 h2,World.putObj_heap_other (fun e=>by omega)⟩
theorem iter_stops (n Bn n0:Nat) (s:ByteArray) (hs:s.size≤8000) (hn:1≤n) (h60:6≤n0) (w:World) (hsrc:w.cell? ⟨Bn,0,none⟩=some (.string s)) (hE:Env w) (hn0:n0≤w.heap.size) :
  SeqStopsK Fence.wide n Tryz.prog 24 #[.pointer (some ⟨Bn,0,none⟩)] itemV (Kp n0 Bn) (fun ys=>ys=items s.data.toList) (fun pre=>pre <+: items s.data.toList) (items s.data.toList).length w:=fun l J Jx W hW hJ _ hY h0 =>
 iter_in n l Bn n0 s hs hn h60 J Jx hY W hJ ((hW.cell (p:=⟨Bn,0,none⟩) (World.block_lt_of_cell? w _ hsrc)).trans hsrc) (hE.below hW) (Nat.le_trans hn0 hW.size) h0
set_option maxHeartbeats 400000 in
theorem clayTokens_any (s:ByteArray) (w:World) :
  Calls Tryz.prog 13 #[.string s] w fun e w'=>e=.returned (.func (.func 24) #[] #[.pointer (some ⟨w.heap.size,0,none⟩)])∧w'=w.alloc (.cells #[.string s] 9):=by
 go_enter Tryz.func13,Tryz.ntmps13
 go_wp2
 go_ret
 exact ⟨rfl,rfl⟩
end Go.Proofs.YtabbahpalemlhaaGreatDoor
namespace Go.Proofs.YtabbahpalemlhaaGreatDoor
open Go.RowKit Go.Shelf
attribute [local go_sem] Oper.semAt_some
theorem scanA_code (f:Nat) (l:List UInt8) (p:Nat) (ts:List Tok) (x:Nat × Nat) (h:scanA f l p=(ts,some x)):x.1≠0:=by
 induction f generalizing p ts with
 | zero=>simp [scanA] at h
 | succ f ih =>
  unfold scanA at h
  split at h
  ·simp at h
  ·split at h
   ·rename_i hc
    simp only [Prod.mk.injEq,Option.some.injEq] at h
    rw [← h.2];exact hc
   ·simp only [Prod.mk.injEq] at h
    exact ih _ _ (Prod.ext rfl h.2)
theorem scanA_len (f:Nat) (l:List UInt8) (p:Nat):(itemsOf (scanA f l p)).length≤l.length - p+1:=by
 induction f generalizing p with
 | zero=>simp [scanA,itemsOf]
 | succ f ih =>
  by_cases h:p < l.length
  ·by_cases hc:(one (l.drop p)).code=0
   ·rw [scanA_go f l p h hc,itemsOf_cons,List.length_cons]
    have h1:=one_size _ hc
    have h2:=ih (p+(one (l.drop p)).size+gapN false (l.drop (p+(one (l.drop p)).size)))
    omega
   ·rw [scanA_bad f l p h hc];simp [itemsOf]
  ·rw [scanA_end _ l p (by omega)];simp [itemsOf]
theorem items_len (l:List UInt8):(items l).length≤l.length+1:=by
 have:=scanA_len (l.length+1) l (gapN false l)
 unfold items;omega
theorem items_done (l:List UInt8) (hl:l.length≤8000) (h:∀ y ∈ items l,y.2.1=0):scanR l=((items l).map (·.1),0,0):=by
 unfold items at *
 unfold scanR
 rw [if_neg (by omega)]
 rcases hr:scanA (l.length+1) l (gapN false l) with ⟨ts,o⟩
 cases o with
 | none=>simp [itemsOf,Function.comp_def]
 | some x =>
  exfalso
  rw [hr] at h
  exact scanA_code _ _ _ _ _ hr (h (zeroTok,x) (by simp [itemsOf]))
theorem items_stop (l:List UInt8) (hl:l.length≤8000) (y:Tok × Nat × Nat) (hy:y ∈ items l) (hc:y.2.1≠0):scanR l=([],y.2.1,y.2.2):=by
 unfold items at *
 unfold scanR
 rw [if_neg (by omega)]
 rcases hr:scanA (l.length+1) l (gapN false l) with ⟨ts,o⟩
 rw [hr] at hy
 cases o with
 | none =>
  exfalso
  simp only [itemsOf,List.mem_map] at hy
  obtain ⟨t,_,rfl⟩:=hy
  exact hc rfl
 | some x =>
  simp only [itemsOf,List.mem_append,List.mem_map,List.mem_singleton] at hy
  rcases hy with ⟨t,_,rfl⟩ | rfl
  ·exact absurd rfl hc
  ·rfl
set_option maxHeartbeats 1000000 in
theorem iScan_long (s:ByteArray) (w:World) (hs:s.size≤maxLen) (hl:8000 < s.size) :
  Calls Tryz.prog 5 #[.string s] w fun e w'=>∃ v,e=.returned (.tuple #[v,.agg #[.int .i64 1,.int .i64 0]])∧w'.ownsRow w.heap.size 30 4 v 0 []∧Below w.heap.size w w':=by
 unfold maxLen at hs
 go_enter Tryz.func5,Tryz.ntmps5
 go_wp2
 refine bodyPost_ret (v:=.tuple #[.slice none 0 0,.agg #[.int .i64 1,.int .i64 0]]) (by simp [results,Tryz.results5,go_sem]) rfl ⟨_,rfl,World.ownsRow_nil _ _ _ _,?_⟩
 exact ((Below.refl w.heap.size w).alloc (Nat.le_refl _) _).alloc (by simp) _
structure Mid (B:Nat) (w:World) (ts:List Tok) (W:World):Prop where
 r0:W.heap[B]?=some (.cells #[.slice none 0 0] 24 (0,0))
 r1:W.heap[B+1]?=some (.cells #[.int .i64 0,.int .i64 0] 26 (0,0))
 box:∃ v,W.heap[B+2]?=some (.cells #[v] 24 (0,0))∧W.ownsRow (B+4) 30 4 v ts.length (tokRow ts)
 below:Below B w W
 size:B+4≤W.heap.size
structure Out (B:Nat) (w:World) (x:Nat × Nat) (W:World):Prop where
 r0:W.heap[B]?=some (.cells #[.slice none 0 0] 24 (0,0))
 r1:W.heap[B+1]?=some (.cells #[.int .i64 x.1,.int .i64 x.2] 26 (0,0))
 below:Below B w W
theorem kept_block {W W':World} {row:Option Nat} {k:Nat} {o:Obj} (hg:W.grownBy W' row) (hr:∀ r,row=some r→∃ o:Obj,W.heap[r]?=some o∧o.isCells=false) (h:W.heap[k]?=some o) (ho:o.isCells=true):W'.heap[k]?=some o :=
 (hg.block k (Array.getElem?_eq_some_iff.1 h).1 (fun e=>by obtain ⟨o',h1,h2⟩:=hr k e.symm;rw [h] at h1;cases h1;rw [ho] at h2;cases h2)).trans h
theorem kept_row {W W':World} {row:Option Nat} {B e size k:Nat} {v:Value} {xs:List Value} (hg:W.grownBy W' row) (hr:∀ r,row=some r→∃ o:Obj,W.heap[r]?=some o∧o.isCells=false) (h:W.ownsRow B e size v k xs):W'.ownsRow B e size v k xs:=by
 obtain ⟨h1,h2 | ⟨g,cap,cur,a,b,c,d⟩⟩:=h
 ·exact ⟨h1,.inl h2⟩
 ·exact ⟨h1,.inr ⟨g,cap,cur,a,b,kept_block hg hr c rfl,d⟩⟩
theorem kept_below {w W W':World} {row:Option Nat} {B:Nat} (h:Below B w W) (hB:B≤w.heap.size) (hg:W.grownBy W' row) (hr:∀ r,row=some r→B≤r):Below B w W' :=
 h.grown hg (Nat.le_trans hB h.size) hr
theorem Mid.own (B:Nat) (w:World) (hB:B≤w.heap.size):OwnFrom (B+4) (fun ts W=>Mid B w ts W):=fun ts W W' row hs hg hr=>by
 have hr2:=fun r e=>(hr r e).2
 obtain ⟨v,hv,ho⟩:=hs.box
 exact ⟨kept_block hg hr2 hs.r0 rfl,kept_block hg hr2 hs.r1 rfl,⟨v,kept_block hg hr2 hv rfl,kept_row hg hr2 ho⟩,kept_below hs.below hB hg (fun r e=>by have:=(hr r e).1;omega),Nat.le_trans hs.size hg.size⟩
theorem Out.own (B:Nat) (w:World) (hB:B≤w.heap.size):OwnFrom (B+4) (fun x W=>Out B w x W):=fun x W W' row hs hg hr=>by
 have hr2:=fun r e=>(hr r e).2
 exact ⟨kept_block hg hr2 hs.r0 rfl,kept_block hg hr2 hs.r1 rfl,kept_below hs.below hB hg (fun r e=>by have:=(hr r e).1;omega)⟩
theorem cell_heap {W:World} {k:Nat} {cs:Array Value} {t:TypeId} (h:W.heap[k]?=some (.cells cs t (0,0))) (i:Nat):W.cell? ⟨k,i,none⟩=cs[i]?:=cell_of_row W k i cs t (0,0) h
theorem frozen_heap {W:World} {k:Nat} {cs:Array Value} {t:TypeId} (h:W.heap[k]?=some (.cells cs t (0,0))) (i:Nat):W.frozen? ⟨k,i,none⟩=false:=by
 simp [World.frozen?,h]
theorem set_heap {W:World} {k i:Nat} {cs:Array Value} {t:TypeId} (h:W.heap[k]?=some (.cells cs t (0,0))) (v:Value):(W.setCell ⟨k,i,none⟩ v).heap[k]?=some (.cells (cs.setIfInBounds i v) t (0,0)) :=
 heap_setCell_same W k i cs t v h
theorem out_set {B:Nat} {w W:World} {ts:List Tok} (hm:Mid B w ts W) (x:Nat × Nat) :
  KeepsOthers W (((W.setCell ⟨B,0,none⟩ (.slice none 0 0)).setCell ⟨B+1,0,none⟩ (.int .i64 x.1)).setCell ⟨B+1,1,none⟩ (.int .i64 x.2)).drew ∧
  Out B w x (((W.setCell ⟨B,0,none⟩ (.slice none 0 0)).setCell ⟨B+1,0,none⟩ (.int .i64 x.1)).setCell ⟨B+1,1,none⟩ (.int .i64 x.2)).drew:=by
 refine ⟨(((KeepsOthers.setCell _ _ _).trans (KeepsOthers.setCell _ _ _)).trans (KeepsOthers.setCell _ _ _)).trans (KeepsOthers.drew _),⟨?_,?_,?_⟩⟩
 ·show (((W.setCell ⟨B,0,none⟩ (.slice none 0 0)).setCell ⟨B+1,0,none⟩ (.int .i64 x.1)).setCell ⟨B+1,1,none⟩ (.int .i64 x.2)).heap[B]?=_
  rw [Below.heap_setCell _ _ _ _ (show B≠B+1 by omega),Below.heap_setCell _ _ _ _ (show B≠B+1 by omega)]
  exact set_heap hm.r0 _
 ·show (((W.setCell ⟨B,0,none⟩ (.slice none 0 0)).setCell ⟨B+1,0,none⟩ (.int .i64 x.1)).setCell ⟨B+1,1,none⟩ (.int .i64 x.2)).heap[B+1]?=_
  have h0:(W.setCell ⟨B,0,none⟩ (.slice none 0 0)).heap[B+1]?=some (.cells #[.int .i64 0,.int .i64 0] 26 (0,0)):=by
   rw [Below.heap_setCell _ _ _ _ (show B+1≠B by omega)];exact hm.r1
  exact set_heap (set_heap h0 _) _
 ·exact (((hm.below.setCell (p:=⟨B,0,none⟩) (Nat.le_refl _) _).setCell (p:=⟨B+1,0,none⟩) (Nat.le_succ _) _).setCell (p:=⟨B+1,1,none⟩) (Nat.le_succ _) _).drew
theorem mid_app {B:Nat} {w W w1:World} {ts:List Tok} {t:Tok} {v v':Value} {X:Obj} (hm:Mid B w ts W) (hv:W.heap[B+2]?=some (.cells #[v] 24 (0,0))) (ho:W.ownsRow (B+4) 30 4 v ts.length (tokRow ts))
  (hown':w1.ownsRow (B+4) 30 4 v' (ts.length+1) (tokRow ts ++ tokCells t)) (hgrow:(W.alloc X).grownBy w1 v.ownBlock) :
  w1.heap[B+2]?=some (.cells #[v] 24 (0,0))∧KeepsOthers W (w1.setCell ⟨B+2,0,none⟩ v')∧Kp B (B+3) W (w1.setCell ⟨B+2,0,none⟩ v')∧Mid B w (ts ++ [t]) (w1.setCell ⟨B+2,0,none⟩ v'):=by
 have hs:=hm.size
 have hlow:∀ k,k < B+4→w1.heap[k]?=W.heap[k]?:=fun k hk =>
  (hgrow.block k (by simp;omega) (fun e=>by have:=(ho.lt k e.symm).1;omega)).trans (Below.heap_alloc W X k (by omega))
 have hset:∀ k,k≠B+2→(w1.setCell ⟨B+2,0,none⟩ v').heap[k]?=w1.heap[k]?:=fun k hk=>Below.heap_setCell w1 ⟨B+2,0,none⟩ v' k hk
 have hbox1:Boxed w1 (B+2) 24 v:=(hlow (B+2) (by omega)).trans hv
 have hko:KeepsOthers W (w1.setCell ⟨B+2,0,none⟩ v'):=by
  refine ((KeepsOthers.alloc W X).trans (KeepsOthers.of_grownBy hgrow fun j o ej hj=>?_)).trans (KeepsOthers.setCell _ _ _)
  rcases (ho.alloc X).2 with ⟨rfl,_⟩ | ⟨g,cap,cur,rfl,_,hgb,_⟩
  ·simp [Value.ownBlock] at ej
  ·obtain rfl:g=j:=by simpa [Value.ownBlock] using ej
   rw [hgb] at hj;cases hj;rfl
 have hbW:Below B W (w1.setCell ⟨B+2,0,none⟩ v') :=
  (((Below.refl B W).alloc (by omega) X).grown hgrow (by simp;omega) fun j ej=>by have:=(ho.lt j ej).1;omega).setCell (p:=⟨B+2,0,none⟩) (by show B≤B+2;omega) v'
 refine ⟨hbox1,hko,⟨hbW,hko.walks,?_⟩,⟨?_,?_,⟨v',hbox1.set v',?_⟩,hm.below.trans hbW,Nat.le_trans hs hbW.size⟩⟩
 ·rw [hset _ (by omega),hlow _ (by omega)]
 ·rw [hset _ (by omega),hlow _ (by omega)];exact hm.r0
 ·rw [hset _ (by omega),hlow _ (by omega)];exact hm.r1
 ·rw [tokRow_snoc,List.length_append]
  exact ownsRow_setCell_below hown' (a:=⟨B+2,0,none⟩) (show B+2 < B+4 by omega) _
theorem fin_cells {W1:World} {B D:Nat} {v a b:Value} {t u:TypeId} (h0:W1.heap[B]?=some (.cells #[v] t (0,0))) (h1:W1.heap[B+1]?=some (.cells #[a,b] u (0,0))) (hD:B+4≤D) (o:Obj) :
  (W1.putObj D o).cell? ⟨B,0,none⟩=some v∧(W1.putObj D o).cell? ⟨B+1,0,none⟩=some a∧(W1.putObj D o).cell? ⟨B+1,1,none⟩=some b:=by
 have e0:(W1.putObj D o).heap[B]?=some (.cells #[v] t (0,0)):=(World.putObj_heap_other (fun e=>by omega)).trans h0
 have e1:(W1.putObj D o).heap[B+1]?=some (.cells #[a,b] u (0,0)):=(World.putObj_heap_other (fun e=>by omega)).trans h1
 exact ⟨cell_heap e0 0,cell_heap e1 0,cell_heap e1 1⟩
set_option maxRecDepth 20000 in
set_option maxHeartbeats 1000000 in
theorem iScan_in (n:Nat) (hn:4≤n) (s:ByteArray) (w:World) (hl:s.size≤8000) (hE:Env w) :
  CallsIn Fence.wide n Tryz.prog 5 #[.string s] w fun e w'=>∃ v,e=.returned (.tuple #[v,.agg #[.int .i64 (scanR s.data.toList).2.1,.int .i64 (scanR s.data.toList).2.2]]) ∧
   w'.ownsRow w.heap.size 30 4 v (scanR s.data.toList).1.length (tokRow (scanR s.data.toList).1)∧Below w.heap.size w w':=by
 have h1:1≤n:=by omega
 refine callsIn_of_wp_marks Tryz.func5 rfl trivial ?_ rfl
 simp only [Tryz.ntmps5,List.size_toArray,List.length_cons,List.length_nil,Nat.reduceAdd,Nat.reduceSub,Array.replicate_succ,Array.replicate_zero,List.push_toArray,List.append_toArray,List.nil_append,List.cons_append]
 gi_wp2_with (refine ⟨trivial,?_⟩;gi_at_call 13;refine (callsIn_wide.2 (clayTokens_any _ _)).mono ?_;rintro e w' ⟨rfl,rfl⟩)
 have hE4:Hid (Env ((((w.alloc (.cells #[.slice none 0 0] 24)).alloc (.cells #[.int .i64 0,.int .i64 0] 26)).alloc (.cells #[.slice none 0 0] 24)).alloc (.cells #[.string s] 9))) :=
  hE.below ((((((Below.refl _ w).alloc (Nat.le_refl _) _).alloc (by simp) _).alloc (by simp;omega) _).alloc (by simp;omega) _))
 have hsrc:Hid (((((w.alloc (.cells #[.slice none 0 0] 24)).alloc (.cells #[.int .i64 0,.int .i64 0] 26)).alloc (.cells #[.slice none 0 0] 24)).alloc (.cells #[.string s] 9)).cell? ⟨w.heap.size+1+1+1,0,none⟩=some (.string s)):=by
  have h:=cell_new_row (((w.alloc (.cells #[.slice none 0 0] 24)).alloc (.cells #[.int .i64 0,.int .i64 0] 26)).alloc (.cells #[.slice none 0 0] 24)) #[.string s] 9 0
  simp only [World.size_alloc] at h
  exact h
 have h6:6≤w.heap.size:=hE.size
 obtain ⟨i0,hi,hz0,hz1,hz2⟩:=info_parts info_tok
 have HHI:=hid (And.intro hi (And.intro hz0 (And.intro hz1 hz2)))
 clear hi hz0 hz1 hz2
 refine wpIn_rangeFunc_ownH rfl h1 (gf:=24) (lb:=#[.pointer (some ⟨w.heap.size+1+1+1,0,none⟩)]) rfl trivial (enters_of Tryz.func24 (by kernel_rfl) rfl)
  (iter_stops (n - 1) (w.heap.size+1+1+1) w.heap.size s hl (by omega) h6 _ hsrc.out hE4.out (by simp;omega)) Kp.trans (Kp.book (by simp;omega) (by simp)) (Below.refl _ _) (fun _=>rfl)
  (fun pre W=>(∀ y ∈ pre,y.2.1=0)∧Mid w.heap.size w (pre.map (·.1)) W)
  (fun c pre W=>c=.ret∧∃ x pre',pre=pre' ++ [x]∧x.2.1≠0∧Out w.heap.size w x.2 W)
  ?hI ?hIx ?h0
  (fun x a' W=>∃ Bx,w.heap.size+4≤Bx∧W.heap[Bx]?=some (.cells #[.int .i64 x.1.kind,.string ⟨x.1.text.toArray⟩,.int .i64 x.1.n,.int .i64 x.1.place] 30 (0,0))∧W.heap[Bx+1]?=some (.cells #[.int .i64 x.2.1,.int .i64 x.2.2] 26 (0,0)) ∧
   a'={ tmps:=#[.string s,undef,.pointer (some ⟨w.heap.size,0,none⟩),.pointer (some ⟨w.heap.size+1,0,none⟩),.pointer (some ⟨w.heap.size+1+1,0,none⟩),.pointer (some ⟨Bx,0,none⟩),.pointer (some ⟨Bx+1,0,none⟩),.string s,.int .i64 s.size,.bool (decide (8000 < (s.size:Int))),undef,.string s,.func (.func 24) #[] #[.pointer (some ⟨w.heap.size+1+1+1,0,none⟩)],.agg #[.int .i64 x.1.kind,.string ⟨x.1.text.toArray⟩,.int .i64 x.1.n,.int .i64 x.1.place],.agg #[.int .i64 x.2.1,.int .i64 x.2.2],undef,undef,undef,undef,undef,undef,undef,undef,undef,undef],defers:=[] })
  ?hAx ?assign ?body ?done ?stop
 case hI =>
  intro pre W W' row hs hg hr
  exact ⟨hs.1,Mid.own w.heap.size w (Nat.le_refl _) _ W W' row hs.2 hg (fun r e=>⟨by have:=(hr r e).1;simp at this;omega,(hr r e).2⟩)⟩
 case hIx =>
  rintro c pre W W' row ⟨hc,x,pre',hp,hx,ho⟩ hg hr
  exact ⟨hc,x,pre',hp,hx,Out.own w.heap.size w (Nat.le_refl _) _ W W' row ho hg (fun r e=>⟨by have:=(hr r e).1;simp at this;omega,(hr r e).2⟩)⟩
 case h0 =>
  refine ⟨fun y hy=>by simp at hy,⟨?_,?_,⟨.slice none 0 0,?_,World.ownsRow_nil _ _ _ _⟩,?_,by simp⟩⟩
  ·rw [Below.heap_alloc _ _ _ (by simp;omega),Below.heap_alloc _ _ _ (by simp;try omega),Below.heap_alloc _ _ _ (by simp)];exact heap_alloc_new w _
  ·rw [Below.heap_alloc _ _ _ (by simp),Below.heap_alloc _ _ _ (by simp)]
   have h:=heap_alloc_new (w.alloc (.cells #[.slice none 0 0] 24)) (.cells #[.int .i64 0,.int .i64 0] 26)
   rw [World.size_alloc] at h
   exact h
  ·rw [Below.heap_alloc _ _ _ (by simp)]
   have h:=heap_alloc_new ((w.alloc (.cells #[.slice none 0 0] 24)).alloc (.cells #[.int .i64 0,.int .i64 0] 26)) (.cells #[.slice none 0 0] 24)
   rw [World.size_alloc,World.size_alloc] at h
   exact h
  ·exact ((((Below.refl _ w).alloc (Nat.le_refl _) _).alloc (by simp) _).alloc (by simp;omega) _).alloc (by simp;omega) _
 case hAx =>
  rintro x a' _ W W' row ⟨Bx,hBx,h1,h2,e⟩ hg hr
  exact ⟨Bx,hBx,kept_block hg (fun r e=>(hr r e).2) h1 rfl,kept_block hg (fun r e=>(hr r e).2) h2 rfl,e⟩
 case assign =>
  rintro l pre x W K ⟨hz,hmid⟩ hK
  have hsz:=hmid.size
  simp only [itemV]
  gi_wp2
  have hko:=(KeepsOthers.alloc W (.cells #[.int .i64 x.1.kind,.string ⟨x.1.text.toArray⟩,.int .i64 x.1.n,.int .i64 x.1.place] 30)).trans (KeepsOthers.alloc _ (.cells #[.int .i64 x.2.1,.int .i64 x.2.2] 26))
  refine hK _ _ (hko.from _) ⟨((Below.refl _ W).alloc (by omega) _).alloc (by simp;omega) _,hko.walks,?_⟩ ⟨hz,?_⟩ ⟨W.heap.size,by omega,?_,?_,rfl⟩
  ·rw [Below.heap_alloc _ _ _ (by simp;omega),Below.heap_alloc _ _ _ (by omega)]
  ·exact (Mid.own w.heap.size w (Nat.le_refl _)).alloc _ ((Mid.own w.heap.size w (Nat.le_refl _)).alloc _ hmid)
  ·rw [Below.heap_alloc _ _ _ (by simp)];exact heap_alloc_new W _
  ·have h:=heap_alloc_new (W.alloc (.cells #[.int .i64 x.1.kind,.string ⟨x.1.text.toArray⟩,.int .i64 x.1.n,.int .i64 x.1.place] 30)) (.cells #[.int .i64 x.2.1,.int .i64 x.2.2] 26)
   rw [World.size_alloc] at h
   exact h
 case body =>
  rintro l pre x a' W hlN ⟨r,hr⟩ ⟨hz,hmid⟩ ⟨Bx,hBx,hx0,hx1,rfl⟩ hlt
  have c0:W.cell? ⟨Bx,0,none⟩=some (.int .i64 x.1.kind):=cell_heap hx0 0
  have c1:W.cell? ⟨Bx,1,none⟩=some (.string ⟨x.1.text.toArray⟩):=cell_heap hx0 1
  have c2:W.cell? ⟨Bx,2,none⟩=some (.int .i64 x.1.n):=cell_heap hx0 2
  have c3:W.cell? ⟨Bx,3,none⟩=some (.int .i64 x.1.place):=cell_heap hx0 3
  have d0:W.cell? ⟨Bx+1,0,none⟩=some (.int .i64 x.2.1):=cell_heap hx1 0
  have d1:W.cell? ⟨Bx+1,1,none⟩=some (.int .i64 x.2.2):=cell_heap hx1 1
  have HMID:=hid hmid
  have hsz:=hmid.size
  obtain ⟨v,hv,hown⟩:=hmid.box
  have e0:W.cell? ⟨w.heap.size+1+1,0,none⟩=some v:=cell_heap hv 0
  have HV:=hid hv
  have OWN:=hid hown
  clear hmid hown hv hr
  by_cases hx:x.2.1=0
  ·have hx':((x.2.1:Int) != 0)=false:=by simp;omega
   have HX:=hid hx
   clear hx hx0 hx1
   have hpl:=items_len s.data.toList
   rw [len_size] at hpl
   gi_wp2_with (gi_at_builtin;refine wpListIn_append_own _ rfl (.tmp 19) (.tmp 21) 24 rfl (w.heap.size+4) 30 i0 (.agg #[.int .i64 0,.string ⟨#[]⟩,.int .i64 0,.int .i64 0]) 4 40 Tryz.underlying24 HHI.out.1 HHI.out.2.1 HHI.out.2.2.1 HHI.out.2.2.2 rfl (by decide) _ _ _ rfl (OWN.out.alloc _) ⟨W.heap.size,0,none⟩ 1 1 [.int .i64 x.1.kind,.string ⟨x.1.text.toArray⟩,.int .i64 x.1.n,.int .i64 x.1.place] rfl rfl (cell_four_new _ _ _ _ _ _) (by simp [Value.oneCell']) (by unfold maxLen;rw [List.length_map];omega) (by rw [List.length_map];omega) (by simp;omega) ?_;intro v' w1 hown' hgrow _;obtain ⟨g',cap',hv'⟩:=ownsRow_succ hown';subst hv';have HAP:=hid (mid_app (t:=x.1) HMID.out HV.out OWN.out hown' hgrow);have e1:w1.cell? ⟨w.heap.size+1+1,0,none⟩=some v:=cell_heap HAP.out.1 0;have e2:w1.frozen? ⟨w.heap.size+1+1,0,none⟩=false:=frozen_heap HAP.out.1 0;clear hown' hgrow)
   have HA:=HAP.out
   rw [List.length_map] at HA
   refine ⟨HA.2.1.from _,HA.2.2.1,fun y hy=>?_,?_⟩
   ·rcases List.mem_append.1 hy with h | h
    ·exact hz y h
    ·rw [List.mem_singleton] at h;rw [h];exact HX.out
   ·rw [List.map_append];exact HA.2.2.2
  ·have hx':((x.2.1:Int) != 0)=true:=by simp;omega
   have HX:=hid hx
   have r0:W.cell? ⟨w.heap.size,0,none⟩=some (.slice none 0 0):=cell_heap HMID.out.r0 0
   have r1:W.cell? ⟨w.heap.size+1,0,none⟩=some (.int .i64 0):=cell_heap HMID.out.r1 0
   have r2:W.cell? ⟨w.heap.size+1,1,none⟩=some (.int .i64 0):=cell_heap HMID.out.r1 1
   have r3:W.frozen? ⟨w.heap.size,0,none⟩=false:=frozen_heap HMID.out.r0 0
   have r4:W.frozen? ⟨w.heap.size+1,0,none⟩=false:=frozen_heap HMID.out.r1 0
   have r5:W.frozen? ⟨w.heap.size+1,1,none⟩=false:=frozen_heap HMID.out.r1 1
   have hne1:¬ Bx+1=w.heap.size:=by omega
   have hne2:¬ Bx+1=w.heap.size+1:=by omega
   clear hx hx0 hx1
   gi_wp2
   have hmix:Tryz.prog.follows .mixedOrders=true:=by kernel_rfl
   gi_region_with_o (fail)
   all_goals gi_wp2
   all_goals exact ⟨(out_set HMID.out x.2).1.from _,rfl,x,pre,rfl,HX.out,(out_set HMID.out x.2).2⟩
 case done =>
  rintro D ys W hD rfl ⟨hz,hmid⟩ hK
  have HR:=hid (items_done s.data.toList (by rw [len_size];exact hl) hz)
  obtain ⟨v,hv,hown⟩:=hmid.box
  have e0:W.cell? ⟨w.heap.size+1+1,0,none⟩=some v:=cell_heap hv 0
  have r0:W.cell? ⟨w.heap.size,0,none⟩=some (.slice none 0 0):=cell_heap hmid.r0 0
  have r1:W.cell? ⟨w.heap.size+1,0,none⟩=some (.int .i64 0):=cell_heap hmid.r1 0
  have r2:W.cell? ⟨w.heap.size+1,1,none⟩=some (.int .i64 0):=cell_heap hmid.r1 1
  have r3:W.frozen? ⟨w.heap.size,0,none⟩=false:=frozen_heap hmid.r0 0
  have r4:W.frozen? ⟨w.heap.size+1,0,none⟩=false:=frozen_heap hmid.r1 0
  have r5:W.frozen? ⟨w.heap.size+1,1,none⟩=false:=frozen_heap hmid.r1 1
  have HMID:=hid hmid
  have OWN:=hid hown
  have HK:=hid hK
  obtain ⟨ao,cap,hvs⟩:=own_slice hown
  subst hvs
  clear hmid hown hv hz hK
  gi_wp2
  have hD4:w.heap.size+4≤D:=by simp at hD;omega
  have hK2:(((W.setCell ⟨w.heap.size,0,none⟩ (.slice ao (items s.data.toList).length cap)).setCell ⟨w.heap.size+1,0,none⟩ (.int .i64 0)).setCell ⟨w.heap.size+1,1,none⟩ (.int .i64 0)).heap[D]?=some (.deferred (some [])):=by
   rw [Below.heap_setCell _ _ _ _ (show D≠w.heap.size+1 by omega),Below.heap_setCell _ _ _ _ (show D≠w.heap.size+1 by omega),Below.heap_setCell _ _ _ _ (show D≠w.heap.size by omega)];exact HK.out
  have f0:(((W.setCell ⟨w.heap.size,0,none⟩ (.slice ao (items s.data.toList).length cap)).setCell ⟨w.heap.size+1,0,none⟩ (.int .i64 0)).setCell ⟨w.heap.size+1,1,none⟩ (.int .i64 0)).heap[w.heap.size]?=some (.cells #[.slice ao (items s.data.toList).length cap] 24 (0,0)):=by
   rw [Below.heap_setCell _ _ _ _ (show w.heap.size≠w.heap.size+1 by omega),Below.heap_setCell _ _ _ _ (show w.heap.size≠w.heap.size+1 by omega)]
   exact set_heap HMID.out.r0 _
  have f1:(((W.setCell ⟨w.heap.size,0,none⟩ (.slice ao (items s.data.toList).length cap)).setCell ⟨w.heap.size+1,0,none⟩ (.int .i64 0)).setCell ⟨w.heap.size+1,1,none⟩ (.int .i64 0)).heap[w.heap.size+1]?=some (.cells #[.int .i64 0,.int .i64 0] 26 (0,0)):=by
   have h0:(W.setCell ⟨w.heap.size,0,none⟩ (.slice ao (items s.data.toList).length cap)).heap[w.heap.size+1]?=some (.cells #[.int .i64 0,.int .i64 0] 26 (0,0)):=by
    rw [Below.heap_setCell _ _ _ _ (show w.heap.size+1≠w.heap.size by omega)];exact HMID.out.r1
   exact set_heap (set_heap h0 _) _
  obtain ⟨q0,q1,q2⟩:=fin_cells f0 f1 hD4 (.deferred none)
  refine ⟨by simp,.inl ⟨_,_,rfl,run_takeDeferred hK2,?_⟩⟩
  refine ⟨.tuple #[.slice ao (items s.data.toList).length cap,.agg #[.int .i64 0,.int .i64 0]],by simp [results,Tryz.results5,go_sem,q0,q1,q2],_,by rw [HR.out];rfl,?_,?_⟩
  ·rw [HR.out]
   refine ownsRow_putObj ?_ _ hK2 rfl
   have ho:=OWN.out
   rw [List.length_map] at ho ⊢
   exact own_base (ownsRow_setCell_below (ownsRow_setCell_below (ownsRow_setCell_below ho (a:=⟨w.heap.size,0,none⟩) (show w.heap.size < w.heap.size+4 by omega) _) (a:=⟨w.heap.size+1,0,none⟩) (show w.heap.size+1 < w.heap.size+4 by omega) _) (a:=⟨w.heap.size+1,1,none⟩) (show w.heap.size+1 < w.heap.size+4 by omega) _) (by omega)
  ·refine Below.trans ?_ (belowK_b (w:=w) (Nat.le_refl _) _ D _ _ (by omega) hK2 rfl rfl)
   exact ((HMID.out.below.setCell (p:=⟨w.heap.size,0,none⟩) (Nat.le_refl _) _).setCell (p:=⟨w.heap.size+1,0,none⟩) (Nat.le_succ _) _).setCell (p:=⟨w.heap.size+1,1,none⟩) (Nat.le_succ _) _
 case stop =>
  rintro D c pre W hD hpre ⟨rfl,x,pre',rfl,hx,hout⟩ hK
  have HR:=hid (items_stop s.data.toList (by rw [len_size];exact hl) x (hpre.subset (by simp)) hx)
  have r0:W.cell? ⟨w.heap.size,0,none⟩=some (.slice none 0 0):=cell_heap hout.r0 0
  have r1:W.cell? ⟨w.heap.size+1,0,none⟩=some (.int .i64 x.2.1):=cell_heap hout.r1 0
  have r2:W.cell? ⟨w.heap.size+1,1,none⟩=some (.int .i64 x.2.2):=cell_heap hout.r1 1
  have HOUT:=hid hout
  have HK:=hid hK
  clear hout hpre hx hK
  gi_wp2
  have hD4:w.heap.size+4≤D:=by simp at hD;omega
  obtain ⟨q0,q1,q2⟩:=fin_cells HOUT.out.r0 HOUT.out.r1 hD4 (.deferred none)
  refine ⟨by simp,.inl ⟨_,_,rfl,run_takeDeferred HK.out,?_⟩⟩
  refine ⟨.tuple #[.slice none 0 0,.agg #[.int .i64 x.2.1,.int .i64 x.2.2]],by simp [results,Tryz.results5,go_sem,q0,q1,q2],_,by rw [HR.out],?_,?_⟩
  ·rw [HR.out];exact World.ownsRow_nil _ _ _ _
  ·exact HOUT.out.below.trans (belowK_b (w:=w) (Nat.le_refl _) _ D _ _ (by omega) HK.out rfl rfl)
theorem iScan_any (s:ByteArray) (w:World) (hl:s.size≤8000) (hE:Env w) :
  Calls Tryz.prog 5 #[.string s] w fun e w'=>∃ v,e=.returned (.tuple #[v,.agg #[.int .i64 (scanR s.data.toList).2.1,.int .i64 (scanR s.data.toList).2.2]]) ∧
   w'.ownsRow w.heap.size 30 4 v (scanR s.data.toList).1.length (tokRow (scanR s.data.toList).1)∧Below w.heap.size w w' :=
 callsIn_wide.1 (iScan_in 4 (Nat.le_refl _) s w hl hE)
end Go.Proofs.YtabbahpalemlhaaGreatDoor
namespace Go.Proofs.YtabbahpalemlhaaGreatDoor
open Go.RowKit
theorem l2Plain_any (x:Nd) (w:World) (ht:x.text.size≤maxLen) :
  Calls Tryz.prog 51 #[ndV x] w fun e w'=>Says e (PlainNd x)∧Below w.heap.size w w':=by
 obtain ⟨k,op,n,t,kids⟩:=x
 have h:Pl1 k:=by
  by_cases a:k=1∨k=2∨k=3∨k=4∨k=5∨k=6
  ·exact l2Plain_A k a
  ·by_cases b:k=7∨k=8∨k=9∨k=10∨k=11∨k=12
   ·exact l2Plain_B k b
   ·by_cases c:k=13∨k=14∨k=15∨k=16∨k=17∨k=18
    ·exact l2Plain_C k c
    ·by_cases d:k=19∨k=20∨k=21∨k=22∨k=23∨k=24
     ·exact l2Plain_D k d
     ·exact l2Plain_E k (by omega)
 exact h op n kids t w ht
end Go.Proofs.YtabbahpalemlhaaGreatDoor
namespace Go.Proofs.YtabbahpalemlhaaGreatDoor.Tk
def wgt (o:List (List Nat)) (k:Nat):Nat:=4000 * (k+1 - low o k)
def wgts (o:List (List Nat)) (ks:List Nat):Nat:=(ks.map (wgt o)).sum
theorem wgts_cons (o:List (List Nat)) (k:Nat) (ks:List Nat):wgts o (k :: ks)=wgt o k+wgts o ks:=rfl
theorem wgts_nil (o:List (List Nat)):wgts o []=0:=rfl
theorem wgts_append (o:List (List Nat)) (a b:List Nat):wgts o (a ++ b)=wgts o a+wgts o b:=by simp [wgts]
theorem wgts_take_succ (o:List (List Nat)) (ks:List Nat) (q:Nat) (h:q < ks.length):wgts o (ks.take (q+1))=wgts o (ks.take q)+wgt o ks[q]:=by
 rw [List.take_succ_eq_append_getElem h,wgts_append,wgts_cons,wgts_nil];rfl
theorem wgts_take_le (o:List (List Nat)) (ks:List Nat) (q:Nat):wgts o (ks.take q)≤wgts o ks:=by
 have h:=wgts_append o (ks.take q) (ks.drop q)
 rw [List.take_append_drop] at h
 omega
theorem tile_wgt {o:List (List Nat)} {s:List Nat} {a b:Nat} (h:Tile o a s b):wgts o s=4000 * (b - a):=by
 induction s generalizing a with
 | nil =>
  have e:a=b:=h
  subst e
  simp [wgts]
 | cons x r ih =>
  have h1:=ih h.2.2
  have h2:=h.2.2.le
  have h3:=h.1
  have h4:=h.2.1
  rw [wgts_cons,h1]
  unfold wgt
  rw [h3]
  omega
structure Good (nd:Nat→Nd) (O:List (List Nat)) (N:Nat):Prop where
 hN:N≤5000
 kids:∃ s,kidsF nd N=some (O,s)
 fit:∀ i,i < N→FitAt nd O i
theorem Good.down {nd:Nat→Nd} {O:List (List Nat)} {N:Nat} (h:Good nd O N):Down O:=by
 obtain ⟨s,hs⟩:=h.kids
 exact down_of hs
theorem Good.sum {nd:Nat→Nd} {O:List (List Nat)} {N:Nat} (h:Good nd O N) {j:Nat} (hj:j < N):wgt O j=4000+wgts O (O.getD j [])∧wgt O j≤20000000:=by
 obtain ⟨s,hs⟩:=h.kids
 obtain ⟨_,_,_,h3⟩:=tile_all hs N (Nat.le_refl _)
 have h4:=h3 j hj
 have h5:=tile_wgt h4
 have h6:=h4.le
 have:=h.hN
 rw [h5]
 unfold wgt
 omega
theorem tile_len {o:List (List Nat)} {s:List Nat} {a b:Nat} (h:Tile o a s b):s.length≤b - a:=by
 induction s generalizing a with
 | nil=>exact Nat.zero_le _
 | cons x r ih =>
  have h1:=ih h.2.2
  have h2:=h.2.2.le
  have h4:=h.2.1
  rw [List.length_cons]
  omega
theorem Good.kl {nd:Nat→Nd} {O:List (List Nat)} {N:Nat} (h:Good nd O N) {j:Nat} (hj:j < N):(O.getD j []).length≤5000:=by
 obtain ⟨s,hs⟩:=h.kids
 obtain ⟨_,_,_,h3⟩:=tile_all hs N (Nat.le_refl _)
 have h4:=tile_len (h3 j hj)
 have:=h.hN
 omega
theorem plain_text {x:Nd} (h:PlainNd x):x.text.size≤1000:=by
 obtain ⟨h1,_,_,_,_,h6,_,_,h9,h10⟩:=h
 rcases h1 with h1 | h1
 ·by_cases h4:x.kind=4
  ·exact h6 (.inl h4)
  by_cases h17:x.kind=17
  ·exact h6 (.inr h17)
  by_cases h23:x.kind=23
  ·have:=(h9 h23).2.1;omega
  ·obtain ⟨_,h,_⟩:=h10 h1 h4 h17 h23
   omega
 ·rw [Lib.toList_data] at h1
  have:x.text.data.toList.length=0:=by rw [h1];rfl
  have e:x.text.size=x.text.data.toList.length:=by simp
  omega
theorem wgt_le {o:List (List Nat)} {ks:List Nat} {k:Nat} (h:k ∈ ks):wgt o k≤wgts o ks:=by
 induction ks with
 | nil=>cases h
 | cons x r ih =>
  rw [wgts_cons]
  rcases List.mem_cons.1 h with rfl | h
  ·omega
  ·have:=ih h;omega
end Go.Proofs.YtabbahpalemlhaaGreatDoor.Tk
namespace Go.Proofs.YtabbahpalemlhaaGreatDoor
open Go.RowKit
set_option maxRecDepth 20000
end Go.Proofs.YtabbahpalemlhaaGreatDoor
namespace Go.Proofs.YtabbahpalemlhaaGreatDoor
open Go.RowKit
theorem l2KidsOk_any (kind:Int) (b N cap g o m c:Nat) (nd:Nat→Nd) (ks:Nat→Nat) (w:World) (hm:m≤1000000) (hcm:m≤c) (hb:b < w.heap.size) (hg:g < w.heap.size) (hn:NodesAt w b N nd) (hk:PlacesAt w g o m N ks) :
  Calls Tryz.prog 52 #[.agg #[.slice (some ⟨b,0,none⟩) N cap],.int .i64 kind,.slice (some ⟨g,o,none⟩) m c] w fun e w'=>Says e (KidsOk kind m (fun i=>nd (ks i)))∧Below w.heap.size w w':=by
 by_cases h12:kind=12
 ·subst h12;exact KO_12 b N cap g o m c nd ks w hm hcm hb hg hn hk
 ·have h:KO kind:=by
   by_cases a:kind=1∨kind=6∨kind=16
   ·exact KO_A kind a
   ·by_cases b:kind=2∨kind=3∨kind=4∨kind=5∨kind=7∨kind=8
    ·exact KO_B kind b
    ·by_cases c:kind=10∨kind=11∨kind=13∨kind=14∨kind=17
     ·exact KO_C kind c
     ·by_cases d:kind=18∨kind=19∨kind=21∨kind=22
      ·exact KO_D kind d
      ·by_cases e9:kind=9
       ·subst e9;exact KO_9
       ·by_cases e15:kind=15
        ·subst e15;exact KO_15
        ·by_cases e20:kind=20
         ·subst e20;exact KO_20
         ·by_cases e23:kind=23
          ·subst e23;exact KO_23
          ·by_cases e24:kind=24
           ·subst e24;exact KO_24
           ·exact KO_E kind (by omega)
  exact h b N cap g o m c nd ks w hm hb hg hn hk
end Go.Proofs.YtabbahpalemlhaaGreatDoor
namespace Go.Proofs.YtabbahpalemlhaaGreatDoor
open Go.RowKit
set_option maxRecDepth 20000
end Go.Proofs.YtabbahpalemlhaaGreatDoor
namespace Go.Proofs.YtabbahpalemlhaaGreatDoor
open Go.RowKit
end Go.Proofs.YtabbahpalemlhaaGreatDoor
namespace Go.Proofs.YtabbahpalemlhaaGreatDoor
open Go.RowKit
set_option maxRecDepth 20000
theorem five_new {w w1:World} {a0 a1 a2 a3 a4:Value} {t:TypeId} (h:Below (w.alloc (.cells #[a0,a1,a2,a3,a4] t)).heap.size (w.alloc (.cells #[a0,a1,a2,a3,a4] t)) w1) :
  w1.cell? ⟨w.heap.size,0,none⟩=some a0∧w1.cell? ⟨w.heap.size,1,none⟩=some a1∧w1.cell? ⟨w.heap.size,2,none⟩=some a2∧w1.cell? ⟨w.heap.size,3,none⟩=some a3∧w1.cell? ⟨w.heap.size,4,none⟩=some a4:=by
 have f:∀ i,w1.cell? ⟨w.heap.size,i,none⟩=#[a0,a1,a2,a3,a4][i]?:=fun i=>by
  rw [h.cell (p:=⟨w.heap.size,i,none⟩) (by simp),cell_new_row]
 exact ⟨f 0,f 1,f 2,f 3,f 4⟩
section
variable {s:Ds} {p n:Nat} {bad:Bool} {ov:Value} {w:World}
theorem tkKind (k m q:Int) (t:ByteArray) (w:World):(Instr.field 30 (.agg #[.int .i64 k,.string t,.int .i64 m,.int .i64 q]) 0).run Tryz.prog w=.ok (.int .i64 k) w:=by kernel_rfl
theorem tkPlace (k m q:Int) (t:ByteArray) (w:World):(Instr.field 30 (.agg #[.int .i64 k,.string t,.int .i64 m,.int .i64 q]) 3).run Tryz.prog w=.ok (.int .i64 q) w:=by kernel_rfl
theorem tbox {W:World} {g:Nat} {k m q:Int} {t:ByteArray} (e:W.heap[g]?=some (.cells #[.int .i64 k,.string t,.int .i64 m,.int .i64 q] 30 (0,0))):(W.cell? ⟨g,0,none⟩=some (.int .i64 k)∧W.cell? ⟨g,1,none⟩=some (.string t)∧W.cell? ⟨g,2,none⟩=some (.int .i64 m)∧W.cell? ⟨g,3,none⟩=some (.int .i64 q))∧W.frozen? ⟨g,0,none⟩=false∧W.frozen? ⟨g,1,none⟩=false∧W.frozen? ⟨g,2,none⟩=false∧W.frozen? ⟨g,3,none⟩=false :=
 ⟨⟨cell_hp e 0,cell_hp e 1,cell_hp e 2,cell_hp e 3⟩,frozen_hp e 0,frozen_hp e 1,frozen_hp e 2,frozen_hp e 3⟩
theorem four_below {w W0:World} {rb:Nat} (h:Below w.heap.size w W0) (hrb:w.heap.size=rb) (k:Nat) (a b c d:Value):Below w.heap.size w (((((W0.drewN k).setCell ⟨rb,0,none⟩ a).setCell ⟨rb,1,none⟩ b).setCell ⟨rb,2,none⟩ c).setCell ⟨rb,3,none⟩ d):=by
 have h1:Below w.heap.size w (W0.drewN k):=by
  induction k with
  | zero=>exact h
  | succ k ih=>exact ih.drew
 have hr:w.heap.size≤rb:=by omega
 exact (((h1.setCell (p:=⟨rb,0,none⟩) hr _).setCell (p:=⟨rb,1,none⟩) hr _).setCell (p:=⟨rb,2,none⟩) hr _).setCell (p:=⟨rb,3,none⟩) hr _
set_option maxHeartbeats 1000000 in
theorem tok_in (h:Dk s p bad n ov w) (hp:p < s.T) :
  Calls Tryz.prog 80 #[.pointer (some ⟨s.D,0,none⟩)] w fun e w'=>e=.returned (.agg #[.int .i64 (s.tk p).kind,.string (s.tk p).text,.int .i64 (s.tk p).n,.int .i64 (s.tk p).place])∧Below w.heap.size w w':=by
 have hTT:=h.TT
 have hpT:=h.pT
 have HB0:=hid ((Below.refl w.heap.size w).alloc (Nat.le_refl _) (.cells #[.int .i64 0,.string ⟨#[]⟩,.int .i64 0,.int .i64 0] 30))
 have HBX:=hid (heap_alloc_new w (.cells #[.int .i64 0,.string ⟨#[]⟩,.int .i64 0,.int .i64 0] 30))
 have HD:=hid (h.next HB0.out)
 clear h
 go_enter Tryz.func80,Tryz.ntmps80
 go_upto_region 1 with fail
 obtain ⟨rb,hrb⟩:∃ g,w.heap.size=g:=⟨_,rfl⟩
 obtain ⟨W0,hW0⟩:∃ W,w.alloc (.cells #[.int .i64 0,.string ⟨#[]⟩,.int .i64 0,.int .i64 0] 30)=W:=⟨_,rfl⟩
 rw [hW0] at HB0 HBX HD ⊢
 rw [hrb] at HBX ⊢
 have HRB:=hid hrb
 clear hrb hW0
 obtain ⟨⟨r0,r1,r2,r3⟩,z0,z1,z2,z3⟩:=tbox HBX.out
 obtain ⟨c0,c1,c2,c3,c5⟩:=HD.out.cells
 have hta:s.ta=some ⟨s.b,0,none⟩:=HD.out.tad.resolve_left (by omega)
 obtain ⟨t0,t1,t2,t3⟩:=HD.out.tks p hp
 rw [hta] at c0
 clear hta
 go_quiet (fail)
 go_wp2
 go_region
 go_wp2
 exact bodyPost_ret (v:=.agg #[.int .i64 (s.tk p).kind,.string (s.tk p).text,.int .i64 (s.tk p).n,.int .i64 (s.tk p).place]) (by simp [results,Tryz.results80,go_sem,r0,r1,r2,r3]) rfl ⟨rfl,four_below HB0.out HRB.out _ _ _ _ _⟩
set_option maxHeartbeats 1000000 in
theorem tok_out (h:Dk s p bad n ov w) (hp:¬ p < s.T) :
  Calls Tryz.prog 80 #[.pointer (some ⟨s.D,0,none⟩)] w fun e w'=>e=.returned (.agg #[.int .i64 0,.string ⟨#[]⟩,.int .i64 0,.int .i64 s.sz])∧Below w.heap.size w w':=by
 have hTT:=h.TT
 have hpT:=h.pT
 have HB0:=hid ((Below.refl w.heap.size w).alloc (Nat.le_refl _) (.cells #[.int .i64 0,.string ⟨#[]⟩,.int .i64 0,.int .i64 0] 30))
 have HBX:=hid (heap_alloc_new w (.cells #[.int .i64 0,.string ⟨#[]⟩,.int .i64 0,.int .i64 0] 30))
 have HD:=hid (h.next HB0.out)
 clear h
 go_enter Tryz.func80,Tryz.ntmps80
 go_upto_region 1 with fail
 obtain ⟨rb,hrb⟩:∃ g,w.heap.size=g:=⟨_,rfl⟩
 obtain ⟨W0,hW0⟩:∃ W,w.alloc (.cells #[.int .i64 0,.string ⟨#[]⟩,.int .i64 0,.int .i64 0] 30)=W:=⟨_,rfl⟩
 rw [hW0] at HB0 HBX HD ⊢
 rw [hrb] at HBX ⊢
 have HRB:=hid hrb
 clear hrb hW0
 obtain ⟨⟨r0,r1,r2,r3⟩,z0,z1,z2,z3⟩:=tbox HBX.out
 obtain ⟨c0,c1,c2,c3,c5⟩:=HD.out.cells
 go_quiet (fail)
 go_wp2
 exact bodyPost_ret (v:=.agg #[.int .i64 0,.string ⟨#[]⟩,.int .i64 0,.int .i64 s.sz]) (by simp [results,Tryz.results80,go_sem,r0,r1,r2,r3]) rfl ⟨rfl,four_below HB0.out HRB.out _ _ _ _ _⟩
theorem tok_dk (h:Dk s p bad n ov w) :
  Calls Tryz.prog 80 #[.pointer (some ⟨s.D,0,none⟩)] w fun e w'=>∃ (k m q:Int) (t:ByteArray),e=.returned (.agg #[.int .i64 k,.string t,.int .i64 m,.int .i64 q])∧t.size≤1000∧(k≠0→p < s.T)∧Below w.heap.size w w':=by
 by_cases hp:p < s.T
 ·exact (tok_in h hp).mono fun e w' ⟨h1,h2⟩=>⟨_,_,_,_,h1,h.txt p hp,fun _=>hp,h2⟩
 ·exact (tok_out h hp).mono fun e w' ⟨h1,h2⟩=>⟨_,_,_,_,h1,by decide,fun h=>absurd rfl h,h2⟩
set_option maxHeartbeats 1000000 in
theorem stop_dk (h:Dk s p bad n ov w) :
  Calls Tryz.prog 81 #[.pointer (some ⟨s.D,0,none⟩)] w fun e w'=>e=.returned (.tuple #[])∧Dk s p true n ov w'∧Dt s ov w ov w':=by
 obtain ⟨c0,c1,c2,c3,c5⟩:=h.cells
 cases bad
 ·have f3:=h.fz 3
  have HD1:=hid (h.setbad true)
  have HT1:=hid (Dt.set s ov w 3 (.bool true))
  clear h
  go_enter Tryz.func81,Tryz.ntmps81
  go_wp2_with fail
  refine (tok_dk HD1.out).mono ?_
  rintro e w2 ⟨k,m,q,t,rfl,_,_,hb⟩
  have F3:=fun W=>tkPlace k m q t W
  have HD2:=hid (HD1.out.next hb)
  have HT2:=hid (HT1.out.next hb)
  have f4:=HD2.out.fz 4
  obtain ⟨q0,c4⟩:=HD2.out.cell4
  clear hb HD1 HT1
  go_wp2
  go_end0
  exact ⟨rfl,HD2.out.setat q,HT2.out.trans (Dt.set s ov w2 4 (.int .i64 q))⟩
 ·have HD:=hid h
  clear h
  go_enter Tryz.func81,Tryz.ntmps81
  go_wp2
  go_end0
  exact ⟨rfl,HD.out,Dt.refl _ _ _⟩
def IsEnd (s:Ds) (p:Nat) (bad:Bool) (w:World) (e:Ending) (w':World):Prop:=∃ b,e=.returned (.bool b)∧(b=true→bad=false∧p < s.T)∧Below w.heap.size w w'
theorem IsEnd.t {w':World} (hb:bad=false) (hp:p < s.T) (h:Below w.heap.size w w'):IsEnd s p bad w (.returned (.bool true)) w':=⟨true,rfl,fun _=>⟨hb,hp⟩,h⟩
theorem IsEnd.f {w':World} (h:Below w.heap.size w w'):IsEnd s p bad w (.returned (.bool false)) w':=⟨false,rfl,fun h=>(nomatch h),h⟩
set_option maxHeartbeats 2000000 in
theorem is_dk (h:Dk s p bad n ov w) (x:ByteArray) :
  Calls Tryz.prog 90 #[.pointer (some ⟨s.D,0,none⟩),.string x] w (IsEnd s p bad w):=by
 have HD:=hid h
 clear h
 go_enter Tryz.func90,Tryz.ntmps90
 go_wp2_with fail
 refine (tok_dk HD.out).mono ?_
 rintro e w2 ⟨k,m,q,t,rfl,_,hk,hb⟩
 have HK:=hid hk
 have HB:=hid hb
 have C3:∀ o,(w2.alloc o).cell? ⟨s.D,3,none⟩=some (.bool bad):=fun o=>((HD.out.next hb).next ((Below.refl _ _).alloc (Nat.le_refl _) o)).cells.2.2.2.1
 have HB9:Hid (∀ o,Below w.heap.size w (w2.alloc o)):=fun o=>hb.alloc hb.size o
 clear hb hk HB
 cases bad
 ·by_cases h2:k=2
  ·subst h2
   have hp:=HK.out (by decide)
   go_wp2
   go_ret
   exact ⟨_,rfl,fun _=>⟨rfl,hp⟩,HB9.out _⟩
  ·by_cases h5:k=5
   ·subst h5
    have hp:=HK.out (by decide)
    go_wp2
    go_ret
    exact ⟨_,rfl,fun _=>⟨rfl,hp⟩,HB9.out _⟩
   ·have e2:(k == 2)=false:=by simpa using h2
    have e5:(k == 5)=false:=by simpa using h5
    go_wp2
    go_ret
    exact .f (HB9.out _)
 ·go_wp2
  go_ret
  exact .f (HB9.out _)
theorem Dk.inc (h:Dk s p bad n ov w) (hp:p < s.T):Dk s (p+1) bad n ov (w.setCell ⟨s.D,2,none⟩ (.int .i64 ((p:Int)+1))):=by
 have:=h.setp (p+1) hp
 simpa using this
def TkEnd (s:Ds) (p:Nat) (bad:Bool) (n:Nat) (ov:Value) (w:World) (e:Ending) (w':World):Prop :=
 (e=.returned (.bool true)∧bad=false∧p < s.T∧Dk s (p+1) bad n ov w'∧Dt s ov w ov w')∨(e=.returned (.bool false)∧Dk s p bad n ov w'∧Dt s ov w ov w')
set_option maxHeartbeats 1000000 in
theorem take_dk (h:Dk s p bad n ov w) (x:ByteArray) :
  Calls Tryz.prog 75 #[.pointer (some ⟨s.D,0,none⟩),.string x] w (TkEnd s p bad n ov w):=by
 have HD:=hid h
 clear h
 go_enter Tryz.func75,Tryz.ntmps75
 go_wp2_with fail
 refine (is_dk HD.out x).mono ?_
 rintro e w2 ⟨b,rfl,hb,hw⟩
 have HD2:=hid (HD.out.next hw)
 have HT2:=hid ((Dt.refl s ov w).next hw)
 have HB:=hid hb
 have hTT:=HD2.out.TT
 have hpT:=HD2.out.pT
 obtain ⟨c0,c1,c2,c3,c5⟩:=HD2.out.cells
 have f2:=HD2.out.fz 2
 clear hb hw HD
 cases b
 ·go_wp2
  go_ret
  exact .inr ⟨rfl,HD2.out,HT2.out⟩
 ·obtain ⟨hb,hp⟩:=HB.out rfl
  have HE:Hid (TkEnd s p bad n ov w (.returned (.bool true)) (w2.setCell ⟨s.D,2,none⟩ (.int .i64 ((p:Int)+1)))):=.inl ⟨rfl,hb,hp,HD2.out.inc hp,HT2.out.trans (Dt.set s ov w2 2 _)⟩
  clear hb
  go_wp2
  go_ret
  exact HE.out
def NeEnd (s:Ds) (p:Nat) (bad:Bool) (n:Nat) (ov:Value) (w:World) (e:Ending) (w':World):Prop :=
 e=.returned (.tuple #[])∧∃ p' bad',p≤p'∧p'≤p+1∧(bad=true→bad'=true)∧(p'=p+1∨bad'=true)∧Dk s p' bad' n ov w'∧Dt s ov w ov w'
set_option maxHeartbeats 1000000 in
theorem need_dk (h:Dk s p bad n ov w) (x:ByteArray) :
  Calls Tryz.prog 78 #[.pointer (some ⟨s.D,0,none⟩),.string x] w (NeEnd s p bad n ov w):=by
 have HD:=hid h
 clear h
 go_enter Tryz.func78,Tryz.ntmps78
 go_wp2_with fail
 refine (take_dk HD.out x).mono ?_
 rintro e w2 (⟨rfl,hb,hp,h1,h2⟩ | ⟨rfl,h1,h2⟩)
 ·have HE:Hid (NeEnd s p bad n ov w (.returned (.tuple #[])) w2):=⟨rfl,p+1,bad,by omega,by omega,id,.inl rfl,h1,h2⟩
  clear hb h1 h2 HD
  go_wp2
  go_end0
  exact HE.out
 ·have H1:=hid h1
  have H2:=hid h2
  clear h1 h2 HD
  go_wp2_with fail
  refine (stop_dk H1.out).mono ?_
  rintro e w3 ⟨rfl,h3,h4⟩
  have HE:Hid (NeEnd s p bad n ov w (.returned (.tuple #[])) w3):=⟨rfl,p,true,by omega,by omega,fun _=>rfl,.inr rfl,h3,H2.out.trans h4⟩
  clear h3 h4
  go_wp2
  go_end0
  exact HE.out
def NmEnd (s:Ds) (p:Nat) (n:Nat) (ov:Value) (w:World) (e:Ending) (w':World):Prop :=
 ∃ (t:ByteArray) (p':Nat) (bad':Bool),e=.returned (.string t)∧t.size≤1000∧p≤p'∧p'≤p+1∧(p < p'∨bad'=true)∧Dk s p' bad' n ov w'∧Dt s ov w ov w'
set_option maxHeartbeats 2000000 in
theorem name_dk (h:Dk s p bad n ov w) :
  Calls Tryz.prog 76 #[.pointer (some ⟨s.D,0,none⟩)] w (NmEnd s p n ov w):=by
 have HD:=hid h
 obtain ⟨c0,c1,c2,c3,c5⟩:=h.cells
 clear h
 cases bad
 ·go_enter Tryz.func76,Tryz.ntmps76
  go_wp2_with fail
  refine (tok_dk HD.out).mono ?_
  rintro e w2 ⟨k,m,q,t,rfl,_,hk,hw⟩
  have F0:=fun W=>tkKind k m q t W
  have HD2:=hid (HD.out.next hw)
  have HT2:=hid ((Dt.refl s ov w).next hw)
  have HK:=hid hk
  clear hk hw HD c0 c1 c2 c3 c5
  by_cases h1:k=1
  ·subst h1
   have hp:=HK.out (by decide)
   have hTT:=HD2.out.TT
   obtain ⟨c0,c1,c2,c3,c5⟩:=HD2.out.cells
   have f2:=HD2.out.fz 2
   have HD3:=hid (HD2.out.inc hp)
   obtain ⟨d0,d1,d2,d3,d5⟩:=HD3.out.cells
   have hta:s.ta=some ⟨s.b,0,none⟩:=HD2.out.tad.resolve_left (by omega)
   obtain ⟨t0,t1,t2,t3⟩:=HD3.out.tks p hp
   rw [hta] at c0 d0
   have HT3:=hid (HT2.out.trans (Dt.set s ov w2 2 (.int .i64 ((p:Int)+1))))
   have HX:=hid (HD2.out.txt p hp)
   clear hta HK
   go_wp2
   obtain ⟨W3,hW3⟩:∃ W,w2.setCell ⟨s.D,2,none⟩ (.int .i64 ((p:Int)+1))=W:=⟨_,rfl⟩
   rw [hW3] at HD3 HT3 d0 d1 d2 d3 d5 t0 t1 t2 t3 ⊢
   clear hW3 c0 c1 c2 c3 c5 HD2 HT2 f2
   have HE:Hid (∀ k,NmEnd s p n ov w (.returned (.string (s.tk p).text)) (W3.drewN k)):=fun k=>⟨_,p+1,false,rfl,HX.out,by omega,by omega,.inl (by omega),HD3.out.next (below_drewN (Below.refl _ _) k),HT3.out.next (below_drewN (Below.refl _ _) k)⟩
   go_quiet (fail)
   go_wp2
   go_ret
   exact HE.out _
  ·have e1:(k != 1)=true:=by simpa using h1
   go_wp2_with fail
   refine (stop_dk HD2.out).mono ?_
   rintro e w3 ⟨rfl,h3,h4⟩
   have HE:Hid (NmEnd s p n ov w (.returned (.string ⟨#[]⟩)) w3):=⟨_,p,true,rfl,by decide,by omega,by omega,.inr rfl,h3,HT2.out.trans h4⟩
   clear h3 h4
   go_wp2
   go_ret
   exact HE.out
 ·go_enter Tryz.func76,Tryz.ntmps76
  go_wp2_with fail
  refine (stop_dk HD.out).mono ?_
  rintro e w3 ⟨rfl,h3,h4⟩
  have HE:Hid (NmEnd s p n ov w (.returned (.string ⟨#[]⟩)) w3):=⟨_,p,true,rfl,by decide,by omega,by omega,.inr rfl,h3,h4⟩
  clear h3 h4
  go_wp2
  go_ret
  exact HE.out
theorem info_nd9:(Tryz.prog.info? 81).map (fun i=>(i.zero,i.size,i.bytes))=some (some (.agg #[.int .i64 0,.int .i64 0,.int .i64 0,.string ⟨#[]⟩,.int .i64 0]),5,48):=by kernel_rfl
theorem cell_five_new (w:World) (a b c d f:Value) (t:TypeId):∀ j u,[a,b,c,d,f][j]?=some u→(w.alloc (.cells #[a,b,c,d,f] t)).cell? ((⟨w.heap.size,0,none⟩:Addr).add j)=some u:=by
 intro j u hj
 rw [add_none,cell_new_row]
 simpa using hj
def PuEnd (s:Ds) (p:Nat) (bad:Bool) (n:Nat) (ov:Value) (w:World) (e:Ending) (w':World):Prop:=e=.returned (.tuple #[])∧∃ ov',Dk s p bad (n+1) ov' w'∧Dt s ov w ov' w'
set_option maxHeartbeats 2000000 in
theorem put_dk (h:Dk s p bad n ov w) (x:Nd) (hx:x.text.size≤1000) (hn:n≤1000000) :
  Calls Tryz.prog 58 #[.pointer (some ⟨s.D,0,none⟩),.agg #[.int .i64 x.kind,.int .i64 x.op,.int .i64 x.n,.string x.text,.int .i64 x.kids]] w (PuEnd s p bad n ov w):=by
 obtain ⟨i0,hi0,hz0,hz1,hz2⟩:=info_parts info_nd9
 have HHI:=hid (And.intro hi0 (And.intro hz0 (And.intro hz1 hz2)))
 clear hi0 hz0 hz1 hz2
 have HB0:=hid ((Below.refl w.heap.size w).alloc (Nat.le_refl _) (.cells #[.int .i64 x.kind,.int .i64 x.op,.int .i64 x.n,.string x.text,.int .i64 x.kids] 81))
 have HBX:=hid (heap_alloc_new w (.cells #[.int .i64 x.kind,.int .i64 x.op,.int .i64 x.n,.string x.text,.int .i64 x.kids] 81))
 have HD:=hid (h.next HB0.out)
 clear h
 go_enter Tryz.func58,Tryz.ntmps58
 go_upto_region 1 with fail
 obtain ⟨rb,hrb⟩:∃ g,w.heap.size=g:=⟨_,rfl⟩
 obtain ⟨W0,hW0⟩:∃ W,w.alloc (.cells #[.int .i64 x.kind,.int .i64 x.op,.int .i64 x.n,.string x.text,.int .i64 x.kids] 81)=W:=⟨_,rfl⟩
 rw [hW0] at HB0 HBX HD ⊢
 rw [hrb] at HBX ⊢
 have HT0:=hid ((Dt.refl s ov w).next HB0.out)
 clear hrb hW0 HB0
 obtain ⟨_,_,_,_,c5⟩:=HD.out.cells
 have HAL:=hid ((Below.refl W0.heap.size W0).alloc (Nat.le_refl _) (.cells #[.int .i64 x.kind,.int .i64 x.op,.int .i64 x.n,.string x.text,.int .i64 x.kids] 81))
 have HDA:=hid (HD.out.next HAL.out)
 have HDV:=hid (HDA.out.next (Below.refl _ _).drew)
 have HTV:=hid ((HT0.out.next HAL.out).next (Below.refl _ _).drew)
 have hBz:=HDV.out.Bz
 obtain ⟨O,hO,how,hOx⟩:=HDV.out.out
 have HOV:=hid how
 have HOL:=hid hO
 have HOX:=hid hOx
 clear how hO hOx
 obtain ⟨va,vc,rfl⟩:=own_sl HOV.out
 have b0:=cell_hp HBX.out 0
 have b1:=cell_hp HBX.out 1
 have b2:=cell_hp HBX.out 2
 have b3:=cell_hp HBX.out 3
 have b4:=cell_hp HBX.out 4
 simp at b0 b1 b2 b3 b4
 have C5:∀ o,(W0.alloc o).cell? ⟨s.D,5,none⟩=some (.slice va n vc):=fun o=>(HD.out.next ((Below.refl _ _).alloc (Nat.le_refl _) o)).cells.2.2.2.2
 have HKS:Hid (∀ V:World,(W0.alloc (.cells #[.int .i64 x.kind,.int .i64 x.op,.int .i64 x.n,.string x.text,.int .i64 x.kids] 81)).drew.grownBy V (Value.ownBlock (.slice va n vc))→V.cell? ⟨s.D,5,none⟩=some (.slice va n vc)∧V.frozen? ⟨s.D,5,none⟩=false):=fun V hg=>by
  have hk:=hg.block s.D HDV.out.lt (fun e=>HDV.out.ne e.symm)
  obtain ⟨q,hq⟩:=HDV.out.box
  exact ⟨cell_hp (hk.trans hq) 5,frozen_hp (hk.trans hq) 5⟩
 have HFIN:Hid (∀ (v':Value) (V:World),(W0.alloc (.cells #[.int .i64 x.kind,.int .i64 x.op,.int .i64 x.n,.string x.text,.int .i64 x.kids] 81)).drew.grownBy V (Value.ownBlock (.slice va n vc))→V.ownsRow s.B 81 5 v' (n+1) (ndRow O ++ [.int .i64 x.kind,.int .i64 x.op,.int .i64 x.n,.string x.text,.int .i64 x.kids])→(v'.ownBlock=Value.ownBlock (.slice va n vc)∨v'.ownBlock=some (W0.alloc (.cells #[.int .i64 x.kind,.int .i64 x.op,.int .i64 x.n,.string x.text,.int .i64 x.kids] 81)).drew.heap.size)→PuEnd s p bad n (.slice va n vc) w (.returned (.tuple #[])) (V.setCell ⟨s.D,5,none⟩ v')):=fun v' V hg ho hr=>by
  refine ⟨rfl,v',HDV.out.setout (O:=O ++ [x]) hg (by rw [ndRow_append];exact ho) (by rw [List.length_append,HOL.out];rfl) ?_,HTV.out.trans (Dt.setout hg fun k hk=>?_)⟩
  ·intro y hy
   rcases List.mem_append.1 hy with hy | hy
   ·exact HOX.out y hy
   ·rw [List.mem_singleton.1 hy]
    exact hx
  ·rcases hr with hr | hr
   ·exact .inl (by rw [← hr];exact hk)
   ·rw [hr] at hk
    injection hk with hk
    exact .inr (by omega)
 go_wp2_with fail
 go_region_law (refine step_append_own_at rfl (.tmp 8) (.tmp 10) 48 rfl s.B 81 i0 (.agg #[.int .i64 0,.int .i64 0,.int .i64 0,.string ⟨#[]⟩,.int .i64 0]) 5 48 Tryz.underlying48 HHI.out.1 HHI.out.2.1 HHI.out.2.2.1 HHI.out.2.2.2 rfl (by decide) (.slice va n vc) n (ndRow O) (by simp [Act.eval]) HOV.out ⟨W0.heap.size,0,none⟩ 1 1 [.int .i64 x.kind,.int .i64 x.op,.int .i64 x.n,.string x.text,.int .i64 x.kids] (by simp [Act.eval]) rfl (fun j u hj=>cell_five_new W0 _ _ _ _ _ _ j u hj) (by simp [Value.oneCell']) (by unfold maxLen;omega) (by omega) hBz ?_;intro vn wn on gn nn bn;obtain ⟨m1,m2⟩:=HKS.out _ gn;have HEN:=hid (HFIN.out _ _ gn on bn);have hvn:=own_sl on;obtain ⟨an3,cn3,rfl⟩:=hvn;clear on gn nn bn)
 all_goals
  go_wp2_with fail
  go_end0
  exact HEN.out
end
end Go.Proofs.YtabbahpalemlhaaGreatDoor
