import Derived.Test.YthnohneaanphbaaGreatDoorJ28
import Derived.Test.YthnohneaanphbaaGreatDoorJ16
import Derived.Test.YthnohneaanphbaaGreatDoorJ25
import Derived.Test.YthnohneaanphbaaGreatDoorJ09
import Derived.Test.YthnohneaanphbaaGreatDoorJ30
import Derived.Test.YthnohneaanphbaaGreatDoorJ32
import Derived.Test.YthnohneaanphbaaGreatDoorJ31
import Derived.Test.YthnohneaanphbaaGreatDoorJ26
namespace Go.Proofs.YthnohneaanphbaaGreatDoor.K
open Go.RowKit
set_option maxRecDepth 20000
theorem bcell {W w1:World} (hb:Below W.heap.size W w1):(∀ b o,b < W.heap.size→w1.cell? ⟨b,o,none⟩=W.cell? ⟨b,o,none⟩)∧(∀ b o,b < W.heap.size→w1.frozen? ⟨b,o,none⟩=W.frozen? ⟨b,o,none⟩) :=
 ⟨fun b o h=>hb.cell (p:=⟨b,o,none⟩) h,fun b o h=>hb.frozen (p:=⟨b,o,none⟩) h⟩
theorem below_set4 {w w1:World} {a b c d:Value} (h:Below w.heap.size w w1):Below w.heap.size w ((((w1.setCell ⟨w.heap.size,0,none⟩ a).setCell ⟨w.heap.size,1,none⟩ b).setCell ⟨w.heap.size,2,none⟩ c).setCell ⟨w.heap.size,3,none⟩ d) :=
 (((h.setCell (p:=⟨w.heap.size,0,none⟩) (Nat.le_refl _) _).setCell (p:=⟨w.heap.size,1,none⟩) (Nat.le_refl _) _).setCell (p:=⟨w.heap.size,2,none⟩) (Nat.le_refl _) _).setCell (p:=⟨w.heap.size,3,none⟩) (Nat.le_refl _) _
set_option maxHeartbeats 1000000 in
theorem l1One_num (s:ByteArray) (n:Nat) (w:World) (hs:s.size≤8000) (hn:n < s.size) (hd:dig (s[n].toNat:Int)=true) :
  Calls Tryz.prog 80 #[.string s,.int .i64 n] w fun e w'=>e=.returned (oneV (numOne (s.data.toList.drop n)) n)∧Below w.heap.size w w':=by
 generalize hO:numOne (s.data.toList.drop n)=O
 have HO:=hid hO
 clear hO
 by_cases hc:O.code=0
 ·have HV:Hid (oneV O n=.tuple #[.agg #[.int .i64 O.kind,.string ⟨O.text.toArray⟩,.int .i64 O.n,.int .i64 n],.int .i64 (n+O.size),.int .i64 0]):=if_pos hc
  clear hc
  go_enter Tryz.func80,Tryz.ntmps80
  go_wp2_with (first
   | (go_at_call 73;refine (l1Digit_any _ _).mono ?_;rintro e w' ⟨rfl,hw⟩;have hw2:=hw.symm;clear hw;subst hw2)
   | (go_at_call 101;refine (l1Number_any s n _ hs hn).mono ?_;rintro e w1 ⟨rfl,hb⟩;rw [HO.out,HV.out];obtain ⟨hc,hf⟩:=bcell hb;have hz:w.heap.size+1≤w1.heap.size:=by (have:=hb.size;simp at this;omega)))
  have HBB:=hid hb
  refine bodyPost_ret (v:=.tuple #[.agg #[.int .i64 O.kind,.string ⟨O.text.toArray⟩,.int .i64 O.n,.int .i64 n],.int .i64 (n+O.size),.int .i64 0]) (by simp [results,Tryz.results80,go_sem,hc]) rfl ⟨by rw [HV.out],?_⟩
  exact below_set4 (Below.trans ((Below.refl w.heap.size w).alloc (Nat.le_refl _) _) (HBB.out.mono (B':=w.heap.size) (by simp)))
 ·have HV:Hid (oneV O n=.tuple #[.agg #[.int .i64 0,.string ⟨#[]⟩,.int .i64 0,.int .i64 0],.int .i64 0,.int .i64 O.code]):=if_neg hc
  clear hc
  go_enter Tryz.func80,Tryz.ntmps80
  go_wp2_with (first
   | (go_at_call 73;refine (l1Digit_any _ _).mono ?_;rintro e w' ⟨rfl,hw⟩;have hw2:=hw.symm;clear hw;subst hw2)
   | (go_at_call 101;refine (l1Number_any s n _ hs hn).mono ?_;rintro e w1 ⟨rfl,hb⟩;rw [HO.out,HV.out];obtain ⟨hc,hf⟩:=bcell hb;have hz:w.heap.size+1≤w1.heap.size:=by (have:=hb.size;simp at this;omega)))
  have HBB:=hid hb
  refine bodyPost_ret (v:=.tuple #[.agg #[.int .i64 0,.string ⟨#[]⟩,.int .i64 0,.int .i64 0],.int .i64 0,.int .i64 O.code]) (by simp [results,Tryz.results80,go_sem,hc]) rfl ⟨by rw [HV.out],?_⟩
  exact below_set4 (Below.trans ((Below.refl w.heap.size w).alloc (Nat.le_refl _) _) (HBB.out.mono (B':=w.heap.size) (by simp)))
theorem wordS_cell1 (w:World) (X:Obj) (i:Nat) (h:i < 17):((w.alloc X).alloc (.cells (words.map fun x=>Value.string ⟨x.toArray⟩).toArray 9)).cell? ⟨w.heap.size+1,i,none⟩=some (.string (wordS i)):=by
 have h:=wordS_cell (w.alloc X) i h
 rw [World.size_alloc] at h
 exact h
theorem extract_list (s:ByteArray) (n k:Nat):(s.extract n (n+k)).data.toList=(s.data.toList.drop n).take k:=by
 have e:=ByteArray.data_extract (a:=s) (b:=n) (e:=n+k)
 rw [e,Array.toList_extract]
 simp [List.extract_eq_take_drop]
set_option maxHeartbeats 1000000 in
theorem l1One_name (s:ByteArray) (n:Nat) (w:World) (hs:s.size≤8000) (hn:n < s.size) (hd:dig (s[n].toNat:Int)=false) (hbg:beg (s[n].toNat:Int)=true) :
  Calls Tryz.prog 80 #[.string s,.int .i64 n] w fun e w'=>e=.returned (oneV (nameOne (s.data.toList.drop n)) n)∧Below w.heap.size w w':=by
 obtain ⟨L,hL⟩:∃ L,s.data.toList.drop n=L:=⟨_,rfl⟩
 rw [hL]
 have HL:Hid (s.data.toList.drop n=L):=hL
 clear hL
 have HLEN:Hid (L.length=s.size - n):=by show _=_;rw [← HL.out,List.length_drop,len_size]
 have HRL:=hid (run_le letB L)
 go_enter Tryz.func80,Tryz.ntmps80
 go_wp2_with (first
   | (go_at_call 73;refine (l1Digit_any _ _).mono ?_;rintro e w' ⟨rfl,hw⟩;have hw2:=hw.symm;clear hw;subst hw2)
   | (go_at_call 44;refine (l1Begins_any _ _).mono ?_;rintro e w' ⟨rfl,hw⟩;have hw2:=hw.symm;clear hw;subst hw2))
 go_loop [7] (fun e=>∃ k:Nat,k≤run letB L∧n+k≤s.size∧e=.int .i64 ((n+k:Nat):Int)) (fun e=>s.size - (intOf e).toNat)
 case atStart=>exact ⟨0,Nat.zero_le _,by omega,rfl⟩
 case round =>
  obtain ⟨k,hk,hks,rfl⟩:=hrel
  by_cases hq:k < run letB L
  ·have hlt:n+k < s.size:=by have:=HLEN.out;have:=HRL.out;omega
   have hp:let_ (s[n+k].toNat:Int)=true:=by
    have h1:=run_all letB L (run letB L) (Nat.le_refl _) k hq (by have:=HLEN.out;omega)
    rw [drop_get _ L n k HL.out (by rw [len_size];exact hlt)] at h1
    exact h1
   go_wp2_with (go_at_call 46;refine (l1Letter_any _ _).mono ?_;rintro e w' ⟨rfl,hw⟩;have hw2:=hw.symm;clear hw;subst hw2)
   go_round
   case rel=>exact ⟨k+1,by omega,by omega,by go_num⟩
   case measure=>simp [intOf];omega
  ·have hke:k=run letB L:=by omega
   have HTL:Hid ((s.extract n (n+k)).data.toList=L.take k):=by show _=_;rw [extract_list s n k,HL.out]
   have HTX:Hid ((⟨(L.take k).toArray⟩:ByteArray)=s.extract n (n+k)):=by show _=_;rw [← HTL.out]
   have hsz:(s.extract n (n+k)).size=k:=by simp;omega
   have HKE:=hid hke
   clear hke
   by_cases hlt:n+k < s.size
   ·have hp:let_ (s[n+k].toNat:Int)=false:=by
     cases h:let_ (s[n+k].toNat:Int)
     ·rfl
     ·have h1:=run_step letB L k hk (by have:=HLEN.out;omega) (by rw [drop_get _ L n k HL.out (by rw [len_size];exact hlt)];exact h)
      have:=HKE.out;omega
    clear hk hq
    by_cases hw:L.take k ∈ words
    ·have HDEC:Hid (decide ((s.extract n (n+k)).data.toList ∈ words)=true):=by show _=_;rw [HTL.out];simpa using hw
     have HE:Hid (oneV (nameOne L) n=.tuple #[.agg #[.int .i64 2,.string (s.extract n (n+k)),.int .i64 0,.int .i64 n],.int .i64 ((n+k:Nat):Int),.int .i64 0]):=by
      show _=_;rw [oneV_good (k:=2) (t:=L.take k) (n:=0) (z:=k) (by unfold nameOne;rw [← HKE.out,if_pos hw])]
      rw [HTX.out];rfl
     clear hw HKE
     go_wp2_with (first
      | (go_at_call 46;refine (l1Letter_any _ _).mono ?_;rintro e w' ⟨rfl,hw⟩;have hw2:=hw.symm;clear hw;subst hw2)
      | (go_at_call 45;refine (l1Words_any _).mono ?_;rintro e w' ⟨rfl,rfl⟩)
      | (go_at_call 24;refine (l1Has_words _ _ (w.heap.size+1) (fun i hi=>wordS_cell1 w _ i hi)).mono ?_;rintro e w' ⟨rfl,rfl⟩;rw [HDEC.out]))
     refine bodyPost_ret (v:=.tuple #[.agg #[.int .i64 2,.string (s.extract n (n+k)),.int .i64 0,.int .i64 n],.int .i64 ((n+k:Nat):Int),.int .i64 0]) (by simp [results,Tryz.results80,go_sem]) rfl ⟨by rw [HE.out],?_⟩
     repeat (refine Below.setCell ?_ (Nat.le_refl _) _)
     exact ((Below.refl w.heap.size w).alloc (Nat.le_refl _) _).alloc (by simp) _
    ·have HDEC:Hid (decide ((s.extract n (n+k)).data.toList ∈ words)=false):=by show _=_;rw [HTL.out];simpa using hw
     by_cases h30:30 < k
     ·have HE:Hid (oneV (nameOne L) n=.tuple #[.agg #[.int .i64 0,.string ⟨#[]⟩,.int .i64 0,.int .i64 0],.int .i64 0,.int .i64 5]):=by
       show _=_;rw [oneV_bad (c:=5) (by unfold nameOne;rw [← HKE.out,if_neg hw,if_pos h30]) (by decide)];rfl
      clear hw HKE
      go_wp2_with (first
      | (go_at_call 46;refine (l1Letter_any _ _).mono ?_;rintro e w' ⟨rfl,hw⟩;have hw2:=hw.symm;clear hw;subst hw2)
      | (go_at_call 45;refine (l1Words_any _).mono ?_;rintro e w' ⟨rfl,rfl⟩)
      | (go_at_call 24;refine (l1Has_words _ _ (w.heap.size+1) (fun i hi=>wordS_cell1 w _ i hi)).mono ?_;rintro e w' ⟨rfl,rfl⟩;rw [HDEC.out]))
      refine bodyPost_ret (v:=.tuple #[.agg #[.int .i64 0,.string ⟨#[]⟩,.int .i64 0,.int .i64 0],.int .i64 0,.int .i64 5]) (by simp [results,Tryz.results80,go_sem]) rfl ⟨by rw [HE.out],?_⟩
      repeat (refine Below.setCell ?_ (Nat.le_refl _) _)
      exact ((Below.refl w.heap.size w).alloc (Nat.le_refl _) _).alloc (by simp) _
     ·have HE:Hid (oneV (nameOne L) n=.tuple #[.agg #[.int .i64 1,.string (s.extract n (n+k)),.int .i64 0,.int .i64 n],.int .i64 ((n+k:Nat):Int),.int .i64 0]):=by
       show _=_;rw [oneV_good (k:=1) (t:=L.take k) (n:=0) (z:=k) (by unfold nameOne;rw [← HKE.out,if_neg hw,if_neg h30])]
       rw [HTX.out];rfl
      clear hw HKE
      go_wp2_with (first
      | (go_at_call 46;refine (l1Letter_any _ _).mono ?_;rintro e w' ⟨rfl,hw⟩;have hw2:=hw.symm;clear hw;subst hw2)
      | (go_at_call 45;refine (l1Words_any _).mono ?_;rintro e w' ⟨rfl,rfl⟩)
      | (go_at_call 24;refine (l1Has_words _ _ (w.heap.size+1) (fun i hi=>wordS_cell1 w _ i hi)).mono ?_;rintro e w' ⟨rfl,rfl⟩;rw [HDEC.out]))
      refine bodyPost_ret (v:=.tuple #[.agg #[.int .i64 1,.string (s.extract n (n+k)),.int .i64 0,.int .i64 n],.int .i64 ((n+k:Nat):Int),.int .i64 0]) (by simp [results,Tryz.results80,go_sem]) rfl ⟨by rw [HE.out],?_⟩
      repeat (refine Below.setCell ?_ (Nat.le_refl _) _)
      exact ((Below.refl w.heap.size w).alloc (Nat.le_refl _) _).alloc (by simp) _
   ·clear hk hq
    by_cases hw:L.take k ∈ words
    ·have HDEC:Hid (decide ((s.extract n (n+k)).data.toList ∈ words)=true):=by show _=_;rw [HTL.out];simpa using hw
     have HE:Hid (oneV (nameOne L) n=.tuple #[.agg #[.int .i64 2,.string (s.extract n (n+k)),.int .i64 0,.int .i64 n],.int .i64 ((n+k:Nat):Int),.int .i64 0]):=by
      show _=_;rw [oneV_good (k:=2) (t:=L.take k) (n:=0) (z:=k) (by unfold nameOne;rw [← HKE.out,if_pos hw])]
      rw [HTX.out];rfl
     clear hw HKE
     go_wp2_with (first
      | (go_at_call 46;refine (l1Letter_any _ _).mono ?_;rintro e w' ⟨rfl,hw⟩;have hw2:=hw.symm;clear hw;subst hw2)
      | (go_at_call 45;refine (l1Words_any _).mono ?_;rintro e w' ⟨rfl,rfl⟩)
      | (go_at_call 24;refine (l1Has_words _ _ (w.heap.size+1) (fun i hi=>wordS_cell1 w _ i hi)).mono ?_;rintro e w' ⟨rfl,rfl⟩;rw [HDEC.out]))
     refine bodyPost_ret (v:=.tuple #[.agg #[.int .i64 2,.string (s.extract n (n+k)),.int .i64 0,.int .i64 n],.int .i64 ((n+k:Nat):Int),.int .i64 0]) (by simp [results,Tryz.results80,go_sem]) rfl ⟨by rw [HE.out],?_⟩
     repeat (refine Below.setCell ?_ (Nat.le_refl _) _)
     exact ((Below.refl w.heap.size w).alloc (Nat.le_refl _) _).alloc (by simp) _
    ·have HDEC:Hid (decide ((s.extract n (n+k)).data.toList ∈ words)=false):=by show _=_;rw [HTL.out];simpa using hw
     by_cases h30:30 < k
     ·have HE:Hid (oneV (nameOne L) n=.tuple #[.agg #[.int .i64 0,.string ⟨#[]⟩,.int .i64 0,.int .i64 0],.int .i64 0,.int .i64 5]):=by
       show _=_;rw [oneV_bad (c:=5) (by unfold nameOne;rw [← HKE.out,if_neg hw,if_pos h30]) (by decide)];rfl
      clear hw HKE
      go_wp2_with (first
      | (go_at_call 46;refine (l1Letter_any _ _).mono ?_;rintro e w' ⟨rfl,hw⟩;have hw2:=hw.symm;clear hw;subst hw2)
      | (go_at_call 45;refine (l1Words_any _).mono ?_;rintro e w' ⟨rfl,rfl⟩)
      | (go_at_call 24;refine (l1Has_words _ _ (w.heap.size+1) (fun i hi=>wordS_cell1 w _ i hi)).mono ?_;rintro e w' ⟨rfl,rfl⟩;rw [HDEC.out]))
      refine bodyPost_ret (v:=.tuple #[.agg #[.int .i64 0,.string ⟨#[]⟩,.int .i64 0,.int .i64 0],.int .i64 0,.int .i64 5]) (by simp [results,Tryz.results80,go_sem]) rfl ⟨by rw [HE.out],?_⟩
      repeat (refine Below.setCell ?_ (Nat.le_refl _) _)
      exact ((Below.refl w.heap.size w).alloc (Nat.le_refl _) _).alloc (by simp) _
     ·have HE:Hid (oneV (nameOne L) n=.tuple #[.agg #[.int .i64 1,.string (s.extract n (n+k)),.int .i64 0,.int .i64 n],.int .i64 ((n+k:Nat):Int),.int .i64 0]):=by
       show _=_;rw [oneV_good (k:=1) (t:=L.take k) (n:=0) (z:=k) (by unfold nameOne;rw [← HKE.out,if_neg hw,if_neg h30])]
       rw [HTX.out];rfl
      clear hw HKE
      go_wp2_with (first
      | (go_at_call 46;refine (l1Letter_any _ _).mono ?_;rintro e w' ⟨rfl,hw⟩;have hw2:=hw.symm;clear hw;subst hw2)
      | (go_at_call 45;refine (l1Words_any _).mono ?_;rintro e w' ⟨rfl,rfl⟩)
      | (go_at_call 24;refine (l1Has_words _ _ (w.heap.size+1) (fun i hi=>wordS_cell1 w _ i hi)).mono ?_;rintro e w' ⟨rfl,rfl⟩;rw [HDEC.out]))
      refine bodyPost_ret (v:=.tuple #[.agg #[.int .i64 1,.string (s.extract n (n+k)),.int .i64 0,.int .i64 n],.int .i64 ((n+k:Nat):Int),.int .i64 0]) (by simp [results,Tryz.results80,go_sem]) rfl ⟨by rw [HE.out],?_⟩
      repeat (refine Below.setCell ?_ (Nat.le_refl _) _)
      exact ((Below.refl w.heap.size w).alloc (Nat.le_refl _) _).alloc (by simp) _
end Go.Proofs.YthnohneaanphbaaGreatDoor.K
namespace Go.Proofs.YthnohneaanphbaaGreatDoor
open Go.RowKit
set_option maxRecDepth 20000
theorem cell_hpC {W:World} {k:Nat} {cs:Array Value} {t:TypeId} (h:W.heap[k]?=some (.cells cs t (0,0))) (i:Nat):W.cell? ⟨k,i,none⟩=cs[i]?:=by unfold World.cell?;rw [h];rfl
theorem frozen_hpC {W:World} {k:Nat} {cs:Array Value} {t:TypeId} (h:W.heap[k]?=some (.cells cs t (0,0))) (i:Nat):W.frozen? ⟨k,i,none⟩=false:=by unfold World.frozen?;rw [h];simp
def IntsA (W:World) (ad:Option Addr) (M:Nat) (bn:Nat→Int):Prop:=M=0∨∃ g cur,ad=some ⟨g,0,none⟩∧W.heap[g]?=some (.cells cur 3 (0,0))∧∀ i,i < M→cur[i]?=some (.int .i64 (bn i))
theorem IntsA.below {W W':World} {ad:Option Addr} {M B:Nat} {bn:Nat→Int} (h:IntsA W ad M bn) (hb:Below B W W') (hB:∀ g,ad=some ⟨g,0,none⟩→g < B):IntsA W' ad M bn:=by
 rcases h with h | ⟨g,cur,rfl,h1,h2⟩
 ·exact .inl h
 ·exact .inr ⟨g,cur,rfl,(hb.block g (hB g rfl)).trans h1,h2⟩
theorem IntsA.sv {S:Nat→Prop} {W W':World} {ad:Option Addr} {M:Nat} {bn:Nat→Int} (h:IntsA W ad M bn) (hb:Sv S W W') (hS:∀ g,ad=some ⟨g,0,none⟩→¬ S g):IntsA W' ad M bn:=by
 rcases h with h | ⟨g,cur,rfl,h1,h2⟩
 ·exact .inl h
 ·exact .inr ⟨g,cur,rfl,(hb.block g (Array.getElem?_eq_some_iff.1 h1).1 (hS g rfl)).trans h1,h2⟩
end Go.Proofs.YthnohneaanphbaaGreatDoor
namespace Go.Proofs.YthnohneaanphbaaGreatDoor
open Go.RowKit
theorem set_five (cu:Array Value) (j:Nat) (a b c d f:Value) (h:j * 5+4 < cu.size) :
  let r:=((((cu.setIfInBounds (j * 5) a).setIfInBounds (j * 5+1) b).setIfInBounds (j * 5+2) c).setIfInBounds (j * 5+3) d).setIfInBounds (j * 5+4) f
  r.size=cu.size∧r[j * 5]?=some a∧r[j * 5+1]?=some b∧r[j * 5+2]?=some c∧r[j * 5+3]?=some d∧r[j * 5+4]?=some f∧∀ i,i < j * 5→r[i]?=cu[i]?:=by
 intro r
 have h0:j * 5 < cu.size:=by omega
 have h1:j * 5+1 < cu.size:=by omega
 have h2:j * 5+2 < cu.size:=by omega
 have h3:j * 5+3 < cu.size:=by omega
 refine ⟨by simp [r],?_,?_,?_,?_,?_,fun i hi=>?_⟩
 ·simp [r,h0]
 ·simp [r,h1]
 ·simp [r,h2]
 ·simp [r,h3]
 ·simp [r,h]
 ·have e0:¬ j * 5=i:=by omega
  have e1:¬ j * 5+1=i:=by omega
  have e2:¬ j * 5+2=i:=by omega
  have e3:¬ j * 5+3=i:=by omega
  have e4:¬ j * 5+4=i:=by omega
  simp [r,e0,e1,e2,e3,e4]
theorem filling_arr {W:World} {g N j:Nat} {nd:Nat→Nd} {cu:Array Value} {a b c d f:Value} (hold:∀ i,i < j→cu[i * 5]?=some (.int .i64 (nd i).kind)∧cu[i * 5+1]?=some (.int .i64 (nd i).op)∧cu[i * 5+2]?=some (.int .i64 (nd i).n)∧cu[i * 5+3]?=some (.string (nd i).text)∧cu[i * 5+4]?=some (.int .i64 (nd i).kids)) (hs:cu.size=N * 5) (hj:j < N)
  (h:W.heap[g]?=some (.cells (((((cu.setIfInBounds (j * 5) a).setIfInBounds (j * 5+1) b).setIfInBounds (j * 5+2) c).setIfInBounds (j * 5+3) d).setIfInBounds (j * 5+4) f) 35 (0,0))) (ea:a=.int .i64 (nd j).kind) (eb:b=.int .i64 (nd j).op) (ec:c=.int .i64 (nd j).n) (ed:d=.string (nd j).text) (ef:f=.int .i64 (nd j).kids):Filling W g N (j+1) nd:=by
 obtain ⟨s0,s1,s2,s3,s4,s5,s6⟩:=set_five cu j a b c d f (by rw [hs];omega)
 refine ⟨⟨_,h,s0.trans hs⟩,fun i hi=>?_⟩
 rcases Nat.lt_or_eq_of_le (Nat.lt_succ_iff.1 hi) with hh | hh
 ·obtain ⟨o0,o1,o2,o3,o4⟩:=hold i hh
  exact ⟨(cell_hpC h _).trans ((s6 _ (by omega)).trans o0),(cell_hpC h _).trans ((s6 _ (by omega)).trans o1),(cell_hpC h _).trans ((s6 _ (by omega)).trans o2),(cell_hpC h _).trans ((s6 _ (by omega)).trans o3),(cell_hpC h _).trans ((s6 _ (by omega)).trans o4)⟩
 ·subst hh
  exact ⟨(cell_hpC h _).trans (s1.trans (by rw [ea])),(cell_hpC h _).trans (s2.trans (by rw [eb])),(cell_hpC h _).trans (s3.trans (by rw [ec])),(cell_hpC h _).trans (s4.trans (by rw [ed])),(cell_hpC h _).trans (s5.trans (by rw [ef]))⟩
end Go.Proofs.YthnohneaanphbaaGreatDoor
namespace Go.Proofs.YthnohneaanphbaaGreatDoor
open Go.RowKit
set_option maxRecDepth 20000
theorem own_keepD {w w':World} {B e size n:Nat} {v:Value} {xs:List Value} (h:w.ownsRow B e size v n xs) (hk:∀ k cur,v.ownBlock=some k→w.heap[k]?=some (.cells cur e (0,0))→w'.heap[k]?=w.heap[k]?):w'.ownsRow B e size v n xs:=by
 obtain ⟨a1,a2 | ⟨g,cap,cur,b1,b2,b3,b4⟩⟩:=h
 ·exact ⟨a1,.inl a2⟩
 ·exact ⟨a1,.inr ⟨g,cap,cur,b1,b2,(hk g cur (by rw [b1];rfl) b3).trans b3,b4⟩⟩
theorem own_loD {w:World} {B e size n:Nat} {v:Value} {xs:List Value} (h:w.ownsRow B e size v n xs):∀ k,v.ownBlock=some k→B≤k∧∃ cur,w.heap[k]?=some (.cells cur e (0,0)):=fun k hk=>by
 rcases h.2 with ⟨rfl,_⟩ | ⟨g,cap,cur,rfl,a,b,_⟩
 ·simp [Value.ownBlock] at hk
 ·simp only [Value.ownBlock,Option.some.injEq] at hk
  subst hk
  exact ⟨a,cur,b⟩
theorem hp_nextD {W V:World} {g:Nat} {o:Obj} (h:W.heap[g]?=some o) (hb:Below W.heap.size W V):V.heap[g]?=some o:=(hb.block g (Array.getElem?_eq_some_iff.1 h).1).trans h
structure Tk where
 kind:Int
 text:ByteArray
 n:Int
 place:Int
def TksAt (w:World) (b T:Nat) (tk:Nat→Tk):Prop:=∀ i,i < T→w.cell? ⟨b,i * 4,none⟩=some (.int .i64 (tk i).kind)∧w.cell? ⟨b,i * 4+1,none⟩=some (.string (tk i).text)∧w.cell? ⟨b,i * 4+2,none⟩=some (.int .i64 (tk i).n)∧w.cell? ⟨b,i * 4+3,none⟩=some (.int .i64 (tk i).place)
structure Ds where
 D:Nat
 B:Nat
 b:Nat
 T:Nat
 tc:Nat
 ta:Option Addr
 tk:Nat→Tk
 sz:Int
structure Dk (s:Ds) (p:Nat) (bad:Bool) (n:Nat) (ov:Value) (w:World):Prop where
 box:∃ q:Int,w.heap[s.D]?=some (.cells #[.slice s.ta s.T s.tc,.int .i64 s.sz,.int .i64 p,.bool bad,.int .i64 q,ov] 94 (0,0))
 tad:s.T=0∨s.ta=some ⟨s.b,0,none⟩
 tks:TksAt w s.b s.T s.tk
 txt:∀ i,i < s.T→(s.tk i).text.size≤1000
 bB:s.b < s.B∧s.b≠s.D
 DB:s.D < s.B
 Bz:s.B≤w.heap.size
 out:∃ O:List Nd,O.length=n∧w.ownsRow s.B 35 5 ov n (ndRow O)∧∀ x ∈ O,x.text.size≤1000
 pT:p≤s.T
 TT:s.T≤100000
theorem TksAt.keep {w w':World} {b T:Nat} {tk:Nat→Tk} (h:TksAt w b T tk) (hk:w'.heap[b]?=w.heap[b]?):TksAt w' b T tk:=fun i hi=>by
 obtain ⟨h0,h1,h2,h3⟩:=h i hi
 have f:∀ j,w'.cell? ⟨b,j,none⟩=w.cell? ⟨b,j,none⟩:=fun j=>World.cell?_of_block (w:=w) hk
 exact ⟨(f _).trans h0,(f _).trans h1,(f _).trans h2,(f _).trans h3⟩
structure Dt (s:Ds) (ov:Value) (w:World) (ov':Value) (w':World):Prop where
 sv:Sv (fun k=>k=s.D∨ov.ownBlock=some k) w w'
 row:∀ k,ov'.ownBlock=some k→ov.ownBlock=some k∨w.heap.size≤k
theorem Dt.refl (s:Ds) (ov:Value) (w:World):Dt s ov w ov w:=⟨Sv.refl _ _,fun _ h=>.inl h⟩
theorem Dt.trans {s:Ds} {ov ov1 ov2:Value} {w w1 w2:World} (h:Dt s ov w ov1 w1) (k:Dt s ov1 w1 ov2 w2):Dt s ov w ov2 w2:=by
 refine ⟨⟨k.sv.os.trans h.sv.os,k.sv.tape.trans h.sv.tape,k.sv.output.trans h.sv.output,Nat.le_trans h.sv.size k.sv.size,fun i hi hs=>?_⟩,fun i hi=>?_⟩
 ·have hz:=h.sv.size
  refine (k.sv.block i (by omega) fun e=>?_).trans (h.sv.block i hi hs)
  rcases e with e | e
  ·exact hs (.inl e)
  ·rcases h.row i e with e | e
   ·exact hs (.inr e)
   ·omega
 ·rcases k.row i hi with e | e
  ·exact h.row i e
  ·have:=h.sv.size
   exact .inr (by omega)
theorem Dt.next {s:Ds} {ov ov1:Value} {w w1 w2:World} (h:Dt s ov w ov1 w1) (hb:Below w1.heap.size w1 w2):Dt s ov w ov1 w2:=h.trans ⟨Sv.of_below hb,fun _ h=>.inl h⟩
section
variable {s:Ds} {p n:Nat} {bad:Bool} {ov:Value} {w:World}
theorem Dk.lt (h:Dk s p bad n ov w):s.D < w.heap.size:=by obtain ⟨q,h⟩:=h.box;exact (Array.getElem?_eq_some_iff.1 h).1
theorem tks_lt {w:World} {b T:Nat} {tk:Nat→Tk} (h:TksAt w b T tk) (h0:0 < T):b < w.heap.size:=World.block_lt_of_cell? w _ (h 0 h0).1
theorem Dk.keepT (h:Dk s p bad n ov w) {w2:World} (hk:s.b < w.heap.size→w2.heap[s.b]?=w.heap[s.b]?):TksAt w2 s.b s.T s.tk:=fun i hi=>(h.tks.keep (hk (tks_lt h.tks (by omega)))) i hi
theorem Dk.next (h:Dk s p bad n ov w) {w2:World} (hb:Below w.heap.size w w2):Dk s p bad n ov w2:=by
 have hT:=h.keepT (w2:=w2) fun hl=>hb.block _ hl
 obtain ⟨⟨q,h1⟩,h2,h3,h4,h5,h6,hz,⟨O,h7,h8,h9⟩,h10,h11⟩:=h
 exact ⟨⟨q,hp_nextD h1 hb⟩,h2,hT,h4,h5,h6,Nat.le_trans hz hb.size,⟨O,h7,own_below h8 hb,h9⟩,h10,h11⟩
theorem Dk.ne (h:Dk s p bad n ov w):ov.ownBlock≠some s.D:=fun e=>by
 obtain ⟨O,_,h8,_⟩:=h.out
 have:=(own_loD h8 _ e).1
 have:=h.DB
 omega
theorem Dk.neb (h:Dk s p bad n ov w):ov.ownBlock≠some s.b:=fun e=>by
 obtain ⟨O,_,h8,_⟩:=h.out
 have:=(own_loD h8 _ e).1
 have:=h.bB
 omega
theorem Dk.step (h:Dk s p bad n ov w) (i:Nat) (v:Value) {p':Nat} {bad':Bool} (hp:p'≤s.T)
  (hs:∀ q:Int,∃ q':Int,(#[Value.slice s.ta s.T s.tc,.int .i64 s.sz,.int .i64 p,.bool bad,.int .i64 q,ov]:Array Value).setIfInBounds i v=#[.slice s.ta s.T s.tc,.int .i64 s.sz,.int .i64 p',.bool bad',.int .i64 q',ov]) :
  Dk s p' bad' n ov (w.setCell ⟨s.D,i,none⟩ v):=by
 have hne:=h.ne
 have keep:∀ k,k≠s.D→(w.setCell ⟨s.D,i,none⟩ v).heap[k]?=w.heap[k]?:=fun k hk=>Below.heap_setCell _ _ _ _ hk
 have hT:=h.keepT (w2:=w.setCell ⟨s.D,i,none⟩ v) fun _=>keep _ h.bB.2
 obtain ⟨⟨q,h1⟩,h2,h3,h4,h5,h6,hz,⟨O,h7,h8,h9⟩,h10,h11⟩:=h
 obtain ⟨q',hq⟩:=hs q
 refine ⟨⟨q',?_⟩,h2,hT,h4,h5,h6,by simpa [World.setCell] using hz,⟨O,h7,own_keepD h8 fun k cur e _=>keep k (fun e2=>hne (by rw [e,e2])),h9⟩,hp,h11⟩
 rw [set_at v h1,hq]
theorem Dk.setp (h:Dk s p bad n ov w) (p':Nat) (hp:p'≤s.T):Dk s p' bad n ov (w.setCell ⟨s.D,2,none⟩ (.int .i64 p')):=h.step 2 _ hp fun q=>⟨q,rfl⟩
theorem Dk.setbad (h:Dk s p bad n ov w) (b':Bool):Dk s p b' n ov (w.setCell ⟨s.D,3,none⟩ (.bool b')):=h.step 3 _ h.pT fun q=>⟨q,rfl⟩
theorem Dk.setat (h:Dk s p bad n ov w) (q':Int):Dk s p bad n ov (w.setCell ⟨s.D,4,none⟩ (.int .i64 q')):=h.step 4 _ h.pT fun _=>⟨q',rfl⟩
theorem Dt.set (s:Ds) (ov:Value) (w:World) (i:Nat) (v:Value):Dt s ov w ov (w.setCell ⟨s.D,i,none⟩ v):=⟨(Sv.refl _ w).setCell (.inl (.inl rfl)) v,fun _ h=>.inl h⟩
theorem Dk.cells (h:Dk s p bad n ov w):w.cell? ⟨s.D,0,none⟩=some (.slice s.ta s.T s.tc)∧w.cell? ⟨s.D,1,none⟩=some (.int .i64 s.sz)∧w.cell? ⟨s.D,2,none⟩=some (.int .i64 p)∧w.cell? ⟨s.D,3,none⟩=some (.bool bad)∧w.cell? ⟨s.D,5,none⟩=some ov:=by
 obtain ⟨q,h⟩:=h.box
 exact ⟨cell_hp h 0,cell_hp h 1,cell_hp h 2,cell_hp h 3,cell_hp h 5⟩
theorem Dk.cell4 (h:Dk s p bad n ov w):∃ q:Int,w.cell? ⟨s.D,4,none⟩=some (.int .i64 q):=by
 obtain ⟨q,h⟩:=h.box
 exact ⟨q,cell_hp h 4⟩
theorem Dk.fz (h:Dk s p bad n ov w) (i:Nat):w.frozen? ⟨s.D,i,none⟩=false:=by
 obtain ⟨q,h⟩:=h.box
 exact frozen_hp h i
end
theorem Dk.setout {s:Ds} {p n m:Nat} {bad:Bool} {ov ov':Value} {w w1:World} (h:Dk s p bad n ov w) (hg:w.grownBy w1 ov.ownBlock) {O:List Nd} (ho:w1.ownsRow s.B 35 5 ov' m (ndRow O)) (hO:O.length=m) (hx:∀ x ∈ O,x.text.size≤1000):Dk s p bad m ov' (w1.setCell ⟨s.D,5,none⟩ ov'):=by
 have hne:=h.ne
 have hneb:=h.neb
 have keep:∀ k,k≠s.D→(w1.setCell ⟨s.D,5,none⟩ ov').heap[k]?=w1.heap[k]?:=fun k hk=>Below.heap_setCell _ _ _ _ hk
 have hT:=h.keepT (w2:=w1.setCell ⟨s.D,5,none⟩ ov') fun hl=>(keep _ h.bB.2).trans (hg.block _ hl (fun e=>hneb e.symm))
 have hlt:=h.lt
 obtain ⟨⟨q,h1⟩,h2,h3,h4,h5,h6,hz,_,h10,h11⟩:=h
 have h1':=(hg.block s.D hlt (fun e=>hne e.symm)).trans h1
 refine ⟨⟨q,?_⟩,h2,hT,h4,h5,h6,by have:=hg.size;simp [World.setCell];omega,⟨O,hO,own_keepD ho fun k cur e _=>keep k (fun e2=>?_),hx⟩,h10,h11⟩
 ·rw [set_at _ h1'];rfl
 ·have:=(own_loD ho k e).1
  omega
theorem Dt.setout {s:Ds} {ov ov':Value} {w w1:World} (hg:w.grownBy w1 ov.ownBlock) (hr:∀ k,ov'.ownBlock=some k→ov.ownBlock=some k∨w.heap.size≤k):Dt s ov w ov' (w1.setCell ⟨s.D,5,none⟩ ov') :=
 ⟨((Sv.refl _ w).grown hg fun _ hk=>.inl (.inr hk)).setCell (.inl (.inl rfl)) _,hr⟩
def Ad (s:Ds) (ov0:Value) (w0:World) (p:Nat) (bad:Bool) (n:Nat) (w:World):Prop:=∃ ov,Dk s p bad n ov w∧Dt s ov0 w0 ov w
theorem Ad.next {s:Ds} {ov0:Value} {w0:World} {p n:Nat} {bad:Bool} {w w2:World} (h:Ad s ov0 w0 p bad n w) (hb:Below w.heap.size w w2):Ad s ov0 w0 p bad n w2:=by
 obtain ⟨ov,h1,h2⟩:=h
 exact ⟨ov,h1.next hb,h2.next hb⟩
theorem Ad.pT {s:Ds} {ov0:Value} {w0:World} {p n:Nat} {bad:Bool} {w:World} (h:Ad s ov0 w0 p bad n w):p≤s.T∧s.T≤100000:=by
 obtain ⟨ov,h1,h2⟩:=h
 exact ⟨h1.pT,h1.TT⟩
end Go.Proofs.YthnohneaanphbaaGreatDoor
namespace Go.Proofs.YthnohneaanphbaaGreatDoor
open Go.RowKit Go.Maps Go.WideMaps
set_option maxRecDepth 20000
def makersOf (nd:Nat→Nd) (o:List (List Nat)) (s:Nat):List Nat:=if (nd s).kind=20∨(nd s).kind=21 then [s] else if (nd s).kind=23 then o.getD s [] else []
def fileF (nd:Nat→Nd) (f:ByteArray→Option Int) (ms:List Nat):ByteArray→Option Int:=ms.foldl (fun f m=>addF f (nd m).text m) f
theorem fileF_append (nd:Nat→Nd) (f:ByteArray→Option Int) (a b:List Nat):fileF nd f (a ++ b)=fileF nd (fileF nd f a) b:=by simp [fileF]
theorem fileF_one (nd:Nat→Nd) (f:ByteArray→Option Int) (a:Nat):fileF nd f [a]=addF f (nd a).text a:=rfl
theorem makers_len (x:Bx) (hx:x.Ok) (s:Nat):(makersOf x.nd x.o s).length≤5000:=by
 unfold makersOf
 split
 ·simp
 ·split
  ·exact hx.kids s
  ·simp
theorem makers_flat (x:Bx) (hx:x.Ok) (l:List Nat):(l.flatMap (makersOf x.nd x.o)).length≤l.length * 5000:=by
 induction l with
 | nil=>simp
 | cons a l ih =>
  rw [List.flatMap_cons,List.length_append,List.length_cons]
  have:=makers_len x hx a
  omega
set_option maxHeartbeats 2000000 in
theorem file_anyC (x:Bx) (hx:x.Ok) (ks:List Nat) (hpN:∀ q ∈ ks,q < x.N) (hlen:ks.length≤4000) (kn:Env)
  (ad:Option Addr) (cp:Nat) (a:Option Addr) (bn:Nat→Int) (p:Int × Int) (w:World) (hp:Stb x.S w fun W=>PlA W ad ks) (h:x.At w bn p.1 p.2) (ht:Stb x.S w x.Tree) (hk:Kn x.S w (.pointer a) kn) :
  Calls Tryz.prog 69 #[.pointer (some ⟨x.bb,0,none⟩),.slice ad ks.length cp,.pointer a] w fun e w'=>∃ b,e=.returned (.pointer (some ⟨b,0,none⟩))∧Kn x.S w' (.pointer (some ⟨b,0,none⟩)) (fun t=>(fileF x.nd (fun _=>none) (ks.flatMap (makersOf x.nd x.o)) t).getD (kn t))∧Below w.heap.size w w':=by
 have HX:=hid hx
 have HPN:=hid hpN
 have HP:=hid hp
 have H:=hid h
 have HT:=hid ht
 have HK:=hid hk
 clear hx hpN hp h ht hk
 obtain ⟨m,hm⟩:∃ m,ks.length=m:=⟨_,rfl⟩
 have HM:=hid hm
 rw [hm] at hlen ⊢
 clear hm
 go_enter Tryz.func69,Tryz.ntmps69
 go_wp2_with (first
  | (go_at_call 98;refine (inside_any a _).mono ?_;rintro e w1 ⟨b,mm,rfl,htop,hb,hmm,hbw⟩;have HTOP:=hid htop;have HBW:=hid hbw;clear htop hbw))
 have HSb:Hid (¬ x.S b):=fun h=>by have:=H.out.lt b h;omega
 have HSm:Hid (¬ x.S mm):=fun h=>by have:=H.out.lt mm h;omega
 go_loopw [16] (fun i wr=>∃ (j:Nat),j≤m∧i=.int .i64 j∧Top wr b mm ((ks.take j).flatMap (makersOf x.nd x.o)).length (fileF x.nd (fun _=>none) ((ks.take j).flatMap (makersOf x.nd x.o))) (.pointer a)∧Below w.heap.size w wr) (fun i _=>m - (intOf i).toNat)
 case atStart=>exact ⟨0,Nat.zero_le _,rfl,HTOP.out,HBW.out⟩
 case round =>
  obtain ⟨j,hj,rfl,htop,hbw⟩:=hrel
  clear HTOP
  have HTOP:=hid htop
  have HBR:=hid hbw
  clear htop hbw
  by_cases hlt:j < m
  ·have HSR:Hid (Sv x.S w wr):=Sv.of_below HBR.out
   have HA:=hid (H.out.go HBR.out)
   have hpl:=HP.out _ HSR.out
   rcases hpl with e | ⟨g,q,rfl,hc⟩
   ·have:=HM.out;rw [e] at this;simp at this;omega
   have c0:=hc j (by have:=HM.out;omega)
   obtain ⟨y,hy⟩:∃ y,ks.getD j 0=y:=⟨_,rfl⟩
   have HY:=hid hy
   rw [hy] at c0
   clear hc hy
   have hmem:y ∈ ks:=by
    rw [← HY.out,List.getD_eq_getElem?_getD,List.getElem?_eq_getElem (by have:=HM.out;omega)]
    simp
   have hyN:=HPN.out y hmem
   have hN5:=HX.out.N
   have hml:=makers_flat x HX.out (ks.take j)
   rw [List.length_take,Nat.min_eq_left (by have:=HM.out;omega)] at hml
   have HTK:Hid ((ks.take (j+1)).flatMap (makersOf x.nd x.o)=(ks.take j).flatMap (makersOf x.nd x.o) ++ makersOf x.nd x.o y):=by
    rw [List.take_succ_eq_append_getElem (by have:=HM.out;omega)]
    have e:ks[j]'(by have:=HM.out;omega)=y:=by rw [← HY.out,List.getD_eq_getElem?_getD,List.getElem?_eq_getElem (by have:=HM.out;omega)];simp
    rw [e,List.flatMap_append]
    have e2:[y].flatMap (makersOf x.nd x.o)=makersOf x.nd x.o y:=by simp
    rw [e2]
    rfl
   generalize (ks.take j).flatMap (makersOf x.nd x.o)=ms at *
   obtain ⟨f0,f1,f2,f3,f4,f5,f6⟩:=HA.out.five
   obtain ⟨n0,n1,n2,n3,n4⟩:=(HT.out _ HSR.out).1 y hyN
   obtain ⟨nm,hnm⟩:∃ nm,ms.length=nm:=⟨_,rfl⟩
   have HNM:=hid hnm
   rw [hnm] at hml HTOP
   clear hmem hnm
   have hmx:nm < maxLen:=by unfold maxLen;omega
   by_cases h20:(x.nd y).kind=20∨(x.nd y).kind=21
   ·have e:makersOf x.nd x.o y=[y]:=by unfold makersOf;rw [if_pos h20]
    have HTK2:Hid ((ks.take (j+1)).flatMap (makersOf x.nd x.o)=ms ++ [y]):=HTK.out.trans (by rw [e])
    clear e
    rcases h20 with h20 | h20
    all_goals
     rw [h20] at n0
     clear h20
     go_wp2_with (first
      | (go_at_call 99;refine (add_any b mm nm _ _ _ y _ (HX.out.text y hyN) (by omega) hmx HTOP.out).mono ?_;rintro e w2 ⟨rfl,ht2,hg2⟩;have HT2:=hid ht2;have HB2:=hid (HBR.out.grown hg2 HBR.out.size (fun q e=>by injection e with e;omega));clear ht2 hg2))
     go_roundw
     case rel =>
      refine ⟨j+1,by omega,by go_num,?_,HB2.out⟩
      rw [HTK2.out,fileF_append,fileF_one,List.length_append,HNM.out]
      exact HT2.out
     case measure=>simp [intOf];omega
   by_cases h23:(x.nd y).kind=23
   ·obtain ⟨kl,hkl⟩:∃ kl,x.o.getD y []=kl:=⟨_,rfl⟩
    have e:makersOf x.nd x.o y=kl:=by unfold makersOf;rw [if_neg h20,if_pos h23,hkl]
    have HTK2:Hid ((ks.take (j+1)).flatMap (makersOf x.nd x.o)=ms ++ kl):=HTK.out.trans (by rw [e])
    obtain ⟨ad,c,hk1,hk2,hk3,hk4⟩:=Bx.kids HX.out HT.out y hyN
    have hkN:=HX.out.place y
    have hl5:=HX.out.kids y
    rw [hkl] at hk4 hk1 hk3 hkN hl5
    have HKN:=hid hkN
    have HK4:=hid hk4
    have k0:=(hk4 _ HSR.out).1
    obtain ⟨l,hl⟩:∃ l,kl.length=l:=⟨_,rfl⟩
    have HL:=hid hl
    rw [hl] at k0 hk1 hl5
    rw [h23] at n0
    clear e h20 h23 hkl hk4 hk3 hkN hl
    go_wp2
    clear k0 f0 f1 f2 f3 f4 f5 f6 n0 n1 n2 n3 n4 c0
    go_loopw [52] (fun i wr=>∃ (i':Nat),i'≤l∧i=.int .i64 i'∧Top wr b mm (nm+i') (fileF x.nd (fun _=>none) (ms ++ kl.take i')) (.pointer a)∧Below w.heap.size w wr) (fun i _=>l - (intOf i).toNat)
    case atStart =>
     refine ⟨0,Nat.zero_le _,rfl,?_,HBR.out⟩
     rw [List.take_zero,List.append_nil,Nat.add_zero]
     exact HTOP.out
    case round =>
     obtain ⟨i,hi,rfl,htop,hbw⟩:=hrel
     clear HTOP HSR HA HBR
     have HTOP:=hid htop
     have HBR:=hid hbw
     clear htop hbw
     by_cases hil:i < l
     ·have HSR:Hid (Sv x.S w wr):=Sv.of_below HBR.out
      have HA:=hid (H.out.go HBR.out)
      have hpl:=(HK4.out _ HSR.out).2
      rcases hpl with e | ⟨g',q',rfl,hc⟩
      ·have:=HL.out;rw [e] at this;simp at this;omega
      have c0:=hc i (by have:=HL.out;omega)
      obtain ⟨z,hz⟩:∃ z,kl.getD i 0=z:=⟨_,rfl⟩
      have HZ:=hid hz
      rw [hz] at c0
      clear hc hz
      have hmem:z ∈ kl:=by
       rw [← HZ.out,List.getD_eq_getElem?_getD,List.getElem?_eq_getElem (by have:=HL.out;omega)]
       simp
      have hzN:=HKN.out z hmem
      clear hmem
      have HTI:Hid (ms ++ kl.take (i+1)=(ms ++ kl.take i) ++ [z]):=by
       show _=_
       rw [List.take_succ_eq_append_getElem (by have:=HL.out;omega)]
       have e:kl[i]'(by have:=HL.out;omega)=z:=by rw [← HZ.out,List.getD_eq_getElem?_getD,List.getElem?_eq_getElem (by have:=HL.out;omega)];simp
       rw [e,List.append_assoc]
      obtain ⟨f0,f1,f2,f3,f4,f5,f6⟩:=HA.out.five
      obtain ⟨n0,n1,n2,n3,n4⟩:=(HT.out _ HSR.out).1 z hzN
      have hmx2:nm+i < maxLen:=by unfold maxLen;omega
      go_wp2_with (first
       | (go_at_call 99;refine (add_any b mm (nm+i) _ _ _ z _ (HX.out.text z hzN) (by omega) hmx2 HTOP.out).mono ?_;rintro e w2 ⟨rfl,ht2,hg2⟩;have HT2:=hid ht2;have HB2:=hid (HBR.out.grown hg2 HBR.out.size (fun q e=>by injection e with e;omega));clear ht2 hg2))
      go_roundw
      case rel =>
       refine ⟨i+1,by omega,by go_num,?_,HB2.out⟩
       rw [HTI.out,fileF_append,fileF_one]
       exact HT2.out
      case measure=>simp [intOf];omega
     ·obtain rfl:i=l:=by omega
      have e:kl.take i=kl:=List.take_of_length_le (by have:=HL.out;omega)
      rw [e] at HTOP
      clear e
      go_wp2
      go_roundw
      case rel =>
       refine ⟨j+1,by omega,by go_num,?_,HBR.out⟩
       rw [HTK2.out,List.length_append,HNM.out,HL.out]
       exact HTOP.out
      case measure=>simp [intOf];omega
   ·have e:makersOf x.nd x.o y=[]:=by unfold makersOf;rw [if_neg h20,if_neg h23]
    have HTK2:Hid ((ks.take (j+1)).flatMap (makersOf x.nd x.o)=ms):=HTK.out.trans (by rw [e];simp)
    have q5:((x.nd y).kind == 20)=false:=by rw [beq_eq_false_iff_ne];omega
    have q6:((x.nd y).kind == 21)=false:=by rw [beq_eq_false_iff_ne];omega
    have q7:((x.nd y).kind == 23)=false:=by rw [beq_eq_false_iff_ne];omega
    clear e h20 h23
    go_wp2
    go_roundw
    case rel =>
     refine ⟨j+1,by omega,by go_num,?_,HBR.out⟩
     rw [HTK2.out,HNM.out]
     exact HTOP.out
    case measure=>simp [intOf];omega
  ·obtain rfl:j=m:=by omega
   have e:ks.take j=ks:=List.take_of_length_le (by have:=HM.out;omega)
   rw [e] at HTOP
   clear e
   go_wp2
   go_ret
   exact ⟨b,rfl,HK.out.top (Sv.of_below HBR.out) HTOP.out HSb.out HSm.out hb,HBR.out⟩
end Go.Proofs.YthnohneaanphbaaGreatDoor
namespace Go.Proofs.YthnohneaanphbaaGreatDoor
open Go.RowKit
set_option maxRecDepth 20000
def knRow (L:List (ByteArray × Nat)):List Value:=L.flatMap fun p=>[.string p.1,.int .i64 p.2]
theorem knRow_length (L:List (ByteArray × Nat)):(knRow L).length=L.length * 2:=by
 induction L with
 | nil=>rfl
 | cons p L ih =>
  unfold knRow at ih ⊢
  rw [List.flatMap_cons,List.length_append,ih,List.length_cons]
  simp;omega
theorem knRow_append (L M:List (ByteArray × Nat)):knRow (L ++ M)=knRow L ++ knRow M:=by simp [knRow]
theorem knRow_at (L:List (ByteArray × Nat)):∀ i p,L[i]?=some p→(knRow L)[i * 2]?=some (.string p.1)∧(knRow L)[i * 2+1]?=some (.int .i64 p.2):=by
 induction L with
 | nil=>intro i p h;simp at h
 | cons q L ih =>
  intro i p h
  have e:knRow (q :: L)=.string q.1 :: .int .i64 q.2 :: knRow L:=rfl
  rw [e]
  cases i with
  | zero=>simp at h;subst h;simp
  | succ i =>
   simp only [List.getElem?_cons_succ] at h
   have:=ih i p h
   rw [show (i+1) * 2=i * 2+1+1 by omega]
   simpa using this
theorem knRow_one (L:List (ByteArray × Nat)):∀ u ∈ knRow L,u.oneCell'=true:=by
 intro u hu
 obtain ⟨p,_,hp⟩:=List.mem_flatMap.1 hu
 simp at hp
 rcases hp with rfl | rfl <;> rfl
def KnR (W:World) (g c:Nat) (L:List (ByteArray × Nat)):Prop:=L.length≤c∧c≤maxLen∧∃ cur,W.heap[g]?=some (.cells cur 86 (0,0))∧cur.size=c * 2∧cur.toList.take (L.length * 2)=knRow L
theorem KnR.lt {W:World} {g c:Nat} {L:List (ByteArray × Nat)} (h:KnR W g c L):g < W.heap.size:=by
 obtain ⟨_,_,cur,h1,_⟩:=h
 exact (Array.getElem?_eq_some_iff.1 h1).1
theorem KnR.keep {W W':World} {g c:Nat} {L:List (ByteArray × Nat)} (h:KnR W g c L) (hk:W'.heap[g]?=W.heap[g]?):KnR W' g c L:=by
 obtain ⟨h1,h2,cur,h3,h4⟩:=h
 exact ⟨h1,h2,cur,hk.trans h3,h4⟩
theorem KnR.cells {W:World} {g c:Nat} {L:List (ByteArray × Nat)} (h:KnR W g c L):∀ j u,(knRow L)[j]?=some u→W.cell? ((⟨g,0,none⟩:Addr).add j)=some u:=by
 obtain ⟨_,_,cur,h3,h4,h5⟩:=h
 intro j u hj
 have hl:=(List.getElem?_eq_some_iff.1 hj).1
 rw [knRow_length] at hl
 have e1:((⟨g,0,none⟩:Addr).add j)=⟨g,j,none⟩:=by unfold Addr.add;simp;intro h;exact h.symm
 rw [e1]
 unfold World.cell?
 rw [h3]
 show cur[j]?=some u
 rw [← Array.getElem?_toList,← hj,← h5,List.getElem?_take_of_lt hl]
theorem KnR.at {W:World} {g c:Nat} {L:List (ByteArray × Nat)} (h:KnR W g c L):KnAt W g c L:=by
 refine ⟨h.1,h.2.1,h.lt,fun i p hp=>?_⟩
 obtain ⟨a,b⟩:=knRow_at L i p hp
 have e1:∀ j,((⟨g,0,none⟩:Addr).add j)=⟨g,j,none⟩:=fun j=>by unfold Addr.add;simp;intro h;exact h.symm
 have ca:=h.cells _ _ a
 have cb:=h.cells _ _ b
 rw [e1] at ca cb
 exact ⟨ca,cb⟩
theorem KnR.of_own {W:World} {B n:Nat} {v:Value} {L:List (ByteArray × Nat)} (h:W.ownsRow B 86 2 v n (knRow L)) (hn:L.length=n) (hv:¬ v=.slice none 0 0):∃ g c,v=.slice (some ⟨g,0,none⟩) n c∧B≤g∧KnR W g c L:=by
 obtain ⟨h1,⟨h2,_⟩ | ⟨g,cap,cur,h2,h3,h4,h5,h6,h7,h8⟩⟩:=h
 ·exact absurd h2 hv
 ·exact ⟨g,cap,h2,h3,by omega,h6,cur,h4,h7,by rw [hn];exact h8⟩
theorem KnR.own {W:World} {B g c:Nat} {L:List (ByteArray × Nat)} (h:KnR W g c L) (hB:B≤g):W.ownsRow B 86 2 (.slice (some ⟨g,0,none⟩) L.length c) L.length (knRow L):=by
 obtain ⟨h1,h2,cur,h3,h4,h5⟩:=h
 exact ⟨knRow_length L,.inr ⟨g,c,cur,rfl,hB,h3,h1,h2,h4,h5⟩⟩
theorem info_kn:(Tryz.prog.info? 86).map (fun i=>(i.zero,i.size,i.bytes))=some (some (.agg #[.string ⟨#[]⟩,.int .i64 0]),2,24):=by kernel_rfl
theorem Mx.kids {x:Mx} (hx:x.Ok) {w:World} (ht:Stb x.S w x.Tree) (k:Nat) (hk:k < x.N):∃ ad c,(x.o.getD k []).length≤c∧c≤maxLen∧(x.o.getD k []=[]∨∃ g,ad=some ⟨g,0,none⟩) ∧
  Stb x.S w fun W=>W.cell? ⟨x.gk,k,none⟩=some (.slice ad (x.o.getD k []).length c)∧PlA W ad (x.o.getD k []):=by
 obtain ⟨ad,c,h1,h2,h3,h4⟩:=ht.now.2.2 k hk
 refine ⟨ad,c,h2,h3,h4.imp_right fun ⟨g,h,_⟩=>⟨g,h⟩,fun W hW=>?_⟩
 have e:=(hW.cell (p:=⟨x.gk,k,none⟩) (World.block_lt_of_cell? w _ h1) hx.gk).trans h1
 obtain ⟨ad',c',h5,_,_,h6⟩:=(ht W hW).2.2 k hk
 rw [e] at h5
 cases h5
 refine ⟨e,h6.imp_right ?_⟩
 rintro ⟨g,rfl,h7⟩
 exact ⟨g,0,rfl,fun i hi=>by rw [Nat.zero_add];exact h7 i hi⟩
def GoOk (x:Mx) (k:Nat):Prop:=∀ (L:List (ByteArray × Nat)) (g c:Nat) (F:Nat × Nat→Prop) (cf:Nat→Nat) (bn:Nat→Int) (w:World),L.length+10 * k≤2000000→x.At w cf bn→Stb x.S w x.Tree→CodesOk cf F→KnR w g c L→¬ x.S g →
 Calls Tryz.prog 52 #[.pointer (some ⟨x.wb,0,none⟩),.int .i64 k,.slice (some ⟨g,0,none⟩) L.length c] w fun e w'=>e=.returned (.tuple #[])∧x.Ends w w' F bn (wk x.nd x.o k (envL L))
structure FI (R G:Nat) (w:World) (N a nn nf P:Nat) (pv:Value) (wr:World):Prop where
 gs:∃ ns fs,ns.length≤nn∧fs.length≤nf∧GS R G ns fs P wr
 parts:Parts w wr pv a N
 gd:Gd R w wr
 lt:R < w.heap.size
section
variable {R G:Nat} {w:World} {N a nn nf P:Nat} {pv:Value} {wr:World}
theorem FI.gd' (h:FI R G w N a nn nf P pv wr) {w2:World} {nn' nf' P':Nat} (hg:∃ ns fs,ns.length≤nn'∧fs.length≤nf'∧GS R G ns fs P' w2) (hk:Gd R wr w2):FI R G w N a nn' nf' P' pv w2:=⟨hg,h.parts.gd hk,h.gd.trans hk,h.lt⟩
theorem FI.next (h:FI R G w N a nn nf P pv wr) {w2:World} (hb:Below wr.heap.size wr w2):FI R G w N a nn nf P pv w2:=by
 obtain ⟨ns,fs,h1,h2,h3⟩:=h.gs
 exact h.gd' ⟨ns,fs,h1,h2,h3.next hb⟩ (Gd.of_below hb h3.bw)
theorem FI.mono (h:FI R G w N a nn nf P pv wr) {N' nn' nf' P':Nat} (h1:N≤N') (h2:nn≤nn') (h3:nf≤nf') (h4:P≤P'):FI R G w N' a nn' nf' P' pv wr:=by
 obtain ⟨ns,fs,e1,e2,e3⟩:=h.gs
 obtain ⟨xs,ls,p1,p2,p3,p4,p5⟩:=h.parts
 exact ⟨⟨ns,fs,by omega,by omega,e3.mono h4⟩,⟨xs,ls,p1,p2,p3,p4,p5.mono h1⟩,h.gd,h.lt⟩
theorem FI.g0 (h:FI R G w N a nn nf P pv wr):wr.cell? ⟨G,0,none⟩=some (.pointer (some ⟨R,0,none⟩)):=by
 obtain ⟨ns,fs,_,_,h3⟩:=h.gs
 exact h3.g0
theorem FI.psl (h:FI R G w N a nn nf P pv wr):∃ pa pc,pv=.slice pa a pc:=by
 obtain ⟨xs,ls,_,h2,_⟩:=h.parts
 exact own_sl h2
theorem FI.pick (h:FI R G w N a nn nf P pv wr) (hP:P+10≤1000000) (n:Int) (hn:n≤1000000000) :
  Calls Tryz.prog 14 #[.pointer (some ⟨R,0,none⟩),.int .i64 n] wr fun e w2=>∃ x:Nat,e=.returned (.int .i64 x)∧(x=0∨(x:Int) < n)∧FI R G w N a nn nf (P+1) pv w2:=by
 obtain ⟨ns,fs,h1,h2,h3⟩:=h.gs
 refine (pick_gs h3 hP n hn).mono ?_
 rintro e w2 ⟨x,rfl,hx,g,k⟩
 exact ⟨x,rfl,hx,h.gd' ⟨ns,fs,h1,h2,g⟩ k.d⟩
theorem FI.e {d:Int} {K Ce:Nat} (he:EOk d K Ce) (h:FI R G w N a nn nf P pv wr) (hP:P+Ce+10≤1000000) (hn:nn+Ce+10≤1000000) (hf:nf≤1000) (kind:Int) :
  Calls Tryz.prog 89 #[.pointer (some ⟨G,0,none⟩),.int .i64 kind,.int .i64 d] wr fun e w2=>∃ g n k,e=.returned (.slice (some ⟨g,0,none⟩) n k)∧Has K w2 (.slice (some ⟨g,0,none⟩) n k)∧FI R G w N a nn nf (P+Ce) pv w2:=by
 obtain ⟨ns,fs,h1,h2,h3⟩:=h.gs
 refine (e_gs he h3 hP (by omega) (by omega) kind).mono ?_
 rintro e w2 ⟨g,n,k,rfl,hl,hg,hk⟩
 exact ⟨g,n,k,rfl,hl,h.gd' ⟨ns,fs,h1,h2,hg⟩ hk.d⟩
theorem FI.def (h:FI R G w N a nn nf P pv wr) (hP:P+4000≤1000000) (hn:nn≤10000) (hf:nf≤900) (name:ByteArray) (hnm:name.size≤100) :
  Calls Tryz.prog 88 #[.pointer (some ⟨G,0,none⟩),.string name,.int .i64 3] wr fun e w2=>∃ g n k,e=.returned (.slice (some ⟨g,0,none⟩) n k)∧Has 260 w2 (.slice (some ⟨g,0,none⟩) n k)∧FI R G w N a nn (nf+2) (P+3000) pv w2:=by
 obtain ⟨ns,fs,h1,h2,h3⟩:=h.gs
 refine (def_any R G P wr ns fs name h3 hP (by omega) (by omega) hnm).mono ?_
 rintro e w2 ⟨g,n,k,fs',rfl,hl,hg,hlen,hk⟩
 exact ⟨g,n,k,rfl,hl,h.gd' ⟨ns,fs',h1,by omega,hg⟩ hk⟩
theorem FI.put1 (h:FI R G w N a nn nf P pv wr) (x:Nd) (u:Value) {K:Nat} (hu:Has K wr u) (hx:x.text.size≤1000) (hK:K≤100000) :
  Calls Tryz.prog 59 #[.agg #[.int .i64 x.kind,.int .i64 x.op,.int .i64 x.n,.string x.text,.int .i64 x.kids],.slice (some ⟨wr.heap.size,0,none⟩) 1 1] (wr.alloc (.cells #[u] 23)) fun e w2=>∃ g n k,e=.returned (.slice (some ⟨g,0,none⟩) n k)∧Has (K+1) w2 (.slice (some ⟨g,0,none⟩) n k)∧FI R G w N a nn nf P pv w2:=by
 obtain ⟨l,h1,h2⟩:=hu
 refine (over1 x u l wr h1 (by have:=h2.1;omega)).mono ?_
 rintro e w2 ⟨v,rfl,h3,h4⟩
 obtain ⟨g,n,k,rfl⟩:=h3.sl
 exact ⟨g,n,k,rfl,⟨_,h3,h2.over hx⟩,h.next h4⟩
theorem FI.putAll (h:FI R G w N a nn nf P pv wr) (x:Nd) {g k:Nat} (hv:pv=.slice (some ⟨g,0,none⟩) a k) (ha:a≤1000) (hx:x.text.size≤1000) (hK:N≤100000) :
  Calls Tryz.prog 59 #[.agg #[.int .i64 x.kind,.int .i64 x.op,.int .i64 x.n,.string x.text,.int .i64 x.kids],.slice (some ⟨g,0,none⟩) a k] wr fun e w2=>∃ g n k,e=.returned (.slice (some ⟨g,0,none⟩) n k)∧Has (N+1) w2 (.slice (some ⟨g,0,none⟩) n k)∧FI R G w N a nn nf P pv w2:=by
 obtain ⟨xs,ls,h1,h2,h3,h4,h5⟩:=h.parts
 subst hv
 have hparts:PartsIn wr (some ⟨g,0,none⟩) xs ls:=by
  refine ⟨h3,?_,h4⟩
  rcases h2.2 with ⟨e,_⟩ | ⟨g',cap,cur,e,_,b3,_,_,_,b4⟩
  ·cases e
  ·cases e
   refine .inr ⟨g,rfl,cur,b3,fun j u hu=>?_⟩
   rw [Nat.mul_one] at b4
   rw [← b4] at hu
   have hj:=(List.getElem?_eq_some_iff.1 hu).1
   rw [List.length_take] at hj
   rw [List.getElem?_take_of_lt (by omega)] at hu
   simpa using hu
 refine (l2Over_any x (some ⟨g,0,none⟩) a k xs ls wr h1 (by omega) hparts (by have:=h5.1;omega)).mono ?_
 rintro e w2 ⟨v,rfl,h6,h7⟩
 obtain ⟨g2,n2,k2,rfl⟩:=h6.sl
 exact ⟨g2,n2,k2,rfl,⟨_,h6,h5.over hx⟩,h.next h7⟩
theorem FI.parted (h:FI R G w N a nn nf P pv wr) {w2:World} {v2 u:Value} {K:Nat} {xs:List Value} {ls:List (List Nd)} (hn:xs.length=a) (hl:xs.length=ls.length) (hh:∀ (j:Nat) u l,xs[j]?=some u→ls[j]?=some l→NdIn wr u l) (hok:NdOk N ls.flatten) (hv:wr.ownsRow w.heap.size 23 1 pv a xs) (hu:Has K wr u) (hg:wr.grownBy w2 pv.ownBlock) (ho:w2.ownsRow w.heap.size 23 1 v2 (a+1) (xs ++ [u])):FI R G w (N+K) (a+1) nn nf P v2 w2:=by
 have hlo:=own_lo hv
 have keep:∀ (k:Nat) cs t fr,wr.heap[k]?=some (.cells cs t fr)→t≠23→w2.heap[k]?=wr.heap[k]?:=fun k cs t fr hc ht=>hg.block k (Array.getElem?_eq_some_iff.1 hc).1 fun e2=>by
  obtain ⟨_,cur,hc2⟩:=hlo k e2.symm
  rw [hc] at hc2
  cases hc2
  exact ht rfl
 have old:∀ k,k < w.heap.size→w2.heap[k]?=wr.heap[k]?:=fun k hk=>hg.block k (Nat.lt_of_lt_of_le hk h.gd.size) fun e=>by have:=(hlo k e.symm).1;omega
 obtain ⟨⟨ns,fs,e1,e2,c0,sz0,p0,g0,gb⟩,_,h8,h9⟩:=h
 obtain ⟨lu,u1,u2⟩:=hu
 have hnd:∀ u l,NdIn wr u l→NdIn w2 u l:=fun u l hn=>hn.keep fun g cur hc=>keep g _ _ _ hc (by decide)
 refine ⟨⟨ns,fs,e1,e2,c0,sz0,p0,g0.keep (fun k cs t fr hc ht=>keep k cs t fr hc ?_) (fun k hk=>old k (by omega)) (fun x hx=>(g0.fok x hx).other hg fun k hk=>by obtain ⟨_,cur,e5⟩:=hlo k hk;exact ⟨cur,_,e5,by decide⟩),gb⟩,⟨xs ++ [u],ls ++ [lu],by simp [hn],ho,by simp [hl],fun j u' l' hu' hl'=>?_,by rw [List.flatten_append];simpa using hok.app u2⟩,⟨hg.os.trans h8.os,hg.tape.trans h8.tape,hg.output.trans h8.output,Nat.le_trans h8.size hg.size,fun k hk=>(old k (by omega)).trans (h8.low k hk),fun k cs t fr hc ht h2=>(old k (Array.getElem?_eq_some_iff.1 hc).1).trans (h8.block k cs t fr hc ht h2)⟩,h9⟩
 ·rcases ht with ht | ⟨rfl,_⟩
  ·rintro rfl
   revert ht
   unfold GenT
   decide
  ·decide
 by_cases hj:j < xs.length
 ·rw [List.getElem?_append_left hj] at hu'
  rw [List.getElem?_append_left (by omega)] at hl'
  exact hnd _ _ (hh j u' l' hu' hl')
 ·rw [List.getElem?_append_right (by omega)] at hu'
  rw [List.getElem?_append_right (by omega)] at hl'
  have hj0:j - xs.length=0:=by
   have:=(List.getElem?_eq_some_iff.1 hu').1
   simp at this
   omega
  rw [hj0] at hu'
  rw [show j - ls.length=0 by omega] at hl'
  cases hu';cases hl'
  exact hnd _ _ u1
theorem FI.regrown (h:FI R G w N a nn nf P pv wr) {w2:World} {v2:Value} {xs:List Value} {ls:List (List Nd)} (hn:xs.length=a) (hl:xs.length=ls.length) (hh:∀ (j:Nat) u l,xs[j]?=some u→ls[j]?=some l→NdIn wr u l) (hok:NdOk N ls.flatten) (hv:wr.ownsRow w.heap.size 23 1 pv a xs) (hg:wr.grownBy w2 pv.ownBlock) (ho:w2.ownsRow w.heap.size 23 1 v2 a xs):FI R G w N a nn nf P v2 w2:=by
 have hlo:=own_lo hv
 have keep:∀ (k:Nat) cs t fr,wr.heap[k]?=some (.cells cs t fr)→t≠23→w2.heap[k]?=wr.heap[k]?:=fun k cs t fr hc ht=>hg.block k (Array.getElem?_eq_some_iff.1 hc).1 fun e2=>by
  obtain ⟨_,cur,hc2⟩:=hlo k e2.symm
  rw [hc] at hc2
  cases hc2
  exact ht rfl
 have old:∀ k,k < w.heap.size→w2.heap[k]?=wr.heap[k]?:=fun k hk=>hg.block k (Nat.lt_of_lt_of_le hk h.gd.size) fun e=>by have:=(hlo k e.symm).1;omega
 obtain ⟨⟨ns,fs,e1,e2,c0,sz0,p0,g0,gb⟩,_,h8,h9⟩:=h
 have hnd:∀ u l,NdIn wr u l→NdIn w2 u l:=fun u l hn=>hn.keep fun g cur hc=>keep g _ _ _ hc (by decide)
 refine ⟨⟨ns,fs,e1,e2,c0,sz0,p0,g0.keep (fun k cs t fr hc ht=>keep k cs t fr hc ?_) (fun k hk=>old k (by omega)) (fun x hx=>(g0.fok x hx).other hg fun k hk=>by obtain ⟨_,cur,e5⟩:=hlo k hk;exact ⟨cur,_,e5,by decide⟩),gb⟩,⟨xs,ls,hn,ho,hl,fun j u l hu hl=>hnd _ _ (hh j u l hu hl),hok⟩,⟨hg.os.trans h8.os,hg.tape.trans h8.tape,hg.output.trans h8.output,Nat.le_trans h8.size hg.size,fun k hk=>(old k (by omega)).trans (h8.low k hk),fun k cs t fr hc ht h2=>(old k (Array.getElem?_eq_some_iff.1 hc).1).trans (h8.block k cs t fr hc ht h2)⟩,h9⟩
 rcases ht with ht | ⟨rfl,_⟩
 ·rintro rfl
  revert ht
  unfold GenT
  decide
 ·decide
theorem FI.named (h:FI R G w N a nn nf P pv wr):∃ (ns:List (ByteArray × Int)) (an:Option Addr) (cn:Nat),ns.length≤nn∧wr.cell? ⟨G,1,none⟩=some (.slice an ns.length cn)∧wr.frozen? ⟨G,1,none⟩=false∧wr.ownsRow R 140 2 (.slice an ns.length cn) ns.length (seenRow ns) ∧
  ∀ (x:ByteArray × Int) (v2:Value) (w1:World),x.1.size≤100→wr.grownBy w1 (Value.slice an ns.length cn).ownBlock→w1.ownsRow R 140 2 v2 (ns.length+1) (seenRow ns ++ [.string x.1,.int .i64 x.2]) →
   w1.cell? ⟨G,1,none⟩=some (.slice an ns.length cn)∧w1.frozen? ⟨G,1,none⟩=false∧FI R G w N a (nn+1) nf P pv (w1.setCell ⟨G,1,none⟩ v2):=by
 have hself:=h
 obtain ⟨⟨ns,fs,e1,e2,c0,sz0,p0,g0,gb⟩,_,h8,h9⟩:=h
 obtain ⟨un,uf,f1,f2,f3⟩:=g0.ex
 have f4:=cell_hp f1 1
 have f5:=frozen_hp f1 1
 simp at f4
 obtain ⟨an,cn,rfl⟩:=own_sl f2
 refine ⟨ns,an,cn,e1,f4,f5,f2,fun x v2 w1 hx hg ho=>?_⟩
 obtain ⟨⟨vn2,vf2,b1,b2,b3⟩,rd2,fk2,gk2⟩:=g0.grown f2 rfl hg
 have b1':=cell_hp b1 1
 rw [f4] at b1'
 simp at b1'
 have b4:=cell_hp b2 1
 simp at b4
 have hs:=gen_set (ns':=ns ++ [x]) b2 b3 rd2 g0.le.2 fk2 v2 (by rw [seenRow_append,List.length_append];exact ho) (fun y hy=>by
  rcases List.mem_append.1 hy with hy | hy
  ·exact g0.nok y hy
  ·simp at hy;subst hy;exact hx)
 exact ⟨by rw [b1'];exact b4,frozen_hp b2 1,hself.gd' ⟨ns ++ [x],fs,by simp;omega,e2,c0,sz0,p0,hs.1,gb⟩ (gk2.trans hs.2).d⟩
end
theorem GS.set_other {R G P:Nat} {ns:List (ByteArray × Int)} {fs:List Fn} {W:World} (h:GS R G ns fs P W) {g i:Nat} {cs:Array Value} {t:TypeId} (hc:W.heap[g]?=some (.cells cs t (0,0))) (h1:¬ GenT t) (h2:t≠148) (h3:t≠3) (hR:R≤g) (v:Value):GS R G ns fs P (W.setCell ⟨g,i,none⟩ v):=by
 obtain ⟨c0,sz0,p0,g0,gb⟩:=h
 have hg:=set_grown W g i v
 have keep:∀ (k:Nat) cs' t' fr,W.heap[k]?=some (.cells cs' t' fr)→t'≠t→(W.setCell ⟨g,i,none⟩ v).heap[k]?=W.heap[k]?:=fun k cs' t' fr hc' ht=>Below.heap_setCell _ _ _ _ (fun e=>by
  have e':k=g:=e
  subst e'
  rw [hc] at hc'
  cases hc'
  exact ht rfl)
 refine ⟨c0,sz0,p0,g0.keep (fun k cs' t' fr hc' ht=>keep k cs' t' fr hc' ?_) (fun k hk=>Below.heap_setCell _ _ _ _ (by show k≠g;omega)) (fun x hx=>(g0.fok x hx).other hg fun k e=>by cases e;exact ⟨_,_,hc,h3⟩),gb⟩
 rcases ht with ht | ⟨rfl,_⟩
 ·rintro rfl
  exact h1 ht
 ·exact fun e=>h2 e.symm
end Go.Proofs.YthnohneaanphbaaGreatDoor
