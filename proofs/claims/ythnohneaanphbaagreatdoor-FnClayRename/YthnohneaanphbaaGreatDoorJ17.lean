import Derived.Deep.RegionHeld3
import Derived.Deep.RegionLaw
import Derived.Test.YthnohneaanphbaaGreatDoorJ16
namespace Go.Proofs.YthnohneaanphbaaGreatDoor.K
open Go.RowKit
set_option maxRecDepth 20000
theorem bytes_eq {a b:ByteArray} (h:(a.toList == b.toList)=true):a=b:=by
 rw [Lib.toList_data,Lib.toList_data,beq_iff_eq] at h
 exact ByteArray.ext (Array.toList_inj.1 h)
set_option maxHeartbeats 400000 in
theorem l1Words_any (w:World) :
  Calls Tryz.prog 45 #[] w fun e w'=>e=.returned (.slice (some ⟨w.heap.size,0,none⟩) 17 17)∧w'=w.alloc (.cells (words.map fun x=>Value.string ⟨x.toArray⟩).toArray 9):=by
 go_enter Tryz.func45,Tryz.ntmps45
 go_wp2
 go_ret
 exact ⟨rfl,rfl⟩
set_option maxHeartbeats 400000 in
theorem l1Marks_any (w:World) :
  Calls Tryz.prog 103 #[] w fun e w'=>e=.returned (.slice (some ⟨w.heap.size,0,none⟩) 23 23)∧w'=w.alloc (.cells (marks.map fun x=>Value.string ⟨x.toArray⟩).toArray 9):=by
 go_enter Tryz.func103,Tryz.ntmps103
 go_wp2
 go_ret
 exact ⟨rfl,rfl⟩
set_option maxHeartbeats 400000 in
theorem l1Has_any (b n:Nat) (s:ByteArray) (ss:Nat→ByteArray) (w:World) (hn:n≤100)
  (hc:∀ i,i < n→w.cell? ⟨b,i,none⟩=some (.string (ss i))) :
  Calls Tryz.prog 24 #[.slice (some ⟨b,0,none⟩) n n,.string s] w fun e w'=>(e=.returned (.bool true)∧(∃ i,i < n∧ss i=s)∨e=.returned (.bool false)∧(∀ i,i < n→¬ ss i=s))∧w'=w:=by
 go_enter Tryz.func24,Tryz.ntmps24
 go_wp2
 go_loop [5] (fun i=>∃ k:Nat,k≤n∧i=.int .i64 k∧∀ i,i < k→¬ ss i=s) (fun i=>n - (intOf i).toNat)
 case atStart=>exact ⟨0,Nat.zero_le _,rfl,fun i h=>absurd h (Nat.not_lt_zero _)⟩
 case round =>
  obtain ⟨k,hk,rfl,hr⟩:=hrel
  have HR:Hid (∀ i,i < k→¬ ss i=s):=hr
  clear hr
  by_cases hlt:k < n
  ·have hck:=hc k hlt
   have HC:Hid (∀ i,i < n→w.cell? ⟨b,i,none⟩=some (.string (ss i))):=hc
   clear hc
   cases hq:((ss k).toList == s.toList)
   ·have HN:Hid (¬ ss k=s):=fun e=>by rw [e] at hq;simp at hq
    go_wp2
    go_round
    case rel=>exact ⟨k+1,by omega,by go_num,fun i h=>by
     rcases Nat.lt_or_eq_of_le (Nat.lt_succ_iff.1 h) with h | h
     ·exact HR.out i h
     ·subst h;exact HN.out⟩
    case measure=>simp [intOf];omega
   ·have HN:Hid (ss k=s):=bytes_eq hq
    go_wp2
    go_ret
    exact ⟨.inl ⟨rfl,k,hlt,HN.out⟩,rfl⟩
  ·go_wp2
   go_ret
   exact ⟨.inr ⟨rfl,fun i h=>HR.out i (by omega)⟩,rfl⟩
def wordS (i:Nat):ByteArray:=⟨(words.getD i []).toArray⟩
def markS (i:Nat):ByteArray:=⟨(marks.getD i []).toArray⟩
theorem cell_new_row (w:World) (cs:Array Value) (t:TypeId) (i:Nat):(w.alloc (.cells cs t)).cell? ⟨w.heap.size,i,none⟩=cs[i]?:=by
 have h:=heap_alloc_new w (.cells cs t)
 unfold World.cell?
 rw [h];rfl
theorem wordS_cell (w:World) (i:Nat) (h:i < 17):(w.alloc (.cells (words.map fun x=>Value.string ⟨x.toArray⟩).toArray 9)).cell? ⟨w.heap.size,i,none⟩=some (.string (wordS i)):=by
 rw [cell_new_row]
 have hl:i < words.length:=h
 simp [wordS,hl]
theorem markS_cell (w:World) (i:Nat) (h:i < 23):(w.alloc (.cells (marks.map fun x=>Value.string ⟨x.toArray⟩).toArray 9)).cell? ⟨w.heap.size,i,none⟩=some (.string (markS i)):=by
 rw [cell_new_row]
 have hl:i < marks.length:=h
 simp [markS,hl]
theorem wordS_mem (t:List UInt8):(∃ i,i < 17∧wordS i=⟨t.toArray⟩) ↔ t ∈ words:=by
 constructor
 ·rintro ⟨i,h,e⟩
  have hl:i < words.length:=h
  have e2:words.getD i []=t:=by
   have:=congrArg (fun b:ByteArray=>b.data.toList) e
   simpa [wordS] using this
  rw [← e2]
  simp [hl]
 ·intro h
  obtain ⟨i,hl,e⟩:=List.getElem_of_mem h
  exact ⟨i,hl,by simp [wordS,hl,e]⟩
theorem l1Has_words (s:ByteArray) (w:World) (b:Nat) (hc:∀ i,i < 17→w.cell? ⟨b,i,none⟩=some (.string (wordS i))) :
  Calls Tryz.prog 24 #[.slice (some ⟨b,0,none⟩) 17 17,.string s] w fun e w'=>e=.returned (.bool (decide (s.data.toList ∈ words)))∧w'=w:=by
 refine (l1Has_any b 17 s wordS w (by omega) hc).mono ?_
 rintro e w' ⟨⟨rfl,h⟩ | ⟨rfl,h⟩,rfl⟩
 ·exact ⟨ret_bool (by have:=(wordS_mem s.data.toList).1 (by simpa using h);simp [this]),rfl⟩
 ·refine ⟨ret_bool ?_,rfl⟩
  have:¬ s.data.toList ∈ words:=fun hm=>by
   obtain ⟨i,hi,e⟩:=(wordS_mem s.data.toList).2 hm
   exact h i hi (by simpa using e)
  simp [this]
end Go.Proofs.YthnohneaanphbaaGreatDoor.K
namespace Go.Proofs.YthnohneaanphbaaGreatDoor
open Go.RowKit Go.Maps Go.WideMaps
set_option maxRecDepth 20000
theorem BnAt.cell {W:World} {gb N:Nat} {bn:Nat→Int} (h:BnAt W gb N bn) (k:Nat) (hk:k < N):W.cell? ⟨gb,k,none⟩=some (.int .i64 (bn k))∧W.frozen? ⟨gb,k,none⟩=false:=by
 obtain ⟨cur,h1,h2,h3⟩:=h
 constructor
 ·unfold World.cell?;rw [h1];exact h3 k hk
 ·unfold World.frozen?;rw [h1];simp
theorem BnAt.set {W:World} {gb N:Nat} {bn:Nat→Int} (h:BnAt W gb N bn) (k:Nat) (hk:k < N) (v:Int):BnAt (W.setCell ⟨gb,k,none⟩ (.int .i64 v)) gb N (fun j=>if j=k then v else bn j):=by
 obtain ⟨cur,h1,h2,h3⟩:=h
 refine ⟨_,set_atC _ h1,by simp [h2],fun i hi=>?_⟩
 by_cases e:i=k
 ·subst e
  rw [Array.getElem?_setIfInBounds_self_of_lt (by omega)];simp
 ·rw [Array.getElem?_setIfInBounds_ne (fun e2=>e e2.symm)]
  simp only [if_neg e]
  exact h3 i hi
theorem Bx.At.set {x:Bx} {W:World} {bn:Nat→Int} {c a:Int} (h:x.At W bn c a) (hne:x.bb≠x.gb) (k:Nat) (hk:k < x.N) (v:Int):x.At (W.setCell ⟨x.gb,k,none⟩ (.int .i64 v)) (fun j=>if j=k then v else bn j) c a :=
 ⟨(Below.heap_setCell _ _ _ _ (fun e=>hne e)).trans h.1,h.2.set k hk v⟩
def KG (W:World) (gk N:Nat) (o:List (List Nat)):Prop:=∀ i,i < N→∃ ad c,W.cell? ⟨gk,i,none⟩=some (.slice ad (o.getD i []).length c)∧(o.getD i []).length≤c∧c≤maxLen ∧
 (o.getD i []=[]∨∃ g,ad=some ⟨g,0,none⟩∧∀ j,j < (o.getD i []).length→W.cell? ⟨g,j,none⟩=some (.int .i64 ((o.getD i []).getD j 0:Nat)))
def Bx.Tree (x:Bx) (W:World):Prop:=NodesAt W x.g x.N x.nd∧KG W x.gk x.N x.o
structure Bx.Ok (x:Bx):Prop where
 ne:x.bb≠x.gb
 N:x.N≤5000
 text:∀ i,i < x.N→(x.nd i).text.size≤maxLen
 down:Down x.o
 kidded:∀ k,k < x.N→Kidded x.nd x.o k
 len:x.o.length=x.N
 g:¬ x.S x.g
 gk:¬ x.S x.gk
 kids:∀ k,(x.o.getD k []).length≤5000
 place:∀ k,∀ j ∈ x.o.getD k [],j < x.N
 fit:∀ k,k < x.N→FitAt x.nd x.o k
set_option maxHeartbeats 1000000 in
theorem uses_any (x:Bx) (hx:x.Ok) (k:Nat) (kn:Env) (a:Option Addr) (bn:Nat→Int) (p:Int × Int) (w:World) (h:x.At w bn p.1 p.2) (ht:x.Tree w) (hk:Kn x.S w (.pointer a) kn) (hkN:k < x.N) :
  Calls Tryz.prog 64 #[.pointer (some ⟨x.bb,0,none⟩),.int .i64 k,.pointer a] w fun e w'=>e=.returned (.tuple #[])∧x.Ends w w' bn p (useE x.nd kn k):=by
 obtain ⟨f0,f1,f2,f3,f4,f5,f6⟩:=h.five
 obtain ⟨c0,c1,c2,c3,c4⟩:=ht.1 k hkN
 obtain ⟨b0,b1⟩:=h.2.cell k hkN
 have H:=hid h
 have HX:=hid hx
 have HT:=hid (hx.text k hkN)
 have HN5:=hx.N
 have HK:=hid hk
 clear h hk ht hx
 go_enter Tryz.func64,Tryz.ntmps64
 go_wp2_with fail
 go_region_with (go_at_call 96;refine (maker_any _ _ kn _ _ HT.out (HK.out _ (by repeat (first | exact Sv.refl _ _ | apply Sv.drew)))).mono ?_;rintro e w' ⟨rfl,hw⟩;have hw2:=hw.symm;clear hw;subst hw2)
 all_goals
  have HA:Hid (x.At (w.setCell ⟨x.gb,k,none⟩ (.int .i64 (kn (x.nd k).text))).drew (fun j=>if j=k then kn (x.nd k).text else bn j) p.1 p.2):=H.out.set HX.out.ne k hkN _
  have HS1:Hid (Sv x.S w (w.setCell ⟨x.gb,k,none⟩ (.int .i64 (kn (x.nd k).text))).drew):=((Sv.refl _ _).setCell (p:=⟨x.gb,k,none⟩) (.inl (.inr rfl)) _).drew
  generalize (w.setCell ⟨x.gb,k,none⟩ (.int .i64 (kn (x.nd k).text))).drew=w1 at *
  clear f0 f1 f2 f3 f4 f5 f6 b0 b1 c0 c1 c2 c3 c4
  obtain ⟨f0,f1,f2,f3,f4,f5,f6⟩:=HA.out.five
  obtain ⟨b0,b1⟩:=HA.out.2.cell k hkN
  simp only [if_true] at b0
  by_cases hm:kn (x.nd k).text=-1
  ·have HM:=hid hm
   rw [hm] at b0
   clear hm
   go_wp2_with (first
    | (go_at_call 97;refine (finds_any x 9 k _ p _ HA.out HX.out.ne).mono ?_;rintro e w' ⟨rfl,hw⟩))
   go_end0
   obtain ⟨hs,bn',ha,_⟩:=hw
   have e:useE x.nd kn k=[.bind k (kn (x.nd k).text),.flt k 9]:=by unfold useE;rw [if_pos HM.out]
   rw [e]
   exact ⟨rfl,HS1.out.trans hs,bn',ha,fun h=>by cases h⟩
  ·have HM:=hid hm
   have hq:(kn (x.nd k).text == -1)=false:=by rw [beq_eq_false_iff_ne];exact hm
   clear hm
   go_wp2
   go_end0
   have e:useE x.nd kn k=[.bind k (kn (x.nd k).text)]:=by unfold useE;rw [if_neg HM.out]
   rw [e]
   exact ⟨rfl,HS1.out,_,HA.out,fun _=>rfl⟩
end Go.Proofs.YthnohneaanphbaaGreatDoor
namespace Go.Proofs.YthnohneaanphbaaGreatDoor
open Go.RowKit
set_option maxRecDepth 20000
set_option maxHeartbeats 16000000 in
theorem e_step {d:Int} {K Ce:Nat} (he:EOk (d - 1) K Ce) (hrec:RecOk d K Ce) (hK:K≤10000) (hd:1≤d) (hd2:d≤10):EOk d (3 * K+8) (3 * Ce+60):=by
 intro s kind w h hr
 have HE:=hid he
 have HREC:=hid hrec
 have HR:=hid hr
 have HA0:=hid (sized_at h)
 have HK0:=hid HA0.out.gk
 obtain ⟨vn,vf,e1,_⟩:=h.ex
 have c4:=cell_hp e1 4
 have f4:=frozen_hp e1 4
 have c0:(w.setCell ⟨s.G,4,none⟩ (.int .i64 (s.sz - 1))).cell? ⟨s.G,0,none⟩=some (.pointer (some ⟨s.R,0,none⟩)):=HA0.out.g0
 simp at c4
 have hlo:=hr.lo
 have hhi:=hr.hi
 have hw4:IntKind.i64.wrap (s.sz - 1)=s.sz - 1:=by rw [IntKind.wrap_i64];omega
 have hdn:¬ d≤0:=by omega
 clear he hrec hr h e1
 go_enter Tryz.func89,Tryz.ntmps89
 go_wp2_with fail
 refine (pick_at HA0.out (HR.out.sub (by omega)) 40 (by omega)).mono ?_
 rintro e w1 ⟨x1,rfl,hx1,at0,gk0⟩
 have hy1:x1 < 40:=by omega
 have hz1:(x1:Int) < 40:=by omega
 clear hx1
 have HA1:=hid at0
 have HK1:=hid (HK0.out.trans gk0)
 clear at0 gk0
 clear c0 c4 f4 hw4
 have hf1:x1=0∨((x1:Int) == 0)=false:=by rcases Nat.eq_zero_or_pos x1 with h | h;exact .inl h;exact .inr (by simp;omega)
 rcases hf1 with rfl | hf1
 ·go_wp2_with fail
  refine (pick_at HA1.out (HR.out.sub (by omega)) 6 (by omega)).mono ?_
  rintro e w2 ⟨x2,rfl,hx2,at0,gk0⟩
  have hy2:x2 < 6:=by omega
  have hz2:(x2:Int) < 6:=by omega
  clear hx2
  have HA2:=hid at0
  have HK2:=hid (HK1.out.trans gk0)
  clear at0 gk0
  obtain ⟨z3,hz3⟩:=HA2.out.g4
  by_cases hzn3:z3 < 0
  ·go_wp2_with fail
   refine (leaf_at HA2.out (HR.out.sub (by omega)) _).mono ?_
   rintro e w4 hh
   obtain ⟨g4,n4,k4,rfl,l0,at0,gk0⟩:=hh.get
   clear hh
   have HA4:=hid at0
   have HK4:=hid (HK2.out.trans gk0)
   clear at0 gk0
   have HL4:=hid l0
   clear l0
   go_wp2
   go_ret
   exact HL4.out.fin HA4.out HK4.out (by omega) (by omega)
  ·go_wp2_with fail
   refine (pick_at HA2.out (HR.out.sub (by omega)) 5 (by omega)).mono ?_
   rintro e w4 ⟨x4,rfl,hx4,at0,gk0⟩
   have hy4:x4 < 5:=by omega
   have hz4:(x4:Int) < 5:=by omega
   clear hx4
   have HA4:=hid at0
   have HK4:=hid (HK2.out.trans gk0)
   clear at0 gk0
   clear hz3
   have hf4:x4=0∨((x4:Int) == 0)=false:=by rcases Nat.eq_zero_or_pos x4 with h | h;exact .inl h;exact .inr (by simp;omega)
   rcases hf4 with rfl | hf4
   ·go_wp2_with fail
    refine (leaf_at HA4.out (HR.out.sub (by omega)) _).mono ?_
    rintro e w5 hh
    obtain ⟨g5,n5,k5,rfl,l0,at0,gk0⟩:=hh.get
    clear hh
    have HA5:=hid at0
    have HK5:=hid (HK4.out.trans gk0)
    clear at0 gk0
    have HL5:=hid l0
    clear l0
    go_wp2
    go_ret
    exact HL5.out.fin HA5.out HK5.out (by omega) (by omega)
   ·go_wp2_with fail
    refine (pick_at HA4.out (HR.out.sub (by omega)) 10 (by omega)).mono ?_
    rintro e w5 ⟨x5,rfl,hx5,at0,gk0⟩
    have hy5:x5 < 10:=by omega
    have hz5:(x5:Int) < 10:=by omega
    clear hx5
    have HA5:=hid at0
    have HK5:=hid (HK4.out.trans gk0)
    clear at0 gk0
    have h7:x5=0∨x5=1∨x5=2∨x5=3∨x5=4∨x5=5∨x5=6∨x5=7∨x5=8∨x5=9:=by omega
    clear hy5 hz5
    rcases h7 with rfl | rfl | rfl | rfl | rfl | rfl | rfl | rfl | rfl | rfl
    ·go_wp2_with fail
     refine (e_at HE.out HA5.out (HR.out.sub (by omega)) _).mono ?_
     rintro e w6 hh
     obtain ⟨g6,n6,k6,rfl,l0,at0,gk0⟩:=hh.get
     clear hh
     have HA6:=hid at0
     have HK6:=hid (HK5.out.trans gk0)
     clear at0 gk0
     have HL6:=hid l0
     clear l0
     go_wp2_with fail
     refine (e_at HE.out HA6.out (HR.out.sub (by omega)) _).mono ?_
     rintro e w7 hh
     obtain ⟨g7,n7,k7,rfl,l0,at0,gk0⟩:=hh.get
     clear hh
     have HA7:=hid at0
     have HK7:=hid (HK6.out.trans gk0)
     have HL6:=hid (HL6.out.gk gk0)
     clear at0 gk0
     have HL7:=hid l0
     clear l0
     go_wp2_with fail
     refine (e_at HE.out HA7.out (HR.out.sub (by omega)) _).mono ?_
     rintro e w8 hh
     obtain ⟨g8,n8,k8,rfl,l0,at0,gk0⟩:=hh.get
     clear hh
     have HA8:=hid at0
     have HK8:=hid (HK7.out.trans gk0)
     have HL6:=hid (HL6.out.gk gk0)
     have HL7:=hid (HL7.out.gk gk0)
     clear at0 gk0
     have HL8:=hid l0
     clear l0
     go_wp2_with fail
     refine (over3_at HA8.out ⟨13,0,0,⟨#[]⟩,0⟩ _ _ _ HL6.out HL7.out HL8.out (by show (⟨#[]⟩:ByteArray).size≤1000;decide) (by omega)).mono ?_
     rintro e w9 hh
     obtain ⟨g9,n9,k9,rfl,l0,at0,gk0⟩:=hh.get
     clear hh
     clear HL6
     clear HL7
     clear HL8
     have HA9:=hid at0
     have HK9:=hid (HK8.out.trans gk0)
     clear at0 gk0
     have HL9:=hid l0
     clear l0
     go_wp2
     go_ret
     exact HL9.out.fin HA9.out HK9.out (by omega) (by omega)
    ·go_wp2_with fail
     refine (fresh_at HA5.out (HR.out.sub (by omega))).mono ?_
     rintro e w6 ⟨t6,rfl,ht6,at0,gk0⟩
     have HT6:=hid ht6
     clear ht6
     have HA6:=hid at0
     have HK6:=hid (HK5.out.trans gk0)
     clear at0 gk0
     go_wp2_with fail
     refine (pick_at HA6.out (HR.out.sub (by omega)) 6 (by omega)).mono ?_
     rintro e w7 ⟨x7,rfl,hx7,at0,gk0⟩
     have hy7:x7 < 6:=by omega
     have hz7:(x7:Int) < 6:=by omega
     clear hx7
     have HA7:=hid at0
     have HK7:=hid (HK6.out.trans gk0)
     clear at0 gk0
     go_wp2_with fail
     refine (e_at HE.out HA7.out (HR.out.sub (by omega)) _).mono ?_
     rintro e w8 hh
     obtain ⟨g8,n8,k8,rfl,l0,at0,gk0⟩:=hh.get
     clear hh
     have HA8:=hid at0
     have HK8:=hid (HK7.out.trans gk0)
     clear at0 gk0
     have HL8:=hid l0
     clear l0
     go_wp2_with fail
     refine (inside_at HE.out HA8.out (HR.out.sub (by omega)) t6 HT6.out _ _).mono ?_
     rintro e w9 hh
     obtain ⟨g9,n9,k9,rfl,l0,at0,gk0⟩:=hh.get
     clear hh
     have HA9:=hid at0
     have HK9:=hid (HK8.out.trans gk0)
     have HL8:=hid (HL8.out.gk gk0)
     clear at0 gk0
     have HL9:=hid l0
     clear l0
     go_wp2_with fail
     refine (over2_at HA9.out ⟨14,0,0,t6,0⟩ _ _ HL8.out HL9.out (by have:=HT6.out;show t6.size≤1000;omega) (by omega)).mono ?_
     rintro e w10 hh
     obtain ⟨g10,n10,k10,rfl,l0,at0,gk0⟩:=hh.get
     clear hh
     clear HL8
     clear HL9
     have HA10:=hid at0
     have HK10:=hid (HK9.out.trans gk0)
     clear at0 gk0
     have HL10:=hid l0
     clear l0
     go_wp2
     go_ret
     exact HL10.out.fin HA10.out HK10.out (by omega) (by omega)
    ·go_wp2_with fail
     refine (fresh_at HA5.out (HR.out.sub (by omega))).mono ?_
     rintro e w6 ⟨t6,rfl,ht6,at0,gk0⟩
     have HT6:=hid ht6
     clear ht6
     have HA6:=hid at0
     have HK6:=hid (HK5.out.trans gk0)
     clear at0 gk0
     have HV7:=hid ((Below.refl w6.heap.size w6).alloc (Nat.le_refl _) (.cells #[.int .i64 19,.int .i64 0,.int .i64 0,.string t6,.int .i64 0] 35))
     have at0:=HA6.out.next HV7.out
     have gk0:=HA6.out.gk_next HV7.out
     have HL7:Hid (Has 1 (w6.alloc (.cells #[.int .i64 19,.int .i64 0,.int .i64 0,.string t6,.int .i64 0] 35)) (.slice (some ⟨w6.heap.size,0,none⟩) 1 1)):=⟨_,nd_one w6 ⟨19,0,0,t6,0⟩,NdOk.one (by have:=HT6.out;show t6.size≤1000;omega)⟩
     have HA7:=hid at0
     have HK7:=hid (HK6.out.trans gk0)
     clear at0 gk0
     go_wp2_with fail
     refine (inside_at HE.out HA7.out (HR.out.sub (by omega)) t6 HT6.out _ _).mono ?_
     rintro e w8 hh
     obtain ⟨g8,n8,k8,rfl,l0,at0,gk0⟩:=hh.get
     clear hh
     have HA8:=hid at0
     have HK8:=hid (HK7.out.trans gk0)
     have HL7:=hid (HL7.out.gk gk0)
     clear at0 gk0
     have HL8:=hid l0
     clear l0
     go_wp2_with fail
     refine (over2_at HA8.out ⟨15,0,0,⟨#[]⟩,0⟩ _ _ HL7.out HL8.out (by show (⟨#[]⟩:ByteArray).size≤1000;decide) (by omega)).mono ?_
     rintro e w9 hh
     obtain ⟨g9,n9,k9,rfl,l0,at0,gk0⟩:=hh.get
     clear hh
     clear HL7
     clear HL8
     have HA9:=hid at0
     have HK9:=hid (HK8.out.trans gk0)
     clear at0 gk0
     have HL9:=hid l0
     clear l0
     go_wp2_with fail
     refine (e_at HE.out HA9.out (HR.out.sub (by omega)) _).mono ?_
     rintro e w10 hh
     obtain ⟨g10,n10,k10,rfl,l0,at0,gk0⟩:=hh.get
     clear hh
     have HA10:=hid at0
     have HK10:=hid (HK9.out.trans gk0)
     have HL9:=hid (HL9.out.gk gk0)
     clear at0 gk0
     have HL10:=hid l0
     clear l0
     go_wp2_with fail
     refine (over2_at HA10.out ⟨12,0,0,⟨#[]⟩,0⟩ _ _ HL9.out HL10.out (by show (⟨#[]⟩:ByteArray).size≤1000;decide) (by omega)).mono ?_
     rintro e w11 hh
     obtain ⟨g11,n11,k11,rfl,l0,at0,gk0⟩:=hh.get
     clear hh
     clear HL9
     clear HL10
     have HA11:=hid at0
     have HK11:=hid (HK10.out.trans gk0)
     clear at0 gk0
     have HL11:=hid l0
     clear l0
     go_wp2
     go_ret
     exact HL11.out.fin HA11.out HK11.out (by omega) (by omega)
    ·go_wp2_with fail
     refine (callF_at HE.out hK hd hd2 _ HA5.out (HR.out.sub (by omega))).mono ?_
     rintro e w6 hh
     rcases hh with ⟨g6,n6,k6,rfl,l0,at0,gk0⟩ | ⟨g6,k6,rfl,at0,gk0⟩
     ·have HA6:=hid at0
      have HK6:=hid (HK5.out.trans gk0)
      clear at0 gk0
      have HL6:=hid l0
      clear l0
      go_wp2
      go_ret
      exact HL6.out.fin HA6.out HK6.out (by omega) (by omega)
     ·have HA6:=hid at0
      have HK6:=hid (HK5.out.trans gk0)
      clear at0 gk0
      go_wp2_with fail
      refine (ofKind_at HE.out HREC.out hK hd hd2 _ HA6.out (HR.out.sub (by omega))).mono ?_
      rintro e w7 hh
      obtain ⟨g7,n7,k7,rfl,l0,at0,gk0⟩:=hh.get
      clear hh
      have HA7:=hid at0
      have HK7:=hid (HK6.out.trans gk0)
      clear at0 gk0
      have HL7:=hid l0
      clear l0
      go_wp2
      go_ret
      exact HL7.out.fin HA7.out HK7.out (by omega) (by omega)
    ·go_wp2_with fail
     refine (callF_at HE.out hK hd hd2 _ HA5.out (HR.out.sub (by omega))).mono ?_
     rintro e w6 hh
     rcases hh with ⟨g6,n6,k6,rfl,l0,at0,gk0⟩ | ⟨g6,k6,rfl,at0,gk0⟩
     ·have HA6:=hid at0
      have HK6:=hid (HK5.out.trans gk0)
      clear at0 gk0
      have HL6:=hid l0
      clear l0
      go_wp2
      go_ret
      exact HL6.out.fin HA6.out HK6.out (by omega) (by omega)
     ·have HA6:=hid at0
      have HK6:=hid (HK5.out.trans gk0)
      clear at0 gk0
      go_wp2_with fail
      refine (ofKind_at HE.out HREC.out hK hd hd2 _ HA6.out (HR.out.sub (by omega))).mono ?_
      rintro e w7 hh
      obtain ⟨g7,n7,k7,rfl,l0,at0,gk0⟩:=hh.get
      clear hh
      have HA7:=hid at0
      have HK7:=hid (HK6.out.trans gk0)
      clear at0 gk0
      have HL7:=hid l0
      clear l0
      go_wp2
      go_ret
      exact HL7.out.fin HA7.out HK7.out (by omega) (by omega)
    ·go_wp2_with fail
     refine (ofKind_at HE.out HREC.out hK hd hd2 _ HA5.out (HR.out.sub (by omega))).mono ?_
     rintro e w6 hh
     obtain ⟨g6,n6,k6,rfl,l0,at0,gk0⟩:=hh.get
     clear hh
     have HA6:=hid at0
     have HK6:=hid (HK5.out.trans gk0)
     clear at0 gk0
     have HL6:=hid l0
     clear l0
     go_wp2
     go_ret
     exact HL6.out.fin HA6.out HK6.out (by omega) (by omega)
    ·go_wp2_with fail
     refine (ofKind_at HE.out HREC.out hK hd hd2 _ HA5.out (HR.out.sub (by omega))).mono ?_
     rintro e w6 hh
     obtain ⟨g6,n6,k6,rfl,l0,at0,gk0⟩:=hh.get
     clear hh
     have HA6:=hid at0
     have HK6:=hid (HK5.out.trans gk0)
     clear at0 gk0
     have HL6:=hid l0
     clear l0
     go_wp2
     go_ret
     exact HL6.out.fin HA6.out HK6.out (by omega) (by omega)
    ·go_wp2_with fail
     refine (ofKind_at HE.out HREC.out hK hd hd2 _ HA5.out (HR.out.sub (by omega))).mono ?_
     rintro e w6 hh
     obtain ⟨g6,n6,k6,rfl,l0,at0,gk0⟩:=hh.get
     clear hh
     have HA6:=hid at0
     have HK6:=hid (HK5.out.trans gk0)
     clear at0 gk0
     have HL6:=hid l0
     clear l0
     go_wp2
     go_ret
     exact HL6.out.fin HA6.out HK6.out (by omega) (by omega)
    ·go_wp2_with fail
     refine (ofKind_at HE.out HREC.out hK hd hd2 _ HA5.out (HR.out.sub (by omega))).mono ?_
     rintro e w6 hh
     obtain ⟨g6,n6,k6,rfl,l0,at0,gk0⟩:=hh.get
     clear hh
     have HA6:=hid at0
     have HK6:=hid (HK5.out.trans gk0)
     clear at0 gk0
     have HL6:=hid l0
     clear l0
     go_wp2
     go_ret
     exact HL6.out.fin HA6.out HK6.out (by omega) (by omega)
    ·go_wp2_with fail
     refine (ofKind_at HE.out HREC.out hK hd hd2 _ HA5.out (HR.out.sub (by omega))).mono ?_
     rintro e w6 hh
     obtain ⟨g6,n6,k6,rfl,l0,at0,gk0⟩:=hh.get
     clear hh
     have HA6:=hid at0
     have HK6:=hid (HK5.out.trans gk0)
     clear at0 gk0
     have HL6:=hid l0
     clear l0
     go_wp2
     go_ret
     exact HL6.out.fin HA6.out HK6.out (by omega) (by omega)
 ·obtain ⟨z2,hz2⟩:=HA1.out.g4
  by_cases hzn2:z2 < 0
  ·go_wp2_with fail
   refine (leaf_at HA1.out (HR.out.sub (by omega)) _).mono ?_
   rintro e w3 hh
   obtain ⟨g3,n3,k3,rfl,l0,at0,gk0⟩:=hh.get
   clear hh
   have HA3:=hid at0
   have HK3:=hid (HK1.out.trans gk0)
   clear at0 gk0
   have HL3:=hid l0
   clear l0
   go_wp2
   go_ret
   exact HL3.out.fin HA3.out HK3.out (by omega) (by omega)
  ·go_wp2_with fail
   refine (pick_at HA1.out (HR.out.sub (by omega)) 5 (by omega)).mono ?_
   rintro e w3 ⟨x3,rfl,hx3,at0,gk0⟩
   have hy3:x3 < 5:=by omega
   have hz3:(x3:Int) < 5:=by omega
   clear hx3
   have HA3:=hid at0
   have HK3:=hid (HK1.out.trans gk0)
   clear at0 gk0
   clear hz2
   have hf3:x3=0∨((x3:Int) == 0)=false:=by rcases Nat.eq_zero_or_pos x3 with h | h;exact .inl h;exact .inr (by simp;omega)
   rcases hf3 with rfl | hf3
   ·go_wp2_with fail
    refine (leaf_at HA3.out (HR.out.sub (by omega)) _).mono ?_
    rintro e w4 hh
    obtain ⟨g4,n4,k4,rfl,l0,at0,gk0⟩:=hh.get
    clear hh
    have HA4:=hid at0
    have HK4:=hid (HK3.out.trans gk0)
    clear at0 gk0
    have HL4:=hid l0
    clear l0
    go_wp2
    go_ret
    exact HL4.out.fin HA4.out HK4.out (by omega) (by omega)
   ·go_wp2_with fail
    refine (pick_at HA3.out (HR.out.sub (by omega)) 10 (by omega)).mono ?_
    rintro e w4 ⟨x4,rfl,hx4,at0,gk0⟩
    have hy4:x4 < 10:=by omega
    have hz4:(x4:Int) < 10:=by omega
    clear hx4
    have HA4:=hid at0
    have HK4:=hid (HK3.out.trans gk0)
    clear at0 gk0
    have h7:x4=0∨x4=1∨x4=2∨x4=3∨x4=4∨x4=5∨x4=6∨x4=7∨x4=8∨x4=9:=by omega
    clear hy4 hz4
    rcases h7 with rfl | rfl | rfl | rfl | rfl | rfl | rfl | rfl | rfl | rfl
    ·go_wp2_with fail
     refine (e_at HE.out HA4.out (HR.out.sub (by omega)) _).mono ?_
     rintro e w5 hh
     obtain ⟨g5,n5,k5,rfl,l0,at0,gk0⟩:=hh.get
     clear hh
     have HA5:=hid at0
     have HK5:=hid (HK4.out.trans gk0)
     clear at0 gk0
     have HL5:=hid l0
     clear l0
     go_wp2_with fail
     refine (e_at HE.out HA5.out (HR.out.sub (by omega)) _).mono ?_
     rintro e w6 hh
     obtain ⟨g6,n6,k6,rfl,l0,at0,gk0⟩:=hh.get
     clear hh
     have HA6:=hid at0
     have HK6:=hid (HK5.out.trans gk0)
     have HL5:=hid (HL5.out.gk gk0)
     clear at0 gk0
     have HL6:=hid l0
     clear l0
     go_wp2_with fail
     refine (e_at HE.out HA6.out (HR.out.sub (by omega)) _).mono ?_
     rintro e w7 hh
     obtain ⟨g7,n7,k7,rfl,l0,at0,gk0⟩:=hh.get
     clear hh
     have HA7:=hid at0
     have HK7:=hid (HK6.out.trans gk0)
     have HL5:=hid (HL5.out.gk gk0)
     have HL6:=hid (HL6.out.gk gk0)
     clear at0 gk0
     have HL7:=hid l0
     clear l0
     go_wp2_with fail
     refine (over3_at HA7.out ⟨13,0,0,⟨#[]⟩,0⟩ _ _ _ HL5.out HL6.out HL7.out (by show (⟨#[]⟩:ByteArray).size≤1000;decide) (by omega)).mono ?_
     rintro e w8 hh
     obtain ⟨g8,n8,k8,rfl,l0,at0,gk0⟩:=hh.get
     clear hh
     clear HL5
     clear HL6
     clear HL7
     have HA8:=hid at0
     have HK8:=hid (HK7.out.trans gk0)
     clear at0 gk0
     have HL8:=hid l0
     clear l0
     go_wp2
     go_ret
     exact HL8.out.fin HA8.out HK8.out (by omega) (by omega)
    ·go_wp2_with fail
     refine (fresh_at HA4.out (HR.out.sub (by omega))).mono ?_
     rintro e w5 ⟨t5,rfl,ht5,at0,gk0⟩
     have HT5:=hid ht5
     clear ht5
     have HA5:=hid at0
     have HK5:=hid (HK4.out.trans gk0)
     clear at0 gk0
     go_wp2_with fail
     refine (pick_at HA5.out (HR.out.sub (by omega)) 6 (by omega)).mono ?_
     rintro e w6 ⟨x6,rfl,hx6,at0,gk0⟩
     have hy6:x6 < 6:=by omega
     have hz6:(x6:Int) < 6:=by omega
     clear hx6
     have HA6:=hid at0
     have HK6:=hid (HK5.out.trans gk0)
     clear at0 gk0
     go_wp2_with fail
     refine (e_at HE.out HA6.out (HR.out.sub (by omega)) _).mono ?_
     rintro e w7 hh
     obtain ⟨g7,n7,k7,rfl,l0,at0,gk0⟩:=hh.get
     clear hh
     have HA7:=hid at0
     have HK7:=hid (HK6.out.trans gk0)
     clear at0 gk0
     have HL7:=hid l0
     clear l0
     go_wp2_with fail
     refine (inside_at HE.out HA7.out (HR.out.sub (by omega)) t5 HT5.out _ _).mono ?_
     rintro e w8 hh
     obtain ⟨g8,n8,k8,rfl,l0,at0,gk0⟩:=hh.get
     clear hh
     have HA8:=hid at0
     have HK8:=hid (HK7.out.trans gk0)
     have HL7:=hid (HL7.out.gk gk0)
     clear at0 gk0
     have HL8:=hid l0
     clear l0
     go_wp2_with fail
     refine (over2_at HA8.out ⟨14,0,0,t5,0⟩ _ _ HL7.out HL8.out (by have:=HT5.out;show t5.size≤1000;omega) (by omega)).mono ?_
     rintro e w9 hh
     obtain ⟨g9,n9,k9,rfl,l0,at0,gk0⟩:=hh.get
     clear hh
     clear HL7
     clear HL8
     have HA9:=hid at0
     have HK9:=hid (HK8.out.trans gk0)
     clear at0 gk0
     have HL9:=hid l0
     clear l0
     go_wp2
     go_ret
     exact HL9.out.fin HA9.out HK9.out (by omega) (by omega)
    ·go_wp2_with fail
     refine (fresh_at HA4.out (HR.out.sub (by omega))).mono ?_
     rintro e w5 ⟨t5,rfl,ht5,at0,gk0⟩
     have HT5:=hid ht5
     clear ht5
     have HA5:=hid at0
     have HK5:=hid (HK4.out.trans gk0)
     clear at0 gk0
     have HV6:=hid ((Below.refl w5.heap.size w5).alloc (Nat.le_refl _) (.cells #[.int .i64 19,.int .i64 0,.int .i64 0,.string t5,.int .i64 0] 35))
     have at0:=HA5.out.next HV6.out
     have gk0:=HA5.out.gk_next HV6.out
     have HL6:Hid (Has 1 (w5.alloc (.cells #[.int .i64 19,.int .i64 0,.int .i64 0,.string t5,.int .i64 0] 35)) (.slice (some ⟨w5.heap.size,0,none⟩) 1 1)):=⟨_,nd_one w5 ⟨19,0,0,t5,0⟩,NdOk.one (by have:=HT5.out;show t5.size≤1000;omega)⟩
     have HA6:=hid at0
     have HK6:=hid (HK5.out.trans gk0)
     clear at0 gk0
     go_wp2_with fail
     refine (inside_at HE.out HA6.out (HR.out.sub (by omega)) t5 HT5.out _ _).mono ?_
     rintro e w7 hh
     obtain ⟨g7,n7,k7,rfl,l0,at0,gk0⟩:=hh.get
     clear hh
     have HA7:=hid at0
     have HK7:=hid (HK6.out.trans gk0)
     have HL6:=hid (HL6.out.gk gk0)
     clear at0 gk0
     have HL7:=hid l0
     clear l0
     go_wp2_with fail
     refine (over2_at HA7.out ⟨15,0,0,⟨#[]⟩,0⟩ _ _ HL6.out HL7.out (by show (⟨#[]⟩:ByteArray).size≤1000;decide) (by omega)).mono ?_
     rintro e w8 hh
     obtain ⟨g8,n8,k8,rfl,l0,at0,gk0⟩:=hh.get
     clear hh
     clear HL6
     clear HL7
     have HA8:=hid at0
     have HK8:=hid (HK7.out.trans gk0)
     clear at0 gk0
     have HL8:=hid l0
     clear l0
     go_wp2_with fail
     refine (e_at HE.out HA8.out (HR.out.sub (by omega)) _).mono ?_
     rintro e w9 hh
     obtain ⟨g9,n9,k9,rfl,l0,at0,gk0⟩:=hh.get
     clear hh
     have HA9:=hid at0
     have HK9:=hid (HK8.out.trans gk0)
     have HL8:=hid (HL8.out.gk gk0)
     clear at0 gk0
     have HL9:=hid l0
     clear l0
     go_wp2_with fail
     refine (over2_at HA9.out ⟨12,0,0,⟨#[]⟩,0⟩ _ _ HL8.out HL9.out (by show (⟨#[]⟩:ByteArray).size≤1000;decide) (by omega)).mono ?_
     rintro e w10 hh
     obtain ⟨g10,n10,k10,rfl,l0,at0,gk0⟩:=hh.get
     clear hh
     clear HL8
     clear HL9
     have HA10:=hid at0
     have HK10:=hid (HK9.out.trans gk0)
     clear at0 gk0
     have HL10:=hid l0
     clear l0
     go_wp2
     go_ret
     exact HL10.out.fin HA10.out HK10.out (by omega) (by omega)
    ·go_wp2_with fail
     refine (callF_at HE.out hK hd hd2 _ HA4.out (HR.out.sub (by omega))).mono ?_
     rintro e w5 hh
     rcases hh with ⟨g5,n5,k5,rfl,l0,at0,gk0⟩ | ⟨g5,k5,rfl,at0,gk0⟩
     ·have HA5:=hid at0
      have HK5:=hid (HK4.out.trans gk0)
      clear at0 gk0
      have HL5:=hid l0
      clear l0
      go_wp2
      go_ret
      exact HL5.out.fin HA5.out HK5.out (by omega) (by omega)
     ·have HA5:=hid at0
      have HK5:=hid (HK4.out.trans gk0)
      clear at0 gk0
      go_wp2_with fail
      refine (ofKind_at HE.out HREC.out hK hd hd2 _ HA5.out (HR.out.sub (by omega))).mono ?_
      rintro e w6 hh
      obtain ⟨g6,n6,k6,rfl,l0,at0,gk0⟩:=hh.get
      clear hh
      have HA6:=hid at0
      have HK6:=hid (HK5.out.trans gk0)
      clear at0 gk0
      have HL6:=hid l0
      clear l0
      go_wp2
      go_ret
      exact HL6.out.fin HA6.out HK6.out (by omega) (by omega)
    ·go_wp2_with fail
     refine (callF_at HE.out hK hd hd2 _ HA4.out (HR.out.sub (by omega))).mono ?_
     rintro e w5 hh
     rcases hh with ⟨g5,n5,k5,rfl,l0,at0,gk0⟩ | ⟨g5,k5,rfl,at0,gk0⟩
     ·have HA5:=hid at0
      have HK5:=hid (HK4.out.trans gk0)
      clear at0 gk0
      have HL5:=hid l0
      clear l0
      go_wp2
      go_ret
      exact HL5.out.fin HA5.out HK5.out (by omega) (by omega)
     ·have HA5:=hid at0
      have HK5:=hid (HK4.out.trans gk0)
      clear at0 gk0
      go_wp2_with fail
      refine (ofKind_at HE.out HREC.out hK hd hd2 _ HA5.out (HR.out.sub (by omega))).mono ?_
      rintro e w6 hh
      obtain ⟨g6,n6,k6,rfl,l0,at0,gk0⟩:=hh.get
      clear hh
      have HA6:=hid at0
      have HK6:=hid (HK5.out.trans gk0)
      clear at0 gk0
      have HL6:=hid l0
      clear l0
      go_wp2
      go_ret
      exact HL6.out.fin HA6.out HK6.out (by omega) (by omega)
    ·go_wp2_with fail
     refine (ofKind_at HE.out HREC.out hK hd hd2 _ HA4.out (HR.out.sub (by omega))).mono ?_
     rintro e w5 hh
     obtain ⟨g5,n5,k5,rfl,l0,at0,gk0⟩:=hh.get
     clear hh
     have HA5:=hid at0
     have HK5:=hid (HK4.out.trans gk0)
     clear at0 gk0
     have HL5:=hid l0
     clear l0
     go_wp2
     go_ret
     exact HL5.out.fin HA5.out HK5.out (by omega) (by omega)
    ·go_wp2_with fail
     refine (ofKind_at HE.out HREC.out hK hd hd2 _ HA4.out (HR.out.sub (by omega))).mono ?_
     rintro e w5 hh
     obtain ⟨g5,n5,k5,rfl,l0,at0,gk0⟩:=hh.get
     clear hh
     have HA5:=hid at0
     have HK5:=hid (HK4.out.trans gk0)
     clear at0 gk0
     have HL5:=hid l0
     clear l0
     go_wp2
     go_ret
     exact HL5.out.fin HA5.out HK5.out (by omega) (by omega)
    ·go_wp2_with fail
     refine (ofKind_at HE.out HREC.out hK hd hd2 _ HA4.out (HR.out.sub (by omega))).mono ?_
     rintro e w5 hh
     obtain ⟨g5,n5,k5,rfl,l0,at0,gk0⟩:=hh.get
     clear hh
     have HA5:=hid at0
     have HK5:=hid (HK4.out.trans gk0)
     clear at0 gk0
     have HL5:=hid l0
     clear l0
     go_wp2
     go_ret
     exact HL5.out.fin HA5.out HK5.out (by omega) (by omega)
    ·go_wp2_with fail
     refine (ofKind_at HE.out HREC.out hK hd hd2 _ HA4.out (HR.out.sub (by omega))).mono ?_
     rintro e w5 hh
     obtain ⟨g5,n5,k5,rfl,l0,at0,gk0⟩:=hh.get
     clear hh
     have HA5:=hid at0
     have HK5:=hid (HK4.out.trans gk0)
     clear at0 gk0
     have HL5:=hid l0
     clear l0
     go_wp2
     go_ret
     exact HL5.out.fin HA5.out HK5.out (by omega) (by omega)
    ·go_wp2_with fail
     refine (ofKind_at HE.out HREC.out hK hd hd2 _ HA4.out (HR.out.sub (by omega))).mono ?_
     rintro e w5 hh
     obtain ⟨g5,n5,k5,rfl,l0,at0,gk0⟩:=hh.get
     clear hh
     have HA5:=hid at0
     have HK5:=hid (HK4.out.trans gk0)
     clear at0 gk0
     have HL5:=hid l0
     clear l0
     go_wp2
     go_ret
     exact HL5.out.fin HA5.out HK5.out (by omega) (by omega)
end Go.Proofs.YthnohneaanphbaaGreatDoor
