import Derived.WalkKit
import Derived.WalkSpells
import Derived.WalkLawsBesides
import Derived.Deep.QuietTactic
import Derived.BigQuiet
import Derived.Deep.RegionHeld3
import Derived.Deep.RegionLaw
import Derived.Deep.DeepCutAuto
import Derived.Maps.AppendAt
import Derived.Test.YtbkmglknbflkhaaGreatDoorJ00
import Derived.Test.YtbkmglknbflkhaaGreatDoorJ03
namespace Go.Proofs.YtbkmglknbflkhaaGreatDoor.C
open Go.RowKit
set_option maxRecDepth 20000
theorem hid {p:Prop} (h:p):Hid p:=h
theorem cell_hp {W:World} {k:Nat} {cs:Array Value} {t:TypeId} (h:W.heap[k]?=some (.cells cs t (0,0))) (i:Nat):W.cell? ⟨k,i,none⟩=cs[i]?:=by unfold World.cell?;rw [h];rfl
theorem frozen_hp {W:World} {k:Nat} {cs:Array Value} {t:TypeId} (h:W.heap[k]?=some (.cells cs t (0,0))) (i:Nat):W.frozen? ⟨k,i,none⟩=false:=by unfold World.frozen?;rw [h];simp
theorem lt_hp {W:World} {k:Nat} {o:Obj} (h:W.heap[k]?=some o):k < W.heap.size:=(Array.getElem?_eq_some_iff.1 h).1
theorem hp_next {W V:World} {g:Nat} {o:Obj} (h:W.heap[g]?=some o) (hb:Below W.heap.size W V):V.heap[g]?=some o:=(hb.block g (lt_hp h)).trans h
def IntRow (W:World) (v:Value) (l:List Int):Prop:=∃ (ad:Option Addr) (c:Nat),v=.slice ad l.length c∧l.length≤c∧c≤maxLen∧(l=[]∨∃ (g:Nat) (cur:Array Value),ad=some ⟨g,0,none⟩∧W.heap[g]?=some (.cells cur 3 (0,0))∧∀ i,i < l.length→cur[i]?=some (.int .i64 (l.getD i 0)))
theorem IntRow.keep {W V:World} {v:Value} {l:List Int} (h:IntRow W v l) (hk:∀ (g:Nat) (cur:Array Value),W.heap[g]?=some (.cells cur 3 (0,0))→V.heap[g]?=W.heap[g]?):IntRow V v l:=by
 obtain ⟨ad,c,e,h1,h2,h3⟩:=h
 refine ⟨ad,c,e,h1,h2,?_⟩
 rcases h3 with h3 | ⟨g,cur,e1,e2,e3⟩
 ·exact .inl h3
 ·exact .inr ⟨g,cur,e1,(hk g cur e2).trans e2,e3⟩
theorem IntRow.next {W V:World} {v:Value} {l:List Int} (h:IntRow W v l) (hb:Below W.heap.size W V):IntRow V v l:=h.keep fun g _ hg=>hb.block g (lt_hp hg)
theorem IntRow.nil (W:World):IntRow W (.slice none 0 0) []:=⟨none,0,rfl,Nat.le_refl _,by unfold maxLen;omega,.inl rfl⟩
theorem IntRow.sl {W:World} {v:Value} {l:List Int} (h:IntRow W v l):∃ ad c,v=.slice ad l.length c:=by
 obtain ⟨ad,c,e,_⟩:=h
 exact ⟨ad,c,e⟩
theorem IntRow.at {W:World} {v:Value} {l:List Int} (h:IntRow W v l) {i:Nat} (hi:i < l.length):∃ g c,v=.slice (some ⟨g,0,none⟩) l.length c∧l.length≤c∧c≤maxLen∧g < W.heap.size∧(∀ j,j < l.length→W.cell? ⟨g,j,none⟩=some (.int .i64 (l.getD j 0))):=by
 obtain ⟨ad,c,e,h1,h2,h3⟩:=h
 rcases h3 with h3 | ⟨g,cur,e1,e2,e3⟩
 ·rw [h3] at hi;exact absurd hi (Nat.not_lt_zero _)
 ·subst e1
  exact ⟨g,c,e,h1,h2,lt_hp e2,fun j hj=>(cell_hp e2 j).trans (e3 j hj)⟩
theorem IntRow.lit (W:World) (l:List Int) (hl:l.length≤1000):IntRow (W.alloc (.cells (l.map fun x=>Value.int .i64 x).toArray 3)) (.slice (some ⟨W.heap.size,0,none⟩) l.length l.length) l:=by
 refine ⟨_,_,rfl,Nat.le_refl _,by unfold maxLen;omega,.inr ⟨W.heap.size,_,rfl,heap_alloc_new W _,fun i hi=>?_⟩⟩
 simp [hi,List.getD_eq_getElem?_getD]
theorem IntRow.own {W:World} {B:Nat} {v:Value} {l:List Int} (h:W.ownsRow B 3 1 v l.length (l.map fun x=>Value.int .i64 x)):IntRow W v l:=by
 obtain ⟨h1,⟨rfl,h2⟩ | ⟨g,cap,cur,rfl,b,c,d,e,f,t⟩⟩:=h
 ·have:l=[]:=List.eq_nil_of_length_eq_zero h2
  subst this
  exact IntRow.nil W
 ·refine ⟨_,cap,rfl,d,e,.inr ⟨g,cur,rfl,c,fun i hi=>?_⟩⟩
  rw [Nat.mul_one] at t
  have e2:(cur.toList.take l.length)[i]?=(l.map fun x=>Value.int .i64 x)[i]?:=by rw [t]
  rw [List.getElem?_take_of_lt hi] at e2
  simp [hi] at e2
  simp [List.getD_eq_getElem?_getD,hi,e2]
def InsRow (W:World) (v:Value) (l:List In):Prop:=∃ (ad:Option Addr) (c:Nat),v=.slice ad l.length c∧l.length≤c∧c≤maxLen∧(l=[]∨∃ (g:Nat) (cur:Array Value),ad=some ⟨g,0,none⟩∧W.heap[g]?=some (.cells cur 103 (0,0))∧∀ i,i < l.length →
 cur[i * 4]?=some (.int .i64 (l.getD i in0).op)∧cur[i * 4+1]?=some (.int .i64 (l.getD i in0).a)∧cur[i * 4+2]?=some (.int .i64 (l.getD i in0).n)∧cur[i * 4+3]?=some (.string (l.getD i in0).text))
theorem InsRow.keep {W V:World} {v:Value} {l:List In} (h:InsRow W v l) (hk:∀ (g:Nat) (cur:Array Value),W.heap[g]?=some (.cells cur 103 (0,0))→V.heap[g]?=W.heap[g]?):InsRow V v l:=by
 obtain ⟨ad,c,e,h1,h2,h3⟩:=h
 refine ⟨ad,c,e,h1,h2,?_⟩
 rcases h3 with h3 | ⟨g,cur,e1,e2,e3⟩
 ·exact .inl h3
 ·exact .inr ⟨g,cur,e1,(hk g cur e2).trans e2,e3⟩
theorem InsRow.next {W V:World} {v:Value} {l:List In} (h:InsRow W v l) (hb:Below W.heap.size W V):InsRow V v l:=h.keep fun g _ hg=>hb.block g (lt_hp hg)
def inV (i:In):Value:=.agg #[.int .i64 i.op,.int .i64 i.a,.int .i64 i.n,.string i.text]
theorem InsRow.at {W:World} {v:Value} {l:List In} (h:InsRow W v l) {i:Nat} (hi:i < l.length):∃ g c,v=.slice (some ⟨g,0,none⟩) l.length c∧g < W.heap.size∧(∀ j,j < l.length →
  W.cell? ⟨g,j * 4,none⟩=some (.int .i64 (l.getD j in0).op)∧W.cell? ⟨g,j * 4+1,none⟩=some (.int .i64 (l.getD j in0).a)∧W.cell? ⟨g,j * 4+2,none⟩=some (.int .i64 (l.getD j in0).n)∧W.cell? ⟨g,j * 4+3,none⟩=some (.string (l.getD j in0).text)):=by
 obtain ⟨ad,c,e,h1,h2,h3⟩:=h
 rcases h3 with h3 | ⟨g,cur,e1,e2,e3⟩
 ·rw [h3] at hi;exact absurd hi (Nat.not_lt_zero _)
 ·subst e1
  refine ⟨g,c,e,lt_hp e2,fun j hj=>?_⟩
  obtain ⟨a0,a1,a2,a3⟩:=e3 j hj
  exact ⟨(cell_hp e2 _).trans a0,(cell_hp e2 _).trans a1,(cell_hp e2 _).trans a2,(cell_hp e2 _).trans a3⟩
theorem InsRow.sl {W:World} {v:Value} {l:List In} (h:InsRow W v l):∃ ad c,v=.slice ad l.length c:=by
 obtain ⟨ad,c,e,_⟩:=h
 exact ⟨ad,c,e⟩
def FnV (W:World) (v:Value) (f:Fn):Prop:=∃ pv iv,v=.agg #[.string f.name,pv,.int .i64 f.result,.int .i64 f.slots,iv]∧IntRow W pv f.params∧InsRow W iv f.ins
theorem FnV.next {W V:World} {v:Value} {f:Fn} (h:FnV W v f) (hb:Below W.heap.size W V):FnV V v f:=by
 obtain ⟨pv,iv,e,h1,h2⟩:=h
 exact ⟨pv,iv,e,h1.next hb,h2.next hb⟩
def FnsRow (W:World) (v:Value) (l:List Fn):Prop:=∃ (ad:Option Addr) (c:Nat),v=.slice ad l.length c∧l.length≤c∧c≤maxLen∧(l=[]∨∃ (g:Nat),ad=some ⟨g,0,none⟩∧g < W.heap.size∧∀ i,i < l.length→∃ pv iv,
 W.cell? ⟨g,i * 5,none⟩=some (.string (l.getD i fn0).name)∧W.cell? ⟨g,i * 5+1,none⟩=some pv∧W.cell? ⟨g,i * 5+2,none⟩=some (.int .i64 (l.getD i fn0).result)∧W.cell? ⟨g,i * 5+3,none⟩=some (.int .i64 (l.getD i fn0).slots)∧W.cell? ⟨g,i * 5+4,none⟩=some iv ∧
 IntRow W pv (l.getD i fn0).params∧InsRow W iv (l.getD i fn0).ins)
theorem FnsRow.next {W V:World} {v:Value} {l:List Fn} (h:FnsRow W v l) (hb:Below W.heap.size W V):FnsRow V v l:=by
 obtain ⟨ad,c,e,h1,h2,h3⟩:=h
 refine ⟨ad,c,e,h1,h2,?_⟩
 rcases h3 with h3 | ⟨g,e1,e2,e3⟩
 ·exact .inl h3
 ·refine .inr ⟨g,e1,Nat.lt_of_lt_of_le e2 hb.size,fun i hi=>?_⟩
  obtain ⟨pv,iv,c0,c1,c2,c3,c4,c5,c6⟩:=e3 i hi
  exact ⟨pv,iv,(hb.cell (p:=⟨g,_,none⟩) e2).trans c0,(hb.cell (p:=⟨g,_,none⟩) e2).trans c1,(hb.cell (p:=⟨g,_,none⟩) e2).trans c2,(hb.cell (p:=⟨g,_,none⟩) e2).trans c3,(hb.cell (p:=⟨g,_,none⟩) e2).trans c4,c5.next hb,c6.next hb⟩
theorem FnsRow.at {W:World} {v:Value} {l:List Fn} (h:FnsRow W v l) {i:Nat} (hi:i < l.length):∃ g c,v=.slice (some ⟨g,0,none⟩) l.length c∧g < W.heap.size∧∃ pv iv,
  W.cell? ⟨g,i * 5,none⟩=some (.string (l.getD i fn0).name)∧W.cell? ⟨g,i * 5+1,none⟩=some pv∧W.cell? ⟨g,i * 5+2,none⟩=some (.int .i64 (l.getD i fn0).result)∧W.cell? ⟨g,i * 5+3,none⟩=some (.int .i64 (l.getD i fn0).slots)∧W.cell? ⟨g,i * 5+4,none⟩=some iv ∧
  IntRow W pv (l.getD i fn0).params∧InsRow W iv (l.getD i fn0).ins:=by
 obtain ⟨ad,c,e,h1,h2,h3⟩:=h
 rcases h3 with h3 | ⟨g,e1,e2,e3⟩
 ·rw [h3] at hi;exact absurd hi (Nat.not_lt_zero _)
 ·subst e1
  exact ⟨g,c,e,e2,e3 i hi⟩
theorem FnsRow.sl {W:World} {v:Value} {l:List Fn} (h:FnsRow W v l):∃ ad c,v=.slice ad l.length c:=by
 obtain ⟨ad,c,e,_⟩:=h
 exact ⟨ad,c,e⟩
def ShV (W:World) (v:Value) (s:Sh):Prop:=∃ a b,v=.agg #[.int .i64 (s.st:Nat),a,b]∧IntRow W a s.sl∧IntRow W b s.sk
theorem ShV.next {W V:World} {v:Value} {s:Sh} (h:ShV W v s) (hb:Below W.heap.size W V):ShV V v s:=by
 obtain ⟨a,b,e,h1,h2⟩:=h
 exact ⟨a,b,e,h1.next hb,h2.next hb⟩
theorem ret_bool {a b:Bool} (h:a=b):Ending.returned (.bool a)=.returned (.bool b):=by rw [h]
theorem ret_int {k:IntKind} {a b:Int} (h:a=b):Ending.returned (.int k a)=.returned (.int k b):=by rw [h]
def inB (n lo hi:Int):Bool:=decide (lo≤n) && decide (n≤hi)
set_option maxHeartbeats 400000 in
theorem l16In_any (n lo hi:Int) (w:World) :
  Calls Tryz.prog 22 #[.int .i64 n,.int .i64 lo,.int .i64 hi] w fun e w'=>e=.returned (.bool (inB n lo hi))∧w'=w:=by
 by_cases h1:lo≤n
 ·by_cases h2:n≤hi
  ·go_enter Tryz.func22,Tryz.ntmps22
   go_wp2
   go_ret
   exact ⟨ret_bool (by simp [inB,h1,h2]),rfl⟩
  ·go_enter Tryz.func22,Tryz.ntmps22
   go_wp2
   go_ret
   exact ⟨ret_bool (by simp [inB,h1];omega),rfl⟩
 ·go_enter Tryz.func22,Tryz.ntmps22
  go_wp2
  go_ret
  exact ⟨ret_bool (by simp [inB];omega),rfl⟩
set_option maxHeartbeats 400000 in
theorem l10Integer_c (t:Int) (w:World) :
  Calls Tryz.prog 111 #[.int .i64 t] w fun e w'=>e=.returned (.bool (isI t))∧w'=w:=by
 by_cases h1:3≤t
 ·by_cases h2:t≤10
  ·go_enter Tryz.func111,Tryz.ntmps111
   go_wp2
   go_ret
   exact ⟨ret_bool (by simp [isI,h1,h2]),rfl⟩
  ·go_enter Tryz.func111,Tryz.ntmps111
   go_wp2
   go_ret
   exact ⟨ret_bool (by simp [isI,h1];omega),rfl⟩
 ·go_enter Tryz.func111,Tryz.ntmps111
  go_wp2
  go_ret
  exact ⟨ret_bool (by simp [isI];omega),rfl⟩
set_option maxHeartbeats 1000000 in
theorem l12Un_any (op k:Int) (w:World) :
  Calls Tryz.prog 129 #[.int .i64 op,.int .i64 k] w fun e w'=>e=.returned (.int .i64 (unG op k))∧w'=w:=by
 by_cases h2:op=2
 ·subst h2
  by_cases h1:k=1
  ·subst h1
   go_enter Tryz.func129,Tryz.ntmps129
   go_wp2
   go_ret
   exact ⟨rfl,rfl⟩
  ·have h1f:(k == 1)=false:=by simpa using h1
   go_enter Tryz.func129,Tryz.ntmps129
   go_wp2
   go_ret
   exact ⟨ret_int (by simp [unG,h1]),rfl⟩
 ·have h2f:(op == 2)=false:=by simpa using h2
  cases hi:isI k
  ·have HI:Hid (isI k=false):=hi
   clear hi
   go_enter Tryz.func129,Tryz.ntmps129
   go_wp2_with (go_at_call 111;refine (l10Integer_c _ _).mono ?_;rintro e w' ⟨rfl,hw⟩;have hw2:=hw.symm;clear hw;subst hw2;rw [HI.out])
   go_ret
   exact ⟨ret_int (by simp [unG,h2,HI.out]),rfl⟩
  ·have HI:Hid (isI k=true):=hi
   clear hi
   go_enter Tryz.func129,Tryz.ntmps129
   go_wp2_with (go_at_call 111;refine (l10Integer_c _ _).mono ?_;rintro e w' ⟨rfl,hw⟩;have hw2:=hw.symm;clear hw;subst hw2;rw [HI.out])
   go_ret
   exact ⟨ret_int (by simp [unG,h2,HI.out]),rfl⟩
set_option maxHeartbeats 4000000 in
theorem l12Bin_any (op a b:Int) (w:World) (h1:3≤op) (h2:op≤18) :
  Calls Tryz.prog 130 #[.int .i64 op,.int .i64 a,.int .i64 b] w fun e w'=>e=.returned (.int .i64 (binG op a b))∧w'=w:=by
 by_cases hab:a=b
 ·subst hab
  by_cases h0:a=0
  ·subst h0
   have hnn:((0:Int) != 0)=false:=rfl
   go_enter Tryz.func130,Tryz.ntmps130
   go_wp2
   go_ret
   exact ⟨ret_int (by simp [binG]),rfl⟩
  ·have h0f:(a == 0)=false:=by simpa using h0
   have hnn:(a != a)=false:=by simp
   obtain rfl | rfl | rfl | rfl | rfl | rfl | rfl | h10:op=3∨op=4∨op=5∨op=6∨op=7∨op=8∨op=9∨10≤op:=by omega
   ·go_enter Tryz.func130,Tryz.ntmps130
    go_wp2
    go_ret
    exact ⟨ret_int (by simp [binG,h0]),rfl⟩
   ·go_enter Tryz.func130,Tryz.ntmps130
    go_wp2
    go_ret
    exact ⟨ret_int (by simp [binG,h0]),rfl⟩
   iterate 4
    ·by_cases h1b:a=1
     ·subst h1b
      go_enter Tryz.func130,Tryz.ntmps130
      go_wp2
      go_ret
      exact ⟨ret_int (by simp [binG]),rfl⟩
     ·have hbf:(a != 1)=true:=by simpa using h1b
      go_enter Tryz.func130,Tryz.ntmps130
      go_wp2
      go_ret
      exact ⟨ret_int (by simp [binG,h0,h1b]),rfl⟩
   ·by_cases h1b:a=1
    ·subst h1b
     go_enter Tryz.func130,Tryz.ntmps130
     go_wp2
     go_ret
     exact ⟨ret_int (by simp [binG]),rfl⟩
    ·have hbf:(a != 1)=true:=by simpa using h1b
     go_enter Tryz.func130,Tryz.ntmps130
     go_wp2
     go_ret
     exact ⟨ret_int (by simp [binG,h0,h1b]),rfl⟩
   ·have e1:(op == 1)=false:=by simp;omega
    have e2:(op == 2)=false:=by simp;omega
    have e3:(op == 3)=false:=by simp;omega
    have e4:(op == 4)=false:=by simp;omega
    have e5:(op == 5)=false:=by simp;omega
    have e6:(op == 6)=false:=by simp;omega
    have e7:(op == 7)=false:=by simp;omega
    have e8:(op == 8)=false:=by simp;omega
    have e9:(op == 9)=false:=by simp;omega
    have HR:Hid (binG op a a=if isI a=true then a else 0):=by
     show _=_
     unfold binG
     rw [if_neg (by simp [h0]),if_neg (by omega),if_neg (by omega),if_neg (by omega)]
    cases hi:isI a
    ·have HI:Hid (isI a=false):=hi
     clear hi
     go_enter Tryz.func130,Tryz.ntmps130
     go_wp2_with (go_at_call 111;refine (l10Integer_c _ _).mono ?_;rintro e w' ⟨rfl,hw⟩;have hw2:=hw.symm;clear hw;subst hw2;rw [HI.out])
     go_ret
     exact ⟨ret_int (by rw [HR.out,HI.out];rfl),rfl⟩
    ·have HI:Hid (isI a=true):=hi
     clear hi
     go_enter Tryz.func130,Tryz.ntmps130
     go_wp2_with (go_at_call 111;refine (l10Integer_c _ _).mono ?_;rintro e w' ⟨rfl,hw⟩;have hw2:=hw.symm;clear hw;subst hw2;rw [HI.out])
     go_ret
     exact ⟨ret_int (by rw [HR.out,HI.out];rfl),rfl⟩
 ·have hnn:(a != b)=true:=by simpa using hab
  go_enter Tryz.func130,Tryz.ntmps130
  go_wp2
  go_ret
  exact ⟨ret_int (by simp [binG,hab]),rfl⟩
def IntPart (W:World) (v:Value) (l:List Int):Prop:=∃ (ad:Option Addr) (c:Nat),v=.slice ad l.length c∧(l=[]∨∃ g o,ad=some ⟨g,o,none⟩∧g < W.heap.size∧∀ i,i < l.length→W.cell? ⟨g,o+i,none⟩=some (.int .i64 (l.getD i 0)))
theorem IntPart.next {W V:World} {v:Value} {l:List Int} (h:IntPart W v l) (hb:Below W.heap.size W V):IntPart V v l:=by
 obtain ⟨ad,c,e,h3⟩:=h
 refine ⟨ad,c,e,?_⟩
 rcases h3 with h3 | ⟨g,o,e1,e2,e3⟩
 ·exact .inl h3
 ·exact .inr ⟨g,o,e1,Nat.lt_of_lt_of_le e2 hb.size,fun i hi=>(hb.cell (p:=⟨g,o+i,none⟩) e2).trans (e3 i hi)⟩
theorem IntRow.part {W:World} {v:Value} {l:List Int} (h:IntRow W v l):IntPart W v l:=by
 obtain ⟨ad,c,e,_,_,h3⟩:=h
 refine ⟨ad,c,e,?_⟩
 rcases h3 with h3 | ⟨g,cur,e1,e2,e3⟩
 ·exact .inl h3
 ·exact .inr ⟨g,0,e1,lt_hp e2,fun i hi=>by rw [Nat.zero_add];exact (cell_hp e2 i).trans (e3 i hi)⟩
def mw (a:Int):Int:=if a=-1 then 0 else a
def WantEnd (op:Int) (w:World) (e:Ending) (w':World):Prop:=∃ v,e=.returned (.tuple #[v,.int .i64 (sig op).2])∧IntRow w' v ((sig op).1.map mw)∧Below w.heap.size w w'
theorem want_lit (op:Int) (w:World) (l:List Int) (g:Int) (hs:sig op=(l,g)) (hl:l.length≤3):WantEnd op w (.returned (.tuple #[.slice (some ⟨w.heap.size,0,none⟩) l.length l.length,.int .i64 g])) (w.alloc (.cells ((l.map mw).map fun x=>Value.int .i64 x).toArray 3)):=by
 refine ⟨_,by rw [hs],?_,(Below.refl _ _).alloc (Nat.le_refl _) _⟩
 have:=IntRow.lit w (l.map mw) (by simp;omega)
 rw [hs]
 simpa using this
set_option maxHeartbeats 4000000 in
theorem l12Wants_any (op:Int) (w:World) (h1:1≤op) (h2:op≤12):Calls Tryz.prog 113 #[.int .i64 op] w (WantEnd op w):=by
 obtain rfl | rfl | rfl | rfl | rfl | rfl | rfl | rfl | rfl | rfl | rfl | rfl:op=1∨op=2∨op=3∨op=4∨op=5∨op=6∨op=7∨op=8∨op=9∨op=10∨op=11∨op=12:=by omega
 all_goals
  clear h1 h2
  go_enter Tryz.func113,Tryz.ntmps113
  go_wp2
  go_ret2
 ·exact want_lit 1 w [2] 2 (by simp [sig]) (by simp)
 ·exact want_lit 2 w [2] 1 (by simp [sig]) (by simp)
 ·exact want_lit 3 w [2] 2 (by simp [sig]) (by simp)
 ·exact want_lit 4 w [2,2] 2 (by simp [sig]) (by simp)
 ·exact want_lit 5 w [] 2 (by simp [sig]) (by simp)
 ·exact want_lit 6 w [2] 10 (by simp [sig]) (by simp)
 ·exact want_lit 7 w [2,10] 3 (by simp [sig]) (by simp)
 ·exact want_lit 8 w [2,10,10] 2 (by simp [sig]) (by simp)
 ·exact want_lit 9 w [2,2] 10 (by simp [sig]) (by simp)
 ·exact want_lit 10 w [3] 2 (by simp [sig]) (by simp)
 ·exact want_lit 11 w [-1] 2 (by simp [sig]) (by simp)
 ·exact want_lit 12 w [2] 10 (by simp [sig]) (by simp)
theorem fitL_iff:∀ a l:List Int,fitL a l=true ↔ a.length=l.length∧∀ i,i < a.length→fitK (a.getD i 0) (l.getD i 0)=true
 | [],[]=>by simp [fitL]
 | [],_ :: _=>by simp [fitL]
 | _ :: _,[]=>by simp [fitL]
 | x :: a,y :: l=>by
  have ih:=fitL_iff a l
  simp only [fitL,Bool.and_eq_true,ih,List.length_cons]
  constructor
  ·rintro ⟨h1,h2,h3⟩
   refine ⟨by omega,fun i hi=>?_⟩
   cases i with
   | zero=>exact h1
   | succ i=>exact h3 i (by omega)
  ·rintro ⟨h1,h2⟩
   exact ⟨h2 0 (by omega),by omega,fun i hi=>h2 (i+1) (by omega)⟩
theorem fit_iff {a k:Int} (ha:a=-1∨1≤a) (hk:1≤k):fitK a k=true ↔ ¬ (¬ k=mw a∧(¬ mw a=0∨isI k=false)):=by
 unfold fitK mw
 by_cases h:a=-1
 ·subst h
  simp
  constructor
  ·rintro (h | h)
   ·omega
   ·intro _;exact h
  ·intro h2
   exact .inr (h2 (by omega))
 ·rw [if_neg h]
  have:¬ a=0:=by omega
  simp [h,this]
  omega
theorem sig_asks (op:Int):∀ x ∈ (sig op).1,x=-1∨1≤x:=by
 unfold sig;(repeat' split) <;> simp
def builtG (op:Int) (l:List Int):Int:=if fitL (sig op).1 l=true then (sig op).2 else 0
end Go.Proofs.YtbkmglknbflkhaaGreatDoor.C
