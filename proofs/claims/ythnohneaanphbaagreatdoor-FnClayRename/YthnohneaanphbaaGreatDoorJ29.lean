import Derived.Deep.DeepCutAuto
import Derived.Test.YthnohneaanphbaaGreatDoorJ00
import Derived.Test.YthnohneaanphbaaGreatDoorJ17
import Derived.Test.YthnohneaanphbaaGreatDoorJ16
namespace Go.Proofs.YthnohneaanphbaaGreatDoor
open Go.RowKit
set_option maxRecDepth 20000
def fixT:List (List UInt8):=[
 [108,101,116,32,115,48,32,61,32,108,101,116,32,110,49,32,61,32,49,32,105,110,32,91,110,49,32,102,111,114,32,110,49,32,105,110,32,91,110,49,93,93,59,10,101,109,105,116,32,123,118,58,32,115,48,125,59,10],
 [108,101,116,32,115,48,32,61,32,108,101,116,32,110,49,32,61,32,49,32,105,110,32,91,110,49,32,43,32,110,50,32,102,111,114,32,110,50,32,105,110,32,91,110,49,93,32,105,102,32,110,49,32,61,61,32,110,50,93,59,10,101,109,105,116,32,123,118,58,32,115,48,125,59,10],
 [108,101,116,32,115,48,32,61,32,108,101,116,32,110,49,32,61,32,49,32,105,110,32,40,102,110,40,110,49,32,61,32,50,41,32,61,62,32,110,49,41,40,41,32,43,32,110,49,59,10,101,109,105,116,32,123,118,58,32,115,48,125,59,10],
 [108,101,116,32,115,48,32,61,32,108,101,116,32,110,49,32,61,32,49,32,105,110,32,40,102,110,40,110,50,44,32,110,49,32,61,32,110,49,41,32,61,62,32,91,110,49,44,32,110,50,93,41,40,110,49,41,59,10,101,109,105,116,32,123,118,58,32,115,48,125,59,10],
 [108,101,116,32,115,48,32,61,32,108,101,116,32,110,49,32,61,32,49,32,105,110,32,40,102,110,40,110,49,44,32,110,50,32,61,32,110,49,41,32,61,62,32,91,110,49,44,32,110,50,93,41,40,55,41,59,10,101,109,105,116,32,123,118,58,32,115,48,125,59,10],
 [108,101,116,32,121,32,61,32,53,59,10,100,101,102,32,102,40,120,44,32,121,32,61,32,121,41,32,61,32,91,120,44,32,121,93,59,10,101,109,105,116,32,123,118,58,32,102,40,49,41,125,59,10],
 [100,101,102,32,102,40,120,44,32,121,32,61,32,121,41,32,61,32,120,59,10],
 [100,101,102,32,102,40,120,32,61,32,120,41,32,61,32,120,59,10,108,101,116,32,120,32,61,32,51,59,10,101,109,105,116,32,123,118,58,32,102,40,41,125,59,10],
 [108,101,116,32,115,48,32,61,32,108,101,116,32,110,49,32,61,32,34,110,101,119,95,110,97,109,101,34,32,105,110,32,110,49,32,43,32,34,110,50,34,59,10,101,109,105,116,32,123,110,101,119,95,110,97,109,101,58,32,115,48,44,32,118,58,32,115,48,46,110,49,125,59,10],
 [100,101,102,32,108,101,110,40,120,41,32,61,32,55,59,10,108,101,116,32,97,32,61,32,108,101,110,40,49,41,59,10,101,109,105,116,32,123,118,58,32,97,125,59,10],
 [108,101,116,32,97,32,61,32,108,101,110,40,91,49,93,41,59,10,100,101,102,32,108,101,110,40,120,41,32,61,32,55,59,10,101,109,105,116,32,123,118,58,32,97,125,59,10],
 [108,101,116,32,110,32,61,32,49,59,10,108,101,116,32,102,32,61,32,102,110,40,120,41,32,61,62,32,110,32,43,32,120,59,10,100,101,102,32,103,40,110,41,32,61,32,102,40,110,41,59,10,101,109,105,116,32,123,118,58,32,103,40,49,48,41,125,59,10],
 [108,101,116,32,102,32,61,32,102,110,40,120,41,32,61,62,32,91,120,44,32,110,93,59,10,108,101,116,32,115,48,32,61,32,108,101,116,32,110,32,61,32,50,32,105,110,32,102,40,110,41,59,10,108,101,116,32,110,32,61,32,57,59,10],
 [108,101,116,32,114,32,61,32,123,97,58,32,49,125,59,10,101,109,105,116,32,123,118,58,32,115,111,114,116,101,100,40,91,114,44,32,123,98,58,32,50,125,44,32,114,93,41,44,32,119,58,32,117,110,105,113,117,101,40,91,114,44,32,123,98,58,32,50,125,44,32,114,93,41,125,59,10],
 [101,109,105,116,32,123,95,58,32,49,44,32,95,95,58,32,123,95,97,58,32,50,125,44,32,34,97,45,98,34,58,32,51,125,59,10]]
theorem fix_len:fixT.length=15:=rfl
def fixB (l:List UInt8):Bool:=decide (l.length≤8000) && decide ((scanR l).1.length≤1000) && (scanR l).1.all (fun t=>decide (t.text.length≤1000))
theorem fix_all:fixT.all fixB=true:=by kernel_rfl
def fixS (i:Nat):ByteArray:=⟨(fixT.getD i []).toArray⟩
theorem fix_ok (i:Nat) (h:i < 15):(fixS i).size≤8000∧(scanR (fixS i).data.toList).1.length≤1000∧∀ t ∈ (scanR (fixS i).data.toList).1,t.text.length≤1000:=by
 have hm:fixT.getD i [] ∈ fixT:=by rw [List.getD_eq_getElem?_getD,List.getElem?_eq_getElem (by rw [fix_len];exact h)];exact List.getElem_mem _
 have hb:=List.all_eq_true.1 fix_all _ hm
 unfold fixB at hb
 simp only [Bool.and_eq_true,decide_eq_true_eq,List.all_eq_true] at hb
 obtain ⟨⟨h1,h2⟩,h3⟩:=hb
 have e:(fixS i).data.toList=fixT.getD i []:=by unfold fixS;simp
 refine ⟨?_,by rw [e];exact h2,fun t ht=>by rw [e] at ht;exact h3 t ht⟩
 have:(fixS i).size=(fixT.getD i []).length:=by unfold fixS;simp [ByteArray.size]
 rw [this]
 exact h1
set_option maxHeartbeats 2000000 in
theorem l2Fixed_any (w:World) :
  Calls Tryz.prog 30 #[] w fun e w'=>e=.returned (.slice (some ⟨w.heap.size,0,none⟩) 15 15)∧(∀ i,i < 15→w'.cell? ⟨w.heap.size,i,none⟩=some (.string (fixS i)))∧Below w.heap.size w w':=by
 have HC:Hid (∀ i,i < 15→(w.alloc (.cells #[.string ⟨#[108,101,116,32,115,48,32,61,32,108,101,116,32,110,49,32,61,32,49,32,105,110,32,91,110,49,32,102,111,114,32,110,49,32,105,110,32,91,110,49,93,93,59,10,101,109,105,116,32,123,118,58,32,115,48,125,59,10]⟩,.string ⟨#[108,101,116,32,115,48,32,61,32,108,101,116,32,110,49,32,61,32,49,32,105,110,32,91,110,49,32,43,32,110,50,32,102,111,114,32,110,50,32,105,110,32,91,110,49,93,32,105,102,32,110,49,32,61,61,32,110,50,93,59,10,101,109,105,116,32,123,118,58,32,115,48,125,59,10]⟩,.string ⟨#[108,101,116,32,115,48,32,61,32,108,101,116,32,110,49,32,61,32,49,32,105,110,32,40,102,110,40,110,49,32,61,32,50,41,32,61,62,32,110,49,41,40,41,32,43,32,110,49,59,10,101,109,105,116,32,123,118,58,32,115,48,125,59,10]⟩,.string ⟨#[108,101,116,32,115,48,32,61,32,108,101,116,32,110,49,32,61,32,49,32,105,110,32,40,102,110,40,110,50,44,32,110,49,32,61,32,110,49,41,32,61,62,32,91,110,49,44,32,110,50,93,41,40,110,49,41,59,10,101,109,105,116,32,123,118,58,32,115,48,125,59,10]⟩,.string ⟨#[108,101,116,32,115,48,32,61,32,108,101,116,32,110,49,32,61,32,49,32,105,110,32,40,102,110,40,110,49,44,32,110,50,32,61,32,110,49,41,32,61,62,32,91,110,49,44,32,110,50,93,41,40,55,41,59,10,101,109,105,116,32,123,118,58,32,115,48,125,59,10]⟩,.string ⟨#[108,101,116,32,121,32,61,32,53,59,10,100,101,102,32,102,40,120,44,32,121,32,61,32,121,41,32,61,32,91,120,44,32,121,93,59,10,101,109,105,116,32,123,118,58,32,102,40,49,41,125,59,10]⟩,.string ⟨#[100,101,102,32,102,40,120,44,32,121,32,61,32,121,41,32,61,32,120,59,10]⟩,.string ⟨#[100,101,102,32,102,40,120,32,61,32,120,41,32,61,32,120,59,10,108,101,116,32,120,32,61,32,51,59,10,101,109,105,116,32,123,118,58,32,102,40,41,125,59,10]⟩,.string ⟨#[108,101,116,32,115,48,32,61,32,108,101,116,32,110,49,32,61,32,34,110,101,119,95,110,97,109,101,34,32,105,110,32,110,49,32,43,32,34,110,50,34,59,10,101,109,105,116,32,123,110,101,119,95,110,97,109,101,58,32,115,48,44,32,118,58,32,115,48,46,110,49,125,59,10]⟩,.string ⟨#[100,101,102,32,108,101,110,40,120,41,32,61,32,55,59,10,108,101,116,32,97,32,61,32,108,101,110,40,49,41,59,10,101,109,105,116,32,123,118,58,32,97,125,59,10]⟩,.string ⟨#[108,101,116,32,97,32,61,32,108,101,110,40,91,49,93,41,59,10,100,101,102,32,108,101,110,40,120,41,32,61,32,55,59,10,101,109,105,116,32,123,118,58,32,97,125,59,10]⟩,.string ⟨#[108,101,116,32,110,32,61,32,49,59,10,108,101,116,32,102,32,61,32,102,110,40,120,41,32,61,62,32,110,32,43,32,120,59,10,100,101,102,32,103,40,110,41,32,61,32,102,40,110,41,59,10,101,109,105,116,32,123,118,58,32,103,40,49,48,41,125,59,10]⟩,.string ⟨#[108,101,116,32,102,32,61,32,102,110,40,120,41,32,61,62,32,91,120,44,32,110,93,59,10,108,101,116,32,115,48,32,61,32,108,101,116,32,110,32,61,32,50,32,105,110,32,102,40,110,41,59,10,108,101,116,32,110,32,61,32,57,59,10]⟩,.string ⟨#[108,101,116,32,114,32,61,32,123,97,58,32,49,125,59,10,101,109,105,116,32,123,118,58,32,115,111,114,116,101,100,40,91,114,44,32,123,98,58,32,50,125,44,32,114,93,41,44,32,119,58,32,117,110,105,113,117,101,40,91,114,44,32,123,98,58,32,50,125,44,32,114,93,41,125,59,10]⟩,.string ⟨#[101,109,105,116,32,123,95,58,32,49,44,32,95,95,58,32,123,95,97,58,32,50,125,44,32,34,97,45,98,34,58,32,51,125,59,10]⟩] 9)).cell? ⟨w.heap.size,i,none⟩=some (.string (fixS i))):=fun i hi=>by
  rw [cell_new_row]
  obtain rfl | rfl | rfl | rfl | rfl | rfl | rfl | rfl | rfl | rfl | rfl | rfl | rfl | rfl | rfl:i=0∨i=1∨i=2∨i=3∨i=4∨i=5∨i=6∨i=7∨i=8∨i=9∨i=10∨i=11∨i=12∨i=13∨i=14:=by omega
  all_goals rfl
 go_enter Tryz.func30,Tryz.ntmps30
 go_wp2
 go_ret
 exact ⟨rfl,HC.out,(Below.refl _ _).alloc (Nat.le_refl _) _⟩
end Go.Proofs.YthnohneaanphbaaGreatDoor
namespace Go.Proofs.YthnohneaanphbaaGreatDoor
open Go.RowKit Go.Maps Go.WideMaps
set_option maxRecDepth 20000
set_option maxHeartbeats 1000000 in
theorem makes_any (x:Bx) (hx:x.Ok) (k:Nat) (kn:Env) (a:Option Addr) (bn:Nat→Int) (p:Int × Int) (w:World) (h:x.At w bn p.1 p.2) (ht:x.Tree w) (hk:Kn x.S w (.pointer a) kn) (hkN:k < x.N) :
  Calls Tryz.prog 68 #[.pointer (some ⟨x.bb,0,none⟩),.int .i64 k,.pointer a] w fun e w'=>e=.returned (.tuple #[])∧x.Ends w w' bn p (mkE x.nd kn k):=by
 obtain ⟨f0,f1,f2,f3,f4,f5,f6⟩:=h.five
 obtain ⟨c0,c1,c2,c3,c4⟩:=ht.1 k hkN
 have H:=hid h
 have HX:=hid hx
 have HT:=hid (hx.text k hkN)
 have HN5:=hx.N
 have HK:=hid hk.now
 clear h hk ht hx
 go_enter Tryz.func68,Tryz.ntmps68
 by_cases hm:kn (x.nd k).text=(k:Int)
 ·have HM:=hid hm
  clear hm
  go_wp2_with (first
   | (go_at_call 96;refine (maker_any _ _ kn _ _ HT.out HK.out).mono ?_;rintro e w' ⟨rfl,hw⟩;have hw2:=hw.symm;clear hw;subst hw2;rw [HM.out]))
  go_end0
  have e:mkE x.nd kn k=[]:=by unfold mkE;rw [if_pos HM.out]
  rw [e]
  exact ⟨rfl,Bx.Ends.nil H.out⟩
 ·have HM:=hid hm
  have hq:(kn (x.nd k).text != (k:Int))=true:=by rw [bne_iff_ne];exact hm
  clear hm
  go_wp2_with (first
   | (go_at_call 96;refine (maker_any _ _ kn _ _ HT.out HK.out).mono ?_;rintro e w' ⟨rfl,hw⟩;have hw2:=hw.symm;clear hw;subst hw2)
   | (go_at_call 97;refine (finds_any x 8 k bn p _ H.out HX.out.ne).mono ?_;rintro e w' ⟨rfl,hw⟩))
  go_end0
  have e:mkE x.nd kn k=[.flt k 8]:=by unfold mkE;rw [if_neg HM.out]
  rw [e]
  exact ⟨rfl,hw⟩
def PlA (W:World) (ad:Option Addr) (ks:List Nat):Prop:=ks=[]∨∃ g q,ad=some ⟨g,q,none⟩∧∀ i,i < ks.length→W.cell? ⟨g,q+i,none⟩=some (.int .i64 (ks.getD i 0:Nat))
theorem Bx.Ends.more {x:Bx} {w w1 w2:World} {bn:Nat→Int} {p:Int × Int} {e1 e2:List Ev} (h1:x.Ends w w1 bn p e1) (h2:∀ bn',x.At w1 bn' (ft p (fls e1)).1 (ft p (fls e1)).2→(fls e1=[]→bn'=apB bn e1)→x.Ends w1 w2 bn' (ft p (fls e1)) e2):x.Ends w w2 bn p (e1 ++ e2):=by
 obtain ⟨s1,b1,a1,n1⟩:=h1
 obtain ⟨s2,b2,a2,n2⟩:=h2 b1 a1 n1
 refine ⟨s1.trans s2,b2,by rw [fls_append,ft_append];exact a2,fun h=>?_⟩
 rw [fls_append] at h
 obtain ⟨e1,e2⟩:=List.append_eq_nil_iff.1 h
 rw [n2 e2,n1 e1,apB_append]
def WalkOk (x:Bx) (k:Nat):Prop:=∀ (kn:Env) (a:Option Addr) (bn:Nat→Int) (p:Int × Int) (w:World),x.At w bn p.1 p.2→Stb x.S w x.Tree→Kn x.S w (.pointer a) kn →
 Calls Tryz.prog 36 #[.pointer (some ⟨x.bb,0,none⟩),.int .i64 k,.pointer a] w fun e w'=>e=.returned (.tuple #[])∧x.Ends w w' bn p (wk x.nd x.o k kn)
def WalksTo (x:Bx) (k:Nat) (E:Env→List Ev) (kn:Env):Prop:=∀ (a:Option Addr) (bn:Nat→Int) (p:Int × Int) (w:World),x.At w bn p.1 p.2→Stb x.S w x.Tree→Kn x.S w (.pointer a) kn →
 Calls Tryz.prog 36 #[.pointer (some ⟨x.bb,0,none⟩),.int .i64 k,.pointer a] w fun e w'=>e=.returned (.tuple #[])∧x.Ends w w' bn p (E kn)
set_option maxHeartbeats 1000000 in
theorem walkAll_of (x:Bx) (ks:List Nat) (kn:Env) (E:Nat→Env→List Ev) (hw:∀ j ∈ ks,WalksTo x j (E j) kn) (ad:Option Addr) (cp:Nat) (a:Option Addr) (bn:Nat→Int) (p:Int × Int) (w:World) (hl:ks.length≤5000) (hp:Stb x.S w fun W=>PlA W ad ks) (h:x.At w bn p.1 p.2) (ht:Stb x.S w x.Tree) (hk:Kn x.S w (.pointer a) kn) :
  Calls Tryz.prog 65 #[.pointer (some ⟨x.bb,0,none⟩),.slice ad ks.length cp,.pointer a] w fun e w'=>e=.returned (.tuple #[])∧x.Ends w w' bn p (ks.flatMap fun j=>E j kn):=by
 have HW:=hid hw
 have HP:=hid hp
 have H:=hid h
 have HT:=hid ht
 have HK:=hid hk
 clear hw hp h ht hk
 obtain ⟨m,hm⟩:∃ m,ks.length=m:=⟨_,rfl⟩
 have HL:=hid hm
 rw [hm] at hl ⊢
 clear hm
 go_enter Tryz.func65,Tryz.ntmps65
 go_wp2
 go_loopw [10] (fun i wr=>∃ j:Nat,j≤m∧i=.int .i64 j∧x.Ends w wr bn p ((ks.take j).flatMap fun j=>E j kn)) (fun i _=>m - (intOf i).toNat)
 case atStart=>exact ⟨0,Nat.zero_le _,rfl,Bx.Ends.nil H.out⟩
 case round =>
  obtain ⟨j,hj,rfl,hen⟩:=hrel
  have HEN:=hid hen
  clear hen
  by_cases hlt:j < m
  ·have hpl:=HP.out _ HEN.out.1
   rcases hpl with e | ⟨g,q,rfl,hc⟩
   ·have:=HL.out;rw [e] at this;simp at this;omega
   have c0:=hc j (by have:=HL.out;omega)
   obtain ⟨y,hy⟩:∃ y,ks.getD j 0=y:=⟨_,rfl⟩
   have HY:=hid hy
   rw [hy] at c0
   clear hc hy
   have hmem:y ∈ ks:=by
    rw [← HY.out,List.getD_eq_getElem?_getD,List.getElem?_eq_getElem (by have:=HL.out;omega)]
    simp
   have HMEM:=hid hmem
   obtain ⟨hs1,bn1,ha1,hn1⟩:=HEN.out
   have HA1:=hid (And.intro hs1 (And.intro ha1 hn1))
   clear hmem hs1 ha1 hn1
   go_wp2_with (first
    | (go_at_call 36;refine (HW.out y HMEM.out a bn1 (ft p (fls ((ks.take j).flatMap fun j=>E j kn))) _ HA1.out.2.1 (HT.out.go HA1.out.1) (HK.out.go HA1.out.1)).mono ?_;rintro e w1 ⟨rfl,hen1⟩;have HE1:=hid hen1;clear hen1))
   have HNX:Hid (x.Ends w w1 bn p ((ks.take (j+1)).flatMap fun j=>E j kn)):=by
    rw [List.take_succ_eq_append_getElem (by have:=HL.out;omega)]
    have e:ks[j]'(by have:=HL.out;omega)=y:=by rw [← HY.out,List.getD_eq_getElem?_getD,List.getElem?_eq_getElem (by have:=HL.out;omega)];simp
    rw [e,List.flatMap_append]
    have h1:x.Ends w wr bn p ((ks.take j).flatMap fun j=>E j kn):=⟨HA1.out.1,bn1,HA1.out.2⟩
    obtain ⟨s2,b2,a2,n2⟩:=HE1.out
    have e2:[y].flatMap (fun j=>E j kn)=E y kn:=by simp
    rw [e2]
    refine ⟨HA1.out.1.trans s2,b2,by rw [fls_append,ft_append];exact a2,fun h=>?_⟩
    rw [fls_append] at h
    obtain ⟨e3,e4⟩:=List.append_eq_nil_iff.1 h
    rw [n2 e4,HA1.out.2.2 e3,apB_append]
   go_wp2
   go_roundw
   case rel=>exact ⟨j+1,by omega,by go_num,HNX.out⟩
   case measure=>simp [intOf];omega
  ·obtain rfl:j=m:=by omega
   have HEND:Hid (x.Ends w wr bn p (ks.flatMap fun j=>E j kn)):=by
    have:=HEN.out
    rw [List.take_of_length_le (by have:=HL.out;omega)] at this
    exact this
   go_wp2
   go_end0
   exact ⟨rfl,HEND.out⟩
end Go.Proofs.YthnohneaanphbaaGreatDoor
namespace Go.Proofs.YthnohneaanphbaaGreatDoor
open Go.RowKit
set_option maxRecDepth 20000
def CodesOk (cf:Nat→Nat) (F:Nat × Nat→Prop):Prop:=∀ j,(cf j=0∧∀ c,¬ F (j,c))∨(F (j,cf j)∧cf j≠0∧∀ c,F (j,c)→cf j≤c)
def putC (cf:Nat→Nat) (k c:Nat):Nat→Nat:=fun j=>if j=k then (if cf k=0∨c < cf k then c else cf k) else cf j
theorem CodesOk.put {cf:Nat→Nat} {F:Nat × Nat→Prop} (h:CodesOk cf F) (k c:Nat) (hc:c≠0):CodesOk (putC cf k c) (fun y=>F y∨y=(k,c)):=by
 intro j
 unfold putC
 by_cases e:j=k
 ·subst e
  rw [if_pos rfl]
  right
  rcases h j with ⟨h1,h2⟩ | ⟨h1,h2,h3⟩
  ·rw [if_pos (.inl h1)]
   refine ⟨.inr rfl,hc,fun d hd=>?_⟩
   rcases hd with hd | hd
   ·exact absurd hd (h2 d)
   ·injection hd with _ hd;omega
  ·by_cases q:c < cf j
   ·rw [if_pos (.inr q)]
    refine ⟨.inr rfl,hc,fun d hd=>?_⟩
    rcases hd with hd | hd
    ·have:=h3 d hd;omega
    ·injection hd with _ hd;omega
   ·rw [if_neg (by omega)]
    refine ⟨.inl h1,h2,fun d hd=>?_⟩
    rcases hd with hd | hd
    ·exact h3 d hd
    ·injection hd with _ hd;omega
 ·rw [if_neg e]
  rcases h j with ⟨h1,h2⟩ | ⟨h1,h2,h3⟩
  ·left
   refine ⟨h1,fun d hd=>?_⟩
   rcases hd with hd | hd
   ·exact h2 d hd
   ·injection hd with hd _;exact e hd
  ·right
   refine ⟨.inl h1,h2,fun d hd=>?_⟩
   rcases hd with hd | hd
   ·exact h3 d hd
   ·injection hd with hd _;exact absurd hd e
theorem CodesOk.congr {cf:Nat→Nat} {F G:Nat × Nat→Prop} (h:CodesOk cf F) (hfg:∀ y,F y ↔ G y):CodesOk cf G:=by
 intro j
 rcases h j with ⟨h1,h2⟩ | ⟨h1,h2,h3⟩
 ·exact .inl ⟨h1,fun c hc=>h2 c ((hfg _).2 hc)⟩
 ·exact .inr ⟨(hfg _).1 h1,h2,fun c hc=>h3 c ((hfg _).2 hc)⟩
structure Mx where
 wb:Nat
 gc:Nat
 gb:Nat
 g:Nat
 N:Nat
 cap:Nat
 gk:Nat
 ck:Nat
 nd:Nat→Nd
 o:List (List Nat)
def Mx.S (x:Mx) (k:Nat):Prop:=k=x.gc∨k=x.gb
def Mx.At (x:Mx) (W:World) (cf:Nat→Nat) (bn:Nat→Int):Prop:=BnAt W x.gc x.N (fun i=>(cf i:Int))∧BnAt W x.gb x.N bn
def Mx.Tree (x:Mx) (W:World):Prop:=W.heap[x.wb]?=some (.cells #[.slice (some ⟨x.g,0,none⟩) x.N x.cap,.slice (some ⟨x.gk,0,none⟩) x.N x.ck,.slice (some ⟨x.gc,0,none⟩) x.N x.N,.slice (some ⟨x.gb,0,none⟩) x.N x.N] 63 (0,0))∧NodesAt W x.g x.N x.nd∧KG W x.gk x.N x.o
structure Mx.Ok (x:Mx):Prop where
 ne:x.gc≠x.gb
 N:x.N≤5000
 text:∀ i,i < x.N→(x.nd i).text.size≤maxLen
 down:Down x.o
 kidded:∀ k,k < x.N→Kidded x.nd x.o k
 len:x.o.length=x.N
 g:¬ x.S x.g
 gk:¬ x.S x.gk
 wb:¬ x.S x.wb
 kids:∀ k,(x.o.getD k []).length≤5000
 place:∀ k,∀ j ∈ x.o.getD k [],j < x.N
 fit:∀ k,k < x.N→FitAt x.nd x.o k
theorem Mx.At.lt {x:Mx} {W:World} {cf:Nat→Nat} {bn:Nat→Int} (h:x.At W cf bn):∀ j,x.S j→j < W.heap.size:=by
 obtain ⟨⟨c1,h1,_⟩,c2,h2,_⟩:=h
 rintro j (rfl | rfl)
 ·exact (Array.getElem?_eq_some_iff.1 h1).1
 ·exact (Array.getElem?_eq_some_iff.1 h2).1
theorem Mx.At.go {x:Mx} {W W':World} {cf:Nat→Nat} {bn:Nat→Int} (h:x.At W cf bn) (hb:Below W.heap.size W W'):x.At W' cf bn:=by
 have hl:=h.lt
 obtain ⟨⟨c1,h1,h3⟩,c2,h2,h4⟩:=h
 exact ⟨⟨c1,(hb.block _ (hl _ (.inl rfl))).trans h1,h3⟩,c2,(hb.block _ (hl _ (.inr rfl))).trans h2,h4⟩
theorem Mx.Tree.four {x:Mx} {W:World} (h:x.Tree W):W.cell? ⟨x.wb,0,none⟩=some (.slice (some ⟨x.g,0,none⟩) x.N x.cap)∧W.cell? ⟨x.wb,1,none⟩=some (.slice (some ⟨x.gk,0,none⟩) x.N x.ck)∧W.cell? ⟨x.wb,2,none⟩=some (.slice (some ⟨x.gc,0,none⟩) x.N x.N)∧W.cell? ⟨x.wb,3,none⟩=some (.slice (some ⟨x.gb,0,none⟩) x.N x.N):=by
 refine ⟨?_,?_,?_,?_⟩ <;> (unfold World.cell?;rw [h.1];rfl)
def Mx.Ends (x:Mx) (w w':World) (F:Nat × Nat→Prop) (bn:Nat→Int) (evs:List Ev):Prop:=Sv x.S w w'∧∃ cf' bn',x.At w' cf' bn'∧CodesOk cf' (fun y=>F y∨y ∈ fls evs)∧(fls evs=[]→bn'=apB bn evs)
theorem mends_join {x:Mx} {w wr w1:World} {F:Nat × Nat→Prop} {bn bn1:Nat→Int} {e1 e2:List Ev} (hs:Sv x.S w wr) (hn:fls e1=[]→bn1=apB bn e1) (h2:x.Ends wr w1 (fun y=>F y∨y ∈ fls e1) bn1 e2):x.Ends w w1 F bn (e1 ++ e2):=by
 obtain ⟨s2,c2,b2,a2,k2,n2⟩:=h2
 refine ⟨hs.trans s2,c2,b2,a2,k2.congr fun y=>?_,fun h=>?_⟩
 ·rw [fls_append,List.mem_append]
  constructor
  ·rintro ((h | h) | h)
   ·exact .inl h
   ·exact .inr (.inl h)
   ·exact .inr (.inr h)
  ·rintro (h | h | h)
   ·exact .inl (.inl h)
   ·exact .inl (.inr h)
   ·exact .inr h
 ·rw [fls_append] at h
  obtain ⟨e3,e4⟩:=List.append_eq_nil_iff.1 h
  rw [n2 e4,hn e3,apB_append]
theorem Mx.At.putC {x:Mx} {W:World} {cf:Nat→Nat} {bn:Nat→Int} (h:x.At W cf bn) (hne:x.gc≠x.gb) (k c:Nat) (hk:k < x.N) (hq:cf k=0∨c < cf k):x.At (W.setCell ⟨x.gc,k,none⟩ (.int .i64 c)) (putC cf k c) bn:=by
 refine ⟨?_,?_⟩
 ·have:=h.1.set k hk (c:Int)
  have e:(fun j=>if j=k then (c:Int) else ((cf j:Nat):Int))=fun i=>((Proofs.YthnohneaanphbaaGreatDoor.putC cf k c i:Nat):Int):=by
   funext j
   unfold Proofs.YthnohneaanphbaaGreatDoor.putC
   split <;> rfl
  rw [e] at this
  exact this
 ·obtain ⟨cur,h2,h3⟩:=h.2
  exact ⟨cur,(Below.heap_setCell _ _ _ _ (fun e=>hne e.symm)).trans h2,h3⟩
theorem fault_end {x:Mx} {w w':World} {F:Nat × Nat→Prop} {cf:Nat→Nat} {bn:Nat→Int} {k code:Nat} (hc:0 < code) (hok:CodesOk cf F) (hs:Sv x.S w w') (h:x.At w' (putC cf k code) bn):x.Ends w w' F bn [.flt k code]:=by
 refine ⟨hs,_,bn,h,(hok.put k code (by omega)).congr fun y=>?_,fun h=>by cases h⟩
 simp [fls]
set_option maxHeartbeats 1000000 in
theorem fault_any (x:Mx) (hx:x.Ok) (k code:Nat) (hc:0 < code) (F:Nat × Nat→Prop) (cf:Nat→Nat) (bn:Nat→Int) (w:World) (hkN:k < x.N) (h:x.At w cf bn) (ht:x.Tree w) (hok:CodesOk cf F) :
  Calls Tryz.prog 51 #[.pointer (some ⟨x.wb,0,none⟩),.int .i64 k,.int .i64 code] w fun e w'=>e=.returned (.tuple #[])∧x.Ends w w' F bn [.flt k code]:=by
 obtain ⟨f0,f1,f2,f3⟩:=ht.four
 obtain ⟨c0,c1⟩:=h.1.cell k hkN
 have H:=hid h
 have HX:=hid hx
 have HOK:=hid hok
 have hN5:=hx.N
 clear h hx ht hok
 by_cases hq:cf k=0∨code < cf k
 ·have HEND:=hid (fault_end (x:=x) (w:=w) hc HOK.out ((Sv.refl x.S w).setCell (p:=⟨x.gc,k,none⟩) (.inl (.inl rfl)) (.int .i64 code)) (H.out.putC HX.out.ne k code hkN hq))
  by_cases h0:cf k=0
  ·rw [h0] at c0
   clear hq h0
   go_enter Tryz.func51,Tryz.ntmps51
   go_wp2
   go_end0
   exact ⟨rfl,HEND.out⟩
  ·have hl:(code:Int) < (cf k:Int):=by omega
   have h1:((cf k:Int) == 0)=false:=by rw [beq_eq_false_iff_ne];omega
   clear hq h0
   go_enter Tryz.func51,Tryz.ntmps51
   go_wp2
   go_end0
   exact ⟨rfl,HEND.out⟩
 ·have hl:¬ (code:Int) < (cf k:Int):=by omega
  have h1:((cf k:Int) == 0)=false:=by rw [beq_eq_false_iff_ne];omega
  have e:putC cf k code=cf:=by
   funext j
   unfold putC
   split
   ·rename_i h;rw [h]
   ·rfl
  have HEND:=hid (fault_end (x:=x) (w:=w) (k:=k) hc HOK.out (Sv.refl x.S w) (by rw [e];exact H.out))
  clear hq e
  go_enter Tryz.func51,Tryz.ntmps51
  go_wp2
  go_end0
  exact ⟨rfl,HEND.out⟩
end Go.Proofs.YthnohneaanphbaaGreatDoor
