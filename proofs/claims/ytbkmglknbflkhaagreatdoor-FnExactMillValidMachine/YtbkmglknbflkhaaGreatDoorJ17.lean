import Derived.Test.YtbkmglknbflkhaaGreatDoorJ05
import Derived.Test.YtbkmglknbflkhaaGreatDoorJ16
namespace Go.Proofs.YtbkmglknbflkhaaGreatDoor.J
open Go.RowKit
set_option maxRecDepth 20000
def ltB (a b:ByteArray):Bool:=Go.Op.bytesLess a.toList b.toList
def OutOk (s:Nat→ByteArray) (i:Nat):Prop:=FileOk (s i)∧(0 < i→ltB (s (i - 1)) (s i)=true)
def JobOk (a:ByteArray) (N:Nat) (s:Nat→ByteArray):Prop:=a.size≤3000∧N≤20∧∀ i,i < N→OutOk s i
theorem all_step {P:Nat→Prop} {k:Nat} (h:∀ i,i < k→P i) (hk:P k):∀ i,i < k+1→P i:=fun i hi=>by
 rcases Nat.lt_or_eq_of_le (Nat.lt_succ_iff.1 hi) with h' | h'
 ·exact h i h'
 ·subst h';exact hk
theorem TextsAt.below {W W':World} {g N:Nat} {s:Nat→ByteArray} (h:TextsAt W g N s) (hb:Below W.heap.size W W') (hg:g < W.heap.size):TextsAt W' g N s:=fun i hi=>(hb.cell (p:=⟨g,i,none⟩) hg).trans (h i hi)
set_option maxHeartbeats 2000000 in
theorem specJob_any (a:ByteArray) (g N cap:Nat) (s:Nat→ByteArray) (w:World) (ha:a.size≤1048576) (hN:N≤1048576) (hg:g < w.heap.size) (hn:TextsAt w g N s) (ht:∀ i,i < N→(s i).size≤maxLen) :
  Calls Tryz.prog 24 #[.agg #[.string a,.slice (some ⟨g,0,none⟩) N cap]] w fun e w'=>Says e (JobOk a N s)∧Below w.heap.size w w':=by
 have HN:=hid hn
 have HT:=hid ht
 clear hn ht
 have HB0:=hid (Below.refl (w.heap.size+1) (w.alloc (.cells #[.string a,.slice (some ⟨g,0,none⟩) N cap] 53)))
 by_cases h1:a.size≤3000
 ·by_cases h2:N≤20
  ·go_enter Tryz.func24,Tryz.ntmps24
   go_wp2
   go_loopw [3] (fun i wr=>∃ k:Nat,k≤N∧i=.int .i64 k∧(∀ i,i < k→OutOk s i)∧Below (w.heap.size+1) (w.alloc (.cells #[.string a,.slice (some ⟨g,0,none⟩) N cap] 53)) wr) (fun i _=>N - (intOf i).toNat)
   case atStart=>exact ⟨0,Nat.zero_le _,rfl,fun i h=>absurd h (Nat.not_lt_zero _),HB0.out⟩
   case round =>
    obtain ⟨k,hk,rfl,hr,hbw⟩:=hrel
    have HR:=hid hr
    have HBW:=hid hbw
    clear hr hbw
    obtain ⟨b0,b1⟩:=box2 HBW.out
    by_cases hlt:k < N
    ·have a0:=(HN.out.below (btree HBW.out) hg) k hlt
     have hfail:Hid (¬ OutOk s k→¬ JobOk a N s):=fun h h'=>h (h'.2.2 k hlt)
     by_cases hP:FileOk (s k)
     ·rcases Nat.eq_zero_or_pos k with h0 | h0
      ·subst h0
       have HO:=hid (show OutOk s 0 from ⟨hP,fun h=>absurd h (Nat.lt_irrefl _)⟩)
       go_wp2_with fail
       go_quiet ((go_at_call 52;refine Calls.quiet_of_same (v:=.bool true) ?_;refine (l15Path_any _ _ (HT.out 0 hlt)).mono ?_;rintro e w3 ⟨hs3,hb3⟩;exact ⟨hs3.pos hP,hb3⟩))
       go_wp2
       go_roundw
       case rel=>exact ⟨0+1,by omega,by go_num,all_step HR.out HO.out,below_drewN HBW.out nq⟩
       case measure=>simp [intOf];omega
      ·obtain ⟨p,rfl⟩:∃ p,k=p+1:=⟨k - 1,by omega⟩
       have c0:=(HN.out.below (btree HBW.out) hg) p (by omega)
       cases hL:Go.Op.bytesLess (s p).toList (s (p+1)).toList
       ·have HE:=hid (hfail.out (fun h=>by have:=h.2 (by omega);rw [Nat.add_sub_cancel] at this;unfold ltB at this;rw [hL] at this;cases this))
        go_wp2_with fail
        go_quiet ((go_at_call 52;refine Calls.quiet_of_same (v:=.bool true) ?_;refine (l15Path_any _ _ (HT.out (p+1) hlt)).mono ?_;rintro e w3 ⟨hs3,hb3⟩;exact ⟨hs3.pos hP,hb3⟩))
        go_wp2
        go_ret
        exact ⟨says_f HE.out,below_drewN (btree HBW.out) nq⟩
       ·have HO:=hid (show OutOk s (p+1) from ⟨hP,fun _=>hL⟩)
        go_wp2_with fail
        go_quiet ((go_at_call 52;refine Calls.quiet_of_same (v:=.bool true) ?_;refine (l15Path_any _ _ (HT.out (p+1) hlt)).mono ?_;rintro e w3 ⟨hs3,hb3⟩;exact ⟨hs3.pos hP,hb3⟩))
        go_wp2
        go_roundw
        case rel=>exact ⟨p+1+1,by omega,by go_num,all_step HR.out HO.out,below_drewN HBW.out nq⟩
        case measure=>simp [intOf];omega
     ·have HE:=hid (hfail.out (fun h=>hP h.1))
      go_wp2_with fail
      go_quiet ((go_at_call 52;refine Calls.quiet_of_same (v:=.bool false) ?_;refine (l15Path_any _ _ (HT.out k hlt)).mono ?_;rintro e w3 ⟨hs3,hb3⟩;exact ⟨hs3.neg hP,hb3⟩))
      go_wp2
      go_ret
      exact ⟨says_f HE.out,below_drewN (btree HBW.out) nq⟩
    ·obtain rfl:k=N:=by omega
     have HO:=hid (show JobOk a k s from ⟨h1,h2,HR.out⟩)
     go_wp2
     go_ret
     exact ⟨says_t HO.out,btree HBW.out⟩
  ·go_enter Tryz.func24,Tryz.ntmps24
   go_wp2
   go_ret
   exact ⟨says_f fun h=>h2 h.2.1,(Below.refl _ _).alloc (Nat.le_refl _) _⟩
 ·go_enter Tryz.func24,Tryz.ntmps24
  go_wp2
  go_ret
  exact ⟨says_f fun h=>h1 h.1,(Below.refl _ _).alloc (Nat.le_refl _) _⟩
end Go.Proofs.YtbkmglknbflkhaaGreatDoor.J
namespace Go.Proofs.YtbkmglknbflkhaaGreatDoor.C
open Go.RowKit
set_option maxRecDepth 20000
def JoinEnd (a b:Sh) (w:World) (e:Ending) (w':World):Prop:=∃ v ch,e=.returned (.tuple #[v,.bool ch])∧ShV w' v (join a b)∧(ch=true ↔ ¬ join a b=a)∧Below w.heap.size w w'
def shV (st:Int) (x y:Value):Value:=.agg #[.int .i64 st,x,y]
theorem al3 (w:World) (a b c:Obj):Below w.heap.size w (((w.alloc a).alloc b).alloc c):=by
 have h1:=(Below.refl w.heap.size w).alloc (Nat.le_refl _) a
 have h2:=h1.alloc (by simp) b
 exact h2.alloc (by simp;omega) c
theorem join_top2 {S:Nat} {a b:Sh} (ha:OkSh S a) (h:a.st=2):join a b=a:=by
 rcases ha with rfl | rfl | h1
 ·simp [bot] at h
 ·simp [join,top]
 ·omega
theorem join_bot {a b:Sh} (h:a.st=0):join a b=b:=by simp [join,h]
theorem join_top1 {S:Nat} {a b:Sh} (hb:OkSh S b) (h1:a.st=1) (h:b.st=2):join a b=b:=by
 rcases hb with rfl | rfl | h2
 ·simp [bot] at h
 ·simp [join,top,h1]
 ·omega
set_option maxHeartbeats 1000000 in
theorem join_first {S:Nat} {a b:Sh} (ha:OkSh S a) (h0:¬ b.st=0) (h2:a.st=2) (w:World) (x y x' y':Value) (h4:IntRow w x a.sl) (h5:IntRow w y a.sk) (h6:IntRow w x' b.sl) (h7:IntRow w y' b.sk) :
  Calls Tryz.prog 109 #[shV a.st x y,shV b.st x' y'] w (JoinEnd a b w):=by
 have HJ:=hid (join_top2 (b:=b) ha h2)
 have H4:=hid h4
 have H5:=hid h5
 have H2:=hid h2
 obtain ⟨a1,c1,rfl⟩:=h4.sl
 obtain ⟨a2,c2,rfl⟩:=h5.sl
 obtain ⟨a3,c3,rfl⟩:=h6.sl
 obtain ⟨a4,c4,rfl⟩:=h7.sl
 unfold shV
 rw [h2]
 have hbf:((b.st:Int) == 0)=false:=by simpa using h0
 clear ha h0 h2 h4 h5 h6 h7
 go_enter Tryz.func109,Tryz.ntmps109
 go_wp2
 refine bodyPost_ret (v:=.tuple #[.agg #[.int .i64 2,.slice a1 a.sl.length c1,.slice a2 a.sk.length c2],.bool false]) (by simp [results,Tryz.results109,go_sem]) rfl ⟨_,_,rfl,?_,?_,al3 _ _ _ _⟩
 ·rw [HJ.out]
  exact ⟨_,_,by rw [H2.out];rfl,H4.out.next (al3 _ _ _ _),H5.out.next (al3 _ _ _ _)⟩
 ·simp [HJ.out]
set_option maxHeartbeats 1000000 in
theorem join_second0 {a b:Sh} (h0:¬ b.st=0) (h2:a.st=0) (w:World) (x y x' y':Value) (h4:IntRow w x a.sl) (h5:IntRow w y a.sk) (h6:IntRow w x' b.sl) (h7:IntRow w y' b.sk) :
  Calls Tryz.prog 109 #[shV a.st x y,shV b.st x' y'] w (JoinEnd a b w):=by
 have HJ:=hid (join_bot (b:=b) h2)
 have HN:Hid (¬ b=a):=hid (fun e=>h0 (by rw [e];exact h2))
 have H6:=hid h6
 have H7:=hid h7
 obtain ⟨a1,c1,rfl⟩:=h4.sl
 obtain ⟨a2,c2,rfl⟩:=h5.sl
 obtain ⟨a3,c3,rfl⟩:=h6.sl
 obtain ⟨a4,c4,rfl⟩:=h7.sl
 unfold shV
 rw [h2]
 have hbf:((b.st:Int) == 0)=false:=by simpa using h0
 clear h0 h2 h4 h5 h6 h7
 go_enter Tryz.func109,Tryz.ntmps109
 go_wp2
 refine bodyPost_ret (v:=.tuple #[.agg #[.int .i64 b.st,.slice a3 b.sl.length c3,.slice a4 b.sk.length c4],.bool true]) (by simp [results,Tryz.results109,go_sem]) rfl ⟨_,_,rfl,?_,?_,al3 _ _ _ _⟩
 ·rw [HJ.out]
  exact ⟨_,_,rfl,H6.out.next (al3 _ _ _ _),H7.out.next (al3 _ _ _ _)⟩
 ·simp [HJ.out,HN.out]
set_option maxHeartbeats 1000000 in
theorem join_second1 {S:Nat} {a b:Sh} (hb:OkSh S b) (h0:b.st=2) (h2:a.st=1) (w:World) (x y x' y':Value) (h4:IntRow w x a.sl) (h5:IntRow w y a.sk) (h6:IntRow w x' b.sl) (h7:IntRow w y' b.sk) :
  Calls Tryz.prog 109 #[shV a.st x y,shV b.st x' y'] w (JoinEnd a b w):=by
 have HJ:=hid (join_top1 (a:=a) hb h2 h0)
 have HN:Hid (¬ b=a):=hid (fun e=>by rw [e] at h0;omega)
 have H0:=hid h0
 have H6:=hid h6
 have H7:=hid h7
 obtain ⟨a1,c1,rfl⟩:=h4.sl
 obtain ⟨a2,c2,rfl⟩:=h5.sl
 obtain ⟨a3,c3,rfl⟩:=h6.sl
 obtain ⟨a4,c4,rfl⟩:=h7.sl
 unfold shV
 rw [h2,h0]
 clear hb h0 h2 h4 h5 h6 h7
 go_enter Tryz.func109,Tryz.ntmps109
 go_wp2
 refine bodyPost_ret (v:=.tuple #[.agg #[.int .i64 2,.slice a3 b.sl.length c3,.slice a4 b.sk.length c4],.bool true]) (by simp [results,Tryz.results109,go_sem]) rfl ⟨_,_,rfl,?_,?_,al3 _ _ _ _⟩
 ·rw [HJ.out]
  exact ⟨_,_,by rw [H0.out];rfl,H6.out.next (al3 _ _ _ _),H7.out.next (al3 _ _ _ _)⟩
 ·simp [HJ.out,HN.out]
def sbox (st:Int) (x y:Value):Obj:=.cells #[.int .i64 st,x,y] 121
theorem six_s {W:World} {g:Nat} {st:Int} {x y:Value} (e:W.heap[g]?=some (sbox st x y)) :
  W.cell? ⟨g,0,none⟩=some (.int .i64 st)∧W.cell? ⟨g,1,none⟩=some x∧W.cell? ⟨g,2,none⟩=some y∧W.frozen? ⟨g,0,none⟩=false∧W.frozen? ⟨g,1,none⟩=false∧W.frozen? ⟨g,2,none⟩=false:=by
 refine ⟨?_,?_,?_,?_,?_,?_⟩ <;> simp [World.cell?,World.frozen?,e,sbox]
theorem set_other (W:World) (g j i:Nat) (v:Value) (h:¬ i=g):(W.setCell ⟨g,j,none⟩ v).heap[i]?=W.heap[i]?:=by
 unfold World.setCell
 simp only [Array.getElem?_modify]
 rw [if_neg (fun e=>h e.symm)]
theorem set_size (W:World) (a:Addr) (v:Value):(W.setCell a v).heap.size=W.heap.size:=by simp [World.setCell]
theorem set1_box {W:World} {g:Nat} {st:Int} {x y:Value} (e:W.heap[g]?=some (sbox st x y)) (v:Value):(W.setCell ⟨g,1,none⟩ v).heap[g]?=some (sbox st v y):=by
 unfold World.setCell
 simp only [Array.getElem?_modify,e]
 simp [sbox]
theorem set_lo {w W:World} {B:Nat} (h:Below B w W) (g j:Nat) (hg:B≤g) (v:Value):Below B w (W.setCell ⟨g,j,none⟩ v) :=
 ⟨h.os,h.tape,h.output,by rw [set_size];exact h.size,fun i hi=>by rw [set_other _ _ _ _ _ (by omega)];exact h.block i hi⟩
theorem IntRow.set {W:World} {v:Value} {l:List Int} (h:IntRow W v l) {g:Nat} {st:Int} {x y:Value} (e:W.heap[g]?=some (sbox st x y)) (j:Nat) (u:Value):IntRow (W.setCell ⟨g,j,none⟩ u) v l :=
 h.keep fun i cur hi=>set_other _ _ _ _ _ (fun ei=>by subst ei;rw [e] at hi;simp [sbox] at hi)
theorem IntRow.set3 {W:World} {v:Value} {l:List Int} (h:IntRow W v l) {g:Nat} {st:Int} {x y:Value} (e:W.heap[g]?=some (sbox st x y)) (p q r:Value):IntRow (((W.setCell ⟨g,0,none⟩ p).setCell ⟨g,1,none⟩ q).setCell ⟨g,2,none⟩ r) v l :=
 h.keep fun i cur hi=>by
  have hne:¬ i=g:=fun ei=>by subst ei;rw [e] at hi;simp [sbox] at hi
  rw [set_other _ _ _ _ _ hne,set_other _ _ _ _ _ hne,set_other _ _ _ _ _ hne]
theorem own_form {W:World} {B n:Nat} {e:TypeId} {v:Value} {xs:List Value} (h:W.ownsRow B e 1 v n xs):∃ ad c,v=.slice ad n c:=by
 obtain ⟨_,⟨rfl,rfl⟩ | ⟨g,cap,cur,rfl,_⟩⟩:=h
 ·exact ⟨_,_,rfl⟩
 ·exact ⟨_,_,rfl⟩
theorem own_set {W:World} {B g j n:Nat} {v u:Value} {xs:List Value} (h:W.ownsRow B 3 1 v n xs) (hg:g < B):(W.setCell ⟨g,j,none⟩ u).ownsRow B 3 1 v n xs:=by
 obtain ⟨h1,h2 | ⟨k,cap,cur,e,hb,hc,r⟩⟩:=h
 ·exact ⟨h1,.inl h2⟩
 ·exact ⟨h1,.inr ⟨k,cap,cur,e,hb,by rw [set_other _ _ _ _ _ (by omega)];exact hc,r⟩⟩
theorem own_ne {W:World} {B n:Nat} {v:Value} {xs:List Value} (h:W.ownsRow B 3 1 v n xs) {i:Nat} (hi:i < B):some i≠v.ownBlock:=fun e=>by
 have:=h.lt i e.symm
 omega
theorem three (w:World) (a b c:Obj):(((w.alloc a).alloc b).alloc c).heap[w.heap.size]?=some a∧(((w.alloc a).alloc b).alloc c).heap[w.heap.size+1]?=some b∧(((w.alloc a).alloc b).alloc c).heap[w.heap.size+1+1]?=some c:=by
 have s1:(w.alloc a).heap.size=w.heap.size+1:=by simp
 have s2:((w.alloc a).alloc b).heap.size=w.heap.size+1+1:=by simp
 have g0:=heap_alloc_new w a
 have g1:=heap_alloc_new (w.alloc a) b
 have g2:=heap_alloc_new ((w.alloc a).alloc b) c
 have k1:Below (w.alloc a).heap.size (w.alloc a) ((w.alloc a).alloc b):=(Below.refl _ _).alloc (Nat.le_refl _) _
 have k2:Below ((w.alloc a).alloc b).heap.size ((w.alloc a).alloc b) (((w.alloc a).alloc b).alloc c):=(Below.refl _ _).alloc (Nat.le_refl _) _
 rw [s1] at g1
 rw [s2] at g2
 exact ⟨hp_next (hp_next g0 k1) k2,hp_next g1 k2,g2⟩
theorem own_next {w w1:World} {B e size k:Nat} {v:Value} {xs:List Value} (h:w.ownsRow B e size v k xs) (hb:Below w.heap.size w w1):w1.ownsRow B e size v k xs:=by
 obtain ⟨h1,h2 | ⟨g,cap,cur,a,b,c,d⟩⟩:=h
 ·exact ⟨h1,.inl h2⟩
 ·exact ⟨h1,.inr ⟨g,cap,cur,a,b,hp_next c hb,d⟩⟩
theorem int_info:(Tryz.prog.info? 3).map (fun i=>(i.zero,i.size,i.bytes))=some (some (.int .i64 0),1,8):=by kernel_rfl
theorem int_parts:∃ i,Tryz.prog.info? 3=some i∧i.zero=some (.int .i64 0)∧i.size=1∧i.bytes=8:=by
 have h:=int_info
 cases hi:Tryz.prog.info? 3 with
 | none=>rw [hi] at h;cases h
 | some i =>
  rw [hi] at h
  simp only [Option.map_some,Option.some.injEq,Prod.mk.injEq] at h
  exact ⟨i,rfl,h.1,h.2.1,h.2.2⟩
end Go.Proofs.YtbkmglknbflkhaaGreatDoor.C
