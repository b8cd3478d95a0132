import Derived.Shelf.Spec.SlicesInsert
import Derived.Shelf.Spec.SlicesInsertGrow
import Derived.Shelf.Spec.SearchS
import Derived.Maps.AppendAt
import Derived.Lib.LazyBuf
import Derived.Lib.Strings
import Derived.Lib.BufferRead
import Derived.Lib.OthersKept
import Derived.Deep.LoopGhost
import Derived.OwnWalk
import Derived.Test.YtbkmglknbflkhaaGreatDoorJ17
import Derived.Test.YtbkmglknbflkhaaGreatDoorJ06
import Derived.Test.YtbkmglknbflkhaaGreatDoorJ19
import Derived.Test.YtbkmglknbflkhaaGreatDoorJ16
namespace Go.Proofs.YtbkmglknbflkhaaGreatDoor.J
open Go.RowKit
set_option maxRecDepth 20000
set_option maxHeartbeats 2000000 in
theorem implJob_any (a:ByteArray) (g N cap:Nat) (s:Nat→ByteArray) (w:World) (ha:a.size≤1048576) (hN:N≤1048576) (hg:g < w.heap.size) (hn:TextsAt w g N s) (ht:∀ i,i < N→(s i).size≤1048576) :
  Calls Tryz.prog 63 #[.agg #[.string a,.slice (some ⟨g,0,none⟩) N cap]] w fun e w'=>Says e (JobOk a N s)∧Below w.heap.size w w':=by
 have HN:=hid hn
 have HT:=hid ht
 clear hn ht
 have HB0:=hid (Below.refl (w.heap.size+1) (w.alloc (.cells #[.string a,.slice (some ⟨g,0,none⟩) N cap] 53)))
 by_cases h1:a.size≤3000
 ·by_cases h2:N≤20
  ·go_enter Tryz.func63,Tryz.ntmps63
   go_wp2
   go_loopw [3,4,18] (fun _ _ i wr=>∃ k:Nat,k≤N∧i=.int .i64 k∧(∀ i,i < k→OutOk s i)∧Below (w.heap.size+1) (w.alloc (.cells #[.string a,.slice (some ⟨g,0,none⟩) N cap] 53)) wr) (fun _ _ i _=>N - (intOf i).toNat)
   case atStart=>exact ⟨0,Nat.zero_le _,rfl,fun i h=>absurd h (Nat.not_lt_zero _),HB0.out⟩
   case round =>
    obtain ⟨k,hk,rfl,hr,hbw⟩:=hrel
    have HR:=hid hr
    have HBW:=hid hbw
    clear hr hbw
    by_cases hlt:k < N
    ·have a0:=(HN.out.below (btree HBW.out) hg) k hlt
     have hfail:Hid (¬ OutOk s k→¬ JobOk a N s):=fun h h'=>h (h'.2.2 k hlt)
     go_wp2_with fail
     refine (implFile_any _ _ (HT.out k hlt)).mono ?_
     rintro e w3 ⟨hs3,hb3⟩
     have HB3:=hid (HBW.out.trans (hb3.mono (by have:=HBW.out.size;simpa using this)))
     obtain ⟨_,b1⟩:=box2 HB3.out
     clear a0 hb3
     have a0:=(HN.out.below (btree HB3.out) hg) k hlt
     by_cases hP:FileOk (s k)
     ·obtain rfl:=hs3.pos hP
      rcases Nat.eq_zero_or_pos k with h0 | h0
      ·subst h0
       have HO:=hid (show OutOk s 0 from ⟨hP,fun h=>absurd h (Nat.lt_irrefl _)⟩)
       clear hs3
       go_wp2
       go_roundw
       case rel=>exact ⟨0+1,by omega,by go_num,all_step HR.out HO.out,HB3.out⟩
       case measure=>simp [intOf];omega
      ·obtain ⟨p,rfl⟩:∃ p,k=p+1:=⟨k - 1,by omega⟩
       have c0:=(HN.out.below (btree HB3.out) hg) p (by omega)
       clear hs3
       cases hL:Go.Op.bytesLess (s p).toList (s (p+1)).toList
       ·have HE:=hid (hfail.out (fun h=>by have:=h.2 (by omega);rw [Nat.add_sub_cancel] at this;unfold ltB at this;rw [hL] at this;cases this))
        go_wp2
        go_ret
        exact ⟨says_f HE.out,btree HB3.out⟩
       ·have HO:=hid (show OutOk s (p+1) from ⟨hP,fun _=>hL⟩)
        go_wp2
        go_roundw
        case rel=>exact ⟨p+1+1,by omega,by go_num,all_step HR.out HO.out,HB3.out⟩
        case measure=>simp [intOf];omega
     ·obtain rfl:=hs3.neg hP
      have HE:=hid (hfail.out (fun h=>hP h.1))
      clear hs3
      go_wp2
      go_ret
      exact ⟨says_f HE.out,btree HB3.out⟩
    ·obtain rfl:k=N:=by omega
     have HO:=hid (show JobOk a k s from ⟨h1,h2,HR.out⟩)
     go_wp2
     go_ret
     exact ⟨says_t HO.out,btree HBW.out⟩
  ·go_enter Tryz.func63,Tryz.ntmps63
   go_wp2
   go_ret
   exact ⟨says_f fun h=>h2 h.2.1,(Below.refl _ _).alloc (Nat.le_refl _) _⟩
 ·go_enter Tryz.func63,Tryz.ntmps63
  go_wp2
  go_ret
  exact ⟨says_f fun h=>h1 h.1,(Below.refl _ _).alloc (Nat.le_refl _) _⟩
end Go.Proofs.YtbkmglknbflkhaaGreatDoor.J
namespace Go.Proofs.YtbkmglknbflkhaaGreatDoor.P
open Go.RowKit Go.Shelf
open Go.Proofs.YtbkmglknbflkhaaGreatDoor.R (hid set_other)
set_option maxRecDepth 20000
def bss_ren:Go.Shelf.Ren:=⟨fun | 26=>64 | 33=>89 | 34=>90 | 38=>117 | n=>n,fun | 0=>0 | 3=>3 | 4=>4 | 9=>9 | 24=>23 | 40=>133 | n=>n,fun  | n=>n⟩
theorem bss_lays:Go.Proofs.Lays2.n26 Tryz.prog bss_ren where
 mixed:=by kernel_rfl
 f26:=Tryz.func64.trans (congrArg some (by kernel_rfl))
 f33:=Tryz.func89.trans (congrArg some (by kernel_rfl))
 f34:=Tryz.func90.trans (congrArg some (by kernel_rfl))
 f38:=Tryz.func117.trans (congrArg some (by kernel_rfl))
 t0:=Tryz.underlying0
 a0:=Tryz.isAgg0
 z0:=Tryz.sizeOf0
 v0:=Tryz.zeroValue0
 t3:=Tryz.underlying3
 a3:=Tryz.isAgg3
 z3:=Tryz.sizeOf3
 v3:=Tryz.zeroValue3
 t4:=Tryz.underlying4
 a4:=Tryz.isAgg4
 z4:=Tryz.sizeOf4
 v4:=Tryz.zeroValue4
 t9:=Tryz.underlying9
 a9:=Tryz.isAgg9
 z9:=Tryz.sizeOf9
 v9:=Tryz.zeroValue9
 t24:=Tryz.underlying23
 a24:=Tryz.isAgg23
 z24:=Tryz.sizeOf23
 v24:=Tryz.zeroValue23
 t40:=Tryz.underlying133
 a40:=Tryz.isAgg133
 z40:=Tryz.sizeOf133
 v40:=Tryz.zeroValue133
theorem cell_hp {W:World} {k:Nat} {cs:Array Value} {t:TypeId} (h:W.heap[k]?=some (.cells cs t (0,0))) (i:Nat):W.cell? ⟨k,i,none⟩=cs[i]?:=by unfold World.cell?;rw [h];rfl
theorem frozen_hp {W:World} {k:Nat} {cs:Array Value} {t:TypeId} (h:W.heap[k]?=some (.cells cs t (0,0))) (i:Nat):W.frozen? ⟨k,i,none⟩=false:=by unfold World.frozen?;rw [h];simp
theorem set_size (W:World) (a:Addr) (v:Value):(W.setCell a v).heap.size=W.heap.size:=by simp [World.setCell]
theorem setCells_other (b:Nat) {k:Nat} (h:¬ k=b):∀ (vs:List Value) (o:Nat) (W:World),(W.setCells b o vs).heap[k]?=W.heap[k]?
 | [],_,_=>rfl
 | v :: r,o,W=>by
  show ((W.setCell ⟨b,o,none⟩ v).setCells b (o+1) r).heap[k]?=_
  rw [setCells_other b h r (o+1) _,set_other _ _ _ _ _ h]
theorem setCells_size (b:Nat):∀ (vs:List Value) (o:Nat) (W:World),(W.setCells b o vs).heap.size=W.heap.size
 | [],_,_=>rfl
 | v :: r,o,W=>by
  show ((W.setCell ⟨b,o,none⟩ v).setCells b (o+1) r).heap.size=_
  rw [setCells_size b r (o+1) _,set_size]
theorem setCells_same (b:Nat):∀ (vs:List Value) (o:Nat) (W:World),(W.setCells b o vs).os=W.os∧(W.setCells b o vs).tape=W.tape∧(W.setCells b o vs).output=W.output
 | [],_,_=>⟨rfl,rfl,rfl⟩
 | v :: r,o,W=>setCells_same b r (o+1) (W.setCell ⟨b,o,none⟩ v)
def insAt (l:List ByteArray) (i:Nat) (x:ByteArray):List ByteArray:=l.take i ++ x :: l.drop i
theorem insAt_length {l:List ByteArray} {i:Nat} (h:i≤l.length) (x:ByteArray):(insAt l i x).length=l.length+1:=by
 unfold insAt
 rw [List.length_append,List.length_take,List.length_cons,List.length_drop]
 omega
theorem insAt_get {l:List ByteArray} {i:Nat} (h:i≤l.length) (x:ByteArray) (j:Nat):(insAt l i x).getD j ⟨#[]⟩=if j < i then l.getD j ⟨#[]⟩ else if j=i then x else l.getD (j - 1) ⟨#[]⟩:=by
 unfold insAt
 have ht:(l.take i).length=i:=by rw [List.length_take];omega
 rw [List.getD_eq_getElem?_getD]
 by_cases h1:j < i
 ·rw [if_pos h1,List.getElem?_append_left (by omega),List.getElem?_take_of_lt h1,List.getD_eq_getElem?_getD]
 ·rw [if_neg h1,List.getElem?_append_right (by omega),ht]
  by_cases h2:j=i
  ·subst h2;rw [if_pos rfl,Nat.sub_self];rfl
  ·rw [if_neg h2,show j - i=(j - 1 - i)+1 by omega,List.getElem?_cons_succ,List.getElem?_drop,List.getD_eq_getElem?_getD,show i+(j - 1 - i)=j - 1 by omega]
theorem own_of_rowIs {W:World} {b cap B:Nat} {f:Nat→Value} {l:List ByteArray} (h:W.rowIs b 9 cap f) (hB:B≤b) (hc:cap≤maxLen) (hl:l.length≤cap) (hf:∀ j,j < l.length→f j=.string (l.getD j ⟨#[]⟩)):W.ownsRow B 9 1 (.slice (some ⟨b,0,none⟩) l.length cap) l.length (l.map fun x=>Value.string x):=by
 obtain ⟨cur,e,hz,hcc⟩:=h
 refine ⟨by simp,.inr ⟨b,cap,cur,rfl,hB,e,hl,hc,by omega,?_⟩⟩
 apply List.ext_getElem?
 intro j
 rw [Nat.mul_one]
 by_cases hj:j < l.length
 ·rw [List.getElem?_take_of_lt hj,Array.getElem?_toList,hcc j (by omega),hf j hj,List.getElem?_map,List.getElem?_eq_getElem hj,List.getD_eq_getElem?_getD,List.getElem?_eq_getElem hj]
  rfl
 ·rw [List.getElem?_eq_none (by rw [List.length_take];omega),List.getElem?_eq_none (by rw [List.length_map];omega)]
theorem rowIs_of_own {W:World} {b cap B:Nat} {l:List ByteArray} (h:W.ownsRow B 9 1 (.slice (some ⟨b,0,none⟩) l.length cap) l.length (l.map fun x=>Value.string x)):∃ f,W.rowIs b 9 cap f∧B≤b∧l.length≤cap∧cap≤maxLen∧∀ j,j < l.length→f j=.string (l.getD j ⟨#[]⟩):=by
 obtain ⟨_,⟨h2,_⟩ | ⟨g,c,cur,e,hb,hc,hn,hm,hz,ht⟩⟩:=h
 ·cases h2
 ·injection e with e1 _ e3
  injection e1 with e1
  injection e1 with e1
  subst e1 e3
  rw [Nat.mul_one] at hz ht
  refine ⟨fun j=>cur[j]?.getD default,⟨cur,hc,hz,fun i hi=>?_⟩,hb,hn,hm,fun j hj=>?_⟩
  ·have:i < cur.size:=by omega
   show cur[i]?=some (cur[i]?.getD default)
   rw [Array.getElem?_eq_getElem this]
   rfl
  ·have e2:(cur.toList.take l.length)[j]?=(l.map fun x=>Value.string x)[j]?:=by rw [ht]
   rw [List.getElem?_take_of_lt hj,Array.getElem?_toList,List.getElem?_map,List.getElem?_eq_getElem hj] at e2
   show cur[j]?.getD default=_
   rw [e2,List.getD_eq_getElem?_getD,List.getElem?_eq_getElem hj]
   rfl
theorem grown_set {W:World} {b:Nat} (vs:List Value) (o:Nat):W.grownBy (W.setCells b o vs) (some b) :=
 ⟨(setCells_same b vs o W).1,(setCells_same b vs o W).2.1,(setCells_same b vs o W).2.2,by rw [setCells_size];exact Nat.le_refl _,fun k _ hk=>setCells_other b (fun e=>hk (by rw [e])) vs o W⟩
theorem shape_cells {W:World} {g:Nat} {cs:Array Value} {t:TypeId} (h:W.heap[g]?=some (.cells cs t (0,0))):W.shape? g=some (t,cs.size):=by
 unfold World.shape?
 rw [h]
theorem row_new (W:World) (A Z:Array Value) (t:TypeId):(W.alloc (.cells (A ++ Z) t)).rowIs W.heap.size t (A.size+Z.size) (fun j=>if j < A.size then A[j]?.getD default else Z[j - A.size]?.getD default):=by
 refine ⟨A ++ Z,heap_alloc_new _ _,by simp,fun i hi=>?_⟩
 by_cases h:i < A.size
 ·show (A ++ Z)[i]?=some (if i < A.size then A[i]?.getD default else _)
  rw [if_pos h,Array.getElem?_append_left h,Array.getElem?_eq_getElem h]
  rfl
 ·show (A ++ Z)[i]?=some (if i < A.size then _ else Z[i - A.size]?.getD default)
  have h2:i - A.size < Z.size:=by omega
  rw [if_neg h,Array.getElem?_append_right (by omega),Array.getElem?_eq_getElem h2]
  rfl
theorem map_get {l:List ByteArray} {j:Nat} (h:j < l.length):(l.map fun x=>Value.string x)[j]?.getD default=.string (l.getD j ⟨#[]⟩):=by
 rw [List.getElem?_map,List.getElem?_eq_getElem h,List.getD_eq_getElem?_getD,List.getElem?_eq_getElem h]
 rfl
theorem search_any {W:World} {B:Nat} {v:Value} {l:List ByteArray} (x:ByteArray) (hown:W.ownsRow B 9 1 v l.length (l.map fun x=>Value.string x)) (hl:l.length≤100000) :
  Calls Tryz.prog 64 #[v,.string x] W fun e w'=>∃ q,e=.returned (.tuple #[.int .i64 (Lib.bsGo (fun t=>Op.bytesLess (l.getD t ⟨#[]⟩).toList x.toList) l.length 0 l.length:Nat),.bool (decide (Lib.bsGo (fun t=>Op.bytesLess (l.getD t ⟨#[]⟩).toList x.toList) l.length 0 l.length < l.length∧l.getD (Lib.bsGo (fun t=>Op.bytesLess (l.getD t ⟨#[]⟩).toList x.toList) l.length 0 l.length) ⟨#[]⟩=x))])∧w'=W.drewN q:=by
 obtain ⟨_,⟨hv0,hn0⟩ | ⟨b,cap,cur,hv1,_⟩⟩:=id hown
 ·have hl0:l=[]:=List.eq_nil_of_length_eq_zero hn0
  subst hl0
  subst hv0
  refine (Any2.slices_BinarySearch_string_empty bss_lays none 0 x W).mono ?_
  rintro e w' ⟨rfl,rfl⟩
  exact ⟨0,rfl,rfl⟩
 ·subst hv1
  obtain ⟨f,hrow,hBb,hnc,hcm,hf⟩:=rowIs_of_own hown
  refine (Any2.slices_BinarySearch_string bss_lays b 0 l.length cap (fun j=>l.getD j ⟨#[]⟩) x W (by omega) (fun j hj=>by rw [Nat.zero_add,hrow.cell (by omega),hf j hj])).mono ?_
  rintro e w' ⟨rfl,q,rfl⟩
  exact ⟨q,rfl,rfl⟩
end Go.Proofs.YtbkmglknbflkhaaGreatDoor.P
namespace Go.Proofs.YtbkmglknbflkhaaGreatDoor.R
open Go.RowKit
set_option maxRecDepth 20000
set_option maxHeartbeats 4000000 in
theorem eqVa_same (x:Va) (w:World) :
  Calls Tryz.prog 123 #[.agg #[.int .i64 x.ty,.int .i64 x.n,.string x.text],.agg #[.int .i64 x.ty,.int .i64 x.n,.string x.text]] w fun e w'=>e=.returned (.bool true)∧Below w.heap.size w w':=by
 have e0:(x.text.toList != x.text.toList)=false:=by simp
 have i0:(x.ty != x.ty)=false:=by simp
 have i1:(x.n != x.n)=false:=by simp
 have HB0:=hid (B2.start w (.cells #[.int .i64 x.ty,.int .i64 x.n,.string x.text] 127) (.cells #[.int .i64 x.ty,.int .i64 x.n,.string x.text] 127))
 go_enter Tryz.func123,Tryz.ntmps123
 go_wp2
 go_ret
 exact ⟨rfl,HB0.out.lo⟩
set_option maxHeartbeats 4000000 in
theorem eqSVa_same (l:List Va) {u v:Value} {B:Nat} (w:World) (hx:LoVaS l) (k0:SVaR B w u l) (l0:SVaR B w v l) :
  Calls Tryz.prog 100 #[u,v] w fun e w'=>e=.returned (.bool true)∧Below w.heap.size w w':=by
 have H1:=hid k0
 have H2:=hid l0
 have HX:=hid hx
 have hN:l.length≤1048576:=hx.1
 obtain ⟨gu,rfl⟩:=k0.sl
 obtain ⟨gv,rfl⟩:=l0.sl
 clear k0 l0 hx
 have hne:((l.length:Int) != (l.length:Int))=false:=by simp
 go_enter Tryz.func100,Tryz.ntmps100
 go_wp2
 go_loopw [5] (fun i wr=>∃ j:Nat,j≤l.length∧i=.int .i64 j∧Below w.heap.size w wr) (fun i _=>l.length - (intOf i).toNat)
 case atStart=>exact ⟨0,Nat.zero_le _,rfl,Below.refl _ _⟩
 case round =>
  obtain ⟨j,hj,rfl,hbw⟩:=hrel
  have HBW:=hid hbw
  clear hbw
  by_cases hlt:j < l.length
  ·obtain ⟨g,e9,_,hgu,a0,a1,a2⟩:=(H1.out.next HBW.out).at hlt
   injection e9 with ea en ec
   injection ea with eb
   injection eb with ec2
   subst ec2
   obtain ⟨g2,e8,_,hgv,b0,b1,b2⟩:=(H2.out.next HBW.out).at hlt
   injection e8 with ea2 en2 ec3
   injection ea2 with eb2
   injection eb2 with ec4
   subst ec4
   clear en ec en2 ec3
   have HLO:=hid (HX.out.2 j hlt)
   obtain ⟨x,hx⟩:∃ x,l.getD j va0=x:=⟨_,rfl⟩
   rw [hx] at HLO a0 b0 a1 b1 a2 b2
   clear hx
   have A0:=fun p:Gr wr=>(p.h.cell (p:=⟨_,_,none⟩) hgu).trans a0
   have C0:=fun p:Gr wr=>(p.h.cell (p:=⟨_,_,none⟩) hgv).trans b0
   have A1:=fun p:Gr wr=>(p.h.cell (p:=⟨_,_,none⟩) hgu).trans a1
   have C1:=fun p:Gr wr=>(p.h.cell (p:=⟨_,_,none⟩) hgv).trans b1
   have A2:=fun p:Gr wr=>(p.h.cell (p:=⟨_,_,none⟩) hgu).trans a2
   have C2:=fun p:Gr wr=>(p.h.cell (p:=⟨_,_,none⟩) hgv).trans b2
   clear a0 b0 a1 b1 a2 b2
   go_wp2_with fail
   have hne2:Nonempty (Gr wr):=⟨⟨wr,Below.refl _ _⟩⟩
   refine wp_region_gr (by kernel_rfl) (by kernel_rfl) ?_
   repeat (go_big_quiet_step (first | (go_at_call 123;refine Calls.gr_of (v:=.bool true) fun hpw=>?_;exact eqVa_same x _)))
   refine wpQuiet_nil ?_
   intro _ hw'
   obtain ⟨pw,rfl⟩:=hw'
   have HB4:=hid (HBW.out.trans (pw.h.mono HBW.out.size))
   clear A0 C0 A1 C1 A2 C2
   go_wp2
   go_roundw
   case rel=>exact ⟨j+1,by omega,by go_num,HB4.out⟩
   case measure=>simp [intOf];omega
  ·obtain rfl:j=l.length:=by omega
   go_wp2
   go_ret
   exact ⟨rfl,HBW.out⟩
set_option maxHeartbeats 2000000 in
theorem szVa_any (x:Va) (l:Int) (w:World) (hl:0≤l) (hl2:l≤1048576) (hx:OkVa x) :
  Calls Tryz.prog 105 #[.agg #[.int .i64 x.ty,.int .i64 x.n,.string x.text],.int .i64 l] w (SzEnd l (wVa x) w):=by
 have HX:=hid hx
 obtain ⟨hx0,hx1,hx2⟩:=hx
 have HB0:=hid (B1.start w (.cells #[.int .i64 x.ty,.int .i64 x.n,.string x.text] 155))
 have hs_text:=small hx2
 by_cases c2:l - (x.text.size:Int) < 0
 ·go_enter Tryz.func105,Tryz.ntmps105
  go_wp2
  go_ret
  exact ⟨⟨_,rfl,by omega,by omega,fun h=>by omega⟩,HB0.out.lo⟩
 ·go_enter Tryz.func105,Tryz.ntmps105
  go_wp2
  go_ret
  refine ⟨⟨_,rfl,by omega,by omega,fun h=>?_⟩,HB0.out.lo⟩
  simp only [wVa]
  omega
set_option maxHeartbeats 2000000 in
theorem szSVa_any (l:List Va) {v:Value} (m:Int) (w:World) (hl:0≤m) (hl2:m≤1048576) (hx:OkVaS l) (k0:SVaA w v l) :
  Calls Tryz.prog 79 #[v,.int .i64 m] w (SzEnd m (wSVa l l.length) w):=by
 have HX:=hid hx.2
 have hN:=small hx.1
 have HK:=hid k0
 obtain ⟨ad,cap,rfl⟩:=k0.sl
 clear hx k0
 by_cases h1:m - (l.length:Int) < 0
 ·go_enter Tryz.func79,Tryz.ntmps79
  go_wp2
  go_ret
  exact ⟨⟨_,rfl,by omega,by omega,fun h=>by omega⟩,Below.refl _ _⟩
 ·go_enter Tryz.func79,Tryz.ntmps79
  go_wp2
  go_loopw [1,5] (fun q i wr=>∃ (j:Nat) (r:Int),j≤l.length∧i=.int .i64 j∧q=.int .i64 r∧0≤r∧r≤m∧(Hid (r+(l.length:Int)+(wSVa l j:Int)=m+(j:Int)))∧Below w.heap.size w wr) (fun _ i _=>l.length - (intOf i).toNat)
  case atStart=>exact ⟨0,_,Nat.zero_le _,rfl,rfl,by omega,by omega,(by show _=_;simp [wSVa]),Below.refl _ _⟩
  case round =>
   obtain ⟨j,r,hj,rfl,rfl,hr0,hr1,HS,hbw⟩:=hrel
   have HBW:=hid hbw
   clear hbw
   by_cases hlt:j < l.length
   ·obtain ⟨a,c,e9,hal,⟨c0,c1,c2⟩⟩:=(HK.out.next HBW.out).at hlt
    injection e9 with ea en ec
    clear en
    subst ea ec
    obtain ⟨x,hx⟩:∃ x,l.getD j va0=x:=⟨_,rfl⟩
    have HXE:=hid hx
    have HOK:=hid (HX.out j hlt)
    rw [hx] at HOK c0 c1 c2
    clear hx
    go_wp2_with fail
    refine (szVa_any x _ _ (by omega) (by omega) HOK.out).mono ?_
    rintro e w1 ⟨⟨r2,rfl,hr3,hr4,hr5⟩,hb1⟩
    have HB1:=hid (HBW.out.trans (hb1.mono HBW.out.size))
    have HR5:=hid hr5
    clear hb1 hr5 c0 c1 c2
    by_cases hs:r2 < 0
    ·go_wp2
     go_ret
     exact ⟨⟨-1,rfl,by omega,by omega,fun h=>by omega⟩,HB1.out⟩
    ·have HS2:Hid (r2+(l.length:Int)+(wSVa l (j+1):Int)=m+((j+1:Nat):Int)):=by
      show _=_
      have:=HS.out
      have:=HR5.out (by omega)
      simp only [wSVa,HXE.out]
      omega
     go_wp2
     go_roundw
     case rel=>exact ⟨j+1,r2,by omega,by go_num,rfl,by omega,by omega,HS2,HB1.out⟩
     case measure=>simp [intOf];omega
   ·obtain rfl:j=l.length:=by omega
    go_wp2
    go_ret
    exact ⟨⟨r,rfl,by omega,hr1,fun _=>by have:=HS.out;omega⟩,HBW.out⟩
set_option maxHeartbeats 4000000 in
theorem toVa_any (x:Va) (w:World) :
  Calls Tryz.prog 116 #[.agg #[.int .i64 x.ty,.int .i64 x.n,.string x.text]] w fun e w'=>e=.returned (.agg #[.int .i64 x.ty,.int .i64 x.n,.string x.text])∧Below w.heap.size w w':=by
 go_enter Tryz.func116,Tryz.ntmps116
 go_wp2
 refine bodyPost_ret (v:=.agg #[.int .i64 x.ty,.int .i64 x.n,.string x.text]) ?_ rfl ⟨rfl,?_⟩
 ·simp [results,Tryz.results116,go_sem]
 ·exact (below_two' _ _ _).alloc (by simp;omega) _
theorem info_Va:(Tryz.prog.info? 127).map (fun i=>(i.zero,i.size,i.bytes))=some (some (.agg #[.int .i64 0,.int .i64 0,.string ⟨#[]⟩]),3,32):=by kernel_rfl
set_option maxHeartbeats 4000000 in
theorem toSVa_any (l:List Va) {v:Value} (w:World) (hx:LoVaS l) (k0:SVaA w v l) :
  Calls Tryz.prog 86 #[v] w fun e w'=>∃ u,e=.returned u∧SVaR w.heap.size w' u l∧Below w.heap.size w w':=by
 have HK:=hid k0
 have HX:=hid hx
 have hN:l.length≤1048576:=hx.1
 obtain ⟨ad,cap,rfl⟩:=k0.sl
 clear hx k0
 obtain ⟨i0,hi,hz0,hz1,hz2⟩:=info_parts info_Va
 have HHI:=hid (And.intro hi (And.intro hz0 (And.intro hz1 hz2)))
 clear hi hz0 hz1
 go_enter Tryz.func86,Tryz.ntmps86
 go_wp2_with (at_make;refine wpList_make_full _ rfl _ _ 84 rfl w.heap.size 127 i0 (.agg #[.int .i64 0,.int .i64 0,.string ⟨#[]⟩]) 3 Tryz.underlying84 HHI.out.1 HHI.out.2.1 HHI.out.2.2.1 _ _ _ _ l.length rfl rfl rfl rfl (by rw [hz2];omega) (by unfold maxLen;omega) (Nat.le_refl _) ?_;intro w1 o1 g1)
 have HF0:Hid (SVaF w.heap.size w1 l 0):=by
  obtain ⟨h1,⟨h2,_⟩ | ⟨g,c,cur,e,_,h4,_,_,h7,_⟩⟩:=o1
  ·cases h2
  ·cases e
   exact ⟨cur,h4,h7,fun i h=>absurd h (Nat.not_lt_zero _)⟩
 have HB0:=hid ((Below.refl w.heap.size w).grown g1 (Nat.le_refl _) (fun q e=>by cases e))
 clear o1 g1
 go_loopw [4] (fun i wr=>∃ j:Nat,j≤l.length∧i=.int .i64 j∧SVaF w.heap.size wr l j∧Below w.heap.size w wr) (fun i _=>l.length - (intOf i).toNat)
 case atStart=>exact ⟨0,Nat.zero_le _,rfl,HF0.out,HB0.out⟩
 case round =>
  obtain ⟨j,hj,rfl,hfi,hbw⟩:=hrel
  have HFI:=hid hfi
  have HBW:=hid hbw
  have hgl:=hfi.lt
  clear hfi hbw
  by_cases hlt:j < l.length
  ·obtain ⟨a,c,e9,hal,⟨c0,c1,c2⟩⟩:=(HK.out.next HBW.out).at hlt
   injection e9 with ea en ec
   clear en
   subst ea ec
   have HLE:=hid (HX.out.2 j hlt)
   obtain ⟨x,hx⟩:∃ x,l.getD j va0=x:=⟨_,rfl⟩
   have HXE:=hid hx
   rw [hx] at HLE c0 c1 c2
   clear hx
   go_wp2_with fail
   refine (toVa_any x _).mono ?_
   rintro e w2 ⟨rfl,hb2⟩
   have HF2:=hid (HFI.out.keep fun i hi hl=>hb2.block i hl)
   have HFX:=hid (HF2.out.step hlt)
   rw [HXE.out] at HFX
   obtain ⟨⟨w_0,x0⟩,y0⟩:=HF2.out.room (i:=j * 3) (by omega)
   obtain ⟨⟨w_1,x1⟩,y1⟩:=HF2.out.room (i:=j * 3+1) (by omega)
   obtain ⟨⟨w_2,x2⟩,y2⟩:=HF2.out.room (i:=j * 3+2) (by omega)
   have HBX:=hid (HBW.out.trans (hb2.mono HBW.out.size))
   clear hb2 c0 c1 c2
   go_wp2
   go_roundw
   case rel=>exact ⟨j+1,by omega,by go_num,HFX.out,(below_set (below_set (below_set HBX.out _ _ (Nat.le_refl _) _) _ _ (Nat.le_refl _) _) _ _ (Nat.le_refl _) _)⟩
   case measure=>simp [intOf];omega
  ·obtain rfl:j=l.length:=by omega
   go_wp2
   go_ret
   exact ⟨_,rfl,⟨w.heap.size,rfl,Nat.le_refl _,HFI.out⟩,HBW.out⟩
end Go.Proofs.YtbkmglknbflkhaaGreatDoor.R
namespace Go.Proofs.YtbkmglknbflkhaaGreatDoor.C
open Go.RowKit
set_option maxRecDepth 20000
theorem z200:Tryz.zeroCells239=Array.replicate 200 (Value.int .u8 0):=by kernel_rfl
theorem size_u8 (w:World):(Go.sizeOf 5).run Tryz.prog w=.ok 1 w:=by kernel_rfl
def sk8 (a b:List Int) (i j:Nat):Value:=.int .u8 (if j < a.length then (if j < i then (slJoin a b).getD j 0 else a.getD j 0) else 0)
theorem room_start {a:List Int} (ha:Ok10 a) (_h200:a.length≤200) {W:World} {g:Nat} {t:TypeId} (h:W.rowIs g t 200 (fun _=>.int .u8 0)) (b:List Int):(W.setCells g 0 ((kt a).data.toList.map fun x=>Value.int .u8 (x.toNat:Int))).rowIs g t 200 (sk8 a b 0):=by
 refine (rowIs_setCells _ 0 W _ h).congr fun j hj=>?_
 unfold sk8
 rw [kt_data]
 simp only [Nat.zero_le,true_and,Nat.zero_add,List.length_map,Nat.sub_zero,Nat.not_lt_zero,if_false]
 by_cases hj2:j < a.length
 ·rw [if_pos hj2,if_pos hj2]
  rw [List.getElem?_map,List.getElem?_map,List.getElem?_eq_getElem hj2,List.getD_eq_getElem?_getD,List.getElem?_eq_getElem hj2]
  simp [kb_nat (ha _ (List.getElem_mem hj2))]
 ·rw [if_neg hj2,if_neg hj2]
theorem room_same {a b:List Int} {j:Nat} {W:World} {g:Nat} {t:TypeId} (h:W.rowIs g t 200 (sk8 a b j)) (he:(slJoin a b).getD j 0=a.getD j 0) {n:Nat}:(W.drewN n).rowIs g t 200 (sk8 a b (j+1)):=by
 refine World.rowIs.of_block (h.congr fun q hq=>?_) rfl
 unfold sk8
 split
 ·by_cases e:q=j
  ·subst e;rw [if_neg (Nat.lt_irrefl q),if_pos (by omega),he]
  ·by_cases hl:q < j
   ·rw [if_pos hl,if_pos (by omega)]
   ·rw [if_neg hl,if_neg (by omega)]
 ·rfl
theorem room_put {a b:List Int} {j:Nat} {W:World} {g:Nat} {t:TypeId} (h:W.rowIs g t 200 (sk8 a b j)) (hj:j < a.length) (he:(slJoin a b).getD j 0=0) {n:Nat}:((W.drewN n).setCell ⟨g,j,none⟩ (.int .u8 0)).rowIs g t 200 (sk8 a b (j+1)):=by
 have h':(W.drewN n).rowIs g t 200 (sk8 a b j):=h.of_block rfl
 refine (h'.set j (.int .u8 0)).congr fun q hq=>?_
 unfold sk8
 by_cases e:q=j
 ·subst e;rw [if_pos rfl,if_pos hj,if_pos (by omega),he]
 ·rw [if_neg e]
  split
  ·by_cases hl:q < j
   ·rw [if_pos hl,if_pos (by omega)]
   ·rw [if_neg hl,if_neg (by omega)]
  ·rfl
theorem slJoin_ok {a b:List Int} (ha:Ok10 a) (hl:a.length=b.length):Ok10 (slJoin a b):=by
 intro x hx
 obtain ⟨i,hi,rfl⟩:=List.getElem_of_mem hx
 have hi2:i < a.length:=by rw [← slJoin_length a b hl];exact hi
 have e:=slJoin_get a b hl i hi2
 rw [List.getD_eq_getElem?_getD,List.getElem?_eq_getElem hi,Option.getD_some] at e
 rw [e]
 split
 ·rw [List.getD_eq_getElem?_getD,List.getElem?_eq_getElem hi2]
  exact ha _ (List.getElem_mem hi2)
 ·omega
theorem str_eq2 {a b:ByteArray}:(a.toList == b.toList)=true ↔ a=b:=by
 rw [Lib.toList_data,Lib.toList_data,beq_iff_eq]
 exact ⟨ba_ext,fun h=>by rw [h]⟩
set_option maxHeartbeats 2000000 in
theorem sameKinds_any {a b:List Int} (ha:Ok10 a) (hb:Ok10 b) (hl:a.length=b.length) (h200:a.length≤200) (w:World) :
  Calls Tryz.prog 185 #[.string (kt a),.string (kt b)] w fun e w'=>e=.returned (.string (kt (slJoin a b)))∧Below w.heap.size w w':=by
 have HA:=hid ha
 have HB:=hid hb
 have HL:=hid hl
 have hsa:=kt_size a
 have hsb:(kt b).size=a.length:=by rw [kt_size];omega
 have HSA:=hid hsa
 have HSB:=hid hsb
 clear ha hb hl
 go_enter Tryz.func185,Tryz.ntmps185
 go_upto_region 2 with fail
 have hrow:(w.alloc (.cells Tryz.zeroCells239 239)).rowIs w.heap.size 239 200 (fun _=>.int .u8 0):=⟨_,heap_alloc_new _ _,by rw [z200];simp,fun i hi=>by rw [z200];simp [hi]⟩
 have HLO:=hid ((Below.refl w.heap.size w).alloc (Nat.le_refl _) (.cells Tryz.zeroCells239 239))
 obtain ⟨W1,hW1⟩:∃ W,w.alloc (.cells Tryz.zeroCells239 239)=W:=⟨_,rfl⟩
 rw [hW1] at hrow HLO ⊢
 clear hW1
 have HROW:=hid hrow
 clear hrow
 have hcp:(Builtin.copy_ #[149,9] 3 #[.slice (some ⟨w.heap.size,0,none⟩) 200 200,.string (kt a)]).run Tryz.prog W1=.ok (.int .i64 (a.length:Nat)) (W1.setCells w.heap.size 0 ((kt a).data.toList.map fun x=>Value.int .u8 (x.toNat:Int))):=by
  have:=run_copy_string (P:=Tryz.prog) W1 149 9 3 5 w.heap.size 0 200 200 (kt a) Tryz.underlying149 size_u8 (by omega) (fun j hj=>by rw [Nat.zero_add,HROW.out.cell (by omega)];rfl) (fun j hj=>HROW.out.frozen _)
  rw [HSA.out] at this
  exact this
 have HR2:=hid (room_start HA.out h200 HROW.out b)
 have HLO2:=hid (below_setCells (Nat.le_refl _) ((kt a).data.toList.map fun x=>Value.int .u8 (x.toNat:Int)) 0 W1 HLO.out)
 obtain ⟨W2,hW2⟩:∃ W,W1.setCells w.heap.size 0 ((kt a).data.toList.map fun x=>Value.int .u8 (x.toNat:Int))=W:=⟨_,rfl⟩
 rw [hW2] at hcp HR2 HLO2
 clear hW2
 have hai:(a.length:Int)≤200:=by omega
 go_wp2_with fail
 clear hcp
 go_loopw [14] (fun i wr=>∃ j:Nat,j≤a.length∧i=.int .i64 j∧Below w.heap.size w wr∧wr.rowIs w.heap.size 239 200 (sk8 a b j)) (fun i _=>a.length - (intOf i).toNat)
 case atStart=>exact ⟨0,Nat.zero_le _,rfl,HLO2.out,HR2.out⟩
 case round =>
  obtain ⟨j,hj,rfl,hlo,hrow⟩:=hrel
  have HLO3:=hid hlo
  have HR3:=hid hrow
  clear hlo hrow HR2 HLO2
  by_cases hlt:j < a.length
  ·have hlti:(j:Int) < (a.length:Int):=by omega
   have hlt2:j < (kt b).size:=by omega
   have hlt3:(j:Int) < ((kt b).size:Int):=by omega
   have kA:=HR3.out.cell (show j < 200 by omega)
   have kF:=HR3.out.frozen j
   have hyv:=kt_get HB.out hlt2
   have HT0:=hid (slJoin_get a b HL.out j hlt)
   unfold sk8 at kA
   rw [if_pos hlt,if_neg (Nat.lt_irrefl j)] at kA
   obtain ⟨x,hx⟩:∃ x,a.getD j 0=x:=⟨_,rfl⟩
   obtain ⟨y,hy⟩:∃ y,b.getD j 0=y:=⟨_,rfl⟩
   rw [hx] at kA HT0
   rw [hy] at hyv HT0
   have HX:=hid hx
   clear hx hy
   by_cases hxy:x=y
   ·have hxf:(x != y)=false:=by simpa using hxy
    have HN:=hid (fun n:Nat=>room_same (n:=n) (b:=b) (j:=j) HR3.out (by rw [HT0.out,if_pos hxy,HX.out]))
    clear hxy
    go_wp2_with fail
    go_quiet (fail)
    go_wp2
    go_roundw
    case rel=>exact ⟨j+1,by omega,by go_num,below_drewN HLO3.out _,HN.out _⟩
    case measure=>simp [intOf];omega
   ·have hxf:(x != y)=true:=by simpa using hxy
    have HN:=hid (fun n:Nat=>room_put (n:=n) (b:=b) (j:=j) HR3.out hlt (by rw [HT0.out,if_neg hxy]))
    clear hxy
    go_wp2_with fail
    go_quiet (fail)
    go_wp2
    go_roundw
    case rel=>exact ⟨j+1,by omega,by go_num,set_lo (below_drewN HLO3.out _) _ _ (Nat.le_refl _) _,HN.out _⟩
    case measure=>simp [intOf];omega
  ·obtain rfl:j=a.length:=by omega
   have hge:¬ ((a.length:Int) < (a.length:Int)):=by omega
   have hcv:(convert 149 9 (.slice (some ⟨w.heap.size,0,none⟩) a.length 200)).run Tryz.prog wr=.ok (.string (kt (slJoin a b))) wr:=by
    have hll:((slJoin a b).map kb).length=a.length:=by rw [List.length_map,slJoin_length _ _ HL.out]
    have:=run_convert_bytes_back (P:=Tryz.prog) wr 149 9 5 ⟨w.heap.size,0,none⟩ 200 ((slJoin a b).map kb) Tryz.underlying149 Tryz.underlying5 Tryz.underlying9 (fun k hk=>by
     rw [hll] at hk
     have ea:(⟨w.heap.size,0,none⟩:Addr).add k=⟨w.heap.size,k,none⟩:=by
      by_cases hk0:k=0
      ·subst hk0;simp [Addr.add]
      ·simp [Addr.add,hk0]
     rw [ea,HR3.out.cell (show k < 200 by omega)]
     unfold sk8
     rw [if_pos hk,if_pos hk]
     have hk2:k < (slJoin a b).length:=by rw [slJoin_length _ _ HL.out];exact hk
     rw [List.getD_eq_getElem?_getD,List.getElem?_eq_getElem hk2]
     simp [kb_nat (slJoin_ok HA.out HL.out _ (List.getElem_mem hk2))])
    rw [hll] at this
    exact this
   by_cases he:kt (slJoin a b)=kt b
   ·have hef:((kt (slJoin a b)).toList == (kt b).toList)=true:=str_eq2.2 he
    have HE:=hid he
    clear he
    go_wp2_with fail
    go_ret
    exact ⟨by rw [HE.out];rfl,HLO3.out⟩
   ·have hef:((kt (slJoin a b)).toList == (kt b).toList)=false:=Bool.eq_false_iff.2 fun h=>he (str_eq2.1 h)
    clear he
    go_wp2_with fail
    go_ret
    exact ⟨rfl,HLO3.out⟩
def lbox (st:Int) (x y:ByteArray):Obj:=.cells #[.int .i64 st,.string x,.string y] 101
theorem six_l {W:World} {g:Nat} {st:Int} {x y:ByteArray} (e:W.heap[g]?=some (lbox st x y)) :
  W.cell? ⟨g,0,none⟩=some (.int .i64 st)∧W.cell? ⟨g,1,none⟩=some (.string x)∧W.cell? ⟨g,2,none⟩=some (.string y)∧W.frozen? ⟨g,0,none⟩=false∧W.frozen? ⟨g,1,none⟩=false∧W.frozen? ⟨g,2,none⟩=false:=by
 refine ⟨?_,?_,?_,?_,?_,?_⟩ <;> simp [World.cell?,World.frozen?,e,lbox]
theorem set1_l {W:World} {g:Nat} {st:Int} {x y:ByteArray} (e:W.heap[g]?=some (lbox st x y)) (v:ByteArray):(W.setCell ⟨g,1,none⟩ (.string v)).heap[g]?=some (lbox st v y):=by
 unfold World.setCell
 simp only [Array.getElem?_modify,e]
 simp [lbox]
def JdEnd (a b:Sh) (w:World) (e:Ending) (w':World):Prop:=e=.returned (lv (join a b))∧Below w.heap.size w w'
set_option maxHeartbeats 1000000 in
theorem jd_0 {a b:Sh} (h:a.st=0) (w:World):Calls Tryz.prog 162 #[lv a,lv b] w (JdEnd a b w):=by
 have HJ:=hid (join_bot (b:=b) h)
 unfold lv
 rw [h]
 clear h
 go_enter Tryz.func162,Tryz.ntmps162
 go_wp2
 refine bodyPost_ret (v:=lv b) (by simp [results,Tryz.results162,go_sem,lv]) rfl ⟨by rw [HJ.out],al3 _ _ _ _⟩
set_option maxHeartbeats 1000000 in
theorem jd_2 {S:Nat} {a b:Sh} (_ha:OkSh S a) (h:a.st=2) (w:World):Calls Tryz.prog 162 #[lv a,lv b] w (JdEnd a b w):=by
 have HJ:Hid (join a b=top):=hid (by simp [join,h])
 unfold lv
 rw [h]
 clear h
 go_enter Tryz.func162,Tryz.ntmps162
 go_wp2
 refine bodyPost_ret (v:=lv top) (by simp [results,Tryz.results162,go_sem,lv,top,kt_nil]) rfl ⟨by rw [HJ.out],al3 _ _ _ _⟩
set_option maxHeartbeats 1000000 in
theorem jd_12 {a b:Sh} (h:a.st=1) (h2:b.st=2) (w:World):Calls Tryz.prog 162 #[lv a,lv b] w (JdEnd a b w):=by
 have HJ:Hid (join a b=top):=hid (by simp [join,h,h2])
 unfold lv
 rw [h,h2]
 clear h h2
 go_enter Tryz.func162,Tryz.ntmps162
 go_wp2
 refine bodyPost_ret (v:=lv top) (by simp [results,Tryz.results162,go_sem,lv,top,kt_nil]) rfl ⟨by rw [HJ.out],al3 _ _ _ _⟩
set_option maxHeartbeats 1000000 in
theorem jd_ne {a b:Sh} (h:a.st=1) (h2:b.st=1) (hk:¬ kt a.sk=kt b.sk) (w:World):Calls Tryz.prog 162 #[lv a,lv b] w (JdEnd a b w):=by
 have HJ:Hid (join a b=top):=hid (join_apart h fun e=>hk (by rw [e]))
 have hkf:((kt a.sk).toList == (kt b.sk).toList)=false:=Bool.eq_false_iff.2 fun h=>hk (str_eq2.1 h)
 have hkn:((kt a.sk).toList != (kt b.sk).toList)=true:=by simp [bne,hkf]
 unfold lv
 rw [h,h2]
 clear h h2 hk
 go_enter Tryz.func162,Tryz.ntmps162
 go_wp2
 refine bodyPost_ret (v:=lv top) (by simp [results,Tryz.results162,go_sem,lv,top,kt_nil]) rfl ⟨by rw [HJ.out],al3 _ _ _ _⟩
set_option maxHeartbeats 1000000 in
theorem jd_eq {a b:Sh} (h:a.st=1) (h2:b.st=1) (hk:kt a.sk=kt b.sk) (hks:a.sk=b.sk) (hs:kt a.sl=kt b.sl) (hss:a.sl=b.sl) (w:World):Calls Tryz.prog 162 #[lv a,lv b] w (JdEnd a b w):=by
 have HJ:Hid (join a b=a):=hid (by
  rw [join_both h h2 hks,← hss,slJoin_self]
  cases a
  simp at h
  rw [h])
 have HA:Hid (lv a=.agg #[.int .i64 1,.string (kt a.sl),.string (kt a.sk)]):=hid (by unfold lv;rw [h];rfl)
 unfold lv
 rw [h,h2,← hk,← hs]
 clear h h2 hk hks hs hss
 go_enter Tryz.func162,Tryz.ntmps162
 go_wp2
 refine bodyPost_ret (v:=.agg #[.int .i64 1,.string (kt a.sl),.string (kt a.sk)]) (by simp [results,Tryz.results162,go_sem]) rfl ⟨by rw [HJ.out,HA.out],al3 _ _ _ _⟩
set_option maxHeartbeats 2000000 in
theorem jd_mix {a b:Sh} (h:a.st=1) (h2:b.st=1) (hk:kt a.sk=kt b.sk) (hks:a.sk=b.sk) (hs:¬ kt a.sl=kt b.sl) (ha:Ok10 a.sl) (hb:Ok10 b.sl) (hl:a.sl.length=b.sl.length) (h200:a.sl.length≤200) (w:World):Calls Tryz.prog 162 #[lv a,lv b] w (JdEnd a b w):=by
 have HJ:Hid (lv (join a b)=.agg #[.int .i64 1,.string (kt (slJoin a.sl b.sl)),.string (kt a.sk)]):=hid (by rw [join_both h h2 hks];rfl)
 have hkf:((kt a.sl).toList == (kt b.sl).toList)=false:=Bool.eq_false_iff.2 fun h=>hs (str_eq2.1 h)
 have hkn:((kt a.sl).toList != (kt b.sl).toList)=true:=by simp [bne,hkf]
 have HC:=hid (fun W=>sameKinds_any ha hb hl h200 W)
 unfold lv
 rw [h,h2,← hk]
 clear h h2 hk hks hs ha hb hl
 go_enter Tryz.func162,Tryz.ntmps162
 go_upto_region 1 with fail
 obtain ⟨t0,t1,t2⟩:=three w (lbox 1 (kt a.sl) (kt a.sk)) (lbox 1 (kt b.sl) (kt a.sk)) (lbox 0 ⟨#[]⟩ ⟨#[]⟩)
 have HLO:=hid (al3 w (lbox 1 (kt a.sl) (kt a.sk)) (lbox 1 (kt b.sl) (kt a.sk)) (lbox 0 ⟨#[]⟩ ⟨#[]⟩))
 obtain ⟨W1,hW1⟩:∃ W,((w.alloc (lbox 1 (kt a.sl) (kt a.sk))).alloc (lbox 1 (kt b.sl) (kt a.sk))).alloc (lbox 0 ⟨#[]⟩ ⟨#[]⟩)=W:=⟨_,rfl⟩
 rw [hW1] at t0 t1 t2 HLO
 unfold lbox at hW1
 rw [hW1]
 clear hW1
 have T0:=hid t0
 have T1:=hid t1
 have T2:=hid t2
 obtain ⟨u0,u1,u2,_,_,_⟩:=six_l t0
 obtain ⟨x0,x1,x2,_,_,_⟩:=six_l t1
 clear t0 t1 t2
 go_upto_region 7 with (go_at_call 185;refine (HC.out _).mono ?_;rintro e w2 ⟨rfl,hb2⟩;have T20:=hid (hp_next T0.out hb2);have T22:=hid (hp_next T2.out hb2);have HLO2:=hid (HLO.out.trans (hb2.mono HLO.out.size));obtain ⟨z0,z1,z2,q0,q1,q2⟩:=six_l T20.out;clear hb2)
 have e20:=set1_l T20.out (kt (slJoin a.sl b.sl))
 have e22:(w2.setCell ⟨w.heap.size,1,none⟩ (.string (kt (slJoin a.sl b.sl)))).heap[w.heap.size+1+1]?=some (lbox 0 ⟨#[]⟩ ⟨#[]⟩):=by rw [set_other _ _ _ _ _ (by omega)];exact T22.out
 have HLO3:=hid (set_lo HLO2.out w.heap.size 1 (Nat.le_refl _) (.string (kt (slJoin a.sl b.sl))))
 obtain ⟨W3,hW3⟩:∃ W,w2.setCell ⟨w.heap.size,1,none⟩ (.string (kt (slJoin a.sl b.sl)))=W:=⟨_,rfl⟩
 rw [hW3] at e20 e22 HLO3 ⊢
 clear hW3 u0 u1 u2 x0 x1 x2 z0 z1 z2 q0 q1 q2
 obtain ⟨u0,u1,u2,_,_,_⟩:=six_l e20
 obtain ⟨r0,r1,r2,q0,q1,q2⟩:=six_l e22
 clear e20 e22
 go_wp2
 refine bodyPost_ret (v:=.agg #[.int .i64 1,.string (kt (slJoin a.sl b.sl)),.string (kt a.sk)]) (by simp [results,Tryz.results162,go_sem,r0,r1,r2]) rfl ⟨by rw [HJ.out],set_lo (set_lo (set_lo HLO3.out _ _ (by omega) _) _ _ (by omega) _) _ _ (by omega) _⟩
theorem joined_any {S:Nat} {a b:Sh} (ha:OkSh S a) (hb:OkSh S b) (h0:¬ b.st=0) (hS:S≤200) (w:World):Calls Tryz.prog 162 #[lv a,lv b] w (JdEnd a b w):=by
 rcases ok_st ha with h | h | h
 ·exact jd_0 h w
 ·rcases ok_st hb with k | k | k
  ·exact absurd k h0
  ·have p:=ok_known ha h
   have q:=ok_known hb k
   by_cases hk:kt a.sk=kt b.sk
   ·have hks:=kt_inj (ok_sl ha).2 (ok_sl hb).2 hk
    by_cases hs:kt a.sl=kt b.sl
    ·exact jd_eq h k hk hks hs (kt_inj (ok_sl ha).1 (ok_sl hb).1 hs) w
    ·exact jd_mix h k hk hks hs (ok_sl ha).1 (ok_sl hb).1 (p.1.trans q.1.symm) (by omega) w
   ·exact jd_ne h k hk w
  ·exact jd_12 h k w
 ·exact jd_2 ha h w
set_option maxHeartbeats 1000000 in
theorem kindFits_any (a k:Int) (w:World):Calls Tryz.prog 189 #[.int .i64 a,.int .i64 k] w fun e w'=>e=.returned (.bool (fitK a k))∧w'=w:=by
 by_cases h:a=k
 ·subst h
  go_enter Tryz.func189,Tryz.ntmps189
  go_wp2_with fail
  go_ret
  exact ⟨ret_bool (by simp [fitK]),rfl⟩
 ·have hf:(a == k)=false:=by simpa using h
  by_cases h1:a=-1
  ·subst h1
   have HF:Hid (fitK (-1) k=isI k):=hid (by simp [fitK,h])
   clear h
   go_enter Tryz.func189,Tryz.ntmps189
   go_wp2_with (go_at_call 146;refine (Q.millIsInteger_int _ _).mono ?_;rintro e w' ⟨rfl,hw⟩;have hw2:=hw.symm;clear hw;subst hw2)
   go_ret
   exact ⟨ret_bool (by rw [HF.out];rfl),rfl⟩
  ·have hf1:(a == -1)=false:=by simpa using h1
   have HF:Hid (fitK a k=false):=hid (by simp [fitK,h,h1])
   clear h h1
   go_enter Tryz.func189,Tryz.ntmps189
   go_wp2_with fail
   go_ret
   exact ⟨ret_bool (by rw [HF.out]),rfl⟩
set_option maxHeartbeats 1000000 in
theorem unGives_any (op k:Int) (w:World):Calls Tryz.prog 190 #[.int .i64 op,.int .i64 k] w fun e w'=>e=.returned (.int .i64 (unG op k))∧w'=w:=by
 by_cases h:op=2
 ·subst h
  by_cases hk:k=1
  ·subst hk
   go_enter Tryz.func190,Tryz.ntmps190
   go_wp2_with fail
   go_ret
   exact ⟨rfl,rfl⟩
  ·have hkf:(k == 1)=false:=by simpa using hk
   have HV:Hid (unG 2 k=0):=hid (by simp [unG,hk])
   clear hk
   go_enter Tryz.func190,Tryz.ntmps190
   go_wp2_with fail
   go_ret
   exact ⟨by rw [HV.out];rfl,rfl⟩
 ·have hf:(op == 2)=false:=by simpa using h
  have hn:(op != 2)=true:=by simpa using h
  cases hi:isI k with
  | true =>
   have HV:Hid (unG op k=k):=hid (by simp [unG,h,hi])
   have hi2:(decide (3≤k) && decide (k≤10))=true:=hi
   clear h
   go_enter Tryz.func190,Tryz.ntmps190
   go_wp2_with (go_at_call 146;refine (Q.millIsInteger_int _ _).mono ?_;rw [hi2];rintro e w' ⟨rfl,hw⟩;have hw2:=hw.symm;clear hw;subst hw2)
   go_ret
   exact ⟨by rw [HV.out];rfl,rfl⟩
  | false =>
   have HV:Hid (unG op k=0):=hid (by simp [unG,h,hi])
   have hi2:(decide (3≤k) && decide (k≤10))=false:=hi
   clear h
   go_enter Tryz.func190,Tryz.ntmps190
   go_wp2_with (go_at_call 146;refine (Q.millIsInteger_int _ _).mono ?_;rw [hi2];rintro e w' ⟨rfl,hw⟩;have hw2:=hw.symm;clear hw;subst hw2)
   go_ret
   exact ⟨by rw [HV.out];rfl,rfl⟩
set_option maxHeartbeats 1000000 in
theorem kindText_any (k:Int) (h:0≤k∧k≤10) (w:World):Calls Tryz.prog 172 #[.int .i64 k] w fun e w'=>e=.returned (.string (kt [k]))∧Below w.heap.size w w':=by
 have hw:IntKind.u8.wrap k=k:=by rw [IntKind.wrap_u8];omega
 have hcv:(convert 149 9 (.slice (some ⟨w.heap.size,0,none⟩) 1 1)).run Tryz.prog (w.alloc (.cells #[.int .u8 k] 5))=.ok (.string (kt [k])) (w.alloc (.cells #[.int .u8 k] 5)):=by
  have:=run_convert_bytes_back (P:=Tryz.prog) (w.alloc (.cells #[.int .u8 k] 5)) 149 9 5 ⟨w.heap.size,0,none⟩ 1 [kb k] Tryz.underlying149 Tryz.underlying5 Tryz.underlying9 (fun j hj=>by
   obtain rfl:j=0:=by simpa using hj
   have ea:(⟨w.heap.size,0,none⟩:Addr).add 0=⟨w.heap.size,0,none⟩:=by simp [Addr.add]
   rw [ea,cell_hp (heap_alloc_new w _) 0]
   simp [kb_nat h])
  exact this
 clear h
 go_enter Tryz.func172,Tryz.ntmps172
 go_wp2_with fail
 go_ret
 exact ⟨rfl,(Below.refl _ _).alloc (Nat.le_refl _) _⟩
set_option maxHeartbeats 2000000 in
theorem contains_any {v:Value} {l:List Int} {x:Int} {w:World} (h:IntRow w v l) (hl:l.length≤1000):Calls Tryz.prog 168 #[v,.int .i64 x] w fun e w'=>e=.returned (.bool (decide (x ∈ l)))∧Below w.heap.size w w':=by
 have H:=hid h
 obtain ⟨ad,c,rfl⟩:=h.sl
 clear h
 have HIX:Hid (Calls Tryz.prog 188 #[.slice ad l.length c,.int .i64 x] w fun e w'=>∃ r:Int,e=.returned (.int .i64 r)∧(0≤r ↔ x ∈ l)∧Below w.heap.size w w'):=hid (by
  go_enter Tryz.func188,Tryz.ntmps188
  go_wp2_with fail
  go_loop [8] (fun i=>∃ j:Nat,j≤l.length∧i=.int .i64 j∧∀ p,p < j→¬ l.getD p 0=x) (fun i=>l.length - (intOf i).toNat)
  case atStart=>exact ⟨0,Nat.zero_le _,rfl,fun p hp=>absurd hp (Nat.not_lt_zero _)⟩
  case round =>
   obtain ⟨j,hj,rfl,hall⟩:=hrel
   have HALL:=hid hall
   clear hall
   by_cases hlt:j < l.length
   ·have hlti:(j:Int) < (l.length:Int):=by omega
    obtain ⟨gA,cA2,e9,_,_,_,hcA⟩:=H.out.at hlt
    injection e9 with ea en ec
    clear en
    subst ea ec
    have kA:=hcA j hlt
    obtain ⟨y,hy⟩:∃ y,l.getD j 0=y:=⟨_,rfl⟩
    rw [hy] at kA
    have HY:=hid hy
    clear hy hcA
    by_cases hxy:x=y
    ·have hxf:(x == y)=true:=by simpa using hxy
     have HIN:Hid (x ∈ l):=hid (by rw [hxy,← HY.out,List.getD_eq_getElem?_getD,List.getElem?_eq_getElem hlt];exact List.getElem_mem hlt)
     clear hxy
     go_wp2_with fail
     go_ret
     exact ⟨_,rfl,⟨fun _=>HIN.out,fun _=>by omega⟩,Below.refl _ _⟩
    ·have hxf:(x == y)=false:=by simpa using hxy
     have HNE:=hid hxy
     clear hxy
     go_wp2_with fail
     go_round
     case rel =>
      refine ⟨j+1,by omega,by go_num,fun p hp=>?_⟩
      by_cases e:p=j
      ·subst e;rw [HY.out];exact fun h=>HNE.out h.symm
      ·exact HALL.out p (by omega)
     case measure=>simp [intOf];omega
   ·obtain rfl:j=l.length:=by omega
    have hge:¬ ((l.length:Int) < (l.length:Int)):=by omega
    go_wp2_with fail
    go_ret
    refine ⟨_,rfl,⟨fun h=>by omega,fun h=>?_⟩,Below.refl _ _⟩
    obtain ⟨p,hp,e⟩:=List.getElem_of_mem h
    exact absurd (by rw [List.getD_eq_getElem?_getD,List.getElem?_eq_getElem hp];exact e) (HALL.out p hp))
 go_enter Tryz.func168,Tryz.ntmps168
 go_wp2_with (go_at_call 188;refine HIX.out.mono ?_;rintro e w1 ⟨r,rfl,hr,hb1⟩;have HR:=hid hr;have HB:=hid hb1;clear hr hb1)
 go_ret
 exact ⟨ret_bool (by rw [Bool.eq_iff_iff,decide_eq_true_iff,decide_eq_true_iff];exact HR.out),HB.out⟩
end Go.Proofs.YtbkmglknbflkhaaGreatDoor.C
