import Derived.Maps.AppendAt
import Derived.Lib.Slices
import Derived.Lib.Strings
import Derived.Lib.BufferRead
import Derived.Deep.RegionLaw
import Derived.Test.YtabbahpalemlhaaGreatDoorJ02
import Derived.Test.YtabbahpalemlhaaGreatDoorJ04
namespace Go.Proofs.YtabbahpalemlhaaGreatDoor.Tk
open Go.RowKit
set_option maxRecDepth 20000
def hexd (n:Nat):UInt8:=if n < 10 then UInt8.ofNat (48+n) else UInt8.ofNat (87+n)
def quoteB (b:UInt8):List UInt8:=if 32≤b.toNat∧b.toNat≤126∧b.toNat≠34∧b.toNat≠92 then [b] else [92,hexd (b.toNat / 16),hexd (b.toNat % 16)]
def quoteL (t:List UInt8):List UInt8:=34 :: (t.flatMap quoteB ++ [34])
theorem quoteB_len (b:UInt8):(quoteB b).length≤3:=by unfold quoteB;split <;> simp
theorem quote_take_succ (s:ByteArray) (q:Nat) (h:q < s.size):(s.data.toList.take (q+1)).flatMap quoteB=(s.data.toList.take q).flatMap quoteB ++ quoteB s[q]:=by
 rw [List.take_succ_eq_append_getElem (by rw [len_size];exact h),List.flatMap_append]
 simp
 rfl
theorem own_slice' {w:World} {B e size k:Nat} {v:Value} {xs:List Value} (h:w.ownsRow B e size v k xs):∃ a cap,v=.slice a k cap:=by
 rcases h.2 with ⟨hv,h0⟩ | ⟨g,cap,cur,hv,_⟩
 ·exact ⟨none,0,by rw [hv,h0]⟩
 ·exact ⟨_,_,hv⟩
theorem dig_byte:∀ A:Nat,A < 16→∃ h:A < (⟨#[48,49,50,51,52,53,54,55,56,57,97,98,99,100,101,102]⟩:ByteArray).size,(⟨#[48,49,50,51,52,53,54,55,56,57,97,98,99,100,101,102]⟩:ByteArray)[A]=hexd A:=by decide +kernel
theorem add_at (g j:Nat):(⟨g,0,none⟩:Addr).add j=⟨g,j,none⟩:=by cases j <;> simp [Addr.add]
set_option maxHeartbeats 4000000 in
theorem l1Quote_any (s:ByteArray) (w:World) (hs:s.size≤2000000) :
  Calls Tryz.prog 9 #[.string s] w fun e w'=>e=.returned (.string ⟨(quoteL s.data.toList).toArray⟩)∧Below w.heap.size w w':=by
 obtain ⟨i0,hi,hz0,hz1,hz2⟩:=info_parts (P:=Tryz.prog) (e:=5) (z:=.int .u8 0) (size:=1) (bytes:=1) (by kernel_rfl)
 have HHI:=hid (And.intro hi (And.intro hz0 (And.intro hz1 hz2)))
 clear hi hz0 hz1 hz2
 have HFL:Hid (∀ q,([34] ++ (s.data.toList.take q).flatMap quoteB).length≤1+3 * s.size):=fun q=>by
  have:∀ t:List UInt8,(t.flatMap quoteB).length≤3 * t.length:=fun t=>by
   induction t with
   | nil=>simp
   | cons a t ih=>have:=quoteB_len a;simp only [List.flatMap_cons,List.length_append,List.length_cons];omega
  have h2:=this (s.data.toList.take q)
  have h3:=List.length_take_le q s.data.toList
  have h4:(s.data.toList.take q).length≤s.size:=by rw [List.length_take,len_size];omega
  simp only [List.length_append,List.length_cons,List.length_nil]
  omega
 have HST:Hid ((w.alloc (.cells #[.int .u8 34] 5)).ownsRow w.heap.size 5 1 (.slice (some ⟨w.heap.size,0,none⟩) 1 1) 1 (Lib.byteCells [34])) :=
  ⟨rfl,.inr ⟨w.heap.size,1,#[.int .u8 34],rfl,Nat.le_refl _,heap_alloc_new w _,Nat.le_refl _,by unfold maxLen;omega,rfl,rfl⟩⟩
 go_enter Tryz.func9,Tryz.ntmps9
 go_wp2
 go_loopw [3,5] (fun v a wr=>∃ q:Nat,q≤s.size∧a=.int .i64 q∧wr.ownsRow w.heap.size 5 1 v ([34] ++ (s.data.toList.take q).flatMap quoteB).length (Lib.byteCells ([34] ++ (s.data.toList.take q).flatMap quoteB))∧Below w.heap.size w wr) (fun _ a _=>s.size - (intOf a).toNat)
 case atStart=>exact ⟨0,Nat.zero_le _,rfl,by simpa using HST.out,(Below.refl _ _).alloc (Nat.le_refl _) _⟩
 case round =>
  obtain ⟨q,hq,rfl,hown,hbel⟩:=hrel
  have OWN:=hid hown
  have HB:=hid hbel
  have hz:=hbel.size
  have HF:=hid (HFL.out q)
  obtain ⟨L,hL⟩:∃ L,[34] ++ (s.data.toList.take q).flatMap quoteB=L:=⟨_,rfl⟩
  have HLE:=hid hL
  rw [hL] at OWN HF
  clear hown hbel hL
  by_cases hlt:q < s.size
  ·have HT:=hid (quote_take_succ s q hlt)
   obtain ⟨c,hc⟩:∃ c,s[q]=c:=⟨_,rfl⟩
   have hcb:=c.toNat_lt
   rw [hc] at HT
   obtain ⟨ao,cap,rfl⟩:=own_slice' OWN.out
   by_cases hp:32≤c.toNat∧c.toNat≤126∧c.toNat≠34∧c.toNat≠92
   ·have HE:Hid (quoteB c=[c]):=if_pos hp
    have g1:(32:Int)≤c.toNat:=by omega
    have g2:(c.toNat:Int)≤126:=by omega
    have g3:((c.toNat:Int) != 34)=true:=by simp;omega
    have g4:((c.toNat:Int) != 92)=true:=by simp;omega
    clear hp
    go_wp2_with (at_builtin;refine wpList_append_own _ rfl (.tmp 35) (.tmp 39) 22 rfl w.heap.size 5 i0 (.int .u8 0) 1 1 Tryz.underlying22 HHI.out.1 HHI.out.2.1 HHI.out.2.2.1 HHI.out.2.2.2 rfl (by decide) _ _ _ rfl (OWN.out.alloc _) ⟨wr.heap.size,0,none⟩ 1 1 [.int .u8 c.toNat] rfl rfl ?c1 ?c2 ?c3 ?c4 ?c5 ?_)
    case c1 =>
     intro j u hj
     match j,hj with
     | 0,hj=>simp at hj;subst hj;simp [Addr.add]
    case c2=>intro u hu;simp at hu;subst hu;rfl
    case c3=>have:=HF.out;unfold maxLen;omega
    case c4=>have:=HF.out;omega
    case c5=>simp;omega
    intro v' w1 hown' hgrow _
    have HO1:Hid (w1.ownsRow w.heap.size 5 1 v' (L ++ [c]).length (Lib.byteCells (L ++ [c]))):=by
     show World.ownsRow _ _ _ _ _ _ _
     simpa [Lib.byteCells] using hown'
    have HB1:=hid ((HB.out.alloc hz (.cells #[.int .u8 c.toNat] 5)).grown hgrow (by simp;omega) (fun k e=>(OWN.out.lt k e).1))
    obtain ⟨a1,c1,rfl⟩:=own_slice' HO1.out
    clear hown' hgrow
    go_wp2
    go_roundw
    case rel=>exact ⟨q+1,by omega,by go_num,by rw [HT.out,HE.out,← List.append_assoc,HLE.out];exact HO1.out,HB1.out⟩
    case measure=>simp [intOf];omega
   ·have HE:Hid (quoteB c=[92,hexd (c.toNat / 16),hexd (c.toNat % 16)]):=if_neg hp
    have hcase:c.toNat < 32∨(32≤c.toNat∧126 < c.toNat)∨(32≤c.toNat∧c.toNat≤126∧c.toNat=34)∨(32≤c.toNat∧c.toNat≤126∧c.toNat=92):=by omega
    have hX:(c.toNat:Int) / 16=((c.toNat / 16:Nat):Int):=by omega
    have hY:(c.toNat:Int).tmod 16=((c.toNat % 16:Nat):Int):=by rw [Int.tmod_eq_emod_of_nonneg (by omega)];omega
    obtain ⟨A,hA⟩:∃ A,c.toNat / 16=A:=⟨_,rfl⟩
    obtain ⟨D,hD⟩:∃ D,c.toNat % 16=D:=⟨_,rfl⟩
    rw [hA] at hX HE
    rw [hD] at hY HE
    have hA16:A < 16:=by omega
    have hD16:D < 16:=by omega
    obtain ⟨_,ixA⟩:=dig_byte A hA16
    obtain ⟨_,ixD⟩:=dig_byte D hD16
    have wA:IntKind.u8.wrap (A:Int)=(A:Int):=by rw [IntKind.wrap_u8];omega
    have wD:IntKind.u8.wrap (D:Int)=(D:Int):=by rw [IntKind.wrap_u8];omega
    have bA:(A:Int) < 16:=by omega
    have bD:(D:Int) < 16:=by omega
    have OWD:Hid ((wr.drew.alloc (.cells #[.int .u8 92,.int .u8 (hexd A).toNat,.int .u8 (hexd D).toNat] 5)).ownsRow w.heap.size 5 1 (.slice ao L.length cap) L.length (Lib.byteCells L)):=(own_below OWN.out (Below.refl _ _).drew).alloc _
    have NEW:Hid (∀ j u,([.int .u8 92,.int .u8 (hexd A).toNat,.int .u8 (hexd D).toNat]:List Value)[j]?=some u→(wr.drew.alloc (.cells #[.int .u8 92,.int .u8 (hexd A).toNat,.int .u8 (hexd D).toNat] 5)).cell? ((⟨wr.heap.size,0,none⟩:Addr).add j)=some u):=fun j u hj=>by
     have e:=cell_new_row wr.drew #[.int .u8 92,.int .u8 (hexd A).toNat,.int .u8 (hexd D).toNat] 5 j
     rw [add_at]
     exact e.trans (by simpa using hj)
    have ONE:Hid (∀ u ∈ ([.int .u8 92,.int .u8 (hexd A).toNat,.int .u8 (hexd D).toNat]:List Value),u.oneCell'=true):=fun u hu=>by
     simp at hu
     rcases hu with rfl | rfl | rfl <;> rfl
    have HL3:Hid ((L ++ [92,hexd A,hexd D]).length=L.length+3):=by show _=_;simp
    have HM:Hid (L.length+3≤maxLen):=by show _≤_;have:=HF.out;unfold maxLen;omega
    have HNX:Hid (∀ v' w1,World.ownsRow w1 w.heap.size 5 1 v' (L.length+3) (Lib.byteCells L ++ [.int .u8 92,.int .u8 (hexd A).toNat,.int .u8 (hexd D).toNat])→World.ownsRow w1 w.heap.size 5 1 v' (L ++ [92,hexd A,hexd D]).length (Lib.byteCells (L ++ [92,hexd A,hexd D]))):=fun v' w1 h=>by
     simpa [Lib.byteCells] using h
    have HBX:Hid (∀ w1,(wr.drew.alloc (.cells #[.int .u8 92,.int .u8 (hexd A).toNat,.int .u8 (hexd D).toNat] 5)).grownBy w1 (Value.slice ao L.length cap).ownBlock→Below w.heap.size w w1):=fun w1 hg=>(HB.out.drew.alloc hz _).grown hg (by simp;omega) (fun k e=>(OWN.out.lt k e).1)
    clear hA hD hp
    rcases hcase with h1 | ⟨h1,h2⟩ | ⟨h1,h2,h3⟩ | ⟨h1,h2,h3⟩
    ·have g1:(c.toNat:Int) < 32:=by omega
     clear h1
     go_wp2_with fail
     go_region_law (refine step_append_own_at rfl (.tmp 41) (.tmp 54) 22 rfl w.heap.size 5 i0 (.int .u8 0) 1 1 Tryz.underlying22 HHI.out.1 HHI.out.2.1 HHI.out.2.2.1 HHI.out.2.2.2 rfl (by decide) (.slice ao L.length cap) L.length (Lib.byteCells L) (by simp [Act.eval]) OWD.out ⟨wr.heap.size,0,none⟩ 3 3 [.int .u8 92,.int .u8 (hexd A).toNat,.int .u8 (hexd D).toNat] (by simp [Act.eval]) rfl NEW.out ONE.out HM.out (by have:=HF.out;omega) (by simp;omega) ?_;intro v' w1 hown' hgrow h4 h5;have HO1:=hid (HNX.out v' w1 hown');have HB1:=hid (HBX.out w1 hgrow);obtain ⟨a1,c1,rfl⟩:=own_slice' HO1.out;clear hown' hgrow h4 h5)
     all_goals
      go_wp2
      go_roundw
      case rel=>exact ⟨q+1,by omega,by go_num,by rw [HT.out,HE.out,← List.append_assoc,HLE.out];have h:=HO1.out;rw [HL3.out] at h ⊢;exact h,HB1.out⟩
      case measure=>simp [intOf];omega
    ·have g1:(32:Int)≤c.toNat:=by omega
     have g2:(126:Int) < c.toNat:=by omega
     clear h1 h2
     go_wp2_with fail
     go_region_law (refine step_append_own_at rfl (.tmp 41) (.tmp 54) 22 rfl w.heap.size 5 i0 (.int .u8 0) 1 1 Tryz.underlying22 HHI.out.1 HHI.out.2.1 HHI.out.2.2.1 HHI.out.2.2.2 rfl (by decide) (.slice ao L.length cap) L.length (Lib.byteCells L) (by simp [Act.eval]) OWD.out ⟨wr.heap.size,0,none⟩ 3 3 [.int .u8 92,.int .u8 (hexd A).toNat,.int .u8 (hexd D).toNat] (by simp [Act.eval]) rfl NEW.out ONE.out HM.out (by have:=HF.out;omega) (by simp;omega) ?_;intro v' w1 hown' hgrow h4 h5;have HO1:=hid (HNX.out v' w1 hown');have HB1:=hid (HBX.out w1 hgrow);obtain ⟨a1,c1,rfl⟩:=own_slice' HO1.out;clear hown' hgrow h4 h5)
     all_goals
      go_wp2
      go_roundw
      case rel=>exact ⟨q+1,by omega,by go_num,by rw [HT.out,HE.out,← List.append_assoc,HLE.out];have h:=HO1.out;rw [HL3.out] at h ⊢;exact h,HB1.out⟩
      case measure=>simp [intOf];omega
    ·have g1:(32:Int)≤c.toNat:=by omega
     have g2:(c.toNat:Int)≤126:=by omega
     have g3:((c.toNat:Int) != 34)=false:=by simp;omega
     clear h1 h2 h3
     go_wp2_with fail
     go_region_law (refine step_append_own_at rfl (.tmp 41) (.tmp 54) 22 rfl w.heap.size 5 i0 (.int .u8 0) 1 1 Tryz.underlying22 HHI.out.1 HHI.out.2.1 HHI.out.2.2.1 HHI.out.2.2.2 rfl (by decide) (.slice ao L.length cap) L.length (Lib.byteCells L) (by simp [Act.eval]) OWD.out ⟨wr.heap.size,0,none⟩ 3 3 [.int .u8 92,.int .u8 (hexd A).toNat,.int .u8 (hexd D).toNat] (by simp [Act.eval]) rfl NEW.out ONE.out HM.out (by have:=HF.out;omega) (by simp;omega) ?_;intro v' w1 hown' hgrow h4 h5;have HO1:=hid (HNX.out v' w1 hown');have HB1:=hid (HBX.out w1 hgrow);obtain ⟨a1,c1,rfl⟩:=own_slice' HO1.out;clear hown' hgrow h4 h5)
     all_goals
      go_wp2
      go_roundw
      case rel=>exact ⟨q+1,by omega,by go_num,by rw [HT.out,HE.out,← List.append_assoc,HLE.out];have h:=HO1.out;rw [HL3.out] at h ⊢;exact h,HB1.out⟩
      case measure=>simp [intOf];omega
    ·have g1:(32:Int)≤c.toNat:=by omega
     have g2:(c.toNat:Int)≤126:=by omega
     have g3:((c.toNat:Int) != 34)=true:=by simp;omega
     have g4:((c.toNat:Int) != 92)=false:=by simp;omega
     clear h1 h2 h3
     go_wp2_with fail
     go_region_law (refine step_append_own_at rfl (.tmp 41) (.tmp 54) 22 rfl w.heap.size 5 i0 (.int .u8 0) 1 1 Tryz.underlying22 HHI.out.1 HHI.out.2.1 HHI.out.2.2.1 HHI.out.2.2.2 rfl (by decide) (.slice ao L.length cap) L.length (Lib.byteCells L) (by simp [Act.eval]) OWD.out ⟨wr.heap.size,0,none⟩ 3 3 [.int .u8 92,.int .u8 (hexd A).toNat,.int .u8 (hexd D).toNat] (by simp [Act.eval]) rfl NEW.out ONE.out HM.out (by have:=HF.out;omega) (by simp;omega) ?_;intro v' w1 hown' hgrow h4 h5;have HO1:=hid (HNX.out v' w1 hown');have HB1:=hid (HBX.out w1 hgrow);obtain ⟨a1,c1,rfl⟩:=own_slice' HO1.out;clear hown' hgrow h4 h5)
     all_goals
      go_wp2
      go_roundw
      case rel=>exact ⟨q+1,by omega,by go_num,by rw [HT.out,HE.out,← List.append_assoc,HLE.out];have h:=HO1.out;rw [HL3.out] at h ⊢;exact h,HB1.out⟩
      case measure=>simp [intOf];omega
  ·obtain rfl:q=s.size:=by omega
   have HTA:Hid (s.data.toList.take s.size=s.data.toList):=List.take_of_length_le (by rw [len_size];exact Nat.le_refl _)
   obtain ⟨ao,cap,rfl⟩:=own_slice' OWN.out
   go_wp2_with (at_builtin;refine wpList_append_own _ rfl _ _ 22 rfl w.heap.size 5 i0 (.int .u8 0) 1 1 Tryz.underlying22 HHI.out.1 HHI.out.2.1 HHI.out.2.2.1 HHI.out.2.2.2 rfl (by decide) _ _ _ rfl (OWN.out.alloc _) ⟨wr.heap.size,0,none⟩ 1 1 [.int .u8 34] rfl rfl ?c1 ?c2 ?c3 ?c4 ?c5 ?_)
   case c1 =>
    intro j u hj
    match j,hj with
    | 0,hj=>simp at hj;subst hj;simp [Addr.add]
   case c2=>intro u hu;simp at hu;subst hu;rfl
   case c3=>have:=HF.out;unfold maxLen;omega
   case c4=>have:=HF.out;omega
   case c5=>simp;omega
   intro v' w1 hown' hgrow _
   have HO1:Hid (w1.ownsRow w.heap.size 5 1 v' (L ++ [34]).length (Lib.byteCells (L ++ [34]))):=by
    show World.ownsRow _ _ _ _ _ _ _
    simpa [Lib.byteCells] using hown'
   have HB1:=hid ((HB.out.alloc hz (.cells #[.int .u8 34] 5)).grown hgrow (by simp;omega) (fun k e=>(OWN.out.lt k e).1))
   have hcv:=conv_row w1 w.heap.size v' (L ++ [34]) HO1.out
   clear hown' hgrow
   go_wp2
   go_ret
   refine ⟨?_,HB1.out⟩
   rw [← HLE.out,HTA.out]
   simp [quoteL]
theorem quote_q (s:ByteArray) (w:World) (hs:s.size≤2000) :
  Calls Tryz.prog 9 #[.string s] w fun e w'=>(∃ y:ByteArray,e=.returned (.string y)∧y.size≤3 * s.size+2)∧Below w.heap.size w w' :=
 (l1Quote_any s w (by omega)).mono fun e w' ⟨h1,h2⟩=>⟨⟨_,h1,by
  have:∀ t:List UInt8,(t.flatMap quoteB).length≤3 * t.length:=fun t=>by
   induction t with
   | nil=>simp
   | cons a t ih=>have:=quoteB_len a;simp only [List.flatMap_cons,List.length_append,List.length_cons];omega
  have h3:=this s.data.toList
  have h4:s.data.toList.length=s.size:=by simp
  show (quoteL s.data.toList).toArray.size≤_
  simp only [quoteL,List.size_toArray,List.length_cons,List.length_append,List.length_nil]
  omega⟩,h2⟩
end Go.Proofs.YtabbahpalemlhaaGreatDoor.Tk
