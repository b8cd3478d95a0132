import Derived.Laws.IdiomStrings
import Derived.Lib.BufferRead
import Derived.Maps.AppendAt
import Derived.Lib.UnsafeStr
import Derived.Test.YthnohneaanphbaaGreatDoorJ27
namespace Go.Proofs.YthnohneaanphbaaGreatDoor.K
open Go.RowKit
set_option maxRecDepth 20000
theorem info_u8:(Tryz.prog.info? 5).map (fun i=>(i.zero,i.size,i.bytes))=some (some (.int .u8 0),1,1):=by kernel_rfl
theorem conv_row (w:World) (base:Nat) (v:Value) (l:List UInt8) (h:w.ownsRow base 5 1 v l.length (Lib.byteCells l)) :
  (convert 22 9 v).run Tryz.prog w=.ok (.string ⟨l.toArray⟩) w:=by
 obtain ⟨_,⟨rfl,h0⟩ | ⟨g,cap,cur,rfl,_,hg,_,_,_,htk⟩⟩:=h
 ·have e:l=[]:=List.eq_nil_of_length_eq_zero h0
  subst e
  exact Lib.run_convert_nil_bytes w _ _ 5 0 Tryz.underlying22 Tryz.underlying5 Tryz.underlying9
 ·exact run_convert_bytes_back w _ _ 5 _ cap l Tryz.underlying22 Tryz.underlying5 Tryz.underlying9 (Lib.bytes_of_row hg (by rw [Nat.mul_one] at htk;exact htk))
theorem row_below {B e size k:Nat} {w wr w1:World} {v:Value} {xs:List Value} {o:Obj} (own:wr.ownsRow B e size v k xs) (hb:Below B w wr) (hB:B≤w.heap.size) (hg:(wr.alloc o).grownBy w1 v.ownBlock):Below B w w1 :=
 (hb.alloc (Nat.le_trans hB hb.size) o).grown hg (by have:=hb.size;simp;omega) (fun k e=>(own.lt k e).1)
theorem own_drewN {B e size k:Nat} {w:World} {v:Value} {xs:List Value} (own:w.ownsRow B e size v k xs) (n:Nat):(w.drewN n).ownsRow B e size v k xs:=own
def unqV (u:Option (List UInt8 × Nat)):Value :=
 match u with
 | none=>.tuple #[.string ⟨#[]⟩,.int .i64 0,.bool false]
 | some x=>.tuple #[.string ⟨x.1.toArray⟩,.int .i64 x.2,.bool true]
set_option maxHeartbeats 1000000 in
theorem l1Unquote_any (s:ByteArray) (n:Nat) (w:World) (hs:s.size≤8000) (hn:n < s.size) :
  Calls Tryz.prog 102 #[.string s,.int .i64 n] w fun e w'=>e=.returned (unqV (unqAt (s.size - n) s.data.toList (n+1) []))∧Below w.heap.size w w':=by
 obtain ⟨U,hU⟩:∃ U,unqAt (s.size - n) s.data.toList (n+1) []=U:=⟨_,rfl⟩
 rw [hU]
 have HU:Hid (unqAt (s.size - n) s.data.toList (n+1) []=U):=hU
 clear hU
 obtain ⟨i0,hi,hz0,hz1,hz2⟩:=info_parts info_u8
 have HHI:Hid (Tryz.prog.info? 5=some i0∧i0.zero=some (.int .u8 0)∧i0.size=1∧i0.bytes=1):=⟨hi,hz0,hz1,hz2⟩
 clear hi hz0 hz1 hz2
 go_enter Tryz.func102,Tryz.ntmps102
 go_wp2
 go_loopw [7,8] (fun v i wr=>∃ (p f:Nat) (acc:List UInt8),i=.int .i64 p∧n+1≤p∧p≤s.size∧s.size - p < f∧acc.length≤p∧wr.ownsRow w.heap.size 5 1 v acc.length (Lib.byteCells acc)∧Below w.heap.size w wr∧unqAt f s.data.toList p acc=U)
  (fun _ i _=>s.size - (intOf i).toNat)
 case atStart=>exact ⟨n+1,s.size - n,[],by go_num,by omega,by omega,by omega,by simp,World.ownsRow_made w #[] 0 (Nat.le_refl _) (by unfold maxLen;omega) rfl,(Below.refl _ _).alloc (Nat.le_refl _) _,HU.out⟩
 case round =>
  obtain ⟨p,f,acc,rfl,hp1,hp2,hf,hacc,hown,hbel,hrel⟩:=hrel
  have HR:Hid (unqAt f s.data.toList p acc=U):=hrel
  have OWN:=hid hown
  have HB:=hid hbel
  clear hrel hown hbel
  by_cases hlt:p < s.size
  ·obtain ⟨f,rfl⟩:∃ f',f=f'+1:=⟨f - 1,by omega⟩
   have hl:p < s.data.toList.length:=by rw [len_size];exact hlt
   by_cases c1:s[p].toNat=34
   ·have c1':((s[p].toNat:Int) == 34)=true:=by rw [beq_iff_eq];omega
    have HE:Hid (U=some (acc,p+1)):=by
     show _=_;rw [← HR.out];exact unqAt_quote f _ p acc hl (by rw [get_eq s p hlt];exact c1)
    have hconv:=conv_row wr w.heap.size _ acc OWN.out
    clear c1
    go_wp2
    go_ret3
    exact ⟨by rw [HE.out];rfl,HB.out⟩
   ·have c1':((s[p].toNat:Int) == 34)=false:=by rw [beq_eq_false_iff_ne];omega
    by_cases c2:s[p].toNat=92
    ·have c2':((s[p].toNat:Int) == 92)=true:=by rw [beq_iff_eq];omega
     by_cases c3:p+2 < s.size
     ·have hx1:=hexv_le (s[p+1].toNat:Int)
      have hx2:=hexv_le (s[p+2].toNat:Int)
      have b1:=byte_bd s[p+1]
      have b2:=byte_bd s[p+2]
      have HT:=hid (tb_hex s.data.toList p (by rw [len_size];exact c3) (by rw [get_eq s p hlt];exact c2))
      have i1:(p:Int)+1 < s.size:=by omega
      have i2:(p:Int)+2 < s.size:=by omega
      have HC1:=hid c1
      clear c1 c2
      by_cases d1:hexv (s[p+1].toNat:Int) < 0
      ·have HE:Hid (U=none):=by
        show _=_;rw [← HR.out];exact unqAt_bad f _ p acc hl (by rw [get_eq s p hlt];exact HC1.out) (by rw [HT.out];exact if_pos (.inl d1))
       clear HT
       go_wp2_with (go_at_call 115;refine (l1Hex_any _ _ (by omega) (by omega)).mono ?_;rintro e w' ⟨rfl,rfl⟩)
       go_ret3
       exact ⟨by rw [HE.out];rfl,HB.out⟩
      ·have d1':0≤hexv (s[p+1].toNat:Int):=by omega
       by_cases d2:hexv (s[p+2].toNat:Int) < 0
       ·have HE:Hid (U=none):=by
         show _=_;rw [← HR.out];exact unqAt_bad f _ p acc hl (by rw [get_eq s p hlt];exact HC1.out) (by rw [HT.out];exact if_pos (.inr d2))
        clear HT
        go_wp2_with (go_at_call 115;refine (l1Hex_any _ _ (by omega) (by omega)).mono ?_;rintro e w' ⟨rfl,rfl⟩)
        go_ret3
        exact ⟨by rw [HE.out];rfl,HB.out⟩
       ·have d2':0≤hexv (s[p+2].toNat:Int):=by omega
        have NEXT:Hid (unqAt f s.data.toList (p+3) (acc ++ [(hexv s[p+1].toNat * 16+hexv s[p+2].toNat).toNat.toUInt8])=U):=by
         show _=_;rw [← HR.out]
         exact (unqAt_go f _ p acc hl (by rw [get_eq s p hlt];exact HC1.out) (by rw [HT.out];exact if_neg (by rintro (h | h);exact d1 h;exact d2 h))).symm
        have HBY:=hid (hex_byte (hexv s[p+1].toNat) (hexv s[p+2].toNat) (by omega) (by omega))
        clear HT d1 d2
        go_wp2_with (go_at_call 115;refine (l1Hex_any _ _ (by omega) (by omega)).mono ?_;rintro e w' ⟨rfl,hw⟩;have hw2:=hw.symm;clear hw;subst hw2)
        go_quiet ((go_at_call 115;exact Calls.quiet_of_same (l1Hex_any _ _ (by omega) (by omega))))
        go_wp2_with (first
       | (at_builtin;refine wpList_append_own _ rfl (.tmp 72) (.tmp 74) 22 rfl w.heap.size 5 i0 (.int .u8 0) 1 1 Tryz.underlying22 HHI.out.1 HHI.out.2.1 HHI.out.2.2.1 HHI.out.2.2.2 rfl (by decide) _ _ _ rfl ((own_drewN OWN.out nq).alloc _) ⟨wr.heap.size,0,none⟩ 1 1 [.int .u8 (16 * hexv s[p+1].toNat+hexv s[p+2].toNat)] rfl rfl (cell_one_new _ _ _) (by simp [Value.oneCell']) (by unfold maxLen;omega) (by omega) (by have:=HB.out.size;simp;omega) ?_;intro v' w1 hown' hgrow _))
        have R:=hid (row_below (own_drewN OWN.out nq) (below_drewN HB.out nq) (Nat.le_refl _) hgrow)
        have R2:Hid (w1.ownsRow w.heap.size 5 1 v' (acc ++ [(hexv s[p+1].toNat * 16+hexv s[p+2].toNat).toNat.toUInt8]).length (Lib.byteCells (acc ++ [(hexv s[p+1].toNat * 16+hexv s[p+2].toNat).toNat.toUInt8]))):=by
         show World.ownsRow _ _ _ _ _ _ _
         have e:Lib.byteCells (acc ++ [(hexv s[p+1].toNat * 16+hexv s[p+2].toNat).toNat.toUInt8])=Lib.byteCells acc ++ [.int .u8 (16 * hexv s[p+1].toNat+hexv s[p+2].toNat)]:=by
          rw [Lib.byteCells_append];simp only [Lib.byteCells,List.map_cons,List.map_nil];rw [HBY.out,Int.mul_comm]
         rw [e,List.length_append];exact hown'
        clear hown' hgrow
        go_wp2
        go_roundw
        case rel=>exact ⟨p+3,f,acc ++ [(hexv s[p+1].toNat * 16+hexv s[p+2].toNat).toNat.toUInt8],by go_num,by omega,by omega,by omega,by simp;omega,R2.out,R.out,NEXT.out⟩
        case measure=>simp [intOf];omega
     ·have HE:Hid (U=none):=by
       show _=_;rw [← HR.out];exact unqAt_bad f _ p acc hl (by rw [get_eq s p hlt];exact c1) (tb_short _ p hl (by rw [get_eq s p hlt];exact c2) (by rw [len_size];omega))
      clear c1 c2
      go_wp2
      go_ret3
      exact ⟨by rw [HE.out];rfl,HB.out⟩
    ·have c2':((s[p].toNat:Int) == 92)=false:=by rw [beq_eq_false_iff_ne];omega
     by_cases c3:s[p].toNat < 32∨126 < s[p].toNat
     ·have HE:Hid (U=none):=by
       show _=_;rw [← HR.out];exact unqAt_bad f _ p acc hl (by rw [get_eq s p hlt];exact c1) (tb_low _ p hl (by rw [get_eq s p hlt];exact c3))
      clear c1 c2
      rcases c3 with c3 | c3
      ·have c4:(s[p].toNat:Int) < 32:=by omega
       go_wp2
       go_ret3
       exact ⟨by rw [HE.out];rfl,HB.out⟩
      ·have c4:126 < (s[p].toNat:Int):=by omega
       have c5:¬ (s[p].toNat:Int) < 32:=by omega
       go_wp2
       go_ret3
       exact ⟨by rw [HE.out];rfl,HB.out⟩
     ·have c4:32≤(s[p].toNat:Int):=by omega
      have c5:(s[p].toNat:Int)≤126:=by omega
      have NEXT:Hid (unqAt f s.data.toList (p+1) (acc ++ [s[p]])=U):=by
       show _=_;rw [← HR.out]
       exact (unqAt_go f _ p acc hl (by rw [get_eq s p hlt];exact c1) (tb_plain _ p hl (by rw [get_eq s p hlt];omega) (by rw [get_eq s p hlt];omega) (by rw [get_eq s p hlt];exact c2))).symm
      clear c1 c2 c3
      go_wp2_with (first
     | (at_builtin;refine wpList_append_own _ rfl (.tmp 72) (.tmp 74) 22 rfl w.heap.size 5 i0 (.int .u8 0) 1 1 Tryz.underlying22 HHI.out.1 HHI.out.2.1 HHI.out.2.2.1 HHI.out.2.2.2 rfl (by decide) _ _ _ rfl (OWN.out.alloc _) ⟨wr.heap.size,0,none⟩ 1 1 [.int .u8 s[p].toNat] rfl rfl (cell_one_new _ _ _) (by simp [Value.oneCell']) (by unfold maxLen;omega) (by omega) (by have:=HB.out.size;simp;omega) ?_;intro v' w1 hown' hgrow _))
      have R:=hid (row_below OWN.out HB.out (Nat.le_refl _) hgrow)
      have R2:Hid (w1.ownsRow w.heap.size 5 1 v' (acc ++ [s[p]]).length (Lib.byteCells (acc ++ [s[p]]))):=by
       show World.ownsRow _ _ _ _ _ _ _
       simpa [Lib.byteCells] using hown'
      clear hown' hgrow
      go_wp2
      go_roundw
      case rel=>exact ⟨p+1,f,acc ++ [s[p]],by go_num,by omega,by omega,by omega,by simp;omega,R2.out,R.out,NEXT.out⟩
      case measure=>simp [intOf];omega
  ·have HE:Hid (U=none):=by
    show _=_;rw [← HR.out];exact unqAt_end f _ p acc (by rw [len_size];omega)
   go_wp2
   go_ret3
   exact ⟨by rw [HE.out];rfl,HB.out⟩
end Go.Proofs.YthnohneaanphbaaGreatDoor.K
