import Derived.Lib.BufferWrite
import Derived.Lib.SmallJoins
import Derived.Test.YtabbahpalemlhaaGreatDoorChecked
import Derived.WalkKit
import Derived.WalkSpells
import Derived.WalkLawsBesides
import Derived.Deep.QuietTactic
import Derived.BigQuiet
import Derived.Lib.Bytealg
import Derived.Lib.Strings
import Derived.BigCall
import Derived.Test.YtabbahpalemlhaaGreatDoorJ01
namespace Go.Proofs.YtabbahpalemlhaaGreatDoor
open Go.RowKit
set_option maxRecDepth 20000
def tokCells (t:Tok):List Value:=[.int .i64 t.kind,.string ⟨t.text.toArray⟩,.int .i64 t.n,.int .i64 t.place]
def tokRow (ts:List Tok):List Value:=ts.flatMap tokCells
theorem tokRow_snoc (ts:List Tok) (t:Tok):tokRow (ts ++ [t])=tokRow ts ++ tokCells t:=by simp [tokRow]
theorem info_tok:(Tryz.prog.info? 30).map (fun i=>(i.zero,i.size,i.bytes))=some (some (.agg #[.int .i64 0,.string ⟨#[]⟩,.int .i64 0,.int .i64 0]),4,40):=by kernel_rfl
theorem cell_four_new (w:World) (a b c d:Value) (t:TypeId):∀ j u,[a,b,c,d][j]?=some u→(w.alloc (.cells #[a,b,c,d] t)).cell? ((⟨w.heap.size,0,none⟩:Addr).add j)=some u:=by
 intro j u hj
 have h:(w.alloc (.cells #[a,b,c,d] t)).cell? ⟨w.heap.size,j,none⟩=#[a,b,c,d][j]?:=cell_new_row w _ t j
 have e:((⟨w.heap.size,0,none⟩:Addr).add j)=⟨w.heap.size,j,none⟩:=by unfold Addr.add;simp;intro h;exact h.symm
 rw [e,h,← hj];simp
theorem cell_four_new1 (w:World) (X:Obj) (a b c d:Value) (t:TypeId):∀ j u,[a,b,c,d][j]?=some u→((w.alloc X).alloc (.cells #[a,b,c,d] t)).cell? ((⟨w.heap.size+1,0,none⟩:Addr).add j)=some u:=by
 intro j u hj
 have h:=cell_four_new (w.alloc X) a b c d t j u hj
 rw [World.size_alloc] at h
 exact h
theorem flt_cells {w w1:World} (h:Below (w.heap.size+1) (w.alloc (.cells #[.int .i64 0,.int .i64 0] 26)) w1) :
  w1.cell? ⟨w.heap.size,0,none⟩=some (.int .i64 0)∧w1.cell? ⟨w.heap.size,1,none⟩=some (.int .i64 0)∧w1.frozen? ⟨w.heap.size,0,none⟩=false∧w1.frozen? ⟨w.heap.size,1,none⟩=false:=by
 refine ⟨?_,?_,?_,?_⟩
 ·rw [h.cell (p:=⟨w.heap.size,0,none⟩) (Nat.lt_succ_self _),cell_new_row];rfl
 ·rw [h.cell (p:=⟨w.heap.size,1,none⟩) (Nat.lt_succ_self _),cell_new_row];rfl
 ·rw [h.frozen (p:=⟨w.heap.size,0,none⟩) (Nat.lt_succ_self _)];simp
 ·rw [h.frozen (p:=⟨w.heap.size,1,none⟩) (Nat.lt_succ_self _)];simp
theorem own_base {w:World} {B B' e size k:Nat} {v:Value} {xs:List Value} (h:w.ownsRow B e size v k xs) (hB:B'≤B):w.ownsRow B' e size v k xs:=by
 obtain ⟨h1,h2 | ⟨g,cap,cur,a,b,c⟩⟩:=h
 ·exact ⟨h1,.inl h2⟩
 ·exact ⟨h1,.inr ⟨g,cap,cur,a,Nat.le_trans hB b,c⟩⟩
theorem own_below {w w1:World} {B e size k:Nat} {v:Value} {xs:List Value} (h:w.ownsRow B e size v k xs) (hb:Below w.heap.size w w1):w1.ownsRow B e size v k xs:=by
 obtain ⟨h1,h2 | ⟨g,cap,cur,a,b,c,d⟩⟩:=h
 ·exact ⟨h1,.inl h2⟩
 ·refine ⟨h1,.inr ⟨g,cap,cur,a,b,?_,d⟩⟩
  have hg:g < w.heap.size:=(Array.getElem?_eq_some_iff.1 c).1
  rw [hb.block g hg];exact c
set_option maxHeartbeats 1000000 in
theorem sScan_long (s:ByteArray) (w:World) (hs:s.size≤maxLen) (hl:8000 < s.size) :
  Calls Tryz.prog 6 #[.string s] w fun e w'=>∃ v,e=.returned (.tuple #[v,.agg #[.int .i64 1,.int .i64 0]])∧w'.ownsRow w.heap.size 30 4 v 0 []∧Below w.heap.size w w':=by
 unfold maxLen at hs
 go_enter Tryz.func6,Tryz.ntmps6
 go_wp2
 refine bodyPost_ret (v:=.tuple #[.slice (some ⟨w.heap.size+1,0,none⟩) 0 0,.agg #[.int .i64 1,.int .i64 0]]) (by simp [results,Tryz.results6,go_sem]) rfl ⟨_,rfl,?_,?_⟩
 ·have h:=World.ownsRow_made (w.alloc (Obj.cells #[Value.int IntKind.i64 1,Value.int IntKind.i64 0] 26)) (base:=w.heap.size) (e:=30) (size:=4) #[] 0 (by simp) (by unfold maxLen;omega) rfl
  rw [World.size_alloc] at h
  exact h
 ·exact ((Below.refl w.heap.size w).alloc (Nat.le_refl _) _).alloc (by simp) _
set_option maxHeartbeats 1000000 in
theorem sScan_any (s:ByteArray) (w:World) (hl:s.size≤8000) :
  Calls Tryz.prog 6 #[.string s] w fun e w'=>∃ v,e=.returned (.tuple #[v,.agg #[.int .i64 (scanR s.data.toList).2.1,.int .i64 (scanR s.data.toList).2.2]]) ∧
   w'.ownsRow w.heap.size 30 4 v (scanR s.data.toList).1.length (tokRow (scanR s.data.toList).1)∧Below w.heap.size w w':=by
 generalize hR:scanR s.data.toList=R
 have HR:=hid hR
 clear hR
 obtain ⟨i0,hi,hz0,hz1,hz2⟩:=info_parts info_tok
 have HHI:=hid (And.intro hi (And.intro hz0 (And.intro hz1 hz2)))
 clear hi hz0 hz1 hz2
 have hms:s.size≤maxLen:=by unfold maxLen;omega
 have hg0:=gapN_le false s.data.toList
 rw [len_size] at hg0
 go_enter Tryz.func6,Tryz.ntmps6
 go_wp2_with (go_at_call 14;refine (l1Gap_any s 0 _ hms (by omega) (by omega)).mono ?_;rintro e w' ⟨rfl,hw⟩;have hw2:=hw.symm;clear hw;subst hw2)
 go_loopw [4,5] (fun v i wr=>∃ (p f:Nat) (pre:List Tok),i=.int .i64 p∧p≤s.size∧s.size - p < f∧pre.length≤p∧wr.ownsRow (w.heap.size+1) 30 4 v pre.length (tokRow pre) ∧
   Below (w.heap.size+1) (w.alloc (.cells #[.int .i64 0,.int .i64 0] 26)) wr∧scanRest s.data.toList f p pre) (fun _ i _=>s.size - (intOf i).toNat)
 case atStart =>
  refine ⟨gapN false s.data.toList,s.data.toList.length+1,[],rfl,hg0,by rw [len_size];omega,Nat.zero_le _,?_,?_,rfl⟩
  ·have h:=World.ownsRow_made (w.alloc (Obj.cells #[Value.int IntKind.i64 0,Value.int IntKind.i64 0] 26)) (base:=w.heap.size+1) (e:=30) (size:=4) #[] 0 (by simp) (by unfold maxLen;omega) rfl
   rw [World.size_alloc] at h
   exact h
  ·exact (Below.refl _ _).alloc (by simp) _
 case round =>
  obtain ⟨p,f,pre,rfl,hp,hf,hpre,hown,hbel,hrest⟩:=hrel
  have OWN:=hid hown
  have HB:=hid hbel
  have HREST:=hid hrest
  clear hown hbel hrest hg0
  have hsz:=HB.out.size
  rw [World.size_alloc] at hsz
  by_cases hlt:p < s.size
  ·obtain ⟨f,rfl⟩:∃ f',f=f'+1:=⟨f - 1,by omega⟩
   have hlt':p < s.data.toList.length:=by rw [len_size];exact hlt
   generalize hO:one (s.data.toList.drop p)=O
   have HO:=hid hO
   clear hO
   by_cases hc:O.code=0
   ·have HV:Hid (oneV O p=.tuple #[.agg #[.int .i64 O.kind,.string ⟨O.text.toArray⟩,.int .i64 O.n,.int .i64 p],.int .i64 (p+O.size),.int .i64 0]):=if_pos hc
    have hs1:=one_size (s.data.toList.drop p) (by rw [HO.out];exact hc)
    rw [HO.out,List.length_drop,len_size] at hs1
    obtain ⟨hs1,hs2⟩:=hs1
    have hs3:p+O.size≤s.size:=by omega
    have NEXT:=hid (scanRest_go HREST.out hlt' (by rw [HO.out];exact hc))
    rw [HO.out] at NEXT
    have hg1:=gapN_le false (s.data.toList.drop (p+O.size))
    rw [List.length_drop,len_size] at hg1
    have HTN:Hid (((p:Int)+(O.size:Int)).toNat=p+O.size):=by show _=_;omega
    clear hc
    go_wp2_with (first
     | (go_at_call 15;refine (l1One_any s p _ hl hlt).mono ?_;rintro e w1 ⟨rfl,hb⟩;rw [HO.out,HV.out];have HB1:=hid hb;clear hb;have hz1:=HB1.out.size)
     | (at_builtin;refine wpList_append_own _ rfl (.tmp 34) (.tmp 36) 24 rfl (w.heap.size+1) 30 i0 (.agg #[.int .i64 0,.string ⟨#[]⟩,.int .i64 0,.int .i64 0]) 4 40 Tryz.underlying24 HHI.out.1 HHI.out.2.1 HHI.out.2.2.1 HHI.out.2.2.2 rfl (by decide) _ _ _ rfl (((own_below OWN.out HB1.out).alloc _).alloc _) ⟨w1.heap.size+1,0,none⟩ 1 1 [.int .i64 O.kind,.string ⟨O.text.toArray⟩,.int .i64 O.n,.int .i64 p] rfl rfl (cell_four_new1 _ _ _ _ _ _ _) (by simp [Value.oneCell']) (by unfold maxLen;omega) (by omega) (by simp;omega) ?_;intro v' w2 hown' hgrow _)
     | (go_at_call 14;refine (l1Gap_any s _ _ hms (by omega) (by omega)).mono ?_;rintro e w' ⟨rfl,hw⟩;have hw2:=hw.symm;clear hw;subst hw2;rw [HTN.out]))
    have R1:Hid (w2.ownsRow (w.heap.size+1) 30 4 v' (pre ++ [Tok.mk O.kind O.text O.n p]).length (tokRow (pre ++ [Tok.mk O.kind O.text O.n p]))):=by
     show World.ownsRow _ _ _ _ _ _ _;rw [tokRow_snoc,List.length_append];exact hown'
    have R2:=hid ((((HB.out.trans (HB1.out.mono hsz)).alloc (by omega) _).alloc (by simp;omega) _).grown hgrow (by simp;omega) (fun k e=>(OWN.out.lt k e).1))
    clear hown' hgrow
    go_roundw
    case rel=>exact ⟨p+O.size+gapN false (s.data.toList.drop (p+O.size)),f,pre ++ [Tok.mk O.kind O.text O.n p],by go_num,by omega,by omega,by simp;omega,R1.out,R2.out,NEXT.out⟩
    case measure=>simp [intOf];omega
   ·have HV:Hid (oneV O p=.tuple #[.agg #[.int .i64 0,.string ⟨#[]⟩,.int .i64 0,.int .i64 0],.int .i64 0,.int .i64 O.code]):=if_neg hc
    have HE:Hid (R=([],O.code,p)):=by
     show _=_;rw [← HR.out,scanRest_bad HREST.out hlt' (by rw [len_size];exact hl) (by rw [HO.out];exact hc),HO.out]
    have hc':((O.code:Int) != 0)=true:=by simp;omega
    have hRe:=HE.out
    subst hRe
    clear hc HE HR
    go_wp2_with (first
     | (go_at_call 15;refine (l1One_any s p _ hl hlt).mono ?_;rintro e w1 ⟨rfl,hb⟩;rw [HO.out,HV.out];have HB1:=hid (HB.out.trans (hb.mono hsz));have hz1:w.heap.size+1≤w1.heap.size:=Nat.le_trans hsz hb.size;have hz2:w.heap.size < w1.heap.size:=hz1;clear hb;obtain ⟨k0,k1,k2,k3⟩:=flt_cells HB1.out))
    refine bodyPost_ret (v:=.tuple #[.slice (some ⟨w1.heap.size+1,0,none⟩) 0 0,.agg #[.int .i64 O.code,.int .i64 p]]) (by simp [results,Tryz.results6,go_sem,k0,k1,hz2]) rfl ⟨_,rfl,?_,?_⟩
    ·have h:=fun W=>World.ownsRow_made (w:=World.alloc W (.cells #[.int .i64 0,.string ⟨#[]⟩,.int .i64 0,.int .i64 0] 30)) (base:=w.heap.size) (e:=30) (size:=4) #[] 0
     have h2:=h ((w1.setCell ⟨w.heap.size,0,none⟩ (.int .i64 O.code)).setCell ⟨w.heap.size,1,none⟩ (.int .i64 p)) (by simp;omega) (by unfold maxLen;omega) rfl
     simpa [tokRow] using h2
    ·refine Below.alloc (Below.alloc ?_ (by simp;omega) _) (by simp;omega) _
     exact ((((Below.refl w.heap.size w).alloc (Nat.le_refl _) _).trans (HB1.out.mono (by omega))).setCell (p:=⟨w.heap.size,0,none⟩) (Nat.le_refl _) _).setCell (p:=⟨w.heap.size,1,none⟩) (Nat.le_refl _) _
  ·have HE:Hid (R=(pre,0,0)):=by
    show _=_;rw [← HR.out,scanRest_end HREST.out (by rw [len_size];omega) (by rw [len_size];exact hl)]
   obtain ⟨k0,k1,k2,k3⟩:=flt_cells HB.out
   have hRe:=HE.out
   subst hRe
   clear HE HR
   go_wp2
   refine bodyPost_ret (v:=.tuple #[u4,.agg #[.int .i64 0,.int .i64 0]]) (by simp [results,Tryz.results6,go_sem,k0,k1]) rfl ⟨_,rfl,?_,?_⟩
   ·exact own_base (ownsRow_setCell_below (ownsRow_setCell_below OWN.out (a:=⟨w.heap.size,0,none⟩) (Nat.lt_succ_self _) _) (a:=⟨w.heap.size,1,none⟩) (Nat.lt_succ_self _) _) (by omega)
   ·exact ((((Below.refl w.heap.size w).alloc (Nat.le_refl _) _).trans (HB.out.mono (by omega))).setCell (p:=⟨w.heap.size,0,none⟩) (Nat.le_refl _) _).setCell (p:=⟨w.heap.size,1,none⟩) (Nat.le_refl _) _
end Go.Proofs.YtabbahpalemlhaaGreatDoor
namespace Go.Proofs.YtabbahpalemlhaaGreatDoor
open Go.RowKit
theorem same_drewN {w w':World} (h:w'=w):∃ n,w'=w.drewN n:=⟨0,by rw [h];rfl⟩
theorem textByte_none (r:ByteArray) (w:World) (hs:r.size≤maxLen) (hp:0 < r.size) (h:tb r.data.toList=none) :
  Calls Tryz.prog 85 #[.string r] w fun e w'=>e=.returned (.tuple #[.int .u8 0,.int .i64 0])∧∃ n,w'=w.drewN n:=by
 have hl:0 < r.data.toList.length:=by rw [len_size];exact hp
 have g0:=get_eq r 0 hp
 by_cases h1:r[0].toNat < 32
 ·exact (textByte_low r w hp (by omega)).mono fun e w' ⟨a,b⟩=>⟨a,same_drewN b⟩
 ·by_cases h2:126 < r[0].toNat
  ·exact (textByte_high r w hp (by omega)).mono fun e w' ⟨a,b⟩=>⟨a,same_drewN b⟩
  ·by_cases h3:r[0].toNat=92
   ·have h3':((r[0].toNat:Int) != 92)=false:=by simp;omega
    by_cases h4:r.size < 3
    ·exact (textByte_short r w hs hp (by omega) (by omega) h3' h4).mono fun e w' ⟨a,b⟩=>⟨a,same_drewN b⟩
    ·have ht:=tb_hex r.data.toList 0 (by rw [len_size];omega) (by rw [g0];exact h3)
     rw [List.drop_zero,h] at ht
     have hx:hexv r[1].toNat < 0∨hexv r[2].toNat < 0:=by
      by_cases hx:hexv r[1].toNat < 0∨hexv r[2].toNat < 0
      ·exact hx
      ·have ht2:none=if hexv r[1].toNat < 0∨hexv r[2].toNat < 0 then none else some ((hexv r[1].toNat * 16+hexv r[2].toNat).toNat.toUInt8,3):=ht
       rw [if_neg hx] at ht2;cases ht2
     refine (textByte_hex r w hs (by omega) (by omega) (by omega) h3').mono fun e w' ⟨a,b⟩=>⟨?_,b⟩
     rw [a,if_pos hx]
   ·have ht:=tb_plain r.data.toList 0 hl (by rw [g0];omega) (by rw [g0];omega) (by rw [g0];exact h3)
    rw [List.drop_zero,h] at ht;cases ht
theorem textByte_some (r:ByteArray) (w:World) (hs:r.size≤maxLen) (hp:0 < r.size) (b:UInt8) (m:Nat) (h:tb r.data.toList=some (b,m)) :
  Calls Tryz.prog 85 #[.string r] w fun e w'=>e=.returned (.tuple #[.int .u8 b.toNat,.int .i64 m])∧∃ n,w'=w.drewN n:=by
 have hl:0 < r.data.toList.length:=by rw [len_size];exact hp
 have g0:=get_eq r 0 hp
 by_cases h1:r[0].toNat < 32∨126 < r[0].toNat
 ·have ht:=tb_low r.data.toList 0 hl (by rw [g0];exact h1)
  rw [List.drop_zero,h] at ht;cases ht
 ·by_cases h3:r[0].toNat=92
  ·have h3':((r[0].toNat:Int) != 92)=false:=by simp;omega
   by_cases h4:r.size < 3
   ·have ht:=tb_short r.data.toList 0 hl (by rw [g0];exact h3) (by rw [len_size];omega)
    rw [List.drop_zero,h] at ht;cases ht
   ·have ht:=tb_hex r.data.toList 0 (by rw [len_size];omega) (by rw [g0];exact h3)
    rw [List.drop_zero,h] at ht
    have ht2:some (b,m)=if hexv r[1].toNat < 0∨hexv r[2].toNat < 0 then none else some ((hexv r[1].toNat * 16+hexv r[2].toNat).toNat.toUInt8,3):=ht
    by_cases hx:hexv r[1].toNat < 0∨hexv r[2].toNat < 0
    ·rw [if_pos hx] at ht2;cases ht2
    ·rw [if_neg hx] at ht2
     have x1:=hexv_le r[1].toNat
     have x2:=hexv_le r[2].toNat
     have hby:=hex_byte (hexv r[1].toNat) (hexv r[2].toNat) (by omega) (by omega)
     simp only [Option.some.injEq,Prod.mk.injEq] at ht2
     obtain ⟨e1,e2⟩:=ht2
     subst e1 e2
     refine (textByte_hex r w hs (by omega) (by omega) (by omega) h3').mono fun e w' ⟨a,c⟩=>⟨?_,c⟩
     rw [a,if_neg hx]
     exact congrArg (fun z=>Ending.returned (.tuple #[.int .u8 z,.int .i64 3])) hby.symm
  ·have ht:=tb_plain r.data.toList 0 hl (by rw [g0];omega) (by rw [g0];omega) (by rw [g0];exact h3)
   rw [List.drop_zero,h,g0] at ht
   cases ht
   refine (textByte_plain r w hp (by omega) (by omega) (by simp;omega)).mono fun e w' ⟨a,c⟩=>⟨?_,same_drewN c⟩
   rw [a];rfl
theorem tok_cells {w w1:World} (h:Below (w.heap.size+1) (w.alloc (.cells #[.int .i64 0,.string ⟨#[]⟩,.int .i64 0,.int .i64 0] 30)) w1) :
  (w1.cell? ⟨w.heap.size,0,none⟩=some (.int .i64 0)∧w1.cell? ⟨w.heap.size,1,none⟩=some (.string ⟨#[]⟩)∧w1.cell? ⟨w.heap.size,2,none⟩=some (.int .i64 0)∧w1.cell? ⟨w.heap.size,3,none⟩=some (.int .i64 0)) ∧
  (w1.frozen? ⟨w.heap.size,0,none⟩=false∧w1.frozen? ⟨w.heap.size,1,none⟩=false∧w1.frozen? ⟨w.heap.size,2,none⟩=false∧w1.frozen? ⟨w.heap.size,3,none⟩=false):=by
 refine ⟨⟨?_,?_,?_,?_⟩,⟨?_,?_,?_,?_⟩⟩
 ·rw [h.cell (p:=⟨w.heap.size,0,none⟩) (Nat.lt_succ_self _),cell_new_row];rfl
 ·rw [h.cell (p:=⟨w.heap.size,1,none⟩) (Nat.lt_succ_self _),cell_new_row];rfl
 ·rw [h.cell (p:=⟨w.heap.size,2,none⟩) (Nat.lt_succ_self _),cell_new_row];rfl
 ·rw [h.cell (p:=⟨w.heap.size,3,none⟩) (Nat.lt_succ_self _),cell_new_row];rfl
 ·rw [h.frozen (p:=⟨w.heap.size,0,none⟩) (Nat.lt_succ_self _)];simp
 ·rw [h.frozen (p:=⟨w.heap.size,1,none⟩) (Nat.lt_succ_self _)];simp
 ·rw [h.frozen (p:=⟨w.heap.size,2,none⟩) (Nat.lt_succ_self _)];simp
 ·rw [h.frozen (p:=⟨w.heap.size,3,none⟩) (Nat.lt_succ_self _)];simp
theorem extract_end (s:ByteArray) (p:Nat):(s.extract p s.size).data.toList=s.data.toList.drop p:=by
 have e:=ByteArray.data_extract (a:=s) (b:=p) (e:=s.size)
 rw [e,Array.toList_extract,List.extract_eq_take_drop]
 have h:(s.data.toList.drop p).length≤s.size - p:=by rw [List.length_drop,len_size];omega
 rw [List.take_of_length_le h]
theorem own_slice {w:World} {B e size k:Nat} {v:Value} {xs:List Value} (h:w.ownsRow B e size v k xs):∃ a cap,v=.slice a k cap:=by
 obtain ⟨_,⟨rfl,rfl⟩ | ⟨g,cap,cur,rfl,_⟩⟩:=h
 ·exact ⟨none,0,rfl⟩
 ·exact ⟨_,cap,rfl⟩
theorem below_tok {w w1:World} (h:Below (w.heap.size+1) (w.alloc (.cells #[.int .i64 0,.string ⟨#[]⟩,.int .i64 0,.int .i64 0] 30)) w1):Below w.heap.size w w1 :=
 ((Below.refl w.heap.size w).alloc (Nat.le_refl _) _).trans (h.mono (by omega))
def quoV (u:Option (List UInt8 × Nat)):Value :=
 match u with
 | none=>.tuple #[.string ⟨#[]⟩,.int .i64 0]
 | some x=>.tuple #[.string ⟨x.1.toArray⟩,.int .i64 x.2]
set_option maxRecDepth 20000 in
set_option maxHeartbeats 1000000 in
theorem readQuoted_any (s:ByteArray) (w:World) (hs:s.size≤12000) (hp0:0 < s.size) :
  Calls Tryz.prog 64 #[.string s] w fun e w'=>e=.returned (quoV (unqAt s.size s.data.toList 1 []))∧Below w.heap.size w w':=by
 generalize hU:unqAt s.size s.data.toList 1 []=U
 have HU:=hid hU
 clear hU
 obtain ⟨i0,hi,hz0,hz1,hz2⟩:=info_parts info_u8
 have HHI:=hid (And.intro hi (And.intro hz0 (And.intro hz1 hz2)))
 clear hi hz0 hz1 hz2
 go_enter Tryz.func64,Tryz.ntmps64
 go_wp2
 go_loopw [4,5] (fun v i wr=>∃ (p f:Nat) (acc:List UInt8),i=.int .i64 p∧1≤p∧p≤s.size∧s.size - p < f∧acc.length≤p∧wr.ownsRow w.heap.size 5 1 v acc.length (Lib.byteCells acc) ∧
   Below w.heap.size w wr∧unqAt f s.data.toList p acc=U)
  (fun _ i _=>s.size - (intOf i).toNat)
 case atStart=>exact ⟨1,s.size,[],rfl,by omega,by omega,by omega,by simp,World.ownsRow_nil _ _ _ _,Below.refl _ _,HU.out⟩
 case round =>
  obtain ⟨p,f,acc,rfl,hp1,hp2,hf,hacc,hown,hbel,hrel⟩:=hrel
  have HR:Hid (unqAt f s.data.toList p acc=U):=hrel
  have OWN:=hid hown
  have HB:=hid hbel
  clear hrel hown hbel
  have hsz:=HB.out.size
  by_cases hlt:p < s.size
  ·obtain ⟨f,rfl⟩:∃ f',f=f'+1:=⟨f - 1,by omega⟩
   have hl:p < s.data.toList.length:=by rw [len_size];exact hlt
   by_cases c1:s[p].toNat=34
   ·have c1':((s[p].toNat:Int) != 34)=false:=by simp;omega
    have HE:Hid (U=some (acc,p+1)):=by
     show _=_;rw [← HR.out];exact unqAt_quote f _ p acc hl (by rw [get_eq s p hlt];exact c1)
    have hne:((p:Int) == s.size)=false:=by rw [beq_eq_false_iff_ne];omega
    have hconv:=conv_row wr w.heap.size _ acc OWN.out
    clear c1 HR HU
    go_wp2
    go_ret2
    exact ⟨by rw [HE.out];rfl,HB.out⟩
   ·have c1':((s[p].toNat:Int) != 34)=true:=by simp;omega
    have hrl:(s.extract p s.size).size=s.size - p:=by simp
    have hrm:(s.extract p s.size).size≤maxLen:=by rw [hrl];unfold maxLen;omega
    have hrp:0 < (s.extract p s.size).size:=by rw [hrl];omega
    cases ht:tb (s.data.toList.drop p) with
    | none =>
     have HTB:Hid (tb (s.extract p s.size).data.toList=none):=by show _=_;rw [extract_end];exact ht
     have HE:Hid (U=none):=by show _=_;rw [← HR.out];exact unqAt_bad f _ p acc hl (by rw [get_eq s p hlt];exact c1) ht
     have HRM:=hid hrm
     have HRP:=hid hrp
     clear ht c1 hrl hrm hrp HR HU
     go_wp2_with (first
      | (go_at_call 85;refine (textByte_none _ _ HRM.out HRP.out HTB.out).mono ?_;rintro e w' ⟨rfl,nq,rfl⟩))
     go_ret2
     exact ⟨by rw [HE.out];rfl,below_drewN HB.out nq⟩
    | some x =>
     obtain ⟨b,m⟩:=x
     have hm:=tb_pos ht
     rw [List.length_drop,len_size] at hm
     obtain ⟨hm1,hm2⟩:=hm
     have HTB:Hid (tb (s.extract p s.size).data.toList=some (b,m)):=by show _=_;rw [extract_end];exact ht
     have NEXT:Hid (unqAt f s.data.toList (p+m) (acc ++ [b])=U):=by
      show _=_;rw [← HR.out]
      exact (unqAt_go f _ p acc hl (by rw [get_eq s p hlt];exact c1) ht).symm
     have HRM:=hid hrm
     have HRP:=hid hrp
     have hm0:((m:Int) == 0)=false:=by rw [beq_eq_false_iff_ne];omega
     clear ht c1 hrl hrm hrp
     go_wp2_with (first
      | (go_at_call 85;refine (textByte_some _ _ HRM.out HRP.out b m HTB.out).mono ?_;rintro e w' ⟨rfl,nq,rfl⟩)
      | (at_builtin;refine wpList_append_own _ rfl (.tmp 27) (.tmp 29) 22 rfl w.heap.size 5 i0 (.int .u8 0) 1 1 Tryz.underlying22 HHI.out.1 HHI.out.2.1 HHI.out.2.2.1 HHI.out.2.2.2 rfl (by decide) _ _ _ rfl ((own_drewN OWN.out nq).alloc _) ⟨wr.heap.size,0,none⟩ 1 1 [.int .u8 b.toNat] rfl rfl (cell_one_new _ _ _) (by simp [Value.oneCell']) (by unfold maxLen;omega) (by omega) (by simp;omega) ?_;intro v' w1 hown' hgrow _))
     have R:=hid ((((below_drewN HB.out nq).alloc (by simp;omega) _)).grown hgrow (by simp;omega) (fun k e=>(OWN.out.lt k e).1))
     have R2:Hid (w1.ownsRow w.heap.size 5 1 v' (acc ++ [b]).length (Lib.byteCells (acc ++ [b]))):=by
      show World.ownsRow _ _ _ _ _ _ _
      simpa [Lib.byteCells] using hown'
     clear hown' hgrow
     go_roundw
     case rel=>exact ⟨p+m,f,acc ++ [b],by go_num,by omega,by omega,by omega,by simp;omega,R2.out,R.out,NEXT.out⟩
     case measure=>simp [intOf];omega
  ·have HE:Hid (U=none):=by show _=_;rw [← HR.out];exact unqAt_end f _ p acc (by rw [len_size];omega)
   have hne:((p:Int) == s.size)=true:=by rw [beq_iff_eq];omega
   clear HR HU
   go_wp2
   go_ret2
   exact ⟨by rw [HE.out];rfl,HB.out⟩
set_option maxRecDepth 20000 in
set_option maxHeartbeats 1000000 in
theorem readText_any (s:ByteArray) (w:World) (hs:s.size≤8000) (hp0:0 < s.size) :
  Calls Tryz.prog 43 #[.string s] w fun e w'=>e=.returned (oneV (textOne (s.data.toList.drop 1)) 0)∧Below w.heap.size w w':=by
 have HT:=hid (text_one s 0 hp0)
 simp only [Nat.zero_add,Nat.sub_zero] at HT
 have HQ:Hid (∀ W:World,Calls Tryz.prog 64 #[.string s] W fun e w'=>e=.returned (quoV (unqAt s.size s.data.toList 1 []))∧Below W.heap.size W w'):=fun W=>readQuoted_any s W (by omega) hp0
 generalize hU:unqAt s.size s.data.toList 1 []=U at HT HQ
 clear hU
 cases U with
 | none =>
  have HE:=hid (oneV_bad (HT.out.1 rfl) (by decide) 0)
  clear HT
  go_enter Tryz.func43,Tryz.ntmps43
  go_wp2_with (go_at_call 64;refine (HQ.out _).mono ?_;rintro e w1 ⟨rfl,hb⟩;unfold quoV;have HB:=hid hb;obtain ⟨⟨k0,k1,k2,k3⟩,⟨k4,k5,k6,k7⟩⟩:=tok_cells (hb.mono (by simp));clear hb)
  refine bodyPost_ret (v:=.tuple #[.agg #[.int .i64 0,.string ⟨#[]⟩,.int .i64 0,.int .i64 0],.int .i64 0,.int .i64 4]) (by simp [results,Tryz.results43,go_sem,k0,k1,k2,k3]) rfl ⟨by rw [HE.out];rfl,?_⟩
  exact below_set4 (below_tok (HB.out.mono (by simp)))
 | some x =>
  obtain ⟨o,q⟩:=x
  obtain ⟨hq1,hq2,h5,h4⟩:=HT.out.2 o q rfl
  have hq0:((q:Int) == 0)=false:=by rw [beq_eq_false_iff_ne];omega
  have hsz:(⟨o.toArray⟩:ByteArray).size=o.length:=by simp [ByteArray.size]
  by_cases hl:1000 < o.length
  ·have HE:=hid (oneV_bad (h5 hl) (by decide) 0)
   clear HT h5 h4
   have hl':1000 < (o.length:Int):=by omega
   clear hl
   go_enter Tryz.func43,Tryz.ntmps43
   go_wp2_with (go_at_call 64;refine (HQ.out _).mono ?_;rintro e w1 ⟨rfl,hb⟩;unfold quoV;have HB:=hid hb;obtain ⟨⟨k0,k1,k2,k3⟩,⟨k4,k5,k6,k7⟩⟩:=tok_cells (hb.mono (by simp));clear hb)
   refine bodyPost_ret (v:=.tuple #[.agg #[.int .i64 0,.string ⟨#[]⟩,.int .i64 0,.int .i64 0],.int .i64 0,.int .i64 5]) (by simp [results,Tryz.results43,go_sem,k0,k1,k2,k3]) rfl ⟨by rw [HE.out];rfl,?_⟩
   exact below_set4 (below_tok (HB.out.mono (by simp)))
  ·have HE:=hid (oneV_good (h4 (by omega)) 0)
   clear HT h5 h4
   have hl':(o.length:Int)≤1000:=by omega
   clear hl
   go_enter Tryz.func43,Tryz.ntmps43
   go_wp2_with (go_at_call 64;refine (HQ.out _).mono ?_;rintro e w1 ⟨rfl,hb⟩;unfold quoV;have HB:=hid hb;obtain ⟨⟨k0,k1,k2,k3⟩,⟨k4,k5,k6,k7⟩⟩:=tok_cells (hb.mono (by simp));clear hb)
   refine bodyPost_ret (v:=.tuple #[.agg #[.int .i64 4,.string ⟨o.toArray⟩,.int .i64 0,.int .i64 0],.int .i64 q,.int .i64 0]) (by simp [results,Tryz.results43,go_sem,k0,k1,k2,k3]) rfl ⟨by rw [HE.out];simp,?_⟩
   exact below_set4 (below_tok (HB.out.mono (by simp)))
end Go.Proofs.YtabbahpalemlhaaGreatDoor
namespace Go.Proofs.YtabbahpalemlhaaGreatDoor
open Go.RowKit Go.Shelf
def markArr:Array Value:=(marks.map fun x=>Value.string ⟨x.toArray⟩).toArray
structure Env (w:World):Prop where
 bad:∃ tp p,w.cell? ⟨2,0,none⟩=some (.iface tp p)
 big:∃ tp p,w.cell? ⟨3,0,none⟩=some (.iface tp p)
 mark:∃ t fr,w.heap[0]?=some (.cells markArr t fr)
 size:6≤w.heap.size
theorem Env.below {w w':World} (h:Env w) (hb:Below w.heap.size w w'):Env w':=by
 have hs:=h.size
 refine ⟨?_,?_,?_,Nat.le_trans hs hb.size⟩
 ·obtain ⟨tp,p,e⟩:=h.bad
  exact ⟨tp,p,(hb.cell (p:=⟨2,0,none⟩) (show 2 < w.heap.size by omega)).trans e⟩
 ·obtain ⟨tp,p,e⟩:=h.big
  exact ⟨tp,p,(hb.cell (p:=⟨3,0,none⟩) (show 3 < w.heap.size by omega)).trans e⟩
 ·obtain ⟨t,fr,e⟩:=h.mark
  exact ⟨t,fr,(hb.block 0 (show 0 < w.heap.size by omega)).trans e⟩
theorem parseInt_bad (s:ByteArray) (w:World) (hs:s.size≤8000) (hE:Env w) (h:∀ v,Lib.parseIntB 64 s.data.toList≠.ok v) :
  Calls Tryz.prog 66 #[.string s,.int .i64 10,.int .i64 64] w fun e w'=>∃ x N,e=.returned (.tuple #[.int .i64 x,.iface 138 (.pointer (some ⟨N,0,none⟩))])∧Below w.heap.size w w':=by
 obtain ⟨tp,p,e1⟩:=hE.bad
 obtain ⟨tq,q,e2⟩:=hE.big
 rcases hp:Lib.parseIntB 64 s.data.toList with v | _ | _
 ·exact absurd hp (h v)
 ·refine (Any.strconv_ParseInt_10_at64_syntax laysPI s (by omega) hp (.iface tp p) w e1 (.inr ⟨tp,p,rfl⟩)).mono ?_
  rintro e w' ⟨N,rfl,_,_,hb⟩
  exact ⟨_,N,rfl,hb⟩
 ·refine (Any.strconv_ParseInt_10_at64_range laysPI s (by omega) hp (.iface tq q) w e2 (.inr ⟨tq,q,rfl⟩)).mono ?_
  rintro e w' ⟨N,rfl,_,_,hb⟩
  exact ⟨_,N,rfl,hb⟩
theorem parseInt_good (s:ByteArray) (w:World) (hs:s.size≤8000) (v:Int) (h:Lib.parseIntB 64 s.data.toList=.ok v) :
  Calls Tryz.prog 66 #[.string s,.int .i64 10,.int .i64 64] w fun e w'=>e=.returned (.tuple #[.int .i64 v,.nilIface])∧Below w.heap.size w w':=by
 refine (Any.strconv_ParseInt_10_at64_ok laysPI s (by omega) v h w).mono ?_
 rintro e w' ⟨rfl,rfl | ⟨t,rfl⟩⟩
 ·exact ⟨rfl,Below.refl _ _⟩
 ·exact ⟨rfl,Joins.below_bytesWorld _ _ _ _ (Nat.le_refl _)⟩
theorem extract_take (s:ByteArray) (k:Nat):(s.extract 0 k).data.toList=s.data.toList.take k:=by
 have h:=extract_list s 0 k
 rw [Nat.zero_add,List.drop_zero] at h
 exact h
set_option maxRecDepth 20000 in
set_option maxHeartbeats 1000000 in
theorem readNumber_any (s:ByteArray) (w:World) (hs:s.size≤8000) (hp:0 < s.size) (hd:dig (s[0].toNat:Int)=true) (hE:Env w) :
  Calls Tryz.prog 45 #[.string s] w fun e w'=>e=.returned (oneV (numOne s.data.toList) 0)∧Below w.heap.size w w':=by
 have hms:s.size≤maxLen:=by unfold maxLen;omega
 have HN:=hid (num_parse s.data.toList s[0] s.data.toList.tail (head_eq s hp) hd)
 have hk2:=run_le letB s.data.toList
 have hk1:1≤run letB s.data.toList:=by rw [head_eq s hp];exact run_pos _ _ _ (dig_let hd)
 have HX:=hid (extract_take s (run letB s.data.toList))
 have HTK:Hid (s.data.toList.take 1=[s[0]]):=by show _=_;rw [head_eq s hp];rfl
 rw [len_size] at hk2
 generalize hK:run letB s.data.toList=k at *
 have HK:=hid hK
 clear hK
 have HSZ:Hid ((s.extract 0 k).size≤8000):=by show _≤_;simp;omega
 have HEn:Hid (∀ X:Obj,Env (w.alloc X)):=fun X=>hE.below ((Below.refl _ _).alloc (Nat.le_refl _) _)
 clear hE hd
 by_cases hg:∃ v,Lib.parseIntB 64 (s.data.toList.take k)=.ok v
 ·obtain ⟨v,hv⟩:=hg
  obtain ⟨h1,h2,h3⟩:=HN.out.1 v hv
  have HPV:Hid (Lib.parseIntB 64 (s.extract 0 k).data.toList=.ok v):=by show _=_;rw [HX.out];exact hv
  clear HN hv
  by_cases z:s[0].toNat=48∧1 < k
  ·have HE:=hid (oneV_bad (num_bad s.data.toList k h1 (.inr (.inl ⟨by rw [HTK.out];exact (sing48 _).2 z.1,z.2⟩))) (by decide) 0)
   have z1:((s[0].toNat:Int) == 48)=true:=by rw [beq_iff_eq];omega
   have z2:1 < (k:Int):=by omega
   clear z h1 h2 h3
   go_enter Tryz.func45,Tryz.ntmps45
   go_wp2_with (first
    | (go_at_call 65;refine (nameSize_any s _ hms).mono ?_;rintro e w' ⟨rfl,hw⟩;have hw2:=hw.symm;clear hw;subst hw2;rw [HK.out])
    | (go_at_call 66;refine (parseInt_good _ _ HSZ.out v HPV.out).mono ?_;rintro e w1 ⟨rfl,hb⟩;have HB:=hid hb;obtain ⟨⟨k0,k1,k2,k3⟩,⟨k4,k5,k6,k7⟩⟩:=tok_cells (hb.mono (by simp));clear hb))
   refine bodyPost_ret (v:=.tuple #[.agg #[.int .i64 0,.string ⟨#[]⟩,.int .i64 0,.int .i64 0],.int .i64 0,.int .i64 3]) (by simp [results,Tryz.results45,go_sem,k0,k1,k2,k3]) rfl ⟨by rw [HE.out];rfl,?_⟩
   exact below_set4 (below_tok (HB.out.mono (by simp)))
  ·have HE:=hid (oneV_good (num_good s.data.toList k h1 HK.out (by rw [HTK.out];rintro ⟨a,b⟩;exact z ⟨(sing48 _).1 a,b⟩) h3) 0)
   have HV2:=hid h2
   clear h1 h2 h3
   by_cases z1:s[0].toNat=48
   ·have z1':((s[0].toNat:Int) == 48)=true:=by rw [beq_iff_eq];omega
    have z2:(k:Int)≤1:=by omega
    clear z z1
    go_enter Tryz.func45,Tryz.ntmps45
    go_wp2_with (first
     | (go_at_call 65;refine (nameSize_any s _ hms).mono ?_;rintro e w' ⟨rfl,hw⟩;have hw2:=hw.symm;clear hw;subst hw2;rw [HK.out])
     | (go_at_call 66;refine (parseInt_good _ _ HSZ.out v HPV.out).mono ?_;rintro e w1 ⟨rfl,hb⟩;have HB:=hid hb;obtain ⟨⟨k0,k1,k2,k3⟩,⟨k4,k5,k6,k7⟩⟩:=tok_cells (hb.mono (by simp));clear hb))
    refine bodyPost_ret (v:=.tuple #[.agg #[.int .i64 3,.string ⟨#[]⟩,.int .i64 v,.int .i64 0],.int .i64 k,.int .i64 0]) (by simp [results,Tryz.results45,go_sem,k0,k1,k2,k3]) rfl ⟨by rw [HE.out,HV2.out];simp,?_⟩
    exact below_set4 (below_tok (HB.out.mono (by simp)))
   ·have z1':((s[0].toNat:Int) == 48)=false:=by rw [beq_eq_false_iff_ne];omega
    clear z z1
    go_enter Tryz.func45,Tryz.ntmps45
    go_wp2_with (first
     | (go_at_call 65;refine (nameSize_any s _ hms).mono ?_;rintro e w' ⟨rfl,hw⟩;have hw2:=hw.symm;clear hw;subst hw2;rw [HK.out])
     | (go_at_call 66;refine (parseInt_good _ _ HSZ.out v HPV.out).mono ?_;rintro e w1 ⟨rfl,hb⟩;have HB:=hid hb;obtain ⟨⟨k0,k1,k2,k3⟩,⟨k4,k5,k6,k7⟩⟩:=tok_cells (hb.mono (by simp));clear hb))
    refine bodyPost_ret (v:=.tuple #[.agg #[.int .i64 3,.string ⟨#[]⟩,.int .i64 v,.int .i64 0],.int .i64 k,.int .i64 0]) (by simp [results,Tryz.results45,go_sem,k0,k1,k2,k3]) rfl ⟨by rw [HE.out,HV2.out];simp,?_⟩
    exact below_set4 (below_tok (HB.out.mono (by simp)))
 ·have HE:=hid (oneV_bad (HN.out.2 (fun v hv=>hg ⟨v,hv⟩)) (by decide) 0)
  have HPV:Hid (∀ v,Lib.parseIntB 64 (s.extract 0 k).data.toList≠.ok v):=fun v hv=>hg ⟨v,by rw [← HX.out];exact hv⟩
  clear HN hg
  go_enter Tryz.func45,Tryz.ntmps45
  go_wp2_with (first
   | (go_at_call 65;refine (nameSize_any s _ hms).mono ?_;rintro e w' ⟨rfl,hw⟩;have hw2:=hw.symm;clear hw;subst hw2;rw [HK.out])
   | (go_at_call 66;refine (parseInt_bad _ _ HSZ.out (HEn.out _) HPV.out).mono ?_;rintro e w1 ⟨x,N,rfl,hb⟩;have HB:=hid hb;obtain ⟨⟨k0,k1,k2,k3⟩,⟨k4,k5,k6,k7⟩⟩:=tok_cells (hb.mono (by simp));clear hb))
  refine bodyPost_ret (v:=.tuple #[.agg #[.int .i64 0,.string ⟨#[]⟩,.int .i64 0,.int .i64 0],.int .i64 0,.int .i64 3]) (by simp [results,Tryz.results45,go_sem,k0,k1,k2,k3]) rfl ⟨by rw [HE.out];rfl,?_⟩
  exact below_set4 (below_tok (HB.out.mono (by simp)))
end Go.Proofs.YtabbahpalemlhaaGreatDoor
namespace Go.Proofs.YtabbahpalemlhaaGreatDoor
open Go.RowKit
set_option maxHeartbeats 400000 in
theorem sl_hasPrefix_any (s p:ByteArray) (w:World) :
  Calls Tryz.prog 89 #[.string s,.string p] w fun e w'=>e=.returned (.bool (p.data.toList.isPrefixOf s.data.toList))∧w'=w:=by
 have e0:p.data.toList.isPrefixOf s.data.toList=Lib.hasPrefix s.data.toList p.data.toList:=rfl
 rw [e0,← Lib.hasPrefix_of_take,← Lib.size_eq,← Lib.size_eq]
 go_enter Tryz.func89,Tryz.ntmps89
 go_wp2
 ·rename_i h
  go_ret
  refine ⟨?_,rfl⟩
  show Ending.returned (Value.bool ((s.extract 0 p.size).toList == p.toList))=_
  rw [Lib.extract_toList,Lib.toList_data]
  simp [h]
 ·rename_i h
  go_ret
  refine ⟨?_,rfl⟩
  show Ending.returned (Value.bool false)=_
  simp [h]
set_option maxHeartbeats 400000 in
theorem hasPrefix_any (s p:ByteArray) (w:World) :
  Calls Tryz.prog 68 #[.string s,.string p] w fun e w'=>e=.returned (.bool (p.data.toList.isPrefixOf s.data.toList))∧w'=w:=by
 go_enter Tryz.func68,Tryz.ntmps68
 go_wp2_with (go_at_call 89;refine (sl_hasPrefix_any _ _ _).mono ?_;rintro e w' ⟨rfl,hw⟩;rw [hw])
 go_ret
 exact ⟨ret_bool (by simp),rfl⟩
theorem markArr_get (k:Nat) (h:k < 23):markArr[k]?=some (.string (markS k)):=by
 have hl:k < marks.length:=h
 simp [markArr,markS,hl]
theorem index_marks (k:Nat) (h:k < 23) (W:World):(Instr.index 111 (.agg markArr) (.int .i64 k)).run Tryz.prog W=.ok (.string (markS k)) W:=by
 have hg:=markArr_get k h
 have hz:=Tryz.sizeOf9 W
 simp [Instr.index,asIntOf,run_underlying Tryz.underlying111,h,hz,part,hg]
set_option maxRecDepth 20000 in
set_option maxHeartbeats 1000000 in
theorem readMark_any (s:ByteArray) (w:World) (hE:Env w) :
  Calls Tryz.prog 48 #[.string s] w fun e w'=>e=.returned (oneV (markOne s.data.toList) 0)∧Below w.heap.size w w':=by
 obtain ⟨t,fr,hg⟩:=(hE.below ((Below.refl _ _).alloc (Nat.le_refl _) (.cells #[.int .i64 0,.string ⟨#[]⟩,.int .i64 0,.int .i64 0] 30))).mark
 have HG:=hid hg
 clear hE hg
 go_enter Tryz.func48,Tryz.ntmps48
 go_wp2_with (refine wpList_load_row rfl 111 (.global 0) rfl 0 rfl t markArr fr (.array 23 9) HG.out Tryz.underlying111 rfl (by kernel_rfl) ?_)
 go_loop [6,8] (fun _ i=>∃ k:Nat,k≤23∧i=.int .i64 k∧∀ j,j < k→(marks.getD j []).isPrefixOf s.data.toList=false) (fun _ i=>23 - (intOf i).toNat)
 case atStart=>exact ⟨0,Nat.zero_le _,rfl,fun j h=>absurd h (Nat.not_lt_zero _)⟩
 case round =>
  obtain ⟨k,hk,rfl,hno⟩:=hrel
  have HNO:=hid hno
  clear hno
  by_cases hlt:k < 23
  ·have hidx:=index_marks k hlt
   have em:(markS k).data.toList=marks.getD k []:=by simp [markS]
   by_cases hp:(marks.getD k []).isPrefixOf s.data.toList=true
   ·have HP:Hid ((markS k).data.toList.isPrefixOf s.data.toList=true):=by show _=_;rw [em];exact hp
    have HE:=hid (oneV_good (mark_first _ k hlt hp HNO.out) 0)
    clear hp em
    go_wp2_with (go_at_call 68;refine (hasPrefix_any _ _ _).mono ?_;rintro e w' ⟨rfl,hw⟩;rw [hw,HP.out])
    refine bodyPost_ret (v:=.tuple #[.agg #[.int .i64 5,.string (markS k),.int .i64 0,.int .i64 0],.int .i64 (markS k).size,.int .i64 0]) (by simp [results,Tryz.results48,go_sem]) rfl ⟨by rw [HE.out,← markS_size];simp;rfl,?_⟩
    exact (Below.refl w.heap.size w).alloc (Nat.le_refl _) _
   ·have hp':(marks.getD k []).isPrefixOf s.data.toList=false:=Bool.eq_false_iff.2 hp
    have HP:Hid ((markS k).data.toList.isPrefixOf s.data.toList=false):=by show _=_;rw [em];exact hp'
    have HN2:Hid (∀ j,j < k+1→(marks.getD j []).isPrefixOf s.data.toList=false):=fun j hj=>by
     rcases Nat.lt_or_eq_of_le (Nat.lt_succ_iff.1 hj) with h | h
     ·exact HNO.out j h
     ·subst h;exact hp'
    clear hp hp' em
    go_wp2_with (go_at_call 68;refine (hasPrefix_any _ _ _).mono ?_;rintro e w' ⟨rfl,hw⟩;rw [hw,HP.out])
    go_round
    case rel=>exact ⟨k+1,by omega,by go_num,HN2.out⟩
    case measure=>simp [intOf];omega
  ·have HE:=hid (oneV_bad (mark_none _ (fun j hj=>HNO.out j (by omega))) (by decide) 0)
   go_wp2
   refine bodyPost_ret (v:=.tuple #[.agg #[.int .i64 0,.string ⟨#[]⟩,.int .i64 0,.int .i64 0],.int .i64 0,.int .i64 2]) (by simp [results,Tryz.results48,go_sem]) rfl ⟨by rw [HE.out];rfl,?_⟩
   exact (Below.refl w.heap.size w).alloc (Nat.le_refl _) _
end Go.Proofs.YtabbahpalemlhaaGreatDoor
namespace Go.Proofs.YtabbahpalemlhaaGreatDoor
open Go.RowKit
def wordE (n:Nat):Array MapEntry:=((List.range n).map fun i=>({ key:=.string (wordS i),val:=.int .i64 2,born:=i }:MapEntry)).toArray
theorem wordE_succ (n:Nat):wordE (n+1)=(wordE n).push { key:=.string (wordS n),val:=.int .i64 2,born:=n }:=by
 simp [wordE,List.range_succ]
theorem find_none (s:ByteArray) (es:List MapEntry) (i:Nat) (h:∀ e ∈ es,∃ t,e.key=.string t∧(s == t)=false):Instr.findNow .string (.string s) es i=some none:=by
 induction es generalizing i with
 | nil=>rfl
 | cons e es ih =>
  obtain ⟨t,ht,hne⟩:=h e (List.mem_cons_self ..)
  unfold Instr.findNow
  rw [ht]
  simp only [Instr.sameNow,hne]
  exact ih (i+1) fun x hx=>h x (List.mem_cons_of_mem _ hx)
theorem find_some (s:ByteArray) (es:List MapEntry) (i:Nat) (hs:∀ e ∈ es,(∃ t,e.key=.string t)∧e.val=.int .i64 2) (h:∃ e ∈ es,e.key=.string s):∃ j,Instr.findNow .string (.string s) es i=some (some (j,.int .i64 2)):=by
 induction es generalizing i with
 | nil=>obtain ⟨e,he,_⟩:=h;simp at he
 | cons e es ih =>
  obtain ⟨⟨t,ht⟩,hv⟩:=hs e (List.mem_cons_self ..)
  unfold Instr.findNow
  rw [ht]
  simp only [Instr.sameNow]
  cases hq:(s == t) with
  | true=>exact ⟨i,by simp [hv]⟩
  | false =>
   refine ih (i+1) (fun x hx=>hs x (List.mem_cons_of_mem _ hx)) ?_
   obtain ⟨x,hx,hk⟩:=h
   rcases List.mem_cons.1 hx with e2 | e2
   ·subst e2
    rw [ht] at hk
    cases hk
    rw [beq_toListBytes] at hq
    simp at hq
   ·exact ⟨x,e2,hk⟩
theorem wordE_mem (n:Nat) (e:MapEntry):e ∈ (wordE n).toList ↔ ∃ i,i < n∧e={ key:=.string (wordS i),val:=.int .i64 2,born:=i }:=by
 simp [wordE]
 constructor
 ·rintro ⟨i,hi,rfl⟩;exact ⟨i,hi,rfl⟩
 ·rintro ⟨i,hi,rfl⟩;exact ⟨i,hi,rfl⟩
theorem word_apart:∀ i,i < 17→∀ j,j < i→words.getD i []≠words.getD j []:=by decide
theorem wordS_apart (i:Nat) (hi:i < 17) (j:Nat) (hj:j < i):(wordS i == wordS j)=false:=by
 rw [beq_toListBytes,beq_eq_false_iff_ne]
 intro e
 exact word_apart i hi j hj (by rw [Lib.toList_data,Lib.toList_data] at e;simpa [wordS] using e)
theorem set_last {α:Type} (a:Array α) (x y:α):(a.push x).setIfInBounds a.size y=a.push y:=by
 apply Array.ext
 ·simp
 ·intro i h1 h2
  rw [Array.getElem_setIfInBounds (by simpa using h1),Array.getElem_push,Array.getElem_push]
  by_cases h:a.size=i
  ·subst h;simp
  ·rw [if_neg h]
   simp at h1
   rw [dif_pos (by omega),dif_pos (by omega)]
theorem word_ins (w:World) (i:Nat) (hi:i < 17) (s:ByteArray) (hs:s=wordS i) :
  (Instr.mapUpdate 56 (.map (some w.heap.size)) (.string s) (.int .i64 2)).run Tryz.prog (w.alloc (.map (wordE i) i))=.ok () (w.alloc (.map (wordE (i+1)) (i+1))):=by
 subst hs
 have hf:Instr.findNow .string (.string (wordS i)) (wordE i).toList 0=some none:=by
  refine find_none _ _ _ fun e he=>?_
  obtain ⟨j,hj,rfl⟩:=(wordE_mem i e).1 he
  exact ⟨_,rfl,wordS_apart i hi j hj⟩
 have hb:(w.alloc (.map (wordE i) i)).heap[w.heap.size]?=some (.map (wordE i) i):=heap_alloc_new w _
 have hc:∀ W,(Instr.checkKey false 10000 9 (.string (wordS i))).run Tryz.prog W=.ok () W:=fun W=>MapKept.run_checkKey (k:=.string (wordS i)) Tryz.underlying9 (by simp [MapKept.IsKey]) false 9999
 simp only [Instr.mapUpdate,Sem.run_bind,run_underlying Tryz.underlying56,MapKept.run_getObj_map hb,hc,MapKept.run_findKey Tryz.underlying9 hf,MapKept.run_setObj_map _ hb,Result.andThen]
 rw [wordE_succ]
 have e:((w.alloc (.map (wordE i) i)).heap.setIfInBounds w.heap.size (.map ((wordE i).push { key:=.string (wordS i),val:=.int .i64 2,born:=i }) (i+1)))=(w.alloc (.map ((wordE i).push { key:=.string (wordS i),val:=.int .i64 2,born:=i }) (i+1))).heap:=by
  exact set_last w.heap _ _
 rw [e];rfl
set_option maxRecDepth 20000 in
set_option maxHeartbeats 1000000 in
theorem clayWords_any (w:World) :
  Calls Tryz.prog 25 #[] w fun e w'=>e=.returned (.map (some w.heap.size))∧w'=w.alloc (.map (wordE 17) 17):=by
 have f:(Instr.makeMap 56 none).run Tryz.prog w=.ok (.map (some w.heap.size)) (w.alloc (.map (wordE 0) 0)):=rfl
 have f0:=word_ins w 0 (by decide) ⟨#[97,110,100]⟩ rfl
 have f1:=word_ins w 1 (by decide) ⟨#[100,101,102]⟩ rfl
 have f2:=word_ins w 2 (by decide) ⟨#[101,108,115,101]⟩ rfl
 have f3:=word_ins w 3 (by decide) ⟨#[101,109,105,116]⟩ rfl
 have f4:=word_ins w 4 (by decide) ⟨#[102,97,108,115,101]⟩ rfl
 have f5:=word_ins w 5 (by decide) ⟨#[102,110]⟩ rfl
 have f6:=word_ins w 6 (by decide) ⟨#[102,111,114]⟩ rfl
 have f7:=word_ins w 7 (by decide) ⟨#[104,97,115]⟩ rfl
 have f8:=word_ins w 8 (by decide) ⟨#[105,102]⟩ rfl
 have f9:=word_ins w 9 (by decide) ⟨#[105,110]⟩ rfl
 have f10:=word_ins w 10 (by decide) ⟨#[108,101,116]⟩ rfl
 have f11:=word_ins w 11 (by decide) ⟨#[108,111,97,100]⟩ rfl
 have f12:=word_ins w 12 (by decide) ⟨#[110,111,110,101]⟩ rfl
 have f13:=word_ins w 13 (by decide) ⟨#[110,111,116]⟩ rfl
 have f14:=word_ins w 14 (by decide) ⟨#[111,114]⟩ rfl
 have f15:=word_ins w 15 (by decide) ⟨#[116,104,101,110]⟩ rfl
 have f16:=word_ins w 16 (by decide) ⟨#[116,114,117,101]⟩ rfl
 go_enter Tryz.func25,Tryz.ntmps25
 go_wp2
 go_ret
 exact ⟨rfl,rfl⟩
theorem lookup_word (W:World) (r:Nat) (hb:W.heap[r]?=some (.map (wordE 17) 17)) (s:ByteArray) :
  (Instr.lookup 56 (.map (some r)) (.string s) true).run Tryz.prog W=.ok (.tuple #[.int .i64 (if s.data.toList ∈ words then 2 else 0),.bool (decide (s.data.toList ∈ words))]) W:=by
 have hc:∀ b W,(Instr.checkKey b 10000 9 (.string s)).run Tryz.prog W=.ok () W:=fun b W=>MapKept.run_checkKey (k:=.string s) Tryz.underlying9 (by simp [MapKept.IsKey]) b 9999
 by_cases hm:s.data.toList ∈ words
 ·obtain ⟨j,hf⟩:=find_some s (wordE 17).toList 0 (fun e he=>by
    obtain ⟨i,_,rfl⟩:=(wordE_mem 17 e).1 he
    exact ⟨⟨_,rfl⟩,rfl⟩) (by
    obtain ⟨i,hi,e⟩:=(wordS_mem s.data.toList).2 hm
    exact ⟨_,(wordE_mem 17 _).2 ⟨i,hi,rfl⟩,by simp [e]⟩)
  simp only [Instr.lookup,Sem.run_bind,run_underlying Tryz.underlying56,MapKept.run_getObj_map hb,hc,MapKept.run_findKey Tryz.underlying9 hf,Result.andThen,Sem.run_pure]
  simp [hm]
 ·have hf:Instr.findNow .string (.string s) (wordE 17).toList 0=some none:=by
   refine find_none _ _ _ fun e he=>?_
   obtain ⟨j,hj,rfl⟩:=(wordE_mem 17 e).1 he
   refine ⟨_,rfl,?_⟩
   rw [beq_toListBytes,beq_eq_false_iff_ne]
   intro e2
   exact hm ((wordS_mem s.data.toList).1 ⟨j,hj,by rw [Lib.toList_data,Lib.toList_data] at e2;rw [e2]⟩)
  simp only [Instr.lookup,Sem.run_bind,run_underlying Tryz.underlying56,MapKept.run_getObj_map hb,hc,MapKept.run_findKey Tryz.underlying9 hf,Result.andThen,Sem.run_pure,Tryz.zeroValue3]
  simp [hm]
end Go.Proofs.YtabbahpalemlhaaGreatDoor
namespace Go.Proofs.YtabbahpalemlhaaGreatDoor
open Go.RowKit
def Says (e:Ending) (P:Prop):Prop:=∃ b,e=.returned (.bool b)∧(b=true ↔ P)
theorem says_t {P:Prop} (h:P):Says (.returned (.bool true)) P:=⟨true,rfl,by simp [h]⟩
theorem says_f {P:Prop} (h:¬ P):Says (.returned (.bool false)) P:=⟨false,rfl,by simp [h]⟩
theorem Says.get {e:Ending} {P:Prop} (h:Says e P):e=.returned (.bool true)∧P∨e=.returned (.bool false)∧¬ P:=by
 obtain ⟨b,rfl,hb⟩:=h
 cases b
 ·exact .inr ⟨rfl,fun h=>by simp [h] at hb⟩
 ·exact .inl ⟨rfl,hb.1 rfl⟩
set_option maxHeartbeats 400000 in
theorem l1In_any (x lo hi:Int) (w:World) :
  Calls Tryz.prog 50 #[.int .i64 x,.int .i64 lo,.int .i64 hi] w fun e w'=>e=.returned (.bool (inR x lo hi))∧w'=w:=by
 go_enter Tryz.func50,Tryz.ntmps50
 go_wp2
 all_goals go_ret
 all_goals exact ⟨ret_bool (by unfold inR;rw [Bool.eq_iff_iff];simp;try omega),rfl⟩
set_option maxHeartbeats 400000 in
theorem l2E_any (x:Int) (w:World) :
  Calls Tryz.prog 70 #[.int .i64 x] w fun e w'=>e=.returned (.bool (isE x))∧w'=w:=by
 go_enter Tryz.func70,Tryz.ntmps70
 go_wp2_with (go_at_call 50;refine (l1In_any _ _ _ _).mono ?_;rintro e w' ⟨rfl,rfl⟩)
 go_ret
 exact ⟨rfl,rfl⟩
set_option maxHeartbeats 1000000 in
theorem l2Package_any (s:ByteArray) (w:World) (hs:s.size≤maxLen) :
  Calls Tryz.prog 69 #[.string s] w fun e w'=>Says e (PkgOk s)∧w'=w:=by
 unfold maxLen at hs
 by_cases h1:1≤s.size∧s.size≤30
 ·obtain ⟨h1,h2⟩:=h1
  have HIN:Hid (inR (s.size:Int) 1 30=true):=by show _=_;unfold inR;simp;omega
  go_enter Tryz.func69,Tryz.ntmps69
  go_wp2_with (go_at_call 50;refine (l1In_any _ _ _ _).mono ?_;rintro e w' ⟨rfl,rfl⟩;rw [HIN.out])
  go_loop [3] (fun i=>∃ k:Nat,k≤s.size∧i=.int .i64 k∧∀ j (h:j < s.size),j < k→pkgB s[j]=true) (fun i=>s.size - (intOf i).toNat)
  case atStart=>exact ⟨0,Nat.zero_le _,rfl,fun j h h0=>absurd h0 (Nat.not_lt_zero _)⟩
  case round =>
   obtain ⟨k,hk,rfl,hr⟩:=hrel
   have HR:=hid hr
   clear hr
   by_cases hlt:k < s.size
   ·cases hd:dig (s[k].toNat:Int)
    all_goals cases hp:pkg_ (s[k].toNat:Int)
    ·have HE:Hid (¬ PkgOk s):=fun h=>by have:=h.2.2 k hlt;unfold pkgB at this;rw [hp] at this;cases this
     unfold pkg_ at hp
     rw [hd] at hp
     simp at hp
     obtain ⟨⟨⟨⟨p0,p1⟩,p2⟩,p3⟩,p4⟩:=hp
     have p5:(s[k].toNat:Int) < 97∨122 < (s[k].toNat:Int):=by
      by_cases q:97≤(s[k].toNat:Int)
      ·exact .inr (p0 q)
      ·exact .inl (by omega)
     clear p0
     go_wp2_with (go_at_call 28;refine (l1Digit_any _ _).mono ?_;rintro e w' ⟨rfl,rfl⟩)
     all_goals first
      | (exfalso;(try simp only [bne_iff_ne,bne_eq_false_iff_eq,ne_eq,Bool.not_eq_eq_eq_not,Bool.not_true,Bool.not_false,decide_eq_true_eq,decide_eq_false_iff_not] at *);omega)
      | (go_ret;exact ⟨says_f HE.out,rfl⟩)
    ·have NX:Hid (∀ j (h:j < s.size),j < k+1→pkgB s[j]=true):=fun j h hj=>by
      rcases Nat.lt_or_eq_of_le (Nat.lt_succ_iff.1 hj) with h' | h'
      ·exact HR.out j h h'
      ·subst h';exact hp
     unfold pkg_ at hp
     rw [hd] at hp
     simp at hp
     go_wp2_with (go_at_call 28;refine (l1Digit_any _ _).mono ?_;rintro e w' ⟨rfl,rfl⟩)
     all_goals first
      | (exfalso;(try simp only [bne_iff_ne,bne_eq_false_iff_eq,ne_eq] at *);omega)
      | (go_round;(case rel=>exact ⟨k+1,by omega,by go_num,NX.out⟩);(case measure=>simp [intOf];omega))
    ·exfalso;unfold pkg_ at hp;rw [hd] at hp;simp at hp
    ·have NX:Hid (∀ j (h:j < s.size),j < k+1→pkgB s[j]=true):=fun j h hj=>by
      rcases Nat.lt_or_eq_of_le (Nat.lt_succ_iff.1 hj) with h' | h'
      ·exact HR.out j h h'
      ·subst h';exact hp
     clear hp
     go_wp2_with (go_at_call 28;refine (l1Digit_any _ _).mono ?_;rintro e w' ⟨rfl,rfl⟩)
     all_goals first
      | (exfalso;omega)
      | (go_round;(case rel=>exact ⟨k+1,by omega,by go_num,NX.out⟩);(case measure=>simp [intOf];omega))
   ·go_wp2
    go_ret
    exact ⟨says_t ⟨h1,h2,fun i h=>HR.out i h (by omega)⟩,rfl⟩
 ·have HIN:Hid (inR (s.size:Int) 1 30=false):=by show _=_;unfold inR;simp;omega
  go_enter Tryz.func69,Tryz.ntmps69
  go_wp2_with (go_at_call 50;refine (l1In_any _ _ _ _).mono ?_;rintro e w' ⟨rfl,rfl⟩;rw [HIN.out])
  go_ret
  exact ⟨says_f (fun h=>h1 ⟨h.1,h.2.1⟩),rfl⟩
set_option maxHeartbeats 1000000 in
theorem l1NameOk_any (s:ByteArray) (w:World) (hs:s.size≤maxLen) :
  Calls Tryz.prog 56 #[.string s] w fun e w'=>Says e (NameOk s)∧Below w.heap.size w w':=by
 unfold maxLen at hs
 by_cases h1:1≤s.size∧s.size≤30
 ·obtain ⟨h1,h2⟩:=h1
  have h0:0 < s.size:=h1
  have HIN:Hid (inR (s.size:Int) 1 30=true):=by show _=_;unfold inR;simp;omega
  cases hb:beg (s[0].toNat:Int)
  ·have HE:Hid (¬ NameOk s):=fun ⟨_,_,h,_⟩=>by unfold begB at h;rw [hb] at h;cases h
   go_enter Tryz.func56,Tryz.ntmps56
   go_wp2_with (first
    | (go_at_call 50;refine (l1In_any _ _ _ _).mono ?_;rintro e w' ⟨rfl,rfl⟩;rw [HIN.out])
    | (go_at_call 30;refine (l1Begins_any _ _).mono ?_;rintro e w' ⟨rfl,rfl⟩))
   go_ret
   exact ⟨says_f HE.out,Below.refl _ _⟩
  ·by_cases hw:s.data.toList ∈ words
   ·have HE:Hid (¬ NameOk s):=fun ⟨_,_,_,h,_⟩=>h hw
    have HW:Hid (decide (s.data.toList ∈ words)=true):=by show _=_;simp [hw]
    clear hw
    go_enter Tryz.func56,Tryz.ntmps56
    go_wp2_with (first
     | (go_at_call 50;refine (l1In_any _ _ _ _).mono ?_;rintro e w' ⟨rfl,hw⟩;have hw2:=hw.symm;clear hw;subst hw2;rw [HIN.out])
     | (go_at_call 30;refine (l1Begins_any _ _).mono ?_;rintro e w' ⟨rfl,hw⟩;have hw2:=hw.symm;clear hw;subst hw2)
     | (go_at_call 21;refine (l1Words_any _).mono ?_;rintro e w' ⟨rfl,rfl⟩)
     | (go_at_call 32;refine (l1Has_words _ _ w.heap.size (fun i hi=>wordS_cell w i hi)).mono ?_;rintro e w' ⟨rfl,rfl⟩;rw [HW.out]))
    go_ret
    exact ⟨says_f HE.out,(Below.refl _ _).alloc (Nat.le_refl _) _⟩
   ·have HNW:=hid hw
    have HW:Hid (decide (s.data.toList ∈ words)=false):=by show _=_;simp [hw]
    clear hw
    go_enter Tryz.func56,Tryz.ntmps56
    go_wp2_with (first
     | (go_at_call 50;refine (l1In_any _ _ _ _).mono ?_;rintro e w' ⟨rfl,hw⟩;have hw2:=hw.symm;clear hw;subst hw2;rw [HIN.out])
     | (go_at_call 30;refine (l1Begins_any _ _).mono ?_;rintro e w' ⟨rfl,hw⟩;have hw2:=hw.symm;clear hw;subst hw2)
     | (go_at_call 21;refine (l1Words_any _).mono ?_;rintro e w' ⟨rfl,rfl⟩)
     | (go_at_call 32;refine (l1Has_words _ _ w.heap.size (fun i hi=>wordS_cell w i hi)).mono ?_;rintro e w' ⟨rfl,hw⟩;have hw2:=hw.symm;clear hw;subst hw2;rw [HW.out]))
    go_loop [3] (fun i=>∃ k:Nat,k≤s.size∧i=.int .i64 k∧∀ j (h:j < s.size),j < k→letB s[j]=true) (fun i=>s.size - (intOf i).toNat)
    case atStart=>exact ⟨0,Nat.zero_le _,rfl,fun j h h0=>absurd h0 (Nat.not_lt_zero _)⟩
    case round =>
     obtain ⟨k,hk,rfl,hr⟩:=hrel
     have HR:=hid hr
     clear hr
     by_cases hlt:k < s.size
     ·cases hp:let_ (s[k].toNat:Int)
      ·have HE:Hid (¬ NameOk s):=fun ⟨_,_,_,_,h⟩=>by have:=h k hlt;unfold letB at this;rw [hp] at this;cases this
       go_wp2_with (go_at_call 31;refine (l1Letter_any _ _).mono ?_;rintro e w' ⟨rfl,rfl⟩)
       go_ret
       exact ⟨says_f HE.out,(Below.refl _ _).alloc (Nat.le_refl _) _⟩
      ·have NX:Hid (∀ j (h:j < s.size),j < k+1→letB s[j]=true):=fun j h hj=>by
        rcases Nat.lt_or_eq_of_le (Nat.lt_succ_iff.1 hj) with h' | h'
        ·exact HR.out j h h'
        ·subst h';exact hp
       go_wp2_with (go_at_call 31;refine (l1Letter_any _ _).mono ?_;rintro e w' ⟨rfl,rfl⟩)
       go_round
       case rel=>exact ⟨k+1,by omega,by go_num,NX.out⟩
       case measure=>simp [intOf];omega
     ·go_wp2
      go_ret
      exact ⟨says_t ⟨h0,h2,hb,HNW.out,fun i h=>HR.out i h (by omega)⟩,(Below.refl _ _).alloc (Nat.le_refl _) _⟩
 ·have HIN:Hid (inR (s.size:Int) 1 30=false):=by show _=_;unfold inR;simp;omega
  go_enter Tryz.func56,Tryz.ntmps56
  go_wp2_with (go_at_call 50;refine (l1In_any _ _ _ _).mono ?_;rintro e w' ⟨rfl,rfl⟩;rw [HIN.out])
  go_ret
  exact ⟨says_f (fun ⟨a,b,_⟩=>h1 ⟨a,b⟩),Below.refl _ _⟩
end Go.Proofs.YtabbahpalemlhaaGreatDoor
namespace Go.Proofs.YtabbahpalemlhaaGreatDoor
open Go.RowKit
set_option maxRecDepth 20000
def ndV (x:Nd):Value:=.agg #[.int .i64 x.kind,.int .i64 x.op,.int .i64 x.n,.string x.text,.int .i64 x.kids]
theorem l1In_dec (x lo hi:Int) (w:World) :
  Calls Tryz.prog 50 #[.int .i64 x,.int .i64 lo,.int .i64 hi] w fun e w'=>e=.returned (.bool (decide (lo≤x) && decide (x≤hi)))∧w'=w:=l1In_any x lo hi w
def Pl1 (k:Int):Prop:=∀ (op n kids:Int) (t:ByteArray) (w:World),t.size≤maxLen→Calls Tryz.prog 51 #[ndV ⟨k,op,n,t,kids⟩] w fun e w'=>Says e (PlainNd ⟨k,op,n,t,kids⟩)∧Below w.heap.size w w'
def FiveAt (W:World) (b i:Nat) (x:Nd):Prop :=
 W.cell? ⟨b,i * 5,none⟩=some (.int .i64 x.kind)∧W.cell? ⟨b,i * 5+1,none⟩=some (.int .i64 x.op)∧W.cell? ⟨b,i * 5+2,none⟩=some (.int .i64 x.n)∧W.cell? ⟨b,i * 5+3,none⟩=some (.string x.text)∧W.cell? ⟨b,i * 5+4,none⟩=some (.int .i64 x.kids)
theorem FiveAt.below {W W':World} {B b i:Nat} {x:Nd} (h:FiveAt W b i x) (hb:Below B W W') (hB:b < B):FiveAt W' b i x:=by
 obtain ⟨h0,h1,h2,h3,h4⟩:=h
 exact ⟨(hb.cell (p:=⟨b,_,none⟩) hB).trans h0,(hb.cell (p:=⟨b,_,none⟩) hB).trans h1,(hb.cell (p:=⟨b,_,none⟩) hB).trans h2,(hb.cell (p:=⟨b,_,none⟩) hB).trans h3,(hb.cell (p:=⟨b,_,none⟩) hB).trans h4⟩
def PlacesAt (W:World) (g o m N:Nat) (ks:Nat→Nat):Prop:=∀ i,i < m→W.cell? ⟨g,o+i,none⟩=some (.int .i64 (ks i))∧ks i < N
theorem PlacesAt.below {W W':World} {B g o m N:Nat} {ks:Nat→Nat} (h:PlacesAt W g o m N ks) (hb:Below B W W') (hB:g < B):PlacesAt W' g o m N ks:=fun i hi =>
 ⟨(hb.cell (p:=⟨g,_,none⟩) hB).trans (h i hi).1,(h i hi).2⟩
def NodesAt (W:World) (b N:Nat) (nd:Nat→Nd):Prop:=∀ i,i < N→FiveAt W b i (nd i)
theorem NodesAt.below {W W':World} {B b N:Nat} {nd:Nat→Nd} (h:NodesAt W b N nd) (hb:Below B W W') (hB:b < B):NodesAt W' b N nd:=fun i hi=>(h i hi).below hb hB
theorem btree {w wr:World} {X:Obj} (h:Below (w.heap.size+1) (w.alloc X) wr):Below w.heap.size w wr :=
 Below.trans ((Below.refl w.heap.size w).alloc (Nat.le_refl _) X) (h.mono (B':=w.heap.size) (Nat.le_succ _))
theorem tree_cell {w wr:World} {v:Value} {t:TypeId} (h:Below (w.heap.size+1) (w.alloc (.cells #[v] t)) wr):wr.cell? ⟨w.heap.size,0,none⟩=some v:=by
 rw [h.cell (p:=⟨w.heap.size,0,none⟩) (Nat.lt_succ_self _),cell_new_row];rfl
set_option maxHeartbeats 1000000 in
theorem l2Apart_any (b N cap g o m c:Nat) (nd:Nat→Nd) (ks:Nat→Nat) (w:World) (hm:m≤1000000) (hb:b < w.heap.size) (hg:g < w.heap.size) (hn:NodesAt w b N nd) (hk:PlacesAt w g o m N ks) :
  Calls Tryz.prog 71 #[.agg #[.slice (some ⟨b,0,none⟩) N cap],.slice (some ⟨g,o,none⟩) m c] w fun e w'=>Says e (Apart m (fun i=>nd (ks i)))∧Below w.heap.size w w':=by
 have HN:=hid hn
 have HK:=hid hk
 clear hn hk
 go_enter Tryz.func71,Tryz.ntmps71
 go_wp2
 go_loopw [5] (fun i wr=>∃ j:Nat,j≤m∧i=.int .i64 j∧Apart j (fun i=>nd (ks i))∧Below (w.heap.size+1) (w.alloc (.cells #[.slice (some ⟨b,0,none⟩) N cap] 50)) wr) (fun i _=>m - (intOf i).toNat)
 case atStart=>exact ⟨0,Nat.zero_le _,rfl,fun i h=>absurd h (Nat.not_lt_zero _),Below.refl _ _⟩
 case round =>
  obtain ⟨j,hj,rfl,hap,hbw⟩:=hrel
  have HAP:=hid hap
  have HBW:=hid hbw
  clear hap hbw
  by_cases hlt:j < m
  ·go_wp2
   go_loopw [6] (fun i wr=>∃ q:Nat,q≤j∧i=.int .i64 q∧(∀ i,i < q→¬ (nd (ks i)).text=(nd (ks j)).text)∧Below (w.heap.size+1) (w.alloc (.cells #[.slice (some ⟨b,0,none⟩) N cap] 50)) wr) (fun i _=>j - (intOf i).toNat)
   case atStart=>exact ⟨0,Nat.zero_le _,rfl,fun i h=>absurd h (Nat.not_lt_zero _),HBW.out⟩
   case round =>
    rename_i wo wr
    obtain ⟨q,hq,rfl,hin,hbw⟩:=hrel
    have HQ:=hid hin
    have HB2:=hid hbw
    clear hin hbw
    by_cases hl2:q < j
    ·have t0:=tree_cell HB2.out
     have HNr:=HN.out.below (btree HB2.out) hb
     have HKr:=HK.out.below (btree HB2.out) hg
     obtain ⟨a0,a1⟩:=HKr q (Nat.lt_trans hl2 hlt)
     obtain ⟨b0,b1⟩:=HKr j hlt
     obtain ⟨_,_,_,a2,_⟩:=HNr (ks q) a1
     obtain ⟨_,_,_,b2,_⟩:=HNr (ks j) b1
     have HNr2:=hid HNr
     have HKr2:=hid HKr
     clear HNr HKr
     cases ht:((nd (ks q)).text.toList == (nd (ks j)).text.toList)
     ·have HNE:Hid (¬ (nd (ks q)).text=(nd (ks j)).text):=fun h=>by rw [h] at ht;simp at ht
      go_wp2
      go_region
      go_wp2
      go_roundw
      case rel=>exact ⟨q+1,by omega,by go_num,fun i hi=>by
       rcases Nat.lt_or_eq_of_le (Nat.lt_succ_iff.1 hi) with h | h
       ·exact HQ.out i h
       ·subst h;exact HNE.out,HB2.out.drew⟩
      case measure=>simp [intOf];omega
     ·have HEQ:Hid ((nd (ks q)).text=(nd (ks j)).text):=bytes_eq ht
      go_wp2
      go_region
      go_wp2
      go_ret
      exact ⟨says_f (fun h=>h j hlt q hl2 HEQ.out),(btree HB2.out).drew⟩
    ·go_wp2
     go_roundw
     case rel=>exact ⟨j+1,by omega,by go_num,fun i hi k hk=>by
      rcases Nat.lt_or_eq_of_le (Nat.lt_succ_iff.1 hi) with h | h
      ·exact HAP.out i h k hk
      ·subst h;exact HQ.out k (by omega),HB2.out⟩
     case measure=>simp [intOf];omega
  ·go_wp2
   go_ret
   obtain rfl:j=m:=by omega
   exact ⟨says_t HAP.out,btree HBW.out⟩
end Go.Proofs.YtabbahpalemlhaaGreatDoor
namespace Go.Proofs.YtabbahpalemlhaaGreatDoor
open Go.RowKit
def RowAt (W:World) (e:TypeId) (g cap n:Nat) (xs:List Value):Prop:=xs.length=n∧n≤cap∧cap≤maxLen∧∃ cur,W.heap[g]?=some (.cells cur e (0,0))∧cur.size=cap∧cur.toList.take n=xs
theorem RowAt.own {W:World} {B:Nat} {e:TypeId} {g cap n:Nat} {xs:List Value} (h:RowAt W e g cap n xs) (hB:B≤g):W.ownsRow B e 1 (.slice (some ⟨g,0,none⟩) n cap) n xs:=by
 obtain ⟨h1,h2,h3,cur,h4,h5,h6⟩:=h
 exact ⟨by omega,.inr ⟨g,cap,cur,rfl,hB,h4,h2,h3,by omega,by rw [Nat.mul_one];exact h6⟩⟩
theorem RowAt.of_own {W:World} {B:Nat} {e:TypeId} {v:Value} {n:Nat} {xs:List Value} (h:W.ownsRow B e 1 v n xs) (hv:¬ v=.slice none 0 0):∃ g cap,v=.slice (some ⟨g,0,none⟩) n cap∧B≤g∧RowAt W e g cap n xs:=by
 obtain ⟨h1,⟨h2,_⟩ | ⟨g,cap,cur,h2,h3,h4,h5,h6,h7,h8⟩⟩:=h
 ·exact absurd h2 hv
 ·exact ⟨g,cap,h2,h3,by omega,h5,h6,cur,h4,by omega,by rw [Nat.mul_one] at h8;exact h8⟩
theorem RowAt.lt {W:World} {e:TypeId} {g cap n:Nat} {xs:List Value} (h:RowAt W e g cap n xs):g < W.heap.size:=by
 obtain ⟨_,_,_,cur,h4,_⟩:=h
 exact (Array.getElem?_eq_some_iff.1 h4).1
theorem RowAt.keep {W W':World} {e:TypeId} {g cap n:Nat} {xs:List Value} (h:RowAt W e g cap n xs) (hk:W'.heap[g]?=W.heap[g]?):RowAt W' e g cap n xs:=by
 obtain ⟨h1,h2,h3,cur,h4,h5⟩:=h
 exact ⟨h1,h2,h3,cur,hk.trans h4,h5⟩
theorem RowAt.alloc {W:World} {e:TypeId} {g cap n:Nat} {xs:List Value} (h:RowAt W e g cap n xs) (o:Obj):RowAt (W.alloc o) e g cap n xs:=h.keep (Below.heap_alloc W o g h.lt)
theorem RowAt.grown {W W':World} {e:TypeId} {g cap n:Nat} {xs:List Value} {row:Option Nat} (h:RowAt W e g cap n xs) (hg:W.grownBy W' row) (hne:row≠some g):RowAt W' e g cap n xs:=h.keep (hg.block g h.lt (fun e=>hne e.symm))
theorem RowAt.below {W W':World} {e:TypeId} {g cap n B:Nat} {xs:List Value} (h:RowAt W e g cap n xs) (hb:Below B W W') (hB:g < B):RowAt W' e g cap n xs:=h.keep (hb.block g hB)
theorem RowAt.front {W:World} {e:TypeId} {g cap n:Nat} {xs ys:List Value} (h:RowAt W e g cap n (xs ++ ys)):RowAt W e g cap xs.length xs:=by
 obtain ⟨h1,h2,h3,cur,h4,h5,h6⟩:=h
 rw [List.length_append] at h1
 refine ⟨rfl,by omega,h3,cur,h4,h5,?_⟩
 have:(cur.toList.take n).take xs.length=(xs ++ ys).take xs.length:=by rw [h6]
 rw [List.take_take,Nat.min_eq_left (by omega)] at this
 rw [this];simp
theorem RowAt.cell {W:World} {e:TypeId} {g cap n:Nat} {xs:List Value} (h:RowAt W e g cap n xs) (i:Nat) (hi:i < n):W.cell? ⟨g,i,none⟩=xs[i]?:=by
 obtain ⟨h1,h2,h3,cur,h4,h5,h6⟩:=h
 have e1:W.cell? ⟨g,i,none⟩=cur[i]?:=by unfold World.cell?;rw [h4];rfl
 rw [e1,← h6,List.getElem?_take_of_lt hi];simp
def intRow (s:List Nat):List Value:=s.map fun (x:Nat)=>Value.int .i64 (x:Int)
theorem intRow_length (s:List Nat):(intRow s).length=s.length:=by simp [intRow]
theorem intRow_append (s t:List Nat):intRow (s ++ t)=intRow s ++ intRow t:=by simp [intRow]
theorem intRow_one (s:List Nat):∀ u ∈ intRow s,u.oneCell'=true:=by
 intro u hu
 obtain ⟨x,_,rfl⟩:=List.mem_map.1 hu
 rfl
def gridRow (L:List (Nat × Nat × List Nat)):List Value:=L.map fun x=>Value.slice (some ⟨x.1,0,none⟩) x.2.2.length x.2.1
theorem info_int:(Tryz.prog.info? 3).map (fun i=>(i.zero,i.size,i.bytes))=some (some (.int .i64 0),1,8):=by kernel_rfl
theorem info_ints:(Tryz.prog.info? 82).map (fun i=>(i.zero,i.size,i.bytes))=some (some (.slice none 0 0),1,24):=by kernel_rfl
def kidsF (nd:Nat→Nd):Nat→Option (List (List Nat) × List Nat)
 | 0=>some ([],[])
 | j+1=>match kidsF nd j with
  | none=>none
  | some (o,s)=>if 0≤(nd j).kids∧(nd j).kids≤s.length then some (o ++ [s.drop (s.length - (nd j).kids.toNat)],s.take (s.length - (nd j).kids.toNat) ++ [j]) else none
theorem kidsF_len (nd:Nat→Nd) (j:Nat) (o:List (List Nat)) (s:List Nat) (h:kidsF nd j=some (o,s)):o.length=j∧s.length≤j∧(∀ x ∈ s,x < j):=by
 induction j generalizing o s with
 | zero=>simp [kidsF] at h;obtain ⟨rfl,rfl⟩:=h;simp
 | succ j ih =>
  simp only [kidsF] at h
  cases hk:kidsF nd j with
  | none=>rw [hk] at h;cases h
  | some x =>
   obtain ⟨o',s'⟩:=x
   rw [hk] at h
   obtain ⟨i1,i2,i3⟩:=ih o' s' hk
   dsimp only at h
   split at h
   ·cases h
    refine ⟨by simp [i1],by simp;omega,?_⟩
    intro x hx
    rcases List.mem_append.1 hx with hx | hx
    ·have:=i3 x (List.mem_of_mem_take hx);omega
    ·simp at hx;omega
   ·cases h
theorem kidsF_bad {nd:Nat→Nd} {j:Nat} {o:List (List Nat)} {s:List Nat} (h:kidsF nd j=some (o,s)) (hb:¬ (0≤(nd j).kids∧(nd j).kids≤s.length)) (N:Nat) (hN:j < N):kidsF nd N=none:=by
 have h1:kidsF nd (j+1)=none:=by simp only [kidsF];rw [h];simp only;rw [if_neg hb]
 induction N with
 | zero=>omega
 | succ N ih =>
  by_cases e:j=N
  ·subst e;exact h1
  ·simp only [kidsF];rw [ih (by omega)]
theorem kidsF_good {nd:Nat→Nd} {j k:Nat} {o:List (List Nat)} {sp sk:List Nat} (h:kidsF nd j=some (o,sp ++ sk)) (hk:(nd j).kids=k) (hl:sk.length=k):kidsF nd (j+1)=some (o ++ [sk],sp ++ [j]):=by
 have e:(sp ++ sk).length - ((k:Int)).toNat=sp.length:=by simp;omega
 simp only [kidsF];rw [h];simp only
 rw [hk,if_pos ⟨by omega,by simp;omega⟩,e]
 simp
end Go.Proofs.YtabbahpalemlhaaGreatDoor
namespace Go.Proofs.YtabbahpalemlhaaGreatDoor
def upK (l:List Nat):Nat:=l.foldl (fun h x=>max h (x+1)) 0
theorem upK_snoc (l:List Nat) (x:Nat):upK (l ++ [x])=max (upK l) (x+1):=by simp [upK]
def kidHighs (hs ks:List Nat):List Nat:=ks.map fun k=>hs.getD k 0
def highs (o:List (List Nat)):List Nat:=o.foldl (fun hs ks=>hs ++ [upK (kidHighs hs ks)]) []
theorem highs_snoc (o:List (List Nat)) (ks:List Nat):highs (o ++ [ks])=highs o ++ [upK (kidHighs (highs o) ks)]:=by simp [highs]
theorem highs_length (o:List (List Nat)):(highs o).length=o.length:=by
 have:∀ n,∀ o:List (List Nat),o.length=n→(highs o).length=o.length:=by
  intro n
  induction n with
  | zero=>intro o h;rw [List.length_eq_zero_iff.1 h];rfl
  | succ n ih =>
   intro o h
   obtain ⟨o',ks,rfl⟩:=(List.eq_nil_or_concat o).resolve_left (by rintro rfl;cases h)
   rw [List.concat_eq_append] at h ⊢
   rw [highs_snoc,List.length_append,List.length_append,ih o' (by simp at h;exact h)]
   rfl
 exact this _ o rfl
theorem highs_take (o:List (List Nat)) (i:Nat) (hi:i < o.length):highs (o.take (i+1))=highs (o.take i) ++ [upK (kidHighs (highs (o.take i)) (o.getD i []))]:=by
 rw [List.take_succ_eq_append_getElem hi,highs_snoc,List.getD_eq_getElem?_getD,List.getElem?_eq_getElem hi]
 rfl
theorem highs_pre (o:List (List Nat)) (j:Nat):∀ i,i < j→j≤o.length→(highs (o.take j)).getD i 0=(highs o).getD i 0:=by
 have:∀ d,∀ j,j+d=o.length→∀ i,i < j→(highs (o.take j)).getD i 0=(highs o).getD i 0:=by
  intro d
  induction d with
  | zero=>intro j h i _;rw [List.take_of_length_le (by omega)]
  | succ d ih =>
   intro j h i hi
   rw [← ih (j+1) (by omega) i (by omega),highs_take o j (by omega)]
   rw [List.getD_eq_getElem?_getD,List.getD_eq_getElem?_getD,List.getElem?_append_left (by rw [highs_length,List.length_take];omega)]
 intro i hi hj
 exact this (o.length - j) j (by omega) i hi
def FitAt (nd:Nat→Nd) (o:List (List Nat)) (i:Nat):Prop:=PlainNd (nd i)∧KidsOk (nd i).kind (o.getD i []).length (fun k=>nd ((o.getD i []).getD k 0))
def ValidT (nd:Nat→Nd) (N:Nat):Prop:=1≤N∧N≤5000∧(nd (N - 1)).kind=24∧∃ o x,kidsF nd N=some (o,[x])∧∀ i,i < N→(highs o).getD i 0≤50∧FitAt nd o i
theorem kidsF_step {nd:Nat→Nd} {j:Nat} {o:List (List Nat)} {s:List Nat} (h:kidsF nd (j+1)=some (o,s)):∃ o' sp sk,kidsF nd j=some (o',sp ++ sk)∧o=o' ++ [sk]∧s=sp ++ [j]∧(nd j).kids=sk.length:=by
 simp only [kidsF] at h
 cases hk:kidsF nd j with
 | none=>rw [hk] at h;cases h
 | some x =>
  obtain ⟨o',s'⟩:=x
  rw [hk] at h
  dsimp only at h
  split at h
  ·rename_i hc
   cases h
   refine ⟨o',_,_,by rw [List.take_append_drop],rfl,rfl,?_⟩
   rw [List.length_drop];omega
  ·cases h
theorem kidsF_pre {nd:Nat→Nd} {N:Nat} {o:List (List Nat)} {s:List Nat} (h:kidsF nd N=some (o,s)) (j:Nat) (hj:j≤N):∃ s',kidsF nd j=some (o.take j,s'):=by
 induction N generalizing o s with
 | zero =>
  obtain rfl:j=0:=by omega
  simp [kidsF] at h ⊢
 | succ N ih =>
  by_cases e:j=N+1
  ·subst e
   have:=(kidsF_len nd _ _ _ h).1
   exact ⟨s,by rw [List.take_of_length_le (by omega)];exact h⟩
  ·obtain ⟨o',sp,sk,h1,rfl,rfl,_⟩:=kidsF_step h
   have:=(kidsF_len nd _ _ _ h1).1
   rw [List.take_append_of_le_length (by omega)]
   exact ih h1 (by omega)
end Go.Proofs.YtabbahpalemlhaaGreatDoor
