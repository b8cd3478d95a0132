import Derived.Test.YthnohneaanphbaaGreatDoorJ25
import Derived.Test.YthnohneaanphbaaGreatDoorJ35
import Derived.Test.YthnohneaanphbaaGreatDoorJ38
import Derived.Test.YthnohneaanphbaaGreatDoorJ37
namespace Go.Proofs.YthnohneaanphbaaGreatDoor.K
open Go.RowKit
set_option maxRecDepth 20000
def tokCells (t:Tok):List Value:=[.int .i64 t.kind,.string ⟨t.text.toArray⟩,.int .i64 t.n,.int .i64 t.place]
def tokRow (ts:List Tok):List Value:=ts.flatMap tokCells
theorem tokRow_snoc (ts:List Tok) (t:Tok):tokRow (ts ++ [t])=tokRow ts ++ tokCells t:=by simp [tokRow]
theorem info_tok:(Tryz.prog.info? 130).map (fun i=>(i.zero,i.size,i.bytes))=some (some (.agg #[.int .i64 0,.string ⟨#[]⟩,.int .i64 0,.int .i64 0]),4,40):=by kernel_rfl
theorem cell_four_new (w:World) (a b c d:Value) (t:TypeId):∀ j u,[a,b,c,d][j]?=some u→(w.alloc (.cells #[a,b,c,d] t)).cell? ((⟨w.heap.size,0,none⟩:Addr).add j)=some u:=by
 intro j u hj
 have h:(w.alloc (.cells #[a,b,c,d] t)).cell? ⟨w.heap.size,j,none⟩=#[a,b,c,d][j]?:=cell_new_row w _ t j
 have e:((⟨w.heap.size,0,none⟩:Addr).add j)=⟨w.heap.size,j,none⟩:=by unfold Addr.add;simp;intro h;exact h.symm
 rw [e,h,← hj];simp
theorem cell_four_new1 (w:World) (X:Obj) (a b c d:Value) (t:TypeId):∀ j u,[a,b,c,d][j]?=some u→((w.alloc X).alloc (.cells #[a,b,c,d] t)).cell? ((⟨w.heap.size+1,0,none⟩:Addr).add j)=some u:=by
 intro j u hj
 have h:=cell_four_new (w.alloc X) a b c d t j u hj
 rw [World.size_alloc] at h
 exact h
theorem flt_cells {w w1:World} (h:Below (w.heap.size+1) (w.alloc (.cells #[.int .i64 0,.int .i64 0] 37)) w1) :
  w1.cell? ⟨w.heap.size,0,none⟩=some (.int .i64 0)∧w1.cell? ⟨w.heap.size,1,none⟩=some (.int .i64 0)∧w1.frozen? ⟨w.heap.size,0,none⟩=false∧w1.frozen? ⟨w.heap.size,1,none⟩=false:=by
 refine ⟨?_,?_,?_,?_⟩
 ·rw [h.cell (p:=⟨w.heap.size,0,none⟩) (Nat.lt_succ_self _),cell_new_row];rfl
 ·rw [h.cell (p:=⟨w.heap.size,1,none⟩) (Nat.lt_succ_self _),cell_new_row];rfl
 ·rw [h.frozen (p:=⟨w.heap.size,0,none⟩) (Nat.lt_succ_self _)];simp
 ·rw [h.frozen (p:=⟨w.heap.size,1,none⟩) (Nat.lt_succ_self _)];simp
theorem own_base {w:World} {B B' e size k:Nat} {v:Value} {xs:List Value} (h:w.ownsRow B e size v k xs) (hB:B'≤B):w.ownsRow B' e size v k xs:=by
 obtain ⟨h1,h2 | ⟨g,cap,cur,a,b,c⟩⟩:=h
 ·exact ⟨h1,.inl h2⟩
 ·exact ⟨h1,.inr ⟨g,cap,cur,a,Nat.le_trans hB b,c⟩⟩
theorem own_below {w w1:World} {B e size k:Nat} {v:Value} {xs:List Value} (h:w.ownsRow B e size v k xs) (hb:Below w.heap.size w w1):w1.ownsRow B e size v k xs:=by
 obtain ⟨h1,h2 | ⟨g,cap,cur,a,b,c,d⟩⟩:=h
 ·exact ⟨h1,.inl h2⟩
 ·refine ⟨h1,.inr ⟨g,cap,cur,a,b,?_,d⟩⟩
  have hg:g < w.heap.size:=(Array.getElem?_eq_some_iff.1 c).1
  rw [hb.block g hg];exact c
set_option maxHeartbeats 1000000 in
theorem sScan_any (s:ByteArray) (w:World) (hl:s.size≤8000) :
  Calls Tryz.prog 53 #[.string s] w fun e w'=>∃ v,e=.returned (.tuple #[v,.agg #[.int .i64 (scanR s.data.toList).2.1,.int .i64 (scanR s.data.toList).2.2]]) ∧
   w'.ownsRow w.heap.size 130 4 v (scanR s.data.toList).1.length (tokRow (scanR s.data.toList).1)∧Below w.heap.size w w':=by
 generalize hR:scanR s.data.toList=R
 have HR:=hid hR
 clear hR
 obtain ⟨i0,hi,hz0,hz1,hz2⟩:=info_parts info_tok
 have HHI:=hid (And.intro hi (And.intro hz0 (And.intro hz1 hz2)))
 clear hi hz0 hz1 hz2
 have hms:s.size≤maxLen:=by unfold maxLen;omega
 have hg0:=gapN_le false s.data.toList
 rw [len_size] at hg0
 go_enter Tryz.func53,Tryz.ntmps53
 go_wp2_with (go_at_call 79;refine (l1Gap_any s 0 _ hms (by omega) (by omega)).mono ?_;rintro e w' ⟨rfl,hw⟩;have hw2:=hw.symm;clear hw;subst hw2)
 go_loopw [4,5] (fun v i wr=>∃ (p f:Nat) (pre:List Tok),i=.int .i64 p∧p≤s.size∧s.size - p < f∧pre.length≤p∧wr.ownsRow (w.heap.size+1) 130 4 v pre.length (tokRow pre) ∧
   Below (w.heap.size+1) (w.alloc (.cells #[.int .i64 0,.int .i64 0] 37)) wr∧scanRest s.data.toList f p pre) (fun _ i _=>s.size - (intOf i).toNat)
 case atStart =>
  refine ⟨gapN false s.data.toList,s.data.toList.length+1,[],rfl,hg0,by rw [len_size];omega,Nat.zero_le _,?_,?_,rfl⟩
  ·have h:=World.ownsRow_made (w.alloc (Obj.cells #[Value.int IntKind.i64 0,Value.int IntKind.i64 0] 37)) (base:=w.heap.size+1) (e:=130) (size:=4) #[] 0 (by simp) (by unfold maxLen;omega) rfl
   rw [World.size_alloc] at h
   exact h
  ·exact (Below.refl _ _).alloc (by simp) _
 case round =>
  obtain ⟨p,f,pre,rfl,hp,hf,hpre,hown,hbel,hrest⟩:=hrel
  have OWN:=hid hown
  have HB:=hid hbel
  have HREST:=hid hrest
  clear hown hbel hrest hg0
  have hsz:=HB.out.size
  rw [World.size_alloc] at hsz
  by_cases hlt:p < s.size
  ·obtain ⟨f,rfl⟩:∃ f',f=f'+1:=⟨f - 1,by omega⟩
   have hlt':p < s.data.toList.length:=by rw [len_size];exact hlt
   generalize hO:one (s.data.toList.drop p)=O
   have HO:=hid hO
   clear hO
   by_cases hc:O.code=0
   ·have HV:Hid (oneV O p=.tuple #[.agg #[.int .i64 O.kind,.string ⟨O.text.toArray⟩,.int .i64 O.n,.int .i64 p],.int .i64 (p+O.size),.int .i64 0]):=if_pos hc
    have hs1:=one_size (s.data.toList.drop p) (by rw [HO.out];exact hc)
    rw [HO.out,List.length_drop,len_size] at hs1
    obtain ⟨hs1,hs2⟩:=hs1
    have hs3:p+O.size≤s.size:=by omega
    have NEXT:=hid (scanRest_go HREST.out hlt' (by rw [HO.out];exact hc))
    rw [HO.out] at NEXT
    have hg1:=gapN_le false (s.data.toList.drop (p+O.size))
    rw [List.length_drop,len_size] at hg1
    have HTN:Hid (((p:Int)+(O.size:Int)).toNat=p+O.size):=by show _=_;omega
    clear hc
    go_wp2_with (first
     | (go_at_call 80;refine (l1One_any s p _ hl hlt).mono ?_;rintro e w1 ⟨rfl,hb⟩;rw [HO.out,HV.out];have HB1:=hid hb;clear hb;have hz1:=HB1.out.size)
     | (at_builtin;refine wpList_append_own _ rfl (.tmp 34) (.tmp 36) 89 rfl (w.heap.size+1) 130 i0 (.agg #[.int .i64 0,.string ⟨#[]⟩,.int .i64 0,.int .i64 0]) 4 40 Tryz.underlying89 HHI.out.1 HHI.out.2.1 HHI.out.2.2.1 HHI.out.2.2.2 rfl (by decide) _ _ _ rfl (((own_below OWN.out HB1.out).alloc _).alloc _) ⟨w1.heap.size+1,0,none⟩ 1 1 [.int .i64 O.kind,.string ⟨O.text.toArray⟩,.int .i64 O.n,.int .i64 p] rfl rfl (cell_four_new1 _ _ _ _ _ _ _) (by simp [Value.oneCell']) (by unfold maxLen;omega) (by omega) (by simp;omega) ?_;intro v' w2 hown' hgrow _)
     | (go_at_call 79;refine (l1Gap_any s _ _ hms (by omega) (by omega)).mono ?_;rintro e w' ⟨rfl,hw⟩;have hw2:=hw.symm;clear hw;subst hw2;rw [HTN.out]))
    have R1:Hid (w2.ownsRow (w.heap.size+1) 130 4 v' (pre ++ [Tok.mk O.kind O.text O.n p]).length (tokRow (pre ++ [Tok.mk O.kind O.text O.n p]))):=by
     show World.ownsRow _ _ _ _ _ _ _;rw [tokRow_snoc,List.length_append];exact hown'
    have R2:=hid ((((HB.out.trans (HB1.out.mono hsz)).alloc (by omega) _).alloc (by simp;omega) _).grown hgrow (by simp;omega) (fun k e=>(OWN.out.lt k e).1))
    clear hown' hgrow
    go_roundw
    case rel=>exact ⟨p+O.size+gapN false (s.data.toList.drop (p+O.size)),f,pre ++ [Tok.mk O.kind O.text O.n p],by go_num,by omega,by omega,by simp;omega,R1.out,R2.out,NEXT.out⟩
    case measure=>simp [intOf];omega
   ·have HV:Hid (oneV O p=.tuple #[.agg #[.int .i64 0,.string ⟨#[]⟩,.int .i64 0,.int .i64 0],.int .i64 0,.int .i64 O.code]):=if_neg hc
    have HE:Hid (R=([],O.code,p)):=by
     show _=_;rw [← HR.out,scanRest_bad HREST.out hlt' (by rw [len_size];exact hl) (by rw [HO.out];exact hc),HO.out]
    have hc':((O.code:Int) != 0)=true:=by simp;omega
    have hRe:=HE.out
    subst hRe
    clear hc HE HR
    go_wp2_with (first
     | (go_at_call 80;refine (l1One_any s p _ hl hlt).mono ?_;rintro e w1 ⟨rfl,hb⟩;rw [HO.out,HV.out];have HB1:=hid (HB.out.trans (hb.mono hsz));have hz1:w.heap.size+1≤w1.heap.size:=Nat.le_trans hsz hb.size;have hz2:w.heap.size < w1.heap.size:=hz1;clear hb;obtain ⟨k0,k1,k2,k3⟩:=flt_cells HB1.out))
    refine bodyPost_ret (v:=.tuple #[.slice (some ⟨w1.heap.size+1,0,none⟩) 0 0,.agg #[.int .i64 O.code,.int .i64 p]]) (by simp [results,Tryz.results53,go_sem,k0,k1,hz2]) rfl ⟨_,rfl,?_,?_⟩
    ·have h:=fun W=>World.ownsRow_made (w:=World.alloc W (.cells #[.int .i64 0,.string ⟨#[]⟩,.int .i64 0,.int .i64 0] 130)) (base:=w.heap.size) (e:=130) (size:=4) #[] 0
     have h2:=h ((w1.setCell ⟨w.heap.size,0,none⟩ (.int .i64 O.code)).setCell ⟨w.heap.size,1,none⟩ (.int .i64 p)) (by simp;omega) (by unfold maxLen;omega) rfl
     simpa [tokRow] using h2
    ·refine Below.alloc (Below.alloc ?_ (by simp;omega) _) (by simp;omega) _
     exact ((((Below.refl w.heap.size w).alloc (Nat.le_refl _) _).trans (HB1.out.mono (by omega))).setCell (p:=⟨w.heap.size,0,none⟩) (Nat.le_refl _) _).setCell (p:=⟨w.heap.size,1,none⟩) (Nat.le_refl _) _
  ·have HE:Hid (R=(pre,0,0)):=by
    show _=_;rw [← HR.out,scanRest_end HREST.out (by rw [len_size];omega) (by rw [len_size];exact hl)]
   obtain ⟨k0,k1,k2,k3⟩:=flt_cells HB.out
   have hRe:=HE.out
   subst hRe
   clear HE HR
   go_wp2
   refine bodyPost_ret (v:=.tuple #[u4,.agg #[.int .i64 0,.int .i64 0]]) (by simp [results,Tryz.results53,go_sem,k0,k1]) rfl ⟨_,rfl,?_,?_⟩
   ·exact own_base (ownsRow_setCell_below (ownsRow_setCell_below OWN.out (a:=⟨w.heap.size,0,none⟩) (Nat.lt_succ_self _) _) (a:=⟨w.heap.size,1,none⟩) (Nat.lt_succ_self _) _) (by omega)
   ·exact ((((Below.refl w.heap.size w).alloc (Nat.le_refl _) _).trans (HB.out.mono (by omega))).setCell (p:=⟨w.heap.size,0,none⟩) (Nat.le_refl _) _).setCell (p:=⟨w.heap.size,1,none⟩) (Nat.le_refl _) _
end Go.Proofs.YthnohneaanphbaaGreatDoor.K
namespace Go.Proofs.YthnohneaanphbaaGreatDoor
open Go.RowKit
set_option maxRecDepth 20000
set_option maxHeartbeats 1000000 in
theorem specValid_out (b N cap:Nat) (nd:Nat→Nd) (w:World) (hN:N≤1048576) (ho:N=0∨5000 < N) :
  Calls Tryz.prog 27 #[.agg #[.slice (some ⟨b,0,none⟩) N cap]] w fun e w'=>Says e (ValidT nd N)∧Below w.heap.size w w':=by
 have HF:Hid (¬ ValidT nd N):=fun ⟨h1,h2,_⟩=>by omega
 have HIN:Hid ((decide ((1:Int)≤(N:Int)) && decide ((N:Int)≤5000))=false):=by show _=_;simp;omega
 go_enter Tryz.func27,Tryz.ntmps27
 go_wp2_with (first
  | (go_at_call 22;refine (l1In_dec _ _ _ _).mono ?_;rintro e w' ⟨rfl,hw⟩;have hw2:=hw.symm;clear hw;subst hw2;rw [HIN.out]))
 go_ret
 exact ⟨says_f HF.out,(Below.refl _ _).alloc (Nat.le_refl _) _⟩
set_option maxHeartbeats 1000000 in
theorem specValid_kind (b N cap:Nat) (nd:Nat→Nd) (w:World) (hN1:1≤N) (hN:N≤5000) (h24:¬ (nd (N - 1)).kind=24) (hb:b < w.heap.size) (hn:NodesAt w b N nd) :
  Calls Tryz.prog 27 #[.agg #[.slice (some ⟨b,0,none⟩) N cap]] w fun e w'=>Says e (ValidT nd N)∧Below w.heap.size w w':=by
 have HF:Hid (¬ ValidT nd N):=fun ⟨_,_,h,_⟩=>h24 h
 have HBT:=hid ((Below.refl w.heap.size w).alloc (Nat.le_refl _) (.cells #[.slice (some ⟨b,0,none⟩) N cap] 25))
 have HIN:Hid ((decide ((1:Int)≤(N:Int)) && decide ((N:Int)≤5000))=true):=by show _=_;simp;omega
 have a0:=((hn.below HBT.out hb) (N - 1) (by omega)).1
 have hne:((nd (N - 1)).kind != 24)=true:=by rw [bne_iff_ne];exact h24
 clear hn h24
 go_enter Tryz.func27,Tryz.ntmps27
 go_wp2_with (first
  | (go_at_call 22;refine (l1In_dec _ _ _ _).mono ?_;rintro e w' ⟨rfl,hw⟩;have hw2:=hw.symm;clear hw;subst hw2;rw [HIN.out]))
 go_ret
 exact ⟨says_f HF.out,HBT.out⟩
theorem specValid_all (b N cap:Nat) (nd:Nat→Nd) (w:World) (hN:N≤1048576) (hb:b < w.heap.size) (hn:NodesAt w b N nd) (hx:∀ i,i < N→(nd i).text.size≤maxLen) :
  Calls Tryz.prog 27 #[.agg #[.slice (some ⟨b,0,none⟩) N cap]] w fun e w'=>Says e (ValidT nd N)∧Below w.heap.size w w':=by
 by_cases ho:N=0∨5000 < N
 ·exact specValid_out b N cap nd w hN ho
 ·by_cases h24:(nd (N - 1)).kind=24
  ·exact specValid_any b N cap nd w (by omega) (by omega) h24 hb hn hx
  ·exact specValid_kind b N cap nd w (by omega) (by omega) h24 hb hn
set_option maxHeartbeats 1000000 in
theorem implValid_out (b N cap:Nat) (nd:Nat→Nd) (w:World) (hN:N≤1048576) (ho:5000 < N) :
  Calls Tryz.prog 34 #[.agg #[.slice (some ⟨b,0,none⟩) N cap]] w fun e w'=>Says e (ValidT nd N)∧Below w.heap.size w w':=by
 have HF:Hid (¬ ValidT nd N):=fun ⟨h1,h2,_⟩=>by omega
 go_enter Tryz.func34,Tryz.ntmps34
 go_wp2
 go_ret
 exact ⟨says_f HF.out,(Below.refl _ _).alloc (Nat.le_refl _) _⟩
theorem implValid_all (b N cap:Nat) (nd:Nat→Nd) (w:World) (hN:N≤1048576) (hb:b < w.heap.size) (hn:NodesAt w b N nd) (hx:∀ i,i < N→(nd i).text.size≤maxLen) :
  Calls Tryz.prog 34 #[.agg #[.slice (some ⟨b,0,none⟩) N cap]] w fun e w'=>Says e (ValidT nd N)∧Below w.heap.size w w':=by
 by_cases ho:5000 < N
 ·exact implValid_out b N cap nd w hN ho
 ·exact implValid_any b N cap nd w (by omega) hb hn hx
section
variable {s:Ds} {ov0:Value} {w0:World} {p n:Nat} {bad:Bool} {w:World}
theorem tok_at (h:Ad s ov0 w0 p bad n w) :
  Calls Tryz.prog 86 #[.pointer (some ⟨s.D,0,none⟩)] w fun e w'=>∃ (k m q:Int) (t:ByteArray),e=.returned (.agg #[.int .i64 k,.string t,.int .i64 m,.int .i64 q])∧t.size≤1000∧(k≠0→p < s.T)∧Ad s ov0 w0 p bad n w':=by
 obtain ⟨ov,h1,h2⟩:=h
 refine (tok_dk h1).mono ?_
 rintro e w' ⟨k,m,q,t,rfl,a,b,c⟩
 exact ⟨k,m,q,t,rfl,a,b,ov,h1.next c,h2.next c⟩
theorem stop_at (h:Ad s ov0 w0 p bad n w) :
  Calls Tryz.prog 87 #[.pointer (some ⟨s.D,0,none⟩)] w fun e w'=>e=.returned (.tuple #[])∧Ad s ov0 w0 p true n w':=by
 obtain ⟨ov,h1,h2⟩:=h
 refine (stop_dk h1).mono ?_
 rintro e w' ⟨rfl,a,b⟩
 exact ⟨rfl,ov,a,h2.trans b⟩
theorem is_at (h:Ad s ov0 w0 p bad n w) (x:ByteArray) :
  Calls Tryz.prog 104 #[.pointer (some ⟨s.D,0,none⟩),.string x] w fun e w'=>(e=.returned (.bool true)∧p < s.T∧Ad s ov0 w0 p bad n w')∨(e=.returned (.bool false)∧Ad s ov0 w0 p bad n w'):=by
 obtain ⟨ov,h1,h2⟩:=h
 refine (is_dk h1 x).mono ?_
 rintro e w' ⟨b,rfl,a,c⟩
 cases b
 ·exact .inr ⟨rfl,ov,h1.next c,h2.next c⟩
 ·exact .inl ⟨rfl,(a rfl).2,ov,h1.next c,h2.next c⟩
theorem take_at (h:Ad s ov0 w0 p bad n w) (x:ByteArray) :
  Calls Tryz.prog 81 #[.pointer (some ⟨s.D,0,none⟩),.string x] w fun e w'=>(e=.returned (.bool true)∧p < s.T∧Ad s ov0 w0 (p+1) false n w')∨(e=.returned (.bool false)∧Ad s ov0 w0 p bad n w'):=by
 obtain ⟨ov,h1,h2⟩:=h
 refine (take_dk h1 x).mono ?_
 rintro e w' (⟨rfl,rfl,a,b,c⟩ | ⟨rfl,b,c⟩)
 ·exact .inl ⟨rfl,a,ov,b,h2.trans c⟩
 ·exact .inr ⟨rfl,ov,b,h2.trans c⟩
theorem need_to (h:Ad s ov0 w0 p bad n w) (x:ByteArray) :
  Calls Tryz.prog 84 #[.pointer (some ⟨s.D,0,none⟩),.string x] w fun e w'=>e=.returned (.tuple #[])∧∃ p' bad',p≤p'∧p'≤p+1∧(bad=true→bad'=true)∧(p'=p+1∨bad'=true)∧Ad s ov0 w0 p' bad' n w':=by
 obtain ⟨ov,h1,h2⟩:=h
 refine (need_dk h1 x).mono ?_
 rintro e w' ⟨rfl,p',bad',a,b,c,c2,d,f⟩
 exact ⟨rfl,p',bad',a,b,c,c2,ov,d,h2.trans f⟩
theorem need_at (h:Ad s ov0 w0 p bad n w) (x:ByteArray) :
  Calls Tryz.prog 84 #[.pointer (some ⟨s.D,0,none⟩),.string x] w fun e w'=>e=.returned (.tuple #[])∧∃ p' bad',p≤p'∧p'≤p+1∧Ad s ov0 w0 p' bad' n w':=by
 refine (need_to h x).mono ?_
 rintro e w' ⟨rfl,p',bad',a,b,c,c2,d⟩
 exact ⟨rfl,p',bad',a,b,d⟩
theorem name_at9 (h:Ad s ov0 w0 p bad n w) :
  Calls Tryz.prog 82 #[.pointer (some ⟨s.D,0,none⟩)] w fun e w'=>∃ (t:ByteArray) (p':Nat) (bad':Bool),e=.returned (.string t)∧t.size≤1000∧p≤p'∧p'≤p+1∧(p < p'∨bad'=true)∧Ad s ov0 w0 p' bad' n w':=by
 obtain ⟨ov,h1,h2⟩:=h
 refine (name_dk h1).mono ?_
 rintro e w' ⟨t,p',bad',rfl,a,b,c,d,f,g⟩
 exact ⟨t,p',bad',rfl,a,b,c,d,ov,f,h2.trans g⟩
theorem put_at9 (h:Ad s ov0 w0 p bad n w) (x:Nd) (hx:x.text.size≤1000) (hn:n≤1000000) :
  Calls Tryz.prog 55 #[.pointer (some ⟨s.D,0,none⟩),.agg #[.int .i64 x.kind,.int .i64 x.op,.int .i64 x.n,.string x.text,.int .i64 x.kids]] w fun e w'=>e=.returned (.tuple #[])∧Ad s ov0 w0 p bad (n+1) w':=by
 obtain ⟨ov,h1,h2⟩:=h
 refine (put_dk h1 x hx hn).mono ?_
 rintro e w' ⟨rfl,ov',a,b⟩
 exact ⟨rfl,ov',a,h2.trans b⟩
theorem Ad.inc (h:Ad s ov0 w0 p bad n w) (hp:p < s.T):Ad s ov0 w0 (p+1) bad n (w.setCell ⟨s.D,2,none⟩ (.int .i64 ((p:Int)+1))):=by
 obtain ⟨ov,h1,h2⟩:=h
 exact ⟨ov,h1.inc hp,h2.trans (Dt.set s ov w 2 _)⟩
theorem Ad.cells (h:Ad s ov0 w0 p bad n w):w.cell? ⟨s.D,0,none⟩=some (.slice s.ta s.T s.tc)∧w.cell? ⟨s.D,2,none⟩=some (.int .i64 p)∧w.cell? ⟨s.D,3,none⟩=some (.bool bad)∧w.frozen? ⟨s.D,2,none⟩=false:=by
 obtain ⟨ov,h1,h2⟩:=h
 obtain ⟨c0,c1,c2,c3,c5⟩:=h1.cells
 exact ⟨c0,c2,c3,h1.fz 2⟩
end
def deskP (s:Ds) (w:World):Nat:=match w.cell? ⟨s.D,2,none⟩ with
 | some (.int _ i)=>i.toNat
 | _=>0
theorem Ad.deskP {s:Ds} {ov0:Value} {w0:World} {p n:Nat} {bad:Bool} {w:World} (h:Ad s ov0 w0 p bad n w):deskP s w=p:=by
 unfold Proofs.YthnohneaanphbaaGreatDoor.deskP
 rw [h.cells.2.1]
 simp
def DE (c:Nat) (s:Ds) (ov0:Value) (w0:World) (p n:Nat) (e:Ending) (w':World):Prop:=e=.returned (.tuple #[])∧∃ p' bad' n',p≤p'∧n≤n'∧n'+2 * p≤n+2 * p'+c∧Ad s ov0 w0 p' bad' n' w'
def DI9 (s:Ds) (ov0:Value) (w0:World) (p n:Nat) (e:Ending) (w':World):Prop:=∃ m p':Nat,∃ bad' n',e=.returned (.int .i64 m)∧m≤p' - p+1∧p≤p'∧n≤n'∧n'+2 * p≤n+2 * p'+1∧Ad s ov0 w0 p' bad' n' w'
def EOk9 (s:Ds) (p:Nat):Prop:=∀ (bad:Bool) (n:Nat) (ov0:Value) (w0 w:World),Ad s ov0 w0 p bad n w→n+2 * s.T≤400000+2 * p→Calls Tryz.prog 85 #[.pointer (some ⟨s.D,0,none⟩)] w (DE 0 s ov0 w0 p n)
def OpsOk9 (s:Ds) (r:Int) (p:Nat):Prop:=∀ (bad:Bool) (n:Nat) (ov0:Value) (w0 w:World),Ad s ov0 w0 p bad n w→n+2 * s.T≤400000+2 * p→Calls Tryz.prog 105 #[.pointer (some ⟨s.D,0,none⟩),.int .i64 r] w (DE 0 s ov0 w0 p n)
theorem Ad.comp {s:Ds} {ov0 ov1:Value} {w0 w1:World} {p n:Nat} {bad:Bool} {w:World} (h:Ad s ov1 w1 p bad n w) (k:Dt s ov0 w0 ov1 w1):Ad s ov0 w0 p bad n w:=by
 obtain ⟨ov,a,b⟩:=h
 exact ⟨ov,a,k.trans b⟩
theorem Ad.box {s:Ds} {ov0:Value} {w0:World} {p n:Nat} {bad:Bool} {w:World} (h:Ad s ov0 w0 p bad n w) (o:Obj) :
  ∃ ov1,Dt s ov0 w0 ov1 (w.alloc o)∧Ad s ov1 (w.alloc o) p bad n (w.alloc o)∧∀ p' bad' n' w',Ad s ov1 (w.alloc o) p' bad' n' w'→w'.heap[w.heap.size]?=some o:=by
 obtain ⟨ov,h1,h2⟩:=h
 have hb:=(Below.refl w.heap.size w).alloc (Nat.le_refl _) o
 refine ⟨ov,h2.next hb,⟨ov,h1.next hb,Dt.refl _ _ _⟩,?_⟩
 rintro p' bad' n' w' ⟨ov',_,b⟩
 refine (b.sv.block w.heap.size (by simp) fun e=>?_).trans (heap_alloc_new w o)
 rcases e with e | e
 ·have:=h1.lt
  omega
 ·obtain ⟨O,_,h8,_⟩:=h1.out
  obtain ⟨_,cur,hc⟩:=own_loD h8 _ e
  have:=(Array.getElem?_eq_some_iff.1 hc).1
  omega
def RowIn (W:World) (g:Nat) (l:List Nd):Prop:=∃ cur,W.heap[g]?=some (.cells cur 35 (0,0))∧∀ (j:Nat) u,(ndRow l)[j]?=some u→cur[j]?=some u
theorem RowIn.keep {W V:World} {g:Nat} {l:List Nd} (h:RowIn W g l) (hk:V.heap[g]?=W.heap[g]?):RowIn V g l:=by
 obtain ⟨cur,h1,h2⟩:=h
 exact ⟨cur,hk.trans h1,h2⟩
theorem RowIn.lt {W:World} {g:Nat} {l:List Nd} (h:RowIn W g l):g < W.heap.size:=by
 obtain ⟨cur,h1,_⟩:=h
 exact (Array.getElem?_eq_some_iff.1 h1).1
theorem NdIn.row {W:World} {g n c:Nat} {l:List Nd} (h:NdIn W (.slice (some ⟨g,0,none⟩) n c) l):n=l.length∧n≤c∧RowIn W g l:=by
 obtain ⟨_,g',c',cur,e,h1,h2⟩:=h
 cases e
 exact ⟨rfl,Nat.le_add_right _ _,cur,h1,h2⟩
theorem RowIn.nd {W:World} {g c:Nat} {l:List Nd} (h:RowIn W g l) (h0:l≠[]) (hc:l.length≤c):NdIn W (.slice (some ⟨g,0,none⟩) l.length c) l:=by
 obtain ⟨cur,h1,h2⟩:=h
 exact ⟨h0,g,c - l.length,cur,by congr 1;omega,h1,h2⟩
def ndF (x:Nd):List Value:=[.int .i64 x.kind,.int .i64 x.op,.int .i64 x.n,.string x.text,.int .i64 x.kids]
theorem ndRow_cons (x:Nd) (l:List Nd):ndRow (x :: l)=ndF x ++ ndRow l:=rfl
theorem ndRow_get:∀ (l:List Nd) (i t:Nat) (hi:i < l.length),t < 5→(ndRow l)[i * 5+t]?=(ndF l[i])[t]?
 | x :: l,0,t,_,ht=>by
  rw [ndRow_cons,Nat.zero_mul,Nat.zero_add,List.getElem?_append_left (by show t < 5;exact ht)]
  rfl
 | x :: l,i+1,t,hi,ht=>by
  have hi':i < l.length:=by simpa using hi
  rw [ndRow_cons,List.getElem?_append_right (by show 5≤(i+1) * 5+t;omega)]
  have:(i+1) * 5+t - (ndF x).length=i * 5+t:=by show (i+1) * 5+t - 5=_;omega
  rw [this,ndRow_get l i t hi' ht]
  rfl
theorem RowIn.cell {W:World} {g:Nat} {l:List Nd} (h:RowIn W g l) (i:Nat) (hi:i < l.length):W.cell? ⟨g,i * 5,none⟩=some (.int .i64 l[i].kind)∧W.cell? ⟨g,i * 5+1,none⟩=some (.int .i64 l[i].op)∧W.cell? ⟨g,i * 5+2,none⟩=some (.int .i64 l[i].n)∧W.cell? ⟨g,i * 5+3,none⟩=some (.string l[i].text)∧W.cell? ⟨g,i * 5+4,none⟩=some (.int .i64 l[i].kids):=by
 obtain ⟨cur,h1,h2⟩:=h
 have f:∀ t u,t < 5→(ndF l[i])[t]?=some u→W.cell? ⟨g,i * 5+t,none⟩=some u:=fun t u ht hu=>by
  rw [← ndRow_get l i t hi ht] at hu
  exact (cell_hp h1 _).trans (h2 _ _ hu)
 exact ⟨f 0 _ (by decide) rfl,f 1 _ (by decide) rfl,f 2 _ (by decide) rfl,f 3 _ (by decide) rfl,f 4 _ (by decide) rfl⟩
theorem RowIn.frozen {W:World} {g:Nat} {l:List Nd} (h:RowIn W g l) (i:Nat):W.frozen? ⟨g,i,none⟩=false:=by
 obtain ⟨cur,h1,_⟩:=h
 exact frozen_hp h1 i
theorem RowIn.set {W:World} {g:Nat} {l:List Nd} (h:RowIn W g l) (i t:Nat) (hi:i < l.length) (ht:t < 5) (v:Value) (y:Nd) (hy:ndF y=(ndF l[i]).set t v):RowIn (W.setCell ⟨g,i * 5+t,none⟩ v) g (l.set i y):=by
 obtain ⟨cur,h1,h2⟩:=h
 refine ⟨_,set_at v h1,fun j u hu=>?_⟩
 have hlen:j < l.length * 5:=by
  have:=(List.getElem?_eq_some_iff.1 hu).1
  rw [ndRow_length] at this
  simpa using this
 have hcur:∀ k,k < l.length * 5→k < cur.size:=fun k hk=>by
  have hk':k < (ndRow l).length:=by rw [ndRow_length];exact hk
  have:=h2 k _ (List.getElem?_eq_getElem hk')
  exact (Array.getElem?_eq_some_iff.1 this).1
 obtain ⟨a,b,rfl,hb⟩:∃ a b,j=a * 5+b∧b < 5:=⟨j / 5,j % 5,by omega,by omega⟩
 have ha:a < l.length:=by omega
 rw [ndRow_get _ a b (by simpa using ha) hb] at hu
 by_cases e:a=i
 ·subst e
  rw [List.getElem_set_self,hy] at hu
  by_cases e2:b=t
  ·subst e2
   rw [List.getElem?_set_self (by show b < 5;exact hb)] at hu
   cases hu
   rw [Array.getElem?_setIfInBounds_self_of_lt (hcur _ hlen)]
  ·rw [List.getElem?_set_ne (fun h=>e2 h.symm),← ndRow_get l a b ha hb] at hu
   rw [Array.getElem?_setIfInBounds_ne (by omega)]
   exact h2 _ _ hu
 ·rw [List.getElem_set_ne (fun h=>e h.symm),← ndRow_get l a b ha hb] at hu
  rw [Array.getElem?_setIfInBounds_ne (by omega)]
  exact h2 _ _ hu
theorem RowIn.other {W:World} {g b i:Nat} {l:List Nd} {v:Value} (h:RowIn W g l) (hb:b≠g):RowIn (W.setCell ⟨b,i,none⟩ v) g l:=h.keep (Below.heap_setCell _ _ _ _ (fun e=>hb e.symm))
structure SI (R tb rb ob gt g ct cap P:Nat) (w:World) (l0 l:List Nd) (wr:World):Prop where
 rd:∃ p,p≤P∧Rd R wr p
 xt:wr.heap[tb]?=some (.cells #[.slice (some ⟨gt,0,none⟩) l0.length ct] 25 (0,0))
 xr:wr.heap[rb]?=some (.cells #[.slice none 0 0] 25 (0,0))
 xo:wr.heap[ob]?=some (.cells #[.slice (some ⟨g,0,none⟩) l.length cap] 25 (0,0))
 rt:RowIn wr gt l0
 ro:RowIn wr g l
 sv:Sv (fun k=>k=R) w wr
 lo:w.heap.size≤tb∧tb < rb∧rb < ob∧w.heap.size≤g∧gt < w.heap.size
 lt:R < w.heap.size
 cp:l0.length≤ct∧l.length≤cap
section
variable {R tb rb ob gt g ct cap P:Nat} {w:World} {l0 l:List Nd} {wr:World}
theorem SI.next (h:SI R tb rb ob gt g ct cap P w l0 l wr) {w2:World} (hb:Below wr.heap.size wr w2):SI R tb rb ob gt g ct cap P w l0 l w2:=by
 obtain ⟨⟨p,a1,a2⟩,h1,h2,h3,h4,h5,h6,h7,h8,h9⟩:=h
 exact ⟨⟨p,a1,a2.next hb⟩,hp_next h1 hb,hp_next h2 hb,hp_next h3 hb,h4.keep (hb.block _ h4.lt),h5.keep (hb.block _ h5.lt),h6.trans (Sv.of_below hb),h7,h8,h9⟩
theorem SI.pick (h:SI R tb rb ob gt g ct cap P w l0 l wr) (hP:P≤1000000) (n:Int) (hn:n≤1000000000) :
  Calls Tryz.prog 14 #[.pointer (some ⟨R,0,none⟩),.int .i64 n] wr fun e w2=>∃ x:Nat,e=.returned (.int .i64 x)∧(x=0∨(x:Int) < n)∧SI R tb rb ob gt g ct cap (P+1) w l0 l w2∧Sv (fun k=>k=R) wr w2:=by
 obtain ⟨⟨p,a1,a2⟩,h1,h2,h3,h4,h5,h6,h7,h8,h9⟩:=h
 have a2b:=a2
 obtain ⟨ad,m,cp,hR,_⟩:=a2b
 refine (pick_any R p n wr (by omega) hn a2).mono ?_
 rintro e w2 ⟨⟨x,rfl,hx⟩,b1,b2⟩
 have keep:∀ (k:Nat) cs t fr,wr.heap[k]?=some (.cells cs t fr)→t≠65→w2.heap[k]?=wr.heap[k]?:=fun k cs t fr hc ht=>b2.block k (Array.getElem?_eq_some_iff.1 hc).1 (fun e=>by
  have e':k=R:=e
  subst e'
  rw [hR] at hc
  cases hc
  exact ht rfl)
 obtain ⟨c4,d4,_⟩:=id h4
 obtain ⟨c5,d5,_⟩:=id h5
 exact ⟨x,rfl,hx,⟨⟨p+1,by omega,b1⟩,(keep tb _ _ _ h1 (by decide)).trans h1,(keep rb _ _ _ h2 (by decide)).trans h2,(keep ob _ _ _ h3 (by decide)).trans h3,h4.keep (keep gt _ _ _ d4 (by decide)),h5.keep (keep g _ _ _ d5 (by decide)),h6.trans b2,h7,h8,h9⟩,b2⟩
theorem SI.boxed (h:SI R tb rb ob gt g ct cap P w l0 l wr) {b i:Nat} (v:Value) (h1:w.heap.size≤b) (h2:b≠tb∧b≠rb∧b≠ob∧b≠g):SI R tb rb ob gt g ct cap P w l0 l (wr.setCell ⟨b,i,none⟩ v):=by
 obtain ⟨⟨p,a1,a2⟩,h3,h4,h5,h6,h7,h8,h9,h10,h11⟩:=h
 have keep:∀ k,k≠b→(wr.setCell ⟨b,i,none⟩ v).heap[k]?=wr.heap[k]?:=fun k hk=>Below.heap_setCell _ _ _ _ hk
 exact ⟨⟨p,a1,a2.sv (S:=fun k=>k=b) (Sv.setCell (S:=fun k=>k=b) (Sv.refl _ wr) (p:=⟨b,i,none⟩) (.inl rfl) _) (fun k e=>by subst e;omega)⟩,(keep tb (fun e=>h2.1 e.symm)).trans h3,(keep rb (fun e=>h2.2.1 e.symm)).trans h4,(keep ob (fun e=>h2.2.2.1 e.symm)).trans h5,h6.keep (keep gt (by omega)),h7.keep (keep g (fun e=>h2.2.2.2 e.symm)),h8.setCell (.inr h1) _,h9,h10,h11⟩
end
section
variable {R tb rb ob gt g ct cap P:Nat} {w:World} {l0 l:List Nd} {wr:World}
theorem SI.mono (h:SI R tb rb ob gt g ct cap P w l0 l wr) {P':Nat} (hP:P≤P'):SI R tb rb ob gt g ct cap P' w l0 l wr:=by
 obtain ⟨⟨p,a1,a2⟩,h3,h4,h5,h6,h7,h8,h9,h10,h11⟩:=h
 exact ⟨⟨p,by omega,a2⟩,h3,h4,h5,h6,h7,h8,h9,h10,h11⟩
theorem SI.apart (h:SI R tb rb ob gt g ct cap P w l0 l wr):g≠tb∧g≠rb∧g≠ob∧g≠gt:=by
 obtain ⟨_,h3,h4,h5,_,h7,_,h9,_,_⟩:=h
 obtain ⟨cur,h7,_⟩:=h7
 have f:∀ k cs,wr.heap[k]?=some (.cells cs 25 (0,0))→g≠k:=fun k cs hc e=>by
  subst e
  rw [h7] at hc
  cases hc
 exact ⟨f _ _ h3,f _ _ h4,f _ _ h5,by omega⟩
theorem SI.set1 (h:SI R tb rb ob gt g ct cap P w l0 l wr) (i t:Nat) (hi:i < l.length) (ht:t < 5) (v:Value) (y:Nd) (hy:ndF y=(ndF l[i]).set t v):SI R tb rb ob gt g ct cap P w l0 (l.set i y) (wr.setCell ⟨g,i * 5+t,none⟩ v):=by
 have ha:=h.apart
 obtain ⟨⟨p,a1,a2⟩,h3,h4,h5,h6,h7,h8,h9,h10,h11⟩:=h
 have keep:∀ k,k≠g→(wr.setCell ⟨g,i * 5+t,none⟩ v).heap[k]?=wr.heap[k]?:=fun k hk=>Below.heap_setCell _ _ _ _ hk
 refine ⟨⟨p,a1,a2.sv (S:=fun k=>k=g) (Sv.setCell (S:=fun k=>k=g) (Sv.refl _ wr) (p:=⟨g,i * 5+t,none⟩) (.inl rfl) _) (fun k e=>by subst e;omega)⟩,(keep tb (fun e=>ha.1 e.symm)).trans h3,(keep rb (fun e=>ha.2.1 e.symm)).trans h4,?_,h6.keep (keep gt (fun e=>ha.2.2.2 e.symm)),h7.set i t hi ht v y hy,h8.setCell (.inr h9.2.2.2.1) _,h9,h10,h11.1,by simpa using h11.2⟩
 have:=(keep ob (fun e=>ha.2.2.1 e.symm)).trans h5
 simpa using this
theorem SI.put (h:SI R tb rb ob gt g ct cap P w l0 l wr) (i:Nat) (hi:i < l.length) (y:Nd):SI R tb rb ob gt g ct cap P w l0 (l.set i y) (((((wr.setCell ⟨g,i * 5,none⟩ (.int .i64 y.kind)).setCell ⟨g,i * 5+1,none⟩ (.int .i64 y.op)).setCell ⟨g,i * 5+2,none⟩ (.int .i64 y.n)).setCell ⟨g,i * 5+3,none⟩ (.string y.text)).setCell ⟨g,i * 5+4,none⟩ (.int .i64 y.kids)):=by
 have s0:=h.set1 i 0 hi (by decide) (.int .i64 y.kind) { l[i] with kind:=y.kind } rfl
 have s1:=s0.set1 i 1 (by simpa using hi) (by decide) (.int .i64 y.op) { l[i] with kind:=y.kind,op:=y.op } (by rw [List.getElem_set_self];rfl)
 rw [List.set_set] at s1
 have s2:=s1.set1 i 2 (by simpa using hi) (by decide) (.int .i64 y.n) { l[i] with kind:=y.kind,op:=y.op,n:=y.n } (by rw [List.getElem_set_self];rfl)
 rw [List.set_set] at s2
 have s3:=s2.set1 i 3 (by simpa using hi) (by decide) (.string y.text) { l[i] with kind:=y.kind,op:=y.op,n:=y.n,text:=y.text } (by rw [List.getElem_set_self];rfl)
 rw [List.set_set] at s3
 have s4:=s3.set1 i 4 (by simpa using hi) (by decide) (.int .i64 y.kids) y (by rw [List.getElem_set_self];rfl)
 rw [List.set_set] at s4
 exact s4
theorem NdOk.set {K:Nat} {l:List Nd} (h:NdOk K l) (i:Nat) (y:Nd) (hy:y.text.size≤1000):NdOk K (l.set i y):=by
 refine ⟨by simpa using h.1,fun x hx=>?_⟩
 rcases List.mem_or_eq_of_mem_set hx with h1 | rfl
 ·exact h.2 x h1
 ·exact hy
theorem SI.fin (h:SI R tb rb ob gt g ct cap P w l0 l wr) {K:Nat} (hok:NdOk K l) (h0:l≠[]):Has K (wr.setCell ⟨rb,0,none⟩ (.slice (some ⟨g,0,none⟩) l.length cap)) (.slice (some ⟨g,0,none⟩) l.length cap)∧(∃ p',p'≤P∧Rd R (wr.setCell ⟨rb,0,none⟩ (.slice (some ⟨g,0,none⟩) l.length cap)) p')∧BR R w (wr.setCell ⟨rb,0,none⟩ (.slice (some ⟨g,0,none⟩) l.length cap)):=by
 have ha:=h.apart
 obtain ⟨⟨p,a1,a2⟩,h3,h4,h5,h6,h7,h8,h9,h10,h11⟩:=h
 refine ⟨⟨l,(h7.other (fun e=>ha.2.1 e.symm)).nd h0 h11.2,hok⟩,⟨p,a1,a2.sv (S:=fun k=>k=rb) (Sv.setCell (S:=fun k=>k=rb) (Sv.refl _ wr) (p:=⟨rb,0,none⟩) (.inl rfl) _) (fun k e=>by subst e;omega)⟩,(BR.of_sv h8 (by omega)).set (by omega) (by omega) _⟩
end
theorem SI.start {R p gt ct:Nat} {w w1:World} {l:List Nd} {v1:Value} (hr:Rd R w p) (hl:RowIn w gt l) (h0:l≠[]) (hct:l.length≤ct)
  (hg:(((w.alloc (.cells #[.slice (some ⟨gt,0,none⟩) l.length ct] 25)).alloc (.cells #[.slice none 0 0] 25)).alloc (.cells #[] 35)).grownBy w1 (some (w.heap.size+2))) (ho:w1.ownsRow (w.heap.size+2) 35 5 v1 l.length (ndRow l)) :
  ∃ g cap,v1=.slice (some ⟨g,0,none⟩) l.length cap∧SI R w.heap.size (w.heap.size+1) w1.heap.size gt g ct cap p w l l (w1.alloc (.cells #[.slice (some ⟨g,0,none⟩) l.length cap] 25)):=by
 have hlp:0 < l.length:=List.length_pos_iff.2 h0
 have hb:Below w.heap.size w (((w.alloc (.cells #[.slice (some ⟨gt,0,none⟩) l.length ct] 25)).alloc (.cells #[.slice none 0 0] 25)).alloc (.cells #[] 35)):=(((Below.refl w.heap.size w).alloc (Nat.le_refl _) _).alloc (by simp) _).alloc (by simp;omega) _
 have hb1:Below w.heap.size w w1:=hb.grown hg hb.size (fun q e=>by cases e;omega)
 have hz:w.heap.size+3≤w1.heap.size:=by have:=hg.size;simp at this;omega
 have hal:Below w1.heap.size w1 (w1.alloc (.cells #[v1] 25)):=(Below.refl _ _).alloc (Nat.le_refl _) _
 have hx:w1.heap[w.heap.size]?=some (.cells #[.slice (some ⟨gt,0,none⟩) l.length ct] 25):=by
  rw [hg.block w.heap.size (by simp;omega) (by simp),Below.heap_alloc _ _ _ (by simp;omega),Below.heap_alloc _ _ _ (by simp)]
  exact heap_alloc_new w _
 have hy:w1.heap[w.heap.size+1]?=some (.cells #[.slice none 0 0] 25):=by
  rw [hg.block (w.heap.size+1) (by simp) (by simp),Below.heap_alloc _ _ _ (by simp)]
  have:=heap_alloc_new (w.alloc (.cells #[.slice (some ⟨gt,0,none⟩) l.length ct] 25)) (.cells #[.slice none 0 0] 25)
  rwa [World.size_alloc] at this
 rcases ho.2 with ⟨_,hz0⟩ | ⟨g,cap,cur,hv,hgl,hgc,hcap,_,_,ht⟩
 ·omega
 ·subst hv
  refine ⟨g,cap,rfl,⟨p,Nat.le_refl _,(hr.next hb1).next hal⟩,hp_next hx hal,hp_next hy hal,heap_alloc_new w1 _,hl.keep ((hal.block _ (by have:=hl.lt;omega)).trans (hb1.block _ hl.lt)),⟨cur,hp_next hgc hal,fun j u hu=>?_⟩,Sv.of_below (hb1.trans (hal.mono hb1.size)),⟨Nat.le_refl _,by omega,by omega,by omega,hl.lt⟩,hr.lt,hct,hcap⟩
  rw [← ht] at hu
  have hj:=(List.getElem?_eq_some_iff.1 hu).1
  rw [List.length_take] at hj
  rw [List.getElem?_take_of_lt (by omega)] at hu
  simpa using hu
def TrIn (K:Nat) (w:World) (v:Value):Prop:=(∃ ad c,v=.slice ad 0 c)∨Has K w v
theorem TrIn.mono {K K':Nat} {w:World} {v:Value} (h:TrIn K w v) (hk:K≤K'):TrIn K' w v:=by
 rcases h with h | ⟨l,h1,h2⟩
 ·exact .inl h
 ·exact .inr ⟨l,h1,h2.mono hk⟩
theorem own_tr {W:World} {base m:Nat} {v:Value} {l:List Nd} (h:W.ownsRow base 35 5 v m (ndRow l)) (hm:m=l.length):(∃ ad c,v=.slice ad m c∧(m=0∨∃ g,ad=some ⟨g,0,none⟩∧base≤g∧m≤c∧RowIn W g l))∧∀ b,v.ownBlock=some b→base≤b:=by
 obtain ⟨_,⟨rfl,h0⟩ | ⟨g,cap,cur,rfl,hgl,hgc,hcap,_,_,ht⟩⟩:=h
 ·exact ⟨⟨none,0,by rw [h0],.inl h0⟩,fun b e=>by simp [Value.ownBlock] at e⟩
 ·refine ⟨⟨_,cap,rfl,.inr ⟨g,rfl,hgl,hcap,cur,hgc,fun j u hu=>?_⟩⟩,fun b e=>by simp [Value.ownBlock] at e;omega⟩
  rw [← ht] at hu
  have hj:=(List.getElem?_eq_some_iff.1 hu).1
  rw [List.length_take] at hj
  rw [List.getElem?_take_of_lt (by omega)] at hu
  simpa using hu
structure SE (R P:Nat) (w wr:World):Prop where
 rd:∃ p,p≤P∧Rd R wr p
 sv:Sv (fun k=>k=R) w wr
 lt:R < w.heap.size
theorem SI.se {R tb rb ob gt g ct cap P:Nat} {w:World} {l0 l:List Nd} {wr:World} (h:SI R tb rb ob gt g ct cap P w l0 l wr):SE R P w wr:=⟨h.rd,h.sv,h.lt⟩
theorem SE.set {R P:Nat} {w wr:World} (h:SE R P w wr) {b i:Nat} (v:Value) (hb:w.heap.size≤b):SE R P w (wr.setCell ⟨b,i,none⟩ v):=by
 obtain ⟨⟨p,a1,a2⟩,h8,h10⟩:=h
 exact ⟨⟨p,a1,a2.sv (S:=fun k=>k=b) (Sv.setCell (S:=fun k=>k=b) (Sv.refl _ wr) (p:=⟨b,i,none⟩) (.inl rfl) _) (fun k e=>by subst e;omega)⟩,h8.setCell (.inr hb) _,h10⟩
theorem SE.fin {R P K:Nat} {w wr:World} (h:SE R P w wr) {ad:Option Addr} {m c:Nat} {l:List Nd} (ht:m=0∨∃ g,ad=some ⟨g,0,none⟩∧m≤c∧RowIn wr g l) (hm:m=l.length) (hk:NdOk K l):TrIn K wr (.slice ad m c)∧(∃ p',p'≤P∧Rd R wr p')∧BR R w wr:=by
 obtain ⟨⟨p,a1,a2⟩,h8,h10⟩:=h
 refine ⟨?_,⟨p,a1,a2⟩,BR.of_sv h8 (by omega)⟩
 by_cases h0:m=0
 ·subst h0
  exact .inl ⟨ad,c,rfl⟩
 ·rcases ht with h | ⟨g,rfl,h1,h2⟩
  ·exact absurd h h0
  ·subst hm
   exact .inr ⟨l,h2.nd (fun e=>h0 (by rw [e];rfl)) h1,hk⟩
theorem NdOk.cut {K:Nat} {l:List Nd} (h:NdOk K l) (k:Nat):NdOk K (l.take k ++ l.drop (k+1)):=by
 refine ⟨by have:=h.1;rw [List.length_append,List.length_take,List.length_drop];omega,fun x hx=>?_⟩
 rcases List.mem_append.1 hx with h1 | h1
 ·exact h.2 x (List.mem_of_mem_take h1)
 ·exact h.2 x (List.mem_of_mem_drop h1)
theorem RowIn.part {W:World} {g:Nat} {l:List Nd} (h:RowIn W g l) (k:Nat) (hk:k≤l.length):(∀ (j:Nat) u,(ndRow (l.take k))[j]?=some u→W.cell? ((⟨g,0,none⟩:Addr).add j)=some u)∧∀ (j:Nat) u,(ndRow (l.drop k))[j]?=some u→W.cell? ((⟨g,k * 5,none⟩:Addr).add j)=some u:=by
 obtain ⟨cur,h1,h2⟩:=h
 have e:ndRow l=ndRow (l.take k) ++ ndRow (l.drop k):=by rw [← ndRow_append,List.take_append_drop]
 have hl:(ndRow (l.take k)).length=k * 5:=by rw [ndRow_length,List.length_take];congr 1;omega
 constructor
 ·intro j u hu
  rw [add_none,Nat.zero_add]
  refine (cell_hp h1 _).trans (h2 _ _ ?_)
  rw [e,List.getElem?_append_left (List.getElem?_eq_some_iff.1 hu).1]
  exact hu
 ·intro j u hu
  rw [add_none]
  refine (cell_hp h1 _).trans (h2 _ _ ?_)
  rw [e,List.getElem?_append_right (by omega),hl,Nat.add_sub_cancel_left]
  exact hu
set_option maxHeartbeats 2000000 in
theorem l1Many_k (s:ByteArray) (n:Nat) (w:World) (h:s.size * n≤1000) (hn:n≤1000) (hs:s.size≤1000) :
  Calls Tryz.prog 15 #[.string s,.int .i64 n] w fun e w'=>(∃ t:ByteArray,e=.returned (.string t)∧t.size≤1000)∧w'=w:=by
 go_enter Tryz.func15,Tryz.ntmps15
 go_wp2
 go_loopw [0,1,5] (fun a b c wr=>∃ (s o:ByteArray) (k:Nat),a=.string s∧b=.int .i64 k∧c=.string o∧o.size+s.size * k≤1000∧k≤1000∧s.size≤2000∧wr=w) (fun _ b _ _=>(intOf b).toNat)
 case atStart=>exact ⟨s,⟨#[]⟩,n,rfl,rfl,rfl,by show 0+s.size * n≤1000;omega,hn,by omega,rfl⟩
 case round =>
  obtain ⟨s,o,k,rfl,rfl,rfl,h1,h2,h3,rfl⟩:=hrel
  by_cases hk:0 < k
  ·have hk2:s.size≤s.size * k:=Nat.le_mul_of_pos_right _ hk
   have hd:k=2 * (k / 2)+k % 2:=(Nat.div_add_mod k 2).symm
   have hq:(k:Int) / 2=((k / 2:Nat):Int):=by omega
   have hr:(k:Int) % 2=((k % 2:Nat):Int):=by omega
   have he:s.size * k=s.size * 2 * (k / 2)+s.size * (k % 2):=by
    conv=>lhs;rw [hd]
    rw [Nat.mul_add,Nat.mul_assoc]
   obtain ⟨m,hm⟩:∃ m,k / 2=m:=⟨_,rfl⟩
   rw [hm] at hq he
   rcases Nat.mod_two_eq_zero_or_one k with hz | hz
   ·rw [hz] at hr he
    have HX:=hid (show o.size+(s.size+s.size) * m≤1000∧m < k from ⟨by rw [Nat.mul_zero,Nat.add_zero] at he;rw [← Nat.mul_two];omega,by omega⟩)
    clear he hd
    go_wp2
    go_roundw
    case rel=>exact ⟨s ++ s,o,m,rfl,by go_num,rfl,by rw [ByteArray.size_append];exact HX.out.1,by have:=HX.out.2;omega,by rw [ByteArray.size_append];omega,by trivial⟩
    case measure=>have:=HX.out.2;simp [intOf];omega
   ·rw [hz] at hr he
    have HX:=hid (show o.size+s.size+(s.size+s.size) * m≤1000∧m < k from ⟨by rw [Nat.mul_one] at he;rw [← Nat.mul_two];omega,by omega⟩)
    clear he hd
    go_wp2
    go_roundw
    case rel=>exact ⟨s ++ s,o ++ s,m,rfl,by go_num,rfl,by rw [ByteArray.size_append,ByteArray.size_append];exact HX.out.1,by have:=HX.out.2;omega,by rw [ByteArray.size_append];omega,by trivial⟩
    case measure=>have:=HX.out.2;simp [intOf];omega
  ·go_wp2
   go_ret
   exact ⟨⟨o,rfl,by omega⟩,rfl⟩
set_option maxHeartbeats 400000 in
theorem l1In_q (x lo hi:Int) (w:World) :
  Calls Tryz.prog 22 #[.int .i64 x,.int .i64 lo,.int .i64 hi] w fun e w'=>e=.returned (.bool (decide (lo≤x) && decide (x≤hi)))∧w'=w:=by
 go_enter Tryz.func22,Tryz.ntmps22
 go_wp2
 all_goals go_ret
 all_goals exact ⟨ret_bool (by rw [Bool.eq_iff_iff];simp;try omega),rfl⟩
theorem l1In_b (x lo hi:Int) (w:World):Calls Tryz.prog 22 #[.int .i64 x,.int .i64 lo,.int .i64 hi] w fun e w'=>(∃ b:Bool,e=.returned (.bool b))∧w'=w:=(l1In_q x lo hi w).mono fun _ _ h=>⟨⟨_,h.1⟩,h.2⟩
theorem NdOk.ins {K:Nat} {l:List Nd} (h:NdOk K l) (j:Nat) (y:Nd) (hy:y.text.size≤1000):NdOk (K+1) (l.take j ++ [y] ++ l.drop j):=by
 refine ⟨by have:=h.1;rw [List.length_append,List.length_append,List.length_take,List.length_drop];simp;omega,fun x hx=>?_⟩
 rcases List.mem_append.1 hx with h1 | h1
 ·rcases List.mem_append.1 h1 with h2 | h2
  ·exact h.2 x (List.mem_of_mem_take h2)
  ·rw [List.mem_singleton.1 h2]
   exact hy
 ·exact h.2 x (List.mem_of_mem_drop h1)
end Go.Proofs.YthnohneaanphbaaGreatDoor
