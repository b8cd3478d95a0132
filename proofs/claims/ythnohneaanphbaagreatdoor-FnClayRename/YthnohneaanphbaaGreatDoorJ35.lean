import Derived.Deep.RegionHeld3
import Derived.Deep.DeepCutAuto
import Derived.Test.YthnohneaanphbaaGreatDoorJ33
import Derived.Test.YthnohneaanphbaaGreatDoorJ06
import Derived.Test.YthnohneaanphbaaGreatDoorJ05
import Derived.Test.YthnohneaanphbaaGreatDoorJ25
import Derived.Test.YthnohneaanphbaaGreatDoorJ15
import Derived.Test.YthnohneaanphbaaGreatDoorJ32
import Derived.Test.YthnohneaanphbaaGreatDoorJ34
import Derived.Test.YthnohneaanphbaaGreatDoorJ31
namespace Go.Proofs.YthnohneaanphbaaGreatDoor.K
open Go.RowKit
set_option maxRecDepth 20000
theorem unq_text (s:ByteArray) (n:Nat) (hn:n < s.size):unqF ((s.data.toList.drop (n+1)).length+1) (s.data.toList.drop (n+1))=(unqAt (s.size - n) s.data.toList (n+1) []).map fun x=>(x.1,x.2 - (n+1)):=by
 have hl:(s.data.toList.drop (n+1)).length+1=s.size - n:=by rw [List.length_drop,len_size];omega
 rw [hl];unfold unqAt
 cases unqF (s.size - n) (s.data.toList.drop (n+1)) with
 | none=>rfl
 | some x=>simp
theorem text_one (s:ByteArray) (n:Nat) (hn:n < s.size) :
  (unqAt (s.size - n) s.data.toList (n+1) []=none→textOne (s.data.toList.drop (n+1))=One.bad 4) ∧
  (∀ o q,unqAt (s.size - n) s.data.toList (n+1) []=some (o,q)→n+1 < q∧q≤s.size∧(1000 < o.length→textOne (s.data.toList.drop (n+1))=One.bad 5)∧(o.length≤1000→textOne (s.data.toList.drop (n+1))=⟨4,o,0,q - n,0⟩)):=by
 have hu:=unq_text s n hn
 constructor
 ·intro h;rw [h] at hu;unfold textOne;rw [hu];rfl
 ·intro o q h
  rw [h] at hu
  have hq:=unqF_pos hu
  rw [List.length_drop,len_size] at hq
  have h1:n+1 < q:=by omega
  have h2:q≤s.size:=by omega
  refine ⟨h1,h2,fun h3=>?_,fun h3=>?_⟩
  ·unfold textOne;rw [hu];exact if_pos h3
  ·unfold textOne;rw [hu]
   have e:q - (n+1)+1=q - n:=by omega
   show (if 1000 < o.length then One.bad 5 else ⟨4,o,0,q - (n+1)+1,0⟩)=_
   rw [if_neg (by omega),e]
theorem markS_size (k:Nat):(markS k).size=(marks.getD k []).length:=by simp [markS,ByteArray.size]
theorem mark_first (L:List UInt8) (k:Nat) (hk:k < 23) (hp:(marks.getD k []).isPrefixOf L=true) (hn:∀ j,j < k→(marks.getD j []).isPrefixOf L=false):markOne L=⟨5,marks.getD k [],0,(marks.getD k []).length,0⟩:=by
 have hk':k < marks.length:=hk
 have e:marks.find? (fun m=>m.isPrefixOf L)=some (marks.getD k []):=by
  rw [List.find?_eq_some_iff_getElem]
  refine ⟨hp,k,hk',by simp [hk'],fun j hj=>?_⟩
  have:=hn j hj
  have hj':j < marks.length:=by omega
  simp [hj'] at this
  simp [this]
 unfold markOne;rw [e]
theorem mark_none (L:List UInt8) (hn:∀ j,j < 23→(marks.getD j []).isPrefixOf L=false):markOne L=One.bad 2:=by
 have e:marks.find? (fun m=>m.isPrefixOf L)=none:=by
  rw [List.find?_eq_none]
  intro x hx
  obtain ⟨j,hj,rfl⟩:=List.getElem_of_mem hx
  have:=hn j hj
  simp [hj] at this
  simp [this]
 unfold markOne;rw [e]
theorem mark_at (s:ByteArray) (n k:Nat) (hn:n < s.size) :
  ((marks.getD k []).isPrefixOf (s.data.toList.drop n)=true→((markS k).size:Int)≤(s.size:Int) - (n:Int)∧(n:Int)+((markS k).size:Int)≤s.size∧((s.extract n (n+(markS k).size)).toList == (markS k).toList)=true) ∧
  ((marks.getD k []).isPrefixOf (s.data.toList.drop n)=false→n+(markS k).size≤s.size→((s.extract n (n+(markS k).size)).toList == (markS k).toList)=false):=by
 have e1:(markS k).toList=marks.getD k []:=by rw [Lib.toList_data];simp [markS]
 have e2:(s.extract n (n+(markS k).size)).toList=(s.data.toList.drop n).take (marks.getD k []).length:=by rw [Lib.toList_data,extract_list,markS_size]
 rw [e1,e2,markS_size]
 constructor
 ·intro h
  have h:=List.isPrefixOf_iff_prefix.1 h
  have hl:=h.length_le
  rw [List.length_drop,len_size] at hl
  refine ⟨by omega,by omega,?_⟩
  rw [beq_iff_eq];exact (List.prefix_iff_eq_take.1 h).symm
 ·intro h hl
  rw [beq_eq_false_iff_ne]
  intro e
  have:(marks.getD k []) <+: (s.data.toList.drop n):=List.prefix_iff_eq_take.2 e.symm
  rw [List.isPrefixOf_iff_prefix.2 this] at h;cases h
theorem markS_cell1 (w:World) (X:Obj) (i:Nat) (h:i < 23):((w.alloc X).alloc (.cells (marks.map fun x=>Value.string ⟨x.toArray⟩).toArray 9)).cell? ⟨w.heap.size+1,i,none⟩=some (.string (markS i)):=by
 have h:=markS_cell (w.alloc X) i h
 rw [World.size_alloc] at h
 exact h
set_option maxHeartbeats 1000000 in
theorem l1One_text (s:ByteArray) (n:Nat) (w:World) (hs:s.size≤8000) (hn:n < s.size) (hd:dig (s[n].toNat:Int)=false) (hbg:beg (s[n].toNat:Int)=false) (hq:((s[n].toNat:Int) == 34)=true) :
  Calls Tryz.prog 80 #[.string s,.int .i64 n] w fun e w'=>e=.returned (oneV (textOne (s.data.toList.drop (n+1))) n)∧Below w.heap.size w w':=by
 have HT:=hid (text_one s n hn)
 generalize hU:unqAt (s.size - n) s.data.toList (n+1) []=U
 rw [hU] at HT
 have HU:=hid hU
 clear hU
 cases U with
 | none =>
  have HE:=hid (oneV_bad (HT.out.1 rfl) (by decide) n)
  clear HT
  go_enter Tryz.func80,Tryz.ntmps80
  go_wp2_with (first
   | (go_at_call 73;refine (l1Digit_any _ _).mono ?_;rintro e w' ⟨rfl,hw⟩;have hw2:=hw.symm;clear hw;subst hw2)
   | (go_at_call 44;refine (l1Begins_any _ _).mono ?_;rintro e w' ⟨rfl,hw⟩;have hw2:=hw.symm;clear hw;subst hw2)
   | (go_at_call 102;refine (l1Unquote_any s n _ hs hn).mono ?_;rintro e w1 ⟨rfl,hb⟩;rw [HU.out];unfold unqV;obtain ⟨hc,hf⟩:=bcell hb;have hz:w.heap.size+1≤w1.heap.size:=by (have:=hb.size;simp at this;omega)))
  have HBB:=hid hb
  refine bodyPost_ret (v:=.tuple #[.agg #[.int .i64 0,.string ⟨#[]⟩,.int .i64 0,.int .i64 0],.int .i64 0,.int .i64 4]) (by simp [results,Tryz.results80,go_sem,hc]) rfl ⟨by rw [HE.out];rfl,?_⟩
  exact below_set4 (Below.trans ((Below.refl w.heap.size w).alloc (Nat.le_refl _) _) (HBB.out.mono (B':=w.heap.size) (by simp)))
 | some x =>
  obtain ⟨o,q⟩:=x
  obtain ⟨hq1,hq2,h5,h4⟩:=HT.out.2 o q rfl
  by_cases hl:1000 < o.length
  ·have HE:=hid (oneV_bad (h5 hl) (by decide) n)
   clear HT h5 h4
   have hl':1000 < (o.length:Int):=by omega
   clear hl
   go_enter Tryz.func80,Tryz.ntmps80
   go_wp2_with (first
    | (go_at_call 73;refine (l1Digit_any _ _).mono ?_;rintro e w' ⟨rfl,hw⟩;have hw2:=hw.symm;clear hw;subst hw2)
    | (go_at_call 44;refine (l1Begins_any _ _).mono ?_;rintro e w' ⟨rfl,hw⟩;have hw2:=hw.symm;clear hw;subst hw2)
    | (go_at_call 102;refine (l1Unquote_any s n _ hs hn).mono ?_;rintro e w1 ⟨rfl,hb⟩;rw [HU.out];unfold unqV;obtain ⟨hc,hf⟩:=bcell hb;have hz:w.heap.size+1≤w1.heap.size:=by (have:=hb.size;simp at this;omega)))
   have HBB:=hid hb
   refine bodyPost_ret (v:=.tuple #[.agg #[.int .i64 0,.string ⟨#[]⟩,.int .i64 0,.int .i64 0],.int .i64 0,.int .i64 5]) (by simp [results,Tryz.results80,go_sem,hc]) rfl ⟨by rw [HE.out];rfl,?_⟩
   exact below_set4 (Below.trans ((Below.refl w.heap.size w).alloc (Nat.le_refl _) _) (HBB.out.mono (B':=w.heap.size) (by simp)))
  ·have HE:=hid (oneV_good (h4 (by omega)) n)
   clear HT h5 h4
   have hl':(o.length:Int)≤1000:=by omega
   have HQ:Hid ((n:Int)+((q - n:Nat):Int)=(q:Int)):=by show _=_;omega
   clear hl
   go_enter Tryz.func80,Tryz.ntmps80
   go_wp2_with (first
    | (go_at_call 73;refine (l1Digit_any _ _).mono ?_;rintro e w' ⟨rfl,hw⟩;have hw2:=hw.symm;clear hw;subst hw2)
    | (go_at_call 44;refine (l1Begins_any _ _).mono ?_;rintro e w' ⟨rfl,hw⟩;have hw2:=hw.symm;clear hw;subst hw2)
    | (go_at_call 102;refine (l1Unquote_any s n _ hs hn).mono ?_;rintro e w1 ⟨rfl,hb⟩;rw [HU.out];unfold unqV;obtain ⟨hc,hf⟩:=bcell hb;have hz:w.heap.size+1≤w1.heap.size:=by (have:=hb.size;simp at this;omega)))
   have HBB:=hid hb
   refine bodyPost_ret (v:=.tuple #[.agg #[.int .i64 4,.string ⟨o.toArray⟩,.int .i64 0,.int .i64 n],.int .i64 q,.int .i64 0]) (by simp [results,Tryz.results80,go_sem,hc]) rfl ⟨by rw [HE.out,HQ.out];rfl,?_⟩
   exact below_set4 (Below.trans ((Below.refl w.heap.size w).alloc (Nat.le_refl _) _) (HBB.out.mono (B':=w.heap.size) (by simp)))
set_option maxHeartbeats 1000000 in
theorem l1One_mark (s:ByteArray) (n:Nat) (w:World) (hs:s.size≤8000) (hn:n < s.size) (hd:dig (s[n].toNat:Int)=false) (hbg:beg (s[n].toNat:Int)=false) (hq:((s[n].toNat:Int) == 34)=false) :
  Calls Tryz.prog 80 #[.string s,.int .i64 n] w fun e w'=>e=.returned (oneV (markOne (s.data.toList.drop n)) n)∧Below w.heap.size w w':=by
 go_enter Tryz.func80,Tryz.ntmps80
 go_wp2_with (first
  | (go_at_call 73;refine (l1Digit_any _ _).mono ?_;rintro e w' ⟨rfl,hw⟩;have hw2:=hw.symm;clear hw;subst hw2)
  | (go_at_call 44;refine (l1Begins_any _ _).mono ?_;rintro e w' ⟨rfl,hw⟩;have hw2:=hw.symm;clear hw;subst hw2)
  | (go_at_call 103;refine (l1Marks_any _).mono ?_;rintro e w' ⟨rfl,rfl⟩))
 go_loop [13] (fun i=>∃ k:Nat,k≤23∧i=.int .i64 k∧∀ j,j < k→(marks.getD j []).isPrefixOf (s.data.toList.drop n)=false) (fun i=>23 - (intOf i).toNat)
 case atStart=>exact ⟨0,Nat.zero_le _,rfl,fun j h=>absurd h (Nat.not_lt_zero _)⟩
 case round =>
  obtain ⟨k,hk,rfl,hno⟩:=hrel
  have HNO:=hid hno
  clear hno
  by_cases hlt:k < 23
  ·have hcell:=markS_cell1 w (.cells #[.int .i64 0,.string ⟨#[]⟩,.int .i64 0,.int .i64 0] 130) k hlt
   have HM:=hid (mark_at s n k hn)
   by_cases hp:(marks.getD k []).isPrefixOf (s.data.toList.drop n)=true
   ·obtain ⟨hz,hz2,he⟩:=HM.out.1 hp
    have HE:=hid (oneV_good (mark_first _ k hlt hp HNO.out) n)
    clear HM hp
    go_wp2
    refine bodyPost_ret (v:=.tuple #[.agg #[.int .i64 5,.string (markS k),.int .i64 0,.int .i64 n],.int .i64 (n+(markS k).size),.int .i64 0]) (by simp [results,Tryz.results80,go_sem]) rfl ⟨by rw [HE.out,← markS_size];rfl,?_⟩
    exact ((Below.refl w.heap.size w).alloc (Nat.le_refl _) _).alloc (by simp) _
   ·have hp':(marks.getD k []).isPrefixOf (s.data.toList.drop n)=false:=Bool.eq_false_iff.2 hp
    have HN2:Hid (∀ j,j < k+1→(marks.getD j []).isPrefixOf (s.data.toList.drop n)=false):=fun j hj=>by
     rcases Nat.lt_or_eq_of_le (Nat.lt_succ_iff.1 hj) with h | h
     ·exact HNO.out j h
     ·subst h;exact hp'
    by_cases hz:((markS k).size:Int)≤(s.size:Int) - (n:Int)
    ·have hz2:(n:Int)+((markS k).size:Int)≤s.size:=by omega
     have he:=HM.out.2 hp' (by omega)
     clear HM hp hp'
     go_wp2
     go_round
     case rel=>exact ⟨k+1,by omega,by go_num,HN2.out⟩
     case measure=>simp [intOf];omega
    ·clear HM hp hp'
     go_wp2
     go_round
     case rel=>exact ⟨k+1,by omega,by go_num,HN2.out⟩
     case measure=>simp [intOf];omega
  ·have HE:=hid (oneV_bad (mark_none _ (fun j hj=>HNO.out j (by omega))) (by decide) n)
   go_wp2
   refine bodyPost_ret (v:=.tuple #[.agg #[.int .i64 0,.string ⟨#[]⟩,.int .i64 0,.int .i64 0],.int .i64 0,.int .i64 2]) (by simp [results,Tryz.results80,go_sem]) rfl ⟨by rw [HE.out];rfl,?_⟩
   exact ((Below.refl w.heap.size w).alloc (Nat.le_refl _) _).alloc (by simp) _
theorem l1One_any (s:ByteArray) (n:Nat) (w:World) (hs:s.size≤8000) (hn:n < s.size) :
  Calls Tryz.prog 80 #[.string s,.int .i64 n] w fun e w'=>e=.returned (oneV (one (s.data.toList.drop n)) n)∧Below w.heap.size w w':=by
 have hl:n < s.data.toList.length:=by rw [len_size];exact hn
 have hd:s.data.toList.drop n=s[n] :: s.data.toList.drop (n+1):=List.drop_eq_getElem_cons hl
 rw [hd]
 simp only [one]
 by_cases h1:s[n].toNat=34
 ·rw [if_pos h1]
  exact l1One_text s n w hs hn (by unfold dig;simp;omega) (by unfold beg;rw [Bool.eq_false_iff];simp;omega) (by rw [beq_iff_eq];omega)
 ·rw [if_neg h1]
  have h1':((s[n].toNat:Int) == 34)=false:=by rw [beq_eq_false_iff_ne];omega
  by_cases h2:digB s[n]=true
  ·rw [if_pos h2,← hd];exact l1One_num s n w hs hn h2
  ·rw [if_neg h2]
   have h2':dig (s[n].toNat:Int)=false:=by simpa [digB] using h2
   by_cases h3:letB s[n]=true
   ·rw [if_pos h3,← hd]
    have h3':beg (s[n].toNat:Int)=true:=by
     unfold letB let_ at h3;rw [h2'] at h3;simpa using h3
    exact l1One_name s n w hs hn h2' h3'
   ·rw [if_neg h3,← hd]
    have h3':beg (s[n].toNat:Int)=false:=by
     unfold letB let_ at h3;rw [h2'] at h3;simpa using h3
    exact l1One_mark s n w hs hn h2' h3' h1'
end Go.Proofs.YthnohneaanphbaaGreatDoor.K
namespace Go.Proofs.YthnohneaanphbaaGreatDoor
open Go.RowKit
theorem l2KidsOk_any (kind:Int) (b N cap g o m c:Nat) (nd:Nat→Nd) (ks:Nat→Nat) (w:World) (hm:m≤1000000) (hcm:m≤c) (hb:b < w.heap.size) (hg:g < w.heap.size) (hn:NodesAt w b N nd) (hk:PlacesAt w g o m N ks) :
  Calls Tryz.prog 49 #[.agg #[.slice (some ⟨b,0,none⟩) N cap],.int .i64 kind,.slice (some ⟨g,o,none⟩) m c] w fun e w'=>Says e (KidsOk kind m (fun i=>nd (ks i)))∧Below w.heap.size w w':=by
 by_cases h12:kind=12
 ·subst h12;exact KO_12 b N cap g o m c nd ks w hm hcm hb hg hn hk
 ·have h:KO kind:=by
   by_cases a:kind=1∨kind=6∨kind=16
   ·exact KO_A kind a
   ·by_cases b:kind=2∨kind=3∨kind=4∨kind=5∨kind=7∨kind=8
    ·exact KO_B kind b
    ·by_cases c:kind=10∨kind=11∨kind=13∨kind=14∨kind=17
     ·exact KO_C kind c
     ·by_cases d:kind=18∨kind=19∨kind=21∨kind=22
      ·exact KO_D kind d
      ·by_cases e9:kind=9
       ·subst e9;exact KO_9
       ·by_cases e15:kind=15
        ·subst e15;exact KO_15
        ·by_cases e20:kind=20
         ·subst e20;exact KO_20
         ·by_cases e23:kind=23
          ·subst e23;exact KO_23
          ·by_cases e24:kind=24
           ·subst e24;exact KO_24
           ·exact KO_E kind (by omega)
  exact h b N cap g o m c nd ks w hm hb hg hn hk
end Go.Proofs.YthnohneaanphbaaGreatDoor
namespace Go.Proofs.YthnohneaanphbaaGreatDoor
open Go.RowKit Go.Maps Go.WideMaps
set_option maxRecDepth 20000
theorem walk_inner (x:Bx) (hx:x.Ok) (k:Nat):k < x.N→(x.nd k).kind≤19→WalkOk x k:=by
 induction k using Nat.strongRecOn with
 | ind k ih =>
  intro hk h19 kn
  have:=walk_any x hx k hk (by omega) (fun j hj h=>ih j hj (by omega) h) kn
  have e:mksE x.nd x.o k kn=[]:=by unfold mksE;rw [if_neg (by omega),if_neg (by omega)]
  intro a bn p w h1 h2 h3
  have:=this a bn p w h1 h2 h3
  simp only [e,List.append_nil] at this
  exact this
theorem walk_st (x:Bx) (hx:x.Ok) (k:Nat) (hk:k < x.N) (h23:(x.nd k).kind≤23) (kn:Env):WalksTo x k (fun kn=>wk x.nd x.o k kn ++ mksE x.nd x.o k kn) kn :=
 walk_any x hx k hk h23 (fun j hj h=>walk_inner x hx j (by omega) h) kn
theorem kids_file {nd:Nat→Nd} {o:List (List Nat)} {k:Nat} (h:FitAt nd o k) (hk:(nd k).kind=24):(o.getD k []).length≤200∧∀ j ∈ o.getD k [],20≤(nd j).kind∧(nd j).kind≤23:=by
 obtain ⟨_,h⟩:=h
 have:(o.getD k []).length≤200∧∀ i,i < (o.getD k []).length→20≤(nd ((o.getD k []).getD i 0)).kind∧(nd ((o.getD k []).getD i 0)).kind≤23:=by
  rcases h with h | h | h | h | h | h | h | h | h | h | h | h
  all_goals first | omega | exact ⟨h.2.1,h.2.2⟩
 refine ⟨this.1,fun j hj=>?_⟩
 obtain ⟨i,hi,rfl⟩:=List.getElem_of_mem hj
 have h2:=this.2 i hi
 rw [List.getD_eq_getElem?_getD,List.getElem?_eq_getElem hi] at h2
 exact h2
def fileEnv (nd:Nat→Nd) (o:List (List Nat)) (ks:List Nat) (kn:Env):Env:=fun t=>(fileF nd (fun _=>none) (ks.flatMap (makersOf nd o)) t).getD (kn t)
set_option maxHeartbeats 2000000 in
theorem walk_root (x:Bx) (hx:x.Ok) (k:Nat) (hkN:k < x.N) (h24:(x.nd k).kind=24) (kn:Env) (a:Option Addr) (bn:Nat→Int) (p:Int × Int) (w:World) (h:x.At w bn p.1 p.2) (ht:Stb x.S w x.Tree) (hk:Kn x.S w (.pointer a) kn) :
  Calls Tryz.prog 36 #[.pointer (some ⟨x.bb,0,none⟩),.int .i64 k,.pointer a] w fun e w'=>e=.returned (.tuple #[]) ∧
   x.Ends w w' bn p ((x.o.getD k []).flatMap fun s=>wk x.nd x.o s (fileEnv x.nd x.o (x.o.getD k []) kn) ++ mksE x.nd x.o s (fileEnv x.nd x.o (x.o.getD k []) kn)):=by
 obtain ⟨evs,hev⟩:∃ evs,((x.o.getD k []).flatMap fun s=>wk x.nd x.o s (fileEnv x.nd x.o (x.o.getD k []) kn) ++ mksE x.nd x.o s (fileEnv x.nd x.o (x.o.getD k []) kn))=evs:=⟨_,rfl⟩
 rw [hev]
 have HEV:=hid hev
 have H24:=hid h24
 clear hev h24
 have hb1:∀ O,Below w.heap.size w (w.alloc O):=fun O=>(Below.refl _ _).alloc (Nat.le_refl _) O
 have hSn:¬ x.S w.heap.size:=fun e=>absurd (h.lt _ e) (Nat.lt_irrefl _)
 obtain ⟨f0,f1,f2,f3,f4,f5,f6⟩:=h.five
 have g0:∀ O,(w.alloc O).cell? ⟨x.bb,0,none⟩=_:=fun O=>(h.go (hb1 O)).five.1
 have g1:∀ O,(w.alloc O).cell? ⟨x.bb,1,none⟩=_:=fun O=>(h.go (hb1 O)).five.2.1
 obtain ⟨c0,c1,c2,c3,c4⟩:=ht.now.1 k hkN
 have d0:∀ O,(w.alloc O).cell? ⟨x.g,k * 5,none⟩=_:=fun O=>((ht _ (Sv.of_below (hb1 O))).1 k hkN).1
 have d1:∀ O,(w.alloc O).cell? ⟨x.g,k * 5+1,none⟩=_:=fun O=>((ht _ (Sv.of_below (hb1 O))).1 k hkN).2.1
 have d2:∀ O,(w.alloc O).cell? ⟨x.g,k * 5+2,none⟩=_:=fun O=>((ht _ (Sv.of_below (hb1 O))).1 k hkN).2.2.1
 have d3:∀ O,(w.alloc O).cell? ⟨x.g,k * 5+3,none⟩=_:=fun O=>((ht _ (Sv.of_below (hb1 O))).1 k hkN).2.2.2.1
 have d4:∀ O,(w.alloc O).cell? ⟨x.g,k * 5+4,none⟩=_:=fun O=>((ht _ (Sv.of_below (hb1 O))).1 k hkN).2.2.2.2
 obtain ⟨ad,c,hk1,hk2,hk3,hk4⟩:=Bx.kids hx ht k hkN
 obtain ⟨kl,hkl⟩:∃ kl,x.o.getD k []=kl:=⟨_,rfl⟩
 rw [hkl] at hk4 hk1 hk3
 have k0:=hk4.now.1
 have k1:∀ O,(w.alloc O).cell? ⟨x.gk,k,none⟩=_:=fun O=>(hk4 _ (Sv.of_below (hb1 O))).1
 have HX:=hid hx
 have HSn:=hid hSn
 have HB1:=hid hb1
 have HA:=hid h
 have HKL:=hid hkl
 have HK4:=hid hk4
 have HK3:=hid hk3
 have HT:=hid ht
 have HK:=hid hk
 have hN5:=hx.N
 clear h hx ht hk hk4 hkl hk3 hb1 hSn
 go_enter Tryz.func36,Tryz.ntmps36
 go_wp2
 go_region
 have HN2:Hid (NodeAt (w.alloc (.cells #[.int .i64 (x.nd k).kind,.int .i64 (x.nd k).op,.int .i64 (x.nd k).n,.string (x.nd k).text,.int .i64 (x.nd k).kids] 35)).drew w.heap.size (x.nd k)):=heap_alloc_new w _
 have HS2:Hid (Sv x.S w (w.alloc (.cells #[.int .i64 (x.nd k).kind,.int .i64 (x.nd k).op,.int .i64 (x.nd k).n,.string (x.nd k).text,.int .i64 (x.nd k).kids] 35)).drew):=Sv.drew (w:=w.alloc (.cells #[.int .i64 (x.nd k).kind,.int .i64 (x.nd k).op,.int .i64 (x.nd k).n,.string (x.nd k).text,.int .i64 (x.nd k).kids] 35)) (Sv.of_below (HB1.out _))
 have HA2:Hid (x.At (w.alloc (.cells #[.int .i64 (x.nd k).kind,.int .i64 (x.nd k).op,.int .i64 (x.nd k).n,.string (x.nd k).text,.int .i64 (x.nd k).kids] 35)).drew bn p.1 p.2):=HA.out.go (HB1.out _).drew
 clear g0 g1 d0 d1 d2 d3 d4 k0 k1 c0 c1 c2 c3 c4 f0 f1 f2 f3 f4 f5 f6 HB1 HA
 generalize (w.alloc (.cells #[.int .i64 (x.nd k).kind,.int .i64 (x.nd k).op,.int .i64 (x.nd k).n,.string (x.nd k).text,.int .i64 (x.nd k).kids] 35)).drew=w2 at *
 have HT2:=hid (HT.out.go HS2.out)
 have HK2:=hid (HK.out.go HS2.out)
 obtain ⟨n0,n1,n2,n3,n4,_,_,_,_,_⟩:=HN2.out.cells
 obtain ⟨f0,f1,f2,f3,f4,f5,f6⟩:=HA2.out.five
 obtain ⟨hl200,hst⟩:=kids_file (HX.out.fit k hkN) H24.out
 have hpl:=HX.out.place k
 rw [HKL.out] at hl200 hst hpl HEV
 have HST:=hid hst
 have HPL:=hid hpl
 clear hst hpl
 rw [H24.out] at n0
 go_wp2_with (first
  | (go_at_call 69;refine (file_anyC x HX.out kl HPL.out (by omega) kn ad c a bn p w2 (fun W hW=>(HK4.out W (HS2.out.trans hW)).2) HA2.out HT2.out HK2.out).mono ?_;rintro e w4 ⟨b4,rfl,hkk,hb4⟩;have HKF:=hid hkk;have HB4:=hid hb4;clear hkk hb4)
  | (go_at_call 65;refine (walkAll_of x kl _ (fun j kn=>wk x.nd x.o j kn ++ mksE x.nd x.o j kn) (fun j hj=>walk_st x HX.out j (HPL.out j hj) (HST.out j hj).2 _) ad c (some ⟨b4,0,none⟩) bn p w4 (by omega) (fun W hW=>(HK4.out W (HS2.out.trans ((Sv.of_below HB4.out).trans hW))).2) (HA2.out.go HB4.out) (HT2.out.go (Sv.of_below HB4.out)) HKF.out).mono ?_;rintro e w5 ⟨rfl,hen5⟩;have HE5:=hid hen5;clear hen5))
 go_end0
 rw [← HEV.out]
 exact ⟨rfl,ends_join (e1:=[]) (HS2.out.trans (Sv.of_below HB4.out)) (fun _=>rfl) HE5.out⟩
end Go.Proofs.YthnohneaanphbaaGreatDoor
namespace Go.Proofs.YthnohneaanphbaaGreatDoor
open Go.RowKit
set_option maxRecDepth 20000
theorem Mx.Ends.congr {x:Mx} {w w':World} {F:Nat × Nat→Prop} {bn:Nat→Int} {e e':List Ev} (h:x.Ends w w' F bn e) (h1:∀ y,y ∈ fls e ↔ y ∈ fls e') (h2:fls e'=[]→apB bn e=apB bn e'):x.Ends w w' F bn e':=by
 obtain ⟨s,cf,b,a,k,n⟩:=h
 refine ⟨s,cf,b,a,k.congr fun y=>by rw [h1],fun hq=>?_⟩
 have:fls e=[]:=List.eq_nil_iff_forall_not_mem.2 fun y hy=>by rw [h1,hq] at hy;cases hy
 rw [n this,h2 hq]
def dupB (nd:Nat→Nd) (l:List Nat) (t:ByteArray):Bool:=l.any fun q=>decide ((nd q).text=t)
theorem dupB_snoc (nd:Nat→Nd) (l:List Nat) (q:Nat) (t:ByteArray):dupB nd (l ++ [q]) t=(dupB nd l t || decide ((nd q).text=t)):=by simp [dupB]
theorem inL_names (nd:Nat→Nd) (l:List Nat) (t:ByteArray):inL t (l.map fun q=>(nd q).text).reverse=dupB nd l t:=by
 simp [inL,dupB,List.any_map,Function.comp_def]
def flt8 (b:Bool) (y c:Nat):List Ev:=if b=true then [.flt y c] else []
theorem Mx.Ends.twice {x:Mx} {w w':World} {F:Nat × Nat→Prop} {bn:Nat→Int} {es:List Ev} {b:Bool} {y c:Nat} (h:x.Ends w w' F bn ((es ++ flt8 b y c) ++ [.flt y c])):x.Ends w w' F bn (es ++ flt8 true y c):=by
 refine h.congr (fun z=>?_) (fun hq=>?_)
 ·cases b <;> simp [flt8,fls_append,fls]
 ·simp [flt8,fls_append,fls] at hq
theorem Mx.Ends.turn {x:Mx} {w w':World} {F:Nat × Nat→Prop} {bn:Nat→Int} {es kw:List Ev} {b b':Bool} {y:Nat} (h:x.Ends w w' F bn (((es ++ flt8 b y 8) ++ flt8 b' y 10) ++ kw)):x.Ends w w' F bn (es ++ (kw ++ (flt8 b y 8 ++ flt8 b' y 10))):=by
 refine h.congr (fun z=>?_) (fun hq=>?_)
 ·simp only [fls_append,List.mem_append]
  constructor
  ·rintro (((h | h) | h) | h)
   ·exact .inl h
   ·exact .inr (.inr (.inl h))
   ·exact .inr (.inr (.inr h))
   ·exact .inr (.inl h)
  ·rintro (h | h | h | h)
   ·exact .inl (.inl (.inl h))
   ·exact .inr h
   ·exact .inl (.inl (.inr h))
   ·exact .inl (.inr h)
 ·cases b <;> cases b' <;> simp [flt8,fls_append,fls] at hq ⊢
theorem fault_more {x:Mx} (hx:x.Ok) (k:Nat) (code:Int) (hc:0 < code) {w wr:World} {F:Nat × Nat→Prop} {cf:Nat→Nat} {bn bn1:Nat→Int} {es:List Ev} (hkN:k < x.N) (hs:Sv x.S w wr) (ha:x.At wr cf bn1) (ht:x.Tree wr) (hok:CodesOk cf (fun y=>F y∨y ∈ fls es)) (hn:fls es=[]→bn1=apB bn es) :
  Calls Tryz.prog 51 #[.pointer (some ⟨x.wb,0,none⟩),.int .i64 k,.int .i64 code] wr fun e w'=>e=.returned (.tuple #[])∧x.Ends w w' F bn (es ++ [.flt k code.toNat])∧Sv x.S wr w':=by
 obtain ⟨c,rfl⟩:=Int.eq_ofNat_of_zero_le (Int.le_of_lt hc)
 refine (fault_any x hx k c (by omega) _ cf bn1 wr hkN ha ht hok).mono ?_
 rintro e w' ⟨rfl,h⟩
 exact ⟨rfl,mends_join hs hn h,h.1⟩
theorem Mx.Ends.grown {x:Mx} {w W W':World} {F:Nat × Nat→Prop} {bn:Nat→Int} {e:List Ev} {gi:Nat} {o:Obj} (h:x.Ends w W F bn e) (hg:(W.alloc o).grownBy W' (some gi)) (hgi:w.heap.size≤gi) (hS:¬ x.S gi):x.Ends w W' F bn e:=by
 obtain ⟨s,cf,b,a,k,n⟩:=h
 refine ⟨(s.alloc o).grown hg (fun q e=>by injection e with e;subst e;exact .inr hgi),cf,b,?_,k,n⟩
 have a1:=a.go ((Below.refl _ _).alloc (Nat.le_refl _) o)
 have hl:=a1.lt
 obtain ⟨⟨c1,h1,h3⟩,c2,h2,h4⟩:=a1
 exact ⟨⟨c1,(hg.block _ (hl _ (.inl rfl)) (fun e=>hS (by injection e with e;exact .inl e.symm))).trans h1,h3⟩,c2,(hg.block _ (hl _ (.inr rfl)) (fun e=>hS (by injection e with e;exact .inr e.symm))).trans h2,h4⟩
theorem prm_round {nd:Nat→Nd} {o:List (List Nat)} {W:Env→Nat→List Ev} {ps:List Nat} {q y:Nat} {es T:List Ev} {kn:Env} {ns:List ByteArray} {d:Bool} (h:es ++ (prm nd o W (ps.drop q) kn ns d).1=T) (hy:ps[q]?=some y) :
  (es ++ ((o.getD y []).flatMap (W kn) ++ (flt8 (inL (nd y).text ns) y 8 ++ flt8 (d && (o.getD y []).isEmpty) y 10))) ++ (prm nd o W (ps.drop (q+1)) (kn.ext (nd y).text y) ((nd y).text :: ns) (d || !(o.getD y []).isEmpty)).1=T:=by
 rw [prm_drop _ _ _ hy] at h
 rw [← h]
 have e:(if d=true∧o.getD y []=[] then [Ev.flt y 10] else [])=flt8 (d && (o.getD y []).isEmpty) y 10:=by
  unfold flt8
  cases d <;> simp
 rw [e]
 simp only [List.append_assoc]
 rfl
theorem cell_two_new (w:World) (a b:Value) (t:TypeId):∀ j u,[a,b][j]?=some u→(w.alloc (.cells #[a,b] t)).cell? ((⟨w.heap.size,0,none⟩:Addr).add j)=some u:=by
 intro j u hj
 have e1:((⟨w.heap.size,0,none⟩:Addr).add j)=⟨w.heap.size,j,none⟩:=by unfold Addr.add;simp;intro h;exact h.symm
 rw [e1,cell_new_row,← hj];simp
set_option maxHeartbeats 4000000 in
theorem function_m (x:Mx) (hx:x.Ok) (k:Nat) (ps:List Nat) (l:Nat) (L:List (ByteArray × Nat)) (hw:∀ q ∈ ps,∀ j ∈ x.o.getD q [],j < k∧GoOk x j) (hlk:l < k) (hlast:GoOk x l) (hpN:∀ q ∈ ps,q < x.N) (h8:ps.length≤8) (hone:∀ q ∈ ps,(x.o.getD q []).length≤1)
  (g' cp g c:Nat) (F:Nat × Nat→Prop) (cf:Nat→Nat) (bn:Nat→Int) (w:World) (hcp:ps.length+1≤cp) (hb:L.length+10 * k≤2000000) (hp:Stb x.S w fun W=>∀ i,i < ps.length+1→W.cell? ⟨g',i,none⟩=some (.int .i64 ((ps ++ [l]).getD i 0:Nat))) (h:x.At w cf bn) (ht:Stb x.S w x.Tree) (hok:CodesOk cf F) (hk:KnR w g c L) (hSg:¬ x.S g) :
  Calls Tryz.prog 78 #[.pointer (some ⟨x.wb,0,none⟩),.slice (some ⟨g',0,none⟩) (ps.length+1) cp,.slice (some ⟨g,0,none⟩) L.length c] w fun e w'=>e=.returned (.tuple #[]) ∧
   x.Ends w w' F bn ((prm x.nd x.o (fun kn j=>wk x.nd x.o j kn) ps (envL L) [] false).1 ++ wk x.nd x.o l (prm x.nd x.o (fun kn j=>wk x.nd x.o j kn) ps (envL L) [] false).2):=by
 have HX:=hid hx
 have HW:=hid hw
 have HL:=hid hlast
 have HPN:=hid hpN
 have HONE:=hid hone
 have HP:=hid hp
 have H:=hid h
 have HT:=hid ht
 have HOK:=hid hok
 have HK:=hid hk
 have HSg:=hid hSg
 clear hx hw hlast hpN hone hp h ht hok hk hSg
 obtain ⟨m,hm⟩:∃ m,ps.length=m:=⟨_,rfl⟩
 have HM:=hid hm
 rw [hm] at h8 hcp HP ⊢
 obtain ⟨nL,hnL⟩:∃ nL,L.length=nL:=⟨_,rfl⟩
 have HNL:=hid hnL
 rw [hnL] at hb ⊢
 clear hm hnL
 obtain ⟨i0,hi,hz0,hz1,hz2⟩:=info_parts info_kn
 have HHI:=hid (And.intro hi (And.intro hz0 (And.intro hz1 hz2)))
 clear hi hz0 hz1 hz2
 have OWN1:=hid (World.ownsRow_made (base:=w.heap.size) (e:=86) (size:=2) w #[] 0 (Nat.le_refl _) (by unfold maxLen;omega) rfl)
 have HC1:Hid (∀ j u,(knRow L)[j]?=some u→(w.alloc (.cells #[] 86)).cell? ((⟨g,0,none⟩:Addr).add j)=some u):=(HK.out.keep (Below.heap_alloc w _ g HK.out.lt)).cells
 go_enter Tryz.func78,Tryz.ntmps78
 go_wp2_with (first
  | (at_builtin;refine wpList_append_own_at _ rfl _ _ 83 rfl w.heap.size 86 i0 (.agg #[.string ⟨#[]⟩,.int .i64 0]) 2 24 Tryz.underlying83 HHI.out.1 HHI.out.2.1 HHI.out.2.2.1 HHI.out.2.2.2 rfl (by decide) _ _ _ rfl OWN1.out ⟨g,0,none⟩ nL c (knRow L) rfl (by rw [knRow_length,HNL.out]) HC1.out (knRow_one L) (by unfold maxLen;omega) (by omega) (by simp) ?_;intro v1 w1 o1 g1 nn1 b1;rw [Nat.zero_add,List.nil_append] at o1;have hnn1:=some_not_nil nn1;clear nn1;obtain ⟨g1',c1',rfl,hbg,hkr⟩:=KnR.of_own o1 HNL.out hnn1;have HKR:=hid hkr;have HG1:=hid g1;clear o1 g1 hnn1 b1 hkr))
 have HSL:=hid H.out.lt
 have HB1:Hid (Below w.heap.size w w1):=((Below.refl _ _).alloc (Nat.le_refl _) _).grown HG1.out (by simp) (fun q e=>by cases e;exact Nat.le_refl _)
 clear HG1
 go_loopw [6,7,8] (fun vin dv i wr=>∃ (j:Nat) (d:Bool) (Lj:List (ByteArray × Nat)) (gi ci:Nat) (es:List Ev),j≤m∧i=.int .i64 j∧dv=.bool d∧vin=.slice (some ⟨gi,0,none⟩) (nL+j) ci∧Lj.length=nL+j∧KnR wr gi ci Lj∧w.heap.size≤gi∧x.Ends w wr F bn es ∧
   es ++ (prm x.nd x.o (fun kn j=>wk x.nd x.o j kn) (ps.drop j) (envL Lj) ((ps.take j).map fun q=>(x.nd q).text).reverse d).1=(prm x.nd x.o (fun kn j=>wk x.nd x.o j kn) ps (envL L) [] false).1∧(prm x.nd x.o (fun kn j=>wk x.nd x.o j kn) (ps.drop j) (envL Lj) ((ps.take j).map fun q=>(x.nd q).text).reverse d).2=(prm x.nd x.o (fun kn j=>wk x.nd x.o j kn) ps (envL L) [] false).2) (fun _ _ i _=>m - (intOf i).toNat)
 case atStart=>exact ⟨0,false,L,g1',c1',[],Nat.zero_le _,rfl,rfl,rfl,HNL.out,HKR.out,hbg,⟨Sv.of_below HB1.out,cf,bn,H.out.go HB1.out,HOK.out.congr (fun y=>by simp [fls]),fun _=>rfl⟩,rfl,rfl⟩
 case round =>
  obtain ⟨j,d,Lj,gi,ci,es,hj,rfl,rfl,rfl,hlj,hkr,hgi,hen,hes,hkn⟩:=hrel
  clear HKR
  have HKR:=hid hkr
  have HLJ:=hid hlj
  have HES:=hid hes
  have HKN:=hid hkn
  obtain ⟨hsc,cfc,bnc,hac,hoc,hnc⟩:=hen
  have HSC:=hid hsc
  have HAC:=hid hac
  have HOC:=hid hoc
  have HNC:=hid hnc
  have HSgi:Hid (¬ x.S gi):=fun h=>by have:=HSL.out gi h;omega
  clear hkr hlj hes hkn hsc hac hoc hnc
  by_cases hlt:j < m
  ·obtain ⟨y,hy⟩:∃ y,ps[j]?=some y:=⟨_,List.getElem?_eq_getElem (by have:=HM.out;omega)⟩
   have HY:=hid hy
   have HYM:=hid (List.mem_of_getElem? hy)
   have hyN:=HPN.out y HYM.out
   have hN5:=HX.out.N
   have c0:=HP.out _ HSC.out j (by omega)
   rw [List.getD_eq_getElem?_getD,List.getElem?_append_left (by have:=HM.out;omega),hy] at c0
   simp only [Option.getD_some] at c0
   clear hy
   go_wp2
   clear c0
   obtain ⟨wo,hwo⟩:∃ wo,wo=wr:=⟨_,rfl⟩
   subst hwo
   go_loopw [10] (fun i wq=>∃ (q:Nat),q≤j∧i=.int .i64 q∧Sv x.S wo wq∧x.Ends w wq F bn (es ++ flt8 (dupB x.nd (ps.take q) (x.nd y).text) y 8)) (fun i _=>j - (intOf i).toNat)
   case atStart =>
    refine ⟨0,Nat.zero_le _,rfl,Sv.refl _ _,?_⟩
    have:es ++ flt8 (dupB x.nd (ps.take 0) (x.nd y).text) y 8=es:=by simp [flt8,dupB]
    rw [this]
    exact ⟨HSC.out,cfc,bnc,HAC.out,HOC.out,HNC.out⟩
   case round =>
    obtain ⟨q,hq,rfl,hsr,hen⟩:=hrel
    have HSR:=hid hsr
    clear HSC HAC HOC HNC hsr
    obtain ⟨hsc,cfc,bnc,hac,hoc,hnc⟩:=hen
    have HSC:=hid hsc
    have HAC:=hid hac
    have HOC:=hid hoc
    have HNC:=hid hnc
    clear hsc hac hoc hnc
    obtain ⟨f0,f1,f2,f3⟩:=(HT.out _ HSC.out).four
    by_cases hqj:q < j
    ·obtain ⟨z,hz⟩:∃ z,ps[q]?=some z:=⟨_,List.getElem?_eq_getElem (by have:=HM.out;omega)⟩
     have hzN:=HPN.out z (List.mem_of_getElem? hz)
     have c0:=HP.out _ HSC.out q (by omega)
     rw [List.getD_eq_getElem?_getD,List.getElem?_append_left (by have:=HM.out;omega),hz] at c0
     simp only [Option.getD_some] at c0
     have HTQ:Hid (ps.take (q+1)=ps.take q ++ [z]):=by
      show _=_
      rw [List.take_succ_eq_append_getElem (by have:=HM.out;omega),(List.getElem?_eq_some_iff.1 hz).2]
     clear hz
     obtain ⟨_,_,_,z3,_⟩:=(HT.out _ HSC.out).2.1 z hzN
     obtain ⟨_,_,_,y3,_⟩:=(HT.out _ HSC.out).2.1 y hyN
     cases he:((x.nd z).text.toList == (x.nd y).text.toList)
     ·have HNE:Hid (¬ (x.nd z).text=(x.nd y).text):=fun h=>by rw [h] at he;simp at he
      have HNX:Hid (x.Ends w wr.drew F bn (es ++ flt8 (dupB x.nd (ps.take (q+1)) (x.nd y).text) y 8)):=by
       rw [HTQ.out,dupB_snoc]
       have e:decide ((x.nd z).text=(x.nd y).text)=false:=by simp [HNE.out]
       rw [e,Bool.or_false]
       exact ⟨HSC.out.drew,cfc,bnc,HAC.out,HOC.out,HNC.out⟩
      have HSR2:=hid HSR.out.drew
      go_wp2
      go_region
      go_wp2
      go_roundw
      case rel=>exact ⟨q+1,by omega,by go_num,HSR2.out,HNX.out⟩
      case measure=>simp [intOf];omega
     ·have HEQ:Hid ((x.nd z).text=(x.nd y).text):=bytes_eq he
      go_wp2
      go_region
      have HSC2:=hid HSC.out.drew
      have HSR2:=hid HSR.out.drew
      have HAC2:Hid (x.At wr.drew cfc bnc):=HAC.out
      clear f0 f1 f2 f3 z3 y3 c0 HSC HSR HAC
      generalize wr.drew=w2 at *
      go_wp2_with (first
       | (go_at_call 51;refine (fault_more HX.out y _ (by decide) hyN HSC2.out HAC2.out (HT.out _ HSC2.out) HOC.out HNC.out).mono ?_;rintro e w4 ⟨rfl,hen,hsv⟩;have HEN:=hid hen.twice;have HSR:=hid (HSR2.out.trans hsv);clear hen hsv))
      have HNX:Hid (x.Ends w w4 F bn (es ++ flt8 (dupB x.nd (ps.take (q+1)) (x.nd y).text) y 8)):=by
       rw [HTQ.out,dupB_snoc]
       have e:decide ((x.nd z).text=(x.nd y).text)=true:=by simp [HEQ.out]
       rw [e,Bool.or_true]
       exact HEN.out
      go_roundw
      case rel=>exact ⟨q+1,by omega,by go_num,HSR.out,HNX.out⟩
      case measure=>simp [intOf];omega
    ·obtain rfl:q=j:=by omega
     obtain ⟨kl,hkl⟩:∃ kl,x.o.getD y []=kl:=⟨_,rfl⟩
     have HKL:=hid hkl
     obtain ⟨ad,c',hk1,hk2,hk3,hk4⟩:=Mx.kids HX.out HT.out y hyN
     rw [hkl] at hk4 hk1 hk3
     have HK4:=hid hk4
     have k0:=(hk4 _ HSC.out).1
     have hone:=HONE.out y HYM.out
     rw [hkl] at hone
     obtain ⟨y0,y1,y2,y3,y4⟩:=(HT.out _ HSC.out).2.1 y hyN
     have HWY:=hid (HW.out y HYM.out)
     rw [hkl] at HWY
     have HKO:Hid (∀ W,Sv x.S wo W→W.ownsRow w.heap.size 86 2 (.slice (some ⟨gi,0,none⟩) (nL+q) ci) (nL+q) (knRow Lj)):=fun W hW=>by
      have:=(HKR.out.keep (hW.block gi HKR.out.lt HSgi.out)).own hgi
      rw [HLJ.out] at this
      exact this
     have HDUP:Hid (inL (x.nd y).text ((ps.take q).map fun q=>(x.nd q).text).reverse=dupB x.nd (ps.take q) (x.nd y).text):=inL_names _ _ _
     have HTQ:Hid (((ps.take (q+1)).map fun q=>(x.nd q).text).reverse=(x.nd y).text :: ((ps.take q).map fun q=>(x.nd q).text).reverse):=by
      show _=_
      rw [List.take_succ_eq_append_getElem (by have:=HM.out;omega),(List.getElem?_eq_some_iff.1 HY.out).2]
      simp
     clear hk4 hkl
     match kl,hone with
     | [],_ =>
      simp only [List.length_nil] at k0
      cases hdd:d
      ·go_wp2_with (first
        | (at_builtin;refine wpList_append_own_at _ rfl (.tmp 91) (.tmp 103) 83 rfl w.heap.size 86 i0 (.agg #[.string ⟨#[]⟩,.int .i64 0]) 2 24 Tryz.underlying83 HHI.out.1 HHI.out.2.1 HHI.out.2.2.1 HHI.out.2.2.2 rfl (by decide) (.slice (some ⟨gi,0,none⟩) (nL+q) ci) _ _ rfl (HKO.out _ (HSR.out.alloc _)) ⟨_,0,none⟩ 1 1 [.string (x.nd y).text,.int .i64 y] rfl rfl (cell_two_new _ _ _ _) (by simp [Value.oneCell']) (by unfold maxLen;omega) (by omega) (by have:=HSC.out.size;simp;omega) ?_;intro v5 w5 o5 g5 nn5 b5;have O5:=hid o5;have G5:=hid g5;have NN5:=hid nn5;clear o5 g5 nn5 b5))
       obtain ⟨g6,c6,rfl,hb6,hk6⟩:=KnR.of_own (L:=Lj ++ [((x.nd y).text,y)]) (by rw [knRow_append];exact O5.out) (by rw [List.length_append,HLJ.out];rfl) (some_not_nil NN5.out)
       have HK6:=hid hk6
       have HEX:Hid (x.Ends w w5 F bn (es ++ ((x.o.getD y []).flatMap (fun j=>wk x.nd x.o j (envL Lj)) ++ (flt8 (inL (x.nd y).text ((ps.take q).map fun q=>(x.nd q).text).reverse) y 8 ++ flt8 (false && (x.o.getD y []).isEmpty) y 10)))):=by
        rw [HDUP.out,HKL.out]
        refine Mx.Ends.grown (gi:=gi) (Mx.Ends.turn ?_) G5.out hgi HSgi.out
        rw [show flt8 (false && ([]:List Nat).isEmpty) y 10=[] from rfl,List.append_nil,List.flatMap_nil,List.append_nil]
        exact ⟨HSC.out,cfc,bnc,HAC.out,HOC.out,HNC.out⟩
       have HE6:Hid (envL (Lj ++ [((x.nd y).text,y)])=(envL Lj).ext (x.nd y).text y):=envL_snoc _ _
       have HRD:=hid (prm_round HES.out HY.out)
       have HRK:=hid HKN.out
       rw [prm_drop _ _ _ HY.out] at HRK
       rw [hdd,HKL.out] at HRD HRK
       clear O5 G5 NN5 hk6 f0 f1 f2 f3 y0 y1 y2 y3 y4 HES HKN
       go_wp2
       go_roundw
       case rel =>
        refine ⟨q+1,false,Lj ++ [((x.nd y).text,y)],g6,c6,_,by omega,by go_num,rfl,rfl,by rw [List.length_append,HLJ.out];rfl,HK6.out,hb6,HEX.out,?_,?_⟩
        ·rw [HE6.out,HTQ.out,HKL.out]
         exact HRD.out
        ·rw [HE6.out,HTQ.out]
         exact HRK.out
       case measure=>simp [intOf];omega
      ·go_wp2_with (first
        | (go_at_call 51;refine (fault_more HX.out y _ (by decide) hyN HSC.out HAC.out (HT.out _ HSC.out) HOC.out HNC.out).mono ?_;rintro e w4 ⟨rfl,hen,hsv⟩;have HEN:=hid hen;have HSR:=hid (HSR.out.trans hsv);clear hen hsv HSC HAC HNC HOC f0 f1 f2 f3 k0;obtain ⟨hsc,cfc,bnc,hac,hoc,hnc⟩:=HEN.out;have HSC:=hid hsc;have HAC:=hid hac;have HOC:=hid hoc;have HNC:=hid hnc;clear hsc hac hoc hnc HEN y0 y1 y2 y3 y4;obtain ⟨f0,f1,f2,f3⟩:=(HT.out _ HSC.out).four;have k0:=(HK4.out _ HSC.out).1;obtain ⟨y0,y1,y2,y3,y4⟩:=(HT.out _ HSC.out).2.1 y hyN)
        | (at_builtin;refine wpList_append_own_at _ rfl (.tmp 91) (.tmp 103) 83 rfl w.heap.size 86 i0 (.agg #[.string ⟨#[]⟩,.int .i64 0]) 2 24 Tryz.underlying83 HHI.out.1 HHI.out.2.1 HHI.out.2.2.1 HHI.out.2.2.2 rfl (by decide) (.slice (some ⟨gi,0,none⟩) (nL+q) ci) _ _ rfl (HKO.out _ (HSR.out.alloc _)) ⟨_,0,none⟩ 1 1 [.string (x.nd y).text,.int .i64 y] rfl rfl (cell_two_new _ _ _ _) (by simp [Value.oneCell']) (by unfold maxLen;omega) (by omega) (by have:=HSC.out.size;simp;omega) ?_;intro v5 w5 o5 g5 nn5 b5;have O5:=hid o5;have G5:=hid g5;have NN5:=hid nn5;clear o5 g5 nn5 b5))
       obtain ⟨g6,c6,rfl,hb6,hk6⟩:=KnR.of_own (L:=Lj ++ [((x.nd y).text,y)]) (by rw [knRow_append];exact O5.out) (by rw [List.length_append,HLJ.out];rfl) (some_not_nil NN5.out)
       have HK6:=hid hk6
       have HEX:Hid (x.Ends w w5 F bn (es ++ ((x.o.getD y []).flatMap (fun j=>wk x.nd x.o j (envL Lj)) ++ (flt8 (inL (x.nd y).text ((ps.take q).map fun q=>(x.nd q).text).reverse) y 8 ++ flt8 (true && (x.o.getD y []).isEmpty) y 10)))):=by
        rw [HDUP.out,HKL.out]
        refine Mx.Ends.grown (gi:=gi) (Mx.Ends.turn ?_) G5.out hgi HSgi.out
        rw [show flt8 (true && ([]:List Nat).isEmpty) y 10=[.flt y 10] from rfl,List.flatMap_nil,List.append_nil]
        exact ⟨HSC.out,cfc,bnc,HAC.out,HOC.out,HNC.out⟩
       have HE6:Hid (envL (Lj ++ [((x.nd y).text,y)])=(envL Lj).ext (x.nd y).text y):=envL_snoc _ _
       have HRD:=hid (prm_round HES.out HY.out)
       have HRK:=hid HKN.out
       rw [prm_drop _ _ _ HY.out] at HRK
       rw [hdd,HKL.out] at HRD HRK
       clear O5 G5 NN5 hk6 f0 f1 f2 f3 y0 y1 y2 y3 y4 HES HKN
       go_wp2
       go_roundw
       case rel =>
        refine ⟨q+1,true,Lj ++ [((x.nd y).text,y)],g6,c6,_,by omega,by go_num,rfl,rfl,by rw [List.length_append,HLJ.out];rfl,HK6.out,hb6,HEX.out,?_,?_⟩
        ·rw [HE6.out,HTQ.out,HKL.out]
         exact HRD.out
        ·rw [HE6.out,HTQ.out]
         exact HRK.out
       case measure=>simp [intOf];omega
     | [z],_ =>
      rcases hk3 with e | ⟨gg,rfl⟩
      ·cases e
      have z0:wr.cell? ⟨gg,0,none⟩=some (.int .i64 (z:Nat)):=by
       rcases (HK4.out _ HSC.out).2 with e | ⟨g'',q',e,hc⟩
       ·cases e
       ·cases e;exact hc 0 (by simp)
      have hzk:=(HWY.out z (by simp)).1
      have HZ:=hid (HWY.out z (by simp)).2
      have hbz:Lj.length+10 * z≤2000000:=by rw [HLJ.out];omega
      have HZ2:Hid (∀ (F:Nat × Nat→Prop) (cf:Nat→Nat) (bn:Nat→Int) (w:World),x.At w cf bn→Stb x.S w x.Tree→CodesOk cf F→KnR w gi ci Lj →
        Calls Tryz.prog 52 #[.pointer (some ⟨x.wb,0,none⟩),.int .i64 z,.slice (some ⟨gi,0,none⟩) (nL+q) ci] w fun e w'=>e=.returned (.tuple #[])∧x.Ends w w' F bn (wk x.nd x.o z (envL Lj))):=fun F cf bn w h1 h2 h3 h4=>by
       have:=HZ.out Lj gi ci F cf bn w hbz h1 h2 h3 h4 HSgi.out
       rw [HLJ.out] at this
       exact this
      clear hbz HZ
      simp only [List.length_cons,List.length_nil] at k0 hk1
      cases hdd:d
      ·go_wp2_with (first
        | (go_at_call 52;refine (HZ2.out _ cfc bnc _ HAC.out (HT.out.go HSC.out) HOC.out (HKR.out.keep (HSR.out.block gi HKR.out.lt HSgi.out))).mono ?_;rintro e w4 ⟨rfl,hen0⟩;have HEN:=hid (mends_join HSC.out HNC.out hen0);have HSR:=hid (HSR.out.trans hen0.1);clear hen0 HSC HAC HNC HOC f0 f1 f2 f3 k0 y0 y1 y2 y3 y4;obtain ⟨hsc,cfc,bnc,hac,hoc,hnc⟩:=HEN.out;have HSC:=hid hsc;have HAC:=hid hac;have HOC:=hid hoc;have HNC:=hid hnc;clear hsc hac hoc hnc HEN;obtain ⟨f0,f1,f2,f3⟩:=(HT.out _ HSC.out).four;obtain ⟨y0,y1,y2,y3,y4⟩:=(HT.out _ HSC.out).2.1 y hyN)
        | (at_builtin;refine wpList_append_own_at _ rfl (.tmp 91) (.tmp 103) 83 rfl w.heap.size 86 i0 (.agg #[.string ⟨#[]⟩,.int .i64 0]) 2 24 Tryz.underlying83 HHI.out.1 HHI.out.2.1 HHI.out.2.2.1 HHI.out.2.2.2 rfl (by decide) (.slice (some ⟨gi,0,none⟩) (nL+q) ci) _ _ rfl (HKO.out _ (HSR.out.alloc _)) ⟨_,0,none⟩ 1 1 [.string (x.nd y).text,.int .i64 y] rfl rfl (cell_two_new _ _ _ _) (by simp [Value.oneCell']) (by unfold maxLen;omega) (by omega) (by have:=HSC.out.size;simp;omega) ?_;intro v5 w5 o5 g5 nn5 b5;have O5:=hid o5;have G5:=hid g5;have NN5:=hid nn5;clear o5 g5 nn5 b5))
       obtain ⟨g6,c6,rfl,hb6,hk6⟩:=KnR.of_own (L:=Lj ++ [((x.nd y).text,y)]) (by rw [knRow_append];exact O5.out) (by rw [List.length_append,HLJ.out];rfl) (some_not_nil NN5.out)
       have HK6:=hid hk6
       have HEX:Hid (x.Ends w w5 F bn (es ++ ((x.o.getD y []).flatMap (fun j=>wk x.nd x.o j (envL Lj)) ++ (flt8 (inL (x.nd y).text ((ps.take q).map fun q=>(x.nd q).text).reverse) y 8 ++ flt8 (false && (x.o.getD y []).isEmpty) y 10)))):=by
        rw [HDUP.out,HKL.out]
        refine Mx.Ends.grown (gi:=gi) (Mx.Ends.turn ?_) G5.out hgi HSgi.out
        rw [show flt8 (false && [z].isEmpty) y 10=[] from rfl,List.append_nil,List.flatMap_cons,List.flatMap_nil,List.append_nil]
        exact ⟨HSC.out,cfc,bnc,HAC.out,HOC.out,HNC.out⟩
       have HE6:Hid (envL (Lj ++ [((x.nd y).text,y)])=(envL Lj).ext (x.nd y).text y):=envL_snoc _ _
       have HRD:=hid (prm_round HES.out HY.out)
       have HRK:=hid HKN.out
       rw [prm_drop _ _ _ HY.out] at HRK
       rw [hdd,HKL.out] at HRD HRK
       clear O5 G5 NN5 hk6 f0 f1 f2 f3 y0 y1 y2 y3 y4 HES HKN
       go_wp2
       go_roundw
       case rel =>
        refine ⟨q+1,true,Lj ++ [((x.nd y).text,y)],g6,c6,_,by omega,by go_num,rfl,rfl,by rw [List.length_append,HLJ.out];rfl,HK6.out,hb6,HEX.out,?_,?_⟩
        ·rw [HE6.out,HTQ.out,HKL.out]
         exact HRD.out
        ·rw [HE6.out,HTQ.out]
         exact HRK.out
       case measure=>simp [intOf];omega
      ·go_wp2_with (first
        | (go_at_call 52;refine (HZ2.out _ cfc bnc _ HAC.out (HT.out.go HSC.out) HOC.out (HKR.out.keep (HSR.out.block gi HKR.out.lt HSgi.out))).mono ?_;rintro e w4 ⟨rfl,hen0⟩;have HEN:=hid (mends_join HSC.out HNC.out hen0);have HSR:=hid (HSR.out.trans hen0.1);clear hen0 HSC HAC HNC HOC f0 f1 f2 f3 k0 y0 y1 y2 y3 y4;obtain ⟨hsc,cfc,bnc,hac,hoc,hnc⟩:=HEN.out;have HSC:=hid hsc;have HAC:=hid hac;have HOC:=hid hoc;have HNC:=hid hnc;clear hsc hac hoc hnc HEN;obtain ⟨f0,f1,f2,f3⟩:=(HT.out _ HSC.out).four;obtain ⟨y0,y1,y2,y3,y4⟩:=(HT.out _ HSC.out).2.1 y hyN)
        | (at_builtin;refine wpList_append_own_at _ rfl (.tmp 91) (.tmp 103) 83 rfl w.heap.size 86 i0 (.agg #[.string ⟨#[]⟩,.int .i64 0]) 2 24 Tryz.underlying83 HHI.out.1 HHI.out.2.1 HHI.out.2.2.1 HHI.out.2.2.2 rfl (by decide) (.slice (some ⟨gi,0,none⟩) (nL+q) ci) _ _ rfl (HKO.out _ (HSR.out.alloc _)) ⟨_,0,none⟩ 1 1 [.string (x.nd y).text,.int .i64 y] rfl rfl (cell_two_new _ _ _ _) (by simp [Value.oneCell']) (by unfold maxLen;omega) (by omega) (by have:=HSC.out.size;simp;omega) ?_;intro v5 w5 o5 g5 nn5 b5;have O5:=hid o5;have G5:=hid g5;have NN5:=hid nn5;clear o5 g5 nn5 b5))
       obtain ⟨g6,c6,rfl,hb6,hk6⟩:=KnR.of_own (L:=Lj ++ [((x.nd y).text,y)]) (by rw [knRow_append];exact O5.out) (by rw [List.length_append,HLJ.out];rfl) (some_not_nil NN5.out)
       have HK6:=hid hk6
       have HEX:Hid (x.Ends w w5 F bn (es ++ ((x.o.getD y []).flatMap (fun j=>wk x.nd x.o j (envL Lj)) ++ (flt8 (inL (x.nd y).text ((ps.take q).map fun q=>(x.nd q).text).reverse) y 8 ++ flt8 (true && (x.o.getD y []).isEmpty) y 10)))):=by
        rw [HDUP.out,HKL.out]
        refine Mx.Ends.grown (gi:=gi) (Mx.Ends.turn ?_) G5.out hgi HSgi.out
        rw [show flt8 (true && [z].isEmpty) y 10=[] from rfl,List.append_nil,List.flatMap_cons,List.flatMap_nil,List.append_nil]
        exact ⟨HSC.out,cfc,bnc,HAC.out,HOC.out,HNC.out⟩
       have HE6:Hid (envL (Lj ++ [((x.nd y).text,y)])=(envL Lj).ext (x.nd y).text y):=envL_snoc _ _
       have HRD:=hid (prm_round HES.out HY.out)
       have HRK:=hid HKN.out
       rw [prm_drop _ _ _ HY.out] at HRK
       rw [hdd,HKL.out] at HRD HRK
       clear O5 G5 NN5 hk6 f0 f1 f2 f3 y0 y1 y2 y3 y4 HES HKN
       go_wp2
       go_roundw
       case rel =>
        refine ⟨q+1,true,Lj ++ [((x.nd y).text,y)],g6,c6,_,by omega,by go_num,rfl,rfl,by rw [List.length_append,HLJ.out];rfl,HK6.out,hb6,HEX.out,?_,?_⟩
        ·rw [HE6.out,HTQ.out,HKL.out]
         exact HRD.out
        ·rw [HE6.out,HTQ.out]
         exact HRK.out
       case measure=>simp [intOf];omega
  ·obtain rfl:j=m:=by omega
   have c0:=HP.out _ HSC.out j (by omega)
   rw [List.getD_eq_getElem?_getD,List.getElem?_append_right (by have:=HM.out;omega),HM.out,Nat.sub_self] at c0
   simp only [List.getElem?_cons_zero,Option.getD_some] at c0
   have e:ps.drop j=[]:=List.drop_eq_nil_of_le (by have:=HM.out;omega)
   rw [e] at HES HKN
   simp only [prm,List.append_nil] at HES HKN
   have e2:es=(prm x.nd x.o (fun kn j=>wk x.nd x.o j kn) ps (envL L) [] false).1:=HES.out
   have e3:envL Lj=(prm x.nd x.o (fun kn j=>wk x.nd x.o j kn) ps (envL L) [] false).2:=HKN.out
   have hbl:Lj.length+10 * l≤2000000:=by rw [HLJ.out];omega
   have HZ2:Hid (∀ (F:Nat × Nat→Prop) (cf:Nat→Nat) (bn:Nat→Int) (w:World),x.At w cf bn→Stb x.S w x.Tree→CodesOk cf F→KnR w gi ci Lj →
     Calls Tryz.prog 52 #[.pointer (some ⟨x.wb,0,none⟩),.int .i64 l,.slice (some ⟨gi,0,none⟩) (nL+j) ci] w fun e w'=>e=.returned (.tuple #[])∧x.Ends w w' F bn (wk x.nd x.o l (prm x.nd x.o (fun kn j=>wk x.nd x.o j kn) ps (envL L) [] false).2)):=fun F cf bn w h1 h2 h3 h4=>by
    have:=HL.out Lj gi ci F cf bn w hbl h1 h2 h3 h4 HSgi.out
    rw [HLJ.out,e3] at this
    exact this
   rw [e2] at HOC HNC
   clear e e2 e3 hbl
   go_wp2_with (first
    | (go_at_call 52;refine (HZ2.out _ cfc bnc _ HAC.out (HT.out.go HSC.out) HOC.out HKR.out).mono ?_;rintro e w4 ⟨rfl,hen0⟩;have HEN:=hid (mends_join HSC.out HNC.out hen0);clear hen0))
   go_end0
   exact ⟨rfl,HEN.out⟩
def FileEnd (R G:Nat) (P:Nat) (w:World) (e:Ending) (w2:World):Prop:=∃ g n c,e=.returned (.agg #[.slice (some ⟨g,0,none⟩) n c])∧Has 3100 w2 (.slice (some ⟨g,0,none⟩) n c)∧(∃ ns fs,GS R G ns fs (P+30000) w2)∧Gd R w w2
set_option maxHeartbeats 16000000 in
theorem file_any (R G P gl:Nat) (n:Nat) (w:World) (ns:List (ByteArray × Int)) (fs:List Fn) (h:GS R G ns fs P w) (hP:P≤10000) (hns:ns.length≤100) (hfs:fs.length≤100) (hn:n≤5) (hn1:1≤n) :
  Calls Tryz.prog 60 #[.pointer (some ⟨G,0,none⟩),.slice (some ⟨gl,0,none⟩) 0 0,.int .i64 n] w (FileEnd R G P w):=by
 obtain ⟨i0,hi0,hz0,hz1,hz2⟩:=info_parts info_ns
 have HHI:=hid (And.intro hi0 (And.intro hz0 (And.intro hz1 hz2)))
 clear hi0 hz0 hz1 hz2
 obtain ⟨i1,hi1,hz3,hz4,hz5⟩:=info_parts info_sn
 have HH1:=hid (And.intro hi1 (And.intro hz3 (And.intro hz4 hz5)))
 clear hi1 hz3 hz4 hz5
 have hRw:R < w.heap.size:=by obtain ⟨c0,sz0,p0,g0,_⟩:=h;exact g0.rd.lt
 have HB0:=hid ((Below.refl w.heap.size w).alloc (Nat.le_refl _) (.cells #[.slice none 0 0] 25))
 have HBX:=hid (heap_alloc_new w (.cells #[.slice none 0 0] 25))
 have HG0:=hid (h.next HB0.out)
 have HD0:=hid (Gd.of_below HB0.out h.bw)
 clear h
 go_enter Tryz.func60,Tryz.ntmps60
 go_upto_region 1 with fail
 obtain ⟨rb,hrb⟩:∃ g,w.heap.size=g:=⟨_,rfl⟩
 obtain ⟨W0,hW0⟩:∃ W,(w.alloc (.cells #[.slice none 0 0] 25))=W:=⟨_,rfl⟩
 have hR0:R < W0.heap.size:=by rw [← hW0,World.size_alloc];omega
 rw [hW0] at HBX HG0 HD0 ⊢
 rw [hrb] at HBX ⊢
 have HRB:=hid hrb
 clear hrb hW0 HB0
 have HAL:=hid ((Below.refl W0.heap.size W0).alloc (Nat.le_refl _) (.cells #[] 23))
 have HF0:Hid (FI R G W0 0 0 ns.length fs.length P (.slice (some ⟨W0.heap.size,0,none⟩) 0 0) (W0.alloc (.cells #[] 23))):=⟨⟨ns,fs,Nat.le_refl _,Nat.le_refl _,HG0.out.next HAL.out⟩,Parts.none (Nat.le_refl _),Gd.of_below HAL.out HG0.out.bw,hR0⟩
 obtain ⟨xs,ls,q1,q2,q3,q4,q5⟩:=HF0.out.parts
 have HQ2:=hid q2
 have HQ4:=hid q4
 have HQ5:=hid q5
 clear q2 q4 q5
 go_wp2_with (at_builtin;refine wpList_append_own _ rfl _ _ 96 rfl W0.heap.size 23 i0 (.slice none 0 0) 1 24 Tryz.underlying96 HHI.out.1 HHI.out.2.1 HHI.out.2.2.1 HHI.out.2.2.2 rfl (by decide) _ _ xs rfl HQ2.out ⟨gl,0,none⟩ 0 0 [] rfl rfl ?c1 ?c2 ?c3 ?c4 ?c5 ?_)
 case c1=>intro j u hj;simp at hj
 case c2=>intro u hu;simp at hu
 case c3=>unfold maxLen;omega
 case c4=>omega
 case c5=>simp
 intro vz wz oz gz _
 have HF1:=hid (HF0.out.regrown q1 q3 HQ4.out HQ5.out HQ2.out gz (by simpa using oz))
 clear oz gz HQ2 HQ4 HQ5 q1 q3 HF0 HAL
 go_wp2
 go_loopw [7,8,9,10] (fun pv i _ _ wr=>∃ t:Nat,t≤n∧i=.int .i64 t∧FI R G W0 (t * 600) t (ns.length+t) (fs.length+2 * t) (P+t * 5000) pv wr) (fun _ i _ _ _=>n - (intOf i).toNat)
 case atStart=>exact ⟨0,Nat.zero_le _,rfl,by simpa using HF1.out⟩
 case round =>
  obtain ⟨t,ht,rfl,hf⟩:=hrel
  have HF:=hid hf
  obtain ⟨pa,pc,rfl⟩:=hf.psl
  clear hf HF1
  by_cases hlt:t < n
  ·have ht4:t≤4:=by omega
   have hti:(t:Int) < (n:Int):=by omega
   have htm:t * 5000≤20000:=by omega
   have htn:t * 600≤2400:=by omega
   have y0:=HF.out.g0
   go_wp2_with fail
   refine (HF.out.pick (by omega) 8 (by omega)).mono ?_
   rintro e w1 ⟨x,rfl,hx,d1⟩
   have HF1:=hid d1
   clear d1 y0 HF
   have hx7:x=0∨x=1∨x=2∨x=3∨x=4∨(5≤x∧x≤7):=by omega
   clear hx
   rcases hx7 with rfl | rfl | rfl | rfl | rfl | ⟨hx5,hx7⟩
   ·go_wp2_with fail
    refine (l1Dec_any 17 t _ (by have:(5:Nat) < 10 ^ 18:=(by decide);omega) (by decide)).mono ?_
    rintro e w2 ⟨sd,rfl,hsd,hb2⟩
    have HF2:=hid (HF1.out.next hb2)
    clear hb2 HF1
    obtain ⟨nm,hnm⟩:∃ nm:ByteArray,(⟨#[102]⟩:ByteArray) ++ sd=nm:=⟨_,rfl⟩
    have hnz:nm.size≤100:=by rw [← hnm,ByteArray.size_append];show 1+sd.size≤100;omega
    go_wp2_with fail
    refine (HF2.out.def (by omega) (by omega) (by omega) nm hnz).mono ?_
    rintro e w3 ⟨g3,n3,k3,rfl,l3,d3⟩
    have HF3:=hid d3
    have HL3:=hid l3
    clear d3 l3 HF2 hnm
    have HAL:=hid ((Below.refl w3.heap.size w3).alloc (Nat.le_refl _) (.cells #[.slice (some ⟨g3,0,none⟩) n3 k3] 23))
    have HFA:=hid (HF3.out.next HAL.out)
    have HLA:=hid (HL3.out.gk (Gk.of_below (B:=0) HAL.out (Nat.zero_le _)))
    have hwz:W0.heap.size≤w3.heap.size:=HF3.out.gd.size
    obtain ⟨xs,ls,q1,q2,q3,q4,q5⟩:=HFA.out.parts
    have HQ2:=hid q2
    have HQ4:=hid q4
    have HQ5:=hid q5
    clear q2 q4 q5 HL3 HF3
    go_wp2_with (at_builtin;refine wpList_append_own _ rfl _ _ 96 rfl W0.heap.size 23 i0 (.slice none 0 0) 1 24 Tryz.underlying96 HHI.out.1 HHI.out.2.1 HHI.out.2.2.1 HHI.out.2.2.2 rfl (by decide) _ _ xs rfl HQ2.out ⟨w3.heap.size,0,none⟩ 1 1 [.slice (some ⟨g3,0,none⟩) n3 k3] rfl rfl ?c1 ?c2 ?c3 ?c4 ?c5 ?_)
    case c1 =>
     intro j u hj
     match j,hj with
     | 0,hj=>simp at hj;subst hj;exact cell_new_row w3 _ _ 0
    case c2=>intro u hu;simp at hu;subst hu;rfl
    case c3=>unfold maxLen;omega
    case c4=>omega
    case c5=>simp;omega
    intro vz wz oz gz _
    have HFZ:=hid (HFA.out.parted q1 q3 HQ4.out HQ5.out HQ2.out HLA.out gz oz)
    clear oz gz HFA HLA HQ2 HQ4 HQ5 HAL q1 q3
    have hinc:IntKind.i64.wrap ((t:Int)+1)=((t+1:Nat):Int):=by rw [IntKind.wrap_i64];omega
    have HNX:=hid (HFZ.out.mono (N':=(t+1) * 600) (nn':=ns.length+(t+1)) (nf':=fs.length+2 * (t+1)) (P':=P+(t+1) * 5000) (by omega) (by omega) (by omega) (by omega))
    clear HFZ
    go_wp2
    go_roundw
    case rel=>exact ⟨t+1,by omega,by go_num,HNX.out⟩
    case measure=>simp [intOf];omega
   ·go_wp2_with fail
    refine (l1Dec_any 17 t _ (by have:(5:Nat) < 10 ^ 18:=(by decide);omega) (by decide)).mono ?_
    rintro e w2 ⟨sd,rfl,hsd,hb2⟩
    have HF2:=hid (HF1.out.next hb2)
    clear hb2 HF1
    obtain ⟨nm,hnm⟩:∃ nm:ByteArray,(⟨#[102]⟩:ByteArray) ++ sd=nm:=⟨_,rfl⟩
    have hnz:nm.size≤100:=by rw [← hnm,ByteArray.size_append];show 1+sd.size≤100;omega
    go_wp2_with fail
    refine (HF2.out.def (by omega) (by omega) (by omega) nm hnz).mono ?_
    rintro e w3 ⟨g3,n3,k3,rfl,l3,d3⟩
    have HF3:=hid d3
    have HL3:=hid l3
    clear d3 l3 HF2 hnm
    have HAL:=hid ((Below.refl w3.heap.size w3).alloc (Nat.le_refl _) (.cells #[.slice (some ⟨g3,0,none⟩) n3 k3] 23))
    have HFA:=hid (HF3.out.next HAL.out)
    have HLA:=hid (HL3.out.gk (Gk.of_below (B:=0) HAL.out (Nat.zero_le _)))
    have hwz:W0.heap.size≤w3.heap.size:=HF3.out.gd.size
    obtain ⟨xs,ls,q1,q2,q3,q4,q5⟩:=HFA.out.parts
    have HQ2:=hid q2
    have HQ4:=hid q4
    have HQ5:=hid q5
    clear q2 q4 q5 HL3 HF3
    go_wp2_with (at_builtin;refine wpList_append_own _ rfl _ _ 96 rfl W0.heap.size 23 i0 (.slice none 0 0) 1 24 Tryz.underlying96 HHI.out.1 HHI.out.2.1 HHI.out.2.2.1 HHI.out.2.2.2 rfl (by decide) _ _ xs rfl HQ2.out ⟨w3.heap.size,0,none⟩ 1 1 [.slice (some ⟨g3,0,none⟩) n3 k3] rfl rfl ?c1 ?c2 ?c3 ?c4 ?c5 ?_)
    case c1 =>
     intro j u hj
     match j,hj with
     | 0,hj=>simp at hj;subst hj;exact cell_new_row w3 _ _ 0
    case c2=>intro u hu;simp at hu;subst hu;rfl
    case c3=>unfold maxLen;omega
    case c4=>omega
    case c5=>simp;omega
    intro vz wz oz gz _
    have HFZ:=hid (HFA.out.parted q1 q3 HQ4.out HQ5.out HQ2.out HLA.out gz oz)
    clear oz gz HFA HLA HQ2 HQ4 HQ5 HAL q1 q3
    have hinc:IntKind.i64.wrap ((t:Int)+1)=((t+1:Nat):Int):=by rw [IntKind.wrap_i64];omega
    have HNX:=hid (HFZ.out.mono (N':=(t+1) * 600) (nn':=ns.length+(t+1)) (nf':=fs.length+2 * (t+1)) (P':=P+(t+1) * 5000) (by omega) (by omega) (by omega) (by omega))
    clear HFZ
    go_wp2
    go_roundw
    case rel=>exact ⟨t+1,by omega,by go_num,HNX.out⟩
    case measure=>simp [intOf];omega
   ·go_wp2_with fail
    refine (l1Dec_any 17 t _ (by have:(5:Nat) < 10 ^ 18:=(by decide);omega) (by decide)).mono ?_
    rintro e w2 ⟨sd,rfl,hsd,hb2⟩
    have HF2:=hid (HF1.out.next hb2)
    clear hb2 HF1
    obtain ⟨nm0,hnm⟩:∃ nm:ByteArray,(⟨#[115]⟩:ByteArray) ++ sd=nm:=⟨_,rfl⟩
    have hnz:nm0.size≤99:=by rw [← hnm,ByteArray.size_append];show 1+sd.size≤99;omega
    have y0:=HF2.out.g0
    go_wp2_with fail
    refine (HF2.out.pick (by omega) 8 (by omega)).mono ?_
    rintro e w3 ⟨y,rfl,hy,d3⟩
    have HF3:=hid d3
    clear d3 hy y0 HF2
    go_upto_if 55 with fail
    clear hnm
    go_cut [9] (fun v wx=>∃ nm:ByteArray,v=.string nm∧nm.size≤100∧FI R G W0 (t * 600) t (ns.length+t) (fs.length+2 * t) (P+t * 5000+1+1) (.slice pa t pc) wx)
    case first =>
     by_cases hy0:y=0
     ·subst hy0
      go_wp2_with fail
      go_meet
      case rel=>exact ⟨_,rfl,by rw [ByteArray.size_append];show 1+nm0.size≤100;omega,HF3.out⟩
     ·have hy1:((y:Int) == 0)=false:=by simpa using hy0
      go_wp2_with fail
      go_meet
      case rel=>exact ⟨_,rfl,by omega,HF3.out⟩
    case rest =>
     obtain ⟨nm,rfl,hnm,d4⟩:=hcut
     have HF4:=hid d4
     clear d4 HF3
     obtain ⟨w4,hw4⟩:∃ w4,wc=w4:=⟨_,rfl⟩
     rw [hw4] at HF4 ⊢
     clear hw4
     have y0:=HF4.out.g0
     go_wp2_with fail
     refine (HF4.out.pick (by omega) 6 (by omega)).mono ?_
     rintro e w5 ⟨k,rfl,hk,d5⟩
     have HF5:=hid d5
     clear d5 hk y0 HF4
     go_wp2_with fail
     refine (HF5.out.e e_four (by omega) (by omega) (by omega) _).mono ?_
     rintro e w6 ⟨g6,n6,k6,rfl,l6,d6⟩
     have HF6:=hid d6
     have HL6:=hid l6
     clear d6 l6 HF5
     go_wp2_with fail
     refine (HF6.out.put1 ⟨21,0,0,nm,0⟩ _ HL6.out (by show nm.size≤1000;omega) (by omega)).mono ?_
     rintro e w7 ⟨g7,n7,k7,rfl,l7,d7⟩
     have HF7:=hid d7
     have HL7:=hid l7
     clear d7 l7 HF6 HL6
     have HAL:=hid ((Below.refl w7.heap.size w7).alloc (Nat.le_refl _) (.cells #[.slice (some ⟨g7,0,none⟩) n7 k7] 23))
     have HFA:=hid (HF7.out.next HAL.out)
     have HLA:=hid (HL7.out.gk (Gk.of_below (B:=0) HAL.out (Nat.zero_le _)))
     have hwz:W0.heap.size≤w7.heap.size:=HF7.out.gd.size
     obtain ⟨xs,ls,q1,q2,q3,q4,q5⟩:=HFA.out.parts
     have HQ2:=hid q2
     have HQ4:=hid q4
     have HQ5:=hid q5
     clear q2 q4 q5 HL7 HF7
     go_wp2_with (at_builtin;refine wpList_append_own _ rfl _ _ 96 rfl W0.heap.size 23 i0 (.slice none 0 0) 1 24 Tryz.underlying96 HHI.out.1 HHI.out.2.1 HHI.out.2.2.1 HHI.out.2.2.2 rfl (by decide) _ _ xs rfl HQ2.out ⟨w7.heap.size,0,none⟩ 1 1 [.slice (some ⟨g7,0,none⟩) n7 k7] rfl rfl ?c1 ?c2 ?c3 ?c4 ?c5 ?_)
     case c1 =>
      intro j u hj
      match j,hj with
      | 0,hj=>simp at hj;subst hj;exact cell_new_row w7 _ _ 0
     case c2=>intro u hu;simp at hu;subst hu;rfl
     case c3=>unfold maxLen;omega
     case c4=>omega
     case c5=>simp;omega
     intro vz wz oz gz _
     have HFZ:=hid (HFA.out.parted q1 q3 HQ4.out HQ5.out HQ2.out HLA.out gz oz)
     clear oz gz HFA HLA HQ2 HQ4 HQ5 HAL q1 q3
     have HAL:=hid ((Below.refl wz.heap.size wz).alloc (Nat.le_refl _) (.cells #[.string nm,.int .i64 k] 140))
     have HFA:=hid (HFZ.out.next HAL.out)
     clear HFZ
     obtain ⟨pa8,pc8,hv8⟩:=HFA.out.psl
     subst hv8
     obtain ⟨ns9,an9,cn9,hl9,z1,zf,ho9,hnx⟩:=HFA.out.named
     have HO9:=hid ho9
     have HNX9:=hid hnx
     have hR9:R≤wz.heap.size+1:=by have:=ho9;obtain ⟨_,_,_,_,hg⟩:=HFA.out.gs;have:=hg.bw;rwa [World.size_alloc] at this
     clear ho9 hnx
     obtain ⟨z1',zf'⟩:wz.cell? ⟨G,1,none⟩=some (.slice an9 ns9.length cn9)∧True:=⟨by
      have hlt:G < wz.heap.size:=by
       rcases Nat.lt_or_ge G wz.heap.size with h | h
       ·exact h
       ·exfalso
        obtain ⟨ns1,fs1,_,_,c1,sz1,p1,g1,_⟩:=HFA.out.gs
        obtain ⟨un,uf,f1,_,_⟩:=g1.ex
        have h2:=(Array.getElem?_eq_some_iff.1 f1).1
        rw [World.size_alloc] at h2
        have hG:G=wz.heap.size:=by omega
        rw [hG,heap_alloc_new] at f1
        cases f1
      exact (HAL.out.cell (p:=⟨G,1,none⟩) hlt).symm.trans z1,trivial⟩
     go_wp2_with (at_builtin;refine wpList_append_own _ rfl _ _ 103 rfl R 140 i1 (.agg #[.string ⟨#[]⟩,.int .i64 0]) 2 24 Tryz.underlying103 HH1.out.1 HH1.out.2.1 HH1.out.2.2.1 HH1.out.2.2.2 rfl (by decide) _ _ _ rfl HO9.out ⟨wz.heap.size,0,none⟩ 1 1 [.string nm,.int .i64 k] rfl rfl ?c1 ?c2 ?c3 ?c4 ?c5 ?_)
     case c1=>intro j u hj;exact cell_two_new wz _ _ _ j u hj
     case c2=>intro u hu;simp at hu;rcases hu with rfl | rfl <;> rfl
     case c3=>unfold maxLen;omega
     case c4=>omega
     case c5=>simp;omega
     intro vq wq oq gq _
     obtain ⟨m1,m2,hfq⟩:=HNX9.out (nm,(k:Int)) vq wq hnm gq oq
     obtain ⟨aq,cq,rfl⟩:=own_sl oq
     have HFQ:=hid hfq
     clear hfq oq gq z1 zf z1' HO9 HNX9 HFA HAL
     have hinc:IntKind.i64.wrap ((t:Int)+1)=((t+1:Nat):Int):=by rw [IntKind.wrap_i64];omega
     have HNX:=hid (HFQ.out.mono (N':=(t+1) * 600) (nn':=ns.length+(t+1)) (nf':=fs.length+2 * (t+1)) (P':=P+(t+1) * 5000) (by omega) (by omega) (by omega) (by omega))
     clear HFQ
     go_wp2
     go_roundw
     case rel=>exact ⟨t+1,by omega,by go_num,HNX.out⟩
     case measure=>simp [intOf];omega
   ·go_wp2_with fail
    refine (l1Dec_any 17 t _ (by have:(5:Nat) < 10 ^ 18:=(by decide);omega) (by decide)).mono ?_
    rintro e w2 ⟨sd,rfl,hsd,hb2⟩
    have HF2:=hid (HF1.out.next hb2)
    clear hb2 HF1
    obtain ⟨nm0,hnm⟩:∃ nm:ByteArray,(⟨#[115]⟩:ByteArray) ++ sd=nm:=⟨_,rfl⟩
    have hnz:nm0.size≤99:=by rw [← hnm,ByteArray.size_append];show 1+sd.size≤99;omega
    have y0:=HF2.out.g0
    go_wp2_with fail
    refine (HF2.out.pick (by omega) 8 (by omega)).mono ?_
    rintro e w3 ⟨y,rfl,hy,d3⟩
    have HF3:=hid d3
    clear d3 hy y0 HF2
    go_upto_if 55 with fail
    clear hnm
    go_cut [9] (fun v wx=>∃ nm:ByteArray,v=.string nm∧nm.size≤100∧FI R G W0 (t * 600) t (ns.length+t) (fs.length+2 * t) (P+t * 5000+1+1) (.slice pa t pc) wx)
    case first =>
     by_cases hy0:y=0
     ·subst hy0
      go_wp2_with fail
      go_meet
      case rel=>exact ⟨_,rfl,by rw [ByteArray.size_append];show 1+nm0.size≤100;omega,HF3.out⟩
     ·have hy1:((y:Int) == 0)=false:=by simpa using hy0
      go_wp2_with fail
      go_meet
      case rel=>exact ⟨_,rfl,by omega,HF3.out⟩
    case rest =>
     obtain ⟨nm,rfl,hnm,d4⟩:=hcut
     have HF4:=hid d4
     clear d4 HF3
     obtain ⟨w4,hw4⟩:∃ w4,wc=w4:=⟨_,rfl⟩
     rw [hw4] at HF4 ⊢
     clear hw4
     have y0:=HF4.out.g0
     go_wp2_with fail
     refine (HF4.out.pick (by omega) 6 (by omega)).mono ?_
     rintro e w5 ⟨k,rfl,hk,d5⟩
     have HF5:=hid d5
     clear d5 hk y0 HF4
     go_wp2_with fail
     refine (HF5.out.e e_four (by omega) (by omega) (by omega) _).mono ?_
     rintro e w6 ⟨g6,n6,k6,rfl,l6,d6⟩
     have HF6:=hid d6
     have HL6:=hid l6
     clear d6 l6 HF5
     go_wp2_with fail
     refine (HF6.out.put1 ⟨21,0,0,nm,0⟩ _ HL6.out (by show nm.size≤1000;omega) (by omega)).mono ?_
     rintro e w7 ⟨g7,n7,k7,rfl,l7,d7⟩
     have HF7:=hid d7
     have HL7:=hid l7
     clear d7 l7 HF6 HL6
     have HAL:=hid ((Below.refl w7.heap.size w7).alloc (Nat.le_refl _) (.cells #[.slice (some ⟨g7,0,none⟩) n7 k7] 23))
     have HFA:=hid (HF7.out.next HAL.out)
     have HLA:=hid (HL7.out.gk (Gk.of_below (B:=0) HAL.out (Nat.zero_le _)))
     have hwz:W0.heap.size≤w7.heap.size:=HF7.out.gd.size
     obtain ⟨xs,ls,q1,q2,q3,q4,q5⟩:=HFA.out.parts
     have HQ2:=hid q2
     have HQ4:=hid q4
     have HQ5:=hid q5
     clear q2 q4 q5 HL7 HF7
     go_wp2_with (at_builtin;refine wpList_append_own _ rfl _ _ 96 rfl W0.heap.size 23 i0 (.slice none 0 0) 1 24 Tryz.underlying96 HHI.out.1 HHI.out.2.1 HHI.out.2.2.1 HHI.out.2.2.2 rfl (by decide) _ _ xs rfl HQ2.out ⟨w7.heap.size,0,none⟩ 1 1 [.slice (some ⟨g7,0,none⟩) n7 k7] rfl rfl ?c1 ?c2 ?c3 ?c4 ?c5 ?_)
     case c1 =>
      intro j u hj
      match j,hj with
      | 0,hj=>simp at hj;subst hj;exact cell_new_row w7 _ _ 0
     case c2=>intro u hu;simp at hu;subst hu;rfl
     case c3=>unfold maxLen;omega
     case c4=>omega
     case c5=>simp;omega
     intro vz wz oz gz _
     have HFZ:=hid (HFA.out.parted q1 q3 HQ4.out HQ5.out HQ2.out HLA.out gz oz)
     clear oz gz HFA HLA HQ2 HQ4 HQ5 HAL q1 q3
     have HAL:=hid ((Below.refl wz.heap.size wz).alloc (Nat.le_refl _) (.cells #[.string nm,.int .i64 k] 140))
     have HFA:=hid (HFZ.out.next HAL.out)
     clear HFZ
     obtain ⟨pa8,pc8,hv8⟩:=HFA.out.psl
     subst hv8
     obtain ⟨ns9,an9,cn9,hl9,z1,zf,ho9,hnx⟩:=HFA.out.named
     have HO9:=hid ho9
     have HNX9:=hid hnx
     have hR9:R≤wz.heap.size+1:=by have:=ho9;obtain ⟨_,_,_,_,hg⟩:=HFA.out.gs;have:=hg.bw;rwa [World.size_alloc] at this
     clear ho9 hnx
     obtain ⟨z1',zf'⟩:wz.cell? ⟨G,1,none⟩=some (.slice an9 ns9.length cn9)∧True:=⟨by
      have hlt:G < wz.heap.size:=by
       rcases Nat.lt_or_ge G wz.heap.size with h | h
       ·exact h
       ·exfalso
        obtain ⟨ns1,fs1,_,_,c1,sz1,p1,g1,_⟩:=HFA.out.gs
        obtain ⟨un,uf,f1,_,_⟩:=g1.ex
        have h2:=(Array.getElem?_eq_some_iff.1 f1).1
        rw [World.size_alloc] at h2
        have hG:G=wz.heap.size:=by omega
        rw [hG,heap_alloc_new] at f1
        cases f1
      exact (HAL.out.cell (p:=⟨G,1,none⟩) hlt).symm.trans z1,trivial⟩
     go_wp2_with (at_builtin;refine wpList_append_own _ rfl _ _ 103 rfl R 140 i1 (.agg #[.string ⟨#[]⟩,.int .i64 0]) 2 24 Tryz.underlying103 HH1.out.1 HH1.out.2.1 HH1.out.2.2.1 HH1.out.2.2.2 rfl (by decide) _ _ _ rfl HO9.out ⟨wz.heap.size,0,none⟩ 1 1 [.string nm,.int .i64 k] rfl rfl ?c1 ?c2 ?c3 ?c4 ?c5 ?_)
     case c1=>intro j u hj;exact cell_two_new wz _ _ _ j u hj
     case c2=>intro u hu;simp at hu;rcases hu with rfl | rfl <;> rfl
     case c3=>unfold maxLen;omega
     case c4=>omega
     case c5=>simp;omega
     intro vq wq oq gq _
     obtain ⟨m1,m2,hfq⟩:=HNX9.out (nm,(k:Int)) vq wq hnm gq oq
     obtain ⟨aq,cq,rfl⟩:=own_sl oq
     have HFQ:=hid hfq
     clear hfq oq gq z1 zf z1' HO9 HNX9 HFA HAL
     have hinc:IntKind.i64.wrap ((t:Int)+1)=((t+1:Nat):Int):=by rw [IntKind.wrap_i64];omega
     have HNX:=hid (HFQ.out.mono (N':=(t+1) * 600) (nn':=ns.length+(t+1)) (nf':=fs.length+2 * (t+1)) (P':=P+(t+1) * 5000) (by omega) (by omega) (by omega) (by omega))
     clear HFQ
     go_wp2
     go_roundw
     case rel=>exact ⟨t+1,by omega,by go_num,HNX.out⟩
     case measure=>simp [intOf];omega
   ·go_wp2_with fail
    refine (l1Dec_any 17 t _ (by have:(5:Nat) < 10 ^ 18:=(by decide);omega) (by decide)).mono ?_
    rintro e w2 ⟨sd,rfl,hsd,hb2⟩
    have HF2:=hid (HF1.out.next hb2)
    clear hb2 HF1
    obtain ⟨nm0,hnm⟩:∃ nm:ByteArray,(⟨#[115]⟩:ByteArray) ++ sd=nm:=⟨_,rfl⟩
    have hnz:nm0.size≤99:=by rw [← hnm,ByteArray.size_append];show 1+sd.size≤99;omega
    have y0:=HF2.out.g0
    go_wp2_with fail
    refine (HF2.out.pick (by omega) 8 (by omega)).mono ?_
    rintro e w3 ⟨y,rfl,hy,d3⟩
    have HF3:=hid d3
    clear d3 hy y0 HF2
    go_upto_if 55 with fail
    clear hnm
    go_cut [9] (fun v wx=>∃ nm:ByteArray,v=.string nm∧nm.size≤100∧FI R G W0 (t * 600) t (ns.length+t) (fs.length+2 * t) (P+t * 5000+1+1) (.slice pa t pc) wx)
    case first =>
     by_cases hy0:y=0
     ·subst hy0
      go_wp2_with fail
      go_meet
      case rel=>exact ⟨_,rfl,by rw [ByteArray.size_append];show 1+nm0.size≤100;omega,HF3.out⟩
     ·have hy1:((y:Int) == 0)=false:=by simpa using hy0
      go_wp2_with fail
      go_meet
      case rel=>exact ⟨_,rfl,by omega,HF3.out⟩
    case rest =>
     obtain ⟨nm,rfl,hnm,d4⟩:=hcut
     have HF4:=hid d4
     clear d4 HF3
     obtain ⟨w4,hw4⟩:∃ w4,wc=w4:=⟨_,rfl⟩
     rw [hw4] at HF4 ⊢
     clear hw4
     have y0:=HF4.out.g0
     go_wp2_with fail
     refine (HF4.out.pick (by omega) 6 (by omega)).mono ?_
     rintro e w5 ⟨k,rfl,hk,d5⟩
     have HF5:=hid d5
     clear d5 hk y0 HF4
     go_wp2_with fail
     refine (HF5.out.e e_four (by omega) (by omega) (by omega) _).mono ?_
     rintro e w6 ⟨g6,n6,k6,rfl,l6,d6⟩
     have HF6:=hid d6
     have HL6:=hid l6
     clear d6 l6 HF5
     go_wp2_with fail
     refine (HF6.out.put1 ⟨21,0,0,nm,0⟩ _ HL6.out (by show nm.size≤1000;omega) (by omega)).mono ?_
     rintro e w7 ⟨g7,n7,k7,rfl,l7,d7⟩
     have HF7:=hid d7
     have HL7:=hid l7
     clear d7 l7 HF6 HL6
     have HAL:=hid ((Below.refl w7.heap.size w7).alloc (Nat.le_refl _) (.cells #[.slice (some ⟨g7,0,none⟩) n7 k7] 23))
     have HFA:=hid (HF7.out.next HAL.out)
     have HLA:=hid (HL7.out.gk (Gk.of_below (B:=0) HAL.out (Nat.zero_le _)))
     have hwz:W0.heap.size≤w7.heap.size:=HF7.out.gd.size
     obtain ⟨xs,ls,q1,q2,q3,q4,q5⟩:=HFA.out.parts
     have HQ2:=hid q2
     have HQ4:=hid q4
     have HQ5:=hid q5
     clear q2 q4 q5 HL7 HF7
     go_wp2_with (at_builtin;refine wpList_append_own _ rfl _ _ 96 rfl W0.heap.size 23 i0 (.slice none 0 0) 1 24 Tryz.underlying96 HHI.out.1 HHI.out.2.1 HHI.out.2.2.1 HHI.out.2.2.2 rfl (by decide) _ _ xs rfl HQ2.out ⟨w7.heap.size,0,none⟩ 1 1 [.slice (some ⟨g7,0,none⟩) n7 k7] rfl rfl ?c1 ?c2 ?c3 ?c4 ?c5 ?_)
     case c1 =>
      intro j u hj
      match j,hj with
      | 0,hj=>simp at hj;subst hj;exact cell_new_row w7 _ _ 0
     case c2=>intro u hu;simp at hu;subst hu;rfl
     case c3=>unfold maxLen;omega
     case c4=>omega
     case c5=>simp;omega
     intro vz wz oz gz _
     have HFZ:=hid (HFA.out.parted q1 q3 HQ4.out HQ5.out HQ2.out HLA.out gz oz)
     clear oz gz HFA HLA HQ2 HQ4 HQ5 HAL q1 q3
     have HAL:=hid ((Below.refl wz.heap.size wz).alloc (Nat.le_refl _) (.cells #[.string nm,.int .i64 k] 140))
     have HFA:=hid (HFZ.out.next HAL.out)
     clear HFZ
     obtain ⟨pa8,pc8,hv8⟩:=HFA.out.psl
     subst hv8
     obtain ⟨ns9,an9,cn9,hl9,z1,zf,ho9,hnx⟩:=HFA.out.named
     have HO9:=hid ho9
     have HNX9:=hid hnx
     have hR9:R≤wz.heap.size+1:=by have:=ho9;obtain ⟨_,_,_,_,hg⟩:=HFA.out.gs;have:=hg.bw;rwa [World.size_alloc] at this
     clear ho9 hnx
     obtain ⟨z1',zf'⟩:wz.cell? ⟨G,1,none⟩=some (.slice an9 ns9.length cn9)∧True:=⟨by
      have hlt:G < wz.heap.size:=by
       rcases Nat.lt_or_ge G wz.heap.size with h | h
       ·exact h
       ·exfalso
        obtain ⟨ns1,fs1,_,_,c1,sz1,p1,g1,_⟩:=HFA.out.gs
        obtain ⟨un,uf,f1,_,_⟩:=g1.ex
        have h2:=(Array.getElem?_eq_some_iff.1 f1).1
        rw [World.size_alloc] at h2
        have hG:G=wz.heap.size:=by omega
        rw [hG,heap_alloc_new] at f1
        cases f1
      exact (HAL.out.cell (p:=⟨G,1,none⟩) hlt).symm.trans z1,trivial⟩
     go_wp2_with (at_builtin;refine wpList_append_own _ rfl _ _ 103 rfl R 140 i1 (.agg #[.string ⟨#[]⟩,.int .i64 0]) 2 24 Tryz.underlying103 HH1.out.1 HH1.out.2.1 HH1.out.2.2.1 HH1.out.2.2.2 rfl (by decide) _ _ _ rfl HO9.out ⟨wz.heap.size,0,none⟩ 1 1 [.string nm,.int .i64 k] rfl rfl ?c1 ?c2 ?c3 ?c4 ?c5 ?_)
     case c1=>intro j u hj;exact cell_two_new wz _ _ _ j u hj
     case c2=>intro u hu;simp at hu;rcases hu with rfl | rfl <;> rfl
     case c3=>unfold maxLen;omega
     case c4=>omega
     case c5=>simp;omega
     intro vq wq oq gq _
     obtain ⟨m1,m2,hfq⟩:=HNX9.out (nm,(k:Int)) vq wq hnm gq oq
     obtain ⟨aq,cq,rfl⟩:=own_sl oq
     have HFQ:=hid hfq
     clear hfq oq gq z1 zf z1' HO9 HNX9 HFA HAL
     have hinc:IntKind.i64.wrap ((t:Int)+1)=((t+1:Nat):Int):=by rw [IntKind.wrap_i64];omega
     have HNX:=hid (HFQ.out.mono (N':=(t+1) * 600) (nn':=ns.length+(t+1)) (nf':=fs.length+2 * (t+1)) (P':=P+(t+1) * 5000) (by omega) (by omega) (by omega) (by omega))
     clear HFQ
     go_wp2
     go_roundw
     case rel=>exact ⟨t+1,by omega,by go_num,HNX.out⟩
     case measure=>simp [intOf];omega
   ·have e0:((x:Int) == 0)=false:=by simp;omega
    have e1:((x:Int) == 1)=false:=by simp;omega
    have e2:((x:Int) == 2)=false:=by simp;omega
    have e3:((x:Int) == 3)=false:=by simp;omega
    have e4:((x:Int) == 4)=false:=by simp;omega
    go_wp2_with fail
    refine (HF1.out.e e_three (by omega) (by omega) (by omega) _).mono ?_
    rintro e w6 ⟨g6,n6,k6,rfl,l6,d6⟩
    have HF6:=hid d6
    have HL6:=hid l6
    clear d6 l6 HF1
    go_wp2_with fail
    refine (HF6.out.put1 ⟨22,0,0,⟨#[]⟩,0⟩ _ HL6.out (by show (⟨#[]⟩:ByteArray).size≤1000;decide) (by omega)).mono ?_
    rintro e w7 ⟨g7,n7,k7,rfl,l7,d7⟩
    have HF7:=hid d7
    have HL7:=hid l7
    clear d7 l7 HF6 HL6
    have HAL:=hid ((Below.refl w7.heap.size w7).alloc (Nat.le_refl _) (.cells #[.slice (some ⟨g7,0,none⟩) n7 k7] 23))
    have HFA:=hid (HF7.out.next HAL.out)
    have HLA:=hid (HL7.out.gk (Gk.of_below (B:=0) HAL.out (Nat.zero_le _)))
    have hwz:W0.heap.size≤w7.heap.size:=HF7.out.gd.size
    obtain ⟨xs,ls,q1,q2,q3,q4,q5⟩:=HFA.out.parts
    have HQ2:=hid q2
    have HQ4:=hid q4
    have HQ5:=hid q5
    clear q2 q4 q5 HL7 HF7
    go_wp2_with (at_builtin;refine wpList_append_own _ rfl _ _ 96 rfl W0.heap.size 23 i0 (.slice none 0 0) 1 24 Tryz.underlying96 HHI.out.1 HHI.out.2.1 HHI.out.2.2.1 HHI.out.2.2.2 rfl (by decide) _ _ xs rfl HQ2.out ⟨w7.heap.size,0,none⟩ 1 1 [.slice (some ⟨g7,0,none⟩) n7 k7] rfl rfl ?c1 ?c2 ?c3 ?c4 ?c5 ?_)
    case c1 =>
     intro j u hj
     match j,hj with
     | 0,hj=>simp at hj;subst hj;exact cell_new_row w7 _ _ 0
    case c2=>intro u hu;simp at hu;subst hu;rfl
    case c3=>unfold maxLen;omega
    case c4=>omega
    case c5=>simp;omega
    intro vz wz oz gz _
    have HFZ:=hid (HFA.out.parted q1 q3 HQ4.out HQ5.out HQ2.out HLA.out gz oz)
    clear oz gz HFA HLA HQ2 HQ4 HQ5 HAL q1 q3
    have hinc:IntKind.i64.wrap ((t:Int)+1)=((t+1:Nat):Int):=by rw [IntKind.wrap_i64];omega
    have HNX:=hid (HFZ.out.mono (N':=(t+1) * 600) (nn':=ns.length+(t+1)) (nf':=fs.length+2 * (t+1)) (P':=P+(t+1) * 5000) (by omega) (by omega) (by omega) (by omega))
    clear HFZ
    go_wp2
    go_roundw
    case rel=>exact ⟨t+1,by omega,by go_num,HNX.out⟩
    case measure=>simp [intOf];omega
  ·obtain rfl:t=n:=by omega
   have hti:¬ (t:Int) < (t:Int):=by omega
   obtain ⟨pg,pk,hv⟩:=HF.out.parts.sl (by omega)
   cases hv
   have htn:t * 600≤3000:=by omega
   have htm:t * 5000≤25000:=by omega
   go_wp2_with fail
   refine (HF.out.putAll ⟨24,0,0,⟨#[]⟩,0⟩ rfl (by omega) (by show (⟨#[]⟩:ByteArray).size≤1000;decide) (by omega)).mono ?_
   rintro e w8 ⟨g8,n8,k8,rfl,l8,d8⟩
   have hb8:=(d8.gd.block rb _ _ _ HBX.out (by unfold GenT;decide) (by decide)).trans HBX.out
   have r0:=cell_hp hb8 0
   have rf:=frozen_hp hb8 0
   simp at r0
   have HF8:=hid d8
   have HL8:=hid l8
   have HB8:=hid hb8
   clear d8 l8 hb8 HF
   go_wp2
   refine bodyPost_ret (v:=.agg #[.slice (some ⟨g8,0,none⟩) n8 k8]) (by simp [results,Tryz.results60,go_sem,r0]) rfl ⟨g8,n8,k8,rfl,?_,?_,?_⟩
   ·obtain ⟨l,h1,h2⟩:=HL8.out
    refine ⟨l,h1.keep fun g cur hc=>Below.heap_setCell _ _ _ _ (fun e=>?_),h2.mono (by omega)⟩
    have e':g=rb:=e
    subst e'
    rw [HB8.out] at hc
    cases hc
   ·obtain ⟨ns8,fs8,_,_,hg8⟩:=HF8.out.gs
    refine ⟨ns8,fs8,(hg8.set_other HB8.out (by unfold GenT;decide) (by decide) (by decide) ?_ _).mono (by omega)⟩
    have:=HRB.out
    omega
   ·have hd:=HD0.out.trans HF8.out.gd
    have hne:∀ k,k < w.heap.size→(w8.setCell ⟨rb,0,none⟩ (.slice (some ⟨g8,0,none⟩) n8 k8)).heap[k]?=w8.heap[k]?:=fun k hk=>Below.heap_setCell _ _ _ _ (by show k≠rb;have:=HRB.out;omega)
    exact ⟨hd.os,hd.tape,hd.output,by have:=hd.size;simpa [World.setCell] using this,fun k hk=>(hne k (by omega)).trans (hd.low k hk),fun k cs t fr hc h1 h2=>(hne k (Array.getElem?_eq_some_iff.1 hc).1).trans (hd.block k cs t fr hc h1 h2)⟩
end Go.Proofs.YthnohneaanphbaaGreatDoor
