import Derived.Maps.AppendAt
import Derived.Deep.RegionLaw
import Derived.Test.YthnohneaanphbaaGreatDoorJ02
import Derived.Test.YthnohneaanphbaaGreatDoorJ08
import Derived.Test.YthnohneaanphbaaGreatDoorJ06
namespace Go.Proofs.YthnohneaanphbaaGreatDoor
open Go.RowKit
set_option maxRecDepth 20000
theorem run_full (s:ByteArray):run letB s.data.toList=s.size ↔ ∀ i (h:i < s.size),letB s[i]=true:=by
 constructor
 ·intro h i hi
  exact run_all letB s.data.toList s.size (by omega) i hi (by rw [len_size];exact hi)
 ·intro h
  by_cases hl:run letB s.data.toList=s.size
  ·exact hl
  ·exfalso
   have h1:=run_le letB s.data.toList
   rw [len_size] at h1
   have h2:run letB s.data.toList < s.data.toList.length:=by rw [len_size];omega
   have:=run_step letB s.data.toList _ (Nat.le_refl _) h2 (h _ (by omega))
   omega
theorem name_iff (s:ByteArray) (h0:0 < s.size):NameOk s ↔ s.size≤30∧run letB s.data.toList=s.size∧dig (s[0].toNat:Int)=false∧¬ s.data.toList ∈ words:=by
 rw [run_full]
 constructor
 ·rintro ⟨_,h1,h2,h3,h4⟩
  refine ⟨h1,h4,?_,h3⟩
  unfold begB beg at h2
  unfold dig
  simp at h2 ⊢
  omega
 ·rintro ⟨h1,h2,h3,h4⟩
  refine ⟨h0,h1,?_,h4,h2⟩
  have:=h2 0 h0
  unfold letB let_ at this
  rw [h3] at this
  simpa [begB] using this
set_option maxHeartbeats 1000000 in
theorem isName_at (s:ByteArray) (r:Nat) (w:World) (hs:s.size≤maxLen) (hr:w.heap[r]?=some (.map (wordE 17) 17)) :
  Calls Tryz.prog 38 #[.string s,.map (some r)] w fun e w'=>Says e (NameOk s)∧Below w.heap.size w w':=by
 have hml:=hs
 unfold maxLen at hs
 by_cases h0:s.size=0
 ·have HN:Hid (¬ NameOk s):=fun ⟨h,_⟩=>by omega
  have he:s=⟨#[]⟩:=ByteArray.ext (Array.eq_empty_of_size_eq_zero h0)
  subst he
  go_enter Tryz.func38,Tryz.ntmps38
  go_wp2
  go_ret
  exact ⟨says_f HN.out,Below.refl _ _⟩
 ·have hp:0 < s.size:=by omega
  have HI:=hid (name_iff s hp)
  have hq:=notEmpty s hp
  by_cases h30:s.size≤30
  ·have hrl:=run_le letB s.data.toList
   rw [len_size] at hrl
   obtain ⟨k,hk⟩:∃ k,run letB s.data.toList=k:=⟨_,rfl⟩
   rw [hk] at hrl
   have HK:=hid hk
   clear hk
   by_cases hks:k=s.size
   ·subst hks
    cases hd:dig (s[0].toNat:Int)
    ·by_cases hm:s.data.toList ∈ words
     ·have hlk:=lookup_word w r hr s
      rw [if_pos hm,decide_eq_true hm] at hlk
      have HM:=hid hm
      clear hm hr
      go_enter Tryz.func38,Tryz.ntmps38
      go_wp2_with (first
       | (go_at_call 70;refine (nameSize_any s _ hml).mono ?_;rintro e w' ⟨rfl,hw⟩;have hw2:=hw.symm;clear hw;subst hw2;rw [HK.out])
       | (go_at_call 71;refine (isDigit_any _ _).mono ?_;rintro e w' ⟨rfl,hw⟩;have hw2:=hw.symm;clear hw;subst hw2;rw [hd]))
      all_goals go_ret
      all_goals exact ⟨says_f (fun h=>(HI.out.1 h).2.2.2 HM.out),Below.refl _ _⟩
     ·have hlk:=lookup_word w r hr s
      rw [if_neg hm,decide_eq_false hm] at hlk
      have HM:=hid hm
      clear hm hr
      go_enter Tryz.func38,Tryz.ntmps38
      go_wp2_with (first
       | (go_at_call 70;refine (nameSize_any s _ hml).mono ?_;rintro e w' ⟨rfl,hw⟩;have hw2:=hw.symm;clear hw;subst hw2;rw [HK.out])
       | (go_at_call 71;refine (isDigit_any _ _).mono ?_;rintro e w' ⟨rfl,hw⟩;have hw2:=hw.symm;clear hw;subst hw2;rw [hd]))
      all_goals go_ret
      all_goals exact ⟨says_t (HI.out.2 ⟨h30,HK.out,hd,HM.out⟩),Below.refl _ _⟩
    ·have HF:Hid (¬ NameOk s):=fun h=>by have:=(HI.out.1 h).2.2.1;rw [hd] at this;cases this
     go_enter Tryz.func38,Tryz.ntmps38
     go_wp2_with (first
      | (go_at_call 70;refine (nameSize_any s _ hml).mono ?_;rintro e w' ⟨rfl,hw⟩;have hw2:=hw.symm;clear hw;subst hw2;rw [HK.out])
      | (go_at_call 71;refine (isDigit_any _ _).mono ?_;rintro e w' ⟨rfl,hw⟩;have hw2:=hw.symm;clear hw;subst hw2;rw [hd]))
     all_goals go_ret
     all_goals exact ⟨says_f HF.out,Below.refl _ _⟩
   ·have HF:Hid (¬ NameOk s):=fun h=>by have:=(HI.out.1 h).2.1;rw [HK.out] at this;exact hks this
    have hlt:k < s.size:=by omega
    go_enter Tryz.func38,Tryz.ntmps38
    go_wp2_with (go_at_call 70;refine (nameSize_any s _ hml).mono ?_;rintro e w' ⟨rfl,hw⟩;have hw2:=hw.symm;clear hw;subst hw2;rw [HK.out])
    all_goals go_ret
    all_goals exact ⟨says_f HF.out,Below.refl _ _⟩
  ·have HF:Hid (¬ NameOk s):=fun h=>h30 (HI.out.1 h).1
   go_enter Tryz.func38,Tryz.ntmps38
   go_wp2
   go_ret
   exact ⟨says_f HF.out,Below.refl _ _⟩
set_option maxHeartbeats 1000000 in
theorem isPackage_any (s:ByteArray) (w:World) (hs:s.size≤maxLen) :
  Calls Tryz.prog 90 #[.string s] w fun e w'=>Says e (PkgOk s)∧Below w.heap.size w w':=by
 unfold maxLen at hs
 by_cases h0:s.size=0
 ·have HN:Hid (¬ PkgOk s):=fun h=>by have:=h.1;omega
  have he:s=⟨#[]⟩:=ByteArray.ext (Array.eq_empty_of_size_eq_zero h0)
  subst he
  go_enter Tryz.func90,Tryz.ntmps90
  go_wp2
  go_ret
  exact ⟨says_f HN.out,Below.refl _ _⟩
 ·have hp:0 < s.size:=by omega
  have hq:=notEmpty s hp
  by_cases h30:s.size≤30
  ·go_enter Tryz.func90,Tryz.ntmps90
   go_wp2
   go_loop [13] (fun i=>∃ k:Nat,k≤s.size∧i=.int .i64 k∧∀ j (h:j < s.size),j < k→pkgB s[j]=true) (fun i=>s.size - (intOf i).toNat)
   case atStart=>exact ⟨0,Nat.zero_le _,rfl,fun j h h0=>absurd h0 (Nat.not_lt_zero _)⟩
   case round =>
    obtain ⟨k,hk,rfl,hr⟩:=hrel
    have HR:=hid hr
    clear hr
    by_cases hlt:k < s.size
    ·have NX0:Hid (pkg_ (s[k].toNat:Int)=true→∀ j (h:j < s.size),j < k+1→pkgB s[j]=true):=fun hp j h hj=>by
      rcases Nat.lt_or_eq_of_le (Nat.lt_succ_iff.1 hj) with h' | h'
      ·exact HR.out j h h'
      ·subst h';exact hp
     have HP:Hid (pkg_ (s[k].toNat:Int)=(let_ (s[k].toNat:Int) || (s[k].toNat:Int) == 45 || (s[k].toNat:Int) == 46 || (s[k].toNat:Int) == 47)):=by
      show _=_
      unfold pkg_ let_ beg
      generalize dig (s[k].toNat:Int)=d
      cases d <;> simp
     have NE:Hid (pkg_ (s[k].toNat:Int)=false→¬ PkgOk s):=fun hp h=>by have:=h.2.2 k hlt;unfold pkgB at this;rw [hp] at this;cases this
     cases hl:let_ (s[k].toNat:Int)
     ·by_cases b1:(s[k].toNat:Int)=45
      ·have NX:=hid (NX0.out (by rw [HP.out,b1];simp))
       have c1:((s[k].toNat:Int) != 45)=false:=by rw [b1];rfl
       clear b1
       go_wp2_with (go_at_call 100;refine (isName_any _ _).mono ?_;rintro e w' ⟨rfl,rfl⟩)
       go_round
       case rel=>exact ⟨k+1,by omega,by go_num,NX.out⟩
       case measure=>simp [intOf];omega
      ·have c1:((s[k].toNat:Int) != 45)=true:=by rw [bne_iff_ne];exact b1
       by_cases b2:(s[k].toNat:Int)=46
       ·have NX:=hid (NX0.out (by rw [HP.out,b2];simp))
        have c2:((s[k].toNat:Int) != 46)=false:=by rw [b2];rfl
        clear b2 b1
        go_wp2_with (go_at_call 100;refine (isName_any _ _).mono ?_;rintro e w' ⟨rfl,rfl⟩)
        go_round
        case rel=>exact ⟨k+1,by omega,by go_num,NX.out⟩
        case measure=>simp [intOf];omega
       ·have c2:((s[k].toNat:Int) != 46)=true:=by rw [bne_iff_ne];exact b2
        by_cases b3:(s[k].toNat:Int)=47
        ·have NX:=hid (NX0.out (by rw [HP.out,b3];simp))
         have c3:((s[k].toNat:Int) != 47)=false:=by rw [b3];rfl
         clear b3 b2 b1
         go_wp2_with (go_at_call 100;refine (isName_any _ _).mono ?_;rintro e w' ⟨rfl,rfl⟩)
         go_round
         case rel=>exact ⟨k+1,by omega,by go_num,NX.out⟩
         case measure=>simp [intOf];omega
        ·have c3:((s[k].toNat:Int) != 47)=true:=by rw [bne_iff_ne];exact b3
         have HE:=hid (NE.out (by rw [HP.out,hl];simp;omega))
         clear b1 b2 b3
         go_wp2_with (go_at_call 100;refine (isName_any _ _).mono ?_;rintro e w' ⟨rfl,rfl⟩)
         go_ret
         exact ⟨says_f HE.out,Below.refl _ _⟩
     ·have NX:=hid (NX0.out (by rw [HP.out,hl];simp))
      go_wp2_with (go_at_call 100;refine (isName_any _ _).mono ?_;rintro e w' ⟨rfl,rfl⟩)
      go_round
      case rel=>exact ⟨k+1,by omega,by go_num,NX.out⟩
      case measure=>simp [intOf];omega
    ·go_wp2
     go_ret
     exact ⟨says_t ⟨hp,h30,fun i h=>HR.out i h (by omega)⟩,Below.refl _ _⟩
  ·have HN:Hid (¬ PkgOk s):=fun h=>h30 h.2.1
   go_enter Tryz.func90,Tryz.ntmps90
   go_wp2
   go_ret
   exact ⟨says_f HN.out,Below.refl _ _⟩
def sdCells (x:Nd) (h:Nat):List Value:=[.int .i64 x.kind,.int .i64 x.op,.int .i64 x.n,.string x.text,.int .i64 x.kids,.int .i64 h]
def sdRow (nd:Nat→Nd) (hs s:List Nat):List Value:=s.flatMap fun x=>sdCells (nd x) (hs.getD x 0)
theorem sdRow_length (nd:Nat→Nd) (hs s:List Nat):(sdRow nd hs s).length=s.length * 6:=by
 induction s with
 | nil=>rfl
 | cons x s ih=>simp [sdRow,sdCells] at ih ⊢;omega
theorem sdRow_append (nd:Nat→Nd) (hs s t:List Nat):sdRow nd hs (s ++ t)=sdRow nd hs s ++ sdRow nd hs t:=by simp [sdRow]
theorem sdRow_grow (nd:Nat→Nd) (hs:List Nat) (h:Nat) (s:List Nat) (hl:∀ x ∈ s,x < hs.length):sdRow nd (hs ++ [h]) s=sdRow nd hs s:=by
 induction s with
 | nil=>rfl
 | cons x s ih =>
  have e:(hs ++ [h]).getD x 0=hs.getD x 0:=by
   rw [List.getD_eq_getElem?_getD,List.getD_eq_getElem?_getD,List.getElem?_append_left (hl x (by simp))]
  have:=ih (fun y hy=>hl y (by simp [hy]))
  simp only [sdRow,List.flatMap_cons] at this ⊢
  rw [this,e]
theorem sdRow_snoc (nd:Nat→Nd) (hs:List Nat) (h j:Nat) (s:List Nat) (hl:∀ x ∈ s,x < hs.length) (hj:hs.length=j):sdRow nd (hs ++ [h]) (s ++ [j])=sdRow nd hs s ++ sdCells (nd j) h:=by
 rw [sdRow_append,sdRow_grow nd hs h s hl]
 congr 1
 have e:(hs ++ [h]).getD j 0=h:=by rw [List.getD_eq_getElem?_getD,List.getElem?_append_right (by omega),hj];simp
 simp only [sdRow,List.flatMap_cons,List.flatMap_nil,List.append_nil]
 rw [e]
theorem sdRow_get (nd:Nat→Nd) (hs s:List Nat) (i:Nat) (hi:i < s.length) (t:Nat) (ht:t < 6):(sdRow nd hs s)[i * 6+t]?=(sdCells (nd (s.getD i 0)) (hs.getD (s.getD i 0) 0))[t]?:=by
 induction s generalizing i with
 | nil=>simp at hi
 | cons x s ih =>
  simp only [sdRow,List.flatMap_cons] at ih ⊢
  cases i with
  | zero=>rw [List.getElem?_append_left (by simp [sdCells];omega)];simp
  | succ i =>
   rw [List.getElem?_append_right (by simp [sdCells];omega)]
   have:=ih i (by simpa using hi)
   rw [show (i+1) * 6+t - (sdCells (nd x) (hs.getD x 0)).length=i * 6+t by simp [sdCells];omega,this]
   simp
def SdAt (W:World) (g cap n:Nat) (xs:List Value):Prop:=xs.length=n * 6∧n≤cap∧cap≤maxLen∧∃ cur,W.heap[g]?=some (.cells cur 113 (0,0))∧cur.size=cap * 6∧cur.toList.take (n * 6)=xs
theorem SdAt.own {W:World} {B g cap n:Nat} {xs:List Value} (h:SdAt W g cap n xs) (hB:B≤g):W.ownsRow B 113 6 (.slice (some ⟨g,0,none⟩) n cap) n xs:=by
 obtain ⟨h1,h2,h3,cur,h4,h5,h6⟩:=h
 exact ⟨h1,.inr ⟨g,cap,cur,rfl,hB,h4,h2,h3,h5,h6⟩⟩
theorem SdAt.of_own {W:World} {B:Nat} {v:Value} {n:Nat} {xs:List Value} (h:W.ownsRow B 113 6 v n xs):v=.slice none 0 0∧n=0∧xs=[]∨∃ g cap,v=.slice (some ⟨g,0,none⟩) n cap∧B≤g∧SdAt W g cap n xs:=by
 obtain ⟨h1,⟨h2,h2b⟩ | ⟨g,cap,cur,h2,h3,h4,h5,h6,h7,h8⟩⟩:=h
 ·exact .inl ⟨h2,h2b,List.length_eq_zero_iff.1 (by rw [h1,h2b])⟩
 ·exact .inr ⟨g,cap,h2,h3,h1,h5,h6,cur,h4,h7,h8⟩
theorem own_nil (W:World) (B:Nat):W.ownsRow B 113 6 (.slice none 0 0) 0 []:=⟨rfl,.inl ⟨rfl,rfl⟩⟩
theorem SdAt.lt {W:World} {g cap n:Nat} {xs:List Value} (h:SdAt W g cap n xs):g < W.heap.size:=by
 obtain ⟨_,_,_,cur,h4,_⟩:=h
 exact (Array.getElem?_eq_some_iff.1 h4).1
theorem SdAt.below {W W':World} {g cap n:Nat} {xs:List Value} (h:SdAt W g cap n xs) (hb:Below W.heap.size W W'):SdAt W' g cap n xs:=by
 have hl:=h.lt
 obtain ⟨h1,h2,h3,cur,h4,h5⟩:=h
 exact ⟨h1,h2,h3,cur,(hb.block g hl).trans h4,h5⟩
theorem SdAt.front {W:World} {g cap n p:Nat} {xs ys:List Value} (h:SdAt W g cap n (xs ++ ys)) (hp:xs.length=p * 6):SdAt W g cap p xs:=by
 obtain ⟨h1,h2,h3,cur,h4,h5,h6⟩:=h
 rw [List.length_append] at h1
 refine ⟨hp,by omega,h3,cur,h4,h5,?_⟩
 have:(cur.toList.take (n * 6)).take (p * 6)=(xs ++ ys).take (p * 6):=by rw [h6]
 rw [List.take_take,Nat.min_eq_left (by omega)] at this
 rw [this,← hp];simp
theorem SdAt.cell {W:World} {g cap n:Nat} {xs:List Value} (h:SdAt W g cap n xs) (i:Nat) (hi:i < n * 6):W.cell? ⟨g,i,none⟩=xs[i]?:=by
 obtain ⟨h1,h2,h3,cur,h4,h5,h6⟩:=h
 have e1:W.cell? ⟨g,i,none⟩=cur[i]?:=by unfold World.cell?;rw [h4];rfl
 rw [e1,← h6,List.getElem?_take_of_lt hi];simp
theorem SdAt.stand {W:World} {g cap:Nat} {nd:Nat→Nd} {hs sp sk:List Nat} {n p:Nat} (h:SdAt W g cap n (sdRow nd hs (sp ++ sk))) (hp:sp.length=p):StandAt W g (p * 6) sk.length (fun i=>nd (sk.getD i 0)) (fun i=>hs.getD (sk.getD i 0) 0):=by
 intro i hi
 have hn:n * 6=(sp.length+sk.length) * 6:=by rw [← h.1,sdRow_length,List.length_append]
 have e:(sp ++ sk).getD (p+i) 0=sk.getD i 0:=by
  rw [List.getD_eq_getElem?_getD,List.getD_eq_getElem?_getD,List.getElem?_append_right (by omega),hp,Nat.add_sub_cancel_left]
 have f:∀ t,t < 6→W.cell? ⟨g,p * 6+i * 6+t,none⟩=(sdCells (nd (sk.getD i 0)) (hs.getD (sk.getD i 0) 0))[t]?:=fun t ht=>by
  rw [h.cell _ (by omega),show p * 6+i * 6+t=(p+i) * 6+t by omega,sdRow_get nd hs _ (p+i) (by rw [List.length_append];omega) t ht,e]
 exact ⟨f 0 (by omega),f 1 (by omega),f 2 (by omega),f 3 (by omega),f 4 (by omega),f 5 (by omega)⟩
theorem highs_le (o:List (List Nat)):∀ x,(highs o).getD x 0≤o.length:=by
 have up:∀ (l:List Nat) (b:Nat),(∀ x ∈ l,x≤b)→upK l≤b+1:=by
  intro l b h
  have:∀ n,∀ l:List Nat,l.length=n→(∀ x ∈ l,x≤b)→upK l≤b+1:=by
   intro n
   induction n with
   | zero=>intro l h _;rw [List.length_eq_zero_iff.1 h];simp [upK]
   | succ n ih =>
    intro l h hx
    obtain ⟨l',y,rfl⟩:=(List.eq_nil_or_concat l).resolve_left (by rintro rfl;cases h)
    rw [List.concat_eq_append] at h hx ⊢
    rw [upK_snoc]
    have h1:=ih l' (by simp at h;exact h) (fun x hm=>hx x (by simp [hm]))
    have h2:=hx y (by simp)
    omega
  exact this _ l rfl h
 have:∀ n,∀ o:List (List Nat),o.length=n→∀ x,(highs o).getD x 0≤o.length:=by
  intro n
  induction n with
  | zero=>intro o h x;rw [List.length_eq_zero_iff.1 h];simp [highs]
  | succ n ih =>
   intro o h x
   obtain ⟨o',ks,rfl⟩:=(List.eq_nil_or_concat o).resolve_left (by rintro rfl;cases h)
   rw [List.concat_eq_append] at h ⊢
   have hn:o'.length=n:=by simp at h;exact h
   have hi:=ih o' hn
   rw [highs_snoc,List.length_append]
   have hu:=up (kidHighs (highs o') ks) o'.length (fun y hy=>by
    obtain ⟨k,_,rfl⟩:=List.mem_map.1 hy
    exact hi k)
   by_cases e:x < (highs o').length
   ·rw [List.getD_eq_getElem?_getD,List.getElem?_append_left e,← List.getD_eq_getElem?_getD]
    exact Nat.le_trans (hi x) (Nat.le_add_right _ _)
   ·rw [List.getD_eq_getElem?_getD,List.getElem?_append_right (by omega)]
    rcases Nat.eq_zero_or_pos (x - (highs o').length) with h0 | h0
    ·rw [h0];simpa using hu
    ·rw [List.getElem?_eq_none (by simp;omega)];simp
 exact this _ o rfl
theorem step_append_own_at {P:Program} {ops:Array Oper} {o:Oper} {a:Act} {w:World} {K:Act→World→Prop} {Q:Exit→Act→World→Prop} {E:Prop} (hg:o.guard=none) (s x:Operand) (t:TypeId)
  (hop:o.op=Op.call { callee:=Callee.builtin Builtin.append,args:=#[s,x],argTypes:=#[t,t] })
  (base:Nat) (e:TypeId) (i:TypeInfo) (z:Value) (size bytes:Nat) (ht:P.underlying t=some (.slice e)) (hi:P.info? e=some i) (hz:i.zero=some z)
  (hsize:i.size=size) (hby:i.bytes=bytes) (hzs:z.cells.size=size) (hsz:0 < size)
  (v:Value) (n:Nat) (xs:List Value) (hs:a.eval s=v) (hown:w.ownsRow base e size v n xs)
  (ad:Addr) (m c:Nat) (news:List Value) (hx:a.eval x=.slice (some ad) m c) (hl:news.length=m * size) (hnews:∀ j u,news[j]?=some u→w.cell? (ad.add j)=some u) (h1:∀ u ∈ news,u.oneCell'=true)
  (h63:n+m≤maxLen) (hbytes:(n+m) * bytes≤140737488355328) (hbase:base≤w.heap.size)
  (h:∀ v' w',w'.ownsRow base e size v' (n+m) (xs ++ news)→w.grownBy w' v.ownBlock→(v'=.slice none 0 0 ↔ v=.slice none 0 0∧m=0)→(v'.ownBlock=v.ownBlock∨v'.ownBlock=some w.heap.size)→K (a.put o.dst v') w') :
  if Region.wanted o (yielded ops a.tmps)=true then Oper.wp P o a w K Q else E:=by
 have hw:Region.wanted o (yielded ops a.tmps)=true:=by simp [Region.wanted,hg]
 rw [if_pos hw]
 obtain ⟨v',w',hr,h2,h3,h4,h5⟩:=run_append_own_at (P:=P) w base t o.type e i z size bytes ht hi hz hsize hby hzs hsz v n xs hown ad m c news hl hnews h1 h63 hbytes hbase
 unfold Oper.wp
 simp [execOp,hop,resolve,invoke,builtin,hs,hx,hr,Result.andThen]
 exact h v' w' h2 h3 h4 h5
def ndRow:List Nd→List Value
 | []=>[]
 | x :: l=>.int .i64 x.kind :: .int .i64 x.op :: .int .i64 x.n :: .string x.text :: .int .i64 x.kids :: ndRow l
theorem ndRow_length (l:List Nd):(ndRow l).length=l.length * 5:=by
 induction l with
 | nil=>rfl
 | cons x l ih=>simp only [ndRow,List.length_cons,ih];omega
theorem ndRow_append (a b:List Nd):ndRow (a ++ b)=ndRow a ++ ndRow b:=by
 induction a with
 | nil=>rfl
 | cons x a ih=>simp [ndRow,ih]
theorem ndRow_one (l:List Nd):∀ u ∈ ndRow l,u.oneCell'=true:=by
 induction l with
 | nil=>simp [ndRow]
 | cons x l ih =>
  intro u hu
  simp only [ndRow,List.mem_cons] at hu
  rcases hu with rfl | rfl | rfl | rfl | rfl | hu
  ·rfl
  ·rfl
  ·rfl
  ·rfl
  ·rfl
  ·exact ih u hu
theorem add_none (g o j:Nat):((⟨g,o,none⟩:Addr).add j)=⟨g,o+j,none⟩:=by
 unfold Addr.add
 split
 ·rename_i h;rw [h];rfl
 ·rfl
def NdIn (w:World) (v:Value) (l:List Nd):Prop:=l≠[]∧∃ (g k:Nat) (cur:Array Value),v=.slice (some ⟨g,0,none⟩) l.length (l.length+k)∧w.heap[g]?=some (.cells cur 35 (0,0))∧∀ (j:Nat) u,(ndRow l)[j]?=some u→cur[j]?=some u
theorem NdIn.keep {w w':World} {v:Value} {l:List Nd} (h:NdIn w v l) (hk:∀ (g:Nat) (cur:Array Value),w.heap[g]?=some (.cells cur 35 (0,0))→w'.heap[g]?=w.heap[g]?):NdIn w' v l:=by
 obtain ⟨h0,g,cap,cur,e,h1,h2⟩:=h
 exact ⟨h0,g,cap,cur,e,(hk g cur h1).trans h1,h2⟩
theorem NdIn.next {w w':World} {v:Value} {l:List Nd} (h:NdIn w v l) (hb:Below w.heap.size w w'):NdIn w' v l:=h.keep fun g _ hg=>hb.block g (Array.getElem?_eq_some_iff.1 hg).1
theorem NdIn.of_own {w:World} {B:Nat} {v:Value} {l:List Nd} (h:w.ownsRow B 35 5 v l.length (ndRow l)) (h0:l≠[]):NdIn w v l:=by
 have hl:l.length≠0:=by simpa using h0
 rcases h.2 with ⟨_,hz⟩ | ⟨g,cap,cur,hv,_,hg,hc,_,_,ht⟩
 ·exact absurd hz hl
 ·refine ⟨h0,g,cap - l.length,cur,by rw [hv];congr 1;omega,hg,fun j u hu=>?_⟩
  rw [← ht] at hu
  have hj:=(List.getElem?_eq_some_iff.1 hu).1
  rw [List.length_take] at hj
  rw [List.getElem?_take_of_lt (by omega)] at hu
  simpa using hu
theorem NdIn.cells {w:World} {g n cap:Nat} {l:List Nd} (h:NdIn w (.slice (some ⟨g,0,none⟩) n cap) l):n=l.length∧g < w.heap.size∧∀ j u,(ndRow l)[j]?=some u→w.cell? ((⟨g,0,none⟩:Addr).add j)=some u:=by
 obtain ⟨h0,g',cap',cur,e,h1,h2⟩:=h
 injection e with e1 e2 e3
 injection e1 with e1
 injection e1 with e1
 subst e1 e2
 refine ⟨rfl,(Array.getElem?_eq_some_iff.1 h1).1,fun j u hu=>?_⟩
 rw [add_none,Nat.zero_add]
 unfold World.cell?
 rw [h1]
 exact h2 j u hu
def NdOk (K:Nat) (l:List Nd):Prop:=l.length≤K∧∀ x ∈ l,x.text.size≤1000
theorem NdOk.mono {K K':Nat} {l:List Nd} (h:NdOk K l) (hK:K≤K'):NdOk K' l:=⟨Nat.le_trans h.1 hK,h.2⟩
theorem info_nd:(Tryz.prog.info? 35).map (fun i=>(i.zero,i.size,i.bytes))=some (some (.agg #[.int .i64 0,.int .i64 0,.int .i64 0,.string ⟨#[]⟩,.int .i64 0]),5,48):=by kernel_rfl
def PartsIn (w:World) (ad:Option Addr) (xs:List Value) (ls:List (List Nd)):Prop :=
 xs.length=ls.length∧(xs=[]∨∃ g:Nat,ad=some ⟨g,0,none⟩∧(∃ cur:Array Value,w.heap[g]?=some (.cells cur 23 (0,0))∧∀ (j:Nat) u,xs[j]?=some u→cur[j]?=some u))∧∀ (j:Nat) u l,xs[j]?=some u→ls[j]?=some l→NdIn w u l
theorem PartsIn.next {w w':World} {ad:Option Addr} {xs:List Value} {ls:List (List Nd)} (h:PartsIn w ad xs ls) (hb:Below w.heap.size w w'):PartsIn w' ad xs ls:=by
 obtain ⟨h1,h2,h3⟩:=h
 refine ⟨h1,h2.imp_right ?_,fun j u l hu hl=>(h3 j u l hu hl).next hb⟩
 rintro ⟨g,e,cur,a,b⟩
 exact ⟨g,e,cur,(hb.block g (Array.getElem?_eq_some_iff.1 a).1).trans a,b⟩
theorem flat_take_succ (ls:List (List Nd)) (j:Nat) (l:List Nd) (h:ls[j]?=some l):(ls.take (j+1)).flatten=(ls.take j).flatten ++ l:=by
 obtain ⟨hj,rfl⟩:=List.getElem?_eq_some_iff.1 h
 rw [List.take_succ_eq_append_getElem hj,List.flatten_append];simp
theorem flat_take_le (ls:List (List Nd)) (j:Nat):(ls.take j).flatten.length≤ls.flatten.length:=by
 have:ls.flatten=(ls.take j).flatten ++ (ls.drop j).flatten:=by rw [← List.flatten_append,List.take_append_drop]
 rw [this,List.length_append];omega
theorem own_blk {w:World} {B n:Nat} {v:Value} {xs:List Value} {e size:Nat} (h:w.ownsRow B e size v n xs):∀ k,v.ownBlock=some k→B≤k:=fun k hk=>(h.lt k hk).1
theorem own_sl {w:World} {B e size k:Nat} {v:Value} {xs:List Value} (h:w.ownsRow B e size v k xs):∃ a cap,v=.slice a k cap:=by
 rcases h.2 with ⟨hv,h0⟩ | ⟨g,cap,cur,hv,_⟩
 ·exact ⟨none,0,by rw [hv,h0]⟩
 ·exact ⟨_,_,hv⟩
set_option maxHeartbeats 4000000 in
theorem l2Over_any (x:Nd) (ad:Option Addr) (n c:Nat) (xs:List Value) (ls:List (List Nd)) (w:World) (hn:xs.length=n) (hn2:n≤100000) (hk:PartsIn w ad xs ls) (hsz:ls.flatten.length≤1000000) :
  Calls Tryz.prog 59 #[.agg #[.int .i64 x.kind,.int .i64 x.op,.int .i64 x.n,.string x.text,.int .i64 x.kids],.slice ad n c] w fun e w'=>∃ s,e=.returned s∧NdIn w' s (ls.flatten ++ [{ x with kids:=n }])∧Below w.heap.size w w':=by
 obtain ⟨i0,hi,hz0,hz1,hz2⟩:=info_parts info_nd
 have HHI:=hid (And.intro hi (And.intro hz0 (And.intro hz1 hz2)))
 have HK:=hid hk
 have HN:=hid hn
 have HSZ:=hid hsz
 clear hi hz0 hz1 hz2 hk hn hsz
 have HB0:Hid (Below w.heap.size w ((w.alloc (.cells #[.int .i64 x.kind,.int .i64 x.op,.int .i64 x.n,.string x.text,.int .i64 x.kids] 35)).alloc (.cells #[] 35))):=((Below.refl _ _).alloc (Nat.le_refl _) _).alloc (by simp) _
 have HX0:Hid (((w.alloc (.cells #[.int .i64 x.kind,.int .i64 x.op,.int .i64 x.n,.string x.text,.int .i64 x.kids] 35)).alloc (.cells #[] 35)).heap[w.heap.size]?=some (.cells #[.int .i64 x.kind,.int .i64 x.op,.int .i64 x.n,.string x.text,.int .i64 x.kids] 35 (0,0))):=by
  show _=_
  rw [Below.heap_alloc _ _ _ (by simp)];exact heap_alloc_new w _
 have HO0:Hid (((w.alloc (.cells #[.int .i64 x.kind,.int .i64 x.op,.int .i64 x.n,.string x.text,.int .i64 x.kids] 35)).alloc (.cells #[] 35)).ownsRow (w.heap.size+1) 35 5 (.slice (some ⟨w.heap.size+1,0,none⟩) 0 0) 0 []):=by
  refine ⟨rfl,.inr ⟨w.heap.size+1,0,#[],rfl,Nat.le_refl _,?_,Nat.le_refl _,by unfold maxLen;omega,rfl,rfl⟩⟩
  have:=heap_alloc_new (w.alloc (.cells #[.int .i64 x.kind,.int .i64 x.op,.int .i64 x.n,.string x.text,.int .i64 x.kids] 35)) (.cells #[] 35)
  rwa [World.size_alloc] at this
 go_enter Tryz.func59,Tryz.ntmps59
 go_wp2
 go_loopw [5,6] (fun v i wr=>∃ (j m:Nat),j≤n∧i=.int .i64 j∧(ls.take j).flatten.length=m∧wr.heap[w.heap.size]?=some (.cells #[.int .i64 x.kind,.int .i64 x.op,.int .i64 x.n,.string x.text,.int .i64 x.kids] 35 (0,0))∧wr.ownsRow (w.heap.size+1) 35 5 v m (ndRow (ls.take j).flatten)∧Below w.heap.size w wr∧w.heap.size+2≤wr.heap.size) (fun _ i _=>n - (intOf i).toNat)
 case atStart=>exact ⟨0,0,Nat.zero_le _,rfl,by simp,HX0.out,HO0.out,HB0.out,by simp⟩
 case round =>
  obtain ⟨j,m,hj,rfl,hm,hx,how,hbw,hs2⟩:=hrel
  have HM:=hid hm
  have HXW:=hid hx
  have HOW:=hid how
  have HBW:=hid hbw
  have hmle:m≤1000000:=by rw [← hm];exact Nat.le_trans (flat_take_le ls j) HSZ.out
  obtain ⟨ao,ac,rfl⟩:=own_sl how
  clear hm hx how hbw
  by_cases hlt:j < n
  ·have hjl:j < xs.length:=by rw [HN.out];exact hlt
   obtain ⟨hk1,hk2,hk3⟩:=HK.out
   obtain ⟨u,hu⟩:∃ u,xs[j]?=some u:=⟨_,List.getElem?_eq_getElem hjl⟩
   obtain ⟨l,hl⟩:∃ l,ls[j]?=some l:=⟨_,List.getElem?_eq_getElem (by rw [← hk1];exact hjl)⟩
   have hnd:=hk3 j u l hu hl
   obtain ⟨pg,rfl,pcur,hp1,hp2⟩:=hk2.resolve_left (fun e=>by rw [e] at hjl;simp at hjl)
   have hpl:=(Array.getElem?_eq_some_iff.1 hp1).1
   have hck:wr.cell? ⟨pg,j,none⟩=some u:=by
    rw [HBW.out.cell (p:=⟨pg,j,none⟩) hpl]
    unfold World.cell?
    rw [hp1]
    exact hp2 j u hu
   have hl0:=hnd.1
   obtain ⟨g,cap,rfl⟩:∃ g cap,u=.slice (some ⟨g,0,none⟩) l.length cap:=by obtain ⟨_,g,cap,_,e,_⟩:=hnd;exact ⟨g,_,e⟩
   obtain ⟨_,hgl,hcl⟩:=hnd.cells
   have HCL:Hid (∀ q u,(ndRow l)[q]?=some u→wr.cell? ((⟨g,0,none⟩:Addr).add q)=some u):=fun q u h=>by
    rw [← hcl q u h,add_none]
    exact HBW.out.cell (p:=⟨g,0+q,none⟩) hgl
   have HNX:=hid (flat_take_succ ls j l hl)
   have hmN:m+l.length≤1000000:=by
    have h1:=flat_take_le ls (j+1)
    rw [HNX.out,List.length_append,HM.out] at h1
    exact Nat.le_trans h1 HSZ.out
   have hlp:0 < l.length:=List.length_pos_iff.2 hl0
   obtain ⟨N,hN⟩:∃ N,l.length=N:=⟨_,rfl⟩
   have HLN:=hid hN
   rw [hN] at hck hmN hlp
   have HRL:Hid ((ndRow l).length=N * 5):=by show _=_;rw [ndRow_length,HLN.out]
   clear hN hcl hnd hl0 hk1 hk2 hk3 hu hl hp1 hp2
   go_wp2_with (at_builtin;refine wpList_append_own_at _ rfl (.tmp 14) (.tmp 18) 23 rfl (w.heap.size+1) 35 i0 (.agg #[.int .i64 0,.int .i64 0,.int .i64 0,.string ⟨#[]⟩,.int .i64 0]) 5 48 Tryz.underlying23 HHI.out.1 HHI.out.2.1 HHI.out.2.2.1 HHI.out.2.2.2 rfl (by decide) _ m (ndRow (ls.take j).flatten) rfl HOW.out ⟨g,0,none⟩ N cap (ndRow l) rfl HRL.out HCL.out (ndRow_one l) (by unfold maxLen;omega) (by omega) (by omega) ?_)
   intro v' w1 h2 h3 h4 h5
   have HO1:Hid (w1.ownsRow (w.heap.size+1) 35 5 v' (m+N) (ndRow (ls.take (j+1)).flatten)):=by
    show World.ownsRow _ _ _ _ _ _ _
    rw [HNX.out,ndRow_append]
    exact h2
   have HB1:=hid (HBW.out.grown h3 HBW.out.size (fun k e=>by have:=own_blk HOW.out k e;omega))
   have HX1:Hid (w1.heap[w.heap.size]?=some (.cells #[.int .i64 x.kind,.int .i64 x.op,.int .i64 x.n,.string x.text,.int .i64 x.kids] 35 (0,0))):=(h3.block w.heap.size (by omega) (fun e=>by have:=own_blk HOW.out _ e.symm;omega)).trans HXW.out
   have hz1:wr.heap.size≤w1.heap.size:=h3.size
   obtain ⟨a1,c1,rfl⟩:=own_sl HO1.out
   clear h2 h3 h4 h5
   go_wp2
   go_roundw
   case rel=>exact ⟨j+1,m+N,by omega,by go_num,by rw [HNX.out,List.length_append,HM.out,HLN.out],HX1.out,HO1.out,HB1.out,by omega⟩
   case measure=>simp [intOf];omega
  ·obtain rfl:j=n:=by omega
   have HALL:Hid ((ls.take j).flatten=ls.flatten):=by show _=_;rw [List.take_of_length_le (by rw [← HK.out.1,HN.out];omega)]
   have c0:=cell_hp HXW.out 0
   have c1:=cell_hp HXW.out 1
   have c2:=cell_hp HXW.out 2
   have c3:=cell_hp HXW.out 3
   have c4:=cell_hp HXW.out 4
   have f4:=frozen_hp HXW.out 4
   simp at c0 c1 c2 c3 c4
   have HBS:Hid (Below w.heap.size w (wr.setCell ⟨w.heap.size,4,none⟩ (.int .i64 (j:Int)))):=HBW.out.setCell (p:=⟨w.heap.size,4,none⟩) (Nat.le_refl _) _
   have HOS:Hid ((wr.setCell ⟨w.heap.size,4,none⟩ (.int .i64 (j:Int))).ownsRow (w.heap.size+1) 35 5 (.slice ao m ac) m (ndRow (ls.take j).flatten)) :=
    HOW.out.kept (row:=some w.heap.size) ⟨rfl,rfl,rfl,by simp [World.setCell],fun k _ hk=>Below.heap_setCell _ _ _ _ (fun e=>hk (by simp [e]))⟩ (Or.inr (fun e=>by have:=own_blk HOW.out _ e;omega))
   have hzs:(wr.setCell ⟨w.heap.size,4,none⟩ (.int .i64 (j:Int))).heap.size=wr.heap.size:=by simp [World.setCell]
   have HOA:=hid (HOS.out.alloc (.cells #[.int .i64 x.kind,.int .i64 x.op,.int .i64 x.n,.string x.text,.int .i64 (j:Int)] 35))
   have HBA:Hid (Below w.heap.size w ((wr.setCell ⟨w.heap.size,4,none⟩ (.int .i64 (j:Int))).alloc (.cells #[.int .i64 x.kind,.int .i64 x.op,.int .i64 x.n,.string x.text,.int .i64 (j:Int)] 35))):=HBS.out.alloc (by rw [hzs];omega) _
   have HCL:Hid (∀ q u,(ndRow [{ x with kids:=(j:Int) }])[q]?=some u→((wr.setCell ⟨w.heap.size,4,none⟩ (.int .i64 (j:Int))).alloc (.cells #[.int .i64 x.kind,.int .i64 x.op,.int .i64 x.n,.string x.text,.int .i64 (j:Int)] 35)).cell? ((⟨wr.heap.size,0,none⟩:Addr).add q)=some u):=fun q u h=>by
    have e:=cell_new_row (wr.setCell ⟨w.heap.size,4,none⟩ (.int .i64 (j:Int))) #[.int .i64 x.kind,.int .i64 x.op,.int .i64 x.n,.string x.text,.int .i64 (j:Int)] 35 q
    rw [hzs] at e
    rw [add_none,Nat.zero_add,e]
    simpa [ndRow] using h
   go_wp2_with (at_builtin;refine wpList_append_own_at _ rfl (.tmp 23) (.tmp 25) 23 rfl (w.heap.size+1) 35 i0 (.agg #[.int .i64 0,.int .i64 0,.int .i64 0,.string ⟨#[]⟩,.int .i64 0]) 5 48 Tryz.underlying23 HHI.out.1 HHI.out.2.1 HHI.out.2.2.1 HHI.out.2.2.2 rfl (by decide) _ m (ndRow (ls.take j).flatten) rfl HOA.out ⟨wr.heap.size,0,none⟩ 1 1 (ndRow [{ x with kids:=(j:Int) }]) rfl rfl HCL.out (ndRow_one _) (by unfold maxLen;omega) (by omega) (by rw [World.size_alloc,hzs];omega) ?_)
   intro v' w1 h2 h3 h4 h5
   rw [← ndRow_append,HALL.out] at h2
   have HL:Hid ((ls.flatten ++ [{ x with kids:=(j:Int) }]).length=m+1):=by
    show _=_
    rw [List.length_append,← HALL.out,HM.out];rfl
   have HN1:Hid (NdIn w1 v' (ls.flatten ++ [{ x with kids:=(j:Int) }])):=NdIn.of_own (B:=w.heap.size+1) (by rw [HL.out];exact h2) (by simp)
   have HB1:=hid (HBA.out.grown h3 HBA.out.size (fun k e=>by have:=own_blk HOS.out k e;omega))
   obtain ⟨a1,c1,rfl⟩:=own_sl h2
   clear h2 h3 h4 h5
   go_wp2
   go_ret
   exact ⟨_,rfl,HN1.out,HB1.out⟩
theorem nd_one (w:World) (x:Nd):NdIn (w.alloc (.cells #[.int .i64 x.kind,.int .i64 x.op,.int .i64 x.n,.string x.text,.int .i64 x.kids] 35)) (.slice (some ⟨w.heap.size,0,none⟩) 1 1) [x] :=
 ⟨by simp,w.heap.size,0,_,rfl,heap_alloc_new w _,fun j u h=>by simpa [ndRow] using h⟩
set_option maxHeartbeats 400000 in
theorem textNode_any (s:ByteArray) (w:World) :
  Calls Tryz.prog 119 #[.string s] w fun e w'=>∃ v,e=.returned v∧NdIn w' v [⟨4,0,0,s,0⟩]∧Below w.heap.size w w':=by
 have HN:=hid (nd_one w ⟨4,0,0,s,0⟩)
 go_enter Tryz.func119,Tryz.ntmps119
 go_wp2
 go_ret
 exact ⟨_,rfl,HN.out,(Below.refl _ _).alloc (Nat.le_refl _) _⟩
set_option maxHeartbeats 400000 in
theorem intNode_any (n:Int) (w:World) :
  Calls Tryz.prog 58 #[.int .i64 n] w fun e w'=>∃ v,e=.returned v∧NdIn w' v [⟨3,0,n,⟨#[]⟩,0⟩]∧Below w.heap.size w w':=by
 have HN:=hid (nd_one w ⟨3,0,n,⟨#[]⟩,0⟩)
 go_enter Tryz.func58,Tryz.ntmps58
 go_wp2
 go_ret
 exact ⟨_,rfl,HN.out,(Below.refl _ _).alloc (Nat.le_refl _) _⟩
set_option maxHeartbeats 400000 in
theorem nameNode_any (s:ByteArray) (w:World) :
  Calls Tryz.prog 121 #[.string s] w fun e w'=>∃ v,e=.returned v∧NdIn w' v [⟨5,0,0,s,0⟩]∧Below w.heap.size w w':=by
 have HN:=hid (nd_one w ⟨5,0,0,s,0⟩)
 go_enter Tryz.func121,Tryz.ntmps121
 go_wp2
 go_ret
 exact ⟨_,rfl,HN.out,(Below.refl _ _).alloc (Nat.le_refl _) _⟩
theorem over_row (x:Nd) (xs:List Value) (ls:List (List Nd)) (n:Nat) (W:World) (hn:xs.length=n) (hn2:n≤1000) (hl:xs.length=ls.length) (h:∀ (j:Nat) u l,xs[j]?=some u→ls[j]?=some l→NdIn W u l) (hsz:ls.flatten.length≤1000000) :
  Calls Tryz.prog 59 #[.agg #[.int .i64 x.kind,.int .i64 x.op,.int .i64 x.n,.string x.text,.int .i64 x.kids],.slice (some ⟨W.heap.size,0,none⟩) n n] (W.alloc (.cells xs.toArray 23)) fun e w'=>∃ s,e=.returned s∧NdIn w' s (ls.flatten ++ [{ x with kids:=n }])∧Below W.heap.size W w':=by
 have hb:=(Below.refl W.heap.size W).alloc (Nat.le_refl _) (.cells xs.toArray 23)
 refine (l2Over_any x (some ⟨W.heap.size,0,none⟩) n n xs ls _ hn (by omega) ⟨hl,.inr ⟨W.heap.size,rfl,xs.toArray,heap_alloc_new W _,fun j u h=>by simpa using h⟩,fun j u l hu hl=>(h j u l hu hl).next hb⟩ hsz).mono ?_
 rintro e w' ⟨s,h1,h2,h3⟩
 exact ⟨s,h1,h2,hb.trans (h3.mono (by simp))⟩
theorem over1 (x:Nd) (a:Value) (la:List Nd) (W:World) (ha:NdIn W a la) (hsz:la.length≤1000000) :
  Calls Tryz.prog 59 #[.agg #[.int .i64 x.kind,.int .i64 x.op,.int .i64 x.n,.string x.text,.int .i64 x.kids],.slice (some ⟨W.heap.size,0,none⟩) 1 1] (W.alloc (.cells #[a] 23)) fun e w'=>∃ s,e=.returned s∧NdIn w' s (la ++ [{ x with kids:=1 }])∧Below W.heap.size W w':=by
 refine (over_row x [a] [la] 1 W rfl (by omega) rfl (fun j u l hu hl=>?_) (by simpa using hsz)).mono ?_
 ·match j,hu,hl with
  | 0,hu,hl=>cases hu;cases hl;exact ha
 ·rintro e w' ⟨s,h1,h2,h3⟩
  exact ⟨s,h1,by simpa using h2,h3⟩
theorem over2 (x:Nd) (a b:Value) (la lb:List Nd) (W:World) (ha:NdIn W a la) (hb:NdIn W b lb) (hsz:la.length+lb.length≤1000000) :
  Calls Tryz.prog 59 #[.agg #[.int .i64 x.kind,.int .i64 x.op,.int .i64 x.n,.string x.text,.int .i64 x.kids],.slice (some ⟨W.heap.size,0,none⟩) 2 2] (W.alloc (.cells #[a,b] 23)) fun e w'=>∃ s,e=.returned s∧NdIn w' s (la ++ lb ++ [{ x with kids:=2 }])∧Below W.heap.size W w':=by
 refine (over_row x [a,b] [la,lb] 2 W rfl (by omega) rfl (fun j u l hu hl=>?_) (by simpa using hsz)).mono ?_
 ·match j,hu,hl with
  | 0,hu,hl=>cases hu;cases hl;exact ha
  | 1,hu,hl=>cases hu;cases hl;exact hb
 ·rintro e w' ⟨s,h1,h2,h3⟩
  exact ⟨s,h1,by simpa using h2,h3⟩
theorem over3 (x:Nd) (a b c:Value) (la lb lc:List Nd) (W:World) (ha:NdIn W a la) (hb:NdIn W b lb) (hc:NdIn W c lc) (hsz:la.length+lb.length+lc.length≤1000000) :
  Calls Tryz.prog 59 #[.agg #[.int .i64 x.kind,.int .i64 x.op,.int .i64 x.n,.string x.text,.int .i64 x.kids],.slice (some ⟨W.heap.size,0,none⟩) 3 3] (W.alloc (.cells #[a,b,c] 23)) fun e w'=>∃ s,e=.returned s∧NdIn w' s (la ++ lb ++ lc ++ [{ x with kids:=3 }])∧Below W.heap.size W w':=by
 refine (over_row x [a,b,c] [la,lb,lc] 3 W rfl (by omega) rfl (fun j u l hu hl=>?_) (by simp;omega)).mono ?_
 ·match j,hu,hl with
  | 0,hu,hl=>cases hu;cases hl;exact ha
  | 1,hu,hl=>cases hu;cases hl;exact hb
  | 2,hu,hl=>cases hu;cases hl;exact hc
 ·rintro e w' ⟨s,h1,h2,h3⟩
  exact ⟨s,h1,by simpa using h2,h3⟩
set_option maxHeartbeats 1000000 in
theorem binNode_any (op:Int) (a b:Value) (la lb:List Nd) (w:World) (ha:NdIn w a la) (hb:NdIn w b lb) (hsz:la.length+lb.length≤1000000) :
  Calls Tryz.prog 123 #[.int .i64 op,a,b] w fun e w'=>∃ v,e=.returned v∧NdIn w' v (la ++ lb ++ [⟨7,op,0,⟨#[]⟩,2⟩])∧Below w.heap.size w w':=by
 have HC:Hid (∀ W,Below w.heap.size w W→Calls Tryz.prog 59 #[.agg #[.int .i64 7,.int .i64 op,.int .i64 0,.string ⟨#[]⟩,.int .i64 0],.slice (some ⟨W.heap.size,0,none⟩) 2 2] (W.alloc (.cells #[a,b] 23)) fun e w'=>∃ s,e=.returned s∧NdIn w' s (la ++ lb ++ [⟨7,op,0,⟨#[]⟩,2⟩])∧Below W.heap.size W w'):=fun W hW=>over2 ⟨7,op,0,⟨#[]⟩,0⟩ a b la lb W (ha.next hW) (hb.next hW) hsz
 obtain ⟨ga,ca,rfl⟩:∃ g c,a=.slice (some ⟨g,0,none⟩) la.length c:=by obtain ⟨_,g,c,_,e,_⟩:=ha;exact ⟨g,_,e⟩
 obtain ⟨gb,cb,rfl⟩:∃ g c,b=.slice (some ⟨g,0,none⟩) lb.length c:=by obtain ⟨_,g,c,_,e,_⟩:=hb;exact ⟨g,_,e⟩
 clear ha hb
 go_enter Tryz.func123,Tryz.ntmps123
 go_wp2_with fail
 refine (HC.out _ (Below.refl _ _)).mono ?_
 rintro e w1 ⟨v,rfl,h1,h2⟩
 have H1:=hid h1
 have H2:=hid h2
 obtain ⟨g,n,c,rfl⟩:∃ g n c,v=.slice (some ⟨g,0,none⟩) n c:=by obtain ⟨_,g,c,_,e,_⟩:=h1;exact ⟨g,_,_,e⟩
 clear h1 h2
 go_wp2
 go_ret
 exact ⟨_,rfl,H1.out,H2.out⟩
theorem info_ns:(Tryz.prog.info? 23).map (fun i=>(i.zero,i.size,i.bytes))=some (some (.slice none 0 0),1,24):=by kernel_rfl
set_option maxHeartbeats 1000000 in
theorem callNode_any (s:ByteArray) (g n:Nat) (xs:List Value) (ls:List (List Nd)) (w:World) (hn:xs.length=n) (hn2:n≤100) (hk:PartsIn w (some ⟨g,0,none⟩) xs ls) (h0:xs≠[]) (hsz:ls.flatten.length≤900000) :
  Calls Tryz.prog 122 #[.string s,.slice (some ⟨g,0,none⟩) n n] w fun e w'=>∃ v,e=.returned v∧NdIn w' v (⟨5,0,0,s,0⟩ :: ls.flatten ++ [⟨12,0,0,⟨#[]⟩,n+1⟩])∧Below w.heap.size w w':=by
 obtain ⟨i0,hi,hz0,hz1,hz2⟩:=info_parts info_ns
 have HHI:=hid (And.intro hi (And.intro hz0 (And.intro hz1 hz2)))
 have HK:=hid hk
 have HN:=hid hn
 have HSZ:=hid hsz
 clear hi hz0 hz1 hz2 hk hn hsz
 have hx1:∀ u ∈ xs,u.oneCell'=true:=fun u hu=>by
  obtain ⟨j,hj,rfl⟩:=List.mem_iff_getElem.1 hu
  obtain ⟨_,_,_,_,e,_⟩:=HK.out.2.2 j xs[j] ls[j]?.get! (List.getElem?_eq_getElem hj) (by rw [List.getElem?_eq_getElem (by rw [← HK.out.1];exact hj)];rfl)
  rw [e];rfl
 have HX1:=hid hx1
 clear hx1
 go_enter Tryz.func122,Tryz.ntmps122
 go_wp2_with fail
 refine (nameNode_any s w).mono ?_
 rintro e w1 ⟨v,rfl,h1,h2⟩
 have H1:=hid h1
 have H2:=hid h2
 have hz1:=h2.size
 obtain ⟨g1,c1,rfl⟩:∃ g c,v=.slice (some ⟨g,0,none⟩) 1 c:=by obtain ⟨_,g,c,_,e,_⟩:=h1;exact ⟨g,_,e⟩
 clear h1 h2
 have HO:Hid ((w1.alloc (.cells #[.slice (some ⟨g1,0,none⟩) 1 c1] 23)).ownsRow w1.heap.size 23 1 (.slice (some ⟨w1.heap.size,0,none⟩) 1 1) 1 [.slice (some ⟨g1,0,none⟩) 1 c1]) :=
  ⟨rfl,.inr ⟨w1.heap.size,1,_,rfl,Nat.le_refl _,heap_alloc_new w1 _,Nat.le_refl _,by unfold maxLen;omega,rfl,rfl⟩⟩
 have HBA:Hid (Below w.heap.size w (w1.alloc (.cells #[.slice (some ⟨g1,0,none⟩) 1 c1] 23))):=H2.out.alloc hz1 _
 have HCL:Hid (∀ q u,xs[q]?=some u→(w1.alloc (.cells #[.slice (some ⟨g1,0,none⟩) 1 c1] 23)).cell? ((⟨g,0,none⟩:Addr).add q)=some u):=fun q u hu=>by
  obtain ⟨g',e,cur,a,b⟩:=HK.out.2.1.resolve_left h0
  injection e with e
  injection e with e
  subst e
  rw [add_none,Nat.zero_add,HBA.out.cell (p:=⟨g,q,none⟩) (Array.getElem?_eq_some_iff.1 a).1]
  unfold World.cell?
  rw [a]
  exact b q u hu
 go_wp2_with (at_builtin;refine wpList_append_own_at _ rfl _ _ 96 rfl w1.heap.size 23 i0 (.slice none 0 0) 1 24 Tryz.underlying96 HHI.out.1 HHI.out.2.1 HHI.out.2.2.1 HHI.out.2.2.2 rfl (by decide) _ 1 _ rfl HO.out ⟨g,0,none⟩ n n xs rfl (by rw [HN.out,Nat.mul_one]) HCL.out HX1.out (by unfold maxLen;omega) (by omega) (by simp) ?_)
 intro v' w2 h2 h3 h4 h5
 have HB2:=hid (HBA.out.grown h3 HBA.out.size (fun k e=>by have:=own_blk HO.out k e;omega))
 have HB12:Hid (Below w1.heap.size w1 w2):=((Below.refl w1.heap.size w1).alloc (Nat.le_refl _) _).grown h3 (by simp) (fun k e=>own_blk HO.out k e)
 obtain ⟨g2,c2,cur2,rfl,hg2,ht2⟩:∃ g2 c2 cur2,v'=.slice (some ⟨g2,0,none⟩) (1+n) c2∧w2.heap[g2]?=some (.cells cur2 23 (0,0))∧cur2.toList.take ((1+n) * 1)=[.slice (some ⟨g1,0,none⟩) 1 c1] ++ xs:=by
  rcases h2.2 with ⟨_,hz⟩ | ⟨g2,cap,cur,hv,_,hg,_,_,_,ht⟩
  ·omega
  ·exact ⟨g2,cap,cur,hv,hg,ht⟩
 have HP:Hid (PartsIn w2 (some ⟨g2,0,none⟩) ([.slice (some ⟨g1,0,none⟩) 1 c1] ++ xs) ([⟨5,0,0,s,0⟩] :: ls)):=by
  refine ⟨by simp [HK.out.1],.inr ⟨g2,rfl,cur2,hg2,fun j u hu=>?_⟩,fun j u l hu hl=>?_⟩
  ·rw [← ht2] at hu
   have hj:=(List.getElem?_eq_some_iff.1 hu).1
   rw [List.length_take] at hj
   rw [List.getElem?_take_of_lt (by omega)] at hu
   simpa using hu
  ·cases j with
   | zero=>cases hu;cases hl;exact H1.out.next HB12.out
   | succ j=>exact ((HK.out.next H2.out).next HB12.out).2.2 j u l (by simpa using hu) (by simpa using hl)
 clear h2 h3 h4 h5 hg2 ht2
 have e1:((1+n:Nat):Int)=(n:Int)+1:=by omega
 go_wp2_with fail
 refine (l2Over_any ⟨12,0,0,⟨#[]⟩,0⟩ (some ⟨g2,0,none⟩) (1+n) c2 ([.slice (some ⟨g1,0,none⟩) 1 c1] ++ xs) ([⟨5,0,0,s,0⟩] :: ls) _ (by simp [HN.out];omega) (by omega) HP.out (by have:=HSZ.out;simp;simp at this;omega)).mono ?_
 rintro e w3 ⟨v3,rfl,h6,h7⟩
 have H6:=hid h6
 have H7:=hid (HB2.out.trans (h7.mono HB2.out.size))
 obtain ⟨g3,n3,c3,rfl⟩:∃ g n c,v3=.slice (some ⟨g,0,none⟩) n c:=by obtain ⟨_,g,c,_,e,_⟩:=h6;exact ⟨g,_,_,e⟩
 clear h6 h7
 go_wp2
 go_ret
 refine ⟨_,rfl,?_,H7.out⟩
 have h:=H6.out
 simp only [List.flatten_cons,e1] at h
 simpa using h
theorem conv_one (W:World) (d:Int) (b:UInt8) (hd:(b.toNat:Int)=d):(convert 22 9 (.slice (some ⟨W.heap.size,0,none⟩) 1 1)).run Tryz.prog (W.alloc (.cells #[.int .u8 d] 5))=.ok (.string ⟨[b].toArray⟩) (W.alloc (.cells #[.int .u8 d] 5)):=by
 refine run_convert_bytes_back (W.alloc (.cells #[.int .u8 d] 5)) 22 9 5 ⟨W.heap.size,0,none⟩ 1 [b] Tryz.underlying22 Tryz.underlying5 Tryz.underlying9 ?_
 intro j hj
 obtain rfl:j=0:=by simpa using hj
 have h:=cell_new_row W #[.int .u8 d] 5 0
 subst hd
 exact h
theorem conv_dig (W:World) (n:Nat) (h:n < 10):(convert 22 9 (.slice (some ⟨W.heap.size,0,none⟩) 1 1)).run Tryz.prog (W.alloc (.cells #[.int .u8 (48+(n:Int))] 5))=.ok (.string ⟨[UInt8.ofNat (48+n)].toArray⟩) (W.alloc (.cells #[.int .u8 (48+(n:Int))] 5)) :=
 conv_one W (48+(n:Int)) (UInt8.ofNat (48+n)) (by rw [UInt8.toNat_ofNat'];omega)
set_option maxHeartbeats 1000000 in
theorem l1Dec_any (k:Nat):∀ (n:Nat) (w:World),n < 10 ^ (k+1)→k≤17 →
  Calls Tryz.prog 57 #[.int .i64 n] w fun e w'=>∃ s:ByteArray,e=.returned (.string s)∧s.size≤k+1∧Below w.heap.size w w':=by
 induction k with
 | zero =>
  intro n w hn _
  have hn:n < 10:=by simpa using hn
  have hlt:(n:Int) < 10:=by omega
  have hw:IntKind.i64.wrap (48+(n:Int))=48+(n:Int):=by rw [IntKind.wrap_i64];omega
  have hw2:IntKind.u8.wrap (48+(n:Int))=48+(n:Int):=by rw [IntKind.wrap_u8];omega
  have hc:=conv_dig w n hn
  go_enter Tryz.func57,Tryz.ntmps57
  go_wp2
  go_ret
  exact ⟨_,rfl,Nat.le_refl _,(Below.refl _ _).alloc (Nat.le_refl _) _⟩
 | succ k ih =>
  intro n w hn hk
  by_cases h10:n < 10
  ·have hlt:(n:Int) < 10:=by omega
   have hw:IntKind.i64.wrap (48+(n:Int))=48+(n:Int):=by rw [IntKind.wrap_i64];omega
   have hw2:IntKind.u8.wrap (48+(n:Int))=48+(n:Int):=by rw [IntKind.wrap_u8];omega
   have hc:=conv_dig w n h10
   clear ih hn
   go_enter Tryz.func57,Tryz.ntmps57
   go_wp2
   go_ret
   exact ⟨_,rfl,Nat.le_add_left _ _,(Below.refl _ _).alloc (Nat.le_refl _) _⟩
  ·have hge:(10:Int)≤n:=by omega
   have HIH:Hid (∀ W,Calls Tryz.prog 57 #[.int .i64 ((n / 10:Nat):Int)] W fun e w'=>∃ s:ByteArray,e=.returned (.string s)∧s.size≤k+1∧Below W.heap.size W w'):=fun W=>ih (n / 10) W (by rw [Nat.pow_succ] at hn;omega) (by omega)
   have hq:(n:Int) / 10=((n / 10:Nat):Int):=by omega
   have hr:(n:Int).tmod 10=((n % 10:Nat):Int):=by rw [Int.tmod_eq_emod_of_nonneg (by omega)];omega
   have hm:n % 10 < 10:=Nat.mod_lt _ (by omega)
   have hnb:n < 10 ^ 18:=Nat.lt_of_lt_of_le hn (Nat.pow_le_pow_right (by omega) (by omega))
   obtain ⟨D,hD⟩:∃ D,n % 10=D:=⟨_,rfl⟩
   obtain ⟨Q,hQ⟩:∃ Q,n / 10=Q:=⟨_,rfl⟩
   have hQb:Q < 10 ^ 18:=by omega
   rw [hD] at hr hm
   rw [hQ] at hq HIH
   have hwq:IntKind.i64.wrap (Q:Int)=(Q:Int):=by rw [IntKind.wrap_i64];omega
   have hw:IntKind.i64.wrap (48+(D:Int))=48+(D:Int):=by rw [IntKind.wrap_i64];omega
   have hw2:IntKind.u8.wrap (48+(D:Int))=48+(D:Int):=by rw [IntKind.wrap_u8];omega
   have hcv:∀ (g:Nat) (W:World),W.cell? ⟨g,0,none⟩=some (.int .u8 (48+(D:Int)))→(convert 22 9 (.slice (some ⟨g,0,none⟩) 1 1)).run Tryz.prog W=.ok (.string ⟨[UInt8.ofNat (48+D)].toArray⟩) W:=fun g W hg=>by
    refine run_convert_bytes_back W 22 9 5 ⟨g,0,none⟩ 1 [UInt8.ofNat (48+D)] Tryz.underlying22 Tryz.underlying5 Tryz.underlying9 ?_
    intro j hj
    obtain rfl:j=0:=by simpa using hj
    have e:((UInt8.ofNat (48+D)).toNat:Int)=48+(D:Int):=by rw [UInt8.toNat_ofNat'];omega
    show W.cell? _=some (.int .u8 ((UInt8.ofNat (48+D)).toNat:Int))
    rw [e]
    exact hg
   have cA:=hcv w.heap.size (w.drew.alloc (.cells #[.int .u8 (48+(D:Int))] 5)) (cell_new_row w.drew #[.int .u8 (48+(D:Int))] 5 0)
   have cA2:=hcv w.heap.size (w.alloc (.cells #[.int .u8 (48+(D:Int))] 5)).drew (cell_new_row w #[.int .u8 (48+(D:Int))] 5 0)
   have HCV:=hid hcv
   clear hcv hn hD hQ ih hnb hQb
   go_enter Tryz.func57,Tryz.ntmps57
   go_wp2_with fail
   go_region_with (go_at_call 57;refine (HIH.out _).mono ?_;rintro e w1 ⟨s1,rfl,hs1,hb1⟩;first | (have cB:=HCV.out w.heap.size w1 ((hb1.cell (p:=⟨w.heap.size,0,none⟩) (by simp)).trans (cell_new_row w #[.int .u8 (48+(D:Int))] 5 0))) | (have cC:=HCV.out w1.heap.size (w1.alloc (.cells #[.int .u8 (48+(D:Int))] 5)) (cell_new_row w1 #[.int .u8 (48+(D:Int))] 5 0)))
   all_goals
    have HS1:=hid hs1
    have HB1:=hid hb1
    clear hs1 hb1
    go_wp2
    go_ret
    refine ⟨_,rfl,by rw [ByteArray.size_append];have:=HS1.out;show s1.size+1≤_;omega,?_⟩
    first
     | exact (((Below.refl w.heap.size w).drew.trans (HB1.out.mono (Nat.le_refl _))).alloc HB1.out.size _)
     | exact ((Below.refl w.heap.size w).alloc (Nat.le_refl _) _).drew.trans (HB1.out.mono (by simp))
theorem NdOk.over {K:Nat} {la:List Nd} {x:Nd} (h:NdOk K la) (hx:x.text.size≤1000):NdOk (K+1) (la ++ [x]):=by
 refine ⟨by rw [List.length_append];have:=h.1;show _+1≤_;omega,fun y hy=>?_⟩
 rcases List.mem_append.1 hy with hy | hy
 ·exact h.2 y hy
 ·rw [List.mem_singleton] at hy;subst hy;exact hx
theorem NdOk.app {K K':Nat} {la lb:List Nd} (h:NdOk K la) (h':NdOk K' lb):NdOk (K+K') (la ++ lb):=by
 refine ⟨by rw [List.length_append];have:=h.1;have:=h'.1;omega,fun y hy=>?_⟩
 rcases List.mem_append.1 hy with hy | hy
 ·exact h.2 y hy
 ·exact h'.2 y hy
theorem NdOk.one {x:Nd} (hx:x.text.size≤1000):NdOk 1 [x]:=⟨Nat.le_refl _,fun y hy=>by rw [List.mem_singleton] at hy;subst hy;exact hx⟩
theorem NdIn.sl {w:World} {v:Value} {l:List Nd} (h:NdIn w v l):∃ g n c,v=.slice (some ⟨g,0,none⟩) n c:=by obtain ⟨_,g,c,_,e,_⟩:=h;exact ⟨g,_,_,e⟩
set_option maxHeartbeats 1000000 in
theorem l2Deep_any (n:Nat) (w:World) (hn:n≤1000) :
  Calls Tryz.prog 56 #[.int .i64 n] w fun e w'=>(∃ v l,e=.returned (.agg #[v])∧NdIn w' v l∧NdOk 2000 l)∧Below w.heap.size w w':=by
 go_enter Tryz.func56,Tryz.ntmps56
 go_wp2_with fail
 refine (intNode_any 1 _).mono ?_
 rintro e w1 ⟨v,rfl,h1,h2⟩
 have H1:=hid h1
 have H2:=hid h2
 obtain ⟨g1,n1,c1,rfl⟩:=h1.sl
 clear h1 h2
 go_wp2
 go_loopw [3,4] (fun v a wr=>∃ (j:Nat) (l:List Nd),j≤n∧a=.int .i64 j∧NdIn wr v l∧NdOk (j+1) l∧Below (w.alloc (.cells #[.slice none 0 0] 25)).heap.size (w.alloc (.cells #[.slice none 0 0] 25)) wr) (fun _ a _=>n - (intOf a).toNat)
 case atStart=>exact ⟨0,_,Nat.zero_le _,rfl,H1.out,NdOk.one (by decide),H2.out⟩
 case round =>
  obtain ⟨j,l,hj,rfl,hnd,hok,hb⟩:=hrel
  have HND:=hid hnd
  have HOK:=hid hok
  have HB:=hid hb
  have hll:=hok.1
  have hz:=hb.size
  obtain ⟨g,m,c,rfl⟩:=hnd.sl
  clear hnd hok hb
  have hw:IntKind.i64.wrap ((n:Int) - 2)=(n:Int) - 2:=by rw [IntKind.wrap_i64];omega
  by_cases hlt:(j:Int) < (n:Int) - 2
  ·go_wp2_with fail
   refine (over1 ⟨6,2,0,⟨#[]⟩,0⟩ _ l wr HND.out (by omega)).mono ?_
   rintro e w2 ⟨v,rfl,h1,h2⟩
   have H3:=hid h1
   have H4:=hid (HB.out.trans (h2.mono hz))
   obtain ⟨g2,n2,c2,rfl⟩:=h1.sl
   clear h1 h2
   go_wp2
   go_roundw
   case rel=>exact ⟨j+1,_,by omega,by go_num,H3.out,HOK.out.over (by decide),H4.out⟩
   case measure=>simp [intOf];omega
  ·have hge:(n:Int) - 2≤j:=by omega
   go_wp2_with fail
   refine (over1 ⟨21,0,0,⟨#[120]⟩,0⟩ _ l wr HND.out (by omega)).mono ?_
   rintro e w2 ⟨v,rfl,h1,h2⟩
   have H3:=hid h1
   have H4:=hid (HB.out.trans (h2.mono hz))
   have hz2:=h2.size
   obtain ⟨g2,n2,c2,rfl⟩:=h1.sl
   clear h1 h2
   go_wp2_with fail
   refine (over1 ⟨24,0,0,⟨#[]⟩,0⟩ _ _ w2 H3.out (by rw [List.length_append];show _+1≤_;omega)).mono ?_
   rintro e w3 ⟨v,rfl,h1,h2⟩
   have H5:=hid h1
   have H6:=hid (H4.out.trans (h2.mono (by omega)))
   obtain ⟨g3,n3,c3,rfl⟩:=h1.sl
   have hh:w3.heap[w.heap.size]?=some (.cells #[.slice none 0 0] 25 (0,0)):=(H6.out.block w.heap.size (by simp)).trans (heap_alloc_new w _)
   have e0:=cell_hp hh 0
   have e1:=frozen_hp hh 0
   simp at e0
   clear h1 h2
   have hset:=cell_hp (set_at (i:=0) (.slice (some ⟨g3,0,none⟩) n3 c3) hh) 0
   simp at hset
   have HBF:Hid (Below w.heap.size w (w3.setCell ⟨w.heap.size,0,none⟩ (.slice (some ⟨g3,0,none⟩) n3 c3))):=(((Below.refl w.heap.size w).alloc (Nat.le_refl _) _).trans (H6.out.mono (by simp))).setCell (p:=⟨w.heap.size,0,none⟩) (Nat.le_refl _) _
   have HNF:Hid (NdIn (w3.setCell ⟨w.heap.size,0,none⟩ (.slice (some ⟨g3,0,none⟩) n3 c3)) (.slice (some ⟨g3,0,none⟩) n3 c3) _):=H5.out.keep fun g cur hc=>Below.heap_setCell _ _ _ _ (fun e=>by
    have e2:g=w.heap.size:=e
    subst e2;rw [hh] at hc;cases hc)
   have HOF:=hid ((HOK.out.over (x:={ (⟨21,0,0,⟨#[120]⟩,0⟩:Nd) with kids:=1 }) (by decide)).over (x:={ (⟨24,0,0,⟨#[]⟩,0⟩:Nd) with kids:=1 }) (by decide))
   clear hh
   go_wp2
   exact bodyPost_ret (v:=.agg #[.slice (some ⟨g3,0,none⟩) n3 c3]) (by simp [results,Tryz.results56,go_sem,hset]) rfl ⟨⟨_,_,rfl,HNF.out,HOF.out.mono (by omega)⟩,HBF.out⟩
end Go.Proofs.YthnohneaanphbaaGreatDoor
