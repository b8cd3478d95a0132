import Derived.Test.YtabbahpalemlhaaGreatDoorChecked
import Derived.Shelf.Strconv.ParseIntPublic10
import Derived.Shelf.Strconv.Clone
import Derived.Lib.Bytealg
import Derived.Lib.Strings
import Derived.BigCall
import Derived.Lib.ParseIntB
import Derived.Laws.IdiomStrings
import Derived.Lib.BufferRead
import Derived.Maps.AppendAt
import Derived.Lib.UnsafeStr
import Derived.Test.YtabbahpalemlhaaGreatDoorJ00
namespace Go.Proofs.YtabbahpalemlhaaGreatDoor
open Go.Shelf
def laysPI_ren:Go.Shelf.Ren:=⟨fun | 129=>128 | 171=>115 | 174=>66 | 205=>114 | 243=>118 | 245=>87 | 246=>122 | 247=>86 | 279=>99 | 280=>100 | 281=>101 | 282=>102 | 283=>123 | 284=>124 | 285=>125 | 286=>126 | 287=>98 | 316=>88 | 317=>127 | 318=>129 | 319=>130 | 320=>131 | 321=>112 | 322=>113 | 337=>132 | 338=>133 | n=>n,fun | 0=>0 | 2=>2 | 3=>3 | 4=>4 | 5=>5 | 9=>9 | 20=>20 | 21=>21 | 37=>22 | 46=>137 | 51=>162 | 53=>77 | 75=>107 | 80=>116 | 85=>108 | 127=>141 | 143=>150 | 145=>152 | 167=>134 | 168=>138 | 171=>155 | 173=>158 | 175=>135 | 210=>148 | 212=>161 | 213=>163 | 232=>166 | 233=>167 | n=>n,fun | 15=>2 | 16=>3 | 17=>4 | 18=>5 | 19=>6 | n=>n⟩
theorem laysPI:Go.Proofs.LaysC.n174 Tryz.prog laysPI_ren where
 mixed:=by kernel_rfl
 f129:=Tryz.func128.trans (congrArg some (by kernel_rfl))
 f171:=Tryz.func115.trans (congrArg some (by kernel_rfl))
 f174:=Tryz.func66.trans (congrArg some (by kernel_rfl))
 f205:=Tryz.func114.trans (congrArg some (by kernel_rfl))
 f243:=Tryz.func118.trans (congrArg some (by kernel_rfl))
 f245:=Tryz.func87.trans (congrArg some (by kernel_rfl))
 f246:=Tryz.func122.trans (congrArg some (by kernel_rfl))
 f247:=Tryz.func86.trans (congrArg some (by kernel_rfl))
 f279:=Tryz.func99.trans (congrArg some (by kernel_rfl))
 f280:=Tryz.func100.trans (congrArg some (by kernel_rfl))
 f281:=Tryz.func101.trans (congrArg some (by kernel_rfl))
 f282:=Tryz.func102.trans (congrArg some (by kernel_rfl))
 f283:=Tryz.func123.trans (congrArg some (by kernel_rfl))
 f284:=Tryz.func124.trans (congrArg some (by kernel_rfl))
 f285:=Tryz.func125.trans (congrArg some (by kernel_rfl))
 f286:=Tryz.func126.trans (congrArg some (by kernel_rfl))
 f287:=Tryz.func98.trans (congrArg some (by kernel_rfl))
 f316:=Tryz.func88.trans (congrArg some (by kernel_rfl))
 f317:=Tryz.func127.trans (congrArg some (by kernel_rfl))
 f318:=Tryz.func129.trans (congrArg some (by kernel_rfl))
 f319:=Tryz.func130.trans (congrArg some (by kernel_rfl))
 f320:=Tryz.func131.trans (congrArg some (by kernel_rfl))
 f321:=Tryz.func112.trans (congrArg some (by kernel_rfl))
 f322:=Tryz.func113.trans (congrArg some (by kernel_rfl))
 f337:=Tryz.func132.trans (congrArg some (by kernel_rfl))
 f338:=Tryz.func133.trans (congrArg some (by kernel_rfl))
 t0:=Tryz.underlying0
 a0:=Tryz.isAgg0
 z0:=Tryz.sizeOf0
 v0:=Tryz.zeroValue0
 t2:=Tryz.underlying2
 a2:=Tryz.isAgg2
 z2:=Tryz.sizeOf2
 v2:=Tryz.zeroValue2
 t3:=Tryz.underlying3
 a3:=Tryz.isAgg3
 z3:=Tryz.sizeOf3
 v3:=Tryz.zeroValue3
 t4:=Tryz.underlying4
 a4:=Tryz.isAgg4
 z4:=Tryz.sizeOf4
 v4:=Tryz.zeroValue4
 t5:=Tryz.underlying5
 a5:=Tryz.isAgg5
 z5:=Tryz.sizeOf5
 v5:=Tryz.zeroValue5
 t9:=Tryz.underlying9
 a9:=Tryz.isAgg9
 z9:=Tryz.sizeOf9
 v9:=Tryz.zeroValue9
 t20:=Tryz.underlying20
 a20:=Tryz.isAgg20
 z20:=Tryz.sizeOf20
 v20:=Tryz.zeroValue20
 t21:=Tryz.underlying21
 a21:=Tryz.isAgg21
 z21:=Tryz.sizeOf21
 v21:=Tryz.zeroValue21
 t37:=Tryz.underlying22
 a37:=Tryz.isAgg22
 z37:=Tryz.sizeOf22
 v37:=Tryz.zeroValue22
 t46:=Tryz.underlying137
 a46:=Tryz.isAgg137
 z46:=Tryz.sizeOf137
 v46:=Tryz.zeroValue137
 t51:=Tryz.underlying162
 a51:=Tryz.isAgg162
 z51:=Tryz.sizeOf162
 v51:=Tryz.zeroValue162
 t53:=Tryz.underlying77
 a53:=Tryz.isAgg77
 z53:=Tryz.sizeOf77
 v53:=Tryz.zeroValue77
 t75:=Tryz.underlying107
 a75:=Tryz.isAgg107
 z75:=Tryz.sizeOf107
 v75:=Tryz.zeroValue107
 t85:=Tryz.underlying108
 a85:=Tryz.isAgg108
 z85:=Tryz.sizeOf108
 v85:=Tryz.zeroValue108
 t127:=Tryz.underlying141
 a127:=Tryz.isAgg141
 z127:=Tryz.sizeOf141
 v127:=Tryz.zeroValue141
 t143:=Tryz.underlying150
 a143:=Tryz.isAgg150
 z143:=Tryz.sizeOf150
 v143:=Tryz.zeroValue150
 t145:=Tryz.underlying152
 a145:=Tryz.isAgg152
 z145:=Tryz.sizeOf152
 v145:=Tryz.zeroValue152
 t167:=Tryz.underlying134
 a167:=Tryz.isAgg134
 z167:=Tryz.sizeOf134
 v167:=Tryz.zeroValue134
 t168:=Tryz.underlying138
 a168:=Tryz.isAgg138
 z168:=Tryz.sizeOf138
 v168:=Tryz.zeroValue138
 t171:=Tryz.underlying155
 a171:=Tryz.isAgg155
 z171:=Tryz.sizeOf155
 v171:=Tryz.zeroValue155
 t173:=Tryz.underlying158
 a173:=Tryz.isAgg158
 z173:=Tryz.sizeOf158
 v173:=Tryz.zeroValue158
 t175:=Tryz.underlying135
 a175:=Tryz.isAgg135
 z175:=Tryz.sizeOf135
 v175:=Tryz.zeroValue135
 t210:=Tryz.underlying148
 a210:=Tryz.isAgg148
 z210:=Tryz.sizeOf148
 v210:=Tryz.zeroValue148
 t212:=Tryz.underlying161
 a212:=Tryz.isAgg161
 z212:=Tryz.sizeOf161
 v212:=Tryz.zeroValue161
 t213:=Tryz.underlying163
 a213:=Tryz.isAgg163
 z213:=Tryz.sizeOf163
 t232:=Tryz.underlying166
 a232:=Tryz.isAgg166
 z232:=Tryz.sizeOf166
 v232:=Tryz.zeroValue166
 t233:=Tryz.underlying167
 a233:=Tryz.isAgg167
 z233:=Tryz.sizeOf167
 v233:=Tryz.zeroValue167
 g15:=by kernel_rfl
 g16:=by kernel_rfl
 g17:=by kernel_rfl
 g18:=by kernel_rfl
 g19:=by kernel_rfl
 t80:=Tryz.underlying116
 a80:=Tryz.isAgg116
 z80:=Tryz.sizeOf116
 v80:=Tryz.zeroValue116
 i0:=by kernel_rfl
 i2:=by kernel_rfl
 i3:=by kernel_rfl
 i4:=by kernel_rfl
 i5:=by kernel_rfl
 i9:=by kernel_rfl
 i20:=by kernel_rfl
 i21:=by kernel_rfl
 i37:=by kernel_rfl
 i46:=by kernel_rfl
 i51:=by kernel_rfl
 i53:=by kernel_rfl
 i75:=by kernel_rfl
 i80:=by kernel_rfl
 i85:=by kernel_rfl
 i127:=by kernel_rfl
 i143:=by kernel_rfl
 i145:=by kernel_rfl
 i167:=by kernel_rfl
 i168:=by kernel_rfl
 i171:=by kernel_rfl
 i173:=by kernel_rfl
 i175:=by kernel_rfl
 i210:=by kernel_rfl
 i212:=by kernel_rfl
 i232:=by kernel_rfl
 i233:=by kernel_rfl
 m15:=by kernel_rfl
 m16:=by kernel_rfl
 m17:=by kernel_rfl
 m18:=by kernel_rfl
 m19:=by kernel_rfl
 c0:=by kernel_rfl
 c2:=by kernel_rfl
 c3:=by kernel_rfl
 c4:=by kernel_rfl
 c5:=by kernel_rfl
 c9:=by kernel_rfl
 c20:=by kernel_rfl
 c21:=by kernel_rfl
 c37:=by kernel_rfl
 c46:=by kernel_rfl
 c51:=by kernel_rfl
 c53:=by kernel_rfl
 c75:=by kernel_rfl
 c80:=by kernel_rfl
 c85:=by kernel_rfl
 c127:=by kernel_rfl
 c143:=by kernel_rfl
 c145:=by kernel_rfl
 c167:=by kernel_rfl
 c168:=by kernel_rfl
 c171:=by kernel_rfl
 c173:=by kernel_rfl
 c175:=by kernel_rfl
 c210:=by kernel_rfl
 c212:=by kernel_rfl
 c213:=by kernel_rfl
 c232:=by kernel_rfl
 c233:=by kernel_rfl
end Go.Proofs.YtabbahpalemlhaaGreatDoor
namespace Go.Proofs.YtabbahpalemlhaaGreatDoor
theorem run_pos (p:UInt8→Bool) (c:UInt8) (r:List UInt8) (h:p c=true):1≤run p (c :: r):=by rw [run_cons,if_pos h];omega
theorem marks_pos:∀ m ∈ marks,1≤m.length:=by decide
theorem one_size (L:List UInt8) (h:(one L).code=0):1≤(one L).size∧(one L).size≤L.length:=by
 cases L with
 | nil=>simp [one,One.bad] at h
 | cons c r =>
  simp only [one] at h ⊢
  split at h
  ·rename_i hc
   rw [if_pos hc]
   unfold textOne at h ⊢
   cases hu:unqF (r.length+1) r with
   | none=>rw [hu] at h;simp [One.bad] at h
   | some x =>
    obtain ⟨o,k⟩:=x
    rw [hu] at h
    have:=unqF_pos hu
    simp only at h ⊢
    by_cases hl:1000 < o.length
    ·rw [if_pos hl] at h;simp [One.bad] at h
    ·rw [if_neg hl];simp;omega
  ·rename_i hc
   rw [if_neg hc]
   split at h
   ·rename_i hd
    rw [if_pos hd]
    unfold numOne at h ⊢
    split at h
    ·simp [One.bad] at h
    ·rename_i hx
     rw [if_neg hx]
     exact ⟨run_pos _ _ _ hd,run_le _ _⟩
   ·rename_i hd
    rw [if_neg hd]
    split at h
    ·rename_i hl
     rw [if_pos hl]
     unfold nameOne at h ⊢
     split at h
     ·rename_i hx
      rw [if_pos hx];exact ⟨run_pos _ _ _ hl,run_le _ _⟩
     ·rename_i hx
      rw [if_neg hx]
      split at h
      ·simp [One.bad] at h
      ·rename_i hy
       rw [if_neg hy];exact ⟨run_pos _ _ _ hl,run_le _ _⟩
    ·rename_i hl
     rw [if_neg hl]
     unfold markOne at h ⊢
     cases hm:marks.find? (fun m=>m.isPrefixOf (c :: r)) with
     | none=>rw [hm] at h;simp [One.bad] at h
     | some m =>
      have h1:=List.mem_of_find?_eq_some hm
      have h2:=List.find?_some hm
      have h3:=(List.isPrefixOf_iff_prefix.1 h2).length_le
      exact ⟨marks_pos m h1,h3⟩
theorem scanA_end (f:Nat) (l:List UInt8) (p:Nat) (h:l.length≤p):scanA f l p=([],none):=by
 cases f with
 | zero=>rfl
 | succ f=>unfold scanA;rw [if_pos h]
theorem scanA_bad (f:Nat) (l:List UInt8) (p:Nat) (h:p < l.length) (hc:¬ (one (l.drop p)).code=0):scanA (f+1) l p=([],some ((one (l.drop p)).code,p)):=by
 unfold scanA;rw [if_neg (by omega),if_pos hc]
theorem scanA_go (f:Nat) (l:List UInt8) (p:Nat) (h:p < l.length) (hc:(one (l.drop p)).code=0):scanA (f+1) l p =
  (⟨(one (l.drop p)).kind,(one (l.drop p)).text,(one (l.drop p)).n,p⟩ :: (scanA f l (p+(one (l.drop p)).size+gapN false (l.drop (p+(one (l.drop p)).size)))).1,
    (scanA f l (p+(one (l.drop p)).size+gapN false (l.drop (p+(one (l.drop p)).size)))).2):=by
 rw [scanA,if_neg (by omega),if_neg (by simp [hc])]
def scanRest (l:List UInt8) (f p:Nat) (pre:List Tok):Prop:=scanA (l.length+1) l (gapN false l)=(pre ++ (scanA f l p).1,(scanA f l p).2)
theorem scanRest_go {l:List UInt8} {f p:Nat} {pre:List Tok} (hr:scanRest l (f+1) p pre) (h:p < l.length) (hc:(one (l.drop p)).code=0) :
  scanRest l f (p+(one (l.drop p)).size+gapN false (l.drop (p+(one (l.drop p)).size))) (pre ++ [⟨(one (l.drop p)).kind,(one (l.drop p)).text,(one (l.drop p)).n,p⟩]):=by
 unfold scanRest at *;rw [hr,scanA_go f l p h hc];simp
theorem scanRest_bad {l:List UInt8} {f p:Nat} {pre:List Tok} (hr:scanRest l (f+1) p pre) (h:p < l.length) (hl:l.length≤8000) (hc:¬ (one (l.drop p)).code=0) :
  scanR l=([],(one (l.drop p)).code,p):=by
 unfold scanRest at hr;unfold scanR;rw [if_neg (by omega),hr,scanA_bad f l p h hc]
theorem scanRest_end {l:List UInt8} {f p:Nat} {pre:List Tok} (hr:scanRest l f p pre) (h:l.length≤p) (hl:l.length≤8000):scanR l=(pre,0,0):=by
 unfold scanRest at hr;unfold scanR;rw [if_neg (by omega),hr,scanA_end f l p h];simp
end Go.Proofs.YtabbahpalemlhaaGreatDoor
namespace Go.Proofs.YtabbahpalemlhaaGreatDoor
structure Nd where
 kind:Int
 op:Int
 n:Int
 text:ByteArray
 kids:Int
def inR (x lo hi:Int):Bool:=decide (lo≤x) && decide (x≤hi)
def isE (k:Int):Bool:=inR k 1 16
def pkg_ (c:Int):Bool:=(decide (97≤c) && decide (c≤122)) || dig c || c == 95 || c == 45 || c == 46 || c == 47
def pkgB (c:UInt8):Bool:=pkg_ c.toNat
def PkgOk (s:ByteArray):Prop:=1≤s.size∧s.size≤30∧∀ i (h:i < s.size),pkgB s[i]=true
def NameOk (s:ByteArray):Prop:=∃ (h1:0 < s.size),s.size≤30∧begB s[0]=true∧¬ s.data.toList ∈ words∧∀ i (h:i < s.size),letB s[i]=true
def hasText (k:Int):Bool:=k == 4 || k == 5 || k == 11 || k == 14 || inR k 16 21 || k == 23
def PlainNd (x:Nd):Prop :=
 (hasText x.kind=true∨x.text.toList=[])∧(x.kind=2∨x.kind=3∨x.n=0)∧(x.kind=6∨x.kind=7∨x.op=0) ∧
 (x.kind=2→x.n=0∨x.n=1)∧(x.kind=3→0≤x.n)∧(x.kind=4∨x.kind=17→x.text.size≤1000)∧(x.kind=6→1≤x.op∧x.op≤2)∧(x.kind=7→1≤x.op∧x.op≤14) ∧
 (x.kind=23→PkgOk x.text)∧(hasText x.kind=true→¬ x.kind=4→¬ x.kind=17→¬ x.kind=23→NameOk x.text)
def Apart (m:Nat) (nd:Nat→Nd):Prop:=∀ i,i < m→∀ k,k < i→¬ (nd k).text=(nd i).text
def AllE (m:Nat) (nd:Nat→Nd):Prop:=∀ i,i < m→isE (nd i).kind=true
def KidsOk (kind:Int) (m:Nat) (nd:Nat→Nd):Prop :=
 ((kind=1∨kind=2∨kind=3∨kind=4∨kind=5)∧m=0) ∨
 ((kind=6∨kind=11∨kind=17∨kind=18∨kind=21∨kind=22)∧m=1∧AllE m nd) ∨
 ((kind=7∨kind=10∨kind=14)∧m=2∧AllE m nd) ∨
 (kind=13∧m=3∧AllE m nd) ∨
 (kind=16∧2≤m∧m≤3∧AllE m nd) ∨
 (kind=19∧m≤1∧AllE m nd) ∨
 (kind=8∧m≤200∧AllE m nd) ∨
 (kind=9∧m≤200∧(∀ i,i < m→(nd i).kind=17)∧Apart m nd) ∨
 (kind=12∧∃ f,1≤f∧f≤m∧m≤9∧AllE f nd∧(∀ i,f≤i→i < m→(nd i).kind=18)∧Apart (m - f) (fun i=>nd (f+i))) ∨
 ((kind=15∨kind=20)∧1≤m∧m≤9∧(∀ i,i+1 < m→(nd i).kind=19)∧isE (nd (m - 1)).kind=true) ∨
 (kind=23∧1≤m∧m≤200∧∀ i,i < m→(nd i).kind=5) ∨
 (kind=24∧m≤200∧∀ i,i < m→20≤(nd i).kind∧(nd i).kind≤23)
end Go.Proofs.YtabbahpalemlhaaGreatDoor
namespace Go.Proofs.YtabbahpalemlhaaGreatDoor
open Go.RowKit
set_option maxRecDepth 20000
theorem head_eq (s:ByteArray) (hp:0 < s.size):s.data.toList=s[0] :: s.data.toList.tail:=by
 match s,hp with
 | ⟨⟨c :: r⟩⟩,_=>rfl
 | ⟨⟨[]⟩⟩,h=>exact absurd h (by decide)
theorem len_size (s:ByteArray):s.data.toList.length=s.size:=by simp
theorem notEmpty (s:ByteArray) (hp:0 < s.size):s.toList.isEmpty=false:=by
 rw [Lib.toList_data,head_eq s hp];rfl
theorem indexByte_run (l:List UInt8):Lib.indexByte l 10=if run nn l < l.length then (run nn l:Int) else -1:=by
 induction l with
 | nil=>rfl
 | cons b l ih =>
  unfold Lib.indexByte
  rw [run_cons,ih]
  by_cases h:b=10
  ·subst h;simp [nn]
  ·have e:nn b=true:=by simp [nn,h]
   have hb:(b == 10)=false:=by simp [h]
   rw [hb,if_pos e]
   by_cases h2:run nn l < l.length
   ·have hne:(((run nn l:Nat):Int) == -1)=false:=by rw [beq_eq_false_iff_ne];omega
    simp only [h2,if_true,hne,List.length_cons,Nat.add_lt_add_iff_right,Bool.false_eq_true,if_false];omega
   ·simp [h2]
set_option maxHeartbeats 400000 in
theorem sl_indexByte_any (s:ByteArray) (c:Int) (w:World) :
  Calls Tryz.prog 63 #[.string s,.int .u8 c] w fun e w'=>e=.returned (.int .i64 (Lib.indexByte s.data.toList c.toNat.toUInt8))∧w'=w:=by
 go_enter Tryz.func63,Tryz.ntmps63
 go_wp2
 rw [run_callFunc_extern Tryz.func84 (by kernel_rfl) (by kernel_rfl) (by kernel_rfl) (e:=Extern.BytealgIndexByte.indexByte) (by kernel_rfl),Lib.run_indexByteString]
 simp only [Result.andThen]
 rw [Oper.upon_value]
 go_wp2
 go_ret
 exact ⟨rfl,rfl⟩
set_option maxHeartbeats 400000 in
theorem indexByte_any (s:ByteArray) (c:Int) (w:World) :
  Calls Tryz.prog 42 #[.string s,.int .u8 c] w fun e w'=>e=.returned (.int .i64 (Lib.indexByte s.data.toList c.toNat.toUInt8))∧w'=w:=by
 go_enter Tryz.func42,Tryz.ntmps42
 go_wp2_with (go_at_call 63;refine (sl_indexByte_any _ _ _).mono ?_;rintro e w' ⟨rfl,rfl⟩)
 go_ret
 exact ⟨rfl,rfl⟩
theorem indexByte10 (s:ByteArray) (w:World) :
  Calls Tryz.prog 42 #[.string s,.int .u8 10] w fun e w'=>e=.returned (.int .i64 (if run nn s.data.toList < s.size then (run nn s.data.toList:Int) else -1))∧w'=w:=by
 refine (indexByte_any s 10 w).mono ?_
 rintro e w' ⟨rfl,rfl⟩
 refine ⟨ret_int ?_,rfl⟩
 have:=indexByte_run s.data.toList
 simpa using this
set_option maxHeartbeats 400000 in
theorem gap_any (s:ByteArray) (w:World) (hs:s.size≤maxLen) :
  Calls Tryz.prog 26 #[.string s] w fun e w'=>e=.returned (.int .i64 (gap1 s.data.toList))∧w'=w:=by
 unfold maxLen at hs
 by_cases hp:0 < s.size
 ·have hne:=notEmpty s hp
  have HH:Hid (s.data.toList=s[0] :: s.data.toList.tail):=head_eq s hp
  by_cases h1:s[0].toNat=32
  ·have HE:Hid (gap1 s.data.toList=1):=by
    show _=_;rw [HH.out];simp [gap1,h1]
   have h1':((s[0].toNat:Int) == 32)=true:=by rw [beq_iff_eq];omega
   clear h1
   go_enter Tryz.func26,Tryz.ntmps26
   go_wp2
   go_ret
   exact ⟨ret_int (by rw [HE.out];rfl),rfl⟩
  ·have h1':((s[0].toNat:Int) == 32)=false:=by rw [beq_eq_false_iff_ne];omega
   by_cases h2:s[0].toNat=10
   ·have HE:Hid (gap1 s.data.toList=1):=by
     show _=_;rw [HH.out];simp [gap1,h2]
    have h2':((s[0].toNat:Int) == 10)=true:=by rw [beq_iff_eq];omega
    clear h1 h2
    go_enter Tryz.func26,Tryz.ntmps26
    go_wp2
    go_ret
    exact ⟨ret_int (by rw [HE.out];rfl),rfl⟩
   ·have h2':((s[0].toNat:Int) == 10)=false:=by rw [beq_eq_false_iff_ne];omega
    by_cases h3:s[0].toNat=35
    ·have h3':((s[0].toNat:Int) == 35)=true:=by rw [beq_iff_eq];omega
     have HE:Hid (gap1 s.data.toList=run nn s.data.toList):=by
      show _=_;rw [HH.out];simp [gap1,h3]
     have hrl:=run_le nn s.data.toList
     have hsz:s.data.toList.length=s.size:=by simp
     clear h1 h2 h3
     by_cases h4:run nn s.data.toList < s.size
     ·have HI:Hid ((if run nn s.data.toList < s.size then (run nn s.data.toList:Int) else -1)=(run nn s.data.toList:Int)):=if_pos h4
      clear hsz
      go_enter Tryz.func26,Tryz.ntmps26
      go_wp2_with (go_at_call 42;refine (indexByte10 _ _).mono ?_;rintro e w' ⟨rfl,rfl⟩;rw [HI.out])
      go_ret
      exact ⟨ret_int (by rw [HE.out]),rfl⟩
     ·have HI:Hid ((if run nn s.data.toList < s.size then (run nn s.data.toList:Int) else -1)=(-1:Int)):=if_neg h4
      have HE2:Hid (gap1 s.data.toList=s.size):=by show _=_;rw [HE.out];omega
      clear hsz h4 hrl
      go_enter Tryz.func26,Tryz.ntmps26
      go_wp2_with (go_at_call 42;refine (indexByte10 _ _).mono ?_;rintro e w' ⟨rfl,rfl⟩;rw [HI.out])
      go_ret
      exact ⟨ret_int (by rw [HE2.out]),rfl⟩
    ·have h3':((s[0].toNat:Int) == 35)=false:=by rw [beq_eq_false_iff_ne];omega
     have HE:Hid (gap1 s.data.toList=0):=by
      show _=_;rw [HH.out];simp [gap1,h1,h2,h3]
     clear h1 h2 h3
     go_enter Tryz.func26,Tryz.ntmps26
     go_wp2
     go_ret
     exact ⟨ret_int (by rw [HE.out];rfl),rfl⟩
 ·have hd:s.data.toList=[]:=by
   apply List.eq_nil_of_length_eq_zero;rw [len_size];omega
  have HE:Hid (gap1 s.data.toList=0):=by show _=_;rw [hd];rfl
  have hne:s.toList.isEmpty=true:=by rw [Lib.toList_data,hd];rfl
  clear hd
  go_enter Tryz.func26,Tryz.ntmps26
  go_wp2
  go_ret
  exact ⟨ret_int (by rw [HE.out];rfl),rfl⟩
end Go.Proofs.YtabbahpalemlhaaGreatDoor
namespace Go.Proofs.YtabbahpalemlhaaGreatDoor
def mlt (c:Int):Bool:=decide (97≤c) && decide (c≤122)
def mltB (c:UInt8):Bool:=mlt c.toNat
def tws:List (List UInt8):=[ [98,111,111,108],[116,101,120,116],[117,56],[117,49,54],[117,51,50],[117,54,52],[105,56],[105,49,54],[105,51,50],[105,54,52] ]
def pws:List (List UInt8):=[ [102,110],[108,101,116],[105,102],[101,108,115,101],[119,104,105,108,101],[98,114,101,97,107],[99,111,110,116,105,110,117,101],[114,101,116,117,114,110],[102,97,105,108],[119,114,105,116,101],[115,97,121],[116,114,117,101],[102,97,108,115,101] ]
def bws:List (List UInt8):=[ [114,101,97,100],[104,97,115],[108,105,115,116],[116,111,111,108],[97,114,103],[108,101,110],[97,116],[99,117,116],[102,105,110,100],[99,104,114],[100,101,99],[110,117,109] ]
def mws:List (List UInt8):=tws ++ pws ++ bws
def mmarks:List (List UInt8):=[ [45,62],[61,61],[33,61],[60,61],[62,61],[60,60],[62,62],[38,38],[124,124],[40],[41],[123],[125],[44],[59],[61],[60],[62],[43],[45],[42],[47],[37],[38],[124],[94],[33],[126] ]
def mtype (x:List UInt8):Nat:=if x ∈ tws then tws.idxOf x+1 else 0
def mmax:Nat→Nat
 | 3=>255 | 4=>65535 | 5=>4294967295 | 6=>18446744073709551615 | 7=>127 | 8=>32767 | 9=>2147483647 | _=>9223372036854775807
def s64 (x:Nat):Int:=if x≤9223372036854775807 then x else (x:Int) - 18446744073709551616
structure MOne where
 kind:Nat
 text:List UInt8
 ty:Nat
 n:Int
 size:Nat
 code:Nat
def MOne.bad (c:Nat):MOne:=⟨0,[],0,0,0,c⟩
def numTy (p:List UInt8):Nat:=if run digB p < p.length then mtype (p.drop (run digB p)) else 10
def mnumP (p:List UInt8):MOne :=
 if numTy p < 3∨(p.take 1=[48]∧1 < run digB p)∨mmax (numTy p) < dval (p.take (run digB p)) then MOne.bad 3
 else ⟨3,[],numTy p,s64 (dval (p.take (run digB p))),p.length,0⟩
def mnum (l:List UInt8):MOne:=mnumP (l.take (run letB l))
def mname (l:List UInt8):MOne :=
 if l.take (run letB l) ∈ mws then ⟨2,l.take (run letB l),0,0,run letB l,0⟩
 else if 30 < run letB l then MOne.bad 5 else ⟨1,l.take (run letB l),0,0,run letB l,0⟩
def mtext (r:List UInt8):MOne :=
 match unqF (r.length+1) r with
 | none=>MOne.bad 4
 | some (o,k)=>if 3000 < o.length then MOne.bad 5 else ⟨4,o,0,0,k+1,0⟩
def mmark (l:List UInt8):MOne :=
 match mmarks.find? (fun m=>m.isPrefixOf l) with
 | none=>MOne.bad 2
 | some m=>⟨5,m,0,0,m.length,0⟩
def mone:List UInt8→MOne
 | []=>MOne.bad 2
 | c :: r=>if c.toNat=34 then mtext r else if digB c=true then mnum (c :: r) else if mltB c=true then mname (c :: r) else mmark (c :: r)
structure MTok where
 kind:Nat
 text:List UInt8
 ty:Nat
 n:Int
 place:Nat
end Go.Proofs.YtabbahpalemlhaaGreatDoor
namespace Go.Proofs.YtabbahpalemlhaaGreatDoor
def dfold (acc:Nat) (l:List UInt8):Nat:=l.foldl (fun a c=>a * 10+(c.toNat - 48)) acc
theorem dfold_cons (acc:Nat) (c:UInt8) (l:List UInt8):dfold acc (c :: l)=dfold (acc * 10+(c.toNat - 48)) l:=by unfold dfold;rw [List.foldl_cons]
theorem dfold_ge (acc:Nat) (l:List UInt8):acc≤dfold acc l:=by
 induction l generalizing acc with
 | nil=>exact Nat.le_refl _
 | cons c l ih=>rw [dfold_cons];have:=ih (acc * 10+(c.toNat - 48));omega
theorem digB_iff (c:UInt8):digB c=true ↔ 48≤c.toNat∧c.toNat≤57:=by
 unfold digB dig;simp;omega
theorem pu_ok (M:Nat) (hM:9223372036854775807≤M) (acc:Nat) (l:List UInt8) (hd:∀ c ∈ l,digB c=true) (hb:dfold acc l≤9223372036854775807):Lib.parseUintM M acc l=.ok (dfold acc l):=by
 induction l generalizing acc with
 | nil=>rfl
 | cons c l ih =>
  have h1:=(digB_iff c).1 (hd c (List.mem_cons_self ..))
  rw [dfold_cons] at hb ⊢
  have h2:=dfold_ge (acc * 10+(c.toNat - 48)) l
  unfold Lib.parseUintM
  rw [if_pos h1,if_neg (by omega),if_neg (by omega)]
  exact ih _ (fun x hx=>hd x (List.mem_cons_of_mem _ hx)) hb
theorem pu_of (M:Nat) (acc:Nat) (l:List UInt8) (u:Nat) (h:Lib.parseUintM M acc l=.ok u):(∀ c ∈ l,digB c=true)∧u=dfold acc l:=by
 induction l generalizing acc with
 | nil=>unfold Lib.parseUintM at h;cases h;exact ⟨fun c hc=>by simp at hc,rfl⟩
 | cons c l ih =>
  unfold Lib.parseUintM at h
  split at h
  ·rename_i h1
   split at h
   ·cases h
   ·split at h
    ·cases h
    ·have:=ih _ h
     refine ⟨fun x hx=>?_,this.2⟩
     rcases List.mem_cons.1 hx with e | e
     ·rw [e];exact (digB_iff c).2 h1
     ·exact this.1 x e
  ·cases h
theorem two63:(2:Nat) ^ (64 - 1)=9223372036854775808:=by decide
theorem two64:9223372036854775807≤(2:Nat) ^ 64 - 1:=by decide
theorem pi_ok (c:UInt8) (r:List UInt8) (hd:∀ x ∈ c :: r,digB x=true) (hb:dval (c :: r)≤9223372036854775807):Lib.parseIntB 64 (c :: r)=.ok (dval (c :: r):Int):=by
 have h1:=(digB_iff c).1 (hd c (List.mem_cons_self ..))
 have hu:=pu_ok (2 ^ 64 - 1) two64 0 (c :: r) hd hb
 unfold Lib.parseIntB Lib.parseUintB
 simp only
 rw [if_neg (show ¬ (c.toNat=43∨c.toNat=45) by omega),if_neg (by simp),hu]
 simp only
 rw [if_neg,if_neg,if_neg]
 ·rfl
 ·omega
 ·rintro ⟨h,_⟩;omega
 ·rintro ⟨_,h⟩
  rw [two63] at h
  have:dfold 0 (c :: r)=dval (c :: r):=rfl
  omega
theorem pi_of (c:UInt8) (r:List UInt8) (v:Int) (hc:digB c=true) (h:Lib.parseIntB 64 (c :: r)=.ok v):(∀ x ∈ c :: r,digB x=true)∧v=dval (c :: r)∧dval (c :: r)≤9223372036854775807:=by
 have h1:=(digB_iff c).1 hc
 unfold Lib.parseIntB Lib.parseUintB at h
 simp only at h
 rw [if_neg (show ¬ (c.toNat=43∨c.toNat=45) by omega),if_neg (by simp)] at h
 cases hu:Lib.parseUintM (2 ^ 64 - 1) 0 (c :: r) with
 | ok u =>
  rw [hu] at h
  simp only at h
  obtain ⟨h2,h3⟩:=pu_of _ _ _ _ hu
  have e:dfold 0 (c :: r)=dval (c :: r):=rfl
  split at h
  ·cases h
  ·rename_i hx
   rw [two63] at hx
   split at h
   ·cases h
   ·rw [if_neg (by omega)] at h
    cases h
    refine ⟨h2,by rw [h3,e],?_⟩
    rw [← e,← h3]
    apply Nat.le_of_not_lt;intro hh
    exact hx ⟨by omega,by omega⟩
 | _=>rw [hu] at h;cases h
theorem num_parse (L:List UInt8) (c:UInt8) (r:List UInt8) (hL:L=c :: r) (hc:digB c=true) :
  (∀ v,Lib.parseIntB 64 (L.take (run letB L))=.ok v→run digB L=run letB L∧v=dval (L.take (run letB L))∧dval (L.take (run letB L))≤9223372036854775807) ∧
  ((∀ v,Lib.parseIntB 64 (L.take (run letB L))≠.ok v)→numOne L=One.bad 3):=by
 have hk:1≤run letB L:=by rw [hL];exact run_pos _ _ _ (dig_let hc)
 obtain ⟨k,hk'⟩:∃ k,run letB L=k+1:=⟨run letB L - 1,by omega⟩
 have ht:L.take (run letB L)=c :: r.take k:=by rw [hk',hL];rfl
 have hall:(∀ x ∈ L.take (run letB L),digB x=true) ↔ run digB L=run letB L:=by
  have hm:=run_mono (fun c=>dig_let (c:=c)) L
  have hle:=run_le letB L
  constructor
  ·intro h
   apply Nat.le_antisymm hm
   apply Nat.le_of_not_lt;intro hlt
   have hl:run digB L < L.length:=by omega
   have h2:digB L[run digB L]=true:=by
    apply h
    rw [List.mem_take_iff_getElem]
    exact ⟨run digB L,by omega,rfl⟩
   have:=run_step digB L _ (Nat.le_refl _) hl h2
   omega
  ·intro h x hx
   rw [List.mem_take_iff_getElem] at hx
   obtain ⟨i,hi,rfl⟩:=hx
   exact run_all digB L (run digB L) (Nat.le_refl _) i (by omega) (by omega)
 constructor
 ·intro v hv
  rw [ht] at hv
  obtain ⟨h1,h2,h3⟩:=pi_of c _ v hc hv
  rw [← ht] at h1 h2 h3
  exact ⟨hall.1 h1,h2,h3⟩
 ·intro h
  by_cases hd:run digB L=run letB L
  ·by_cases hb:dval (L.take (run letB L))≤9223372036854775807
   ·exfalso
    have h1:=hall.2 hd
    rw [ht] at h1 hb h
    exact h _ (pi_ok c _ h1 hb)
   ·exact num_bad L _ hd (.inr (.inr (by omega)))
  ·exact num_bad L _ rfl (.inl (fun e=>hd e.symm))
end Go.Proofs.YtabbahpalemlhaaGreatDoor
namespace Go.Proofs.YtabbahpalemlhaaGreatDoor
open Go.RowKit
set_option maxRecDepth 20000
theorem get_eq (s:ByteArray) (k:Nat) (h:k < s.size):s.data.toList[k]'(by rw [len_size];exact h)=s[k]:=rfl
set_option maxHeartbeats 1000000 in
theorem l1Gap_any (s:ByteArray) (a:Int) (w:World) (hs:s.size≤maxLen) (h0:0≤a) (h1:a≤s.size) :
  Calls Tryz.prog 14 #[.string s,.int .i64 a] w fun e w'=>e=.returned (.int .i64 (a+gapN false (s.data.toList.drop a.toNat)))∧w'=w:=by
 unfold maxLen at hs
 obtain ⟨n,rfl⟩:=Int.eq_ofNat_of_zero_le h0
 rw [Int.toNat_natCast]
 obtain ⟨T,hT⟩:∃ T:Nat,n+gapN false (s.data.toList.drop n)=T:=⟨_,rfl⟩
 have e:((n:Int)+(gapN false (s.data.toList.drop n):Nat))=(T:Int):=by omega
 rw [e];clear e
 have HT:Hid (n+gapN false (s.data.toList.drop n)=T):=hT
 clear hT
 have hn:n≤s.size:=by omega
 clear h0 h1
 have hsz:=len_size s
 have HSZ:Hid (s.data.toList.length=s.size):=hsz
 clear hsz
 go_enter Tryz.func14,Tryz.ntmps14
 go_wp2
 go_loop [1] (fun i=>∃ k:Nat,k≤s.size∧i=.int .i64 k∧k+gapN false (s.data.toList.drop k)=T) (fun i=>s.size - (intOf i).toNat)
 case atStart=>exact ⟨n,hn,rfl,HT.out⟩
 case round =>
  obtain ⟨k,hk,rfl,hr⟩:=hrel
  have HR:Hid (k+gapN false (s.data.toList.drop k)=T):=hr
  clear hr
  by_cases hlt:k < s.size
  ·have hl:k < s.data.toList.length:=by rw [HSZ.out];exact hlt
   by_cases c1:s[k].toNat=35
   ·have c1':((s[k].toNat:Int) == 35)=true:=by rw [beq_iff_eq];omega
    have HG:Hid (k+gapN true (s.data.toList.drop k)=T):=by
     show _=_;rw [← gf_note _ k hl (by rw [get_eq s k hlt];exact c1)];exact HR.out
    have C1:Hid (s[k].toNat=35):=c1
    clear c1
    go_wp2
    go_loop [1] (fun i=>∃ m:Nat,k≤m∧m≤s.size∧i=.int .i64 m∧m+gapN true (s.data.toList.drop m)=T) (fun i=>s.size - (intOf i).toNat)
    case atStart=>exact ⟨k,Nat.le_refl _,hk,rfl,HG.out⟩
    case round =>
     obtain ⟨m,hkm,hm,rfl,hr2⟩:=hrel
     have HR2:Hid (m+gapN true (s.data.toList.drop m)=T):=hr2
     clear hr2
     by_cases hml:m < s.size
     ·have hl2:m < s.data.toList.length:=by rw [HSZ.out];exact hml
      by_cases c2:s[m].toNat=10
      ·have c2':((s[m].toNat:Int) != 10)=false:=by simp;omega
       have hne:k < m:=by
        rcases Nat.lt_or_eq_of_le hkm with h | h
        ·exact h
        ·subst h;have:=C1.out;omega
       have HX:Hid (m+gapN false (s.data.toList.drop m)=T):=by
        show _=_;rw [← gt_nl _ m hl2 (by rw [get_eq s m hml];exact c2)];exact HR2.out
       clear c2
       go_wp2
       go_round
       case rel=>exact ⟨m,hm,rfl,HX.out⟩
       case measure=>simp [intOf];omega
      ·have c2':((s[m].toNat:Int) != 10)=true:=by simp;omega
       have HX:Hid (m+1+gapN true (s.data.toList.drop (m+1))=T):=by
        have:=gt_step _ m hl2 (by rw [get_eq s m hml];exact c2)
        have h2:=HR2.out
        show _=_;omega
       clear c2
       go_wp2
       go_round
       case rel=>exact ⟨m+1,by omega,by omega,by go_num,HX.out⟩
       case measure=>simp [intOf];omega
     ·have HX:Hid (m+gapN false (s.data.toList.drop m)=T):=by
       have:=g_end true s.data.toList m (by rw [HSZ.out];omega)
       have h3:=g_end false s.data.toList m (by rw [HSZ.out];omega)
       have h2:=HR2.out
       show _=_;omega
      go_wp2
      go_round
      case rel=>exact ⟨m,hm,rfl,HX.out⟩
      case measure=>simp [intOf];omega
   ·have c1':((s[k].toNat:Int) == 35)=false:=by rw [beq_eq_false_iff_ne];omega
    by_cases c3:s[k].toNat=32∨s[k].toNat=10
    ·have HX:Hid (k+1+gapN false (s.data.toList.drop (k+1))=T):=by
      have:=gf_blank _ k hl (by rw [get_eq s k hlt];exact c3)
      have h2:=HR.out
      show _=_;omega
     clear c1
     by_cases c4:s[k].toNat=32
     ·have c4':((s[k].toNat:Int) == 32)=true:=by rw [beq_iff_eq];omega
      clear c3 c4
      go_wp2
      go_round
      case rel=>exact ⟨k+1,by omega,by go_num,HX.out⟩
      case measure=>simp [intOf];omega
     ·have c4':((s[k].toNat:Int) == 32)=false:=by rw [beq_eq_false_iff_ne];omega
      have c5':((s[k].toNat:Int) == 10)=true:=by rw [beq_iff_eq];omega
      clear c3 c4
      go_wp2
      go_round
      case rel=>exact ⟨k+1,by omega,by go_num,HX.out⟩
      case measure=>simp [intOf];omega
    ·have c4':((s[k].toNat:Int) == 32)=false:=by rw [beq_eq_false_iff_ne];omega
     have c5':((s[k].toNat:Int) == 10)=false:=by rw [beq_eq_false_iff_ne];omega
     have HX:Hid (k=T):=by
      have:=gf_stop _ k hl (by rw [get_eq s k hlt];exact c1) (by rw [get_eq s k hlt];omega) (by rw [get_eq s k hlt];omega)
      have h2:=HR.out
      show _=_;omega
     clear c1 c3
     go_wp2
     go_ret
     exact ⟨ret_int (by rw [HX.out]),rfl⟩
  ·have HX:Hid (k=T):=by
    have:=g_end false s.data.toList k (by rw [HSZ.out];omega)
    have h2:=HR.out
    show _=_;omega
   go_wp2
   go_ret
   exact ⟨ret_int (by rw [HX.out]),rfl⟩
theorem bytes_eq {a b:ByteArray} (h:(a.toList == b.toList)=true):a=b:=by
 rw [Lib.toList_data,Lib.toList_data,beq_iff_eq] at h
 exact ByteArray.ext (Array.toList_inj.1 h)
set_option maxHeartbeats 400000 in
theorem l1Words_any (w:World) :
  Calls Tryz.prog 21 #[] w fun e w'=>e=.returned (.slice (some ⟨w.heap.size,0,none⟩) 17 17)∧w'=w.alloc (.cells (words.map fun x=>Value.string ⟨x.toArray⟩).toArray 9):=by
 go_enter Tryz.func21,Tryz.ntmps21
 go_wp2
 go_ret
 exact ⟨rfl,rfl⟩
set_option maxHeartbeats 400000 in
theorem l1Marks_any (w:World) :
  Calls Tryz.prog 23 #[] w fun e w'=>e=.returned (.slice (some ⟨w.heap.size,0,none⟩) 23 23)∧w'=w.alloc (.cells (marks.map fun x=>Value.string ⟨x.toArray⟩).toArray 9):=by
 go_enter Tryz.func23,Tryz.ntmps23
 go_wp2
 go_ret
 exact ⟨rfl,rfl⟩
set_option maxHeartbeats 400000 in
theorem l1Has_any (b n:Nat) (s:ByteArray) (ss:Nat→ByteArray) (w:World) (hn:n≤100)
  (hc:∀ i,i < n→w.cell? ⟨b,i,none⟩=some (.string (ss i))) :
  Calls Tryz.prog 32 #[.slice (some ⟨b,0,none⟩) n n,.string s] w fun e w'=>(e=.returned (.bool true)∧(∃ i,i < n∧ss i=s)∨e=.returned (.bool false)∧(∀ i,i < n→¬ ss i=s))∧w'=w:=by
 go_enter Tryz.func32,Tryz.ntmps32
 go_wp2
 go_loop [5] (fun i=>∃ k:Nat,k≤n∧i=.int .i64 k∧∀ i,i < k→¬ ss i=s) (fun i=>n - (intOf i).toNat)
 case atStart=>exact ⟨0,Nat.zero_le _,rfl,fun i h=>absurd h (Nat.not_lt_zero _)⟩
 case round =>
  obtain ⟨k,hk,rfl,hr⟩:=hrel
  have HR:Hid (∀ i,i < k→¬ ss i=s):=hr
  clear hr
  by_cases hlt:k < n
  ·have hck:=hc k hlt
   have HC:Hid (∀ i,i < n→w.cell? ⟨b,i,none⟩=some (.string (ss i))):=hc
   clear hc
   cases hq:((ss k).toList == s.toList)
   ·have HN:Hid (¬ ss k=s):=fun e=>by rw [e] at hq;simp at hq
    go_wp2
    go_round
    case rel=>exact ⟨k+1,by omega,by go_num,fun i h=>by
     rcases Nat.lt_or_eq_of_le (Nat.lt_succ_iff.1 h) with h | h
     ·exact HR.out i h
     ·subst h;exact HN.out⟩
    case measure=>simp [intOf];omega
   ·have HN:Hid (ss k=s):=bytes_eq hq
    go_wp2
    go_ret
    exact ⟨.inl ⟨rfl,k,hlt,HN.out⟩,rfl⟩
  ·go_wp2
   go_ret
   exact ⟨.inr ⟨rfl,fun i h=>HR.out i (by omega)⟩,rfl⟩
def wordS (i:Nat):ByteArray:=⟨(words.getD i []).toArray⟩
def markS (i:Nat):ByteArray:=⟨(marks.getD i []).toArray⟩
theorem cell_new_row (w:World) (cs:Array Value) (t:TypeId) (i:Nat):(w.alloc (.cells cs t)).cell? ⟨w.heap.size,i,none⟩=cs[i]?:=by
 have h:=heap_alloc_new w (.cells cs t)
 unfold World.cell?
 rw [h];rfl
theorem wordS_cell (w:World) (i:Nat) (h:i < 17):(w.alloc (.cells (words.map fun x=>Value.string ⟨x.toArray⟩).toArray 9)).cell? ⟨w.heap.size,i,none⟩=some (.string (wordS i)):=by
 rw [cell_new_row]
 have hl:i < words.length:=h
 simp [wordS,hl]
theorem markS_cell (w:World) (i:Nat) (h:i < 23):(w.alloc (.cells (marks.map fun x=>Value.string ⟨x.toArray⟩).toArray 9)).cell? ⟨w.heap.size,i,none⟩=some (.string (markS i)):=by
 rw [cell_new_row]
 have hl:i < marks.length:=h
 simp [markS,hl]
theorem wordS_mem (t:List UInt8):(∃ i,i < 17∧wordS i=⟨t.toArray⟩) ↔ t ∈ words:=by
 constructor
 ·rintro ⟨i,h,e⟩
  have hl:i < words.length:=h
  have e2:words.getD i []=t:=by
   have:=congrArg (fun b:ByteArray=>b.data.toList) e
   simpa [wordS] using this
  rw [← e2]
  simp [hl]
 ·intro h
  obtain ⟨i,hl,e⟩:=List.getElem_of_mem h
  exact ⟨i,hl,by simp [wordS,hl,e]⟩
theorem l1Has_words (s:ByteArray) (w:World) (b:Nat) (hc:∀ i,i < 17→w.cell? ⟨b,i,none⟩=some (.string (wordS i))) :
  Calls Tryz.prog 32 #[.slice (some ⟨b,0,none⟩) 17 17,.string s] w fun e w'=>e=.returned (.bool (decide (s.data.toList ∈ words)))∧w'=w:=by
 refine (l1Has_any b 17 s wordS w (by omega) hc).mono ?_
 rintro e w' ⟨⟨rfl,h⟩ | ⟨rfl,h⟩,rfl⟩
 ·exact ⟨ret_bool (by have:=(wordS_mem s.data.toList).1 (by simpa using h);simp [this]),rfl⟩
 ·refine ⟨ret_bool ?_,rfl⟩
  have:¬ s.data.toList ∈ words:=fun hm=>by
   obtain ⟨i,hi,e⟩:=(wordS_mem s.data.toList).2 hm
   exact h i hi (by simpa using e)
  simp [this]
def oneV (o:One) (a:Int):Value :=
 if o.code=0 then .tuple #[.agg #[.int .i64 o.kind,.string ⟨o.text.toArray⟩,.int .i64 o.n,.int .i64 a],.int .i64 (a+o.size),.int .i64 0]
 else .tuple #[.agg #[.int .i64 0,.string ⟨#[]⟩,.int .i64 0,.int .i64 0],.int .i64 0,.int .i64 o.code]
theorem hid {p:Prop} (h:p):Hid p:=h
theorem oneV_bad {o:One} {c:Nat} (h:o=One.bad c) (hc:c≠0) (a:Int):oneV o a=.tuple #[.agg #[.int .i64 0,.string ⟨#[]⟩,.int .i64 0,.int .i64 0],.int .i64 0,.int .i64 c]:=by
 subst h;exact if_neg hc
theorem oneV_good {o:One} {k:Nat} {t:List UInt8} {n z:Nat} (h:o=⟨k,t,n,z,0⟩) (a:Int):oneV o a=.tuple #[.agg #[.int .i64 k,.string ⟨t.toArray⟩,.int .i64 n,.int .i64 a],.int .i64 (a+z),.int .i64 0]:=by
 subst h;unfold oneV;rw [if_pos rfl]
theorem drop_get (l L:List UInt8) (n k:Nat) (h:l.drop n=L) (hl:n+k < l.length) (hL:k < L.length):L[k]=l[n+k]:=by
 subst h;simp
theorem take1 (l L:List UInt8) (n:Nat) (h:l.drop n=L) (hl:n < l.length):L.take 1=[l[n]]:=by
 subst h;rw [List.drop_eq_getElem_cons hl];rfl
theorem sing48 (c:UInt8):[c]=[48] ↔ c.toNat=48:=by
 constructor
 ·intro h;cases h;rfl
 ·intro h;rw [show c=48 from UInt8.toNat_inj.1 h]
theorem num_post (s:ByteArray) (n k:Nat) (L:List UInt8) (HL:Hid (s.data.toList.drop n=L)) (hn:n < s.size) (hd:run digB L=k) (hk:k < L.length→n+k < s.size) (hke:¬ k < L.length→L.length=k) :
  (∀ (hlt:n+k < s.size),letB s[n+k]=true→numOne L=One.bad 3)∧(s[n].toNat=48→1 < k→numOne L=One.bad 3)∧(9223372036854775807 < dval (L.take k)→numOne L=One.bad 3) ∧
  ((∀ (hlt:n+k < s.size),letB s[n+k]=false)→(s[n].toNat=48→k≤1)→dval (L.take k)≤9223372036854775807→numOne L=⟨3,[],dval (L.take k),k,0⟩):=by
 have hlen:L.length=s.size - n:=by rw [← HL.out,List.length_drop,len_size]
 have ht:L.take 1=[s[n]]:=take1 _ L n HL.out (by rw [len_size];exact hn)
 have hg:∀ (h1:k < L.length) (h2:n+k < s.size),L[k]=s[n+k]:=fun h1 h2=>drop_get _ L n k HL.out (by rw [len_size];exact h2) h1
 refine ⟨fun hlt h=>?_,fun h1 h2=>?_,fun h=>?_,fun h1 h2 h3=>?_⟩
 ·have hk1:k < L.length:=by omega
  exact num_bad L k hd (.inl ((num_let L k hd hk1).1 (by rw [hg hk1 hlt];exact h)))
 ·exact num_bad L k hd (.inr (.inl ⟨by rw [ht];exact (sing48 _).2 h1,h2⟩))
 ·exact num_bad L k hd (.inr (.inr h))
 ·refine num_good L k hd ?_ ?_ h3
  ·by_cases hk1:k < L.length
   ·have h2:=hk hk1
    have:=h1 h2
    cases hb:letB L[k]
    ·have hm:=run_mono (fun c=>dig_let (c:=c)) L
     rw [hd] at hm
     exact run_stop letB L k hm hk1 hb
    ·rw [hg hk1 h2,this] at hb;cases hb
   ·have he:=hke hk1
    have:=num_end L (by rw [hd,he])
    omega
  ·rintro ⟨h4,h5⟩
   rw [ht] at h4
   have:=h2 ((sing48 _).1 h4);omega
set_option maxHeartbeats 2000000 in
theorem l1Number_any (s:ByteArray) (n:Nat) (w:World) (hs:s.size≤8000) (hn:n < s.size) :
  Calls Tryz.prog 29 #[.string s,.int .i64 n] w fun e w'=>e=.returned (oneV (numOne (s.data.toList.drop n)) n)∧Below w.heap.size w w':=by
 obtain ⟨L,hL⟩:∃ L,s.data.toList.drop n=L:=⟨_,rfl⟩
 rw [hL]
 have HL:Hid (s.data.toList.drop n=L):=hL
 clear hL
 have HLEN:Hid (L.length=s.size - n):=by show _=_;rw [← HL.out,List.length_drop,len_size]
 go_enter Tryz.func29,Tryz.ntmps29
 go_wp2
 go_loop [7,8,9] (fun e x b=>∃ k:Nat,k≤run digB L∧n+k≤s.size∧e=.int .i64 ((n+k:Nat):Int) ∧
   ((b=.bool false∧x=.int .u64 (dval (L.take k))∧dval (L.take k)≤9223372036854775807) ∨
    (b=.bool true∧(∃ y,x=.int .u64 y)∧9223372036854775807 < dval (L.take k)))) (fun e _ _=>s.size - (intOf e).toNat)
 case atStart=>exact ⟨0,Nat.zero_le _,by omega,rfl,.inl ⟨rfl,rfl,by simp [dval]⟩⟩
 case round =>
  obtain ⟨k,hk,hks,rfl,hr⟩:=hrel
  have hrl:=run_le digB L
  by_cases hlt:n+k < s.size
  ·have hkl:k < L.length:=by have:=HLEN.out;omega
   have HGK:Hid (L[k]=s[n+k]):=drop_get _ L n k HL.out (by rw [len_size];exact hlt) hkl
   cases hp:dig (s[n+k].toNat:Int)
   ·have hd:=run_stop digB L k hk hkl (by rw [HGK.out];exact hp)
    have HP:=hid (num_post s n k L HL hn hd (fun _=>hlt) (fun h=>absurd hkl h))
    clear hd hkl HGK HLEN hk hrl
    rcases hr with ⟨rfl,rfl,hv⟩ | ⟨rfl,⟨y,rfl⟩,hv⟩
    ·cases hl:let_ (s[n+k].toNat:Int)
     ·by_cases z1:s[n].toNat=48
      ·have z1':((s[n].toNat:Int) == 48)=true:=by rw [beq_iff_eq];omega
       by_cases z2:1 < k
       ·have HB:Hid (numOne L=One.bad 3):=HP.out.2.1 z1 z2
        clear HP z1
        go_wp2_with (first
         | (go_at_call 28;refine (l1Digit_any _ _).mono ?_;rintro e w' ⟨rfl,rfl⟩)
         | (go_at_call 31;refine (l1Letter_any _ _).mono ?_;rintro e w' ⟨rfl,rfl⟩))
        exact bodyPost_ret (v:=.tuple #[.agg #[.int .i64 0,.string ⟨#[]⟩,.int .i64 0,.int .i64 0],.int .i64 0,.int .i64 3]) (by simp [results,Tryz.results29,go_sem]) rfl ⟨by rw [oneV_bad HB.out (by decide)];rfl,(Below.refl _ _).alloc (Nat.le_refl _) _⟩
       ·have HB:Hid (numOne L=⟨3,[],dval (L.take k),k,0⟩):=HP.out.2.2.2 (fun _=>hl) (fun _=>by omega) hv
        clear HP z1
        go_wp2_with (first
         | (go_at_call 28;refine (l1Digit_any _ _).mono ?_;rintro e w' ⟨rfl,rfl⟩)
         | (go_at_call 31;refine (l1Letter_any _ _).mono ?_;rintro e w' ⟨rfl,rfl⟩))
        exact bodyPost_ret (v:=.tuple #[.agg #[.int .i64 3,.string ⟨#[]⟩,.int .i64 (dval (L.take k)),.int .i64 n],.int .i64 ((n+k:Nat):Int),.int .i64 0]) (by simp [results,Tryz.results29,go_sem]) rfl ⟨by rw [oneV_good HB.out];rfl,(Below.refl _ _).alloc (Nat.le_refl _) _⟩
      ·have z1':((s[n].toNat:Int) == 48)=false:=by rw [beq_eq_false_iff_ne];omega
       have HB:Hid (numOne L=⟨3,[],dval (L.take k),k,0⟩):=HP.out.2.2.2 (fun _=>hl) (fun h=>absurd h z1) hv
       clear HP z1
       go_wp2_with (first
         | (go_at_call 28;refine (l1Digit_any _ _).mono ?_;rintro e w' ⟨rfl,rfl⟩)
         | (go_at_call 31;refine (l1Letter_any _ _).mono ?_;rintro e w' ⟨rfl,rfl⟩))
       exact bodyPost_ret (v:=.tuple #[.agg #[.int .i64 3,.string ⟨#[]⟩,.int .i64 (dval (L.take k)),.int .i64 n],.int .i64 ((n+k:Nat):Int),.int .i64 0]) (by simp [results,Tryz.results29,go_sem]) rfl ⟨by rw [oneV_good HB.out];rfl,(Below.refl _ _).alloc (Nat.le_refl _) _⟩
     ·by_cases z1:s[n].toNat=48
      ·have z1':((s[n].toNat:Int) == 48)=true:=by rw [beq_iff_eq];omega
       by_cases z2:1 < k
       ·have HB:Hid (numOne L=One.bad 3):=HP.out.2.1 z1 z2
        clear HP z1
        go_wp2_with (first
         | (go_at_call 28;refine (l1Digit_any _ _).mono ?_;rintro e w' ⟨rfl,rfl⟩)
         | (go_at_call 31;refine (l1Letter_any _ _).mono ?_;rintro e w' ⟨rfl,rfl⟩))
        exact bodyPost_ret (v:=.tuple #[.agg #[.int .i64 0,.string ⟨#[]⟩,.int .i64 0,.int .i64 0],.int .i64 0,.int .i64 3]) (by simp [results,Tryz.results29,go_sem]) rfl ⟨by rw [oneV_bad HB.out (by decide)];rfl,(Below.refl _ _).alloc (Nat.le_refl _) _⟩
       ·have HB:Hid (numOne L=One.bad 3):=HP.out.1 hlt hl
        clear HP z1
        go_wp2_with (first
         | (go_at_call 28;refine (l1Digit_any _ _).mono ?_;rintro e w' ⟨rfl,rfl⟩)
         | (go_at_call 31;refine (l1Letter_any _ _).mono ?_;rintro e w' ⟨rfl,rfl⟩))
        exact bodyPost_ret (v:=.tuple #[.agg #[.int .i64 0,.string ⟨#[]⟩,.int .i64 0,.int .i64 0],.int .i64 0,.int .i64 3]) (by simp [results,Tryz.results29,go_sem]) rfl ⟨by rw [oneV_bad HB.out (by decide)];rfl,(Below.refl _ _).alloc (Nat.le_refl _) _⟩
      ·have z1':((s[n].toNat:Int) == 48)=false:=by rw [beq_eq_false_iff_ne];omega
       have HB:Hid (numOne L=One.bad 3):=HP.out.1 hlt hl
       clear HP z1
       go_wp2_with (first
         | (go_at_call 28;refine (l1Digit_any _ _).mono ?_;rintro e w' ⟨rfl,rfl⟩)
         | (go_at_call 31;refine (l1Letter_any _ _).mono ?_;rintro e w' ⟨rfl,rfl⟩))
       exact bodyPost_ret (v:=.tuple #[.agg #[.int .i64 0,.string ⟨#[]⟩,.int .i64 0,.int .i64 0],.int .i64 0,.int .i64 3]) (by simp [results,Tryz.results29,go_sem]) rfl ⟨by rw [oneV_bad HB.out (by decide)];rfl,(Below.refl _ _).alloc (Nat.le_refl _) _⟩
    ·have HB:Hid (numOne L=One.bad 3):=HP.out.2.2.1 hv
     clear HP
     go_wp2_with (first
         | (go_at_call 28;refine (l1Digit_any _ _).mono ?_;rintro e w' ⟨rfl,rfl⟩)
         | (go_at_call 31;refine (l1Letter_any _ _).mono ?_;rintro e w' ⟨rfl,rfl⟩))
     exact bodyPost_ret (v:=.tuple #[.agg #[.int .i64 0,.string ⟨#[]⟩,.int .i64 0,.int .i64 0],.int .i64 0,.int .i64 3]) (by simp [results,Tryz.results29,go_sem]) rfl ⟨by rw [oneV_bad HB.out (by decide)];rfl,(Below.refl _ _).alloc (Nat.le_refl _) _⟩
   ·have hst:=run_step digB L k hk hkl (by rw [HGK.out];exact hp)
    have HDV:Hid (dval (L.take (k+1))=dval (L.take k) * 10+(s[n+k].toNat - 48)):=by show _=_;rw [dval_step L k hkl,HGK.out]
    have hdg:48≤(s[n+k].toNat:Int)∧(s[n+k].toNat:Int)≤57:=by unfold dig at hp;simpa using hp
    obtain ⟨hd1,hd2⟩:=hdg
    clear hkl HGK HLEN hk hrl
    rcases hr with ⟨rfl,rfl,hv⟩ | ⟨rfl,⟨y,rfl⟩,hv⟩
    ·by_cases c1:dval (L.take k)≤922337203685477580
     ·have c1':(dval (L.take k):Int)≤922337203685477580:=by omega
      by_cases c2:dval (L.take k) * 10+(s[n+k].toNat - 48)≤9223372036854775807
      ·have c2':(dval (L.take k):Int) * 10+((s[n+k].toNat:Int) - 48)≤9223372036854775807:=by omega
       go_wp2_with (first
         | (go_at_call 28;refine (l1Digit_any _ _).mono ?_;rintro e w' ⟨rfl,rfl⟩)
         | (go_at_call 31;refine (l1Letter_any _ _).mono ?_;rintro e w' ⟨rfl,rfl⟩))
       go_round
       case rel=>exact ⟨k+1,hst,by omega,by go_num,.inl ⟨rfl,by rw [HDV.out];go_num,by rw [HDV.out];exact c2⟩⟩
       case measure=>simp [intOf];omega
      ·have c2':9223372036854775807 < (dval (L.take k):Int) * 10+((s[n+k].toNat:Int) - 48):=by omega
       go_wp2_with (first
         | (go_at_call 28;refine (l1Digit_any _ _).mono ?_;rintro e w' ⟨rfl,rfl⟩)
         | (go_at_call 31;refine (l1Letter_any _ _).mono ?_;rintro e w' ⟨rfl,rfl⟩))
       go_round
       case rel=>exact ⟨k+1,hst,by omega,by go_num,.inr ⟨rfl,⟨_,rfl⟩,by rw [HDV.out];omega⟩⟩
       case measure=>simp [intOf];omega
     ·have c1':922337203685477580 < (dval (L.take k):Int):=by omega
      go_wp2_with (first
         | (go_at_call 28;refine (l1Digit_any _ _).mono ?_;rintro e w' ⟨rfl,rfl⟩)
         | (go_at_call 31;refine (l1Letter_any _ _).mono ?_;rintro e w' ⟨rfl,rfl⟩))
      all_goals
       go_round
       case rel=>exact ⟨k+1,hst,by omega,by go_num,.inr ⟨rfl,⟨_,rfl⟩,by rw [HDV.out];omega⟩⟩
       case measure=>simp [intOf];omega
    ·go_wp2_with (first
         | (go_at_call 28;refine (l1Digit_any _ _).mono ?_;rintro e w' ⟨rfl,rfl⟩)
         | (go_at_call 31;refine (l1Letter_any _ _).mono ?_;rintro e w' ⟨rfl,rfl⟩))
     all_goals
      go_round
      case rel=>exact ⟨k+1,hst,by omega,by go_num,.inr ⟨rfl,⟨_,rfl⟩,by rw [HDV.out];omega⟩⟩
      case measure=>simp [intOf];omega
  ·have hke:L.length=k:=by have:=HLEN.out;omega
   have hd:run digB L=k:=by omega
   have HP:=hid (num_post s n k L HL hn hd (fun h=>by omega) (fun _=>hke))
   clear hd HLEN hk hrl hke
   rcases hr with ⟨rfl,rfl,hv⟩ | ⟨rfl,⟨y,rfl⟩,hv⟩
   ·by_cases z1:s[n].toNat=48
    ·have z1':((s[n].toNat:Int) == 48)=true:=by rw [beq_iff_eq];omega
     by_cases z2:1 < k
     ·have HB:Hid (numOne L=One.bad 3):=HP.out.2.1 z1 z2
      clear HP z1
      go_wp2_with (first
         | (go_at_call 28;refine (l1Digit_any _ _).mono ?_;rintro e w' ⟨rfl,rfl⟩)
         | (go_at_call 31;refine (l1Letter_any _ _).mono ?_;rintro e w' ⟨rfl,rfl⟩))
      exact bodyPost_ret (v:=.tuple #[.agg #[.int .i64 0,.string ⟨#[]⟩,.int .i64 0,.int .i64 0],.int .i64 0,.int .i64 3]) (by simp [results,Tryz.results29,go_sem]) rfl ⟨by rw [oneV_bad HB.out (by decide)];rfl,(Below.refl _ _).alloc (Nat.le_refl _) _⟩
     ·have HB:Hid (numOne L=⟨3,[],dval (L.take k),k,0⟩):=HP.out.2.2.2 (fun h=>absurd h hlt) (fun _=>by omega) hv
      clear HP z1
      go_wp2_with (first
         | (go_at_call 28;refine (l1Digit_any _ _).mono ?_;rintro e w' ⟨rfl,rfl⟩)
         | (go_at_call 31;refine (l1Letter_any _ _).mono ?_;rintro e w' ⟨rfl,rfl⟩))
      exact bodyPost_ret (v:=.tuple #[.agg #[.int .i64 3,.string ⟨#[]⟩,.int .i64 (dval (L.take k)),.int .i64 n],.int .i64 ((n+k:Nat):Int),.int .i64 0]) (by simp [results,Tryz.results29,go_sem]) rfl ⟨by rw [oneV_good HB.out];rfl,(Below.refl _ _).alloc (Nat.le_refl _) _⟩
    ·have z1':((s[n].toNat:Int) == 48)=false:=by rw [beq_eq_false_iff_ne];omega
     have HB:Hid (numOne L=⟨3,[],dval (L.take k),k,0⟩):=HP.out.2.2.2 (fun h=>absurd h hlt) (fun h=>absurd h z1) hv
     clear HP z1
     go_wp2_with (first
         | (go_at_call 28;refine (l1Digit_any _ _).mono ?_;rintro e w' ⟨rfl,rfl⟩)
         | (go_at_call 31;refine (l1Letter_any _ _).mono ?_;rintro e w' ⟨rfl,rfl⟩))
     exact bodyPost_ret (v:=.tuple #[.agg #[.int .i64 3,.string ⟨#[]⟩,.int .i64 (dval (L.take k)),.int .i64 n],.int .i64 ((n+k:Nat):Int),.int .i64 0]) (by simp [results,Tryz.results29,go_sem]) rfl ⟨by rw [oneV_good HB.out];rfl,(Below.refl _ _).alloc (Nat.le_refl _) _⟩
   ·have HB:Hid (numOne L=One.bad 3):=HP.out.2.2.1 hv
    clear HP
    go_wp2_with (first
         | (go_at_call 28;refine (l1Digit_any _ _).mono ?_;rintro e w' ⟨rfl,rfl⟩)
         | (go_at_call 31;refine (l1Letter_any _ _).mono ?_;rintro e w' ⟨rfl,rfl⟩))
    exact bodyPost_ret (v:=.tuple #[.agg #[.int .i64 0,.string ⟨#[]⟩,.int .i64 0,.int .i64 0],.int .i64 0,.int .i64 3]) (by simp [results,Tryz.results29,go_sem]) rfl ⟨by rw [oneV_bad HB.out (by decide)];rfl,(Below.refl _ _).alloc (Nat.le_refl _) _⟩
theorem info_u8:(Tryz.prog.info? 5).map (fun i=>(i.zero,i.size,i.bytes))=some (some (.int .u8 0),1,1):=by kernel_rfl
theorem conv_row (w:World) (base:Nat) (v:Value) (l:List UInt8) (h:w.ownsRow base 5 1 v l.length (Lib.byteCells l)) :
  (convert 22 9 v).run Tryz.prog w=.ok (.string ⟨l.toArray⟩) w:=by
 obtain ⟨_,⟨rfl,h0⟩ | ⟨g,cap,cur,rfl,_,hg,_,_,_,htk⟩⟩:=h
 ·have e:l=[]:=List.eq_nil_of_length_eq_zero h0
  subst e
  exact Lib.run_convert_nil_bytes w _ _ 5 0 Tryz.underlying22 Tryz.underlying5 Tryz.underlying9
 ·exact run_convert_bytes_back w _ _ 5 _ cap l Tryz.underlying22 Tryz.underlying5 Tryz.underlying9 (Lib.bytes_of_row hg (by rw [Nat.mul_one] at htk;exact htk))
theorem row_below {B e size k:Nat} {w wr w1:World} {v:Value} {xs:List Value} {o:Obj} (own:wr.ownsRow B e size v k xs) (hb:Below B w wr) (hB:B≤w.heap.size) (hg:(wr.alloc o).grownBy w1 v.ownBlock):Below B w w1 :=
 (hb.alloc (Nat.le_trans hB hb.size) o).grown hg (by have:=hb.size;simp;omega) (fun k e=>(own.lt k e).1)
theorem own_drewN {B e size k:Nat} {w:World} {v:Value} {xs:List Value} (own:w.ownsRow B e size v k xs) (n:Nat):(w.drewN n).ownsRow B e size v k xs:=own
def unqV (u:Option (List UInt8 × Nat)):Value :=
 match u with
 | none=>.tuple #[.string ⟨#[]⟩,.int .i64 0,.bool false]
 | some x=>.tuple #[.string ⟨x.1.toArray⟩,.int .i64 x.2,.bool true]
set_option maxHeartbeats 1000000 in
theorem l1Unquote_any (s:ByteArray) (n:Nat) (w:World) (hs:s.size≤8000) (hn:n < s.size) :
  Calls Tryz.prog 33 #[.string s,.int .i64 n] w fun e w'=>e=.returned (unqV (unqAt (s.size - n) s.data.toList (n+1) []))∧Below w.heap.size w w':=by
 obtain ⟨U,hU⟩:∃ U,unqAt (s.size - n) s.data.toList (n+1) []=U:=⟨_,rfl⟩
 rw [hU]
 have HU:Hid (unqAt (s.size - n) s.data.toList (n+1) []=U):=hU
 clear hU
 obtain ⟨i0,hi,hz0,hz1,hz2⟩:=info_parts info_u8
 have HHI:Hid (Tryz.prog.info? 5=some i0∧i0.zero=some (.int .u8 0)∧i0.size=1∧i0.bytes=1):=⟨hi,hz0,hz1,hz2⟩
 clear hi hz0 hz1 hz2
 go_enter Tryz.func33,Tryz.ntmps33
 go_wp2
 go_loopw [7,8] (fun v i wr=>∃ (p f:Nat) (acc:List UInt8),i=.int .i64 p∧n+1≤p∧p≤s.size∧s.size - p < f∧acc.length≤p∧wr.ownsRow w.heap.size 5 1 v acc.length (Lib.byteCells acc)∧Below w.heap.size w wr∧unqAt f s.data.toList p acc=U)
  (fun _ i _=>s.size - (intOf i).toNat)
 case atStart=>exact ⟨n+1,s.size - n,[],by go_num,by omega,by omega,by omega,by simp,World.ownsRow_made w #[] 0 (Nat.le_refl _) (by unfold maxLen;omega) rfl,(Below.refl _ _).alloc (Nat.le_refl _) _,HU.out⟩
 case round =>
  obtain ⟨p,f,acc,rfl,hp1,hp2,hf,hacc,hown,hbel,hrel⟩:=hrel
  have HR:Hid (unqAt f s.data.toList p acc=U):=hrel
  have OWN:=hid hown
  have HB:=hid hbel
  clear hrel hown hbel
  by_cases hlt:p < s.size
  ·obtain ⟨f,rfl⟩:∃ f',f=f'+1:=⟨f - 1,by omega⟩
   have hl:p < s.data.toList.length:=by rw [len_size];exact hlt
   by_cases c1:s[p].toNat=34
   ·have c1':((s[p].toNat:Int) == 34)=true:=by rw [beq_iff_eq];omega
    have HE:Hid (U=some (acc,p+1)):=by
     show _=_;rw [← HR.out];exact unqAt_quote f _ p acc hl (by rw [get_eq s p hlt];exact c1)
    have hconv:=conv_row wr w.heap.size _ acc OWN.out
    clear c1
    go_wp2
    go_ret3
    exact ⟨by rw [HE.out];rfl,HB.out⟩
   ·have c1':((s[p].toNat:Int) == 34)=false:=by rw [beq_eq_false_iff_ne];omega
    by_cases c2:s[p].toNat=92
    ·have c2':((s[p].toNat:Int) == 92)=true:=by rw [beq_iff_eq];omega
     by_cases c3:p+2 < s.size
     ·have hx1:=hexv_le (s[p+1].toNat:Int)
      have hx2:=hexv_le (s[p+2].toNat:Int)
      have b1:=byte_bd s[p+1]
      have b2:=byte_bd s[p+2]
      have HT:=hid (tb_hex s.data.toList p (by rw [len_size];exact c3) (by rw [get_eq s p hlt];exact c2))
      have i1:(p:Int)+1 < s.size:=by omega
      have i2:(p:Int)+2 < s.size:=by omega
      have HC1:=hid c1
      clear c1 c2
      by_cases d1:hexv (s[p+1].toNat:Int) < 0
      ·have HE:Hid (U=none):=by
        show _=_;rw [← HR.out];exact unqAt_bad f _ p acc hl (by rw [get_eq s p hlt];exact HC1.out) (by rw [HT.out];exact if_pos (.inl d1))
       clear HT
       go_wp2_with (go_at_call 49;refine (l1Hex_any _ _ (by omega) (by omega)).mono ?_;rintro e w' ⟨rfl,rfl⟩)
       go_ret3
       exact ⟨by rw [HE.out];rfl,HB.out⟩
      ·have d1':0≤hexv (s[p+1].toNat:Int):=by omega
       by_cases d2:hexv (s[p+2].toNat:Int) < 0
       ·have HE:Hid (U=none):=by
         show _=_;rw [← HR.out];exact unqAt_bad f _ p acc hl (by rw [get_eq s p hlt];exact HC1.out) (by rw [HT.out];exact if_pos (.inr d2))
        clear HT
        go_wp2_with (go_at_call 49;refine (l1Hex_any _ _ (by omega) (by omega)).mono ?_;rintro e w' ⟨rfl,rfl⟩)
        go_ret3
        exact ⟨by rw [HE.out];rfl,HB.out⟩
       ·have d2':0≤hexv (s[p+2].toNat:Int):=by omega
        have NEXT:Hid (unqAt f s.data.toList (p+3) (acc ++ [(hexv s[p+1].toNat * 16+hexv s[p+2].toNat).toNat.toUInt8])=U):=by
         show _=_;rw [← HR.out]
         exact (unqAt_go f _ p acc hl (by rw [get_eq s p hlt];exact HC1.out) (by rw [HT.out];exact if_neg (by rintro (h | h);exact d1 h;exact d2 h))).symm
        have HBY:=hid (hex_byte (hexv s[p+1].toNat) (hexv s[p+2].toNat) (by omega) (by omega))
        clear HT d1 d2
        go_wp2_with (go_at_call 49;refine (l1Hex_any _ _ (by omega) (by omega)).mono ?_;rintro e w' ⟨rfl,hw⟩;have hw2:=hw.symm;clear hw;subst hw2)
        go_quiet ((go_at_call 49;exact Calls.quiet_of_same (l1Hex_any _ _ (by omega) (by omega))))
        go_wp2_with (first
       | (at_builtin;refine wpList_append_own _ rfl (.tmp 72) (.tmp 74) 22 rfl w.heap.size 5 i0 (.int .u8 0) 1 1 Tryz.underlying22 HHI.out.1 HHI.out.2.1 HHI.out.2.2.1 HHI.out.2.2.2 rfl (by decide) _ _ _ rfl ((own_drewN OWN.out nq).alloc _) ⟨wr.heap.size,0,none⟩ 1 1 [.int .u8 (16 * hexv s[p+1].toNat+hexv s[p+2].toNat)] rfl rfl (cell_one_new _ _ _) (by simp [Value.oneCell']) (by unfold maxLen;omega) (by omega) (by have:=HB.out.size;simp;omega) ?_;intro v' w1 hown' hgrow _))
        have R:=hid (row_below (own_drewN OWN.out nq) (below_drewN HB.out nq) (Nat.le_refl _) hgrow)
        have R2:Hid (w1.ownsRow w.heap.size 5 1 v' (acc ++ [(hexv s[p+1].toNat * 16+hexv s[p+2].toNat).toNat.toUInt8]).length (Lib.byteCells (acc ++ [(hexv s[p+1].toNat * 16+hexv s[p+2].toNat).toNat.toUInt8]))):=by
         show World.ownsRow _ _ _ _ _ _ _
         have e:Lib.byteCells (acc ++ [(hexv s[p+1].toNat * 16+hexv s[p+2].toNat).toNat.toUInt8])=Lib.byteCells acc ++ [.int .u8 (16 * hexv s[p+1].toNat+hexv s[p+2].toNat)]:=by
          rw [Lib.byteCells_append];simp only [Lib.byteCells,List.map_cons,List.map_nil];rw [HBY.out,Int.mul_comm]
         rw [e,List.length_append];exact hown'
        clear hown' hgrow
        go_wp2
        go_roundw
        case rel=>exact ⟨p+3,f,acc ++ [(hexv s[p+1].toNat * 16+hexv s[p+2].toNat).toNat.toUInt8],by go_num,by omega,by omega,by omega,by simp;omega,R2.out,R.out,NEXT.out⟩
        case measure=>simp [intOf];omega
     ·have HE:Hid (U=none):=by
       show _=_;rw [← HR.out];exact unqAt_bad f _ p acc hl (by rw [get_eq s p hlt];exact c1) (tb_short _ p hl (by rw [get_eq s p hlt];exact c2) (by rw [len_size];omega))
      clear c1 c2
      go_wp2
      go_ret3
      exact ⟨by rw [HE.out];rfl,HB.out⟩
    ·have c2':((s[p].toNat:Int) == 92)=false:=by rw [beq_eq_false_iff_ne];omega
     by_cases c3:s[p].toNat < 32∨126 < s[p].toNat
     ·have HE:Hid (U=none):=by
       show _=_;rw [← HR.out];exact unqAt_bad f _ p acc hl (by rw [get_eq s p hlt];exact c1) (tb_low _ p hl (by rw [get_eq s p hlt];exact c3))
      clear c1 c2
      rcases c3 with c3 | c3
      ·have c4:(s[p].toNat:Int) < 32:=by omega
       go_wp2
       go_ret3
       exact ⟨by rw [HE.out];rfl,HB.out⟩
      ·have c4:126 < (s[p].toNat:Int):=by omega
       have c5:¬ (s[p].toNat:Int) < 32:=by omega
       go_wp2
       go_ret3
       exact ⟨by rw [HE.out];rfl,HB.out⟩
     ·have c4:32≤(s[p].toNat:Int):=by omega
      have c5:(s[p].toNat:Int)≤126:=by omega
      have NEXT:Hid (unqAt f s.data.toList (p+1) (acc ++ [s[p]])=U):=by
       show _=_;rw [← HR.out]
       exact (unqAt_go f _ p acc hl (by rw [get_eq s p hlt];exact c1) (tb_plain _ p hl (by rw [get_eq s p hlt];omega) (by rw [get_eq s p hlt];omega) (by rw [get_eq s p hlt];exact c2))).symm
      clear c1 c2 c3
      go_wp2_with (first
     | (at_builtin;refine wpList_append_own _ rfl (.tmp 72) (.tmp 74) 22 rfl w.heap.size 5 i0 (.int .u8 0) 1 1 Tryz.underlying22 HHI.out.1 HHI.out.2.1 HHI.out.2.2.1 HHI.out.2.2.2 rfl (by decide) _ _ _ rfl (OWN.out.alloc _) ⟨wr.heap.size,0,none⟩ 1 1 [.int .u8 s[p].toNat] rfl rfl (cell_one_new _ _ _) (by simp [Value.oneCell']) (by unfold maxLen;omega) (by omega) (by have:=HB.out.size;simp;omega) ?_;intro v' w1 hown' hgrow _))
      have R:=hid (row_below OWN.out HB.out (Nat.le_refl _) hgrow)
      have R2:Hid (w1.ownsRow w.heap.size 5 1 v' (acc ++ [s[p]]).length (Lib.byteCells (acc ++ [s[p]]))):=by
       show World.ownsRow _ _ _ _ _ _ _
       simpa [Lib.byteCells] using hown'
      clear hown' hgrow
      go_wp2
      go_roundw
      case rel=>exact ⟨p+1,f,acc ++ [s[p]],by go_num,by omega,by omega,by omega,by simp;omega,R2.out,R.out,NEXT.out⟩
      case measure=>simp [intOf];omega
  ·have HE:Hid (U=none):=by
    show _=_;rw [← HR.out];exact unqAt_end f _ p acc (by rw [len_size];omega)
   go_wp2
   go_ret3
   exact ⟨by rw [HE.out];rfl,HB.out⟩
theorem bcell {W w1:World} (hb:Below W.heap.size W w1):(∀ b o,b < W.heap.size→w1.cell? ⟨b,o,none⟩=W.cell? ⟨b,o,none⟩)∧(∀ b o,b < W.heap.size→w1.frozen? ⟨b,o,none⟩=W.frozen? ⟨b,o,none⟩) :=
 ⟨fun b o h=>hb.cell (p:=⟨b,o,none⟩) h,fun b o h=>hb.frozen (p:=⟨b,o,none⟩) h⟩
theorem below_set4 {w w1:World} {a b c d:Value} (h:Below w.heap.size w w1):Below w.heap.size w ((((w1.setCell ⟨w.heap.size,0,none⟩ a).setCell ⟨w.heap.size,1,none⟩ b).setCell ⟨w.heap.size,2,none⟩ c).setCell ⟨w.heap.size,3,none⟩ d) :=
 (((h.setCell (p:=⟨w.heap.size,0,none⟩) (Nat.le_refl _) _).setCell (p:=⟨w.heap.size,1,none⟩) (Nat.le_refl _) _).setCell (p:=⟨w.heap.size,2,none⟩) (Nat.le_refl _) _).setCell (p:=⟨w.heap.size,3,none⟩) (Nat.le_refl _) _
set_option maxHeartbeats 1000000 in
theorem l1One_num (s:ByteArray) (n:Nat) (w:World) (hs:s.size≤8000) (hn:n < s.size) (hd:dig (s[n].toNat:Int)=true) :
  Calls Tryz.prog 15 #[.string s,.int .i64 n] w fun e w'=>e=.returned (oneV (numOne (s.data.toList.drop n)) n)∧Below w.heap.size w w':=by
 generalize hO:numOne (s.data.toList.drop n)=O
 have HO:=hid hO
 clear hO
 by_cases hc:O.code=0
 ·have HV:Hid (oneV O n=.tuple #[.agg #[.int .i64 O.kind,.string ⟨O.text.toArray⟩,.int .i64 O.n,.int .i64 n],.int .i64 (n+O.size),.int .i64 0]):=if_pos hc
  clear hc
  go_enter Tryz.func15,Tryz.ntmps15
  go_wp2_with (first
   | (go_at_call 28;refine (l1Digit_any _ _).mono ?_;rintro e w' ⟨rfl,hw⟩;have hw2:=hw.symm;clear hw;subst hw2)
   | (go_at_call 29;refine (l1Number_any s n _ hs hn).mono ?_;rintro e w1 ⟨rfl,hb⟩;rw [HO.out,HV.out];obtain ⟨hc,hf⟩:=bcell hb;have hz:w.heap.size+1≤w1.heap.size:=by (have:=hb.size;simp at this;omega)))
  have HBB:=hid hb
  refine bodyPost_ret (v:=.tuple #[.agg #[.int .i64 O.kind,.string ⟨O.text.toArray⟩,.int .i64 O.n,.int .i64 n],.int .i64 (n+O.size),.int .i64 0]) (by simp [results,Tryz.results15,go_sem,hc]) rfl ⟨by rw [HV.out],?_⟩
  exact below_set4 (Below.trans ((Below.refl w.heap.size w).alloc (Nat.le_refl _) _) (HBB.out.mono (B':=w.heap.size) (by simp)))
 ·have HV:Hid (oneV O n=.tuple #[.agg #[.int .i64 0,.string ⟨#[]⟩,.int .i64 0,.int .i64 0],.int .i64 0,.int .i64 O.code]):=if_neg hc
  clear hc
  go_enter Tryz.func15,Tryz.ntmps15
  go_wp2_with (first
   | (go_at_call 28;refine (l1Digit_any _ _).mono ?_;rintro e w' ⟨rfl,hw⟩;have hw2:=hw.symm;clear hw;subst hw2)
   | (go_at_call 29;refine (l1Number_any s n _ hs hn).mono ?_;rintro e w1 ⟨rfl,hb⟩;rw [HO.out,HV.out];obtain ⟨hc,hf⟩:=bcell hb;have hz:w.heap.size+1≤w1.heap.size:=by (have:=hb.size;simp at this;omega)))
  have HBB:=hid hb
  refine bodyPost_ret (v:=.tuple #[.agg #[.int .i64 0,.string ⟨#[]⟩,.int .i64 0,.int .i64 0],.int .i64 0,.int .i64 O.code]) (by simp [results,Tryz.results15,go_sem,hc]) rfl ⟨by rw [HV.out],?_⟩
  exact below_set4 (Below.trans ((Below.refl w.heap.size w).alloc (Nat.le_refl _) _) (HBB.out.mono (B':=w.heap.size) (by simp)))
theorem wordS_cell1 (w:World) (X:Obj) (i:Nat) (h:i < 17):((w.alloc X).alloc (.cells (words.map fun x=>Value.string ⟨x.toArray⟩).toArray 9)).cell? ⟨w.heap.size+1,i,none⟩=some (.string (wordS i)):=by
 have h:=wordS_cell (w.alloc X) i h
 rw [World.size_alloc] at h
 exact h
theorem extract_list (s:ByteArray) (n k:Nat):(s.extract n (n+k)).data.toList=(s.data.toList.drop n).take k:=by
 have e:=ByteArray.data_extract (a:=s) (b:=n) (e:=n+k)
 rw [e,Array.toList_extract]
 simp [List.extract_eq_take_drop]
set_option maxHeartbeats 1000000 in
theorem l1One_name (s:ByteArray) (n:Nat) (w:World) (hs:s.size≤8000) (hn:n < s.size) (hd:dig (s[n].toNat:Int)=false) (hbg:beg (s[n].toNat:Int)=true) :
  Calls Tryz.prog 15 #[.string s,.int .i64 n] w fun e w'=>e=.returned (oneV (nameOne (s.data.toList.drop n)) n)∧Below w.heap.size w w':=by
 obtain ⟨L,hL⟩:∃ L,s.data.toList.drop n=L:=⟨_,rfl⟩
 rw [hL]
 have HL:Hid (s.data.toList.drop n=L):=hL
 clear hL
 have HLEN:Hid (L.length=s.size - n):=by show _=_;rw [← HL.out,List.length_drop,len_size]
 have HRL:=hid (run_le letB L)
 go_enter Tryz.func15,Tryz.ntmps15
 go_wp2_with (first
   | (go_at_call 28;refine (l1Digit_any _ _).mono ?_;rintro e w' ⟨rfl,hw⟩;have hw2:=hw.symm;clear hw;subst hw2)
   | (go_at_call 30;refine (l1Begins_any _ _).mono ?_;rintro e w' ⟨rfl,hw⟩;have hw2:=hw.symm;clear hw;subst hw2))
 go_loop [7] (fun e=>∃ k:Nat,k≤run letB L∧n+k≤s.size∧e=.int .i64 ((n+k:Nat):Int)) (fun e=>s.size - (intOf e).toNat)
 case atStart=>exact ⟨0,Nat.zero_le _,by omega,rfl⟩
 case round =>
  obtain ⟨k,hk,hks,rfl⟩:=hrel
  by_cases hq:k < run letB L
  ·have hlt:n+k < s.size:=by have:=HLEN.out;have:=HRL.out;omega
   have hp:let_ (s[n+k].toNat:Int)=true:=by
    have h1:=run_all letB L (run letB L) (Nat.le_refl _) k hq (by have:=HLEN.out;omega)
    rw [drop_get _ L n k HL.out (by rw [len_size];exact hlt)] at h1
    exact h1
   go_wp2_with (go_at_call 31;refine (l1Letter_any _ _).mono ?_;rintro e w' ⟨rfl,hw⟩;have hw2:=hw.symm;clear hw;subst hw2)
   go_round
   case rel=>exact ⟨k+1,by omega,by omega,by go_num⟩
   case measure=>simp [intOf];omega
  ·have hke:k=run letB L:=by omega
   have HTL:Hid ((s.extract n (n+k)).data.toList=L.take k):=by show _=_;rw [extract_list s n k,HL.out]
   have HTX:Hid ((⟨(L.take k).toArray⟩:ByteArray)=s.extract n (n+k)):=by show _=_;rw [← HTL.out]
   have hsz:(s.extract n (n+k)).size=k:=by simp;omega
   have HKE:=hid hke
   clear hke
   by_cases hlt:n+k < s.size
   ·have hp:let_ (s[n+k].toNat:Int)=false:=by
     cases h:let_ (s[n+k].toNat:Int)
     ·rfl
     ·have h1:=run_step letB L k hk (by have:=HLEN.out;omega) (by rw [drop_get _ L n k HL.out (by rw [len_size];exact hlt)];exact h)
      have:=HKE.out;omega
    clear hk hq
    by_cases hw:L.take k ∈ words
    ·have HDEC:Hid (decide ((s.extract n (n+k)).data.toList ∈ words)=true):=by show _=_;rw [HTL.out];simpa using hw
     have HE:Hid (oneV (nameOne L) n=.tuple #[.agg #[.int .i64 2,.string (s.extract n (n+k)),.int .i64 0,.int .i64 n],.int .i64 ((n+k:Nat):Int),.int .i64 0]):=by
      show _=_;rw [oneV_good (k:=2) (t:=L.take k) (n:=0) (z:=k) (by unfold nameOne;rw [← HKE.out,if_pos hw])]
      rw [HTX.out];rfl
     clear hw HKE
     go_wp2_with (first
      | (go_at_call 31;refine (l1Letter_any _ _).mono ?_;rintro e w' ⟨rfl,hw⟩;have hw2:=hw.symm;clear hw;subst hw2)
      | (go_at_call 21;refine (l1Words_any _).mono ?_;rintro e w' ⟨rfl,rfl⟩)
      | (go_at_call 32;refine (l1Has_words _ _ (w.heap.size+1) (fun i hi=>wordS_cell1 w _ i hi)).mono ?_;rintro e w' ⟨rfl,rfl⟩;rw [HDEC.out]))
     refine bodyPost_ret (v:=.tuple #[.agg #[.int .i64 2,.string (s.extract n (n+k)),.int .i64 0,.int .i64 n],.int .i64 ((n+k:Nat):Int),.int .i64 0]) (by simp [results,Tryz.results15,go_sem]) rfl ⟨by rw [HE.out],?_⟩
     repeat (refine Below.setCell ?_ (Nat.le_refl _) _)
     exact ((Below.refl w.heap.size w).alloc (Nat.le_refl _) _).alloc (by simp) _
    ·have HDEC:Hid (decide ((s.extract n (n+k)).data.toList ∈ words)=false):=by show _=_;rw [HTL.out];simpa using hw
     by_cases h30:30 < k
     ·have HE:Hid (oneV (nameOne L) n=.tuple #[.agg #[.int .i64 0,.string ⟨#[]⟩,.int .i64 0,.int .i64 0],.int .i64 0,.int .i64 5]):=by
       show _=_;rw [oneV_bad (c:=5) (by unfold nameOne;rw [← HKE.out,if_neg hw,if_pos h30]) (by decide)];rfl
      clear hw HKE
      go_wp2_with (first
      | (go_at_call 31;refine (l1Letter_any _ _).mono ?_;rintro e w' ⟨rfl,hw⟩;have hw2:=hw.symm;clear hw;subst hw2)
      | (go_at_call 21;refine (l1Words_any _).mono ?_;rintro e w' ⟨rfl,rfl⟩)
      | (go_at_call 32;refine (l1Has_words _ _ (w.heap.size+1) (fun i hi=>wordS_cell1 w _ i hi)).mono ?_;rintro e w' ⟨rfl,rfl⟩;rw [HDEC.out]))
      refine bodyPost_ret (v:=.tuple #[.agg #[.int .i64 0,.string ⟨#[]⟩,.int .i64 0,.int .i64 0],.int .i64 0,.int .i64 5]) (by simp [results,Tryz.results15,go_sem]) rfl ⟨by rw [HE.out],?_⟩
      repeat (refine Below.setCell ?_ (Nat.le_refl _) _)
      exact ((Below.refl w.heap.size w).alloc (Nat.le_refl _) _).alloc (by simp) _
     ·have HE:Hid (oneV (nameOne L) n=.tuple #[.agg #[.int .i64 1,.string (s.extract n (n+k)),.int .i64 0,.int .i64 n],.int .i64 ((n+k:Nat):Int),.int .i64 0]):=by
       show _=_;rw [oneV_good (k:=1) (t:=L.take k) (n:=0) (z:=k) (by unfold nameOne;rw [← HKE.out,if_neg hw,if_neg h30])]
       rw [HTX.out];rfl
      clear hw HKE
      go_wp2_with (first
      | (go_at_call 31;refine (l1Letter_any _ _).mono ?_;rintro e w' ⟨rfl,hw⟩;have hw2:=hw.symm;clear hw;subst hw2)
      | (go_at_call 21;refine (l1Words_any _).mono ?_;rintro e w' ⟨rfl,rfl⟩)
      | (go_at_call 32;refine (l1Has_words _ _ (w.heap.size+1) (fun i hi=>wordS_cell1 w _ i hi)).mono ?_;rintro e w' ⟨rfl,rfl⟩;rw [HDEC.out]))
      refine bodyPost_ret (v:=.tuple #[.agg #[.int .i64 1,.string (s.extract n (n+k)),.int .i64 0,.int .i64 n],.int .i64 ((n+k:Nat):Int),.int .i64 0]) (by simp [results,Tryz.results15,go_sem]) rfl ⟨by rw [HE.out],?_⟩
      repeat (refine Below.setCell ?_ (Nat.le_refl _) _)
      exact ((Below.refl w.heap.size w).alloc (Nat.le_refl _) _).alloc (by simp) _
   ·clear hk hq
    by_cases hw:L.take k ∈ words
    ·have HDEC:Hid (decide ((s.extract n (n+k)).data.toList ∈ words)=true):=by show _=_;rw [HTL.out];simpa using hw
     have HE:Hid (oneV (nameOne L) n=.tuple #[.agg #[.int .i64 2,.string (s.extract n (n+k)),.int .i64 0,.int .i64 n],.int .i64 ((n+k:Nat):Int),.int .i64 0]):=by
      show _=_;rw [oneV_good (k:=2) (t:=L.take k) (n:=0) (z:=k) (by unfold nameOne;rw [← HKE.out,if_pos hw])]
      rw [HTX.out];rfl
     clear hw HKE
     go_wp2_with (first
      | (go_at_call 31;refine (l1Letter_any _ _).mono ?_;rintro e w' ⟨rfl,hw⟩;have hw2:=hw.symm;clear hw;subst hw2)
      | (go_at_call 21;refine (l1Words_any _).mono ?_;rintro e w' ⟨rfl,rfl⟩)
      | (go_at_call 32;refine (l1Has_words _ _ (w.heap.size+1) (fun i hi=>wordS_cell1 w _ i hi)).mono ?_;rintro e w' ⟨rfl,rfl⟩;rw [HDEC.out]))
     refine bodyPost_ret (v:=.tuple #[.agg #[.int .i64 2,.string (s.extract n (n+k)),.int .i64 0,.int .i64 n],.int .i64 ((n+k:Nat):Int),.int .i64 0]) (by simp [results,Tryz.results15,go_sem]) rfl ⟨by rw [HE.out],?_⟩
     repeat (refine Below.setCell ?_ (Nat.le_refl _) _)
     exact ((Below.refl w.heap.size w).alloc (Nat.le_refl _) _).alloc (by simp) _
    ·have HDEC:Hid (decide ((s.extract n (n+k)).data.toList ∈ words)=false):=by show _=_;rw [HTL.out];simpa using hw
     by_cases h30:30 < k
     ·have HE:Hid (oneV (nameOne L) n=.tuple #[.agg #[.int .i64 0,.string ⟨#[]⟩,.int .i64 0,.int .i64 0],.int .i64 0,.int .i64 5]):=by
       show _=_;rw [oneV_bad (c:=5) (by unfold nameOne;rw [← HKE.out,if_neg hw,if_pos h30]) (by decide)];rfl
      clear hw HKE
      go_wp2_with (first
      | (go_at_call 31;refine (l1Letter_any _ _).mono ?_;rintro e w' ⟨rfl,hw⟩;have hw2:=hw.symm;clear hw;subst hw2)
      | (go_at_call 21;refine (l1Words_any _).mono ?_;rintro e w' ⟨rfl,rfl⟩)
      | (go_at_call 32;refine (l1Has_words _ _ (w.heap.size+1) (fun i hi=>wordS_cell1 w _ i hi)).mono ?_;rintro e w' ⟨rfl,rfl⟩;rw [HDEC.out]))
      refine bodyPost_ret (v:=.tuple #[.agg #[.int .i64 0,.string ⟨#[]⟩,.int .i64 0,.int .i64 0],.int .i64 0,.int .i64 5]) (by simp [results,Tryz.results15,go_sem]) rfl ⟨by rw [HE.out],?_⟩
      repeat (refine Below.setCell ?_ (Nat.le_refl _) _)
      exact ((Below.refl w.heap.size w).alloc (Nat.le_refl _) _).alloc (by simp) _
     ·have HE:Hid (oneV (nameOne L) n=.tuple #[.agg #[.int .i64 1,.string (s.extract n (n+k)),.int .i64 0,.int .i64 n],.int .i64 ((n+k:Nat):Int),.int .i64 0]):=by
       show _=_;rw [oneV_good (k:=1) (t:=L.take k) (n:=0) (z:=k) (by unfold nameOne;rw [← HKE.out,if_neg hw,if_neg h30])]
       rw [HTX.out];rfl
      clear hw HKE
      go_wp2_with (first
      | (go_at_call 31;refine (l1Letter_any _ _).mono ?_;rintro e w' ⟨rfl,hw⟩;have hw2:=hw.symm;clear hw;subst hw2)
      | (go_at_call 21;refine (l1Words_any _).mono ?_;rintro e w' ⟨rfl,rfl⟩)
      | (go_at_call 32;refine (l1Has_words _ _ (w.heap.size+1) (fun i hi=>wordS_cell1 w _ i hi)).mono ?_;rintro e w' ⟨rfl,rfl⟩;rw [HDEC.out]))
      refine bodyPost_ret (v:=.tuple #[.agg #[.int .i64 1,.string (s.extract n (n+k)),.int .i64 0,.int .i64 n],.int .i64 ((n+k:Nat):Int),.int .i64 0]) (by simp [results,Tryz.results15,go_sem]) rfl ⟨by rw [HE.out],?_⟩
      repeat (refine Below.setCell ?_ (Nat.le_refl _) _)
      exact ((Below.refl w.heap.size w).alloc (Nat.le_refl _) _).alloc (by simp) _
theorem unq_text (s:ByteArray) (n:Nat) (hn:n < s.size):unqF ((s.data.toList.drop (n+1)).length+1) (s.data.toList.drop (n+1))=(unqAt (s.size - n) s.data.toList (n+1) []).map fun x=>(x.1,x.2 - (n+1)):=by
 have hl:(s.data.toList.drop (n+1)).length+1=s.size - n:=by rw [List.length_drop,len_size];omega
 rw [hl];unfold unqAt
 cases unqF (s.size - n) (s.data.toList.drop (n+1)) with
 | none=>rfl
 | some x=>simp
theorem text_one (s:ByteArray) (n:Nat) (hn:n < s.size) :
  (unqAt (s.size - n) s.data.toList (n+1) []=none→textOne (s.data.toList.drop (n+1))=One.bad 4) ∧
  (∀ o q,unqAt (s.size - n) s.data.toList (n+1) []=some (o,q)→n+1 < q∧q≤s.size∧(1000 < o.length→textOne (s.data.toList.drop (n+1))=One.bad 5)∧(o.length≤1000→textOne (s.data.toList.drop (n+1))=⟨4,o,0,q - n,0⟩)):=by
 have hu:=unq_text s n hn
 constructor
 ·intro h;rw [h] at hu;unfold textOne;rw [hu];rfl
 ·intro o q h
  rw [h] at hu
  have hq:=unqF_pos hu
  rw [List.length_drop,len_size] at hq
  have h1:n+1 < q:=by omega
  have h2:q≤s.size:=by omega
  refine ⟨h1,h2,fun h3=>?_,fun h3=>?_⟩
  ·unfold textOne;rw [hu];exact if_pos h3
  ·unfold textOne;rw [hu]
   have e:q - (n+1)+1=q - n:=by omega
   show (if 1000 < o.length then One.bad 5 else ⟨4,o,0,q - (n+1)+1,0⟩)=_
   rw [if_neg (by omega),e]
theorem markS_size (k:Nat):(markS k).size=(marks.getD k []).length:=by simp [markS,ByteArray.size]
theorem mark_first (L:List UInt8) (k:Nat) (hk:k < 23) (hp:(marks.getD k []).isPrefixOf L=true) (hn:∀ j,j < k→(marks.getD j []).isPrefixOf L=false):markOne L=⟨5,marks.getD k [],0,(marks.getD k []).length,0⟩:=by
 have hk':k < marks.length:=hk
 have e:marks.find? (fun m=>m.isPrefixOf L)=some (marks.getD k []):=by
  rw [List.find?_eq_some_iff_getElem]
  refine ⟨hp,k,hk',by simp [hk'],fun j hj=>?_⟩
  have:=hn j hj
  have hj':j < marks.length:=by omega
  simp [hj'] at this
  simp [this]
 unfold markOne;rw [e]
theorem mark_none (L:List UInt8) (hn:∀ j,j < 23→(marks.getD j []).isPrefixOf L=false):markOne L=One.bad 2:=by
 have e:marks.find? (fun m=>m.isPrefixOf L)=none:=by
  rw [List.find?_eq_none]
  intro x hx
  obtain ⟨j,hj,rfl⟩:=List.getElem_of_mem hx
  have:=hn j hj
  simp [hj] at this
  simp [this]
 unfold markOne;rw [e]
theorem mark_at (s:ByteArray) (n k:Nat) (hn:n < s.size) :
  ((marks.getD k []).isPrefixOf (s.data.toList.drop n)=true→((markS k).size:Int)≤(s.size:Int) - (n:Int)∧(n:Int)+((markS k).size:Int)≤s.size∧((s.extract n (n+(markS k).size)).toList == (markS k).toList)=true) ∧
  ((marks.getD k []).isPrefixOf (s.data.toList.drop n)=false→n+(markS k).size≤s.size→((s.extract n (n+(markS k).size)).toList == (markS k).toList)=false):=by
 have e1:(markS k).toList=marks.getD k []:=by rw [Lib.toList_data];simp [markS]
 have e2:(s.extract n (n+(markS k).size)).toList=(s.data.toList.drop n).take (marks.getD k []).length:=by rw [Lib.toList_data,extract_list,markS_size]
 rw [e1,e2,markS_size]
 constructor
 ·intro h
  have h:=List.isPrefixOf_iff_prefix.1 h
  have hl:=h.length_le
  rw [List.length_drop,len_size] at hl
  refine ⟨by omega,by omega,?_⟩
  rw [beq_iff_eq];exact (List.prefix_iff_eq_take.1 h).symm
 ·intro h hl
  rw [beq_eq_false_iff_ne]
  intro e
  have:(marks.getD k []) <+: (s.data.toList.drop n):=List.prefix_iff_eq_take.2 e.symm
  rw [List.isPrefixOf_iff_prefix.2 this] at h;cases h
theorem markS_cell1 (w:World) (X:Obj) (i:Nat) (h:i < 23):((w.alloc X).alloc (.cells (marks.map fun x=>Value.string ⟨x.toArray⟩).toArray 9)).cell? ⟨w.heap.size+1,i,none⟩=some (.string (markS i)):=by
 have h:=markS_cell (w.alloc X) i h
 rw [World.size_alloc] at h
 exact h
set_option maxHeartbeats 1000000 in
theorem l1One_text (s:ByteArray) (n:Nat) (w:World) (hs:s.size≤8000) (hn:n < s.size) (hd:dig (s[n].toNat:Int)=false) (hbg:beg (s[n].toNat:Int)=false) (hq:((s[n].toNat:Int) == 34)=true) :
  Calls Tryz.prog 15 #[.string s,.int .i64 n] w fun e w'=>e=.returned (oneV (textOne (s.data.toList.drop (n+1))) n)∧Below w.heap.size w w':=by
 have HT:=hid (text_one s n hn)
 generalize hU:unqAt (s.size - n) s.data.toList (n+1) []=U
 rw [hU] at HT
 have HU:=hid hU
 clear hU
 cases U with
 | none =>
  have HE:=hid (oneV_bad (HT.out.1 rfl) (by decide) n)
  clear HT
  go_enter Tryz.func15,Tryz.ntmps15
  go_wp2_with (first
   | (go_at_call 28;refine (l1Digit_any _ _).mono ?_;rintro e w' ⟨rfl,hw⟩;have hw2:=hw.symm;clear hw;subst hw2)
   | (go_at_call 30;refine (l1Begins_any _ _).mono ?_;rintro e w' ⟨rfl,hw⟩;have hw2:=hw.symm;clear hw;subst hw2)
   | (go_at_call 33;refine (l1Unquote_any s n _ hs hn).mono ?_;rintro e w1 ⟨rfl,hb⟩;rw [HU.out];unfold unqV;obtain ⟨hc,hf⟩:=bcell hb;have hz:w.heap.size+1≤w1.heap.size:=by (have:=hb.size;simp at this;omega)))
  have HBB:=hid hb
  refine bodyPost_ret (v:=.tuple #[.agg #[.int .i64 0,.string ⟨#[]⟩,.int .i64 0,.int .i64 0],.int .i64 0,.int .i64 4]) (by simp [results,Tryz.results15,go_sem,hc]) rfl ⟨by rw [HE.out];rfl,?_⟩
  exact below_set4 (Below.trans ((Below.refl w.heap.size w).alloc (Nat.le_refl _) _) (HBB.out.mono (B':=w.heap.size) (by simp)))
 | some x =>
  obtain ⟨o,q⟩:=x
  obtain ⟨hq1,hq2,h5,h4⟩:=HT.out.2 o q rfl
  by_cases hl:1000 < o.length
  ·have HE:=hid (oneV_bad (h5 hl) (by decide) n)
   clear HT h5 h4
   have hl':1000 < (o.length:Int):=by omega
   clear hl
   go_enter Tryz.func15,Tryz.ntmps15
   go_wp2_with (first
    | (go_at_call 28;refine (l1Digit_any _ _).mono ?_;rintro e w' ⟨rfl,hw⟩;have hw2:=hw.symm;clear hw;subst hw2)
    | (go_at_call 30;refine (l1Begins_any _ _).mono ?_;rintro e w' ⟨rfl,hw⟩;have hw2:=hw.symm;clear hw;subst hw2)
    | (go_at_call 33;refine (l1Unquote_any s n _ hs hn).mono ?_;rintro e w1 ⟨rfl,hb⟩;rw [HU.out];unfold unqV;obtain ⟨hc,hf⟩:=bcell hb;have hz:w.heap.size+1≤w1.heap.size:=by (have:=hb.size;simp at this;omega)))
   have HBB:=hid hb
   refine bodyPost_ret (v:=.tuple #[.agg #[.int .i64 0,.string ⟨#[]⟩,.int .i64 0,.int .i64 0],.int .i64 0,.int .i64 5]) (by simp [results,Tryz.results15,go_sem,hc]) rfl ⟨by rw [HE.out];rfl,?_⟩
   exact below_set4 (Below.trans ((Below.refl w.heap.size w).alloc (Nat.le_refl _) _) (HBB.out.mono (B':=w.heap.size) (by simp)))
  ·have HE:=hid (oneV_good (h4 (by omega)) n)
   clear HT h5 h4
   have hl':(o.length:Int)≤1000:=by omega
   have HQ:Hid ((n:Int)+((q - n:Nat):Int)=(q:Int)):=by show _=_;omega
   clear hl
   go_enter Tryz.func15,Tryz.ntmps15
   go_wp2_with (first
    | (go_at_call 28;refine (l1Digit_any _ _).mono ?_;rintro e w' ⟨rfl,hw⟩;have hw2:=hw.symm;clear hw;subst hw2)
    | (go_at_call 30;refine (l1Begins_any _ _).mono ?_;rintro e w' ⟨rfl,hw⟩;have hw2:=hw.symm;clear hw;subst hw2)
    | (go_at_call 33;refine (l1Unquote_any s n _ hs hn).mono ?_;rintro e w1 ⟨rfl,hb⟩;rw [HU.out];unfold unqV;obtain ⟨hc,hf⟩:=bcell hb;have hz:w.heap.size+1≤w1.heap.size:=by (have:=hb.size;simp at this;omega)))
   have HBB:=hid hb
   refine bodyPost_ret (v:=.tuple #[.agg #[.int .i64 4,.string ⟨o.toArray⟩,.int .i64 0,.int .i64 n],.int .i64 q,.int .i64 0]) (by simp [results,Tryz.results15,go_sem,hc]) rfl ⟨by rw [HE.out,HQ.out];rfl,?_⟩
   exact below_set4 (Below.trans ((Below.refl w.heap.size w).alloc (Nat.le_refl _) _) (HBB.out.mono (B':=w.heap.size) (by simp)))
set_option maxHeartbeats 1000000 in
theorem l1One_mark (s:ByteArray) (n:Nat) (w:World) (hs:s.size≤8000) (hn:n < s.size) (hd:dig (s[n].toNat:Int)=false) (hbg:beg (s[n].toNat:Int)=false) (hq:((s[n].toNat:Int) == 34)=false) :
  Calls Tryz.prog 15 #[.string s,.int .i64 n] w fun e w'=>e=.returned (oneV (markOne (s.data.toList.drop n)) n)∧Below w.heap.size w w':=by
 go_enter Tryz.func15,Tryz.ntmps15
 go_wp2_with (first
  | (go_at_call 28;refine (l1Digit_any _ _).mono ?_;rintro e w' ⟨rfl,hw⟩;have hw2:=hw.symm;clear hw;subst hw2)
  | (go_at_call 30;refine (l1Begins_any _ _).mono ?_;rintro e w' ⟨rfl,hw⟩;have hw2:=hw.symm;clear hw;subst hw2)
  | (go_at_call 23;refine (l1Marks_any _).mono ?_;rintro e w' ⟨rfl,rfl⟩))
 go_loop [13] (fun i=>∃ k:Nat,k≤23∧i=.int .i64 k∧∀ j,j < k→(marks.getD j []).isPrefixOf (s.data.toList.drop n)=false) (fun i=>23 - (intOf i).toNat)
 case atStart=>exact ⟨0,Nat.zero_le _,rfl,fun j h=>absurd h (Nat.not_lt_zero _)⟩
 case round =>
  obtain ⟨k,hk,rfl,hno⟩:=hrel
  have HNO:=hid hno
  clear hno
  by_cases hlt:k < 23
  ·have hcell:=markS_cell1 w (.cells #[.int .i64 0,.string ⟨#[]⟩,.int .i64 0,.int .i64 0] 30) k hlt
   have HM:=hid (mark_at s n k hn)
   by_cases hp:(marks.getD k []).isPrefixOf (s.data.toList.drop n)=true
   ·obtain ⟨hz,hz2,he⟩:=HM.out.1 hp
    have HE:=hid (oneV_good (mark_first _ k hlt hp HNO.out) n)
    clear HM hp
    go_wp2
    refine bodyPost_ret (v:=.tuple #[.agg #[.int .i64 5,.string (markS k),.int .i64 0,.int .i64 n],.int .i64 (n+(markS k).size),.int .i64 0]) (by simp [results,Tryz.results15,go_sem]) rfl ⟨by rw [HE.out,← markS_size];rfl,?_⟩
    exact ((Below.refl w.heap.size w).alloc (Nat.le_refl _) _).alloc (by simp) _
   ·have hp':(marks.getD k []).isPrefixOf (s.data.toList.drop n)=false:=Bool.eq_false_iff.2 hp
    have HN2:Hid (∀ j,j < k+1→(marks.getD j []).isPrefixOf (s.data.toList.drop n)=false):=fun j hj=>by
     rcases Nat.lt_or_eq_of_le (Nat.lt_succ_iff.1 hj) with h | h
     ·exact HNO.out j h
     ·subst h;exact hp'
    by_cases hz:((markS k).size:Int)≤(s.size:Int) - (n:Int)
    ·have hz2:(n:Int)+((markS k).size:Int)≤s.size:=by omega
     have he:=HM.out.2 hp' (by omega)
     clear HM hp hp'
     go_wp2
     go_round
     case rel=>exact ⟨k+1,by omega,by go_num,HN2.out⟩
     case measure=>simp [intOf];omega
    ·clear HM hp hp'
     go_wp2
     go_round
     case rel=>exact ⟨k+1,by omega,by go_num,HN2.out⟩
     case measure=>simp [intOf];omega
  ·have HE:=hid (oneV_bad (mark_none _ (fun j hj=>HNO.out j (by omega))) (by decide) n)
   go_wp2
   refine bodyPost_ret (v:=.tuple #[.agg #[.int .i64 0,.string ⟨#[]⟩,.int .i64 0,.int .i64 0],.int .i64 0,.int .i64 2]) (by simp [results,Tryz.results15,go_sem]) rfl ⟨by rw [HE.out];rfl,?_⟩
   exact ((Below.refl w.heap.size w).alloc (Nat.le_refl _) _).alloc (by simp) _
theorem l1One_any (s:ByteArray) (n:Nat) (w:World) (hs:s.size≤8000) (hn:n < s.size) :
  Calls Tryz.prog 15 #[.string s,.int .i64 n] w fun e w'=>e=.returned (oneV (one (s.data.toList.drop n)) n)∧Below w.heap.size w w':=by
 have hl:n < s.data.toList.length:=by rw [len_size];exact hn
 have hd:s.data.toList.drop n=s[n] :: s.data.toList.drop (n+1):=List.drop_eq_getElem_cons hl
 rw [hd]
 simp only [one]
 by_cases h1:s[n].toNat=34
 ·rw [if_pos h1]
  exact l1One_text s n w hs hn (by unfold dig;simp;omega) (by unfold beg;rw [Bool.eq_false_iff];simp;omega) (by rw [beq_iff_eq];omega)
 ·rw [if_neg h1]
  have h1':((s[n].toNat:Int) == 34)=false:=by rw [beq_eq_false_iff_ne];omega
  by_cases h2:digB s[n]=true
  ·rw [if_pos h2,← hd];exact l1One_num s n w hs hn h2
  ·rw [if_neg h2]
   have h2':dig (s[n].toNat:Int)=false:=by simpa [digB] using h2
   by_cases h3:letB s[n]=true
   ·rw [if_pos h3,← hd]
    have h3':beg (s[n].toNat:Int)=true:=by
     unfold letB let_ at h3;rw [h2'] at h3;simpa using h3
    exact l1One_name s n w hs hn h2' h3'
   ·rw [if_neg h3,← hd]
    have h3':beg (s[n].toNat:Int)=false:=by
     unfold letB let_ at h3;rw [h2'] at h3;simpa using h3
    exact l1One_mark s n w hs hn h2' h3' h1'
end Go.Proofs.YtabbahpalemlhaaGreatDoor
