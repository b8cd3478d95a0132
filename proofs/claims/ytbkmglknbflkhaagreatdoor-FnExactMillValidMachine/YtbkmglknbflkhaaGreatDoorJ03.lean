import Derived.Test.YtbkmglknbflkhaaGreatDoorJ01
import Derived.Test.YtbkmglknbflkhaaGreatDoorJ02
namespace Go.Proofs.YtbkmglknbflkhaaGreatDoor.V
open Go.RowKit Go.Shelf
set_option maxRecDepth 20000
theorem notEmpty (s:ByteArray) (hp:0 < s.size):s.toList.isEmpty=false:=by
 rw [Lib.toList_data]
 match s,hp with
 | ⟨⟨c :: r⟩⟩,_=>rfl
 | ⟨⟨[]⟩⟩,h=>exact absurd h (by decide)
theorem size_zero {s:ByteArray} (h:s.size=0):s=⟨#[]⟩:=by
 match s,h with
 | ⟨⟨[]⟩⟩,_=>rfl
 | ⟨⟨c :: r⟩⟩,h=>exact absurd h (by simp [ByteArray.size])
def validB (t n:Int) (s:ByteArray):Bool :=
 if t=1 then decide (s.size=0) && decide (n=0∨n=1)
 else if t=2 then decide (n=0) && decide (s.size≤3000)
 else decide (3≤t) && decide (t≤10) && decide (s.size=0) && decide (n=into t n)
abbrev val (t n:Int) (s:ByteArray):Value:=.agg #[.int .i64 t,.int .i64 n,.string s]
theorem u64_bd (n:Int):0≤IntKind.u64.wrap n∧IntKind.u64.wrap n≤18446744073709551615:=by
 simp [IntKind.wrap,IntKind.bits,IntKind.signed];omega
theorem into_u64 (t n:Int):into t (IntKind.u64.wrap n)=into t n:=intoK_u64 _ _
theorem valid_int {t n:Int} {s:ByteArray} (h1:3≤t) (h2:t≤10):validB t n s=(decide (s.size=0) && decide (n=into t n)):=by
 unfold validB
 rw [if_neg (by omega),if_neg (by omega)]
 simp [h1,h2]
theorem valid_out {t n:Int} {s:ByteArray} (h0:t≠1) (h1:t≠2) (h2:¬ (3≤t∧t≤10)):validB t n s=false:=by
 unfold validB
 rw [if_neg h0,if_neg h1]
 have:(decide (3≤t) && decide (t≤10))=false:=by
  rw [Bool.eq_false_iff];simpa using fun h=>Int.not_le.1 fun k=>h2 ⟨h,k⟩
 rw [this];rfl
theorem alloc_below (w:World) (o:Obj):Below w.heap.size w (w.alloc o):=(Below.refl _ _).alloc (Nat.le_refl _) o
theorem alloc_drew (w:World) (o:Obj):Below w.heap.size w (w.alloc o).drew:=(alloc_below w o).drew
theorem isInt_t {t:Int} (h3:3≤t) (h4:t≤10):(decide (3≤t) && decide (t≤10))=true:=by simp [h3,h4]
theorem isInt_f {t:Int} (h3:¬ (3≤t∧t≤10)):(decide (3≤t) && decide (t≤10))=false:=by
 rw [Bool.eq_false_iff];simpa using fun h=>Int.not_le.1 fun k=>h3 ⟨h,k⟩
set_option maxHeartbeats 1000000 in
theorem specVV1 (n:Int) (s:ByteArray) (w:World) :
  Calls Tryz.prog 83 #[val 1 n s] w fun e w'=>e=.returned (.bool (validB 1 n s))∧Below w.heap.size w w':=by
 by_cases hs:s.size=0
 ·obtain rfl:=size_zero hs
  clear hs
  by_cases h0:n=0
  ·subst h0
   go_enter Tryz.func83,Tryz.ntmps83
   go_wp2
   go_ret
   exact ⟨rfl,by first | exact alloc_below _ _ | exact alloc_drew _ _⟩
  ·by_cases h1:n=1
   ·subst h1
    clear h0
    go_enter Tryz.func83,Tryz.ntmps83
    go_wp2
    go_ret
    exact ⟨rfl,by first | exact alloc_below _ _ | exact alloc_drew _ _⟩
   ·have HN:Hid (validB 1 n ⟨#[]⟩=false):=by show _=_;simp [validB,h0,h1]
    go_enter Tryz.func83,Tryz.ntmps83
    go_wp2
    go_ret
    exact ⟨ret_bool (by rw [HN.out];try simp [h0,h1]),by first | exact alloc_below _ _ | exact alloc_drew _ _⟩
 ·have hs2:=notEmpty s (by omega)
  have HN:Hid (validB 1 n s=false):=by show _=_;simp [validB,hs]
  clear hs
  by_cases h0:n=0
  ·subst h0
   go_enter Tryz.func83,Tryz.ntmps83
   go_wp2
   go_ret
   exact ⟨ret_bool (by rw [HN.out]),by first | exact alloc_below _ _ | exact alloc_drew _ _⟩
  ·go_enter Tryz.func83,Tryz.ntmps83
   go_wp2
   all_goals go_ret
   all_goals exact ⟨ret_bool (by rw [HN.out]),by first | exact alloc_below _ _ | exact alloc_drew _ _⟩
set_option maxHeartbeats 1000000 in
theorem specVV2 (n:Int) (s:ByteArray) (w:World) :
  Calls Tryz.prog 83 #[val 2 n s] w fun e w'=>e=.returned (.bool (validB 2 n s))∧Below w.heap.size w w':=by
 by_cases h0:n=0
 ·subst h0
  by_cases hs:s.size≤3000
  ·have HN:Hid (validB 2 0 s=true):=by show _=_;simp [validB,hs]
   go_enter Tryz.func83,Tryz.ntmps83
   go_wp2
   go_ret
   exact ⟨ret_bool (by rw [HN.out];simp;omega),by first | exact alloc_below _ _ | exact alloc_drew _ _⟩
  ·have HN:Hid (validB 2 0 s=false):=by show _=_;simp [validB,hs]
   go_enter Tryz.func83,Tryz.ntmps83
   go_wp2
   go_ret
   exact ⟨ret_bool (by rw [HN.out];simp;omega),by first | exact alloc_below _ _ | exact alloc_drew _ _⟩
 ·have HN:Hid (validB 2 n s=false):=by show _=_;simp [validB,h0]
  go_enter Tryz.func83,Tryz.ntmps83
  go_wp2
  go_ret
  exact ⟨ret_bool (by rw [HN.out]),by first | exact alloc_below _ _ | exact alloc_drew _ _⟩
set_option maxHeartbeats 1000000 in
theorem implVV1 (n:Int) (s:ByteArray) (w:World) :
  Calls Tryz.prog 121 #[val 1 n s] w fun e w'=>e=.returned (.bool (validB 1 n s))∧Below w.heap.size w w':=by
 by_cases hs:s.size=0
 ·obtain rfl:=size_zero hs
  clear hs
  by_cases h0:n=0
  ·subst h0
   go_enter Tryz.func121,Tryz.ntmps121
   go_wp2
   go_ret
   exact ⟨rfl,by first | exact alloc_below _ _ | exact alloc_drew _ _⟩
  ·by_cases h1:n=1
   ·subst h1
    clear h0
    go_enter Tryz.func121,Tryz.ntmps121
    go_wp2
    go_ret
    exact ⟨rfl,by first | exact alloc_below _ _ | exact alloc_drew _ _⟩
   ·have HN:Hid (validB 1 n ⟨#[]⟩=false):=by show _=_;simp [validB,h0,h1]
    go_enter Tryz.func121,Tryz.ntmps121
    go_wp2
    go_ret
    exact ⟨ret_bool (by rw [HN.out];try simp [h0,h1]),by first | exact alloc_below _ _ | exact alloc_drew _ _⟩
 ·have hs2:=notEmpty s (by omega)
  have HN:Hid (validB 1 n s=false):=by show _=_;simp [validB,hs]
  clear hs
  by_cases h0:n=0
  ·subst h0
   go_enter Tryz.func121,Tryz.ntmps121
   go_wp2
   go_ret
   exact ⟨ret_bool (by rw [HN.out]),by first | exact alloc_below _ _ | exact alloc_drew _ _⟩
  ·go_enter Tryz.func121,Tryz.ntmps121
   go_wp2
   all_goals go_ret
   all_goals exact ⟨ret_bool (by rw [HN.out]),by first | exact alloc_below _ _ | exact alloc_drew _ _⟩
set_option maxHeartbeats 1000000 in
theorem implVV2 (n:Int) (s:ByteArray) (w:World) :
  Calls Tryz.prog 121 #[val 2 n s] w fun e w'=>e=.returned (.bool (validB 2 n s))∧Below w.heap.size w w':=by
 by_cases h0:n=0
 ·subst h0
  by_cases hs:s.size≤3000
  ·have HN:Hid (validB 2 0 s=true):=by show _=_;simp [validB,hs]
   go_enter Tryz.func121,Tryz.ntmps121
   go_wp2
   go_ret
   exact ⟨ret_bool (by rw [HN.out];simp;omega),by first | exact alloc_below _ _ | exact alloc_drew _ _⟩
  ·have HN:Hid (validB 2 0 s=false):=by show _=_;simp [validB,hs]
   go_enter Tryz.func121,Tryz.ntmps121
   go_wp2
   go_ret
   exact ⟨ret_bool (by rw [HN.out];simp;omega),by first | exact alloc_below _ _ | exact alloc_drew _ _⟩
 ·have HN:Hid (validB 2 n s=false):=by show _=_;simp [validB,h0]
  go_enter Tryz.func121,Tryz.ntmps121
  go_wp2
  go_ret
  exact ⟨ret_bool (by rw [HN.out]),by first | exact alloc_below _ _ | exact alloc_drew _ _⟩
theorem l10Integer_t (t:Int) (h3:3≤t) (h4:t≤10) (w:World):Calls Tryz.prog 111 #[.int .i64 t] w fun e w'=>e=.returned (.bool true)∧w'=w:=by
 have:=l10Integer_any t w
 rwa [isInt_t h3 h4] at this
theorem l10Integer_f (t:Int) (h3:¬ (3≤t∧t≤10)) (w:World):Calls Tryz.prog 111 #[.int .i64 t] w fun e w'=>e=.returned (.bool false)∧w'=w:=by
 have:=l10Integer_any t w
 rwa [isInt_f h3] at this
theorem millIsInteger_t (t:Int) (h3:3≤t) (h4:t≤10) (w:World):Calls Tryz.prog 146 #[.int .i64 t] w fun e w'=>e=.returned (.bool true)∧w'=w:=by
 have:=millIsInteger_any t w
 rwa [isInt_t h3 h4] at this
theorem millIsInteger_f (t:Int) (h3:¬ (3≤t∧t≤10)) (w:World):Calls Tryz.prog 146 #[.int .i64 t] w fun e w'=>e=.returned (.bool false)∧w'=w:=by
 have:=millIsInteger_any t w
 rwa [isInt_f h3] at this
theorem alloc_drewN (w:World) (o:Obj) (n:Nat):Below w.heap.size w ((w.alloc o).drewN n):=(alloc_below w o).trans ⟨rfl,rfl,rfl,Nat.le_refl _,fun _ _=>rfl⟩
theorem into_n (t n:Int) (h3:3≤t) (h4:t≤10) (W:World):Calls Tryz.prog 112 #[.int .i64 t,.int .u64 (IntKind.u64.wrap n)] W fun e w'=>e=.returned (.int .i64 (into t n))∧w'=W:=by
 have:=l13Into_any t _ h3 h4 (u64_bd n).1 (u64_bd n).2 W
 rwa [into_u64] at this
set_option maxHeartbeats 400000 in
theorem taken_u8 (n:Int) (_h1:-9223372036854775808≤n) (_h2:n≤9223372036854775807) (w:World) :
  Calls Tryz.prog 173 #[.int .i64 n] w fun e w'=>e=.returned (.int .i64 (intoK .u8 n))∧w'=w:=by
 go_enter Tryz.func173,Tryz.ntmps173
 go_wp2
 go_ret
 exact ⟨ret_int (by simp [intoK,IntKind.wrap,IntKind.bits,IntKind.signed] <;> omega),rfl⟩
set_option maxHeartbeats 400000 in
theorem taken_u16 (n:Int) (_h1:-9223372036854775808≤n) (_h2:n≤9223372036854775807) (w:World) :
  Calls Tryz.prog 174 #[.int .i64 n] w fun e w'=>e=.returned (.int .i64 (intoK .u16 n))∧w'=w:=by
 go_enter Tryz.func174,Tryz.ntmps174
 go_wp2
 go_ret
 exact ⟨ret_int (by simp [intoK,IntKind.wrap,IntKind.bits,IntKind.signed,wrap64] <;> omega),rfl⟩
set_option maxHeartbeats 400000 in
theorem taken_u32 (n:Int) (_h1:-9223372036854775808≤n) (_h2:n≤9223372036854775807) (w:World) :
  Calls Tryz.prog 175 #[.int .i64 n] w fun e w'=>e=.returned (.int .i64 (intoK .u32 n))∧w'=w:=by
 go_enter Tryz.func175,Tryz.ntmps175
 go_wp2
 go_ret
 exact ⟨ret_int (by simp [intoK,IntKind.wrap,IntKind.bits,IntKind.signed] <;> omega),rfl⟩
set_option maxHeartbeats 400000 in
theorem taken_i8 (n:Int) (_h1:-9223372036854775808≤n) (_h2:n≤9223372036854775807) (w:World) :
  Calls Tryz.prog 176 #[.int .i64 n] w fun e w'=>e=.returned (.int .i64 (intoK .i8 n))∧w'=w:=by
 go_enter Tryz.func176,Tryz.ntmps176
 go_wp2
 go_ret
 exact ⟨ret_int (by simp [intoK,IntKind.wrap,IntKind.bits,IntKind.signed,wrap64] <;> omega),rfl⟩
set_option maxHeartbeats 400000 in
theorem taken_i16 (n:Int) (_h1:-9223372036854775808≤n) (_h2:n≤9223372036854775807) (w:World) :
  Calls Tryz.prog 177 #[.int .i64 n] w fun e w'=>e=.returned (.int .i64 (intoK .i16 n))∧w'=w:=by
 go_enter Tryz.func177,Tryz.ntmps177
 go_wp2
 go_ret
 exact ⟨ret_int (by simp [intoK,IntKind.wrap,IntKind.bits,IntKind.signed,wrap64] <;> omega),rfl⟩
set_option maxHeartbeats 400000 in
theorem taken_i32 (n:Int) (_h1:-9223372036854775808≤n) (_h2:n≤9223372036854775807) (w:World) :
  Calls Tryz.prog 178 #[.int .i64 n] w fun e w'=>e=.returned (.int .i64 (intoK .i32 n))∧w'=w:=by
 go_enter Tryz.func178,Tryz.ntmps178
 go_wp2
 go_ret
 exact ⟨ret_int (by simp [intoK,IntKind.wrap,IntKind.bits,IntKind.signed,wrap64,wrap32] <;> omega),rfl⟩
set_option maxHeartbeats 1000000 in
theorem millInto_any (t n:Int) (h3:3≤t) (h4:t≤10) (h1:-9223372036854775808≤n) (h2:n≤9223372036854775807) (w:World) :
  Calls Tryz.prog 147 #[.int .i64 t,.int .i64 n] w fun e w'=>e=.returned (.int .i64 (into t n))∧w'=w:=by
 have H6:Hid (into 6 n=n):=by show _=_;simp [into,intoK,kT6,IntKind.wrap,IntKind.bits,IntKind.signed];omega
 have H10:Hid (into 10 n=n):=by show _=_;simp [into,intoK,kT10,IntKind.wrap,IntKind.bits,IntKind.signed];omega
 obtain rfl | rfl | rfl | rfl | rfl | rfl | rfl | rfl:=typ8 h3 h4
 all_goals clear h3 h4
 all_goals go_enter Tryz.func147,Tryz.ntmps147
 all_goals go_wp2_with (first
  | (go_at_call 173;refine (taken_u8 n h1 h2 _).mono ?_;rintro e w' ⟨rfl,rfl⟩)
  | (go_at_call 174;refine (taken_u16 n h1 h2 _).mono ?_;rintro e w' ⟨rfl,rfl⟩)
  | (go_at_call 175;refine (taken_u32 n h1 h2 _).mono ?_;rintro e w' ⟨rfl,rfl⟩)
  | (go_at_call 176;refine (taken_i8 n h1 h2 _).mono ?_;rintro e w' ⟨rfl,rfl⟩)
  | (go_at_call 177;refine (taken_i16 n h1 h2 _).mono ?_;rintro e w' ⟨rfl,rfl⟩)
  | (go_at_call 178;refine (taken_i32 n h1 h2 _).mono ?_;rintro e w' ⟨rfl,rfl⟩)
  | fail)
 all_goals go_ret
 all_goals (first | exact ⟨rfl,rfl⟩ | exact ⟨ret_int H6.out.symm,rfl⟩ | exact ⟨ret_int H10.out.symm,rfl⟩)
set_option maxHeartbeats 1000000 in
theorem specVV3 (t n:Int) (s:ByteArray) (h3:3≤t) (h4:t≤10) (_hn1:-9223372036854775808≤n) (_hn2:n≤9223372036854775807) (w:World) :
  Calls Tryz.prog 83 #[val t n s] w fun e w'=>e=.returned (.bool (validB t n s))∧Below w.heap.size w w':=by
 have HV:=hid (valid_int (n:=n) (s:=s) h3 h4)
 have h1:¬ t=1:=by omega
 have h2:¬ t=2:=by omega
 by_cases hs:s.size=0
 ·obtain rfl:=size_zero hs
  clear hs
  go_enter Tryz.func83,Tryz.ntmps83
  try (go_wp2_with (first | (go_at_call 111;refine (l10Integer_t t h3 h4 _).mono ?_;rintro e w' ⟨rfl,hw⟩;have hw2:=hw.symm;clear hw;subst hw2) | fail))
  go_quiet (first | (go_at_call 111;exact Calls.quiet_of_same (l10Integer_t t h3 h4 _)) | (go_at_call 112;exact Calls.quiet_of_same (into_n t n h3 h4 _)) | fail)
  go_wp2
  go_ret
  exact ⟨ret_bool (by rw [HV.out,Bool.eq_iff_iff];simp;exact fun _=>rfl),alloc_drewN _ _ _⟩
 ·have hs2:=notEmpty s (by omega)
  have HS:Hid (decide (s.size=0)=false):=decide_eq_false hs
  clear hs
  go_enter Tryz.func83,Tryz.ntmps83
  try (go_wp2_with (first | (go_at_call 111;refine (l10Integer_t t h3 h4 _).mono ?_;rintro e w' ⟨rfl,hw⟩;have hw2:=hw.symm;clear hw;subst hw2) | fail))
  go_quiet (first | (go_at_call 111;exact Calls.quiet_of_same (l10Integer_t t h3 h4 _)) | fail)
  go_wp2
  go_ret
  exact ⟨ret_bool (by rw [HV.out,HS.out];rfl),alloc_drewN _ _ _⟩
set_option maxHeartbeats 1000000 in
theorem specVV0 (t n:Int) (s:ByteArray) (h1:t≠1) (h2:t≠2) (h3:¬ (3≤t∧t≤10)) (w:World) :
  Calls Tryz.prog 83 #[val t n s] w fun e w'=>e=.returned (.bool (validB t n s))∧Below w.heap.size w w':=by
 have HV:=hid (valid_out (n:=n) (s:=s) h1 h2 h3)
 have H3:=hid h3
 clear h3
 go_enter Tryz.func83,Tryz.ntmps83
 try (go_wp2_with (first | (go_at_call 111;refine (l10Integer_f t H3.out _).mono ?_;rintro e w' ⟨rfl,hw⟩;have hw2:=hw.symm;clear hw;subst hw2) | fail))
 try (go_quiet (first | (go_at_call 111;exact Calls.quiet_of_same (l10Integer_f t H3.out _)) | fail);go_wp2)
 go_ret
 exact ⟨ret_bool (by rw [HV.out]),by first | exact alloc_drewN _ _ _ | exact alloc_below _ _ | exact alloc_drew _ _⟩
theorem specVV (t n:Int) (s:ByteArray) (hn1:-9223372036854775808≤n) (hn2:n≤9223372036854775807) (w:World) :
  Calls Tryz.prog 83 #[val t n s] w fun e w'=>e=.returned (.bool (validB t n s))∧Below w.heap.size w w':=by
 by_cases h1:t=1
 ·subst h1;exact specVV1 n s w
 ·by_cases h2:t=2
  ·subst h2;exact specVV2 n s w
  ·by_cases h3:3≤t∧t≤10
   ·exact specVV3 t n s h3.1 h3.2 hn1 hn2 w
   ·exact specVV0 t n s h1 h2 h3 w
set_option maxHeartbeats 1000000 in
theorem implVV3 (t n:Int) (s:ByteArray) (h3:3≤t) (h4:t≤10) (hn1:-9223372036854775808≤n) (hn2:n≤9223372036854775807) (w:World) :
  Calls Tryz.prog 121 #[val t n s] w fun e w'=>e=.returned (.bool (validB t n s))∧Below w.heap.size w w':=by
 have HV:=hid (valid_int (n:=n) (s:=s) h3 h4)
 have h1:¬ t=1:=by omega
 have h2:¬ t=2:=by omega
 by_cases hs:s.size=0
 ·obtain rfl:=size_zero hs
  clear hs
  go_enter Tryz.func121,Tryz.ntmps121
  try (go_wp2_with (first | (go_at_call 146;refine (millIsInteger_t t h3 h4 _).mono ?_;rintro e w' ⟨rfl,hw⟩;have hw2:=hw.symm;clear hw;subst hw2) | fail))
  go_quiet (first | (go_at_call 146;exact Calls.quiet_of_same (millIsInteger_t t h3 h4 _)) | (go_at_call 147;exact Calls.quiet_of_same (millInto_any t n h3 h4 hn1 hn2 _)) | fail)
  go_wp2
  go_ret
  exact ⟨ret_bool (by rw [HV.out,Bool.eq_iff_iff];simp;exact fun _=>rfl),alloc_drewN _ _ _⟩
 ·have hs2:=notEmpty s (by omega)
  have HS:Hid (decide (s.size=0)=false):=decide_eq_false hs
  clear hs
  go_enter Tryz.func121,Tryz.ntmps121
  try (go_wp2_with (first | (go_at_call 146;refine (millIsInteger_t t h3 h4 _).mono ?_;rintro e w' ⟨rfl,hw⟩;have hw2:=hw.symm;clear hw;subst hw2) | fail))
  go_quiet (first | (go_at_call 146;exact Calls.quiet_of_same (millIsInteger_t t h3 h4 _)) | fail)
  go_wp2
  go_ret
  exact ⟨ret_bool (by rw [HV.out,HS.out];rfl),alloc_drewN _ _ _⟩
set_option maxHeartbeats 1000000 in
theorem implVV0 (t n:Int) (s:ByteArray) (h1:t≠1) (h2:t≠2) (h3:¬ (3≤t∧t≤10)) (w:World) :
  Calls Tryz.prog 121 #[val t n s] w fun e w'=>e=.returned (.bool (validB t n s))∧Below w.heap.size w w':=by
 have HV:=hid (valid_out (n:=n) (s:=s) h1 h2 h3)
 have H3:=hid h3
 clear h3
 go_enter Tryz.func121,Tryz.ntmps121
 try (go_wp2_with (first | (go_at_call 146;refine (millIsInteger_f t H3.out _).mono ?_;rintro e w' ⟨rfl,hw⟩;have hw2:=hw.symm;clear hw;subst hw2) | fail))
 try (go_quiet (first | (go_at_call 146;exact Calls.quiet_of_same (millIsInteger_f t H3.out _)) | fail);go_wp2)
 go_ret
 exact ⟨ret_bool (by rw [HV.out]),by first | exact alloc_drewN _ _ _ | exact alloc_below _ _ | exact alloc_drew _ _⟩
theorem implVV (t n:Int) (s:ByteArray) (hn1:-9223372036854775808≤n) (hn2:n≤9223372036854775807) (w:World) :
  Calls Tryz.prog 121 #[val t n s] w fun e w'=>e=.returned (.bool (validB t n s))∧Below w.heap.size w w':=by
 by_cases h1:t=1
 ·subst h1;exact implVV1 n s w
 ·by_cases h2:t=2
  ·subst h2;exact implVV2 n s w
  ·by_cases h3:3≤t∧t≤10
   ·exact implVV3 t n s h3.1 h3.2 hn1 hn2 w
   ·exact implVV0 t n s h1 h2 h3 w
end Go.Proofs.YtbkmglknbflkhaaGreatDoor.V
namespace Go.Proofs.YtbkmglknbflkhaaGreatDoor.Q
open Go.RowKit Go.Shelf
set_option maxRecDepth 20000
theorem run_full (s:ByteArray):run letB s.data.toList=s.size ↔ ∀ i (h:i < s.size),letB s[i]=true:=by
 constructor
 ·intro h i hi
  exact run_all letB s.data.toList s.size (by omega) i hi (by rw [len_size];exact hi)
 ·intro h
  by_cases hl:run letB s.data.toList=s.size
  ·exact hl
  ·exfalso
   have h1:=run_le letB s.data.toList
   rw [len_size] at h1
   have h2:run letB s.data.toList < s.data.toList.length:=by rw [len_size];omega
   have:=run_step letB s.data.toList _ (Nat.le_refl _) h2 (h _ (by omega))
   omega
theorem name_iff (s:ByteArray) (h0:0 < s.size):NameOk s ↔ s.size≤30∧run letB s.data.toList=s.size∧mlt (s[0].toNat:Int)=true∧¬ s.data.toList ∈ mws:=by
 rw [run_full]
 constructor
 ·rintro ⟨_,h1,h2,h3,h4⟩
  exact ⟨h1,h4,h2,h3⟩
 ·rintro ⟨h1,h2,h3,h4⟩
  exact ⟨h0,h1,h3,h4,h2⟩
set_option maxHeartbeats 400000 in
theorem millIsInteger_int (t:Int) (w:World) :
  Calls Tryz.prog 146 #[.int .i64 t] w fun e w'=>e=.returned (.bool (decide (3≤t) && decide (t≤10)))∧w'=w:=by
 go_enter Tryz.func146,Tryz.ntmps146
 go_wp2
 all_goals go_ret
 all_goals exact ⟨ret_bool (by rw [Bool.eq_iff_iff];simp;try omega),rfl⟩
set_option maxHeartbeats 400000 in
theorem millIsType_int (t:Int) (w:World) :
  Calls Tryz.prog 158 #[.int .i64 t] w fun e w'=>e=.returned (.bool (decide (1≤t) && decide (t≤10)))∧w'=w:=by
 go_enter Tryz.func158,Tryz.ntmps158
 go_wp2
 all_goals go_ret
 all_goals exact ⟨ret_bool (by rw [Bool.eq_iff_iff];simp;try omega),rfl⟩
set_option maxHeartbeats 1000000 in
theorem isName_at (s:ByteArray) (r:Nat) (w:World) (hs:s.size≤maxLen) (hr:w.heap[r]?=some (.map (mwE 35) 35)) :
  Calls Tryz.prog 138 #[.string s,.map (some r)] w fun e w'=>Says e (NameOk s)∧Below w.heap.size w w':=by
 unfold maxLen at hs
 have hrl:r < w.heap.size:=(Array.getElem?_eq_some_iff.1 hr).1
 have HR:Hid (∀ W,Below w.heap.size w W→W.heap[r]?=some (.map (mwE 35) 35)):=fun W hb=>(hb.block r hrl).trans hr
 clear hr hrl
 by_cases h0:s.size=0
 ·have HN:Hid (¬ NameOk s):=fun ⟨h,_⟩=>by omega
  have he:s=⟨#[]⟩:=ByteArray.ext (Array.eq_empty_of_size_eq_zero h0)
  subst he
  go_enter Tryz.func138,Tryz.ntmps138
  go_wp2
  go_ret
  exact ⟨says_f HN.out,Below.refl _ _⟩
 ·have hp:0 < s.size:=by omega
  have HI:=hid (name_iff s hp)
  have hq:=notEmpty s hp
  have hwc:IntKind.i32.wrap (s[0].toNat:Int)=(s[0].toNat:Int):=by have:=s[0].toNat_lt;rw [IntKind.wrap_i32];omega
  by_cases h30:s.size≤30
  ·have hrl:=run_le letB s.data.toList
   rw [len_size] at hrl
   have HNS:Hid (∀ W:World,Calls Tryz.prog 155 #[.string s] W fun e w'=>e=.returned (.int .i64 (run letB s.data.toList))∧Below W.heap.size W w'):=fun W=>millNameSize_any s W (by omega)
   obtain ⟨k,hk⟩:∃ k,run letB s.data.toList=k:=⟨_,rfl⟩
   rw [hk] at hrl HNS
   have HK:=hid hk
   clear hk
   by_cases hks:k=s.size
   ·subst hks
    cases hd:mlt (s[0].toNat:Int)
    ·have HF:Hid (¬ NameOk s):=fun h=>by have:=(HI.out.1 h).2.2.1;rw [hd] at this;cases this
     go_enter Tryz.func138,Tryz.ntmps138
     go_wp2_with (first
      | (go_at_call 155;refine (HNS.out _).mono ?_;rintro e w1 ⟨rfl,hb1⟩;have HB1:=hid hb1;clear hb1)
      | (go_at_call 156;refine (millIsLetter_any _ _).mono ?_;rintro e w' ⟨rfl,hw⟩;have hw2:=hw.symm;clear hw;subst hw2;rw [hd]))
     all_goals go_ret
     all_goals exact ⟨says_f HF.out,HB1.out⟩
    ·by_cases hm:s.data.toList ∈ mws
     ·have HD:Hid (decide (s.data.toList ∈ mws)=true):=decide_eq_true hm
      have HM:=hid hm
      clear hm
      go_enter Tryz.func138,Tryz.ntmps138
      go_wp2_with (first
       | (go_at_call 155;refine (HNS.out _).mono ?_;rintro e w1 ⟨rfl,hb1⟩;have HB1:=hid hb1;have hlk:=mlookup2 w1 r (HR.out _ hb1) s;rw [HD.out] at hlk;clear hb1)
       | (go_at_call 156;refine (millIsLetter_any _ _).mono ?_;rintro e w' ⟨rfl,hw⟩;have hw2:=hw.symm;clear hw;subst hw2;rw [hd]))
      all_goals go_ret
      all_goals exact ⟨says_f (fun h=>(HI.out.1 h).2.2.2 HM.out),HB1.out⟩
     ·have HD:Hid (decide (s.data.toList ∈ mws)=false):=decide_eq_false hm
      have HM:=hid hm
      clear hm
      go_enter Tryz.func138,Tryz.ntmps138
      go_wp2_with (first
       | (go_at_call 155;refine (HNS.out _).mono ?_;rintro e w1 ⟨rfl,hb1⟩;have HB1:=hid hb1;have hlk:=mlookup2 w1 r (HR.out _ hb1) s;rw [HD.out] at hlk;clear hb1)
       | (go_at_call 156;refine (millIsLetter_any _ _).mono ?_;rintro e w' ⟨rfl,hw⟩;have hw2:=hw.symm;clear hw;subst hw2;rw [hd]))
      all_goals go_ret
      all_goals exact ⟨says_t (HI.out.2 ⟨h30,HK.out,hd,HM.out⟩),HB1.out⟩
   ·have HF:Hid (¬ NameOk s):=fun h=>by have:=(HI.out.1 h).2.1;rw [HK.out] at this;exact hks this
    have hlt:k < s.size:=by omega
    go_enter Tryz.func138,Tryz.ntmps138
    go_wp2_with (go_at_call 155;refine (HNS.out _).mono ?_;rintro e w1 ⟨rfl,hb1⟩;have HB1:=hid hb1;clear hb1)
    all_goals go_ret
    all_goals exact ⟨says_f HF.out,HB1.out⟩
  ·have HF:Hid (¬ NameOk s):=fun h=>h30 (HI.out.1 h).1
   go_enter Tryz.func138,Tryz.ntmps138
   go_wp2
   go_ret
   exact ⟨says_f HF.out,Below.refl _ _⟩
end Go.Proofs.YtbkmglknbflkhaaGreatDoor.Q
namespace Go.Proofs.YtbkmglknbflkhaaGreatDoor.Q
open Go.RowKit Go.Shelf
set_option maxRecDepth 20000
set_option maxHeartbeats 1000000 in
theorem l10NameOk_any (s:ByteArray) (w:World) (hs:s.size≤maxLen) :
  Calls Tryz.prog 126 #[.string s] w fun e w'=>Says e (NameOk s)∧Below w.heap.size w w':=by
 unfold maxLen at hs
 by_cases h1:1≤s.size
 ·by_cases h2:s.size≤30
  ·have h0:0 < s.size:=h1
   cases hb:mlt (s[0].toNat:Int)
   ·have HE:Hid (¬ NameOk s):=fun ⟨_,_,h,_⟩=>by unfold mltB at h;rw [hb] at h;cases h
    go_enter Tryz.func126,Tryz.ntmps126
    go_wp2_with (go_at_call 151;refine (l10Letter_any _ _).mono ?_;rintro e w' ⟨rfl,rfl⟩)
    go_ret
    exact ⟨says_f HE.out,Below.refl _ _⟩
   ·by_cases hw:s.data.toList ∈ mws
    ·have HE:Hid (¬ NameOk s):=fun ⟨_,_,_,h,_⟩=>h hw
     have HW:Hid (decide (s.data.toList ∈ mws)=true):=by show _=_;simp [hw]
     clear hw
     go_enter Tryz.func126,Tryz.ntmps126
     go_wp2_with (first
      | (go_at_call 151;refine (l10Letter_any _ _).mono ?_;rintro e w' ⟨rfl,hw⟩;have hw2:=hw.symm;clear hw;subst hw2)
      | (go_at_call 152;refine (l10Taken_any s _).mono ?_;rintro e w1 ⟨rfl,hb1⟩;have HB1:=hid hb1;clear hb1;rw [HW.out]))
     go_ret
     exact ⟨says_f HE.out,HB1.out⟩
    ·have HNW:=hid hw
     have HW:Hid (decide (s.data.toList ∈ mws)=false):=by show _=_;simp [hw]
     clear hw
     go_enter Tryz.func126,Tryz.ntmps126
     go_wp2_with (first
      | (go_at_call 151;refine (l10Letter_any _ _).mono ?_;rintro e w' ⟨rfl,hw⟩;have hw2:=hw.symm;clear hw;subst hw2)
      | (go_at_call 152;refine (l10Taken_any s _).mono ?_;rintro e w1 ⟨rfl,hb1⟩;have HB1:=hid hb1;clear hb1;rw [HW.out]))
     go_loop [3] (fun i=>∃ k:Nat,k≤s.size∧i=.int .i64 k∧∀ j (h:j < s.size),j < k→letB s[j]=true) (fun i=>s.size - (intOf i).toNat)
     case atStart=>exact ⟨0,Nat.zero_le _,rfl,fun j h h0=>absurd h0 (Nat.not_lt_zero _)⟩
     case round =>
      obtain ⟨k,hk,rfl,hr⟩:=hrel
      have HR:=hid hr
      clear hr
      by_cases hlt:k < s.size
      ·cases hp:let_ (s[k].toNat:Int)
       ·have HE:Hid (¬ NameOk s):=fun ⟨_,_,_,_,h⟩=>by have:=h k hlt;unfold letB at this;rw [hp] at this;cases this
        go_wp2_with (go_at_call 153;refine (l10Tail_any _ _).mono ?_;rintro e w' ⟨rfl,hw⟩;have hw2:=hw.symm;clear hw;subst hw2)
        go_ret
        exact ⟨says_f HE.out,HB1.out⟩
       ·have NX:Hid (∀ j (h:j < s.size),j < k+1→letB s[j]=true):=fun j h hj=>by
         rcases Nat.lt_or_eq_of_le (Nat.lt_succ_iff.1 hj) with h' | h'
         ·exact HR.out j h h'
         ·subst h';exact hp
        go_wp2_with (go_at_call 153;refine (l10Tail_any _ _).mono ?_;rintro e w' ⟨rfl,hw⟩;have hw2:=hw.symm;clear hw;subst hw2)
        go_round
        case rel=>exact ⟨k+1,by omega,by go_num,NX.out⟩
        case measure=>simp [intOf];omega
      ·go_wp2
       go_ret
       exact ⟨says_t ⟨h0,h2,hb,HNW.out,fun i h=>HR.out i h (by omega)⟩,HB1.out⟩
  ·have HE:Hid (¬ NameOk s):=fun ⟨_,h,_⟩=>h2 h
   go_enter Tryz.func126,Tryz.ntmps126
   go_wp2
   go_ret
   exact ⟨says_f HE.out,Below.refl _ _⟩
 ·have HE:Hid (¬ NameOk s):=fun ⟨h,_⟩=>by omega
  go_enter Tryz.func126,Tryz.ntmps126
  go_wp2
  go_ret
  exact ⟨says_f HE.out,Below.refl _ _⟩
end Go.Proofs.YtbkmglknbflkhaaGreatDoor.Q
