import Derived.Test.YtbkmglknbflkhaaGreatDoorJ26
namespace Go.Proofs.YtbkmglknbflkhaaGreatDoor.C
open Go.RowKit
set_option maxRecDepth 20000
theorem al3n (w:World) (a b c:Obj) (n:Nat):Below w.heap.size w ((((w.alloc a).alloc b).alloc c).drewN n):=below_drewN (al3 w a b c) n
set_option maxHeartbeats 1000000 in
theorem insOk_out {op:Int} {fns:List Fn} {f:Fn} {a n:Int} {tx:ByteArray} {aF aI:Option Addr} {cF cI:Nat} {pv:Value} (w:World) (hpv:∃ ad l c,pv=.slice ad l c) (hsl:0≤f.slots∧f.slots≤200) (hl:fns.length≤60) (_hn1:-9223372036854775808≤n) (_hn2:n≤9223372036854775807) (h:¬ (1≤op∧op≤16)) :
  Calls Tryz.prog 107 #[.agg #[.slice aF fns.length cF],.agg #[.string f.name,pv,.int .i64 f.result,.int .i64 f.slots,.slice aI f.ins.length cI],.agg #[.int .i64 op,.int .i64 a,.int .i64 n,.string tx]] w fun e w'=>e=.returned (.bool (insB fns f ⟨op,a,n,tx⟩))∧Below w.heap.size w w':=by
 obtain ⟨pa,pl,pc,rfl⟩:=hpv
 have hw1:IntKind.i64.wrap (f.slots - 1)=f.slots - 1:=by rw [IntKind.wrap_i64];omega
 have hw2:IntKind.i64.wrap ((fns.length:Int) - 1)=(fns.length:Int) - 1:=by rw [IntKind.wrap_i64];omega
 clear hsl hl
 have hb:inB op 1 16=false:=by rw [Bool.eq_false_iff];intro h9;exact h (inB_iff.1 h9)
 have HV:Hid (insB fns f ⟨op,a,n,tx⟩=false):=hid (by simp [insB,hb])
 clear h
 go_enter Tryz.func107,Tryz.ntmps107
 go_wp2_with (first
   | (go_at_call 22;refine (l16In_any _ _ _ _).mono ?_;rintro e w' ⟨rfl,hw⟩;have hw2:=hw.symm;clear hw;subst hw2)
   | (go_at_call 127;refine (hasA_any _ _).mono ?_;rintro e w' ⟨rfl,hw⟩;have hw2:=hw.symm;clear hw;subst hw2)
   | (go_at_call 111;refine (l10Integer_c _ _).mono ?_;rintro e w' ⟨rfl,hw⟩;have hw2:=hw.symm;clear hw;subst hw2)
   | (go_at_call 83;refine (V.specVV a n tx hn1 hn2 _).mono ?_;rintro e w5 ⟨rfl,hb5⟩;have HB5:=hid hb5;clear hb5))
 go_ret
 exact ⟨ret_bool (by rw [HV.out]),by first | exact al3 _ _ _ _ | exact al3n _ _ _ _ _ | exact ((al3 _ _ _ _).trans (HB5.out.mono (al3 _ _ _ _).size)) | exact (al3 _ _ _ _).drew⟩
set_option maxHeartbeats 1000000 in
theorem insOk_1 {fns:List Fn} {f:Fn} {a n:Int} {tx:ByteArray} {aF aI:Option Addr} {cF cI:Nat} {pv:Value} (w:World) (hpv:∃ ad l c,pv=.slice ad l c) (hsl:0≤f.slots∧f.slots≤200) (hl:fns.length≤60) (hn1:-9223372036854775808≤n) (hn2:n≤9223372036854775807) :
  Calls Tryz.prog 107 #[.agg #[.slice aF fns.length cF],.agg #[.string f.name,pv,.int .i64 f.result,.int .i64 f.slots,.slice aI f.ins.length cI],.agg #[.int .i64 1,.int .i64 a,.int .i64 n,.string tx]] w fun e w'=>e=.returned (.bool (insB fns f ⟨1,a,n,tx⟩))∧Below w.heap.size w w':=by
 obtain ⟨pa,pl,pc,rfl⟩:=hpv
 have hw1:IntKind.i64.wrap (f.slots - 1)=f.slots - 1:=by rw [IntKind.wrap_i64];omega
 have hw2:IntKind.i64.wrap ((fns.length:Int) - 1)=(fns.length:Int) - 1:=by rw [IntKind.wrap_i64];omega
 clear hsl hl
 have hb:inB 1 1 16=true:=rfl
 have hA:hasA 1=true:=rfl
 have HV:Hid (insB fns f ⟨1,a,n,tx⟩=V.validB a n tx):=hid (by
  by_cases hv:V.validB a n tx=true
  ·have:=valid_type hv
   simp [insB,hb,aB,hv,inB_iff,this.1,this.2]
  ·simp [insB,hb,hv])
 go_enter Tryz.func107,Tryz.ntmps107
 go_wp2_with (first
   | (go_at_call 22;refine (l16In_any _ _ _ _).mono ?_;rintro e w' ⟨rfl,hw⟩;have hw2:=hw.symm;clear hw;subst hw2)
   | (go_at_call 127;refine (hasA_any _ _).mono ?_;rintro e w' ⟨rfl,hw⟩;have hw2:=hw.symm;clear hw;subst hw2)
   | (go_at_call 111;refine (l10Integer_c _ _).mono ?_;rintro e w' ⟨rfl,hw⟩;have hw2:=hw.symm;clear hw;subst hw2)
   | (go_at_call 83;refine (V.specVV a n tx hn1 hn2 _).mono ?_;rintro e w5 ⟨rfl,hb5⟩;have HB5:=hid hb5;clear hb5))
 go_ret
 exact ⟨ret_bool (by rw [HV.out]),by first | exact al3 _ _ _ _ | exact al3n _ _ _ _ _ | exact ((al3 _ _ _ _).trans (HB5.out.mono (al3 _ _ _ _).size)) | exact (al3 _ _ _ _).drew⟩
set_option maxHeartbeats 2000000 in
theorem insOk_2 {fns:List Fn} {f:Fn} {a n:Int} {tx:ByteArray} {aF aI:Option Addr} {cF cI:Nat} {pv:Value} (w:World) (hpv:∃ ad l c,pv=.slice ad l c) (hsl:0≤f.slots∧f.slots≤200) (hl:fns.length≤60) (hn1:-9223372036854775808≤n) (hn2:n≤9223372036854775807) :
  Calls Tryz.prog 107 #[.agg #[.slice aF fns.length cF],.agg #[.string f.name,pv,.int .i64 f.result,.int .i64 f.slots,.slice aI f.ins.length cI],.agg #[.int .i64 2,.int .i64 a,.int .i64 n,.string tx]] w fun e w'=>e=.returned (.bool (insB fns f ⟨2,a,n,tx⟩))∧Below w.heap.size w w':=by
 obtain ⟨pa,pl,pc,rfl⟩:=hpv
 have hw1:IntKind.i64.wrap (f.slots - 1)=f.slots - 1:=by rw [IntKind.wrap_i64];omega
 have hw2:IntKind.i64.wrap ((fns.length:Int) - 1)=(fns.length:Int) - 1:=by rw [IntKind.wrap_i64];omega
 clear hsl hl
 have hb:inB 2 1 16=true:=rfl
 have hA:hasA 2=true:=rfl
 by_cases hn:n=0
 ·subst hn
  by_cases ht:tx.size=0
  ·obtain rfl:=V.size_zero ht
   clear ht
   skip
   have HV:Hid (insB fns f ⟨2,a,0,⟨#[]⟩⟩=inB a 0 (f.slots - 1)):=hid (by simp [insB,aB,hb];try (intro _;rfl))
   go_enter Tryz.func107,Tryz.ntmps107
   go_wp2_with (first
   | (go_at_call 22;refine (l16In_any _ _ _ _).mono ?_;rintro e w' ⟨rfl,hw⟩;have hw2:=hw.symm;clear hw;subst hw2)
   | (go_at_call 127;refine (hasA_any _ _).mono ?_;rintro e w' ⟨rfl,hw⟩;have hw2:=hw.symm;clear hw;subst hw2)
   | (go_at_call 111;refine (l10Integer_c _ _).mono ?_;rintro e w' ⟨rfl,hw⟩;have hw2:=hw.symm;clear hw;subst hw2)
   | (go_at_call 83;refine (V.specVV a n tx hn1 hn2 _).mono ?_;rintro e w5 ⟨rfl,hb5⟩;have HB5:=hid hb5;clear hb5))
   go_ret
   exact ⟨ret_bool (by rw [HV.out];try rfl),by first | exact al3 _ _ _ _ | exact al3n _ _ _ _ _ | exact ((al3 _ _ _ _).trans (HB5.out.mono (al3 _ _ _ _).size)) | exact (al3 _ _ _ _).drew⟩
  ·have hne:=V.notEmpty tx (by omega)
   have HV:Hid (insB fns f ⟨2,a,0,tx⟩=false):=hid (by simp [insB,ht])
   clear ht
   go_enter Tryz.func107,Tryz.ntmps107
   go_wp2_with (first
   | (go_at_call 22;refine (l16In_any _ _ _ _).mono ?_;rintro e w' ⟨rfl,hw⟩;have hw2:=hw.symm;clear hw;subst hw2)
   | (go_at_call 127;refine (hasA_any _ _).mono ?_;rintro e w' ⟨rfl,hw⟩;have hw2:=hw.symm;clear hw;subst hw2)
   | (go_at_call 111;refine (l10Integer_c _ _).mono ?_;rintro e w' ⟨rfl,hw⟩;have hw2:=hw.symm;clear hw;subst hw2)
   | (go_at_call 83;refine (V.specVV a n tx hn1 hn2 _).mono ?_;rintro e w5 ⟨rfl,hb5⟩;have HB5:=hid hb5;clear hb5))
   go_ret
   exact ⟨ret_bool (by rw [HV.out]),by first | exact al3 _ _ _ _ | exact al3n _ _ _ _ _ | exact ((al3 _ _ _ _).trans (HB5.out.mono (al3 _ _ _ _).size)) | exact (al3 _ _ _ _).drew⟩
 ·have hnf:(n != 0)=true:=by simpa using hn
  have HV:Hid (insB fns f ⟨2,a,n,tx⟩=false):=hid (by simp [insB,hn])
  clear hn
  go_enter Tryz.func107,Tryz.ntmps107
  go_wp2_with (first
   | (go_at_call 22;refine (l16In_any _ _ _ _).mono ?_;rintro e w' ⟨rfl,hw⟩;have hw2:=hw.symm;clear hw;subst hw2)
   | (go_at_call 127;refine (hasA_any _ _).mono ?_;rintro e w' ⟨rfl,hw⟩;have hw2:=hw.symm;clear hw;subst hw2)
   | (go_at_call 111;refine (l10Integer_c _ _).mono ?_;rintro e w' ⟨rfl,hw⟩;have hw2:=hw.symm;clear hw;subst hw2)
   | (go_at_call 83;refine (V.specVV a n tx hn1 hn2 _).mono ?_;rintro e w5 ⟨rfl,hb5⟩;have HB5:=hid hb5;clear hb5))
  go_ret
  exact ⟨ret_bool (by rw [HV.out]),by first | exact al3 _ _ _ _ | exact al3n _ _ _ _ _ | exact ((al3 _ _ _ _).trans (HB5.out.mono (al3 _ _ _ _).size)) | exact (al3 _ _ _ _).drew⟩
set_option maxHeartbeats 2000000 in
theorem insOk_3 {fns:List Fn} {f:Fn} {a n:Int} {tx:ByteArray} {aF aI:Option Addr} {cF cI:Nat} {pv:Value} (w:World) (hpv:∃ ad l c,pv=.slice ad l c) (hsl:0≤f.slots∧f.slots≤200) (hl:fns.length≤60) (hn1:-9223372036854775808≤n) (hn2:n≤9223372036854775807) :
  Calls Tryz.prog 107 #[.agg #[.slice aF fns.length cF],.agg #[.string f.name,pv,.int .i64 f.result,.int .i64 f.slots,.slice aI f.ins.length cI],.agg #[.int .i64 3,.int .i64 a,.int .i64 n,.string tx]] w fun e w'=>e=.returned (.bool (insB fns f ⟨3,a,n,tx⟩))∧Below w.heap.size w w':=by
 obtain ⟨pa,pl,pc,rfl⟩:=hpv
 have hw1:IntKind.i64.wrap (f.slots - 1)=f.slots - 1:=by rw [IntKind.wrap_i64];omega
 have hw2:IntKind.i64.wrap ((fns.length:Int) - 1)=(fns.length:Int) - 1:=by rw [IntKind.wrap_i64];omega
 clear hsl hl
 have hb:inB 3 1 16=true:=rfl
 have hA:hasA 3=true:=rfl
 by_cases hn:n=0
 ·subst hn
  by_cases ht:tx.size=0
  ·obtain rfl:=V.size_zero ht
   clear ht
   skip
   have HV:Hid (insB fns f ⟨3,a,0,⟨#[]⟩⟩=inB a 0 (f.slots - 1)):=hid (by simp [insB,aB,hb];try (intro _;rfl))
   go_enter Tryz.func107,Tryz.ntmps107
   go_wp2_with (first
   | (go_at_call 22;refine (l16In_any _ _ _ _).mono ?_;rintro e w' ⟨rfl,hw⟩;have hw2:=hw.symm;clear hw;subst hw2)
   | (go_at_call 127;refine (hasA_any _ _).mono ?_;rintro e w' ⟨rfl,hw⟩;have hw2:=hw.symm;clear hw;subst hw2)
   | (go_at_call 111;refine (l10Integer_c _ _).mono ?_;rintro e w' ⟨rfl,hw⟩;have hw2:=hw.symm;clear hw;subst hw2)
   | (go_at_call 83;refine (V.specVV a n tx hn1 hn2 _).mono ?_;rintro e w5 ⟨rfl,hb5⟩;have HB5:=hid hb5;clear hb5))
   go_ret
   exact ⟨ret_bool (by rw [HV.out];try rfl),by first | exact al3 _ _ _ _ | exact al3n _ _ _ _ _ | exact ((al3 _ _ _ _).trans (HB5.out.mono (al3 _ _ _ _).size)) | exact (al3 _ _ _ _).drew⟩
  ·have hne:=V.notEmpty tx (by omega)
   have HV:Hid (insB fns f ⟨3,a,0,tx⟩=false):=hid (by simp [insB,ht])
   clear ht
   go_enter Tryz.func107,Tryz.ntmps107
   go_wp2_with (first
   | (go_at_call 22;refine (l16In_any _ _ _ _).mono ?_;rintro e w' ⟨rfl,hw⟩;have hw2:=hw.symm;clear hw;subst hw2)
   | (go_at_call 127;refine (hasA_any _ _).mono ?_;rintro e w' ⟨rfl,hw⟩;have hw2:=hw.symm;clear hw;subst hw2)
   | (go_at_call 111;refine (l10Integer_c _ _).mono ?_;rintro e w' ⟨rfl,hw⟩;have hw2:=hw.symm;clear hw;subst hw2)
   | (go_at_call 83;refine (V.specVV a n tx hn1 hn2 _).mono ?_;rintro e w5 ⟨rfl,hb5⟩;have HB5:=hid hb5;clear hb5))
   go_ret
   exact ⟨ret_bool (by rw [HV.out]),by first | exact al3 _ _ _ _ | exact al3n _ _ _ _ _ | exact ((al3 _ _ _ _).trans (HB5.out.mono (al3 _ _ _ _).size)) | exact (al3 _ _ _ _).drew⟩
 ·have hnf:(n != 0)=true:=by simpa using hn
  have HV:Hid (insB fns f ⟨3,a,n,tx⟩=false):=hid (by simp [insB,hn])
  clear hn
  go_enter Tryz.func107,Tryz.ntmps107
  go_wp2_with (first
   | (go_at_call 22;refine (l16In_any _ _ _ _).mono ?_;rintro e w' ⟨rfl,hw⟩;have hw2:=hw.symm;clear hw;subst hw2)
   | (go_at_call 127;refine (hasA_any _ _).mono ?_;rintro e w' ⟨rfl,hw⟩;have hw2:=hw.symm;clear hw;subst hw2)
   | (go_at_call 111;refine (l10Integer_c _ _).mono ?_;rintro e w' ⟨rfl,hw⟩;have hw2:=hw.symm;clear hw;subst hw2)
   | (go_at_call 83;refine (V.specVV a n tx hn1 hn2 _).mono ?_;rintro e w5 ⟨rfl,hb5⟩;have HB5:=hid hb5;clear hb5))
  go_ret
  exact ⟨ret_bool (by rw [HV.out]),by first | exact al3 _ _ _ _ | exact al3n _ _ _ _ _ | exact ((al3 _ _ _ _).trans (HB5.out.mono (al3 _ _ _ _).size)) | exact (al3 _ _ _ _).drew⟩
set_option maxHeartbeats 2000000 in
theorem insOk_4 {fns:List Fn} {f:Fn} {a n:Int} {tx:ByteArray} {aF aI:Option Addr} {cF cI:Nat} {pv:Value} (w:World) (hpv:∃ ad l c,pv=.slice ad l c) (hsl:0≤f.slots∧f.slots≤200) (hl:fns.length≤60) (hn1:-9223372036854775808≤n) (hn2:n≤9223372036854775807) :
  Calls Tryz.prog 107 #[.agg #[.slice aF fns.length cF],.agg #[.string f.name,pv,.int .i64 f.result,.int .i64 f.slots,.slice aI f.ins.length cI],.agg #[.int .i64 4,.int .i64 a,.int .i64 n,.string tx]] w fun e w'=>e=.returned (.bool (insB fns f ⟨4,a,n,tx⟩))∧Below w.heap.size w w':=by
 obtain ⟨pa,pl,pc,rfl⟩:=hpv
 have hw1:IntKind.i64.wrap (f.slots - 1)=f.slots - 1:=by rw [IntKind.wrap_i64];omega
 have hw2:IntKind.i64.wrap ((fns.length:Int) - 1)=(fns.length:Int) - 1:=by rw [IntKind.wrap_i64];omega
 clear hsl hl
 have hb:inB 4 1 16=true:=rfl
 have hA:hasA 4=false:=rfl
 by_cases ha:a=0
 ·subst ha
  by_cases hn:n=0
  ·subst hn
   by_cases ht:tx.size=0
   ·obtain rfl:=V.size_zero ht
    go_enter Tryz.func107,Tryz.ntmps107
    go_wp2_with (first
   | (go_at_call 22;refine (l16In_any _ _ _ _).mono ?_;rintro e w' ⟨rfl,hw⟩;have hw2:=hw.symm;clear hw;subst hw2)
   | (go_at_call 127;refine (hasA_any _ _).mono ?_;rintro e w' ⟨rfl,hw⟩;have hw2:=hw.symm;clear hw;subst hw2)
   | (go_at_call 111;refine (l10Integer_c _ _).mono ?_;rintro e w' ⟨rfl,hw⟩;have hw2:=hw.symm;clear hw;subst hw2)
   | (go_at_call 83;refine (V.specVV a n tx hn1 hn2 _).mono ?_;rintro e w5 ⟨rfl,hb5⟩;have HB5:=hid hb5;clear hb5))
    go_ret
    exact ⟨ret_bool (by rfl),by first | exact al3 _ _ _ _ | exact al3n _ _ _ _ _ | exact ((al3 _ _ _ _).trans (HB5.out.mono (al3 _ _ _ _).size)) | exact (al3 _ _ _ _).drew⟩
   ·have hne:=V.notEmpty tx (by omega)
    have HV:Hid (insB fns f ⟨4,0,0,tx⟩=false):=hid (by simp [insB,ht])
    clear ht
    go_enter Tryz.func107,Tryz.ntmps107
    go_wp2_with (first
   | (go_at_call 22;refine (l16In_any _ _ _ _).mono ?_;rintro e w' ⟨rfl,hw⟩;have hw2:=hw.symm;clear hw;subst hw2)
   | (go_at_call 127;refine (hasA_any _ _).mono ?_;rintro e w' ⟨rfl,hw⟩;have hw2:=hw.symm;clear hw;subst hw2)
   | (go_at_call 111;refine (l10Integer_c _ _).mono ?_;rintro e w' ⟨rfl,hw⟩;have hw2:=hw.symm;clear hw;subst hw2)
   | (go_at_call 83;refine (V.specVV a n tx hn1 hn2 _).mono ?_;rintro e w5 ⟨rfl,hb5⟩;have HB5:=hid hb5;clear hb5))
    go_ret
    exact ⟨ret_bool (by rw [HV.out]),by first | exact al3 _ _ _ _ | exact al3n _ _ _ _ _ | exact ((al3 _ _ _ _).trans (HB5.out.mono (al3 _ _ _ _).size)) | exact (al3 _ _ _ _).drew⟩
  ·have hnf:(n != 0)=true:=by simpa using hn
   have HV:Hid (insB fns f ⟨4,0,n,tx⟩=false):=hid (by simp [insB,hn])
   clear hn
   go_enter Tryz.func107,Tryz.ntmps107
   go_wp2_with (first
   | (go_at_call 22;refine (l16In_any _ _ _ _).mono ?_;rintro e w' ⟨rfl,hw⟩;have hw2:=hw.symm;clear hw;subst hw2)
   | (go_at_call 127;refine (hasA_any _ _).mono ?_;rintro e w' ⟨rfl,hw⟩;have hw2:=hw.symm;clear hw;subst hw2)
   | (go_at_call 111;refine (l10Integer_c _ _).mono ?_;rintro e w' ⟨rfl,hw⟩;have hw2:=hw.symm;clear hw;subst hw2)
   | (go_at_call 83;refine (V.specVV a n tx hn1 hn2 _).mono ?_;rintro e w5 ⟨rfl,hb5⟩;have HB5:=hid hb5;clear hb5))
   go_ret
   exact ⟨ret_bool (by rw [HV.out]),by first | exact al3 _ _ _ _ | exact al3n _ _ _ _ _ | exact ((al3 _ _ _ _).trans (HB5.out.mono (al3 _ _ _ _).size)) | exact (al3 _ _ _ _).drew⟩
 ·have haf:(a != 0)=true:=by simpa using ha
  have HV:Hid (insB fns f ⟨4,a,n,tx⟩=false):=hid (by
   have:inB a 0 0=false:=by rw [Bool.eq_false_iff];intro h9;have:=inB_iff.1 h9;omega
   simp [insB,aB,this])
  clear ha
  go_enter Tryz.func107,Tryz.ntmps107
  go_wp2_with (first
   | (go_at_call 22;refine (l16In_any _ _ _ _).mono ?_;rintro e w' ⟨rfl,hw⟩;have hw2:=hw.symm;clear hw;subst hw2)
   | (go_at_call 127;refine (hasA_any _ _).mono ?_;rintro e w' ⟨rfl,hw⟩;have hw2:=hw.symm;clear hw;subst hw2)
   | (go_at_call 111;refine (l10Integer_c _ _).mono ?_;rintro e w' ⟨rfl,hw⟩;have hw2:=hw.symm;clear hw;subst hw2)
   | (go_at_call 83;refine (V.specVV a n tx hn1 hn2 _).mono ?_;rintro e w5 ⟨rfl,hb5⟩;have HB5:=hid hb5;clear hb5))
  go_ret
  exact ⟨ret_bool (by rw [HV.out]),by first | exact al3 _ _ _ _ | exact al3n _ _ _ _ _ | exact ((al3 _ _ _ _).trans (HB5.out.mono (al3 _ _ _ _).size)) | exact (al3 _ _ _ _).drew⟩
set_option maxHeartbeats 2000000 in
theorem insOk_5 {fns:List Fn} {f:Fn} {a n:Int} {tx:ByteArray} {aF aI:Option Addr} {cF cI:Nat} {pv:Value} (w:World) (hpv:∃ ad l c,pv=.slice ad l c) (hsl:0≤f.slots∧f.slots≤200) (hl:fns.length≤60) (hn1:-9223372036854775808≤n) (hn2:n≤9223372036854775807) :
  Calls Tryz.prog 107 #[.agg #[.slice aF fns.length cF],.agg #[.string f.name,pv,.int .i64 f.result,.int .i64 f.slots,.slice aI f.ins.length cI],.agg #[.int .i64 5,.int .i64 a,.int .i64 n,.string tx]] w fun e w'=>e=.returned (.bool (insB fns f ⟨5,a,n,tx⟩))∧Below w.heap.size w w':=by
 obtain ⟨pa,pl,pc,rfl⟩:=hpv
 have hw1:IntKind.i64.wrap (f.slots - 1)=f.slots - 1:=by rw [IntKind.wrap_i64];omega
 have hw2:IntKind.i64.wrap ((fns.length:Int) - 1)=(fns.length:Int) - 1:=by rw [IntKind.wrap_i64];omega
 clear hsl hl
 have hb:inB 5 1 16=true:=rfl
 have hA:hasA 5=true:=rfl
 by_cases hn:n=0
 ·subst hn
  by_cases ht:tx.size=0
  ·obtain rfl:=V.size_zero ht
   clear ht
   skip
   have HV:Hid (insB fns f ⟨5,a,0,⟨#[]⟩⟩=inB a 1 3):=hid (by simp [insB,aB,hb];try (intro _;rfl))
   go_enter Tryz.func107,Tryz.ntmps107
   go_wp2_with (first
   | (go_at_call 22;refine (l16In_any _ _ _ _).mono ?_;rintro e w' ⟨rfl,hw⟩;have hw2:=hw.symm;clear hw;subst hw2)
   | (go_at_call 127;refine (hasA_any _ _).mono ?_;rintro e w' ⟨rfl,hw⟩;have hw2:=hw.symm;clear hw;subst hw2)
   | (go_at_call 111;refine (l10Integer_c _ _).mono ?_;rintro e w' ⟨rfl,hw⟩;have hw2:=hw.symm;clear hw;subst hw2)
   | (go_at_call 83;refine (V.specVV a n tx hn1 hn2 _).mono ?_;rintro e w5 ⟨rfl,hb5⟩;have HB5:=hid hb5;clear hb5))
   go_ret
   exact ⟨ret_bool (by rw [HV.out];try rfl),by first | exact al3 _ _ _ _ | exact al3n _ _ _ _ _ | exact ((al3 _ _ _ _).trans (HB5.out.mono (al3 _ _ _ _).size)) | exact (al3 _ _ _ _).drew⟩
  ·have hne:=V.notEmpty tx (by omega)
   have HV:Hid (insB fns f ⟨5,a,0,tx⟩=false):=hid (by simp [insB,ht])
   clear ht
   go_enter Tryz.func107,Tryz.ntmps107
   go_wp2_with (first
   | (go_at_call 22;refine (l16In_any _ _ _ _).mono ?_;rintro e w' ⟨rfl,hw⟩;have hw2:=hw.symm;clear hw;subst hw2)
   | (go_at_call 127;refine (hasA_any _ _).mono ?_;rintro e w' ⟨rfl,hw⟩;have hw2:=hw.symm;clear hw;subst hw2)
   | (go_at_call 111;refine (l10Integer_c _ _).mono ?_;rintro e w' ⟨rfl,hw⟩;have hw2:=hw.symm;clear hw;subst hw2)
   | (go_at_call 83;refine (V.specVV a n tx hn1 hn2 _).mono ?_;rintro e w5 ⟨rfl,hb5⟩;have HB5:=hid hb5;clear hb5))
   go_ret
   exact ⟨ret_bool (by rw [HV.out]),by first | exact al3 _ _ _ _ | exact al3n _ _ _ _ _ | exact ((al3 _ _ _ _).trans (HB5.out.mono (al3 _ _ _ _).size)) | exact (al3 _ _ _ _).drew⟩
 ·have hnf:(n != 0)=true:=by simpa using hn
  have HV:Hid (insB fns f ⟨5,a,n,tx⟩=false):=hid (by simp [insB,hn])
  clear hn
  go_enter Tryz.func107,Tryz.ntmps107
  go_wp2_with (first
   | (go_at_call 22;refine (l16In_any _ _ _ _).mono ?_;rintro e w' ⟨rfl,hw⟩;have hw2:=hw.symm;clear hw;subst hw2)
   | (go_at_call 127;refine (hasA_any _ _).mono ?_;rintro e w' ⟨rfl,hw⟩;have hw2:=hw.symm;clear hw;subst hw2)
   | (go_at_call 111;refine (l10Integer_c _ _).mono ?_;rintro e w' ⟨rfl,hw⟩;have hw2:=hw.symm;clear hw;subst hw2)
   | (go_at_call 83;refine (V.specVV a n tx hn1 hn2 _).mono ?_;rintro e w5 ⟨rfl,hb5⟩;have HB5:=hid hb5;clear hb5))
  go_ret
  exact ⟨ret_bool (by rw [HV.out]),by first | exact al3 _ _ _ _ | exact al3n _ _ _ _ _ | exact ((al3 _ _ _ _).trans (HB5.out.mono (al3 _ _ _ _).size)) | exact (al3 _ _ _ _).drew⟩
set_option maxHeartbeats 2000000 in
theorem insOk_6 {fns:List Fn} {f:Fn} {a n:Int} {tx:ByteArray} {aF aI:Option Addr} {cF cI:Nat} {pv:Value} (w:World) (hpv:∃ ad l c,pv=.slice ad l c) (hsl:0≤f.slots∧f.slots≤200) (hl:fns.length≤60) (hn1:-9223372036854775808≤n) (hn2:n≤9223372036854775807) :
  Calls Tryz.prog 107 #[.agg #[.slice aF fns.length cF],.agg #[.string f.name,pv,.int .i64 f.result,.int .i64 f.slots,.slice aI f.ins.length cI],.agg #[.int .i64 6,.int .i64 a,.int .i64 n,.string tx]] w fun e w'=>e=.returned (.bool (insB fns f ⟨6,a,n,tx⟩))∧Below w.heap.size w w':=by
 obtain ⟨pa,pl,pc,rfl⟩:=hpv
 have hw1:IntKind.i64.wrap (f.slots - 1)=f.slots - 1:=by rw [IntKind.wrap_i64];omega
 have hw2:IntKind.i64.wrap ((fns.length:Int) - 1)=(fns.length:Int) - 1:=by rw [IntKind.wrap_i64];omega
 clear hsl hl
 have hb:inB 6 1 16=true:=rfl
 have hA:hasA 6=true:=rfl
 by_cases hn:n=0
 ·subst hn
  by_cases ht:tx.size=0
  ·obtain rfl:=V.size_zero ht
   clear ht
   skip
   have HV:Hid (insB fns f ⟨6,a,0,⟨#[]⟩⟩=inB a 3 18):=hid (by simp [insB,aB,hb];try (intro _;rfl))
   go_enter Tryz.func107,Tryz.ntmps107
   go_wp2_with (first
   | (go_at_call 22;refine (l16In_any _ _ _ _).mono ?_;rintro e w' ⟨rfl,hw⟩;have hw2:=hw.symm;clear hw;subst hw2)
   | (go_at_call 127;refine (hasA_any _ _).mono ?_;rintro e w' ⟨rfl,hw⟩;have hw2:=hw.symm;clear hw;subst hw2)
   | (go_at_call 111;refine (l10Integer_c _ _).mono ?_;rintro e w' ⟨rfl,hw⟩;have hw2:=hw.symm;clear hw;subst hw2)
   | (go_at_call 83;refine (V.specVV a n tx hn1 hn2 _).mono ?_;rintro e w5 ⟨rfl,hb5⟩;have HB5:=hid hb5;clear hb5))
   go_ret
   exact ⟨ret_bool (by rw [HV.out];try rfl),by first | exact al3 _ _ _ _ | exact al3n _ _ _ _ _ | exact ((al3 _ _ _ _).trans (HB5.out.mono (al3 _ _ _ _).size)) | exact (al3 _ _ _ _).drew⟩
  ·have hne:=V.notEmpty tx (by omega)
   have HV:Hid (insB fns f ⟨6,a,0,tx⟩=false):=hid (by simp [insB,ht])
   clear ht
   go_enter Tryz.func107,Tryz.ntmps107
   go_wp2_with (first
   | (go_at_call 22;refine (l16In_any _ _ _ _).mono ?_;rintro e w' ⟨rfl,hw⟩;have hw2:=hw.symm;clear hw;subst hw2)
   | (go_at_call 127;refine (hasA_any _ _).mono ?_;rintro e w' ⟨rfl,hw⟩;have hw2:=hw.symm;clear hw;subst hw2)
   | (go_at_call 111;refine (l10Integer_c _ _).mono ?_;rintro e w' ⟨rfl,hw⟩;have hw2:=hw.symm;clear hw;subst hw2)
   | (go_at_call 83;refine (V.specVV a n tx hn1 hn2 _).mono ?_;rintro e w5 ⟨rfl,hb5⟩;have HB5:=hid hb5;clear hb5))
   go_ret
   exact ⟨ret_bool (by rw [HV.out]),by first | exact al3 _ _ _ _ | exact al3n _ _ _ _ _ | exact ((al3 _ _ _ _).trans (HB5.out.mono (al3 _ _ _ _).size)) | exact (al3 _ _ _ _).drew⟩
 ·have hnf:(n != 0)=true:=by simpa using hn
  have HV:Hid (insB fns f ⟨6,a,n,tx⟩=false):=hid (by simp [insB,hn])
  clear hn
  go_enter Tryz.func107,Tryz.ntmps107
  go_wp2_with (first
   | (go_at_call 22;refine (l16In_any _ _ _ _).mono ?_;rintro e w' ⟨rfl,hw⟩;have hw2:=hw.symm;clear hw;subst hw2)
   | (go_at_call 127;refine (hasA_any _ _).mono ?_;rintro e w' ⟨rfl,hw⟩;have hw2:=hw.symm;clear hw;subst hw2)
   | (go_at_call 111;refine (l10Integer_c _ _).mono ?_;rintro e w' ⟨rfl,hw⟩;have hw2:=hw.symm;clear hw;subst hw2)
   | (go_at_call 83;refine (V.specVV a n tx hn1 hn2 _).mono ?_;rintro e w5 ⟨rfl,hb5⟩;have HB5:=hid hb5;clear hb5))
  go_ret
  exact ⟨ret_bool (by rw [HV.out]),by first | exact al3 _ _ _ _ | exact al3n _ _ _ _ _ | exact ((al3 _ _ _ _).trans (HB5.out.mono (al3 _ _ _ _).size)) | exact (al3 _ _ _ _).drew⟩
set_option maxHeartbeats 2000000 in
theorem insOk_7 {fns:List Fn} {f:Fn} {a n:Int} {tx:ByteArray} {aF aI:Option Addr} {cF cI:Nat} {pv:Value} (w:World) (hpv:∃ ad l c,pv=.slice ad l c) (hsl:0≤f.slots∧f.slots≤200) (hl:fns.length≤60) (hn1:-9223372036854775808≤n) (hn2:n≤9223372036854775807) :
  Calls Tryz.prog 107 #[.agg #[.slice aF fns.length cF],.agg #[.string f.name,pv,.int .i64 f.result,.int .i64 f.slots,.slice aI f.ins.length cI],.agg #[.int .i64 7,.int .i64 a,.int .i64 n,.string tx]] w fun e w'=>e=.returned (.bool (insB fns f ⟨7,a,n,tx⟩))∧Below w.heap.size w w':=by
 obtain ⟨pa,pl,pc,rfl⟩:=hpv
 have hw1:IntKind.i64.wrap (f.slots - 1)=f.slots - 1:=by rw [IntKind.wrap_i64];omega
 have hw2:IntKind.i64.wrap ((fns.length:Int) - 1)=(fns.length:Int) - 1:=by rw [IntKind.wrap_i64];omega
 clear hsl hl
 have hb:inB 7 1 16=true:=rfl
 have hA:hasA 7=true:=rfl
 by_cases hn:n=0
 ·subst hn
  by_cases ht:tx.size=0
  ·obtain rfl:=V.size_zero ht
   clear ht
   skip
   have HV:Hid (insB fns f ⟨7,a,0,⟨#[]⟩⟩=inB a 3 10):=hid (by simp [insB,aB,hb];try (intro _;rfl))
   go_enter Tryz.func107,Tryz.ntmps107
   go_wp2_with (first
   | (go_at_call 22;refine (l16In_any _ _ _ _).mono ?_;rintro e w' ⟨rfl,hw⟩;have hw2:=hw.symm;clear hw;subst hw2)
   | (go_at_call 127;refine (hasA_any _ _).mono ?_;rintro e w' ⟨rfl,hw⟩;have hw2:=hw.symm;clear hw;subst hw2)
   | (go_at_call 111;refine (l10Integer_c _ _).mono ?_;rintro e w' ⟨rfl,hw⟩;have hw2:=hw.symm;clear hw;subst hw2)
   | (go_at_call 83;refine (V.specVV a n tx hn1 hn2 _).mono ?_;rintro e w5 ⟨rfl,hb5⟩;have HB5:=hid hb5;clear hb5))
   go_ret
   exact ⟨ret_bool (by rw [HV.out];try rfl),by first | exact al3 _ _ _ _ | exact al3n _ _ _ _ _ | exact ((al3 _ _ _ _).trans (HB5.out.mono (al3 _ _ _ _).size)) | exact (al3 _ _ _ _).drew⟩
  ·have hne:=V.notEmpty tx (by omega)
   have HV:Hid (insB fns f ⟨7,a,0,tx⟩=false):=hid (by simp [insB,ht])
   clear ht
   go_enter Tryz.func107,Tryz.ntmps107
   go_wp2_with (first
   | (go_at_call 22;refine (l16In_any _ _ _ _).mono ?_;rintro e w' ⟨rfl,hw⟩;have hw2:=hw.symm;clear hw;subst hw2)
   | (go_at_call 127;refine (hasA_any _ _).mono ?_;rintro e w' ⟨rfl,hw⟩;have hw2:=hw.symm;clear hw;subst hw2)
   | (go_at_call 111;refine (l10Integer_c _ _).mono ?_;rintro e w' ⟨rfl,hw⟩;have hw2:=hw.symm;clear hw;subst hw2)
   | (go_at_call 83;refine (V.specVV a n tx hn1 hn2 _).mono ?_;rintro e w5 ⟨rfl,hb5⟩;have HB5:=hid hb5;clear hb5))
   go_ret
   exact ⟨ret_bool (by rw [HV.out]),by first | exact al3 _ _ _ _ | exact al3n _ _ _ _ _ | exact ((al3 _ _ _ _).trans (HB5.out.mono (al3 _ _ _ _).size)) | exact (al3 _ _ _ _).drew⟩
 ·have hnf:(n != 0)=true:=by simpa using hn
  have HV:Hid (insB fns f ⟨7,a,n,tx⟩=false):=hid (by simp [insB,hn])
  clear hn
  go_enter Tryz.func107,Tryz.ntmps107
  go_wp2_with (first
   | (go_at_call 22;refine (l16In_any _ _ _ _).mono ?_;rintro e w' ⟨rfl,hw⟩;have hw2:=hw.symm;clear hw;subst hw2)
   | (go_at_call 127;refine (hasA_any _ _).mono ?_;rintro e w' ⟨rfl,hw⟩;have hw2:=hw.symm;clear hw;subst hw2)
   | (go_at_call 111;refine (l10Integer_c _ _).mono ?_;rintro e w' ⟨rfl,hw⟩;have hw2:=hw.symm;clear hw;subst hw2)
   | (go_at_call 83;refine (V.specVV a n tx hn1 hn2 _).mono ?_;rintro e w5 ⟨rfl,hb5⟩;have HB5:=hid hb5;clear hb5))
  go_ret
  exact ⟨ret_bool (by rw [HV.out]),by first | exact al3 _ _ _ _ | exact al3n _ _ _ _ _ | exact ((al3 _ _ _ _).trans (HB5.out.mono (al3 _ _ _ _).size)) | exact (al3 _ _ _ _).drew⟩
set_option maxHeartbeats 2000000 in
theorem insOk_8 {fns:List Fn} {f:Fn} {a n:Int} {tx:ByteArray} {aF aI:Option Addr} {cF cI:Nat} {pv:Value} (w:World) (hpv:∃ ad l c,pv=.slice ad l c) (hsl:0≤f.slots∧f.slots≤200) (hl:fns.length≤60) (hn1:-9223372036854775808≤n) (hn2:n≤9223372036854775807) :
  Calls Tryz.prog 107 #[.agg #[.slice aF fns.length cF],.agg #[.string f.name,pv,.int .i64 f.result,.int .i64 f.slots,.slice aI f.ins.length cI],.agg #[.int .i64 8,.int .i64 a,.int .i64 n,.string tx]] w fun e w'=>e=.returned (.bool (insB fns f ⟨8,a,n,tx⟩))∧Below w.heap.size w w':=by
 obtain ⟨pa,pl,pc,rfl⟩:=hpv
 have hw1:IntKind.i64.wrap (f.slots - 1)=f.slots - 1:=by rw [IntKind.wrap_i64];omega
 have hw2:IntKind.i64.wrap ((fns.length:Int) - 1)=(fns.length:Int) - 1:=by rw [IntKind.wrap_i64];omega
 clear hsl hl
 have hb:inB 8 1 16=true:=rfl
 have hA:hasA 8=true:=rfl
 by_cases hn:n=0
 ·subst hn
  by_cases ht:tx.size=0
  ·obtain rfl:=V.size_zero ht
   clear ht
   skip
   have HV:Hid (insB fns f ⟨8,a,0,⟨#[]⟩⟩=inB a 1 12):=hid (by simp [insB,aB,hb];try (intro _;rfl))
   go_enter Tryz.func107,Tryz.ntmps107
   go_wp2_with (first
   | (go_at_call 22;refine (l16In_any _ _ _ _).mono ?_;rintro e w' ⟨rfl,hw⟩;have hw2:=hw.symm;clear hw;subst hw2)
   | (go_at_call 127;refine (hasA_any _ _).mono ?_;rintro e w' ⟨rfl,hw⟩;have hw2:=hw.symm;clear hw;subst hw2)
   | (go_at_call 111;refine (l10Integer_c _ _).mono ?_;rintro e w' ⟨rfl,hw⟩;have hw2:=hw.symm;clear hw;subst hw2)
   | (go_at_call 83;refine (V.specVV a n tx hn1 hn2 _).mono ?_;rintro e w5 ⟨rfl,hb5⟩;have HB5:=hid hb5;clear hb5))
   go_ret
   exact ⟨ret_bool (by rw [HV.out];try rfl),by first | exact al3 _ _ _ _ | exact al3n _ _ _ _ _ | exact ((al3 _ _ _ _).trans (HB5.out.mono (al3 _ _ _ _).size)) | exact (al3 _ _ _ _).drew⟩
  ·have hne:=V.notEmpty tx (by omega)
   have HV:Hid (insB fns f ⟨8,a,0,tx⟩=false):=hid (by simp [insB,ht])
   clear ht
   go_enter Tryz.func107,Tryz.ntmps107
   go_wp2_with (first
   | (go_at_call 22;refine (l16In_any _ _ _ _).mono ?_;rintro e w' ⟨rfl,hw⟩;have hw2:=hw.symm;clear hw;subst hw2)
   | (go_at_call 127;refine (hasA_any _ _).mono ?_;rintro e w' ⟨rfl,hw⟩;have hw2:=hw.symm;clear hw;subst hw2)
   | (go_at_call 111;refine (l10Integer_c _ _).mono ?_;rintro e w' ⟨rfl,hw⟩;have hw2:=hw.symm;clear hw;subst hw2)
   | (go_at_call 83;refine (V.specVV a n tx hn1 hn2 _).mono ?_;rintro e w5 ⟨rfl,hb5⟩;have HB5:=hid hb5;clear hb5))
   go_ret
   exact ⟨ret_bool (by rw [HV.out]),by first | exact al3 _ _ _ _ | exact al3n _ _ _ _ _ | exact ((al3 _ _ _ _).trans (HB5.out.mono (al3 _ _ _ _).size)) | exact (al3 _ _ _ _).drew⟩
 ·have hnf:(n != 0)=true:=by simpa using hn
  have HV:Hid (insB fns f ⟨8,a,n,tx⟩=false):=hid (by simp [insB,hn])
  clear hn
  go_enter Tryz.func107,Tryz.ntmps107
  go_wp2_with (first
   | (go_at_call 22;refine (l16In_any _ _ _ _).mono ?_;rintro e w' ⟨rfl,hw⟩;have hw2:=hw.symm;clear hw;subst hw2)
   | (go_at_call 127;refine (hasA_any _ _).mono ?_;rintro e w' ⟨rfl,hw⟩;have hw2:=hw.symm;clear hw;subst hw2)
   | (go_at_call 111;refine (l10Integer_c _ _).mono ?_;rintro e w' ⟨rfl,hw⟩;have hw2:=hw.symm;clear hw;subst hw2)
   | (go_at_call 83;refine (V.specVV a n tx hn1 hn2 _).mono ?_;rintro e w5 ⟨rfl,hb5⟩;have HB5:=hid hb5;clear hb5))
  go_ret
  exact ⟨ret_bool (by rw [HV.out]),by first | exact al3 _ _ _ _ | exact al3n _ _ _ _ _ | exact ((al3 _ _ _ _).trans (HB5.out.mono (al3 _ _ _ _).size)) | exact (al3 _ _ _ _).drew⟩
set_option maxHeartbeats 2000000 in
theorem insOk_9 {fns:List Fn} {f:Fn} {a n:Int} {tx:ByteArray} {aF aI:Option Addr} {cF cI:Nat} {pv:Value} (w:World) (hpv:∃ ad l c,pv=.slice ad l c) (hsl:0≤f.slots∧f.slots≤200) (hl:fns.length≤60) (hn1:-9223372036854775808≤n) (hn2:n≤9223372036854775807) :
  Calls Tryz.prog 107 #[.agg #[.slice aF fns.length cF],.agg #[.string f.name,pv,.int .i64 f.result,.int .i64 f.slots,.slice aI f.ins.length cI],.agg #[.int .i64 9,.int .i64 a,.int .i64 n,.string tx]] w fun e w'=>e=.returned (.bool (insB fns f ⟨9,a,n,tx⟩))∧Below w.heap.size w w':=by
 obtain ⟨pa,pl,pc,rfl⟩:=hpv
 have hw1:IntKind.i64.wrap (f.slots - 1)=f.slots - 1:=by rw [IntKind.wrap_i64];omega
 have hw2:IntKind.i64.wrap ((fns.length:Int) - 1)=(fns.length:Int) - 1:=by rw [IntKind.wrap_i64];omega
 clear hsl hl
 have hb:inB 9 1 16=true:=rfl
 have hA:hasA 9=true:=rfl
 by_cases hn:n=0
 ·subst hn
  by_cases ht:tx.size=0
  ·obtain rfl:=V.size_zero ht
   clear ht
   skip
   have HV:Hid (insB fns f ⟨9,a,0,⟨#[]⟩⟩=inB a 0 ((fns.length:Int) - 1)):=hid (by simp [insB,aB,hb];try (intro _;rfl))
   go_enter Tryz.func107,Tryz.ntmps107
   go_wp2_with (first
   | (go_at_call 22;refine (l16In_any _ _ _ _).mono ?_;rintro e w' ⟨rfl,hw⟩;have hw2:=hw.symm;clear hw;subst hw2)
   | (go_at_call 127;refine (hasA_any _ _).mono ?_;rintro e w' ⟨rfl,hw⟩;have hw2:=hw.symm;clear hw;subst hw2)
   | (go_at_call 111;refine (l10Integer_c _ _).mono ?_;rintro e w' ⟨rfl,hw⟩;have hw2:=hw.symm;clear hw;subst hw2)
   | (go_at_call 83;refine (V.specVV a n tx hn1 hn2 _).mono ?_;rintro e w5 ⟨rfl,hb5⟩;have HB5:=hid hb5;clear hb5))
   go_ret
   exact ⟨ret_bool (by rw [HV.out];try rfl),by first | exact al3 _ _ _ _ | exact al3n _ _ _ _ _ | exact ((al3 _ _ _ _).trans (HB5.out.mono (al3 _ _ _ _).size)) | exact (al3 _ _ _ _).drew⟩
  ·have hne:=V.notEmpty tx (by omega)
   have HV:Hid (insB fns f ⟨9,a,0,tx⟩=false):=hid (by simp [insB,ht])
   clear ht
   go_enter Tryz.func107,Tryz.ntmps107
   go_wp2_with (first
   | (go_at_call 22;refine (l16In_any _ _ _ _).mono ?_;rintro e w' ⟨rfl,hw⟩;have hw2:=hw.symm;clear hw;subst hw2)
   | (go_at_call 127;refine (hasA_any _ _).mono ?_;rintro e w' ⟨rfl,hw⟩;have hw2:=hw.symm;clear hw;subst hw2)
   | (go_at_call 111;refine (l10Integer_c _ _).mono ?_;rintro e w' ⟨rfl,hw⟩;have hw2:=hw.symm;clear hw;subst hw2)
   | (go_at_call 83;refine (V.specVV a n tx hn1 hn2 _).mono ?_;rintro e w5 ⟨rfl,hb5⟩;have HB5:=hid hb5;clear hb5))
   go_ret
   exact ⟨ret_bool (by rw [HV.out]),by first | exact al3 _ _ _ _ | exact al3n _ _ _ _ _ | exact ((al3 _ _ _ _).trans (HB5.out.mono (al3 _ _ _ _).size)) | exact (al3 _ _ _ _).drew⟩
 ·have hnf:(n != 0)=true:=by simpa using hn
  have HV:Hid (insB fns f ⟨9,a,n,tx⟩=false):=hid (by simp [insB,hn])
  clear hn
  go_enter Tryz.func107,Tryz.ntmps107
  go_wp2_with (first
   | (go_at_call 22;refine (l16In_any _ _ _ _).mono ?_;rintro e w' ⟨rfl,hw⟩;have hw2:=hw.symm;clear hw;subst hw2)
   | (go_at_call 127;refine (hasA_any _ _).mono ?_;rintro e w' ⟨rfl,hw⟩;have hw2:=hw.symm;clear hw;subst hw2)
   | (go_at_call 111;refine (l10Integer_c _ _).mono ?_;rintro e w' ⟨rfl,hw⟩;have hw2:=hw.symm;clear hw;subst hw2)
   | (go_at_call 83;refine (V.specVV a n tx hn1 hn2 _).mono ?_;rintro e w5 ⟨rfl,hb5⟩;have HB5:=hid hb5;clear hb5))
  go_ret
  exact ⟨ret_bool (by rw [HV.out]),by first | exact al3 _ _ _ _ | exact al3n _ _ _ _ _ | exact ((al3 _ _ _ _).trans (HB5.out.mono (al3 _ _ _ _).size)) | exact (al3 _ _ _ _).drew⟩
set_option maxHeartbeats 2000000 in
theorem insOk_10 {fns:List Fn} {f:Fn} {a n:Int} {tx:ByteArray} {aF aI:Option Addr} {cF cI:Nat} {pv:Value} (w:World) (hpv:∃ ad l c,pv=.slice ad l c) (hsl:0≤f.slots∧f.slots≤200) (hl:fns.length≤60) (hn1:-9223372036854775808≤n) (hn2:n≤9223372036854775807) :
  Calls Tryz.prog 107 #[.agg #[.slice aF fns.length cF],.agg #[.string f.name,pv,.int .i64 f.result,.int .i64 f.slots,.slice aI f.ins.length cI],.agg #[.int .i64 10,.int .i64 a,.int .i64 n,.string tx]] w fun e w'=>e=.returned (.bool (insB fns f ⟨10,a,n,tx⟩))∧Below w.heap.size w w':=by
 obtain ⟨pa,pl,pc,rfl⟩:=hpv
 have hw1:IntKind.i64.wrap (f.slots - 1)=f.slots - 1:=by rw [IntKind.wrap_i64];omega
 have hw2:IntKind.i64.wrap ((fns.length:Int) - 1)=(fns.length:Int) - 1:=by rw [IntKind.wrap_i64];omega
 clear hsl hl
 have hb:inB 10 1 16=true:=rfl
 have hA:hasA 10=true:=rfl
 by_cases hn:n=0
 ·subst hn
  by_cases ht:tx.size=0
  ·obtain rfl:=V.size_zero ht
   clear ht
   skip
   have HV:Hid (insB fns f ⟨10,a,0,⟨#[]⟩⟩=inB a 0 f.ins.length):=hid (by simp [insB,aB,hb];try (intro _;rfl))
   go_enter Tryz.func107,Tryz.ntmps107
   go_wp2_with (first
   | (go_at_call 22;refine (l16In_any _ _ _ _).mono ?_;rintro e w' ⟨rfl,hw⟩;have hw2:=hw.symm;clear hw;subst hw2)
   | (go_at_call 127;refine (hasA_any _ _).mono ?_;rintro e w' ⟨rfl,hw⟩;have hw2:=hw.symm;clear hw;subst hw2)
   | (go_at_call 111;refine (l10Integer_c _ _).mono ?_;rintro e w' ⟨rfl,hw⟩;have hw2:=hw.symm;clear hw;subst hw2)
   | (go_at_call 83;refine (V.specVV a n tx hn1 hn2 _).mono ?_;rintro e w5 ⟨rfl,hb5⟩;have HB5:=hid hb5;clear hb5))
   go_ret
   exact ⟨ret_bool (by rw [HV.out];try rfl),by first | exact al3 _ _ _ _ | exact al3n _ _ _ _ _ | exact ((al3 _ _ _ _).trans (HB5.out.mono (al3 _ _ _ _).size)) | exact (al3 _ _ _ _).drew⟩
  ·have hne:=V.notEmpty tx (by omega)
   have HV:Hid (insB fns f ⟨10,a,0,tx⟩=false):=hid (by simp [insB,ht])
   clear ht
   go_enter Tryz.func107,Tryz.ntmps107
   go_wp2_with (first
   | (go_at_call 22;refine (l16In_any _ _ _ _).mono ?_;rintro e w' ⟨rfl,hw⟩;have hw2:=hw.symm;clear hw;subst hw2)
   | (go_at_call 127;refine (hasA_any _ _).mono ?_;rintro e w' ⟨rfl,hw⟩;have hw2:=hw.symm;clear hw;subst hw2)
   | (go_at_call 111;refine (l10Integer_c _ _).mono ?_;rintro e w' ⟨rfl,hw⟩;have hw2:=hw.symm;clear hw;subst hw2)
   | (go_at_call 83;refine (V.specVV a n tx hn1 hn2 _).mono ?_;rintro e w5 ⟨rfl,hb5⟩;have HB5:=hid hb5;clear hb5))
   go_ret
   exact ⟨ret_bool (by rw [HV.out]),by first | exact al3 _ _ _ _ | exact al3n _ _ _ _ _ | exact ((al3 _ _ _ _).trans (HB5.out.mono (al3 _ _ _ _).size)) | exact (al3 _ _ _ _).drew⟩
 ·have hnf:(n != 0)=true:=by simpa using hn
  have HV:Hid (insB fns f ⟨10,a,n,tx⟩=false):=hid (by simp [insB,hn])
  clear hn
  go_enter Tryz.func107,Tryz.ntmps107
  go_wp2_with (first
   | (go_at_call 22;refine (l16In_any _ _ _ _).mono ?_;rintro e w' ⟨rfl,hw⟩;have hw2:=hw.symm;clear hw;subst hw2)
   | (go_at_call 127;refine (hasA_any _ _).mono ?_;rintro e w' ⟨rfl,hw⟩;have hw2:=hw.symm;clear hw;subst hw2)
   | (go_at_call 111;refine (l10Integer_c _ _).mono ?_;rintro e w' ⟨rfl,hw⟩;have hw2:=hw.symm;clear hw;subst hw2)
   | (go_at_call 83;refine (V.specVV a n tx hn1 hn2 _).mono ?_;rintro e w5 ⟨rfl,hb5⟩;have HB5:=hid hb5;clear hb5))
  go_ret
  exact ⟨ret_bool (by rw [HV.out]),by first | exact al3 _ _ _ _ | exact al3n _ _ _ _ _ | exact ((al3 _ _ _ _).trans (HB5.out.mono (al3 _ _ _ _).size)) | exact (al3 _ _ _ _).drew⟩
set_option maxHeartbeats 2000000 in
theorem insOk_11 {fns:List Fn} {f:Fn} {a n:Int} {tx:ByteArray} {aF aI:Option Addr} {cF cI:Nat} {pv:Value} (w:World) (hpv:∃ ad l c,pv=.slice ad l c) (hsl:0≤f.slots∧f.slots≤200) (hl:fns.length≤60) (hn1:-9223372036854775808≤n) (hn2:n≤9223372036854775807) :
  Calls Tryz.prog 107 #[.agg #[.slice aF fns.length cF],.agg #[.string f.name,pv,.int .i64 f.result,.int .i64 f.slots,.slice aI f.ins.length cI],.agg #[.int .i64 11,.int .i64 a,.int .i64 n,.string tx]] w fun e w'=>e=.returned (.bool (insB fns f ⟨11,a,n,tx⟩))∧Below w.heap.size w w':=by
 obtain ⟨pa,pl,pc,rfl⟩:=hpv
 have hw1:IntKind.i64.wrap (f.slots - 1)=f.slots - 1:=by rw [IntKind.wrap_i64];omega
 have hw2:IntKind.i64.wrap ((fns.length:Int) - 1)=(fns.length:Int) - 1:=by rw [IntKind.wrap_i64];omega
 clear hsl hl
 have hb:inB 11 1 16=true:=rfl
 have hA:hasA 11=true:=rfl
 by_cases hn:n=0
 ·subst hn
  by_cases ht:tx.size=0
  ·obtain rfl:=V.size_zero ht
   clear ht
   skip
   have HV:Hid (insB fns f ⟨11,a,0,⟨#[]⟩⟩=inB a 0 f.ins.length):=hid (by simp [insB,aB,hb];try (intro _;rfl))
   go_enter Tryz.func107,Tryz.ntmps107
   go_wp2_with (first
   | (go_at_call 22;refine (l16In_any _ _ _ _).mono ?_;rintro e w' ⟨rfl,hw⟩;have hw2:=hw.symm;clear hw;subst hw2)
   | (go_at_call 127;refine (hasA_any _ _).mono ?_;rintro e w' ⟨rfl,hw⟩;have hw2:=hw.symm;clear hw;subst hw2)
   | (go_at_call 111;refine (l10Integer_c _ _).mono ?_;rintro e w' ⟨rfl,hw⟩;have hw2:=hw.symm;clear hw;subst hw2)
   | (go_at_call 83;refine (V.specVV a n tx hn1 hn2 _).mono ?_;rintro e w5 ⟨rfl,hb5⟩;have HB5:=hid hb5;clear hb5))
   go_ret
   exact ⟨ret_bool (by rw [HV.out];try rfl),by first | exact al3 _ _ _ _ | exact al3n _ _ _ _ _ | exact ((al3 _ _ _ _).trans (HB5.out.mono (al3 _ _ _ _).size)) | exact (al3 _ _ _ _).drew⟩
  ·have hne:=V.notEmpty tx (by omega)
   have HV:Hid (insB fns f ⟨11,a,0,tx⟩=false):=hid (by simp [insB,ht])
   clear ht
   go_enter Tryz.func107,Tryz.ntmps107
   go_wp2_with (first
   | (go_at_call 22;refine (l16In_any _ _ _ _).mono ?_;rintro e w' ⟨rfl,hw⟩;have hw2:=hw.symm;clear hw;subst hw2)
   | (go_at_call 127;refine (hasA_any _ _).mono ?_;rintro e w' ⟨rfl,hw⟩;have hw2:=hw.symm;clear hw;subst hw2)
   | (go_at_call 111;refine (l10Integer_c _ _).mono ?_;rintro e w' ⟨rfl,hw⟩;have hw2:=hw.symm;clear hw;subst hw2)
   | (go_at_call 83;refine (V.specVV a n tx hn1 hn2 _).mono ?_;rintro e w5 ⟨rfl,hb5⟩;have HB5:=hid hb5;clear hb5))
   go_ret
   exact ⟨ret_bool (by rw [HV.out]),by first | exact al3 _ _ _ _ | exact al3n _ _ _ _ _ | exact ((al3 _ _ _ _).trans (HB5.out.mono (al3 _ _ _ _).size)) | exact (al3 _ _ _ _).drew⟩
 ·have hnf:(n != 0)=true:=by simpa using hn
  have HV:Hid (insB fns f ⟨11,a,n,tx⟩=false):=hid (by simp [insB,hn])
  clear hn
  go_enter Tryz.func107,Tryz.ntmps107
  go_wp2_with (first
   | (go_at_call 22;refine (l16In_any _ _ _ _).mono ?_;rintro e w' ⟨rfl,hw⟩;have hw2:=hw.symm;clear hw;subst hw2)
   | (go_at_call 127;refine (hasA_any _ _).mono ?_;rintro e w' ⟨rfl,hw⟩;have hw2:=hw.symm;clear hw;subst hw2)
   | (go_at_call 111;refine (l10Integer_c _ _).mono ?_;rintro e w' ⟨rfl,hw⟩;have hw2:=hw.symm;clear hw;subst hw2)
   | (go_at_call 83;refine (V.specVV a n tx hn1 hn2 _).mono ?_;rintro e w5 ⟨rfl,hb5⟩;have HB5:=hid hb5;clear hb5))
  go_ret
  exact ⟨ret_bool (by rw [HV.out]),by first | exact al3 _ _ _ _ | exact al3n _ _ _ _ _ | exact ((al3 _ _ _ _).trans (HB5.out.mono (al3 _ _ _ _).size)) | exact (al3 _ _ _ _).drew⟩
set_option maxHeartbeats 2000000 in
theorem insOk_12 {fns:List Fn} {f:Fn} {a n:Int} {tx:ByteArray} {aF aI:Option Addr} {cF cI:Nat} {pv:Value} (w:World) (hpv:∃ ad l c,pv=.slice ad l c) (hsl:0≤f.slots∧f.slots≤200) (hl:fns.length≤60) (hn1:-9223372036854775808≤n) (hn2:n≤9223372036854775807) :
  Calls Tryz.prog 107 #[.agg #[.slice aF fns.length cF],.agg #[.string f.name,pv,.int .i64 f.result,.int .i64 f.slots,.slice aI f.ins.length cI],.agg #[.int .i64 12,.int .i64 a,.int .i64 n,.string tx]] w fun e w'=>e=.returned (.bool (insB fns f ⟨12,a,n,tx⟩))∧Below w.heap.size w w':=by
 obtain ⟨pa,pl,pc,rfl⟩:=hpv
 have hw1:IntKind.i64.wrap (f.slots - 1)=f.slots - 1:=by rw [IntKind.wrap_i64];omega
 have hw2:IntKind.i64.wrap ((fns.length:Int) - 1)=(fns.length:Int) - 1:=by rw [IntKind.wrap_i64];omega
 clear hsl hl
 have hb:inB 12 1 16=true:=rfl
 have hA:hasA 12=true:=rfl
 by_cases hn:n=0
 ·subst hn
  by_cases ht:tx.size=0
  ·obtain rfl:=V.size_zero ht
   clear ht
   skip
   by_cases hr:f.result=0
   ·have hrf:(f.result != 0)=false:=by simpa using hr
    have hrt:(f.result == 0)=true:=by simpa using hr
    have HV:Hid (insB fns f ⟨12,a,0,⟨#[]⟩⟩=decide (a=0)):=hid (by
     rw [Bool.eq_iff_iff]
     simp [insB,aB,hr,inB_iff,hb]
     constructor
     ·rintro ⟨h1,_⟩;omega
     ·intro h1;subst h1;exact ⟨by omega,rfl⟩)
    clear hr
    obtain rfl | rfl | ⟨ha0,ha1⟩:a=0∨a=1∨(¬ a=0∧¬ a=1):=by omega
    ·go_enter Tryz.func107,Tryz.ntmps107
     go_wp2_with (first
   | (go_at_call 22;refine (l16In_any _ _ _ _).mono ?_;rintro e w' ⟨rfl,hw⟩;have hw2:=hw.symm;clear hw;subst hw2)
   | (go_at_call 127;refine (hasA_any _ _).mono ?_;rintro e w' ⟨rfl,hw⟩;have hw2:=hw.symm;clear hw;subst hw2)
   | (go_at_call 111;refine (l10Integer_c _ _).mono ?_;rintro e w' ⟨rfl,hw⟩;have hw2:=hw.symm;clear hw;subst hw2)
   | (go_at_call 83;refine (V.specVV a n tx hn1 hn2 _).mono ?_;rintro e w5 ⟨rfl,hb5⟩;have HB5:=hid hb5;clear hb5))
     go_ret
     exact ⟨ret_bool (by rw [HV.out];try rfl),by first | exact al3 _ _ _ _ | exact al3n _ _ _ _ _ | exact ((al3 _ _ _ _).trans (HB5.out.mono (al3 _ _ _ _).size)) | exact (al3 _ _ _ _).drew⟩
    ·go_enter Tryz.func107,Tryz.ntmps107
     go_wp2_with (first
   | (go_at_call 22;refine (l16In_any _ _ _ _).mono ?_;rintro e w' ⟨rfl,hw⟩;have hw2:=hw.symm;clear hw;subst hw2)
   | (go_at_call 127;refine (hasA_any _ _).mono ?_;rintro e w' ⟨rfl,hw⟩;have hw2:=hw.symm;clear hw;subst hw2)
   | (go_at_call 111;refine (l10Integer_c _ _).mono ?_;rintro e w' ⟨rfl,hw⟩;have hw2:=hw.symm;clear hw;subst hw2)
   | (go_at_call 83;refine (V.specVV a n tx hn1 hn2 _).mono ?_;rintro e w5 ⟨rfl,hb5⟩;have HB5:=hid hb5;clear hb5))
     go_ret
     exact ⟨ret_bool (by rw [HV.out];try rfl),by first | exact al3 _ _ _ _ | exact al3n _ _ _ _ _ | exact ((al3 _ _ _ _).trans (HB5.out.mono (al3 _ _ _ _).size)) | exact (al3 _ _ _ _).drew⟩
    ·have e0:(a == 0)=false:=by simpa using ha0
     have e1:(a == 1)=false:=by simpa using ha1
     have HV2:Hid (decide (a=0)=false):=hid (by simpa using ha0)
     clear ha0 ha1
     go_enter Tryz.func107,Tryz.ntmps107
     go_wp2_with (first
   | (go_at_call 22;refine (l16In_any _ _ _ _).mono ?_;rintro e w' ⟨rfl,hw⟩;have hw2:=hw.symm;clear hw;subst hw2)
   | (go_at_call 127;refine (hasA_any _ _).mono ?_;rintro e w' ⟨rfl,hw⟩;have hw2:=hw.symm;clear hw;subst hw2)
   | (go_at_call 111;refine (l10Integer_c _ _).mono ?_;rintro e w' ⟨rfl,hw⟩;have hw2:=hw.symm;clear hw;subst hw2)
   | (go_at_call 83;refine (V.specVV a n tx hn1 hn2 _).mono ?_;rintro e w5 ⟨rfl,hb5⟩;have HB5:=hid hb5;clear hb5))
     go_ret
     exact ⟨ret_bool (by rw [HV.out,HV2.out]),by first | exact al3 _ _ _ _ | exact al3n _ _ _ _ _ | exact ((al3 _ _ _ _).trans (HB5.out.mono (al3 _ _ _ _).size)) | exact (al3 _ _ _ _).drew⟩
   ·have hrf:(f.result != 0)=true:=by simpa using hr
    have hrt:(f.result == 0)=false:=by simpa using hr
    have HV:Hid (insB fns f ⟨12,a,0,⟨#[]⟩⟩=decide (a=1)):=hid (by
     rw [Bool.eq_iff_iff]
     simp [insB,aB,hr,inB_iff,hb]
     constructor
     ·rintro ⟨h1,_⟩;omega
     ·intro h1;subst h1;exact ⟨by omega,rfl⟩)
    clear hr
    obtain rfl | rfl | ⟨ha0,ha1⟩:a=0∨a=1∨(¬ a=0∧¬ a=1):=by omega
    ·go_enter Tryz.func107,Tryz.ntmps107
     go_wp2_with (first
   | (go_at_call 22;refine (l16In_any _ _ _ _).mono ?_;rintro e w' ⟨rfl,hw⟩;have hw2:=hw.symm;clear hw;subst hw2)
   | (go_at_call 127;refine (hasA_any _ _).mono ?_;rintro e w' ⟨rfl,hw⟩;have hw2:=hw.symm;clear hw;subst hw2)
   | (go_at_call 111;refine (l10Integer_c _ _).mono ?_;rintro e w' ⟨rfl,hw⟩;have hw2:=hw.symm;clear hw;subst hw2)
   | (go_at_call 83;refine (V.specVV a n tx hn1 hn2 _).mono ?_;rintro e w5 ⟨rfl,hb5⟩;have HB5:=hid hb5;clear hb5))
     go_ret
     exact ⟨ret_bool (by rw [HV.out];try rfl),by first | exact al3 _ _ _ _ | exact al3n _ _ _ _ _ | exact ((al3 _ _ _ _).trans (HB5.out.mono (al3 _ _ _ _).size)) | exact (al3 _ _ _ _).drew⟩
    ·go_enter Tryz.func107,Tryz.ntmps107
     go_wp2_with (first
   | (go_at_call 22;refine (l16In_any _ _ _ _).mono ?_;rintro e w' ⟨rfl,hw⟩;have hw2:=hw.symm;clear hw;subst hw2)
   | (go_at_call 127;refine (hasA_any _ _).mono ?_;rintro e w' ⟨rfl,hw⟩;have hw2:=hw.symm;clear hw;subst hw2)
   | (go_at_call 111;refine (l10Integer_c _ _).mono ?_;rintro e w' ⟨rfl,hw⟩;have hw2:=hw.symm;clear hw;subst hw2)
   | (go_at_call 83;refine (V.specVV a n tx hn1 hn2 _).mono ?_;rintro e w5 ⟨rfl,hb5⟩;have HB5:=hid hb5;clear hb5))
     go_ret
     exact ⟨ret_bool (by rw [HV.out];try rfl),by first | exact al3 _ _ _ _ | exact al3n _ _ _ _ _ | exact ((al3 _ _ _ _).trans (HB5.out.mono (al3 _ _ _ _).size)) | exact (al3 _ _ _ _).drew⟩
    ·have e0:(a == 0)=false:=by simpa using ha0
     have e1:(a == 1)=false:=by simpa using ha1
     have HV2:Hid (decide (a=1)=false):=hid (by simpa using ha1)
     clear ha0 ha1
     go_enter Tryz.func107,Tryz.ntmps107
     go_wp2_with (first
   | (go_at_call 22;refine (l16In_any _ _ _ _).mono ?_;rintro e w' ⟨rfl,hw⟩;have hw2:=hw.symm;clear hw;subst hw2)
   | (go_at_call 127;refine (hasA_any _ _).mono ?_;rintro e w' ⟨rfl,hw⟩;have hw2:=hw.symm;clear hw;subst hw2)
   | (go_at_call 111;refine (l10Integer_c _ _).mono ?_;rintro e w' ⟨rfl,hw⟩;have hw2:=hw.symm;clear hw;subst hw2)
   | (go_at_call 83;refine (V.specVV a n tx hn1 hn2 _).mono ?_;rintro e w5 ⟨rfl,hb5⟩;have HB5:=hid hb5;clear hb5))
     go_ret
     exact ⟨ret_bool (by rw [HV.out,HV2.out]),by first | exact al3 _ _ _ _ | exact al3n _ _ _ _ _ | exact ((al3 _ _ _ _).trans (HB5.out.mono (al3 _ _ _ _).size)) | exact (al3 _ _ _ _).drew⟩
  ·have hne:=V.notEmpty tx (by omega)
   have HV:Hid (insB fns f ⟨12,a,0,tx⟩=false):=hid (by simp [insB,ht])
   clear ht
   go_enter Tryz.func107,Tryz.ntmps107
   go_wp2_with (first
   | (go_at_call 22;refine (l16In_any _ _ _ _).mono ?_;rintro e w' ⟨rfl,hw⟩;have hw2:=hw.symm;clear hw;subst hw2)
   | (go_at_call 127;refine (hasA_any _ _).mono ?_;rintro e w' ⟨rfl,hw⟩;have hw2:=hw.symm;clear hw;subst hw2)
   | (go_at_call 111;refine (l10Integer_c _ _).mono ?_;rintro e w' ⟨rfl,hw⟩;have hw2:=hw.symm;clear hw;subst hw2)
   | (go_at_call 83;refine (V.specVV a n tx hn1 hn2 _).mono ?_;rintro e w5 ⟨rfl,hb5⟩;have HB5:=hid hb5;clear hb5))
   go_ret
   exact ⟨ret_bool (by rw [HV.out]),by first | exact al3 _ _ _ _ | exact al3n _ _ _ _ _ | exact ((al3 _ _ _ _).trans (HB5.out.mono (al3 _ _ _ _).size)) | exact (al3 _ _ _ _).drew⟩
 ·have hnf:(n != 0)=true:=by simpa using hn
  have HV:Hid (insB fns f ⟨12,a,n,tx⟩=false):=hid (by simp [insB,hn])
  clear hn
  go_enter Tryz.func107,Tryz.ntmps107
  go_wp2_with (first
   | (go_at_call 22;refine (l16In_any _ _ _ _).mono ?_;rintro e w' ⟨rfl,hw⟩;have hw2:=hw.symm;clear hw;subst hw2)
   | (go_at_call 127;refine (hasA_any _ _).mono ?_;rintro e w' ⟨rfl,hw⟩;have hw2:=hw.symm;clear hw;subst hw2)
   | (go_at_call 111;refine (l10Integer_c _ _).mono ?_;rintro e w' ⟨rfl,hw⟩;have hw2:=hw.symm;clear hw;subst hw2)
   | (go_at_call 83;refine (V.specVV a n tx hn1 hn2 _).mono ?_;rintro e w5 ⟨rfl,hb5⟩;have HB5:=hid hb5;clear hb5))
  go_ret
  exact ⟨ret_bool (by rw [HV.out]),by first | exact al3 _ _ _ _ | exact al3n _ _ _ _ _ | exact ((al3 _ _ _ _).trans (HB5.out.mono (al3 _ _ _ _).size)) | exact (al3 _ _ _ _).drew⟩
set_option maxHeartbeats 2000000 in
theorem insOk_13 {fns:List Fn} {f:Fn} {a n:Int} {tx:ByteArray} {aF aI:Option Addr} {cF cI:Nat} {pv:Value} (w:World) (hpv:∃ ad l c,pv=.slice ad l c) (hsl:0≤f.slots∧f.slots≤200) (hl:fns.length≤60) (hn1:-9223372036854775808≤n) (hn2:n≤9223372036854775807) :
  Calls Tryz.prog 107 #[.agg #[.slice aF fns.length cF],.agg #[.string f.name,pv,.int .i64 f.result,.int .i64 f.slots,.slice aI f.ins.length cI],.agg #[.int .i64 13,.int .i64 a,.int .i64 n,.string tx]] w fun e w'=>e=.returned (.bool (insB fns f ⟨13,a,n,tx⟩))∧Below w.heap.size w w':=by
 obtain ⟨pa,pl,pc,rfl⟩:=hpv
 have hw1:IntKind.i64.wrap (f.slots - 1)=f.slots - 1:=by rw [IntKind.wrap_i64];omega
 have hw2:IntKind.i64.wrap ((fns.length:Int) - 1)=(fns.length:Int) - 1:=by rw [IntKind.wrap_i64];omega
 clear hsl hl
 have hb:inB 13 1 16=true:=rfl
 have hA:hasA 13=false:=rfl
 by_cases ha:a=0
 ·subst ha
  by_cases hn:n=0
  ·subst hn
   by_cases ht:tx.size=0
   ·obtain rfl:=V.size_zero ht
    go_enter Tryz.func107,Tryz.ntmps107
    go_wp2_with (first
   | (go_at_call 22;refine (l16In_any _ _ _ _).mono ?_;rintro e w' ⟨rfl,hw⟩;have hw2:=hw.symm;clear hw;subst hw2)
   | (go_at_call 127;refine (hasA_any _ _).mono ?_;rintro e w' ⟨rfl,hw⟩;have hw2:=hw.symm;clear hw;subst hw2)
   | (go_at_call 111;refine (l10Integer_c _ _).mono ?_;rintro e w' ⟨rfl,hw⟩;have hw2:=hw.symm;clear hw;subst hw2)
   | (go_at_call 83;refine (V.specVV a n tx hn1 hn2 _).mono ?_;rintro e w5 ⟨rfl,hb5⟩;have HB5:=hid hb5;clear hb5))
    go_ret
    exact ⟨ret_bool (by rfl),by first | exact al3 _ _ _ _ | exact al3n _ _ _ _ _ | exact ((al3 _ _ _ _).trans (HB5.out.mono (al3 _ _ _ _).size)) | exact (al3 _ _ _ _).drew⟩
   ·have hne:=V.notEmpty tx (by omega)
    have HV:Hid (insB fns f ⟨13,0,0,tx⟩=false):=hid (by simp [insB,ht])
    clear ht
    go_enter Tryz.func107,Tryz.ntmps107
    go_wp2_with (first
   | (go_at_call 22;refine (l16In_any _ _ _ _).mono ?_;rintro e w' ⟨rfl,hw⟩;have hw2:=hw.symm;clear hw;subst hw2)
   | (go_at_call 127;refine (hasA_any _ _).mono ?_;rintro e w' ⟨rfl,hw⟩;have hw2:=hw.symm;clear hw;subst hw2)
   | (go_at_call 111;refine (l10Integer_c _ _).mono ?_;rintro e w' ⟨rfl,hw⟩;have hw2:=hw.symm;clear hw;subst hw2)
   | (go_at_call 83;refine (V.specVV a n tx hn1 hn2 _).mono ?_;rintro e w5 ⟨rfl,hb5⟩;have HB5:=hid hb5;clear hb5))
    go_ret
    exact ⟨ret_bool (by rw [HV.out]),by first | exact al3 _ _ _ _ | exact al3n _ _ _ _ _ | exact ((al3 _ _ _ _).trans (HB5.out.mono (al3 _ _ _ _).size)) | exact (al3 _ _ _ _).drew⟩
  ·have hnf:(n != 0)=true:=by simpa using hn
   have HV:Hid (insB fns f ⟨13,0,n,tx⟩=false):=hid (by simp [insB,hn])
   clear hn
   go_enter Tryz.func107,Tryz.ntmps107
   go_wp2_with (first
   | (go_at_call 22;refine (l16In_any _ _ _ _).mono ?_;rintro e w' ⟨rfl,hw⟩;have hw2:=hw.symm;clear hw;subst hw2)
   | (go_at_call 127;refine (hasA_any _ _).mono ?_;rintro e w' ⟨rfl,hw⟩;have hw2:=hw.symm;clear hw;subst hw2)
   | (go_at_call 111;refine (l10Integer_c _ _).mono ?_;rintro e w' ⟨rfl,hw⟩;have hw2:=hw.symm;clear hw;subst hw2)
   | (go_at_call 83;refine (V.specVV a n tx hn1 hn2 _).mono ?_;rintro e w5 ⟨rfl,hb5⟩;have HB5:=hid hb5;clear hb5))
   go_ret
   exact ⟨ret_bool (by rw [HV.out]),by first | exact al3 _ _ _ _ | exact al3n _ _ _ _ _ | exact ((al3 _ _ _ _).trans (HB5.out.mono (al3 _ _ _ _).size)) | exact (al3 _ _ _ _).drew⟩
 ·have haf:(a != 0)=true:=by simpa using ha
  have HV:Hid (insB fns f ⟨13,a,n,tx⟩=false):=hid (by
   have:inB a 0 0=false:=by rw [Bool.eq_false_iff];intro h9;have:=inB_iff.1 h9;omega
   simp [insB,aB,this])
  clear ha
  go_enter Tryz.func107,Tryz.ntmps107
  go_wp2_with (first
   | (go_at_call 22;refine (l16In_any _ _ _ _).mono ?_;rintro e w' ⟨rfl,hw⟩;have hw2:=hw.symm;clear hw;subst hw2)
   | (go_at_call 127;refine (hasA_any _ _).mono ?_;rintro e w' ⟨rfl,hw⟩;have hw2:=hw.symm;clear hw;subst hw2)
   | (go_at_call 111;refine (l10Integer_c _ _).mono ?_;rintro e w' ⟨rfl,hw⟩;have hw2:=hw.symm;clear hw;subst hw2)
   | (go_at_call 83;refine (V.specVV a n tx hn1 hn2 _).mono ?_;rintro e w5 ⟨rfl,hb5⟩;have HB5:=hid hb5;clear hb5))
  go_ret
  exact ⟨ret_bool (by rw [HV.out]),by first | exact al3 _ _ _ _ | exact al3n _ _ _ _ _ | exact ((al3 _ _ _ _).trans (HB5.out.mono (al3 _ _ _ _).size)) | exact (al3 _ _ _ _).drew⟩
set_option maxHeartbeats 2000000 in
theorem insOk_14 {fns:List Fn} {f:Fn} {a n:Int} {tx:ByteArray} {aF aI:Option Addr} {cF cI:Nat} {pv:Value} (w:World) (hpv:∃ ad l c,pv=.slice ad l c) (hsl:0≤f.slots∧f.slots≤200) (hl:fns.length≤60) (hn1:-9223372036854775808≤n) (hn2:n≤9223372036854775807) :
  Calls Tryz.prog 107 #[.agg #[.slice aF fns.length cF],.agg #[.string f.name,pv,.int .i64 f.result,.int .i64 f.slots,.slice aI f.ins.length cI],.agg #[.int .i64 14,.int .i64 a,.int .i64 n,.string tx]] w fun e w'=>e=.returned (.bool (insB fns f ⟨14,a,n,tx⟩))∧Below w.heap.size w w':=by
 obtain ⟨pa,pl,pc,rfl⟩:=hpv
 have hw1:IntKind.i64.wrap (f.slots - 1)=f.slots - 1:=by rw [IntKind.wrap_i64];omega
 have hw2:IntKind.i64.wrap ((fns.length:Int) - 1)=(fns.length:Int) - 1:=by rw [IntKind.wrap_i64];omega
 clear hsl hl
 have hb:inB 14 1 16=true:=rfl
 have hA:hasA 14=false:=rfl
 by_cases ha:a=0
 ·subst ha
  by_cases hn:n=0
  ·subst hn
   by_cases ht:tx.size=0
   ·obtain rfl:=V.size_zero ht
    go_enter Tryz.func107,Tryz.ntmps107
    go_wp2_with (first
   | (go_at_call 22;refine (l16In_any _ _ _ _).mono ?_;rintro e w' ⟨rfl,hw⟩;have hw2:=hw.symm;clear hw;subst hw2)
   | (go_at_call 127;refine (hasA_any _ _).mono ?_;rintro e w' ⟨rfl,hw⟩;have hw2:=hw.symm;clear hw;subst hw2)
   | (go_at_call 111;refine (l10Integer_c _ _).mono ?_;rintro e w' ⟨rfl,hw⟩;have hw2:=hw.symm;clear hw;subst hw2)
   | (go_at_call 83;refine (V.specVV a n tx hn1 hn2 _).mono ?_;rintro e w5 ⟨rfl,hb5⟩;have HB5:=hid hb5;clear hb5))
    go_ret
    exact ⟨ret_bool (by rfl),by first | exact al3 _ _ _ _ | exact al3n _ _ _ _ _ | exact ((al3 _ _ _ _).trans (HB5.out.mono (al3 _ _ _ _).size)) | exact (al3 _ _ _ _).drew⟩
   ·have hne:=V.notEmpty tx (by omega)
    have HV:Hid (insB fns f ⟨14,0,0,tx⟩=false):=hid (by simp [insB,ht])
    clear ht
    go_enter Tryz.func107,Tryz.ntmps107
    go_wp2_with (first
   | (go_at_call 22;refine (l16In_any _ _ _ _).mono ?_;rintro e w' ⟨rfl,hw⟩;have hw2:=hw.symm;clear hw;subst hw2)
   | (go_at_call 127;refine (hasA_any _ _).mono ?_;rintro e w' ⟨rfl,hw⟩;have hw2:=hw.symm;clear hw;subst hw2)
   | (go_at_call 111;refine (l10Integer_c _ _).mono ?_;rintro e w' ⟨rfl,hw⟩;have hw2:=hw.symm;clear hw;subst hw2)
   | (go_at_call 83;refine (V.specVV a n tx hn1 hn2 _).mono ?_;rintro e w5 ⟨rfl,hb5⟩;have HB5:=hid hb5;clear hb5))
    go_ret
    exact ⟨ret_bool (by rw [HV.out]),by first | exact al3 _ _ _ _ | exact al3n _ _ _ _ _ | exact ((al3 _ _ _ _).trans (HB5.out.mono (al3 _ _ _ _).size)) | exact (al3 _ _ _ _).drew⟩
  ·have hnf:(n != 0)=true:=by simpa using hn
   have HV:Hid (insB fns f ⟨14,0,n,tx⟩=false):=hid (by simp [insB,hn])
   clear hn
   go_enter Tryz.func107,Tryz.ntmps107
   go_wp2_with (first
   | (go_at_call 22;refine (l16In_any _ _ _ _).mono ?_;rintro e w' ⟨rfl,hw⟩;have hw2:=hw.symm;clear hw;subst hw2)
   | (go_at_call 127;refine (hasA_any _ _).mono ?_;rintro e w' ⟨rfl,hw⟩;have hw2:=hw.symm;clear hw;subst hw2)
   | (go_at_call 111;refine (l10Integer_c _ _).mono ?_;rintro e w' ⟨rfl,hw⟩;have hw2:=hw.symm;clear hw;subst hw2)
   | (go_at_call 83;refine (V.specVV a n tx hn1 hn2 _).mono ?_;rintro e w5 ⟨rfl,hb5⟩;have HB5:=hid hb5;clear hb5))
   go_ret
   exact ⟨ret_bool (by rw [HV.out]),by first | exact al3 _ _ _ _ | exact al3n _ _ _ _ _ | exact ((al3 _ _ _ _).trans (HB5.out.mono (al3 _ _ _ _).size)) | exact (al3 _ _ _ _).drew⟩
 ·have haf:(a != 0)=true:=by simpa using ha
  have HV:Hid (insB fns f ⟨14,a,n,tx⟩=false):=hid (by
   have:inB a 0 0=false:=by rw [Bool.eq_false_iff];intro h9;have:=inB_iff.1 h9;omega
   simp [insB,aB,this])
  clear ha
  go_enter Tryz.func107,Tryz.ntmps107
  go_wp2_with (first
   | (go_at_call 22;refine (l16In_any _ _ _ _).mono ?_;rintro e w' ⟨rfl,hw⟩;have hw2:=hw.symm;clear hw;subst hw2)
   | (go_at_call 127;refine (hasA_any _ _).mono ?_;rintro e w' ⟨rfl,hw⟩;have hw2:=hw.symm;clear hw;subst hw2)
   | (go_at_call 111;refine (l10Integer_c _ _).mono ?_;rintro e w' ⟨rfl,hw⟩;have hw2:=hw.symm;clear hw;subst hw2)
   | (go_at_call 83;refine (V.specVV a n tx hn1 hn2 _).mono ?_;rintro e w5 ⟨rfl,hb5⟩;have HB5:=hid hb5;clear hb5))
  go_ret
  exact ⟨ret_bool (by rw [HV.out]),by first | exact al3 _ _ _ _ | exact al3n _ _ _ _ _ | exact ((al3 _ _ _ _).trans (HB5.out.mono (al3 _ _ _ _).size)) | exact (al3 _ _ _ _).drew⟩
set_option maxHeartbeats 2000000 in
theorem insOk_15 {fns:List Fn} {f:Fn} {a n:Int} {tx:ByteArray} {aF aI:Option Addr} {cF cI:Nat} {pv:Value} (w:World) (hpv:∃ ad l c,pv=.slice ad l c) (hsl:0≤f.slots∧f.slots≤200) (hl:fns.length≤60) (hn1:-9223372036854775808≤n) (hn2:n≤9223372036854775807) :
  Calls Tryz.prog 107 #[.agg #[.slice aF fns.length cF],.agg #[.string f.name,pv,.int .i64 f.result,.int .i64 f.slots,.slice aI f.ins.length cI],.agg #[.int .i64 15,.int .i64 a,.int .i64 n,.string tx]] w fun e w'=>e=.returned (.bool (insB fns f ⟨15,a,n,tx⟩))∧Below w.heap.size w w':=by
 obtain ⟨pa,pl,pc,rfl⟩:=hpv
 have hw1:IntKind.i64.wrap (f.slots - 1)=f.slots - 1:=by rw [IntKind.wrap_i64];omega
 have hw2:IntKind.i64.wrap ((fns.length:Int) - 1)=(fns.length:Int) - 1:=by rw [IntKind.wrap_i64];omega
 clear hsl hl
 have hb:inB 15 1 16=true:=rfl
 have hA:hasA 15=false:=rfl
 by_cases ha:a=0
 ·subst ha
  by_cases hn:n=0
  ·subst hn
   by_cases ht:tx.size=0
   ·obtain rfl:=V.size_zero ht
    go_enter Tryz.func107,Tryz.ntmps107
    go_wp2_with (first
   | (go_at_call 22;refine (l16In_any _ _ _ _).mono ?_;rintro e w' ⟨rfl,hw⟩;have hw2:=hw.symm;clear hw;subst hw2)
   | (go_at_call 127;refine (hasA_any _ _).mono ?_;rintro e w' ⟨rfl,hw⟩;have hw2:=hw.symm;clear hw;subst hw2)
   | (go_at_call 111;refine (l10Integer_c _ _).mono ?_;rintro e w' ⟨rfl,hw⟩;have hw2:=hw.symm;clear hw;subst hw2)
   | (go_at_call 83;refine (V.specVV a n tx hn1 hn2 _).mono ?_;rintro e w5 ⟨rfl,hb5⟩;have HB5:=hid hb5;clear hb5))
    go_ret
    exact ⟨ret_bool (by rfl),by first | exact al3 _ _ _ _ | exact al3n _ _ _ _ _ | exact ((al3 _ _ _ _).trans (HB5.out.mono (al3 _ _ _ _).size)) | exact (al3 _ _ _ _).drew⟩
   ·have hne:=V.notEmpty tx (by omega)
    have HV:Hid (insB fns f ⟨15,0,0,tx⟩=false):=hid (by simp [insB,ht])
    clear ht
    go_enter Tryz.func107,Tryz.ntmps107
    go_wp2_with (first
   | (go_at_call 22;refine (l16In_any _ _ _ _).mono ?_;rintro e w' ⟨rfl,hw⟩;have hw2:=hw.symm;clear hw;subst hw2)
   | (go_at_call 127;refine (hasA_any _ _).mono ?_;rintro e w' ⟨rfl,hw⟩;have hw2:=hw.symm;clear hw;subst hw2)
   | (go_at_call 111;refine (l10Integer_c _ _).mono ?_;rintro e w' ⟨rfl,hw⟩;have hw2:=hw.symm;clear hw;subst hw2)
   | (go_at_call 83;refine (V.specVV a n tx hn1 hn2 _).mono ?_;rintro e w5 ⟨rfl,hb5⟩;have HB5:=hid hb5;clear hb5))
    go_ret
    exact ⟨ret_bool (by rw [HV.out]),by first | exact al3 _ _ _ _ | exact al3n _ _ _ _ _ | exact ((al3 _ _ _ _).trans (HB5.out.mono (al3 _ _ _ _).size)) | exact (al3 _ _ _ _).drew⟩
  ·have hnf:(n != 0)=true:=by simpa using hn
   have HV:Hid (insB fns f ⟨15,0,n,tx⟩=false):=hid (by simp [insB,hn])
   clear hn
   go_enter Tryz.func107,Tryz.ntmps107
   go_wp2_with (first
   | (go_at_call 22;refine (l16In_any _ _ _ _).mono ?_;rintro e w' ⟨rfl,hw⟩;have hw2:=hw.symm;clear hw;subst hw2)
   | (go_at_call 127;refine (hasA_any _ _).mono ?_;rintro e w' ⟨rfl,hw⟩;have hw2:=hw.symm;clear hw;subst hw2)
   | (go_at_call 111;refine (l10Integer_c _ _).mono ?_;rintro e w' ⟨rfl,hw⟩;have hw2:=hw.symm;clear hw;subst hw2)
   | (go_at_call 83;refine (V.specVV a n tx hn1 hn2 _).mono ?_;rintro e w5 ⟨rfl,hb5⟩;have HB5:=hid hb5;clear hb5))
   go_ret
   exact ⟨ret_bool (by rw [HV.out]),by first | exact al3 _ _ _ _ | exact al3n _ _ _ _ _ | exact ((al3 _ _ _ _).trans (HB5.out.mono (al3 _ _ _ _).size)) | exact (al3 _ _ _ _).drew⟩
 ·have haf:(a != 0)=true:=by simpa using ha
  have HV:Hid (insB fns f ⟨15,a,n,tx⟩=false):=hid (by
   have:inB a 0 0=false:=by rw [Bool.eq_false_iff];intro h9;have:=inB_iff.1 h9;omega
   simp [insB,aB,this])
  clear ha
  go_enter Tryz.func107,Tryz.ntmps107
  go_wp2_with (first
   | (go_at_call 22;refine (l16In_any _ _ _ _).mono ?_;rintro e w' ⟨rfl,hw⟩;have hw2:=hw.symm;clear hw;subst hw2)
   | (go_at_call 127;refine (hasA_any _ _).mono ?_;rintro e w' ⟨rfl,hw⟩;have hw2:=hw.symm;clear hw;subst hw2)
   | (go_at_call 111;refine (l10Integer_c _ _).mono ?_;rintro e w' ⟨rfl,hw⟩;have hw2:=hw.symm;clear hw;subst hw2)
   | (go_at_call 83;refine (V.specVV a n tx hn1 hn2 _).mono ?_;rintro e w5 ⟨rfl,hb5⟩;have HB5:=hid hb5;clear hb5))
  go_ret
  exact ⟨ret_bool (by rw [HV.out]),by first | exact al3 _ _ _ _ | exact al3n _ _ _ _ _ | exact ((al3 _ _ _ _).trans (HB5.out.mono (al3 _ _ _ _).size)) | exact (al3 _ _ _ _).drew⟩
set_option maxHeartbeats 2000000 in
theorem insOk_16 {fns:List Fn} {f:Fn} {a n:Int} {tx:ByteArray} {aF aI:Option Addr} {cF cI:Nat} {pv:Value} (w:World) (hpv:∃ ad l c,pv=.slice ad l c) (hsl:0≤f.slots∧f.slots≤200) (hl:fns.length≤60) (hn1:-9223372036854775808≤n) (hn2:n≤9223372036854775807) :
  Calls Tryz.prog 107 #[.agg #[.slice aF fns.length cF],.agg #[.string f.name,pv,.int .i64 f.result,.int .i64 f.slots,.slice aI f.ins.length cI],.agg #[.int .i64 16,.int .i64 a,.int .i64 n,.string tx]] w fun e w'=>e=.returned (.bool (insB fns f ⟨16,a,n,tx⟩))∧Below w.heap.size w w':=by
 obtain ⟨pa,pl,pc,rfl⟩:=hpv
 have hw1:IntKind.i64.wrap (f.slots - 1)=f.slots - 1:=by rw [IntKind.wrap_i64];omega
 have hw2:IntKind.i64.wrap ((fns.length:Int) - 1)=(fns.length:Int) - 1:=by rw [IntKind.wrap_i64];omega
 clear hsl hl
 have hb:inB 16 1 16=true:=rfl
 have hA:hasA 16=false:=rfl
 by_cases ha:a=0
 ·subst ha
  by_cases hn:n=0
  ·subst hn
   by_cases ht:tx.size=0
   ·obtain rfl:=V.size_zero ht
    go_enter Tryz.func107,Tryz.ntmps107
    go_wp2_with (first
   | (go_at_call 22;refine (l16In_any _ _ _ _).mono ?_;rintro e w' ⟨rfl,hw⟩;have hw2:=hw.symm;clear hw;subst hw2)
   | (go_at_call 127;refine (hasA_any _ _).mono ?_;rintro e w' ⟨rfl,hw⟩;have hw2:=hw.symm;clear hw;subst hw2)
   | (go_at_call 111;refine (l10Integer_c _ _).mono ?_;rintro e w' ⟨rfl,hw⟩;have hw2:=hw.symm;clear hw;subst hw2)
   | (go_at_call 83;refine (V.specVV a n tx hn1 hn2 _).mono ?_;rintro e w5 ⟨rfl,hb5⟩;have HB5:=hid hb5;clear hb5))
    go_ret
    exact ⟨ret_bool (by rfl),by first | exact al3 _ _ _ _ | exact al3n _ _ _ _ _ | exact ((al3 _ _ _ _).trans (HB5.out.mono (al3 _ _ _ _).size)) | exact (al3 _ _ _ _).drew⟩
   ·have hne:=V.notEmpty tx (by omega)
    have HV:Hid (insB fns f ⟨16,0,0,tx⟩=false):=hid (by simp [insB,ht])
    clear ht
    go_enter Tryz.func107,Tryz.ntmps107
    go_wp2_with (first
   | (go_at_call 22;refine (l16In_any _ _ _ _).mono ?_;rintro e w' ⟨rfl,hw⟩;have hw2:=hw.symm;clear hw;subst hw2)
   | (go_at_call 127;refine (hasA_any _ _).mono ?_;rintro e w' ⟨rfl,hw⟩;have hw2:=hw.symm;clear hw;subst hw2)
   | (go_at_call 111;refine (l10Integer_c _ _).mono ?_;rintro e w' ⟨rfl,hw⟩;have hw2:=hw.symm;clear hw;subst hw2)
   | (go_at_call 83;refine (V.specVV a n tx hn1 hn2 _).mono ?_;rintro e w5 ⟨rfl,hb5⟩;have HB5:=hid hb5;clear hb5))
    go_ret
    exact ⟨ret_bool (by rw [HV.out]),by first | exact al3 _ _ _ _ | exact al3n _ _ _ _ _ | exact ((al3 _ _ _ _).trans (HB5.out.mono (al3 _ _ _ _).size)) | exact (al3 _ _ _ _).drew⟩
  ·have hnf:(n != 0)=true:=by simpa using hn
   have HV:Hid (insB fns f ⟨16,0,n,tx⟩=false):=hid (by simp [insB,hn])
   clear hn
   go_enter Tryz.func107,Tryz.ntmps107
   go_wp2_with (first
   | (go_at_call 22;refine (l16In_any _ _ _ _).mono ?_;rintro e w' ⟨rfl,hw⟩;have hw2:=hw.symm;clear hw;subst hw2)
   | (go_at_call 127;refine (hasA_any _ _).mono ?_;rintro e w' ⟨rfl,hw⟩;have hw2:=hw.symm;clear hw;subst hw2)
   | (go_at_call 111;refine (l10Integer_c _ _).mono ?_;rintro e w' ⟨rfl,hw⟩;have hw2:=hw.symm;clear hw;subst hw2)
   | (go_at_call 83;refine (V.specVV a n tx hn1 hn2 _).mono ?_;rintro e w5 ⟨rfl,hb5⟩;have HB5:=hid hb5;clear hb5))
   go_ret
   exact ⟨ret_bool (by rw [HV.out]),by first | exact al3 _ _ _ _ | exact al3n _ _ _ _ _ | exact ((al3 _ _ _ _).trans (HB5.out.mono (al3 _ _ _ _).size)) | exact (al3 _ _ _ _).drew⟩
 ·have haf:(a != 0)=true:=by simpa using ha
  have HV:Hid (insB fns f ⟨16,a,n,tx⟩=false):=hid (by
   have:inB a 0 0=false:=by rw [Bool.eq_false_iff];intro h9;have:=inB_iff.1 h9;omega
   simp [insB,aB,this])
  clear ha
  go_enter Tryz.func107,Tryz.ntmps107
  go_wp2_with (first
   | (go_at_call 22;refine (l16In_any _ _ _ _).mono ?_;rintro e w' ⟨rfl,hw⟩;have hw2:=hw.symm;clear hw;subst hw2)
   | (go_at_call 127;refine (hasA_any _ _).mono ?_;rintro e w' ⟨rfl,hw⟩;have hw2:=hw.symm;clear hw;subst hw2)
   | (go_at_call 111;refine (l10Integer_c _ _).mono ?_;rintro e w' ⟨rfl,hw⟩;have hw2:=hw.symm;clear hw;subst hw2)
   | (go_at_call 83;refine (V.specVV a n tx hn1 hn2 _).mono ?_;rintro e w5 ⟨rfl,hb5⟩;have HB5:=hid hb5;clear hb5))
  go_ret
  exact ⟨ret_bool (by rw [HV.out]),by first | exact al3 _ _ _ _ | exact al3n _ _ _ _ _ | exact ((al3 _ _ _ _).trans (HB5.out.mono (al3 _ _ _ _).size)) | exact (al3 _ _ _ _).drew⟩
theorem insOk_any {fns:List Fn} {f:Fn} {i:In} {w:World} {cv pv iv:Value} (h1:FnsRow w cv fns) (h2:IntRow w pv f.params) (h3:InsRow w iv f.ins) (hsl:0≤f.slots∧f.slots≤200) (hl:fns.length≤60) (hn:-9223372036854775808≤i.n∧i.n≤9223372036854775807) :
  Calls Tryz.prog 107 #[.agg #[cv],.agg #[.string f.name,pv,.int .i64 f.result,.int .i64 f.slots,iv],inV i] w fun e w'=>e=.returned (.bool (insB fns f i))∧Below w.heap.size w w':=by
 obtain ⟨aF,cF,rfl⟩:=h1.sl
 obtain ⟨aP,cP,hp⟩:=h2.sl
 obtain ⟨aI,cI,rfl⟩:=h3.sl
 have hpv:∃ ad l c,pv=Value.slice ad l c:=⟨_,_,_,hp⟩
 obtain ⟨op,a,n,tx⟩:=i
 unfold inV
 dsimp only at hn ⊢
 by_cases h:1≤op∧op≤16
 ·obtain rfl | rfl | rfl | rfl | rfl | rfl | rfl | rfl | rfl | rfl | rfl | rfl | rfl | rfl | rfl | rfl:op=1∨op=2∨op=3∨op=4∨op=5∨op=6∨op=7∨op=8∨op=9∨op=10∨op=11∨op=12∨op=13∨op=14∨op=15∨op=16:=by omega
  ·exact insOk_1 w hpv hsl hl hn.1 hn.2
  ·exact insOk_2 w hpv hsl hl hn.1 hn.2
  ·exact insOk_3 w hpv hsl hl hn.1 hn.2
  ·exact insOk_4 w hpv hsl hl hn.1 hn.2
  ·exact insOk_5 w hpv hsl hl hn.1 hn.2
  ·exact insOk_6 w hpv hsl hl hn.1 hn.2
  ·exact insOk_7 w hpv hsl hl hn.1 hn.2
  ·exact insOk_8 w hpv hsl hl hn.1 hn.2
  ·exact insOk_9 w hpv hsl hl hn.1 hn.2
  ·exact insOk_10 w hpv hsl hl hn.1 hn.2
  ·exact insOk_11 w hpv hsl hl hn.1 hn.2
  ·exact insOk_12 w hpv hsl hl hn.1 hn.2
  ·exact insOk_13 w hpv hsl hl hn.1 hn.2
  ·exact insOk_14 w hpv hsl hl hn.1 hn.2
  ·exact insOk_15 w hpv hsl hl hn.1 hn.2
  ·exact insOk_16 w hpv hsl hl hn.1 hn.2
 ·exact insOk_out w hpv hsl hl hn.1 hn.2 h
end Go.Proofs.YtbkmglknbflkhaaGreatDoor.C
