import Derived.Deep.DeepCutAuto
import Derived.Test.YthnohneaanphbaaGreatDoorJ33
import Derived.Test.YthnohneaanphbaaGreatDoorJ36
import Derived.Test.YthnohneaanphbaaGreatDoorJ35
namespace Go.Proofs.YthnohneaanphbaaGreatDoor
open Go.RowKit
set_option maxRecDepth 20000
section
variable {s:Ds} {p n:Nat} {bad:Bool} {ov:Value} {w:World}
theorem tkKind (k m q:Int) (t:ByteArray) (w:World):(Instr.field 130 (.agg #[.int .i64 k,.string t,.int .i64 m,.int .i64 q]) 0).run Tryz.prog w=.ok (.int .i64 k) w:=by kernel_rfl
theorem tkPlace (k m q:Int) (t:ByteArray) (w:World):(Instr.field 130 (.agg #[.int .i64 k,.string t,.int .i64 m,.int .i64 q]) 3).run Tryz.prog w=.ok (.int .i64 q) w:=by kernel_rfl
theorem tbox {W:World} {g:Nat} {k m q:Int} {t:ByteArray} (e:W.heap[g]?=some (.cells #[.int .i64 k,.string t,.int .i64 m,.int .i64 q] 130 (0,0))):(W.cell? ⟨g,0,none⟩=some (.int .i64 k)∧W.cell? ⟨g,1,none⟩=some (.string t)∧W.cell? ⟨g,2,none⟩=some (.int .i64 m)∧W.cell? ⟨g,3,none⟩=some (.int .i64 q))∧W.frozen? ⟨g,0,none⟩=false∧W.frozen? ⟨g,1,none⟩=false∧W.frozen? ⟨g,2,none⟩=false∧W.frozen? ⟨g,3,none⟩=false :=
 ⟨⟨cell_hp e 0,cell_hp e 1,cell_hp e 2,cell_hp e 3⟩,frozen_hp e 0,frozen_hp e 1,frozen_hp e 2,frozen_hp e 3⟩
theorem four_below {w W0:World} {rb:Nat} (h:Below w.heap.size w W0) (hrb:w.heap.size=rb) (k:Nat) (a b c d:Value):Below w.heap.size w (((((W0.drewN k).setCell ⟨rb,0,none⟩ a).setCell ⟨rb,1,none⟩ b).setCell ⟨rb,2,none⟩ c).setCell ⟨rb,3,none⟩ d):=by
 have h1:Below w.heap.size w (W0.drewN k):=by
  induction k with
  | zero=>exact h
  | succ k ih=>exact ih.drew
 have hr:w.heap.size≤rb:=by omega
 exact (((h1.setCell (p:=⟨rb,0,none⟩) hr _).setCell (p:=⟨rb,1,none⟩) hr _).setCell (p:=⟨rb,2,none⟩) hr _).setCell (p:=⟨rb,3,none⟩) hr _
set_option maxHeartbeats 1000000 in
theorem tok_in (h:Dk s p bad n ov w) (hp:p < s.T) :
  Calls Tryz.prog 86 #[.pointer (some ⟨s.D,0,none⟩)] w fun e w'=>e=.returned (.agg #[.int .i64 (s.tk p).kind,.string (s.tk p).text,.int .i64 (s.tk p).n,.int .i64 (s.tk p).place])∧Below w.heap.size w w':=by
 have hTT:=h.TT
 have hpT:=h.pT
 have HB0:=hid ((Below.refl w.heap.size w).alloc (Nat.le_refl _) (.cells #[.int .i64 0,.string ⟨#[]⟩,.int .i64 0,.int .i64 0] 130))
 have HBX:=hid (heap_alloc_new w (.cells #[.int .i64 0,.string ⟨#[]⟩,.int .i64 0,.int .i64 0] 130))
 have HD:=hid (h.next HB0.out)
 clear h
 go_enter Tryz.func86,Tryz.ntmps86
 go_upto_region 1 with fail
 obtain ⟨rb,hrb⟩:∃ g,w.heap.size=g:=⟨_,rfl⟩
 obtain ⟨W0,hW0⟩:∃ W,w.alloc (.cells #[.int .i64 0,.string ⟨#[]⟩,.int .i64 0,.int .i64 0] 130)=W:=⟨_,rfl⟩
 rw [hW0] at HB0 HBX HD ⊢
 rw [hrb] at HBX ⊢
 have HRB:=hid hrb
 clear hrb hW0
 obtain ⟨⟨r0,r1,r2,r3⟩,z0,z1,z2,z3⟩:=tbox HBX.out
 obtain ⟨c0,c1,c2,c3,c5⟩:=HD.out.cells
 have hta:s.ta=some ⟨s.b,0,none⟩:=HD.out.tad.resolve_left (by omega)
 obtain ⟨t0,t1,t2,t3⟩:=HD.out.tks p hp
 rw [hta] at c0
 clear hta
 go_quiet (fail)
 go_wp2
 go_region
 go_wp2
 exact bodyPost_ret (v:=.agg #[.int .i64 (s.tk p).kind,.string (s.tk p).text,.int .i64 (s.tk p).n,.int .i64 (s.tk p).place]) (by simp [results,Tryz.results86,go_sem,r0,r1,r2,r3]) rfl ⟨rfl,four_below HB0.out HRB.out _ _ _ _ _⟩
set_option maxHeartbeats 1000000 in
theorem tok_out (h:Dk s p bad n ov w) (hp:¬ p < s.T) :
  Calls Tryz.prog 86 #[.pointer (some ⟨s.D,0,none⟩)] w fun e w'=>e=.returned (.agg #[.int .i64 0,.string ⟨#[]⟩,.int .i64 0,.int .i64 s.sz])∧Below w.heap.size w w':=by
 have hTT:=h.TT
 have hpT:=h.pT
 have HB0:=hid ((Below.refl w.heap.size w).alloc (Nat.le_refl _) (.cells #[.int .i64 0,.string ⟨#[]⟩,.int .i64 0,.int .i64 0] 130))
 have HBX:=hid (heap_alloc_new w (.cells #[.int .i64 0,.string ⟨#[]⟩,.int .i64 0,.int .i64 0] 130))
 have HD:=hid (h.next HB0.out)
 clear h
 go_enter Tryz.func86,Tryz.ntmps86
 go_upto_region 1 with fail
 obtain ⟨rb,hrb⟩:∃ g,w.heap.size=g:=⟨_,rfl⟩
 obtain ⟨W0,hW0⟩:∃ W,w.alloc (.cells #[.int .i64 0,.string ⟨#[]⟩,.int .i64 0,.int .i64 0] 130)=W:=⟨_,rfl⟩
 rw [hW0] at HB0 HBX HD ⊢
 rw [hrb] at HBX ⊢
 have HRB:=hid hrb
 clear hrb hW0
 obtain ⟨⟨r0,r1,r2,r3⟩,z0,z1,z2,z3⟩:=tbox HBX.out
 obtain ⟨c0,c1,c2,c3,c5⟩:=HD.out.cells
 go_quiet (fail)
 go_wp2
 exact bodyPost_ret (v:=.agg #[.int .i64 0,.string ⟨#[]⟩,.int .i64 0,.int .i64 s.sz]) (by simp [results,Tryz.results86,go_sem,r0,r1,r2,r3]) rfl ⟨rfl,four_below HB0.out HRB.out _ _ _ _ _⟩
theorem tok_dk (h:Dk s p bad n ov w) :
  Calls Tryz.prog 86 #[.pointer (some ⟨s.D,0,none⟩)] w fun e w'=>∃ (k m q:Int) (t:ByteArray),e=.returned (.agg #[.int .i64 k,.string t,.int .i64 m,.int .i64 q])∧t.size≤1000∧(k≠0→p < s.T)∧Below w.heap.size w w':=by
 by_cases hp:p < s.T
 ·exact (tok_in h hp).mono fun e w' ⟨h1,h2⟩=>⟨_,_,_,_,h1,h.txt p hp,fun _=>hp,h2⟩
 ·exact (tok_out h hp).mono fun e w' ⟨h1,h2⟩=>⟨_,_,_,_,h1,by decide,fun h=>absurd rfl h,h2⟩
set_option maxHeartbeats 1000000 in
theorem stop_dk (h:Dk s p bad n ov w) :
  Calls Tryz.prog 87 #[.pointer (some ⟨s.D,0,none⟩)] w fun e w'=>e=.returned (.tuple #[])∧Dk s p true n ov w'∧Dt s ov w ov w':=by
 obtain ⟨c0,c1,c2,c3,c5⟩:=h.cells
 cases bad
 ·have f3:=h.fz 3
  have HD1:=hid (h.setbad true)
  have HT1:=hid (Dt.set s ov w 3 (.bool true))
  clear h
  go_enter Tryz.func87,Tryz.ntmps87
  go_wp2_with fail
  refine (tok_dk HD1.out).mono ?_
  rintro e w2 ⟨k,m,q,t,rfl,_,_,hb⟩
  have F3:=fun W=>tkPlace k m q t W
  have HD2:=hid (HD1.out.next hb)
  have HT2:=hid (HT1.out.next hb)
  have f4:=HD2.out.fz 4
  obtain ⟨q0,c4⟩:=HD2.out.cell4
  clear hb HD1 HT1
  go_wp2
  go_end0
  exact ⟨rfl,HD2.out.setat q,HT2.out.trans (Dt.set s ov w2 4 (.int .i64 q))⟩
 ·have HD:=hid h
  clear h
  go_enter Tryz.func87,Tryz.ntmps87
  go_wp2
  go_end0
  exact ⟨rfl,HD.out,Dt.refl _ _ _⟩
def IsEnd (s:Ds) (p:Nat) (bad:Bool) (w:World) (e:Ending) (w':World):Prop:=∃ b,e=.returned (.bool b)∧(b=true→bad=false∧p < s.T)∧Below w.heap.size w w'
theorem IsEnd.t {w':World} (hb:bad=false) (hp:p < s.T) (h:Below w.heap.size w w'):IsEnd s p bad w (.returned (.bool true)) w':=⟨true,rfl,fun _=>⟨hb,hp⟩,h⟩
theorem IsEnd.f {w':World} (h:Below w.heap.size w w'):IsEnd s p bad w (.returned (.bool false)) w':=⟨false,rfl,fun h=>(nomatch h),h⟩
set_option maxHeartbeats 2000000 in
theorem is_dk (h:Dk s p bad n ov w) (x:ByteArray) :
  Calls Tryz.prog 104 #[.pointer (some ⟨s.D,0,none⟩),.string x] w (IsEnd s p bad w):=by
 have HD:=hid h
 clear h
 go_enter Tryz.func104,Tryz.ntmps104
 go_wp2_with fail
 refine (tok_dk HD.out).mono ?_
 rintro e w2 ⟨k,m,q,t,rfl,_,hk,hb⟩
 have HK:=hid hk
 have HB:=hid hb
 have C3:∀ o,(w2.alloc o).cell? ⟨s.D,3,none⟩=some (.bool bad):=fun o=>((HD.out.next hb).next ((Below.refl _ _).alloc (Nat.le_refl _) o)).cells.2.2.2.1
 have HB9:Hid (∀ o,Below w.heap.size w (w2.alloc o)):=fun o=>hb.alloc hb.size o
 clear hb hk HB
 cases bad
 ·by_cases h2:k=2
  ·subst h2
   have hp:=HK.out (by decide)
   go_wp2
   go_ret
   exact ⟨_,rfl,fun _=>⟨rfl,hp⟩,HB9.out _⟩
  ·by_cases h5:k=5
   ·subst h5
    have hp:=HK.out (by decide)
    go_wp2
    go_ret
    exact ⟨_,rfl,fun _=>⟨rfl,hp⟩,HB9.out _⟩
   ·have e2:(k == 2)=false:=by simpa using h2
    have e5:(k == 5)=false:=by simpa using h5
    go_wp2
    go_ret
    exact .f (HB9.out _)
 ·go_wp2
  go_ret
  exact .f (HB9.out _)
theorem Dk.inc (h:Dk s p bad n ov w) (hp:p < s.T):Dk s (p+1) bad n ov (w.setCell ⟨s.D,2,none⟩ (.int .i64 ((p:Int)+1))):=by
 have:=h.setp (p+1) hp
 simpa using this
def TkEnd (s:Ds) (p:Nat) (bad:Bool) (n:Nat) (ov:Value) (w:World) (e:Ending) (w':World):Prop :=
 (e=.returned (.bool true)∧bad=false∧p < s.T∧Dk s (p+1) bad n ov w'∧Dt s ov w ov w')∨(e=.returned (.bool false)∧Dk s p bad n ov w'∧Dt s ov w ov w')
set_option maxHeartbeats 1000000 in
theorem take_dk (h:Dk s p bad n ov w) (x:ByteArray) :
  Calls Tryz.prog 81 #[.pointer (some ⟨s.D,0,none⟩),.string x] w (TkEnd s p bad n ov w):=by
 have HD:=hid h
 clear h
 go_enter Tryz.func81,Tryz.ntmps81
 go_wp2_with fail
 refine (is_dk HD.out x).mono ?_
 rintro e w2 ⟨b,rfl,hb,hw⟩
 have HD2:=hid (HD.out.next hw)
 have HT2:=hid ((Dt.refl s ov w).next hw)
 have HB:=hid hb
 have hTT:=HD2.out.TT
 have hpT:=HD2.out.pT
 obtain ⟨c0,c1,c2,c3,c5⟩:=HD2.out.cells
 have f2:=HD2.out.fz 2
 clear hb hw HD
 cases b
 ·go_wp2
  go_ret
  exact .inr ⟨rfl,HD2.out,HT2.out⟩
 ·obtain ⟨hb,hp⟩:=HB.out rfl
  have HE:Hid (TkEnd s p bad n ov w (.returned (.bool true)) (w2.setCell ⟨s.D,2,none⟩ (.int .i64 ((p:Int)+1)))):=.inl ⟨rfl,hb,hp,HD2.out.inc hp,HT2.out.trans (Dt.set s ov w2 2 _)⟩
  clear hb
  go_wp2
  go_ret
  exact HE.out
def NeEnd (s:Ds) (p:Nat) (bad:Bool) (n:Nat) (ov:Value) (w:World) (e:Ending) (w':World):Prop :=
 e=.returned (.tuple #[])∧∃ p' bad',p≤p'∧p'≤p+1∧(bad=true→bad'=true)∧(p'=p+1∨bad'=true)∧Dk s p' bad' n ov w'∧Dt s ov w ov w'
set_option maxHeartbeats 1000000 in
theorem need_dk (h:Dk s p bad n ov w) (x:ByteArray) :
  Calls Tryz.prog 84 #[.pointer (some ⟨s.D,0,none⟩),.string x] w (NeEnd s p bad n ov w):=by
 have HD:=hid h
 clear h
 go_enter Tryz.func84,Tryz.ntmps84
 go_wp2_with fail
 refine (take_dk HD.out x).mono ?_
 rintro e w2 (⟨rfl,hb,hp,h1,h2⟩ | ⟨rfl,h1,h2⟩)
 ·have HE:Hid (NeEnd s p bad n ov w (.returned (.tuple #[])) w2):=⟨rfl,p+1,bad,by omega,by omega,id,.inl rfl,h1,h2⟩
  clear hb h1 h2 HD
  go_wp2
  go_end0
  exact HE.out
 ·have H1:=hid h1
  have H2:=hid h2
  clear h1 h2 HD
  go_wp2_with fail
  refine (stop_dk H1.out).mono ?_
  rintro e w3 ⟨rfl,h3,h4⟩
  have HE:Hid (NeEnd s p bad n ov w (.returned (.tuple #[])) w3):=⟨rfl,p,true,by omega,by omega,fun _=>rfl,.inr rfl,h3,H2.out.trans h4⟩
  clear h3 h4
  go_wp2
  go_end0
  exact HE.out
def NmEnd (s:Ds) (p:Nat) (n:Nat) (ov:Value) (w:World) (e:Ending) (w':World):Prop :=
 ∃ (t:ByteArray) (p':Nat) (bad':Bool),e=.returned (.string t)∧t.size≤1000∧p≤p'∧p'≤p+1∧(p < p'∨bad'=true)∧Dk s p' bad' n ov w'∧Dt s ov w ov w'
set_option maxHeartbeats 2000000 in
theorem name_dk (h:Dk s p bad n ov w) :
  Calls Tryz.prog 82 #[.pointer (some ⟨s.D,0,none⟩)] w (NmEnd s p n ov w):=by
 have HD:=hid h
 obtain ⟨c0,c1,c2,c3,c5⟩:=h.cells
 clear h
 cases bad
 ·go_enter Tryz.func82,Tryz.ntmps82
  go_wp2_with fail
  refine (tok_dk HD.out).mono ?_
  rintro e w2 ⟨k,m,q,t,rfl,_,hk,hw⟩
  have F0:=fun W=>tkKind k m q t W
  have HD2:=hid (HD.out.next hw)
  have HT2:=hid ((Dt.refl s ov w).next hw)
  have HK:=hid hk
  clear hk hw HD c0 c1 c2 c3 c5
  by_cases h1:k=1
  ·subst h1
   have hp:=HK.out (by decide)
   have hTT:=HD2.out.TT
   obtain ⟨c0,c1,c2,c3,c5⟩:=HD2.out.cells
   have f2:=HD2.out.fz 2
   have HD3:=hid (HD2.out.inc hp)
   obtain ⟨d0,d1,d2,d3,d5⟩:=HD3.out.cells
   have hta:s.ta=some ⟨s.b,0,none⟩:=HD2.out.tad.resolve_left (by omega)
   obtain ⟨t0,t1,t2,t3⟩:=HD3.out.tks p hp
   rw [hta] at c0 d0
   have HT3:=hid (HT2.out.trans (Dt.set s ov w2 2 (.int .i64 ((p:Int)+1))))
   have HX:=hid (HD2.out.txt p hp)
   clear hta HK
   go_wp2
   obtain ⟨W3,hW3⟩:∃ W,w2.setCell ⟨s.D,2,none⟩ (.int .i64 ((p:Int)+1))=W:=⟨_,rfl⟩
   rw [hW3] at HD3 HT3 d0 d1 d2 d3 d5 t0 t1 t2 t3 ⊢
   clear hW3 c0 c1 c2 c3 c5 HD2 HT2 f2
   have HE:Hid (∀ k,NmEnd s p n ov w (.returned (.string (s.tk p).text)) (W3.drewN k)):=fun k=>⟨_,p+1,false,rfl,HX.out,by omega,by omega,.inl (by omega),HD3.out.next (below_drewN (Below.refl _ _) k),HT3.out.next (below_drewN (Below.refl _ _) k)⟩
   go_quiet (fail)
   go_wp2
   go_ret
   exact HE.out _
  ·have e1:(k != 1)=true:=by simpa using h1
   go_wp2_with fail
   refine (stop_dk HD2.out).mono ?_
   rintro e w3 ⟨rfl,h3,h4⟩
   have HE:Hid (NmEnd s p n ov w (.returned (.string ⟨#[]⟩)) w3):=⟨_,p,true,rfl,by decide,by omega,by omega,.inr rfl,h3,HT2.out.trans h4⟩
   clear h3 h4
   go_wp2
   go_ret
   exact HE.out
 ·go_enter Tryz.func82,Tryz.ntmps82
  go_wp2_with fail
  refine (stop_dk HD.out).mono ?_
  rintro e w3 ⟨rfl,h3,h4⟩
  have HE:Hid (NmEnd s p n ov w (.returned (.string ⟨#[]⟩)) w3):=⟨_,p,true,rfl,by decide,by omega,by omega,.inr rfl,h3,h4⟩
  clear h3 h4
  go_wp2
  go_ret
  exact HE.out
theorem info_nd9:(Tryz.prog.info? 35).map (fun i=>(i.zero,i.size,i.bytes))=some (some (.agg #[.int .i64 0,.int .i64 0,.int .i64 0,.string ⟨#[]⟩,.int .i64 0]),5,48):=by kernel_rfl
theorem cell_five_new (w:World) (a b c d f:Value) (t:TypeId):∀ j u,[a,b,c,d,f][j]?=some u→(w.alloc (.cells #[a,b,c,d,f] t)).cell? ((⟨w.heap.size,0,none⟩:Addr).add j)=some u:=by
 intro j u hj
 rw [add_none,cell_new_row]
 simpa using hj
def PuEnd (s:Ds) (p:Nat) (bad:Bool) (n:Nat) (ov:Value) (w:World) (e:Ending) (w':World):Prop:=e=.returned (.tuple #[])∧∃ ov',Dk s p bad (n+1) ov' w'∧Dt s ov w ov' w'
set_option maxHeartbeats 2000000 in
theorem put_dk (h:Dk s p bad n ov w) (x:Nd) (hx:x.text.size≤1000) (hn:n≤1000000) :
  Calls Tryz.prog 55 #[.pointer (some ⟨s.D,0,none⟩),.agg #[.int .i64 x.kind,.int .i64 x.op,.int .i64 x.n,.string x.text,.int .i64 x.kids]] w (PuEnd s p bad n ov w):=by
 obtain ⟨i0,hi0,hz0,hz1,hz2⟩:=info_parts info_nd9
 have HHI:=hid (And.intro hi0 (And.intro hz0 (And.intro hz1 hz2)))
 clear hi0 hz0 hz1 hz2
 have HB0:=hid ((Below.refl w.heap.size w).alloc (Nat.le_refl _) (.cells #[.int .i64 x.kind,.int .i64 x.op,.int .i64 x.n,.string x.text,.int .i64 x.kids] 35))
 have HBX:=hid (heap_alloc_new w (.cells #[.int .i64 x.kind,.int .i64 x.op,.int .i64 x.n,.string x.text,.int .i64 x.kids] 35))
 have HD:=hid (h.next HB0.out)
 clear h
 go_enter Tryz.func55,Tryz.ntmps55
 go_upto_region 1 with fail
 obtain ⟨rb,hrb⟩:∃ g,w.heap.size=g:=⟨_,rfl⟩
 obtain ⟨W0,hW0⟩:∃ W,w.alloc (.cells #[.int .i64 x.kind,.int .i64 x.op,.int .i64 x.n,.string x.text,.int .i64 x.kids] 35)=W:=⟨_,rfl⟩
 rw [hW0] at HB0 HBX HD ⊢
 rw [hrb] at HBX ⊢
 have HT0:=hid ((Dt.refl s ov w).next HB0.out)
 clear hrb hW0 HB0
 obtain ⟨_,_,_,_,c5⟩:=HD.out.cells
 have HAL:=hid ((Below.refl W0.heap.size W0).alloc (Nat.le_refl _) (.cells #[.int .i64 x.kind,.int .i64 x.op,.int .i64 x.n,.string x.text,.int .i64 x.kids] 35))
 have HDA:=hid (HD.out.next HAL.out)
 have HDV:=hid (HDA.out.next (Below.refl _ _).drew)
 have HTV:=hid ((HT0.out.next HAL.out).next (Below.refl _ _).drew)
 have hBz:=HDV.out.Bz
 obtain ⟨O,hO,how,hOx⟩:=HDV.out.out
 have HOV:=hid how
 have HOL:=hid hO
 have HOX:=hid hOx
 clear how hO hOx
 obtain ⟨va,vc,rfl⟩:=own_sl HOV.out
 have b0:=cell_hp HBX.out 0
 have b1:=cell_hp HBX.out 1
 have b2:=cell_hp HBX.out 2
 have b3:=cell_hp HBX.out 3
 have b4:=cell_hp HBX.out 4
 simp at b0 b1 b2 b3 b4
 have C5:∀ o,(W0.alloc o).cell? ⟨s.D,5,none⟩=some (.slice va n vc):=fun o=>(HD.out.next ((Below.refl _ _).alloc (Nat.le_refl _) o)).cells.2.2.2.2
 have HKS:Hid (∀ V:World,(W0.alloc (.cells #[.int .i64 x.kind,.int .i64 x.op,.int .i64 x.n,.string x.text,.int .i64 x.kids] 35)).drew.grownBy V (Value.ownBlock (.slice va n vc))→V.cell? ⟨s.D,5,none⟩=some (.slice va n vc)∧V.frozen? ⟨s.D,5,none⟩=false):=fun V hg=>by
  have hk:=hg.block s.D HDV.out.lt (fun e=>HDV.out.ne e.symm)
  obtain ⟨q,hq⟩:=HDV.out.box
  exact ⟨cell_hp (hk.trans hq) 5,frozen_hp (hk.trans hq) 5⟩
 have HFIN:Hid (∀ (v':Value) (V:World),(W0.alloc (.cells #[.int .i64 x.kind,.int .i64 x.op,.int .i64 x.n,.string x.text,.int .i64 x.kids] 35)).drew.grownBy V (Value.ownBlock (.slice va n vc))→V.ownsRow s.B 35 5 v' (n+1) (ndRow O ++ [.int .i64 x.kind,.int .i64 x.op,.int .i64 x.n,.string x.text,.int .i64 x.kids])→(v'.ownBlock=Value.ownBlock (.slice va n vc)∨v'.ownBlock=some (W0.alloc (.cells #[.int .i64 x.kind,.int .i64 x.op,.int .i64 x.n,.string x.text,.int .i64 x.kids] 35)).drew.heap.size)→PuEnd s p bad n (.slice va n vc) w (.returned (.tuple #[])) (V.setCell ⟨s.D,5,none⟩ v')):=fun v' V hg ho hr=>by
  refine ⟨rfl,v',HDV.out.setout (O:=O ++ [x]) hg (by rw [ndRow_append];exact ho) (by rw [List.length_append,HOL.out];rfl) ?_,HTV.out.trans (Dt.setout hg fun k hk=>?_)⟩
  ·intro y hy
   rcases List.mem_append.1 hy with hy | hy
   ·exact HOX.out y hy
   ·rw [List.mem_singleton.1 hy]
    exact hx
  ·rcases hr with hr | hr
   ·exact .inl (by rw [← hr];exact hk)
   ·rw [hr] at hk
    injection hk with hk
    exact .inr (by omega)
 go_wp2_with fail
 go_region_law (refine step_append_own_at rfl (.tmp 8) (.tmp 10) 23 rfl s.B 35 i0 (.agg #[.int .i64 0,.int .i64 0,.int .i64 0,.string ⟨#[]⟩,.int .i64 0]) 5 48 Tryz.underlying23 HHI.out.1 HHI.out.2.1 HHI.out.2.2.1 HHI.out.2.2.2 rfl (by decide) (.slice va n vc) n (ndRow O) (by simp [Act.eval]) HOV.out ⟨W0.heap.size,0,none⟩ 1 1 [.int .i64 x.kind,.int .i64 x.op,.int .i64 x.n,.string x.text,.int .i64 x.kids] (by simp [Act.eval]) rfl (fun j u hj=>cell_five_new W0 _ _ _ _ _ _ j u hj) (by simp [Value.oneCell']) (by unfold maxLen;omega) (by omega) hBz ?_;intro vn wn on gn nn bn;obtain ⟨m1,m2⟩:=HKS.out _ gn;have HEN:=hid (HFIN.out _ _ gn on bn);have hvn:=own_sl on;obtain ⟨an3,cn3,rfl⟩:=hvn;clear on gn nn bn)
 all_goals
  go_wp2_with fail
  go_end0
  exact HEN.out
end
theorem KG.below {W W':World} {gk N B:Nat} {o:List (List Nat)} (h:KG W gk N o) (hb:Below B W W') (hB:W.heap.size≤B):KG W' gk N o:=by
 intro i hi
 obtain ⟨ad,c,h1,h2,h3,h4⟩:=h i hi
 have l1:=World.block_lt_of_cell? W _ h1
 refine ⟨ad,c,(hb.cell (p:=⟨gk,i,none⟩) (Nat.lt_of_lt_of_le l1 hB)).trans h1,h2,h3,h4.imp_right ?_⟩
 rintro ⟨g,e,hc⟩
 refine ⟨g,e,fun j hj=>?_⟩
 have l2:=World.block_lt_of_cell? W _ (hc j hj)
 exact (hb.cell (p:=⟨g,j,none⟩) (Nat.lt_of_lt_of_le l2 hB)).trans (hc j hj)
theorem own_not_nil {W:World} {B n:Nat} {v:Value} {xs:List Value} (h:W.ownsRow B 3 1 v n xs) (hv:¬ v=.slice none 0 0):∃ g c,v=.slice (some ⟨g,0,none⟩) n c∧B≤g:=by
 obtain ⟨g,c,e,hb,_⟩:=RowAt.of_own h hv
 exact ⟨g,c,e,hb⟩
set_option maxHeartbeats 2000000 in
theorem l3Makes_any (b N cap gk ck:Nat) (nd:Nat→Nd) (o:List (List Nat)) (w:World) (hN1:1≤N) (hN:N≤5000) (hb:b < w.heap.size) (hn:NodesAt w b N nd) (hg:KG w gk N o) (hck:N≤ck) (h24:(nd (N - 1)).kind=24) (hfit:∀ i,i < N→FitAt nd o i) (hkl:∀ k,(o.getD k []).length≤5000) (hpl:∀ k,∀ j ∈ o.getD k [],j < N) :
  Calls Tryz.prog 50 #[.agg #[.slice (some ⟨b,0,none⟩) N cap],.slice (some ⟨gk,0,none⟩) N ck] w fun e w'=>∃ g c,e=.returned (.slice (some ⟨g,0,none⟩) ((o.getD (N - 1) []).flatMap (makersOf nd o)).length c)∧w.heap.size≤g∧RowAt w' 3 g c ((o.getD (N - 1) []).flatMap (makersOf nd o)).length (intRow ((o.getD (N - 1) []).flatMap (makersOf nd o)))∧Below w.heap.size w w':=by
 have HN:=hid hn
 have HG:=hid hg
 have HFT:=hid hfit
 have HKL:=hid hkl
 have HPL:=hid hpl
 have H24:=hid h24
 obtain ⟨i0,hi,hz0,hz1,hz2⟩:=info_parts info_int
 have HHI:=hid (And.intro hi (And.intro hz0 (And.intro hz1 hz2)))
 clear hi hz0 hz1 hz2 hn hg hfit hkl hpl h24
 obtain ⟨fl,hfl⟩:∃ fl,o.getD (N - 1) []=fl:=⟨_,rfl⟩
 obtain ⟨n1,rfl⟩:∃ n1,N=n1+1:=⟨N - 1,by omega⟩
 rw [Nat.add_sub_cancel] at hfl H24 ⊢
 obtain ⟨ad,cf,q1,q2,q3,q4⟩:=HG.out n1 (by omega)
 rw [hfl] at q1 q2 q4 ⊢
 obtain ⟨m,hm⟩:∃ m,fl.length=m:=⟨_,rfl⟩
 have hm2:m≤200:=by have:=(kids_file (HFT.out n1 (by omega)) H24.out).1;rw [hfl,hm] at this;exact this
 have HFP:Hid (∀ j ∈ fl,j < n1+1):=fun j hj=>HPL.out n1 j (by rw [hfl];exact hj)
 have HM:=hid hm
 rw [hm] at q1 q2
 have HQ4:=hid q4
 have HFL:=hid hfl
 clear hm q4 hfl
 have e1:∀ O,(w.alloc O).cell? ⟨gk,n1,none⟩=some (.slice ad m cf):=fun O=>(cell_alloc_lt w O _ _ (World.block_lt_of_cell? w _ q1)).trans q1
 have e2:∀ O O',((w.alloc O).alloc O').cell? ⟨gk,n1,none⟩=some (.slice ad m cf):=fun O O'=>(cell_alloc_lt _ O' _ _ (by have:=World.block_lt_of_cell? w _ q1;simp at this ⊢;omega)).trans (e1 O)
 go_enter Tryz.func50,Tryz.ntmps50
 go_wp2
 have HB0:Hid (Below (w.heap.size+1) (w.alloc (.cells #[.slice (some ⟨b,0,none⟩) (n1+1) cap] 25)) ((w.alloc (.cells #[.slice (some ⟨b,0,none⟩) (n1+1) cap] 25)).alloc (.cells #[] 3))):=(Below.refl _ _).alloc (by simp) _
 have O0:Hid (World.ownsRow ((w.alloc (.cells #[.slice (some ⟨b,0,none⟩) (n1+1) cap] 25)).alloc (.cells #[] 3)) (w.heap.size+1) 3 1 (.slice (some ⟨w.heap.size+1,0,none⟩) 0 0) 0 []):=by
  have:=World.ownsRow_made (base:=w.heap.size+1) (e:=3) (size:=1) (w.alloc (.cells #[.slice (some ⟨b,0,none⟩) (n1+1) cap] 25)) #[] 0 (by simp) (by unfold maxLen;omega) rfl
  rw [World.size_alloc] at this
  exact this
 clear e1 e2
 go_loopw [5,7] (fun vo i wr=>∃ (j:Nat) (g c:Nat),j≤m∧i=.int .i64 j∧vo=.slice (some ⟨g,0,none⟩) ((fl.take j).flatMap (makersOf nd o)).length c∧World.ownsRow wr (w.heap.size+1) 3 1 vo ((fl.take j).flatMap (makersOf nd o)).length (intRow ((fl.take j).flatMap (makersOf nd o)))∧Below (w.heap.size+1) (w.alloc (.cells #[.slice (some ⟨b,0,none⟩) (n1+1) cap] 25)) wr) (fun _ i _=>m - (intOf i).toNat)
 case atStart=>exact ⟨0,w.heap.size+1,0,Nat.zero_le _,rfl,rfl,O0.out,HB0.out⟩
 case round =>
  obtain ⟨j,g,c,hj,rfl,rfl,hown,hbw⟩:=hrel
  have HO:=hid hown
  have HBW:=hid hbw
  have t0:=tree_cell hbw
  have HB:=hid (btree hbw)
  clear hown hbw HB0 O0
  by_cases hlt:j < m
  ·have hpl:=HQ4.out
   rcases hpl with e | ⟨gf,rfl,hc⟩
   ·have:=HM.out;rw [e] at this;simp at this;omega
   obtain ⟨y,hy⟩:∃ y,fl[j]?=some y:=⟨_,List.getElem?_eq_getElem (by have:=HM.out;omega)⟩
   have c0:=hc j (by have:=HM.out;omega)
   have lgf:=World.block_lt_of_cell? w _ c0
   rw [List.getD_eq_getElem?_getD,hy] at c0
   simp only [Option.getD_some] at c0
   have c0:=(HB.out.cell (p:=⟨gf,j,none⟩) lgf).trans c0
   have hyN:=HFP.out y (List.mem_of_getElem? hy)
   have HTK:Hid ((fl.take (j+1)).flatMap (makersOf nd o)=(fl.take j).flatMap (makersOf nd o) ++ makersOf nd o y):=by
    show _=_
    rw [List.take_succ_eq_append_getElem (by have:=HM.out;omega),(List.getElem?_eq_some_iff.1 hy).2,List.flatMap_append]
    simp
   have hml:((fl.take j).flatMap (makersOf nd o)).length≤1000000:=by
    have e:∀ l:List Nat,(l.flatMap (makersOf nd o)).length≤l.length * 5000:=fun l=>by
     induction l with
     | nil=>simp
     | cons a l ih =>
      rw [List.flatMap_cons,List.length_append,List.length_cons]
      have:(makersOf nd o a).length≤5000:=by
       unfold makersOf
       split
       ·simp
       ·split
        ·exact HKL.out a
        ·simp
      omega
    have:=e (fl.take j)
    rw [List.length_take] at this
    omega
   generalize (fl.take j).flatMap (makersOf nd o)=ms at *
   obtain ⟨nm,hnm⟩:∃ nm,ms.length=nm:=⟨_,rfl⟩
   have HNM:=hid hnm
   rw [hnm] at hml HO ⊢
   obtain ⟨a0,a1,a2,a3,a4⟩:=(HN.out.below HB.out hb) y hyN
   clear hc hy hnm
   by_cases h20:(nd y).kind=20∨(nd y).kind=21
   ·have HM2:Hid (makersOf nd o y=[y]):=by show _=_;unfold makersOf;rw [if_pos h20]
    rcases h20 with h20 | h20
    all_goals
     rw [h20] at a0
     clear h20
     go_wp2
     go_region
     have HBD:=hid HBW.out.drew
     have HOD:Hid (World.ownsRow wr.drew (w.heap.size+1) 3 1 (.slice (some ⟨g,0,none⟩) nm c) nm (intRow ms)):=HO.out
     have c0:wr.drew.cell? ⟨gf,j,none⟩=some (.int .i64 (y:Nat)):=c0
     clear HBW HO HB a0 a1 a2 a3 a4 t0
     generalize wr.drew=w2 at *
     have hsz2:=HBD.out.size
     have t0:=tree_cell HBD.out
     have HB:=hid (btree HBD.out)
     go_wp2_with (at_builtin;refine wpList_append_own_at _ rfl (.tmp 33) (.tmp 38) 31 rfl (w.heap.size+1) 3 i0 (.int .i64 0) 1 8 Tryz.underlying31 HHI.out.1 HHI.out.2.1 HHI.out.2.2.1 HHI.out.2.2.2 rfl (by decide) (.slice (some ⟨g,0,none⟩) nm c) _ _ rfl (own_two HOD.out _) ⟨w2.heap.size,0,none⟩ 1 1 [.int .i64 y] rfl rfl (cell_one_new w2 _ _) (by simp [Value.oneCell']) (by unfold maxLen;omega) (by omega) (by simp at hsz2 ⊢;omega) ?_;intro v5 w5 o5 g5 nn5 b5;have O5:=hid o5;have G5:=hid g5;have NN5:=hid (some_not_nil nn5);clear o5 g5 nn5 b5)
     obtain ⟨g6,c6,rfl,hb6⟩:=own_not_nil O5.out NN5.out
     have HB5:Hid (Below (w.heap.size+1) (w.alloc (.cells #[.slice (some ⟨b,0,none⟩) (n1+1) cap] 25)) w5):=(HBD.out.alloc (by simp at hsz2 ⊢;omega) _).grown G5.out (by simp at hsz2 ⊢;omega) (fun q e=>by simp [Value.ownBlock] at e;have:=own_lt HOD.out (r:=g) rfl;omega)
     clear G5 NN5
     go_wp2
     go_roundw
     case rel =>
      refine ⟨j+1,g6,c6,by omega,by go_num,?_,?_,HB5.out⟩
      ·rw [HTK.out,HM2.out,List.length_append,HNM.out];rfl
      ·rw [HTK.out,HM2.out,List.length_append,HNM.out,intRow_append]
       exact O5.out
     case measure=>simp [intOf];omega
   by_cases h23:(nd y).kind=23
   ·obtain ⟨kl,hkl'⟩:∃ kl,o.getD y []=kl:=⟨_,rfl⟩
    have HM2:Hid (makersOf nd o y=kl):=by show _=_;unfold makersOf;rw [if_neg h20,if_pos h23,hkl']
    obtain ⟨ay,cy,s1,s2,s3,s4⟩:=HG.out y hyN
    have hly5:=HKL.out y
    have hne:kl≠[]:=by
     intro e
     have h1:=(HFT.out y hyN).2
     rw [hkl',e] at h1
     rcases h1 with h | h | h | h | h | h | h | h | h | h | h | h
     all_goals simp at h
     all_goals omega
    rw [hkl'] at s1 s2 s4 hly5
    obtain ⟨gy,rfl,s5⟩:=s4.resolve_left hne
    have lgy:=World.block_lt_of_cell? w _ (s5 0 (List.length_pos_iff.2 hne))
    have s1:=(HB.out.cell (p:=⟨gk,y,none⟩) (World.block_lt_of_cell? w _ s1)).trans s1
    obtain ⟨ly,hly⟩:∃ ly,kl.length=ly:=⟨_,rfl⟩
    have HLY:=hid hly
    have HS5:=hid s5
    rw [hly] at s1 s2 hly5
    rw [h23] at a0
    clear h20 h23 hkl' s4 s5 hne hly
    ·go_wp2
     go_region
     have s1:wr.drew.cell? ⟨gk,y,none⟩=some (.slice (some ⟨gy,0,none⟩) ly cy):=s1
     have HBD:=hid HBW.out.drew
     have HOD:Hid (World.ownsRow wr.drew (w.heap.size+1) 3 1 (.slice (some ⟨g,0,none⟩) nm c) nm (intRow ms)):=HO.out
     have c0:wr.drew.cell? ⟨gf,j,none⟩=some (.int .i64 (y:Nat)):=c0
     clear HBW HO HB a0 a1 a2 a3 a4 t0
     generalize wr.drew=w2 at *
     have hsz2:=HBD.out.size
     have t0:=tree_cell HBD.out
     have HB:=hid (btree HBD.out)
     have HKC:Hid (∀ q u,(intRow kl)[q]?=some u→w2.cell? ((⟨gy,0,none⟩:Addr).add q)=some u):=fun q u hq=>by
      have hl:=(List.getElem?_eq_some_iff.1 hq).1
      rw [intRow_length] at hl
      have e1:((⟨gy,0,none⟩:Addr).add q)=⟨gy,q,none⟩:=by unfold Addr.add;simp;intro h;exact h.symm
      rw [e1,HB.out.cell (p:=⟨gy,q,none⟩) lgy,HS5.out q hl,← hq]
      unfold intRow
      rw [List.getElem?_map,List.getElem?_eq_getElem hl,show kl.getD q 0=kl[q] by rw [List.getD_eq_getElem?_getD,List.getElem?_eq_getElem hl];rfl]
      rfl
     go_wp2_with (at_builtin;refine wpList_append_own_at _ rfl (.tmp 42) (.tmp 49) 31 rfl (w.heap.size+1) 3 i0 (.int .i64 0) 1 8 Tryz.underlying31 HHI.out.1 HHI.out.2.1 HHI.out.2.2.1 HHI.out.2.2.2 rfl (by decide) (.slice (some ⟨g,0,none⟩) nm c) _ _ rfl HOD.out ⟨gy,0,none⟩ ly cy (intRow kl) rfl (by rw [intRow_length,HLY.out,Nat.mul_one]) HKC.out (intRow_one kl) (by unfold maxLen;omega) (by omega) (by simp at hsz2 ⊢;omega) ?_;intro v5 w5 o5 g5 nn5 b5;have O5:=hid o5;have G5:=hid g5;have NN5:=hid (some_not_nil nn5);clear o5 g5 nn5 b5)
     obtain ⟨g6,c6,rfl,hb6⟩:=own_not_nil O5.out NN5.out
     have HB5:Hid (Below (w.heap.size+1) (w.alloc (.cells #[.slice (some ⟨b,0,none⟩) (n1+1) cap] 25)) w5):=HBD.out.grown G5.out (by simp at hsz2 ⊢;omega) (fun q e=>by simp [Value.ownBlock] at e;have:=own_lt HOD.out (r:=g) rfl;omega)
     clear G5 NN5
     go_wp2
     go_roundw
     case rel =>
      refine ⟨j+1,g6,c6,by omega,by go_num,?_,?_,HB5.out⟩
      ·rw [HTK.out,HM2.out,List.length_append,HNM.out,HLY.out]
      ·rw [HTK.out,HM2.out,List.length_append,HNM.out,HLY.out,intRow_append]
       exact O5.out
     case measure=>simp [intOf];omega
   ·have HM2:Hid (makersOf nd o y=[]):=by show _=_;unfold makersOf;rw [if_neg h20,if_neg h23]
    have q5:((nd y).kind == 20)=false:=by rw [beq_eq_false_iff_ne];omega
    have q6:((nd y).kind == 21)=false:=by rw [beq_eq_false_iff_ne];omega
    have q7:((nd y).kind == 23)=false:=by rw [beq_eq_false_iff_ne];omega
    clear h20 h23
    have HBD:=hid HBW.out.drew
    have HOD:Hid (World.ownsRow wr.drew (w.heap.size+1) 3 1 (.slice (some ⟨g,0,none⟩) nm c) nm (intRow ms)):=HO.out
    go_wp2
    go_region
    go_wp2
    go_roundw
    case rel =>
     refine ⟨j+1,g,c,by omega,by go_num,?_,?_,HBD.out⟩
     ·rw [HTK.out,HM2.out,List.append_nil,HNM.out]
     ·rw [HTK.out,HM2.out,List.append_nil,HNM.out]
      exact HOD.out
    case measure=>simp [intOf];omega
  ·obtain rfl:j=m:=by omega
   have e:fl.take j=fl:=List.take_of_length_le (by have:=HM.out;omega)
   rw [e] at HO ⊢
   obtain ⟨h1,⟨h2,_⟩ | ⟨g',c',cur,h2,h3,h4,h5,h6,h7,h8⟩⟩:=HO.out
   ·cases h2
   cases h2
   have HROW:Hid (RowAt wr 3 g c (fl.flatMap (makersOf nd o)).length (intRow (fl.flatMap (makersOf nd o)))):=⟨by simp [intRow],h5,h6,cur,h4,by omega,by rw [Nat.mul_one] at h8;exact h8⟩
   have HGE:Hid (w.heap.size≤g):=by show _≤_;omega
   clear h1 h3 h4 h5 h6 h7 h8 e
   go_wp2
   go_ret
   exact ⟨g,c,rfl,HGE.out,HROW.out,HB.out⟩
def TreeEnd (R K P:Nat) (w:World) (e:Ending) (w2:World):Prop:=∃ g n c,e=.returned (.agg #[.slice (some ⟨g,0,none⟩) n c])∧Has K w2 (.slice (some ⟨g,0,none⟩) n c)∧(∃ p',p'≤P∧Rd R w2 p')∧BR R w w2
set_option maxHeartbeats 16000000 in
theorem edge_any (R p:Nat) (w:World) (h:Rd R w p) (hp:p≤100000) :
  Calls Tryz.prog 31 #[.pointer (some ⟨R,0,none⟩)] w (TreeEnd R 2000 (p+10) w):=by
 obtain ⟨i0,hi0,hz0,hz1,hz2⟩:=info_parts info_ns
 have HHI:=hid (And.intro hi0 (And.intro hz0 (And.intro hz1 hz2)))
 clear hi0 hz0 hz1 hz2
 have HB0:=hid ((Below.refl w.heap.size w).alloc (Nat.le_refl _) (.cells #[.slice none 0 0] 25))
 have HBX:=hid (heap_alloc_new w (.cells #[.slice none 0 0] 25))
 have HR0:=hid (h.next HB0.out)
 have hRw:=h.lt
 clear h
 go_enter Tryz.func31,Tryz.ntmps31
 go_upto_region 1 with fail
 obtain ⟨rb,hrb⟩:∃ g,w.heap.size=g:=⟨_,rfl⟩
 obtain ⟨W0,hW0⟩:∃ W,w.alloc (.cells #[.slice none 0 0] 25)=W:=⟨_,rfl⟩
 have hR0:R < W0.heap.size:=by rw [← hW0,World.size_alloc];omega
 have hrbR:R < rb:=by omega
 rw [hW0] at HB0 HBX HR0 ⊢
 rw [hrb] at HBX ⊢
 have HRB:=hid hrb
 clear hrb hW0
 have HAL:=hid (((Below.refl W0.heap.size W0).alloc (Nat.le_refl _) (.cells #[] 23)).alloc (by simp) (.cells #[.int .i64 8,.int .i64 0,.int .i64 0,.string ⟨#[]⟩,.int .i64 0] 35))
 have HE0:Hid (EI R (W0.heap.size+1) W0 0 0 p 8 (.slice (some ⟨W0.heap.size,0,none⟩) 0 0) ((W0.alloc (.cells #[] 23)).alloc (.cells #[.int .i64 8,.int .i64 0,.int .i64 0,.string ⟨#[]⟩,.int .i64 0] 35))):=by
  refine ⟨⟨p,Nat.le_refl _,HR0.out.next HAL.out⟩,⟨[],[],rfl,?_,rfl,fun j u l hu _=>by simp at hu,by simp [NdOk],fun u hu=>(nomatch hu)⟩,?_,Sv.of_below HAL.out,Nat.le_succ _,hR0⟩
  ·refine ⟨rfl,.inr ⟨W0.heap.size,0,#[],rfl,Nat.le_refl _,?_,Nat.le_refl _,by unfold maxLen;omega,rfl,rfl⟩⟩
   rw [Below.heap_alloc _ _ _ (by simp)]
   exact heap_alloc_new W0 _
  ·have:=heap_alloc_new (W0.alloc (.cells #[] 23)) (.cells #[.int .i64 8,.int .i64 0,.int .i64 0,.string ⟨#[]⟩,.int .i64 0] 35)
   rwa [World.size_alloc] at this
 go_upto_region 4 with fail
 obtain ⟨eb,heb⟩:∃ g,W0.heap.size+1=g:=⟨_,rfl⟩
 obtain ⟨W1,hW1⟩:∃ W,(W0.alloc (.cells #[] 23)).alloc (.cells #[.int .i64 8,.int .i64 0,.int .i64 0,.string ⟨#[]⟩,.int .i64 0] 35)=W:=⟨_,rfl⟩
 rw [hW1] at HE0 ⊢
 rw [heb] at HE0 ⊢
 obtain ⟨pa0,hpa0⟩:∃ g,W0.heap.size=g:=⟨_,rfl⟩
 have HWS:=hid hpa0
 clear heb hW1 HAL
 rw [hpa0] at HE0 ⊢
 clear hpa0
 go_wp2_with fail
 refine (HE0.out.pick (by omega) 4 (by omega)).mono ?_
 rintro e w1 ⟨x,rfl,hx,d1⟩
 have HE1:=hid d1
 clear d1 HE0
 have hx9:x=0∨x=1∨x=2∨x=3:=by omega
 clear hx
 by_cases hx0:x=0
 ·subst hx0
  go_wp2_with fail
  refine (HE1.out.pick (by omega) 2 (by omega)).mono ?_
  rintro e w2 ⟨y,rfl,hy,d2⟩
  have HE2:=hid d2
  clear d2 HE1
  have hwy:IntKind.i64.wrap (50+(y:Int))=((50+y:Nat):Int):=by rw [IntKind.wrap_i64];omega
  go_wp2_with fail
  refine (l2Deep_any (50+y) w2 (by omega)).mono ?_
  rintro e w3 ⟨⟨v3,l3,rfl,n3,k3⟩,hb3⟩
  obtain ⟨g3,m3,c3,rfl⟩:=n3.sl
  have HE3:=hid (HE2.out.next hb3)
  have HL3:Hid (Has 2000 w3 (.slice (some ⟨g3,0,none⟩) m3 c3)):=⟨l3,n3,k3⟩
  clear hb3 n3 k3 HE2
  have hb8:w3.heap[rb]?=some (.cells #[.slice none 0 0] 25 (0,0)):=(HE3.out.sv.block rb (by have:=(Array.getElem?_eq_some_iff.1 HBX.out).1;exact this) (by show ¬ rb=R;omega)).trans HBX.out
  have r0:=cell_hp hb8 0
  have rf:=frozen_hp hb8 0
  simp at r0
  have HB8:=hid hb8
  clear hb8
  go_wp2
  refine bodyPost_ret (v:=.agg #[.slice (some ⟨g3,0,none⟩) m3 c3]) (by simp [results,Tryz.results31,go_sem,r0]) rfl ⟨g3,m3,c3,rfl,?_,?_,?_⟩
  ·obtain ⟨l,h1,h2⟩:=HL3.out
   refine ⟨l,h1.keep fun g cur hc=>Below.heap_setCell _ _ _ _ (fun e=>?_),h2.mono (by omega)⟩
   have e':g=rb:=e
   subst e'
   rw [HB8.out] at hc
   cases hc
  ·obtain ⟨p9,hp9,hr9⟩:=HE3.out.rd
   exact ⟨p9,by omega,hr9.sv (S:=fun k=>k=rb) (Sv.setCell (S:=fun k=>k=rb) (Sv.refl _ w3) (p:=⟨rb,0,none⟩) (.inl rfl) _) (fun k e=>by subst e;omega)⟩
  ·have b1:BR R w W0:=BR.of_below HB0.out (by omega)
   have b2:BR R W0 w3:=BR.of_sv HE3.out.sv (by omega)
   exact (b1.trans b2).set (by omega) (by rw [HRB.out];exact Nat.le_refl _) _
 ·have hxb:((x:Int) == 0)=false:=by simpa using hx0
  have hx4:x=1∨x=2∨x=3:=by omega
  rcases hx4 with hx1 | hx2 | hx3
  ·subst hx1
   go_wp2_with fail
   refine (HE1.out.pick (by omega) 2 (by omega)).mono ?_
   rintro e w2 ⟨y,rfl,hy,d2⟩
   have HE2:=hid d2
   clear d2 HE1
   have hwy:IntKind.i64.wrap (200+(y:Int))=((200+y:Nat):Int):=by rw [IntKind.wrap_i64];omega
   have HE9:=hid (HE2.out.mono (Nat.le_refl _) (P':=p+5) (by omega))
   clear HE2
   go_wp2
   go_loopw [3] (fun pv wr=>∃ t:Nat,t≤(200+y)∧0≤t∧(∃ pa pc,pv=.slice pa t pc)∧EI R eb W0 t t (p+5) 8 pv wr) (fun pv _=>(200+y) - slLen pv)
   case atStart=>exact ⟨0,by omega,Nat.le_refl _,⟨_,_,rfl⟩,HE9.out⟩
   case round =>
    obtain ⟨t,ht,hat,⟨pa,pc,rfl⟩,hd⟩:=hrel
    have HEA:=hid hd
    clear hd HE9
    by_cases hlt:t < (200+y)
    ·have hti:(t:Int) < (((200+y):Nat):Int):=by omega
     go_wp2_with fail
     refine (intNode_any 3 _).mono ?_
     rintro e w5 ⟨v5,rfl,nn5,hb5⟩
     have hsl:=nn5.sl
     obtain ⟨g5,n5,k5,rfl⟩:=hsl
     have HE5:=hid (HEA.out.next hb5)
     have hub:=nd_ne nn5 HE5.out.box (by decide)
     have HAL:=hid ((Below.refl w5.heap.size w5).alloc (Nat.le_refl _) (.cells #[.slice (some ⟨g5,0,none⟩) n5 k5] 23))
     have HE6:=hid (HE5.out.next HAL.out)
     have HL6:Hid (Has 1 (w5.alloc (.cells #[.slice (some ⟨g5,0,none⟩) n5 k5] 23)) (.slice (some ⟨g5,0,none⟩) n5 k5)):=⟨_,nn5.next HAL.out,NdOk.one (by show (⟨#[]⟩:ByteArray).size≤1000;decide)⟩
     have hw5:W0.heap.size≤w5.heap.size:=HE5.out.sv.size
     clear hb5 nn5 HEA HE5 HAL
     obtain ⟨xs,ls,q1,q2,q3,q4,q5,q6⟩:=HE6.out.parts
     have HQ2:=hid q2
     have HQ4:=hid q4
     have HQ5:=hid q5
     have HQ6:=hid q6
     have hwz:W0.heap.size≤(w5.alloc (.cells #[.slice (some ⟨g5,0,none⟩) n5 k5] 23)).heap.size:=HE6.out.sv.size
     clear q2 q4 q5 q6
     go_wp2_with (at_builtin;refine wpList_append_own _ rfl _ _ 96 rfl W0.heap.size 23 i0 (.slice none 0 0) 1 24 Tryz.underlying96 HHI.out.1 HHI.out.2.1 HHI.out.2.2.1 HHI.out.2.2.2 rfl (by decide) _ _ xs rfl HQ2.out ⟨w5.heap.size,0,none⟩ 1 1 [.slice (some ⟨g5,0,none⟩) n5 k5] rfl rfl ?c1 ?c2 ?c3 ?c4 ?c5 ?_)
     case c1 =>
      intro j u hj
      match j,hj with
      | 0,hj=>simp at hj;subst hj;exact cell_new_row w5 _ _ 0
     case c2=>intro u hu;simp at hu;subst hu;rfl
     case c3=>unfold maxLen;omega
     case c4=>omega
     case c5=>simpa using hwz
     intro vz wz oz gz _
     have HEZ:=hid (HE6.out.parted q1 q3 HQ4.out HQ5.out HQ6.out HQ2.out HL6.out hub gz oz)
     clear oz gz HE6 HL6 HQ2 HQ4 HQ5 HQ6 q1 q3
     obtain ⟨paz,pcz,hvz⟩:=HEZ.out.psl
     subst hvz
     go_wp2
     go_roundw
     case rel=>exact ⟨t+1,by omega,by omega,⟨_,_,rfl⟩,HEZ.out⟩
     case measure=>simp [slLen];omega
    ·obtain rfl:t=(200+y):=by omega
     have hti:¬ (((200+y):Nat):Int) < (((200+y):Nat):Int):=by omega
     obtain ⟨pg,pk,hv⟩:=HEA.out.at_row (by omega)
     cases hv
     obtain ⟨b0,b1,b2,b3,b4⟩:=five_at HEA.out.box
     go_wp2_with fail
     refine (HEA.out.putAll rfl (by omega) (by omega)).mono ?_
     rintro e w5 ⟨g5,n5,k5,rfl,l5,hb5⟩
     have HE5:=hid (HEA.out.next hb5)
     have HL5:=hid l5
     clear b0 b1 b2 b3 b4 hb5 l5 HEA
     go_wp2_with fail
     refine (put_one ⟨21,0,0,⟨#[120]⟩,0⟩ _ HL5.out (by show (⟨#[120]⟩:ByteArray).size≤1000;decide) (by omega)).mono ?_
     rintro e w6 ⟨g6,n6,k6,rfl,l6,hb6⟩
     have HE6:=hid (HE5.out.next hb6)
     have HL6:=hid l6
     clear hb6 l6 HE5 HL5
     go_wp2_with fail
     refine (put_one ⟨24,0,0,⟨#[]⟩,0⟩ _ HL6.out (by show (⟨#[]⟩:ByteArray).size≤1000;decide) (by omega)).mono ?_
     rintro e w7 ⟨g7,n7,k7,rfl,l7,hb7⟩
     have HE7:=hid (HE6.out.next hb7)
     have HL7:=hid l7
     clear hb7 l7 HE6 HL6
     have hb8:w7.heap[rb]?=some (.cells #[.slice none 0 0] 25 (0,0)):=(HE7.out.sv.block rb (by have:=(Array.getElem?_eq_some_iff.1 HBX.out).1;exact this) (by show ¬ rb=R;omega)).trans HBX.out
     have r0:=cell_hp hb8 0
     have rf:=frozen_hp hb8 0
     simp at r0
     have HB8:=hid hb8
     clear hb8
     go_wp2
     refine bodyPost_ret (v:=.agg #[.slice (some ⟨g7,0,none⟩) n7 k7]) (by simp [results,Tryz.results31,go_sem,r0]) rfl ⟨g7,n7,k7,rfl,?_,?_,?_⟩
     ·obtain ⟨l,h1,h2⟩:=HL7.out
      refine ⟨l,h1.keep fun g cur hc=>Below.heap_setCell _ _ _ _ (fun e=>?_),h2.mono (by omega)⟩
      have e':g=rb:=e
      subst e'
      rw [HB8.out] at hc
      cases hc
     ·obtain ⟨p9,hp9,hr9⟩:=HE7.out.rd
      exact ⟨p9,by omega,hr9.sv (S:=fun k=>k=rb) (Sv.setCell (S:=fun k=>k=rb) (Sv.refl _ w7) (p:=⟨rb,0,none⟩) (.inl rfl) _) (fun k e=>by subst e;omega)⟩
     ·have b1:BR R w W0:=BR.of_below HB0.out (by omega)
      have b2:BR R W0 w7:=BR.of_sv HE7.out.sv (by omega)
      exact (b1.trans b2).set (by omega) (by rw [HRB.out];exact Nat.le_refl _) _
  ·subst hx2
   go_wp2_with fail
   refine (HE1.out.pick (by omega) 2 (by omega)).mono ?_
   rintro e w2 ⟨y,rfl,hy,d2⟩
   have HE2:=hid d2
   clear d2 HE1
   have hwy:IntKind.i64.wrap (8+(y:Int))=8+(y:Int):=by rw [IntKind.wrap_i64];omega
   have hwy2:IntKind.i64.wrap (8+(y:Int)+1)=((9+y:Nat):Int):=by rw [IntKind.wrap_i64];omega
   have b0:=(five_at HE2.out.box).1
   have bf:=frozen_hp HE2.out.box 0
   have HE3:=hid (HE2.out.setk 12)
   have HE9:=hid (HE3.out.mono (Nat.le_refl _) (P':=p+5) (by omega))
   clear HE2 HE3
   go_wp2
   go_loopw [3] (fun pv wr=>∃ t:Nat,t≤(9+y)∧0≤t∧(∃ pa pc,pv=.slice pa t pc)∧EI R eb W0 t t (p+5) 12 pv wr) (fun pv _=>(9+y) - slLen pv)
   case atStart=>exact ⟨0,by omega,Nat.le_refl _,⟨_,_,rfl⟩,HE9.out⟩
   case round =>
    obtain ⟨t,ht,hat,⟨pa,pc,rfl⟩,hd⟩:=hrel
    have HEA:=hid hd
    clear hd HE9
    by_cases hlt:t < (9+y)
    ·have hti:(t:Int) < (((9+y):Nat):Int):=by omega
     go_wp2_with fail
     refine (intNode_any 3 _).mono ?_
     rintro e w5 ⟨v5,rfl,nn5,hb5⟩
     have hsl:=nn5.sl
     obtain ⟨g5,n5,k5,rfl⟩:=hsl
     have HE5:=hid (HEA.out.next hb5)
     have hub:=nd_ne nn5 HE5.out.box (by decide)
     have HAL:=hid ((Below.refl w5.heap.size w5).alloc (Nat.le_refl _) (.cells #[.slice (some ⟨g5,0,none⟩) n5 k5] 23))
     have HE6:=hid (HE5.out.next HAL.out)
     have HL6:Hid (Has 1 (w5.alloc (.cells #[.slice (some ⟨g5,0,none⟩) n5 k5] 23)) (.slice (some ⟨g5,0,none⟩) n5 k5)):=⟨_,nn5.next HAL.out,NdOk.one (by show (⟨#[]⟩:ByteArray).size≤1000;decide)⟩
     have hw5:W0.heap.size≤w5.heap.size:=HE5.out.sv.size
     clear hb5 nn5 HEA HE5 HAL
     obtain ⟨xs,ls,q1,q2,q3,q4,q5,q6⟩:=HE6.out.parts
     have HQ2:=hid q2
     have HQ4:=hid q4
     have HQ5:=hid q5
     have HQ6:=hid q6
     have hwz:W0.heap.size≤(w5.alloc (.cells #[.slice (some ⟨g5,0,none⟩) n5 k5] 23)).heap.size:=HE6.out.sv.size
     clear q2 q4 q5 q6
     go_wp2_with (at_builtin;refine wpList_append_own _ rfl _ _ 96 rfl W0.heap.size 23 i0 (.slice none 0 0) 1 24 Tryz.underlying96 HHI.out.1 HHI.out.2.1 HHI.out.2.2.1 HHI.out.2.2.2 rfl (by decide) _ _ xs rfl HQ2.out ⟨w5.heap.size,0,none⟩ 1 1 [.slice (some ⟨g5,0,none⟩) n5 k5] rfl rfl ?c1 ?c2 ?c3 ?c4 ?c5 ?_)
     case c1 =>
      intro j u hj
      match j,hj with
      | 0,hj=>simp at hj;subst hj;exact cell_new_row w5 _ _ 0
     case c2=>intro u hu;simp at hu;subst hu;rfl
     case c3=>unfold maxLen;omega
     case c4=>omega
     case c5=>simpa using hwz
     intro vz wz oz gz _
     have HEZ:=hid (HE6.out.parted q1 q3 HQ4.out HQ5.out HQ6.out HQ2.out HL6.out hub gz oz)
     clear oz gz HE6 HL6 HQ2 HQ4 HQ5 HQ6 q1 q3
     obtain ⟨paz,pcz,hvz⟩:=HEZ.out.psl
     subst hvz
     go_wp2
     go_roundw
     case rel=>exact ⟨t+1,by omega,by omega,⟨_,_,rfl⟩,HEZ.out⟩
     case measure=>simp [slLen];omega
    ·obtain rfl:t=(9+y):=by omega
     have hti:¬ (((9+y):Nat):Int) < (((9+y):Nat):Int):=by omega
     obtain ⟨pg,pk,hv⟩:=HEA.out.at_row (by omega)
     cases hv
     obtain ⟨b0,b1,b2,b3,b4⟩:=five_at HEA.out.box
     go_wp2_with fail
     refine (HEA.out.putAll rfl (by omega) (by omega)).mono ?_
     rintro e w5 ⟨g5,n5,k5,rfl,l5,hb5⟩
     have HE5:=hid (HEA.out.next hb5)
     have HL5:=hid l5
     clear b0 b1 b2 b3 b4 hb5 l5 HEA
     go_wp2_with fail
     refine (put_one ⟨21,0,0,⟨#[120]⟩,0⟩ _ HL5.out (by show (⟨#[120]⟩:ByteArray).size≤1000;decide) (by omega)).mono ?_
     rintro e w6 ⟨g6,n6,k6,rfl,l6,hb6⟩
     have HE6:=hid (HE5.out.next hb6)
     have HL6:=hid l6
     clear hb6 l6 HE5 HL5
     go_wp2_with fail
     refine (put_one ⟨24,0,0,⟨#[]⟩,0⟩ _ HL6.out (by show (⟨#[]⟩:ByteArray).size≤1000;decide) (by omega)).mono ?_
     rintro e w7 ⟨g7,n7,k7,rfl,l7,hb7⟩
     have HE7:=hid (HE6.out.next hb7)
     have HL7:=hid l7
     clear hb7 l7 HE6 HL6
     have hb8:w7.heap[rb]?=some (.cells #[.slice none 0 0] 25 (0,0)):=(HE7.out.sv.block rb (by have:=(Array.getElem?_eq_some_iff.1 HBX.out).1;exact this) (by show ¬ rb=R;omega)).trans HBX.out
     have r0:=cell_hp hb8 0
     have rf:=frozen_hp hb8 0
     simp at r0
     have HB8:=hid hb8
     clear hb8
     go_wp2
     refine bodyPost_ret (v:=.agg #[.slice (some ⟨g7,0,none⟩) n7 k7]) (by simp [results,Tryz.results31,go_sem,r0]) rfl ⟨g7,n7,k7,rfl,?_,?_,?_⟩
     ·obtain ⟨l,h1,h2⟩:=HL7.out
      refine ⟨l,h1.keep fun g cur hc=>Below.heap_setCell _ _ _ _ (fun e=>?_),h2.mono (by omega)⟩
      have e':g=rb:=e
      subst e'
      rw [HB8.out] at hc
      cases hc
     ·obtain ⟨p9,hp9,hr9⟩:=HE7.out.rd
      exact ⟨p9,by omega,hr9.sv (S:=fun k=>k=rb) (Sv.setCell (S:=fun k=>k=rb) (Sv.refl _ w7) (p:=⟨rb,0,none⟩) (.inl rfl) _) (fun k e=>by subst e;omega)⟩
     ·have b1:BR R w W0:=BR.of_below HB0.out (by omega)
      have b2:BR R W0 w7:=BR.of_sv HE7.out.sv (by omega)
      exact (b1.trans b2).set (by omega) (by rw [HRB.out];exact Nat.le_refl _) _
  ·subst hx3
   go_wp2_with fail
   refine (HE1.out.pick (by omega) 2 (by omega)).mono ?_
   rintro e w2 ⟨y,rfl,hy,d2⟩
   have HE2:=hid d2
   clear d2 HE1
   have hwy:IntKind.i64.wrap (8+(y:Int))=((8+y:Nat):Int):=by rw [IntKind.wrap_i64];omega
   have hwy2:IntKind.i64.wrap (((8+y:Nat):Int)+1)=((9+y:Nat):Int):=by rw [IntKind.wrap_i64];omega
   go_wp2
   go_loopw [3,6] (fun pv i wr=>∃ t:Nat,t≤8+y∧i=.int .i64 t∧EI R eb W0 t t (p+1+1) 8 pv wr) (fun _ i _=>8+y - (intOf i).toNat)
   case atStart=>exact ⟨0,Nat.zero_le _,rfl,HE2.out⟩
   case round =>
    obtain ⟨t,ht,rfl,hd⟩:=hrel
    have HE3:=hid hd
    obtain ⟨pa,pc,rfl⟩:=hd.psl
    clear hd
    by_cases hlt:t < 8+y
    ·have hti:(t:Int) < ((8+y:Nat):Int):=by omega
     go_wp2_with fail
     refine (l1Dec_any 17 t _ (by have:(100:Nat) < 10 ^ 18:=(by decide);omega) (by decide)).mono ?_
     rintro e w4 ⟨sd,rfl,hsd,hb4⟩
     have HE4:=hid (HE3.out.next hb4)
     clear hb4 HE3
     obtain ⟨ps,hps⟩:∃ ps:ByteArray,(⟨#[112]⟩:ByteArray) ++ sd=ps:=⟨_,rfl⟩
     have hpz:ps.size≤100:=by rw [← hps,ByteArray.size_append];show 1+sd.size≤100;omega
     have HAL:=hid (((Below.refl w4.heap.size w4).alloc (Nat.le_refl _) (.cells #[.int .i64 19,.int .i64 0,.int .i64 0,.string ps,.int .i64 0] 35)).alloc (by simp) (.cells #[.slice (some ⟨w4.heap.size,0,none⟩) 1 1] 23))
     have HE5:=hid (HE4.out.next HAL.out)
     have HL5:Hid (Has 1 ((w4.alloc (.cells #[.int .i64 19,.int .i64 0,.int .i64 0,.string ps,.int .i64 0] 35)).alloc (.cells #[.slice (some ⟨w4.heap.size,0,none⟩) 1 1] 23)) (.slice (some ⟨w4.heap.size,0,none⟩) 1 1)):=⟨[⟨19,0,0,ps,0⟩],(nd_one w4 ⟨19,0,0,ps,0⟩).next ((Below.refl _ _).alloc (Nat.le_refl _) _),NdOk.one (by show ps.size≤1000;omega)⟩
     have heb4:eb < w4.heap.size:=(Array.getElem?_eq_some_iff.1 HE4.out.box).1
     have hub:(Value.slice (some ⟨w4.heap.size,0,none⟩) 1 1).ownBlock≠some eb:=fun e=>by
      have e':w4.heap.size=eb:=Option.some.inj e
      omega
     clear HAL HE4
     obtain ⟨xs,ls,q1,q2,q3,q4,q5,q6⟩:=HE5.out.parts
     have HQ2:=hid q2
     have HQ4:=hid q4
     have HQ5:=hid q5
     have HQ6:=hid q6
     have hwz:W0.heap.size≤((w4.alloc (.cells #[.int .i64 19,.int .i64 0,.int .i64 0,.string ps,.int .i64 0] 35)).alloc (.cells #[.slice (some ⟨w4.heap.size,0,none⟩) 1 1] 23)).heap.size:=HE5.out.sv.size
     clear q2 q4 q5 q6
     go_wp2_with (at_builtin;refine wpList_append_own _ rfl _ _ 96 rfl W0.heap.size 23 i0 (.slice none 0 0) 1 24 Tryz.underlying96 HHI.out.1 HHI.out.2.1 HHI.out.2.2.1 HHI.out.2.2.2 rfl (by decide) _ _ xs rfl HQ2.out ⟨w4.heap.size+1,0,none⟩ 1 1 [.slice (some ⟨w4.heap.size,0,none⟩) 1 1] rfl rfl ?c1 ?c2 ?c3 ?c4 ?c5 ?_)
     case c1 =>
      intro j u hj
      match j,hj with
      | 0,hj=>simp at hj;subst hj;have:=cell_new_row (w4.alloc (.cells #[.int .i64 19,.int .i64 0,.int .i64 0,.string ps,.int .i64 0] 35)) #[.slice (some ⟨w4.heap.size,0,none⟩) 1 1] 23 0;rw [World.size_alloc] at this;exact this
     case c2=>intro u hu;simp at hu;subst hu;rfl
     case c3=>unfold maxLen;omega
     case c4=>omega
     case c5=>simpa using hwz
     intro vz wz oz gz _
     have HEZ:=hid (HE5.out.parted q1 q3 HQ4.out HQ5.out HQ6.out HQ2.out HL5.out hub gz oz)
     clear oz gz HE5 HL5 HQ2 HQ4 HQ5 HQ6 q1 q3
     have hinc:IntKind.i64.wrap ((t:Int)+1)=((t+1:Nat):Int):=by rw [IntKind.wrap_i64];omega
     go_wp2
     go_roundw
     case rel=>exact ⟨t+1,by omega,by go_num,HEZ.out⟩
     case measure=>simp [intOf];omega
    ·obtain rfl:t=8+y:=by omega
     have hti:¬ ((8+y:Nat):Int) < ((8+y:Nat):Int):=by omega
     have b0:=(five_at HE3.out.box).1
     have bf:=frozen_hp HE3.out.box 0
     have HE4:=hid (HE3.out.setk 15)
     have HE9:=hid (HE4.out.mono (Nat.le_refl _) (P':=p+5) (by omega))
     clear HE3 HE4
     go_wp2
     go_loopw [3] (fun pv wr=>∃ t:Nat,t≤(9+y)∧(8+y)≤t∧(∃ pa pc,pv=.slice pa t pc)∧EI R eb W0 t t (p+5) 15 pv wr) (fun pv _=>(9+y) - slLen pv)
     case atStart=>exact ⟨(8+y),by omega,Nat.le_refl _,⟨_,_,rfl⟩,HE9.out⟩
     case round =>
      obtain ⟨t,ht,hat,⟨pa,pc,rfl⟩,hd⟩:=hrel
      have HEA:=hid hd
      clear hd HE9
      by_cases hlt:t < (9+y)
      ·have hti:(t:Int) < (((9+y):Nat):Int):=by omega
       go_wp2_with fail
       refine (intNode_any 3 _).mono ?_
       rintro e w5 ⟨v5,rfl,nn5,hb5⟩
       have hsl:=nn5.sl
       obtain ⟨g5,n5,k5,rfl⟩:=hsl
       have HE5:=hid (HEA.out.next hb5)
       have hub:=nd_ne nn5 HE5.out.box (by decide)
       have HAL:=hid ((Below.refl w5.heap.size w5).alloc (Nat.le_refl _) (.cells #[.slice (some ⟨g5,0,none⟩) n5 k5] 23))
       have HE6:=hid (HE5.out.next HAL.out)
       have HL6:Hid (Has 1 (w5.alloc (.cells #[.slice (some ⟨g5,0,none⟩) n5 k5] 23)) (.slice (some ⟨g5,0,none⟩) n5 k5)):=⟨_,nn5.next HAL.out,NdOk.one (by show (⟨#[]⟩:ByteArray).size≤1000;decide)⟩
       have hw5:W0.heap.size≤w5.heap.size:=HE5.out.sv.size
       clear hb5 nn5 HEA HE5 HAL
       obtain ⟨xs,ls,q1,q2,q3,q4,q5,q6⟩:=HE6.out.parts
       have HQ2:=hid q2
       have HQ4:=hid q4
       have HQ5:=hid q5
       have HQ6:=hid q6
       have hwz:W0.heap.size≤(w5.alloc (.cells #[.slice (some ⟨g5,0,none⟩) n5 k5] 23)).heap.size:=HE6.out.sv.size
       clear q2 q4 q5 q6
       go_wp2_with (at_builtin;refine wpList_append_own _ rfl _ _ 96 rfl W0.heap.size 23 i0 (.slice none 0 0) 1 24 Tryz.underlying96 HHI.out.1 HHI.out.2.1 HHI.out.2.2.1 HHI.out.2.2.2 rfl (by decide) _ _ xs rfl HQ2.out ⟨w5.heap.size,0,none⟩ 1 1 [.slice (some ⟨g5,0,none⟩) n5 k5] rfl rfl ?c1 ?c2 ?c3 ?c4 ?c5 ?_)
       case c1 =>
        intro j u hj
        match j,hj with
        | 0,hj=>simp at hj;subst hj;exact cell_new_row w5 _ _ 0
       case c2=>intro u hu;simp at hu;subst hu;rfl
       case c3=>unfold maxLen;omega
       case c4=>omega
       case c5=>simpa using hwz
       intro vz wz oz gz _
       have HEZ:=hid (HE6.out.parted q1 q3 HQ4.out HQ5.out HQ6.out HQ2.out HL6.out hub gz oz)
       clear oz gz HE6 HL6 HQ2 HQ4 HQ5 HQ6 q1 q3
       obtain ⟨paz,pcz,hvz⟩:=HEZ.out.psl
       subst hvz
       go_wp2
       go_roundw
       case rel=>exact ⟨t+1,by omega,by omega,⟨_,_,rfl⟩,HEZ.out⟩
       case measure=>simp [slLen];omega
      ·obtain rfl:t=(9+y):=by omega
       have hti:¬ (((9+y):Nat):Int) < (((9+y):Nat):Int):=by omega
       obtain ⟨pg,pk,hv⟩:=HEA.out.at_row (by omega)
       cases hv
       obtain ⟨b0,b1,b2,b3,b4⟩:=five_at HEA.out.box
       go_wp2_with fail
       refine (HEA.out.putAll rfl (by omega) (by omega)).mono ?_
       rintro e w5 ⟨g5,n5,k5,rfl,l5,hb5⟩
       have HE5:=hid (HEA.out.next hb5)
       have HL5:=hid l5
       clear b0 b1 b2 b3 b4 hb5 l5 HEA
       go_wp2_with fail
       refine (put_one ⟨21,0,0,⟨#[120]⟩,0⟩ _ HL5.out (by show (⟨#[120]⟩:ByteArray).size≤1000;decide) (by omega)).mono ?_
       rintro e w6 ⟨g6,n6,k6,rfl,l6,hb6⟩
       have HE6:=hid (HE5.out.next hb6)
       have HL6:=hid l6
       clear hb6 l6 HE5 HL5
       go_wp2_with fail
       refine (put_one ⟨24,0,0,⟨#[]⟩,0⟩ _ HL6.out (by show (⟨#[]⟩:ByteArray).size≤1000;decide) (by omega)).mono ?_
       rintro e w7 ⟨g7,n7,k7,rfl,l7,hb7⟩
       have HE7:=hid (HE6.out.next hb7)
       have HL7:=hid l7
       clear hb7 l7 HE6 HL6
       have hb8:w7.heap[rb]?=some (.cells #[.slice none 0 0] 25 (0,0)):=(HE7.out.sv.block rb (by have:=(Array.getElem?_eq_some_iff.1 HBX.out).1;exact this) (by show ¬ rb=R;omega)).trans HBX.out
       have r0:=cell_hp hb8 0
       have rf:=frozen_hp hb8 0
       simp at r0
       have HB8:=hid hb8
       clear hb8
       go_wp2
       refine bodyPost_ret (v:=.agg #[.slice (some ⟨g7,0,none⟩) n7 k7]) (by simp [results,Tryz.results31,go_sem,r0]) rfl ⟨g7,n7,k7,rfl,?_,?_,?_⟩
       ·obtain ⟨l,h1,h2⟩:=HL7.out
        refine ⟨l,h1.keep fun g cur hc=>Below.heap_setCell _ _ _ _ (fun e=>?_),h2.mono (by omega)⟩
        have e':g=rb:=e
        subst e'
        rw [HB8.out] at hc
        cases hc
       ·obtain ⟨p9,hp9,hr9⟩:=HE7.out.rd
        exact ⟨p9,by omega,hr9.sv (S:=fun k=>k=rb) (Sv.setCell (S:=fun k=>k=rb) (Sv.refl _ w7) (p:=⟨rb,0,none⟩) (.inl rfl) _) (fun k e=>by subst e;omega)⟩
       ·have b1:BR R w W0:=BR.of_below HB0.out (by omega)
        have b2:BR R W0 w7:=BR.of_sv HE7.out.sv (by omega)
        exact (b1.trans b2).set (by omega) (by rw [HRB.out];exact Nat.le_refl _) _
end Go.Proofs.YthnohneaanphbaaGreatDoor
