import Derived.Deep.DeepCutAuto
import Derived.Test.YtabbahpalemlhaaGreatDoorJ46
import Derived.Test.YtabbahpalemlhaaGreatDoorJ22
import Derived.Test.YtabbahpalemlhaaGreatDoorJ42
namespace Go.Proofs.YtabbahpalemlhaaGreatDoor
open Go.RowKit
set_option maxRecDepth 20000
theorem TrIn.sl {K:Nat} {w:World} {v:Value} (h:TrIn K w v):∃ ad n c,v=.slice ad n c:=by
 rcases h with ⟨ad,c,e⟩ | h
 ·exact ⟨ad,0,c,e⟩
 ·obtain ⟨g,n,c,e⟩:=h.sl
  exact ⟨_,n,c,e⟩
theorem TrIn.next {K:Nat} {w w2:World} {v:Value} (h:TrIn K w v) (hb:Below w.heap.size w w2):TrIn K w2 v:=by
 rcases h with h | ⟨l,h1,h2⟩
 ·exact .inl h
 ·exact .inr ⟨l,h1.next hb,h2⟩
theorem spoil_tr (R p K:Nat) (v:Value) (w:World) (h:Rd R w p) (hp:p≤100000) (ht:TrIn K w v) (hK:K≤10000) :
  Calls Tryz.prog 40 #[.pointer (some ⟨R,0,none⟩),.agg #[v]] w (TrEnd R (K+1) (p+10) w):=by
 rcases ht with ⟨ad,c,rfl⟩ | hh
 ·refine (spoil_none R p ad c w h).mono ?_
  rintro e w2 ⟨v,rfl,⟨ad2,c2,rfl⟩,⟨p',h1,h2⟩,h3⟩
  exact ⟨_,rfl,.inl ⟨_,_,rfl⟩,⟨p',by omega,h2⟩,h3⟩
 ·obtain ⟨g,n,c,rfl⟩:=hh.sl
  exact spoil_any R p K g n c w h hp hh hK
theorem fin_box {R K P p rb:Nat} {w w2:World} {v:Value} (ht:TrIn K w2 v) (hr:Rd R w2 p) (hp:p≤P) (br:BR R w w2) (hb:w2.heap[rb]?=some (.cells #[.slice none 0 0] 50 (0,0))) (hrb:w.heap.size≤rb) (hR:R < w.heap.size):TrEnd R K P w (.returned (.agg #[v])) (w2.setCell ⟨rb,0,none⟩ v):=by
 refine ⟨v,rfl,?_,⟨p,hp,hr.sv (S:=fun k=>k=rb) (Sv.setCell (S:=fun k=>k=rb) (Sv.refl _ w2) (p:=⟨rb,0,none⟩) (.inl rfl) _) (fun k e=>by subst e;omega)⟩,br.set (by omega) hrb v⟩
 rcases ht with h | ⟨l,h1,h2⟩
 ·exact .inl h
 ·refine .inr ⟨l,h1.keep fun g cur hc=>Below.heap_setCell _ _ _ _ (fun e=>?_),h2⟩
  have e':g=rb:=e
  subst e'
  rw [hb] at hc
  cases hc
set_option maxHeartbeats 8000000 in
theorem any_at (R p:Nat) (w:World) (h:Rd R w p) (hp:p≤100) :
  Calls Tryz.prog 17 #[.pointer (some ⟨R,0,none⟩)] w (TrEnd R 3101 (p+50000) w):=by
 have HB0:=hid ((Below.refl w.heap.size w).alloc (Nat.le_refl _) (.cells #[.slice none 0 0] 50))
 have HBX:=hid (heap_alloc_new w (.cells #[.slice none 0 0] 50))
 have HR0:=hid (h.next HB0.out)
 have hRl:=h.lt
 clear h
 go_enter Tryz.func17,Tryz.ntmps17
 go_wp2_with fail
 refine (pick_any R p 30 _ (by omega) (by omega) HR0.out).mono ?_
 rintro e w1 ⟨⟨x,rfl,hx⟩,r1,s1⟩
 obtain ⟨rb,hrb⟩:∃ g,w.heap.size=g:=⟨_,rfl⟩
 have hb1:=(s1.block w.heap.size (by simp) (by show ¬ w.heap.size=R;omega)).trans HBX.out
 rw [hrb] at hb1 ⊢
 have hrw:w.heap.size≤rb:=by omega
 have hRr:R < rb:=by omega
 have HB1:=hid hb1
 have HBR1:Hid (BR R w w1):=(BR.of_below HB0.out (by omega)).trans (BR.of_sv s1 (by simp;omega))
 have HR1:=hid r1
 clear hb1 s1 r1 HR0 HB0 HBX hrb
 by_cases h26:26 < x
 ·have h26i:(26:Int) < (x:Int):=by omega
  go_wp2_with fail
  refine (l2Fixed_any _).mono ?_
  rintro e w2 ⟨rfl,hc2,hb2⟩
  have HR2:=hid (HR1.out.next hb2)
  have HB2:=hid (hp_next HB1.out hb2)
  have HBR2:=hid (HBR1.out.trans (BR.of_below hb2 (Nat.le_of_lt HR1.out.lt)))
  have hRw1:=HR1.out.lt
  have HC2:=hid hc2
  clear hb2 hc2 HR1 HB1 HBR1
  go_wp2_with fail
  refine (pick_any R (p+1) 15 _ (by omega) (by omega) HR2.out).mono ?_
  rintro e w3 ⟨⟨y,rfl,hy⟩,r3,s3⟩
  have hy15:y < 15:=by omega
  have hy15i:(y:Int) < 15:=by omega
  have hc3:=HC2.out y hy15
  have c3:=(s3.cell (p:=⟨w1.heap.size,y,none⟩) (World.block_lt_of_cell? w2 _ hc3) (by show ¬ w1.heap.size=R;omega)).trans hc3
  have HR3:=hid r3
  have HB3:=hid ((s3.block rb (Array.getElem?_eq_some_iff.1 HB2.out).1 (by show ¬ rb=R;omega)).trans HB2.out)
  have HBR3:=hid (HBR2.out.trans (BR.of_sv s3 (Nat.le_of_lt HR2.out.lt)))
  obtain ⟨gf,hgf⟩:∃ g,w1.heap.size=g:=⟨_,rfl⟩
  rw [hgf] at c3 ⊢
  clear hgf hc3 s3 r3 HC2 HR2 HB2 HBR2 hRw1 hy
  obtain ⟨f1,f2,f3⟩:=fix_ok y hy15
  obtain ⟨tx,htx⟩:∃ t,fixS y=t:=⟨_,rfl⟩
  rw [htx] at c3 f1 f2 f3
  have HPA:=hid (fun W=>parse_at tx W f1 f2 f3)
  clear htx f1 f2 f3
  go_wp2_with fail
  refine (HPA.out _).mono ?_
  rintro e w4 ⟨v4,cc,aa,rfl,ht4,hb4⟩
  obtain ⟨ad4,n4,c4,rfl⟩:=ht4.sl
  have HR4:=hid (HR3.out.next hb4)
  have HB4:=hid (hp_next HB3.out hb4)
  have HBR4:=hid (HBR3.out.trans (BR.of_below hb4 (Nat.le_of_lt HR3.out.lt)))
  have HT4:=hid ht4
  clear hb4 ht4 HR3 HB3 HBR3 HPA c3
  have HAL:=hid (((Below.refl w4.heap.size w4).alloc (Nat.le_refl _) (.cells #[.slice ad4 n4 c4] 50)).alloc (by simp) (.cells #[.int .i64 cc,.int .i64 aa] 26))
  have hX5:((w4.alloc (.cells #[.slice ad4 n4 c4] 50)).alloc (.cells #[.int .i64 cc,.int .i64 aa] 26)).heap[w4.heap.size]?=some (.cells #[.slice ad4 n4 c4] 50 (0,0)):=by
   rw [Below.heap_alloc _ _ _ (by simp)];exact heap_alloc_new w4 _
  have HX5:=hid hX5
  clear hX5
  go_upto_region 4 with fail
  obtain ⟨W5,hW5⟩:∃ W,(w4.alloc (.cells #[.slice ad4 n4 c4] 50)).alloc (.cells #[.int .i64 cc,.int .i64 aa] 26)=W:=⟨_,rfl⟩
  rw [hW5] at HAL HX5 ⊢
  obtain ⟨xt,hxt⟩:∃ g,w4.heap.size=g:=⟨_,rfl⟩
  have hb5:=hp_next HB4.out HAL.out
  have hr5:=HR4.out.next HAL.out
  have ht5:=HT4.out.next HAL.out
  have hbr5:=HBR4.out.trans (BR.of_below HAL.out (Nat.le_of_lt HR4.out.lt))
  rw [hxt] at HX5 ⊢
  have x0:=cell_hp HX5.out 0
  have r0:=cell_hp hb5 0
  have rf:=frozen_hp hb5 0
  simp at x0 r0
  have HE:=hid (fin_box (P:=p+50000) (ht5.mono (by omega):TrIn 3101 W5 (.slice ad4 n4 c4)) hr5 (by omega) hbr5 hb5 hrw hRl)
  clear hW5 hxt hb5 hr5 ht5 hbr5 HAL HX5 HB4 HR4 HT4 HBR4
  go_wp2
  exact bodyPost_ret (v:=.agg #[.slice ad4 n4 c4]) (by simp [results,Tryz.results17,go_sem,r0]) rfl HE.out
 ·have h26i:¬ (26:Int) < (x:Int):=by omega
  by_cases h0:x=0
  ·subst h0
   go_wp2_with fail
   refine (edge_any R (p+1) w1 HR1.out (by omega)).mono ?_
   rintro e w2 ⟨g,n,c,rfl,hl,⟨p2,hp2,hr2⟩,br⟩
   have hb2:=(br.tr rb _ hRr HB1.out).trans HB1.out
   have r0:=cell_hp hb2 0
   have rf:=frozen_hp hb2 0
   simp at r0
   have HE:=hid (fin_box (P:=p+50000) (TrIn.mono (.inr hl) (by omega):TrIn 3101 w2 (.slice (some ⟨g,0,none⟩) n c)) hr2 (by omega) (HBR1.out.trans br) hb2 hrw hRl)
   clear hl hr2 br hb2
   go_wp2
   exact bodyPost_ret (v:=.agg #[.slice (some ⟨g,0,none⟩) n c]) (by simp [results,Tryz.results17,go_sem,r0]) rfl HE.out
  ·have h0i:((x:Int) == 0)=false:=by simp;omega
   by_cases h4:x < 4
   ·have h4i:(x:Int) < 4:=by omega
    go_wp2_with fail
    refine (prog_any R (p+1) w1 HR1.out (by omega)).mono ?_
    rintro e w2 ⟨g,n,c,rfl,hl,⟨p2,hp2,hr2⟩,br⟩
    have HL2:=hid hl
    have HR2:=hid hr2
    have HBR2:=hid br
    clear hl hr2 br
    go_wp2_with fail
    refine (spoil_tr R p2 3100 _ w2 HR2.out (by omega) (.inr HL2.out) (by omega)).mono ?_
    rintro e w3 ⟨v3,rfl,ht3,⟨p3,hp3,hr3⟩,br3⟩
    obtain ⟨ad3,n3,c3,rfl⟩:=ht3.sl
    have hb2:=(HBR2.out.tr rb _ hRr HB1.out).trans HB1.out
    have hb3:=(br3.tr rb _ hRr hb2).trans hb2
    have r0:=cell_hp hb3 0
    have rf:=frozen_hp hb3 0
    simp at r0
    have HE:=hid (fin_box (P:=p+50000) (ht3.mono (by omega):TrIn 3101 w3 (.slice ad3 n3 c3)) hr3 (by omega) ((HBR1.out.trans HBR2.out).trans br3) hb3 hrw hRl)
    clear ht3 hr3 br3 hb2 hb3
    go_wp2
    exact bodyPost_ret (v:=.agg #[.slice ad3 n3 c3]) (by simp [results,Tryz.results17,go_sem,r0]) rfl HE.out
   ·have h4i:¬ (x:Int) < 4:=by omega
    go_wp2_with fail
    refine (prog_any R (p+1) w1 HR1.out (by omega)).mono ?_
    rintro e w2 ⟨g,n,c,rfl,hl,⟨p2,hp2,hr2⟩,br⟩
    have hb2:=(br.tr rb _ hRr HB1.out).trans HB1.out
    have r0:=cell_hp hb2 0
    have rf:=frozen_hp hb2 0
    simp at r0
    have HE:=hid (fin_box (P:=p+50000) (TrIn.mono (.inr hl) (by omega):TrIn 3101 w2 (.slice (some ⟨g,0,none⟩) n c)) hr2 (by omega) (HBR1.out.trans br) hb2 hrw hRl)
    clear hl hr2 br hb2
    go_wp2
    exact bodyPost_ret (v:=.agg #[.slice (some ⟨g,0,none⟩) n c]) (by simp [results,Tryz.results17,go_sem,r0]) rfl HE.out
def CodeA (w:World) (ad:Option Addr) (n:Nat):Prop:=n=0∨∃ a:Addr,ad=some a∧a.block < w.heap.size∧∀ i,i < n→∃ x:UInt8,w.cell? (a.add i)=some (.int .u8 x.toNat)
theorem CodeA.box {w:World} {ad:Option Addr} {n m:Nat} {o:Obj} (h:CodeA w ad n) (hm:m≤n):CodeIn w.heap.size (w.alloc o) ad m:=by
 rcases h with h | ⟨a,e,h1,h2⟩
 ·exact .inl (by omega)
 ·refine .inr ⟨a,e,h1,fun i hi=>?_⟩
  obtain ⟨x,hx⟩:=h2 i (by omega)
  exact ⟨x,(((Below.refl w.heap.size w).alloc (Nat.le_refl _) o).cell (p:=a.add i) (by rw [add_block];exact h1)).trans hx⟩
set_option maxHeartbeats 2000000 in
theorem l1Open_any (ad:Option Addr) (n cap:Nat) (w:World) (hn:n≤1048576) (hc:n≤cap) (hcm:cap≤9223372036854775807) (h:CodeA w ad n) (hnil:ad=none→n=0∧cap=0) :
  Calls Tryz.prog 7 #[.slice ad n cap] w fun e w'=>e=.returned (.pointer (some ⟨w.heap.size,0,none⟩))∧Rd w.heap.size w' 0∧Below w.heap.size w w':=by
 by_cases h2:n≤2000
 ·have HRD:Hid (Rd w.heap.size (w.alloc (.cells #[.slice ad n cap,.int .i64 0] 45)) 0):=⟨ad,n,cap,heap_alloc_new w _,h2,h.box (Nat.le_refl _)⟩
  clear h hnil
  go_enter Tryz.func7,Tryz.ntmps7
  go_wp2
  go_ret
  exact ⟨rfl,HRD.out,(Below.refl _ _).alloc (Nat.le_refl _) _⟩
 ·obtain ⟨a,rfl⟩:∃ a,ad=some a:=by
   cases ad with
   | none=>have:=(hnil rfl).1;omega
   | some a=>exact ⟨a,rfl⟩
  have HRD:Hid (Rd w.heap.size (w.alloc (.cells #[.slice (some a) 2000 cap,.int .i64 0] 45)) 0):=⟨_,2000,cap,heap_alloc_new w _,by omega,h.box (by omega)⟩
  have hn3:(2000:Int) < (n:Int):=by omega
  have hc3:(2000:Int)≤(cap:Int):=by omega
  clear h hnil
  go_enter Tryz.func7,Tryz.ntmps7
  go_wp2
  go_ret
  exact ⟨rfl,HRD.out,(Below.refl _ _).alloc (Nat.le_refl _) _⟩
end Go.Proofs.YtabbahpalemlhaaGreatDoor
