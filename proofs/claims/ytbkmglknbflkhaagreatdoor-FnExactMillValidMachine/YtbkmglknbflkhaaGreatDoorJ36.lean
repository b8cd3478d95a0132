import Derived.Test.YtbkmglknbflkhaaGreatDoorJ35
namespace Go.Proofs.YtbkmglknbflkhaaGreatDoor.M
open Go.RowKit
open C (In in0 inV)
open Go.Proofs.YtbkmglknbflkhaaGreatDoor.J (Says says_t says_f)
open Go.Proofs.YtbkmglknbflkhaaGreatDoor.R (hid)
set_option maxRecDepth 20000
def AwEnd (x:R.Mc) (i:Nat) (e:Ending):Prop:=(∃ j,e=.returned (.tuple #[inV j,.bool true])∧awaits x i=some j)∨∃ j,e=.returned (.tuple #[inV j,.bool false])∧awaits x i=none
theorem two_at (w:World) (a b:Obj):((w.alloc a).alloc b).heap[w.heap.size]?=some a∧((w.alloc a).alloc b).heap[w.heap.size+1]?=some b∧Below w.heap.size w ((w.alloc a).alloc b):=by
 have g0:=heap_alloc_new w a
 have g1:=heap_alloc_new (w.alloc a) b
 have s1:(w.alloc a).heap.size=w.heap.size+1:=by simp
 have k1:Below (w.alloc a).heap.size (w.alloc a) ((w.alloc a).alloc b):=(Below.refl _ _).alloc (Nat.le_refl _) _
 rw [s1] at g1
 exact ⟨C.hp_next g0 k1,g1,((Below.refl _ _).alloc (Nat.le_refl _) _).alloc (by simp) _⟩
structure AX (w:World) (x:R.Mc) (v0 v1 v2 v3 v4 v5:Value) (r0 r1 r2 r3:Value) (W:World):Prop where
 mx:MX w x v0 v1 v2 v3 v4 v5 W
 er:W.heap[w.heap.size+1]?=some (.cells #[r0,r1,r2,r3] 103 (0,0))
theorem AX.next {w:World} {x:R.Mc} {v0 v1 v2 v3 v4 v5 r0 r1 r2 r3:Value} {W V:World} (h:AX w x v0 v1 v2 v3 v4 v5 r0 r1 r2 r3 W) (hb:Below W.heap.size W V):AX w x v0 v1 v2 v3 v4 v5 r0 r1 r2 r3 V:=⟨h.mx.next hb,C.hp_next h.er hb⟩
theorem set_hp {W:World} {g i:Nat} {cs:Array Value} {t:TypeId} (h:W.heap[g]?=some (.cells cs t (0,0))) (v:Value):(W.setCell ⟨g,i,none⟩ v).heap[g]?=some (.cells (cs.setIfInBounds i v) t (0,0)):=J.set_at v h
theorem set4 {W:World} {g:Nat} {r0 r1 r2 r3:Value} {t:TypeId} (h:W.heap[g]?=some (.cells #[r0,r1,r2,r3] t (0,0))) (a b c d:Value) :
  ((((W.setCell ⟨g,0,none⟩ a).setCell ⟨g,1,none⟩ b).setCell ⟨g,2,none⟩ c).setCell ⟨g,3,none⟩ d).heap[g]?=some (.cells #[a,b,c,d] t (0,0)) :=
 set_hp (set_hp (set_hp (set_hp h a) b) c) d
set_option maxHeartbeats 4000000 in
theorem await_any (x:R.Mc) {v0 v1 v2 v3 v4 v5:Value} {B:Nat} (w:World) (h:MK B w x v0 v1 v2 v3 v4 v5) (hx:R.OkFmS x.frames) {i:Nat} (hi:i < x.frames.length) (hw:i+1 < x.frames.length→(-1≤(fr x i).code∧(fr x i).code≤1000)∧UpOk x (i+1)) (hl:x.frames.length≤1048576) :
  Calls Tryz.prog 96 #[mval x v0 v1 v2 v3 v4 v5,.int .i64 i] w fun e w'=>AwEnd x i e∧Below w.heap.size w w':=by
 have HK:=hid h
 obtain ⟨gf,rfl⟩:=h.k3.sl
 have HO:=hid hx
 have HW:=hid hw
 clear h hx hw
 go_enter Tryz.func96,Tryz.ntmps96
 go_upto_region 1 with fail
 obtain ⟨t0,t1,hlo⟩:=two_at w (.cells #[v0,v1,v2,.slice (some ⟨gf,0,none⟩) x.frames.length x.frames.length,.int .i64 x.steps,.int .i64 x.looks,.int .i64 x.kind,.string x.name,.string x.hold,.bool x.over,.int .i64 x.fin,.string x.text,v4,v5] 34) (.cells #[.int .i64 0,.int .i64 0,.int .i64 0,.string ⟨#[]⟩] 103)
 obtain ⟨W1,hW1⟩:∃ W,((w.alloc (.cells #[v0,v1,v2,.slice (some ⟨gf,0,none⟩) x.frames.length x.frames.length,.int .i64 x.steps,.int .i64 x.looks,.int .i64 x.kind,.string x.name,.string x.hold,.bool x.over,.int .i64 x.fin,.string x.text,v4,v5] 34)).alloc (.cells #[.int .i64 0,.int .i64 0,.int .i64 0,.string ⟨#[]⟩] 103))=W:=⟨_,rfl⟩
 rw [hW1] at t0 t1 hlo ⊢
 have HX:Hid (AX w x v0 v1 v2 (.slice (some ⟨gf,0,none⟩) x.frames.length x.frames.length) v4 v5 (.int .i64 0) (.int .i64 0) (.int .i64 0) (.string ⟨#[]⟩) W1):=hid ⟨⟨hlo,t0⟩,t1⟩
 clear hW1 t0 t1 hlo
 have c3:=HX.out.mx.c3
 have hii:(i:Int) < (x.frames.length:Int):=by omega
 have hsub:(x.frames.length:Int) - 1=((x.frames.length - 1:Nat):Int):=by omega
 by_cases hlast:i+1=x.frames.length
 ·have HLA:=hid hlast
  have hq:((i:Int) == (x.frames.length:Int) - 1)=true:=by simp;omega
  clear hlast hsub
  have c6:=HX.out.mx.c6
  have r0:W1.cell? ⟨w.heap.size+1,0,none⟩=some (.int .i64 0):=C.cell_hp HX.out.er 0
  have f0:=C.frozen_hp HX.out.er 0
  have r1:W1.cell? ⟨w.heap.size+1,1,none⟩=some (.int .i64 0):=C.cell_hp HX.out.er 1
  have f1:=C.frozen_hp HX.out.er 1
  have r2:W1.cell? ⟨w.heap.size+1,2,none⟩=some (.int .i64 0):=C.cell_hp HX.out.er 2
  have f2:=C.frozen_hp HX.out.er 2
  have r3:W1.cell? ⟨w.heap.size+1,3,none⟩=some (.string ⟨#[]⟩):=C.cell_hp HX.out.er 3
  have f3:=C.frozen_hp HX.out.er 3
  by_cases hk0:x.kind=0
  ·have HAW:Hid (awaits x i=none):=hid (by unfold awaits;rw [if_pos HLA.out,if_pos hk0])
   rw [hk0] at c6
   clear hk0
   go_wp2_with fail
   go_region
   clear c3 c6 r0 r1 r2 r3 f0 f1 f2 f3
   have HE:Hid (((((W1.setCell ⟨w.heap.size+1,0,none⟩ (.int .i64 8)).setCell ⟨w.heap.size+1,1,none⟩ (.int .i64 0)).setCell ⟨w.heap.size+1,2,none⟩ (.int .i64 0)).setCell ⟨w.heap.size+1,3,none⟩ (.string ⟨#[]⟩)).drew.heap[w.heap.size+1]?=some (.cells #[.int .i64 8,.int .i64 0,.int .i64 0,.string ⟨#[]⟩] 103 (0,0))):=hid (set4 HX.out.er _ _ _ _)
   have HBB:Hid (Below w.heap.size w ((((W1.setCell ⟨w.heap.size+1,0,none⟩ (.int .i64 8)).setCell ⟨w.heap.size+1,1,none⟩ (.int .i64 0)).setCell ⟨w.heap.size+1,2,none⟩ (.int .i64 0)).setCell ⟨w.heap.size+1,3,none⟩ (.string ⟨#[]⟩)).drew):=hid ((((HX.out.mx.lo.setCell (Nat.le_succ _) _).setCell (Nat.le_succ _) _).setCell (Nat.le_succ _) _).setCell (Nat.le_succ _) _).drew
   obtain ⟨W9,hW9⟩:∃ W,((((W1.setCell ⟨w.heap.size+1,0,none⟩ (.int .i64 8)).setCell ⟨w.heap.size+1,1,none⟩ (.int .i64 0)).setCell ⟨w.heap.size+1,2,none⟩ (.int .i64 0)).setCell ⟨w.heap.size+1,3,none⟩ (.string ⟨#[]⟩)).drew=W:=⟨_,rfl⟩
   rw [hW9] at HE HBB ⊢
   clear hW9
   have q0:W9.cell? ⟨w.heap.size+1,0,none⟩=some (.int .i64 8):=C.cell_hp HE.out 0
   have q1:W9.cell? ⟨w.heap.size+1,1,none⟩=some (.int .i64 0):=C.cell_hp HE.out 1
   have q2:W9.cell? ⟨w.heap.size+1,2,none⟩=some (.int .i64 0):=C.cell_hp HE.out 2
   have q3:W9.cell? ⟨w.heap.size+1,3,none⟩=some (.string ⟨#[]⟩):=C.cell_hp HE.out 3
   go_wp2_with fail
   refine bodyPost_ret (v:=.tuple #[.agg #[.int .i64 8,.int .i64 0,.int .i64 0,.string ⟨#[]⟩],.bool false]) (by simp [results,Tryz.results96,go_sem,q0,q1,q2,q3]) rfl ⟨.inr ⟨⟨8,0,0,⟨#[]⟩⟩,rfl,HAW.out⟩,HBB.out⟩
  ·have HAW:Hid (awaits x i=some ⟨8,x.kind,0,⟨#[]⟩⟩):=hid (by unfold awaits;rw [if_pos HLA.out,if_neg hk0])
   obtain ⟨kd,hkd⟩:∃ k,x.kind=k:=⟨_,rfl⟩
   rw [hkd] at c6 HAW hk0
   have hkb:(kd != 0)=true:=by simpa using hk0
   clear hkd hk0
   go_wp2_with fail
   go_region
   clear c3 c6 r0 r1 r2 r3 f0 f1 f2 f3
   have HE:Hid (((((W1.setCell ⟨w.heap.size+1,0,none⟩ (.int .i64 8)).setCell ⟨w.heap.size+1,1,none⟩ (.int .i64 kd)).setCell ⟨w.heap.size+1,2,none⟩ (.int .i64 0)).setCell ⟨w.heap.size+1,3,none⟩ (.string ⟨#[]⟩)).drew.heap[w.heap.size+1]?=some (.cells #[.int .i64 8,.int .i64 kd,.int .i64 0,.string ⟨#[]⟩] 103 (0,0))):=hid (set4 HX.out.er _ _ _ _)
   have HBB:Hid (Below w.heap.size w ((((W1.setCell ⟨w.heap.size+1,0,none⟩ (.int .i64 8)).setCell ⟨w.heap.size+1,1,none⟩ (.int .i64 kd)).setCell ⟨w.heap.size+1,2,none⟩ (.int .i64 0)).setCell ⟨w.heap.size+1,3,none⟩ (.string ⟨#[]⟩)).drew):=hid ((((HX.out.mx.lo.setCell (Nat.le_succ _) _).setCell (Nat.le_succ _) _).setCell (Nat.le_succ _) _).setCell (Nat.le_succ _) _).drew
   obtain ⟨W9,hW9⟩:∃ W,((((W1.setCell ⟨w.heap.size+1,0,none⟩ (.int .i64 8)).setCell ⟨w.heap.size+1,1,none⟩ (.int .i64 kd)).setCell ⟨w.heap.size+1,2,none⟩ (.int .i64 0)).setCell ⟨w.heap.size+1,3,none⟩ (.string ⟨#[]⟩)).drew=W:=⟨_,rfl⟩
   rw [hW9] at HE HBB ⊢
   clear hW9
   have q0:W9.cell? ⟨w.heap.size+1,0,none⟩=some (.int .i64 8):=C.cell_hp HE.out 0
   have q1:W9.cell? ⟨w.heap.size+1,1,none⟩=some (.int .i64 kd):=C.cell_hp HE.out 1
   have q2:W9.cell? ⟨w.heap.size+1,2,none⟩=some (.int .i64 0):=C.cell_hp HE.out 2
   have q3:W9.cell? ⟨w.heap.size+1,3,none⟩=some (.string ⟨#[]⟩):=C.cell_hp HE.out 3
   go_wp2_with fail
   refine bodyPost_ret (v:=.tuple #[.agg #[.int .i64 8,.int .i64 kd,.int .i64 0,.string ⟨#[]⟩],.bool true]) (by simp [results,Tryz.results96,go_sem,q0,q1,q2,q3]) rfl ⟨.inl ⟨⟨8,kd,0,⟨#[]⟩⟩,rfl,HAW.out⟩,HBB.out⟩
 ·have hlt:i+1 < x.frames.length:=by omega
  have HLT:=hid hlt
  have hq:((i:Int) == (x.frames.length:Int) - 1)=false:=by simp;omega
  have HLA:=hid hlast
  have HU:=hid (HW.out hlt)
  clear hlast hsub hlt
  have HUA:=hid (up_any x W1 (HK.out.next HX.out.mx.lo) HO.out HLT.out (i:=i+1) (by have:=HU.out.1;exact this) hl)
  have hii2:((i:Int)+1) < (x.frames.length:Int):=by have:=HLT.out;omega
  have HCI:Hid (((i+1:Nat):Int)=(i:Int)+1):=hid (by omega)
  rw [HCI.out] at HUA
  by_cases hsame:(fr x (i+1)).code=(fr x i).code
  ·have HSAME:Hid ((fr x (i+1)).code=was x (i+1)):=hid hsame
   have HAW:Hid (awaits x i=some ⟨9,(fr x (i+1)).fn,0,⟨#[]⟩⟩):=hid (by unfold awaits;rw [if_neg HLA.out,if_pos hsame])
   clear hsame
   obtain ⟨fn,hfn⟩:∃ f,(fr x (i+1)).fn=f:=⟨_,rfl⟩
   have HFN:Hid ((x.frames.getD (i+1) R.fm0).fn=fn):=hid hfn
   rw [hfn] at HAW
   clear hfn
   go_upto_region 5 with (first | (refine wpList_load_row rfl 34 _ rfl w.heap.size rfl 34 #[v0,v1,v2,.slice (some ⟨gf,0,none⟩) x.frames.length x.frames.length,.int .i64 x.steps,.int .i64 x.looks,.int .i64 x.kind,.string x.name,.string x.hold,.bool x.over,.int .i64 x.fin,.string x.text,v4,v5] (0,0) _ HX.out.mx.e Tryz.underlying34 rfl (by kernel_rfl) ?_) | (go_at_call 66;refine HUA.out.mono ?_;rintro e w2 ⟨⟨u,rfl,hu1,hu0⟩,hb2⟩;have HX2:=hid (HX.out.next hb2);obtain rfl:u=0:=hu0.2 HSAME.out;clear hu1 hu0 hb2))
   clear c3 HUA
   have r0:w2.cell? ⟨w.heap.size+1,0,none⟩=some (.int .i64 0):=C.cell_hp HX2.out.er 0
   have f0:=C.frozen_hp HX2.out.er 0
   have r1:w2.cell? ⟨w.heap.size+1,1,none⟩=some (.int .i64 0):=C.cell_hp HX2.out.er 1
   have f1:=C.frozen_hp HX2.out.er 1
   have r2:w2.cell? ⟨w.heap.size+1,2,none⟩=some (.int .i64 0):=C.cell_hp HX2.out.er 2
   have f2:=C.frozen_hp HX2.out.er 2
   have r3:w2.cell? ⟨w.heap.size+1,3,none⟩=some (.string ⟨#[]⟩):=C.cell_hp HX2.out.er 3
   have f3:=C.frozen_hp HX2.out.er 3
   have c3:=HX2.out.mx.c3
   obtain ⟨_,u0,u1,_,d1,_⟩:=fm_at (HK.out.next HX2.out.mx.lo).k3 HLT.out
   rw [HFN.out] at d1
   go_wp2_with fail
   clear r0 r1 r2 r3 f0 f1 f2 f3
   have HE:Hid (((((w2.setCell ⟨w.heap.size+1,0,none⟩ (.int .i64 9)).setCell ⟨w.heap.size+1,1,none⟩ (.int .i64 fn)).setCell ⟨w.heap.size+1,2,none⟩ (.int .i64 0)).setCell ⟨w.heap.size+1,3,none⟩ (.string ⟨#[]⟩)).heap[w.heap.size+1]?=some (.cells #[.int .i64 9,.int .i64 fn,.int .i64 0,.string ⟨#[]⟩] 103 (0,0))):=hid (set4 HX2.out.er _ _ _ _)
   have HBB:Hid (Below w.heap.size w ((((w2.setCell ⟨w.heap.size+1,0,none⟩ (.int .i64 9)).setCell ⟨w.heap.size+1,1,none⟩ (.int .i64 fn)).setCell ⟨w.heap.size+1,2,none⟩ (.int .i64 0)).setCell ⟨w.heap.size+1,3,none⟩ (.string ⟨#[]⟩))):=hid ((((HX2.out.mx.lo.setCell (Nat.le_succ _) _).setCell (Nat.le_succ _) _).setCell (Nat.le_succ _) _).setCell (Nat.le_succ _) _)
   obtain ⟨W9,hW9⟩:∃ W,((((w2.setCell ⟨w.heap.size+1,0,none⟩ (.int .i64 9)).setCell ⟨w.heap.size+1,1,none⟩ (.int .i64 fn)).setCell ⟨w.heap.size+1,2,none⟩ (.int .i64 0)).setCell ⟨w.heap.size+1,3,none⟩ (.string ⟨#[]⟩))=W:=⟨_,rfl⟩
   rw [hW9] at HE HBB ⊢
   clear hW9
   have q0:W9.cell? ⟨w.heap.size+1,0,none⟩=some (.int .i64 9):=C.cell_hp HE.out 0
   have q1:W9.cell? ⟨w.heap.size+1,1,none⟩=some (.int .i64 fn):=C.cell_hp HE.out 1
   have q2:W9.cell? ⟨w.heap.size+1,2,none⟩=some (.int .i64 0):=C.cell_hp HE.out 2
   have q3:W9.cell? ⟨w.heap.size+1,3,none⟩=some (.string ⟨#[]⟩):=C.cell_hp HE.out 3
   refine bodyPost_ret (v:=.tuple #[.agg #[.int .i64 9,.int .i64 fn,.int .i64 0,.string ⟨#[]⟩],.bool true]) (by simp [results,Tryz.results96,go_sem,q0,q1,q2,q3]) rfl ⟨.inl ⟨⟨9,fn,0,⟨#[]⟩⟩,rfl,HAW.out⟩,HBB.out⟩
  ·have HSAME:Hid ((fr x (i+1)).code=was x (i+1)+1):=hid (HU.out.2.resolve_left hsame)
   have HAW:Hid (awaits x i=some ⟨8,4,0,⟨#[]⟩⟩):=hid (by unfold awaits;rw [if_neg HLA.out,if_neg hsame])
   clear hsame
   go_upto_region 4 with (first | (refine wpList_load_row rfl 34 _ rfl w.heap.size rfl 34 #[v0,v1,v2,.slice (some ⟨gf,0,none⟩) x.frames.length x.frames.length,.int .i64 x.steps,.int .i64 x.looks,.int .i64 x.kind,.string x.name,.string x.hold,.bool x.over,.int .i64 x.fin,.string x.text,v4,v5] (0,0) _ HX.out.mx.e Tryz.underlying34 rfl (by kernel_rfl) ?_) | (go_at_call 66;refine HUA.out.mono ?_;rintro e w2 ⟨⟨u,rfl,hu1,hu0⟩,hb2⟩;have HX2:=hid (HX.out.next hb2);obtain rfl:u=1:=hu1.2 HSAME.out;clear hu1 hu0 hb2))
   clear c3 HUA
   have r0:w2.cell? ⟨w.heap.size+1,0,none⟩=some (.int .i64 0):=C.cell_hp HX2.out.er 0
   have f0:=C.frozen_hp HX2.out.er 0
   have r1:w2.cell? ⟨w.heap.size+1,1,none⟩=some (.int .i64 0):=C.cell_hp HX2.out.er 1
   have f1:=C.frozen_hp HX2.out.er 1
   have r2:w2.cell? ⟨w.heap.size+1,2,none⟩=some (.int .i64 0):=C.cell_hp HX2.out.er 2
   have f2:=C.frozen_hp HX2.out.er 2
   have r3:w2.cell? ⟨w.heap.size+1,3,none⟩=some (.string ⟨#[]⟩):=C.cell_hp HX2.out.er 3
   have f3:=C.frozen_hp HX2.out.er 3
   go_wp2_with fail
   clear r0 r1 r2 r3 f0 f1 f2 f3
   have HE:Hid (((((w2.setCell ⟨w.heap.size+1,0,none⟩ (.int .i64 8)).setCell ⟨w.heap.size+1,1,none⟩ (.int .i64 4)).setCell ⟨w.heap.size+1,2,none⟩ (.int .i64 0)).setCell ⟨w.heap.size+1,3,none⟩ (.string ⟨#[]⟩)).heap[w.heap.size+1]?=some (.cells #[.int .i64 8,.int .i64 4,.int .i64 0,.string ⟨#[]⟩] 103 (0,0))):=hid (set4 HX2.out.er _ _ _ _)
   have HBB:Hid (Below w.heap.size w ((((w2.setCell ⟨w.heap.size+1,0,none⟩ (.int .i64 8)).setCell ⟨w.heap.size+1,1,none⟩ (.int .i64 4)).setCell ⟨w.heap.size+1,2,none⟩ (.int .i64 0)).setCell ⟨w.heap.size+1,3,none⟩ (.string ⟨#[]⟩))):=hid ((((HX2.out.mx.lo.setCell (Nat.le_succ _) _).setCell (Nat.le_succ _) _).setCell (Nat.le_succ _) _).setCell (Nat.le_succ _) _)
   obtain ⟨W9,hW9⟩:∃ W,((((w2.setCell ⟨w.heap.size+1,0,none⟩ (.int .i64 8)).setCell ⟨w.heap.size+1,1,none⟩ (.int .i64 4)).setCell ⟨w.heap.size+1,2,none⟩ (.int .i64 0)).setCell ⟨w.heap.size+1,3,none⟩ (.string ⟨#[]⟩))=W:=⟨_,rfl⟩
   rw [hW9] at HE HBB ⊢
   clear hW9
   have q0:W9.cell? ⟨w.heap.size+1,0,none⟩=some (.int .i64 8):=C.cell_hp HE.out 0
   have q1:W9.cell? ⟨w.heap.size+1,1,none⟩=some (.int .i64 4):=C.cell_hp HE.out 1
   have q2:W9.cell? ⟨w.heap.size+1,2,none⟩=some (.int .i64 0):=C.cell_hp HE.out 2
   have q3:W9.cell? ⟨w.heap.size+1,3,none⟩=some (.string ⟨#[]⟩):=C.cell_hp HE.out 3
   refine bodyPost_ret (v:=.tuple #[.agg #[.int .i64 8,.int .i64 4,.int .i64 0,.string ⟨#[]⟩],.bool true]) (by simp [results,Tryz.results96,go_sem,q0,q1,q2,q3]) rfl ⟨.inl ⟨⟨8,4,0,⟨#[]⟩⟩,rfl,HAW.out⟩,HBB.out⟩
end Go.Proofs.YtbkmglknbflkhaaGreatDoor.M
