import Derived.Test.YtbkmglknbflkhaaGreatDoorCards
import Derived.Test.YtbkmglknbflkhaaGreatDoorTie
import Derived.ProofKit
import Derived.Deep.Slices
import Derived.OpenShut
import Derived.Shelf.Vars
import Derived.Deep.DeepHandedRow
import Derived.OpenVars
import Derived.LaidHandle
import Derived.Stop.LaidErr
import Derived.Lib.LaidTab
import Derived.Test.YtbkmglknbflkhaaGreatDoorJ22
import Derived.Test.YtbkmglknbflkhaaGreatDoorJ46
import Derived.Test.YtbkmglknbflkhaaGreatDoorJ44
import Derived.Test.YtbkmglknbflkhaaGreatDoorJ06
namespace Go.Proofs.YtbkmglknbflkhaaGreatDoor.R
open Go.RowKit
set_option maxRecDepth 20000
set_option maxHeartbeats 4000000 in
theorem toMc_any (x:Mc) {v0 v1 v2 v3 v4 v5:Value} (w:World) (hx:LoMc x) (k0:SCdA w v0 x.codes) (k1:SStrA w v1 x.args) (k2:SStrA w v2 x.outs) (k3:SFmA w v3 x.frames) (k4:SFlA w v4 x.files) (k5:SStrA w v5 x.said) :
  Calls Tryz.prog 7 #[.agg #[v0,v1,v2,v3,.int .i64 x.steps,.int .i64 x.looks,.int .i64 x.kind,.string x.name,.string x.hold,.bool x.over,.int .i64 x.fin,.string x.text,v4,v5]] w fun e w'=>∃ u0 u1 u2 u3 u4 u5,e=.returned (.agg #[u0,u1,u2,u3,.int .i64 x.steps,.int .i64 x.looks,.int .i64 x.kind,.string x.name,.string x.hold,.bool x.over,.int .i64 x.fin,.string x.text,u4,u5])∧SCdR w.heap.size w' u0 x.codes∧SStrR w.heap.size w' u1 x.args∧SStrR w.heap.size w' u2 x.outs∧SFmR w.heap.size w' u3 x.frames∧SFlR w.heap.size w' u4 x.files∧SStrR w.heap.size w' u5 x.said∧Below w.heap.size w w':=by
 have K0:=hid k0
 have K1:=hid k1
 have K2:=hid k2
 have K3:=hid k3
 have K4:=hid k4
 have K5:=hid k5
 obtain ⟨ad0,cp0,rfl⟩:=k0.sl
 obtain ⟨ad1,cp1,rfl⟩:=k1.sl
 obtain ⟨ad2,cp2,rfl⟩:=k2.sl
 obtain ⟨ad3,cp3,rfl⟩:=k3.sl
 obtain ⟨ad4,cp4,rfl⟩:=k4.sl
 obtain ⟨ad5,cp5,rfl⟩:=k5.sl
 clear k0 k1 k2 k3 k4 k5
 have HLO:=hid hx
 clear hx
 have HX0:=hid (B3.start w (.cells #[.slice ad0 x.codes.length cp0,.slice ad1 x.args.length cp1,.slice ad2 x.outs.length cp2,.slice ad3 x.frames.length cp3,.int .i64 x.steps,.int .i64 x.looks,.int .i64 x.kind,.string x.name,.string x.hold,.bool x.over,.int .i64 x.fin,.string x.text,.slice ad4 x.files.length cp4,.slice ad5 x.said.length cp5] 27) #[.slice none 0 0,.slice none 0 0,.slice none 0 0,.slice none 0 0,.int .i64 0,.int .i64 0,.int .i64 0,.string ⟨#[]⟩,.string ⟨#[]⟩,.bool false,.int .i64 0,.string ⟨#[]⟩,.slice none 0 0,.slice none 0 0] #[.slice none 0 0,.slice none 0 0,.slice none 0 0,.slice none 0 0,.int .i64 0,.int .i64 0,.int .i64 0,.string ⟨#[]⟩,.string ⟨#[]⟩,.bool false,.int .i64 0,.string ⟨#[]⟩,.slice none 0 0,.slice none 0 0] 34)
 obtain ⟨W0,hW0⟩:∃ W,((w.alloc (.cells #[.slice ad0 x.codes.length cp0,.slice ad1 x.args.length cp1,.slice ad2 x.outs.length cp2,.slice ad3 x.frames.length cp3,.int .i64 x.steps,.int .i64 x.looks,.int .i64 x.kind,.string x.name,.string x.hold,.bool x.over,.int .i64 x.fin,.string x.text,.slice ad4 x.files.length cp4,.slice ad5 x.said.length cp5] 27)).alloc (.cells #[.slice none 0 0,.slice none 0 0,.slice none 0 0,.slice none 0 0,.int .i64 0,.int .i64 0,.int .i64 0,.string ⟨#[]⟩,.string ⟨#[]⟩,.bool false,.int .i64 0,.string ⟨#[]⟩,.slice none 0 0,.slice none 0 0] 34)).alloc (.cells #[.slice none 0 0,.slice none 0 0,.slice none 0 0,.slice none 0 0,.int .i64 0,.int .i64 0,.int .i64 0,.string ⟨#[]⟩,.string ⟨#[]⟩,.bool false,.int .i64 0,.string ⟨#[]⟩,.slice none 0 0,.slice none 0 0] 34)=W:=⟨_,rfl⟩
 rw [hW0] at HX0
 have a0_0:W0.cell? ⟨w.heap.size,0,none⟩=some (.slice ad0 x.codes.length cp0):=row_cell HX0.out.e 0
 go_enter Tryz.func7,Tryz.ntmps7
 go_wp2_with fail
 clear hW0
 have HY0:=hid HX0.out
 clear a0_0 HX0
 refine (toSCd_any x.codes W0 HLO.out.1 (K0.out.next HY0.out.lo)).mono ?_
 rintro e w1 ⟨u0,rfl,r0,hb0⟩
 have HRu0:=hid (r0.mono (B':=w.heap.size+3) HY0.out.sz)
 obtain ⟨gu0,rfl⟩:=r0.sl
 clear r0
 have HX1:=hid (HY0.out.next hb0)
 clear hb0 HY0
 have a1_0:w1.cell? ⟨w.heap.size,0,none⟩=some (.slice ad0 x.codes.length cp0):=row_cell HX1.out.e 0
 have a1_1:w1.cell? ⟨w.heap.size,1,none⟩=some (.slice ad1 x.args.length cp1):=row_cell HX1.out.e 1
 have o1_0:w1.cell? ⟨w.heap.size+1+1,0,none⟩=some (.slice none 0 0):=row_cell HX1.out.o 0
 have z1_0:w1.frozen? ⟨w.heap.size+1+1,0,none⟩=false:=(row_room HX1.out.o (i:=0) (by simp)).2
 go_wp2_with fail
 have HY1:=hid ((HX1.out.set 0 (.slice (some ⟨gu0,0,none⟩) x.codes.length x.codes.length)).cast (O':=#[.slice (some ⟨gu0,0,none⟩) x.codes.length x.codes.length,.slice none 0 0,.slice none 0 0,.slice none 0 0,.int .i64 0,.int .i64 0,.int .i64 0,.string ⟨#[]⟩,.string ⟨#[]⟩,.bool false,.int .i64 0,.string ⟨#[]⟩,.slice none 0 0,.slice none 0 0]) rfl)
 have HRu0_1:=hid (HRu0.out.set (b:=w.heap.size+1+1) (by omega) 0 (.slice (some ⟨gu0,0,none⟩) x.codes.length x.codes.length))
 obtain ⟨V1,hV1⟩:∃ V,(w1.setCell ⟨w.heap.size+1+1,0,none⟩ (.slice (some ⟨gu0,0,none⟩) x.codes.length x.codes.length))=V:=⟨_,rfl⟩
 rw [hV1] at HY1 HRu0_1 ⊢
 clear hV1
 clear a1_0 a1_1 o1_0 z1_0 HX1 HRu0
 refine (toSStr_any x.args V1 HLO.out.2.1 (K1.out.next HY1.out.lo)).mono ?_
 rintro e w2 ⟨u1,rfl,r1,hb1⟩
 have HRu1:=hid (r1.mono (B':=w.heap.size+3) HY1.out.sz)
 obtain ⟨gu1,rfl⟩:=r1.sl
 clear r1
 have HX2:=hid (HY1.out.next hb1)
 have HRu0:=hid (HRu0_1.out.next hb1)
 clear HRu0_1
 clear hb1 HY1
 have a2_1:w2.cell? ⟨w.heap.size,1,none⟩=some (.slice ad1 x.args.length cp1):=row_cell HX2.out.e 1
 have a2_2:w2.cell? ⟨w.heap.size,2,none⟩=some (.slice ad2 x.outs.length cp2):=row_cell HX2.out.e 2
 have o2_1:w2.cell? ⟨w.heap.size+1+1,1,none⟩=some (.slice none 0 0):=row_cell HX2.out.o 1
 have z2_1:w2.frozen? ⟨w.heap.size+1+1,1,none⟩=false:=(row_room HX2.out.o (i:=1) (by simp)).2
 go_wp2_with fail
 have HY2:=hid ((HX2.out.set 1 (.slice (some ⟨gu1,0,none⟩) x.args.length x.args.length)).cast (O':=#[.slice (some ⟨gu0,0,none⟩) x.codes.length x.codes.length,.slice (some ⟨gu1,0,none⟩) x.args.length x.args.length,.slice none 0 0,.slice none 0 0,.int .i64 0,.int .i64 0,.int .i64 0,.string ⟨#[]⟩,.string ⟨#[]⟩,.bool false,.int .i64 0,.string ⟨#[]⟩,.slice none 0 0,.slice none 0 0]) rfl)
 have HRu0_2:=hid (HRu0.out.set (b:=w.heap.size+1+1) (by omega) 1 (.slice (some ⟨gu1,0,none⟩) x.args.length x.args.length))
 have HRu1_2:=hid (HRu1.out.set (b:=w.heap.size+1+1) (by omega) 1 (.slice (some ⟨gu1,0,none⟩) x.args.length x.args.length))
 obtain ⟨V2,hV2⟩:∃ V,(w2.setCell ⟨w.heap.size+1+1,1,none⟩ (.slice (some ⟨gu1,0,none⟩) x.args.length x.args.length))=V:=⟨_,rfl⟩
 rw [hV2] at HY2 HRu0_2 HRu1_2 ⊢
 clear hV2
 clear a2_1 a2_2 o2_1 z2_1 HX2 HRu0 HRu1
 refine (toSStr_any x.outs V2 HLO.out.2.2.1 (K2.out.next HY2.out.lo)).mono ?_
 rintro e w3 ⟨u2,rfl,r2,hb2⟩
 have HRu2:=hid (r2.mono (B':=w.heap.size+3) HY2.out.sz)
 obtain ⟨gu2,rfl⟩:=r2.sl
 clear r2
 have HX3:=hid (HY2.out.next hb2)
 have HRu0:=hid (HRu0_2.out.next hb2)
 clear HRu0_2
 have HRu1:=hid (HRu1_2.out.next hb2)
 clear HRu1_2
 clear hb2 HY2
 have a3_2:w3.cell? ⟨w.heap.size,2,none⟩=some (.slice ad2 x.outs.length cp2):=row_cell HX3.out.e 2
 have a3_3:w3.cell? ⟨w.heap.size,3,none⟩=some (.slice ad3 x.frames.length cp3):=row_cell HX3.out.e 3
 have o3_2:w3.cell? ⟨w.heap.size+1+1,2,none⟩=some (.slice none 0 0):=row_cell HX3.out.o 2
 have z3_2:w3.frozen? ⟨w.heap.size+1+1,2,none⟩=false:=(row_room HX3.out.o (i:=2) (by simp)).2
 go_wp2_with fail
 have HY3:=hid ((HX3.out.set 2 (.slice (some ⟨gu2,0,none⟩) x.outs.length x.outs.length)).cast (O':=#[.slice (some ⟨gu0,0,none⟩) x.codes.length x.codes.length,.slice (some ⟨gu1,0,none⟩) x.args.length x.args.length,.slice (some ⟨gu2,0,none⟩) x.outs.length x.outs.length,.slice none 0 0,.int .i64 0,.int .i64 0,.int .i64 0,.string ⟨#[]⟩,.string ⟨#[]⟩,.bool false,.int .i64 0,.string ⟨#[]⟩,.slice none 0 0,.slice none 0 0]) rfl)
 have HRu0_3:=hid (HRu0.out.set (b:=w.heap.size+1+1) (by omega) 2 (.slice (some ⟨gu2,0,none⟩) x.outs.length x.outs.length))
 have HRu1_3:=hid (HRu1.out.set (b:=w.heap.size+1+1) (by omega) 2 (.slice (some ⟨gu2,0,none⟩) x.outs.length x.outs.length))
 have HRu2_3:=hid (HRu2.out.set (b:=w.heap.size+1+1) (by omega) 2 (.slice (some ⟨gu2,0,none⟩) x.outs.length x.outs.length))
 obtain ⟨V3,hV3⟩:∃ V,(w3.setCell ⟨w.heap.size+1+1,2,none⟩ (.slice (some ⟨gu2,0,none⟩) x.outs.length x.outs.length))=V:=⟨_,rfl⟩
 rw [hV3] at HY3 HRu0_3 HRu1_3 HRu2_3 ⊢
 clear hV3
 clear a3_2 a3_3 o3_2 z3_2 HX3 HRu0 HRu1 HRu2
 refine (toSFm_any x.frames V3 HLO.out.2.2.2.1 (K3.out.next HY3.out.lo)).mono ?_
 rintro e w4 ⟨u3,rfl,r3,hb3⟩
 have HRu3:=hid (r3.mono (B':=w.heap.size+3) HY3.out.sz)
 obtain ⟨gu3,rfl⟩:=r3.sl
 clear r3
 have HX4:=hid (HY3.out.next hb3)
 have HRu0:=hid (HRu0_3.out.next hb3)
 clear HRu0_3
 have HRu1:=hid (HRu1_3.out.next hb3)
 clear HRu1_3
 have HRu2:=hid (HRu2_3.out.next hb3)
 clear HRu2_3
 clear hb3 HY3
 have a4_3:w4.cell? ⟨w.heap.size,3,none⟩=some (.slice ad3 x.frames.length cp3):=row_cell HX4.out.e 3
 have a4_4:w4.cell? ⟨w.heap.size,4,none⟩=some (.int .i64 x.steps):=row_cell HX4.out.e 4
 have a4_5:w4.cell? ⟨w.heap.size,5,none⟩=some (.int .i64 x.looks):=row_cell HX4.out.e 5
 have a4_6:w4.cell? ⟨w.heap.size,6,none⟩=some (.int .i64 x.kind):=row_cell HX4.out.e 6
 have a4_7:w4.cell? ⟨w.heap.size,7,none⟩=some (.string x.name):=row_cell HX4.out.e 7
 have a4_8:w4.cell? ⟨w.heap.size,8,none⟩=some (.string x.hold):=row_cell HX4.out.e 8
 have a4_9:w4.cell? ⟨w.heap.size,9,none⟩=some (.bool x.over):=row_cell HX4.out.e 9
 have a4_10:w4.cell? ⟨w.heap.size,10,none⟩=some (.int .i64 x.fin):=row_cell HX4.out.e 10
 have a4_11:w4.cell? ⟨w.heap.size,11,none⟩=some (.string x.text):=row_cell HX4.out.e 11
 have a4_12:w4.cell? ⟨w.heap.size,12,none⟩=some (.slice ad4 x.files.length cp4):=row_cell HX4.out.e 12
 have o4_3:w4.cell? ⟨w.heap.size+1+1,3,none⟩=some (.slice none 0 0):=row_cell HX4.out.o 3
 have z4_3:w4.frozen? ⟨w.heap.size+1+1,3,none⟩=false:=(row_room HX4.out.o (i:=3) (by simp)).2
 have o4_4:w4.cell? ⟨w.heap.size+1+1,4,none⟩=some (.int .i64 0):=row_cell HX4.out.o 4
 have z4_4:w4.frozen? ⟨w.heap.size+1+1,4,none⟩=false:=(row_room HX4.out.o (i:=4) (by simp)).2
 have o4_5:w4.cell? ⟨w.heap.size+1+1,5,none⟩=some (.int .i64 0):=row_cell HX4.out.o 5
 have z4_5:w4.frozen? ⟨w.heap.size+1+1,5,none⟩=false:=(row_room HX4.out.o (i:=5) (by simp)).2
 have o4_6:w4.cell? ⟨w.heap.size+1+1,6,none⟩=some (.int .i64 0):=row_cell HX4.out.o 6
 have z4_6:w4.frozen? ⟨w.heap.size+1+1,6,none⟩=false:=(row_room HX4.out.o (i:=6) (by simp)).2
 have o4_7:w4.cell? ⟨w.heap.size+1+1,7,none⟩=some (.string ⟨#[]⟩):=row_cell HX4.out.o 7
 have z4_7:w4.frozen? ⟨w.heap.size+1+1,7,none⟩=false:=(row_room HX4.out.o (i:=7) (by simp)).2
 have o4_8:w4.cell? ⟨w.heap.size+1+1,8,none⟩=some (.string ⟨#[]⟩):=row_cell HX4.out.o 8
 have z4_8:w4.frozen? ⟨w.heap.size+1+1,8,none⟩=false:=(row_room HX4.out.o (i:=8) (by simp)).2
 have o4_9:w4.cell? ⟨w.heap.size+1+1,9,none⟩=some (.bool false):=row_cell HX4.out.o 9
 have z4_9:w4.frozen? ⟨w.heap.size+1+1,9,none⟩=false:=(row_room HX4.out.o (i:=9) (by simp)).2
 have o4_10:w4.cell? ⟨w.heap.size+1+1,10,none⟩=some (.int .i64 0):=row_cell HX4.out.o 10
 have z4_10:w4.frozen? ⟨w.heap.size+1+1,10,none⟩=false:=(row_room HX4.out.o (i:=10) (by simp)).2
 have o4_11:w4.cell? ⟨w.heap.size+1+1,11,none⟩=some (.string ⟨#[]⟩):=row_cell HX4.out.o 11
 have z4_11:w4.frozen? ⟨w.heap.size+1+1,11,none⟩=false:=(row_room HX4.out.o (i:=11) (by simp)).2
 go_wp2_with fail
 have HY4:=hid ((((((((((((((((((HX4.out.set 3 (.slice (some ⟨gu3,0,none⟩) x.frames.length x.frames.length)).cast (O':=#[.slice (some ⟨gu0,0,none⟩) x.codes.length x.codes.length,.slice (some ⟨gu1,0,none⟩) x.args.length x.args.length,.slice (some ⟨gu2,0,none⟩) x.outs.length x.outs.length,.slice (some ⟨gu3,0,none⟩) x.frames.length x.frames.length,.int .i64 0,.int .i64 0,.int .i64 0,.string ⟨#[]⟩,.string ⟨#[]⟩,.bool false,.int .i64 0,.string ⟨#[]⟩,.slice none 0 0,.slice none 0 0]) rfl).set 4 (.int .i64 x.steps)).cast (O':=#[.slice (some ⟨gu0,0,none⟩) x.codes.length x.codes.length,.slice (some ⟨gu1,0,none⟩) x.args.length x.args.length,.slice (some ⟨gu2,0,none⟩) x.outs.length x.outs.length,.slice (some ⟨gu3,0,none⟩) x.frames.length x.frames.length,.int .i64 x.steps,.int .i64 0,.int .i64 0,.string ⟨#[]⟩,.string ⟨#[]⟩,.bool false,.int .i64 0,.string ⟨#[]⟩,.slice none 0 0,.slice none 0 0]) rfl).set 5 (.int .i64 x.looks)).cast (O':=#[.slice (some ⟨gu0,0,none⟩) x.codes.length x.codes.length,.slice (some ⟨gu1,0,none⟩) x.args.length x.args.length,.slice (some ⟨gu2,0,none⟩) x.outs.length x.outs.length,.slice (some ⟨gu3,0,none⟩) x.frames.length x.frames.length,.int .i64 x.steps,.int .i64 x.looks,.int .i64 0,.string ⟨#[]⟩,.string ⟨#[]⟩,.bool false,.int .i64 0,.string ⟨#[]⟩,.slice none 0 0,.slice none 0 0]) rfl).set 6 (.int .i64 x.kind)).cast (O':=#[.slice (some ⟨gu0,0,none⟩) x.codes.length x.codes.length,.slice (some ⟨gu1,0,none⟩) x.args.length x.args.length,.slice (some ⟨gu2,0,none⟩) x.outs.length x.outs.length,.slice (some ⟨gu3,0,none⟩) x.frames.length x.frames.length,.int .i64 x.steps,.int .i64 x.looks,.int .i64 x.kind,.string ⟨#[]⟩,.string ⟨#[]⟩,.bool false,.int .i64 0,.string ⟨#[]⟩,.slice none 0 0,.slice none 0 0]) rfl).set 7 (.string x.name)).cast (O':=#[.slice (some ⟨gu0,0,none⟩) x.codes.length x.codes.length,.slice (some ⟨gu1,0,none⟩) x.args.length x.args.length,.slice (some ⟨gu2,0,none⟩) x.outs.length x.outs.length,.slice (some ⟨gu3,0,none⟩) x.frames.length x.frames.length,.int .i64 x.steps,.int .i64 x.looks,.int .i64 x.kind,.string x.name,.string ⟨#[]⟩,.bool false,.int .i64 0,.string ⟨#[]⟩,.slice none 0 0,.slice none 0 0]) rfl).set 8 (.string x.hold)).cast (O':=#[.slice (some ⟨gu0,0,none⟩) x.codes.length x.codes.length,.slice (some ⟨gu1,0,none⟩) x.args.length x.args.length,.slice (some ⟨gu2,0,none⟩) x.outs.length x.outs.length,.slice (some ⟨gu3,0,none⟩) x.frames.length x.frames.length,.int .i64 x.steps,.int .i64 x.looks,.int .i64 x.kind,.string x.name,.string x.hold,.bool false,.int .i64 0,.string ⟨#[]⟩,.slice none 0 0,.slice none 0 0]) rfl).set 9 (.bool x.over)).cast (O':=#[.slice (some ⟨gu0,0,none⟩) x.codes.length x.codes.length,.slice (some ⟨gu1,0,none⟩) x.args.length x.args.length,.slice (some ⟨gu2,0,none⟩) x.outs.length x.outs.length,.slice (some ⟨gu3,0,none⟩) x.frames.length x.frames.length,.int .i64 x.steps,.int .i64 x.looks,.int .i64 x.kind,.string x.name,.string x.hold,.bool x.over,.int .i64 0,.string ⟨#[]⟩,.slice none 0 0,.slice none 0 0]) rfl).set 10 (.int .i64 x.fin)).cast (O':=#[.slice (some ⟨gu0,0,none⟩) x.codes.length x.codes.length,.slice (some ⟨gu1,0,none⟩) x.args.length x.args.length,.slice (some ⟨gu2,0,none⟩) x.outs.length x.outs.length,.slice (some ⟨gu3,0,none⟩) x.frames.length x.frames.length,.int .i64 x.steps,.int .i64 x.looks,.int .i64 x.kind,.string x.name,.string x.hold,.bool x.over,.int .i64 x.fin,.string ⟨#[]⟩,.slice none 0 0,.slice none 0 0]) rfl).set 11 (.string x.text)).cast (O':=#[.slice (some ⟨gu0,0,none⟩) x.codes.length x.codes.length,.slice (some ⟨gu1,0,none⟩) x.args.length x.args.length,.slice (some ⟨gu2,0,none⟩) x.outs.length x.outs.length,.slice (some ⟨gu3,0,none⟩) x.frames.length x.frames.length,.int .i64 x.steps,.int .i64 x.looks,.int .i64 x.kind,.string x.name,.string x.hold,.bool x.over,.int .i64 x.fin,.string x.text,.slice none 0 0,.slice none 0 0]) rfl)
 have HRu0_4:=hid (((((((((HRu0.out.set (b:=w.heap.size+1+1) (by omega) 3 (.slice (some ⟨gu3,0,none⟩) x.frames.length x.frames.length)).set (b:=w.heap.size+1+1) (by omega) 4 (.int .i64 x.steps)).set (b:=w.heap.size+1+1) (by omega) 5 (.int .i64 x.looks)).set (b:=w.heap.size+1+1) (by omega) 6 (.int .i64 x.kind)).set (b:=w.heap.size+1+1) (by omega) 7 (.string x.name)).set (b:=w.heap.size+1+1) (by omega) 8 (.string x.hold)).set (b:=w.heap.size+1+1) (by omega) 9 (.bool x.over)).set (b:=w.heap.size+1+1) (by omega) 10 (.int .i64 x.fin)).set (b:=w.heap.size+1+1) (by omega) 11 (.string x.text))
 have HRu1_4:=hid (((((((((HRu1.out.set (b:=w.heap.size+1+1) (by omega) 3 (.slice (some ⟨gu3,0,none⟩) x.frames.length x.frames.length)).set (b:=w.heap.size+1+1) (by omega) 4 (.int .i64 x.steps)).set (b:=w.heap.size+1+1) (by omega) 5 (.int .i64 x.looks)).set (b:=w.heap.size+1+1) (by omega) 6 (.int .i64 x.kind)).set (b:=w.heap.size+1+1) (by omega) 7 (.string x.name)).set (b:=w.heap.size+1+1) (by omega) 8 (.string x.hold)).set (b:=w.heap.size+1+1) (by omega) 9 (.bool x.over)).set (b:=w.heap.size+1+1) (by omega) 10 (.int .i64 x.fin)).set (b:=w.heap.size+1+1) (by omega) 11 (.string x.text))
 have HRu2_4:=hid (((((((((HRu2.out.set (b:=w.heap.size+1+1) (by omega) 3 (.slice (some ⟨gu3,0,none⟩) x.frames.length x.frames.length)).set (b:=w.heap.size+1+1) (by omega) 4 (.int .i64 x.steps)).set (b:=w.heap.size+1+1) (by omega) 5 (.int .i64 x.looks)).set (b:=w.heap.size+1+1) (by omega) 6 (.int .i64 x.kind)).set (b:=w.heap.size+1+1) (by omega) 7 (.string x.name)).set (b:=w.heap.size+1+1) (by omega) 8 (.string x.hold)).set (b:=w.heap.size+1+1) (by omega) 9 (.bool x.over)).set (b:=w.heap.size+1+1) (by omega) 10 (.int .i64 x.fin)).set (b:=w.heap.size+1+1) (by omega) 11 (.string x.text))
 have HRu3_4:=hid (((((((((HRu3.out.set (b:=w.heap.size+1+1) (by omega) 3 (.slice (some ⟨gu3,0,none⟩) x.frames.length x.frames.length)).set (b:=w.heap.size+1+1) (by omega) 4 (.int .i64 x.steps)).set (b:=w.heap.size+1+1) (by omega) 5 (.int .i64 x.looks)).set (b:=w.heap.size+1+1) (by omega) 6 (.int .i64 x.kind)).set (b:=w.heap.size+1+1) (by omega) 7 (.string x.name)).set (b:=w.heap.size+1+1) (by omega) 8 (.string x.hold)).set (b:=w.heap.size+1+1) (by omega) 9 (.bool x.over)).set (b:=w.heap.size+1+1) (by omega) 10 (.int .i64 x.fin)).set (b:=w.heap.size+1+1) (by omega) 11 (.string x.text))
 obtain ⟨V4,hV4⟩:∃ V,(((((((((w4.setCell ⟨w.heap.size+1+1,3,none⟩ (.slice (some ⟨gu3,0,none⟩) x.frames.length x.frames.length)).setCell ⟨w.heap.size+1+1,4,none⟩ (.int .i64 x.steps)).setCell ⟨w.heap.size+1+1,5,none⟩ (.int .i64 x.looks)).setCell ⟨w.heap.size+1+1,6,none⟩ (.int .i64 x.kind)).setCell ⟨w.heap.size+1+1,7,none⟩ (.string x.name)).setCell ⟨w.heap.size+1+1,8,none⟩ (.string x.hold)).setCell ⟨w.heap.size+1+1,9,none⟩ (.bool x.over)).setCell ⟨w.heap.size+1+1,10,none⟩ (.int .i64 x.fin)).setCell ⟨w.heap.size+1+1,11,none⟩ (.string x.text))=V:=⟨_,rfl⟩
 rw [hV4] at HY4 HRu0_4 HRu1_4 HRu2_4 HRu3_4 ⊢
 clear hV4
 clear a4_3 a4_4 a4_5 a4_6 a4_7 a4_8 a4_9 a4_10 a4_11 a4_12 o4_3 z4_3 o4_4 z4_4 o4_5 z4_5 o4_6 z4_6 o4_7 z4_7 o4_8 z4_8 o4_9 z4_9 o4_10 z4_10 o4_11 z4_11 HX4 HRu0 HRu1 HRu2 HRu3
 refine (toSFl_any x.files V4 HLO.out.2.2.2.2.1 (K4.out.next HY4.out.lo)).mono ?_
 rintro e w5 ⟨u4,rfl,r4,hb4⟩
 have HRu4:=hid (r4.mono (B':=w.heap.size+3) HY4.out.sz)
 obtain ⟨gu4,rfl⟩:=r4.sl
 clear r4
 have HX5:=hid (HY4.out.next hb4)
 have HRu0:=hid (HRu0_4.out.next hb4)
 clear HRu0_4
 have HRu1:=hid (HRu1_4.out.next hb4)
 clear HRu1_4
 have HRu2:=hid (HRu2_4.out.next hb4)
 clear HRu2_4
 have HRu3:=hid (HRu3_4.out.next hb4)
 clear HRu3_4
 clear hb4 HY4
 have a5_12:w5.cell? ⟨w.heap.size,12,none⟩=some (.slice ad4 x.files.length cp4):=row_cell HX5.out.e 12
 have a5_13:w5.cell? ⟨w.heap.size,13,none⟩=some (.slice ad5 x.said.length cp5):=row_cell HX5.out.e 13
 have o5_12:w5.cell? ⟨w.heap.size+1+1,12,none⟩=some (.slice none 0 0):=row_cell HX5.out.o 12
 have z5_12:w5.frozen? ⟨w.heap.size+1+1,12,none⟩=false:=(row_room HX5.out.o (i:=12) (by simp)).2
 go_wp2_with fail
 have HY5:=hid ((HX5.out.set 12 (.slice (some ⟨gu4,0,none⟩) x.files.length x.files.length)).cast (O':=#[.slice (some ⟨gu0,0,none⟩) x.codes.length x.codes.length,.slice (some ⟨gu1,0,none⟩) x.args.length x.args.length,.slice (some ⟨gu2,0,none⟩) x.outs.length x.outs.length,.slice (some ⟨gu3,0,none⟩) x.frames.length x.frames.length,.int .i64 x.steps,.int .i64 x.looks,.int .i64 x.kind,.string x.name,.string x.hold,.bool x.over,.int .i64 x.fin,.string x.text,.slice (some ⟨gu4,0,none⟩) x.files.length x.files.length,.slice none 0 0]) rfl)
 have HRu0_5:=hid (HRu0.out.set (b:=w.heap.size+1+1) (by omega) 12 (.slice (some ⟨gu4,0,none⟩) x.files.length x.files.length))
 have HRu1_5:=hid (HRu1.out.set (b:=w.heap.size+1+1) (by omega) 12 (.slice (some ⟨gu4,0,none⟩) x.files.length x.files.length))
 have HRu2_5:=hid (HRu2.out.set (b:=w.heap.size+1+1) (by omega) 12 (.slice (some ⟨gu4,0,none⟩) x.files.length x.files.length))
 have HRu3_5:=hid (HRu3.out.set (b:=w.heap.size+1+1) (by omega) 12 (.slice (some ⟨gu4,0,none⟩) x.files.length x.files.length))
 have HRu4_5:=hid (HRu4.out.set (b:=w.heap.size+1+1) (by omega) 12 (.slice (some ⟨gu4,0,none⟩) x.files.length x.files.length))
 obtain ⟨V5,hV5⟩:∃ V,(w5.setCell ⟨w.heap.size+1+1,12,none⟩ (.slice (some ⟨gu4,0,none⟩) x.files.length x.files.length))=V:=⟨_,rfl⟩
 rw [hV5] at HY5 HRu0_5 HRu1_5 HRu2_5 HRu3_5 HRu4_5 ⊢
 clear hV5
 clear a5_12 a5_13 o5_12 z5_12 HX5 HRu0 HRu1 HRu2 HRu3 HRu4
 refine (toSStr_any x.said V5 HLO.out.2.2.2.2.2 (K5.out.next HY5.out.lo)).mono ?_
 rintro e w6 ⟨u5,rfl,r5,hb5⟩
 have HRu5:=hid (r5.mono (B':=w.heap.size+3) HY5.out.sz)
 obtain ⟨gu5,rfl⟩:=r5.sl
 clear r5
 have HX6:=hid (HY5.out.next hb5)
 have HRu0:=hid (HRu0_5.out.next hb5)
 clear HRu0_5
 have HRu1:=hid (HRu1_5.out.next hb5)
 clear HRu1_5
 have HRu2:=hid (HRu2_5.out.next hb5)
 clear HRu2_5
 have HRu3:=hid (HRu3_5.out.next hb5)
 clear HRu3_5
 have HRu4:=hid (HRu4_5.out.next hb5)
 clear HRu4_5
 clear hb5 HY5
 have o6_13:w6.cell? ⟨w.heap.size+1+1,13,none⟩=some (.slice none 0 0):=row_cell HX6.out.o 13
 have z6_13:w6.frozen? ⟨w.heap.size+1+1,13,none⟩=false:=(row_room HX6.out.o (i:=13) (by simp)).2
 go_upto_region 16 with fail
 have HZ:=hid ((HX6.out.set 13 (.slice (some ⟨gu5,0,none⟩) x.said.length x.said.length)).cast (O':=#[.slice (some ⟨gu0,0,none⟩) x.codes.length x.codes.length,.slice (some ⟨gu1,0,none⟩) x.args.length x.args.length,.slice (some ⟨gu2,0,none⟩) x.outs.length x.outs.length,.slice (some ⟨gu3,0,none⟩) x.frames.length x.frames.length,.int .i64 x.steps,.int .i64 x.looks,.int .i64 x.kind,.string x.name,.string x.hold,.bool x.over,.int .i64 x.fin,.string x.text,.slice (some ⟨gu4,0,none⟩) x.files.length x.files.length,.slice (some ⟨gu5,0,none⟩) x.said.length x.said.length]) rfl)
 have HRZu0:=hid (HRu0.out.set (b:=w.heap.size+1+1) (by omega) 13 (.slice (some ⟨gu5,0,none⟩) x.said.length x.said.length))
 have HRZu1:=hid (HRu1.out.set (b:=w.heap.size+1+1) (by omega) 13 (.slice (some ⟨gu5,0,none⟩) x.said.length x.said.length))
 have HRZu2:=hid (HRu2.out.set (b:=w.heap.size+1+1) (by omega) 13 (.slice (some ⟨gu5,0,none⟩) x.said.length x.said.length))
 have HRZu3:=hid (HRu3.out.set (b:=w.heap.size+1+1) (by omega) 13 (.slice (some ⟨gu5,0,none⟩) x.said.length x.said.length))
 have HRZu4:=hid (HRu4.out.set (b:=w.heap.size+1+1) (by omega) 13 (.slice (some ⟨gu5,0,none⟩) x.said.length x.said.length))
 have HRZu5:=hid (HRu5.out.set (b:=w.heap.size+1+1) (by omega) 13 (.slice (some ⟨gu5,0,none⟩) x.said.length x.said.length))
 obtain ⟨VZ,hVZ⟩:∃ V,(w6.setCell ⟨w.heap.size+1+1,13,none⟩ (.slice (some ⟨gu5,0,none⟩) x.said.length x.said.length))=V:=⟨_,rfl⟩
 rw [hVZ] at HZ HRZu0 HRZu1 HRZu2 HRZu3 HRZu4 HRZu5 ⊢
 clear hVZ o6_13 z6_13
 have HO:Hid (VZ.heap[w.heap.size+1+1]?=some (.cells #[.slice (some ⟨gu0,0,none⟩) x.codes.length x.codes.length,.slice (some ⟨gu1,0,none⟩) x.args.length x.args.length,.slice (some ⟨gu2,0,none⟩) x.outs.length x.outs.length,.slice (some ⟨gu3,0,none⟩) x.frames.length x.frames.length,.int .i64 x.steps,.int .i64 x.looks,.int .i64 x.kind,.string x.name,.string x.hold,.bool x.over,.int .i64 x.fin,.string x.text,.slice (some ⟨gu4,0,none⟩) x.files.length x.files.length,.slice (some ⟨gu5,0,none⟩) x.said.length x.said.length] 34 (0,0))):=hid HZ.out.o
 have HSR:Hid ((VZ.setRow (w.heap.size+1) #[.slice (some ⟨gu0,0,none⟩) x.codes.length x.codes.length,.slice (some ⟨gu1,0,none⟩) x.args.length x.args.length,.slice (some ⟨gu2,0,none⟩) x.outs.length x.outs.length,.slice (some ⟨gu3,0,none⟩) x.frames.length x.frames.length,.int .i64 x.steps,.int .i64 x.looks,.int .i64 x.kind,.string x.name,.string x.hold,.bool x.over,.int .i64 x.fin,.string x.text,.slice (some ⟨gu4,0,none⟩) x.files.length x.files.length,.slice (some ⟨gu5,0,none⟩) x.said.length x.said.length]).heap[w.heap.size+1]?=some (.cells #[.slice (some ⟨gu0,0,none⟩) x.codes.length x.codes.length,.slice (some ⟨gu1,0,none⟩) x.args.length x.args.length,.slice (some ⟨gu2,0,none⟩) x.outs.length x.outs.length,.slice (some ⟨gu3,0,none⟩) x.frames.length x.frames.length,.int .i64 x.steps,.int .i64 x.looks,.int .i64 x.kind,.string x.name,.string x.hold,.bool x.over,.int .i64 x.fin,.string x.text,.slice (some ⟨gu4,0,none⟩) x.files.length x.files.length,.slice (some ⟨gu5,0,none⟩) x.said.length x.said.length] 34 (0,0))):=hid (setRow_heap _ _ _ _ _ _ HZ.out.r)
 go_wp2_with (first | (refine wpList_load_row rfl 34 _ rfl (w.heap.size+1+1) rfl 34 #[.slice (some ⟨gu0,0,none⟩) x.codes.length x.codes.length,.slice (some ⟨gu1,0,none⟩) x.args.length x.args.length,.slice (some ⟨gu2,0,none⟩) x.outs.length x.outs.length,.slice (some ⟨gu3,0,none⟩) x.frames.length x.frames.length,.int .i64 x.steps,.int .i64 x.looks,.int .i64 x.kind,.string x.name,.string x.hold,.bool x.over,.int .i64 x.fin,.string x.text,.slice (some ⟨gu4,0,none⟩) x.files.length x.files.length,.slice (some ⟨gu5,0,none⟩) x.said.length x.said.length] (0,0) _ HO.out Tryz.underlying34 rfl (by kernel_rfl) ?_) | (refine wpList_store_row rfl 34 _ _ rfl (w.heap.size+1) #[.slice (some ⟨gu0,0,none⟩) x.codes.length x.codes.length,.slice (some ⟨gu1,0,none⟩) x.args.length x.args.length,.slice (some ⟨gu2,0,none⟩) x.outs.length x.outs.length,.slice (some ⟨gu3,0,none⟩) x.frames.length x.frames.length,.int .i64 x.steps,.int .i64 x.looks,.int .i64 x.kind,.string x.name,.string x.hold,.bool x.over,.int .i64 x.fin,.string x.text,.slice (some ⟨gu4,0,none⟩) x.files.length x.files.length,.slice (some ⟨gu5,0,none⟩) x.said.length x.said.length] rfl rfl 34 _ HZ.out.r (by kernel_rfl) rfl (by simp [Value.oneCell']) ?_))
 refine bodyPost_ret (v:=.agg #[.slice (some ⟨gu0,0,none⟩) x.codes.length x.codes.length,.slice (some ⟨gu1,0,none⟩) x.args.length x.args.length,.slice (some ⟨gu2,0,none⟩) x.outs.length x.outs.length,.slice (some ⟨gu3,0,none⟩) x.frames.length x.frames.length,.int .i64 x.steps,.int .i64 x.looks,.int .i64 x.kind,.string x.name,.string x.hold,.bool x.over,.int .i64 x.fin,.string x.text,.slice (some ⟨gu4,0,none⟩) x.files.length x.files.length,.slice (some ⟨gu5,0,none⟩) x.said.length x.said.length]) ?_ rfl ⟨_,_,_,_,_,_,rfl,?_,?_,?_,?_,?_,?_,?_⟩
 ·exact results_cell_row Tryz.results7 _ _ (w.heap.size+1) 34 #[.slice (some ⟨gu0,0,none⟩) x.codes.length x.codes.length,.slice (some ⟨gu1,0,none⟩) x.args.length x.args.length,.slice (some ⟨gu2,0,none⟩) x.outs.length x.outs.length,.slice (some ⟨gu3,0,none⟩) x.frames.length x.frames.length,.int .i64 x.steps,.int .i64 x.looks,.int .i64 x.kind,.string x.name,.string x.hold,.bool x.over,.int .i64 x.fin,.string x.text,.slice (some ⟨gu4,0,none⟩) x.files.length x.files.length,.slice (some ⟨gu5,0,none⟩) x.said.length x.said.length] (0,0) _ rfl HSR.out Tryz.underlying34 rfl (by kernel_rfl)
 ·exact (HRZu0.out.keep fun i hi hl=>setRow_other _ _ _ _ (by omega)).mono (by omega)
 ·exact (HRZu1.out.keep fun i hi hl=>setRow_other _ _ _ _ (by omega)).mono (by omega)
 ·exact (HRZu2.out.keep fun i hi hl=>setRow_other _ _ _ _ (by omega)).mono (by omega)
 ·exact (HRZu3.out.keep fun i hi hl=>setRow_other _ _ _ _ (by omega)).mono (by omega)
 ·exact (HRZu4.out.keep fun i hi hl=>setRow_other _ _ _ _ (by omega)).mono (by omega)
 ·exact (HRZu5.out.keep fun i hi hl=>setRow_other _ _ _ _ (by omega)).mono (by omega)
 ·exact below_setRow HZ.out.lo (by omega) _
end Go.Proofs.YtbkmglknbflkhaaGreatDoor.R
namespace Go.Proofs.YtbkmglknbflkhaaGreatDoor.C
open Go.ChangeShapes Go.WideShapes Go.ChangeAt Go.RowKit Go.Deep
set_option maxRecDepth 20000
theorem lits_inj {H:Type} {k:IntKind}:∀ {l l':List Int},(lits k l:List (DataW H))=lits k l'→l=l'
 | [],[],_=>rfl
 | [],_ :: _,h=>by simp [lits] at h
 | _ :: _,[],h=>by simp [lits] at h
 | x :: l,y :: l',h=>by
  simp only [lits,List.map_cons,List.cons.injEq,DataW.lit.injEq,Lit.int.injEq,true_and] at h
  rw [h.1,lits_inj (k:=k) (H:=H) h.2]
def rowD {H:Type} (z:Option (List Int)):DataW H:=match z with | none=>.nil | some l=>.slice (lits .i64 l) []
theorem row_of {H:Type} {enc:TypeId × Value→H} {P:Program} {w:World} {base:Nat} {held:Bool} {fuel:Nat} {t ei:TypeId} {cl:List Value} {z:Option (List Int)} {p:DataW H × List MemPlace}
  (hsl:P.underlying t=some (.slice ei)) (hei:P.underlying ei=some (.int .i64)) (hcei:P.cellsOf ei=1) (h:DataW.trod enc P w base (fun _=>true) held fuel t cl=some p) (hz:p.1=rowD z):∃ v,cl=[v]∧PartA w v (z.getD []):=by
 rcases open_ints hsl hei hcei h with ⟨e2,h2⟩ | ⟨a,len,cap,ns,e2,_,hlc,_,hlen,h2,hcell,_⟩
 ·rw [h2] at hz
  cases z with
  | none=>exact ⟨_,e2,none,0,rfl,.inl rfl⟩
  | some l=>cases hz
 ·rw [h2] at hz
  cases z with
  | none=>cases hz
  | some l =>
   simp only [rowD,DataW.slice.injEq] at hz
   have h3:=lits_inj hz.1
   have h4:ns.drop len=[]:=by
    have:=hz.2
    simpa [lits] using this
   simp only [if_true] at hlen
   have h5:ns.length≤len:=by simpa using h4
   have h6:ns.take len=ns:=List.take_of_length_le h5
   rw [h6] at h3
   subst h3
   obtain rfl:cap=ns.length:=by omega
   obtain rfl:len=ns.length:=by omega
   refine ⟨_,e2,some a,ns.length,rfl,?_⟩
   by_cases h0:ns=[]
   ·exact .inl h0
   ·have hp:0 < ns.length:=List.length_pos_iff.2 h0
    refine .inr ⟨a,rfl,?_,hcell⟩
    have h7:=hcell 0 hp
    unfold World.cell? at h7
    rcases Nat.lt_or_ge (a.add 0).block w.heap.size with hl | hl
    ·rwa [add_block] at hl
    ·rw [Array.getElem?_eq_none hl] at h7;cases h7
theorem cellsI:Tryz.prog.cellsOf 3=1:=by kernel_rfl
theorem cellsSg:Tryz.prog.cellsOf 119=1:=by kernel_rfl
theorem gSG : Tryz.prog.globalNamed "loop.example/kilnyard/impl.millBuiltSigns" = some 1 := by kernel_rfl
theorem gSGType:(Tryz.prog.globals[1]?).map (·.type)=some 236:=by kernel_rfl
theorem cellsSG:Tryz.prog.cellsOf 235=2:=by kernel_rfl
theorem gIR : Tryz.prog.globalNamed "loop.example/kilnyard/impl.millInsRows" = some 0 := by kernel_rfl
theorem gIRType:(Tryz.prog.globals[0]?).map (·.type)=some 231:=by kernel_rfl
theorem cellsIR:Tryz.prog.cellsOf 230=3:=by kernel_rfl
def sgD {H:Type} (z:Option (List Int) × Int):DataW H:=.agg [rowD z.1,.lit (.int .i64 z.2)]
def irD {H:Type} (z:Int × Option (List Int) × Int):DataW H:=.agg [.lit (.int .i64 z.1),rowD z.2.1,.lit (.int .i64 z.2.2)]
def signs:List (Option (List Int) × Int):=[(none,0),(some [2],2),(some [2],1),(some [2],2),(some [2,2],2),(none,2),(some [2],10),(some [2,10],3),(some [2,10,10],2),(some [2,2],10),(some [3],2),(some [-1],2),(some [2],10)]
def irows:List (Int × Option (List Int) × Int):=[(0,none,0),(1,none,1),(2,none,2),(2,some [-2],0),(0,some [-2],0),(3,some [-2],3),(4,some [-2,-2],4),(5,some [-1],1),(6,none,5),(7,none,6),(8,none,0),(8,some [1],0),(9,none,0),(0,some [2],0),(0,some [2,2],0),(0,some [2],0),(0,none,0)]
theorem var_cells {W:World} {n:String} {g:Nat} {cs:Array Value} (hg:Tryz.prog.globalNamed n=some g) (h:W.var? Tryz.prog n=some cs):g < W.heap.size∧∀ i,W.cell? ⟨g,i,none⟩=cs[i]?:=by
 unfold World.var? at h
 rw [hg] at h
 simp only [Option.bind_some] at h
 split at h
 ·rename_i cs' t fr hh
  cases h
  refine ⟨(Array.getElem?_eq_some_iff.1 hh).1,fun i=>?_⟩
  unfold World.cell?
  rw [hh];rfl
 ·cases h
theorem sign_of {W : World} {r : List (String × DataW Unit)} (h : laidMet Tryz.prog (("loop.example/kilnyard/impl.millBuiltSigns", Rows.laid_loop_example_kilnyard_impl_millBuiltSigns) :: r) W) :
  1 < W.heap.size∧∀ (i:Nat) (z:Option (List Int) × Int),signs[i]?=some z→∃ v,W.cell? ⟨1,i * 2,none⟩=some v∧W.cell? ⟨1,i * 2+1,none⟩=some (.int .i64 z.2)∧PartA W v (z.1.getD []):=by
 obtain ⟨ps,⟨g',t',cs,fuel,p,q,hg',ht',hvar,hd,_,_⟩,_⟩:=h
 obtain rfl:=Option.some.inj (gSG.symm.trans hg')
 obtain rfl:=Option.some.inj (gSGType.symm.trans ht')
 obtain ⟨hlt,hcell⟩:=var_cells gSG hvar
 refine ⟨hlt,fun i z hz=>?_⟩
 obtain ⟨xs,m,_,hx,_,hl,hel⟩:=DataW.trod_array Tryz.underlying236 hd
 have hxs:xs.map (·.1)=signs.map sgD:=by
  have h9:=congrArg Prod.fst hx
  have h8:Rows.laid_loop_example_kilnyard_impl_millBuiltSigns (H:=Unit)=.agg (signs.map sgD):=rfl
  rw [h8] at h9
  simpa using h9.symm
 have hi:i < 13:=(List.getElem?_eq_some_iff.1 hz).1
 have e1:=hel i hi
 rw [cellsSG] at e1
 obtain ⟨b,hb⟩:∃ b,xs[i]?=some b:=⟨xs[i]'(by omega),List.getElem?_eq_getElem (by omega)⟩
 rw [hb] at e1
 have hb1:b.1=sgD z:=by
  have:=congrArg (·[i]?) hxs
  simpa [hb,hz] using this
 obtain ⟨ys,m2,_,hbx,_,hyl,hyf⟩:=DataW.trod_struct Tryz.underlying235 e1
 match ys,hyl with
 | [y0,y1],_ =>
  have g0:=hyf 0 _ rfl
  have g1:=hyf 1 _ rfl
  simp only [List.getElem?_cons_zero] at g0
  simp only [List.getElem?_cons_succ,List.getElem?_cons_zero] at g1
  obtain ⟨v,hv,hyv,_⟩:=DataW.trod_int Tryz.underlying3 g1
  rw [hbx] at hb1
  simp only [sgD,List.map_cons,List.map_nil,DataW.agg.injEq,List.cons.injEq,and_true] at hb1
  obtain ⟨v0,hv0,hp⟩:=row_of Tryz.underlying119 Tryz.underlying3 cellsI g0 hb1.1
  have hv2:v=z.2:=by
   have:=hb1.2
   rw [hyv] at this
   simpa using this
  subst hv2
  refine ⟨v0,?_,?_,hp⟩
  ·rw [hcell]
   have:=congrArg (·[0]?) hv0
   simpa [List.getElem?_take,List.getElem?_drop,cellsI,cellsSg] using this
  ·rw [hcell]
   have:=congrArg (·[0]?) hv
   simpa [List.getElem?_take,List.getElem?_drop,cellsI,cellsSg] using this
theorem irow_of {W : World} {r : List (String × DataW Unit)} (h : laidMet Tryz.prog (("loop.example/kilnyard/impl.millInsRows", Rows.laid_loop_example_kilnyard_impl_millInsRows) :: r) W) :
  0 < W.heap.size∧∀ (i:Nat) (z:Int × Option (List Int) × Int),irows[i]?=some z→∃ v,W.cell? ⟨0,i * 3,none⟩=some (.int .i64 z.1)∧W.cell? ⟨0,i * 3+1,none⟩=some v∧W.cell? ⟨0,i * 3+2,none⟩=some (.int .i64 z.2.2)∧PartA W v (z.2.1.getD []):=by
 obtain ⟨ps,⟨g',t',cs,fuel,p,q,hg',ht',hvar,hd,_,_⟩,_⟩:=h
 obtain rfl:=Option.some.inj (gIR.symm.trans hg')
 obtain rfl:=Option.some.inj (gIRType.symm.trans ht')
 obtain ⟨hlt,hcell⟩:=var_cells gIR hvar
 refine ⟨hlt,fun i z hz=>?_⟩
 obtain ⟨xs,m,_,hx,_,hl,hel⟩:=DataW.trod_array Tryz.underlying231 hd
 have hxs:xs.map (·.1)=irows.map irD:=by
  have h9:=congrArg Prod.fst hx
  have h8:Rows.laid_loop_example_kilnyard_impl_millInsRows (H:=Unit)=.agg (irows.map irD):=rfl
  rw [h8] at h9
  simpa using h9.symm
 have hi:i < 17:=(List.getElem?_eq_some_iff.1 hz).1
 have e1:=hel i hi
 rw [cellsIR] at e1
 obtain ⟨b,hb⟩:∃ b,xs[i]?=some b:=⟨xs[i]'(by omega),List.getElem?_eq_getElem (by omega)⟩
 rw [hb] at e1
 have hb1:b.1=irD z:=by
  have:=congrArg (·[i]?) hxs
  simpa [hb,hz] using this
 obtain ⟨ys,m2,_,hbx,_,hyl,hyf⟩:=DataW.trod_struct Tryz.underlying230 e1
 match ys,hyl with
 | [y0,y1,y2],_ =>
  have g0:=hyf 0 _ rfl
  have g1:=hyf 1 _ rfl
  have g2:=hyf 2 _ rfl
  simp only [List.getElem?_cons_zero] at g0
  simp only [List.getElem?_cons_succ,List.getElem?_cons_zero] at g1
  simp only [List.getElem?_cons_succ,List.getElem?_cons_zero] at g2
  obtain ⟨u,hu,hyu,_⟩:=DataW.trod_int Tryz.underlying3 g0
  obtain ⟨v,hv,hyv,_⟩:=DataW.trod_int Tryz.underlying3 g2
  rw [hbx] at hb1
  simp only [irD,List.map_cons,List.map_nil,DataW.agg.injEq,List.cons.injEq,and_true] at hb1
  obtain ⟨v0,hv0,hp⟩:=row_of Tryz.underlying119 Tryz.underlying3 cellsI g1 hb1.2.1
  have hu2:u=z.1:=by
   have:=hb1.1
   rw [hyu] at this
   simpa using this
  have hv2:v=z.2.2:=by
   have:=hb1.2.2
   rw [hyv] at this
   simpa using this
  subst hu2 hv2
  refine ⟨v0,?_,?_,?_,hp⟩
  ·rw [hcell]
   have:=congrArg (·[0]?) hu
   simpa [List.getElem?_take,List.getElem?_drop,cellsI,cellsSg] using this
  ·rw [hcell]
   have:=congrArg (·[0]?) hv0
   simpa [List.getElem?_take,List.getElem?_drop,cellsI,cellsSg] using this
  ·rw [hcell]
   have:=congrArg (·[0]?) hv
   simpa [List.getElem?_take,List.getElem?_drop,cellsI,cellsSg] using this
theorem envI_of {W : World} {r r' : List (String × DataW Unit)} (h : laidMet Tryz.prog (("loop.example/kilnyard/impl.millBuiltSigns", Rows.laid_loop_example_kilnyard_impl_millBuiltSigns) :: r) W) (h' : laidMet Tryz.prog (("loop.example/kilnyard/impl.millInsRows", Rows.laid_loop_example_kilnyard_impl_millInsRows) :: r') W) : EnvI W := by
 obtain ⟨l2,s2⟩:=sign_of h
 obtain ⟨l1,s1⟩:=irow_of h'
 refine ⟨l1,l2,fun o h1 h2=>?_,fun k h1 h2=>?_⟩
 ·obtain rfl | rfl | rfl | rfl | rfl | rfl | rfl | rfl | rfl | rfl | rfl | rfl | rfl | rfl | rfl | rfl:o=1∨o=2∨o=3∨o=4∨o=5∨o=6∨o=7∨o=8∨o=9∨o=10∨o=11∨o=12∨o=13∨o=14∨o=15∨o=16:=by omega
  ·exact s1 1 _ rfl
  ·exact s1 2 _ rfl
  ·exact s1 3 _ rfl
  ·exact s1 4 _ rfl
  ·exact s1 5 _ rfl
  ·exact s1 6 _ rfl
  ·exact s1 7 _ rfl
  ·exact s1 8 _ rfl
  ·exact s1 9 _ rfl
  ·exact s1 10 _ rfl
  ·exact s1 11 _ rfl
  ·exact s1 12 _ rfl
  ·exact s1 13 _ rfl
  ·exact s1 14 _ rfl
  ·exact s1 15 _ rfl
  ·exact s1 16 _ rfl
 ·obtain rfl | rfl | rfl | rfl | rfl | rfl | rfl | rfl | rfl | rfl | rfl | rfl:k=1∨k=2∨k=3∨k=4∨k=5∨k=6∨k=7∨k=8∨k=9∨k=10∨k=11∨k=12:=by omega
  ·exact s2 1 _ rfl
  ·exact s2 2 _ rfl
  ·exact s2 3 _ rfl
  ·exact s2 4 _ rfl
  ·exact s2 5 _ rfl
  ·exact s2 6 _ rfl
  ·exact s2 7 _ rfl
  ·exact s2 8 _ rfl
  ·exact s2 9 _ rfl
  ·exact s2 10 _ rfl
  ·exact s2 11 _ rfl
  ·exact s2 12 _ rfl
end Go.Proofs.YtbkmglknbflkhaaGreatDoor.C
namespace Go.Proofs.YtbkmglknbflkhaaGreatDoor.M
open Go.RowKit
open Go.Proofs.YtbkmglknbflkhaaGreatDoor.J (Says says_t says_f)
open Go.Proofs.YtbkmglknbflkhaaGreatDoor.R (hid)
set_option maxRecDepth 20000
def MaOk (x:R.Mc):Prop:=P.PlOk x.files∧TxOk 50 x.said∧(0≤x.steps∧x.steps≤4000)∧(x.over=true→OvOk x)∧(x.over=false→JoOk x∧WtOk x∧CodesOk x∧FramesOk x)
structure MLow (x:R.Mc):Prop where
 lo:R.LoMc x
 args:LowT x.args
 outs:LowT x.outs
 said:LowT x.said
 files:P.LowF x.files
 name:x.name.size≤1048576
 hold:x.hold.size≤1048576
 text:x.text.size≤1048576
set_option maxHeartbeats 20000000 in
theorem implValidM_any (x:R.Mc) {v0 v1 v2 v3 v4 v5:Value} {B:Nat} (w:World) (h:MK B w x v0 v1 v2 v3 v4 v5) (hx:MLow x)
  (hfr:∀ W,Below w.heap.size w W→MK B W x v0 v1 v2 v3 v4 v5→JoOk x→WtOk x→Calls Tryz.prog 37 #[mval x v0 v1 v2 v3 v4 v5] W fun e w'=>Says e (CodesOk x∧FramesOk x)∧Below W.heap.size W w') :
  Calls Tryz.prog 8 #[mval x v0 v1 v2 v3 v4 v5] w fun e w'=>Says e (MaOk x)∧Below w.heap.size w w':=by
 have HK:=hid h
 obtain ⟨gc,rfl⟩:=h.k0.sl
 obtain ⟨ga,rfl⟩:=h.k1.sl
 obtain ⟨go,rfl⟩:=h.k2.sl
 obtain ⟨gf,rfl⟩:=h.k3.sl
 obtain ⟨gl,rfl⟩:=h.k4.sl
 obtain ⟨gs,rfl⟩:=h.k5.sl
 have HL:=hid hx
 have HFR:=hid hfr
 clear h hx hfr
 go_enter Tryz.func8,Tryz.ntmps8
 go_upto_region 1 with fail
 have HX:=hid (MX.start w x (.slice (some ⟨gc,0,none⟩) x.codes.length x.codes.length) (.slice (some ⟨ga,0,none⟩) x.args.length x.args.length) (.slice (some ⟨go,0,none⟩) x.outs.length x.outs.length) (.slice (some ⟨gf,0,none⟩) x.frames.length x.frames.length) (.slice (some ⟨gl,0,none⟩) x.files.length x.files.length) (.slice (some ⟨gs,0,none⟩) x.said.length x.said.length))
 obtain ⟨W1,hW1⟩:∃ W,w.alloc (.cells #[.slice (some ⟨gc,0,none⟩) x.codes.length x.codes.length,.slice (some ⟨ga,0,none⟩) x.args.length x.args.length,.slice (some ⟨go,0,none⟩) x.outs.length x.outs.length,.slice (some ⟨gf,0,none⟩) x.frames.length x.frames.length,.int .i64 x.steps,.int .i64 x.looks,.int .i64 x.kind,.string x.name,.string x.hold,.bool x.over,.int .i64 x.fin,.string x.text,.slice (some ⟨gl,0,none⟩) x.files.length x.files.length,.slice (some ⟨gs,0,none⟩) x.said.length x.said.length] 34)=W:=⟨_,rfl⟩
 rw [hW1] at HX ⊢
 clear hW1
 have c12:=HX.out.c12
 by_cases q1:P.PlOk x.files
 ·have HFI:=hid (says_tr (P.implFiles_any x.files W1 HL.out.files (HK.out.next HX.out.lo).k4) q1)
  have Q1:=hid q1
  clear q1
  by_cases q2:TxOk 50 x.said
  ·have HTX:Hid (∀ W,MX w x (.slice (some ⟨gc,0,none⟩) x.codes.length x.codes.length) (.slice (some ⟨ga,0,none⟩) x.args.length x.args.length) (.slice (some ⟨go,0,none⟩) x.outs.length x.outs.length) (.slice (some ⟨gf,0,none⟩) x.frames.length x.frames.length) (.slice (some ⟨gl,0,none⟩) x.files.length x.files.length) (.slice (some ⟨gs,0,none⟩) x.said.length x.said.length) W→Calls Tryz.prog 33 #[.slice (some ⟨gs,0,none⟩) x.said.length x.said.length,.int .i64 50] W fun e w'=>e=.returned (.bool true)∧w'=W):=hid fun W hW=>(implTexts_any x.said 50 W (by decide) HL.out.said (HK.out.next hW.lo).k5).mono fun _ _ h=>⟨h.1.pos q2,h.2⟩
   have Q2:=hid q2
   clear q2
   obtain ⟨st,hst⟩:∃ z,x.steps=z:=⟨_,rfl⟩
   have HST:=hid hst
   clear hst
   by_cases q3:0≤st
   ·by_cases q4:st≤4000
    ·have i3:¬ (st < (0:Int)):=by omega
     have i4:¬ (st > (4000:Int)):=by omega
     have Q3:Hid (0≤x.steps∧x.steps≤4000):=hid (by rw [HST.out];exact ⟨q3,q4⟩)
     go_upto_region 3 with (first | (go_at_call 32;refine HFI.out.mono ?_;rintro e w2 ⟨rfl,hb2⟩;have HX2:=hid (HX.out.next hb2);clear hb2 c12;have c13:=HX2.out.c13;have c4:=HX2.out.c4;rw [HST.out] at c4) | (go_at_call 33;refine (HTX.out _ HX2.out).mono ?_;rintro e w3 ⟨rfl,hw⟩;have hw2:=hw.symm;clear hw;subst hw2))
     clear c13 c4
     have c9:=HX2.out.c9
     obtain ⟨ov,hov⟩:∃ z,x.over=z:=⟨_,rfl⟩
     have HOV:=hid hov
     rw [hov] at c9
     clear hov
     cases ov
     ·have HJ0:=hid fun W (hW:MX w x (.slice (some ⟨gc,0,none⟩) x.codes.length x.codes.length) (.slice (some ⟨ga,0,none⟩) x.args.length x.args.length) (.slice (some ⟨go,0,none⟩) x.outs.length x.outs.length) (.slice (some ⟨gf,0,none⟩) x.frames.length x.frames.length) (.slice (some ⟨gl,0,none⟩) x.files.length x.files.length) (.slice (some ⟨gs,0,none⟩) x.said.length x.said.length) W)=>implJobR_any x W (HK.out.next hW.lo) HL.out.args HL.out.outs HL.out.files.1 HL.out.lo.1.1 HL.out.text
      have HNO:Hid (¬ (JoOk x∧WtOk x∧CodesOk x∧FramesOk x)→¬ MaOk x):=hid fun hn h=>hn (h.2.2.2.2 HOV.out)
      go_upto_region 5 with fail
      clear c9
      by_cases q5:JoOk x
      ·have HJ:=hid (says_tr (HJ0.out _ HX2.out) q5)
       by_cases q6:WtOk x
       ·have HWW:=hid fun W (_:MX w x (.slice (some ⟨gc,0,none⟩) x.codes.length x.codes.length) (.slice (some ⟨ga,0,none⟩) x.args.length x.args.length) (.slice (some ⟨go,0,none⟩) x.outs.length x.outs.length) (.slice (some ⟨gf,0,none⟩) x.frames.length x.frames.length) (.slice (some ⟨gl,0,none⟩) x.files.length x.files.length) (.slice (some ⟨gs,0,none⟩) x.said.length x.said.length) W)=>says_tr (implWait_any x (v0:=(.slice (some ⟨gc,0,none⟩) x.codes.length x.codes.length)) (v1:=(.slice (some ⟨ga,0,none⟩) x.args.length x.args.length)) (v2:=(.slice (some ⟨go,0,none⟩) x.outs.length x.outs.length)) (v3:=(.slice (some ⟨gf,0,none⟩) x.frames.length x.frames.length)) (v4:=(.slice (some ⟨gl,0,none⟩) x.files.length x.files.length)) (v5:=(.slice (some ⟨gs,0,none⟩) x.said.length x.said.length)) W HL.out.name HL.out.hold) q6
        by_cases q7:CodesOk x∧FramesOk x
        ·have HFF:=hid fun W (hW:MX w x (.slice (some ⟨gc,0,none⟩) x.codes.length x.codes.length) (.slice (some ⟨ga,0,none⟩) x.args.length x.args.length) (.slice (some ⟨go,0,none⟩) x.outs.length x.outs.length) (.slice (some ⟨gf,0,none⟩) x.frames.length x.frames.length) (.slice (some ⟨gl,0,none⟩) x.files.length x.files.length) (.slice (some ⟨gs,0,none⟩) x.said.length x.said.length) W)=>says_tr (HFR.out W hW.lo (HK.out.next hW.lo) q5 q6) q7
         have Q5:=hid q5
         have Q6:=hid q6
         have Q7:=hid q7
         clear q5 q6 q7
         go_wp2_with (first | (refine wpList_load_row rfl 34 _ rfl w.heap.size rfl 34 #[.slice (some ⟨gc,0,none⟩) x.codes.length x.codes.length,.slice (some ⟨ga,0,none⟩) x.args.length x.args.length,.slice (some ⟨go,0,none⟩) x.outs.length x.outs.length,.slice (some ⟨gf,0,none⟩) x.frames.length x.frames.length,.int .i64 x.steps,.int .i64 x.looks,.int .i64 x.kind,.string x.name,.string x.hold,.bool x.over,.int .i64 x.fin,.string x.text,.slice (some ⟨gl,0,none⟩) x.files.length x.files.length,.slice (some ⟨gs,0,none⟩) x.said.length x.said.length] (0,0) _ HX5.out.e Tryz.underlying34 rfl (by kernel_rfl) ?_) | (refine wpList_load_row rfl 34 _ rfl w.heap.size rfl 34 #[.slice (some ⟨gc,0,none⟩) x.codes.length x.codes.length,.slice (some ⟨ga,0,none⟩) x.args.length x.args.length,.slice (some ⟨go,0,none⟩) x.outs.length x.outs.length,.slice (some ⟨gf,0,none⟩) x.frames.length x.frames.length,.int .i64 x.steps,.int .i64 x.looks,.int .i64 x.kind,.string x.name,.string x.hold,.bool x.over,.int .i64 x.fin,.string x.text,.slice (some ⟨gl,0,none⟩) x.files.length x.files.length,.slice (some ⟨gs,0,none⟩) x.said.length x.said.length] (0,0) _ HX4.out.e Tryz.underlying34 rfl (by kernel_rfl) ?_) | (refine wpList_load_row rfl 34 _ rfl w.heap.size rfl 34 #[.slice (some ⟨gc,0,none⟩) x.codes.length x.codes.length,.slice (some ⟨ga,0,none⟩) x.args.length x.args.length,.slice (some ⟨go,0,none⟩) x.outs.length x.outs.length,.slice (some ⟨gf,0,none⟩) x.frames.length x.frames.length,.int .i64 x.steps,.int .i64 x.looks,.int .i64 x.kind,.string x.name,.string x.hold,.bool x.over,.int .i64 x.fin,.string x.text,.slice (some ⟨gl,0,none⟩) x.files.length x.files.length,.slice (some ⟨gs,0,none⟩) x.said.length x.said.length] (0,0) _ HX2.out.e Tryz.underlying34 rfl (by kernel_rfl) ?_) | (go_at_call 37;refine (HFF.out _ HX5.out).mono ?_;rintro e w6 ⟨rfl,hb6⟩;have HX6:=hid (HX5.out.next hb6);clear hb6) | (go_at_call 36;refine (HWW.out _ HX4.out).mono ?_;rintro e w5 ⟨rfl,hb5⟩;have HX5:=hid (HX4.out.next hb5);clear hb5 d0 d1 d2 d3 d4 d5 d6 d7 d8 d9 d10 d11 d12 d13;have d0:=HX5.out.c0;have d1:=HX5.out.c1;have d2:=HX5.out.c2;have d3:=HX5.out.c3;have d4:=HX5.out.c4;have d5:=HX5.out.c5;have d6:=HX5.out.c6;have d7:=HX5.out.c7;have d8:=HX5.out.c8;have d9:=HX5.out.c9;have d10:=HX5.out.c10;have d11:=HX5.out.c11;have d12:=HX5.out.c12;have d13:=HX5.out.c13) | (go_at_call 35;refine HJ.out.mono ?_;rintro e w4 ⟨rfl,hb4⟩;have HX4:=hid (HX2.out.next hb4);clear hb4;have d0:=HX4.out.c0;have d1:=HX4.out.c1;have d2:=HX4.out.c2;have d3:=HX4.out.c3;have d4:=HX4.out.c4;have d5:=HX4.out.c5;have d6:=HX4.out.c6;have d7:=HX4.out.c7;have d8:=HX4.out.c8;have d9:=HX4.out.c9;have d10:=HX4.out.c10;have d11:=HX4.out.c11;have d12:=HX4.out.c12;have d13:=HX4.out.c13))
         go_ret
         exact ⟨says_t ⟨Q1.out,Q2.out,Q3.out,fun h=>(by rw [HOV.out] at h;cases h),fun _=>⟨Q5.out,Q6.out,Q7.out⟩⟩,HX6.out.lo⟩
        ·have HFF:=hid fun W (hW:MX w x (.slice (some ⟨gc,0,none⟩) x.codes.length x.codes.length) (.slice (some ⟨ga,0,none⟩) x.args.length x.args.length) (.slice (some ⟨go,0,none⟩) x.outs.length x.outs.length) (.slice (some ⟨gf,0,none⟩) x.frames.length x.frames.length) (.slice (some ⟨gl,0,none⟩) x.files.length x.files.length) (.slice (some ⟨gs,0,none⟩) x.said.length x.said.length) W)=>says_fa (HFR.out W hW.lo (HK.out.next hW.lo) q5 q6) q7
         have Q5:=hid q5
         have Q6:=hid q6
         have Q7:=hid q7
         clear q5 q6 q7
         go_wp2_with (first | (refine wpList_load_row rfl 34 _ rfl w.heap.size rfl 34 #[.slice (some ⟨gc,0,none⟩) x.codes.length x.codes.length,.slice (some ⟨ga,0,none⟩) x.args.length x.args.length,.slice (some ⟨go,0,none⟩) x.outs.length x.outs.length,.slice (some ⟨gf,0,none⟩) x.frames.length x.frames.length,.int .i64 x.steps,.int .i64 x.looks,.int .i64 x.kind,.string x.name,.string x.hold,.bool x.over,.int .i64 x.fin,.string x.text,.slice (some ⟨gl,0,none⟩) x.files.length x.files.length,.slice (some ⟨gs,0,none⟩) x.said.length x.said.length] (0,0) _ HX5.out.e Tryz.underlying34 rfl (by kernel_rfl) ?_) | (refine wpList_load_row rfl 34 _ rfl w.heap.size rfl 34 #[.slice (some ⟨gc,0,none⟩) x.codes.length x.codes.length,.slice (some ⟨ga,0,none⟩) x.args.length x.args.length,.slice (some ⟨go,0,none⟩) x.outs.length x.outs.length,.slice (some ⟨gf,0,none⟩) x.frames.length x.frames.length,.int .i64 x.steps,.int .i64 x.looks,.int .i64 x.kind,.string x.name,.string x.hold,.bool x.over,.int .i64 x.fin,.string x.text,.slice (some ⟨gl,0,none⟩) x.files.length x.files.length,.slice (some ⟨gs,0,none⟩) x.said.length x.said.length] (0,0) _ HX4.out.e Tryz.underlying34 rfl (by kernel_rfl) ?_) | (refine wpList_load_row rfl 34 _ rfl w.heap.size rfl 34 #[.slice (some ⟨gc,0,none⟩) x.codes.length x.codes.length,.slice (some ⟨ga,0,none⟩) x.args.length x.args.length,.slice (some ⟨go,0,none⟩) x.outs.length x.outs.length,.slice (some ⟨gf,0,none⟩) x.frames.length x.frames.length,.int .i64 x.steps,.int .i64 x.looks,.int .i64 x.kind,.string x.name,.string x.hold,.bool x.over,.int .i64 x.fin,.string x.text,.slice (some ⟨gl,0,none⟩) x.files.length x.files.length,.slice (some ⟨gs,0,none⟩) x.said.length x.said.length] (0,0) _ HX2.out.e Tryz.underlying34 rfl (by kernel_rfl) ?_) | (go_at_call 37;refine (HFF.out _ HX5.out).mono ?_;rintro e w6 ⟨rfl,hb6⟩;have HX6:=hid (HX5.out.next hb6);clear hb6) | (go_at_call 36;refine (HWW.out _ HX4.out).mono ?_;rintro e w5 ⟨rfl,hb5⟩;have HX5:=hid (HX4.out.next hb5);clear hb5 d0 d1 d2 d3 d4 d5 d6 d7 d8 d9 d10 d11 d12 d13;have d0:=HX5.out.c0;have d1:=HX5.out.c1;have d2:=HX5.out.c2;have d3:=HX5.out.c3;have d4:=HX5.out.c4;have d5:=HX5.out.c5;have d6:=HX5.out.c6;have d7:=HX5.out.c7;have d8:=HX5.out.c8;have d9:=HX5.out.c9;have d10:=HX5.out.c10;have d11:=HX5.out.c11;have d12:=HX5.out.c12;have d13:=HX5.out.c13) | (go_at_call 35;refine HJ.out.mono ?_;rintro e w4 ⟨rfl,hb4⟩;have HX4:=hid (HX2.out.next hb4);clear hb4;have d0:=HX4.out.c0;have d1:=HX4.out.c1;have d2:=HX4.out.c2;have d3:=HX4.out.c3;have d4:=HX4.out.c4;have d5:=HX4.out.c5;have d6:=HX4.out.c6;have d7:=HX4.out.c7;have d8:=HX4.out.c8;have d9:=HX4.out.c9;have d10:=HX4.out.c10;have d11:=HX4.out.c11;have d12:=HX4.out.c12;have d13:=HX4.out.c13))
         all_goals first
          | exact (no_undef9 (by assumption)).elim
          | (go_ret;exact ⟨says_f fun h=>HNO.out (fun h=>Q7.out h.2.2) h,HX6.out.lo⟩)
       ·have HWW:=hid fun W (_:MX w x (.slice (some ⟨gc,0,none⟩) x.codes.length x.codes.length) (.slice (some ⟨ga,0,none⟩) x.args.length x.args.length) (.slice (some ⟨go,0,none⟩) x.outs.length x.outs.length) (.slice (some ⟨gf,0,none⟩) x.frames.length x.frames.length) (.slice (some ⟨gl,0,none⟩) x.files.length x.files.length) (.slice (some ⟨gs,0,none⟩) x.said.length x.said.length) W)=>says_fa (implWait_any x (v0:=(.slice (some ⟨gc,0,none⟩) x.codes.length x.codes.length)) (v1:=(.slice (some ⟨ga,0,none⟩) x.args.length x.args.length)) (v2:=(.slice (some ⟨go,0,none⟩) x.outs.length x.outs.length)) (v3:=(.slice (some ⟨gf,0,none⟩) x.frames.length x.frames.length)) (v4:=(.slice (some ⟨gl,0,none⟩) x.files.length x.files.length)) (v5:=(.slice (some ⟨gs,0,none⟩) x.said.length x.said.length)) W HL.out.name HL.out.hold) q6
        have Q6:=hid q6
        clear q5 q6
        go_wp2_with (first | (refine wpList_load_row rfl 34 _ rfl w.heap.size rfl 34 #[.slice (some ⟨gc,0,none⟩) x.codes.length x.codes.length,.slice (some ⟨ga,0,none⟩) x.args.length x.args.length,.slice (some ⟨go,0,none⟩) x.outs.length x.outs.length,.slice (some ⟨gf,0,none⟩) x.frames.length x.frames.length,.int .i64 x.steps,.int .i64 x.looks,.int .i64 x.kind,.string x.name,.string x.hold,.bool x.over,.int .i64 x.fin,.string x.text,.slice (some ⟨gl,0,none⟩) x.files.length x.files.length,.slice (some ⟨gs,0,none⟩) x.said.length x.said.length] (0,0) _ HX4.out.e Tryz.underlying34 rfl (by kernel_rfl) ?_) | (refine wpList_load_row rfl 34 _ rfl w.heap.size rfl 34 #[.slice (some ⟨gc,0,none⟩) x.codes.length x.codes.length,.slice (some ⟨ga,0,none⟩) x.args.length x.args.length,.slice (some ⟨go,0,none⟩) x.outs.length x.outs.length,.slice (some ⟨gf,0,none⟩) x.frames.length x.frames.length,.int .i64 x.steps,.int .i64 x.looks,.int .i64 x.kind,.string x.name,.string x.hold,.bool x.over,.int .i64 x.fin,.string x.text,.slice (some ⟨gl,0,none⟩) x.files.length x.files.length,.slice (some ⟨gs,0,none⟩) x.said.length x.said.length] (0,0) _ HX2.out.e Tryz.underlying34 rfl (by kernel_rfl) ?_) | (go_at_call 36;refine (HWW.out _ HX4.out).mono ?_;rintro e w5 ⟨rfl,hb5⟩;have HX5:=hid (HX4.out.next hb5);clear hb5 d0 d1 d2 d3 d4 d5 d6 d7 d8 d9 d10 d11 d12 d13;have d0:=HX5.out.c0;have d1:=HX5.out.c1;have d2:=HX5.out.c2;have d3:=HX5.out.c3;have d4:=HX5.out.c4;have d5:=HX5.out.c5;have d6:=HX5.out.c6;have d7:=HX5.out.c7;have d8:=HX5.out.c8;have d9:=HX5.out.c9;have d10:=HX5.out.c10;have d11:=HX5.out.c11;have d12:=HX5.out.c12;have d13:=HX5.out.c13) | (go_at_call 35;refine HJ.out.mono ?_;rintro e w4 ⟨rfl,hb4⟩;have HX4:=hid (HX2.out.next hb4);clear hb4;have d0:=HX4.out.c0;have d1:=HX4.out.c1;have d2:=HX4.out.c2;have d3:=HX4.out.c3;have d4:=HX4.out.c4;have d5:=HX4.out.c5;have d6:=HX4.out.c6;have d7:=HX4.out.c7;have d8:=HX4.out.c8;have d9:=HX4.out.c9;have d10:=HX4.out.c10;have d11:=HX4.out.c11;have d12:=HX4.out.c12;have d13:=HX4.out.c13))
        all_goals first
         | exact (no_undef9 (by assumption)).elim
         | (go_ret;exact ⟨says_f fun h=>HNO.out (fun h=>Q6.out h.2.1) h,HX5.out.lo⟩)
      ·have HJ:=hid (says_fa (HJ0.out _ HX2.out) q5)
       have Q5:=hid q5
       clear q5
       go_wp2_with (first | (refine wpList_load_row rfl 34 _ rfl w.heap.size rfl 34 #[.slice (some ⟨gc,0,none⟩) x.codes.length x.codes.length,.slice (some ⟨ga,0,none⟩) x.args.length x.args.length,.slice (some ⟨go,0,none⟩) x.outs.length x.outs.length,.slice (some ⟨gf,0,none⟩) x.frames.length x.frames.length,.int .i64 x.steps,.int .i64 x.looks,.int .i64 x.kind,.string x.name,.string x.hold,.bool x.over,.int .i64 x.fin,.string x.text,.slice (some ⟨gl,0,none⟩) x.files.length x.files.length,.slice (some ⟨gs,0,none⟩) x.said.length x.said.length] (0,0) _ HX2.out.e Tryz.underlying34 rfl (by kernel_rfl) ?_) | (go_at_call 35;refine HJ.out.mono ?_;rintro e w4 ⟨rfl,hb4⟩;have HX4:=hid (HX2.out.next hb4);clear hb4;have d0:=HX4.out.c0;have d1:=HX4.out.c1;have d2:=HX4.out.c2;have d3:=HX4.out.c3;have d4:=HX4.out.c4;have d5:=HX4.out.c5;have d6:=HX4.out.c6;have d7:=HX4.out.c7;have d8:=HX4.out.c8;have d9:=HX4.out.c9;have d10:=HX4.out.c10;have d11:=HX4.out.c11;have d12:=HX4.out.c12;have d13:=HX4.out.c13))
       all_goals first
        | exact (no_undef9 (by assumption)).elim
        | (go_ret;exact ⟨says_f fun h=>HNO.out (fun h=>Q5.out h.1) h,HX4.out.lo⟩)
     ·have HOO:=hid (implOver_any x w2 (HK.out.next HX2.out.lo) HL.out.lo HL.out.text)
      go_wp2_with (first | (refine wpList_load_row rfl 34 _ rfl w.heap.size rfl 34 #[.slice (some ⟨gc,0,none⟩) x.codes.length x.codes.length,.slice (some ⟨ga,0,none⟩) x.args.length x.args.length,.slice (some ⟨go,0,none⟩) x.outs.length x.outs.length,.slice (some ⟨gf,0,none⟩) x.frames.length x.frames.length,.int .i64 x.steps,.int .i64 x.looks,.int .i64 x.kind,.string x.name,.string x.hold,.bool x.over,.int .i64 x.fin,.string x.text,.slice (some ⟨gl,0,none⟩) x.files.length x.files.length,.slice (some ⟨gs,0,none⟩) x.said.length x.said.length] (0,0) _ HX2.out.e Tryz.underlying34 rfl (by kernel_rfl) ?_) | (go_at_call 34;refine HOO.out.mono ?_;rintro e w4 ⟨⟨ob,rfl,hob⟩,hb4⟩;have HX4:=hid (HX2.out.next hb4);have HOB:=hid hob;clear hb4 hob))
      go_ret
      exact ⟨⟨ob,rfl,HOB.out.trans ⟨fun h=>⟨Q1.out,Q2.out,Q3.out,fun _=>h,fun h2=>by rw [HOV.out] at h2;cases h2⟩,fun h=>h.2.2.2.1 HOV.out⟩⟩,HX4.out.lo⟩
    ·have i3:¬ (st < (0:Int)):=by omega
     have i4:st > (4000:Int):=by omega
     have Q4:=hid q4
     clear q3 q4
     go_wp2_with (first | (go_at_call 32;refine HFI.out.mono ?_;rintro e w2 ⟨rfl,hb2⟩;have HX2:=hid (HX.out.next hb2);clear hb2 c12;have c13:=HX2.out.c13;have c4:=HX2.out.c4;rw [HST.out] at c4) | (go_at_call 33;refine (HTX.out _ HX2.out).mono ?_;rintro e w3 ⟨rfl,hw⟩;have hw2:=hw.symm;clear hw;subst hw2))
     all_goals first
      | exact (no_undef9 (by assumption)).elim
      | (go_ret;exact ⟨says_f fun h=>by have h9:=h.2.2.1.2;rw [HST.out] at h9;have:=Q4.out;omega,HX2.out.lo⟩)
   ·have i3:st < (0:Int):=by omega
    have Q4:=hid q3
    clear q3
    go_wp2_with (first | (go_at_call 32;refine HFI.out.mono ?_;rintro e w2 ⟨rfl,hb2⟩;have HX2:=hid (HX.out.next hb2);clear hb2 c12;have c13:=HX2.out.c13;have c4:=HX2.out.c4;rw [HST.out] at c4) | (go_at_call 33;refine (HTX.out _ HX2.out).mono ?_;rintro e w3 ⟨rfl,hw⟩;have hw2:=hw.symm;clear hw;subst hw2))
    all_goals first
     | exact (no_undef9 (by assumption)).elim
     | (go_ret;exact ⟨says_f fun h=>by have h9:=h.2.2.1.1;rw [HST.out] at h9;have:=Q4.out;omega,HX2.out.lo⟩)
  ·have HTX:Hid (∀ W,MX w x (.slice (some ⟨gc,0,none⟩) x.codes.length x.codes.length) (.slice (some ⟨ga,0,none⟩) x.args.length x.args.length) (.slice (some ⟨go,0,none⟩) x.outs.length x.outs.length) (.slice (some ⟨gf,0,none⟩) x.frames.length x.frames.length) (.slice (some ⟨gl,0,none⟩) x.files.length x.files.length) (.slice (some ⟨gs,0,none⟩) x.said.length x.said.length) W→Calls Tryz.prog 33 #[.slice (some ⟨gs,0,none⟩) x.said.length x.said.length,.int .i64 50] W fun e w'=>e=.returned (.bool false)∧w'=W):=hid fun W hW=>(implTexts_any x.said 50 W (by decide) HL.out.said (HK.out.next hW.lo).k5).mono fun _ _ h=>⟨h.1.neg q2,h.2⟩
   have Q2:=hid q2
   clear q2
   go_wp2_with (first | (go_at_call 32;refine HFI.out.mono ?_;rintro e w2 ⟨rfl,hb2⟩;have HX2:=hid (HX.out.next hb2);clear hb2 c12;have c13:=HX2.out.c13;have c4:=HX2.out.c4) | (go_at_call 33;refine (HTX.out _ HX2.out).mono ?_;rintro e w3 ⟨rfl,hw⟩;have hw2:=hw.symm;clear hw;subst hw2))
   all_goals first
    | exact (no_undef9 (by assumption)).elim
    | (go_ret;exact ⟨says_f fun h=>Q2.out h.2.1,HX2.out.lo⟩)
 ·have HFI:=hid (says_fa (P.implFiles_any x.files W1 HL.out.files (HK.out.next HX.out.lo).k4) q1)
  have Q1:=hid q1
  clear q1
  go_wp2_with (go_at_call 32;refine HFI.out.mono ?_;rintro e w2 ⟨rfl,hb2⟩;have HX2:=hid (HX.out.next hb2);clear hb2 c12;have c13:=HX2.out.c13;have c4:=HX2.out.c4)
  all_goals first
   | exact (no_undef9 (by assumption)).elim
   | (go_ret;exact ⟨says_f fun h=>Q1.out h.1,HX2.out.lo⟩)
end Go.Proofs.YtbkmglknbflkhaaGreatDoor.M
