import Derived.Deep.RegionHeld3
import Derived.Deep.DeepCutAuto
import Derived.Deep.QuietTactic
import Derived.BigQuiet
import Derived.Test.YtabbahpalemlhaaGreatDoorJ30
import Derived.Test.YtabbahpalemlhaaGreatDoorJ23
import Derived.Test.YtabbahpalemlhaaGreatDoorJ19
import Derived.Test.YtabbahpalemlhaaGreatDoorJ31
import Derived.Test.YtabbahpalemlhaaGreatDoorJ44
import Derived.Test.YtabbahpalemlhaaGreatDoorJ40
import Derived.Test.YtabbahpalemlhaaGreatDoorJ41
import Derived.Test.YtabbahpalemlhaaGreatDoorJ42
import Derived.Test.YtabbahpalemlhaaGreatDoorJ38
import Derived.Test.YtabbahpalemlhaaGreatDoorJ37
namespace Go.Proofs.YtabbahpalemlhaaGreatDoor.Tk
open Go.RowKit
set_option maxRecDepth 20000
set_option maxHeartbeats 4000000 in
theorem plain_22 {nd:Nat→Nd} {O:List (List Nat)} {N b cap g co P j:Nat} {op n kids:Int} {t:ByteArray} {ks:List Nat} (h:Ctx nd O N b cap g co P j ⟨22,op,n,t,kids⟩ ks):InkOk nd O N b cap g co P j:=by
 intro W hp
 have H:=hid h
 have HP:=hid hp
 have hN:=h.hN
 have hj:=h.hj
 have p0:=hp.c0
 have p1:=hp.c1
 have hpl0:=hp.pl
 have hgl0:=hp.gl
 obtain ⟨gk,ck,hc,hgk,⟨n0,n1,n2,n3,n4⟩,hlc,hcm,HR⟩:=h.at hp
 dsimp only at n0 n1 n2 n3 n4
 have hpd:=h.plain
 have hts:=plain_text hpd
 dsimp only at hts
 have hkd:=h.kidsOk
 simp only [KidsOk] at hkd
 simp only [PlainNd] at hpd
 have hsum:=h.sum
 have htop:=h.top
 clear h hp
 obtain ⟨a,rfl⟩:∃ a,ks=[a]:=by
  match ks,(show ks.length=1 by omega) with
  | [a],_=>exact ⟨a,rfl⟩
 simp only [wgts_cons,wgts_nil] at hsum
 have hl1:[a].length=1:=rfl
 rw [hl1] at hc
 clear hl1 hkd hpd
 obtain ⟨ZJ,hZJ⟩:∃ Z,wgt O j=Z:=⟨_,rfl⟩
 rw [hZJ] at hsum htop ⊢
 clear hZJ
 have HE1:Hid (∀ V,PenAt nd O N b cap g co P V→Calls Tryz.prog 36 #[.pointer (some ⟨P,0,none⟩),.int .i64 (a:Nat)] V fun e w'=>(∃ y:ByteArray,e=.returned (.string y)∧y.size+100≤wgt O a)∧Below V.heap.size V w'):=fun V hV=>H.out.pl (by simp) V hV
 obtain ⟨Za,hZa⟩:∃ Z,wgt O a=Z:=⟨_,rfl⟩
 rw [hZa] at hsum
 rw [hZa] at HE1
 clear hZa
 have HB0:=hid (Below.refl (W.heap.size+1) (W.alloc (.cells #[.int .i64 22,.int .i64 op,.int .i64 n,.string t,.int .i64 kids] 81)))
 have HPN:Hid (∀ V,Below (W.heap.size+1) (W.alloc (.cells #[.int .i64 22,.int .i64 op,.int .i64 n,.string t,.int .i64 kids] 81)) V→PenAt nd O N b cap g co P V):=fun V h=>HP.out.next (btree h)
 have r0:=row_at HR.out hgk HB0.out 0 (by simp)
 simp at r0
 go_enter Tryz.func36,Tryz.ntmps36
 go_wp2_with fail
 refine (HE1.out _ (HPN.out _ HB0.out)).mono ?_
 rintro e w1 ⟨⟨y1,rfl,hy1⟩,hb1⟩
 have HB1:=hid (below_next HB0.out hb1)
 clear hb1
 go_wp2
 go_ret
 exact ⟨⟨_,rfl,by (try simp only [ByteArray.size_append]);show 5+y1.size+2+100≤_;omega⟩,btree HB1.out⟩
theorem lit_str {R:Nat} {W V:World} {row:Array Value} {t:TypeId} {K:Nat} (hs:Sv (fun k=>k=R) (W.alloc (.cells row t)) V) (hR:R < W.heap.size) (i:Nat) (h:∃ y:ByteArray,row[i]?=some (.string y)∧y.size≤K):∃ y:ByteArray,V.cell? ⟨W.heap.size,i,none⟩=some (.string y)∧y.size≤K:=by
 obtain ⟨y,h1,h2⟩:=h
 refine ⟨y,?_,h2⟩
 rw [hs.cell (p:=⟨W.heap.size,i,none⟩) (by simp) (by show ¬ W.heap.size=R;omega),cell_new_row]
 exact h1
theorem Sv.next {R:Nat} {w w1 w2:World} (h:Sv (fun k=>k=R) w w1) (hb:Below w1.heap.size w1 w2):Sv (fun k=>k=R) w w2:=h.trans (Sv.of_below hb)
theorem words_at (i:Nat) (h:i < 17):∃ y:ByteArray,(words.map fun x=>Value.string ⟨x.toArray⟩).toArray[i]?=some (.string y)∧y.size≤10:=by
 have h7:i=0∨i=1∨i=2∨i=3∨i=4∨i=5∨i=6∨i=7∨i=8∨i=9∨i=10∨i=11∨i=12∨i=13∨i=14∨i=15∨i=16:=by omega
 rcases h7 with rfl | rfl | rfl | rfl | rfl | rfl | rfl | rfl | rfl | rfl | rfl | rfl | rfl | rfl | rfl | rfl | rfl <;> exact ⟨_,rfl,by decide⟩
theorem marks_at (i:Nat) (h:i < 23):∃ y:ByteArray,(marks.map fun x=>Value.string ⟨x.toArray⟩).toArray[i]?=some (.string y)∧y.size≤10:=by
 have h7:i=0∨i=1∨i=2∨i=3∨i=4∨i=5∨i=6∨i=7∨i=8∨i=9∨i=10∨i=11∨i=12∨i=13∨i=14∨i=15∨i=16∨i=17∨i=18∨i=19∨i=20∨i=21∨i=22:=by omega
 rcases h7 with rfl | rfl | rfl | rfl | rfl | rfl | rfl | rfl | rfl | rfl | rfl | rfl | rfl | rfl | rfl | rfl | rfl | rfl | rfl | rfl | rfl | rfl | rfl <;> exact ⟨_,rfl,by decide⟩
def TxEnd (R c p K:Nat) (w:World) (e:Ending) (w':World):Prop:=(∃ y:ByteArray,e=.returned (.string y)∧y.size≤K)∧Drew R c p w w'
set_option maxHeartbeats 8000000 in
theorem piece_at (R p:Nat) (w:World) (hp:p≤800000000) (hr:Rd R w p) :
  Calls Tryz.prog 12 #[.pointer (some ⟨R,0,none⟩)] w (TxEnd R 20 p 20000 w):=by
 have HR:=hid hr
 clear hr
 go_enter Tryz.func12,Tryz.ntmps12
 go_wp2_with fail
 refine (pick_any R p 12 _ (by omega) (by omega) HR.out).mono ?_
 rintro e w1 ⟨⟨x,rfl,hx⟩,hr1,hs1⟩
 have HR1:=hid hr1
 have HS1:=hid hs1
 clear hr1 hs1 HR
 have hx12:x=0∨x=1∨x=2∨x=3∨x=4∨x=5∨x=6∨x=7∨x=8∨x=9∨x=10∨x=11:=by omega
 clear hx
 rcases hx12 with rfl | rfl | rfl | rfl | rfl | rfl | rfl | rfl | rfl | rfl | rfl | rfl
 ·go_wp2_with fail
  refine (pick_any R (p+1) 3 _ (by omega) (by omega) HR1.out).mono ?_
  rintro e w2 ⟨⟨y,rfl,hy⟩,hr2,hs2⟩
  have HR2:=hid hr2
  have HS2:=hid (HS1.out.trans hs2)
  clear hr2 hs2
  go_wp2_with fail
  refine (dec_q y _ (by omega)).mono ?_
  rintro e w3 ⟨⟨t3,rfl,ht3⟩,hb3⟩
  have HD:Hid (Drew R 20 p w w3):=⟨p+1+1,by omega,by omega,HR2.out.next hb3,Sv.next HS2.out hb3⟩
  clear hb3
  go_wp2
  go_ret
  exact ⟨⟨_,rfl,by rw [ByteArray.size_append];show 4+t3.size≤_;omega⟩,HD.out⟩
 ·go_wp2_with fail
  refine (l1Words_any _).mono ?_
  rintro e w2 ⟨rfl,rfl⟩
  go_wp2_with fail
  refine (pick_any R (p+1) 17 _ (by omega) (by omega) (HR1.out.next ((Below.refl _ _).alloc (Nat.le_refl _) _))).mono ?_
  rintro e w3 ⟨⟨y,rfl,hy⟩,hr2,hs2⟩
  have hy9:y < 17:=by omega
  have hz9:(y:Int) < 17:=by omega
  obtain ⟨t2,c2,hc2⟩:=lit_str (K:=10) hs2 HR1.out.lt y (words_at y hy9)
  have HD:Hid (Drew R 20 p w w3):=⟨p+1+1,by omega,by omega,hr2,(HS1.out.alloc _).trans hs2⟩
  clear hr2 hs2 hy
  go_wp2
  go_ret
  exact ⟨⟨_,rfl,by omega⟩,HD.out⟩
 ·go_wp2_with fail
  refine (l1Words_any _).mono ?_
  rintro e w2 ⟨rfl,rfl⟩
  go_wp2_with fail
  refine (pick_any R (p+1) 17 _ (by omega) (by omega) (HR1.out.next ((Below.refl _ _).alloc (Nat.le_refl _) _))).mono ?_
  rintro e w3 ⟨⟨y,rfl,hy⟩,hr2,hs2⟩
  have hy9:y < 17:=by omega
  have hz9:(y:Int) < 17:=by omega
  obtain ⟨t2,c2,hc2⟩:=lit_str (K:=10) hs2 HR1.out.lt y (words_at y hy9)
  have HD:Hid (Drew R 20 p w w3):=⟨p+1+1,by omega,by omega,hr2,(HS1.out.alloc _).trans hs2⟩
  clear hr2 hs2 hy
  go_wp2
  go_ret
  exact ⟨⟨_,rfl,by omega⟩,HD.out⟩
 ·go_wp2_with fail
  refine (pick_any R (p+1) 9 _ (by omega) (by omega) (HR1.out.next ((Below.refl _ _).alloc (Nat.le_refl _) _))).mono ?_
  rintro e w2 ⟨⟨y,rfl,hy⟩,hr2,hs2⟩
  have hy9:y < 9:=by omega
  have hz9:(y:Int) < 9:=by omega
  obtain ⟨t2,c2,hc2⟩:=lit_str (K:=30) hs2 HR1.out.lt y (by
   have h7:y=0∨y=1∨y=2∨y=3∨y=4∨y=5∨y=6∨y=7∨y=8:=by omega
   rcases h7 with rfl | rfl | rfl | rfl | rfl | rfl | rfl | rfl | rfl <;> exact ⟨_,rfl,by decide⟩)
  have HD:Hid (Drew R 20 p w w2):=⟨p+1+1,by omega,by omega,hr2,(HS1.out.alloc _).trans hs2⟩
  clear hr2 hs2 hy
  go_wp2
  go_ret
  exact ⟨⟨_,rfl,by omega⟩,HD.out⟩
 ·go_wp2_with fail
  refine (l1DrawText_any R (p+1) _ (by omega) HR1.out).mono ?_
  rintro e w2 ⟨⟨t2,rfl,ht2⟩,p2,hp1,hp2,hr2,hs2⟩
  have HR2:=hid hr2
  have HS2:=hid (HS1.out.trans hs2)
  clear hr2 hs2
  go_wp2_with fail
  refine (quote_q t2 _ (by omega)).mono ?_
  rintro e w3 ⟨⟨t3,rfl,ht3⟩,hb3⟩
  have HD:Hid (Drew R 20 p w w3):=⟨p2,by omega,by omega,HR2.out.next hb3,Sv.next HS2.out hb3⟩
  clear hb3
  go_wp2
  go_ret
  exact ⟨⟨_,rfl,by omega⟩,HD.out⟩
 ·go_wp2_with fail
  refine (pick_any R (p+1) 8 _ (by omega) (by omega) (HR1.out.next ((Below.refl _ _).alloc (Nat.le_refl _) _))).mono ?_
  rintro e w2 ⟨⟨y,rfl,hy⟩,hr2,hs2⟩
  have hy9:y < 8:=by omega
  have hz9:(y:Int) < 8:=by omega
  obtain ⟨t2,c2,hc2⟩:=lit_str (K:=30) hs2 HR1.out.lt y (by
   have h7:y=0∨y=1∨y=2∨y=3∨y=4∨y=5∨y=6∨y=7:=by omega
   rcases h7 with rfl | rfl | rfl | rfl | rfl | rfl | rfl | rfl <;> exact ⟨_,rfl,by decide⟩)
  have HD:Hid (Drew R 20 p w w2):=⟨p+1+1,by omega,by omega,hr2,(HS1.out.alloc _).trans hs2⟩
  clear hr2 hs2 hy
  go_wp2
  go_ret
  exact ⟨⟨_,rfl,by omega⟩,HD.out⟩
 ·go_wp2_with fail
  refine (pick_any R (p+1) 9 _ (by omega) (by omega) (HR1.out.next ((Below.refl _ _).alloc (Nat.le_refl _) _))).mono ?_
  rintro e w2 ⟨⟨y,rfl,hy⟩,hr2,hs2⟩
  have hy9:y < 9:=by omega
  have hz9:(y:Int) < 9:=by omega
  obtain ⟨t2,c2,hc2⟩:=lit_str (K:=30) hs2 HR1.out.lt y (by
   have h7:y=0∨y=1∨y=2∨y=3∨y=4∨y=5∨y=6∨y=7∨y=8:=by omega
   rcases h7 with rfl | rfl | rfl | rfl | rfl | rfl | rfl | rfl | rfl <;> exact ⟨_,rfl,by decide⟩)
  have HD:Hid (Drew R 20 p w w2):=⟨p+1+1,by omega,by omega,hr2,(HS1.out.alloc _).trans hs2⟩
  clear hr2 hs2 hy
  go_wp2
  go_ret
  exact ⟨⟨_,rfl,by omega⟩,HD.out⟩
 ·go_wp2_with fail
  refine (pick_any R (p+1) 2 _ (by omega) (by omega) HR1.out).mono ?_
  rintro e w2 ⟨⟨y,rfl,hy⟩,hr2,hs2⟩
  have HD:Hid (Drew R 20 p w w2):=⟨p+1+1,by omega,by omega,hr2,HS1.out.trans hs2⟩
  obtain ⟨z,hz⟩:∃ z,30+y=z:=⟨_,rfl⟩
  have hwr:IntKind.i64.wrap (30+(y:Int))=(z:Int):=by rw [IntKind.wrap_i64];omega
  have HM:=hid (fun W=>many_q ⟨#[110]⟩ z W (by show 1 * z≤_;omega) (by omega) (by decide))
  clear hr2 hs2 hz hy
  go_wp2_with fail
  refine (HM.out _).mono ?_
  rintro e w3 ⟨⟨t3,rfl,ht3⟩,hw3⟩
  have e3:=hw3.symm
  subst e3
  go_wp2
  go_ret
  exact ⟨⟨_,rfl,ht3⟩,HD.out⟩
 ·go_wp2_with fail
  refine (l1Marks_any _).mono ?_
  rintro e w2 ⟨rfl,rfl⟩
  go_wp2_with fail
  refine (pick_any R (p+1) 23 _ (by omega) (by omega) (HR1.out.next ((Below.refl _ _).alloc (Nat.le_refl _) _))).mono ?_
  rintro e w3 ⟨⟨y,rfl,hy⟩,hr2,hs2⟩
  have hy9:y < 23:=by omega
  have hz9:(y:Int) < 23:=by omega
  obtain ⟨t2,c2,hc2⟩:=lit_str (K:=10) hs2 HR1.out.lt y (marks_at y hy9)
  have HD:Hid (Drew R 20 p w w3):=⟨p+1+1,by omega,by omega,hr2,(HS1.out.alloc _).trans hs2⟩
  clear hr2 hs2 hy
  go_wp2
  go_ret
  exact ⟨⟨_,rfl,by omega⟩,HD.out⟩
 ·go_wp2_with fail
  refine (l1Marks_any _).mono ?_
  rintro e w2 ⟨rfl,rfl⟩
  go_wp2_with fail
  refine (pick_any R (p+1) 23 _ (by omega) (by omega) (HR1.out.next ((Below.refl _ _).alloc (Nat.le_refl _) _))).mono ?_
  rintro e w3 ⟨⟨y,rfl,hy⟩,hr2,hs2⟩
  have hy9:y < 23:=by omega
  have hz9:(y:Int) < 23:=by omega
  obtain ⟨t2,c2,hc2⟩:=lit_str (K:=10) hs2 HR1.out.lt y (marks_at y hy9)
  have HD:Hid (Drew R 20 p w w3):=⟨p+1+1,by omega,by omega,hr2,(HS1.out.alloc _).trans hs2⟩
  clear hr2 hs2 hy
  go_wp2
  go_ret
  exact ⟨⟨_,rfl,by omega⟩,HD.out⟩
 ·go_wp2_with fail
  refine (l1Marks_any _).mono ?_
  rintro e w2 ⟨rfl,rfl⟩
  go_wp2_with fail
  refine (pick_any R (p+1) 23 _ (by omega) (by omega) (HR1.out.next ((Below.refl _ _).alloc (Nat.le_refl _) _))).mono ?_
  rintro e w3 ⟨⟨y,rfl,hy⟩,hr2,hs2⟩
  have hy9:y < 23:=by omega
  have hz9:(y:Int) < 23:=by omega
  obtain ⟨t2,c2,hc2⟩:=lit_str (K:=10) hs2 HR1.out.lt y (marks_at y hy9)
  have HD:Hid (Drew R 20 p w w3):=⟨p+1+1,by omega,by omega,hr2,(HS1.out.alloc _).trans hs2⟩
  clear hr2 hs2 hy
  go_wp2
  go_ret
  exact ⟨⟨_,rfl,by omega⟩,HD.out⟩
 ·go_wp2_with fail
  refine (l1Marks_any _).mono ?_
  rintro e w2 ⟨rfl,rfl⟩
  go_wp2_with fail
  refine (pick_any R (p+1) 23 _ (by omega) (by omega) (HR1.out.next ((Below.refl _ _).alloc (Nat.le_refl _) _))).mono ?_
  rintro e w3 ⟨⟨y,rfl,hy⟩,hr2,hs2⟩
  have hy9:y < 23:=by omega
  have hz9:(y:Int) < 23:=by omega
  obtain ⟨t2,c2,hc2⟩:=lit_str (K:=10) hs2 HR1.out.lt y (marks_at y hy9)
  have HD:Hid (Drew R 20 p w w3):=⟨p+1+1,by omega,by omega,hr2,(HS1.out.alloc _).trans hs2⟩
  clear hr2 hs2 hy
  go_wp2
  go_ret
  exact ⟨⟨_,rfl,by omega⟩,HD.out⟩
theorem cut_size (s:ByteArray) (a b:Nat):(s.extract a b).size≤s.size:=by
 rw [ByteArray.size_extract]
 omega
theorem Drew.drewN {R c p:Nat} {w w2:World} (h:Drew R c p w w2) (n:Nat):Drew R c p w (w2.drewN n):=by
 obtain ⟨q,h1,h2,h3,h4⟩:=h
 exact ⟨q,h1,h2,h3.sv (S:=fun _=>False) (Sv.drewN (Sv.refl _ _) n) (fun _ h=>h.elim),h4.drewN n⟩
def IsRow (x:Nat) (o:Option Value):Prop:=o=(#[.string ⟨#[32]⟩,.string ⟨#[10]⟩,.string ⟨#[34]⟩,.string ⟨#[92]⟩,.string ⟨#[48]⟩,.string ⟨#[120]⟩,.string ⟨#[40]⟩,.string ⟨#[41]⟩,.string ⟨#[59]⟩,.string ⟨#[35]⟩,.string ⟨#[61]⟩,.string ⟨#[61,62]⟩,.string ⟨#[32,105,102,32]⟩,.string ⟨#[32,105,110,32]⟩,.string ⟨#[44]⟩,.string ⟨#[45]⟩]:Array Value)[x]?
theorem row_of {x:Nat} (hx:x < 16):∃ y:ByteArray,y.size≤10∧∀ (W:World) (p:Addr),IsRow x (W.cell? p)→W.cell? p=some (.string y):=by
 have h7:x=0∨x=1∨x=2∨x=3∨x=4∨x=5∨x=6∨x=7∨x=8∨x=9∨x=10∨x=11∨x=12∨x=13∨x=14∨x=15:=by omega
 rcases h7 with rfl | rfl | rfl | rfl | rfl | rfl | rfl | rfl | rfl | rfl | rfl | rfl | rfl | rfl | rfl | rfl <;> exact ⟨_,by decide,fun _ _ h=>h⟩
theorem row_lit {R x:Nat} {W V:World} (hs:Sv (fun k=>k=R) (W.alloc (.cells #[.string ⟨#[32]⟩,.string ⟨#[10]⟩,.string ⟨#[34]⟩,.string ⟨#[92]⟩,.string ⟨#[48]⟩,.string ⟨#[120]⟩,.string ⟨#[40]⟩,.string ⟨#[41]⟩,.string ⟨#[59]⟩,.string ⟨#[35]⟩,.string ⟨#[61]⟩,.string ⟨#[61,62]⟩,.string ⟨#[32,105,102,32]⟩,.string ⟨#[32,105,110,32]⟩,.string ⟨#[44]⟩,.string ⟨#[45]⟩] 9)) V) (hR:R < W.heap.size):IsRow x (V.cell? ⟨W.heap.size,x,none⟩):=by
 unfold IsRow
 rw [hs.cell (p:=⟨W.heap.size,x,none⟩) (by simp) (by show ¬ W.heap.size=R;omega),cell_new_row]
theorem row_new (W:World) (x:Nat):IsRow x ((W.alloc (.cells #[.string ⟨#[32]⟩,.string ⟨#[10]⟩,.string ⟨#[34]⟩,.string ⟨#[92]⟩,.string ⟨#[48]⟩,.string ⟨#[120]⟩,.string ⟨#[40]⟩,.string ⟨#[41]⟩,.string ⟨#[59]⟩,.string ⟨#[35]⟩,.string ⟨#[61]⟩,.string ⟨#[61,62]⟩,.string ⟨#[32,105,102,32]⟩,.string ⟨#[32,105,110,32]⟩,.string ⟨#[44]⟩,.string ⟨#[45]⟩] 9)).cell? ⟨W.heap.size,x,none⟩):=by
 unfold IsRow
 rw [cell_new_row]
set_option maxHeartbeats 8000000 in
theorem bend_at (R p:Nat) (s:ByteArray) (w:World) (hp:p≤800000000) (hs:s.size≤100000000) (hr:Rd R w p) :
  Calls Tryz.prog 19 #[.pointer (some ⟨R,0,none⟩),.string s] w (TxEnd R 20 p 300000000 w):=by
 have HR:=hid hr
 clear hr
 go_enter Tryz.func19,Tryz.ntmps19
 go_wp2_with fail
 refine (pick_any R p 256 _ (by omega) (by omega) HR.out).mono ?_
 rintro e w1 ⟨⟨x,rfl,hx⟩,hr1,hs1⟩
 have HR1:=hid hr1
 have HS1:=hid hs1
 have hx2:x≤255:=by omega
 have hq0:x * (s.size+1)≤255 * (s.size+1):=Nat.mul_le_mul_right _ hx2
 obtain ⟨q,hq⟩:∃ q,x * (s.size+1)=q:=⟨_,rfl⟩
 have hqi:(x:Int) * ((s.size:Int)+1)=(q:Int):=by rw [← hq,Int.natCast_mul];rfl
 rw [hq] at hq0
 have hw1:IntKind.i64.wrap ((s.size:Int)+1)=(s.size:Int)+1:=by rw [IntKind.wrap_i64];omega
 have hw2:IntKind.i64.wrap (q:Int)=(q:Int):=by rw [IntKind.wrap_i64];omega
 obtain ⟨i,hi⟩:∃ i,q / 256=i:=⟨_,rfl⟩
 have hii:(q:Int) / 256=(i:Int):=by omega
 have hil:i≤s.size:=by omega
 clear hr1 hs1 HR hx hq hq0 hi
 go_wp2_with fail
 refine (pick_any R (p+1) 6 _ (by omega) (by omega) HR1.out).mono ?_
 rintro e w2 ⟨⟨x2,rfl,hx2⟩,hr2,hs2⟩
 have HR2:=hid hr2
 have HS2:=hid (HS1.out.trans hs2)
 have HD2:Hid (Drew R 20 p w w2):=⟨p+1+1,by omega,by omega,hr2,HS1.out.trans hs2⟩
 clear hr2 hs2 HR1 HS1 hqi hii hw1 hw2
 have hx6:x2=0∨x2=1∨x2=2∨x2=3∨x2=4∨x2=5:=by omega
 clear hx2
 have hi1:(0:Int)≤(i:Int):=by omega
 have hi2:(i:Int)≤(s.size:Int):=by omega
 have hc1:=cut_size s 0 i
 have hc2:=cut_size s i s.size
 have hc3:=cut_size s (i+1) s.size
 have hRl:=HR2.out.lt
 rcases hx6 with rfl | rfl | rfl | rfl | rfl | rfl
 ·go_wp2
  go_ret
  exact ⟨⟨_,rfl,by omega⟩,HD2.out⟩
 ·have k0:¬ (9223372036854775807 < (s.extract 0 i).size):=by omega
  go_wp2_with fail
  go_region_law (first
   | (refine step_enter rfl (f:=8) (vals:=#[.pointer (some ⟨R,0,none⟩),.int .i64 16]) (by kernel_rfl) (pick_any R (p+1+1) 16 (w2.drew.alloc (.cells #[.string ⟨#[32]⟩,.string ⟨#[10]⟩,.string ⟨#[34]⟩,.string ⟨#[92]⟩,.string ⟨#[48]⟩,.string ⟨#[120]⟩,.string ⟨#[40]⟩,.string ⟨#[41]⟩,.string ⟨#[59]⟩,.string ⟨#[35]⟩,.string ⟨#[61]⟩,.string ⟨#[61,62]⟩,.string ⟨#[32,105,102,32]⟩,.string ⟨#[32,105,110,32]⟩,.string ⟨#[44]⟩,.string ⟨#[45]⟩] 9)) (by omega) (by omega) (HR2.out.next ((Below.refl w2.heap.size w2).drew.alloc (Nat.le_refl _) _))) ?_;intro e w3 hh;obtain ⟨⟨y,rfl,hy⟩,hr3,hs3⟩:=hh;refine ⟨_,rfl,?_⟩;have hy9:y < 16:=(by omega);have hz9:(y:Int) < 16:=(by omega);obtain ⟨t3,b3,hy3⟩:=row_of hy9;have c3:w3.cell? ⟨w2.heap.size,y,none⟩=some (.string t3):=(hy3 _ _ (row_lit (W:=w2.drew) hs3 hRl));have k1:¬ (9223372036854775807 < i+t3.size):=(by omega);have k2:¬ (9223372036854775807 < i+t3.size+(s.size - i)):=(by omega);have HD3:Hid (Drew R 20 p w w3):=⟨p+1+1+1,by omega,by omega,hr3,(HS2.out.drew.alloc _).trans hs3⟩;clear hr3 hs3 hy hy3)
   | (refine step_enter rfl (f:=8) (vals:=#[.pointer (some ⟨R,0,none⟩),.int .i64 16]) (by kernel_rfl) (pick_any R (p+1+1) 16 w2.drew (by omega) (by omega) (HR2.out.next ((Below.refl w2.heap.size w2).drew))) ?_;intro e w3 hh;obtain ⟨⟨y,rfl,hy⟩,hr3,hs3⟩:=hh;refine ⟨_,rfl,?_⟩;have hy9:y < 16:=(by omega);have hz9:(y:Int) < 16:=(by omega);obtain ⟨t3,b3,hy3⟩:=row_of hy9;have c3:(w3.alloc (.cells #[.string ⟨#[32]⟩,.string ⟨#[10]⟩,.string ⟨#[34]⟩,.string ⟨#[92]⟩,.string ⟨#[48]⟩,.string ⟨#[120]⟩,.string ⟨#[40]⟩,.string ⟨#[41]⟩,.string ⟨#[59]⟩,.string ⟨#[35]⟩,.string ⟨#[61]⟩,.string ⟨#[61,62]⟩,.string ⟨#[32,105,102,32]⟩,.string ⟨#[32,105,110,32]⟩,.string ⟨#[44]⟩,.string ⟨#[45]⟩] 9)).cell? ⟨w3.heap.size,y,none⟩=some (.string t3):=(hy3 _ _ (row_new w3 y));have k1:¬ (9223372036854775807 < i+t3.size):=(by omega);have k2:¬ (9223372036854775807 < i+t3.size+(s.size - i)):=(by omega);have HD3:Hid (Drew R 20 p w (w3.alloc (.cells #[.string ⟨#[32]⟩,.string ⟨#[10]⟩,.string ⟨#[34]⟩,.string ⟨#[92]⟩,.string ⟨#[48]⟩,.string ⟨#[120]⟩,.string ⟨#[40]⟩,.string ⟨#[41]⟩,.string ⟨#[59]⟩,.string ⟨#[35]⟩,.string ⟨#[61]⟩,.string ⟨#[61,62]⟩,.string ⟨#[32,105,102,32]⟩,.string ⟨#[32,105,110,32]⟩,.string ⟨#[44]⟩,.string ⟨#[45]⟩] 9))):=⟨p+1+1+1,by omega,by omega,hr3.next ((Below.refl _ _).alloc (Nat.le_refl _) _),((HS2.out.drew).trans hs3).alloc _⟩;clear hr3 hs3 hy hy3))
  all_goals
   go_wp2
   go_ret
   exact ⟨⟨_,rfl,by rw [ByteArray.size_append,ByteArray.size_append];omega⟩,HD3.out⟩
 ·by_cases hlt:i < s.size
  ·have hlti:(i:Int) < (s.size:Int):=by omega
   have hwr:IntKind.i64.wrap ((i:Int)+1)=(i:Int)+1:=by rw [IntKind.wrap_i64];omega
   have hwl:(i:Int)+1≤(s.size:Int):=by omega
   have hw0:(0:Int)≤(i:Int)+1:=by omega
   have k1:¬ (9223372036854775807 < i+(s.size - (i+1))):=by omega
   go_wp2_with fail
   go_quiet (fail)
   go_wp2
   go_ret
   exact ⟨⟨_,rfl,by rw [ByteArray.size_append];omega⟩,Drew.drewN HD2.out _⟩
  ·go_wp2
   go_ret
   exact ⟨⟨_,rfl,by rw [ByteArray.size_append];omega⟩,HD2.out⟩
 ·by_cases hlt:i < s.size
  ·have hlti:(i:Int) < (s.size:Int):=by omega
   have hwr:IntKind.i64.wrap ((i:Int)+1)=(i:Int)+1:=by rw [IntKind.wrap_i64];omega
   have hwl:(i:Int)+1≤(s.size:Int):=by omega
   have hw0:(0:Int)≤(i:Int)+1:=by omega
   have k1:¬ (9223372036854775807 < i+1):=by omega
   have k2:¬ (9223372036854775807 < i+1+(s.size - (i+1))):=by omega
   go_wp2_with fail
   go_region_law (refine step_enter rfl (f:=8) (vals:=#[.pointer (some ⟨R,0,none⟩),.int .i64 256]) (by kernel_rfl) (pick_any R (p+1+1) 256 w2.drew (by omega) (by omega) (HR2.out.next ((Below.refl w2.heap.size w2).drew))) ?_;intro e w3 hh;obtain ⟨⟨y,rfl,hy⟩,hr3,hs3⟩:=hh;refine ⟨_,rfl,?_⟩;obtain ⟨b3,hb3⟩:=u8_of (y:Int);obtain ⟨d3,hd3⟩:∃ d,IntKind.u8.wrap (y:Int)=d:=⟨_,rfl⟩;rw [hd3] at hb3;have hcv:=conv_one w3 d3 b3 hb3;have HD3:Hid (Drew R 20 p w (w3.alloc (.cells #[.int .u8 d3] 5))):=⟨p+1+1+1,by omega,by omega,hr3.next ((Below.refl _ _).alloc (Nat.le_refl _) _),((HS2.out.drew).trans hs3).alloc _⟩;clear hr3 hs3 hy hb3)
   all_goals
    go_wp2
    go_ret
    exact ⟨⟨_,rfl,by rw [ByteArray.size_append,ByteArray.size_append];show _+1+_≤_;omega⟩,HD3.out⟩
  ·go_wp2
   go_ret
   exact ⟨⟨_,rfl,by rw [ByteArray.size_append];omega⟩,HD2.out⟩
 ·go_wp2_with fail
  refine (pick_any R (p+1+1) 12 _ (by omega) (by omega) HR2.out).mono ?_
  rintro e w3 ⟨⟨y,rfl,hy⟩,hr3,hs3⟩
  have hy9:y < 12:=by omega
  obtain ⟨j,hj⟩:∃ j,i+y=j:=⟨_,rfl⟩
  have hwr:IntKind.i64.wrap ((i:Int)+(y:Int))=(j:Int):=by rw [IntKind.wrap_i64];omega
  have hc4:=cut_size s j s.size
  have HD3:Hid (Drew R 20 p w w3):=⟨p+1+1+1,by omega,by omega,hr3,HS2.out.trans hs3⟩
  clear hr3 hs3 hj hy
  by_cases hlt:j < s.size
  ·have hlti:(j:Int) < (s.size:Int):=by omega
   have hlte:(j:Int)≤(s.size:Int):=by omega
   have hj0:(0:Int)≤(j:Int):=by omega
   have k1:¬ (9223372036854775807 < i+(s.size - j)):=by omega
   go_wp2_with fail
   go_quiet (fail)
   go_wp2
   go_ret
   exact ⟨⟨_,rfl,by rw [ByteArray.size_append];omega⟩,Drew.drewN HD3.out _⟩
  ·go_wp2
   go_ret
   exact ⟨⟨_,rfl,by rw [ByteArray.size_append];omega⟩,HD3.out⟩
 ·go_wp2
  go_ret
  exact ⟨⟨_,rfl,by rw [ByteArray.size_append];omega⟩,HD2.out⟩
theorem plain_all {nd:Nat→Nd} {O:List (List Nat)} {N b cap g co P:Nat} (hg:Good nd O N):∀ j,j < N→InkOk nd O N b cap g co P j:=by
 intro j
 induction j using Nat.strongRecOn with
 | _ j ih =>
  intro hj
  have hf:=hg.fit j hj
  obtain ⟨ks,hks⟩:∃ ks,O.getD j []=ks:=⟨_,rfl⟩
  obtain ⟨x,hx⟩:∃ x,nd j=x:=⟨_,rfl⟩
  have hp:=hf.1
  have hk:=hf.2
  have hs:=hg.sum hj
  rw [hks] at hk hs
  rw [hx] at hp hk
  have C:Ctx nd O N b cap g co P j x ks:=⟨hg.hN,hj,hx,hks,hp,hk,hs.1,hs.2,by rw [← hks];exact hg.kl hj,fun k hm=>by
   have hlt:k < j:=hg.down j k (by rw [hks];exact hm)
   exact ⟨by omega,ih k hlt (by omega),(hg.fit k (by omega)).1⟩⟩
  obtain ⟨kd,op,n,t,kids⟩:=x
  have hkd:1≤kd∧kd≤24:=by
   dsimp only [KidsOk] at hk
   omega
  obtain rfl | rfl | rfl | rfl | rfl | rfl | rfl | rfl | rfl | rfl | rfl | rfl | rfl | rfl | rfl | rfl | rfl | rfl | rfl | rfl | rfl | rfl | rfl | rfl:kd=1∨kd=2∨kd=3∨kd=4∨kd=5∨kd=6∨kd=7∨kd=8∨kd=9∨kd=10∨kd=11∨kd=12∨kd=13∨kd=14∨kd=15∨kd=16∨kd=17∨kd=18∨kd=19∨kd=20∨kd=21∨kd=22∨kd=23∨kd=24:=by omega
  ·exact plain_1 C
  ·exact plain_2 C
  ·exact plain_3 C
  ·exact plain_4 C
  ·exact plain_5 C
  ·exact plain_6 C
  ·exact plain_7 C
  ·exact plain_8 C
  ·exact plain_9 C
  ·exact plain_10 C
  ·exact plain_11 C
  ·exact plain_12 C
  ·exact plain_13 C
  ·exact plain_14 C
  ·exact plain_15 C
  ·exact plain_16 C
  ·exact plain_17 C
  ·exact plain_18 C
  ·exact plain_19 C
  ·exact plain_20 C
  ·exact plain_21 C
  ·exact plain_22 C
  ·exact plain_23 C
  ·exact plain_24 C
set_option maxHeartbeats 1000000 in
theorem valid_0 (ad:Option Addr) (c:Nat) (w:World) :
  Calls Tryz.prog 34 #[.agg #[.slice ad 0 c]] w fun e w'=>e=.returned (.bool false)∧Below w.heap.size w w':=by
 go_enter Tryz.func34,Tryz.ntmps34
 go_wp2_with (first
  | (go_at_call 50;refine (l1In_dec _ _ _ _).mono ?_;rintro e w' ⟨rfl,hw⟩;have hw2:=hw.symm;clear hw;subst hw2;rw [show (decide ((1:Int)≤0) && decide ((0:Int)≤5000))=false from rfl]))
 go_ret
 exact ⟨rfl,(Below.refl _ _).alloc (Nat.le_refl _) _⟩
set_option maxHeartbeats 1000000 in
theorem print_0 (ad:Option Addr) (c:Nat) (w:World) :
  Calls Tryz.prog 16 #[.agg #[.slice ad 0 c]] w fun e w'=>(∃ y:ByteArray,e=.returned (.string y)∧y.size≤8000)∧Below w.heap.size w w':=by
 have HA:=hid ((Below.refl w.heap.size w).alloc (Nat.le_refl _) (.cells #[.slice ad 0 c] 50))
 go_enter Tryz.func16,Tryz.ntmps16
 go_wp2_with fail
 refine (valid_0 ad c _).mono ?_
 rintro e w1 ⟨rfl,hb1⟩
 have HB1:=hid (HA.out.trans (hb1.mono (by simp)))
 clear hb1
 go_wp2
 go_ret
 exact ⟨⟨_,rfl,by decide⟩,HB1.out⟩
set_option maxHeartbeats 4000000 in
theorem print_nodes (b N cap:Nat) (nd:Nat→Nd) (w:World) (hN:N≤1048576) (hb:b < w.heap.size) (hn:NodesAt w b N nd) (hx:∀ i,i < N→(nd i).text.size≤maxLen) :
  Calls Tryz.prog 16 #[.agg #[.slice (some ⟨b,0,none⟩) N cap]] w fun e w'=>(∃ y:ByteArray,e=.returned (.string y)∧y.size≤8000)∧Below w.heap.size w w':=by
 have HX:=hid hx
 have HN:=hid hn
 have HB0:=hid (Below.refl (w.heap.size+1) (w.alloc (.cells #[.slice (some ⟨b,0,none⟩) N cap] 50)))
 clear hx hn
 go_enter Tryz.func16,Tryz.ntmps16
 go_wp2_with fail
 refine (specValid_all b N cap nd _ hN (by simp;omega) (HN.out.below (btree HB0.out) hb) HX.out).mono ?_
 rintro e w1 ⟨hs,hb1⟩
 have HB1:=hid (below_next HB0.out hb1)
 have t1:=tree_cell HB1.out
 clear hb1
 rcases hs.get with ⟨rfl,hv⟩ | ⟨rfl,hv⟩
 ·have HV:=hid hv
  obtain ⟨hN1,hN2,h24,O,x,hkf0,hfit⟩:=hv
  have HG:Hid (Good nd O N):=⟨hN2,⟨_,hkf0⟩,fun i hi=>(hfit i hi).2⟩
  have HK0:=hid hkf0
  have hbl1:b < w1.heap.size:=by have:=HB1.out.size;simp at this;omega
  clear hs hkf0 hfit
  go_wp2_with fail
  refine (l2Kids_any b N cap nd _ hN2 hbl1 (HN.out.below (btree HB1.out) hb)).mono ?_
  rintro e w2 ⟨hb2,⟨v,rfl,hno⟩ | ⟨L,x2,go,co,rfl,hkf,hrow,hgo,hall⟩⟩
  ·exact absurd HK0.out (hno _ _)
  ·have hLO:L.map (fun x=>x.2.2)=O:=by
    have:=HK0.out
    rw [hkf] at this
    injection this with this
    injection this with this
   have hLl:L.length=N:=by have:=(kidsF_len nd _ _ _ hkf).1;rwa [List.length_map] at this
   have HB2:=hid (below_next HB1.out hb2)
   have t2:=tree_cell HB2.out
   have hbl2:b < w2.heap.size:=by have:=hb2.size;omega
   have hgl2:=hrow.lt
   have hwz2:w.heap.size+1≤w2.heap.size:=by have:=HB2.out.size;simpa using this
   have HPEN:Hid (PenAt nd O N b cap go co w2.heap.size (w2.alloc (.cells #[.slice (some ⟨b,0,none⟩) N cap,.slice (some ⟨go,0,none⟩) N co] 70))):=by
    have ha:=(Below.refl w2.heap.size w2).alloc (Nat.le_refl _) (.cells #[.slice (some ⟨b,0,none⟩) N cap,.slice (some ⟨go,0,none⟩) N co] 70)
    refine ⟨by rw [cell_new_row];rfl,by rw [cell_new_row];rfl,by simp,by simp;omega,by simp;omega,HN.out.below ((btree HB2.out).trans (ha.mono (by omega))) hb,fun j hj=>?_⟩
    have hjL:j < L.length:=by omega
    have hmem:L[j] ∈ L:=List.getElem_mem hjL
    obtain ⟨_,hrk⟩:=hall _ hmem
    have e:O.getD j []=L[j].2.2:=by rw [← hLO,List.getD_eq_getElem?_getD,List.getElem?_map,List.getElem?_eq_getElem hjL];rfl
    refine ⟨L[j].1,L[j].2.1,?_,?_⟩
    ·rw [ha.cell (p:=⟨go,j,none⟩) hgl2,hrow.cell j hjL,e]
     simp [gridRow,hjL]
    ·rw [e]
     exact hrk.below ha hrk.lt
   have HBP:Hid (Below w.heap.size w (w2.alloc (.cells #[.slice (some ⟨b,0,none⟩) N cap,.slice (some ⟨go,0,none⟩) N co] 70))):=(btree HB2.out).alloc (by omega) _
   have t3:(w2.alloc (.cells #[.slice (some ⟨b,0,none⟩) N cap,.slice (some ⟨go,0,none⟩) N co] 70)).cell? ⟨w.heap.size,0,none⟩=some (.slice (some ⟨b,0,none⟩) N cap):=(((Below.refl w2.heap.size w2).alloc (Nat.le_refl _) _).cell (p:=⟨w.heap.size,0,none⟩) (by show w.heap.size < _;omega)).trans t2
   have hNi:((N:Int) - 1)=((N - 1:Nat):Int):=by omega
   have HPA:=hid (plain_all HG.out (b:=b) (cap:=cap) (g:=go) (co:=co) (P:=w2.heap.size) (N - 1) (by omega))
   have hW:=(HG.out.sum (j:=N - 1) (by omega)).2
   rw [hLl]
   obtain ⟨q,hq⟩:∃ q,N - 1=q:=⟨_,rfl⟩
   rw [hq] at hNi HPA hW
   have hwr:IntKind.i64.wrap ((N:Int) - 1)=(q:Int):=by rw [hNi,IntKind.wrap_i64];omega
   clear hq hkf hrow hall hb2 hLO hLl
   go_wp2_with fail
   refine (HPA.out _ HPEN.out).mono ?_
   rintro e w3 ⟨⟨y,rfl,hy⟩,hb3⟩
   have HB3:=hid (HBP.out.trans (hb3.mono (by simp;omega)))
   clear hb3
   by_cases hl:8000 < y.size
   ·have hli:(8000:Int) < (y.size:Int):=by omega
    go_wp2
    go_ret
    exact ⟨⟨_,rfl,by decide⟩,HB3.out⟩
   ·have hli:¬ (8000:Int) < (y.size:Int):=by omega
    go_wp2
    go_ret
    exact ⟨⟨_,rfl,by omega⟩,HB3.out⟩
 ·go_wp2
  go_ret
  exact ⟨⟨_,rfl,by decide⟩,btree HB1.out⟩
theorem has_nodes {K g n c:Nat} {w:World} (h:Has K w (.slice (some ⟨g,0,none⟩) n c)):∃ nd:Nat→Nd,NodesAt w g n nd∧(∀ i,i < n→(nd i).text.size≤1000)∧n≤K∧1≤n∧g < w.heap.size∧n≤c:=by
 obtain ⟨l,h1,h2⟩:=h
 have h0:=h1.1
 obtain ⟨rfl,hc,hr⟩:=h1.row
 refine ⟨fun i=>l.getD i ⟨0,0,0,⟨#[]⟩,0⟩,fun i hi=>?_,fun i hi=>?_,h2.1,List.length_pos_iff.2 h0,hr.lt,hc⟩
 ·obtain ⟨a0,a1,a2,a3,a4⟩:=hr.cell i hi
  have hd:l.getD i ⟨0,0,0,⟨#[]⟩,0⟩=l[i]:=by simp [List.getD,hi]
  dsimp only
  rw [hd]
  exact ⟨a0,a1,a2,a3,a4⟩
 ·have hm:l.getD i ⟨0,0,0,⟨#[]⟩,0⟩ ∈ l:=by rw [List.getD_eq_getElem?_getD,List.getElem?_eq_getElem hi];exact List.getElem_mem hi
  exact h2.2 _ hm
theorem print_tr {K:Nat} {v:Value} (w:World) (h:TrIn K w v) (hK:K≤10000) :
  Calls Tryz.prog 16 #[.agg #[v]] w fun e w'=>(∃ y:ByteArray,e=.returned (.string y)∧y.size≤8000)∧Below w.heap.size w w':=by
 rcases h with ⟨ad,c,rfl⟩ | hh
 ·exact print_0 ad c w
 ·obtain ⟨g,n,c,rfl⟩:=hh.sl
  obtain ⟨nd,h1,h2,h3,_,h5,_⟩:=has_nodes hh
  exact print_nodes g n c nd w (by omega) h5 h1 (fun i hi=>by have:=h2 i hi;unfold maxLen;omega)
end Go.Proofs.YtabbahpalemlhaaGreatDoor.Tk
namespace Go.Proofs.YtabbahpalemlhaaGreatDoor
open Go.RowKit
set_option maxRecDepth 20000
theorem all_from {s:Ds}:∀ d p:Nat,s.T≤p+d→EOk9 s p∧∀ r:Int,1≤r→r≤7→OpsOk9 s r p:=by
 intro d
 induction d using Nat.strongRecOn with
 | ind d ih =>
  intro p hd
  have hE:∀ q,p < q→EOk9 s q:=fun q hq=>by
   by_cases h0:d=0
   ·intro bad n ov0 w0 w h
    have:=h.pT.1
    omega
   ·exact (ih (d - 1) (by omega) q (by omega)).1
  have hO:∀ q,p < q→∀ r:Int,1≤r→r≤7→OpsOk9 s r q:=fun q hq=>by
   by_cases h0:d=0
   ·intro r _ _ bad n ov0 w0 w h
    have:=h.pT.1
    omega
   ·exact (ih (d - 1) (by omega) q (by omega)).2
  have o7:OpsOk9 s 7 p:=ops7_at hE (fun q hq=>hO q hq 7 (by omega) (by omega))
  have o6:OpsOk9 s 6 p:=opsB_at 6 (by omega) (by omega) (by omega) (by omega) o7 (fun q hq=>hO q hq 7 (by omega) (by omega))
  have o5:OpsOk9 s 5 p:=opsB_at 5 (by omega) (by omega) (by omega) (by omega) o6 (fun q hq=>hO q hq 6 (by omega) (by omega))
  have o4:OpsOk9 s 4 p:=opsB_at 4 (by omega) (by omega) (by omega) (by omega) o5 (fun q hq=>hO q hq 5 (by omega) (by omega))
  have o3:OpsOk9 s 3 p:=ops3_at o4 (fun q hq=>hO q hq 3 (by omega) (by omega))
  have o2:OpsOk9 s 2 p:=opsB_at 2 (by omega) (by omega) (by omega) (by omega) o3 (fun q hq=>hO q hq 3 (by omega) (by omega))
  have o1:OpsOk9 s 1 p:=opsB_at 1 (by omega) (by omega) (by omega) (by omega) o2 (fun q hq=>hO q hq 2 (by omega) (by omega))
  refine ⟨fun bad n ov0 w0 w h hl=>e_at9 hE o1 h hl,fun r h1 h7=>?_⟩
  obtain rfl | rfl | rfl | rfl | rfl | rfl | rfl:r=1∨r=2∨r=3∨r=4∨r=5∨r=6∨r=7:=by omega
  ·exact o1
  ·exact o2
  ·exact o3
  ·exact o4
  ·exact o5
  ·exact o6
  ·exact o7
theorem e_all (s:Ds) (p:Nat):EOk9 s p:=(all_from s.T p (by omega)).1
end Go.Proofs.YtabbahpalemlhaaGreatDoor
