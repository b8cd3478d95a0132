import Derived.Test.YtabbahpalemlhaaGreatDoorJ30
namespace Go.Proofs.YtabbahpalemlhaaGreatDoor.Tk
open Go.RowKit
set_option maxRecDepth 20000
set_option maxHeartbeats 4000000 in
theorem plain_1 {nd:Nat→Nd} {O:List (List Nat)} {N b cap g co P j:Nat} {op n kids:Int} {t:ByteArray} {ks:List Nat} (h:Ctx nd O N b cap g co P j ⟨1,op,n,t,kids⟩ ks):InkOk nd O N b cap g co P j:=by
 intro W hp
 have H:=hid h
 have HP:=hid hp
 have hN:=h.hN
 have hj:=h.hj
 have p0:=hp.c0
 have p1:=hp.c1
 have hpl0:=hp.pl
 have hgl0:=hp.gl
 obtain ⟨gk,ck,hc,hgk,⟨n0,n1,n2,n3,n4⟩,hlc,hcm,HR⟩:=h.at hp
 dsimp only at n0 n1 n2 n3 n4
 have hpd:=h.plain
 have hts:=plain_text hpd
 dsimp only at hts
 have hkd:=h.kidsOk
 simp only [KidsOk] at hkd
 simp only [PlainNd] at hpd
 have hsum:=h.sum
 have htop:=h.top
 clear h hp
 clear hkd hpd
 obtain ⟨ZJ,hZJ⟩:∃ Z,wgt O j=Z:=⟨_,rfl⟩
 rw [hZJ] at hsum htop ⊢
 clear hZJ
 go_enter Tryz.func36,Tryz.ntmps36
 go_wp2
 go_ret
 exact ⟨⟨_,rfl,by show 4+100≤_;omega⟩,(Below.refl _ _).alloc (Nat.le_refl _) _⟩
set_option maxHeartbeats 4000000 in
theorem plain_13 {nd:Nat→Nd} {O:List (List Nat)} {N b cap g co P j:Nat} {op n kids:Int} {t:ByteArray} {ks:List Nat} (h:Ctx nd O N b cap g co P j ⟨13,op,n,t,kids⟩ ks):InkOk nd O N b cap g co P j:=by
 intro W hp
 have H:=hid h
 have HP:=hid hp
 have hN:=h.hN
 have hj:=h.hj
 have p0:=hp.c0
 have p1:=hp.c1
 have hpl0:=hp.pl
 have hgl0:=hp.gl
 obtain ⟨gk,ck,hc,hgk,⟨n0,n1,n2,n3,n4⟩,hlc,hcm,HR⟩:=h.at hp
 dsimp only at n0 n1 n2 n3 n4
 have hpd:=h.plain
 have hts:=plain_text hpd
 dsimp only at hts
 have hkd:=h.kidsOk
 simp only [KidsOk] at hkd
 simp only [PlainNd] at hpd
 have hsum:=h.sum
 have htop:=h.top
 clear h hp
 obtain ⟨a,c,d,rfl⟩:∃ a c d,ks=[a,c,d]:=by
  match ks,(show ks.length=3 by omega) with
  | [a,c,d],_=>exact ⟨a,c,d,rfl⟩
 simp only [wgts_cons,wgts_nil] at hsum
 have hl1:[a,c,d].length=3:=rfl
 rw [hl1] at hc
 clear hl1 hkd hpd
 obtain ⟨ZJ,hZJ⟩:∃ Z,wgt O j=Z:=⟨_,rfl⟩
 rw [hZJ] at hsum htop ⊢
 clear hZJ
 have HE1:Hid (∀ V,PenAt nd O N b cap g co P V→Calls Tryz.prog 36 #[.pointer (some ⟨P,0,none⟩),.int .i64 (a:Nat)] V fun e w'=>(∃ y:ByteArray,e=.returned (.string y)∧y.size+100≤wgt O a)∧Below V.heap.size V w'):=fun V hV=>H.out.pl (by simp) V hV
 have HE2:Hid (∀ V,PenAt nd O N b cap g co P V→Calls Tryz.prog 36 #[.pointer (some ⟨P,0,none⟩),.int .i64 (c:Nat)] V fun e w'=>(∃ y:ByteArray,e=.returned (.string y)∧y.size+100≤wgt O c)∧Below V.heap.size V w'):=fun V hV=>H.out.pl (by simp) V hV
 have HE3:Hid (∀ V,PenAt nd O N b cap g co P V→Calls Tryz.prog 36 #[.pointer (some ⟨P,0,none⟩),.int .i64 (d:Nat)] V fun e w'=>(∃ y:ByteArray,e=.returned (.string y)∧y.size+100≤wgt O d)∧Below V.heap.size V w'):=fun V hV=>H.out.pl (by simp) V hV
 obtain ⟨Za,hZa⟩:∃ Z,wgt O a=Z:=⟨_,rfl⟩
 rw [hZa] at hsum
 obtain ⟨Zc,hZc⟩:∃ Z,wgt O c=Z:=⟨_,rfl⟩
 rw [hZc] at hsum
 obtain ⟨Zd,hZd⟩:∃ Z,wgt O d=Z:=⟨_,rfl⟩
 rw [hZd] at hsum
 rw [hZa] at HE1
 rw [hZc] at HE2
 rw [hZd] at HE3
 clear hZa hZc hZd
 have HB0:=hid (Below.refl (W.heap.size+1) (W.alloc (.cells #[.int .i64 13,.int .i64 op,.int .i64 n,.string t,.int .i64 kids] 81)))
 have HPN:Hid (∀ V,Below (W.heap.size+1) (W.alloc (.cells #[.int .i64 13,.int .i64 op,.int .i64 n,.string t,.int .i64 kids] 81)) V→PenAt nd O N b cap g co P V):=fun V h=>HP.out.next (btree h)
 have HS:Hid (∀ V,Below (W.heap.size+1) (W.alloc (.cells #[.int .i64 13,.int .i64 op,.int .i64 n,.string t,.int .i64 kids] 81)) V→V.cell? ⟨gk,0,none⟩=some (.int .i64 (a:Nat))∧V.cell? ⟨gk,1,none⟩=some (.int .i64 (c:Nat))∧V.cell? ⟨gk,2,none⟩=some (.int .i64 (d:Nat))):=fun V h=>⟨row_at HR.out hgk h 0 (by simp),row_at HR.out hgk h 1 (by simp),row_at HR.out hgk h 2 (by simp)⟩
 go_enter Tryz.func36,Tryz.ntmps36
 go_wp2_with fail
 go_region_held3 (fun V=>V.cell? ⟨gk,0,none⟩=some (.int .i64 (a:Nat))∧V.cell? ⟨gk,1,none⟩=some (.int .i64 (c:Nat))∧V.cell? ⟨gk,2,none⟩=some (.int .i64 (d:Nat))) (first | (exact HS.out _ HB3.out) | (exact HS.out _ HB2.out) | (exact HS.out _ HB1.out) | (exact HS.out _ HB0.out.drew) | go_keep) (first
  | (have hgate:=HB2.out;clear hgate;go_at_call 36;refine (HE3.out _ (HPN.out _ HB2.out)).mono ?_;rintro e w3 ⟨⟨y3,rfl,hy3⟩,hb3⟩;have HB3:=hid (below_next HB2.out hb3);have k3_0:¬ (9223372036854775807 < 3+y1.size+6+y2.size+6+y3.size):=(by omega);clear hb3)
  | (have hgate:=HB1.out;clear hgate;go_at_call 36;refine (HE2.out _ (HPN.out _ HB1.out)).mono ?_;rintro e w2 ⟨⟨y2,rfl,hy2⟩,hb2⟩;have HB2:=hid (below_next HB1.out hb2);have k2_0:¬ (9223372036854775807 < 3+y1.size+6+y2.size):=(by omega);have k2_1:¬ (9223372036854775807 < 3+y1.size+6+y2.size+6):=(by omega);clear hb2)
  | (go_at_call 36;refine (HE1.out _ (HPN.out _ HB0.out.drew)).mono ?_;rintro e w1 ⟨⟨y1,rfl,hy1⟩,hb1⟩;have HB1:=hid (below_next HB0.out.drew hb1);have k1_0:¬ (9223372036854775807 < 3+y1.size):=(by omega);have k1_1:¬ (9223372036854775807 < 3+y1.size+6):=(by omega);clear hb1))
 go_wp2
 go_ret
 exact ⟨⟨_,rfl,by (try simp only [ByteArray.size_append]);show 3+y1.size+6+y2.size+6+y3.size+100≤_;omega⟩,btree HB3.out⟩
set_option maxHeartbeats 4000000 in
theorem plain_18 {nd:Nat→Nd} {O:List (List Nat)} {N b cap g co P j:Nat} {op n kids:Int} {t:ByteArray} {ks:List Nat} (h:Ctx nd O N b cap g co P j ⟨18,op,n,t,kids⟩ ks):InkOk nd O N b cap g co P j:=by
 intro W hp
 have H:=hid h
 have HP:=hid hp
 have hN:=h.hN
 have hj:=h.hj
 have p0:=hp.c0
 have p1:=hp.c1
 have hpl0:=hp.pl
 have hgl0:=hp.gl
 obtain ⟨gk,ck,hc,hgk,⟨n0,n1,n2,n3,n4⟩,hlc,hcm,HR⟩:=h.at hp
 dsimp only at n0 n1 n2 n3 n4
 have hpd:=h.plain
 have hts:=plain_text hpd
 dsimp only at hts
 have hkd:=h.kidsOk
 simp only [KidsOk] at hkd
 simp only [PlainNd] at hpd
 have hsum:=h.sum
 have htop:=h.top
 clear h hp
 obtain ⟨a,rfl⟩:∃ a,ks=[a]:=by
  match ks,(show ks.length=1 by omega) with
  | [a],_=>exact ⟨a,rfl⟩
 simp only [wgts_cons,wgts_nil] at hsum
 have hl1:[a].length=1:=rfl
 rw [hl1] at hc
 clear hl1 hkd hpd
 obtain ⟨ZJ,hZJ⟩:∃ Z,wgt O j=Z:=⟨_,rfl⟩
 rw [hZJ] at hsum htop ⊢
 clear hZJ
 have HE1:Hid (∀ V,PenAt nd O N b cap g co P V→Calls Tryz.prog 36 #[.pointer (some ⟨P,0,none⟩),.int .i64 (a:Nat)] V fun e w'=>(∃ y:ByteArray,e=.returned (.string y)∧y.size+100≤wgt O a)∧Below V.heap.size V w'):=fun V hV=>H.out.pl (by simp) V hV
 obtain ⟨Za,hZa⟩:∃ Z,wgt O a=Z:=⟨_,rfl⟩
 rw [hZa] at hsum
 rw [hZa] at HE1
 clear hZa
 have HB0:=hid (Below.refl (W.heap.size+1) (W.alloc (.cells #[.int .i64 18,.int .i64 op,.int .i64 n,.string t,.int .i64 kids] 81)))
 have HPN:Hid (∀ V,Below (W.heap.size+1) (W.alloc (.cells #[.int .i64 18,.int .i64 op,.int .i64 n,.string t,.int .i64 kids] 81)) V→PenAt nd O N b cap g co P V):=fun V h=>HP.out.next (btree h)
 have HS:Hid (∀ V,Below (W.heap.size+1) (W.alloc (.cells #[.int .i64 18,.int .i64 op,.int .i64 n,.string t,.int .i64 kids] 81)) V→V.cell? ⟨gk,0,none⟩=some (.int .i64 (a:Nat))∧V.cell? ⟨W.heap.size,3,none⟩=some (.string t)):=fun V h=>⟨row_at HR.out hgk h 0 (by simp),(five_new h).2.2.2.1⟩
 have k0_0:¬ (9223372036854775807 < t.size+3):=by omega
 go_enter Tryz.func36,Tryz.ntmps36
 go_wp2_with fail
 go_region_held3 (fun V=>V.cell? ⟨gk,0,none⟩=some (.int .i64 (a:Nat))∧V.cell? ⟨W.heap.size,3,none⟩=some (.string t)) (first | (exact HS.out _ HB1.out) | (exact HS.out _ HB0.out.drew) | go_keep) (first
  | (go_at_call 36;refine (HE1.out _ (HPN.out _ HB0.out.drew)).mono ?_;rintro e w1 ⟨⟨y1,rfl,hy1⟩,hb1⟩;have HB1:=hid (below_next HB0.out.drew hb1);have k1_0:¬ (9223372036854775807 < t.size+3+y1.size):=(by omega);clear hb1))
 go_wp2
 go_ret
 exact ⟨⟨_,rfl,by (try simp only [ByteArray.size_append]);show t.size+3+y1.size+100≤_;omega⟩,btree HB1.out⟩
set_option maxHeartbeats 4000000 in
theorem plain_4 {nd:Nat→Nd} {O:List (List Nat)} {N b cap g co P j:Nat} {op n kids:Int} {t:ByteArray} {ks:List Nat} (h:Ctx nd O N b cap g co P j ⟨4,op,n,t,kids⟩ ks):InkOk nd O N b cap g co P j:=by
 intro W hp
 have H:=hid h
 have HP:=hid hp
 have hN:=h.hN
 have hj:=h.hj
 have p0:=hp.c0
 have p1:=hp.c1
 have hpl0:=hp.pl
 have hgl0:=hp.gl
 obtain ⟨gk,ck,hc,hgk,⟨n0,n1,n2,n3,n4⟩,hlc,hcm,HR⟩:=h.at hp
 dsimp only at n0 n1 n2 n3 n4
 have hpd:=h.plain
 have hts:=plain_text hpd
 dsimp only at hts
 have hkd:=h.kidsOk
 simp only [KidsOk] at hkd
 simp only [PlainNd] at hpd
 have hsum:=h.sum
 have htop:=h.top
 clear h hp
 clear hkd hpd
 obtain ⟨ZJ,hZJ⟩:∃ Z,wgt O j=Z:=⟨_,rfl⟩
 rw [hZJ] at hsum htop ⊢
 clear hZJ
 have HB0:=hid (Below.refl (W.heap.size+1) (W.alloc (.cells #[.int .i64 4,.int .i64 op,.int .i64 n,.string t,.int .i64 kids] 81)))
 have HPN:Hid (∀ V,Below (W.heap.size+1) (W.alloc (.cells #[.int .i64 4,.int .i64 op,.int .i64 n,.string t,.int .i64 kids] 81)) V→PenAt nd O N b cap g co P V):=fun V h=>HP.out.next (btree h)
 go_enter Tryz.func36,Tryz.ntmps36
 go_wp2_with fail
 refine (quote_q t _ (by omega)).mono ?_
 rintro e w1 ⟨⟨y1,rfl,hy1⟩,hb1⟩
 have HB1:=hid (below_next HB0.out hb1)
 clear hb1
 go_wp2
 go_ret
 exact ⟨⟨_,rfl,by (try simp only [ByteArray.size_append]);show y1.size+100≤_;omega⟩,btree HB1.out⟩
set_option maxHeartbeats 4000000 in
theorem plain_5 {nd:Nat→Nd} {O:List (List Nat)} {N b cap g co P j:Nat} {op n kids:Int} {t:ByteArray} {ks:List Nat} (h:Ctx nd O N b cap g co P j ⟨5,op,n,t,kids⟩ ks):InkOk nd O N b cap g co P j:=by
 intro W hp
 have H:=hid h
 have HP:=hid hp
 have hN:=h.hN
 have hj:=h.hj
 have p0:=hp.c0
 have p1:=hp.c1
 have hpl0:=hp.pl
 have hgl0:=hp.gl
 obtain ⟨gk,ck,hc,hgk,⟨n0,n1,n2,n3,n4⟩,hlc,hcm,HR⟩:=h.at hp
 dsimp only at n0 n1 n2 n3 n4
 have hpd:=h.plain
 have hts:=plain_text hpd
 dsimp only at hts
 have hkd:=h.kidsOk
 simp only [KidsOk] at hkd
 simp only [PlainNd] at hpd
 have hsum:=h.sum
 have htop:=h.top
 clear h hp
 clear hkd hpd
 obtain ⟨ZJ,hZJ⟩:∃ Z,wgt O j=Z:=⟨_,rfl⟩
 rw [hZJ] at hsum htop ⊢
 clear hZJ
 go_enter Tryz.func36,Tryz.ntmps36
 go_wp2
 go_ret
 exact ⟨⟨_,rfl,by show t.size+100≤_;omega⟩,(Below.refl _ _).alloc (Nat.le_refl _) _⟩
end Go.Proofs.YtabbahpalemlhaaGreatDoor.Tk
