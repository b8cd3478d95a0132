import Derived.Test.YtabbahpalemlhaaGreatDoorJ30
import Derived.Test.YtabbahpalemlhaaGreatDoorJ22
import Derived.Test.YtabbahpalemlhaaGreatDoorJ29
namespace Go.Proofs.YtabbahpalemlhaaGreatDoor
open Go.RowKit
set_option maxRecDepth 20000
set_option maxHeartbeats 1000000 in
theorem specValid_out (b N cap:Nat) (nd:Nat→Nd) (w:World) (hN:N≤1048576) (ho:N=0∨5000 < N) :
  Calls Tryz.prog 34 #[.agg #[.slice (some ⟨b,0,none⟩) N cap]] w fun e w'=>Says e (ValidT nd N)∧Below w.heap.size w w':=by
 have HF:Hid (¬ ValidT nd N):=fun ⟨h1,h2,_⟩=>by omega
 have HIN:Hid ((decide ((1:Int)≤(N:Int)) && decide ((N:Int)≤5000))=false):=by show _=_;simp;omega
 go_enter Tryz.func34,Tryz.ntmps34
 go_wp2_with (first
  | (go_at_call 50;refine (l1In_dec _ _ _ _).mono ?_;rintro e w' ⟨rfl,hw⟩;have hw2:=hw.symm;clear hw;subst hw2;rw [HIN.out]))
 go_ret
 exact ⟨says_f HF.out,(Below.refl _ _).alloc (Nat.le_refl _) _⟩
set_option maxHeartbeats 1000000 in
theorem specValid_kind (b N cap:Nat) (nd:Nat→Nd) (w:World) (hN1:1≤N) (hN:N≤5000) (h24:¬ (nd (N - 1)).kind=24) (hb:b < w.heap.size) (hn:NodesAt w b N nd) :
  Calls Tryz.prog 34 #[.agg #[.slice (some ⟨b,0,none⟩) N cap]] w fun e w'=>Says e (ValidT nd N)∧Below w.heap.size w w':=by
 have HF:Hid (¬ ValidT nd N):=fun ⟨_,_,h,_⟩=>h24 h
 have HBT:=hid ((Below.refl w.heap.size w).alloc (Nat.le_refl _) (.cells #[.slice (some ⟨b,0,none⟩) N cap] 50))
 have HIN:Hid ((decide ((1:Int)≤(N:Int)) && decide ((N:Int)≤5000))=true):=by show _=_;simp;omega
 have a0:=((hn.below HBT.out hb) (N - 1) (by omega)).1
 have hne:((nd (N - 1)).kind != 24)=true:=by rw [bne_iff_ne];exact h24
 clear hn h24
 go_enter Tryz.func34,Tryz.ntmps34
 go_wp2_with (first
  | (go_at_call 50;refine (l1In_dec _ _ _ _).mono ?_;rintro e w' ⟨rfl,hw⟩;have hw2:=hw.symm;clear hw;subst hw2;rw [HIN.out]))
 go_ret
 exact ⟨says_f HF.out,HBT.out⟩
theorem specValid_all (b N cap:Nat) (nd:Nat→Nd) (w:World) (hN:N≤1048576) (hb:b < w.heap.size) (hn:NodesAt w b N nd) (hx:∀ i,i < N→(nd i).text.size≤maxLen) :
  Calls Tryz.prog 34 #[.agg #[.slice (some ⟨b,0,none⟩) N cap]] w fun e w'=>Says e (ValidT nd N)∧Below w.heap.size w w':=by
 by_cases ho:N=0∨5000 < N
 ·exact specValid_out b N cap nd w hN ho
 ·by_cases h24:(nd (N - 1)).kind=24
  ·exact specValid_any b N cap nd w (by omega) (by omega) h24 hb hn hx
  ·exact specValid_kind b N cap nd w (by omega) (by omega) h24 hb hn
end Go.Proofs.YtabbahpalemlhaaGreatDoor
namespace Go.Proofs.YtabbahpalemlhaaGreatDoor.Tk
open Go.RowKit
set_option maxRecDepth 20000
set_option maxHeartbeats 4000000 in
theorem plain_12 {nd:Nat→Nd} {O:List (List Nat)} {N b cap g co P j:Nat} {op n kids:Int} {t:ByteArray} {ks:List Nat} (h:Ctx nd O N b cap g co P j ⟨12,op,n,t,kids⟩ ks):InkOk nd O N b cap g co P j:=by
 intro W hp
 have H:=hid h
 have HP:=hid hp
 have hN:=h.hN
 have hj:=h.hj
 have p0:=hp.c0
 have p1:=hp.c1
 have hpl0:=hp.pl
 have hgl0:=hp.gl
 obtain ⟨gk,ck,hc,hgk,⟨n0,n1,n2,n3,n4⟩,hlc,hcm,HR⟩:=h.at hp
 dsimp only at n0 n1 n2 n3 n4
 have hpd:=h.plain
 have hts:=plain_text hpd
 dsimp only at hts
 have hkd:=h.kidsOk
 simp only [KidsOk] at hkd
 simp only [PlainNd] at hpd
 have hsum:=h.sum
 have htop:=h.top
 clear h hp
 obtain ⟨ZJ,hZJ⟩:∃ Z,wgt O j=Z:=⟨_,rfl⟩
 rw [hZJ] at hsum htop ⊢
 clear hZJ
 have HB0:=hid (Below.refl (W.heap.size+1) (W.alloc (.cells #[.int .i64 12,.int .i64 op,.int .i64 n,.string t,.int .i64 kids] 81)))
 have HPN:Hid (∀ V,Below (W.heap.size+1) (W.alloc (.cells #[.int .i64 12,.int .i64 op,.int .i64 n,.string t,.int .i64 kids] 81)) V→PenAt nd O N b cap g co P V):=fun V h=>HP.out.next (btree h)
 obtain ⟨a,r,rfl⟩:∃ a r,ks=a :: r:=by
  cases ks with
  | nil=>exfalso;simp at hkd;omega
  | cons a r=>exact ⟨a,r,rfl⟩
 have hrl:(a :: r).length=r.length+1:=rfl
 have hmr:=H.out.kl
 rw [hrl] at hmr hc hlc
 rw [wgts_cons] at hsum
 have HEE:Hid (∀ V,PenAt nd O N b cap g co P V→Calls Tryz.prog 53 #[.pointer (some ⟨P,0,none⟩),.int .i64 (a:Nat),.int .i64 8] V fun e w'=>(∃ y:ByteArray,e=.returned (.string y)∧y.size+98≤wgt O a)∧Below V.heap.size V w'):=fun V hV=>H.out.ee (by simp) _ V hV
 have HEL:Hid (∀ V c2,Below (W.heap.size+1) (W.alloc (.cells #[.int .i64 12,.int .i64 op,.int .i64 n,.string t,.int .i64 kids] 81)) V→Calls Tryz.prog 55 #[.pointer (some ⟨P,0,none⟩),.slice (some ⟨gk,1,none⟩) r.length c2] V fun e w'=>(∃ y:ByteArray,e=.returned (.string y)∧y.size≤wgts O r)∧Below V.heap.size V w'):=fun V c2 hV=>H.out.li (fun x h=>by simp [h]) (by rw [wgts_cons];omega) (by simp) c2 V (HPN.out V hV) (.inr ⟨gk,1,rfl,Nat.lt_of_lt_of_le hgk (btree hV).size,fun i hi=>by
  have:=row_at HR.out hgk hV (1+i) (by simp;omega)
  rw [this,Nat.add_comm 1 i]
  rfl⟩)
 have HEZ:Hid (∀ V c2,r.length=0→Below (W.heap.size+1) (W.alloc (.cells #[.int .i64 12,.int .i64 op,.int .i64 n,.string t,.int .i64 kids] 81)) V→Calls Tryz.prog 55 #[.pointer (some ⟨P,0,none⟩),.slice (some ⟨gk,0,none⟩) 0 c2] V fun e w'=>(∃ y:ByteArray,e=.returned (.string y)∧y.size≤wgts O r)∧Below V.heap.size V w'):=fun V c2 h0 hV=>by
  have e0:r=[]:=List.eq_nil_of_length_eq_zero h0
  subst e0
  exact H.out.li (L:=[]) (fun x h=>by cases h) (by rw [wgts_nil];omega) (by simp) c2 V (HPN.out V hV) (.inl rfl)
 obtain ⟨Zr,hZr⟩:∃ Z,wgts O r=Z:=⟨_,rfl⟩
 obtain ⟨Za,hZa⟩:∃ Z,wgt O a=Z:=⟨_,rfl⟩
 obtain ⟨m,hm⟩:∃ m,r.length=m:=⟨_,rfl⟩
 rw [hm] at HEL HEZ hc hmr hlc
 rw [hZr] at HEL HEZ hsum
 rw [hZa] at HEE hsum
 clear hZr hZa hm hrl hkd hpd
 obtain ⟨M,hM⟩:∃ M,m+1=M:=⟨_,rfl⟩
 rw [hM] at hc hmr hlc
 have hi0:0 < M:=by omega
 have hi1:(1:Int)≤(M:Int):=by omega
 have hi2:(M:Int)≤(ck:Int):=by omega
 have hM1:M - 1=m:=by omega
 rw [← hM1] at HEL HEZ
 clear hM1 hM
 have HE1:=HEE
 have HCA:=fun (V:World) (h:Below (W.heap.size+1) (W.alloc (.cells #[.int .i64 12,.int .i64 op,.int .i64 n,.string t,.int .i64 kids] 81)) V)=>row_at HR.out hgk h 0 (by simp)
 by_cases hc1:ck=1
 ·subst hc1
  obtain rfl:M=1:=by omega
  have HE2:Hid (∀ V,Below (W.heap.size+1) (W.alloc (.cells #[.int .i64 12,.int .i64 op,.int .i64 n,.string t,.int .i64 kids] 81)) V→Calls Tryz.prog 55 #[.pointer (some ⟨P,0,none⟩),.slice (some ⟨gk,0,none⟩) 0 0] V fun e w'=>(∃ y:ByteArray,e=.returned (.string y)∧y.size≤Zr)∧Below V.heap.size V w'):=fun V hV=>HEZ.out V _ rfl hV
  clear HEZ HEL HCA
  have HS:Hid (∀ V,Below (W.heap.size+1) (W.alloc (.cells #[.int .i64 12,.int .i64 op,.int .i64 n,.string t,.int .i64 kids] 81)) V→V.cell? ⟨gk,0,none⟩=some (.int .i64 (a:Nat))):=fun V h=>row_at HR.out hgk h 0 (by simp)
  go_enter Tryz.func36,Tryz.ntmps36
  go_wp2_with fail
  go_region_held3 (fun V=>V.cell? ⟨gk,0,none⟩=some (.int .i64 (a:Nat))) (first | (exact HS.out _ HB2.out) | (exact HS.out _ HB1.out) | (exact HS.out _ HB0.out.drew) | go_keep) (first
   | (have hgate:=HB1.out;clear hgate;go_at_call 55;refine (HE2.out _ HB1.out).mono ?_;rintro e w2 ⟨⟨y2,rfl,hy2⟩,hb2⟩;have HB2:=hid (below_next HB1.out hb2);have k2_0:¬ (9223372036854775807 < y1.size+1+y2.size):=(by omega);have k2_1:¬ (9223372036854775807 < y1.size+1+y2.size+1):=(by omega);clear hb2)
   | (go_at_call 53;refine (HE1.out _ (HPN.out _ HB0.out.drew)).mono ?_;rintro e w1 ⟨⟨y1,rfl,hy1⟩,hb1⟩;have HB1:=hid (below_next HB0.out.drew hb1);have k1_0:¬ (9223372036854775807 < y1.size+1):=(by omega);clear hb1))
  go_wp2
  go_ret
  exact ⟨⟨_,rfl,by (try simp only [ByteArray.size_append]);show y1.size+1+y2.size+1+100≤_;omega⟩,btree HB2.out⟩
 ·have hc2:1 < ck:=by omega
  have hc3:(1:Int) < (ck:Int):=by omega
  have HE2:Hid (∀ V,Below (W.heap.size+1) (W.alloc (.cells #[.int .i64 12,.int .i64 op,.int .i64 n,.string t,.int .i64 kids] 81)) V→Calls Tryz.prog 55 #[.pointer (some ⟨P,0,none⟩),.slice (some ⟨gk,1,none⟩) (M - 1) (ck - 1)] V fun e w'=>(∃ y:ByteArray,e=.returned (.string y)∧y.size≤Zr)∧Below V.heap.size V w'):=fun V hV=>HEL.out V _ hV
  clear HEZ HEL HCA
  have HS:Hid (∀ V,Below (W.heap.size+1) (W.alloc (.cells #[.int .i64 12,.int .i64 op,.int .i64 n,.string t,.int .i64 kids] 81)) V→V.cell? ⟨gk,0,none⟩=some (.int .i64 (a:Nat))):=fun V h=>row_at HR.out hgk h 0 (by simp)
  go_enter Tryz.func36,Tryz.ntmps36
  go_wp2_with fail
  go_region_held3 (fun V=>V.cell? ⟨gk,0,none⟩=some (.int .i64 (a:Nat))) (first | (exact HS.out _ HB2.out) | (exact HS.out _ HB1.out) | (exact HS.out _ HB0.out.drew) | go_keep) (first
   | (have hgate:=HB1.out;clear hgate;go_at_call 55;refine (HE2.out _ HB1.out).mono ?_;rintro e w2 ⟨⟨y2,rfl,hy2⟩,hb2⟩;have HB2:=hid (below_next HB1.out hb2);have k2_0:¬ (9223372036854775807 < y1.size+1+y2.size):=(by omega);have k2_1:¬ (9223372036854775807 < y1.size+1+y2.size+1):=(by omega);clear hb2)
   | (go_at_call 53;refine (HE1.out _ (HPN.out _ HB0.out.drew)).mono ?_;rintro e w1 ⟨⟨y1,rfl,hy1⟩,hb1⟩;have HB1:=hid (below_next HB0.out.drew hb1);have k1_0:¬ (9223372036854775807 < y1.size+1):=(by omega);clear hb1))
  go_wp2
  go_ret
  exact ⟨⟨_,rfl,by (try simp only [ByteArray.size_append]);show y1.size+1+y2.size+1+100≤_;omega⟩,btree HB2.out⟩
set_option maxHeartbeats 4000000 in
theorem plain_14 {nd:Nat→Nd} {O:List (List Nat)} {N b cap g co P j:Nat} {op n kids:Int} {t:ByteArray} {ks:List Nat} (h:Ctx nd O N b cap g co P j ⟨14,op,n,t,kids⟩ ks):InkOk nd O N b cap g co P j:=by
 intro W hp
 have H:=hid h
 have HP:=hid hp
 have hN:=h.hN
 have hj:=h.hj
 have p0:=hp.c0
 have p1:=hp.c1
 have hpl0:=hp.pl
 have hgl0:=hp.gl
 obtain ⟨gk,ck,hc,hgk,⟨n0,n1,n2,n3,n4⟩,hlc,hcm,HR⟩:=h.at hp
 dsimp only at n0 n1 n2 n3 n4
 have hpd:=h.plain
 have hts:=plain_text hpd
 dsimp only at hts
 have hkd:=h.kidsOk
 simp only [KidsOk] at hkd
 simp only [PlainNd] at hpd
 have hsum:=h.sum
 have htop:=h.top
 clear h hp
 obtain ⟨a,c,rfl⟩:∃ a c,ks=[a,c]:=by
  match ks,(show ks.length=2 by omega) with
  | [a,c],_=>exact ⟨a,c,rfl⟩
 simp only [wgts_cons,wgts_nil] at hsum
 have hl1:[a,c].length=2:=rfl
 rw [hl1] at hc
 clear hl1 hkd hpd
 obtain ⟨ZJ,hZJ⟩:∃ Z,wgt O j=Z:=⟨_,rfl⟩
 rw [hZJ] at hsum htop ⊢
 clear hZJ
 have HE1:Hid (∀ V,PenAt nd O N b cap g co P V→Calls Tryz.prog 36 #[.pointer (some ⟨P,0,none⟩),.int .i64 (a:Nat)] V fun e w'=>(∃ y:ByteArray,e=.returned (.string y)∧y.size+100≤wgt O a)∧Below V.heap.size V w'):=fun V hV=>H.out.pl (by simp) V hV
 have HE2:Hid (∀ V,PenAt nd O N b cap g co P V→Calls Tryz.prog 36 #[.pointer (some ⟨P,0,none⟩),.int .i64 (c:Nat)] V fun e w'=>(∃ y:ByteArray,e=.returned (.string y)∧y.size+100≤wgt O c)∧Below V.heap.size V w'):=fun V hV=>H.out.pl (by simp) V hV
 obtain ⟨Za,hZa⟩:∃ Z,wgt O a=Z:=⟨_,rfl⟩
 rw [hZa] at hsum
 obtain ⟨Zc,hZc⟩:∃ Z,wgt O c=Z:=⟨_,rfl⟩
 rw [hZc] at hsum
 rw [hZa] at HE1
 rw [hZc] at HE2
 clear hZa hZc
 have HB0:=hid (Below.refl (W.heap.size+1) (W.alloc (.cells #[.int .i64 14,.int .i64 op,.int .i64 n,.string t,.int .i64 kids] 81)))
 have HPN:Hid (∀ V,Below (W.heap.size+1) (W.alloc (.cells #[.int .i64 14,.int .i64 op,.int .i64 n,.string t,.int .i64 kids] 81)) V→PenAt nd O N b cap g co P V):=fun V h=>HP.out.next (btree h)
 have HS:Hid (∀ V,Below (W.heap.size+1) (W.alloc (.cells #[.int .i64 14,.int .i64 op,.int .i64 n,.string t,.int .i64 kids] 81)) V→V.cell? ⟨gk,0,none⟩=some (.int .i64 (a:Nat))∧V.cell? ⟨gk,1,none⟩=some (.int .i64 (c:Nat))∧V.cell? ⟨W.heap.size,3,none⟩=some (.string t)):=fun V h=>⟨row_at HR.out hgk h 0 (by simp),row_at HR.out hgk h 1 (by simp),(five_new h).2.2.2.1⟩
 have k0_0:¬ (9223372036854775807 < 4+t.size):=by omega
 have k0_1:¬ (9223372036854775807 < 4+t.size+3):=by omega
 go_enter Tryz.func36,Tryz.ntmps36
 go_wp2_with fail
 go_region_held3 (fun V=>V.cell? ⟨gk,0,none⟩=some (.int .i64 (a:Nat))∧V.cell? ⟨gk,1,none⟩=some (.int .i64 (c:Nat))∧V.cell? ⟨W.heap.size,3,none⟩=some (.string t)) (first | (exact HS.out _ HB2.out) | (exact HS.out _ HB1.out) | (exact HS.out _ HB0.out.drew) | go_keep) (first
  | (have hgate:=HB1.out;clear hgate;go_at_call 36;refine (HE2.out _ (HPN.out _ HB1.out)).mono ?_;rintro e w2 ⟨⟨y2,rfl,hy2⟩,hb2⟩;have HB2:=hid (below_next HB1.out hb2);have k2_0:¬ (9223372036854775807 < 4+t.size+3+y1.size+4+y2.size):=(by omega);clear hb2)
  | (go_at_call 36;refine (HE1.out _ (HPN.out _ HB0.out.drew)).mono ?_;rintro e w1 ⟨⟨y1,rfl,hy1⟩,hb1⟩;have HB1:=hid (below_next HB0.out.drew hb1);have k1_0:¬ (9223372036854775807 < 4+t.size+3+y1.size):=(by omega);have k1_1:¬ (9223372036854775807 < 4+t.size+3+y1.size+4):=(by omega);clear hb1))
 go_wp2
 go_ret
 exact ⟨⟨_,rfl,by (try simp only [ByteArray.size_append]);show 4+t.size+3+y1.size+4+y2.size+100≤_;omega⟩,btree HB2.out⟩
set_option maxHeartbeats 4000000 in
theorem plain_17 {nd:Nat→Nd} {O:List (List Nat)} {N b cap g co P j:Nat} {op n kids:Int} {t:ByteArray} {ks:List Nat} (h:Ctx nd O N b cap g co P j ⟨17,op,n,t,kids⟩ ks):InkOk nd O N b cap g co P j:=by
 intro W hp
 have H:=hid h
 have HP:=hid hp
 have hN:=h.hN
 have hj:=h.hj
 have p0:=hp.c0
 have p1:=hp.c1
 have hpl0:=hp.pl
 have hgl0:=hp.gl
 obtain ⟨gk,ck,hc,hgk,⟨n0,n1,n2,n3,n4⟩,hlc,hcm,HR⟩:=h.at hp
 dsimp only at n0 n1 n2 n3 n4
 have hpd:=h.plain
 have hts:=plain_text hpd
 dsimp only at hts
 have hkd:=h.kidsOk
 simp only [KidsOk] at hkd
 simp only [PlainNd] at hpd
 have hsum:=h.sum
 have htop:=h.top
 clear h hp
 obtain ⟨a,rfl⟩:∃ a,ks=[a]:=by
  match ks,(show ks.length=1 by omega) with
  | [a],_=>exact ⟨a,rfl⟩
 simp only [wgts_cons,wgts_nil] at hsum
 have hl1:[a].length=1:=rfl
 rw [hl1] at hc
 clear hl1 hkd hpd
 obtain ⟨ZJ,hZJ⟩:∃ Z,wgt O j=Z:=⟨_,rfl⟩
 rw [hZJ] at hsum htop ⊢
 clear hZJ
 obtain ⟨Za,hZa⟩:∃ Z,wgt O a=Z:=⟨_,rfl⟩
 rw [hZa] at hsum
 have HB9:=hid (Below.refl (W.heap.size+1) (W.alloc (.cells #[.int .i64 17,.int .i64 op,.int .i64 n,.string t,.int .i64 kids] 81)))
 have HPN:Hid (∀ V,Below (W.heap.size+1) (W.alloc (.cells #[.int .i64 17,.int .i64 op,.int .i64 n,.string t,.int .i64 kids] 81)) V→PenAt nd O N b cap g co P V):=fun V h=>HP.out.next (btree h)
 go_enter Tryz.func36,Tryz.ntmps36
 go_wp2_with fail
 refine (l1NameOk_any t _ (by unfold maxLen;omega)).mono ?_
 rintro e w0 ⟨hs0,hb0⟩
 have HB0:=hid (below_next HB9.out hb0)
 clear hb0
 have r0:=row_at HR.out hgk HB0.out 0 (by simp)
 simp at r0
 have r3:=(five_new HB0.out).2.2.2.1
 rcases hs0.get with ⟨rfl,_⟩ | ⟨rfl,_⟩
 ·clear hs0
  have HE1:Hid (∀ V,PenAt nd O N b cap g co P V→Calls Tryz.prog 36 #[.pointer (some ⟨P,0,none⟩),.int .i64 (a:Nat)] V fun e w'=>(∃ y:ByteArray,e=.returned (.string y)∧y.size+100≤wgt O a)∧Below V.heap.size V w'):=fun V hV=>H.out.pl (by simp) V hV
  rw [hZa] at HE1
  clear hZa
  have HS:Hid (∀ V,Below (W.heap.size+1) (W.alloc (.cells #[.int .i64 17,.int .i64 op,.int .i64 n,.string t,.int .i64 kids] 81)) V→V.cell? ⟨gk,0,none⟩=some (.int .i64 (a:Nat))∧V.cell? ⟨W.heap.size,3,none⟩=some (.string t)):=fun V h=>⟨row_at HR.out hgk h 0 (by simp),(five_new h).2.2.2.1⟩
  have k0_0:¬ (9223372036854775807 < t.size+2):=by omega
  go_wp2_with fail
  go_region_held3 (fun V=>V.cell? ⟨gk,0,none⟩=some (.int .i64 (a:Nat))∧V.cell? ⟨W.heap.size,3,none⟩=some (.string t)) (first | (exact HS.out _ HB1.out) | (exact HS.out _ HB0.out.drew) | go_keep) (first
   | (go_at_call 36;refine (HE1.out _ (HPN.out _ HB0.out.drew)).mono ?_;rintro e w1 ⟨⟨y1,rfl,hy1⟩,hb1⟩;have HB1:=hid (below_next HB0.out.drew hb1);have k1_0:¬ (9223372036854775807 < t.size+2+y1.size):=(by omega);clear hb1))
  go_wp2
  go_ret
  exact ⟨⟨_,rfl,by (try simp only [ByteArray.size_append]);show t.size+2+y1.size+100≤_;omega⟩,btree HB1.out⟩
 ·clear hs0
  have HE2:Hid (∀ V,PenAt nd O N b cap g co P V→Calls Tryz.prog 36 #[.pointer (some ⟨P,0,none⟩),.int .i64 (a:Nat)] V fun e w'=>(∃ y:ByteArray,e=.returned (.string y)∧y.size+100≤wgt O a)∧Below V.heap.size V w'):=fun V hV=>H.out.pl (by simp) V hV
  rw [hZa] at HE2
  clear hZa
  have HS:Hid (∀ V,Below (W.heap.size+1) (W.alloc (.cells #[.int .i64 17,.int .i64 op,.int .i64 n,.string t,.int .i64 kids] 81)) V→V.cell? ⟨gk,0,none⟩=some (.int .i64 (a:Nat))∧V.cell? ⟨W.heap.size,3,none⟩=some (.string t)):=fun V h=>⟨row_at HR.out hgk h 0 (by simp),(five_new h).2.2.2.1⟩
  go_wp2_with fail
  go_region_held3 (fun V=>V.cell? ⟨gk,0,none⟩=some (.int .i64 (a:Nat))∧V.cell? ⟨W.heap.size,3,none⟩=some (.string t)) (first | (exact HS.out _ HB2.out) | (exact HS.out _ HB1.out) | (exact HS.out _ HB0.out.drew) | go_keep) (first
   | (have hgate:=HB1.out;clear hgate;go_at_call 36;refine (HE2.out _ (HPN.out _ HB1.out)).mono ?_;rintro e w2 ⟨⟨y2,rfl,hy2⟩,hb2⟩;have HB2:=hid (below_next HB1.out hb2);have k2_0:¬ (9223372036854775807 < y1.size+2+y2.size):=(by omega);clear hb2)
   | (go_at_call 9;refine (quote_q t _ (by omega)).mono ?_;rintro e w1 ⟨⟨y1,rfl,hy1⟩,hb1⟩;have HB1:=hid (below_next HB0.out.drew hb1);have k1_0:¬ (9223372036854775807 < y1.size+2):=(by omega);clear hb1))
  go_wp2
  go_ret
  exact ⟨⟨_,rfl,by (try simp only [ByteArray.size_append]);show y1.size+2+y2.size+100≤_;omega⟩,btree HB2.out⟩
set_option maxHeartbeats 4000000 in
theorem plain_2 {nd:Nat→Nd} {O:List (List Nat)} {N b cap g co P j:Nat} {op n kids:Int} {t:ByteArray} {ks:List Nat} (h:Ctx nd O N b cap g co P j ⟨2,op,n,t,kids⟩ ks):InkOk nd O N b cap g co P j:=by
 intro W hp
 have H:=hid h
 have HP:=hid hp
 have hN:=h.hN
 have hj:=h.hj
 have p0:=hp.c0
 have p1:=hp.c1
 have hpl0:=hp.pl
 have hgl0:=hp.gl
 obtain ⟨gk,ck,hc,hgk,⟨n0,n1,n2,n3,n4⟩,hlc,hcm,HR⟩:=h.at hp
 dsimp only at n0 n1 n2 n3 n4
 have hpd:=h.plain
 have hts:=plain_text hpd
 dsimp only at hts
 have hkd:=h.kidsOk
 simp only [KidsOk] at hkd
 simp only [PlainNd] at hpd
 have hsum:=h.sum
 have htop:=h.top
 clear h hp
 have hn01:=hpd.2.2.2.1 (by trivial)
 clear hkd hpd
 obtain ⟨ZJ,hZJ⟩:∃ Z,wgt O j=Z:=⟨_,rfl⟩
 rw [hZJ] at hsum htop ⊢
 clear hZJ
 rcases hn01 with rfl | rfl
 all_goals
  go_enter Tryz.func36,Tryz.ntmps36
  go_wp2
  go_ret
  exact ⟨⟨_,rfl,by show _+100≤_;first | (show 5+100≤_;omega) | (show 4+100≤_;omega)⟩,(((Below.refl _ _).alloc (Nat.le_refl _) _).alloc (by simp) _)⟩
set_option maxHeartbeats 4000000 in
theorem plain_21 {nd:Nat→Nd} {O:List (List Nat)} {N b cap g co P j:Nat} {op n kids:Int} {t:ByteArray} {ks:List Nat} (h:Ctx nd O N b cap g co P j ⟨21,op,n,t,kids⟩ ks):InkOk nd O N b cap g co P j:=by
 intro W hp
 have H:=hid h
 have HP:=hid hp
 have hN:=h.hN
 have hj:=h.hj
 have p0:=hp.c0
 have p1:=hp.c1
 have hpl0:=hp.pl
 have hgl0:=hp.gl
 obtain ⟨gk,ck,hc,hgk,⟨n0,n1,n2,n3,n4⟩,hlc,hcm,HR⟩:=h.at hp
 dsimp only at n0 n1 n2 n3 n4
 have hpd:=h.plain
 have hts:=plain_text hpd
 dsimp only at hts
 have hkd:=h.kidsOk
 simp only [KidsOk] at hkd
 simp only [PlainNd] at hpd
 have hsum:=h.sum
 have htop:=h.top
 clear h hp
 obtain ⟨a,rfl⟩:∃ a,ks=[a]:=by
  match ks,(show ks.length=1 by omega) with
  | [a],_=>exact ⟨a,rfl⟩
 simp only [wgts_cons,wgts_nil] at hsum
 have hl1:[a].length=1:=rfl
 rw [hl1] at hc
 clear hl1 hkd hpd
 obtain ⟨ZJ,hZJ⟩:∃ Z,wgt O j=Z:=⟨_,rfl⟩
 rw [hZJ] at hsum htop ⊢
 clear hZJ
 have HE1:Hid (∀ V,PenAt nd O N b cap g co P V→Calls Tryz.prog 36 #[.pointer (some ⟨P,0,none⟩),.int .i64 (a:Nat)] V fun e w'=>(∃ y:ByteArray,e=.returned (.string y)∧y.size+100≤wgt O a)∧Below V.heap.size V w'):=fun V hV=>H.out.pl (by simp) V hV
 obtain ⟨Za,hZa⟩:∃ Z,wgt O a=Z:=⟨_,rfl⟩
 rw [hZa] at hsum
 rw [hZa] at HE1
 clear hZa
 have HB0:=hid (Below.refl (W.heap.size+1) (W.alloc (.cells #[.int .i64 21,.int .i64 op,.int .i64 n,.string t,.int .i64 kids] 81)))
 have HPN:Hid (∀ V,Below (W.heap.size+1) (W.alloc (.cells #[.int .i64 21,.int .i64 op,.int .i64 n,.string t,.int .i64 kids] 81)) V→PenAt nd O N b cap g co P V):=fun V h=>HP.out.next (btree h)
 have HS:Hid (∀ V,Below (W.heap.size+1) (W.alloc (.cells #[.int .i64 21,.int .i64 op,.int .i64 n,.string t,.int .i64 kids] 81)) V→V.cell? ⟨gk,0,none⟩=some (.int .i64 (a:Nat))∧V.cell? ⟨W.heap.size,3,none⟩=some (.string t)):=fun V h=>⟨row_at HR.out hgk h 0 (by simp),(five_new h).2.2.2.1⟩
 have k0_0:¬ (9223372036854775807 < 4+t.size):=by omega
 have k0_1:¬ (9223372036854775807 < 4+t.size+3):=by omega
 go_enter Tryz.func36,Tryz.ntmps36
 go_wp2_with fail
 go_region_held3 (fun V=>V.cell? ⟨gk,0,none⟩=some (.int .i64 (a:Nat))∧V.cell? ⟨W.heap.size,3,none⟩=some (.string t)) (first | (exact HS.out _ HB1.out) | (exact HS.out _ HB0.out.drew) | go_keep) (first
  | (go_at_call 36;refine (HE1.out _ (HPN.out _ HB0.out.drew)).mono ?_;rintro e w1 ⟨⟨y1,rfl,hy1⟩,hb1⟩;have HB1:=hid (below_next HB0.out.drew hb1);have k1_0:¬ (9223372036854775807 < 4+t.size+3+y1.size):=(by omega);have k1_1:¬ (9223372036854775807 < 4+t.size+3+y1.size+2):=(by omega);clear hb1))
 go_wp2
 go_ret
 exact ⟨⟨_,rfl,by (try simp only [ByteArray.size_append]);show 4+t.size+3+y1.size+2+100≤_;omega⟩,btree HB1.out⟩
set_option maxHeartbeats 4000000 in
theorem plain_23 {nd:Nat→Nd} {O:List (List Nat)} {N b cap g co P j:Nat} {op n kids:Int} {t:ByteArray} {ks:List Nat} (h:Ctx nd O N b cap g co P j ⟨23,op,n,t,kids⟩ ks):InkOk nd O N b cap g co P j:=by
 intro W hp
 have H:=hid h
 have HP:=hid hp
 have hN:=h.hN
 have hj:=h.hj
 have p0:=hp.c0
 have p1:=hp.c1
 have hpl0:=hp.pl
 have hgl0:=hp.gl
 obtain ⟨gk,ck,hc,hgk,⟨n0,n1,n2,n3,n4⟩,hlc,hcm,HR⟩:=h.at hp
 dsimp only at n0 n1 n2 n3 n4
 have hpd:=h.plain
 have hts:=plain_text hpd
 dsimp only at hts
 have hkd:=h.kidsOk
 simp only [KidsOk] at hkd
 simp only [PlainNd] at hpd
 have hsum:=h.sum
 have htop:=h.top
 clear h hp
 clear hkd hpd
 obtain ⟨ZJ,hZJ⟩:∃ Z,wgt O j=Z:=⟨_,rfl⟩
 rw [hZJ] at hsum htop ⊢
 clear hZJ
 have HB0:=hid (Below.refl (W.heap.size+1) (W.alloc (.cells #[.int .i64 23,.int .i64 op,.int .i64 n,.string t,.int .i64 kids] 81)))
 have HPN:Hid (∀ V,Below (W.heap.size+1) (W.alloc (.cells #[.int .i64 23,.int .i64 op,.int .i64 n,.string t,.int .i64 kids] 81)) V→PenAt nd O N b cap g co P V):=fun V h=>HP.out.next (btree h)
 have HLI:Hid (∀ V,Below (W.heap.size+1) (W.alloc (.cells #[.int .i64 23,.int .i64 op,.int .i64 n,.string t,.int .i64 kids] 81)) V→Calls Tryz.prog 55 #[.pointer (some ⟨P,0,none⟩),.slice (some ⟨gk,0,none⟩) ks.length ck] V fun e w'=>(∃ y:ByteArray,e=.returned (.string y)∧y.size≤wgts O ks)∧Below V.heap.size V w'):=fun V hV=>H.out.li (fun _ h=>h) (Nat.le_refl _) (Nat.le_refl _) ck V (HPN.out V hV) (.inr ⟨gk,0,rfl,Nat.lt_of_lt_of_le hgk (btree hV).size,fun i hi=>by rw [Nat.zero_add];exact row_at HR.out hgk hV i hi⟩)
 obtain ⟨Zk,hZk⟩:∃ Z,wgts O ks=Z:=⟨_,rfl⟩
 obtain ⟨m,hm⟩:∃ m,ks.length=m:=⟨_,rfl⟩
 have hml:=H.out.kl
 rw [hm] at HLI hc hml hlc
 rw [hZk] at HLI hsum
 clear hZk hm
 have HE2:=HLI
 go_enter Tryz.func36,Tryz.ntmps36
 go_wp2_with fail
 refine (quote_q t _ (by omega)).mono ?_
 rintro e w1 ⟨⟨y1,rfl,hy1⟩,hb1⟩
 have HB1:=hid (below_next HB0.out hb1)
 clear hb1
 go_wp2_with fail
 refine (HE2.out _ HB1.out).mono ?_
 rintro e w2 ⟨⟨y2,rfl,hy2⟩,hb2⟩
 have HB2:=hid (below_next HB1.out hb2)
 clear hb2
 go_wp2
 go_ret
 exact ⟨⟨_,rfl,by (try simp only [ByteArray.size_append]);show 5+y1.size+2+y2.size+2+100≤_;omega⟩,btree HB2.out⟩
set_option maxHeartbeats 4000000 in
theorem plain_3 {nd:Nat→Nd} {O:List (List Nat)} {N b cap g co P j:Nat} {op n kids:Int} {t:ByteArray} {ks:List Nat} (h:Ctx nd O N b cap g co P j ⟨3,op,n,t,kids⟩ ks):InkOk nd O N b cap g co P j:=by
 intro W hp
 have H:=hid h
 have HP:=hid hp
 have hN:=h.hN
 have hj:=h.hj
 have p0:=hp.c0
 have p1:=hp.c1
 have hpl0:=hp.pl
 have hgl0:=hp.gl
 obtain ⟨gk,ck,hc,hgk,⟨n0,n1,n2,n3,n4⟩,hlc,hcm,HR⟩:=h.at hp
 dsimp only at n0 n1 n2 n3 n4
 have hpd:=h.plain
 have hts:=plain_text hpd
 dsimp only at hts
 have hkd:=h.kidsOk
 simp only [KidsOk] at hkd
 simp only [PlainNd] at hpd
 have hsum:=h.sum
 have htop:=h.top
 clear h hp
 have hn0:=hpd.2.2.2.2.1 (by trivial)
 clear hkd hpd
 obtain ⟨ZJ,hZJ⟩:∃ Z,wgt O j=Z:=⟨_,rfl⟩
 rw [hZJ] at hsum htop ⊢
 clear hZJ
 have HB0:=hid (Below.refl (W.heap.size+1) (W.alloc (.cells #[.int .i64 3,.int .i64 op,.int .i64 n,.string t,.int .i64 kids] 81)))
 have HPN:Hid (∀ V,Below (W.heap.size+1) (W.alloc (.cells #[.int .i64 3,.int .i64 op,.int .i64 n,.string t,.int .i64 kids] 81)) V→PenAt nd O N b cap g co P V):=fun V h=>HP.out.next (btree h)
 go_enter Tryz.func36,Tryz.ntmps36
 go_wp2_with fail
 refine (dec_q n _ hn0).mono ?_
 rintro e w1 ⟨⟨y1,rfl,hy1⟩,hb1⟩
 have HB1:=hid (below_next HB0.out hb1)
 clear hb1
 go_wp2
 go_ret
 exact ⟨⟨_,rfl,by omega⟩,btree HB1.out⟩
end Go.Proofs.YtabbahpalemlhaaGreatDoor.Tk
namespace Go.Proofs.YtabbahpalemlhaaGreatDoor
open Go.RowKit
set_option maxRecDepth 20000
structure BR (R:Nat) (w w2:World):Prop where
 lo:Below R w w2
 tr:∀ (k:Nat) cs,R < k→w.heap[k]?=some (.cells cs 50 (0,0))→w2.heap[k]?=w.heap[k]?
theorem BR.trans {R:Nat} {a b c:World} (h:BR R a b) (k:BR R b c):BR R a c:=⟨h.lo.trans k.lo,fun i cs hi hc=>(k.tr i cs hi ((h.tr i cs hi hc).trans hc)).trans (h.tr i cs hi hc)⟩
theorem BR.of_below {R:Nat} {w w2:World} (h:Below w.heap.size w w2) (hR:R≤w.heap.size):BR R w w2:=⟨h.mono hR,fun k _ _ hc=>h.block k (Array.getElem?_eq_some_iff.1 hc).1⟩
theorem BR.of_sv {R:Nat} {w w2:World} (h:Sv (fun k=>k=R) w w2) (hR:R≤w.heap.size):BR R w w2:=⟨h.below hR (fun k e=>by subst e;exact Nat.le_refl _),fun k _ hk hc=>h.block k (Array.getElem?_eq_some_iff.1 hc).1 (by show ¬ k=R;omega)⟩
theorem BR.of_gd {R:Nat} {w w2:World} (h:Gd R w w2):BR R w w2:=⟨⟨h.os,h.tape,h.output,h.size,h.low⟩,fun k _ _ hc=>h.block k _ _ _ hc (by unfold GenT;decide) (by decide)⟩
theorem BR.set {R b i:Nat} {w w2:World} (h:BR R w w2) (hR:R≤w.heap.size) (hb:w.heap.size≤b) (v:Value):BR R w (w2.setCell ⟨b,i,none⟩ v):=⟨h.lo.setCell (by show R≤b;omega) _,fun k cs hk hc=>(Below.heap_setCell _ _ _ _ (fun e=>by have:=(Array.getElem?_eq_some_iff.1 hc).1;have e':k=b:=e;omega)).trans (h.tr k cs hk hc)⟩
end Go.Proofs.YtabbahpalemlhaaGreatDoor
