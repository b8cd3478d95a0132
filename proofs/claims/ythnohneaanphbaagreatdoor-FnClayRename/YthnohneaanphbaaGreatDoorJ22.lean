import Derived.Test.YthnohneaanphbaaGreatDoorJ02
namespace Go.Proofs.YthnohneaanphbaaGreatDoor
open Go.RowKit
set_option maxRecDepth 20000
set_option maxHeartbeats 4000000 in
theorem l2Plain_C (k:Int) (hk:k=13∨k=14∨k=15∨k=16∨k=17∨k=18):Pl1 k:=by
 intro op n kids t w ht
 unfold ndV
 have HT:=hid ht
 clear ht
 rcases hk with rfl | rfl | rfl | rfl | rfl | rfl
 all_goals
  go_enter Tryz.func48,Tryz.ntmps48
  go_wp2_with (first
   | (go_at_call 22;refine (l1In_dec _ _ _ _).mono ?_;rintro e w' ⟨rfl,rfl⟩)
   | (go_at_call 74;refine (l2Package_any t _ HT.out).mono ?_;rintro e w' ⟨hs,rfl⟩;rcases hs.get with ⟨rfl,hp⟩ | ⟨rfl,hp⟩)
   | (go_at_call 23;refine (l1NameOk_any t _ HT.out).mono ?_;rintro e w1 ⟨hs,hb⟩;rcases hs.get with ⟨rfl,hp⟩ | ⟨rfl,hp⟩))
  all_goals go_ret
  all_goals refine ⟨⟨_,rfl,?_⟩,?_⟩
  all_goals first
   | exact (Below.refl w.heap.size w).alloc (Nat.le_refl _) _
   | exact Below.trans ((Below.refl w.heap.size w).alloc (Nat.le_refl _) _) (Below.mono hb (B':=w.heap.size) (by simp))
   | (simp [PlainNd,hasText,inR, *];done)
   | ((try simp only [bne_iff_ne,bne_eq_false_iff_eq,ne_eq] at *);(try simp [PlainNd,hasText,inR, *]);done)
   | ((try simp only [bne_eq_false_iff_eq] at *);(try simp [PlainNd,hasText,inR, *]);omega)
end Go.Proofs.YthnohneaanphbaaGreatDoor
