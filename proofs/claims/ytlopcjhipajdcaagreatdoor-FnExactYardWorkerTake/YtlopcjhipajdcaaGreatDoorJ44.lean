import Derived.Test.YtlopcjhipajdcaaGreatDoorJ42
/-! The program's copies of rows. Printed by gen_yrow.py. -/
namespace Go.Proofs.YtlopcjhipajdcaaGreatDoor.Y
open Go.RowKit R
open Go.Proofs.YtlopcjhipajdcaaGreatDoor.J (FileOk BegOk RepOk ltB Says says_t says_f)
set_option maxRecDepth 20000
theorem take_more {α : Type} (l : List α) (z : α) {j : Nat} (h : j < l.length) : l.take (j + 1) = l.take j ++ [l.getD j z] := by
  rw [List.take_add_one, List.getD_eq_getElem?_getD, List.getElem?_eq_getElem h]
  rfl
theorem litStr (W : World) (x : ByteArray) : RdStr (W.alloc (.cells #[.string x] 9)) (.slice (some ⟨W.heap.size, 0, none⟩) 1 1) [x] := by
  have h : (W.alloc (.cells #[.string x] 9)).heap[W.heap.size]? = some (.cells #[.string x] 9) := heap_alloc_new W _
  refine ⟨_, _, rfl, .inr ⟨W.heap.size, rfl, by simp, fun i hi => ?_⟩⟩
  obtain rfl : i = 0 := by simp at hi; omega
  exact row_cell h 0
theorem ownStr_more {B : Nat} {W : World} {v : Value} {L : List ByteArray} {x : ByteArray} (h : W.ownsRow B 9 1 v (L.length + [x].length) (cStr L ++ cStr [x])) : OwnStr B W v (L ++ [x]) := by
  unfold OwnStr
  rw [cStr_app, List.length_append]
  exact h
set_option maxHeartbeats 4000000 in
theorem copiedStr_any (l : List ByteArray) {v : Value} (w : World) (hl : l.length ≤ 1048576) (k0 : RdStr w v l) (hs : ∀ i, i < l.length → (l.getD i ⟨#[]⟩).size ≤ 1048576) :
    Calls Tryz.prog 116 #[v] w fun e w' => ∃ u, e = .returned u ∧ OwnStr w.heap.size w' u l ∧ Below w.heap.size w w' := by
  have K0 := hid k0
  have HS := hid hs
  obtain ⟨ad0, cp0, rfl⟩ := k0.sl
  clear k0 hs
  go_enter Tryz.func116, Tryz.ntmps116
  go_wp2
  go_loopw [3, 8] (fun c i wr => ∃ j : Nat, j ≤ l.length ∧ i = .int .i64 j ∧ OwnStr w.heap.size wr c (l.take j) ∧ Below w.heap.size w wr) (fun _ i _ => l.length - (intOf i).toNat)
  case atStart => exact ⟨0, Nat.zero_le _, rfl, ownStr_nil _ _, Below.refl _ _⟩
  case round =>
    obtain ⟨j, hj, rfl, ho, hb⟩ := hrel
    by_cases hlt : j < l.length
    · have HTM := hid (take_more l ⟨#[]⟩ hlt)
      have HSX := hid (HS.out j hlt)
      have hTL : (l.take j).length ≤ 1048576 := by rw [List.length_take]; omega
      generalize l.take j = L at *
      obtain ⟨ad, cp, rfl⟩ := own_formK ho
      have HO := hid ho
      have HB := hid hb
      obtain ⟨g, rfl, hg, hc⟩ := (K0.out.next hb).at hlt
      have HG := hid hg
      have HCC := hid hc
      clear ho hb hg hc
      generalize l.getD j ⟨#[]⟩ = x at *
      have c0 : wr.cell? ⟨g, j, none⟩ = some (.string x) := HCC.out
      go_wp2_with (first | (go_at_call 115; refine (clone_any x _ HSX.out).mono ?_; rintro e w1 ⟨rfl, hb1⟩; have HB1 := hid ((HB.out).trans (hb1.mono (HB.out).size)); have HO1 := hid (own_next (own_next HO.out hb1) ((Below.refl w1.heap.size w1).alloc (Nat.le_refl _) (.cells #[.string x] 9))); have HL1 := hid (litStr w1 x); have HA1 := hid (HB1.out.alloc HB1.out.size (.cells #[.string x] 9)); clear hb1) | (at_builtin; refine wpList_appStr rfl (.tmp 12) (.tmp 15) rfl w.heap.size (.slice ad L.length cp) L.length (cStr L) rfl HO1.out _ [x] rfl HL1.out (by simp; omega) HA1.out.size ?_; intro u2 w2 ho hg; have HO2 := hid (ownStr_more ho); have HB2 := hid (grown_loK HA1.out HO1.out HA1.out.size hg); clear ho hg))
      go_roundw
      case rel => exact ⟨j + 1, by omega, by go_num, by rw [HTM.out]; exact HO2.out, HB2.out⟩
      case measure => simp [intOf]; omega
    · obtain rfl : j = l.length := by omega
      have HO : Hid (OwnStr w.heap.size wr _ l) := hid (by rw [List.take_length] at ho; exact ho)
      have HB := hid hb
      clear ho hb
      go_wp2
      go_ret
      exact ⟨_, rfl, HO.out, HB.out⟩
theorem litFl (W : World) (x : Fl) : RdFl (W.alloc (.cells #[.string x.name, .string x.text] 114)) (.slice (some ⟨W.heap.size, 0, none⟩) 1 1) [x] := by
  have h : (W.alloc (.cells #[.string x.name, .string x.text] 114)).heap[W.heap.size]? = some (.cells #[.string x.name, .string x.text] 114) := heap_alloc_new W _
  refine ⟨_, _, rfl, .inr ⟨W.heap.size, rfl, by simp, fun i hi => ?_⟩⟩
  obtain rfl : i = 0 := by simp at hi; omega
  exact ⟨row_cell h 0, row_cell h 1⟩
theorem ownFl_more {B : Nat} {W : World} {v : Value} {L : List Fl} {x : Fl} (h : W.ownsRow B 114 2 v (L.length + [x].length) (cFl L ++ cFl [x])) : OwnFl B W v (L ++ [x]) := by
  unfold OwnFl
  rw [cFl_app, List.length_append]
  exact h
set_option maxHeartbeats 4000000 in
theorem copiedFl_any (l : List Fl) {v : Value} (w : World) (hl : l.length ≤ 1048576) (k0 : RdFl w v l) (hs : ∀ i, i < l.length → (l.getD i fl0).name.size ≤ 1048576 ∧ (l.getD i fl0).text.size ≤ 1048576) :
    Calls Tryz.prog 118 #[v, .func (.func 119) #[] #[]] w fun e w' => ∃ u, e = .returned u ∧ OwnFl w.heap.size w' u l ∧ Below w.heap.size w w' := by
  have K0 := hid k0
  have HS := hid hs
  obtain ⟨ad0, cp0, rfl⟩ := k0.sl
  clear k0 hs
  go_enter Tryz.func118, Tryz.ntmps118
  go_wp2
  go_loopw [5, 10] (fun c i wr => ∃ j : Nat, j ≤ l.length ∧ i = .int .i64 j ∧ OwnFl w.heap.size wr c (l.take j) ∧ Below w.heap.size w wr) (fun _ i _ => l.length - (intOf i).toNat)
  case atStart => exact ⟨0, Nat.zero_le _, rfl, ownFl_nil _ _, Below.refl _ _⟩
  case round =>
    obtain ⟨j, hj, rfl, ho, hb⟩ := hrel
    by_cases hlt : j < l.length
    · have HTM := hid (take_more l fl0 hlt)
      have HSX := hid (HS.out j hlt)
      have hTL : (l.take j).length ≤ 1048576 := by rw [List.length_take]; omega
      generalize l.take j = L at *
      obtain ⟨ad, cp, rfl⟩ := own_formK ho
      have HO := hid ho
      have HB := hid hb
      obtain ⟨g, rfl, hg, hc⟩ := (K0.out.next hb).at hlt
      have HG := hid hg
      have HCC := hid hc
      clear ho hb hg hc
      generalize l.getD j fl0 = x at *
      have c0 : wr.cell? ⟨g, j * 2, none⟩ = some (.string x.name) := HCC.out.1
      have c1 : wr.cell? ⟨g, j * 2 + 1, none⟩ = some (.string x.text) := HCC.out.2
      go_wp2_with (first | (go_at_call 119; refine (fileCopied_any x _ HSX.out.1 HSX.out.2).mono ?_; rintro e w1 ⟨rfl, hb1⟩; have HB1 := hid (((HB.out.alloc HB.out.size (.cells #[.string x.name, .string x.text] 114))).trans (hb1.mono ((HB.out.alloc HB.out.size (.cells #[.string x.name, .string x.text] 114))).size)); have HO1 := hid (own_next (own_next (own_next HO.out ((Below.refl wr.heap.size wr).alloc (Nat.le_refl _) (.cells #[.string x.name, .string x.text] 114))) hb1) ((Below.refl w1.heap.size w1).alloc (Nat.le_refl _) (.cells #[.string x.name, .string x.text] 114))); have HL1 := hid (litFl w1 x); have HA1 := hid (HB1.out.alloc HB1.out.size (.cells #[.string x.name, .string x.text] 114)); clear hb1) | (at_builtin; refine wpList_appFl rfl (.tmp 14) (.tmp 18) rfl w.heap.size (.slice ad L.length cp) L.length (cFl L) rfl HO1.out _ [x] rfl HL1.out (by simp; omega) HA1.out.size ?_; intro u2 w2 ho hg; have HO2 := hid (ownFl_more ho); have HB2 := hid (grown_loK HA1.out HO1.out HA1.out.size hg); clear ho hg))
      go_roundw
      case rel => exact ⟨j + 1, by omega, by go_num, by rw [HTM.out]; exact HO2.out, HB2.out⟩
      case measure => simp [intOf]; omega
    · obtain rfl : j = l.length := by omega
      have HO : Hid (OwnFl w.heap.size wr _ l) := hid (by rw [List.take_length] at ho; exact ho)
      have HB := hid hb
      clear ho hb
      go_wp2
      go_ret
      exact ⟨_, rfl, HO.out, HB.out⟩
theorem litSn (W : World) (x : Sn) : RdSn (W.alloc (.cells #[.int .i64 x.kind, .string x.name, .int .i64 x.reply.code, .string x.reply.text] 88)) (.slice (some ⟨W.heap.size, 0, none⟩) 1 1) [x] := by
  have h : (W.alloc (.cells #[.int .i64 x.kind, .string x.name, .int .i64 x.reply.code, .string x.reply.text] 88)).heap[W.heap.size]? = some (.cells #[.int .i64 x.kind, .string x.name, .int .i64 x.reply.code, .string x.reply.text] 88) := heap_alloc_new W _
  refine ⟨_, _, rfl, .inr ⟨W.heap.size, rfl, by simp, fun i hi => ?_⟩⟩
  obtain rfl : i = 0 := by simp at hi; omega
  exact ⟨row_cell h 0, row_cell h 1, row_cell h 2, row_cell h 3⟩
theorem ownSn_more {B : Nat} {W : World} {v : Value} {L : List Sn} {x : Sn} (h : W.ownsRow B 88 4 v (L.length + [x].length) (cSn L ++ cSn [x])) : OwnSn B W v (L ++ [x]) := by
  unfold OwnSn
  rw [cSn_app, List.length_append]
  exact h
set_option maxHeartbeats 4000000 in
theorem copiedSn_any (l : List Sn) {v : Value} (w : World) (hl : l.length ≤ 1048576) (k0 : RdSn w v l) (hs : ∀ i, i < l.length → (l.getD i sn0).name.size ≤ 1048576 ∧ (l.getD i sn0).reply.text.size ≤ 1048576) :
    Calls Tryz.prog 90 #[v, .func (.func 91) #[] #[]] w fun e w' => ∃ u, e = .returned u ∧ OwnSn w.heap.size w' u l ∧ Below w.heap.size w w' := by
  have K0 := hid k0
  have HS := hid hs
  obtain ⟨ad0, cp0, rfl⟩ := k0.sl
  clear k0 hs
  go_enter Tryz.func90, Tryz.ntmps90
  go_wp2
  go_loopw [5, 10] (fun c i wr => ∃ j : Nat, j ≤ l.length ∧ i = .int .i64 j ∧ OwnSn w.heap.size wr c (l.take j) ∧ Below w.heap.size w wr) (fun _ i _ => l.length - (intOf i).toNat)
  case atStart => exact ⟨0, Nat.zero_le _, rfl, ownSn_nil _ _, Below.refl _ _⟩
  case round =>
    obtain ⟨j, hj, rfl, ho, hb⟩ := hrel
    by_cases hlt : j < l.length
    · have HTM := hid (take_more l sn0 hlt)
      have HSX := hid (HS.out j hlt)
      have hTL : (l.take j).length ≤ 1048576 := by rw [List.length_take]; omega
      generalize l.take j = L at *
      obtain ⟨ad, cp, rfl⟩ := own_formK ho
      have HO := hid ho
      have HB := hid hb
      obtain ⟨g, rfl, hg, hc⟩ := (K0.out.next hb).at hlt
      have HG := hid hg
      have HCC := hid hc
      clear ho hb hg hc
      generalize l.getD j sn0 = x at *
      have c0 : wr.cell? ⟨g, j * 4, none⟩ = some (.int .i64 x.kind) := HCC.out.1
      have c1 : wr.cell? ⟨g, j * 4 + 1, none⟩ = some (.string x.name) := HCC.out.2.1
      have c2 : wr.cell? ⟨g, j * 4 + 2, none⟩ = some (.int .i64 x.reply.code) := HCC.out.2.2.1
      have c3 : wr.cell? ⟨g, j * 4 + 3, none⟩ = some (.string x.reply.text) := HCC.out.2.2.2
      go_wp2_with (first | (go_at_call 91; refine (seenCopied_any x _ HSX.out.1 HSX.out.2).mono ?_; rintro e w1 ⟨rfl, hb1⟩; have HB1 := hid (((HB.out.alloc HB.out.size (.cells #[.int .i64 x.kind, .string x.name, .int .i64 x.reply.code, .string x.reply.text] 88))).trans (hb1.mono ((HB.out.alloc HB.out.size (.cells #[.int .i64 x.kind, .string x.name, .int .i64 x.reply.code, .string x.reply.text] 88))).size)); have HO1 := hid (own_next (own_next (own_next HO.out ((Below.refl wr.heap.size wr).alloc (Nat.le_refl _) (.cells #[.int .i64 x.kind, .string x.name, .int .i64 x.reply.code, .string x.reply.text] 88))) hb1) ((Below.refl w1.heap.size w1).alloc (Nat.le_refl _) (.cells #[.int .i64 x.kind, .string x.name, .int .i64 x.reply.code, .string x.reply.text] 88))); have HL1 := hid (litSn w1 x); have HA1 := hid (HB1.out.alloc HB1.out.size (.cells #[.int .i64 x.kind, .string x.name, .int .i64 x.reply.code, .string x.reply.text] 88)); clear hb1) | (at_builtin; refine wpList_appSn rfl (.tmp 14) (.tmp 18) rfl w.heap.size (.slice ad L.length cp) L.length (cSn L) rfl HO1.out _ [x] rfl HL1.out (by simp; omega) HA1.out.size ?_; intro u2 w2 ho hg; have HO2 := hid (ownSn_more ho); have HB2 := hid (grown_loK HA1.out HO1.out HA1.out.size hg); clear ho hg))
      go_roundw
      case rel => exact ⟨j + 1, by omega, by go_num, by rw [HTM.out]; exact HO2.out, HB2.out⟩
      case measure => simp [intOf]; omega
    · obtain rfl : j = l.length := by omega
      have HO : Hid (OwnSn w.heap.size wr _ l) := hid (by rw [List.take_length] at ho; exact ho)
      have HB := hid hb
      clear ho hb
      go_wp2
      go_ret
      exact ⟨_, rfl, HO.out, HB.out⟩
end Go.Proofs.YtlopcjhipajdcaaGreatDoor.Y
