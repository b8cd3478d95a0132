import Derived.Test.YtlopcjhipajdcaaGreatDoorJ29
/-! The lines of looks, by the model: only their size. -/
namespace Go.Proofs.YtlopcjhipajdcaaGreatDoor.Y
open Go.RowKit R
open Go.Proofs.YtlopcjhipajdcaaGreatDoor.J (FileOk BegOk RepOk ltB Says says_t says_f)
set_option maxRecDepth 20000
theorem saw_size (a b c d : ByteArray) : (⟨#[115, 97, 119, 32]⟩ ++ a ++ ⟨#[32]⟩ ++ b ++ ⟨#[32]⟩ ++ c ++ ⟨#[32]⟩ ++ d ++ ⟨#[10]⟩ : ByteArray).size = 4 + a.size + 1 + b.size + 1 + c.size + 1 + d.size + 1 := by
  simp only [ByteArray.size_append]
  rfl
theorem sn_room {x : Sn} (h : SnOk x) : (1 ≤ x.kind ∧ x.kind ≤ 3) ∧ (0 ≤ x.reply.code ∧ x.reply.code ≤ 5) ∧ x.name.size ≤ 60 ∧ x.reply.text.size ≤ 3000 := by
  obtain ⟨h1, h2⟩ := h
  unfold LookOk at h1
  unfold RepOk at h2
  refine ⟨by omega, by omega, ?_, by omega⟩
  rcases h1 with ⟨_, h⟩ | ⟨_, h⟩
  · exact h.2.1
  · exact h.1
/-- A box that was laid behind the bytes stays. -/
theorem box_grown {B k : Nat} {w W V : World} {o : Obj} {v : Value} {n : Nat} (h : W.heap[k]? = some o) (ho : OwnB B w v n) (hk : w.heap.size ≤ k) (hg : W.grownBy V v.ownBlock) : V.heap[k]? = some o := by
  obtain ⟨g, cap, rfl, h1, h2⟩ := ho.sl
  rw [hg.block _ (lt_hp h) (fun e => by simp [Value.ownBlock] at e; omega)]
  exact h
set_option maxHeartbeats 16000000 in
theorem saw_any (l : List Sn) {v : Value} (w : World) (hl : l.length ≤ 1000) (hs : ∀ i, i < l.length → SnOk (l.getD i sn0)) (k0 : SSnA w v l) :
    Calls Tryz.prog 48 #[v] w fun e w' => ∃ s : ByteArray, e = .returned (.string s) ∧ s.size ≤ 10000000 ∧ Below w.heap.size w w' := by
  have HS := hid hs
  have K0 := hid k0
  obtain ⟨ad0, cp0, rfl⟩ := k0.sl
  clear k0 hs
  have HST : Hid (OwnB w.heap.size (w.alloc (.cells #[] 5)) (.slice (some ⟨w.heap.size, 0, none⟩) 0 0) 0) := ⟨w.heap.size, 0, #[], (0, 0), [], rfl, Nat.le_refl _, heap_alloc_new w _, .inl rfl, Nat.le_refl _, by unfold maxLen; omega, rfl, rfl, rfl⟩
  go_enter Tryz.func48, Tryz.ntmps48
  go_wp2
  go_loopw [3, 4] (fun v i wr => ∃ (j n : Nat), j ≤ l.length ∧ i = .int .i64 j ∧ OwnB w.heap.size wr v n ∧ n ≤ j * 10000 ∧ Below w.heap.size w wr) (fun _ i _ => l.length - (intOf i).toNat)
  case atStart => exact ⟨0, 0, Nat.zero_le _, rfl, HST.out, by omega, (Below.refl _ _).alloc (Nat.le_refl _) _⟩
  case round =>
    obtain ⟨j, n, hj, rfl, hown, hn2, hbw⟩ := hrel
    have OWN := hid hown
    have HBW := hid hbw
    have hsw := hbw.size
    clear hown hbw
    obtain ⟨gg, cc, rfl, _, _⟩ := OWN.out.sl
    by_cases hlt : j < l.length
    · obtain ⟨a, c, e9, hal, c0, c1, c2, c3⟩ := (K0.out.next HBW.out).at hlt
      injection e9 with ea en ec
      subst ea ec
      clear en
      obtain ⟨⟨q1, q2⟩, ⟨q3, q4⟩, q5, q6⟩ := sn_room (HS.out j hlt)
      obtain ⟨x, hx⟩ : ∃ x, l.getD j sn0 = x := ⟨_, rfl⟩
      rw [hx] at c0 c1 c2 c3 q1 q2 q3 q4 q5 q6
      clear hx
      have hz1 : x.name.size ≤ 1048576 := by omega
      have hz2 : x.reply.text.size ≤ 1048576 := by omega
      have hm1 : -1000000 ≤ x.kind := by omega
      have hm2 : x.kind ≤ 1000000 := by omega
      have hm3 : -1000000 ≤ x.reply.code := by omega
      have hm4 : x.reply.code ≤ 1000000 := by omega
      go_upto_region 6 with fail
      have HB0 := hid (B1.start wr (.cells #[.int .i64 x.kind, .string x.name, .int .i64 x.reply.code, .string x.reply.text] 88))
      have HCL : Hid (∀ W : World, W.heap[wr.heap.size]? = some (.cells #[.int .i64 x.kind, .string x.name, .int .i64 x.reply.code, .string x.reply.text] 88 (0, 0)) → W.cell? ⟨wr.heap.size, 0, none⟩ = some (.int .i64 x.kind) ∧ W.cell? ⟨wr.heap.size, 1, none⟩ = some (.string x.name) ∧ W.cell? ⟨wr.heap.size, 2, none⟩ = some (.int .i64 x.reply.code) ∧ W.cell? ⟨wr.heap.size, 3, none⟩ = some (.string x.reply.text)) := fun W h => ⟨row_cell h 0, row_cell h 1, row_cell h 2, row_cell h 3⟩
      obtain ⟨W0, hW0⟩ : ∃ W, wr.alloc (.cells #[.int .i64 x.kind, .string x.name, .int .i64 x.reply.code, .string x.reply.text] 88) = W := ⟨_, rfl⟩
      rw [hW0] at HB0 ⊢
      clear hW0 c0 c1 c2 c3
      obtain ⟨b0, b1, b2, b3⟩ := HCL.out _ HB0.out.e
      go_region_held3 (fun W => W.cell? ⟨wr.heap.size, 0, none⟩ = some (.int .i64 x.kind) ∧ W.cell? ⟨wr.heap.size, 1, none⟩ = some (.string x.name) ∧ W.cell? ⟨wr.heap.size, 2, none⟩ = some (.int .i64 x.reply.code) ∧ W.cell? ⟨wr.heap.size, 3, none⟩ = some (.string x.reply.text)) (first | (exact FIN) | (exact HCL.out _ HC4.out.e) | (exact HCL.out _ HC3.out.e) | (exact HCL.out _ HC2.out.e) | (exact HCL.out _ HC1.out.e) | go_keep) (first
        | (have hgate := HC3.out; clear hgate; go_at_call 52; refine (quote_sz _ _ hz2).mono ?_; rintro e w4 ⟨y4, rfl, hy4, hb4⟩; have HC4 := hid (HC3.out.next hb4); have m0 : ¬ (9223372036854775807 < 4 + y1.size + 1 + y2.size + 1 + y3.size + 1 + y4.size) := (by omega); have m1 : ¬ (9223372036854775807 < 4 + y1.size + 1 + y2.size + 1 + y3.size + 1 + y4.size + 1) := (by omega); clear hb4)
        | (have hgate := HC2.out; clear hgate; go_at_call 52; refine (quote_sz _ _ hz1).mono ?_; rintro e w3 ⟨y3, rfl, hy3, hb3⟩; have HC3 := hid (HC2.out.next hb3); have l0 : ¬ (9223372036854775807 < 4 + y1.size + 1 + y2.size + 1 + y3.size) := (by omega); have l1 : ¬ (9223372036854775807 < 4 + y1.size + 1 + y2.size + 1 + y3.size + 1) := (by omega); clear hb3)
        | (have hgate := HC1.out; clear hgate; go_at_call 43; refine (l26Dec_any _ _ hm3 hm4).mono ?_; rintro e w2 ⟨y2, rfl, hy2, hb2⟩; have HC2 := hid (HC1.out.next hb2); have k0 : ¬ (9223372036854775807 < 4 + y1.size + 1 + y2.size) := (by omega); have k1 : ¬ (9223372036854775807 < 4 + y1.size + 1 + y2.size + 1) := (by omega); clear hb2)
        | (go_at_call 43; refine (l26Dec_any _ _ hm1 hm2).mono ?_; rintro e w1 ⟨y1, rfl, hy1, hb1⟩; have HC1 := hid (HB0.out.next ((Below.refl _ _).drew.trans hb1)); have i0 : ¬ (9223372036854775807 < 4 + y1.size) := (by omega); have i1 : ¬ (9223372036854775807 < 4 + y1.size + 1) := (by omega); clear hb1)
        | (refine step_app rfl (.tmp 17) (.tmp 39) rfl w.heap.size n (.slice (some ⟨gg, 0, none⟩) n cc) (by simp [Act.eval]) (OWN.out.next HC4.out.lo) (⟨#[115, 97, 119, 32]⟩ ++ y1 ++ ⟨#[32]⟩ ++ y2 ++ ⟨#[32]⟩ ++ y3 ++ ⟨#[32]⟩ ++ y4 ++ ⟨#[10]⟩) (by simp [Act.eval]) (Nat.le_trans hsw HC4.out.lo.size) (by rw [saw_size]; omega) ?_; intro v5 w5 o5 g5; have FIN := HCL.out _ (box_grown HC4.out.e OWN.out (Nat.le_refl _) g5)))
      rw [saw_size] at o5
      have HO5 := hid o5
      have HB5 : Hid (Below w.heap.size w w5) := (HBW.out.trans (HC4.out.lo.mono hsw)).grown g5 (Nat.le_trans hsw HC4.out.lo.size) (fun k e => (OWN.out.lt k e).1)
      obtain ⟨g6, c6, rfl, _, _⟩ := o5.sl
      clear FIN o5 g5
      go_wp2
      go_roundw
      case rel => exact ⟨j + 1, _, by omega, by go_num, HO5.out, by omega, HB5.out⟩
      case measure => simp [intOf]; omega
    · obtain rfl : j = l.length := by omega
      obtain ⟨s, hs, hcs⟩ := OWN.out.str
      have HSS := hid hs
      clear hs
      go_wp2
      go_ret
      exact ⟨s, rfl, by have := HSS.out; omega, HBW.out⟩
end Go.Proofs.YtlopcjhipajdcaaGreatDoor.Y
