import Derived.Test.YtpligndiomblhaaPlSpec
/-! A look that is answered, by the model. -/
namespace Go.Proofs.Ytpligndiomblhaa.P
open Go.RowKit
open Go.Proofs.Ytpligndiomblhaa.J (Says says_t says_f FileOk Says.pos Says.neg)
open Go.Proofs.Ytpligndiomblhaa.R (hid small set_other Fl fl0 lt_hp hp_next B1 B2 row_cell row_room SFlR OkFlS below_drewN below_set)
set_option maxRecDepth 20000
abbrev TwoB (w : World) (g n : Nat) (W : World) : Prop := B2 w (.cells #[.slice (some ⟨g, 0, none⟩) n n] 29) (.cells #[.int .i64 0, .string ⟨#[]⟩] 34) W
theorem two_cells {w : World} {g n : Nat} {W : World} (h : TwoB w g n W) : W.cell? ⟨w.heap.size, 0, none⟩ = some (.slice (some ⟨g, 0, none⟩) n n) ∧ W.cell? ⟨w.heap.size + 1, 0, none⟩ = some (.int .i64 0) ∧ W.cell? ⟨w.heap.size + 1, 1, none⟩ = some (.string ⟨#[]⟩) ∧ W.frozen? ⟨w.heap.size + 1, 0, none⟩ = false ∧ W.frozen? ⟨w.heap.size + 1, 1, none⟩ = false :=
  ⟨row_cell h.e 0, row_cell h.f 0, row_cell h.f 1, (row_room h.f (i := 0) (by simp)).2, (row_room h.f (i := 1) (by simp)).2⟩
theorem two_fin {w : World} {g n : Nat} {W : World} (h : TwoB w g n W) (a b : Value) : Below w.heap.size w ((W.setCell ⟨w.heap.size + 1, 0, none⟩ a).setCell ⟨w.heap.size + 1, 1, none⟩ b) := below_set (below_set h.lo _ _ (by omega) _) _ _ (by omega) _
set_option maxHeartbeats 4000000 in
theorem specSee_any (l : List Fl) (kind : Int) (t : ByteArray) {v : Value} {B : Nat} (w : World) (hO : OkFlS l) (hN : l.length ≤ 1048576) (_ht : t.size ≤ 1048576) (k0 : SFlR B w v l) :
    Calls Try.prog 12 #[.agg #[v], .int .i64 kind, .string t] w fun e w' => ∃ r, SeeEnd r w e w' ∧ ((PlOk l ∧ r = seeR (nms l) (findF l) kind t) ∨ (¬ PlOk l ∧ r = (5, emp))) := by
  have HO := hid hO
  have HS := hid (B2.start w (.cells #[v] 29) (.cells #[.int .i64 0, .string ⟨#[]⟩] 34))
  have HK := hid (k0.next HS.out.lo)
  obtain ⟨g, rfl⟩ := k0.sl
  clear k0 hO
  go_enter Try.func12, Try.ntmps12
  go_upto_region 1 with fail
  obtain ⟨W0, hW0⟩ : ∃ W, (w.alloc (.cells #[.slice (some ⟨g, 0, none⟩) l.length l.length] 29)).alloc (.cells #[.int .i64 0, .string ⟨#[]⟩] 34) = W := ⟨_, rfl⟩
  rw [hW0] at HS HK ⊢
  clear hW0
  have a0 : W0.cell? ⟨w.heap.size, 0, none⟩ = some (.slice (some ⟨g, 0, none⟩) l.length l.length) := row_cell HS.out.e 0
  go_wp2_with fail
  refine (specPlace_any l _ HO.out hN HK.out).mono ?_
  rintro e w2 ⟨hsy, hb2⟩
  have HS2 : Hid (TwoB w g l.length w2) := hid (HS.out.next hb2)
  have HK2 := hid (HK.out.next hb2)
  clear hb2 a0 HS HK
  obtain ⟨a0, r0, r1, z0, z1⟩ := two_cells HS2.out
  by_cases hP : PlOk l
  · obtain rfl := hsy.pos hP
    clear hsy
    have HP := hid hP
    have h40 := hP.1
    clear hP
    by_cases h3 : kind = 3
    · subst h3
      have HR : Hid (seeR (nms l) (findF l) 3 t = (0, ⟨(lstL t (nms l)).toArray⟩)) := hid (if_pos rfl)
      go_wp2
      go_loopw [7, 8, 9] (fun q i _ wr => ∃ (k : Nat) (s : ByteArray), k ≤ l.length ∧ i = .int .i64 k ∧ q = .string s ∧ LS l t k s ∧ wr = w2) (fun _ i _ _ => l.length - (intOf i).toNat)
      case atStart => exact ⟨0, _, Nat.zero_le _, rfl, rfl, ⟨rfl, Nat.le_refl _⟩, rfl⟩
      case round =>
        obtain ⟨k, s, hk, rfl, rfl, hls, rfl⟩ := hrel
        have HLS := hid hls
        have hsz : s.size ≤ 2440 := by have := hls.2; omega
        clear hls
        by_cases hlt : k < l.length
        · obtain ⟨_, b0, _⟩ := fl_at HK2.out hlt
          have HSK := hid (HLS.out.skip hlt)
          have H60 := hid ((HP.out.2 k hlt).1.1.2.1)
          have HMO := hid (HLS.out.more hlt H60.out)
          obtain ⟨n, hne⟩ : ∃ n, (l.getD k fl0).name = n := ⟨_, rfl⟩
          rw [hne] at b0 HSK H60 HMO
          clear hne
          have h60 := H60.out
          cases hpf : Lib.hasPrefix n.data.toList t.data.toList
          · have HNX := hid (HSK.out hpf)
            by_cases hts : t.size ≤ n.size
            · have hts2 : (t.size : Int) ≤ (n.size : Int) := by omega
              have hpn := prefix_no hpf hts
              go_wp2
              go_roundw
              case rel => exact ⟨k + 1, s, by omega, by go_num, rfl, HNX.out, by trivial⟩
              case measure => simp [intOf]; omega
            · have hts2 : ¬ (t.size : Int) ≤ (n.size : Int) := by omega
              go_wp2
              go_roundw
              case rel => exact ⟨k + 1, s, by omega, by go_num, rfl, HNX.out, by trivial⟩
              case measure => simp [intOf]; omega
          · obtain ⟨hts, hpy⟩ := prefix_yes hpf
            have hts2 : (t.size : Int) ≤ (n.size : Int) := by omega
            have HNX := hid (HMO.out hpf)
            go_wp2
            go_roundw
            case rel => exact ⟨k + 1, _, by omega, by go_num, rfl, HNX.out _ rfl, by trivial⟩
            case measure => simp [intOf]; omega
        · obtain rfl : k = l.length := by omega
          have HF := hid HLS.out.fin
          go_wp2
          refine bodyPost_ret (v := .agg #[.int .i64 0, .string s]) (by simp [results, Try.results12, go_sem, r0, r1]) rfl ⟨(0, s), ⟨rfl, two_fin HS2.out _ _⟩, .inl ⟨HP.out, by rw [HR.out, HF.out]⟩⟩
    · have h3b : (kind == 3) = false := by simpa using h3
      by_cases h1 : kind < 1
      · have HR : Hid (seeR (nms l) (findF l) kind t = (5, emp)) := hid (by unfold seeR; rw [if_neg h3, if_pos ⟨by omega, by omega⟩])
        clear h3
        go_wp2
        refine bodyPost_ret (v := .agg #[.int .i64 5, .string ⟨#[]⟩]) (by simp [results, Try.results12, go_sem, r0, r1]) rfl ⟨(5, emp), ⟨rfl, two_fin HS2.out _ _⟩, .inl ⟨HP.out, HR.out.symm⟩⟩
      · by_cases h4 : 3 < kind
        · have HR : Hid (seeR (nms l) (findF l) kind t = (5, emp)) := hid (by unfold seeR; rw [if_neg h3, if_pos ⟨by omega, by omega⟩])
          clear h3
          go_wp2
          refine bodyPost_ret (v := .agg #[.int .i64 5, .string ⟨#[]⟩]) (by simp [results, Try.results12, go_sem, r0, r1]) rfl ⟨(5, emp), ⟨rfl, two_fin HS2.out _ _⟩, .inl ⟨HP.out, HR.out.symm⟩⟩
        · have h12 : kind = 1 ∨ kind = 2 := by omega
          have HR0 : Hid (∀ r, findF l t = r → seeR (nms l) (findF l) kind t = match r with | none => (4, emp) | some x => if kind = 2 then (0, emp) else (0, x.text)) := hid (by
            intro r hr
            unfold seeR
            rw [if_neg h3, if_neg (fun h => by rcases h12 with h9 | h9; exact h.1 h9; exact h.2 h9), hr]
            cases r <;> rfl)
          clear h3
          go_wp2_with fail
          refine (at_any l t _ hN HK2.out).mono ?_
          rintro e w3 ⟨hcs, hb3⟩
          have HS3 : Hid (TwoB w g l.length w3) := hid (HS2.out.next hb3)
          have HK3 := hid (HK2.out.next hb3)
          clear hb3 a0 r0 r1 z0 z1
          obtain ⟨a0, r0, r1, z0, z1⟩ := two_cells HS3.out
          rcases hcs with ⟨i, rfl, hil, hfi⟩ | ⟨rfl, hfi⟩
          · have HR := hid (HR0.out _ hfi)
            obtain ⟨_, _, b1⟩ := fl_at HK3.out hil
            obtain ⟨x, hxe⟩ : ∃ x, l.getD i fl0 = x := ⟨_, rfl⟩
            rw [hxe] at b1 HR
            clear hxe hfi HR0
            rcases h12 with rfl | rfl
            · go_wp2
              refine bodyPost_ret (v := .agg #[.int .i64 0, .string x.text]) (by simp [results, Try.results12, go_sem, r0, r1]) rfl ⟨(0, x.text), ⟨rfl, two_fin HS3.out _ _⟩, .inl ⟨HP.out, HR.out.symm⟩⟩
            · go_wp2
              refine bodyPost_ret (v := .agg #[.int .i64 0, .string ⟨#[]⟩]) (by simp [results, Try.results12, go_sem, r0, r1]) rfl ⟨(0, emp), ⟨rfl, two_fin HS3.out _ _⟩, .inl ⟨HP.out, HR.out.symm⟩⟩
          · have HR := hid (HR0.out _ hfi)
            clear hfi HR0 h12
            go_wp2
            refine bodyPost_ret (v := .agg #[.int .i64 4, .string ⟨#[]⟩]) (by simp [results, Try.results12, go_sem, r0, r1]) rfl ⟨(4, emp), ⟨rfl, two_fin HS3.out _ _⟩, .inl ⟨HP.out, HR.out.symm⟩⟩
  · obtain rfl := hsy.neg hP
    clear hsy
    have HP := hid hP
    clear hP
    go_wp2
    refine bodyPost_ret (v := .agg #[.int .i64 5, .string ⟨#[]⟩]) (by simp [results, Try.results12, go_sem, r0, r1]) rfl ⟨(5, emp), ⟨rfl, two_fin HS2.out _ _⟩, .inr ⟨HP.out, rfl⟩⟩
end Go.Proofs.Ytpligndiomblhaa.P
