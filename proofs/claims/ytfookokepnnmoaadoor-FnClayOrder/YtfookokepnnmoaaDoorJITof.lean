import Derived.Test.YtfookokepnnmoaaDoorJIClone
namespace Go.Proofs.YtfookokepnnmoaaDoor
open Go.RowKit
set_option maxRecDepth 20000
theorem OverEnd.pos {S : Nat → Prop} {w : World} {e : Ending} {t : Tr} (h : OverEnd S w e t) (hg : Good t) : ∃ T y, e = .returned (.tuple #[.iface T y, .bool true]) ∧ IsTh S w t (.iface T y) := by
  rcases h with ⟨_, v, h1, h2⟩ | ⟨h, _⟩
  · obtain ⟨T, y, rfl⟩ := isTh_iface h2
    exact ⟨T, y, h1, h2⟩
  · exact absurd hg h
theorem OverEnd.neg {S : Nat → Prop} {w : World} {e : Ending} {t : Tr} (h : OverEnd S w e t) (hg : ¬ Good t) : ∃ v, e = .returned (.tuple #[v, .bool false]) := by
  rcases h with ⟨h, _⟩ | ⟨_, h⟩
  · exact absurd h hg
  · exact h
theorem own_rowIn1 {S : Nat → Prop} {W : World} {B e m : Nat} {v : Value} {cs : List Value} (h : W.ownsRow B e 1 v m cs) (hS : ∀ g, B ≤ g → S g) : ∃ ad c, v = .slice ad m c ∧ m ≤ c ∧ c ≤ 9223372036854775807 ∧ RowIn S W ad cs := by
  obtain ⟨h1, ⟨h2, h3⟩ | ⟨g, cap, cur, h2, h3, h4, h5, h6, h7, h8⟩⟩ := h
  · subst h2 h3
    exact ⟨none, 0, rfl, Nat.le_refl _, by omega, .inl (List.length_eq_zero_iff.1 (by omega))⟩
  · subst h2
    unfold maxLen at h6
    refine ⟨_, _, rfl, h5, by simpa using h6, .inr ⟨g, 0, rfl, hS g h3, (Array.getElem?_eq_some_iff.1 h4).1, fun i c hc => ?_⟩⟩
    have hl := (List.getElem?_eq_some_iff.1 hc).1
    have e1 : W.cell? ⟨g, 0 + i, none⟩ = cur[i]? := by unfold World.cell?; rw [h4, Nat.zero_add]; rfl
    rw [e1, ← hc, ← h8, List.getElem?_take_of_lt (by omega)]; simp
theorem own_front1 {W : World} {B e n p c : Nat} {g : Nat} {xs ys : List Value} (h : W.ownsRow B e 1 (.slice (some ⟨g, 0, none⟩) n c) n (xs ++ ys)) (hp : xs.length = p) : W.ownsRow B e 1 (.slice (some ⟨g, 0, none⟩) p c) p xs := by
  obtain ⟨h1, ⟨h2, h3⟩ | ⟨g', cap, cur, h2, h3, h4, h5, h6, h7, h8⟩⟩ := h
  · cases h2
  · cases h2
    rw [List.length_append] at h1
    refine ⟨by omega, .inr ⟨g, c, cur, rfl, h3, h4, by omega, h6, h7, ?_⟩⟩
    have : (cur.toList.take (n * 1)).take (p * 1) = (xs ++ ys).take (p * 1) := by rw [h8]
    rw [List.take_take, Nat.min_eq_left (by omega)] at this
    rw [this, Nat.mul_one, ← hp]; simp
theorem own_tail1 {W : World} {B e n p c g : Nat} {xs ys : List Value} (h : W.ownsRow B e 1 (.slice (some ⟨g, 0, none⟩) n c) n (xs ++ ys)) (hp : xs.length = p) : g < W.heap.size ∧ ∀ i u, ys[i]? = some u → W.cell? ((⟨g, p, none⟩ : Addr).add i) = some u := by
  obtain ⟨h1, ⟨h2, h3⟩ | ⟨g', cap, cur, h2, h3, h4, h5, h6, h7, h8⟩⟩ := h
  · cases h2
  · cases h2
    refine ⟨(Array.getElem?_eq_some_iff.1 h4).1, fun i u hi => ?_⟩
    have hl := (List.getElem?_eq_some_iff.1 hi).1
    rw [List.length_append] at h1
    have e0 : ((⟨g, p, none⟩ : Addr).add i) = ⟨g, p + i, none⟩ := by unfold Addr.add; simp
    have e1 : W.cell? ⟨g, p + i, none⟩ = cur[p + i]? := by unfold World.cell?; rw [h4]; rfl
    have e2 : cur[p + i]? = (cur.toList.take (n * 1))[p + i]? := by rw [List.getElem?_take_of_lt (by omega)]; simp
    rw [e0, e1, e2, h8, List.getElem?_append_right (by omega), hp, Nat.add_sub_cancel_left]
    exact hi
theorem own_cap1 {W : World} {B e n c g : Nat} {xs : List Value} (h : W.ownsRow B e 1 (.slice (some ⟨g, 0, none⟩) n c) n xs) : n ≤ c ∧ c ≤ maxLen := by
  obtain ⟨h1, ⟨h2, h3⟩ | ⟨g', cap, cur, h2, h3, h4, h5, h6, h7, h8⟩⟩ := h
  · cases h2
  · cases h2; exact ⟨h5, h6⟩
set_option maxHeartbeats 1000000 in
theorem thingOf_big (b o N cap : Nat) (l : List At) (w : World) (hl : l.length = N) (hN : N ≤ 1048576) (hb : 1000 < N) :
    Calls Tryd.prog 19 #[.agg #[.slice (some ⟨b, o, none⟩) N cap]] w fun e w' => ThingEnd l w w' e := by
  have HE : Hid (¬ ValidV l) := fun h => by have := h.1; omega
  have h2 : (1000 : Int) < N := by omega
  clear hl
  go_enter Tryd.func19, Tryd.ntmps19
  go_wp2
  exact bodyPost_ret (v := .tuple #[.nilIface, .bool false]) (by simp [results, Tryd.results19, go_sem]) rfl ⟨(Below.refl _ _).alloc (Nat.le_refl _) _, .inr ⟨HE.out, _, rfl⟩⟩
set_option maxHeartbeats 8000000 in
theorem thingOf_any (b o N cap : Nat) (l : List At) (w : World) (h1 : One w) (hl : l.length = N) (hN : N ≤ 1000) (hb : b < w.heap.size) (hn : AtomsAt w b o l) (hx : ∀ x ∈ l, x.text.size ≤ maxLen) :
    Calls Tryd.prog 19 #[.agg #[.slice (some ⟨b, o, none⟩) N cap]] w fun e w' => ThingEnd l w w' e := by
  have HN := hid hn
  have HL := hid hl
  have HX := hid hx
  have HO := hid h1
  clear hn hl hx h1
  obtain ⟨i0, hi, hz0, hz1, hz2⟩ := info_parts info_th
  have HHI := hid (And.intro hi (And.intro hz0 (And.intro hz1 hz2)))
  clear hi hz0 hz1 hz2
  have hN2 : (N : Int) ≤ 1000 := by omega
  go_enter Tryd.func19, Tryd.ntmps19
  go_wp2
  go_loopw [4, 17] (fun vo i wr => ∃ (j : Nat) (s : List Tr) (ys : List Value), j ≤ N ∧ i = .int .i64 j ∧ TInv l (w.heap.size + 1) (w.alloc (.cells #[.slice (some ⟨b, o, none⟩) N cap] 25)) wr j s vo ys) (fun _ i _ => N - (intOf i).toNat)
  case atStart => exact ⟨0, [], [], Nat.zero_le _, rfl, rfl, by simp, World.ownsRow_nil _ _ _ _, rfl, Below.refl _ _⟩
  case round =>
    obtain ⟨j, s, ys, hj, rfl, hinv⟩ := hrel
    have HI := hid hinv
    obtain ⟨hsl, hys⟩ := hinv.len (by rw [HL.out]; exact hj)
    have hbz := (btree hinv.below).size
    have hbz2 : w.heap.size + 1 ≤ wr.heap.size := by have := hinv.below.size; simpa using this
    obtain ⟨ao, oc, hvs⟩ := own_slice hinv.own
    subst hvs
    clear hinv
    by_cases hlt : j < N
    · have hjl : j < l.length := by rw [HL.out]; exact hlt
      obtain ⟨x, hx⟩ : ∃ x, l[j]? = some x := ⟨_, List.getElem?_eq_getElem hjl⟩
      have HXX := hid hx
      have hxt := HX.out x (List.mem_of_getElem? hx)
      have HXT := hid hxt
      obtain ⟨a0, a1, a2, a3⟩ := (HN.out.below (btree HI.out.below) hb) j x hx
      clear hx hxt
      by_cases hok : 0 ≤ x.kids ∧ x.kids ≤ s.length
      · obtain ⟨k, hk⟩ := Int.eq_ofNat_of_zero_le hok.1
        have hks : k ≤ s.length := by omega
        clear hok
        obtain ⟨sp, sk, hs, hsk⟩ : ∃ sp sk, s = sp ++ sk ∧ sk.length = k := ⟨s.take (s.length - k), s.drop (s.length - k), (List.take_append_drop _ _).symm, by simp; omega⟩
        subst hs
        obtain ⟨yp, yk, rfl, htp, htk⟩ := isThs_split HI.out.ths
        have hyp := isThs_length htp
        have hyk := isThs_length htk
        obtain ⟨p, hp⟩ : ∃ p, sp.length = p := ⟨_, rfl⟩
        have hpk : (sp ++ sk).length = p + k := by rw [List.length_append, hp, hsk]
        have HK := hid hk
        have HOW : Hid (wr.ownsRow (w.heap.size + 1) 45 1 (.slice ao (p + k) oc) (p + k) (yp ++ yk)) := by
          have h := HI.out.own
          rw [hpk] at h
          exact h
        have HTK := hid htk
        have HGK : Hid (∀ x ∈ sk, Good x) := fun x h => HI.out.good x (by simp [h])
        have H1K := hid (th_one htk)
        rw [hk] at a3
        rw [hpk] at hks hsl hys ⊢
        have HSK := hid hsk
        have HYK : Hid (yk.length = k) := by show _ = _; rw [hyk, HSK.out]
        have HYP : Hid (yp.length = p) := by show _ = _; rw [hyp, hp]
        have HPP := hid hp
        have HYPS := hid hyp
        have HSS : Hid (∀ g, wr.heap.size ≤ g → (w.heap.size + 1 ≤ g ∧ (Value.slice ao (p + k) oc).ownBlock ≠ some g)) := fun g hg => ⟨by omega, fun e => by have := (HOW.out.lt g e).2; omega⟩
        have HTI : Hid (TInv l (w.heap.size + 1) (w.alloc (.cells #[.slice (some ⟨b, o, none⟩) N cap] 25)) wr j (sp ++ sk) (.slice ao (p + k) oc) (yp ++ yk)) := by
          have h := HI.out
          rw [hpk] at h
          exact h
        have HALL : Hid (Below wr.heap.size wr (wr.alloc (.cells #[.int .i64 x.kind, .int .i64 x.n, .string x.text, .int .i64 k] 51))) := (Below.refl wr.heap.size wr).alloc (Nat.le_refl _) _
        have HKP : Hid (∀ W, Below (wr.heap.size + 1) (wr.alloc (.cells #[.int .i64 x.kind, .int .i64 x.n, .string x.text, .int .i64 k] 51)) W → W.cell? ⟨wr.heap.size, 0, none⟩ = some (.int .i64 x.kind) ∧ W.cell? ⟨wr.heap.size, 1, none⟩ = some (.int .i64 x.n) ∧ W.cell? ⟨wr.heap.size, 2, none⟩ = some (.string x.text) ∧ W.cell? ⟨wr.heap.size, 3, none⟩ = some (.int .i64 k)) := fun W hW => by
          have f : ∀ i, W.cell? ⟨wr.heap.size, i, none⟩ = #[Value.int .i64 x.kind, .int .i64 x.n, .string x.text, .int .i64 k][i]? := fun i => by
            rw [hW.cell (p := ⟨wr.heap.size, i, none⟩) (Nat.lt_succ_self _), cell_new_row]
          exact ⟨f 0, f 1, f 2, f 3⟩
        have HST : Hid (∀ W, Below (wr.heap.size + 1) (wr.alloc (.cells #[.int .i64 x.kind, .int .i64 x.n, .string x.text, .int .i64 k] 51)) W → Below wr.heap.size wr W) := fun W hW => HALL.out.trans (hW.mono (Nat.le_succ _))
        have HOV : Hid (∀ W adk ck, Below wr.heap.size wr W → k ≤ ck → ck ≤ 9223372036854775807 → RowIn (fun g => w.heap.size + 1 ≤ g ∧ (Value.slice ao (p + k) oc).ownBlock ≠ some g) W adk yk →
            Calls Tryd.prog 30 #[.agg #[.int .i64 x.kind, .int .i64 x.n, .string x.text, .int .i64 k], .slice adk k ck] W fun e w' => Below W.heap.size W w' ∧ OverEnd (fun g => w.heap.size + 1 ≤ g ∧ (Value.slice ao (p + k) oc).ownBlock ≠ some g) w' e (.node x.kind x.n x.text sk)) := fun W adk ck hW h1 h2 h3 =>
          over_any _ x.kind x.n x.text adk k ck sk yk W (fun g h => HSS.out g (Nat.le_trans hW.size h)) (HO.out.below ((btree HI.out.below).trans (hW.mono hbz)) HO.out.2.2) HSK.out (by omega) h1 h2 h3 (by rw [← hpk]; exact isThs_below HTK.out hW) HGK.out HXT.out
        have HBAD : Hid (¬ Good (.node x.kind x.n x.text sk) → ¬ ValidV l) := fun h => valid_bad_node HI.out.st HXX.out (by rw [HK.out, HSK.out]) h
        clear htp htk hyp hyk hp hsk hk
        cases ao with
        | none =>
          obtain ⟨rfl, rfl, rfl⟩ : p = 0 ∧ k = 0 ∧ oc = 0 := by
            obtain ⟨_, ⟨h2, _⟩ | ⟨g, cap, cur, h2, _⟩⟩ := HOW.out
            · injection h2 with h3 h4 h5; omega
            · cases h2
          have HCL : Hid (∀ W, Below wr.heap.size wr W → Calls Tryd.prog 31 #[.slice none 0 0] W fun e w' => ∃ v, e = .returned v ∧ w'.ownsRow W.heap.size 45 1 v 0 yk ∧ Below W.heap.size W w') := fun W hW => by
            have h0 : yk = [] := List.length_eq_zero_iff.1 HYK.out
            rw [h0]
            exact clone_nil 0 W
          have hyp0 : yp = [] := List.length_eq_zero_iff.1 HYP.out
          subst hyp0
          simp only [Nat.add_zero] at *
          by_cases hG : Good (.node x.kind x.n x.text sk)
          · have HG := hid hG
            clear hG
            go_wp2_with fail
            go_region_held3 (fun w' => w'.cell? ⟨wr.heap.size, 0, none⟩ = some (.int .i64 x.kind) ∧ w'.cell? ⟨wr.heap.size, 1, none⟩ = some (.int .i64 x.n) ∧ w'.cell? ⟨wr.heap.size, 2, none⟩ = some (.string x.text) ∧ w'.cell? ⟨wr.heap.size, 3, none⟩ = some (.int .i64 0)) (first | (exact HKP.out _ HC2.out) | (exact HKP.out _ HC1.out) | go_keep) (first | (go_at_call 31; refine (HCL.out _ (HST.out _ (Below.refl _ _).drew)).mono ?_; rintro e w1 ⟨vk, rfl, ok, hbk⟩; have HC1 := hid ((Below.refl (wr.heap.size + 1) (wr.alloc (.cells #[.int .i64 x.kind, .int .i64 x.n, .string x.text, .int .i64 0] 51))).drew.trans (hbk.mono (by simp))); have hq := own_rowIn1 (S := fun g => w.heap.size + 1 ≤ g ∧ (Value.slice none 0 0).ownBlock ≠ some g) ok (fun g h => HSS.out g (by simp at h; omega)); obtain ⟨adk, ck, rfl, hk1, hk2, hrk⟩ := hq; have HRK := hid hrk; clear ok hbk hrk) | (go_at_call 30; refine (HOV.out w1 adk ck (HST.out _ HC1.out) hk1 hk2 HRK.out).mono ?_; rintro e w2 ⟨hb2, hov⟩; have HC2 := hid (HC1.out.trans (hb2.mono (by have := HC1.out.size; simpa using this))); have hq := hov.pos HG.out; obtain ⟨T, y, rfl, hth⟩ := hq; have HTH := hid hth; clear hth; clear hov hb2))
            have HOP := hid (own_below (World.ownsRow_nil wr (w.heap.size + 1) 45 1) (HST.out _ HC2.out))
            go_wp2_with (at_builtin; refine wpList_append_own_at _ rfl (.tmp 49) (.tmp 51) 60 rfl (w.heap.size + 1) 45 i0 .nilIface 1 16 Tryd.underlying60 HHI.out.1 HHI.out.2.1 HHI.out.2.2.1 HHI.out.2.2.2 rfl (by decide) (.slice none 0 0) 0 [] rfl (HOP.out.alloc _) ⟨w2.heap.size, 0, none⟩ 1 1 [.iface T y] rfl rfl (cell_one_new _ _ _) (by simp [Value.oneCell']) (by unfold maxLen; omega) (by omega) (by have := HC2.out.size; simp at this; simp; omega) ?_; intro v3 w3 o3 g3 nn3 b3; have ST := hid (TInv_step HTI.out HYPS.out HXX.out (by rw [HK.out, HSK.out]) hbz2 HPP.out (HST.out _ HC2.out) HTH.out HG.out rfl o3 g3 b3); clear o3 g3 nn3 b3)
            go_roundw
            case rel => exact ⟨j + 1, _, _, by omega, by go_num, ST.out⟩
            case measure => simp [intOf]; omega
          · have HG := hid hG
            have HNV := hid (HBAD.out hG)
            clear hG
            go_wp2_with fail
            go_region_held3 (fun w' => w'.cell? ⟨wr.heap.size, 0, none⟩ = some (.int .i64 x.kind) ∧ w'.cell? ⟨wr.heap.size, 1, none⟩ = some (.int .i64 x.n) ∧ w'.cell? ⟨wr.heap.size, 2, none⟩ = some (.string x.text) ∧ w'.cell? ⟨wr.heap.size, 3, none⟩ = some (.int .i64 0)) (first | (exact HKP.out _ HC2.out) | (exact HKP.out _ HC1.out) | go_keep) (first | (go_at_call 31; refine (HCL.out _ (HST.out _ (Below.refl _ _).drew)).mono ?_; rintro e w1 ⟨vk, rfl, ok, hbk⟩; have HC1 := hid ((Below.refl (wr.heap.size + 1) (wr.alloc (.cells #[.int .i64 x.kind, .int .i64 x.n, .string x.text, .int .i64 0] 51))).drew.trans (hbk.mono (by simp))); have hq := own_rowIn1 (S := fun g => w.heap.size + 1 ≤ g ∧ (Value.slice none 0 0).ownBlock ≠ some g) ok (fun g h => HSS.out g (by simp at h; omega)); obtain ⟨adk, ck, rfl, hk1, hk2, hrk⟩ := hq; have HRK := hid hrk; clear ok hbk hrk) | (go_at_call 30; refine (HOV.out w1 adk ck (HST.out _ HC1.out) hk1 hk2 HRK.out).mono ?_; rintro e w2 ⟨hb2, hov⟩; have HC2 := hid (HC1.out.trans (hb2.mono (by have := HC1.out.size; simpa using this))); have hq := hov.neg HG.out; obtain ⟨vv, rfl⟩ := hq; clear hov hb2))
            go_wp2
            exact bodyPost_ret (v := .tuple #[.nilIface, .bool false]) (by simp [results, Tryd.results19, go_sem]) rfl ⟨(btree HI.out.below).trans ((HST.out _ HC2.out).mono hbz), .inr ⟨HNV.out, _, rfl⟩⟩
        | some ad0 =>
          obtain ⟨gf, rfl⟩ : ∃ gf, ad0 = ⟨gf, 0, none⟩ := by
            obtain ⟨_, ⟨h2, _⟩ | ⟨g, cap, cur, h2, _⟩⟩ := HOW.out
            · cases h2
            · injection h2 with h3 h4 h5; injection h3 with h3; exact ⟨g, h3⟩
          obtain ⟨hcc, hcm⟩ := own_cap1 HOW.out
          unfold maxLen at hcm
          by_cases hpc : oc = p
          · subst hpc
            obtain rfl : k = 0 := by omega
            have HCL : Hid (∀ W, Below wr.heap.size wr W → Calls Tryd.prog 31 #[.slice (some ⟨gf, 0, none⟩) 0 0] W fun e w' => ∃ v, e = .returned v ∧ w'.ownsRow W.heap.size 45 1 v 0 yk ∧ Below W.heap.size W w') := fun W hW =>
              clone_some ⟨gf, 0, none⟩ 0 0 yk W HYK.out (by omega) (fun i u h => by rw [List.length_eq_zero_iff.1 HYK.out] at h; simp at h) (fun h => absurd h (Nat.lt_irrefl _)) H1K.out
            simp only [Nat.add_zero] at *
            by_cases hG : Good (.node x.kind x.n x.text sk)
            · have HG := hid hG
              clear hG
              go_wp2_with fail
              go_region_held3 (fun w' => w'.cell? ⟨wr.heap.size, 0, none⟩ = some (.int .i64 x.kind) ∧ w'.cell? ⟨wr.heap.size, 1, none⟩ = some (.int .i64 x.n) ∧ w'.cell? ⟨wr.heap.size, 2, none⟩ = some (.string x.text) ∧ w'.cell? ⟨wr.heap.size, 3, none⟩ = some (.int .i64 0)) (first | (exact HKP.out _ HC2.out) | (exact HKP.out _ HC1.out) | go_keep) (first | (go_at_call 31; refine (HCL.out _ (HST.out _ (Below.refl _ _).drew)).mono ?_; rintro e w1 ⟨vk, rfl, ok, hbk⟩; have HC1 := hid ((Below.refl (wr.heap.size + 1) (wr.alloc (.cells #[.int .i64 x.kind, .int .i64 x.n, .string x.text, .int .i64 0] 51))).drew.trans (hbk.mono (by simp))); have hq := own_rowIn1 (S := fun g => w.heap.size + 1 ≤ g ∧ (Value.slice (some ⟨gf, 0, none⟩) oc oc).ownBlock ≠ some g) ok (fun g h => HSS.out g (by simp at h; omega)); obtain ⟨adk, ck, rfl, hk1, hk2, hrk⟩ := hq; have HRK := hid hrk; clear ok hbk hrk) | (go_at_call 30; refine (HOV.out w1 adk ck (HST.out _ HC1.out) hk1 hk2 HRK.out).mono ?_; rintro e w2 ⟨hb2, hov⟩; have HC2 := hid (HC1.out.trans (hb2.mono (by have := HC1.out.size; simpa using this))); have hq := hov.pos HG.out; obtain ⟨T, y, rfl, hth⟩ := hq; have HTH := hid hth; clear hth; clear hov hb2))
              have HOP := hid (own_below (own_front1 HOW.out HYP.out) (HST.out _ HC2.out))
              go_wp2_with (at_builtin; refine wpList_append_own_at _ rfl (.tmp 49) (.tmp 51) 60 rfl (w.heap.size + 1) 45 i0 .nilIface 1 16 Tryd.underlying60 HHI.out.1 HHI.out.2.1 HHI.out.2.2.1 HHI.out.2.2.2 rfl (by decide) (.slice (some ⟨gf, 0, none⟩) oc oc) oc yp rfl (HOP.out.alloc _) ⟨w2.heap.size, 0, none⟩ 1 1 [.iface T y] rfl rfl (cell_one_new _ _ _) (by simp [Value.oneCell']) (by unfold maxLen; omega) (by omega) (by have := HC2.out.size; simp at this; simp; omega) ?_; intro v3 w3 o3 g3 nn3 b3; have ST := hid (TInv_step HTI.out HYPS.out HXX.out (by rw [HK.out, HSK.out]) hbz2 HPP.out (HST.out _ HC2.out) HTH.out HG.out rfl o3 g3 b3); clear o3 g3 nn3 b3)
              go_roundw
              case rel => exact ⟨j + 1, _, _, by omega, by go_num, ST.out⟩
              case measure => simp [intOf]; omega
            · have HG := hid hG
              have HNV := hid (HBAD.out hG)
              clear hG
              go_wp2_with fail
              go_region_held3 (fun w' => w'.cell? ⟨wr.heap.size, 0, none⟩ = some (.int .i64 x.kind) ∧ w'.cell? ⟨wr.heap.size, 1, none⟩ = some (.int .i64 x.n) ∧ w'.cell? ⟨wr.heap.size, 2, none⟩ = some (.string x.text) ∧ w'.cell? ⟨wr.heap.size, 3, none⟩ = some (.int .i64 0)) (first | (exact HKP.out _ HC2.out) | (exact HKP.out _ HC1.out) | go_keep) (first | (go_at_call 31; refine (HCL.out _ (HST.out _ (Below.refl _ _).drew)).mono ?_; rintro e w1 ⟨vk, rfl, ok, hbk⟩; have HC1 := hid ((Below.refl (wr.heap.size + 1) (wr.alloc (.cells #[.int .i64 x.kind, .int .i64 x.n, .string x.text, .int .i64 0] 51))).drew.trans (hbk.mono (by simp))); have hq := own_rowIn1 (S := fun g => w.heap.size + 1 ≤ g ∧ (Value.slice (some ⟨gf, 0, none⟩) oc oc).ownBlock ≠ some g) ok (fun g h => HSS.out g (by simp at h; omega)); obtain ⟨adk, ck, rfl, hk1, hk2, hrk⟩ := hq; have HRK := hid hrk; clear ok hbk hrk) | (go_at_call 30; refine (HOV.out w1 adk ck (HST.out _ HC1.out) hk1 hk2 HRK.out).mono ?_; rintro e w2 ⟨hb2, hov⟩; have HC2 := hid (HC1.out.trans (hb2.mono (by have := HC1.out.size; simpa using this))); have hq := hov.neg HG.out; obtain ⟨vv, rfl⟩ := hq; clear hov hb2))
              go_wp2
              exact bodyPost_ret (v := .tuple #[.nilIface, .bool false]) (by simp [results, Tryd.results19, go_sem]) rfl ⟨(btree HI.out.below).trans ((HST.out _ HC2.out).mono hbz), .inr ⟨HNV.out, _, rfl⟩⟩
          · have hpo : p < oc := by omega
            have hoc : ¬ oc = p := by omega
            have hw1 : IntKind.i64.wrap (p : Int) = p := by rw [IntKind.wrap_i64]; omega
            have hle1 : (0 : Int) ≤ (p : Int) := by omega
            have hle2 : (p : Int) ≤ (p : Int) + (k : Int) := by omega
            have hle3 : p ≤ p + k := by omega
            have HCL : Hid (∀ W, Below wr.heap.size wr W → Calls Tryd.prog 31 #[.slice (some ⟨gf, p, none⟩) k (oc - p)] W fun e w' => ∃ v, e = .returned v ∧ w'.ownsRow W.heap.size 45 1 v k yk ∧ Below W.heap.size W w') := fun W hW =>
              clone_some ⟨gf, p, none⟩ k (oc - p) yk W HYK.out (by omega) (fun i u h => (hW.cell (by unfold Addr.add; split <;> exact (own_tail1 HOW.out HYP.out).1)).trans ((own_tail1 HOW.out HYP.out).2 i u h)) (fun _ => Nat.lt_of_lt_of_le (own_tail1 HOW.out HYP.out).1 hW.size) H1K.out
            by_cases hG : Good (.node x.kind x.n x.text sk)
            · have HG := hid hG
              clear hG
              go_wp2_with fail
              go_region_held3 (fun w' => w'.cell? ⟨wr.heap.size, 0, none⟩ = some (.int .i64 x.kind) ∧ w'.cell? ⟨wr.heap.size, 1, none⟩ = some (.int .i64 x.n) ∧ w'.cell? ⟨wr.heap.size, 2, none⟩ = some (.string x.text) ∧ w'.cell? ⟨wr.heap.size, 3, none⟩ = some (.int .i64 k)) (first | (exact HKP.out _ HC2.out) | (exact HKP.out _ HC1.out) | go_keep) (first | (go_at_call 31; refine (HCL.out _ (HST.out _ (Below.refl _ _).drew)).mono ?_; rintro e w1 ⟨vk, rfl, ok, hbk⟩; have HC1 := hid ((Below.refl (wr.heap.size + 1) (wr.alloc (.cells #[.int .i64 x.kind, .int .i64 x.n, .string x.text, .int .i64 k] 51))).drew.trans (hbk.mono (by simp))); have hq := own_rowIn1 (S := fun g => w.heap.size + 1 ≤ g ∧ (Value.slice (some ⟨gf, 0, none⟩) (p + k) oc).ownBlock ≠ some g) ok (fun g h => HSS.out g (by simp at h; omega)); obtain ⟨adk, ck, rfl, hk1, hk2, hrk⟩ := hq; have HRK := hid hrk; clear ok hbk hrk) | (go_at_call 30; refine (HOV.out w1 adk ck (HST.out _ HC1.out) hk1 hk2 HRK.out).mono ?_; rintro e w2 ⟨hb2, hov⟩; have HC2 := hid (HC1.out.trans (hb2.mono (by have := HC1.out.size; simpa using this))); have hq := hov.pos HG.out; obtain ⟨T, y, rfl, hth⟩ := hq; have HTH := hid hth; clear hth; clear hov hb2))
              have HOP := hid (own_below (own_front1 HOW.out HYP.out) (HST.out _ HC2.out))
              go_wp2_with (at_builtin; refine wpList_append_own_at _ rfl (.tmp 49) (.tmp 51) 60 rfl (w.heap.size + 1) 45 i0 .nilIface 1 16 Tryd.underlying60 HHI.out.1 HHI.out.2.1 HHI.out.2.2.1 HHI.out.2.2.2 rfl (by decide) (.slice (some ⟨gf, 0, none⟩) p oc) p yp rfl (HOP.out.alloc _) ⟨w2.heap.size, 0, none⟩ 1 1 [.iface T y] rfl rfl (cell_one_new _ _ _) (by simp [Value.oneCell']) (by unfold maxLen; omega) (by omega) (by have := HC2.out.size; simp at this; simp; omega) ?_; intro v3 w3 o3 g3 nn3 b3; have ST := hid (TInv_step HTI.out HYPS.out HXX.out (by rw [HK.out, HSK.out]) hbz2 HPP.out (HST.out _ HC2.out) HTH.out HG.out rfl o3 g3 b3); clear o3 g3 nn3 b3)
              go_roundw
              case rel => exact ⟨j + 1, _, _, by omega, by go_num, ST.out⟩
              case measure => simp [intOf]; omega
            · have HG := hid hG
              have HNV := hid (HBAD.out hG)
              clear hG
              go_wp2_with fail
              go_region_held3 (fun w' => w'.cell? ⟨wr.heap.size, 0, none⟩ = some (.int .i64 x.kind) ∧ w'.cell? ⟨wr.heap.size, 1, none⟩ = some (.int .i64 x.n) ∧ w'.cell? ⟨wr.heap.size, 2, none⟩ = some (.string x.text) ∧ w'.cell? ⟨wr.heap.size, 3, none⟩ = some (.int .i64 k)) (first | (exact HKP.out _ HC2.out) | (exact HKP.out _ HC1.out) | go_keep) (first | (go_at_call 31; refine (HCL.out _ (HST.out _ (Below.refl _ _).drew)).mono ?_; rintro e w1 ⟨vk, rfl, ok, hbk⟩; have HC1 := hid ((Below.refl (wr.heap.size + 1) (wr.alloc (.cells #[.int .i64 x.kind, .int .i64 x.n, .string x.text, .int .i64 k] 51))).drew.trans (hbk.mono (by simp))); have hq := own_rowIn1 (S := fun g => w.heap.size + 1 ≤ g ∧ (Value.slice (some ⟨gf, 0, none⟩) (p + k) oc).ownBlock ≠ some g) ok (fun g h => HSS.out g (by simp at h; omega)); obtain ⟨adk, ck, rfl, hk1, hk2, hrk⟩ := hq; have HRK := hid hrk; clear ok hbk hrk) | (go_at_call 30; refine (HOV.out w1 adk ck (HST.out _ HC1.out) hk1 hk2 HRK.out).mono ?_; rintro e w2 ⟨hb2, hov⟩; have HC2 := hid (HC1.out.trans (hb2.mono (by have := HC1.out.size; simpa using this))); have hq := hov.neg HG.out; obtain ⟨vv, rfl⟩ := hq; clear hov hb2))
              go_wp2
              exact bodyPost_ret (v := .tuple #[.nilIface, .bool false]) (by simp [results, Tryd.results19, go_sem]) rfl ⟨(btree HI.out.below).trans ((HST.out _ HC2.out).mono hbz), .inr ⟨HNV.out, _, rfl⟩⟩
      · have HBAD := hid (valid_bad_push HI.out.st HXX.out (push_bad s x (by omega)))
        by_cases hneg : x.kids < 0
        · go_wp2
          exact bodyPost_ret (v := .tuple #[.nilIface, .bool false]) (by simp [results, Tryd.results19, go_sem]) rfl ⟨(btree HI.out.below).alloc hbz _, .inr ⟨HBAD.out, _, rfl⟩⟩
        · have hge : 0 ≤ x.kids := by omega
          have hgt : (s.length : Int) < x.kids := by omega
          go_wp2
          exact bodyPost_ret (v := .tuple #[.nilIface, .bool false]) (by simp [results, Tryd.results19, go_sem]) rfl ⟨(btree HI.out.below).alloc hbz _, .inr ⟨HBAD.out, _, rfl⟩⟩
    · obtain rfl : j = N := by omega
      have HTA : Hid (l.take j = l) := List.take_of_length_le (by rw [HL.out]; exact Nat.le_refl _)
      by_cases h1 : s.length = 1
      · obtain ⟨t, rfl⟩ := List.length_eq_one_iff.1 h1
        obtain ⟨v, vs, rfl, hth, hvs⟩ := HI.out.ths
        simp only [IsThs] at hvs
        subst hvs
        obtain ⟨gf, rfl, hgf, _, _, hfc⟩ := own_row_cell HI.out.own (by simp)
        have z0 := hfc 0 v rfl
        have HTH := hid hth
        have HST2 : Hid (stk [] l = some [t]) := by have h := HI.out.st; rw [HTA.out] at h; exact h
        have HGT := hid (HI.out.good t (by simp))
        obtain ⟨T, y, rfl⟩ := isTh_iface hth
        clear hfc hth
        go_wp2
        refine bodyPost_ret (v := .tuple #[.iface T y, .bool true]) (by simp [results, Tryd.results19, go_sem]) rfl ⟨btree HI.out.below, .inl ⟨t, _, stk_one.1 HST2.out, HGT.out, rfl, ?_⟩⟩
        exact isTh_keep (fun _ _ _ => rfl) (Nat.le_refl _) (fun g h _ => by have := h.1; omega) _ _ HTH.out
      · have HE : Hid (¬ ValidV l) := valid_bad_end (by have h := HI.out.st; rw [HTA.out] at h; exact h) h1
        have h2 : ((s.length : Int) != 1) = true := by simp; omega
        go_wp2
        exact bodyPost_ret (v := .tuple #[.nilIface, .bool false]) (by simp [results, Tryd.results19, go_sem]) rfl ⟨btree HI.out.below, .inr ⟨HE.out, _, rfl⟩⟩
end Go.Proofs.YtfookokepnnmoaaDoor
