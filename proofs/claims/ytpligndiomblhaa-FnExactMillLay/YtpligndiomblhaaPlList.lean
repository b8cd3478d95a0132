import Derived.Test.YtpligndiomblhaaPlBuf
/-! What a box answers. -/
namespace Go.Proofs.Ytpligndiomblhaa.P
open Go.RowKit
open Go.Proofs.Ytpligndiomblhaa.R (hid set_other Fl fl0 lt_hp hp_next B1 B2 row_cell row_room SFlR below_drewN)
set_option maxRecDepth 20000
/-- A name in a list. -/
def pieceL (p n : ByteArray) : List UInt8 := if Lib.hasPrefix n.data.toList p.data.toList = true then n.data.toList ++ [10] else []
def lstL (p : ByteArray) (ns : List ByteArray) : List UInt8 := (ns.map (pieceL p)).flatten
theorem take_nextB {l : List ByteArray} {j : Nat} (h : j < l.length) : l.take (j + 1) = l.take j ++ [l.getD j ⟨#[]⟩] := by
  rw [List.take_succ_eq_append_getElem h, List.getD_eq_getElem?_getD, List.getElem?_eq_getElem h]
  rfl
theorem lstL_next {p : ByteArray} {ns : List ByteArray} {j : Nat} (h : j < ns.length) : lstL p (ns.take (j + 1)) = lstL p (ns.take j) ++ pieceL p (ns.getD j ⟨#[]⟩) := by
  unfold lstL
  rw [take_nextB h, List.map_append, List.flatten_append]
  simp
theorem size_toList (n : ByteArray) : n.data.toList.length = n.size := by simp
theorem piece_len (p n : ByteArray) : (pieceL p n).length ≤ n.size + 1 := by
  unfold pieceL
  split
  · rw [List.length_append, size_toList]; exact Nat.le_refl _
  · exact Nat.zero_le _
/-- Names of at most M bytes. -/
theorem lst_len {p : ByteArray} {M : Nat} : ∀ {ns : List ByteArray}, (∀ n ∈ ns, n.size ≤ M) → (lstL p ns).length ≤ ns.length * (M + 1)
  | [], _ => Nat.zero_le _
  | n :: ns, h => by
    have h1 := lst_len (p := p) (ns := ns) fun m hm => h m (List.mem_cons_of_mem _ hm)
    have h2 := piece_len p n
    have h3 := h n List.mem_cons_self
    have e : lstL p (n :: ns) = pieceL p n ++ lstL p ns := rfl
    rw [e, List.length_append, List.length_cons, Nat.add_mul]
    omega
theorem own_cell {W : World} {B : Nat} {ad : Option Addr} {n c : Nat} {l : List ByteArray} (h : W.ownsRow B 9 1 (.slice ad n c) l.length (l.map fun x => Value.string x)) {j : Nat} (hj : j < l.length) : ∃ g, ad = some ⟨g, 0, none⟩ ∧ W.cell? ⟨g, j, none⟩ = some (.string (l.getD j ⟨#[]⟩)) := by
  obtain ⟨_, ⟨hv0, hn0⟩ | ⟨b, cap, cur, hv1, hb, hc, hn, hm, hz, ht⟩⟩ := h
  · omega
  · injection hv1 with e1 _ _
    refine ⟨b, e1, ?_⟩
    rw [Nat.mul_one] at ht
    have e2 : (cur.toList.take l.length)[j]? = (l.map fun x => Value.string x)[j]? := by rw [ht]
    rw [List.getElem?_take_of_lt hj, Array.getElem?_toList, List.getElem?_map, List.getElem?_eq_getElem hj] at e2
    rw [row_cell hc, e2, List.getD_eq_getElem?_getD, List.getElem?_eq_getElem hj]
    rfl
theorem own_len {W : World} {B n c m : Nat} {ad : Option Addr} {xs : List Value} (h : W.ownsRow B 9 1 (.slice ad n c) m xs) : n = m := by
  obtain ⟨_, ⟨hv0, hn0⟩ | ⟨b, cap, cur, hv1, _⟩⟩ := h
  · injection hv0 with _ e _
    omega
  · injection hv1
structure LI (w : World) (p : ByteArray) (ns : List ByteArray) (j : Nat) (W : World) : Prop where
  lo : Below w.heap.size w W
  bl : Bl w.heap.size w.heap.size (lstL p (ns.take j)) W
theorem line_any {w wr : World} {p n : ByteArray} {ns : List ByteArray} {j : Nat} (hli : LI w p ns j wr) (hnx : lstL p (ns.take (j + 1)) = lstL p (ns.take j) ++ pieceL p n) (hp : pieceL p n = n.data.toList ++ [10]) (hl : (lstL p (ns.take j)).length ≤ 90000000000) (hn : n.size ≤ 1048576) (s : ByteArray) (hs : s = n ++ (⟨#[10]⟩ : ByteArray)) :
    Calls Try.prog 63 #[.pointer (some ⟨w.heap.size, 0, none⟩), .string s] wr fun e w' => e = .returned (.tuple #[.int .i64 s.size, .nilIface]) ∧ LI w p ns (j + 1) w' := by
  have hdl : s.data.toList = n.data.toList ++ [10] := by rw [hs]; simp
  have hsz : s.size = n.size + 1 := by rw [← size_toList, hdl, List.length_append, size_toList]; rfl
  clear hs
  have h9 := write_any s hli.bl (by rw [hdl]; simp) (by omega) hli.lo.size
  refine h9.mono ?_
  rintro e w' ⟨rfl, h1, h2⟩
  refine ⟨rfl, hli.lo.trans h2, ?_⟩
  rw [hnx, hp, ← hdl]
  exact h1
set_option maxHeartbeats 1000000 in
theorem list_any (p : ByteArray) {B b : Nat} {ns : List ByteArray} {f : ByteArray → Option Fl} {k m : Nat} {v : Value} {w : World} (h : Bx B b ns f k v m w) (hN : ns.length ≤ 1000) (hn : ∀ n ∈ ns, n.size ≤ 1048576) :
    Calls Try.prog 52 #[.pointer (some ⟨b, 0, none⟩), .string p] w fun e w' => e = .returned (.string ⟨(lstL p ns).toArray⟩) ∧ Below w.heap.size w w' := by
  have HM := hid hn
  obtain ⟨ad, c, rfl⟩ := own_form h.own
  have HX := hid (B1.start w (.cells #[.pointer none, .slice none 0 0] 98))
  have HBX := hid h
  clear h hn
  have HL0 : Hid (LI w p ns 0 (w.alloc (.cells #[.pointer none, .slice none 0 0] 98))) := hid ⟨HX.out.lo, .inl ⟨rfl, Nat.le_refl _, HX.out.e⟩⟩
  go_enter Try.func52, Try.ntmps52
  go_upto_region 2 with fail
  obtain ⟨W0, hW0⟩ : ∃ W, w.alloc (.cells #[.pointer none, .slice none 0 0] 98) = W := ⟨_, rfl⟩
  rw [hW0] at HL0 ⊢
  clear hW0 HX
  have k0 : W0.cell? ⟨b, 0, none⟩ = some (.slice ad ns.length c) := row_cell (HBX.out.next HL0.out.lo).e 0
  go_wp2
  clear k0
  go_loopw [7, 13] (fun _ i wr => ∃ j : Nat, j ≤ ns.length ∧ i = .int .i64 j ∧ LI w p ns j wr) (fun _ i _ => ns.length - (intOf i).toNat)
  case atStart => exact ⟨0, Nat.zero_le _, rfl, HL0.out⟩
  case round =>
    obtain ⟨j, hj, rfl, hli⟩ := hrel
    have HLI := hid hli
    clear hli HL0
    by_cases hlt : j < ns.length
    · obtain ⟨g, hge, a0⟩ := own_cell (HBX.out.next HLI.out.lo).own hlt
      subst hge
      have HSN := hid (HM.out (ns.getD j ⟨#[]⟩) (by rw [List.getD_eq_getElem?_getD, List.getElem?_eq_getElem hlt]; exact List.getElem_mem hlt))
      have HNX := hid (lstL_next (p := p) hlt)
      have HLL : Hid ((lstL p (ns.take j)).length ≤ 90000000000) := hid (by
        have h1 := lst_len (p := p) (M := 1048576) (ns := ns.take j) fun m hm => HM.out m (List.mem_of_mem_take hm)
        have h2 : (ns.take j).length ≤ 1000 := by rw [List.length_take]; omega
        have h3 := Nat.mul_le_mul_right (1048576 + 1) h2
        omega)
      obtain ⟨n, hne⟩ : ∃ n, ns.getD j ⟨#[]⟩ = n := ⟨_, rfl⟩
      rw [hne] at a0 HSN HNX
      clear hne
      go_wp2_with fail
      refine (prefix_any n p _).mono ?_
      rintro e w2 ⟨rfl, hw2⟩
      have hw3 := hw2.symm
      clear hw2
      subst hw3
      cases hpf : Lib.hasPrefix n.data.toList p.data.toList
      · have HPI : Hid (pieceL p n = []) := hid (by unfold pieceL; rw [if_neg (by rw [hpf]; simp)])
        have HN2 : Hid (LI w p ns (j + 1) wr) := hid ⟨HLI.out.lo, by rw [HNX.out, HPI.out, List.append_nil]; exact HLI.out.bl⟩
        go_wp2
        go_roundw
        case rel => exact ⟨j + 1, by omega, by go_num, HN2.out⟩
        case measure => simp [intOf]; omega
      · have HPI : Hid (pieceL p n = n.data.toList ++ [10]) := hid (by unfold pieceL; rw [if_pos hpf])
        have hsz : n.size ≤ 1048576 := HSN.out
        go_wp2_with fail
        refine (line_any HLI.out HNX.out HPI.out HLL.out HSN.out _ rfl).mono ?_
        rintro e w3 ⟨rfl, hl3⟩
        have HN2 := hid hl3
        clear hl3
        go_wp2
        go_roundw
        case rel => exact ⟨j + 1, by omega, by go_num, HN2.out⟩
        case measure => simp [intOf]; omega
    · obtain rfl : j = ns.length := by omega
      have HE : Hid (lstL p (ns.take ns.length) = lstL p ns) := hid (by rw [List.take_length])
      go_wp2_with fail
      refine (string_any HLI.out.bl).mono ?_
      rintro e w2 ⟨rfl, hb2⟩
      have HB2 := hid (HLI.out.lo.trans hb2)
      clear hb2
      rw [HE.out]
      go_wp2
      go_ret
      exact ⟨rfl, HB2.out⟩
end Go.Proofs.Ytpligndiomblhaa.P
