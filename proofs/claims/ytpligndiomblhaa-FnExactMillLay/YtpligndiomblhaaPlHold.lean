import Derived.Test.YtpligndiomblhaaPlLawS
import Derived.Laws.StructEq
import Derived.Test.YtpligndiomblhaaRkToSn
/-! Looks that are answered so, by both sides. -/
namespace Go.Proofs.Ytpligndiomblhaa.P
open Go.RowKit
open Go.Proofs.Ytpligndiomblhaa.J (Says says_t says_f FileOk Says.pos Says.neg)
open Go.Proofs.Ytpligndiomblhaa.R (hid small set_other Fl fl0 Sn sn0 lt_hp hp_next B1 B2 row_cell row_room SFlR SSnR OkFlS below_drewN below_set Gr wp_region_gr Calls.gr_of)
set_option maxRecDepth 20000
def eqYB (c c' : Int) (t t' : ByteArray) : Bool := c == c' && t.toList == t'.toList
theorem eqY (c c' : Int) (t t' : ByteArray) (w : World) : (Op.equalIn 10000 34 (.agg #[.int .i64 c, .string t]) (.agg #[.int .i64 c', .string t'])).run Try.prog w = .ok (eqYB c c' t t') w := by
  have u3 := Try.underlying3
  have u9 := Try.underlying9
  have hS : Try.prog.underlying 34 = some (.struct (Try.prog.fieldsOf 34)) := by kernel_rfl
  have hp : Try.prog.stoodInHeld 34 = false := by kernel_rfl
  rw [show (10000 : Nat) = 9999 + 1 from rfl, run_equalIn_agg w 9999 34 _ _ hS hp]
  simp only [Program.fieldsOf, Try.underlying34]
  go_simp
  unfold eqYB
  by_cases h1 : c = c' <;> by_cases h2 : t.toList = t'.toList <;> simp [h1, h2]
theorem neqY (c c' : Int) (t t' : ByteArray) (w : World) : (binOp .neq 34 (.agg #[.int .i64 c, .string t]) (.agg #[.int .i64 c', .string t'])).run Try.prog w = .ok (.bool (!eqYB c c' t t')) w := by
  rw [run_neq_struct, eqY]; rfl
theorem eqYB_iff (c c' : Int) (t t' : ByteArray) : eqYB c c' t t' = true ↔ (c, t) = (c', t') := by
  unfold eqYB
  rw [Bool.and_eq_true, beq_iff_eq, Prod.mk.injEq]
  constructor
  · rintro ⟨h1, h2⟩
    refine ⟨h1, ?_⟩
    by_cases h3 : t = t'
    · exact h3
    · rw [bytes_ne h3] at h2; cases h2
  · rintro ⟨h1, h2⟩
    exact ⟨h1, by rw [h2]; simp⟩
theorem sn_at {B : Nat} {W : World} {g n c : Nat} {l : List Sn} (h : SSnR B W (.slice (some ⟨g, 0, none⟩) n c) l) {i : Nat} (hi : i < l.length) : g < W.heap.size ∧ W.cell? ⟨g, i * 4, none⟩ = some (.int .i64 (l.getD i sn0).kind) ∧ W.cell? ⟨g, i * 4 + 1, none⟩ = some (.string (l.getD i sn0).name) ∧ W.cell? ⟨g, i * 4 + 2, none⟩ = some (.int .i64 (l.getD i sn0).reply.code) ∧ W.cell? ⟨g, i * 4 + 3, none⟩ = some (.string (l.getD i sn0).reply.text) := by
  obtain ⟨g2, e9, _, hg, a0, a1, a2, a3⟩ := h.at hi
  injection e9 with ea en ec
  injection ea with eb
  injection eb with ec2
  subst ec2
  exact ⟨hg, a0, a1, a2, a3⟩
/-- A look is answered so. -/
def One (F : Int → ByteArray → Int × ByteArray) (x : Sn) : Prop := F x.kind x.name = (x.reply.code, x.reply.text)
set_option maxHeartbeats 4000000 in
theorem one_any (x : Sn) {p B b : Nat} {ns : List ByteArray} {f : ByteArray → Option Fl} {k m : Nat} {v : Value} {w : World} (hp : w.cell? ⟨p, 0, none⟩ = some (.pointer (some ⟨b, 0, none⟩))) (hpl : p < w.heap.size) (h : Bx B b ns f k v m w) (hN : ns.length ≤ 1000) (hn : ∀ n ∈ ns, n.size ≤ 1048576) (ht : x.name.size ≤ 1048576) :
    Calls Try.prog 37 #[.agg #[.int .i64 x.kind, .string x.name, .int .i64 x.reply.code, .string x.reply.text], .pointer (some ⟨p, 0, none⟩)] w fun e w' => Says e (¬ One (seeR ns f) x) ∧ Below w.heap.size w w' := by
  obtain ⟨kd, nm, c, s⟩ := x
  dsimp only at ht
  have HM := hid hn
  have HX := hid (B1.start w (.cells #[.int .i64 kd, .string nm, .int .i64 c, .string s] 66))
  have HBX := hid (h.next HX.out.lo)
  have HP := hid ((HX.out.lo.cell (p := ⟨p, 0, none⟩) hpl).trans hp)
  have HPL : Hid (p < (w.alloc (.cells #[.int .i64 kd, .string nm, .int .i64 c, .string s] 66)).heap.size) := hid (Nat.lt_of_lt_of_le hpl HX.out.lo.size)
  clear h hn hp hpl
  go_enter Try.func37, Try.ntmps37
  go_upto_region 1 with fail
  obtain ⟨W0, hW0⟩ : ∃ W, w.alloc (.cells #[.int .i64 kd, .string nm, .int .i64 c, .string s] 66) = W := ⟨_, rfl⟩
  rw [hW0] at HX HBX HP HPL ⊢
  clear hW0
  have b0 := fun q : Gr W0 => (row_cell (HX.out.next q.h).e 0 : q.W.cell? ⟨w.heap.size, 0, none⟩ = some (.int .i64 kd))
  have b1 := fun q : Gr W0 => (row_cell (HX.out.next q.h).e 1 : q.W.cell? ⟨w.heap.size, 1, none⟩ = some (.string nm))
  have b2 := fun q : Gr W0 => (row_cell (HX.out.next q.h).e 2 : q.W.cell? ⟨w.heap.size, 2, none⟩ = some (.int .i64 c))
  have b3 := fun q : Gr W0 => (row_cell (HX.out.next q.h).e 3 : q.W.cell? ⟨w.heap.size, 3, none⟩ = some (.string s))
  have b4 := fun q : Gr W0 => (q.h.cell (p := ⟨p, 0, none⟩) HPL.out).trans HP.out
  obtain ⟨r, hr⟩ : ∃ r, seeR ns f kd nm = r := ⟨_, rfl⟩
  have HR := hid hr
  have HSE := hid (fun q : Gr W0 => see_any kd nm (HBX.out.next q.h) hN HM.out ht)
  rw [hr] at HSE
  clear hr
  obtain ⟨rc, rt⟩ := r
  have hq := neqY rc c rt s
  have hne2 : Nonempty (Gr W0) := ⟨⟨W0, Below.refl _ _⟩⟩
  have HSY : Hid (Says (.returned (.bool (!eqYB rc c rt s))) (¬ One (seeR ns f) ⟨kd, nm, c, s⟩)) := hid ⟨_, rfl, by
    unfold One
    dsimp only
    rw [HR.out, ← eqYB_iff]
    simp⟩
  obtain ⟨bb, hbb⟩ : ∃ bb, (!eqYB rc c rt s) = bb := ⟨_, rfl⟩
  rw [hbb] at HSY
  simp only [hbb] at hq
  clear hbb
  refine wp_region_gr (by kernel_rfl) (by kernel_rfl) ?_
  repeat (go_big_quiet_step (first | (go_at_call 33; refine Calls.gr_of (v := .agg #[.int .i64 rc, .string rt]) fun hpw => ?_; exact HSE.out ⟨_, hpw⟩)))
  refine wpQuiet_nil ?_
  intro _ hw'
  obtain ⟨pw, rfl⟩ := hw'
  have HB4 := hid (HX.out.next pw.h)
  clear b0 b1 b2 b3 b4
  go_wp2
  go_ret
  exact ⟨HSY.out, HB4.out.lo⟩
end Go.Proofs.Ytpligndiomblhaa.P
