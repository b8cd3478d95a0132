import Derived.Deep.MidRow
import Derived.Test.YtlopcjhipajdcaaGreatDoorJ15
import Derived.Test.YtlopcjhipajdcaaGreatDoorJ34
import Derived.Test.YtlopcjhipajdcaaGreatDoorJ42
/-! Messages that are marked. Printed by gen_yrow.py. -/
namespace Go.Proofs.YtlopcjhipajdcaaGreatDoor.Y
open Go.RowKit R
open Go.Proofs.YtlopcjhipajdcaaGreatDoor.J (FileOk BegOk RepOk ltB Says says_t says_f)
set_option maxRecDepth 20000
/-- One row was marked: its block alone has changed; all keep their type and size. -/
def Lg (W V : World) (u : Value) : Prop := W.grownBy V u.ownBlock ∧ Mk W V
theorem Lg.of_below {W V : World} {u : Value} (h : Below W.heap.size W V) : Lg W V u := ⟨⟨h.os, h.tape, h.output, h.size, fun i hi _ => h.block i hi⟩, .of_below h⟩
theorem Lg.trans {W V U : World} {u : Value} (h : Lg W V u) (h2 : Lg V U u) : Lg W U u :=
  ⟨⟨h2.1.os.trans h.1.os, h2.1.tape.trans h.1.tape, h2.1.output.trans h.1.output, Nat.le_trans h.1.size h2.1.size, fun i hi hne => (h2.1.block i (Nat.lt_of_lt_of_le hi h.1.size) hne).trans (h.1.block i hi hne)⟩, h.2.trans h2.2⟩
theorem Lg.box {W V : World} {u : Value} {B T t k n b : Nat} {o : Obj} (h : Lg W V u) (hs : Sh B T t k W u n) (hT : T ≤ b) (hb : W.heap[b]? = some o) : V.heap[b]? = some o := (h.1.block b (lt_hp hb) fun e => by
  have := (hs.block e.symm).2
  omega).trans hb
theorem Lg.lm {W V : World} {u : Value} {B T t k n : Nat} (h : Lg W V u) (hs : Sh B T t k W u n) (hB : B ≤ W.heap.size) : Lm B T W V := .of_grown hs h.1 h.2 hB
theorem markStr_k {B T K K' n : Nat} {W : World} {v : Value} (h : Sh B T 9 1 W v n) (hn : n ≤ 1048576) (hK : 0 < K) (hK2 : K ≤ 5000000) (e : K + 1 * n = K') :
    Calls Tryz.prog 70 #[v, .int .i64 K] W fun e W' => e = .returned (.int .i64 K') ∧ Lg W W' v ∧ MvStr K W' v n :=
  (markStr_sh h hn hK hK2).mono fun _ _ h => ⟨by rw [← e]; exact h.1, ⟨h.2.1, h.2.2.2⟩, h.2.2.1⟩
theorem heldStr_k {K K' n : Nat} {W : World} {v : Value} (h : MvStr K W v n) (hn : n ≤ 1048576) (hK : 0 < K) (hK2 : K ≤ 5000000) (e : K + 1 * n = K') :
    Calls Tryz.prog 95 #[v, .int .i64 K] W fun e W' => e = .returned (.int .i64 K') ∧ Below W.heap.size W W' :=
  (heldStr_mv h hn hK hK2).mono fun _ _ h => ⟨by rw [← e]; exact h.1, h.2⟩
theorem markFl_k {B T K K' n : Nat} {W : World} {v : Value} (h : Sh B T 114 2 W v n) (hn : n ≤ 1048576) (hK : 0 < K) (hK2 : K ≤ 5000000) (e : K + 2 * n = K') :
    Calls Tryz.prog 72 #[v, .int .i64 K] W fun e W' => e = .returned (.int .i64 K') ∧ Lg W W' v ∧ MvFl K W' v n :=
  (markFl_sh h hn hK hK2).mono fun _ _ h => ⟨by rw [← e]; exact h.1, ⟨h.2.1, h.2.2.2⟩, h.2.2.1⟩
theorem heldFl_k {K K' n : Nat} {W : World} {v : Value} (h : MvFl K W v n) (hn : n ≤ 1048576) (hK : 0 < K) (hK2 : K ≤ 5000000) (e : K + 2 * n = K') :
    Calls Tryz.prog 96 #[v, .int .i64 K] W fun e W' => e = .returned (.int .i64 K') ∧ Below W.heap.size W W' :=
  (heldFl_mv h hn hK hK2).mono fun _ _ h => ⟨by rw [← e]; exact h.1, h.2⟩
theorem markSn_k {B T K K' n : Nat} {W : World} {v : Value} (h : Sh B T 88 4 W v n) (hn : n ≤ 1048576) (hK : 0 < K) (hK2 : K ≤ 5000000) (e : K + 4 * n = K') :
    Calls Tryz.prog 38 #[v, .int .i64 K] W fun e W' => e = .returned (.int .i64 K') ∧ Lg W W' v ∧ MvSn K W' v n :=
  (markSn_sh h hn hK hK2).mono fun _ _ h => ⟨by rw [← e]; exact h.1, ⟨h.2.1, h.2.2.2⟩, h.2.2.1⟩
theorem heldSn_k {K K' n : Nat} {W : World} {v : Value} (h : MvSn K W v n) (hn : n ≤ 1048576) (hK : 0 < K) (hK2 : K ≤ 5000000) (e : K + 4 * n = K') :
    Calls Tryz.prog 74 #[v, .int .i64 K] W fun e W' => e = .returned (.int .i64 K') ∧ Below W.heap.size W W' :=
  (heldSn_mv h hn hK hK2).mono fun _ _ h => ⟨by rw [← e]; exact h.1, h.2⟩
set_option maxHeartbeats 4000000 in
theorem markTg_k (nm tl ar : ByteArray) {B T K K1 K2 n0 n1 : Nat} {u0 u1 : Value} (w : World) (h0 : Sh B T 9 1 w u0 n0) (h1 : Sh B T 9 1 w u1 n1) (hT : T ≤ w.heap.size) (hn0 : n0 ≤ 1048576) (hn1 : n1 ≤ 1048576) (hK : 0 < K) (e1 : K + 1 * n0 = K1) (e2 : K1 + 1 * n1 = K2) (hK2 : K2 ≤ 5000000) :
    Calls Tryz.prog 37 #[.agg #[.string nm, .string tl, .string ar, u0, u1], .int .i64 K] w fun e w' => e = .returned (.int .i64 K2) ∧ ∃ V, Lg w V u0 ∧ MvStr K V u0 n0 ∧ Lg V w' u1 ∧ MvStr K1 w' u1 n1 := by
  obtain ⟨a0, c0, rfl⟩ := h0.sl
  obtain ⟨a1, c1, rfl⟩ := h1.sl
  have HB0 := hid (B1.start w (.cells #[.string nm, .string tl, .string ar, (.slice a0 n0 c0), (.slice a1 n1 c1)] 35))
  obtain ⟨w0, hw0⟩ : ∃ W, w.alloc (.cells #[.string nm, .string tl, .string ar, (.slice a0 n0 c0), (.slice a1 n1 c1)] 35) = W := ⟨_, rfl⟩
  rw [hw0] at HB0
  have H0 := hid (h0.next HB0.out.lo)
  have H1 := hid (h1.next HB0.out.lo)
  have HC := hid (And.intro hT (And.intro e1 e2))
  have g1 : K ≤ 5000000 := by omega
  have g2 : K1 ≤ 5000000 := by omega
  have g3 : 0 < K1 := by omega
  have b0 : w0.cell? ⟨w.heap.size, 3, none⟩ = some (.slice a0 n0 c0) := row_cell HB0.out.e 3
  clear h0 h1 hT e1 e2
  go_enter Tryz.func37, Tryz.ntmps37
  go_upto_region 1 with fail
  clear hw0
  go_upto_region 2 with (go_at_call 70; refine (markStr_k H0.out hn0 hK g1 HC.out.2.1).mono ?_; rintro e w1 ⟨rfl, hl, hm⟩; have HL1 := hid hl; have HM1 := hid hm; clear hl hm)
  have E1 := hid (HL1.out.box H0.out HC.out.1 HB0.out.e)
  have H11 := hid (H1.out.mk HL1.out.2)
  clear b0
  have b1 : w1.cell? ⟨w.heap.size, 4, none⟩ = some (.slice a1 n1 c1) := row_cell E1.out 4
  go_upto_region 3 with (go_at_call 70; refine (markStr_k H11.out hn1 g3 g2 HC.out.2.2).mono ?_; rintro e w2 ⟨rfl, hl, hm⟩; have HL2 := hid hl; have HM2 := hid hm; clear hl hm)
  clear b1
  go_wp2
  go_ret
  exact ⟨rfl, w1, (Lg.of_below HB0.out.lo).trans HL1.out, HM1.out, HL2.out, HM2.out⟩
set_option maxHeartbeats 4000000 in
theorem markTu_k (ov : Bool) (co kd st : Int) (tx nn : ByteArray) {B T K K1 K2 n0 n1 : Nat} {u0 u1 : Value} (w : World) (h0 : Sh B T 114 2 w u0 n0) (h1 : Sh B T 9 1 w u1 n1) (hT : T ≤ w.heap.size) (hn0 : n0 ≤ 1048576) (hn1 : n1 ≤ 1048576) (hK : 0 < K) (e1 : K + 2 * n0 = K1) (e2 : K1 + 1 * n1 = K2) (hK2 : K2 ≤ 5000000) :
    Calls Tryz.prog 39 #[.agg #[.bool ov, .int .i64 co, .string tx, .int .i64 kd, .string nn, .int .i64 st, u0, u1], .int .i64 K] w fun e w' => e = .returned (.int .i64 K2) ∧ ∃ V, Lg w V u0 ∧ MvFl K V u0 n0 ∧ Lg V w' u1 ∧ MvStr K1 w' u1 n1 := by
  obtain ⟨a0, c0, rfl⟩ := h0.sl
  obtain ⟨a1, c1, rfl⟩ := h1.sl
  have HB0 := hid (B1.start w (.cells #[.bool ov, .int .i64 co, .string tx, .int .i64 kd, .string nn, .int .i64 st, (.slice a0 n0 c0), (.slice a1 n1 c1)] 39))
  obtain ⟨w0, hw0⟩ : ∃ W, w.alloc (.cells #[.bool ov, .int .i64 co, .string tx, .int .i64 kd, .string nn, .int .i64 st, (.slice a0 n0 c0), (.slice a1 n1 c1)] 39) = W := ⟨_, rfl⟩
  rw [hw0] at HB0
  have H0 := hid (h0.next HB0.out.lo)
  have H1 := hid (h1.next HB0.out.lo)
  have HC := hid (And.intro hT (And.intro e1 e2))
  have g1 : K ≤ 5000000 := by omega
  have g2 : K1 ≤ 5000000 := by omega
  have g3 : 0 < K1 := by omega
  have b0 : w0.cell? ⟨w.heap.size, 6, none⟩ = some (.slice a0 n0 c0) := row_cell HB0.out.e 6
  clear h0 h1 hT e1 e2
  go_enter Tryz.func39, Tryz.ntmps39
  go_upto_region 1 with fail
  clear hw0
  go_upto_region 2 with (go_at_call 72; refine (markFl_k H0.out hn0 hK g1 HC.out.2.1).mono ?_; rintro e w1 ⟨rfl, hl, hm⟩; have HL1 := hid hl; have HM1 := hid hm; clear hl hm)
  have E1 := hid (HL1.out.box H0.out HC.out.1 HB0.out.e)
  have H11 := hid (H1.out.mk HL1.out.2)
  clear b0
  have b1 : w1.cell? ⟨w.heap.size, 7, none⟩ = some (.slice a1 n1 c1) := row_cell E1.out 7
  go_upto_region 3 with (go_at_call 70; refine (markStr_k H11.out hn1 g3 g2 HC.out.2.2).mono ?_; rintro e w2 ⟨rfl, hl, hm⟩; have HL2 := hid hl; have HM2 := hid hm; clear hl hm)
  clear b1
  go_wp2
  go_ret
  exact ⟨rfl, w1, (Lg.of_below HB0.out.lo).trans HL1.out, HM1.out, HL2.out, HM2.out⟩
/-- The rows of a message are marked, one behind the other. -/
structure MsM (m : Ms) (K : Nat) (W W' : World) (u0 u1 u2 u3 u4 : Value) : Prop where
  e : ∃ V1 V2 V3 V4 : World, ∃ K1 K2 K3 K4 : Nat, (K + 1 * m.target.ins.length = K1 ∧ K1 + 1 * m.target.outs.length = K2 ∧ K2 + 4 * m.seen.length = K3 ∧ K3 + 2 * m.turn.files.length = K4) ∧ (Lg W V1 u0 ∧ MvStr K V1 u0 m.target.ins.length) ∧ (Lg V1 V2 u1 ∧ MvStr K1 V2 u1 m.target.outs.length) ∧ (Lg V2 V3 u2 ∧ MvSn K2 V3 u2 m.seen.length) ∧ (Lg V3 V4 u3 ∧ MvFl K3 V4 u3 m.turn.files.length) ∧ (Lg V4 W' u4 ∧ MvStr K4 W' u4 m.turn.said.length)
theorem MsM.from {m : Ms} {K : Nat} {W0 W W' : World} {u0 u1 u2 u3 u4 : Value} (h : MsM m K W W' u0 u1 u2 u3 u4) (hb : Below W0.heap.size W0 W) : MsM m K W0 W' u0 u1 u2 u3 u4 := by
  obtain ⟨V1, V2, V3, V4, K1, K2, K3, K4, a, b, c⟩ := h.e
  exact ⟨V1, V2, V3, V4, K1, K2, K3, K4, a, ⟨(Lg.of_below hb).trans b.1, b.2⟩, c⟩
set_option maxHeartbeats 8000000 in
theorem markMs_k (m : Ms) {B T K K1 K2 K3 K4 K5 : Nat} {u0 u1 u2 u3 u4 : Value} (w : World) (h0 : Sh B T 9 1 w u0 m.target.ins.length) (h1 : Sh B T 9 1 w u1 m.target.outs.length) (h2 : Sh B T 88 4 w u2 m.seen.length) (h3 : Sh B T 114 2 w u3 m.turn.files.length) (h4 : Sh B T 9 1 w u4 m.turn.said.length) (hT : T ≤ w.heap.size) (n0 : m.target.ins.length ≤ 1048576) (n1 : m.target.outs.length ≤ 1048576) (n2 : m.seen.length ≤ 1048576) (n3 : m.turn.files.length ≤ 1048576) (n4 : m.turn.said.length ≤ 1048576) (hK : 0 < K) (e1 : K + 1 * m.target.ins.length = K1) (e2 : K1 + 1 * m.target.outs.length = K2) (e3 : K2 + 4 * m.seen.length = K3) (e4 : K3 + 2 * m.turn.files.length = K4) (e5 : K4 + 1 * m.turn.said.length = K5) (hK5 : K5 ≤ 5000000) :
    Calls Tryz.prog 16 #[.agg #[.int .i64 m.kind, .int .i64 m.to, .int .i64 m.sender, .int .i64 m.epoch, .int .i64 m.edit, .string m.target.name, .string m.target.tool, .string m.target.arg, u0, u1, u2, .int .i64 m.count, .bool m.turn.over, .int .i64 m.turn.code, .string m.turn.text, .int .i64 m.turn.kind, .string m.turn.name, .int .i64 m.turn.steps, u3, u4], .int .i64 K] w fun e w' => e = .returned (.int .i64 K5) ∧ MsM m K w w' u0 u1 u2 u3 u4 ∧ Mk w w' := by
  obtain ⟨a0, c0, rfl⟩ := h0.sl
  obtain ⟨a1, c1, rfl⟩ := h1.sl
  obtain ⟨a2, c2, rfl⟩ := h2.sl
  obtain ⟨a3, c3, rfl⟩ := h3.sl
  obtain ⟨a4, c4, rfl⟩ := h4.sl
  have HB0 := hid (B1.start w (.cells #[.int .i64 m.kind, .int .i64 m.to, .int .i64 m.sender, .int .i64 m.epoch, .int .i64 m.edit, .string m.target.name, .string m.target.tool, .string m.target.arg, .slice a0 m.target.ins.length c0, .slice a1 m.target.outs.length c1, .slice a2 m.seen.length c2, .int .i64 m.count, .bool m.turn.over, .int .i64 m.turn.code, .string m.turn.text, .int .i64 m.turn.kind, .string m.turn.name, .int .i64 m.turn.steps, .slice a3 m.turn.files.length c3, .slice a4 m.turn.said.length c4] 41))
  obtain ⟨w0, hw0⟩ : ∃ W, w.alloc (.cells #[.int .i64 m.kind, .int .i64 m.to, .int .i64 m.sender, .int .i64 m.epoch, .int .i64 m.edit, .string m.target.name, .string m.target.tool, .string m.target.arg, .slice a0 m.target.ins.length c0, .slice a1 m.target.outs.length c1, .slice a2 m.seen.length c2, .int .i64 m.count, .bool m.turn.over, .int .i64 m.turn.code, .string m.turn.text, .int .i64 m.turn.kind, .string m.turn.name, .int .i64 m.turn.steps, .slice a3 m.turn.files.length c3, .slice a4 m.turn.said.length c4] 41) = W := ⟨_, rfl⟩
  rw [hw0] at HB0
  have H0 := hid (h0.next HB0.out.lo)
  have H1 := hid (h1.next HB0.out.lo)
  have H2 := hid (h2.next HB0.out.lo)
  have H3 := hid (h3.next HB0.out.lo)
  have H4 := hid (h4.next HB0.out.lo)
  have HC := hid (And.intro hT (And.intro e1 (And.intro e2 (And.intro e3 (And.intro e4 e5)))))
  have HT0 : Hid (T ≤ w0.heap.size) := hid (Nat.le_trans hT HB0.out.lo.size)
  have g1 : K1 ≤ 5000000 := by omega
  have g2 : K2 ≤ 5000000 := by omega
  have g3 : K3 ≤ 5000000 := by omega
  have g4 : K4 ≤ 5000000 := by omega
  have q1 : 0 < K1 := by omega
  have q2 : 0 < K2 := by omega
  have q3 : 0 < K3 := by omega
  have q4 : 0 < K4 := by omega
  clear h0 h1 h2 h3 h4 hT e1 e2 e3 e4 e5
  have HR0 : Hid (w0.rangeAt w.heap.size 5 [.string m.target.name, .string m.target.tool, .string m.target.arg, .slice a0 m.target.ins.length c0, .slice a1 m.target.outs.length c1]) := hid (range_mid [.int .i64 m.kind, .int .i64 m.to, .int .i64 m.sender, .int .i64 m.epoch, .int .i64 m.edit] _ [.slice a2 m.seen.length c2, .int .i64 m.count, .bool m.turn.over, .int .i64 m.turn.code, .string m.turn.text, .int .i64 m.turn.kind, .string m.turn.name, .int .i64 m.turn.steps, .slice a3 m.turn.files.length c3, .slice a4 m.turn.said.length c4] HB0.out.e rfl)
  go_enter Tryz.func16, Tryz.ntmps16
  go_upto_region 1 with fail
  clear hw0
  go_upto_region 2 with (first | (go_at_call 37; refine (markTg_k _ _ _ w0 H0.out H1.out HT0.out n0 n1 hK HC.out.2.1 HC.out.2.2.1 g2).mono ?_; rintro e w2 ⟨rfl, V1, l1, mm1, l2, mm2⟩; have HL1 := hid l1; have HM1 := hid mm1; have HL2 := hid l2; have HM2 := hid mm2; clear l1 mm1 l2 mm2) | (refine wpList_load_mid rfl 35 _ rfl (w.heap.size) 5 rfl [.string m.target.name, .string m.target.tool, .string m.target.arg, .slice a0 m.target.ins.length c0, .slice a1 m.target.outs.length c1] _ HR0.out Tryz.underlying35 rfl (by kernel_rfl) ?_))
  have E1 := hid (HL2.out.box (H1.out.mk HL1.out.2) HC.out.1 (HL1.out.box H0.out HC.out.1 HB0.out.e))
  have HMK2 := hid (HL1.out.2.trans HL2.out.2)
  have b1 : w2.cell? ⟨w.heap.size, 10, none⟩ = some (.slice a2 m.seen.length c2) := row_cell E1.out 10
  go_upto_region 3 with (go_at_call 38; refine (markSn_k (H2.out.mk HMK2.out) n2 q2 g2 HC.out.2.2.2.1).mono ?_; rintro e w3 ⟨rfl, hl, hm⟩; have HL3 := hid hl; have HM3 := hid hm; clear hl hm)
  clear b1
  have E2 := hid (HL3.out.box (H2.out.mk HMK2.out) HC.out.1 E1.out)
  have HMK3 := hid (HMK2.out.trans HL3.out.2)
  have HR3 : Hid (w3.rangeAt w.heap.size 12 [.bool m.turn.over, .int .i64 m.turn.code, .string m.turn.text, .int .i64 m.turn.kind, .string m.turn.name, .int .i64 m.turn.steps, .slice a3 m.turn.files.length c3, .slice a4 m.turn.said.length c4]) := hid (range_mid [.int .i64 m.kind, .int .i64 m.to, .int .i64 m.sender, .int .i64 m.epoch, .int .i64 m.edit, .string m.target.name, .string m.target.tool, .string m.target.arg, .slice a0 m.target.ins.length c0, .slice a1 m.target.outs.length c1, .slice a2 m.seen.length c2, .int .i64 m.count] _ [] E2.out rfl)
  have HT3 : Hid (T ≤ w3.heap.size) := hid (Nat.le_trans HT0.out (Nat.le_trans HL1.out.1.size (Nat.le_trans HL2.out.1.size HL3.out.1.size)))
  go_upto_region 4 with (first | (go_at_call 39; refine (markTu_k _ _ _ _ _ _ w3 (H3.out.mk HMK3.out) (H4.out.mk HMK3.out) HT3.out n3 n4 q3 HC.out.2.2.2.2.1 HC.out.2.2.2.2.2 hK5).mono ?_; rintro e w5 ⟨rfl, V4, l4, mm4, l5, mm5⟩; have HL4 := hid l4; have HM4 := hid mm4; have HL5 := hid l5; have HM5 := hid mm5; clear l4 mm4 l5 mm5) | (refine wpList_load_mid rfl 39 _ rfl (w.heap.size) 12 rfl [.bool m.turn.over, .int .i64 m.turn.code, .string m.turn.text, .int .i64 m.turn.kind, .string m.turn.name, .int .i64 m.turn.steps, .slice a3 m.turn.files.length c3, .slice a4 m.turn.said.length c4] _ HR3.out Tryz.underlying39 rfl (by kernel_rfl) ?_))
  go_wp2
  go_ret
  exact ⟨rfl, ⟨V1, w2, w3, V4, K1, K2, K3, K4, ⟨HC.out.2.1, HC.out.2.2.1, HC.out.2.2.2.1, HC.out.2.2.2.2.1⟩, ⟨(Lg.of_below HB0.out.lo).trans HL1.out, HM1.out⟩, ⟨HL2.out, HM2.out⟩, ⟨HL3.out, HM3.out⟩, ⟨HL4.out, HM4.out⟩, ⟨HL5.out, HM5.out⟩⟩, (Mk.of_below HB0.out.lo).trans (HMK3.out.trans (HL4.out.2.trans HL5.out.2))⟩
end Go.Proofs.YtlopcjhipajdcaaGreatDoor.Y
/-! Sameness of workers. -/
namespace Go.Proofs.YtlopcjhipajdcaaGreatDoor.R
open Go.RowKit
set_option maxRecDepth 20000
end Go.Proofs.YtlopcjhipajdcaaGreatDoor.R
/-! mayHave, YardValidWorker by the program. Printed by gen_ywi.py. -/
namespace Go.Proofs.YtlopcjhipajdcaaGreatDoor.Y
open Go.RowKit R
open Go.Proofs.YtlopcjhipajdcaaGreatDoor.J (FileOk BegOk RepOk ltB Says says_t says_f)
set_option maxRecDepth 20000
set_option maxHeartbeats 8000000 in
theorem mayHave_any (x : Wk) (m : Ms) {u0 u1 u2 u3 u4 v0 v1 v2 v3 v4 : Value} (w : World) (hm : SmMs m) (j0 : SStrA w u0 x.offer.target.ins) (j1 : SStrA w u1 x.offer.target.outs) (j2 : SSnA w u2 x.offer.seen) (j3 : SFlA w u3 x.offer.turn.files) (j4 : SStrA w u4 x.offer.turn.said) (k0 : SStrA w v0 m.target.ins) (k1 : SStrA w v1 m.target.outs) (k2 : SSnA w v2 m.seen) (k3 : SFlA w v3 m.turn.files) (k4 : SStrA w v4 m.turn.said) :
    Calls Tryz.prog 23 #[.agg #[.int .i64 x.number, .bool x.up, .bool x.has, .int .i64 x.offer.kind, .int .i64 x.offer.to, .int .i64 x.offer.sender, .int .i64 x.offer.epoch, .int .i64 x.offer.edit, .string x.offer.target.name, .string x.offer.target.tool, .string x.offer.target.arg, u0, u1, u2, .int .i64 x.offer.count, .bool x.offer.turn.over, .int .i64 x.offer.turn.code, .string x.offer.turn.text, .int .i64 x.offer.turn.kind, .string x.offer.turn.name, .int .i64 x.offer.turn.steps, u3, u4], .agg #[.int .i64 m.kind, .int .i64 m.to, .int .i64 m.sender, .int .i64 m.epoch, .int .i64 m.edit, .string m.target.name, .string m.target.tool, .string m.target.arg, v0, v1, v2, .int .i64 m.count, .bool m.turn.over, .int .i64 m.turn.code, .string m.turn.text, .int .i64 m.turn.kind, .string m.turn.name, .int .i64 m.turn.steps, v3, v4]] w fun e w' => Says e (OfTo x.number m) ∧ Below w.heap.size w w' := by
  have HM := hid hm
  obtain ⟨ae0, ce0, rfl⟩ := j0.sl
  obtain ⟨ae1, ce1, rfl⟩ := j1.sl
  obtain ⟨ae2, ce2, rfl⟩ := j2.sl
  obtain ⟨ae3, ce3, rfl⟩ := j3.sl
  obtain ⟨ae4, ce4, rfl⟩ := j4.sl
  clear j0 j1 j2 j3 j4 hm
  have K0 := hid k0
  obtain ⟨ad0, cp0, rfl⟩ := k0.sl
  have K1 := hid k1
  obtain ⟨ad1, cp1, rfl⟩ := k1.sl
  have K2 := hid k2
  obtain ⟨ad2, cp2, rfl⟩ := k2.sl
  have K3 := hid k3
  obtain ⟨ad3, cp3, rfl⟩ := k3.sl
  have K4 := hid k4
  obtain ⟨ad4, cp4, rfl⟩ := k4.sl
  clear k0 k1 k2 k3 k4
  have HB0 := hid (B2.start w (.cells #[.int .i64 x.number, .bool x.up, .bool x.has, .int .i64 x.offer.kind, .int .i64 x.offer.to, .int .i64 x.offer.sender, .int .i64 x.offer.epoch, .int .i64 x.offer.edit, .string x.offer.target.name, .string x.offer.target.tool, .string x.offer.target.arg, .slice ae0 x.offer.target.ins.length ce0, .slice ae1 x.offer.target.outs.length ce1, .slice ae2 x.offer.seen.length ce2, .int .i64 x.offer.count, .bool x.offer.turn.over, .int .i64 x.offer.turn.code, .string x.offer.turn.text, .int .i64 x.offer.turn.kind, .string x.offer.turn.name, .int .i64 x.offer.turn.steps, .slice ae3 x.offer.turn.files.length ce3, .slice ae4 x.offer.turn.said.length ce4] 43) (.cells #[.int .i64 m.kind, .int .i64 m.to, .int .i64 m.sender, .int .i64 m.epoch, .int .i64 m.edit, .string m.target.name, .string m.target.tool, .string m.target.arg, .slice ad0 m.target.ins.length cp0, .slice ad1 m.target.outs.length cp1, .slice ad2 m.seen.length cp2, .int .i64 m.count, .bool m.turn.over, .int .i64 m.turn.code, .string m.turn.text, .int .i64 m.turn.kind, .string m.turn.name, .int .i64 m.turn.steps, .slice ad3 m.turn.files.length cp3, .slice ad4 m.turn.said.length cp4] 41))
  obtain ⟨W0, hW0⟩ : ∃ W, (w.alloc (.cells #[.int .i64 x.number, .bool x.up, .bool x.has, .int .i64 x.offer.kind, .int .i64 x.offer.to, .int .i64 x.offer.sender, .int .i64 x.offer.epoch, .int .i64 x.offer.edit, .string x.offer.target.name, .string x.offer.target.tool, .string x.offer.target.arg, .slice ae0 x.offer.target.ins.length ce0, .slice ae1 x.offer.target.outs.length ce1, .slice ae2 x.offer.seen.length ce2, .int .i64 x.offer.count, .bool x.offer.turn.over, .int .i64 x.offer.turn.code, .string x.offer.turn.text, .int .i64 x.offer.turn.kind, .string x.offer.turn.name, .int .i64 x.offer.turn.steps, .slice ae3 x.offer.turn.files.length ce3, .slice ae4 x.offer.turn.said.length ce4] 43)).alloc (.cells #[.int .i64 m.kind, .int .i64 m.to, .int .i64 m.sender, .int .i64 m.epoch, .int .i64 m.edit, .string m.target.name, .string m.target.tool, .string m.target.arg, .slice ad0 m.target.ins.length cp0, .slice ad1 m.target.outs.length cp1, .slice ad2 m.seen.length cp2, .int .i64 m.count, .bool m.turn.over, .int .i64 m.turn.code, .string m.turn.text, .int .i64 m.turn.kind, .string m.turn.name, .int .i64 m.turn.steps, .slice ad3 m.turn.files.length cp3, .slice ad4 m.turn.said.length cp4] 41) = W := ⟨_, rfl⟩
  rw [hW0] at HB0
  have b0 : W0.cell? ⟨w.heap.size, 0, none⟩ = some (.int .i64 x.number) := row_cell HB0.out.e 0
  have a0 : W0.cell? ⟨w.heap.size + 1, 0, none⟩ = some (.int .i64 m.kind) := row_cell HB0.out.f 0
  have a1 : W0.cell? ⟨w.heap.size + 1, 1, none⟩ = some (.int .i64 m.to) := row_cell HB0.out.f 1
  have HRG : Hid (W0.rangeAt (w.heap.size + 1) 0 [.int .i64 m.kind, .int .i64 m.to, .int .i64 m.sender, .int .i64 m.epoch, .int .i64 m.edit, .string m.target.name, .string m.target.tool, .string m.target.arg, .slice ad0 m.target.ins.length cp0, .slice ad1 m.target.outs.length cp1, .slice ad2 m.seen.length cp2, .int .i64 m.count, .bool m.turn.over, .int .i64 m.turn.code, .string m.turn.text, .int .i64 m.turn.kind, .string m.turn.name, .int .i64 m.turn.steps, .slice ad3 m.turn.files.length cp3, .slice ad4 m.turn.said.length cp4]) := range_mid [] _ [] HB0.out.f rfl
  by_cases c1 : m.kind = 1
  · by_cases c2 : m.to = x.number
    · have q1 : (m.kind == 1) = true := by simp [c1]
      have q2 : (m.to == x.number) = true := by simp [c2]
      have C1 := hid c1
      have C2 := hid c2
      clear c1 c2
      go_enter Tryz.func23, Tryz.ntmps23
      go_upto_region 1 with fail
      clear hW0
      go_wp2_with (first | (refine wpList_taken rfl fun K hK => ?_; refine wp_load_mid 41 _ rfl (w.heap.size + 1) 0 rfl [.int .i64 m.kind, .int .i64 m.to, .int .i64 m.sender, .int .i64 m.epoch, .int .i64 m.edit, .string m.target.name, .string m.target.tool, .string m.target.arg, .slice ad0 m.target.ins.length cp0, .slice ad1 m.target.outs.length cp1, .slice ad2 m.seen.length cp2, .int .i64 m.count, .bool m.turn.over, .int .i64 m.turn.code, .string m.turn.text, .int .i64 m.turn.kind, .string m.turn.name, .int .i64 m.turn.steps, .slice ad3 m.turn.files.length cp3, .slice ad4 m.turn.said.length cp4] _ HRG.out Tryz.underlying41 rfl (by kernel_rfl) ?_; refine hK _ _ ?_; clear hK K))
      refine (isMsg_any m _ C1.out HM.out (K0.out.next HB0.out.lo) (K1.out.next HB0.out.lo) (K2.out.next HB0.out.lo) (K3.out.next HB0.out.lo) (K4.out.next HB0.out.lo)).mono ?_
      rintro e W2 ⟨⟨b, rfl, hb⟩, hb2⟩
      have HB2 := hid (HB0.out.next hb2)
      have HV := hid hb
      clear hb hb2
      go_wp2
      go_ret
      exact ⟨⟨b, rfl, HV.out.trans ⟨fun h => ⟨C1.out, C2.out, h⟩, fun h => h.2.2⟩⟩, HB2.out.lo⟩
    · have q1 : (m.kind == 1) = true := by simp [c1]
      have q2 : (m.to == x.number) = false := by simp [c2]
      have C2 := hid c2
      clear c1 c2
      go_enter Tryz.func23, Tryz.ntmps23
      go_upto_region 1 with fail
      clear hW0
      go_wp2
      go_ret
      exact ⟨says_f fun h => C2.out h.2.1, HB0.out.lo⟩
  · have q1 : (m.kind == 1) = false := by simp [c1]
    have C1 := hid c1
    clear c1
    go_enter Tryz.func23, Tryz.ntmps23
    go_upto_region 1 with fail
    clear hW0
    go_wp2
    go_ret
    exact ⟨says_f fun h => C1.out h.1, HB0.out.lo⟩
set_option maxHeartbeats 8000000 in
theorem implW_any (x : Wk) {v0 v1 v2 v3 v4 : Value} (w : World) (hm : SmMs x.offer) (k0 : SStrA w v0 x.offer.target.ins) (k1 : SStrA w v1 x.offer.target.outs) (k2 : SSnA w v2 x.offer.seen) (k3 : SFlA w v3 x.offer.turn.files) (k4 : SStrA w v4 x.offer.turn.said) :
    Calls Tryz.prog 8 #[.agg #[.int .i64 x.number, .bool x.up, .bool x.has, .int .i64 x.offer.kind, .int .i64 x.offer.to, .int .i64 x.offer.sender, .int .i64 x.offer.epoch, .int .i64 x.offer.edit, .string x.offer.target.name, .string x.offer.target.tool, .string x.offer.target.arg, v0, v1, v2, .int .i64 x.offer.count, .bool x.offer.turn.over, .int .i64 x.offer.turn.code, .string x.offer.turn.text, .int .i64 x.offer.turn.kind, .string x.offer.turn.name, .int .i64 x.offer.turn.steps, v3, v4]] w fun e w' => Says e (WkOk x) ∧ Below w.heap.size w w' := by
  have HM := hid hm
  clear hm
  have K0 := hid k0
  obtain ⟨ad0, cp0, rfl⟩ := k0.sl
  have K1 := hid k1
  obtain ⟨ad1, cp1, rfl⟩ := k1.sl
  have K2 := hid k2
  obtain ⟨ad2, cp2, rfl⟩ := k2.sl
  have K3 := hid k3
  obtain ⟨ad3, cp3, rfl⟩ := k3.sl
  have K4 := hid k4
  obtain ⟨ad4, cp4, rfl⟩ := k4.sl
  clear k0 k1 k2 k3 k4
  have HB0 := hid (B1.start w (.cells #[.int .i64 x.number, .bool x.up, .bool x.has, .int .i64 x.offer.kind, .int .i64 x.offer.to, .int .i64 x.offer.sender, .int .i64 x.offer.epoch, .int .i64 x.offer.edit, .string x.offer.target.name, .string x.offer.target.tool, .string x.offer.target.arg, .slice ad0 x.offer.target.ins.length cp0, .slice ad1 x.offer.target.outs.length cp1, .slice ad2 x.offer.seen.length cp2, .int .i64 x.offer.count, .bool x.offer.turn.over, .int .i64 x.offer.turn.code, .string x.offer.turn.text, .int .i64 x.offer.turn.kind, .string x.offer.turn.name, .int .i64 x.offer.turn.steps, .slice ad3 x.offer.turn.files.length cp3, .slice ad4 x.offer.turn.said.length cp4] 43))
  obtain ⟨W0, hW0⟩ : ∃ W, w.alloc (.cells #[.int .i64 x.number, .bool x.up, .bool x.has, .int .i64 x.offer.kind, .int .i64 x.offer.to, .int .i64 x.offer.sender, .int .i64 x.offer.epoch, .int .i64 x.offer.edit, .string x.offer.target.name, .string x.offer.target.tool, .string x.offer.target.arg, .slice ad0 x.offer.target.ins.length cp0, .slice ad1 x.offer.target.outs.length cp1, .slice ad2 x.offer.seen.length cp2, .int .i64 x.offer.count, .bool x.offer.turn.over, .int .i64 x.offer.turn.code, .string x.offer.turn.text, .int .i64 x.offer.turn.kind, .string x.offer.turn.name, .int .i64 x.offer.turn.steps, .slice ad3 x.offer.turn.files.length cp3, .slice ad4 x.offer.turn.said.length cp4] 43) = W := ⟨_, rfl⟩
  rw [hW0] at HB0
  have a0 : W0.cell? ⟨w.heap.size, 0, none⟩ = some (.int .i64 x.number) := row_cell HB0.out.e 0
  have a1 : W0.cell? ⟨w.heap.size, 1, none⟩ = some (.bool x.up) := row_cell HB0.out.e 1
  have a2 : W0.cell? ⟨w.heap.size, 2, none⟩ = some (.bool x.has) := row_cell HB0.out.e 2
  have HRG : Hid (W0.rangeAt w.heap.size 3 [.int .i64 x.offer.kind, .int .i64 x.offer.to, .int .i64 x.offer.sender, .int .i64 x.offer.epoch, .int .i64 x.offer.edit, .string x.offer.target.name, .string x.offer.target.tool, .string x.offer.target.arg, .slice ad0 x.offer.target.ins.length cp0, .slice ad1 x.offer.target.outs.length cp1, .slice ad2 x.offer.seen.length cp2, .int .i64 x.offer.count, .bool x.offer.turn.over, .int .i64 x.offer.turn.code, .string x.offer.turn.text, .int .i64 x.offer.turn.kind, .string x.offer.turn.name, .int .i64 x.offer.turn.steps, .slice ad3 x.offer.turn.files.length cp3, .slice ad4 x.offer.turn.said.length cp4]) := range_mid [.int .i64 x.number, .bool x.up, .bool x.has] _ [] HB0.out.e rfl
  have HRW : Hid (W0.rangeAt w.heap.size 0 [.int .i64 x.number, .bool x.up, .bool x.has, .int .i64 x.offer.kind, .int .i64 x.offer.to, .int .i64 x.offer.sender, .int .i64 x.offer.epoch, .int .i64 x.offer.edit, .string x.offer.target.name, .string x.offer.target.tool, .string x.offer.target.arg, .slice ad0 x.offer.target.ins.length cp0, .slice ad1 x.offer.target.outs.length cp1, .slice ad2 x.offer.seen.length cp2, .int .i64 x.offer.count, .bool x.offer.turn.over, .int .i64 x.offer.turn.code, .string x.offer.turn.text, .int .i64 x.offer.turn.kind, .string x.offer.turn.name, .int .i64 x.offer.turn.steps, .slice ad3 x.offer.turn.files.length cp3, .slice ad4 x.offer.turn.said.length cp4]) := range_mid [] _ [] HB0.out.e rfl
  go_enter Tryz.func8, Tryz.ntmps8
  go_upto_region 1 with fail
  clear hW0
  by_cases c0 : 1 ≤ x.number ∧ x.number ≤ 4
  · have C0 := hid c0
    clear c0
    go_upto_region 3 with (refine (isWorker_any x.number _).mono ?_; rintro e W1 ⟨hs, hW⟩; obtain rfl := hW.symm; have hq := hs.pos C0.out; obtain rfl := hq; clear hs)
    cases hh : x.has
    · have HH := hid hh
      go_wp2_with (first | (refine wpList_load_mid rfl 41 _ rfl (w.heap.size) 3 rfl [.int .i64 x.offer.kind, .int .i64 x.offer.to, .int .i64 x.offer.sender, .int .i64 x.offer.epoch, .int .i64 x.offer.edit, .string x.offer.target.name, .string x.offer.target.tool, .string x.offer.target.arg, .slice ad0 x.offer.target.ins.length cp0, .slice ad1 x.offer.target.outs.length cp1, .slice ad2 x.offer.seen.length cp2, .int .i64 x.offer.count, .bool x.offer.turn.over, .int .i64 x.offer.turn.code, .string x.offer.turn.text, .int .i64 x.offer.turn.kind, .string x.offer.turn.name, .int .i64 x.offer.turn.steps, .slice ad3 x.offer.turn.files.length cp3, .slice ad4 x.offer.turn.said.length cp4] _ HRG.out Tryz.underlying41 rfl (by kernel_rfl) ?_))
      refine (sameMs_none x.offer _ HM.out (K0.out.next HB0.out.lo) (K1.out.next HB0.out.lo) (K2.out.next HB0.out.lo) (K3.out.next HB0.out.lo) (K4.out.next HB0.out.lo)).mono ?_
      rintro e W2 ⟨⟨b, rfl, hb⟩, hb2⟩
      have HS := hid hb
      have HB2 := hid (HB0.out.next hb2)
      clear hb hb2
      go_wp2
      go_ret
      exact ⟨⟨b, rfl, HS.out.trans ⟨fun h => ⟨C0.out, .inl ⟨HH.out, h⟩⟩, fun h => by
        rcases h.2 with h2 | h2
        · exact h2.2
        · have h3 := h2.1
          rw [HH.out] at h3
          cases h3⟩⟩, HB2.out.lo⟩
    · have HH := hid hh
      cases hu : x.up
      · have HU := hid hu
        go_wp2
        go_ret
        refine ⟨says_f fun h => ?_, HB0.out.lo⟩
        rcases h.2 with h2 | h2
        · have h3 := h2.1
          rw [HH.out] at h3
          cases h3
        · have h3 := h2.2.1
          rw [HU.out] at h3
          cases h3
      · have HU := hid hu
        rw [hh, hu] at HRW
        go_wp2_with (first | (refine wpList_taken rfl fun K hK => ?_; refine wp_load_mid 43 _ rfl (w.heap.size) 0 rfl [(.int .i64 x.number), .bool true, .bool true, .int .i64 x.offer.kind, .int .i64 x.offer.to, .int .i64 x.offer.sender, .int .i64 x.offer.epoch, .int .i64 x.offer.edit, .string x.offer.target.name, .string x.offer.target.tool, .string x.offer.target.arg, .slice ad0 x.offer.target.ins.length cp0, .slice ad1 x.offer.target.outs.length cp1, .slice ad2 x.offer.seen.length cp2, .int .i64 x.offer.count, .bool x.offer.turn.over, .int .i64 x.offer.turn.code, .string x.offer.turn.text, .int .i64 x.offer.turn.kind, .string x.offer.turn.name, .int .i64 x.offer.turn.steps, .slice ad3 x.offer.turn.files.length cp3, .slice ad4 x.offer.turn.said.length cp4] _ HRW.out Tryz.underlying43 rfl (by kernel_rfl) ?_; refine hK _ _ ?_; clear hK K) | (refine wpList_taken rfl fun K hK => ?_; refine wp_load_mid 41 _ rfl (w.heap.size) 3 rfl [.int .i64 x.offer.kind, .int .i64 x.offer.to, .int .i64 x.offer.sender, .int .i64 x.offer.epoch, .int .i64 x.offer.edit, .string x.offer.target.name, .string x.offer.target.tool, .string x.offer.target.arg, .slice ad0 x.offer.target.ins.length cp0, .slice ad1 x.offer.target.outs.length cp1, .slice ad2 x.offer.seen.length cp2, .int .i64 x.offer.count, .bool x.offer.turn.over, .int .i64 x.offer.turn.code, .string x.offer.turn.text, .int .i64 x.offer.turn.kind, .string x.offer.turn.name, .int .i64 x.offer.turn.steps, .slice ad3 x.offer.turn.files.length cp3, .slice ad4 x.offer.turn.said.length cp4] _ HRG.out Tryz.underlying41 rfl (by kernel_rfl) ?_; refine hK _ _ ?_; clear hK K))
        have HMH := hid (mayHave_any x x.offer W0 HM.out (K0.out.next HB0.out.lo) (K1.out.next HB0.out.lo) (K2.out.next HB0.out.lo) (K3.out.next HB0.out.lo) (K4.out.next HB0.out.lo) (K0.out.next HB0.out.lo) (K1.out.next HB0.out.lo) (K2.out.next HB0.out.lo) (K3.out.next HB0.out.lo) (K4.out.next HB0.out.lo))
        rw [hh, hu] at HMH
        refine HMH.out.mono ?_
        rintro e W2 ⟨⟨b, rfl, hb⟩, hb2⟩
        have HS := hid hb
        have HB2 := hid (HB0.out.next hb2)
        clear hb hb2
        go_wp2
        go_ret
        exact ⟨⟨b, rfl, HS.out.trans ⟨fun h => ⟨C0.out, .inr ⟨HH.out, HU.out, h⟩⟩, fun h => by
          rcases h.2 with h2 | h2
          · have h3 := h2.1
            rw [HH.out] at h3
            cases h3
          · exact h2.2.2⟩⟩, HB2.out.lo⟩
  · have C0 := hid c0
    clear c0
    go_upto_region 2 with (refine (isWorker_any x.number _).mono ?_; rintro e W1 ⟨hs, hW⟩; obtain rfl := hW.symm; have hq := hs.neg C0.out; obtain rfl := hq; clear hs)
    go_wp2
    go_ret
    exact ⟨says_f fun h => C0.out h.1, HB0.out.lo⟩
end Go.Proofs.YtlopcjhipajdcaaGreatDoor.Y
