import Derived.Test.YtlopcjhipajdcaaGreatDoorJ07
import Derived.Test.YtlopcjhipajdcaaGreatDoorJ05
/-! What a right worker is; rows that were made, as rows that came in. -/
namespace Go.Proofs.YtlopcjhipajdcaaGreatDoor.Y
open Go.RowKit R
open Go.Proofs.YtlopcjhipajdcaaGreatDoor.J (FileOk BegOk RepOk ltB Says says_t says_f)
set_option maxRecDepth 20000
/-- Texts of a row go up. -/
def UpT (l : List ByteArray) : Prop := ∀ i, i + 1 < l.length → ltB (l.getD i ⟨#[]⟩) (l.getD (i + 1) ⟨#[]⟩) = true
def FilesT (l : List ByteArray) : Prop := ∀ i, i < l.length → FileOk (l.getD i ⟨#[]⟩)
/-- It could be one of orders. -/
def TgOk (t : Tg) : Prop := FileOk t.name ∧ FileOk t.tool ∧ t.arg.size ≤ 3000 ∧ t.outs.length ≤ 20 ∧ FilesT t.ins ∧ FilesT t.outs ∧ t.ins.length ≤ 200 ∧ t.outs.length ≠ 0 ∧ UpT t.ins ∧ UpT t.outs
def LookOk (k : Int) (s : ByteArray) : Prop := (k = 1 ∨ k = 2) ∧ FileOk s ∨ k = 3 ∧ BegOk s
def SnOk (x : Sn) : Prop := LookOk x.kind x.name ∧ RepOk x.reply.code x.reply.text
/-- They could be the looks of a target with n ins. -/
def SnsOk (n : Nat) (l : List Sn) : Prop := l.length ≤ n + 101 ∧ ∀ i, i < l.length → SnOk (l.getD i sn0)
def TgNone (t : Tg) : Prop := t.name.size = 0 ∧ t.tool.size = 0 ∧ t.arg.size = 0 ∧ t.ins = [] ∧ t.outs = []
def TuNone (u : Tu) : Prop := u.over = false ∧ u.code = 0 ∧ u.text.size = 0 ∧ u.kind = 0 ∧ u.name.size = 0 ∧ u.steps = 0 ∧ u.files = [] ∧ u.said = []
/-- What an offer asks besides its Kind. -/
def OfOk (m : Ms) : Prop := m.sender = 0 ∧ (1 ≤ m.to ∧ m.to ≤ 4) ∧ ((1 ≤ m.epoch ∧ m.epoch ≤ 200) ∧ 0 ≤ m.edit ∧ m.edit ≤ 1000) ∧ TgOk m.target ∧ SnsOk m.target.ins.length m.seen ∧ m.count = 0 ∧ TuNone m.turn
def MsNone (m : Ms) : Prop := m.kind = 0 ∧ m.to = 0 ∧ m.sender = 0 ∧ m.epoch = 0 ∧ m.edit = 0 ∧ TgNone m.target ∧ m.seen = [] ∧ m.count = 0 ∧ TuNone m.turn
/-- A message is an offer to a worker. -/
def OfTo (n : Int) (m : Ms) : Prop := m.kind = 1 ∧ m.to = n ∧ OfOk m
def WkOk (x : Wk) : Prop := (1 ≤ x.number ∧ x.number ≤ 4) ∧ (x.has = false ∧ MsNone x.offer ∨ x.has = true ∧ x.up = true ∧ OfTo x.number x.offer)
/-- Texts that are small enough. -/
def SmT (l : List ByteArray) : Prop := l.length ≤ 1048576 ∧ ∀ i, i < l.length → (l.getD i ⟨#[]⟩).size ≤ 1048576
def SmTg (t : Tg) : Prop := t.name.size ≤ 1048576 ∧ t.tool.size ≤ 1048576 ∧ t.arg.size ≤ 1048576 ∧ SmT t.ins ∧ SmT t.outs
def SmSn (l : List Sn) : Prop := l.length ≤ 1048576 ∧ ∀ i, i < l.length → (l.getD i sn0).name.size ≤ 1048576 ∧ (l.getD i sn0).reply.text.size ≤ 1048576
def SmTu (u : Tu) : Prop := u.text.size ≤ 1048576 ∧ u.name.size ≤ 1048576 ∧ u.files.length ≤ 1048576 ∧ u.said.length ≤ 1048576
def SmMs (m : Ms) : Prop := SmTg m.target ∧ SmSn m.seen ∧ SmTu m.turn
theorem smT_of {l : List ByteArray} (h : wSStr l l.length ≤ 1048576) : SmT l :=
  ⟨Nat.le_trans (wSStr_ge l _) h, fun i hi => by have := wSStr_at l hi; omega⟩
theorem smMs_of {m : Ms} (h : wMs m ≤ 1048576) : SmMs m := by
  unfold wMs wTg wTu at h
  refine ⟨⟨by omega, by omega, by omega, smT_of (by omega), smT_of (by omega)⟩, ⟨?_, fun i hi => ?_⟩, by omega, by omega, ?_, ?_⟩
  · have := wSSn_ge m.seen m.seen.length; omega
  · have := wSSn_at m.seen hi
    unfold wSn wRy at this
    constructor <;> omega
  · have := wSFl_ge m.turn.files m.turn.files.length; omega
  · have := wSStr_ge m.turn.said m.turn.said.length; omega
theorem size0 {s : ByteArray} (h : s.size = 0) : s = ⟨#[]⟩ := J.size_zero h
/-- In a region of the text's order: an operation whose guard is met. -/
theorem wpList_taken {P : Program} {ops : Array Oper} {rest : List Oper} {o : Oper} {a : Act} {w : World} {Q : Exit → Act → World → Prop} (hw : Region.wanted o (yielded ops a.tmps) = true)
    (h : ∀ K : Act → World → Prop, (∀ a w, wpList P ops Q rest a w → K a w) → o.wp P a w K Q) : wpList P ops Q (o :: rest) a w :=
  wpList_step fun K hK => by rw [if_pos hw]; exact h K hK
end Go.Proofs.YtlopcjhipajdcaaGreatDoor.Y
