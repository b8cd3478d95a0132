import Derived.WalkKit
import Derived.Below
import Derived.Test.YtfndbnbnimhnaaaGreatDoorJ00
/-! Numbers of Mill's types as plain mathematics. -/
namespace Go.Proofs.YtfndbnbnimhnaaaGreatDoor.V
open Go.RowKit
set_option maxRecDepth 20000
/-- The kind of an integer type. -/
def kT (t : Int) : IntKind :=
  if t = 3 then .u8 else if t = 4 then .u16 else if t = 5 then .u32 else if t = 6 then .u64
  else if t = 7 then .i8 else if t = 8 then .i16 else if t = 9 then .i32 else .i64
theorem kT3 : kT 3 = .u8 := rfl
theorem kT4 : kT 4 = .u16 := rfl
theorem kT5 : kT 5 = .u32 := rfl
theorem kT6 : kT 6 = .u64 := rfl
theorem kT7 : kT 7 = .i8 := rfl
theorem kT8 : kT 8 = .i16 := rfl
theorem kT9 : kT 9 = .i32 := rfl
theorem kT10 : kT 10 = .i64 := rfl
/-- A number taken into a kind, as it lies in N. -/
def intoK (K : IntKind) (n : Int) : Int := IntKind.i64.wrap (K.wrap n)
def into (t n : Int) : Int := intoK (kT t) n
theorem bits_dvd (K : IntKind) : (2 ^ K.bits : Int) ∣ 2 ^ 64 := by
  cases K <;> (simp only [IntKind.bits]; decide)
theorem wrap_emod (K : IntKind) (n : Int) : K.wrap n % 2 ^ K.bits = n % 2 ^ K.bits := by
  cases K <;> simp [IntKind.wrap, IntKind.bits, IntKind.signed] <;> (try split) <;> omega
theorem wrap_congr (K : IntKind) {n m : Int} (h : n % 2 ^ K.bits = m % 2 ^ K.bits) : K.wrap n = K.wrap m := by
  unfold IntKind.wrap
  rw [h]
theorem emod_down (K : IntKind) {n m : Int} (h : n % 2 ^ 64 = m % 2 ^ 64) : n % 2 ^ K.bits = m % 2 ^ K.bits := by
  have h2 : n % 2 ^ 64 % 2 ^ K.bits = m % 2 ^ 64 % 2 ^ K.bits := by rw [h]
  rwa [Int.emod_emod_of_dvd _ (bits_dvd K), Int.emod_emod_of_dvd _ (bits_dvd K)] at h2
theorem u64_emod (K : IntKind) (n : Int) : IntKind.u64.wrap n % 2 ^ K.bits = n % 2 ^ K.bits := emod_down K (wrap_emod .u64 n)
theorem intoK_congr (K : IntKind) {n m : Int} (h : n % 2 ^ K.bits = m % 2 ^ K.bits) : intoK K n = intoK K m := by
  unfold intoK; rw [wrap_congr K h]
theorem intoK_u64 (K : IntKind) (n : Int) : intoK K (IntKind.u64.wrap n) = intoK K n := intoK_congr K (u64_emod K n)
/-! Bits. -/
/-! Quotient and rest. -/
end Go.Proofs.YtfndbnbnimhnaaaGreatDoor.V
namespace Go.Proofs.YtfndbnbnimhnaaaGreatDoor
end Go.Proofs.YtfndbnbnimhnaaaGreatDoor
