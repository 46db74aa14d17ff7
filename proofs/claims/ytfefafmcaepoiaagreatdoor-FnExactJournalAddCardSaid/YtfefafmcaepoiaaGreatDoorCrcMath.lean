/- Plain mathematics of the CRC: a register of 32 bits, byte by byte, the lowest bit first. No Go here. -/
import Derived.WalkKit
import Derived.Laws.BitsAllLaws
namespace Go.Proofs.YtfefafmcaepoiaaGreatDoor
namespace Cr
/-- one bit -/
def stp (r : Nat) : Nat := if r % 2 = 1 then (r / 2) ^^^ 3988292384 else r / 2
/-- k bits -/
def stpN : Nat → Nat → Nat
  | 0, r => r
  | k + 1, r => stp (stpN k r)
/-- one byte -/
def byteStep (r b : Nat) : Nat := stpN 8 (r ^^^ b)
/-- a text's bytes -/
def run (r : Nat) (l : List UInt8) : Nat := l.foldl (fun r b => byteStep r b.toNat) r
/-- the CRC goes on from c over a text -/
def more (c : Nat) (s : ByteArray) : Nat := run (c ^^^ 4294967295) s.data.toList ^^^ 4294967295

theorem xor_lt {a b : Nat} (ha : a < 4294967296) (hb : b < 4294967296) : a ^^^ b < 4294967296 := Nat.xor_lt_two_pow (n := 32) ha hb
theorem stp_lt {r : Nat} (h : r < 4294967296) : stp r < 4294967296 := by
  unfold stp; split
  · exact xor_lt (by omega) (by omega)
  · omega
theorem stpN_lt {r : Nat} (h : r < 4294967296) : ∀ k, stpN k r < 4294967296
  | 0 => h
  | k + 1 => stp_lt (stpN_lt h k)
theorem byte_lt {r b : Nat} (h : r < 4294967296) (hb : b < 256) : byteStep r b < 4294967296 := stpN_lt (xor_lt h (by omega)) 8
theorem run_lt : ∀ (l : List UInt8) {r : Nat}, r < 4294967296 → run r l < 4294967296
  | [], _, h => h
  | b :: l, r, h => by
    have hb : b.toNat < 256 := b.toNat_lt
    exact run_lt l (byte_lt h hb)
theorem more_lt {c : Nat} (s : ByteArray) (h : c < 4294967296) : more c s < 4294967296 := xor_lt (run_lt _ (xor_lt h (by omega))) (by omega)

theorem run_take_succ (r : Nat) (s : ByteArray) (k : Nat) (h : k < s.size) : run r (s.data.toList.take (k + 1)) = byteStep (run r (s.data.toList.take k)) s[k].toNat := by
  have e : s.data.toList.take (k + 1) = s.data.toList.take k ++ [s[k]] := by
    rw [List.take_succ_eq_append_getElem (by simpa using h)]; rfl
  rw [e]; simp [run, List.foldl_append]
theorem run_take_all (r : Nat) (s : ByteArray) (k : Nat) (h : s.size ≤ k) : run r (s.data.toList.take k) = run r s.data.toList := by
  rw [List.take_of_length_le (by simpa using h)]

theorem xi (a b : Nat) (ha : a < 4294967296) (hb : b < 4294967296) : bits .xor .u32 (a : Int) (b : Int) = ((a ^^^ b : Nat) : Int) := u32_xor_nat a b ha hb
theorem xmask (a : Nat) (ha : a < 4294967296) : bits .xor .u32 (a : Int) 3988292384 = ((a ^^^ 3988292384 : Nat) : Int) := u32_xor_nat a 3988292384 ha (by omega)
theorem xmax (a : Nat) (ha : a < 4294967296) : bits .xor .u32 (a : Int) 4294967295 = ((a ^^^ 4294967295 : Nat) : Int) := u32_xor_nat a 4294967295 ha (by omega)
theorem xmax' (a : Nat) (ha : a < 4294967296) : bits .xor .u32 IntKind.u32.max (a : Int) = ((a ^^^ 4294967295 : Nat) : Int) := by
  rw [show IntKind.u32.max = ((4294967295 : Nat) : Int) from by decide, u32_xor_nat 4294967295 a (by omega) ha, Nat.xor_comm]
theorem and1 (a : Nat) (ha : a < 4294967296) : bits .and .u32 (a : Int) 1 = ((a % 2 : Nat) : Int) := by
  rw [show (1 : Int) = ((1 : Nat) : Int) from rfl, u32_and_nat a 1 ha (by omega), nat_mask1]
end Cr
end Go.Proofs.YtfefafmcaepoiaaGreatDoor
