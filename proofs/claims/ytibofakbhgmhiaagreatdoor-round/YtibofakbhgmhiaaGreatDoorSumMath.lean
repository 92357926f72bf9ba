import Derived.Laws.BitsAllLaws
namespace Go.Proofs.YtibofakbhgmhiaaGreatDoor

def tabN : List Nat := [0, 498536548, 997073096, 651767980, 1994146192, 1802195444, 1303535960, 1342533948, 3988292384, 4027552580, 3604390888, 3412177804, 2607071920, 2262029012, 2685067896, 3183342108]
def tabAt (j : Nat) : Nat := tabN.getD j 0
def nib (x : Nat) : Nat := (x / 16) ^^^ tabAt (x % 16)
def stepB (x : Nat) (b : UInt8) : Nat := nib (nib (x ^^^ b.toNat))
def foldB (l : List UInt8) : Nat := l.foldl stepB 4294967295
def crcN (l : List UInt8) : Nat := 4294967295 - foldB l

theorem tabAt_lt (j : Nat) : tabAt j < 4294967296 := by
  unfold tabAt
  by_cases h : j < 16
  · have : j = 0 ∨ j = 1 ∨ j = 2 ∨ j = 3 ∨ j = 4 ∨ j = 5 ∨ j = 6 ∨ j = 7 ∨ j = 8 ∨ j = 9 ∨ j = 10 ∨ j = 11 ∨ j = 12 ∨ j = 13 ∨ j = 14 ∨ j = 15 := by omega
    rcases this with rfl | rfl | rfl | rfl | rfl | rfl | rfl | rfl | rfl | rfl | rfl | rfl | rfl | rfl | rfl | rfl <;> decide
  · have : tabN[j]? = none := by rw [List.getElem?_eq_none_iff]; simp [tabN]; omega
    simp [List.getD, this]
theorem xor_lt {x y : Nat} (hx : x < 4294967296) (hy : y < 4294967296) : x ^^^ y < 4294967296 :=
  Nat.xor_lt_two_pow (n := 32) hx hy
theorem nib_lt {x : Nat} (hx : x < 4294967296) : nib x < 4294967296 := xor_lt (by omega) (tabAt_lt _)
theorem stepB_lt {x : Nat} (b : UInt8) (hx : x < 4294967296) : stepB x b < 4294967296 :=
  nib_lt (nib_lt (xor_lt hx (by have := b.toNat_lt; omega)))
theorem foldl_lt : ∀ (l : List UInt8) (x : Nat), x < 4294967296 → l.foldl stepB x < 4294967296
  | [], _, h => h
  | b :: l, _, h => foldl_lt l _ (stepB_lt b h)
theorem foldB_lt (l : List UInt8) : foldB l < 4294967296 := foldl_lt l _ (by omega)
theorem crcN_lt (l : List UInt8) : crcN l < 4294967296 := by unfold crcN; omega
theorem foldB_snoc (l : List UInt8) (b : UInt8) : foldB (l ++ [b]) = stepB (foldB l) b := by simp [foldB]
theorem nib_and {y : Nat} (hy : y < 4294967296) : bits .and .u32 (y : Int) 15 = ((y % 16 : Nat) : Int) := by
  rw [show (15 : Int) = ((15 : Nat) : Int) from rfl, u32_and_nat _ _ hy (by omega), nat_mask4]
theorem nib_xor {y : Nat} (hy : y < 4294967296) : bits .xor .u32 ((y : Int) / 16) ((tabAt (y % 16) : Nat) : Int) = ((nib y : Nat) : Int) := by
  rw [show ((y : Int) / 16) = ((y / 16 : Nat) : Int) from by omega, u32_xor_nat _ _ (by omega) (tabAt_lt _)]; rfl
theorem byte_xor {x : Nat} (b : UInt8) (hx : x < 4294967296) : bits .xor .u32 (x : Int) (b.toNat : Int) = ((x ^^^ b.toNat : Nat) : Int) :=
  u32_xor_nat _ _ hx (by have := b.toNat_lt; omega)
theorem turned {x : Nat} (hx : x < 4294967296) : bits .xor .u32 IntKind.u32.max (x : Int) = ((4294967295 - x : Nat) : Int) := by
  rw [show IntKind.u32.max = ((4294967295 : Nat) : Int) from by decide, u32_xor_nat _ _ (by omega) hx, Nat.xor_comm]
  congr 1
  have := BitVec.toNat_not (x := BitVec.ofNat 32 x)
  have h2 : (BitVec.ofNat 32 x).toNat = x := by simp [BitVec.toNat_ofNat]; omega
  rw [h2] at this
  rw [show (2 ^ 32 - 1 - x) = 4294967295 - x from rfl] at this
  rw [← this, ← BitVec.xor_allOnes]
  simp [BitVec.toNat_xor, h2]
end Go.Proofs.YtibofakbhgmhiaaGreatDoor
