/-
  Kinds of bytes.
-/
import Derived.Test.YtokabkhnidlcnabDoorCoreE
namespace Go.Proofs.YtokabkhnidlcnabDoor
set_option maxRecDepth 100000
open Go.RowKit

/-- The byte at a place. -/
def bt (s : ByteArray) (i : Nat) : UInt8 := s.data[i]?.getD 0

theorem bt_get {s : ByteArray} {i : Nat} (h : i < s.size) : s[i] = bt s i := by
  have h' : i < s.data.size := h
  show s.data[i] = _
  unfold bt
  rw [Array.getElem?_eq_getElem h']
  rfl

/-- The kind of a byte: 1 a blank, 2 a digit, 3 a letter, 4 and 5 the brackets, 6 a sign, 0 another. -/
def cls (c : UInt8) : Nat :=
  if c.toNat = 32 ∨ c.toNat = 9 ∨ c.toNat = 10 then 1
  else if 48 ≤ c.toNat ∧ c.toNat ≤ 57 then 2
  else if (65 ≤ c.toNat ∧ c.toNat ≤ 90) ∨ (97 ≤ c.toNat ∧ c.toNat ≤ 122) ∨ c.toNat = 95 then 3
  else if c.toNat = 40 then 4
  else if c.toNat = 41 then 5
  else if sgB c = true then 6
  else 0

theorem cls_sg (c : UInt8) : sgB c = decide (cls c = 6) := by
  obtain ⟨v⟩ := c
  revert v
  decide +kernel

theorem cls_blank (c : UInt8) : (cls c = 1) ↔ (c.toNat = 32 ∨ c.toNat = 9 ∨ c.toNat = 10) := by
  obtain ⟨v⟩ := c
  revert v
  decide +kernel
theorem cls_dig (c : UInt8) : (cls c = 2) ↔ (48 ≤ c.toNat ∧ c.toNat ≤ 57) := by
  obtain ⟨v⟩ := c
  revert v
  decide +kernel
theorem cls_let (c : UInt8) : (cls c = 3) ↔ ((65 ≤ c.toNat ∧ c.toNat ≤ 90) ∨ (97 ≤ c.toNat ∧ c.toNat ≤ 122) ∨ c.toNat = 95) := by
  obtain ⟨v⟩ := c
  revert v
  decide +kernel
theorem cls_open (c : UInt8) : (cls c = 4) ↔ c = 40 := by
  obtain ⟨v⟩ := c
  revert v
  decide +kernel
theorem cls_close (c : UInt8) : (cls c = 5) ↔ c = 41 := by
  obtain ⟨v⟩ := c
  revert v
  decide +kernel
theorem cls_lt (c : UInt8) : cls c < 7 := by
  unfold cls
  split
  · omega
  · split
    · omega
    · split
      · omega
      · split
        · omega
        · split
          · omega
          · split <;> omega

/-- What the bytes of a whole text make it. -/
def NumT (t : ByteArray) : Prop := 1 ≤ t.size ∧ ∀ j, j < t.size → cls (bt t j) = 2
def NameT (t : ByteArray) : Prop := 1 ≤ t.size ∧ ∀ j, j < t.size → (cls (bt t j) = 3 ∨ (j ≠ 0 ∧ cls (bt t j) = 2))

/-- The same as Bools. -/
def numB (t : ByteArray) : Bool := decide (1 ≤ t.size) && (List.range t.size).all fun j => cls (bt t j) == 2
def nameB (t : ByteArray) : Bool := decide (1 ≤ t.size) && (List.range t.size).all fun j => cls (bt t j) == 3 || (j != 0 && cls (bt t j) == 2)
theorem numB_iff (t : ByteArray) : numB t = true ↔ NumT t := by
  simp [numB, NumT, List.all_eq_true]
theorem nameB_iff (t : ByteArray) : nameB t = true ↔ NameT t := by
  simp [nameB, NameT, List.all_eq_true]
theorem data_eq (t : ByteArray) (a : Array UInt8) : t.data = a ↔ t = ⟨a⟩ := ⟨fun h => by cases t; simp_all, fun h => by rw [h]⟩
end Go.Proofs.YtokabkhnidlcnabDoor
