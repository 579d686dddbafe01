/- Plain mathematics of reading, as the program parts it: a byte; its digits decoded; the header without its sign. No program is imported. -/
import Derived.Test.YtgpcldhgkaddeaaByN
set_option linter.unusedVariables false
namespace Go.Proofs.Ytgpcldhgkaddeaa.By
open Go

/-- readByte. -/
def rdByte (bs : List Int) (p : Int) : Int × Int × Int :=
  if p < 0 ∨ (bs.length : Int) < p then (0, 0, 2) else if p = bs.length then (0, 0, 4) else (bs.getD p.toNat 0, p + 1, 0)
/-- decode. -/
def dok (ds : List Int) (neg : Bool) : Bool := !(decide (0 < ds.length) && ds.getD 0 0 == 0) && (if neg then decide ((und ds : Int) ≤ 9223372036854775808) else decide ((und ds : Int) ≤ 9223372036854775807))
def dval (ds : List Int) (neg : Bool) : Int := if neg then -(und ds : Int) else und ds
/-- The header without its sign. -/
def hk (h : Int) : Int := if 16 ≤ h then h - 16 else h
theorem hk_dec : ∀ h : Fin 256, ((8 < (h.val &&& 239) ∨ h.val = 16) ↔ (8 < hk h.val ∨ (16 ≤ (h.val : Int) ∧ hk h.val = 0))) ∧ (¬ (8 < hk h.val ∨ (16 ≤ (h.val : Int) ∧ hk h.val = 0)) → (((h.val &&& 239 : Nat)) : Int) = hk h.val) := by decide +kernel
theorem hk_at {h : Int} (h0 : 0 ≤ h) (h1 : h < 256) : ((8 < (h.toNat &&& 239) ∨ h = 16) ↔ (8 < hk h ∨ (16 ≤ h ∧ hk h = 0))) ∧ (¬ (8 < hk h ∨ (16 ≤ h ∧ hk h = 0)) → (((h.toNat &&& 239 : Nat)) : Int) = hk h) := by
  obtain ⟨n, rfl⟩ : ∃ n : Nat, h = n := ⟨h.toNat, by omega⟩
  have := hk_dec ⟨n, by omega⟩
  simp only [Int.toNat_natCast] at *
  refine ⟨⟨fun g => this.1.1 (by omega), fun g => by have := this.1.2 g; omega⟩, this.2⟩
theorem rd_step {bs : List Int} {q : Nat} {h : Int} (hq : q < bs.length) (hh : bs[q] = h) : rdInt bs q =
    if 8 < hk h ∨ (16 ≤ h ∧ hk h = 0) then (0, 0, 3) else if (bs.length : Int) - ((q : Int) + 1) < hk h then (0, 0, 4) else
    if dok ((bs.drop (q + 1)).take (hk h).toNat) (decide (16 ≤ h)) = true then (dval ((bs.drop (q + 1)).take (hk h).toNat) (decide (16 ≤ h)), (q : Int) + 1 + hk h, 0) else (0, 0, 3) := by
  unfold rdInt
  rw [if_neg (by omega), if_neg (by omega)]
  simp only [Int.toNat_natCast, List.getD_eq_getElem?_getD, List.getElem?_eq_getElem hq, Option.getD_some, hh]
  simp only [show (if 16 ≤ h then h - 16 else h) = hk h from rfl]
  by_cases c1 : 8 < hk h ∨ (16 ≤ h ∧ hk h = 0)
  · rw [if_pos c1, if_pos c1]
  rw [if_neg c1, if_neg c1]
  by_cases c2 : (bs.length : Int) - q - 1 < hk h
  · rw [if_pos c2, if_pos (by omega)]
  rw [if_neg c2, if_neg (c := (bs.length : Int) - ((q : Int) + 1) < hk h) (by omega)]
  generalize hds : (bs.drop (q + 1)).take (hk h).toNat = ds
  have hn : hk h = (hk h).toNat ∨ hk h < 0 := by omega
  have hl : ds.length = (hk h).toNat := by rw [← hds, List.length_take, List.length_drop]; omega
  have hg : 0 < hk h → ds.getD 0 0 = (bs[q + 1]?).getD 0 := fun g => by
    rw [← hds, List.getD_eq_getElem?_getD, List.getElem?_take_of_lt (by omega), List.getElem?_drop]
  have key : dok ds (decide (16 ≤ h)) = true ↔ ¬ ((0 < hk h ∧ (bs[q + 1]?).getD 0 = 0) ∨ (¬ 16 ≤ h ∧ 9223372036854775807 < (und ds : Int)) ∨ (16 ≤ h ∧ 9223372036854775808 < (und ds : Int))) := by
    unfold dok
    by_cases g : 0 < hk h
    · rw [hg g, hl]
      by_cases k : 16 ≤ h <;> by_cases z : (bs[q + 1]?).getD 0 = 0 <;> simp [k, z, g] <;> omega
    · rw [hl]
      by_cases k : 16 ≤ h <;> simp [k, g] <;> omega
  by_cases c3 : dok ds (decide (16 ≤ h)) = true
  · rw [if_pos c3, if_neg (key.1 c3)]
    simp only [dval, decide_eq_true_eq]
  · rw [if_neg c3, if_pos (Classical.not_not.1 fun g => c3 (key.2 g))]

end Go.Proofs.Ytgpcldhgkaddeaa.By
