/- Plain mathematics of chapter 9, continued: the mixing of hashes. No program is imported. -/
import Derived.Test.YtmdnbmekbhljkaaCk
import Derived.Laws.Entries
set_option linter.unusedVariables false
namespace Go.Proofs.Ytmdnbmekbhljkaa.Ck
open Go

/-- Numbers as unsigned integers of the model. -/
theorem wrap_u64 (n : Int) : IntKind.u64.wrap n = n % 18446744073709551616 := by simp [IntKind.wrap, IntKind.bits, IntKind.signed]
theorem wrap_u32 (n : Int) : IntKind.u32.wrap n = n % 4294967296 := by simp [IntKind.wrap, IntKind.bits, IntKind.signed]
theorem wrap_u8 (n : Int) : IntKind.u8.wrap n = n % 256 := by simp [IntKind.wrap, IntKind.bits, IntKind.signed]
theorem xor_nat (k : IntKind) (b : Nat) (hb : b = k.bits) (hw : ∀ n : Nat, n < 2 ^ b → k.wrap (n : Int) = n) (x y : Nat) (hx : x < 2 ^ b) (hy : y < 2 ^ b) : bits .xor k (x : Int) (y : Int) = ((x ^^^ y : Nat) : Int) := by
  subst hb
  have h1 : (BitVec.ofInt k.bits (x : Int)).toNat = x := by
    rw [BitVec.ofInt_natCast, BitVec.toNat_ofNat]; exact Nat.mod_eq_of_lt hx
  have h2 : (BitVec.ofInt k.bits (y : Int)).toNat = y := by
    rw [BitVec.ofInt_natCast, BitVec.toNat_ofNat]; exact Nat.mod_eq_of_lt hy
  show k.wrap ((BitVec.ofInt k.bits (x : Int) ^^^ BitVec.ofInt k.bits (y : Int)).toNat : Int) = _
  rw [BitVec.toNat_xor, h1, h2]
  exact hw _ (Nat.xor_lt_two_pow hx hy)
theorem x64 {x y : Nat} (hx : x < 18446744073709551616) (hy : y < 18446744073709551616) : bits .xor .u64 (x : Int) (y : Int) = ((x ^^^ y : Nat) : Int) :=
  xor_nat .u64 64 rfl (fun n h => by rw [wrap_u64]; have h' : n < 18446744073709551616 := h; omega) x y hx hy
theorem x32 {x y : Nat} (hx : x < 4294967296) (hy : y < 4294967296) : bits .xor .u32 (x : Int) (y : Int) = ((x ^^^ y : Nat) : Int) :=
  xor_nat .u32 32 rfl (fun n h => by rw [wrap_u32]; have h' : n < 4294967296 := h; omega) x y hx hy
theorem x8 {x y : Nat} (hx : x < 256) (hy : y < 256) : bits .xor .u8 (x : Int) (y : Int) = ((x ^^^ y : Nat) : Int) :=
  xor_nat .u8 8 rfl (fun n h => by rw [wrap_u8]; have h' : n < 256 := h; omega) x y hx hy

def M (c x : Nat) : Nat := x * c % 18446744073709551616
def S (k x : Nat) : Nat := x ^^^ x / 2 ^ k
theorem M_lt (c x : Nat) : M c x < 18446744073709551616 := Nat.mod_lt _ (by decide)
theorem S_lt {k x : Nat} (h : x < 18446744073709551616) : S k x < 18446744073709551616 :=
  Nat.xor_lt_two_pow (n := 64) h (Nat.lt_of_le_of_lt (Nat.div_le_self _ _) h)
theorem M_inj {c d x y : Nat} (hcd : c * d % 18446744073709551616 = 1) (hx : x < 18446744073709551616) (hy : y < 18446744073709551616) (h : M c x = M c y) : x = y := by
  have key : ∀ z, z < 18446744073709551616 → M d (M c z) = z := fun z hz => by
    unfold M
    rw [Nat.mod_mul_mod, Nat.mul_assoc, Nat.mul_mod, hcd, Nat.mul_one, Nat.mod_mod, Nat.mod_eq_of_lt hz]
  rw [← key x hx, ← key y hy, h]
theorem xor_zero_eq {x y : Nat} (h : x ^^^ y = 0) : x = y := by
  have := congrArg (· ^^^ y) h
  simp only [Nat.xor_assoc, Nat.xor_self, Nat.xor_zero, Nat.zero_xor] at this
  exact this
theorem S_inj {k x y : Nat} (hk : 0 < k) (h : S k x = S k y) : x = y := by
  unfold S at h
  have h1 : (x ^^^ y) ^^^ (x ^^^ y) / 2 ^ k = 0 := by
    rw [Nat.xor_div_two_pow, xor_four, h, Nat.xor_self]
  have h2 := xor_zero_eq h1
  have h3 : (2 : Nat) ≤ 2 ^ k := by
    have := Nat.pow_le_pow_right (n := 2) (by omega) hk
    simpa using this
  have h4 : x ^^^ y = 0 := by
    by_cases h0 : x ^^^ y = 0
    · exact h0
    · have := Nat.div_lt_self (n := x ^^^ y) (by omega) (k := 2 ^ k) (by omega)
      omega
  exact xor_zero_eq h4
def mxN (x : Nat) : Nat := S 29 (M 15485907386658061715 (S 32 (M 11400714819323198485 x)))
theorem mxN_lt (x : Nat) : mxN x < 18446744073709551616 := S_lt (M_lt _ _)
theorem mxN_inj {x y : Nat} (hx : x < 18446744073709551616) (hy : y < 18446744073709551616) (h : mxN x = mxN y) : x = y := by
  unfold mxN at h
  have h1 := S_inj (by omega) h
  have h2 := M_inj (d := 14982988110149298331) (by decide) (S_lt (M_lt _ _)) (S_lt (M_lt _ _)) h1
  have h3 := S_inj (by omega) h2
  exact M_inj (d := 17428512612931826493) (by decide) hx hy h3
/-- Mix64, HashInts. -/
def un (n : Int) : Nat := (n % 18446744073709551616).toNat
theorem un_lt (n : Int) : un n < 18446744073709551616 := by unfold un; omega
theorem un_inj {a b : Int} (ha : -9223372036854775808 ≤ a ∧ a ≤ 9223372036854775807) (hb : -9223372036854775808 ≤ b ∧ b ≤ 9223372036854775807) (h : un a = un b) : a = b := by unfold un at h; omega
def mx (h : Nat) (n : Int) : Nat := mxN (h ^^^ un n)
theorem mx_lt (h : Nat) (n : Int) : mx h n < 18446744073709551616 := mxN_lt _
theorem xor_left {a b c : Nat} (h : a ^^^ c = b ^^^ c) : a = b := by
  have := congrArg (· ^^^ c) h
  simpa [Nat.xor_assoc] using this
theorem mx_inj_h {h g : Nat} {n : Int} (hh : h < 18446744073709551616) (hg : g < 18446744073709551616) : mx h n = mx g n ↔ h = g := by
  constructor
  · intro e
    exact xor_left (mxN_inj (Nat.xor_lt_two_pow (n := 64) hh (un_lt n)) (Nat.xor_lt_two_pow (n := 64) hg (un_lt n)) e)
  · rintro rfl; rfl
theorem mx_inj_n {h : Nat} {a b : Int} (hh : h < 18446744073709551616) (ha : -9223372036854775808 ≤ a ∧ a ≤ 9223372036854775807) (hb : -9223372036854775808 ≤ b ∧ b ≤ 9223372036854775807) : mx h a = mx h b ↔ a = b := by
  constructor
  · intro e
    have := mxN_inj (Nat.xor_lt_two_pow (n := 64) hh (un_lt a)) (Nat.xor_lt_two_pow (n := 64) hh (un_lt b)) e
    rw [Nat.xor_comm h, Nat.xor_comm h] at this
    exact un_inj ha hb (xor_left this)
  · rintro rfl; rfl
def hsh (l : List Int) : Nat := l.foldl mx l.length
theorem hsh_take {l : List Int} {h : Nat} {k : Nat} (hk : k < l.length) : (l.take (k + 1)).foldl mx h = mx ((l.take k).foldl mx h) l[k] := by
  rw [List.take_add_one, List.getElem?_eq_getElem hk, List.foldl_append, Option.toList_some, List.foldl_cons, List.foldl_nil]
theorem fold_lt (l : List Int) {h : Nat} (hh : h < 18446744073709551616) : l.foldl mx h < 18446744073709551616 := by
  induction l generalizing h with
  | nil => exact hh
  | cons x r ih => exact ih (mx_lt _ _)
/-- The checksum's bytes, one after another. -/
def leK : Nat → Nat → List Int
  | 0, v => []
  | k + 1, v => ((v % 256 : Nat) : Int) :: leK k (v / 256)
theorem le4_K (v : Nat) : le4 v = leK 4 v := rfl

end Go.Proofs.Ytmdnbmekbhljkaa.Ck
