/- Plain mathematics of chapter 9: the checksum as a linear register, sealing and opening, errors within 32 bits; the mixing of hashes. No program is imported. -/
import Derived.Test.YtmdnbmekbhljkaaByt
set_option linter.unusedVariables false
namespace Go.Proofs.Ytmdnbmekbhljkaa.Ck
open Go

/-- One step of the register. -/
def T (s : Nat) : Nat := if s % 2 = 1 then s / 2 ^^^ 2197175160 else s / 2
theorem T_lt {s : Nat} (h : s < 4294967296) : T s < 4294967296 := by
  unfold T; split
  · exact Nat.xor_lt_two_pow (n := 32) (by omega) (by decide)
  · omega
theorem T_zero : T 0 = 0 := by decide
theorem xor_swap (a b p : Nat) : (a ^^^ p) ^^^ (b ^^^ p) = a ^^^ b := by
  rw [Nat.xor_comm b p, Nat.xor_assoc, ← Nat.xor_assoc p p b, Nat.xor_self, Nat.zero_xor]
theorem T_xor (a b : Nat) : T (a ^^^ b) = T a ^^^ T b := by
  unfold T
  rw [Nat.xor_div_two]
  by_cases ha : a % 2 = 1 <;> by_cases hb : b % 2 = 1
  · rw [if_neg (by rw [Nat.xor_mod_two_eq_one]; simp [ha, hb]), if_pos ha, if_pos hb, xor_swap]
  · rw [if_pos (by rw [Nat.xor_mod_two_eq_one]; simp [ha, hb]), if_pos ha, if_neg hb, Nat.xor_assoc, Nat.xor_comm (b / 2), ← Nat.xor_assoc]
  · rw [if_pos (by rw [Nat.xor_mod_two_eq_one]; simp [ha, hb]), if_neg ha, if_pos hb, Nat.xor_assoc]
  · rw [if_neg (by rw [Nat.xor_mod_two_eq_one]; simp [ha, hb]), if_neg ha, if_neg hb]
theorem T_ne {s : Nat} (h : s < 4294967296) (h0 : s ≠ 0) : T s ≠ 0 := by
  intro e
  unfold T at e
  split at e
  · have h1 : s / 2 = 2197175160 := by
      have := congrArg (· ^^^ 2197175160) e
      simpa [Nat.xor_assoc] using this
    omega
  · omega
def Tn : Nat → Nat → Nat
  | 0, s => s
  | k + 1, s => Tn k (T s)
theorem Tn_ne : ∀ (k : Nat) {s : Nat}, s < 4294967296 → s ≠ 0 → Tn k s ≠ 0
  | 0, s, _, h0 => h0
  | k + 1, s, h, h0 => Tn_ne k (T_lt h) (T_ne h h0)
theorem Tn_lt : ∀ (k : Nat) {s : Nat}, s < 4294967296 → Tn k s < 4294967296
  | 0, s, h => h
  | k + 1, s, h => Tn_lt k (T_lt h)

/-- The low bits of a number, one after another, into the register. -/
def prc : Nat → Nat → Nat → Nat
  | 0, s, v => s
  | k + 1, s, v => prc k (T (s ^^^ v % 2)) (v / 2)
theorem T_low (v : Nat) : T v = T (v % 2) ^^^ v / 2 := by
  unfold T
  by_cases h : v % 2 = 1
  · rw [if_pos h, h, if_pos (by decide), show 1 / 2 = 0 from by decide, Nat.zero_xor, Nat.xor_comm]
  · have : v % 2 = 0 := by omega
    rw [if_neg h, this, if_neg (by decide)]; simp
theorem T_split (s v : Nat) : T (s ^^^ v) = T (s ^^^ v % 2) ^^^ v / 2 := by
  rw [T_xor, T_xor, T_low v, ← Nat.xor_assoc]
theorem prc_eq : ∀ (k s v : Nat), v < 2 ^ k → prc k s v = Tn k (s ^^^ v)
  | 0, s, v, h => by
    have : v = 0 := by simpa using h
    rw [this, Nat.xor_zero]; rfl
  | k + 1, s, v, h => by
    show prc k (T (s ^^^ v % 2)) (v / 2) = Tn k (T (s ^^^ v))
    rw [prc_eq k _ _ (by rw [Nat.pow_succ] at h; omega), ← T_split]
theorem prc_add : ∀ (j k s v : Nat), prc (j + k) s v = prc k (prc j s v) (v / 2 ^ j)
  | 0, k, s, v => by rw [Nat.zero_add, Nat.pow_zero, Nat.div_one]; rfl
  | j + 1, k, s, v => by
    rw [show j + 1 + k = (j + k) + 1 from by omega]
    show prc (j + k) (T (s ^^^ v % 2)) (v / 2) = prc k (prc j (T (s ^^^ v % 2)) (v / 2)) (v / 2 ^ (j + 1))
    rw [prc_add j k, Nat.div_div_eq_div_mul, Nat.pow_succ, Nat.mul_comm 2]
theorem prc_mod : ∀ (k s v : Nat), prc k s v = prc k s (v % 2 ^ k)
  | 0, s, v => rfl
  | k + 1, s, v => by
    show prc k (T (s ^^^ v % 2)) (v / 2) = prc k (T (s ^^^ v % 2 ^ (k + 1) % 2)) (v % 2 ^ (k + 1) / 2)
    rw [Nat.mod_mod_of_dvd v ⟨2 ^ k, by rw [Nat.pow_succ, Nat.mul_comm]⟩, prc_mod k _ (v / 2), show v % 2 ^ (k + 1) / 2 = v / 2 % 2 ^ k from by
      rw [Nat.pow_succ, Nat.mul_comm, Nat.mod_mul_right_div_self]]
theorem xor_mod2 (a b : Nat) : (a ^^^ b) % 2 = a % 2 ^^^ b % 2 := Nat.xor_mod_two_pow (n := 1)
theorem xor_four (a b c d : Nat) : (a ^^^ b) ^^^ (c ^^^ d) = (a ^^^ c) ^^^ (b ^^^ d) := by
  rw [Nat.xor_assoc, ← Nat.xor_assoc b c d, Nat.xor_comm b c, Nat.xor_assoc c b d, ← Nat.xor_assoc]
theorem prc_xor : ∀ (k s t u v : Nat), prc k (s ^^^ t) (u ^^^ v) = prc k s u ^^^ prc k t v
  | 0, s, t, u, v => rfl
  | k + 1, s, t, u, v => by
    show prc k (T (s ^^^ t ^^^ (u ^^^ v) % 2)) ((u ^^^ v) / 2) = prc k (T (s ^^^ u % 2)) (u / 2) ^^^ prc k (T (t ^^^ v % 2)) (v / 2)
    rw [xor_mod2, xor_four, T_xor, Nat.xor_div_two, prc_xor]
theorem prc_zero : ∀ (k v : Nat), prc k 0 (v * 2 ^ k) = 0
  | 0, v => rfl
  | k + 1, v => by
    show prc k (T (0 ^^^ v * 2 ^ (k + 1) % 2)) (v * 2 ^ (k + 1) / 2) = 0
    have h : v * 2 ^ (k + 1) = 2 * (v * 2 ^ k) := by rw [Nat.pow_succ, Nat.mul_comm (2 ^ k) 2, Nat.mul_left_comm]
    rw [h, Nat.mul_mod_right, Nat.mul_div_cancel_left _ (by omega), Nat.zero_xor, T_zero, prc_zero k v]
/-- An error within 32 bits turns the register. -/
theorem prc_burst {m f E : Nat} (s v : Nat) (hE : E < 4294967296) (h0 : E ≠ 0) (hf : E * 2 ^ f < 2 ^ m) : prc m s (v ^^^ E * 2 ^ f) ≠ prc m s v := by
  have hfm : f ≤ m := by
    by_cases h : f ≤ m
    · exact h
    · exfalso
      have h1 : 2 ^ m < 2 ^ f := Nat.pow_lt_pow_right (by omega) (by omega)
      have h2 : 2 ^ f ≤ E * 2 ^ f := Nat.le_mul_of_pos_left _ (by omega)
      omega
  intro e
  have h1 := prc_xor m s 0 v (E * 2 ^ f)
  rw [Nat.xor_zero, e] at h1
  have h2 : prc m 0 (E * 2 ^ f) = 0 := by
    have := congrArg (prc m s v ^^^ ·) h1
    simp only [← Nat.xor_assoc, Nat.xor_self, Nat.zero_xor] at this
    exact this.symm
  rw [show m = f + (m - f) from by omega, prc_add, prc_zero, Nat.mul_div_cancel _ (Nat.pow_pos (by omega)), prc_eq _ _ _ ?_, Nat.zero_xor] at h2
  · exact Tn_ne _ hE h0 h2
  · have h3 : (2 : Nat) ^ m = 2 ^ (m - f) * 2 ^ f := by rw [← Nat.pow_add]; congr 1; omega
    rw [h3] at hf
    exact Nat.lt_of_mul_lt_mul_right hf

/-- Bytes as one number, the first byte lowest; the register over bytes. -/
def num : List Int → Nat
  | [] => 0
  | b :: r => b.toNat + 256 * num r
def reg (s : Nat) (bs : List Int) : Nat := bs.foldl (fun s b => Tn 8 (s ^^^ b.toNat)) s
theorem reg_nil (s : Nat) : reg s [] = s := rfl
theorem reg_cons (s : Nat) (b : Int) (r : List Int) : reg s (b :: r) = reg (Tn 8 (s ^^^ b.toNat)) r := rfl
theorem reg_append (s : Nat) (a b : List Int) : reg s (a ++ b) = reg (reg s a) b := by simp [reg]
theorem reg_snoc (s : Nat) (a : List Int) (b : Int) : reg s (a ++ [b]) = Tn 8 (reg s a ^^^ b.toNat) := by rw [reg_append]; rfl
theorem isB_cons {b : Int} {r : List Int} (h : isB (b :: r)) : 0 ≤ b ∧ b < 256 ∧ isB r := ⟨(h b (List.mem_cons_self ..)).1, (h b (List.mem_cons_self ..)).2, fun x hx => h x (List.mem_cons_of_mem _ hx)⟩
theorem reg_prc : ∀ (bs : List Int) (s : Nat), isB bs → reg s bs = prc (8 * bs.length) s (num bs)
  | [], s, _ => rfl
  | b :: r, s, h => by
    obtain ⟨h0, h1, h2⟩ := isB_cons h
    rw [reg_cons, reg_prc r _ h2, show 8 * (b :: r).length = 8 + 8 * r.length from by simp; omega, prc_add, prc_mod 8]
    rw [show num (b :: r) = b.toNat + 256 * num r from rfl, show (2 : Nat) ^ 8 = 256 from by decide, show (b.toNat + 256 * num r) % 256 = b.toNat from by omega, show (b.toNat + 256 * num r) / 256 = num r from by omega,
      prc_eq 8 _ _ (by rw [show (2 : Nat) ^ 8 = 256 from by decide]; omega)]
theorem reg_lt : ∀ (bs : List Int) {s : Nat}, isB bs → s < 4294967296 → reg s bs < 4294967296
  | [], s, _, h => h
  | b :: r, s, h, hs => by
    obtain ⟨h0, h1, h2⟩ := isB_cons h
    rw [reg_cons]
    exact reg_lt r h2 (Tn_lt 8 (Nat.xor_lt_two_pow (n := 32) (by omega) (by omega)))
/-- CRC32C, Seal, Open. -/
def crc (bs : List Int) : Nat := reg 4294967295 bs ^^^ 4294967295
theorem crc_lt {bs : List Int} (h : isB bs) : crc bs < 4294967296 := Nat.xor_lt_two_pow (n := 32) (reg_lt bs h (by decide)) (by decide)
def le4 (v : Nat) : List Int := [((v % 256 : Nat) : Int), ((v / 256 % 256 : Nat) : Int), ((v / 256 / 256 % 256 : Nat) : Int), ((v / 256 / 256 / 256 % 256 : Nat) : Int)]
theorem le4_length (v : Nat) : (le4 v).length = 4 := rfl
theorem le4_isB (v : Nat) : isB (le4 v) := fun x hx => by simp [le4] at hx; omega
theorem num_le4 {v : Nat} (h : v < 4294967296) : num (le4 v) = v := by simp [num, le4]; omega
def sea (bs : List Int) : List Int := bs ++ le4 (crc bs)
theorem sea_length (bs : List Int) : (sea bs).length = bs.length + 4 := by simp [sea, le4_length]
theorem sea_isB {bs : List Int} (h : isB bs) : isB (sea bs) := isB_append h (le4_isB _)
theorem reg_sea {bs : List Int} (h : isB bs) : reg 4294967295 (sea bs) = Tn 32 4294967295 := by
  unfold sea
  rw [reg_append, reg_prc _ _ (le4_isB _), le4_length, num_le4 (crc_lt h), prc_eq _ _ _ (by have := crc_lt h; exact this)]
  unfold crc
  rw [← Nat.xor_assoc, Nat.xor_self, Nat.zero_xor]
def opn (bs : List Int) : List Int × Int := if bs.length < 4 then ([], 4) else if sea (bs.take (bs.length - 4)) = bs then (bs.take (bs.length - 4), 0) else ([], 22)
theorem opn_sea (bs : List Int) : opn (sea bs) = (bs, 0) := by
  unfold opn
  have h : (sea bs).take ((sea bs).length - 4) = bs := by rw [sea_length]; simp [sea]
  rw [if_neg (by rw [sea_length]; omega), h, if_pos rfl]
theorem opn_short {bs : List Int} (h : bs.length < 4) : opn bs = ([], 4) := by unfold opn; rw [if_pos h]
/-- Errors within 32 bits of a sealed buffer are found. -/
theorem opn_burst {bs cs : List Int} {f E : Nat} (hb : isB bs) (hc : isB cs) (hl : cs.length = (sea bs).length) (hE : E < 4294967296) (h0 : E ≠ 0) (hf : E * 2 ^ f < 2 ^ (8 * cs.length)) (hn : num cs = num (sea bs) ^^^ E * 2 ^ f) : opn cs = ([], 22) := by
  unfold opn
  rw [if_neg (by rw [hl, sea_length]; omega), if_neg]
  intro e
  have h1 : reg 4294967295 cs = Tn 32 4294967295 := by rw [← e]; exact reg_sea (isB_take hc _)
  have h2 := reg_sea hb
  rw [reg_prc _ _ hc, hn] at h1
  rw [reg_prc _ _ (sea_isB hb), ← hl] at h2
  exact prc_burst _ _ hE h0 hf (h1.trans h2.symm)
/-- One bit turned. -/
theorem num_set : ∀ (cs : List Int) (n : Nat) (h : n / 8 < cs.length), isB cs → num (cs.set (n / 8) (((cs[n / 8].toNat ^^^ 2 ^ (n % 8) : Nat)) : Int)) = num cs ^^^ 2 ^ n
  | [], n, h, _ => by simp at h
  | b :: r, n, h, hB => by
    obtain ⟨h0, h1, h2⟩ := isB_cons hB
    have hp : (2 : Nat) ^ 8 = 256 := by decide
    by_cases hn : n < 8
    · have e1 : n / 8 = 0 := by omega
      have e2 : n % 8 = n := by omega
      simp only [e1, List.set_cons_zero, List.getElem_cons_zero, e2, num]
      have hlt : 2 ^ n < 256 := by rw [← hp]; exact Nat.pow_lt_pow_right (by omega) hn
      have hx : b.toNat ^^^ 2 ^ n < 256 := Nat.xor_lt_two_pow (n := 8) (by omega) hlt
      have m1 : ((b.toNat + 256 * num r) ^^^ 2 ^ n) % 2 ^ 8 = b.toNat ^^^ 2 ^ n := by
        rw [Nat.xor_mod_two_pow, hp, show (b.toNat + 256 * num r) % 256 = b.toNat from by omega, Nat.mod_eq_of_lt hlt]
      have m2 : ((b.toNat + 256 * num r) ^^^ 2 ^ n) / 2 ^ 8 = num r := by
        rw [Nat.xor_div_two_pow, hp, show (b.toNat + 256 * num r) / 256 = num r from by omega, Nat.div_eq_of_lt hlt, Nat.xor_zero]
      rw [hp] at m1 m2
      rw [Int.toNat_natCast]
      omega
    · obtain ⟨k, rfl⟩ : ∃ k, n = k + 8 := ⟨n - 8, by omega⟩
      have e1 : (k + 8) / 8 = k / 8 + 1 := by omega
      have e2 : (k + 8) % 8 = k % 8 := by omega
      have ih := num_set r k (by simp at h; omega) h2
      simp only [e1, e2, List.set_cons_succ, List.getElem_cons_succ, num]
      rw [ih]
      have hq : (2 : Nat) ^ (k + 8) = 256 * 2 ^ k := by rw [Nat.pow_add, hp, Nat.mul_comm]
      have m1 : ((b.toNat + 256 * num r) ^^^ 2 ^ (k + 8)) % 2 ^ 8 = b.toNat := by
        rw [Nat.xor_mod_two_pow, hp, hq, Nat.mul_mod_right, show (b.toNat + 256 * num r) % 256 = b.toNat from by omega, Nat.xor_zero]
      have m2 : ((b.toNat + 256 * num r) ^^^ 2 ^ (k + 8)) / 2 ^ 8 = num r ^^^ 2 ^ k := by
        rw [Nat.xor_div_two_pow, hp, hq, Nat.mul_div_cancel_left _ (by omega), show (b.toNat + 256 * num r) / 256 = num r from by omega]
      rw [hp] at m1 m2
      omega

end Go.Proofs.Ytmdnbmekbhljkaa.Ck
