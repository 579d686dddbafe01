/- What the statements of chapter 7 say of bools, strings, slices and vectors. No program is imported. -/
import Derived.Test.YtgpcldhgkaddeaaByL
set_option linter.unusedVariables false
namespace Go.Proofs.Ytgpcldhgkaddeaa.By
open Go

def i64 (n : Int) : Prop := -9223372036854775808 ≤ n ∧ n ≤ 9223372036854775807
theorem enc_pos (n : Int) : 1 ≤ (enc n).length := by simp [enc]
theorem rdBool_enc (pre more : List Int) (x : Bool) : rdBool (pre ++ (encBool x ++ more)) pre.length = (x, (pre.length : Int) + 1, 0) := by
  have hl : (pre ++ (encBool x ++ more)).length = pre.length + 1 + more.length := by simp [encBool]; omega
  have hg : (pre ++ (encBool x ++ more)).getD pre.length 0 = if x then 1 else 0 := by simp [encBool]
  unfold rdBool
  rw [if_neg (by omega), if_neg (by omega)]
  simp only [Int.toNat_natCast, hg]
  cases x <;> simp
theorem rdLen_enc {m : Nat} (hm : (m : Int) ≤ 9223372036854775807) (pre more : List Int) {most : Int} (h : (m : Int) ≤ max most 0) : rdLen (pre ++ (enc m ++ more)) pre.length most = ((m : Int), (pre.length : Int) + (enc m).length, 0) := by
  unfold rdLen
  rw [rd_enc (by omega) hm]
  simp only
  rw [if_neg (by simp), if_neg (by omega), if_neg (by omega)]
theorem rdLen_long {m : Nat} (hm : (m : Int) ≤ 9223372036854775807) (pre more : List Int) {most : Int} (h : max most 0 < (m : Int)) : rdLen (pre ++ (enc m ++ more)) pre.length most = (0, 0, 5) := by
  unfold rdLen
  rw [rd_enc (by omega) hm]
  simp only
  rw [if_neg (by simp), if_neg (by omega), if_pos h]
theorem rdStr_enc {s : List Int} (hs : (s.length : Int) ≤ 9223372036854775807) (pre more : List Int) {most : Int} (h : (s.length : Int) ≤ max most 0) : rdStr (pre ++ (encStr s ++ more)) pre.length most = (s, (pre.length : Int) + (encStr s).length, 0) := by
  have e : pre ++ (encStr s ++ more) = pre ++ (enc s.length ++ (s ++ more)) := by simp [encStr]
  have hl : (encStr s).length = (enc s.length).length + s.length := by simp [encStr]
  have hlen : (pre ++ (enc s.length ++ (s ++ more))).length = pre.length + (enc s.length).length + s.length + more.length := by simp; omega
  unfold rdStr
  rw [e, rdLen_enc hs pre (s ++ more) h]
  simp only
  rw [if_neg (by simp), if_neg (by omega)]
  have hd : (pre ++ (enc s.length ++ (s ++ more))).drop ((pre.length : Int) + (enc s.length).length).toNat = s ++ more := by
    rw [show ((pre.length : Int) + (enc s.length).length).toNat = (pre ++ enc s.length).length from by simp; omega, ← List.append_assoc]
    exact List.drop_left
  rw [hd, Int.toNat_natCast, List.take_left, hl]
  simp only [Prod.mk.injEq, true_and, and_true]
  omega
theorem rdStr_long {s : List Int} (hs : (s.length : Int) ≤ 9223372036854775807) (pre more : List Int) {most : Int} (h : max most 0 < (s.length : Int)) : rdStr (pre ++ (encStr s ++ more)) pre.length most = ([], 0, 5) := by
  have e : pre ++ (encStr s ++ more) = pre ++ (enc s.length ++ (s ++ more)) := by simp [encStr]
  unfold rdStr
  rw [e, rdLen_long hs pre (s ++ more) h]
  simp
theorem rdN_enc : ∀ (ns pre more acc : List Int), (∀ n ∈ ns, i64 n) → rdN (pre ++ (encAll ns ++ more)) ns.length pre.length acc = (acc ++ ns, (pre.length : Int) + (encAll ns).length, 0)
  | [], pre, more, acc, _ => by simp [rdN, encAll]
  | n :: ns, pre, more, acc, h => by
    have h1 := h n (List.mem_cons_self ..)
    have e : pre ++ (encAll (n :: ns) ++ more) = pre ++ (enc n ++ (encAll ns ++ more)) := by simp [encAll]
    rw [List.length_cons, rdN, e, rd_enc h1.1 h1.2]
    simp only
    rw [if_neg (by simp), show (pre.length : Int) + (enc n).length = ((pre ++ enc n).length : Nat) from by simp, ← List.append_assoc pre]
    rw [rdN_enc ns (pre ++ enc n) more (acc ++ [n]) fun x hx => h x (List.mem_cons_of_mem _ hx)]
    simp [encAll]; omega
theorem rdInts_enc {ns : List Int} (hs : (ns.length : Int) ≤ 9223372036854775807) (hr : ∀ n ∈ ns, i64 n) (pre more : List Int) {most : Int} (h : (ns.length : Int) ≤ max most 0) : rdInts (pre ++ (encInts ns ++ more)) pre.length most = (ns, (pre.length : Int) + (encInts ns).length, 0) := by
  have e : pre ++ (encInts ns ++ more) = pre ++ (enc ns.length ++ (encAll ns ++ more)) := by simp [encInts]
  unfold rdInts
  rw [e, rdLen_enc hs pre (encAll ns ++ more) h]
  simp only
  rw [if_neg (by simp), Int.toNat_natCast, show (pre.length : Int) + (enc ns.length).length = ((pre ++ enc ns.length).length : Nat) from by simp, ← List.append_assoc pre, rdN_enc ns _ _ _ hr]
  simp [encInts]; omega
theorem rdVec_enc {x y : Int} (hx : i64 x) (hy : i64 y) (pre more : List Int) : rdVec (pre ++ (enc x ++ enc y ++ more)) pre.length = ((x, y), (pre.length : Int) + (enc x).length + (enc y).length, 0) := by
  have e : pre ++ (enc x ++ enc y ++ more) = pre ++ (enc x ++ (enc y ++ more)) := by simp
  have e2 : rdInt (pre ++ (enc x ++ (enc y ++ more))) ((pre.length : Int) + (enc x).length) = (y, (pre.length : Int) + (enc x).length + (enc y).length, 0) := by
    have := rd_enc hy.1 hy.2 (pre ++ enc x) more
    rw [List.append_assoc] at this
    rw [show (pre.length : Int) + (enc x).length = ((pre ++ enc x).length : Nat) from by simp, this]
  unfold rdVec
  rw [e, rd_enc hx.1 hx.2]
  simp only
  rw [e2]
  simp
theorem rdStr_unique {bs s : List Int} {p most to : Int} (hB : isB bs) (h : rdStr bs p most = (s, to, 0)) : 0 ≤ p ∧ p < to ∧ to ≤ bs.length ∧ (s.length : Int) ≤ 9223372036854775807 ∧ bs.take p.toNat ++ encStr s = bs.take to.toNat := by
  unfold rdStr at h
  obtain ⟨⟨n, t, e⟩, hr⟩ : ∃ r, rdLen bs p most = r := ⟨_, rfl⟩
  rw [hr] at h
  dsimp only at h
  by_cases he : e = 0
  · subst he
    rw [if_neg (by simp)] at h
    by_cases h2 : (bs.length : Int) - t < n
    · rw [if_pos h2] at h; simp at h
    rw [if_neg h2] at h
    simp only [Prod.mk.injEq, and_true] at h
    obtain ⟨rfl, rfl⟩ := h
    obtain ⟨g1, g2, g3⟩ := rdLen_ok hr
    obtain ⟨u1, u2, u3, u4, u5⟩ := rd_unique hB g1
    have hl : ((bs.drop t.toNat).take n.toNat).length = n.toNat := by rw [List.length_take, List.length_drop]; omega
    refine ⟨u1, by omega, by omega, by omega, ?_⟩
    unfold encStr
    rw [hl, show ((n.toNat : Nat) : Int) = n from by omega, ← List.append_assoc, u5, show (t + n).toNat = t.toNat + n.toNat from by omega, List.take_add]
  · rw [if_pos he] at h
    simp only [Prod.mk.injEq] at h
    exact absurd h.2.2 he
theorem rdN_unique {bs : List Int} (hB : isB bs) : ∀ (n : Nat) (t : Int) (acc ns : List Int) (to : Int), 0 ≤ t → t ≤ bs.length → rdN bs n t acc = (ns, to, 0) → ∃ ms, ns = acc ++ ms ∧ ms.length = n ∧ (∀ x ∈ ms, i64 x) ∧ t + n ≤ to ∧ to ≤ bs.length ∧ bs.take t.toNat ++ encAll ms = bs.take to.toNat
  | 0, t, acc, ns, to, h0, h1, h => by
    simp only [rdN, Prod.mk.injEq, and_true] at h
    obtain ⟨rfl, rfl⟩ := h
    exact ⟨[], by simp, rfl, by simp, by omega, h1, by simp [encAll]⟩
  | n + 1, t, acc, ns, to, h0, h1, h => by
    rw [rdN] at h
    obtain ⟨⟨x, nx, e⟩, hr⟩ : ∃ r, rdInt bs t = r := ⟨_, rfl⟩
    rw [hr] at h
    dsimp only at h
    by_cases he : e = 0
    · subst he
      rw [if_neg (by simp)] at h
      obtain ⟨u1, u2, u3, u4, u5⟩ := rd_unique hB hr
      obtain ⟨ms, rfl, hl, hi, hto, hbl, he⟩ := rdN_unique hB n nx (acc ++ [x]) ns to (by omega) u3 h
      refine ⟨x :: ms, by simp, by simp [hl], fun y hy => ?_, by omega, hbl, ?_⟩
      · rcases List.mem_cons.1 hy with rfl | hy
        · exact u4
        · exact hi y hy
      · rw [encAll, ← List.append_assoc, u5, he]
    · rw [if_pos he] at h
      simp only [Prod.mk.injEq] at h
      exact absurd h.2.2 he
theorem rdInts_unique {bs ns : List Int} {p most to : Int} (hB : isB bs) (h : rdInts bs p most = (ns, to, 0)) : 0 ≤ p ∧ p < to ∧ to ≤ bs.length ∧ ns.length ≤ bs.length ∧ (∀ x ∈ ns, i64 x) ∧ bs.take p.toNat ++ encInts ns = bs.take to.toNat := by
  unfold rdInts at h
  obtain ⟨⟨n, t, e⟩, hr⟩ : ∃ r, rdLen bs p most = r := ⟨_, rfl⟩
  rw [hr] at h
  dsimp only at h
  by_cases he : e = 0
  · subst he
    rw [if_neg (by simp)] at h
    obtain ⟨g1, g2, g3⟩ := rdLen_ok hr
    obtain ⟨u1, u2, u3, u4, u5⟩ := rd_unique hB g1
    obtain ⟨ms, rfl, hl, hi, hto, hbl, he⟩ := rdN_unique hB n.toNat t [] ns to (by omega) u3 h
    refine ⟨u1, by omega, hbl, by omega, hi, ?_⟩
    unfold encInts
    rw [hl, show ((n.toNat : Nat) : Int) = n from by omega, ← List.append_assoc, u5, he]
  · rw [if_pos he] at h
    simp only [Prod.mk.injEq] at h
    exact absurd h.2.2 he
/-- How many numbers are read at most. -/
theorem rdInts_len {bs : List Int} {p most : Int} (hB : isB bs) : (rdInts bs p most).1.length ≤ bs.length ∧ ∀ x ∈ (rdInts bs p most).1, i64 x := by
  obtain ⟨⟨ns, to, e⟩, hr⟩ : ∃ r, rdInts bs p most = r := ⟨_, rfl⟩
  by_cases he : e = 0
  · subst he
    obtain ⟨_, _, _, h, h2, _⟩ := rdInts_unique hB hr
    rw [hr]; exact ⟨h, h2⟩
  · have hnil : ns = [] := by
      have key : ∀ (n : Nat) (t : Int) (acc : List Int), (rdN bs n t acc).2.2 ≠ 0 → (rdN bs n t acc).1 = [] := fun n => by
        induction n with
        | zero => intro t acc h; exact absurd rfl h
        | succ n ih =>
          intro t acc h
          rw [rdN] at h ⊢
          split
          · rfl
          · rename_i h2; rw [if_neg h2] at h; exact ih _ _ h
      unfold rdInts at hr
      by_cases h1 : (rdLen bs p most).2.2 ≠ 0
      · rw [if_pos h1] at hr; simp only [Prod.mk.injEq] at hr; exact hr.1.symm
      · rw [if_neg h1] at hr
        have := key (rdLen bs p most).1.toNat (rdLen bs p most).2.1 [] (by rw [hr]; exact he)
        rw [hr] at this; exact this
    rw [hr, hnil]; exact ⟨by simp, by simp⟩

end Go.Proofs.Ytgpcldhgkaddeaa.By
