/- Plain mathematics of the text format: what Go's library gives (decimal numerals; a prefix or suffix of one byte cut off; a string cut at a byte; strings joined), in the words of these files. -/
import Derived.Test.YtdlnidefjdjocaaDoorFmT
import Derived.Lib.ItoaNum
import Derived.Lib.SplitLaws
import Derived.Lib.Join
import Derived.Lib.Strings
set_option linter.unusedVariables false
namespace Go.Proofs.YtdlnidefjdjocaaDoor.Fm
open Go

def un (l : List UInt8) : List Int := l.map fun b => (b.toNat : Int)
theorem nums_un (s : ByteArray) : nums s = un s.data.toList := rfl
theorem mk_eq {l : List UInt8} {bs : List Int} (h : un l = bs) : (⟨l.toArray⟩ : ByteArray) = strOfNums bs := by
  rw [← h, show un l = nums ⟨l.toArray⟩ from by simp [nums, un], of_nums]
theorem un_append (a b : List UInt8) : un (a ++ b) = un a ++ un b := by simp [un]
theorem un_of {bs : List Int} (h : isB bs) : un (strOfNums bs).data.toList = bs := nums_of h

theorem dec_dg : ∀ u : Nat, un (Lib.decDigits u) = if u = 0 then [48] else dg u := by
  intro u
  induction u using Nat.strongRecOn with
  | _ u ih =>
    rw [Lib.decDigits]
    by_cases h : u < 10
    · rw [dif_pos h]
      by_cases h0 : u = 0
      · subst h0; rfl
      · rw [if_neg h0, dg_pos h0, show u / 10 = 0 from by omega, dg_zero]
        simp [un]; omega
    · rw [dif_neg h, un_append, ih (u / 10) (by omega), if_neg (by omega), if_neg (by omega), dg_pos (m := u) (by omega)]
      congr 1; simp [un]; omega
/-- strconv.Itoa gives the text of FormatInt. -/
theorem itoa_fmt (n : Int) : (⟨(Lib.itoa n).toArray⟩ : ByteArray) = strOfNums (fmt n) := by
  apply mk_eq
  unfold Lib.itoa fmt
  by_cases h0 : n = 0
  · subst h0; rw [if_neg (by decide), if_pos rfl]; exact dec_dg 0
  · rw [if_neg h0]
    by_cases hn : n < 0
    · rw [if_pos hn, if_pos hn]
      show (45 : Int) :: un (Lib.decDigits n.natAbs) = _
      rw [dec_dg, if_neg (by omega)]
    · rw [if_neg hn, if_neg hn, show n.toNat = n.natAbs from by omega, dec_dg, if_neg (by omega)]

theorem u8_ne {b c : UInt8} (h : ¬ b = c) : ¬ (b.toNat : Int) = c.toNat := fun e => h (UInt8.toNat_inj.1 (by omega))
theorem pre_l (l : List UInt8) (c : UInt8) : Lib.hasPrefix l [c] = decide ((un l).head? = some (c.toNat : Int)) := by
  cases l with
  | nil => simp [Lib.hasPrefix, un]
  | cons b l =>
    by_cases h : b = c
    · subst h; simp [Lib.hasPrefix, un]
    · have h1 := u8_ne h
      have h2 : ¬ c = b := fun e => h e.symm
      simp [Lib.hasPrefix, un, h1, h2, List.isPrefixOf]
theorem suf_l (l : List UInt8) (c : UInt8) : Lib.hasSuffix l [c] = decide ((un l).getLast? = some (c.toNat : Int)) := by
  rcases List.eq_nil_or_concat l with rfl | ⟨t, b, rfl⟩
  · simp [Lib.hasSuffix, un, List.isSuffixOf]
  · by_cases h : b = c
    · subst h; simp [Lib.hasSuffix, un, List.isSuffixOf]
    · have h1 := u8_ne h
      have h2 : ¬ c = b := fun e => h e.symm
      simp [Lib.hasSuffix, un, h1, h2, List.isSuffixOf, List.isPrefixOf]
/-- A prefix of one byte. -/
theorem cut_pre {bs : List Int} (hB : isB bs) (c : UInt8) : Lib.hasPrefix (strOfNums bs).data.toList [c] = decide (bs.head? = some (c.toNat : Int)) ∧ (⟨(Lib.trimPrefix (strOfNums bs).data.toList [c]).toArray⟩ : ByteArray) = strOfNums (if bs.head? = some (c.toNat : Int) then bs.tail else bs) := by
  have h := pre_l (strOfNums bs).data.toList c
  rw [un_of hB] at h
  refine ⟨h, mk_eq ?_⟩
  unfold Lib.trimPrefix
  by_cases hc : bs.head? = some (c.toNat : Int)
  · rw [h, if_pos hc, if_pos (decide_eq_true hc)]
    have := un_of hB
    generalize (strOfNums bs).data.toList = l at *
    rw [← this]
    cases l <;> simp [un]
  · rw [h, if_neg hc, if_neg (by simp [hc]), un_of hB]
/-- A suffix of one byte. -/
theorem cut_suf {bs : List Int} (hB : isB bs) (c : UInt8) : Lib.hasSuffix (strOfNums bs).data.toList [c] = decide (bs.getLast? = some (c.toNat : Int)) ∧ (⟨(Lib.trimSuffix (strOfNums bs).data.toList [c]).toArray⟩ : ByteArray) = strOfNums (if bs.getLast? = some (c.toNat : Int) then bs.dropLast else bs) := by
  have h := suf_l (strOfNums bs).data.toList c
  rw [un_of hB] at h
  refine ⟨h, mk_eq ?_⟩
  unfold Lib.trimSuffix
  by_cases hc : bs.getLast? = some (c.toNat : Int)
  · rw [h, if_pos hc, if_pos (decide_eq_true hc)]
    have := un_of hB
    generalize (strOfNums bs).data.toList = l at *
    rw [← this]
    simp [un, List.dropLast_eq_take, List.map_take]
  · rw [h, if_neg hc, if_neg (by simp [hc]), un_of hB]

/-- A list cut at a byte. -/
def sp (c : Int) : List Int → List (List Int)
  | [] => [[]]
  | x :: s => if x = c then [] :: sp c s else match sp c s with
    | [] => [[x]]
    | h :: t => (x :: h) :: t
theorem sp_ex (c : Int) (s : List Int) : ∃ h t, sp c s = h :: t := by
  cases s with
  | nil => exact ⟨[], [], rfl⟩
  | cons x s => unfold sp; split; exact ⟨_, _, rfl⟩; split <;> exact ⟨_, _, rfl⟩
theorem sp_at {c x : Int} (h : x = c) (s : List Int) : sp c (x :: s) = [] :: sp c s := by rw [sp, if_pos h]
theorem sp_no {c x : Int} (h : ¬ x = c) {s h' : List Int} {t : List (List Int)} (e : sp c s = h' :: t) : sp c (x :: s) = (x :: h') :: t := by rw [sp, if_neg h, e]
theorem sp_len (c : Int) : ∀ s : List Int, (sp c s).length ≤ s.length + 1
  | [] => by simp [sp]
  | x :: s => by
    have ih := sp_len c s
    obtain ⟨h, t, e⟩ := sp_ex c s
    rw [e] at ih
    by_cases hx : x = c
    · rw [sp_at hx, e]; simp at ih ⊢; omega
    · rw [sp_no hx e]; simp at ih ⊢; omega
theorem sp_isB (c : Int) : ∀ s : List Int, isB s → ∀ p ∈ sp c s, isB p ∧ p.length ≤ s.length
  | [], _ => by intro p hp; simp [sp] at hp; subst hp; exact ⟨fun x hx => (by cases hx), by simp⟩
  | x :: s, hB => by
    have hs : isB s := fun y hy => hB y (List.mem_cons_of_mem _ hy)
    have ih := sp_isB c s hs
    obtain ⟨h, t, e⟩ := sp_ex c s
    intro p hp
    by_cases hx : x = c
    · rw [sp_at hx] at hp
      rcases List.mem_cons.1 hp with rfl | hp
      · exact ⟨fun y hy => (by cases hy), by simp⟩
      · exact ⟨(ih p hp).1, by have := (ih p hp).2; simp; omega⟩
    · rw [sp_no hx e] at hp
      rw [e] at ih
      rcases List.mem_cons.1 hp with rfl | hp
      · obtain ⟨i1, i2⟩ := ih h (List.mem_cons_self ..)
        refine ⟨fun y hy => ?_, by simp; omega⟩
        rcases List.mem_cons.1 hy with rfl | hy
        · exact hB _ (List.mem_cons_self ..)
        · exact i1 y hy
      · exact ⟨(ih p (List.mem_cons_of_mem _ hp)).1, by have := (ih p (List.mem_cons_of_mem _ hp)).2; simp; omega⟩

theorem split_sp (c : UInt8) : ∀ l : List UInt8, (Lib.splitK [c] 0 (Lib.count l [c]) l).map un = sp c.toNat (un l)
  | [] => by rw [Lib.count_one]; rfl
  | b :: l => by
    have ih := split_sp c l
    rw [Lib.count_one] at ih ⊢
    by_cases h : b = c
    · subst h
      have hix : Lib.index (b :: l) [b] = 0 := by rw [Lib.index]; simp [List.isPrefixOf]
      rw [List.count_cons_self, Lib.splitK, hix]
      show _ = sp b.toNat ((b.toNat : Int) :: un l)
      rw [sp_at rfl, ← ih]
      simp [un]
    · have hp : ([c] : List UInt8).isPrefixOf (b :: l) = false := by simp [List.isPrefixOf, Ne.symm h]
      have hix : Lib.index (b :: l) [c] = if Lib.index l [c] == -1 then -1 else Lib.index l [c] + 1 := by rw [Lib.index, hp]; simp
      rw [List.count_cons_of_ne (by simpa using h)]
      show _ = sp c.toNat ((b.toNat : Int) :: un l)
      cases hk : l.count c with
      | zero =>
        rw [hk] at ih
        simp only [Lib.splitK, List.map_cons, List.map_nil] at ih ⊢
        rw [sp_no (u8_ne h) ih.symm]; rfl
      | succ k =>
        rw [hk] at ih
        have hne : ¬ Lib.index l [c] = -1 := fun e => by have := Lib.count_miss e; rw [Lib.count_one] at this; omega
        have hge := Lib.index_ge l [c]
        obtain ⟨j, hj⟩ : ∃ j : Nat, Lib.index l [c] = j := ⟨(Lib.index l [c]).toNat, by omega⟩
        rw [hj, if_neg (by first | (simp; done) | (simp; omega))] at hix
        rw [Lib.splitK, hj, if_neg (by first | (simp; done) | (simp; omega))] at ih
        simp only [List.map_cons] at ih
        rw [Lib.splitK, hix, if_neg (by first | (simp; done) | (simp; omega)), sp_no (u8_ne h) ih.symm]
        simp only [List.map_cons, List.length_cons, List.length_nil]
        rw [show (((j : Int) + 1).toNat + 0) = j + 1 from by omega, show ((j : Int).toNat + 0) = j from by omega, show (((j : Int) + 1).toNat + (0 + 1)) = (j + 1) + 1 from by omega, show ((j : Int).toNat + (0 + 1)) = j + 1 from by omega]
        rfl
/-- strings.Split at a separator of one byte. -/
theorem splitB_sp (c : UInt8) (s : ByteArray) : Lib.splitB ⟨#[c]⟩ 0 (Lib.countB s ⟨#[c]⟩) s = strs (sp c.toNat (nums s)) := by
  have h := Lib.splitB_data ⟨#[c]⟩ 0 (Lib.countB s ⟨#[c]⟩) s
  have h2 := split_sp c s.data.toList
  have h3 : Lib.countB s ⟨#[c]⟩ = Lib.count s.data.toList [c] := rfl
  have h4 : ((⟨#[c]⟩ : ByteArray).data.toList) = [c] := rfl
  rw [h4, h3] at h
  rw [← h, List.map_map] at h2
  rw [h3, nums_un, ← h2]
  exact (strs_numss _).symm

def prep (cur : List Int) : List (List Int) → List (List Int)
  | [] => [cur]
  | h :: t => (cur ++ h) :: t
theorem prep_nil (c : Int) (s : List Int) : prep [] (sp c s) = sp c s := by
  obtain ⟨h, t, e⟩ := sp_ex c s
  rw [e]; rfl
theorem prep_at {c x : Int} (h : x = c) (cur s : List Int) : prep cur (sp c (x :: s)) = cur :: sp c s := by rw [sp_at h]; simp [prep]
theorem prep_no {c x : Int} (h : ¬ x = c) (cur s : List Int) : prep cur (sp c (x :: s)) = prep (cur ++ [x]) (sp c s) := by
  obtain ⟨h', t, e⟩ := sp_ex c s
  rw [sp_no h e, e]; simp [prep]
theorem fld_sp : ∀ (s cur : List Int) (out : List (List Int)), fld s cur out = if (prep cur (sp 32 s)).all isF = true then some (out ++ prep cur (sp 32 s)) else none
  | [], cur, out => by simp [fld, sp, prep]
  | x :: s, cur, out => by
    by_cases hx : x = 32
    · rw [prep_at hx]
      subst hx
      rw [fld_space]
      cases hc : isF cur
      · simp [hc]
      · rw [if_pos rfl, fld_sp s [] (out ++ [cur]), prep_nil]; simp [hc]
    · rw [prep_no hx, fld_other hx, fld_sp s (cur ++ [x]) out]
theorem fields_sp {s : List Int} (h : s ≠ []) : fields s = if (sp 32 s).all isF = true then (sp 32 s, 0) else ([], 3) := by
  unfold fields
  rw [if_neg h, fld_sp, prep_nil]
  split <;> simp_all
theorem spl_ln : ∀ (s cur : List Int) (out : List (List Int)), spl (s ++ [10]) cur out = some (out ++ prep cur (sp 10 s))
  | [], cur, out => by simp [spl, sp, prep]
  | x :: s, cur, out => by
    by_cases hx : x = 10
    · rw [prep_at hx]
      subst hx
      rw [List.cons_append, spl_feed, spl_ln s [] (out ++ [cur]), prep_nil]; simp
    · rw [prep_no hx, List.cons_append, spl_other hx, spl_ln s (cur ++ [x]) out]
theorem spl_no {y : Int} (hy : ¬ y = 10) : ∀ (s cur : List Int) (out : List (List Int)), spl (s ++ [y]) cur out = none
  | [], cur, out => by rw [List.nil_append, spl_other hy, spl_end, if_neg (by simp)]
  | x :: s, cur, out => by
    by_cases hx : x = 10
    · subst hx
      rw [List.cons_append, spl_feed]; exact spl_no hy s [] _
    · rw [List.cons_append, spl_other hx]; exact spl_no hy s _ _
theorem lines_sp {s : List Int} (h : s ≠ []) : lines s = if s.getLast? = some 10 then (sp 10 s.dropLast, 0) else ([], 3) := by
  rcases List.eq_nil_or_concat s with rfl | ⟨t, x, rfl⟩
  · exact absurd rfl h
  · unfold lines
    by_cases hx : x = 10
    · subst hx
      rw [List.concat_eq_append, spl_ln, prep_nil]; simp
    · rw [List.concat_eq_append, spl_no hx]; simp [hx]

theorem join_jn : ∀ xs : List ByteArray, un (Lib.join (xs.map (·.data.toList)) [32]) = jn (numss xs)
  | [] => rfl
  | [a] => by simp only [List.map_cons, List.map_nil, Lib.join_one]; rfl
  | a :: b :: r => by
    have ih := join_jn (b :: r)
    have e : Lib.join ((a :: b :: r).map (·.data.toList)) [32] = a.data.toList ++ (32 :: Lib.join ((b :: r).map (·.data.toList)) [32]) := by
      simp only [List.map_cons, Lib.join_cons, Lib.joinTail, List.flatten_cons]
      simp
    rw [e, un_append]
    show _ = nums a ++ 32 :: jn (numss (b :: r))
    rw [← ih]; rfl

/-- An absolute value that stops growing beyond what is told. -/
def cap (v : Nat) : Int := if v ≤ 4611686018427387904 then (v : Int) else 4611686018427387905
theorem cap_bound (v : Nat) : 0 ≤ cap v ∧ cap v ≤ 4611686018427387905 := by unfold cap; split <;> omega
theorem cap_step (v : Nat) {d : Int} (h0 : 0 ≤ d) (h1 : d ≤ 9) : (if (4611686018427387904 - d).tdiv 10 < cap v then 4611686018427387905 else 10 * cap v + d) = cap (10 * v + d.toNat) := by
  have e : (4611686018427387904 - d).tdiv 10 = (4611686018427387904 - d) / 10 := Int.tdiv_eq_ediv_of_nonneg (by omega)
  rw [e]
  unfold cap
  split <;> split <;> split <;> omega
theorem cap_big (v l : Nat) (hl : l ≤ 4611686018427387904) : (l : Int) < cap v ↔ l < v := by unfold cap; split <;> omega
theorem cap_small {v : Nat} {l : Nat} (hl : l ≤ 4611686018427387904) (h : ¬ l < v) : cap v = v := by unfold cap; rw [if_pos (by omega)]
theorem cap_zero (v : Nat) : cap v = 0 ↔ v = 0 := by unfold cap; split <;> omega
theorem rest_mod (v : Nat) {d : Int} (h0 : 0 ≤ d) (h1 : d ≤ 9) : (10 * ((v : Int) % 65536) + d).tmod 65536 = ((10 * v + d.toNat : Nat) : Int) % 65536 := by
  rw [Int.tmod_eq_emod_of_nonneg (by omega)]; omega

end Go.Proofs.YtdlnidefjdjocaaDoor.Fm
