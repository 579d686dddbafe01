/- The walks of chapter 8's statements of fields and lines: each returns true for every input, and nothing that existed has changed. No conditions. -/
import Derived.Test.YtdlnidefjdjocaaDoorFixFL
set_option linter.unusedVariables false
namespace Go.Proofs.YtdlnidefjdjocaaDoor
open Go.RowKit Fm

theorem row_strs {f : FuncId} {s : ByteArray} {w : World} {l : List (List Int)} {x : Int} (h : Calls Tryd.prog f #[.string s] w fun e w' => (∃ v, e = .returned (.tuple #[v, .int .i64 x]) ∧ w'.ownsRow w.heap.size 9 1 v l.length (sv (strs l))) ∧ Below w.heap.size w w') :
    Calls Tryd.prog f #[.string s] w fun e w' => (∃ A cap, e = .returned (.tuple #[.slice A l.length cap, .int .i64 x]) ∧ Strs w' A (strs l)) ∧ Below w.heap.size w w' := by
  refine Calls.mono h ?_
  rintro e w' ⟨⟨v, rfl, hown⟩, hb⟩
  obtain ⟨A, cap, rfl, -, -, -, hcs⟩ := owns_sl hown
  exact ⟨⟨A, cap, rfl, hcs⟩, hb⟩

theorem eq_same (l : List (List Int)) (hl : l.length ≤ 1000) (A B : Option Addr) (ca cb : Nat) (w : World) (ha : Strs w A (strs l)) (hb : Strs w B (strs l)) : Calls Tryd.prog 17 #[.slice A l.length ca, .slice B l.length cb] w fun e w' => e = .returned (.bool true) ∧ Below w.heap.size w w' := by
  have h := req8_b A B ca cb (strs l) (strs l) (by simp; omega) (by simp; omega) w ha hb
  rw [decide_eq_true rfl, strs_length] at h
  exact h

theorem fields_len (bs : List Int) : (fields bs).1.length ≤ bs.length + 1 := by
  unfold fields; split
  · simp
  · split
    · rename_i l h; have := fld_len _ _ _ _ h; simpa using this
    · simp
theorem lines_len (bs : List Int) : (lines bs).1.length ≤ bs.length := by
  unfold lines; split
  · rename_i l h; have := spl_len _ _ _ _ h; simpa using this
  · simp

set_option maxHeartbeats 4000000 in
theorem walk_FormatFieldsAndLines (s : ByteArray) (A : Option Addr) (cap : Nat) (l : List ByteArray) (w : World) (hT : Tb w) (hp : Strs w A l) (hl : l.length ≤ cap) (hc : cap ≤ maxLen) : Calls Tryd.prog 6 #[.string s, .slice A l.length cap] w fun e w' => e = .returned (.bool true) ∧ Below w.heap.size w w' := by
  by_cases h1 : 300 < s.size
  focus
    have h1' : (300 : Int) < (s.size : Int) := by omega
    go_enter Tryd.func6, Tryd.ntmps6
    go_wp2_with (go_at_call 9; refine Calls.mono (gw_at (example8_b _ (Tb.to hT (by repeat (first | with_reducible exact Below.refl _ _ | with_reducible assumption | refine bgw ?_ (by first | (simp; done) | (simp; omega) | omega) _ | refine Below.setCell ?_ (by first | exact Nat.le_of_not_lt (by assumption) | (simp; done) | (simp; omega) | omega) _ | refine Below.alloc ?_ (by first | (simp; done) | (simp; omega) | omega) _ | refine Below.drew ?_))))) ?_; rintro e w1 ⟨rfl, q, rfl⟩)
    go_ret
    exact ⟨rfl, (by repeat (first | with_reducible exact Below.refl _ _ | with_reducible assumption | refine bgw ?_ (by first | (simp; done) | (simp; omega) | omega) _ | refine Below.setCell ?_ (by first | exact Nat.le_of_not_lt (by assumption) | (simp; done) | (simp; omega) | omega) _ | refine Below.alloc ?_ (by first | (simp; done) | (simp; omega) | omega) _ | refine Below.drew ?_))⟩
  have h1' : ¬ (300 : Int) < (s.size : Int) := by omega
  by_cases h2 : 20 < l.length
  focus
    have h2' : (20 : Int) < (l.length : Int) := by omega
    go_enter Tryd.func6, Tryd.ntmps6
    go_wp2_with (go_at_call 9; refine Calls.mono (gw_at (example8_b _ (Tb.to hT (by repeat (first | with_reducible exact Below.refl _ _ | with_reducible assumption | refine bgw ?_ (by first | (simp; done) | (simp; omega) | omega) _ | refine Below.setCell ?_ (by first | exact Nat.le_of_not_lt (by assumption) | (simp; done) | (simp; omega) | omega) _ | refine Below.alloc ?_ (by first | (simp; done) | (simp; omega) | omega) _ | refine Below.drew ?_))))) ?_; rintro e w1 ⟨rfl, q, rfl⟩)
    go_ret
    exact ⟨rfl, (by repeat (first | with_reducible exact Below.refl _ _ | with_reducible assumption | refine bgw ?_ (by first | (simp; done) | (simp; omega) | omega) _ | refine Below.setCell ?_ (by first | exact Nat.le_of_not_lt (by assumption) | (simp; done) | (simp; omega) | omega) _ | refine Below.alloc ?_ (by first | (simp; done) | (simp; omega) | omega) _ | refine Below.drew ?_))⟩
  have h2' : ¬ (20 : Int) < (l.length : Int) := by omega
  go_enter Tryd.func6, Tryd.ntmps6
  go_wp2_with fail
  go_loopw [5] (fun i wr => ∃ k : Nat, k ≤ l.length ∧ i = .int .i64 k ∧ (∀ j (h : j < l.length), j < k → l[j].size ≤ 40) ∧ Below w.heap.size w wr)
    (fun i _ => (l.length - intOf i).toNat)
  case atStart => exact ⟨0, by omega, rfl, by omega, (by repeat (first | with_reducible exact Below.refl _ _ | with_reducible assumption | refine bgw ?_ (by first | (simp; done) | (simp; omega) | omega) _ | refine Below.setCell ?_ (by first | exact Nat.le_of_not_lt (by assumption) | (simp; done) | (simp; omega) | omega) _ | refine Below.alloc ?_ (by first | (simp; done) | (simp; omega) | omega) _ | refine Below.drew ?_))⟩
  case round =>
    obtain ⟨k, hk, rfl, hall, hbw⟩ := hrel
    have hsz := hbw.size
    by_cases hlt : k < l.length
    · have i0 : (0 : Int) ≤ (k : Int) := by omega
      have i1 : (k : Int) < (l.length : Int) := by omega
      obtain ⟨b1, off1, rfl, hce⟩ := Strs.open (hp.to hbw) (by omega)
      have d1 := hce k hlt
      have o1 := older_of_cell d1
      have hsucc : l[k].size ≤ 40 → ∀ j (h : j < l.length), j < k + 1 → l[j].size ≤ 40 := fun g j h hj => by
        rcases (by omega : j < k ∨ j = k) with h1 | rfl
        · exact hall j h h1
        · exact g
      clear hall hce
      generalize l[k] = y at *
      by_cases hy : 40 < y.size
      · have hy' : (40 : Int) < (y.size : Int) := by omega
        clear hsucc
        go_wp2_with (go_at_call 9; refine Calls.mono (gw_at (example8_b _ (Tb.to hT (by repeat (first | with_reducible exact Below.refl _ _ | with_reducible assumption | refine bgw ?_ (by first | (simp; done) | (simp; omega) | omega) _ | refine Below.setCell ?_ (by first | exact Nat.le_of_not_lt (by assumption) | (simp; done) | (simp; omega) | omega) _ | refine Below.alloc ?_ (by first | (simp; done) | (simp; omega) | omega) _ | refine Below.drew ?_))))) ?_; rintro e w1 ⟨rfl, q, rfl⟩)
        go_ret
        exact ⟨rfl, (by repeat (first | with_reducible exact Below.refl _ _ | with_reducible assumption | refine bgw ?_ (by first | (simp; done) | (simp; omega) | omega) _ | refine Below.setCell ?_ (by first | exact Nat.le_of_not_lt (by assumption) | (simp; done) | (simp; omega) | omega) _ | refine Below.alloc ?_ (by first | (simp; done) | (simp; omega) | omega) _ | refine Below.drew ?_))⟩
      · have hy' : ¬ (40 : Int) < (y.size : Int) := by omega
        have hg := hsucc (by omega)
        clear hsucc
        go_wp2_with fail
        exact ⟨⟨k + 1, by omega, by go_num, hg, (by repeat (first | with_reducible exact Below.refl _ _ | with_reducible assumption | refine bgw ?_ (by first | (simp; done) | (simp; omega) | omega) _ | refine Below.setCell ?_ (by first | exact Nat.le_of_not_lt (by assumption) | (simp; done) | (simp; omega) | omega) _ | refine Below.alloc ?_ (by first | (simp; done) | (simp; omega) | omega) _ | refine Below.drew ?_))⟩, by (try go_num); simp [intOf]; (try omega)⟩
    · obtain rfl : k = l.length := by omega
      have i1 : ¬ (l.length : Int) < (l.length : Int) := by omega
      have h40 : ∀ x ∈ l, x.size ≤ 40 := fun x hx => by obtain ⟨j, hj, rfl⟩ := List.mem_iff_getElem.1 hx; exact hall j hj hj
      have hB := nums_isB s
      have hL : (nums s).length ≤ 1000000 := by rw [nums_length]; omega
      have f1 := fields_len (nums s)
      have f2 := lines_len (nums s)
      rw [nums_length] at f1 f2
      have c1 := fun w' => row_strs (xfields_b (nums s) hB hL w')
      have c2 := fun w' => row_strs (rfields_b (nums s) hB hL w')
      have c3 := fun w' => row_strs (xlines_b (nums s) hB hL w')
      have c4 := fun w' => row_strs (rlines_b (nums s) hB hL w')
      have c5 := fun w' => xident_b (nums s) hB hL w'
      have c6 := fun w' => rident_b (nums s) hB hL w'
      have c7 := fun w' => fun hb : Strs w' A l => xjoin_b A cap 40 l h40 (by omega) w' hb
      have c8 := fun w' => fun hb : Strs w' A l => rjoin_b A cap 40 l h40 (by omega) w' hb
      rw [of_nums] at c1 c2 c3 c4 c5 c6
      generalize fields (nums s) = r1 at *
      generalize lines (nums s) = r2 at *
      obtain ⟨fl, fe⟩ := r1
      obtain ⟨ll, le⟩ := r2
      generalize idt (nums s) = b at *
      generalize strOfNums (jn (numss l)) = J at *
      dsimp only at c1 c2 c3 c4 f1 f2
      have e1 := eq_same fl (by omega)
      have e2 := eq_same ll (by omega)
      clear hall h40 hB hL f1 f2 h1 h2
      have hp' : Strs wr A l := hp.to hbw
      go_wp2_with (first
        | (go_at_call 15; refine Calls.mono (gw_ex (c1 _)) ?_; rintro e w1 ⟨⟨A1, ca1, rfl, s1⟩, q1, rfl⟩)
        | (go_at_call 22; refine Calls.mono (gw_ex (c2 _)) ?_; rintro e w1 ⟨⟨A2, ca2, rfl, s2⟩, q2, rfl⟩)
        | (go_at_call 23; refine Calls.mono (gw_ex (c3 _)) ?_; rintro e w1 ⟨⟨A3, ca3, rfl, s3⟩, q3, rfl⟩)
        | (go_at_call 24; refine Calls.mono (gw_ex (c4 _)) ?_; rintro e w1 ⟨⟨A4, ca4, rfl, s4⟩, q4, rfl⟩)
        | (go_at_call 25; refine Calls.mono (gw_at (c5 _)) ?_; rintro e w1 ⟨rfl, q, rfl⟩)
        | (go_at_call 26; refine Calls.mono (gw_at (c6 _)) ?_; rintro e w1 ⟨rfl, q, rfl⟩)
        | (go_at_call 17; (with_reducible show Calls _ _ (#[Value.slice A1 _ _, _]) _ _); refine Calls.mono (gw_at (e1 _ _ _ _ _ (Cs.to s1 (by repeat (first | with_reducible exact Below.refl _ _ | with_reducible assumption | refine bgw ?_ (by first | (simp; done) | (simp; omega) | omega) _ | refine Below.setCell ?_ (by first | exact Nat.le_of_not_lt (by assumption) | (simp; done) | (simp; omega) | omega) _ | refine Below.alloc ?_ (by first | (simp; done) | (simp; omega) | omega) _ | refine Below.drew ?_))) (Cs.to s2 (by repeat (first | with_reducible exact Below.refl _ _ | with_reducible assumption | refine bgw ?_ (by first | (simp; done) | (simp; omega) | omega) _ | refine Below.setCell ?_ (by first | exact Nat.le_of_not_lt (by assumption) | (simp; done) | (simp; omega) | omega) _ | refine Below.alloc ?_ (by first | (simp; done) | (simp; omega) | omega) _ | refine Below.drew ?_))))) ?_; rintro e w1 ⟨rfl, q, rfl⟩)
        | (go_at_call 17; refine Calls.mono (gw_at (e2 _ _ _ _ _ (Cs.to s3 (by repeat (first | with_reducible exact Below.refl _ _ | with_reducible assumption | refine bgw ?_ (by first | (simp; done) | (simp; omega) | omega) _ | refine Below.setCell ?_ (by first | exact Nat.le_of_not_lt (by assumption) | (simp; done) | (simp; omega) | omega) _ | refine Below.alloc ?_ (by first | (simp; done) | (simp; omega) | omega) _ | refine Below.drew ?_))) (Cs.to s4 (by repeat (first | with_reducible exact Below.refl _ _ | with_reducible assumption | refine bgw ?_ (by first | (simp; done) | (simp; omega) | omega) _ | refine Below.setCell ?_ (by first | exact Nat.le_of_not_lt (by assumption) | (simp; done) | (simp; omega) | omega) _ | refine Below.alloc ?_ (by first | (simp; done) | (simp; omega) | omega) _ | refine Below.drew ?_))))) ?_; rintro e w1 ⟨rfl, q, rfl⟩)
        | (go_at_call 16; refine Calls.mono (gw_at (c7 _ (Cs.to hp' (by repeat (first | with_reducible exact Below.refl _ _ | with_reducible assumption | refine bgw ?_ (by first | (simp; done) | (simp; omega) | omega) _ | refine Below.setCell ?_ (by first | exact Nat.le_of_not_lt (by assumption) | (simp; done) | (simp; omega) | omega) _ | refine Below.alloc ?_ (by first | (simp; done) | (simp; omega) | omega) _ | refine Below.drew ?_))))) ?_; rintro e w1 ⟨rfl, q, rfl⟩)
        | (go_at_call 27; refine Calls.mono (gw_at (c8 _ (Cs.to hp' (by repeat (first | with_reducible exact Below.refl _ _ | with_reducible assumption | refine bgw ?_ (by first | (simp; done) | (simp; omega) | omega) _ | refine Below.setCell ?_ (by first | exact Nat.le_of_not_lt (by assumption) | (simp; done) | (simp; omega) | omega) _ | refine Below.alloc ?_ (by first | (simp; done) | (simp; omega) | omega) _ | refine Below.drew ?_))))) ?_; rintro e w1 ⟨rfl, q, rfl⟩)
        | (go_at_call 9; refine Calls.mono (gw_at (example8_b _ (Tb.to hT (by repeat (first | with_reducible exact Below.refl _ _ | with_reducible assumption | refine bgw ?_ (by first | (simp; done) | (simp; omega) | omega) _ | refine Below.setCell ?_ (by first | exact Nat.le_of_not_lt (by assumption) | (simp; done) | (simp; omega) | omega) _ | refine Below.alloc ?_ (by first | (simp; done) | (simp; omega) | omega) _ | refine Below.drew ?_))))) ?_; rintro e w1 ⟨rfl, q, rfl⟩))
      go_ret
      exact ⟨rfl, (by repeat (first | with_reducible exact Below.refl _ _ | with_reducible assumption | refine bgw ?_ (by first | (simp; done) | (simp; omega) | omega) _ | refine Below.setCell ?_ (by first | exact Nat.le_of_not_lt (by assumption) | (simp; done) | (simp; omega) | omega) _ | refine Below.alloc ?_ (by first | (simp; done) | (simp; omega) | omega) _ | refine Below.drew ?_))⟩

end Go.Proofs.YtdlnidefjdjocaaDoor
