/- Contracts of the reference of chapter 9. -/
import Derived.Test.YtmdnbmekbhljkaaChecked
import Derived.Test.YtmdnbmekbhljkaaFld
import Derived.Test.YtmdnbmekbhljkaaMix
import Derived.Test.YtmdnbmekbhljkaaCk
import Derived.Test.YtmdnbmekbhljkaaCkM
import Derived.Laws.Closers25b
set_option linter.unusedVariables false
namespace Go.Proofs.Ytmdnbmekbhljkaa
open Go.RowKit Ck

/-- The rounds of Mix64, number by number, in the words of the model. -/
theorem mix_parts (h : Nat) (n : Int) (hh : h < 18446744073709551616) : ∃ A0 A1 A2 A3 A4 A5 : Nat,
    bits BinOp.xor IntKind.u64 (h : Int) (IntKind.u64.wrap n) = (A0 : Int) ∧ IntKind.u64.wrap ((A0 : Int) * 11400714819323198485) = (A1 : Int) ∧ ((A1 : Int).tdiv 4294967296 = (A2 : Int) ∧ (A1 : Int) / 4294967296 = (A2 : Int) ∧ IntKind.u64.wrap (A2 : Int) = (A2 : Int)) ∧
    bits BinOp.xor IntKind.u64 (A1 : Int) (A2 : Int) = (A3 : Int) ∧ IntKind.u64.wrap ((A3 : Int) * 15485907386658061715) = (A4 : Int) ∧ ((A4 : Int).tdiv 536870912 = (A5 : Int) ∧ (A4 : Int) / 536870912 = (A5 : Int) ∧ IntKind.u64.wrap (A5 : Int) = (A5 : Int)) ∧
    bits BinOp.xor IntKind.u64 (A4 : Int) (A5 : Int) = (mx h n : Int) := by
  have hu := un_lt n
  have hun : IntKind.u64.wrap n = (un n : Int) := by rw [wrap_u64]; unfold un; omega
  have h0 : h ^^^ un n < 18446744073709551616 := Nat.xor_lt_two_pow (n := 64) hh hu
  have h1 := M_lt 11400714819323198485 (h ^^^ un n)
  have h3 : S 32 (M 11400714819323198485 (h ^^^ un n)) < 18446744073709551616 := S_lt h1
  have h4 := M_lt 15485907386658061715 (S 32 (M 11400714819323198485 (h ^^^ un n)))
  refine ⟨h ^^^ un n, M 11400714819323198485 (h ^^^ un n), M 11400714819323198485 (h ^^^ un n) / 2 ^ 32, S 32 (M 11400714819323198485 (h ^^^ un n)), M 15485907386658061715 (S 32 (M 11400714819323198485 (h ^^^ un n))), M 15485907386658061715 (S 32 (M 11400714819323198485 (h ^^^ un n))) / 2 ^ 29, ?_, ?_, ⟨?_, ?_, ?_⟩, ?_, ?_, ⟨?_, ?_, ?_⟩, ?_⟩
  · rw [hun, x64 hh hu]
  · rw [wrap_u64]; unfold M; omega
  · rw [Int.tdiv_eq_ediv_of_nonneg (by omega)]; omega
  · omega
  · rw [wrap_u64]; omega
  · rw [x64 h1 (by omega)]; rfl
  · rw [wrap_u64]; unfold M; omega
  · rw [Int.tdiv_eq_ediv_of_nonneg (by omega)]; omega
  · omega
  · rw [wrap_u64]; omega
  · rw [x64 h4 (by omega)]; rfl

theorem rmix_b (h : Nat) (n : Int) (hh : h < 18446744073709551616) (w : World) : Calls Try.prog 13 #[.int .u64 (h : Int), .int .i64 n] w fun e w' => e = .returned (.int .u64 (mx h n : Int)) ∧ Below w.heap.size w w' := by
  obtain ⟨A0, A1, A2, A3, A4, A5, e0, e1, ⟨e2, e2', e2''⟩, e3, e4, ⟨e5, e5', e5''⟩, e6⟩ := mix_parts h n hh
  generalize mx h n = R at *
  go_enter Try.func13, Try.ntmps13
  go_wp2_with fail
  go_ret
  exact ⟨rfl, (by repeat (first | with_reducible exact Below.refl _ _ | with_reducible assumption | refine bgw ?_ (by first | (simp; done) | (simp; omega) | omega) _ | refine Below.setCell ?_ (by first | exact Nat.le_of_not_lt (by assumption) | (simp; done) | (simp; omega) | omega) _ | refine Below.alloc ?_ (by first | (simp; done) | (simp; omega) | omega) _ | refine Below.drew ?_))⟩

theorem rhash_b (A : Option Addr) (cap : Nat) (ns : List Int) (hl : ns.length ≤ 1000000) (w : World) (hp : Ints w A ns) : Calls Try.prog 15 #[.slice A ns.length cap] w fun e w' => e = .returned (.int .u64 (hsh ns : Int)) ∧ Below w.heap.size w w' := by
  have hend : (ns.take ns.length).foldl mx ns.length = hsh ns := by rw [List.take_length]; rfl
  obtain ⟨F, hF⟩ : ∃ F : Nat → Nat, ∀ k, (ns.take k).foldl mx ns.length = F k := ⟨_, fun _ => rfl⟩
  have hF0 : F 0 = ns.length := by rw [← hF]; rfl
  have hF1 : ∀ k (h : k < ns.length), F (k + 1) = mx (F k) ns[k] := fun k h => by rw [← hF, ← hF, hsh_take h]
  have hFl : ∀ k, F k < 18446744073709551616 := fun k => by rw [← hF]; exact fold_lt _ (by omega)
  rw [hF] at hend
  rw [← hend]
  have hwl : IntKind.u64.wrap (ns.length : Int) = (ns.length : Int) := by rw [wrap_u64]; omega
  clear hF hend
  go_enter Try.func15, Try.ntmps15
  go_wp2_with fail
  go_loopw [3, 4] (fun h i wr => ∃ k : Nat, k ≤ ns.length ∧ i = .int .i64 k ∧ h = .int .u64 (F k : Int) ∧ Below w.heap.size w wr)
    (fun _ i _ => (ns.length - intOf i).toNat)
  case atStart => exact ⟨0, by omega, rfl, by rw [hF0], (by repeat (first | with_reducible exact Below.refl _ _ | with_reducible assumption | refine bgw ?_ (by first | (simp; done) | (simp; omega) | omega) _ | refine Below.setCell ?_ (by first | exact Nat.le_of_not_lt (by assumption) | (simp; done) | (simp; omega) | omega) _ | refine Below.alloc ?_ (by first | (simp; done) | (simp; omega) | omega) _ | refine Below.drew ?_))⟩
  case round =>
    obtain ⟨k, hk, rfl, rfl, hbw⟩ := hrel
    have hsz := hbw.size
    by_cases hlt : k < ns.length
    · have i0 : (0 : Int) ≤ (k : Int) := by omega
      have i1 : (k : Int) < (ns.length : Int) := by omega
      obtain ⟨b, off, rfl, hce⟩ := Ints.open (hp.to hbw) (by omega)
      have d1 := hce k hlt
      have o1 := older_of_cell d1
      have hs := hF1 k hlt
      have hc := fun w' => rmix_b (F k) ns[k] (hFl k) w'
      rw [← hs] at hc
      generalize hY : F (k + 1) = Y at *
      generalize F k = X at *
      have hY' : Hid (F (k + 1) = Y) := hY
      clear hce hF1 hFl hF0 hs hY
      generalize ns[k] = x at *
      go_wp2_with (go_at_call 13; refine Calls.mono (gw_at (hc _)) ?_; rintro e w1 ⟨rfl, q, rfl⟩)
      exact ⟨⟨k + 1, by omega, by go_num, by rw [hY'.out], (by repeat (first | with_reducible exact Below.refl _ _ | with_reducible assumption | refine bgw ?_ (by first | (simp; done) | (simp; omega) | omega) _ | refine Below.setCell ?_ (by first | exact Nat.le_of_not_lt (by assumption) | (simp; done) | (simp; omega) | omega) _ | refine Below.alloc ?_ (by first | (simp; done) | (simp; omega) | omega) _ | refine Below.drew ?_))⟩, by (try go_num); simp [intOf]; (try omega)⟩
    · obtain rfl : k = ns.length := by omega
      have i1 : ¬ (ns.length : Int) < (ns.length : Int) := by omega
      clear hF1 hFl hF0
      go_wp2_with fail
      go_ret
      exact ⟨rfl, (by repeat (first | with_reducible exact Below.refl _ _ | with_reducible assumption | refine bgw ?_ (by first | (simp; done) | (simp; omega) | omega) _ | refine Below.setCell ?_ (by first | exact Nat.le_of_not_lt (by assumption) | (simp; done) | (simp; omega) | omega) _ | refine Below.alloc ?_ (by first | (simp; done) | (simp; omega) | omega) _ | refine Below.drew ?_))⟩

end Go.Proofs.Ytmdnbmekbhljkaa
