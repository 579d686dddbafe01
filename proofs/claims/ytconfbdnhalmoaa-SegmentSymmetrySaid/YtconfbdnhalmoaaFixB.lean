/- Contracts of RoundDiv, of the program and of the reference: each returns rdiv n d, whatever n and d are, and leaves the world as it is up to draws. No conditions. -/
import Derived.Test.YtconfbdnhalmoaaFixA
import Derived.Deep.QuietTactic
import Derived.BigQuiet
import Derived.Lib.Hide
namespace Go.Proofs.Ytconfbdnhalmoaa
open Go.RowKit Fx

/-- the world is as it was, but for draws -/
def Dr (w w' : World) : Prop := ∃ m, w' = w.drewN m
theorem Dr.refl (w : World) : Dr w w := ⟨0, rfl⟩
theorem Dr.trans {a b c : World} (h : Dr a b) (k : Dr b c) : Dr a c := by
  obtain ⟨m, rfl⟩ := h; obtain ⟨n, rfl⟩ := k; exact ⟨m + n, by rw [World.drewN_drewN]⟩
theorem Dr.mk (w : World) (n : Nat) : Dr w (w.drewN n) := ⟨n, rfl⟩
theorem Dr.grown {w w' : World} (h : Dr w w') : Grown w w' := by
  obtain ⟨m, rfl⟩ := h; exact Grown.refl w
theorem Dr.of_eq {w w' : World} (h : w = w') : Dr w w' := h ▸ Dr.refl w

theorem rd_out (n d : Int) (w : World) (h : d < 1 ∨ 4611686018427387904 < d ∨ n < -4611686018427387904 ∨ 4611686018427387904 < n) : Calls Try.prog 55 #[.int .i64 n, .int .i64 d] w fun e w' => e = .returned (.int .i64 0) ∧ Dr w w' := by
  by_cases h1 : d < 1
  · clear h
    go_enter Try.func55, Try.ntmps55
    go_wp2
    go_ret
    exact ⟨rfl, Dr.refl _⟩
  · by_cases h2 : 4611686018427387904 < d
    · clear h
      go_enter Try.func55, Try.ntmps55
      go_wp2
      go_ret
      exact ⟨rfl, Dr.refl _⟩
    · by_cases h3 : n < -4611686018427387904
      · clear h
        go_enter Try.func55, Try.ntmps55
        go_wp2
        go_ret
        exact ⟨rfl, Dr.refl _⟩
      · have h4 : 4611686018427387904 < n := by omega
        clear h
        go_enter Try.func55, Try.ntmps55
        go_wp2
        go_ret
        exact ⟨rfl, Dr.refl _⟩

theorem rd_pos (n d : Int) (w : World) (h1 : 1 ≤ d) (h2 : d ≤ 4611686018427387904) (h3 : 0 ≤ n) (h4 : n ≤ 4611686018427387904) : Calls Try.prog 55 #[.int .i64 n, .int .i64 d] w fun e w' => e = .returned (.int .i64 (rcore n d)) ∧ Dr w w' := by
  have he := (euclid n d h1).2
  have hb := ediv_bounds h3 h1
  by_cases hc : d ≤ 2 * (n % d)
  · go_enter Try.func55, Try.ntmps55
    go_wp2
    go_quiet (fail)
    go_wp2
    go_ret
    exact ⟨ret_int (rcore_up h3 hc).symm, Dr.mk _ _⟩
  · go_enter Try.func55, Try.ntmps55
    go_wp2
    go_quiet (fail)
    go_wp2
    go_ret
    exact ⟨ret_int (rcore_down h3 (by omega)).symm, Dr.mk _ _⟩

theorem rd_neg (n d : Int) (w : World) (h1 : 1 ≤ d) (h2 : d ≤ 4611686018427387904) (h3 : n < 0) (h4 : -4611686018427387904 ≤ n) : Calls Try.prog 55 #[.int .i64 n, .int .i64 d] w fun e w' => e = .returned (.int .i64 (rcore n d)) ∧ Dr w w' := by
  have he := (euclid (-n) d h1).2
  have hb := ediv_bounds (m := -n) (d := d) (by omega) h1
  have ht := tdiv_neg (n := n) (d := d) (by omega)
  have t1 : -4611686018427387904 ≤ n.tdiv d := by omega
  have t2 : n.tdiv d ≤ 0 := by omega
  have t3 : -d < n.tmod d := by omega
  have t4 : n.tmod d ≤ 0 := by omega
  have Ht := Lib.hid ht
  clear ht
  by_cases hc : 2 * n.tmod d ≤ -d
  · clear he hb
    go_enter Try.func55, Try.ntmps55
    go_wp2
    go_quiet (fail)
    go_wp2
    go_ret
    have hd := Ht.out
    exact ⟨ret_int (by rw [rcore_nup h3 (by omega)]; omega), Dr.mk _ _⟩
  · clear he hb
    go_enter Try.func55, Try.ntmps55
    go_wp2
    go_quiet (fail)
    go_wp2
    go_ret
    have hd := Ht.out
    exact ⟨ret_int (by rw [rcore_ndown h3 (by omega)]; omega), Dr.mk _ _⟩

theorem rd_p (n d : Int) (w : World) : Calls Try.prog 55 #[.int .i64 n, .int .i64 d] w fun e w' => e = .returned (.int .i64 (rdiv n d)) ∧ Dr w w' := by
  by_cases h : d < 1 ∨ 4611686018427387904 < d ∨ n < -4611686018427387904 ∨ 4611686018427387904 < n
  · rw [rdiv_out h]; exact rd_out n d w h
  · rw [rdiv_in (by omega) (by omega) (by omega) (by omega)]
    by_cases h3 : 0 ≤ n
    · exact rd_pos n d w (by omega) (by omega) h3 (by omega)
    · exact rd_neg n d w (by omega) (by omega) (by omega) (by omega)

end Go.Proofs.Ytconfbdnhalmoaa
