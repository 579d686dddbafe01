/- The contracts of Rot, of the program and of its reference: each returns the rotation (rotc a, rots a), and nothing that existed has changed. No conditions. -/
import Derived.Test.YtffhcjncbocnpaaFixAng
set_option linter.unusedVariables false
namespace Go.Proofs.Ytffhcjncbocnpaa
open Go.RowKit Fx

theorem Gt {a b c : World} (h : Grown a b) (k : Grown b c) : Grown a c :=
  ⟨World.keptBut_trans h.1 k.1, fun x => (k.2.1 x).trans (h.2.1 x), Nat.le_trans h.2.2 k.2.2⟩

theorem Gd {a b : World} (h : Grown a b) (m : Nat) : Grown a (b.drewN m) := Gt h (Dr.grown ⟨m, rfl⟩)

theorem rot_p (a : Int) (w : World) : Calls Try.prog 15 #[.int .i64 a] w fun e w' => e = .returned (.agg #[.int .i64 (rotc a), .int .i64 (rots a)]) ∧ Grown w w' := by
  have h1 := cs_ge a; have h2 := cs_le a; have h3 := sn_ge a; have h4 := sn_le a
  have c1 := mul_between h1 h2 h1 h2
  have s1 := mul_between h3 h4 h3 h4
  go_enter Try.func15, Try.ntmps15
  go_wp2_with (first
    | (go_at_call 13; refine (cos_p _ _).mono ?_; rintro e w1 ⟨rfl, m1, rfl⟩)
    | (go_at_call 11; refine (sin_p _ _).mono ?_; rintro e w2 ⟨rfl, m2, rfl⟩)
    | (go_at_call 23; refine (isq_p _ _).mono ?_; rintro e w3 ⟨rfl, m3, rfl⟩)
    | (go_at_call 24; refine (div_p _ _ _).mono ?_; rintro e w4 ⟨rfl, m4, rfl⟩))
  refine bodyPost_ret (v := .agg #[.int .i64 (rotc a), .int .i64 (rots a)]) (by simp [results, Try.results15, go_sem]; exact ⟨rfl, rfl⟩) rfl ⟨rfl, ?_⟩
  repeat (first | exact Grown.refl _ | refine Gd ?_ _ | refine Grown.alloc ?_ _ _ | refine Grown.setCell ?_ (by simp) _ | refine Grown.drew ?_)

theorem rrot_p (a : Int) (w : World) : Calls Try.prog 16 #[.int .i64 a] w fun e w' => e = .returned (.agg #[.int .i64 (rotc a), .int .i64 (rots a)]) ∧ Grown w w' := by
  have h1 := cs_ge a; have h2 := cs_le a; have h3 := sn_ge a; have h4 := sn_le a
  have c1 := mul_between h1 h2 h1 h2
  have s1 := mul_between h3 h4 h3 h4
  go_enter Try.func16, Try.ntmps16
  go_wp2_with (first
    | (go_at_call 14; refine (rcos_p _ _).mono ?_; rintro e w1 ⟨rfl, m1, rfl⟩)
    | (go_at_call 12; refine (rsin_p _ _).mono ?_; rintro e w2 ⟨rfl, m2, rfl⟩)
    | (go_at_call 25; refine (risq_p _ _).mono ?_; rintro e w3 ⟨rfl, m3, rfl⟩)
    | (go_at_call 26; refine (rdiv_p _ _ _).mono ?_; rintro e w4 ⟨rfl, m4, rfl⟩))
  refine bodyPost_ret (v := .agg #[.int .i64 (rotc a), .int .i64 (rots a)]) (by simp [results, Try.results16, go_sem]; exact ⟨rfl, rfl⟩) rfl ⟨rfl, ?_⟩
  repeat (first | exact Grown.refl _ | refine Gd ?_ _ | refine Grown.alloc ?_ _ _ | refine Grown.setCell ?_ (by simp) _ | refine Grown.drew ?_)

end Go.Proofs.Ytffhcjncbocnpaa
