/- The walk of Vec2QuarterTurns: it returns true for every input, and nothing that existed has changed. No conditions. -/
import Derived.Test.YtlcijdfjnblmiaaFixW
import Derived.Test.YtlcijdfjnblmiaaVecQ
set_option linter.unusedVariables false
namespace Go.Proofs.Ytlcijdfjnblmiaa
open Go.RowKit Fx

theorem walk_Vec2QuarterTurns (x y n : Int) (hn : IntKind.u8.has n) (w : World) : Calls Try.prog 8 #[.agg #[.int .i64 x, .int .i64 y], .int .u8 n] w fun e w' => e = .returned (.bool true) ∧ Below w.heap.size w w' := by
  obtain ⟨n0, n1⟩ := Opn.has_u8 hn
  clear hn
  have m0 : 0 ≤ n % 4 := by omega
  have m1 : n % 4 ≤ 3 := by omega
  go_enter Try.func8, Try.ntmps8
  go_wp2_with (first | (go_at_call 9; refine (gw_at (vadd_b _ _ _ _ _)).mono ?_; rintro e w1 ⟨rfl, q, rfl⟩) | (go_at_call 15; refine (gw_at (vperp_b _ _ _)).mono ?_; rintro e w1 ⟨rfl, q, rfl⟩) | (go_at_call 32; refine (gw_at (vrot_b _ _ _ _ _)).mono ?_; rintro e w1 ⟨rfl, q, rfl⟩) | (go_at_call 34; refine (gw_at (virot_b _ _ _ _ _)).mono ?_; rintro e w1 ⟨rfl, q, rfl⟩) | (go_at_call 31; refine (gw_at (example3_b _)).mono ?_; rintro e w1 ⟨rfl, q, rfl⟩))
  have hb0 : blk ((gw ((w.alloc (Obj.cells #[Value.int IntKind.i64 x, Value.int IntKind.i64 y] 23)).alloc (Obj.cells #[Value.int IntKind.i64 65536, Value.int IntKind.i64 0] 35)) q).alloc (Obj.cells #[Value.int IntKind.i64 (add x 0), Value.int IntKind.i64 (add y 0)] 23)) w.heap.size #[Value.int IntKind.i64 x, Value.int IntKind.i64 y] 23 :=
    blk_alloc (blk_gw (blk_alloc (blk_new _ _ _)))
  have hb1 : blk ((gw ((w.alloc (Obj.cells #[Value.int IntKind.i64 x, Value.int IntKind.i64 y] 23)).alloc (Obj.cells #[Value.int IntKind.i64 65536, Value.int IntKind.i64 0] 35)) q).alloc (Obj.cells #[Value.int IntKind.i64 (add x 0), Value.int IntKind.i64 (add y 0)] 23)) (w.heap.size + 1) #[Value.int IntKind.i64 65536, Value.int IntKind.i64 0] 35 :=
    blk_alloc (blk_gw (blk_at (by simp)))
  have hb2 : blk ((gw ((w.alloc (Obj.cells #[Value.int IntKind.i64 x, Value.int IntKind.i64 y] 23)).alloc (Obj.cells #[Value.int IntKind.i64 65536, Value.int IntKind.i64 0] 35)) q).alloc (Obj.cells #[Value.int IntKind.i64 (add x 0), Value.int IntKind.i64 (add y 0)] 23)) (w.heap.size + 1 + 1 + q.os.size) #[Value.int IntKind.i64 (add x 0), Value.int IntKind.i64 (add y 0)] 23 :=
    blk_at (by simp)
  have hbe : Below w.heap.size w ((gw ((w.alloc (Obj.cells #[Value.int IntKind.i64 x, Value.int IntKind.i64 y] 23)).alloc (Obj.cells #[Value.int IntKind.i64 65536, Value.int IntKind.i64 0] 35)) q).alloc (Obj.cells #[Value.int IntKind.i64 (add x 0), Value.int IntKind.i64 (add y 0)] 23)) := (by repeat (first | with_reducible exact Below.refl _ _ | with_reducible assumption | refine bgw ?_ (by first | (simp; done) | (simp; omega) | omega) _ | refine Below.setCell ?_ (by first | exact Nat.le_of_not_lt (by assumption) | (simp; done) | (simp; omega) | omega) _ | refine Below.alloc ?_ (by first | (simp; done) | (simp; omega) | omega) _ | refine Below.drew ?_))
  have g01 : w.heap.size < w.heap.size + 1 := by omega
  have g12 : w.heap.size + 1 < w.heap.size + 1 + 1 + q.os.size := by omega
  generalize w.heap.size + 1 + 1 + q.os.size = B2 at *
  generalize hB1 : w.heap.size + 1 = B1 at *
  clear hB1
  go_loopw [7] (fun i wr => ∃ k : Nat, (k : Int) ≤ n % 4 ∧ i = .int .i64 k ∧ blk wr w.heap.size #[Value.int IntKind.i64 x, Value.int IntKind.i64 y] 23 ∧
      blk wr B1 #[Value.int IntKind.i64 (qr k).1, Value.int IntKind.i64 (qr k).2] 35 ∧ blk wr B2 #[Value.int IntKind.i64 (qv x y k).1, Value.int IntKind.i64 (qv x y k).2] 23 ∧ Below w.heap.size w wr)
    (fun i _ => (n % 4 - intOf i).toNat)
  case atStart => exact ⟨0, by omega, rfl, hb0, hb1, hb2, hbe⟩
  case round =>
    obtain ⟨k, hk, rfl, h0, h1, h2, hbw⟩ := hrel
    have qi := qr_in k
    have o0 := blk_older h0
    have o1 := blk_older h1
    have o2 := blk_older h2
    have c00 : wr.cell? ⟨w.heap.size, 0, none⟩ = some (.int .i64 x) := blk_cell h0 0
    have c01 : wr.cell? ⟨w.heap.size, 1, none⟩ = some (.int .i64 y) := blk_cell h0 1
    have c10 : wr.cell? ⟨B1, 0, none⟩ = some (.int .i64 (qr k).1) := blk_cell h1 0
    have c11 : wr.cell? ⟨B1, 1, none⟩ = some (.int .i64 (qr k).2) := blk_cell h1 1
    have c20 : wr.cell? ⟨B2, 0, none⟩ = some (.int .i64 (qv x y k).1) := blk_cell h2 0
    have c21 : wr.cell? ⟨B2, 1, none⟩ = some (.int .i64 (qv x y k).2) := blk_cell h2 1
    have f10 : wr.frozen? ⟨B1, 0, none⟩ = false := blk_free h1 0
    have f11 : wr.frozen? ⟨B1, 1, none⟩ = false := blk_free h1 1
    have f20 : wr.frozen? ⟨B2, 0, none⟩ = false := blk_free h2 0
    have f21 : wr.frozen? ⟨B2, 1, none⟩ = false := blk_free h2 1
    have ne12 : ¬ B1 = B2 := by omega
    have ne21 : ¬ B2 = B1 := by omega
    by_cases hlt : (k : Int) < n % 4
    · have hmod : (n : Int) % 4 < 4 := by omega
      go_wp2_with (first | (go_at_call 9; refine (gw_at (vadd_b _ _ _ _ _)).mono ?_; rintro e w1 ⟨rfl, q, rfl⟩) | (go_at_call 15; refine (gw_at (vperp_b _ _ _)).mono ?_; rintro e w1 ⟨rfl, q, rfl⟩) | (go_at_call 32; refine (gw_at (vrot_b _ _ _ _ _)).mono ?_; rintro e w1 ⟨rfl, q, rfl⟩) | (go_at_call 34; refine (gw_at (virot_b _ _ _ _ _)).mono ?_; rintro e w1 ⟨rfl, q, rfl⟩) | (go_at_call 31; refine (gw_at (example3_b _)).mono ?_; rintro e w1 ⟨rfl, q, rfl⟩))
      refine ⟨⟨k + 1, by omega, by go_num, ?_, ?_, ?_, ?_⟩, by simp [intOf]; omega⟩
      · exact (by apply blk_of; (repeat (first | with_reducible exact h0 | with_reducible apply blk_gw | with_reducible apply blk_alloc | with_reducible apply blk_set | ((with_reducible apply blk_other); focus omega))); (first | rfl | simp))
      · exact (by apply blk_of; (repeat (first | with_reducible exact h1 | with_reducible apply blk_gw | with_reducible apply blk_alloc | with_reducible apply blk_set | ((with_reducible apply blk_other); focus omega))); (first | rfl | simp))
      · exact (by apply blk_of; (repeat (first | with_reducible exact h2 | with_reducible apply blk_gw | with_reducible apply blk_alloc | with_reducible apply blk_set | ((with_reducible apply blk_other); focus omega))); (first | rfl | simp))
      · have hsz := hbw.size
        exact (by repeat (first | with_reducible exact Below.refl _ _ | with_reducible assumption | refine bgw ?_ (by first | (simp; done) | (simp; omega) | omega) _ | refine Below.setCell ?_ (by first | exact Nat.le_of_not_lt (by assumption) | (simp; done) | (simp; omega) | omega) _ | refine Below.alloc ?_ (by first | (simp; done) | (simp; omega) | omega) _ | refine Below.drew ?_))
    · have hk3 : k ≤ 3 := by omega
      have hsz := hbw.size
      have e1 : (rotx (qr k).1 (qr k).2 x y == (qv x y k).1) = true := by rw [beq_iff_eq]; exact (rot4 x y k hk3).1
      have e2 : (roty (qr k).1 (qr k).2 x y == (qv x y k).2) = true := by rw [beq_iff_eq]; exact (rot4 x y k hk3).2
      have e3 : (irotx (qr k).1 (qr k).2 (rotx (qr k).1 (qr k).2 x y) (roty (qr k).1 (qr k).2 x y) == add x 0) = true := by rw [beq_iff_eq]; exact (irot4 x y k hk3).1
      have e4 : (iroty (qr k).1 (qr k).2 (rotx (qr k).1 (qr k).2 x y) (roty (qr k).1 (qr k).2 x y) == add y 0) = true := by rw [beq_iff_eq]; exact (irot4 x y k hk3).2
      go_wp2_with (first | (go_at_call 9; refine (gw_at (vadd_b _ _ _ _ _)).mono ?_; rintro e w1 ⟨rfl, q, rfl⟩) | (go_at_call 15; refine (gw_at (vperp_b _ _ _)).mono ?_; rintro e w1 ⟨rfl, q, rfl⟩) | (go_at_call 32; refine (gw_at (vrot_b _ _ _ _ _)).mono ?_; rintro e w1 ⟨rfl, q, rfl⟩) | (go_at_call 34; refine (gw_at (virot_b _ _ _ _ _)).mono ?_; rintro e w1 ⟨rfl, q, rfl⟩) | (go_at_call 31; refine (gw_at (example3_b _)).mono ?_; rintro e w1 ⟨rfl, q, rfl⟩))
      refine wp_region_gw (by kernel_rfl) (by kernel_rfl) ?_
      repeat (go_big_quiet_step ((first | (go_at_call 9; exact gw_call (vadd_b _ _ _ _ _)) | (go_at_call 15; exact gw_call (vperp_b _ _ _)) | (go_at_call 32; exact gw_call (vrot_b _ _ _ _ _)) | (go_at_call 34; exact gw_call (virot_b _ _ _ _ _)) | (go_at_call 31; exact gw_call (example3_b _)))))
      refine wpQuiet_nil ?_
      intro w1 hw1
      obtain ⟨q, rfl⟩ := hw1
      go_wp2_with (first | (go_at_call 9; refine (gw_at (vadd_b _ _ _ _ _)).mono ?_; rintro e w1 ⟨rfl, q, rfl⟩) | (go_at_call 15; refine (gw_at (vperp_b _ _ _)).mono ?_; rintro e w1 ⟨rfl, q, rfl⟩) | (go_at_call 32; refine (gw_at (vrot_b _ _ _ _ _)).mono ?_; rintro e w1 ⟨rfl, q, rfl⟩) | (go_at_call 34; refine (gw_at (virot_b _ _ _ _ _)).mono ?_; rintro e w1 ⟨rfl, q, rfl⟩) | (go_at_call 31; refine (gw_at (example3_b _)).mono ?_; rintro e w1 ⟨rfl, q, rfl⟩))
      go_ret
      exact ⟨rfl, (by repeat (first | with_reducible exact Below.refl _ _ | with_reducible assumption | refine bgw ?_ (by first | (simp; done) | (simp; omega) | omega) _ | refine Below.setCell ?_ (by first | exact Nat.le_of_not_lt (by assumption) | (simp; done) | (simp; omega) | omega) _ | refine Below.alloc ?_ (by first | (simp; done) | (simp; omega) | omega) _ | refine Below.drew ?_))⟩

end Go.Proofs.Ytlcijdfjnblmiaa
