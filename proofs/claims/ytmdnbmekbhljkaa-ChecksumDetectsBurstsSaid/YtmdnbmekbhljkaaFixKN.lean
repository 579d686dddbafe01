/- The walk of chapter 9's statement of bursts: it returns true for every input, and nothing that existed has changed. No conditions. -/
import Derived.Test.YtmdnbmekbhljkaaFixKL
set_option linter.unusedVariables false
namespace Go.Proofs.Ytmdnbmekbhljkaa
open Go.RowKit Ck

/-- An own row of bytes as a block: the bytes, then what the capacity holds behind them. -/
theorem own_bytes {w : World} {B n : Nat} {v : Value} {bs : List Int} (h : w.ownsRow B 5 1 v n (yv bs)) (hn : 0 < n) : ∃ g cap rest, v = .slice (some ⟨g, 0, none⟩) n cap ∧ B ≤ g ∧ n ≤ cap ∧ bs.length = n ∧ blk w g (yv bs ++ rest).toArray 5 := by
  obtain ⟨hl, ⟨rfl, rfl⟩ | ⟨g, cap, cur, rfl, hb, hh, hnc, hm, hc, ht⟩⟩ := h
  · omega
  · refine ⟨g, cap, cur.toList.drop (n * 1), rfl, hb, hnc, by simpa using hl, ?_⟩
    rw [← ht, List.take_append_drop]
    exact hh
theorem yrow_cell {w : World} {g : Nat} {e : TypeId} {bs : List Int} {rest : List Value} (h : blk w g (yv bs ++ rest).toArray e) {i : Nat} (hi : i < bs.length) : w.cell? ⟨g, i, none⟩ = some (.int .u8 bs[i]) := by
  rw [blk_cell h]; simp [List.getElem?_append, hi, yv]
theorem yrow_set (bs : List Int) (rest : List Value) {i : Nat} (hi : i < bs.length) (x : Int) : (yv bs ++ rest).toArray.setIfInBounds i (.int .u8 x) = (yv (bs.set i x) ++ rest).toArray := by
  simp [hi, yv, List.map_set]
theorem yrow_cs {w : World} {g : Nat} {e : TypeId} {bs : List Int} {rest : List Value} (h : blk w g (yv bs ++ rest).toArray e) : Byts w (some ⟨g, 0, none⟩) bs :=
  Cs.of_blk h fun i hi => by
    have hi' : i < bs.length := by simpa using hi
    simp [List.getElem?_append, hi', yv]
theorem pow_dbl {i : Nat} (h : i < 7) : IntKind.u8.wrap (((2 ^ i : Nat) : Int) * 2) = ((2 ^ (i + 1) : Nat) : Int) := by
  have h1 : (2 : Nat) ^ (i + 1) ≤ 2 ^ 7 := Nat.pow_le_pow_right (by omega) (by omega)
  have h2 : (2 : Nat) ^ 7 = 128 := by decide
  rw [wrap_u8, Nat.pow_succ] at *
  omega
theorem mul_xor (a b f : Nat) : (a ^^^ b) * 2 ^ f = a * 2 ^ f ^^^ b * 2 ^ f := by
  rw [← Nat.shiftLeft_eq, ← Nat.shiftLeft_eq, ← Nat.shiftLeft_eq, Nat.shiftLeft_xor_distrib]
theorem isB_set {cs : List Int} (h : isB cs) (i x : Nat) (hx : x < 256) : isB (cs.set i (x : Int)) := fun y hy => by
  rcases List.mem_or_eq_of_mem_set hy with h1 | rfl
  · exact h y h1
  · omega
/-- One bit more turned. -/
theorem burst_step {m f k E : Nat} {cs S : List Int} (hE : E < 2 ^ k) (hEf : E * 2 ^ f < 2 ^ (8 * m)) (hcs : cs.length = m) (hB : isB cs) (hn : num cs = num S ^^^ E * 2 ^ f) (hk : f + k < 8 * m) (h : (f + k) / 8 < cs.length) :
    num (cs.set ((f + k) / 8) (((cs[(f + k) / 8].toNat ^^^ 2 ^ ((f + k) % 8) : Nat)) : Int)) = num S ^^^ (E ^^^ 2 ^ k) * 2 ^ f ∧ E ^^^ 2 ^ k < 2 ^ (k + 1) ∧ E ^^^ 2 ^ k ≠ 0 ∧ (E ^^^ 2 ^ k) * 2 ^ f < 2 ^ (8 * m) := by
  have hp : (2 : Nat) ^ k < 2 ^ (k + 1) := by rw [Nat.pow_succ]; have := Nat.pow_pos (n := k) (show 0 < 2 by omega); omega
  refine ⟨?_, ?_, ?_, ?_⟩
  · rw [num_set _ _ h hB, hn, mul_xor, Nat.xor_assoc, ← Nat.pow_add, Nat.add_comm k f]
  · exact Nat.xor_lt_two_pow (by omega) hp
  · intro e
    have := xor_zero_eq e
    omega
  · rw [mul_xor, ← Nat.pow_add]
    exact Nat.xor_lt_two_pow hEf (Nat.pow_lt_pow_right (by omega) (by omega))

set_option maxRecDepth 100000 in
set_option maxHeartbeats 8000000 in
theorem walk_ChecksumDetectsBursts (A : Option Addr) (cap : Nat) (bs : List Int) (p b : Int) (hB : isB bs) (hat : IntKind.u16.has p) (hbits : IntKind.u32.has b) (w : World) (hp : Byts w A bs) (hl : bs.length ≤ cap) (hc : cap ≤ maxLen) (hA : A = none → cap = 0) : Calls Try.prog 6 #[.slice A bs.length cap, .int .u16 p, .int .u32 b] w fun e w' => e = .returned (.bool true) ∧ Below w.heap.size w w' := by
  by_cases h1 : 400 < bs.length
  focus
    have h1' : (400 : Int) < (bs.length : Int) := by omega
    go_enter Try.func6, Try.ntmps6
    go_wp2_with (go_at_call 9; refine Calls.mono (gw_at (example9_b _)) ?_; rintro e w1 ⟨rfl, q, rfl⟩)
    go_ret
    exact ⟨rfl, (by repeat (first | with_reducible exact Below.refl _ _ | with_reducible assumption | refine bgw ?_ (by first | (simp; done) | (simp; omega) | omega) _ | refine Below.setCell ?_ (by first | exact Nat.le_of_not_lt (by assumption) | (simp; done) | (simp; omega) | omega) _ | refine Below.alloc ?_ (by first | (simp; done) | (simp; omega) | omega) _ | refine Below.drew ?_))⟩
  have h1' : ¬ (400 : Int) < (bs.length : Int) := by omega
  by_cases hb0 : b = 0
  focus
    have hb0' : (b == 0) = true := by rw [beq_iff_eq]; exact hb0
    clear hb0
    go_enter Try.func6, Try.ntmps6
    go_wp2_with (go_at_call 9; refine Calls.mono (gw_at (example9_b _)) ?_; rintro e w1 ⟨rfl, q, rfl⟩)
    go_ret
    exact ⟨rfl, (by repeat (first | with_reducible exact Below.refl _ _ | with_reducible assumption | refine bgw ?_ (by first | (simp; done) | (simp; omega) | omega) _ | refine Below.setCell ?_ (by first | exact Nat.le_of_not_lt (by assumption) | (simp; done) | (simp; omega) | omega) _ | refine Below.alloc ?_ (by first | (simp; done) | (simp; omega) | omega) _ | refine Below.drew ?_))⟩
  have hb0' : (b == 0) = false := by rw [beq_eq_false_iff_ne]; exact hb0
  have hp0 : 0 ≤ p ∧ p < 65536 := by have a := hat.1; have c := hat.2; simp [IntKind.min, IntKind.max, IntKind.bits, IntKind.signed] at a c; omega
  have hbb : 0 ≤ b ∧ b < 4294967296 := by have a := hbits.1; have c := hbits.2; simp [IntKind.min, IntKind.max, IntKind.bits, IntKind.signed] at a c; omega
  clear hat hbits hb0
  obtain ⟨m, hm⟩ : ∃ m, bs.length + 4 = m := ⟨_, rfl⟩
  have hmI : (bs.length : Int) + 4 = (m : Int) := by omega
  have cS := fun w' => fun hb : Byts w' A bs => seal_row (xsea_b A cap bs bs.length rfl hB (by omega) hl hA w' hb)
  have hSl := sea_length bs
  have hSB := sea_isB hB
  rw [hm] at cS hSl
  obtain ⟨f, hf⟩ : ∃ f : Nat, p.tmod (8 * (m : Int)) = f := ⟨(p.tmod (8 * (m : Int))).toNat, by
    rw [Int.tmod_eq_emod_of_nonneg hp0.1]; have := Int.emod_nonneg p (b := 8 * (m : Int)) (by omega); omega⟩
  have hf8 : f < 8 * m := by
    rw [Int.tmod_eq_emod_of_nonneg hp0.1] at hf
    have := Int.emod_lt_of_pos p (b := 8 * (m : Int)) (by omega); omega
  have hpw : wrap64 p = p := by unfold wrap64; omega
  have hopn := opn_sea bs
  have hm8 : ¬ 8 * (m : Int) = 0 := by omega
  have hcm : m ≤ 404 := by omega
  have hm4 : 4 ≤ m := by omega
  obtain ⟨S, hS⟩ : ∃ S, sea bs = S := ⟨_, rfl⟩
  rw [hS] at cS hSl hSB hopn
  have hbst : ∀ {cs : List Int} {E : Nat}, isB cs → cs.length = m → E < 4294967296 → E ≠ 0 → E * 2 ^ f < 2 ^ (8 * m) → num cs = num S ^^^ E * 2 ^ f → opn cs = ([], 22) := fun {cs E} g1 g2 g3 g4 g5 g6 => by
    subst hS
    exact opn_burst hB g1 (by rw [g2, hSl]) g3 g4 (by rw [g2]; exact g5) g6
  obtain ⟨i0, hi, hz0, hz1, hz2⟩ := info_parts info_u8
  clear hp0 hS
  generalize hL : bs.length = L at *
  go_enter Try.func6, Try.ntmps6
  go_wp2_with (first
    | (go_at_call 10; refine Calls.mono (gw_ex (cS _ (Cs.to hp (by repeat (first | with_reducible exact Below.refl _ _ | with_reducible assumption | refine bgw ?_ (by first | (simp; done) | (simp; omega) | omega) _ | refine Below.setCell ?_ (by first | exact Nat.le_of_not_lt (by assumption) | (simp; done) | (simp; omega) | omega) _ | refine Below.alloc ?_ (by first | (simp; done) | (simp; omega) | omega) _ | refine Below.drew ?_))))) ?_; rintro e w1 ⟨⟨A1, k1, rfl, a1, a2, a3, a4⟩, q1, rfl⟩)
    | ((at_builtin; refine wpList_appN rfl (.tmp 33) (.tmp 34) 22 rfl (w.heap.size) 5 i0 (.int .u8 0) 1 Try.underlying22 hi hz0 hz1 hz2 rfl _ _ _ rfl (owns_lit (xs := []) (by repeat (first | with_reducible exact blk_new _ _ _ | ((with_reducible refine blk_at ?_); (simp; done)) | with_reducible apply blk_alloc | with_reducible apply blk_gw | with_reducible apply blk_drew)) rfl (by first | (simp; done) | (simp; omega) | omega) (by decide)) _ _ _ (yv S) rfl a3 (by first | (simp; done) | (simp; omega)) (Cs.to a4 (by repeat (first | with_reducible exact Below.refl _ _ | with_reducible assumption | refine bgw ?_ (by first | (simp; done) | (simp; omega) | omega) _ | refine Below.setCell ?_ (by first | exact Nat.le_of_not_lt (by assumption) | (simp; done) | (simp; omega) | omega) _ | refine Below.alloc ?_ (by first | (simp; done) | (simp; omega) | omega) _ | refine Below.drew ?_))) (fun u hu => by first | exact yv_one _ u hu | (simp at hu; subst hu; rfl)) (by first | (unfold maxLen; omega) | (unfold maxLen; simp; omega)) (by first | omega | (simp; omega)) (by first | (simp; done) | (simp; omega) | omega) ?_; intro v3 w3 hown3 hb3; have hs3 := hb3.size; try simp at hs3); rw [List.nil_append, Nat.zero_add] at hown3; obtain ⟨g, gc, rest, rfl, hg, hgn, -, hgb⟩ := own_bytes hown3 (by omega)))
  refine wp_named ?_
  intro W hW
  have hbW : Below w.heap.size w W := by rw [hW]; exact Below.trans (by repeat (first | with_reducible exact Below.refl _ _ | with_reducible assumption | refine bgw ?_ (by first | (simp; done) | (simp; omega) | omega) _ | refine Below.setCell ?_ (by first | exact Nat.le_of_not_lt (by assumption) | (simp; done) | (simp; omega) | omega) _ | refine Below.alloc ?_ (by first | (simp; done) | (simp; omega) | omega) _ | refine Below.drew ?_)) hb3
  have hgW : blk W g (yv S ++ rest).toArray 5 := by rw [hW]; exact hgb
  have hszW := hbW.size
  clear hW hown3 hgb hb3 hs3 cS a4 hm hmI
  go_loopw [2, 10, 11] (fun bv t kv wr => ∃ (k E B : Nat) (cs : List Int), k ≤ 32 ∧ kv = .int .i64 k ∧ bv = .int .u32 (B : Int) ∧ B < 4294967296 ∧ t = .bool (decide (E ≠ 0)) ∧ cs.length = m ∧ isB cs ∧ blk wr g (yv cs ++ rest).toArray 5 ∧ Hid (num cs = num S ^^^ E * 2 ^ f) ∧ E < 2 ^ k ∧ E * 2 ^ f < 2 ^ (8 * m) ∧ Hid (E = 0 → cs = S) ∧ Below w.heap.size w wr)
    (fun _ _ kv _ => (32 - intOf kv).toNat)
  case atStart => exact ⟨0, 0, b.toNat, S, by omega, rfl, by rw [Int.toNat_of_nonneg hbb.1], by omega, by simp, hSl, hSB, hgW, by show _ = _; simp, by decide, by simp; exact Nat.pow_pos (by omega), fun _ => rfl, hbW⟩
  case round =>
    obtain ⟨k, E, B, cs, hk, rfl, rfl, hB32, rfl, hcs, hcB, hgr, hnum, hEk, hEf, hE0, hbw⟩ := hrel
    have hsz := hbw.size
    by_cases hlt : k < 32
    rotate_left
    focus
      obtain rfl : k = 32 := by omega
      have hE32 : E < 4294967296 := hEk
      have hcb : Byts wr (some ⟨g, 0, none⟩) cs := yrow_cs hgr
      have cO := fun w' => fun hb : Byts w' (some ⟨g, 0, none⟩) cs => open_row (xopn_b (some ⟨g, 0, none⟩) gc cs m hcs hcB (by omega) hgn (fun h => by cases h) w' hb)
      by_cases hE : E = 0
      focus
        have hcS := hE0.out hE
        subst hE hcS
        rw [hopn] at cO
        dsimp only at cO
        rw [hL] at cO
        have hps : ∀ w', Below wr.heap.size wr w' → Byts w' A bs := fun w' hb => Cs.to (Cs.to hp hbw) hb
        have v0 : ∀ p, (convert 22 9 (.slice A L cap)).run Try.prog (gw wr p) = .ok (.string (strOfNums bs)) (gw wr p) := fun p => str_run Try.underlying22 Try.underlying5 Try.underlying9 hL (hps _ (Below.refl _ _)) (below_gw wr p)
        rw [show decide ((0 : Nat) ≠ 0) = false from rfl]
        clear hbst hE0 hnum hopn hEf hEk
        go_wp2_with (first
          | (go_at_call 11; refine Calls.mono (gw_ex (cO _ (Cs.to hcb (by repeat (first | with_reducible exact Below.refl _ _ | with_reducible assumption | refine bgw ?_ (by first | (simp; done) | (simp; omega) | omega) _ | refine Below.setCell ?_ (by first | exact Nat.le_of_not_lt (by assumption) | (simp; done) | (simp; omega) | omega) _ | refine Below.alloc ?_ (by first | (simp; done) | (simp; omega) | omega) _ | refine Below.drew ?_))))) ?_; rintro e w1 ⟨⟨A2, k2, rfl, b1, b2, b3, b4⟩, q2, rfl⟩; have v2 := str_run (src := 22) (dst := 9) (n := L) (c := k2) Try.underlying22 Try.underlying5 Try.underlying9 hL b4 (Below.refl _ _))
          | (go_at_call 9; refine Calls.mono (gw_at (example9_b _)) ?_; rintro e w1 ⟨rfl, q, rfl⟩))
        go_ret
        exact ⟨rfl, (by repeat (first | with_reducible exact Below.refl _ _ | with_reducible assumption | refine bgw ?_ (by first | (simp; done) | (simp; omega) | omega) _ | refine Below.setCell ?_ (by first | exact Nat.le_of_not_lt (by assumption) | (simp; done) | (simp; omega) | omega) _ | refine Below.alloc ?_ (by first | (simp; done) | (simp; omega) | omega) _ | refine Below.drew ?_))⟩
      have ho := hbst hcB hcs hE32 hE hEf hnum.out
      rw [ho] at cO
      dsimp only [List.length_nil] at cO
      rw [show decide (E ≠ 0) = true from by simp [hE]]
      clear hbst hE0 hnum hopn hEf hEk hE ho
      go_wp2_with (first
        | (go_at_call 11; refine Calls.mono (gw_ex (cO _ (Cs.to hcb (by repeat (first | with_reducible exact Below.refl _ _ | with_reducible assumption | refine bgw ?_ (by first | (simp; done) | (simp; omega) | omega) _ | refine Below.setCell ?_ (by first | exact Nat.le_of_not_lt (by assumption) | (simp; done) | (simp; omega) | omega) _ | refine Below.alloc ?_ (by first | (simp; done) | (simp; omega) | omega) _ | refine Below.drew ?_))))) ?_; rintro e w1 ⟨⟨A2, k2, rfl, -⟩, q2, rfl⟩)
        | (go_at_call 9; refine Calls.mono (gw_at (example9_b _)) ?_; rintro e w1 ⟨rfl, q, rfl⟩))
      go_ret
      exact ⟨rfl, (by repeat (first | with_reducible exact Below.refl _ _ | with_reducible assumption | refine bgw ?_ (by first | (simp; done) | (simp; omega) | omega) _ | refine Below.setCell ?_ (by first | exact Nat.le_of_not_lt (by assumption) | (simp; done) | (simp; omega) | omega) _ | refine Below.alloc ?_ (by first | (simp; done) | (simp; omega) | omega) _ | refine Below.drew ?_))⟩
    have k1' : (k : Int) < 32 := by omega
    obtain ⟨N, hN⟩ : ∃ N, f + k = N := ⟨_, rfl⟩
    have hNI : (f : Int) + (k : Int) = (N : Int) := by omega
    have hN4 : N < 4000 := by omega
    obtain ⟨D, hD⟩ : ∃ D, B / 2 = D := ⟨_, rfl⟩
    have f1 : (B : Int).tdiv 2 = (D : Int) := by rw [Int.tdiv_eq_ediv_of_nonneg (by omega)]; omega
    have f2 : (B : Int) / 2 = (D : Int) := by omega
    have f3 : IntKind.u32.wrap (D : Int) = (D : Int) := by rw [wrap_u32]; omega
    have hD32 : D < 4294967296 := by omega
    have hEk1 : E < 2 ^ (k + 1) := by rw [Nat.pow_succ]; omega
    clear hopn hbst
    by_cases ho : B % 2 = 1
    rotate_left
    focus
      have g1 : (B : Int).tmod 2 = 0 := by rw [Int.tmod_eq_emod_of_nonneg (by omega)]; omega
      have g2 : (B : Int) % 2 = 0 := by omega
      clear ho hD hN hEk
      go_wp2_with fail
      exact ⟨⟨k + 1, E, D, cs, by omega, by go_num, rfl, hD32, rfl, hcs, hcB, hgr, hnum, hEk1, hEf, hE0, (by repeat (first | with_reducible exact Below.refl _ _ | with_reducible assumption | refine bgw ?_ (by first | (simp; done) | (simp; omega) | omega) _ | refine Below.setCell ?_ (by first | exact Nat.le_of_not_lt (by assumption) | (simp; done) | (simp; omega) | omega) _ | refine Below.alloc ?_ (by first | (simp; done) | (simp; omega) | omega) _ | refine Below.drew ?_))⟩, by (try go_num); simp [intOf]; (try omega)⟩
    have g1 : (B : Int).tmod 2 = 1 := by rw [Int.tmod_eq_emod_of_nonneg (by omega)]; omega
    have g2 : (B : Int) % 2 = 1 := by omega
    by_cases hin : N < 8 * m
    rotate_left
    focus
      have j1 : ¬ (N : Int) < 8 * (m : Int) := by omega
      clear ho hD hN hEk
      go_wp2_with fail
      exact ⟨⟨k + 1, E, D, cs, by omega, by go_num, rfl, hD32, rfl, hcs, hcB, hgr, hnum, hEk1, hEf, hE0, (by repeat (first | with_reducible exact Below.refl _ _ | with_reducible assumption | refine bgw ?_ (by first | (simp; done) | (simp; omega) | omega) _ | refine Below.setCell ?_ (by first | exact Nat.le_of_not_lt (by assumption) | (simp; done) | (simp; omega) | omega) _ | refine Below.alloc ?_ (by first | (simp; done) | (simp; omega) | omega) _ | refine Below.drew ?_))⟩, by (try go_num); simp [intOf]; (try omega)⟩
    have j1 : (N : Int) < 8 * (m : Int) := by omega
    obtain ⟨r, hr⟩ : ∃ r, N % 8 = r := ⟨_, rfl⟩
    obtain ⟨q, hq⟩ : ∃ q, N / 8 = q := ⟨_, rfl⟩
    have r1 : (N : Int).tmod 8 = (r : Int) := by rw [Int.tmod_eq_emod_of_nonneg (by omega)]; omega
    have r2 : (N : Int) % 8 = (r : Int) := by omega
    have r8 : r < 8 := by omega
    have q1 : (N : Int).tdiv 8 = (q : Int) := by rw [Int.tdiv_eq_ediv_of_nonneg (by omega)]; omega
    have q2 : (N : Int) / 8 = (q : Int) := by omega
    have q3 : (q : Int) < (m : Int) := by omega
    have q0 : (0 : Int) ≤ (q : Int) := by omega
    have hqc : q < cs.length := by omega
    obtain ⟨s1, s2, s3, s4⟩ := burst_step (m := m) (f := f) (k := k) (S := S) hEk hEf hcs hcB hnum.out (by omega) (by rw [hN, hq]; exact hqc)
    simp only [hN, hq, hr] at s1
    have d1 := yrow_cell hgr hqc
    have d2 := blk_free hgr q
    have d3 := blk_older hgr
    obtain ⟨x0, x1⟩ := hcB _ (List.getElem_mem hqc)
    obtain ⟨E', hE'⟩ : ∃ E', E ^^^ 2 ^ k = E' := ⟨_, rfl⟩
    rw [hE'] at s1 s2 s3 s4
    generalize hxx : cs[q] = x at *
    obtain ⟨X, rfl⟩ : ∃ X : Nat, x = X := ⟨x.toNat, by omega⟩
    rw [Int.toNat_natCast] at s1
    have s1' : Hid (num (cs.set q ((X ^^^ 2 ^ r : Nat) : Int)) = num S ^^^ E' * 2 ^ f) := s1
    have hP : 2 ^ r < 256 := by
      have h1 : (2 : Nat) ^ r ≤ 2 ^ 7 := Nat.pow_le_pow_right (by omega) (by omega)
      have h2 : (2 : Nat) ^ 7 = 128 := by decide
      omega
    have hX : bits BinOp.xor IntKind.u8 (X : Int) ((2 ^ r : Nat) : Int) = ((X ^^^ 2 ^ r : Nat) : Int) := x8 (by omega) hP
    have hX8 : X ^^^ 2 ^ r < 256 := Nat.xor_lt_two_pow (n := 8) (by omega) hP
    have hsB := isB_set hcB q (X ^^^ 2 ^ r) hX8
    have hsl : (cs.set q ((X ^^^ 2 ^ r : Nat) : Int)).length = m := by rw [List.length_set]; exact hcs
    have hys := yrow_set cs rest hqc ((X ^^^ 2 ^ r : Nat) : Int)
    have hE2 : decide (E' ≠ 0) = true := by simp [s3]
    generalize X ^^^ 2 ^ r = Y at *
    clear s1 hE' hxx ho hD hN hr hq hnum hE0 hEk hEk1 hEf
    generalize wr = V at *
    go_wp2_with fail
    go_loopw [13, 14] (fun bt iv wx => ∃ i : Nat, i ≤ r ∧ iv = .int .i64 i ∧ bt = .int .u8 ((2 ^ i : Nat) : Int) ∧ wx = V)
      (fun _ iv _ => (r - intOf iv).toNat)
    case atStart => exact ⟨0, by omega, rfl, rfl, rfl⟩
    case round =>
      obtain ⟨i, hir, rfl, rfl, rfl⟩ := hrel
      by_cases hit : i < r
      · have i1 : (i : Int) < (r : Int) := by omega
        have hdb := pow_dbl (i := i) (by omega)
        clear hX hP
        generalize hQ1 : (2 : Nat) ^ (i + 1) = Q1 at hdb
        have hQ : Hid ((2 : Nat) ^ (i + 1) = Q1) := hQ1
        clear hQ1 s1' hys hsl hsB hE2
        generalize (2 : Nat) ^ i = Q0 at *
        go_wp2_with fail
        exact ⟨⟨i + 1, by omega, by go_num, by rw [hQ.out], by first | trivial | rfl⟩, by (try go_num); simp [intOf]; (try omega)⟩
      · obtain rfl : i = r := by omega
        have i1 : ¬ (i : Int) < (i : Int) := by omega
        generalize (2 : Nat) ^ i = Q at *
        go_wp2_with fail
        exact ⟨⟨k + 1, E', D, cs.set q (Y : Int), by omega, by go_num, rfl, hD32, by rw [hE2], hsl, hsB, by rw [← hys]; exact (by apply blk_of; (repeat (first | with_reducible exact hgr | with_reducible apply blk_drew | with_reducible apply blk_gw | with_reducible apply blk_alloc | with_reducible apply blk_set | ((with_reducible apply blk_other); focus omega))); (first | rfl | simp)), s1', s2, s4, fun h => absurd h s3, (by repeat (first | with_reducible exact Below.refl _ _ | with_reducible assumption | refine bgw ?_ (by first | (simp; done) | (simp; omega) | omega) _ | refine Below.setCell ?_ (by first | exact Nat.le_of_not_lt (by assumption) | (simp; done) | (simp; omega) | omega) _ | refine Below.alloc ?_ (by first | (simp; done) | (simp; omega) | omega) _ | refine Below.drew ?_))⟩, by (try go_num); simp [intOf]; (try omega)⟩

end Go.Proofs.Ytmdnbmekbhljkaa
