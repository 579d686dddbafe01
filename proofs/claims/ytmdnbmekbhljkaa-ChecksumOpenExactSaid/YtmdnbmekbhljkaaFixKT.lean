/- Contracts of the reference of chapter 9, continued: sealing and opening. -/
import Derived.Test.YtmdnbmekbhljkaaFixKS
set_option linter.unusedVariables false
namespace Go.Proofs.Ytmdnbmekbhljkaa
open Go.RowKit Ck

theorem info_u8 : (Try.prog.info? 5).map (fun i => (i.zero, i.size, i.bytes)) = some (some (.int .u8 0), 1, 1) := by kernel_rfl

set_option maxHeartbeats 1000000 in
theorem rsea_b (A : Option Addr) (cap : Nat) (bs : List Int) (L : Nat) (hL : bs.length = L) (hB : isB bs) (hl : L ≤ 1073741824) (hA : A = none → cap = 0) (w : World) (hp : Byts w A bs) : Calls Try.prog 19 #[.slice A L cap] w fun e w' => (∃ v, e = .returned v ∧ w'.ownsRow w.heap.size 5 1 v (L + 4) (yv (sea bs))) ∧ Below w.heap.size w w' := by
  obtain ⟨i0, hi, hz0, hz1, hz2⟩ := info_parts info_u8
  have cC : ∀ w', Below w.heap.size w w' → Calls Try.prog 17 #[.slice A L cap] w' fun e w'' => e = .returned (.int .u32 (crc bs : Int)) ∧ Below w'.heap.size w' w'' := fun w' hb => by subst hL; exact rcrc_b A cap bs hB hl w' (Cs.to hp hb)
  have hcl := crc_lt hB
  have hsea : Hid (bs ++ leK 4 (crc bs) = sea bs) := rfl
  have hsl := sea_length bs
  rw [hL] at hsl
  generalize sea bs = S at *
  generalize crc bs = C at *
  go_enter Try.func19, Try.ntmps19
  go_wp2_with (first
    | (at_builtin; refine wpList_appN rfl (.tmp 6) (.tmp 7) 22 rfl (w.heap.size) 5 i0 (.int .u8 0) 1 Try.underlying22 hi hz0 hz1 hz2 rfl _ _ _ rfl (owns_lit (xs := []) (by repeat (first | with_reducible exact blk_new _ _ _ | ((with_reducible refine blk_at ?_); (simp; done)) | with_reducible apply blk_alloc | with_reducible apply blk_gw | with_reducible apply blk_drew)) rfl (by first | (simp; done) | (simp; omega) | omega) (by decide)) _ _ _ (yv bs) rfl hA (by first | (simp; done) | (simp; omega)) (Cs.to hp (by repeat (first | with_reducible exact Below.refl _ _ | with_reducible assumption | refine bgw ?_ (by first | (simp; done) | (simp; omega) | omega) _ | refine Below.setCell ?_ (by first | exact Nat.le_of_not_lt (by assumption) | (simp; done) | (simp; omega) | omega) _ | refine Below.alloc ?_ (by first | (simp; done) | (simp; omega) | omega) _ | refine Below.drew ?_))) (fun u hu => by first | exact yv_one _ u hu | (simp at hu; subst hu; rfl)) (by first | (unfold maxLen; omega) | (unfold maxLen; simp; omega)) (by first | omega | (simp; omega)) (by first | (simp; done) | (simp; omega) | omega) ?_; intro v3 w3 hown3 hb3; have hs3 := hb3.size; try simp at hs3)
    | (go_at_call 17; refine Calls.mono (gw_at (cC _ (Below.trans (by repeat (first | with_reducible exact Below.refl _ _ | with_reducible assumption | refine bgw ?_ (by first | (simp; done) | (simp; omega) | omega) _ | refine Below.setCell ?_ (by first | exact Nat.le_of_not_lt (by assumption) | (simp; done) | (simp; omega) | omega) _ | refine Below.alloc ?_ (by first | (simp; done) | (simp; omega) | omega) _ | refine Below.drew ?_)) (Below.trans hb3 (by repeat (first | with_reducible exact Below.refl _ _ | with_reducible assumption | refine bgw ?_ (by first | (simp; done) | (simp; omega) | omega) _ | refine Below.setCell ?_ (by first | exact Nat.le_of_not_lt (by assumption) | (simp; done) | (simp; omega) | omega) _ | refine Below.alloc ?_ (by first | (simp; done) | (simp; omega) | omega) _ | refine Below.drew ?_)))))) ?_; rintro e w1 ⟨rfl, q, rfl⟩))
  have hown0 := owns_below hown3 (below_gw w3 q)
  have hbw0 : Below w.heap.size w (gw w3 q) := Below.trans (Below.trans (by repeat (first | with_reducible exact Below.refl _ _ | with_reducible assumption | refine bgw ?_ (by first | (simp; done) | (simp; omega) | omega) _ | refine Below.setCell ?_ (by first | exact Nat.le_of_not_lt (by assumption) | (simp; done) | (simp; omega) | omega) _ | refine Below.alloc ?_ (by first | (simp; done) | (simp; omega) | omega) _ | refine Below.drew ?_)) hb3) (by repeat (first | with_reducible exact Below.refl _ _ | with_reducible assumption | refine bgw ?_ (by first | (simp; done) | (simp; omega) | omega) _ | refine Below.setCell ?_ (by first | exact Nat.le_of_not_lt (by assumption) | (simp; done) | (simp; omega) | omega) _ | refine Below.alloc ?_ (by first | (simp; done) | (simp; omega) | omega) _ | refine Below.drew ?_))
  generalize gw w3 q = W at *
  clear hown3 hb3 hs3 cC
  rw [List.nil_append, Nat.zero_add] at hown0
  go_loopw [3, 4, 5] (fun v s i wr => ∃ (k c : Nat) (cs : List Int), k ≤ 4 ∧ i = .int .i64 k ∧ s = .int .u32 (c : Int) ∧ c < 4294967296 ∧ cs.length = L + k ∧ wr.ownsRow w.heap.size 5 1 v cs.length (yv cs) ∧ Hid (cs ++ leK (4 - k) c = S) ∧ Below w.heap.size w wr)
    (fun _ _ i _ => (4 - intOf i).toNat)
  case atStart => exact ⟨0, C, bs, by omega, rfl, rfl, hcl, by omega, by rw [hL]; exact hown0, hsea, hbw0⟩
  case round =>
    obtain ⟨k, c, cs, hk, rfl, rfl, hc, hcs, hown, hrel, hbw⟩ := hrel
    have hsz := hbw.size
    by_cases hlt : k < 4
    · have i1 : (k : Int) < 4 := by omega
      have hr := hrel.out
      rw [show 4 - k = (4 - (k + 1)) + 1 from by omega, leK] at hr
      obtain ⟨D, hD⟩ : ∃ D, c / 256 = D := ⟨_, rfl⟩
      obtain ⟨E, hE⟩ : ∃ E, c % 256 = E := ⟨_, rfl⟩
      have f1 : (c : Int).tdiv 256 = (D : Int) := by rw [Int.tdiv_eq_ediv_of_nonneg (by omega)]; omega
      have f2 : (c : Int) / 256 = (D : Int) := by omega
      have f3 : IntKind.u32.wrap (D : Int) = (D : Int) := by rw [wrap_u32]; omega
      have f4 : (c : Int).tmod 256 = (E : Int) := by rw [Int.tmod_eq_emod_of_nonneg (by omega)]; omega
      have f5 : (c : Int) % 256 = (E : Int) := by omega
      have f6 : IntKind.u8.wrap (E : Int) = (E : Int) := by rw [wrap_u8]; omega
      have f7 : IntKind.u32.wrap (E : Int) = (E : Int) := by rw [wrap_u32]; omega
      have hD' : D < 4294967296 := by omega
      rw [hD, hE] at hr
      have hr' : Hid ((cs ++ [(E : Int)]) ++ leK (4 - (k + 1)) D = S) := by show _ = _; rw [← hr]; simp
      clear hr hrel hD hE
      generalize hLc : cs.length = Lc at *
      go_wp2_with (at_builtin; refine wpList_app1 rfl _ _ 22 rfl w.heap.size 5 i0 (.int .u8 0) 1 Try.underlying22 hi hz0 hz1 hz2 rfl _ _ _ rfl (owns_below hown (by repeat (first | with_reducible exact Below.refl _ _ | with_reducible assumption | refine bgw ?_ (by first | (simp; done) | (simp; omega) | omega) _ | refine Below.setCell ?_ (by first | exact Nat.le_of_not_lt (by assumption) | (simp; done) | (simp; omega) | omega) _ | refine Below.alloc ?_ (by first | (simp; done) | (simp; omega) | omega) _ | refine Below.drew ?_))) _ (.int .u8 (E : Int)) rfl (blk_cell (c := #[.int .u8 (E : Int)]) (by repeat (first | with_reducible exact blk_new _ _ _ | ((with_reducible refine blk_at ?_); (simp; done)) | with_reducible apply blk_alloc | with_reducible apply blk_gw | with_reducible apply blk_drew)) 0) rfl (by unfold maxLen; omega) (by omega) (by first | (simp; omega) | omega) ?_; intro v' w2 hown2 hb2)
      refine ⟨⟨k + 1, D, cs ++ [(E : Int)], by omega, by go_num, rfl, hD', by simp; omega, by rw [yv_append, List.length_append, hLc]; exact hown2, hr', Below.trans (by repeat (first | with_reducible exact Below.refl _ _ | with_reducible assumption | refine bgw ?_ (by first | (simp; done) | (simp; omega) | omega) _ | refine Below.setCell ?_ (by first | exact Nat.le_of_not_lt (by assumption) | (simp; done) | (simp; omega) | omega) _ | refine Below.alloc ?_ (by first | (simp; done) | (simp; omega) | omega) _ | refine Below.drew ?_)) hb2⟩, by (try go_num); simp [intOf]; (try omega)⟩
    · obtain rfl : k = 4 := by omega
      have hr : cs = S := by have := hrel.out; simpa [leK] using this
      subst hr
      rw [hcs] at hown
      clear hrel
      go_wp2_with fail
      go_ret
      exact ⟨⟨_, rfl, hown⟩, (by repeat (first | with_reducible exact Below.refl _ _ | with_reducible assumption | refine bgw ?_ (by first | (simp; done) | (simp; omega) | omega) _ | refine Below.setCell ?_ (by first | exact Nat.le_of_not_lt (by assumption) | (simp; done) | (simp; omega) | omega) _ | refine Below.alloc ?_ (by first | (simp; done) | (simp; omega) | omega) _ | refine Below.drew ?_))⟩

theorem req9_b (A B : Option Addr) (ca cb : Nat) (xs ys : List Int) (n m : Nat) (hn : xs.length = n) (hm : ys.length = m) (hx : isB xs) (hy : isB ys) (w : World) (ha : Byts w A xs) (hb : Byts w B ys) : Calls Try.prog 18 #[.slice A n ca, .slice B m cb] w fun e w' => e = .returned (.bool (decide (xs = ys))) ∧ Below w.heap.size w w' := by
  have c1 := str_run (src := 22) (dst := 9) (n := n) (c := ca) Try.underlying22 Try.underlying5 Try.underlying9 hn ha (Below.refl _ _)
  have c2 := str_run (src := 22) (dst := 9) (n := m) (c := cb) Try.underlying22 Try.underlying5 Try.underlying9 hm hb (Below.refl _ _)
  have he : ((strOfNums xs).toList == (strOfNums ys).toList) = decide (xs = ys) := by
    by_cases h : xs = ys
    · subst h; simp
    · rw [decide_eq_false h, beq_eq_false_iff_ne]
      intro e
      rw [ByteArray.toList_eq, ByteArray.toList_eq] at e
      have e2 : strOfNums xs = strOfNums ys := by
        apply ByteArray.ext; rwa [← Array.toList_inj]
      exact h (str_inj hx hy e2)
  generalize decide (xs = ys) = R at *
  generalize strOfNums xs = U at *
  generalize strOfNums ys = V at *
  clear ha hb
  go_enter Try.func18, Try.ntmps18
  go_wp2_with fail
  go_ret
  exact ⟨rfl, (by repeat (first | with_reducible exact Below.refl _ _ | with_reducible assumption | refine bgw ?_ (by first | (simp; done) | (simp; omega) | omega) _ | refine Below.setCell ?_ (by first | exact Nat.le_of_not_lt (by assumption) | (simp; done) | (simp; omega) | omega) _ | refine Below.alloc ?_ (by first | (simp; done) | (simp; omega) | omega) _ | refine Below.drew ?_))⟩

end Go.Proofs.Ytmdnbmekbhljkaa
