/- Contracts of package format: FormatInt, FormatFixed, Fields, SplitLines, JoinFields (the others: FixYA, FixYC). -/
import Derived.Test.YtdlnidefjdjocaaDoorFixFU
import Derived.Test.YtdlnidefjdjocaaDoorFixYA
import Derived.Test.YtdlnidefjdjocaaDoorFixYC
set_option linter.unusedVariables false
namespace Go.Proofs.YtdlnidefjdjocaaDoor
open Go.RowKit Fm

theorem xfmt_b (n : Int) (h0 : -9223372036854775808 ≤ n) (h1 : n ≤ 9223372036854775807) (w : World) (hT : Tb w) : Calls Tryd.prog 11 #[.int .i64 n] w fun e w' => e = .returned (.string (strOfNums (fmt n))) ∧ Below w.heap.size w w' := by
  have c := fun w' t' => itoa_b n h0 h1 w' t'
  generalize strOfNums (fmt n) = S at *
  go_enter Tryd.func11, Tryd.ntmps11
  go_wp2_with (go_at_call 30; refine Calls.mono (gw_at (c _ (Tb.to hT (by repeat (first | with_reducible exact Below.refl _ _ | with_reducible assumption | refine bgw ?_ (by first | (simp; done) | (simp; omega) | omega) _ | refine Below.setCell ?_ (by first | exact Nat.le_of_not_lt (by assumption) | (simp; done) | (simp; omega) | omega) _ | refine Below.alloc ?_ (by first | (simp; done) | (simp; omega) | omega) _ | refine Below.drew ?_))))) ?_; rintro e w1 ⟨rfl, q, rfl⟩)
  go_ret
  exact ⟨rfl, (by repeat (first | with_reducible exact Below.refl _ _ | with_reducible assumption | refine bgw ?_ (by first | (simp; done) | (simp; omega) | omega) _ | refine Below.setCell ?_ (by first | exact Nat.le_of_not_lt (by assumption) | (simp; done) | (simp; omega) | omega) _ | refine Below.alloc ?_ (by first | (simp; done) | (simp; omega) | omega) _ | refine Below.drew ?_))⟩

theorem xfmtF_b (n : Int) (h0 : -9223372036854775808 ≤ n) (h1 : n ≤ 9223372036854775807) (w : World) (hT : Tb w) : Calls Tryd.prog 13 #[.int .i64 n] w fun e w' => e = .returned (.string (strOfNums (fmtF n))) ∧ Below w.heap.size w w' := by
  have cF : ∀ w', Tb w' → Calls Tryd.prog 11 #[.int .i64 n] w' fun e w'' => e = .returned (.string (strOfNums (fmt n))) ∧ Below w'.heap.size w' w'' := fun w' t' => xfmt_b n h0 h1 w' t'
  obtain ⟨Q, hQ⟩ : ∃ Q, n.tdiv 65536 = Q := ⟨_, rfl⟩
  obtain ⟨M, hM⟩ : ∃ M, n.tmod 65536 = M := ⟨_, rfl⟩
  have hq := Int.mul_tdiv_add_tmod n 65536
  rw [hQ, hM] at hq
  have hM0 : M.natAbs < 65536 := by
    rw [← hM, Int.natAbs_tmod]; exact Nat.mod_lt _ (by decide)
  have hQ0 : -9223372036854775808 ≤ Q := by omega
  have hQ1 : Q ≤ 9223372036854775807 := by omega
  have hln : (fmt Q).length ≤ 21 := by
    have hd : (dg Q.natAbs).length ≤ 20 := dg_len 20 _ (by rw [show (10 : Nat) ^ 20 = 100000000000000000000 from by decide]; omega)
    unfold fmt; split
    · simp
    · split <;> simp <;> omega
  have cQ : ∀ w', Tb w' → Calls Tryd.prog 11 #[.int .i64 Q] w' fun e w'' => e = .returned (.string (strOfNums (fmt Q))) ∧ Below w'.heap.size w' w'' := fun w' t' => xfmt_b Q hQ0 hQ1 w' t'
  unfold fmtF
  rw [hQ, hM]
  have hwQ : wrap64 Q = Q := by unfold wrap64; omega
  clear hq hM0 hQ0 hQ1 h0 h1
  by_cases hz : n = 0
  focus
    rw [if_neg (by rintro ⟨h, _⟩; exact h hz)]
    have hzb : (n != 0) = false := by rw [hz]; rfl
    generalize strOfNums (fmt n) = X at *
    clear hz hQ hM
    go_enter Tryd.func13, Tryd.ntmps13
    go_wp2_with (go_at_call 11; refine Calls.mono (gw_at (cF _ (Tb.to hT (by repeat (first | with_reducible exact Below.refl _ _ | with_reducible assumption | refine bgw ?_ (by first | (simp; done) | (simp; omega) | omega) _ | refine Below.setCell ?_ (by first | exact Nat.le_of_not_lt (by assumption) | (simp; done) | (simp; omega) | omega) _ | refine Below.alloc ?_ (by first | (simp; done) | (simp; omega) | omega) _ | refine Below.drew ?_))))) ?_; rintro e w1 ⟨rfl, q, rfl⟩)
    go_ret
    exact ⟨rfl, (by repeat (first | with_reducible exact Below.refl _ _ | with_reducible assumption | refine bgw ?_ (by first | (simp; done) | (simp; omega) | omega) _ | refine Below.setCell ?_ (by first | exact Nat.le_of_not_lt (by assumption) | (simp; done) | (simp; omega) | omega) _ | refine Below.alloc ?_ (by first | (simp; done) | (simp; omega) | omega) _ | refine Below.drew ?_))⟩
  have hzb : (n != 0) = true := by simp [hz]
  by_cases hm : M = 0
  focus
    rw [if_pos ⟨hz, hm⟩]
    have hmb : (M == 0) = true := by rw [beq_iff_eq]; exact hm
    have e : strOfNums (fmt Q ++ [117]) = strOfNums (fmt Q) ++ { data := #[117] } := by rw [show ({ data := #[117] } : ByteArray) = strOfNums [117] from rfl, str_append]
    have hs : ¬ 9223372036854775807 < (strOfNums (fmt Q)).size + ({ data := #[117] } : ByteArray).size := by rw [strOfNums_size, show ({ data := #[117] } : ByteArray).size = 1 from rfl]; omega
    rw [e]
    clear hz hm e hln cF
    generalize strOfNums (fmt Q) = X at *
    go_enter Tryd.func13, Tryd.ntmps13
    go_wp2_with (go_at_call 11; refine Calls.mono (gw_at (cQ _ (Tb.to hT (by repeat (first | with_reducible exact Below.refl _ _ | with_reducible assumption | refine bgw ?_ (by first | (simp; done) | (simp; omega) | omega) _ | refine Below.setCell ?_ (by first | exact Nat.le_of_not_lt (by assumption) | (simp; done) | (simp; omega) | omega) _ | refine Below.alloc ?_ (by first | (simp; done) | (simp; omega) | omega) _ | refine Below.drew ?_))))) ?_; rintro e w1 ⟨rfl, q, rfl⟩)
    go_ret
    exact ⟨rfl, (by repeat (first | with_reducible exact Below.refl _ _ | with_reducible assumption | refine bgw ?_ (by first | (simp; done) | (simp; omega) | omega) _ | refine Below.setCell ?_ (by first | exact Nat.le_of_not_lt (by assumption) | (simp; done) | (simp; omega) | omega) _ | refine Below.alloc ?_ (by first | (simp; done) | (simp; omega) | omega) _ | refine Below.drew ?_))⟩
  have hmb : (M == 0) = false := by rw [beq_eq_false_iff_ne]; exact hm
  rw [if_neg (by rintro ⟨_, h⟩; exact hm h)]
  clear hz hm hln cQ
  generalize strOfNums (fmt n) = X at *
  go_enter Tryd.func13, Tryd.ntmps13
  go_wp2_with (go_at_call 11; refine Calls.mono (gw_at (cF _ (Tb.to hT (by repeat (first | with_reducible exact Below.refl _ _ | with_reducible assumption | refine bgw ?_ (by first | (simp; done) | (simp; omega) | omega) _ | refine Below.setCell ?_ (by first | exact Nat.le_of_not_lt (by assumption) | (simp; done) | (simp; omega) | omega) _ | refine Below.alloc ?_ (by first | (simp; done) | (simp; omega) | omega) _ | refine Below.drew ?_))))) ?_; rintro e w1 ⟨rfl, q, rfl⟩)
  go_ret
  exact ⟨rfl, (by repeat (first | with_reducible exact Below.refl _ _ | with_reducible assumption | refine bgw ?_ (by first | (simp; done) | (simp; omega) | omega) _ | refine Below.setCell ?_ (by first | exact Nat.le_of_not_lt (by assumption) | (simp; done) | (simp; omega) | omega) _ | refine Below.alloc ?_ (by first | (simp; done) | (simp; omega) | omega) _ | refine Below.drew ?_))⟩

theorem prs_small (l : Nat) (bs : List Int) : (prs l bs).2 = 0 ∨ (prs l bs).2 = 3 ∨ (prs l bs).2 = 6 := by
  unfold prs; split
  · split
    · exact .inr (.inr rfl)
    · exact .inl rfl
  · exact .inr (.inl rfl)
theorem prsF_small (bs : List Int) : (prsF bs).2 = 0 ∨ (prsF bs).2 = 3 ∨ (prsF bs).2 = 6 := by
  unfold prsF; split
  · split
    · split
      · exact .inr (.inr rfl)
      · exact .inl rfl
    · exact .inr (.inl rfl)
  · split
    · split
      · exact .inr (.inr rfl)
      · exact .inl rfl
    · exact .inr (.inl rfl)
theorem fields_small (bs : List Int) : (fields bs).2 = 0 ∨ (fields bs).2 = 3 := by
  unfold fields; split
  · exact .inl rfl
  · split
    · exact .inl rfl
    · exact .inr rfl
theorem lines_small (bs : List Int) : (lines bs).2 = 0 ∨ (lines bs).2 = 3 := by
  unfold lines; split
  · exact .inl rfl
  · exact .inr rfl

theorem sp_pos (c : Int) (s : List Int) : 0 < (sp c s).length := by obtain ⟨h, t, e⟩ := sp_ex c s; rw [e]; simp

set_option maxHeartbeats 2000000 in
theorem xfields_b (bs : List Int) (hB : isB bs) (hl : bs.length ≤ 1000000) (w : World) : Calls Tryd.prog 15 #[.string (strOfNums bs)] w fun e w' => (∃ v, e = .returned (.tuple #[v, .int .i64 (fields bs).2]) ∧ w'.ownsRow w.heap.size 9 1 v (fields bs).1.length (sv (strs (fields bs).1))) ∧ Below w.heap.size w w' := by
  have hem2 : (strOfNums bs).toList.isEmpty = bs.isEmpty := by rw [str_list]; cases bs <;> rfl
  by_cases hb0 : bs = []
  focus
    subst hb0
    rw [show fields [] = ([], 0) from rfl]
    rw [show ([] : List Int).isEmpty = true from rfl] at hem2
    generalize strOfNums [] = T at *
    go_enter Tryd.func15, Tryd.ntmps15
    go_wp2_with fail
    exact bodyPost_ret (v := .tuple #[.slice none 0 0, .int .i64 0]) (by simp [results, Tryd.results15, go_sem]) rfl ⟨⟨_, rfl, owns_nil _ _ _⟩, (by repeat (first | with_reducible exact Below.refl _ _ | with_reducible assumption | refine bgw ?_ (by first | (simp; done) | (simp; omega) | omega) _ | refine Below.setCell ?_ (by first | exact Nat.le_of_not_lt (by assumption) | (simp; done) | (simp; omega) | omega) _ | refine Below.alloc ?_ (by first | (simp; done) | (simp; omega) | omega) _ | refine Below.drew ?_))⟩
  rw [show bs.isEmpty = false from by cases bs with | nil => exact absurd rfl hb0 | cons x r => rfl] at hem2
  have cS := fun w' => split_b 32 bs hB hl w'
  rw [show (((32 : UInt8).toNat : Nat) : Int) = 32 from rfl] at cS
  have hF := fields_sp hb0
  have hsB := sp_isB 32 bs hB
  have hpos := sp_pos 32 bs
  have hlen := sp_len 32 bs
  obtain ⟨L, hL⟩ : ∃ L, sp 32 bs = L := ⟨_, rfl⟩
  rw [hL] at cS hF hsB hpos hlen
  have hll : (strs L).length = L.length := by simp [strs]
  have hcF : ∀ k (h : k < L.length) w', Calls Tryd.prog 34 #[.string (strOfNums L[k])] w' fun e w'' => e = .returned (.bool (isF L[k])) ∧ Below w'.heap.size w' w'' := fun k h w' => xisf_b L[k] (hsB _ (List.getElem_mem h)).1 (by have := (hsB _ (List.getElem_mem h)).2; omega) w'
  obtain ⟨R, hR⟩ : ∃ R, fields bs = R := ⟨_, rfl⟩
  rw [hR]
  have hRy : Hid (L.all isF = true → R = (L, 0)) := fun h => by rw [← hR, hF, if_pos h]
  have hRn : Hid (¬ L.all isF = true → R = ([], 3)) := fun h => by rw [← hR, hF, if_neg h]
  generalize strOfNums bs = T at *
  clear hF hsB hR hb0 hB
  go_enter Tryd.func15, Tryd.ntmps15
  go_wp2_with (go_at_call 33; refine Calls.mono (gw_ex (cS _)) ?_; rintro e w1 ⟨⟨v, rfl, hown⟩, q, rfl⟩; obtain ⟨A, cap, rfl, hle, hmx, hnil, hcs⟩ := owns_sl hown)
  obtain ⟨b, off, rfl, hcell⟩ := Strs.open hcs (by omega)
  have hL2 : (L.length : Int) ≤ 1000001 := by omega
  go_loopw [13] (fun i wr => ∃ k : Nat, k ≤ L.length ∧ i = .int .i64 k ∧ (∀ j (h : j < L.length), j < k → isF L[j] = true) ∧ ∃ p, wr = gw (gw w q) p)
    (fun i _ => (L.length - intOf i).toNat)
  case atStart => exact ⟨0, by omega, rfl, by omega, ⟨⟨(gw w q).drawn, #[]⟩, by unfold gw; simp⟩⟩
  case round =>
    obtain ⟨k, hk, rfl, hall, p, rfl⟩ := hrel
    by_cases hlt : k < L.length
    · have i0 : (0 : Int) ≤ (k : Int) := by omega
      have i1 : (k : Int) < (L.length : Int) := by omega
      have d0 := hcell k (by omega)
      have hbl := World.block_lt_of_cell? (gw w q) ⟨b, off + k, none⟩ d0
      have d1 : (gw (gw w q) p).cell? ⟨b, off + k, none⟩ = some (.string (strOfNums L[k])) := by
        rw [cell_gw p hbl, d0]; simp [strs]
      have o1 := older_of_cell d1
      have cF := hcF k hlt
      have hno : ¬ isF L[k] = true → R = ([], 3) := fun h => hRn.out (fun e => h (List.all_eq_true.1 e _ (List.getElem_mem hlt)))
      have hsucc : isF L[k] = true → ∀ j (h : j < L.length), j < k + 1 → isF L[j] = true := fun g j h hj => by
        rcases (by omega : j < k ∨ j = k) with h1 | rfl
        · exact hall j h h1
        · exact g
      clear d0 hcF hcell hall hcs
      generalize strOfNums L[k] = U at *
      cases hc : isF L[k]
      · rw [hc] at cF hno
        obtain rfl := hno (by simp)
        clear hno hsucc hc hRy hRn hown
        go_wp2_with (go_at_call 34; refine Calls.mono (gw_at (cF _)) ?_; rintro e w1 ⟨rfl, q2, rfl⟩)
        exact bodyPost_ret (v := .tuple #[.slice none 0 0, .int .i64 3]) (by simp [results, Tryd.results15, go_sem]) rfl ⟨⟨_, rfl, owns_nil _ _ _⟩, (by repeat (first | with_reducible exact Below.refl _ _ | with_reducible assumption | refine bgw ?_ (by first | (simp; done) | (simp; omega) | omega) _ | refine Below.setCell ?_ (by first | exact Nat.le_of_not_lt (by assumption) | (simp; done) | (simp; omega) | omega) _ | refine Below.alloc ?_ (by first | (simp; done) | (simp; omega) | omega) _ | refine Below.drew ?_))⟩
      · rw [hc] at cF
        have hg := hsucc hc
        clear hno hsucc hc hRy hRn hown
        go_wp2_with (go_at_call 34; refine Calls.mono (gw_at (cF _)) ?_; rintro e w1 ⟨rfl, q2, rfl⟩)
        exact ⟨⟨k + 1, by omega, by go_num, hg, gw_gw _ _ _⟩, by (try go_num); simp [intOf]; (try omega)⟩
    · obtain rfl : k = L.length := by omega
      have i1 : ¬ (L.length : Int) < (L.length : Int) := by omega
      obtain rfl := hRy.out (List.all_eq_true.2 fun x hx => by obtain ⟨j, hj, rfl⟩ := List.mem_iff_getElem.1 hx; exact hall j hj hj)
      clear hcF hcell hall hcs hRy hRn
      go_wp2_with fail
      exact bodyPost_ret (v := .tuple #[_, .int .i64 0]) (by simp [results, Tryd.results15, go_sem]) rfl ⟨⟨_, rfl, owns_below hown (by repeat (first | with_reducible exact Below.refl _ _ | with_reducible assumption | refine bgw ?_ (by first | (simp; done) | (simp; omega) | omega) _ | refine Below.setCell ?_ (by first | exact Nat.le_of_not_lt (by assumption) | (simp; done) | (simp; omega) | omega) _ | refine Below.alloc ?_ (by first | (simp; done) | (simp; omega) | omega) _ | refine Below.drew ?_))⟩, (by repeat (first | with_reducible exact Below.refl _ _ | with_reducible assumption | refine bgw ?_ (by first | (simp; done) | (simp; omega) | omega) _ | refine Below.setCell ?_ (by first | exact Nat.le_of_not_lt (by assumption) | (simp; done) | (simp; omega) | omega) _ | refine Below.alloc ?_ (by first | (simp; done) | (simp; omega) | omega) _ | refine Below.drew ?_))⟩

set_option maxHeartbeats 2000000 in
theorem xlines_b (bs : List Int) (hB : isB bs) (hl : bs.length ≤ 1000000) (w : World) : Calls Tryd.prog 23 #[.string (strOfNums bs)] w fun e w' => (∃ v, e = .returned (.tuple #[v, .int .i64 (lines bs).2]) ∧ w'.ownsRow w.heap.size 9 1 v (lines bs).1.length (sv (strs (lines bs).1))) ∧ Below w.heap.size w w' := by
  have hem2 : (strOfNums bs).toList.isEmpty = bs.isEmpty := by rw [str_list]; cases bs <;> rfl
  by_cases hb0 : bs = []
  focus
    subst hb0
    rw [show lines [] = ([], 0) from rfl]
    rw [show ([] : List Int).isEmpty = true from rfl] at hem2
    generalize strOfNums [] = T at *
    go_enter Tryd.func23, Tryd.ntmps23
    go_wp2_with fail
    exact bodyPost_ret (v := .tuple #[.slice none 0 0, .int .i64 0]) (by simp [results, Tryd.results23, go_sem]) rfl ⟨⟨_, rfl, owns_nil _ _ _⟩, (by repeat (first | with_reducible exact Below.refl _ _ | with_reducible assumption | refine bgw ?_ (by first | (simp; done) | (simp; omega) | omega) _ | refine Below.setCell ?_ (by first | exact Nat.le_of_not_lt (by assumption) | (simp; done) | (simp; omega) | omega) _ | refine Below.alloc ?_ (by first | (simp; done) | (simp; omega) | omega) _ | refine Below.drew ?_))⟩
  rw [show bs.isEmpty = false from by cases bs with | nil => exact absurd rfl hb0 | cons x r => rfl] at hem2
  have cC := fun w' => cuts_b 10 bs hB hl w'
  rw [show (((10 : UInt8).toNat : Nat) : Int) = 10 from rfl] at cC
  rw [lines_sp hb0]
  by_cases hu : bs.getLast? = some 10
  focus
    rw [if_pos hu]
    rw [if_pos hu, decide_eq_true hu] at cC
    have cS := fun w' => split_b 10 bs.dropLast (fun x hx => hB x ((List.dropLast_sublist bs).subset hx)) (by simp; omega) w'
    rw [show (((10 : UInt8).toNat : Nat) : Int) = 10 from rfl] at cS
    dsimp only
    generalize sp 10 bs.dropLast = L at *
    generalize strOfNums bs.dropLast = U at *
    generalize strOfNums bs = T at *
    clear hu hB hl hb0
    go_enter Tryd.func23, Tryd.ntmps23
    go_wp2_with (first | (go_at_call 31; refine Calls.mono (gw_at (cC _)) ?_; rintro e w1 ⟨rfl, q, rfl⟩) | (go_at_call 33; refine Calls.mono (gw_ex (cS _)) ?_; rintro e w1 ⟨⟨v, rfl, hown⟩, q2, rfl⟩; obtain ⟨A, cap, rfl, hle, hmx, hnil, hcs⟩ := owns_sl hown))
    exact bodyPost_ret (v := .tuple #[_, .int .i64 0]) (by simp [results, Tryd.results23, go_sem]) rfl ⟨⟨_, rfl, owns_mono (owns_below hown (by repeat (first | with_reducible exact Below.refl _ _ | with_reducible assumption | refine bgw ?_ (by first | (simp; done) | (simp; omega) | omega) _ | refine Below.setCell ?_ (by first | exact Nat.le_of_not_lt (by assumption) | (simp; done) | (simp; omega) | omega) _ | refine Below.alloc ?_ (by first | (simp; done) | (simp; omega) | omega) _ | refine Below.drew ?_))) (by simp)⟩, (by repeat (first | with_reducible exact Below.refl _ _ | with_reducible assumption | refine bgw ?_ (by first | (simp; done) | (simp; omega) | omega) _ | refine Below.setCell ?_ (by first | exact Nat.le_of_not_lt (by assumption) | (simp; done) | (simp; omega) | omega) _ | refine Below.alloc ?_ (by first | (simp; done) | (simp; omega) | omega) _ | refine Below.drew ?_))⟩
  rw [if_neg hu]
  rw [if_neg hu, decide_eq_false hu] at cC
  dsimp only
  generalize strOfNums bs = T at *
  clear hu hB hl hb0
  go_enter Tryd.func23, Tryd.ntmps23
  go_wp2_with (go_at_call 31; refine Calls.mono (gw_at (cC _)) ?_; rintro e w1 ⟨rfl, q, rfl⟩)
  exact bodyPost_ret (v := .tuple #[.slice none 0 0, .int .i64 3]) (by simp [results, Tryd.results23, go_sem]) rfl ⟨⟨_, rfl, owns_nil _ _ _⟩, (by repeat (first | with_reducible exact Below.refl _ _ | with_reducible assumption | refine bgw ?_ (by first | (simp; done) | (simp; omega) | omega) _ | refine Below.setCell ?_ (by first | exact Nat.le_of_not_lt (by assumption) | (simp; done) | (simp; omega) | omega) _ | refine Below.alloc ?_ (by first | (simp; done) | (simp; omega) | omega) _ | refine Below.drew ?_))⟩

theorem xjoin_b (A : Option Addr) (ca c : Nat) (l : List ByteArray) (hc : ∀ s ∈ l, s.size ≤ c) (hcb : l.length * (c + 1) ≤ 1000000000) (w : World) (ha : Strs w A l) (hle : l.length ≤ ca := by first | assumption | omega | (simp; omega)) : Calls Tryd.prog 16 #[.slice A l.length ca] w fun e w' => e = .returned (.string (strOfNums (jn (numss l)))) ∧ Below w.heap.size w w' := by
  have cJ := fun w' => fun hb : Strs w' A l => join_b A ca c l hc hcb hle w' hb
  generalize strOfNums (jn (numss l)) = S at *
  clear hc hcb hle
  go_enter Tryd.func16, Tryd.ntmps16
  go_wp2_with (go_at_call 35; refine Calls.mono (gw_at (cJ _ (Cs.to ha (by repeat (first | with_reducible exact Below.refl _ _ | with_reducible assumption | refine bgw ?_ (by first | (simp; done) | (simp; omega) | omega) _ | refine Below.setCell ?_ (by first | exact Nat.le_of_not_lt (by assumption) | (simp; done) | (simp; omega) | omega) _ | refine Below.alloc ?_ (by first | (simp; done) | (simp; omega) | omega) _ | refine Below.drew ?_))))) ?_; rintro e w1 ⟨rfl, q, rfl⟩)
  go_ret
  exact ⟨rfl, (by repeat (first | with_reducible exact Below.refl _ _ | with_reducible assumption | refine bgw ?_ (by first | (simp; done) | (simp; omega) | omega) _ | refine Below.setCell ?_ (by first | exact Nat.le_of_not_lt (by assumption) | (simp; done) | (simp; omega) | omega) _ | refine Below.alloc ?_ (by first | (simp; done) | (simp; omega) | omega) _ | refine Below.drew ?_))⟩

end Go.Proofs.YtdlnidefjdjocaaDoor
