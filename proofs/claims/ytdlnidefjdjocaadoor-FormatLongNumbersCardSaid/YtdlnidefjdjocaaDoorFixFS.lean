/- Contracts of the reference of chapter 8, continued: parsing numbers. Strings are told by their bytes. -/
import Derived.Test.YtdlnidefjdjocaaDoorFixFR
set_option linter.unusedVariables false
namespace Go.Proofs.YtdlnidefjdjocaaDoor
open Go.RowKit Fm

theorem str_idx {bs : List Int} (hB : isB bs) (k : Nat) (h : k < (strOfNums bs).size) : (((strOfNums bs)[k]'h).toNat : Int) = bs[k]'(by rw [strOfNums_size] at h; exact h) := by
  have hk : k < bs.length := by rw [strOfNums_size] at h; exact h
  obtain ⟨x0, x1⟩ := hB _ (List.getElem_mem hk)
  have e : (strOfNums bs)[k]'h = UInt8.ofNat (bs[k]'hk).toNat := by
    show (strOfNums bs).data[k]'_ = _
    simp [strOfNums]
  rw [e, UInt8.toNat_ofNat']
  omega
theorem str_list {bs : List Int} : (strOfNums bs).toList = bs.map fun n => UInt8.ofNat n.toNat := by
  rw [ByteArray.toList_eq]; rfl
theorem str_drop {bs : List Int} (k : Nat) : (strOfNums bs).extract k bs.length = strOfNums (bs.drop k) := by
  apply ByteArray.ext
  rw [ByteArray.data_extract]
  simp only [strOfNums, List.map_drop, List.extract_toArray, List.extract_eq_take_drop]
  rw [List.take_of_length_le (by simp)]


set_option maxHeartbeats 1000000 in
theorem risint_b (bs : List Int) (hB : isB bs) (hl : bs.length ≤ 1000000) (w : World) : Calls Tryd.prog 37 #[.string (strOfNums bs)] w fun e w' => e = .returned (.bool (isInt bs)) ∧ Below w.heap.size w w' := by
  obtain ⟨R, hR⟩ : ∃ R, isInt bs = R := ⟨_, rfl⟩
  rw [hR]
  by_cases h48 : bs = [48]
  focus
    subst h48
    have e : R = true := hR.symm.trans (by decide)
    subst e
    have hq : ((strOfNums [48]).toList == [48]) = true := by decide +kernel
    go_enter Tryd.func37, Tryd.ntmps37
    go_wp2_with fail
    go_ret
    exact ⟨rfl, (by repeat (first | with_reducible exact Below.refl _ _ | with_reducible assumption | refine bgw ?_ (by first | (simp; done) | (simp; omega) | omega) _ | refine Below.setCell ?_ (by first | exact Nat.le_of_not_lt (by assumption) | (simp; done) | (simp; omega) | omega) _ | refine Below.alloc ?_ (by first | (simp; done) | (simp; omega) | omega) _ | refine Below.drew ?_))⟩
  have hq : ((strOfNums bs).toList == [48]) = false := by
    rw [beq_eq_false_iff_ne, str_list]
    intro e
    refine h48 ?_
    cases bs with
    | nil => simp at e
    | cons x r =>
      simp only [List.map_cons, List.cons.injEq, List.map_eq_nil_iff] at e
      obtain ⟨e1, e2⟩ := e
      have hx := hB x (List.mem_cons_self ..)
      have := congrArg UInt8.toNat e1
      rw [UInt8.toNat_ofNat'] at this
      have h48 : (48 : UInt8).toNat = 48 := rfl
      rw [h48] at this
      rw [e2, show x = 48 from by omega]
  have hRb : Hid (R = true ↔ ((∃ h : 0 < (body bs).length, (body bs)[0] ≠ 48) ∧ ∀ x ∈ body bs, isD x = true)) := by
    show _ ↔ _
    rw [← hR, isInt_iff]; simp [h48]
  have hBb : isB (body bs) := by
    cases bs with
    | nil => exact hB
    | cons x r =>
      by_cases hx : x = 45
      · rw [hx, show body (45 :: r) = r from by simp [body]]; exact fun y hy => hB y (List.mem_cons_of_mem _ hy)
      · rw [body_cons hx]; exact hB
  have hsz : (strOfNums bs).size = bs.length := strOfNums_size bs
  by_cases hm : bs.head? = some 45
  focus
    obtain ⟨r, rfl⟩ : ∃ r, bs = 45 :: r := by
      cases bs with
      | nil => simp at hm
      | cons x r => simp at hm; exact ⟨r, by rw [hm]⟩
    have hbr : body (45 :: r) = r := by simp [body]
    rw [hbr] at hRb hBb
    have hz : ∀ h, (((strOfNums (45 :: r))[0]'h).toNat : Int) = 45 := fun h => str_idx hB 0 h
    have hx : (strOfNums (45 :: r)).extract 1 (r.length + 1) = strOfNums r := str_drop (bs := 45 :: r) 1
    have hsz' : (strOfNums (45 :: r)).size = r.length + 1 := strOfNums_size _
    have hbl : r.length ≤ 1000000 := by simp at hl; omega
    clear hl
    generalize strOfNums (45 :: r) = S at *
    generalize hT : strOfNums r = T at *
    generalize hb : r = b at *
    clear hm hbr hR hsz hB h48
    go_enter Tryd.func37, Tryd.ntmps37
    go_wp2_with fail
    refine wp_named ?_
    intro W hW
    have hbW : Below w.heap.size w W := by rw [hW]; exact (by repeat (first | with_reducible exact Below.refl _ _ | with_reducible assumption | refine bgw ?_ (by first | (simp; done) | (simp; omega) | omega) _ | refine Below.setCell ?_ (by first | exact Nat.le_of_not_lt (by assumption) | (simp; done) | (simp; omega) | omega) _ | refine Below.alloc ?_ (by first | (simp; done) | (simp; omega) | omega) _ | refine Below.drew ?_))
    clear hW
    have hTs : T.size = b.length := by rw [← hT]; exact strOfNums_size b
    have hTi : ∀ (k : Nat) (h : k < T.size), ((T[k]'h).toNat : Int) = b[k]'(by rw [hTs] at h; exact h) := by subst hT; exact fun k h => str_idx hBb k h
    clear hT
    go_loopw [3] (fun i wr => ∃ k : Nat, k ≤ b.length ∧ i = .int .i64 k ∧ (∀ j (h : j < b.length), j < k → isD b[j] = true) ∧ Below w.heap.size w wr)
      (fun i _ => (b.length - intOf i).toNat)
    case atStart => exact ⟨0, by omega, rfl, by omega, hbW⟩
    case round =>
      obtain ⟨k, hk, rfl, hall, hbw⟩ := hrel
      by_cases hlt : k < b.length
      · have i0 : (0 : Int) ≤ (k : Int) := by omega
        have i1 : (k : Int) < (b.length : Int) := by omega
        have hx := hTi k (by omega)
        have hxd : isD b[k] = true ↔ 48 ≤ b[k] ∧ b[k] ≤ 57 := isD_iff
        have hmem : b[k] ∈ b := List.getElem_mem hlt
        have hsucc : isD b[k] = true → ∀ j (h : j < b.length), j < k + 1 → isD b[j] = true := fun g j h hj => by
          rcases (by omega : j < k ∨ j = k) with h1 | rfl
          · exact hall j h h1
          · exact g
        have hno : ¬ isD b[k] = true → R = false := fun g => by
          rw [Bool.eq_false_iff]; intro e; exact g ((hRb.out.1 e).2 _ hmem)
        clear hTi hmem hall
        generalize b[k] = x at *
        by_cases x1 : x < 48
        focus
          obtain rfl := hno (by rw [hxd]; omega)
          clear hsucc hno hxd
          go_wp2_with fail
          go_ret
          exact ⟨rfl, (by repeat (first | with_reducible exact Below.refl _ _ | with_reducible assumption | refine bgw ?_ (by first | (simp; done) | (simp; omega) | omega) _ | refine Below.setCell ?_ (by first | exact Nat.le_of_not_lt (by assumption) | (simp; done) | (simp; omega) | omega) _ | refine Below.alloc ?_ (by first | (simp; done) | (simp; omega) | omega) _ | refine Below.drew ?_))⟩
        by_cases x2 : 57 < x
        focus
          obtain rfl := hno (by rw [hxd]; omega)
          clear hsucc hno hxd
          go_wp2_with fail
          go_ret
          exact ⟨rfl, (by repeat (first | with_reducible exact Below.refl _ _ | with_reducible assumption | refine bgw ?_ (by first | (simp; done) | (simp; omega) | omega) _ | refine Below.setCell ?_ (by first | exact Nat.le_of_not_lt (by assumption) | (simp; done) | (simp; omega) | omega) _ | refine Below.alloc ?_ (by first | (simp; done) | (simp; omega) | omega) _ | refine Below.drew ?_))⟩
        have hg := hsucc (hxd.2 (by omega))
        clear hsucc hno hxd
        go_wp2_with fail
        exact ⟨⟨k + 1, by omega, by go_num, hg, hbw⟩, by (try go_num); simp [intOf]; (try omega)⟩
      · obtain rfl : k = b.length := by omega
        have i1 : ¬ (b.length : Int) < (b.length : Int) := by omega
        have hall' : ∀ x ∈ b, isD x = true := fun x hx => by
          obtain ⟨j, hj, rfl⟩ := List.mem_iff_getElem.1 hx
          exact hall j hj hj
        by_cases he : b.length = 0
        focus
          have e : R = false := by rw [Bool.eq_false_iff]; intro e; have := (hRb.out.1 e).1; obtain ⟨h, _⟩ := this; omega
          subst e
          have he' : ¬ (0 : Int) < (b.length : Int) := by omega
          clear hTi hall hall'
          go_wp2_with fail
          go_ret
          exact ⟨rfl, (by repeat (first | with_reducible exact Below.refl _ _ | with_reducible assumption | refine bgw ?_ (by first | (simp; done) | (simp; omega) | omega) _ | refine Below.setCell ?_ (by first | exact Nat.le_of_not_lt (by assumption) | (simp; done) | (simp; omega) | omega) _ | refine Below.alloc ?_ (by first | (simp; done) | (simp; omega) | omega) _ | refine Below.drew ?_))⟩
        have he' : (0 : Int) < (b.length : Int) := by omega
        have hx := hTi 0 (by omega)
        have hR2 : R = !(b[0]'(by omega) == 48) := by
          rw [Bool.eq_iff_iff, hRb.out]
          simp only [Bool.not_eq_true', beq_eq_false_iff_ne]
          exact ⟨fun h => h.1.2, fun h => ⟨⟨by omega, h⟩, hall'⟩⟩
        clear hTi hall hall' hRb
        generalize b[0]'(by omega) = x at *
        have hR3 : Hid (R = !(x == 48)) := hR2
        clear hR2
        go_wp2_with fail
        all_goals (go_ret; refine ⟨?_, (by repeat (first | with_reducible exact Below.refl _ _ | with_reducible assumption | refine bgw ?_ (by first | (simp; done) | (simp; omega) | omega) _ | refine Below.setCell ?_ (by first | exact Nat.le_of_not_lt (by assumption) | (simp; done) | (simp; omega) | omega) _ | refine Below.alloc ?_ (by first | (simp; done) | (simp; omega) | omega) _ | refine Below.drew ?_))⟩; rw [hR3.out]; rfl)
  have hbb : body bs = bs := by
    cases bs with
    | nil => rfl
    | cons x r => simp at hm; exact body_cons hm
  rw [hbb] at hRb hBb
  have hbl : bs.length ≤ 1000000 := hl
  generalize hT : strOfNums bs = T at *
  generalize hb : bs = b at *
  by_cases h0 : b.length = 0
  focus
    have h0' : ¬ (0 : Int) < (b.length : Int) := by omega
    have e : R = false := by rw [Bool.eq_false_iff]; intro e; have := (hRb.out.1 e).1; obtain ⟨h, _⟩ := this; omega
    subst e
    clear hm hbb hR hB h48 hl
    go_enter Tryd.func37, Tryd.ntmps37
    go_wp2_with fail
    go_loopw [3] (fun i wr => i = .int .i64 0 ∧ Below w.heap.size w wr)
      (fun i _ => 0)
    case atStart => exact ⟨rfl, (by repeat (first | with_reducible exact Below.refl _ _ | with_reducible assumption | refine bgw ?_ (by first | (simp; done) | (simp; omega) | omega) _ | refine Below.setCell ?_ (by first | exact Nat.le_of_not_lt (by assumption) | (simp; done) | (simp; omega) | omega) _ | refine Below.alloc ?_ (by first | (simp; done) | (simp; omega) | omega) _ | refine Below.drew ?_))⟩
    case round =>
      obtain ⟨rfl, hbw⟩ := hrel
      go_wp2_with fail
      go_ret
      exact ⟨rfl, (by repeat (first | with_reducible exact Below.refl _ _ | with_reducible assumption | refine bgw ?_ (by first | (simp; done) | (simp; omega) | omega) _ | refine Below.setCell ?_ (by first | exact Nat.le_of_not_lt (by assumption) | (simp; done) | (simp; omega) | omega) _ | refine Below.alloc ?_ (by first | (simp; done) | (simp; omega) | omega) _ | refine Below.drew ?_))⟩
  have h0' : (0 : Int) < (b.length : Int) := by omega
  have hz : ∀ h, (((T[0]'h).toNat : Int) == 45) = false := fun h => by
    subst hT
    have h2 : 0 < b.length := by omega
    rw [str_idx hB 0 h, beq_eq_false_iff_ne]
    intro e
    cases b with
    | nil => simp at h2
    | cons x r => simp at e; simp [e] at hm
  clear hm hbb hR hB h48 hl h0
  go_enter Tryd.func37, Tryd.ntmps37
  go_wp2_with fail
  refine wp_named ?_
  intro W hW
  have hbW : Below w.heap.size w W := by rw [hW]; exact (by repeat (first | with_reducible exact Below.refl _ _ | with_reducible assumption | refine bgw ?_ (by first | (simp; done) | (simp; omega) | omega) _ | refine Below.setCell ?_ (by first | exact Nat.le_of_not_lt (by assumption) | (simp; done) | (simp; omega) | omega) _ | refine Below.alloc ?_ (by first | (simp; done) | (simp; omega) | omega) _ | refine Below.drew ?_))
  clear hW
  have hTs : T.size = b.length := by rw [← hT]; exact strOfNums_size b
  have hTi : ∀ (k : Nat) (h : k < T.size), ((T[k]'h).toNat : Int) = b[k]'(by rw [hTs] at h; exact h) := by subst hT; exact fun k h => str_idx hBb k h
  clear hT
  go_loopw [3] (fun i wr => ∃ k : Nat, k ≤ b.length ∧ i = .int .i64 k ∧ (∀ j (h : j < b.length), j < k → isD b[j] = true) ∧ Below w.heap.size w wr)
    (fun i _ => (b.length - intOf i).toNat)
  case atStart => exact ⟨0, by omega, rfl, by omega, hbW⟩
  case round =>
    obtain ⟨k, hk, rfl, hall, hbw⟩ := hrel
    by_cases hlt : k < b.length
    · have i0 : (0 : Int) ≤ (k : Int) := by omega
      have i1 : (k : Int) < (b.length : Int) := by omega
      have hx := hTi k (by omega)
      have hxd : isD b[k] = true ↔ 48 ≤ b[k] ∧ b[k] ≤ 57 := isD_iff
      have hmem : b[k] ∈ b := List.getElem_mem hlt
      have hsucc : isD b[k] = true → ∀ j (h : j < b.length), j < k + 1 → isD b[j] = true := fun g j h hj => by
        rcases (by omega : j < k ∨ j = k) with h1 | rfl
        · exact hall j h h1
        · exact g
      have hno : ¬ isD b[k] = true → R = false := fun g => by
        rw [Bool.eq_false_iff]; intro e; exact g ((hRb.out.1 e).2 _ hmem)
      clear hTi hmem hall
      generalize b[k] = x at *
      by_cases x1 : x < 48
      focus
        obtain rfl := hno (by rw [hxd]; omega)
        clear hsucc hno hxd
        go_wp2_with fail
        go_ret
        exact ⟨rfl, (by repeat (first | with_reducible exact Below.refl _ _ | with_reducible assumption | refine bgw ?_ (by first | (simp; done) | (simp; omega) | omega) _ | refine Below.setCell ?_ (by first | exact Nat.le_of_not_lt (by assumption) | (simp; done) | (simp; omega) | omega) _ | refine Below.alloc ?_ (by first | (simp; done) | (simp; omega) | omega) _ | refine Below.drew ?_))⟩
      by_cases x2 : 57 < x
      focus
        obtain rfl := hno (by rw [hxd]; omega)
        clear hsucc hno hxd
        go_wp2_with fail
        go_ret
        exact ⟨rfl, (by repeat (first | with_reducible exact Below.refl _ _ | with_reducible assumption | refine bgw ?_ (by first | (simp; done) | (simp; omega) | omega) _ | refine Below.setCell ?_ (by first | exact Nat.le_of_not_lt (by assumption) | (simp; done) | (simp; omega) | omega) _ | refine Below.alloc ?_ (by first | (simp; done) | (simp; omega) | omega) _ | refine Below.drew ?_))⟩
      have hg := hsucc (hxd.2 (by omega))
      clear hsucc hno hxd
      go_wp2_with fail
      exact ⟨⟨k + 1, by omega, by go_num, hg, hbw⟩, by (try go_num); simp [intOf]; (try omega)⟩
    · obtain rfl : k = b.length := by omega
      have i1 : ¬ (b.length : Int) < (b.length : Int) := by omega
      have hall' : ∀ x ∈ b, isD x = true := fun x hx => by
        obtain ⟨j, hj, rfl⟩ := List.mem_iff_getElem.1 hx
        exact hall j hj hj
      by_cases he : b.length = 0
      focus
        have e : R = false := by rw [Bool.eq_false_iff]; intro e; have := (hRb.out.1 e).1; obtain ⟨h, _⟩ := this; omega
        subst e
        have he' : ¬ (0 : Int) < (b.length : Int) := by omega
        clear hTi hall hall'
        go_wp2_with fail
        go_ret
        exact ⟨rfl, (by repeat (first | with_reducible exact Below.refl _ _ | with_reducible assumption | refine bgw ?_ (by first | (simp; done) | (simp; omega) | omega) _ | refine Below.setCell ?_ (by first | exact Nat.le_of_not_lt (by assumption) | (simp; done) | (simp; omega) | omega) _ | refine Below.alloc ?_ (by first | (simp; done) | (simp; omega) | omega) _ | refine Below.drew ?_))⟩
      have he' : (0 : Int) < (b.length : Int) := by omega
      have hx := hTi 0 (by omega)
      have hR2 : R = !(b[0]'(by omega) == 48) := by
        rw [Bool.eq_iff_iff, hRb.out]
        simp only [Bool.not_eq_true', beq_eq_false_iff_ne]
        exact ⟨fun h => h.1.2, fun h => ⟨⟨by omega, h⟩, hall'⟩⟩
      clear hTi hall hall' hRb
      generalize b[0]'(by omega) = x at *
      have hR3 : Hid (R = !(x == 48)) := hR2
      clear hR2
      go_wp2_with fail
      all_goals (go_ret; refine ⟨?_, (by repeat (first | with_reducible exact Below.refl _ _ | with_reducible assumption | refine bgw ?_ (by first | (simp; done) | (simp; omega) | omega) _ | refine Below.setCell ?_ (by first | exact Nat.le_of_not_lt (by assumption) | (simp; done) | (simp; omega) | omega) _ | refine Below.alloc ?_ (by first | (simp; done) | (simp; omega) | omega) _ | refine Below.drew ?_))⟩; rw [hR3.out]; rfl)

end Go.Proofs.YtdlnidefjdjocaaDoor
