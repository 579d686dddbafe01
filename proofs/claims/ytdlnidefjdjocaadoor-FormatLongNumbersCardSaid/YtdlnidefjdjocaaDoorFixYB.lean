/- Contracts of package format: appendDigit, within, parseDecimal. -/
import Derived.Test.YtdlnidefjdjocaaDoorLibF
set_option linter.unusedVariables false
namespace Go.Proofs.YtdlnidefjdjocaaDoor
open Go.RowKit Fm

theorem appd_b (m d : Int) (m0 : 0 ≤ m) (m1 : m ≤ 4611686018427387905) (d0 : 0 ≤ d) (d1 : d ≤ 9) (w : World) : Calls Tryd.prog 41 #[.int .i64 m, .int .i64 d] w fun e w' => e = .returned (.int .i64 (if (4611686018427387904 - d).tdiv 10 < m then 4611686018427387905 else 10 * m + d)) ∧ Below w.heap.size w w' := by
  obtain ⟨Q, hQ⟩ : ∃ Q, (4611686018427387904 - d).tdiv 10 = Q := ⟨_, rfl⟩
  have hQ2 : Q = (4611686018427387904 - d) / 10 := by rw [← hQ]; exact Int.tdiv_eq_ediv_of_nonneg (by omega)
  have q0 : 0 ≤ Q := by omega
  have q1 : 10 * Q ≤ 4611686018427387904 - d := by omega
  rw [hQ]
  clear hQ2
  by_cases h : Q < m
  focus
    rw [if_pos h]
    go_enter Tryd.func41, Tryd.ntmps41
    go_wp2_with fail
    go_ret
    exact ⟨rfl, (by repeat (first | with_reducible exact Below.refl _ _ | with_reducible assumption | refine bgw ?_ (by first | (simp; done) | (simp; omega) | omega) _ | refine Below.setCell ?_ (by first | exact Nat.le_of_not_lt (by assumption) | (simp; done) | (simp; omega) | omega) _ | refine Below.alloc ?_ (by first | (simp; done) | (simp; omega) | omega) _ | refine Below.drew ?_))⟩
  rw [if_neg h]
  go_enter Tryd.func41, Tryd.ntmps41
  go_wp2_with fail
  go_ret
  exact ⟨rfl, (by repeat (first | with_reducible exact Below.refl _ _ | with_reducible assumption | refine bgw ?_ (by first | (simp; done) | (simp; omega) | omega) _ | refine Below.setCell ?_ (by first | exact Nat.le_of_not_lt (by assumption) | (simp; done) | (simp; omega) | omega) _ | refine Below.alloc ?_ (by first | (simp; done) | (simp; omega) | omega) _ | refine Below.drew ?_))⟩

theorem within_b (g : Bool) (m z l : Int) (m0 : 0 ≤ m) (m1 : m ≤ 4611686018427387905) (w : World) : Calls Tryd.prog 29 #[.agg #[.bool g, .int .i64 m, .int .i64 z], .int .i64 l] w fun e w' => e = .returned (.tuple #[.int .i64 (if l < m then 0 else if g = true then -m else m), .int .i64 (if l < m then 6 else 0)]) ∧ Below w.heap.size w w' := by
  by_cases h : l < m
  focus
    rw [if_pos h, if_pos h]
    go_enter Tryd.func29, Tryd.ntmps29
    go_wp2_with fail
    exact bodyPost_ret (v := .tuple #[.int .i64 0, .int .i64 6]) (by simp [results, Tryd.results29, go_sem]) rfl ⟨rfl, (by repeat (first | with_reducible exact Below.refl _ _ | with_reducible assumption | refine bgw ?_ (by first | (simp; done) | (simp; omega) | omega) _ | refine Below.setCell ?_ (by first | exact Nat.le_of_not_lt (by assumption) | (simp; done) | (simp; omega) | omega) _ | refine Below.alloc ?_ (by first | (simp; done) | (simp; omega) | omega) _ | refine Below.drew ?_))⟩
  rw [if_neg h, if_neg h]
  cases g
  focus
    rw [if_neg (by simp)]
    go_enter Tryd.func29, Tryd.ntmps29
    go_wp2_with fail
    exact bodyPost_ret (v := .tuple #[.int .i64 m, .int .i64 0]) (by simp [results, Tryd.results29, go_sem]) rfl ⟨rfl, (by repeat (first | with_reducible exact Below.refl _ _ | with_reducible assumption | refine bgw ?_ (by first | (simp; done) | (simp; omega) | omega) _ | refine Below.setCell ?_ (by first | exact Nat.le_of_not_lt (by assumption) | (simp; done) | (simp; omega) | omega) _ | refine Below.alloc ?_ (by first | (simp; done) | (simp; omega) | omega) _ | refine Below.drew ?_))⟩
  rw [if_pos rfl]
  go_enter Tryd.func29, Tryd.ntmps29
  go_wp2_with fail
  exact bodyPost_ret (v := .tuple #[.int .i64 (-m), .int .i64 0]) (by simp [results, Tryd.results29, go_sem]) rfl ⟨rfl, (by repeat (first | with_reducible exact Below.refl _ _ | with_reducible assumption | refine bgw ?_ (by first | (simp; done) | (simp; omega) | omega) _ | refine Below.setCell ?_ (by first | exact Nat.le_of_not_lt (by assumption) | (simp; done) | (simp; omega) | omega) _ | refine Below.alloc ?_ (by first | (simp; done) | (simp; omega) | omega) _ | refine Below.drew ?_))⟩

/-- What parseDecimal tells of a text. -/
def dcN (bs : List Int) : Bool := isInt bs && decide (bs.head? = some 45)
def dcM (bs : List Int) : Int := if isInt bs = true then cap (val (body bs)) else 0
def dcZ (bs : List Int) : Int := if isInt bs = true then (val (body bs) : Int) % 65536 else 0
theorem it_gw {w : World} {p : Gw} {I : Nat} {o : Obj} (h : w.heap[I]? = some o) : (gw w p).heap[I]? = some o :=
  ((below_gw w p).block I (Array.getElem?_eq_some_iff.1 h).1).trans h
theorem it_set {w : World} {b i I : Nat} {v : Value} {o : Obj} (hn : b ≠ I) (h : w.heap[I]? = some o) : (w.setCell ⟨b, i, none⟩ v).heap[I]? = some o := by
  rw [Below.heap_setCell _ _ _ _ (fun e => hn e.symm)]; exact h
theorem dcells {w : World} {P : Nat} {cs : Array Value} {t : TypeId} {a : Bool} {b c : Int} (h : blk w P cs t) (hc : cs.size = 3 := by rfl) :
    (w.setCell ⟨P, 0, none⟩ (.bool a)).cell? ⟨P, 0, none⟩ = some (.bool a) ∧
    ((w.setCell ⟨P, 0, none⟩ (.bool a)).setCell ⟨P, 1, none⟩ (.int .i64 b)).cell? ⟨P, 1, none⟩ = some (.int .i64 b) ∧
    (((w.setCell ⟨P, 0, none⟩ (.bool a)).setCell ⟨P, 1, none⟩ (.int .i64 b)).setCell ⟨P, 2, none⟩ (.int .i64 c)).cell? ⟨P, 2, none⟩ = some (.int .i64 c) := by
  have s0 := blk_set (i := 0) (v := .bool a) h
  have s1 := blk_set (i := 1) (v := .int .i64 b) s0
  have s2 := blk_set (i := 2) (v := .int .i64 c) s1
  exact ⟨by rw [blk_cell s0]; simp [hc], by rw [blk_cell s1]; simp [hc], by rw [blk_cell s2]; simp [hc]⟩
theorem body_if (bs : List Int) : (if bs.head? = some 45 then bs.tail else bs) = body bs := by
  cases bs with
  | nil => rfl
  | cons x r => by_cases hx : x = 45 <;> simp [body, hx]
theorem body_isB {bs : List Int} (h : isB bs) : isB (body bs) ∧ (body bs).length ≤ bs.length := by
  rw [← body_if]
  split
  · exact ⟨fun x hx => h x (List.mem_of_mem_tail hx), by simp⟩
  · exact ⟨h, Nat.le_refl _⟩

set_option maxHeartbeats 10000000 in
theorem xdec_b (bs : List Int) (hB : isB bs) (hl : bs.length ≤ 1000000) (w : World) : Calls Tryd.prog 28 #[.string (strOfNums bs)] w fun e w' => e = .returned (.tuple #[.agg #[.bool (dcN bs), .int .i64 (dcM bs), .int .i64 (dcZ bs)], .bool (isInt bs)]) ∧ Below w.heap.size w w' := by
  have cP := fun w' => cutp_b bs hB w'
  rw [body_if] at cP
  have hI := isInt_iff (s := bs)
  have h48 := str_48 hB
  obtain ⟨hDB, hDl⟩ := body_isB hB
  obtain ⟨D, hD⟩ : ∃ D, body bs = D := ⟨_, rfl⟩
  obtain ⟨g, hg⟩ : ∃ g, decide (bs.head? = some 45) = g := ⟨_, rfl⟩
  have hnS : isInt bs = false → dcN bs = false ∧ dcM bs = 0 ∧ dcZ bs = 0 := fun h => by simp [dcN, dcM, dcZ, h]
  have hyS : isInt bs = true → dcN bs = g ∧ dcM bs = cap (val D) ∧ dcZ bs = (val D : Int) % 65536 := fun h => by simp [dcN, dcM, dcZ, h, hD, hg]
  rw [hD] at cP hI hDB hDl
  rw [hg] at cP
  have hsz : (strOfNums D).size = D.length := strOfNums_size D
  have hem2 : (strOfNums D).toList.isEmpty = D.isEmpty := by rw [str_list]; cases D <;> rfl
  by_cases h0 : D = []
  focus
    have hI0 : isInt bs = false := by
      rw [Bool.eq_false_iff]; intro e
      rcases hI.1 e with e | ⟨⟨e, -⟩, -⟩
      · rw [e] at hD; rw [← hD] at h0; exact absurd h0 (by decide)
      · rw [h0] at e; exact absurd e (by decide)
    obtain ⟨e1, e2, e3⟩ := hnS hI0
    rw [e1, e2, e3, hI0]
    rw [h0, show ([] : List Int).isEmpty = true from rfl] at hem2
    rw [h0] at cP hsz
    generalize strOfNums [] = T at *
    generalize strOfNums bs = S at *
    clear hnS hyS hI hI0 h0 h48 hDB hDl hD hg e1 e2 e3
    go_enter Tryd.func28, Tryd.ntmps28
    go_wp2_with (go_at_call 40; refine Calls.mono (gw_at (cP _)) ?_; rintro e w1 ⟨rfl, q, rfl⟩)
    exact bodyPost_ret (v := .tuple #[.agg #[.bool false, .int .i64 0, .int .i64 0], .bool false]) (by simp [results, Tryd.results28, go_sem]) rfl ⟨rfl, (by repeat (first | with_reducible exact Below.refl _ _ | with_reducible assumption | refine bgw ?_ (by first | (simp; done) | (simp; omega) | omega) _ | refine Below.setCell ?_ (by first | exact Nat.le_of_not_lt (by assumption) | (simp; done) | (simp; omega) | omega) _ | refine Below.alloc ?_ (by first | (simp; done) | (simp; omega) | omega) _ | refine Below.drew ?_))⟩
  have hpos : 0 < D.length := by cases D with | nil => exact absurd rfl h0 | cons x r => simp
  rw [show D.isEmpty = false from by cases D with | nil => exact absurd rfl h0 | cons x r => rfl] at hem2
  obtain ⟨x0, hx0⟩ : ∃ x0, D[0] = x0 := ⟨_, rfl⟩
  have hz : ∀ h, (((strOfNums D)[0]'h).toNat : Int) = x0 := fun h => by rw [str_idx hDB 0 h, hx0]
  by_cases hbad : x0 = 48 ∧ ¬ bs = [48]
  focus
    obtain ⟨rfl, hb48⟩ := hbad
    have hI0 : isInt bs = false := by
      rw [Bool.eq_false_iff]; intro e
      rcases hI.1 e with e | ⟨⟨_, e⟩, -⟩
      · exact hb48 e
      · exact e hx0
    obtain ⟨e1, e2, e3⟩ := hnS hI0
    rw [e1, e2, e3, hI0]
    rw [decide_eq_false hb48] at h48
    generalize strOfNums D = T at *
    generalize strOfNums bs = S at *
    clear hnS hyS hI hI0 h0 hDB hDl hD hg e1 e2 e3 hx0 hb48
    go_enter Tryd.func28, Tryd.ntmps28
    go_wp2_with (go_at_call 40; refine Calls.mono (gw_at (cP _)) ?_; rintro e w1 ⟨rfl, q, rfl⟩)
    exact bodyPost_ret (v := .tuple #[.agg #[.bool false, .int .i64 0, .int .i64 0], .bool false]) (by simp [results, Tryd.results28, go_sem]) rfl ⟨rfl, (by repeat (first | with_reducible exact Below.refl _ _ | with_reducible assumption | refine bgw ?_ (by first | (simp; done) | (simp; omega) | omega) _ | refine Below.setCell ?_ (by first | exact Nat.le_of_not_lt (by assumption) | (simp; done) | (simp; omega) | omega) _ | refine Below.alloc ?_ (by first | (simp; done) | (simp; omega) | omega) _ | refine Below.drew ?_))⟩
  have hok : Hid (isInt bs = true ↔ ∀ x ∈ D, isD x = true) := by
    show _ ↔ _
    rw [hI]
    constructor
    · rintro (e | ⟨-, e⟩)
      · have e2 : D = [48] := by rw [← hD, e]; decide
        rw [e2]; intro x hx; simp at hx; subst hx; decide
      · exact e
    · intro e
      by_cases hb : bs = [48]
      · exact .inl hb
      · exact .inr ⟨⟨hpos, fun e0 => hbad ⟨by rw [← hx0]; exact e0, hb⟩⟩, e⟩
  have hc : (((x0 == 48) = true) ∧ ((strOfNums bs).toList == [48]) = true) ∨ (x0 == 48) = false := by
    by_cases hb : bs = [48]
    · rw [decide_eq_true hb] at h48
      by_cases h4 : x0 = 48
      · exact .inl ⟨by rw [beq_iff_eq]; exact h4, h48⟩
      · exact .inr (by rw [beq_eq_false_iff_ne]; exact h4)
    · exact .inr (by rw [beq_eq_false_iff_ne]; exact fun h4 => hbad ⟨h4, hb⟩)
  have hnS' : Hid (isInt bs = false → dcN bs = false ∧ dcM bs = 0 ∧ dcZ bs = 0) := hnS
  obtain ⟨mD, hmD⟩ : ∃ m, Hid (cap (val D) = m) := ⟨_, rfl⟩
  obtain ⟨zD, hzD⟩ : ∃ z, Hid ((val D : Int) % 65536 = z) := ⟨_, rfl⟩
  rw [hmD.out, hzD.out] at hyS
  have hyS' : Hid (isInt bs = true → dcN bs = g ∧ dcM bs = mD ∧ dcZ bs = zD) := hyS
  have hlo := fun {wr w : World} {I B k : Nat} => @nx_lo D hDB wr w I B k
  have hhi := fun {wr w : World} {I B k : Nat} => @nx_hi D hDB wr w I B k
  have hen := fun {wr : World} {I : Nat} => @nx_end D wr I
  clear hnS hyS hI hbad h48 hx0 h0 hg hD hB
  generalize isInt bs = R at *
  generalize dcN bs = a at *
  generalize dcM bs = b at *
  generalize dcZ bs = c at *
  generalize strOfNums D = T at *
  generalize strOfNums bs = S at *
  rcases hc with ⟨q1, q2⟩ | q1
  all_goals
    go_enter Tryd.func28, Tryd.ntmps28
    go_wp2_with (go_at_call 40; refine Calls.mono (gw_at (cP _)) ?_; rintro e w1 ⟨rfl, q, rfl⟩)
    refine wp_named ?_
    intro W0 hW0
    have k0 : blk W0 w.heap.size #[.bool false, .int .i64 0, .int .i64 0] 42 := by rw [hW0]; exact blk_alloc (blk_alloc (blk_gw (blk_new _ _ _)))
    have kP : blk W0 (w.heap.size + 1 + q.os.size) #[.bool g, .int .i64 0, .int .i64 0] 42 := by rw [hW0]; exact blk_alloc (blk_at (by simp))
    have hit0 : W0.heap[w.heap.size + 1 + q.os.size + 1]? = some (.stringIter T 0) := by
      rw [hW0]
      have := World.iter_heap ((gw (w.alloc (Obj.cells #[Value.bool false, Value.int IntKind.i64 0, Value.int IntKind.i64 0] 42)) q).alloc (Obj.cells #[Value.bool g, Value.int IntKind.i64 0, Value.int IntKind.i64 0] 42)) T 0
      simpa using this
    have hb0 : Below w.heap.size w W0 := by rw [hW0]; exact Below.alloc (by repeat (first | with_reducible exact Below.refl _ _ | with_reducible assumption | refine bgw ?_ (by first | (simp; done) | (simp; omega) | omega) _ | refine Below.setCell ?_ (by first | exact Nat.le_of_not_lt (by assumption) | (simp; done) | (simp; omega) | omega) _ | refine Below.alloc ?_ (by first | (simp; done) | (simp; omega) | omega) _ | refine Below.drew ?_)) (by simp; omega) _
    clear hW0
    have g1 : w.heap.size < w.heap.size + 1 + q.os.size := by omega
    have g2 : w.heap.size + 1 + q.os.size < w.heap.size + 1 + q.os.size + 1 := by omega
    generalize w.heap.size + 1 + q.os.size + 1 = I at *
    generalize w.heap.size + 1 + q.os.size = P at *
    go_loopw [] (fun wr => ∃ k : Nat, k ≤ D.length ∧ wr.heap[I]? = some (.stringIter T k) ∧ blk wr P #[.bool g, .int .i64 (cap (val (D.take k))), .int .i64 ((val (D.take k) : Int) % 65536)] 42 ∧ blk wr w.heap.size #[.bool false, .int .i64 0, .int .i64 0] 42 ∧ (∀ j (h : j < D.length), j < k → isD D[j] = true) ∧ Below w.heap.size w wr)
      (fun wr => D.length - wr.iterPos I)
    case atStart => exact ⟨0, by omega, hit0, kP, k0, by omega, hb0⟩
    case round =>
      obtain ⟨k, hk, hit, hP, hR, hall, hbw⟩ := hrel
      clear k0 kP hit0 hb0
      have hsz2 := hbw.size
      have nPI : P ≠ I := by omega
      have nWI : w.heap.size ≠ I := by omega
      by_cases hlt : k < D.length
      · have hno : ¬ isD D[k] = true → R = false := fun h => by
          rw [Bool.eq_false_iff]; intro e; exact h (hok.out.1 e _ (List.getElem_mem hlt))
        have hsucc : isD D[k] = true → ∀ j (h : j < D.length), j < k + 1 → isD D[j] = true := fun g j h hj => by
          rcases (by omega : j < k ∨ j = k) with h1 | rfl
          · exact hall j h h1
          · exact g
        by_cases h128 : D[k] < 128
        · obtain ⟨W, hnx, hit2, hb2, hs2, hsame⟩ := hlo hit hlt h128 hbw (by omega)
          have kD := blk_same hP hsame nPI
          have kR := blk_same hR hsame nWI
          have htk := val_take hlt
          clear hlo hhi hen hall hP hR hsame
          have okD := blk_older kD
          have ckD_0 : _ = some _ := blk_cell kD 0
          have ckD_1 : _ = some _ := blk_cell kD 1
          have ckD_2 : _ = some _ := blk_cell kD 2
          have fkD_0 := blk_free kD 0
          have fkD_1 := blk_free kD 1
          have fkD_2 := blk_free kD 2
          have okR := blk_older kR
          have ckR_0 : _ = some _ := blk_cell kR 0
          have ckR_1 : _ = some _ := blk_cell kR 1
          have ckR_2 : _ = some _ := blk_cell kR 2
          have fkR_0 := blk_free kR 0
          have fkR_1 := blk_free kR 1
          have fkR_2 := blk_free kR 2
          generalize D[k] = x at *
          rw [isD_iff] at hno hsucc
          by_cases hx : 48 ≤ x ∧ x ≤ 57
          · have hg := hsucc hx
            obtain ⟨x1, x2⟩ := hx
            have x3 : ¬ x < 48 := by omega
            have x4 : ¬ 57 < x := by omega
            obtain ⟨d, hd⟩ : ∃ d, x - 48 = d := ⟨_, rfl⟩
            have d0 : 0 ≤ d := by omega
            have d1 : d ≤ 9 := by omega
            rw [hd] at htk
            obtain ⟨v1, hv1⟩ : ∃ v1, Hid (val (D.take (k + 1)) = v1) := ⟨_, rfl⟩
            rw [hv1.out] at htk
            generalize val (D.take k) = v at *
            have hb := cap_bound v
            have cA : ∀ w', Calls Tryd.prog 41 #[.int .i64 (cap v), .int .i64 d] w' fun e w'' => e = .returned (.int .i64 (cap v1)) ∧ Below w'.heap.size w' w'' := fun w' => by
              have := appd_b (cap v) d hb.1 hb.2 d0 d1 w'
              rw [cap_step v d0 d1, ← htk] at this
              exact this
            have hrest : (10 * ((v : Int) % 65536) + d).tmod 65536 = (v1 : Int) % 65536 := by rw [rest_mod v d0 d1, htk]
            generalize cap v = m at *
            obtain ⟨m1, hm1⟩ : ∃ m1, Hid (cap v1 = m1) := ⟨_, rfl⟩
            rw [hm1.out] at cA
            have z0 : (0 : Int) ≤ (v : Int) % 65536 := by omega
            have z1 : (v : Int) % 65536 ≤ 65535 := by omega
            generalize (v : Int) % 65536 = z at *
            obtain ⟨z', hz'⟩ : ∃ z', Hid ((v1 : Int) % 65536 = z') := ⟨_, rfl⟩
            rw [hz'.out] at hrest
            clear hno hsucc htk hz hb
            go_wp2_with (go_at_call 41; refine Calls.mono (gw_at (cA _)) ?_; rintro e w1 ⟨rfl, q, rfl⟩)
            have hit3 := it_gw (p := q) (it_set (i := 2) (v := .int .i64 z') nPI (it_set (i := 1) (v := .int .i64 m1) nPI hit2))
            refine ⟨⟨k + 1, by omega, hit3, ?_, ?_, hg, (by repeat (first | with_reducible exact Below.refl _ _ | with_reducible assumption | refine bgw ?_ (by first | (simp; done) | (simp; omega) | omega) _ | refine Below.setCell ?_ (by first | exact Nat.le_of_not_lt (by assumption) | (simp; done) | (simp; omega) | omega) _ | refine Below.alloc ?_ (by first | (simp; done) | (simp; omega) | omega) _ | refine Below.drew ?_))⟩, ?_⟩
            · rw [hv1.out, hm1.out, hz'.out]; exact (by apply blk_of; (repeat (first | with_reducible exact kD | with_reducible apply blk_drew | with_reducible apply blk_gw | with_reducible apply blk_alloc | with_reducible apply blk_set | ((with_reducible apply blk_other); focus omega))); (first | rfl | simp))
            · exact (by apply blk_of; (repeat (first | with_reducible exact kR | with_reducible apply blk_drew | with_reducible apply blk_gw | with_reducible apply blk_alloc | with_reducible apply blk_set | ((with_reducible apply blk_other); focus omega))); (first | rfl | simp))
            · simp [World.iterPos, hit, hit3]; omega
          · obtain rfl := hno hx
            clear hsucc hno htk hz
            obtain ⟨rfl, rfl, rfl⟩ := hnS'.out rfl
            rcases (by omega : x < 48 ∨ (¬ x < 48 ∧ 57 < x)) with x1 | ⟨x1, x2⟩
            all_goals
              clear hx
              obtain ⟨t0, t1, t2⟩ := dcells (a := false) (b := 0) (c := 0) kR
              go_wp2_with fail
              exact bodyPost_ret (v := .tuple #[.agg #[.bool false, .int .i64 0, .int .i64 0], .bool false]) (by simp [results, Tryd.results28, go_sem, t0, t1, t2]) rfl ⟨rfl, (by repeat (first | with_reducible exact Below.refl _ _ | with_reducible assumption | refine bgw ?_ (by first | (simp; done) | (simp; omega) | omega) _ | refine Below.setCell ?_ (by first | exact Nat.le_of_not_lt (by assumption) | (simp; done) | (simp; omega) | omega) _ | refine Below.alloc ?_ (by first | (simp; done) | (simp; omega) | omega) _ | refine Below.drew ?_))⟩
        · obtain ⟨W, r, hnx, r0, r1, hb2, hs2, hsame⟩ := hhi hit hlt (by omega) hbw (by omega)
          have kR := blk_same hR hsame nWI
          obtain rfl := hno (fun h => by rw [isD_iff] at h; omega)
          obtain ⟨rfl, rfl, rfl⟩ := hnS'.out rfl
          have x1 : ¬ r < 48 := by omega
          have x2 : 57 < r := by omega
          clear hlo hhi hen hall hP hR hsame hno hsucc hz
          have okR := blk_older kR
          have ckR_0 : _ = some _ := blk_cell kR 0
          have ckR_1 : _ = some _ := blk_cell kR 1
          have ckR_2 : _ = some _ := blk_cell kR 2
          have fkR_0 := blk_free kR 0
          have fkR_1 := blk_free kR 1
          have fkR_2 := blk_free kR 2
          obtain ⟨t0, t1, t2⟩ := dcells (a := false) (b := 0) (c := 0) kR
          go_wp2_with fail
          exact bodyPost_ret (v := .tuple #[.agg #[.bool false, .int .i64 0, .int .i64 0], .bool false]) (by simp [results, Tryd.results28, go_sem, t0, t1, t2]) rfl ⟨rfl, (by repeat (first | with_reducible exact Below.refl _ _ | with_reducible assumption | refine bgw ?_ (by first | (simp; done) | (simp; omega) | omega) _ | refine Below.setCell ?_ (by first | exact Nat.le_of_not_lt (by assumption) | (simp; done) | (simp; omega) | omega) _ | refine Below.alloc ?_ (by first | (simp; done) | (simp; omega) | omega) _ | refine Below.drew ?_))⟩
      · obtain rfl : k = D.length := by omega
        have hnx := hen hit
        rw [List.take_length, hmD.out, hzD.out] at hP
        obtain rfl : R = true := hok.out.2 (fun x hx => by obtain ⟨j, hj, rfl⟩ := List.mem_iff_getElem.1 hx; exact hall j hj hj)
        obtain ⟨rfl, rfl, rfl⟩ := hyS'.out rfl
        clear hlo hhi hen hall hz
        have ohP := blk_older hP
        have chP_0 : _ = some _ := blk_cell hP 0
        have chP_1 : _ = some _ := blk_cell hP 1
        have chP_2 : _ = some _ := blk_cell hP 2
        have fhP_0 := blk_free hP 0
        have fhP_1 := blk_free hP 1
        have fhP_2 := blk_free hP 2
        have ohR := blk_older hR
        have chR_0 : _ = some _ := blk_cell hR 0
        have chR_1 : _ = some _ := blk_cell hR 1
        have chR_2 : _ = some _ := blk_cell hR 2
        have fhR_0 := blk_free hR 0
        have fhR_1 := blk_free hR 1
        have fhR_2 := blk_free hR 2
        obtain ⟨t0, t1, t2⟩ := dcells (a := a) (b := b) (c := c) hR
        go_wp2_with fail
        exact bodyPost_ret (v := .tuple #[.agg #[.bool a, .int .i64 b, .int .i64 c], .bool true]) (by simp [results, Tryd.results28, go_sem, t0, t1, t2]) rfl ⟨rfl, (by repeat (first | with_reducible exact Below.refl _ _ | with_reducible assumption | refine bgw ?_ (by first | (simp; done) | (simp; omega) | omega) _ | refine Below.setCell ?_ (by first | exact Nat.le_of_not_lt (by assumption) | (simp; done) | (simp; omega) | omega) _ | refine Below.alloc ?_ (by first | (simp; done) | (simp; omega) | omega) _ | refine Below.drew ?_))⟩

end Go.Proofs.YtdlnidefjdjocaaDoor
