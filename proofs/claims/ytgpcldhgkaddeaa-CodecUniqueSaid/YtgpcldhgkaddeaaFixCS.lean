/- Contracts of the reference of chapter 7, continued: strings and slices. -/
import Derived.Test.YtgpcldhgkaddeaaFixCV
import Derived.Test.YtgpcldhgkaddeaaByL
set_option linter.unusedVariables false
namespace Go.Proofs.Ytgpcldhgkaddeaa
open Go.RowKit By

theorem info_i64' : (Try.prog.info? 3).map (fun i => (i.zero, i.size, i.bytes)) = some (some (.int .i64 0), 1, 8) := by kernel_rfl

theorem ras_b (A : Option Addr) (cap : Nat) (bs : List Int) (s : ByteArray) (hl : bs.length ≤ 1073741824) (hs : s.size ≤ 1073741824) (hA : A = none → cap = 0) (w : World) (hp : Byts w A bs) : Calls Try.prog 23 #[.slice A bs.length cap, .string s] w fun e w' => (∃ v, e = .returned v ∧ w'.ownsRow w.heap.size 5 1 v (bs.length + (encStr (nums s)).length) (yv (bs ++ encStr (nums s)))) ∧ Below w.heap.size w w' := by
  obtain ⟨i0, hi, hz0, hz1, hz2⟩ := info_parts info_u8
  have h9 := enc_le (n := (s.size : Int)) (by omega) (by omega)
  have cA : ∀ w', Below w.heap.size w w' → Calls Try.prog 35 #[.slice A bs.length cap, .int .i64 s.size] w' fun e w'' => (∃ v, e = .returned v ∧ w''.ownsRow w'.heap.size 5 1 v (bs.length + (enc (s.size : Int)).length) (yv (bs ++ enc (s.size : Int)))) ∧ Below w'.heap.size w' w'' := fun w' hb => rai_g A cap bs.length bs s.size w w' hp hb rfl hl (by omega) (by omega) hA
  have hE : Hid (encStr (nums s) = enc (s.size : Int) ++ nums s) := by show _ = _; simp [encStr]
  have hlen : (encStr (nums s)).length = (enc (s.size : Int)).length + s.size := by rw [hE.out]; simp
  rw [hlen]
  clear hlen
  go_enter Try.func23, Try.ntmps23
  go_wp2_with (first
    | (go_at_call 35; refine Calls.mono (gw_ex (cA _ (by repeat (first | with_reducible exact Below.refl _ _ | with_reducible assumption | refine bgw ?_ (by first | (simp; done) | (simp; omega) | omega) _ | refine Below.setCell ?_ (by first | exact Nat.le_of_not_lt (by assumption) | (simp; done) | (simp; omega) | omega) _ | refine Below.alloc ?_ (by first | (simp; done) | (simp; omega) | omega) _ | refine Below.drew ?_)))) ?_; rintro e w1 ⟨⟨v', rfl, hown⟩, q, rfl⟩; obtain ⟨A', cap', rfl, hle, hmx, hnil, hcs⟩ := owns_sl hown)
    | (at_builtin; refine wpList_appS rfl (.tmp 8) (.tmp 9) 22 9 rfl w.heap.size 5 i0 Try.underlying22 Try.underlying9 hi hz0 hz1 hz2 _ _ _ rfl hown s rfl (by unfold maxLen; omega) (by omega) (by simp) ?_; intro v3 w3 hown3 hb3))
  go_ret
  refine ⟨⟨v3, rfl, ?_⟩, Below.trans (by repeat (first | with_reducible exact Below.refl _ _ | with_reducible assumption | refine bgw ?_ (by first | (simp; done) | (simp; omega) | omega) _ | refine Below.setCell ?_ (by first | exact Nat.le_of_not_lt (by assumption) | (simp; done) | (simp; omega) | omega) _ | refine Below.alloc ?_ (by first | (simp; done) | (simp; omega) | omega) _ | refine Below.drew ?_)) hb3⟩
  have := hown3
  rw [← yv_append, List.append_assoc, ← hE.out, Nat.add_assoc] at this
  exact this

set_option maxHeartbeats 1000000 in
theorem rrs_b (A : Option Addr) (cap : Nat) (bs : List Int) (p most : Int) (hB : isB bs) (hl : bs.length ≤ 1073741824) (hk : bs.length ≤ cap) (w : World) (hp : Byts w A bs) : Calls Try.prog 22 #[.slice A bs.length cap, .int .i64 p, .int .i64 most] w fun e w' => e = .returned (.tuple #[.string (strOfNums (rdStr bs p most).1), .int .i64 (rdStr bs p most).2.1, .int .i64 (rdStr bs p most).2.2]) ∧ Below w.heap.size w w' := by
  have cL : ∀ w', Below w.heap.size w w' → Calls Try.prog 34 #[.slice A bs.length cap, .int .i64 p, .int .i64 most] w' fun e w'' => e = .returned (.tuple #[.int .i64 (rdLen bs p most).1, .int .i64 (rdLen bs p most).2.1, .int .i64 (rdLen bs p most).2.2]) ∧ Below w'.heap.size w' w'' := fun w' hb => rlen_b A cap bs p most hB hl w' (Cs.to hp hb)
  have hin := @rdLen_in bs p most (rdLen bs p most).1 (rdLen bs p most).2.1 hB
  unfold rdStr
  generalize rdLen bs p most = r at *
  obtain ⟨n, to, e⟩ := r
  dsimp only at cL hin ⊢
  by_cases he : e = 0
  rotate_left
  focus
    rw [if_pos he]
    have heb : (e == 0) = false := by rw [beq_eq_false_iff_ne]; exact he
    clear he hin
    go_enter Try.func22, Try.ntmps22
    go_wp2_with (go_at_call 34; refine Calls.mono (gw_at (cL _ (by repeat (first | with_reducible exact Below.refl _ _ | with_reducible assumption | refine bgw ?_ (by first | (simp; done) | (simp; omega) | omega) _ | refine Below.setCell ?_ (by first | exact Nat.le_of_not_lt (by assumption) | (simp; done) | (simp; omega) | omega) _ | refine Below.alloc ?_ (by first | (simp; done) | (simp; omega) | omega) _ | refine Below.drew ?_)))) ?_; rintro e w1 ⟨rfl, q, rfl⟩)
    exact bodyPost_ret (v := .tuple #[.string (strOfNums []), .int .i64 0, .int .i64 e]) (by simp [results, Try.results22, go_sem, strOfNums]) rfl ⟨rfl, (by repeat (first | with_reducible exact Below.refl _ _ | with_reducible assumption | refine bgw ?_ (by first | (simp; done) | (simp; omega) | omega) _ | refine Below.setCell ?_ (by first | exact Nat.le_of_not_lt (by assumption) | (simp; done) | (simp; omega) | omega) _ | refine Below.alloc ?_ (by first | (simp; done) | (simp; omega) | omega) _ | refine Below.drew ?_))⟩
  subst he
  rw [if_neg (by simp)]
  obtain ⟨t0, t1, n0, n1⟩ := hin rfl
  clear hin
  by_cases hs : (bs.length : Int) - to < n
  focus
    rw [if_pos hs]
    go_enter Try.func22, Try.ntmps22
    go_wp2_with (go_at_call 34; refine Calls.mono (gw_at (cL _ (by repeat (first | with_reducible exact Below.refl _ _ | with_reducible assumption | refine bgw ?_ (by first | (simp; done) | (simp; omega) | omega) _ | refine Below.setCell ?_ (by first | exact Nat.le_of_not_lt (by assumption) | (simp; done) | (simp; omega) | omega) _ | refine Below.alloc ?_ (by first | (simp; done) | (simp; omega) | omega) _ | refine Below.drew ?_)))) ?_; rintro e w1 ⟨rfl, q, rfl⟩)
    exact bodyPost_ret (v := .tuple #[.string (strOfNums []), .int .i64 0, .int .i64 4]) (by simp [results, Try.results22, go_sem, strOfNums]) rfl ⟨rfl, (by repeat (first | with_reducible exact Below.refl _ _ | with_reducible assumption | refine bgw ?_ (by first | (simp; done) | (simp; omega) | omega) _ | refine Below.setCell ?_ (by first | exact Nat.le_of_not_lt (by assumption) | (simp; done) | (simp; omega) | omega) _ | refine Below.alloc ?_ (by first | (simp; done) | (simp; omega) | omega) _ | refine Below.drew ?_))⟩
  rw [if_neg hs]
  obtain ⟨T, rfl⟩ : ∃ T : Nat, to = T := ⟨to.toNat, by omega⟩
  obtain ⟨m, rfl⟩ : ∃ m : Nat, n = m := ⟨n.toNat, by omega⟩
  simp only [Int.toNat_natCast]
  have hml : ((bs.drop T).take m).length = m := by rw [List.length_take, List.length_drop]; omega
  by_cases hcT : cap = T
  focus
    have hm0 : m = 0 := by omega
    subst hm0 hcT
    have hcv : ∀ q, (convert 22 9 (.slice A 0 0)).run Try.prog (gw w q) = .ok (.string (strOfNums ((bs.drop cap).take 0))) (gw w q) := fun q => str_run Try.underlying22 Try.underlying5 Try.underlying9 (by simp) (show Byts w A ((bs.drop cap).take 0) from by rw [List.take_zero]; exact .inl rfl) (below_gw w q)
    generalize strOfNums ((bs.drop cap).take 0) = str at *
    go_enter Try.func22, Try.ntmps22
    go_wp2_with (go_at_call 34; refine Calls.mono (gw_at (cL _ (by repeat (first | with_reducible exact Below.refl _ _ | with_reducible assumption | refine bgw ?_ (by first | (simp; done) | (simp; omega) | omega) _ | refine Below.setCell ?_ (by first | exact Nat.le_of_not_lt (by assumption) | (simp; done) | (simp; omega) | omega) _ | refine Below.alloc ?_ (by first | (simp; done) | (simp; omega) | omega) _ | refine Below.drew ?_)))) ?_; rintro e w1 ⟨rfl, q, rfl⟩)
    exact bodyPost_ret (v := .tuple #[.string str, .int .i64 (((cap : Nat) : Int) + ((0 : Nat) : Int)), .int .i64 0]) (by simp [results, Try.results22, go_sem]) rfl ⟨rfl, (by repeat (first | with_reducible exact Below.refl _ _ | with_reducible assumption | refine bgw ?_ (by first | (simp; done) | (simp; omega) | omega) _ | refine Below.setCell ?_ (by first | exact Nat.le_of_not_lt (by assumption) | (simp; done) | (simp; omega) | omega) _ | refine Below.alloc ?_ (by first | (simp; done) | (simp; omega) | omega) _ | refine Below.drew ?_))⟩
  have hcv : ∀ q, (convert 22 9 (.slice (A.map (fun x => x.add T)) m (cap - T))).run Try.prog (gw w q) = .ok (.string (strOfNums ((bs.drop T).take m))) (gw w q) := fun q => str_run Try.underlying22 Try.underlying5 Try.underlying9 hml (Byts.take m (Byts.drop T hp)) (below_gw w q)
  generalize strOfNums ((bs.drop T).take m) = str at *
  go_enter Try.func22, Try.ntmps22
  go_wp2_with (go_at_call 34; refine Calls.mono (gw_at (cL _ (by repeat (first | with_reducible exact Below.refl _ _ | with_reducible assumption | refine bgw ?_ (by first | (simp; done) | (simp; omega) | omega) _ | refine Below.setCell ?_ (by first | exact Nat.le_of_not_lt (by assumption) | (simp; done) | (simp; omega) | omega) _ | refine Below.alloc ?_ (by first | (simp; done) | (simp; omega) | omega) _ | refine Below.drew ?_)))) ?_; rintro e w1 ⟨rfl, q, rfl⟩)
  exact bodyPost_ret (v := .tuple #[.string str, .int .i64 ((T : Int) + (m : Int)), .int .i64 0]) (by simp [results, Try.results22, go_sem]) rfl ⟨rfl, (by repeat (first | with_reducible exact Below.refl _ _ | with_reducible assumption | refine bgw ?_ (by first | (simp; done) | (simp; omega) | omega) _ | refine Below.setCell ?_ (by first | exact Nat.le_of_not_lt (by assumption) | (simp; done) | (simp; omega) | omega) _ | refine Below.alloc ?_ (by first | (simp; done) | (simp; omega) | omega) _ | refine Below.drew ?_))⟩

theorem rais_b (A B : Option Addr) (cap cb : Nat) (bs ns : List Int) (hl : bs.length ≤ 1000000000) (hn : ns.length ≤ 1000000) (hA : A = none → cap = 0) (hr : ∀ n ∈ ns, -9223372036854775808 ≤ n ∧ n ≤ 9223372036854775807) (w : World) (hp : Byts w A bs) (hq : Ints w B ns) : Calls Try.prog 28 #[.slice A bs.length cap, .slice B ns.length cb] w fun e w' => (∃ v, e = .returned v ∧ w'.ownsRow w.heap.size 5 1 v (bs.length + (encInts ns).length) (yv (bs ++ encInts ns))) ∧ Below w.heap.size w w' := by
  obtain ⟨i0, hi, hz0, hz1, hz2⟩ := info_parts info_u8
  have h9 := enc_le (n := (ns.length : Int)) (by omega) (by omega)
  have cA : ∀ w', Below w.heap.size w w' → Calls Try.prog 35 #[.slice A bs.length cap, .int .i64 ns.length] w' fun e w'' => (∃ v, e = .returned v ∧ w''.ownsRow w'.heap.size 5 1 v (bs.length + (enc (ns.length : Int)).length) (yv (bs ++ enc (ns.length : Int)))) ∧ Below w'.heap.size w' w'' := fun w' hb => rai_g A cap bs.length bs ns.length w w' hp hb rfl (by omega) (by omega) (by omega) hA
  have hE : Hid (encInts ns = enc (ns.length : Int) ++ encAll ns) := by show _ = _; rfl
  go_enter Try.func28, Try.ntmps28
  go_wp2_with (first
    | (go_at_call 35; refine Calls.mono (gw_ex (cA _ (by repeat (first | with_reducible exact Below.refl _ _ | with_reducible assumption | refine bgw ?_ (by first | (simp; done) | (simp; omega) | omega) _ | refine Below.setCell ?_ (by first | exact Nat.le_of_not_lt (by assumption) | (simp; done) | (simp; omega) | omega) _ | refine Below.alloc ?_ (by first | (simp; done) | (simp; omega) | omega) _ | refine Below.drew ?_)))) ?_; rintro e w1 ⟨⟨v', rfl, hown⟩, q, rfl⟩))
  go_loopw [5, 6] (fun v i wr => ∃ k : Nat, k ≤ ns.length ∧ i = .int .i64 k ∧ wr.ownsRow w.heap.size 5 1 v (bs.length + (enc (ns.length : Int) ++ encAll (ns.take k)).length) (yv (bs ++ (enc (ns.length : Int) ++ encAll (ns.take k)))) ∧ Below w.heap.size w wr)
    (fun _ i _ => (ns.length - intOf i).toNat)
  case atStart => exact ⟨0, by omega, rfl, by simpa [encAll] using hown, (by repeat (first | with_reducible exact Below.refl _ _ | with_reducible assumption | refine bgw ?_ (by first | (simp; done) | (simp; omega) | omega) _ | refine Below.setCell ?_ (by first | exact Nat.le_of_not_lt (by assumption) | (simp; done) | (simp; omega) | omega) _ | refine Below.alloc ?_ (by first | (simp; done) | (simp; omega) | omega) _ | refine Below.drew ?_))⟩
  case round =>
    obtain ⟨k, hk, rfl, hown, hbw⟩ := hrel
    have hsz := hbw.size
    by_cases hlt : k < ns.length
    · have j0 : (0 : Int) ≤ (k : Int) := by omega
      have i1 : (k : Int) < (ns.length : Int) := by omega
      obtain ⟨b, off, rfl, hce⟩ := Ints.open (hq.to hbw) (by omega)
      have d1 := hce k hlt
      have o1 := older_of_cell d1
      have hx := hr _ (List.getElem_mem hlt)
      have hsucc := encAll_succ hlt
      have hal := encAll_le (ns.take k) fun n hn => hr n (List.mem_of_mem_take hn)
      have htl : (ns.take k).length ≤ k := List.length_take_le _ _
      clear hce
      generalize ns[k] = x at *
      have h9x := enc_le hx.1 hx.2
      have cX : ∀ w', Calls Try.prog 35 #[.slice none 0 0, .int .i64 x] w' fun e w'' => (∃ v, e = .returned v ∧ w''.ownsRow w'.heap.size 5 1 v (enc x).length (yv (enc x))) ∧ Below w'.heap.size w' w'' := fun w' => by
        have := rai_b none 0 [] x (by simp) hx.1 hx.2 (fun _ => rfl) w' (Cs.nil w' none)
        simpa using this
      go_wp2_with (first
        | (go_at_call 35; refine Calls.mono (gw_ex (cX _)) ?_; rintro e w1 ⟨⟨v', rfl, hown1⟩, q, rfl⟩; obtain ⟨A', cap', rfl, hle, hmx, hnil, hcs⟩ := owns_sl hown1)
        | (at_builtin; refine wpList_appN rfl (.tmp 17) (.tmp 22) 22 rfl w.heap.size 5 i0 (.int .u8 0) 1 Try.underlying22 hi hz0 hz1 hz2 rfl _ _ _ rfl (owns_below hown (by repeat (first | with_reducible exact Below.refl _ _ | with_reducible assumption | refine bgw ?_ (by first | (simp; done) | (simp; omega) | omega) _ | refine Below.setCell ?_ (by first | exact Nat.le_of_not_lt (by assumption) | (simp; done) | (simp; omega) | omega) _ | refine Below.alloc ?_ (by first | (simp; done) | (simp; omega) | omega) _ | refine Below.drew ?_))) _ _ _ (yv (enc x)) rfl hnil (by simp) hcs (yv_one _) (by unfold maxLen; simp only [List.length_append]; omega) (by simp only [List.length_append]; omega) (by first | (simp; done) | (simp; omega) | omega) ?_; intro v3 w3 hown3 hb3; have hs3 := hb3.size; try simp at hs3))
      refine ⟨⟨k + 1, by omega, by go_num, ?_, Below.trans (by repeat (first | with_reducible exact Below.refl _ _ | with_reducible assumption | refine bgw ?_ (by first | (simp; done) | (simp; omega) | omega) _ | refine Below.setCell ?_ (by first | exact Nat.le_of_not_lt (by assumption) | (simp; done) | (simp; omega) | omega) _ | refine Below.alloc ?_ (by first | (simp; done) | (simp; omega) | omega) _ | refine Below.drew ?_)) hb3⟩, by (try go_num); simp [intOf]; (try omega)⟩
      rw [hsucc, ← List.append_assoc (enc _), ← List.append_assoc bs, yv_append, List.length_append (bs := enc x), ← Nat.add_assoc]
      exact hown3
    · obtain rfl : k = ns.length := by omega
      have i1 : ¬ (ns.length : Int) < (ns.length : Int) := by omega
      rw [List.take_length, ← hE.out] at hown
      go_wp2_with (first | (go_at_call 35; refine Calls.mono (gw_ex (rai_g _ _ _ _ _ _ _ (by with_reducible assumption) (by repeat (first | with_reducible exact Below.refl _ _ | with_reducible assumption | refine bgw ?_ (by first | (simp; done) | (simp; omega) | omega) _ | refine Below.setCell ?_ (by first | exact Nat.le_of_not_lt (by assumption) | (simp; done) | (simp; omega) | omega) _ | refine Below.alloc ?_ (by first | (simp; done) | (simp; omega) | omega) _ | refine Below.drew ?_)) (by simp) (by omega) (by omega) (by omega) (by with_reducible assumption))) ?_; rintro e w1 ⟨⟨v', rfl, hown⟩, q, rfl⟩; obtain ⟨A', cap', rfl, hle, hmx, hnil, hcs⟩ := owns_sl hown))
      go_ret
      exact ⟨⟨_, rfl, hown⟩, hbw⟩

set_option maxHeartbeats 1000000 in
theorem rris_b (A : Option Addr) (cap : Nat) (bs : List Int) (p most : Int) (hB : isB bs) (hl : bs.length ≤ 1073741824) (w : World) (hp : Byts w A bs) : Calls Try.prog 27 #[.slice A bs.length cap, .int .i64 p, .int .i64 most] w fun e w' => (∃ v, e = .returned (.tuple #[v, .int .i64 (rdInts bs p most).2.1, .int .i64 (rdInts bs p most).2.2]) ∧ w'.ownsRow w.heap.size 3 1 v (rdInts bs p most).1.length (iv (rdInts bs p most).1)) ∧ Below w.heap.size w w' := by
  have cL : ∀ w', Below w.heap.size w w' → Calls Try.prog 34 #[.slice A bs.length cap, .int .i64 p, .int .i64 most] w' fun e w'' => e = .returned (.tuple #[.int .i64 (rdLen bs p most).1, .int .i64 (rdLen bs p most).2.1, .int .i64 (rdLen bs p most).2.2]) ∧ Below w'.heap.size w' w'' := fun w' hb => rlen_b A cap bs p most hB hl w' (Cs.to hp hb)
  have cI : ∀ (p : Int) w', Below w.heap.size w w' → Calls Try.prog 24 #[.slice A bs.length cap, .int .i64 p] w' fun e w'' => e = .returned (.tuple #[.int .i64 (rdInt bs p).1, .int .i64 (rdInt bs p).2.1, .int .i64 (rdInt bs p).2.2]) ∧ Below w'.heap.size w' w'' := fun p w' hb => rri_b A cap bs p hB hl w' (Cs.to hp hb)
  have hin := @rdLen_in bs p most (rdLen bs p most).1 (rdLen bs p most).2.1 hB
  obtain ⟨R, hR⟩ : ∃ R, rdInts bs p most = R := ⟨_, rfl⟩
  rw [hR]
  unfold rdInts at hR
  generalize rdLen bs p most = r at *
  obtain ⟨n, to, e⟩ := r
  dsimp only at cL hin hR
  obtain ⟨i0, hi, hz0, hz1, hz2⟩ := info_parts info_i64'
  by_cases he : e = 0
  rotate_left
  focus
    rw [if_pos he] at hR
    subst hR
    have heb : (e == 0) = false := by rw [beq_eq_false_iff_ne]; exact he
    clear he hin
    go_enter Try.func27, Try.ntmps27
    go_wp2_with (go_at_call 34; refine Calls.mono (gw_at (cL _ (by repeat (first | with_reducible exact Below.refl _ _ | with_reducible assumption | refine bgw ?_ (by first | (simp; done) | (simp; omega) | omega) _ | refine Below.setCell ?_ (by first | exact Nat.le_of_not_lt (by assumption) | (simp; done) | (simp; omega) | omega) _ | refine Below.alloc ?_ (by first | (simp; done) | (simp; omega) | omega) _ | refine Below.drew ?_)))) ?_; rintro e w1 ⟨rfl, q, rfl⟩)
    exact bodyPost_ret (v := .tuple #[.slice none 0 0, .int .i64 0, .int .i64 e]) (by simp [results, Try.results27, go_sem]) rfl ⟨⟨_, rfl, owns_nil _ _ _⟩, (by repeat (first | with_reducible exact Below.refl _ _ | with_reducible assumption | refine bgw ?_ (by first | (simp; done) | (simp; omega) | omega) _ | refine Below.setCell ?_ (by first | exact Nat.le_of_not_lt (by assumption) | (simp; done) | (simp; omega) | omega) _ | refine Below.alloc ?_ (by first | (simp; done) | (simp; omega) | omega) _ | refine Below.drew ?_))⟩
  subst he
  rw [if_neg (by simp)] at hR
  obtain ⟨t0, t1, n0, n1⟩ := hin rfl
  clear hin
  obtain ⟨m, rfl⟩ : ∃ m : Nat, n = m := ⟨n.toNat, by omega⟩
  rw [Int.toNat_natCast] at hR
  have hR' : Hid (rdN bs m to [] = R) := hR
  clear hR
  go_enter Try.func27, Try.ntmps27
  go_wp2_with (go_at_call 34; refine Calls.mono (gw_at (cL _ (by repeat (first | with_reducible exact Below.refl _ _ | with_reducible assumption | refine bgw ?_ (by first | (simp; done) | (simp; omega) | omega) _ | refine Below.setCell ?_ (by first | exact Nat.le_of_not_lt (by assumption) | (simp; done) | (simp; omega) | omega) _ | refine Below.alloc ?_ (by first | (simp; done) | (simp; omega) | omega) _ | refine Below.drew ?_)))) ?_; rintro e w1 ⟨rfl, q, rfl⟩)
  go_loopw [10, 12, 13] (fun tv v i wr => ∃ (k : Nat) (acc : List Int) (t : Int), k ≤ m ∧ i = .int .i64 k ∧ tv = .int .i64 t ∧ (k : Int) ≤ t ∧ t ≤ bs.length ∧ wr.ownsRow w.heap.size 3 1 v k (iv acc) ∧ Hid (rdN bs (m - k) t acc = R) ∧ Below w.heap.size w wr)
    (fun _ _ i _ => (m - intOf i).toNat)
  case atStart => exact ⟨0, [], to, by omega, rfl, rfl, by omega, by omega, owns_nil _ _ _, hR', (by repeat (first | with_reducible exact Below.refl _ _ | with_reducible assumption | refine bgw ?_ (by first | (simp; done) | (simp; omega) | omega) _ | refine Below.setCell ?_ (by first | exact Nat.le_of_not_lt (by assumption) | (simp; done) | (simp; omega) | omega) _ | refine Below.alloc ?_ (by first | (simp; done) | (simp; omega) | omega) _ | refine Below.drew ?_))⟩
  case round =>
    obtain ⟨k, acc, t, hk, rfl, rfl, hkt, htl, hown, hrel, hbw⟩ := hrel
    have hsz := hbw.size
    have hacc : acc.length = k := by have := hown.1; simpa using this
    by_cases hlt : k < m
    · have i1 : (k : Int) < (m : Int) := by omega
      have hI := cI t
      have hrd := hrel.out
      rw [show m - k = (m - (k + 1)) + 1 from by omega, rdN] at hrd
      have hu := @rd_unique bs t (rdInt bs t).1 (rdInt bs t).2.1 hB
      generalize rdInt bs t = r at *
      obtain ⟨x, nx, f⟩ := r
      dsimp only at hI hrd hu
      by_cases hf : f = 0
      rotate_left
      focus
        rw [if_pos hf] at hrd
        subst hrd
        have hfb : (f == 0) = false := by rw [beq_eq_false_iff_ne]; exact hf
        clear hf hu hrel cI
        go_wp2_with (go_at_call 24; refine Calls.mono (gw_at (hI _ (by repeat (first | with_reducible exact Below.refl _ _ | with_reducible assumption | refine bgw ?_ (by first | (simp; done) | (simp; omega) | omega) _ | refine Below.setCell ?_ (by first | exact Nat.le_of_not_lt (by assumption) | (simp; done) | (simp; omega) | omega) _ | refine Below.alloc ?_ (by first | (simp; done) | (simp; omega) | omega) _ | refine Below.drew ?_)))) ?_; rintro e w1 ⟨rfl, q, rfl⟩)
        exact bodyPost_ret (v := .tuple #[.slice none 0 0, .int .i64 0, .int .i64 f]) (by simp [results, Try.results27, go_sem]) rfl ⟨⟨_, rfl, owns_nil _ _ _⟩, (by repeat (first | with_reducible exact Below.refl _ _ | with_reducible assumption | refine bgw ?_ (by first | (simp; done) | (simp; omega) | omega) _ | refine Below.setCell ?_ (by first | exact Nat.le_of_not_lt (by assumption) | (simp; done) | (simp; omega) | omega) _ | refine Below.alloc ?_ (by first | (simp; done) | (simp; omega) | omega) _ | refine Below.drew ?_))⟩
      subst hf
      rw [if_neg (by simp)] at hrd
      obtain ⟨u1, u2, u3, -⟩ := hu rfl
      have hrd' : Hid (rdN bs (m - (k + 1)) nx (acc ++ [x]) = R) := hrd
      clear hrd hu hrel cI hacc
      go_wp2_with (first
        | (go_at_call 24; refine Calls.mono (gw_at (hI _ (by repeat (first | with_reducible exact Below.refl _ _ | with_reducible assumption | refine bgw ?_ (by first | (simp; done) | (simp; omega) | omega) _ | refine Below.setCell ?_ (by first | exact Nat.le_of_not_lt (by assumption) | (simp; done) | (simp; omega) | omega) _ | refine Below.alloc ?_ (by first | (simp; done) | (simp; omega) | omega) _ | refine Below.drew ?_)))) ?_; rintro e w1 ⟨rfl, q, rfl⟩)
        | (at_builtin; refine wpList_app1 rfl _ _ 23 rfl w.heap.size 3 i0 (.int .i64 0) 8 Try.underlying23 hi hz0 hz1 hz2 rfl _ _ _ rfl (owns_below hown (by repeat (first | with_reducible exact Below.refl _ _ | with_reducible assumption | refine bgw ?_ (by first | (simp; done) | (simp; omega) | omega) _ | refine Below.setCell ?_ (by first | exact Nat.le_of_not_lt (by assumption) | (simp; done) | (simp; omega) | omega) _ | refine Below.alloc ?_ (by first | (simp; done) | (simp; omega) | omega) _ | refine Below.drew ?_))) _ (.int .i64 x) rfl (blk_cell (c := #[.int .i64 x]) (by repeat (first | with_reducible exact blk_new _ _ _ | ((with_reducible refine blk_at ?_); (simp; done)) | with_reducible apply blk_alloc | with_reducible apply blk_gw)) 0) rfl (by unfold maxLen; omega) (by omega) (by first | (simp; omega) | omega) ?_; intro v' w2 hown2 hb2))
      refine ⟨⟨k + 1, acc ++ [x], nx, by omega, by go_num, rfl, by omega, by omega, by rw [iv_append]; exact hown2, hrd', Below.trans (by repeat (first | with_reducible exact Below.refl _ _ | with_reducible assumption | refine bgw ?_ (by first | (simp; done) | (simp; omega) | omega) _ | refine Below.setCell ?_ (by first | exact Nat.le_of_not_lt (by assumption) | (simp; done) | (simp; omega) | omega) _ | refine Below.alloc ?_ (by first | (simp; done) | (simp; omega) | omega) _ | refine Below.drew ?_)) hb2⟩, by (try go_num); simp [intOf]; (try omega)⟩
    · obtain rfl : k = m := by omega
      have i1 : ¬ (k : Int) < (k : Int) := by omega
      have hrd := hrel.out
      rw [Nat.sub_self, rdN] at hrd
      subst hrd
      clear hrel
      subst hacc
      go_wp2_with fail
      exact bodyPost_ret (v := .tuple #[_, .int .i64 t, .int .i64 0]) (by simp [results, Try.results27, go_sem]) rfl ⟨⟨_, rfl, owns_below hown (by repeat (first | with_reducible exact Below.refl _ _ | with_reducible assumption | refine bgw ?_ (by first | (simp; done) | (simp; omega) | omega) _ | refine Below.setCell ?_ (by first | exact Nat.le_of_not_lt (by assumption) | (simp; done) | (simp; omega) | omega) _ | refine Below.alloc ?_ (by first | (simp; done) | (simp; omega) | omega) _ | refine Below.drew ?_))⟩, (by repeat (first | with_reducible exact Below.refl _ _ | with_reducible assumption | refine bgw ?_ (by first | (simp; done) | (simp; omega) | omega) _ | refine Below.setCell ?_ (by first | exact Nat.le_of_not_lt (by assumption) | (simp; done) | (simp; omega) | omega) _ | refine Below.alloc ?_ (by first | (simp; done) | (simp; omega) | omega) _ | refine Below.drew ?_))⟩

end Go.Proofs.Ytgpcldhgkaddeaa
