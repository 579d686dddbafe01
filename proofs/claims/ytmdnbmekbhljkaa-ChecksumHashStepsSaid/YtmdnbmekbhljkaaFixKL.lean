/- The contract of chapter 9's examples, and the walks of its statements of hashes and of opening: each returns true for every input, and nothing that existed has changed. No conditions. -/
import Derived.Test.YtmdnbmekbhljkaaFixKV
import Derived.Test.YtmdnbmekbhljkaaOp
import Derived.Lib.SlBytesConst
import Derived.Deep.DeepCutAuto
set_option linter.unusedVariables false
namespace Go.Proofs.Ytmdnbmekbhljkaa
open Go.RowKit Ck

/-- What an own row of bytes is as a slice, and as a string in every later world. -/
theorem row_bytes {w : World} {B n : Nat} {v : Value} {bs : List Int} (h : w.ownsRow B 5 1 v n (yv bs)) : ∃ A cap, v = .slice A n cap ∧ bs.length = n ∧ n ≤ cap ∧ cap ≤ maxLen ∧ (A = none → cap = 0) ∧ Byts w A bs := by
  have hl : bs.length = n := by have := h.1; simpa using this
  obtain ⟨A, cap, rfl, h1, h2, h3, h4⟩ := owns_sl h
  exact ⟨A, cap, rfl, hl, h1, h2, h3, h4⟩
theorem seal_row {A : Option Addr} {cap L : Nat} {w : World} {bs : List Int} {f : FuncId} (h : Calls Try.prog f #[.slice A L cap] w fun e w' => (∃ v, e = .returned v ∧ w'.ownsRow w.heap.size 5 1 v (L + 4) (yv (sea bs))) ∧ Below w.heap.size w w') :
    Calls Try.prog f #[.slice A L cap] w fun e w' => (∃ A' cap', e = .returned (.slice A' (L + 4) cap') ∧ L + 4 ≤ cap' ∧ cap' ≤ maxLen ∧ (A' = none → cap' = 0) ∧ Byts w' A' (sea bs)) ∧ Below w.heap.size w w' := by
  refine Calls.mono h ?_
  rintro e w' ⟨⟨v, rfl, hown⟩, hb⟩
  obtain ⟨A', cap', rfl, -, h1, h2, h3, h4⟩ := row_bytes hown
  exact ⟨⟨A', cap', rfl, h1, h2, h3, h4⟩, hb⟩
theorem open_row {A : Option Addr} {cap L : Nat} {w : World} {r : List Int × Int} {f : FuncId} (h : Calls Try.prog f #[.slice A L cap] w fun e w' => (∃ v, e = .returned (.tuple #[v, .int .i64 r.2]) ∧ w'.ownsRow w.heap.size 5 1 v r.1.length (yv r.1)) ∧ Below w.heap.size w w') :
    Calls Try.prog f #[.slice A L cap] w fun e w' => (∃ A' cap', e = .returned (.tuple #[.slice A' r.1.length cap', .int .i64 r.2]) ∧ r.1.length ≤ cap' ∧ cap' ≤ maxLen ∧ (A' = none → cap' = 0) ∧ Byts w' A' r.1) ∧ Below w.heap.size w w' := by
  refine Calls.mono h ?_
  rintro e w' ⟨⟨v, rfl, hown⟩, hb⟩
  obtain ⟨A', cap', rfl, -, h1, h2, h3, h4⟩ := row_bytes hown
  exact ⟨⟨A', cap', rfl, h1, h2, h3, h4⟩, hb⟩

theorem ex9a_b (b : Nat) (t : TypeId) (w : World) (h : blk w b #[.int .u8 7] t) : Calls Try.prog 10 #[.slice (some ⟨b, 0, none⟩) 1 1] w fun e w' => (∃ A' cap', e = .returned (.slice A' 5 cap') ∧ 5 ≤ cap' ∧ cap' ≤ maxLen ∧ (A' = none → cap' = 0) ∧ Byts w' A' (sea [7])) ∧ Below w.heap.size w w' :=
  seal_row (xsea_b (some ⟨b, 0, none⟩) 1 [7] 1 rfl (by intro x hx; simp at hx; omega) (by omega) (by omega) (fun h => by cases h) w (Cs.of_list (xs := [.int .u8 7]) h))

theorem ex9b_b (A : Option Addr) (cap : Nat) (w : World) (h1 : 5 ≤ cap) (h3 : A = none → cap = 0) (hb : Byts w A (sea [7])) : Calls Try.prog 11 #[.slice A 5 cap] w fun e w' => (∃ b cap', e = .returned (.tuple #[.slice (some b) 1 cap', .int .i64 0]) ∧ 1 ≤ cap' ∧ w'.cell? b = some (.int .u8 7)) ∧ Below w.heap.size w w' := by
  have h := open_row (xopn_b A cap (sea [7]) 5 rfl (sea_isB (by intro x hx; simp at hx; omega)) (by omega) h1 h3 w hb)
  rw [opn_sea] at h
  refine Calls.mono h ?_
  rintro e w' ⟨⟨A', cap', rfl, k1, k2, k3, k4⟩, hb'⟩
  obtain ⟨b, off, rfl, hc⟩ := Byts.open k4 (by decide)
  exact ⟨⟨⟨b, off, none⟩, cap', rfl, k1, hc 0 (by decide)⟩, hb'⟩

theorem crc9 : crc [49, 50, 51, 52, 53, 54, 55, 56, 57] = 3808858755 := by decide +kernel
theorem cs_mark (W : World) (xs : List Value) (t : TypeId) (fr : Nat × Nat) : Cs (W.alloc (.cells xs.toArray t fr)) (some ⟨W.heap.size, 0, none⟩) xs :=
  .inr ⟨W.heap.size, 0, rfl, fun i hi => by rw [Nat.zero_add, World.cell?_alloc_mark]; simp [hi]⟩
theorem ex9c_b (A : Option Addr) (w : World) (h : Byts w A [49, 50, 51, 52, 53, 54, 55, 56, 57]) : Calls Try.prog 16 #[.slice A 9 9] w fun e w' => e = .returned (.int .u32 3808858755) ∧ Below w.heap.size w w' := by
  have := xcrc_b A 9 [49, 50, 51, 52, 53, 54, 55, 56, 57] 9 rfl (by intro x hx; simp at hx; omega) (by omega) w h
  rw [crc9] at this
  exact this

theorem ex9d_b (w : World) : Calls Try.prog 14 #[.slice none 0 0] w fun e w' => e = .returned (.int .u64 0) ∧ Below w.heap.size w w' := by
  have := xhash_b none 0 [] 0 rfl (by omega) w (.inl rfl)
  exact this

theorem example9_b (w : World) : Calls Try.prog 9 #[] w fun e w' => e = .returned (.bool true) ∧ Below w.heap.size w w' := by
  go_enter Try.func9, Try.ntmps9
  go_upto_region 2 with (first
    | (go_at_call 10; refine Calls.mono (gw_ex (ex9a_b _ _ _ (by repeat (first | with_reducible exact blk_new _ _ _ | ((with_reducible refine blk_at ?_); (simp; done)) | with_reducible apply blk_alloc | with_reducible apply blk_gw | with_reducible apply blk_drew)))) ?_; rintro e w1 ⟨⟨A', cap', rfl, h1, h2, h3, h4⟩, q, rfl⟩)
    | (go_at_call 11; refine Calls.mono (gw_ex (ex9b_b _ _ _ h1 h3 (Cs.to h4 (by repeat (first | with_reducible exact Below.refl _ _ | with_reducible assumption | refine bgw ?_ (by first | (simp; done) | (simp; omega) | omega) _ | refine Below.setCell ?_ (by first | exact Nat.le_of_not_lt (by assumption) | (simp; done) | (simp; omega) | omega) _ | refine Below.alloc ?_ (by first | (simp; done) | (simp; omega) | omega) _ | refine Below.drew ?_))))) ?_; rintro e w1 ⟨⟨⟨b9, o9, s9⟩, c9, rfl, k1, k2⟩, q, rfl⟩; have o1 := older_of_cell k2))
  refine wp_named ?_
  intro W hW
  have hb : Below w.heap.size w W := by rw [hW]; exact (by repeat (first | with_reducible exact Below.refl _ _ | with_reducible assumption | refine bgw ?_ (by first | (simp; done) | (simp; omega) | omega) _ | refine Below.setCell ?_ (by first | exact Nat.le_of_not_lt (by assumption) | (simp; done) | (simp; omega) | omega) _ | refine Below.alloc ?_ (by first | (simp; done) | (simp; omega) | omega) _ | refine Below.drew ?_))
  rw [← hW] at k2 o1
  have hszW := hb.size
  clear hW h4
  have hcv := Lib.run_convert_bytes_const (P := Try.prog) W 22 5 #[.int .u8 49, .int .u8 50, .int .u8 51, .int .u8 52, .int .u8 53, .int .u8 54, .int .u8 55, .int .u8 56, .int .u8 57] 9 9 Try.underlying22 Try.underlying5
  have hcs := cs_mark W [.int .u8 49, .int .u8 50, .int .u8 51, .int .u8 52, .int .u8 53, .int .u8 54, .int .u8 55, .int .u8 56, .int .u8 57] 5 (9, 10)
  go_wp2_with (first
    | (go_at_call 16; refine Calls.mono (gw_at (ex9c_b _ _ (Cs.to hcs (by repeat (first | with_reducible exact Below.refl _ _ | with_reducible assumption | refine bgw ?_ (by first | (simp; done) | (simp; omega) | omega) _ | refine Below.setCell ?_ (by first | exact Nat.le_of_not_lt (by assumption) | (simp; done) | (simp; omega) | omega) _ | refine Below.alloc ?_ (by first | (simp; done) | (simp; omega) | omega) _ | refine Below.drew ?_))))) ?_; rintro e w1 ⟨rfl, q, rfl⟩)
    | (go_at_call 14; refine Calls.mono (gw_at (ex9d_b _)) ?_; rintro e w1 ⟨rfl, q, rfl⟩))
  go_ret
  exact ⟨rfl, (by repeat (first | with_reducible exact Below.refl _ _ | with_reducible assumption | refine bgw ?_ (by first | (simp; done) | (simp; omega) | omega) _ | refine Below.setCell ?_ (by first | exact Nat.le_of_not_lt (by assumption) | (simp; done) | (simp; omega) | omega) _ | refine Below.alloc ?_ (by first | (simp; done) | (simp; omega) | omega) _ | refine Below.drew ?_))⟩

theorem walk_ChecksumHashSteps (A : Option Addr) (cap : Nat) (ns : List Int) (w : World) (hp : Ints w A ns) (hl : ns.length ≤ cap) (hc : cap ≤ maxLen) : Calls Try.prog 8 #[.slice A ns.length cap] w fun e w' => e = .returned (.bool true) ∧ Below w.heap.size w w' := by
  by_cases h1 : 60 < ns.length
  focus
    have h1' : (60 : Int) < (ns.length : Int) := by omega
    go_enter Try.func8, Try.ntmps8
    go_wp2_with (go_at_call 9; refine Calls.mono (gw_at (example9_b _)) ?_; rintro e w1 ⟨rfl, q, rfl⟩)
    go_ret
    exact ⟨rfl, (by repeat (first | with_reducible exact Below.refl _ _ | with_reducible assumption | refine bgw ?_ (by first | (simp; done) | (simp; omega) | omega) _ | refine Below.setCell ?_ (by first | exact Nat.le_of_not_lt (by assumption) | (simp; done) | (simp; omega) | omega) _ | refine Below.alloc ?_ (by first | (simp; done) | (simp; omega) | omega) _ | refine Below.drew ?_))⟩
  have h1' : ¬ (60 : Int) < (ns.length : Int) := by omega
  have hend : (ns.take ns.length).foldl mx ns.length = hsh ns := by rw [List.take_length]; rfl
  obtain ⟨F, hF⟩ : ∃ F : Nat → Nat, ∀ k, (ns.take k).foldl mx ns.length = F k := ⟨_, fun _ => rfl⟩
  have hF0 : F 0 = ns.length := by rw [← hF]; rfl
  have hF1 : ∀ k (h : k < ns.length), F (k + 1) = mx (F k) ns[k] := fun k h => by rw [← hF, ← hF, hsh_take h]
  have hFl : ∀ k, F k < 18446744073709551616 := fun k => by rw [← hF]; exact fold_lt _ (by omega)
  have cH := fun w' => fun hb : Ints w' A ns => xhash_b A cap ns ns.length rfl (by omega) w' hb
  rw [hF] at hend
  rw [← hend] at cH
  have hwl : IntKind.u64.wrap (ns.length : Int) = (ns.length : Int) := by rw [wrap_u64]; omega
  clear hF hend
  go_enter Try.func8, Try.ntmps8
  go_wp2_with fail
  go_loopw [3, 4] (fun h i wr => ∃ k : Nat, k ≤ ns.length ∧ i = .int .i64 k ∧ h = .int .u64 (F k : Int) ∧ Below w.heap.size w wr)
    (fun _ i _ => (ns.length - intOf i).toNat)
  case atStart => exact ⟨0, by omega, rfl, by rw [hF0], (by repeat (first | with_reducible exact Below.refl _ _ | with_reducible assumption | refine bgw ?_ (by first | (simp; done) | (simp; omega) | omega) _ | refine Below.setCell ?_ (by first | exact Nat.le_of_not_lt (by assumption) | (simp; done) | (simp; omega) | omega) _ | refine Below.alloc ?_ (by first | (simp; done) | (simp; omega) | omega) _ | refine Below.drew ?_))⟩
  case round =>
    obtain ⟨k, hk, rfl, rfl, hbw⟩ := hrel
    have hsz := hbw.size
    by_cases hlt : k < ns.length
    · have i0 : (0 : Int) ≤ (k : Int) := by omega
      have i1 : (k : Int) < (ns.length : Int) := by omega
      obtain ⟨b, off, rfl, hce⟩ := Ints.open (hp.to hbw) (by omega)
      have d1 := hce k hlt
      have o1 := older_of_cell d1
      have hs := hF1 k hlt
      have hc := fun w' => xmix_b (F k) ns[k] (hFl k) w'
      rw [← hs] at hc
      generalize hY : F (k + 1) = Y at *
      generalize F k = X at *
      have hY' : Hid (F (k + 1) = Y) := hY
      clear hce hF1 hFl hF0 hs hY cH
      generalize ns[k] = x at *
      go_wp2_with (go_at_call 12; refine Calls.mono (gw_at (hc _)) ?_; rintro e w1 ⟨rfl, q, rfl⟩)
      exact ⟨⟨k + 1, by omega, by go_num, by rw [hY'.out], (by repeat (first | with_reducible exact Below.refl _ _ | with_reducible assumption | refine bgw ?_ (by first | (simp; done) | (simp; omega) | omega) _ | refine Below.setCell ?_ (by first | exact Nat.le_of_not_lt (by assumption) | (simp; done) | (simp; omega) | omega) _ | refine Below.alloc ?_ (by first | (simp; done) | (simp; omega) | omega) _ | refine Below.drew ?_))⟩, by (try go_num); simp [intOf]; (try omega)⟩
    · obtain rfl : k = ns.length := by omega
      have i1 : ¬ (ns.length : Int) < (ns.length : Int) := by omega
      have hp' : Ints wr A ns := hp.to hbw
      generalize F ns.length = Z at *
      clear hF1 hFl hF0
      go_wp2_with (first
        | (go_at_call 14; refine Calls.mono (gw_at (cH _ (Cs.to hp' (by repeat (first | with_reducible exact Below.refl _ _ | with_reducible assumption | refine bgw ?_ (by first | (simp; done) | (simp; omega) | omega) _ | refine Below.setCell ?_ (by first | exact Nat.le_of_not_lt (by assumption) | (simp; done) | (simp; omega) | omega) _ | refine Below.alloc ?_ (by first | (simp; done) | (simp; omega) | omega) _ | refine Below.drew ?_))))) ?_; rintro e w1 ⟨rfl, q, rfl⟩)
        | (go_at_call 9; refine Calls.mono (gw_at (example9_b _)) ?_; rintro e w1 ⟨rfl, q, rfl⟩))
      go_ret
      exact ⟨rfl, (by repeat (first | with_reducible exact Below.refl _ _ | with_reducible assumption | refine bgw ?_ (by first | (simp; done) | (simp; omega) | omega) _ | refine Below.setCell ?_ (by first | exact Nat.le_of_not_lt (by assumption) | (simp; done) | (simp; omega) | omega) _ | refine Below.alloc ?_ (by first | (simp; done) | (simp; omega) | omega) _ | refine Below.drew ?_))⟩

theorem walk_ChecksumOpenExact (A : Option Addr) (cap : Nat) (bs : List Int) (hB : isB bs) (w : World) (hp : Byts w A bs) (hl : bs.length ≤ cap) (hc : cap ≤ maxLen) (hA : A = none → cap = 0) : Calls Try.prog 5 #[.slice A bs.length cap] w fun e w' => e = .returned (.bool true) ∧ Below w.heap.size w w' := by
  by_cases h1 : 400 < bs.length
  focus
    have h1' : (400 : Int) < (bs.length : Int) := by omega
    go_enter Try.func5, Try.ntmps5
    go_wp2_with (go_at_call 9; refine Calls.mono (gw_at (example9_b _)) ?_; rintro e w1 ⟨rfl, q, rfl⟩)
    go_ret
    exact ⟨rfl, (by repeat (first | with_reducible exact Below.refl _ _ | with_reducible assumption | refine bgw ?_ (by first | (simp; done) | (simp; omega) | omega) _ | refine Below.setCell ?_ (by first | exact Nat.le_of_not_lt (by assumption) | (simp; done) | (simp; omega) | omega) _ | refine Below.alloc ?_ (by first | (simp; done) | (simp; omega) | omega) _ | refine Below.drew ?_))⟩
  have h1' : ¬ (400 : Int) < (bs.length : Int) := by omega
  have c1 := fun w' => fun hb : Byts w' A bs => open_row (xopn_b A cap bs bs.length rfl hB (by omega) hl hA w' hb)
  have c2 := fun w' => fun hb : Byts w' A bs => open_row (ropn_b A cap bs bs.length rfl hB (by omega) hl hA w' hb)
  have hrB : isB (opn bs).1 := by
    unfold opn; split
    · intro x hx; cases hx
    · split
      · exact isB_take hB _
      · intro x hx; cases hx
  generalize opn bs = r at *
  obtain ⟨cs, e⟩ := r
  dsimp only at c1 c2 hrB
  have cE : ∀ (A1 A2 : Option Addr) (k1 k2 : Nat) w', Byts w' A1 cs → Byts w' A2 cs → Calls Try.prog 18 #[.slice A1 cs.length k1, .slice A2 cs.length k2] w' fun e w'' => e = .returned (.bool true) ∧ Below w'.heap.size w' w'' := fun A1 A2 k1 k2 w' s1 s2 => by
    have := req9_b A1 A2 k1 k2 cs cs cs.length cs.length rfl rfl hrB hrB w' s1 s2
    rw [decide_eq_true rfl] at this; exact this
  clear hB hrB h1
  go_enter Try.func5, Try.ntmps5
  go_wp2_with (first
    | (go_at_call 11; refine Calls.mono (gw_ex (c1 _ (Cs.to hp (by repeat (first | with_reducible exact Below.refl _ _ | with_reducible assumption | refine bgw ?_ (by first | (simp; done) | (simp; omega) | omega) _ | refine Below.setCell ?_ (by first | exact Nat.le_of_not_lt (by assumption) | (simp; done) | (simp; omega) | omega) _ | refine Below.alloc ?_ (by first | (simp; done) | (simp; omega) | omega) _ | refine Below.drew ?_))))) ?_; rintro e w1 ⟨⟨A1, k1, rfl, -, -, -, s1⟩, q1, rfl⟩)
    | (go_at_call 20; refine Calls.mono (gw_ex (c2 _ (Cs.to hp (by repeat (first | with_reducible exact Below.refl _ _ | with_reducible assumption | refine bgw ?_ (by first | (simp; done) | (simp; omega) | omega) _ | refine Below.setCell ?_ (by first | exact Nat.le_of_not_lt (by assumption) | (simp; done) | (simp; omega) | omega) _ | refine Below.alloc ?_ (by first | (simp; done) | (simp; omega) | omega) _ | refine Below.drew ?_))))) ?_; rintro e w1 ⟨⟨A2, k2, rfl, -, -, -, s2⟩, q2, rfl⟩)
    | (go_at_call 18; refine Calls.mono (gw_at (cE _ _ _ _ _ (Cs.to s1 (by repeat (first | with_reducible exact Below.refl _ _ | with_reducible assumption | refine bgw ?_ (by first | (simp; done) | (simp; omega) | omega) _ | refine Below.setCell ?_ (by first | exact Nat.le_of_not_lt (by assumption) | (simp; done) | (simp; omega) | omega) _ | refine Below.alloc ?_ (by first | (simp; done) | (simp; omega) | omega) _ | refine Below.drew ?_))) (Cs.to s2 (by repeat (first | with_reducible exact Below.refl _ _ | with_reducible assumption | refine bgw ?_ (by first | (simp; done) | (simp; omega) | omega) _ | refine Below.setCell ?_ (by first | exact Nat.le_of_not_lt (by assumption) | (simp; done) | (simp; omega) | omega) _ | refine Below.alloc ?_ (by first | (simp; done) | (simp; omega) | omega) _ | refine Below.drew ?_))))) ?_; rintro e w1 ⟨rfl, q, rfl⟩)
    | (go_at_call 9; refine Calls.mono (gw_at (example9_b _)) ?_; rintro e w1 ⟨rfl, q, rfl⟩))
  go_ret
  exact ⟨rfl, (by repeat (first | with_reducible exact Below.refl _ _ | with_reducible assumption | refine bgw ?_ (by first | (simp; done) | (simp; omega) | omega) _ | refine Below.setCell ?_ (by first | exact Nat.le_of_not_lt (by assumption) | (simp; done) | (simp; omega) | omega) _ | refine Below.alloc ?_ (by first | (simp; done) | (simp; omega) | omega) _ | refine Below.drew ?_))⟩

set_option maxHeartbeats 2000000 in
theorem walk_ChecksumMixInjective (h g n0 n1 : Int) (hh : IntKind.u64.has h) (hg : IntKind.u64.has g) (hn0 : IntKind.i64.has n0) (hn1 : IntKind.i64.has n1) (w : World) : Calls Try.prog 7 #[.int .u64 h, .int .u64 g, .agg #[.int .i64 n0, .int .i64 n1]] w fun e w' => e = .returned (.bool true) ∧ Below w.heap.size w w' := by
  have h0 : 0 ≤ h ∧ h < 18446744073709551616 := by have a := hh.1; have b := hh.2; simp [IntKind.min, IntKind.max, IntKind.bits, IntKind.signed] at a b; omega
  have g0 : 0 ≤ g ∧ g < 18446744073709551616 := by have a := hg.1; have b := hg.2; simp [IntKind.min, IntKind.max, IntKind.bits, IntKind.signed] at a b; omega
  have n0b : -9223372036854775808 ≤ n0 ∧ n0 ≤ 9223372036854775807 := by have a := hn0.1; have b := hn0.2; simp [IntKind.min, IntKind.max, IntKind.bits, IntKind.signed] at a b; omega
  have n1b : -9223372036854775808 ≤ n1 ∧ n1 ≤ 9223372036854775807 := by have a := hn1.1; have b := hn1.2; simp [IntKind.min, IntKind.max, IntKind.bits, IntKind.signed] at a b; omega
  clear hh hg hn0 hn1
  obtain ⟨H, rfl⟩ : ∃ H : Nat, h = H := ⟨h.toNat, by omega⟩
  obtain ⟨G, rfl⟩ : ∃ G : Nat, g = G := ⟨g.toNat, by omega⟩
  have hH : H < 18446744073709551616 := by omega
  have hG : G < 18446744073709551616 := by omega
  clear h0 g0
  have e1 : (((mx H n0 : Nat) : Int) == ((mx G n0 : Nat) : Int)) = ((H : Int) == (G : Int)) := by
    rw [Bool.eq_iff_iff, beq_iff_eq, beq_iff_eq]; have := mx_inj_h (n := n0) hH hG; omega
  have e2 : (((mx H n0 : Nat) : Int) == ((mx H n1 : Nat) : Int)) = (n0 == n1) := by
    rw [Bool.eq_iff_iff, beq_iff_eq, beq_iff_eq, ← mx_inj_n hH n0b n1b]; omega
  generalize hd1 : ((H : Int) == (G : Int)) = d1 at *
  generalize hd2 : (n0 == n1) = d2 at *
  clear n0b n1b
  cases d1 <;> cases d2
  all_goals
    go_enter Try.func7, Try.ntmps7
    go_wp2_with (first | (go_at_call 12; refine Calls.mono (gw_at (xmix_b _ _ (by with_reducible assumption) _)) ?_; rintro e w1 ⟨rfl, q, rfl⟩) | (go_at_call 9; refine Calls.mono (gw_at (example9_b _)) ?_; rintro e w1 ⟨rfl, q, rfl⟩))
    repeat
      refine wp_region_gw (by kernel_rfl) (by kernel_rfl) ?_
      repeat (go_big_quiet_step ((first | (go_at_call 12; exact gw_call (xmix_b _ _ (by with_reducible assumption) _)) | (go_at_call 9; exact gw_call (example9_b _)))))
      refine wpQuiet_nil ?_
      intro w1 hw1
      obtain ⟨q, rfl⟩ := hw1
      go_wp2_with (first | (go_at_call 12; refine Calls.mono (gw_at (xmix_b _ _ (by with_reducible assumption) _)) ?_; rintro e w1 ⟨rfl, q, rfl⟩) | (go_at_call 9; refine Calls.mono (gw_at (example9_b _)) ?_; rintro e w1 ⟨rfl, q, rfl⟩))
    go_ret
    exact ⟨rfl, (by repeat (first | with_reducible exact Below.refl _ _ | with_reducible assumption | refine bgw ?_ (by first | (simp; done) | (simp; omega) | omega) _ | refine Below.setCell ?_ (by first | exact Nat.le_of_not_lt (by assumption) | (simp; done) | (simp; omega) | omega) _ | refine Below.alloc ?_ (by first | (simp; done) | (simp; omega) | omega) _ | refine Below.drew ?_))⟩

end Go.Proofs.Ytmdnbmekbhljkaa
