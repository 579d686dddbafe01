/- Contracts of package checksum, continued: sealing and opening. -/
import Derived.Test.YtmdnbmekbhljkaaFixKP
import Derived.Lib.AppendZerosOnto
import Derived.Lib.LazyBuf
set_option linter.unusedVariables false
namespace Go.Proofs.Ytmdnbmekbhljkaa
open Go.RowKit Ck

set_option maxHeartbeats 1000000 in
theorem xgrow_b (n : Nat) (hn : n ≤ 2000000000) (w : World) : Calls Try.prog 26 #[.slice none 0 0, .int .i64 n] w fun e w' => (∃ v, e = .returned v ∧ w'.ownsRow w.heap.size 5 1 v 0 []) ∧ Below w.heap.size w w' := by
  obtain ⟨i0, hi, hz0, hz1, hz2⟩ := info_parts info_u8
  have h1 : ¬ ((n : Int) < 0) := by omega
  by_cases h0 : n = 0
  focus
    subst h0
    go_enter Try.func26, Try.ntmps26
    go_wp2_with fail
    go_ret
    exact ⟨⟨_, rfl, owns_nil _ _ _⟩, (by repeat (first | with_reducible exact Below.refl _ _ | with_reducible assumption | refine bgw ?_ (by first | (simp; done) | (simp; omega) | omega) _ | refine Below.setCell ?_ (by first | exact Nat.le_of_not_lt (by assumption) | (simp; done) | (simp; omega) | omega) _ | refine Below.alloc ?_ (by first | (simp; done) | (simp; omega) | omega) _ | refine Below.drew ?_))⟩
  have h4 : (n : Int) > 0 := by omega
  have hrz : ∀ ty, (Builtin.append_ #[22, 3] ty #[.slice none 0 0, .int .i64 (n : Int)]).run Try.prog w = _ := fun ty =>
    Lib.run_append_grow_zeros (P := Try.prog) w 22 3 ty 5 i0 (.int .u8 0) .i64 .i64 Try.underlying22 Try.underlying3 hi hz0 none 0 0 [] (run_firstCells_none w.drew i0.size 0 0 0) n (by omega) (by omega) (by omega) (by omega) (by rw [hz2]; omega) (growslice_fits (by omega) (by rw [hz2]; omega))
  obtain ⟨G, hG⟩ : ∃ G, G = grownCap w (0 + n) 0 5 := ⟨_, rfl⟩
  have hGn : 0 + n ≤ G := by rw [hG]; exact grownCap_ge w _ _ _
  have hG63 : G ≤ maxLen := by rw [hG]; exact grownCap_le_maxLen w (0 + n) 0 5 (by unfold maxLen; omega)
  rw [← hG] at hrz
  have hcur : (([] : List Value).toArray ++ Builtin.zeroCells (Value.int .u8 0).cells n ++ Builtin.zeroCells (Value.int .u8 0).cells (G - (0 + n))).size = G := by
    rw [Array.size_append, Array.size_append, size_zeroCells, size_zeroCells]
    simp [Value.cells]
    omega
  generalize (([] : List Value).toArray ++ Builtin.zeroCells (Value.int .u8 0).cells n ++ Builtin.zeroCells (Value.int .u8 0).cells (G - (0 + n))) = cur at *
  clear hG
  have hown : (w.drew.alloc (.cells cur 5)).ownsRow w.heap.size 5 1 (.slice (some ⟨w.heap.size, 0, none⟩) 0 G) 0 [] :=
    ⟨by simp, .inr ⟨w.heap.size, G, cur, rfl, Nat.le_refl _, blk_new w.drew _ _, Nat.zero_le _, hG63, by omega, by simp⟩⟩
  have hG' : (G : Int) ≤ 9223372036854775807 := by unfold maxLen at hG63; omega
  clear hcur
  go_enter Try.func26, Try.ntmps26
  go_wp2_with (at_builtin; refine Lib.wpList_append_run _ rfl _ _ _ _ rfl _ _ rfl rfl _ _ (hrz _) ?_)
  all_goals (go_ret; exact ⟨⟨_, rfl, hown⟩, (by repeat (first | with_reducible exact Below.refl _ _ | with_reducible assumption | refine bgw ?_ (by first | (simp; done) | (simp; omega) | omega) _ | refine Below.setCell ?_ (by first | exact Nat.le_of_not_lt (by assumption) | (simp; done) | (simp; omega) | omega) _ | refine Below.alloc ?_ (by first | (simp; done) | (simp; omega) | omega) _ | refine Below.drew ?_))⟩)

theorem xtail_b (A : Option Addr) (cap : Nat) (bs : List Int) (L : Nat) (hL : bs.length = L) (hB : isB bs) (hl : L ≤ 1073741824) (w : World) (hp : Byts w A bs) : Calls Try.prog 22 #[.slice A L cap] w fun e w' => (∃ v, e = .returned v ∧ w'.ownsRow w.heap.size 5 1 v 4 (yv (le4 (crc bs)))) ∧ Below w.heap.size w w' := by
  have cC := fun w' hp => xcrc_b A cap bs L hL hB hl w' hp
  have hcl := crc_lt hB
  generalize crc bs = C at *
  obtain ⟨a0, h0⟩ : ∃ a, C % 256 = a := ⟨_, rfl⟩
  obtain ⟨a1, h1⟩ : ∃ a, C / 256 % 256 = a := ⟨_, rfl⟩
  obtain ⟨a2, h2⟩ : ∃ a, C / 256 / 256 % 256 = a := ⟨_, rfl⟩
  obtain ⟨a3, h3⟩ : ∃ a, C / 256 / 256 / 256 % 256 = a := ⟨_, rfl⟩
  have hle : yv (le4 C) = [.int .u8 (a0 : Int), .int .u8 (a1 : Int), .int .u8 (a2 : Int), .int .u8 (a3 : Int)] := by unfold le4 yv; rw [h0, h1, h2, h3]; rfl
  have e0 : IntKind.u8.wrap (C : Int) = (a0 : Int) := by rw [wrap_u8]; omega
  have e1 : IntKind.u8.wrap (IntKind.u32.wrap ((C : Int) / 256)) = (a1 : Int) := by rw [wrap_u8, wrap_u32]; omega
  have e2 : IntKind.u8.wrap (IntKind.u32.wrap ((C : Int) / 65536)) = (a2 : Int) := by rw [wrap_u8, wrap_u32]; omega
  have e3 : IntKind.u8.wrap (IntKind.u32.wrap ((C : Int) / 16777216)) = (a3 : Int) := by rw [wrap_u8, wrap_u32]; omega
  have f1 : IntKind.u8.wrap ((C : Int) / 256) = (a1 : Int) := by rw [wrap_u8]; omega
  have f2 : IntKind.u8.wrap ((C : Int) / 65536) = (a2 : Int) := by rw [wrap_u8]; omega
  have f3 : IntKind.u8.wrap ((C : Int) / 16777216) = (a3 : Int) := by rw [wrap_u8]; omega
  rw [hle]
  clear h0 h1 h2 h3 hle hL
  go_enter Try.func22, Try.ntmps22
  go_wp2_with (go_at_call 16; refine Calls.mono (gw_at (cC _ (Cs.to hp (by repeat (first | with_reducible exact Below.refl _ _ | with_reducible assumption | refine bgw ?_ (by first | (simp; done) | (simp; omega) | omega) _ | refine Below.setCell ?_ (by first | exact Nat.le_of_not_lt (by assumption) | (simp; done) | (simp; omega) | omega) _ | refine Below.alloc ?_ (by first | (simp; done) | (simp; omega) | omega) _ | refine Below.drew ?_))))) ?_; rintro e w1 ⟨rfl, q, rfl⟩)
  go_ret
  exact ⟨⟨_, rfl, owns_lit (xs := [.int .u8 (a0 : Int), .int .u8 (a1 : Int), .int .u8 (a2 : Int), .int .u8 (a3 : Int)]) (by repeat (first | with_reducible exact blk_new _ _ _ | ((with_reducible refine blk_at ?_); (simp; done)) | with_reducible apply blk_alloc | with_reducible apply blk_gw | with_reducible apply blk_drew)) rfl (by simp) (by decide)⟩, (by repeat (first | with_reducible exact Below.refl _ _ | with_reducible assumption | refine bgw ?_ (by first | (simp; done) | (simp; omega) | omega) _ | refine Below.setCell ?_ (by first | exact Nat.le_of_not_lt (by assumption) | (simp; done) | (simp; omega) | omega) _ | refine Below.alloc ?_ (by first | (simp; done) | (simp; omega) | omega) _ | refine Below.drew ?_))⟩

theorem xbeq_b (A B : Option Addr) (ca cb : Nat) (xs ys : List Int) (n m : Nat) (hn : xs.length = n) (hm : ys.length = m) (hx : isB xs) (hy : isB ys) (w : World) (ha : Byts w A xs) (hb : Byts w B ys) : Calls Try.prog 23 #[.slice A n ca, .slice B m cb] w fun e w' => e = .returned (.bool (decide (xs = ys))) ∧ Below w.heap.size w w' := by
  have c1 := str_run (src := 22) (dst := 9) (n := n) (c := ca) Try.underlying22 Try.underlying5 Try.underlying9 hn ha (Below.refl _ _)
  have c2 := str_run (src := 22) (dst := 9) (n := m) (c := cb) Try.underlying22 Try.underlying5 Try.underlying9 hm hb (Below.refl _ _)
  have he : ((strOfNums xs).toList == (strOfNums ys).toList) = decide (xs = ys) := by
    by_cases h : xs = ys
    · subst h; simp
    · rw [decide_eq_false h, beq_eq_false_iff_ne]
      intro e
      rw [ByteArray.toList_eq, ByteArray.toList_eq] at e
      have e2 : strOfNums xs = strOfNums ys := by
        apply ByteArray.ext; rwa [← Array.toList_inj]
      exact h (str_inj hx hy e2)
  generalize decide (xs = ys) = R at *
  generalize strOfNums xs = U at *
  generalize strOfNums ys = V at *
  clear ha hb
  go_enter Try.func23, Try.ntmps23
  go_wp2_with fail
  go_ret
  exact ⟨rfl, (by repeat (first | with_reducible exact Below.refl _ _ | with_reducible assumption | refine bgw ?_ (by first | (simp; done) | (simp; omega) | omega) _ | refine Below.setCell ?_ (by first | exact Nat.le_of_not_lt (by assumption) | (simp; done) | (simp; omega) | omega) _ | refine Below.alloc ?_ (by first | (simp; done) | (simp; omega) | omega) _ | refine Below.drew ?_))⟩

theorem xclone_b (ad : Addr) (n c : Nat) (bs : List Int) (hn : bs.length = n) (hl : n ≤ 1073741824) (w : World) (hp : Byts w (some ad) bs) : Calls Try.prog 24 #[.slice (some ad) n c] w fun e w' => (∃ v, e = .returned v ∧ w'.ownsRow w.heap.size 5 1 v n (yv bs)) ∧ Below w.heap.size w w' := by
  obtain ⟨i0, hi, hz0, hz1, hz2⟩ := info_parts info_u8
  have q22 : ∀ (w : World), (binOp .eql 22 (.slice (some ad) n c) (.slice none 0 0)).run Try.prog w = .ok (.bool false) w := fun w => run_eql_slice_nil w _ _ (some ad) n c Try.underlying22
  go_enter Try.func24, Try.ntmps24
  go_wp2_with (at_builtin; refine wpList_appN rfl (.tmp 5) (.tmp 6) 22 rfl (w.heap.size) 5 i0 (.int .u8 0) 1 Try.underlying22 hi hz0 hz1 hz2 rfl _ _ _ rfl (owns_lit (xs := []) (by repeat (first | with_reducible exact blk_new _ _ _ | ((with_reducible refine blk_at ?_); (simp; done)) | with_reducible apply blk_alloc | with_reducible apply blk_gw | with_reducible apply blk_drew)) rfl (by first | (simp; done) | (simp; omega) | omega) (by decide)) _ _ _ (yv bs) rfl nofun (by first | (simp; done) | (simp; omega)) (Cs.to hp (by repeat (first | with_reducible exact Below.refl _ _ | with_reducible assumption | refine bgw ?_ (by first | (simp; done) | (simp; omega) | omega) _ | refine Below.setCell ?_ (by first | exact Nat.le_of_not_lt (by assumption) | (simp; done) | (simp; omega) | omega) _ | refine Below.alloc ?_ (by first | (simp; done) | (simp; omega) | omega) _ | refine Below.drew ?_))) (fun u hu => by first | exact yv_one _ u hu | (simp at hu; subst hu; rfl)) (by first | (unfold maxLen; omega) | (unfold maxLen; simp; omega)) (by first | omega | (simp; omega)) (by first | (simp; done) | (simp; omega) | omega) ?_; intro v3 w3 hown3 hb3; have hs3 := hb3.size; try simp at hs3)
  rw [List.nil_append, Nat.zero_add] at hown3
  go_ret
  exact ⟨⟨_, rfl, hown3⟩, Below.trans (by repeat (first | with_reducible exact Below.refl _ _ | with_reducible assumption | refine bgw ?_ (by first | (simp; done) | (simp; omega) | omega) _ | refine Below.setCell ?_ (by first | exact Nat.le_of_not_lt (by assumption) | (simp; done) | (simp; omega) | omega) _ | refine Below.alloc ?_ (by first | (simp; done) | (simp; omega) | omega) _ | refine Below.drew ?_)) hb3⟩

/-- slices.Concat at two slices of bytes. -/
theorem xcat_b (B : Nat) (A1 A2 : Option Addr) (n1 c1 n2 c2 : Nat) (xs ys : List Int) (h1 : xs.length = n1) (h2 : ys.length = n2) (l1 : n1 ≤ 1073741824) (l2 : n2 ≤ 4) (hA1 : A1 = none → c1 = 0) (hA2 : A2 = none → c2 = 0) (w : World) (tB : TypeId) (hb : blk w B #[.slice A1 n1 c1, .slice A2 n2 c2] tB) (hp1 : Byts w A1 xs) (hp2 : Byts w A2 ys) : Calls Try.prog 21 #[.slice (some ⟨B, 0, none⟩) 2 2] w fun e w' => (∃ v, e = .returned v ∧ w'.ownsRow w.heap.size 5 1 v (n1 + n2) (yv (xs ++ ys))) ∧ Below w.heap.size w w' := by
  obtain ⟨i0, hi, hz0, hz1, hz2⟩ := info_parts info_u8
  have hBlt := blk_lt hb
  have cell0 : ∀ w', Below w.heap.size w w' → w'.cell? ⟨B, 0, none⟩ = some (.slice A1 n1 c1) := fun w' h => (h.cell (p := ⟨B, 0, none⟩) hBlt).trans (blk_cell hb 0)
  have cell1 : ∀ w', Below w.heap.size w w' → w'.cell? ⟨B, 1, none⟩ = some (.slice A2 n2 c2) := fun w' h => (h.cell (p := ⟨B, 1, none⟩) hBlt).trans (blk_cell hb 1)
  have cG := fun w' => xgrow_b (n1 + n2) (by omega) w'
  go_enter Try.func21, Try.ntmps21
  go_wp2_with fail
  go_loopw [3, 11] (fun s i wr => ∃ k m : Nat, k ≤ 2 ∧ i = .int .i64 k ∧ s = .int .i64 m ∧ (k = 0 → m = 0) ∧ (k = 1 → m = n1) ∧ (k = 2 → m = n1 + n2) ∧ Below w.heap.size w wr)
    (fun _ i _ => (2 - intOf i).toNat)
  case atStart => exact ⟨0, 0, by omega, rfl, rfl, by omega, by omega, by omega, (by repeat (first | with_reducible exact Below.refl _ _ | with_reducible assumption | refine bgw ?_ (by first | (simp; done) | (simp; omega) | omega) _ | refine Below.setCell ?_ (by first | exact Nat.le_of_not_lt (by assumption) | (simp; done) | (simp; omega) | omega) _ | refine Below.alloc ?_ (by first | (simp; done) | (simp; omega) | omega) _ | refine Below.drew ?_))⟩
  case round =>
    obtain ⟨k, m, hk, rfl, rfl, g0, g1, g2, hbw⟩ := hrel
    have hsz := hbw.size
    have d0 := cell0 _ hbw
    have d1 := cell1 _ hbw
    have o0 := older_of_cell d0
    by_cases hk0 : k = 0
    · subst hk0
      obtain rfl := g0 rfl
      clear g0 g1 g2
      have e1 : ¬ ((n1 : Int) < 0) := by omega
      go_wp2_with fail
      exact ⟨⟨1, n1, by omega, by go_num, by go_num, by omega, by omega, by omega, (by repeat (first | with_reducible exact Below.refl _ _ | with_reducible assumption | refine bgw ?_ (by first | (simp; done) | (simp; omega) | omega) _ | refine Below.setCell ?_ (by first | exact Nat.le_of_not_lt (by assumption) | (simp; done) | (simp; omega) | omega) _ | refine Below.alloc ?_ (by first | (simp; done) | (simp; omega) | omega) _ | refine Below.drew ?_))⟩, by (try go_num); simp [intOf]; (try omega)⟩
    by_cases hk1 : k = 1
    · subst hk1
      obtain rfl := g1 rfl
      clear g0 g1 g2
      have e1 : ¬ ((m : Int) + (n2 : Int) < 0) := by omega
      go_wp2_with fail
      exact ⟨⟨2, m + n2, by omega, by go_num, by go_num, by omega, by omega, by omega, (by repeat (first | with_reducible exact Below.refl _ _ | with_reducible assumption | refine bgw ?_ (by first | (simp; done) | (simp; omega) | omega) _ | refine Below.setCell ?_ (by first | exact Nat.le_of_not_lt (by assumption) | (simp; done) | (simp; omega) | omega) _ | refine Below.alloc ?_ (by first | (simp; done) | (simp; omega) | omega) _ | refine Below.drew ?_))⟩, by (try go_num); simp [intOf]; (try omega)⟩
    obtain rfl : k = 2 := by omega
    obtain rfl := g2 rfl
    clear g0 g1 g2 hk0 hk1
    have e1 : wrap64 ((n1 : Int) + (n2 : Int)) = (n1 : Int) + (n2 : Int) := by unfold wrap64; omega
    go_wp2_with (go_at_call 26; refine Calls.mono (gw_ex (cG _)) ?_; rintro e w1 ⟨⟨v, rfl, hown⟩, q, rfl⟩)
    have hown0 := owns_mono hown hsz
    have hb0 : Below w.heap.size w (gw wr q) := Below.trans hbw (by repeat (first | with_reducible exact Below.refl _ _ | with_reducible assumption | refine bgw ?_ (by first | (simp; done) | (simp; omega) | omega) _ | refine Below.setCell ?_ (by first | exact Nat.le_of_not_lt (by assumption) | (simp; done) | (simp; omega) | omega) _ | refine Below.alloc ?_ (by first | (simp; done) | (simp; omega) | omega) _ | refine Below.drew ?_))
    generalize gw wr q = W at *
    clear hown
    go_loopw [6, 27] (fun u i wx => ∃ (k n : Nat) (cs : List Int), k ≤ 2 ∧ i = .int .i64 k ∧ wx.ownsRow w.heap.size 5 1 u n (yv cs) ∧ (k = 0 → cs = [] ∧ n = 0) ∧ (k = 1 → cs = xs ∧ n = n1) ∧ (k = 2 → cs = xs ++ ys ∧ n = n1 + n2) ∧ Below w.heap.size w wx)
      (fun _ i _ => (2 - intOf i).toNat)
    case atStart => exact ⟨0, 0, [], by omega, rfl, hown0, fun _ => ⟨rfl, rfl⟩, by omega, by omega, hb0⟩
    case round =>
      obtain ⟨k, m, cs, hk, rfl, hownr, g0, g1, g2, hbr⟩ := hrel
      have hsr := hbr.size
      have d0' := cell0 _ hbr
      have d1' := cell1 _ hbr
      have o0' := older_of_cell d0'
      by_cases hk0 : k = 0
      · subst hk0
        obtain ⟨rfl, rfl⟩ := g0 rfl
        clear g0 g1 g2
        go_wp2_with (at_builtin; refine wpList_appN rfl (.tmp 31) (.tmp 32) 22 rfl (w.heap.size) 5 i0 (.int .u8 0) 1 Try.underlying22 hi hz0 hz1 hz2 rfl _ _ _ rfl (owns_below hownr (by repeat (first | with_reducible exact Below.refl _ _ | with_reducible assumption | refine bgw ?_ (by first | (simp; done) | (simp; omega) | omega) _ | refine Below.setCell ?_ (by first | exact Nat.le_of_not_lt (by assumption) | (simp; done) | (simp; omega) | omega) _ | refine Below.alloc ?_ (by first | (simp; done) | (simp; omega) | omega) _ | refine Below.drew ?_))) _ _ _ (yv xs) rfl hA1 (by first | (simp; done) | (simp; omega)) (Cs.to hp1 (by repeat (first | with_reducible exact Below.refl _ _ | with_reducible assumption | refine bgw ?_ (by first | (simp; done) | (simp; omega) | omega) _ | refine Below.setCell ?_ (by first | exact Nat.le_of_not_lt (by assumption) | (simp; done) | (simp; omega) | omega) _ | refine Below.alloc ?_ (by first | (simp; done) | (simp; omega) | omega) _ | refine Below.drew ?_))) (fun u hu => by first | exact yv_one _ u hu | (simp at hu; subst hu; rfl)) (by first | (unfold maxLen; omega) | (unfold maxLen; simp; omega)) (by first | omega | (simp; omega)) (by first | (simp; done) | (simp; omega) | omega) ?_; intro v3 w3 hown3 hb3; have hs3 := hb3.size; try simp at hs3)
        rw [← yv_append, List.nil_append, Nat.zero_add] at hown3
        exact ⟨⟨1, n1, xs, by omega, by go_num, hown3, by omega, fun _ => ⟨rfl, rfl⟩, by omega, Below.trans (by repeat (first | with_reducible exact Below.refl _ _ | with_reducible assumption | refine bgw ?_ (by first | (simp; done) | (simp; omega) | omega) _ | refine Below.setCell ?_ (by first | exact Nat.le_of_not_lt (by assumption) | (simp; done) | (simp; omega) | omega) _ | refine Below.alloc ?_ (by first | (simp; done) | (simp; omega) | omega) _ | refine Below.drew ?_)) hb3⟩, by (try go_num); simp [intOf]; (try omega)⟩
      by_cases hk1 : k = 1
      · subst hk1
        obtain ⟨rfl, rfl⟩ := g1 rfl
        clear g0 g1 g2
        go_wp2_with (at_builtin; refine wpList_appN rfl (.tmp 31) (.tmp 32) 22 rfl (w.heap.size) 5 i0 (.int .u8 0) 1 Try.underlying22 hi hz0 hz1 hz2 rfl _ _ _ rfl (owns_below hownr (by repeat (first | with_reducible exact Below.refl _ _ | with_reducible assumption | refine bgw ?_ (by first | (simp; done) | (simp; omega) | omega) _ | refine Below.setCell ?_ (by first | exact Nat.le_of_not_lt (by assumption) | (simp; done) | (simp; omega) | omega) _ | refine Below.alloc ?_ (by first | (simp; done) | (simp; omega) | omega) _ | refine Below.drew ?_))) _ _ _ (yv ys) rfl hA2 (by first | (simp; done) | (simp; omega)) (Cs.to hp2 (by repeat (first | with_reducible exact Below.refl _ _ | with_reducible assumption | refine bgw ?_ (by first | (simp; done) | (simp; omega) | omega) _ | refine Below.setCell ?_ (by first | exact Nat.le_of_not_lt (by assumption) | (simp; done) | (simp; omega) | omega) _ | refine Below.alloc ?_ (by first | (simp; done) | (simp; omega) | omega) _ | refine Below.drew ?_))) (fun u hu => by first | exact yv_one _ u hu | (simp at hu; subst hu; rfl)) (by first | (unfold maxLen; omega) | (unfold maxLen; simp; omega)) (by first | omega | (simp; omega)) (by first | (simp; done) | (simp; omega) | omega) ?_; intro v3 w3 hown3 hb3; have hs3 := hb3.size; try simp at hs3)
        rw [← yv_append] at hown3
        exact ⟨⟨2, _, _, by omega, by go_num, hown3, by omega, by omega, fun _ => ⟨rfl, rfl⟩, Below.trans (by repeat (first | with_reducible exact Below.refl _ _ | with_reducible assumption | refine bgw ?_ (by first | (simp; done) | (simp; omega) | omega) _ | refine Below.setCell ?_ (by first | exact Nat.le_of_not_lt (by assumption) | (simp; done) | (simp; omega) | omega) _ | refine Below.alloc ?_ (by first | (simp; done) | (simp; omega) | omega) _ | refine Below.drew ?_)) hb3⟩, by (try go_num); simp [intOf]; (try omega)⟩
      obtain rfl : k = 2 := by omega
      obtain ⟨rfl, rfl⟩ := g2 rfl
      clear g0 g1 g2 hk0 hk1
      go_wp2_with fail
      go_ret
      exact ⟨⟨_, rfl, hownr⟩, (by repeat (first | with_reducible exact Below.refl _ _ | with_reducible assumption | refine bgw ?_ (by first | (simp; done) | (simp; omega) | omega) _ | refine Below.setCell ?_ (by first | exact Nat.le_of_not_lt (by assumption) | (simp; done) | (simp; omega) | omega) _ | refine Below.alloc ?_ (by first | (simp; done) | (simp; omega) | omega) _ | refine Below.drew ?_))⟩

theorem xsea_b (A : Option Addr) (cap : Nat) (bs : List Int) (L : Nat) (hL : bs.length = L) (hB : isB bs) (hl : L ≤ 1073741824) (hlc : L ≤ cap) (hA : A = none → cap = 0) (w : World) (hp : Byts w A bs) : Calls Try.prog 10 #[.slice A L cap] w fun e w' => (∃ v, e = .returned v ∧ w'.ownsRow w.heap.size 5 1 v (L + 4) (yv (sea bs))) ∧ Below w.heap.size w w' := by
  have cT := fun w' hp => xtail_b A cap bs L hL hB hl w' hp
  have cC := fun B A2 c2 w' tB hA2 hb hp1 hp2 => xcat_b B A A2 L cap 4 c2 bs (le4 (crc bs)) hL (le4_length _) hl (by omega) hA hA2 w' tB hb hp1 hp2
  rw [show bs ++ le4 (crc bs) = sea bs from rfl] at cC
  generalize sea bs = S at *
  generalize le4 (crc bs) = T at *
  go_enter Try.func10, Try.ntmps10
  go_wp2_with (first
    | (go_at_call 22; refine Calls.mono (gw_ex (cT _ (Cs.to hp (by repeat (first | with_reducible exact Below.refl _ _ | with_reducible assumption | refine bgw ?_ (by first | (simp; done) | (simp; omega) | omega) _ | refine Below.setCell ?_ (by first | exact Nat.le_of_not_lt (by assumption) | (simp; done) | (simp; omega) | omega) _ | refine Below.alloc ?_ (by first | (simp; done) | (simp; omega) | omega) _ | refine Below.drew ?_))))) ?_; rintro e w1 ⟨⟨v', rfl, hown⟩, q, rfl⟩; obtain ⟨A', cap', rfl, hle, hmx, hnil, hcs⟩ := owns_sl hown)
    | (go_at_call 21; refine Calls.mono (gw_ex (cC _ _ _ _ _ hnil (by repeat (first | with_reducible exact blk_new _ _ _ | ((with_reducible refine blk_at ?_); (simp; done)) | with_reducible apply blk_alloc | with_reducible apply blk_gw | with_reducible apply blk_drew)) (Cs.to hp (by repeat (first | with_reducible exact Below.refl _ _ | with_reducible assumption | refine bgw ?_ (by first | (simp; done) | (simp; omega) | omega) _ | refine Below.setCell ?_ (by first | exact Nat.le_of_not_lt (by assumption) | (simp; done) | (simp; omega) | omega) _ | refine Below.alloc ?_ (by first | (simp; done) | (simp; omega) | omega) _ | refine Below.drew ?_))) (Cs.to hcs (by repeat (first | with_reducible exact Below.refl _ _ | with_reducible assumption | refine bgw ?_ (by first | (simp; done) | (simp; omega) | omega) _ | refine Below.setCell ?_ (by first | exact Nat.le_of_not_lt (by assumption) | (simp; done) | (simp; omega) | omega) _ | refine Below.alloc ?_ (by first | (simp; done) | (simp; omega) | omega) _ | refine Below.drew ?_))))) ?_; rintro e w2 ⟨⟨v2, rfl, hown2⟩, q2, rfl⟩))
  go_ret
  exact ⟨⟨_, rfl, owns_mono (owns_below hown2 (by repeat (first | with_reducible exact Below.refl _ _ | with_reducible assumption | refine bgw ?_ (by first | (simp; done) | (simp; omega) | omega) _ | refine Below.setCell ?_ (by first | exact Nat.le_of_not_lt (by assumption) | (simp; done) | (simp; omega) | omega) _ | refine Below.alloc ?_ (by first | (simp; done) | (simp; omega) | omega) _ | refine Below.drew ?_))) (by simp; omega)⟩, (by repeat (first | with_reducible exact Below.refl _ _ | with_reducible assumption | refine bgw ?_ (by first | (simp; done) | (simp; omega) | omega) _ | refine Below.setCell ?_ (by first | exact Nat.le_of_not_lt (by assumption) | (simp; done) | (simp; omega) | omega) _ | refine Below.alloc ?_ (by first | (simp; done) | (simp; omega) | omega) _ | refine Below.drew ?_))⟩

theorem sea_opn {bs : List Int} {n : Nat} (hl : bs.length = n + 4) : decide (bs.drop n = le4 (crc (bs.take n))) = decide (sea (bs.take n) = bs) := by
  refine decide_eq_decide.2 ⟨fun h => ?_, fun h => ?_⟩
  · unfold sea; rw [← h, List.take_append_drop]
  · have h1 := congrArg (List.drop n) h
    unfold sea at h1
    rw [List.drop_append, List.drop_eq_nil_of_le (by rw [List.length_take]; omega), List.length_take, show n - min n bs.length = 0 from by omega] at h1
    exact h1.symm

set_option maxHeartbeats 1000000 in
theorem xopn_b (A : Option Addr) (cap : Nat) (bs : List Int) (L : Nat) (hL : bs.length = L) (hB : isB bs) (hl : L ≤ 1073741824) (hlc : L ≤ cap) (hA : A = none → cap = 0) (w : World) (hp : Byts w A bs) : Calls Try.prog 11 #[.slice A L cap] w fun e w' => (∃ v, e = .returned (.tuple #[v, .int .i64 (opn bs).2]) ∧ w'.ownsRow w.heap.size 5 1 v (opn bs).1.length (yv (opn bs).1)) ∧ Below w.heap.size w w' := by
  by_cases h4 : L < 4
  focus
    rw [opn_short (by omega)]
    have e1 : wrap64 ((L : Int) - 4) = (L : Int) - 4 := by unfold wrap64; omega
    have h4' : (L : Int) - 4 < 0 := by omega
    go_enter Try.func11, Try.ntmps11
    go_wp2_with fail
    exact bodyPost_ret (v := .tuple #[.slice none 0 0, .int .i64 4]) (by simp [results, Try.results11, go_sem]) rfl ⟨⟨_, rfl, owns_nil _ _ _⟩, (by repeat (first | with_reducible exact Below.refl _ _ | with_reducible assumption | refine bgw ?_ (by first | (simp; done) | (simp; omega) | omega) _ | refine Below.setCell ?_ (by first | exact Nat.le_of_not_lt (by assumption) | (simp; done) | (simp; omega) | omega) _ | refine Below.alloc ?_ (by first | (simp; done) | (simp; omega) | omega) _ | refine Below.drew ?_))⟩
  obtain ⟨n, rfl⟩ : ∃ n, L = n + 4 := ⟨L - 4, by omega⟩
  obtain ⟨ad, rfl⟩ : ∃ ad, A = some ad := by
    cases A with
    | none => have := hA rfl; omega
    | some ad => exact ⟨ad, rfl⟩
  have e1 : wrap64 ((n : Int) + 4 - 4) = (n : Int) := by unfold wrap64; omega
  have h0 : ¬ (n : Int) < 0 := by omega
  have htl : (bs.take n).length = n := by rw [List.length_take]; omega
  have hdl : (bs.drop n).length = 4 := by rw [List.length_drop]; omega
  have ht : Byts w (some ad) (bs.take n) := Byts.take n hp
  have hd : Byts w (some (ad.add n)) (bs.drop n) := Byts.drop n hp
  have htB := isB_take hB n
  have hdB := isB_drop hB n
  have ho : opn bs = if sea (bs.take n) = bs then (bs.take n, 0) else ([], 22) := by
    unfold opn
    rw [if_neg (by omega), show bs.length - 4 = n from by omega]
  have cT : ∀ w', Below w.heap.size w w' → Calls Try.prog 22 #[.slice (some ad) n cap] w' fun e w'' => (∃ v, e = .returned v ∧ w''.ownsRow w'.heap.size 5 1 v 4 (yv (le4 (crc (bs.take n))))) ∧ Below w'.heap.size w' w'' := fun w' hb => xtail_b (some ad) cap (bs.take n) n htl htB (by omega) w' (Cs.to ht hb)
  have cE : ∀ (A' : Option Addr) (ca cap' : Nat) w', Byts w' A' (le4 (crc (bs.take n))) → Byts w' (some (ad.add n)) (bs.drop n) → Calls Try.prog 23 #[.slice (some (ad.add n)) 4 ca, .slice A' 4 cap'] w' fun e w'' => e = .returned (.bool (decide (sea (bs.take n) = bs))) ∧ Below w'.heap.size w' w'' := fun A' ca cap' w' h1 h2 => by
    rw [← sea_opn hL]
    exact xbeq_b _ _ ca cap' _ _ 4 4 hdl (le4_length _) hdB (le4_isB _) w' h2 h1
  have cK : ∀ w', Below w.heap.size w w' → Calls Try.prog 24 #[.slice (some ad) n cap] w' fun e w'' => (∃ v, e = .returned v ∧ w''.ownsRow w'.heap.size 5 1 v n (yv (bs.take n))) ∧ Below w'.heap.size w' w'' := fun w' hb => xclone_b ad n cap (bs.take n) htl (by omega) w' (Cs.to ht hb)
  rw [ho]
  clear ho hL
  have hcap : (n : Int) ≤ (cap : Int) := by omega
  have hn0 : (0 : Int) ≤ (n : Int) := by omega
  by_cases hq : sea (bs.take n) = bs
  focus
    rw [if_pos hq]
    rw [decide_eq_true hq] at cE
    generalize le4 (crc (bs.take n)) = T at *
    generalize bs.take n = cs at *
    generalize bs.drop n = ds at *
    clear hq
    go_enter Try.func11, Try.ntmps11
    go_wp2_with fail
    refine wp_mix 9 [0, 0, 3, 0, 0, 24, 56, 127, 255] [] [0, 1, 2, 3, 4, 5, 6, 7, 8] (by kernel_rfl) (by kernel_rfl) ?_
    repeat (first | (refine mix_skip (by rfl) (by rfl) (by rfl) (by rfl) ?_) | (refine mix_early (by rfl) (by rfl) (by rfl) ?_; go_big_quiet_step (fail); with_reducible refine wpQuiet_nil ?_) | (refine mix_late (by rfl) (by rfl) (by rfl) ?_; go_big_quiet_step (fail); with_reducible refine wpQuiet_nil ?_) | (refine mix_call (by rfl) (by rfl) (by rfl) ?_; intro pM Qs hQs; go_wp2_with (first | (go_at_call 22; refine Calls.mono (gw_ex (cT _ (by repeat (first | with_reducible exact Below.refl _ _ | with_reducible assumption | refine bgw ?_ (by first | (simp; done) | (simp; omega) | omega) _ | refine Below.setCell ?_ (by first | exact Nat.le_of_not_lt (by assumption) | (simp; done) | (simp; omega) | omega) _ | refine Below.alloc ?_ (by first | (simp; done) | (simp; omega) | omega) _ | refine Below.drew ?_)))) ?_; rintro e w1 ⟨⟨v', rfl, hown⟩, q, rfl⟩; obtain ⟨A', cap', rfl, hle, hmx, hnil, hcs⟩ := owns_sl hown) | (go_at_call 23; refine Calls.mono (gw_at (cE _ _ _ _ (Cs.to hcs (by repeat (first | with_reducible exact Below.refl _ _ | with_reducible assumption | refine bgw ?_ (by first | (simp; done) | (simp; omega) | omega) _ | refine Below.setCell ?_ (by first | exact Nat.le_of_not_lt (by assumption) | (simp; done) | (simp; omega) | omega) _ | refine Below.alloc ?_ (by first | (simp; done) | (simp; omega) | omega) _ | refine Below.drew ?_))) (Cs.to hd (by repeat (first | with_reducible exact Below.refl _ _ | with_reducible assumption | refine bgw ?_ (by first | (simp; done) | (simp; omega) | omega) _ | refine Below.setCell ?_ (by first | exact Nat.le_of_not_lt (by assumption) | (simp; done) | (simp; omega) | omega) _ | refine Below.alloc ?_ (by first | (simp; done) | (simp; omega) | omega) _ | refine Below.drew ?_))))) ?_; rintro e w1 ⟨rfl, q, rfl⟩)); refine hQs _ _ (by repeat (first | with_reducible exact Below.refl _ _ | with_reducible assumption | refine bgw ?_ (by first | (simp; done) | (simp; omega) | omega) _ | refine Below.setCell ?_ (by first | exact Nat.le_of_not_lt (by assumption) | (simp; done) | (simp; omega) | omega) _ | refine Below.alloc ?_ (by first | (simp; done) | (simp; omega) | omega) _ | refine Below.drew ?_)) ?_))
    refine mix_end ?_
    intro pE
    simp only [List.drop_succ_cons, List.drop_zero]
    go_wp2_with (go_at_call 24; refine Calls.mono (gw_ex (cK _ (by repeat (first | with_reducible exact Below.refl _ _ | with_reducible assumption | refine bgw ?_ (by first | (simp; done) | (simp; omega) | omega) _ | refine Below.setCell ?_ (by first | exact Nat.le_of_not_lt (by assumption) | (simp; done) | (simp; omega) | omega) _ | refine Below.alloc ?_ (by first | (simp; done) | (simp; omega) | omega) _ | refine Below.drew ?_)))) ?_; rintro e w1 ⟨⟨v2, rfl, hown2⟩, q2, rfl⟩)
    subst htl
    exact bodyPost_ret (v := .tuple #[v2, .int .i64 0]) (by simp [results, Try.results11, go_sem]) rfl ⟨⟨_, rfl, owns_mono (owns_below hown2 (by repeat (first | with_reducible exact Below.refl _ _ | with_reducible assumption | refine bgw ?_ (by first | (simp; done) | (simp; omega) | omega) _ | refine Below.setCell ?_ (by first | exact Nat.le_of_not_lt (by assumption) | (simp; done) | (simp; omega) | omega) _ | refine Below.alloc ?_ (by first | (simp; done) | (simp; omega) | omega) _ | refine Below.drew ?_))) (by simp; omega)⟩, (by repeat (first | with_reducible exact Below.refl _ _ | with_reducible assumption | refine bgw ?_ (by first | (simp; done) | (simp; omega) | omega) _ | refine Below.setCell ?_ (by first | exact Nat.le_of_not_lt (by assumption) | (simp; done) | (simp; omega) | omega) _ | refine Below.alloc ?_ (by first | (simp; done) | (simp; omega) | omega) _ | refine Below.drew ?_))⟩
  rw [if_neg hq]
  rw [decide_eq_false hq] at cE
  generalize le4 (crc (bs.take n)) = T at *
  generalize bs.take n = cs at *
  generalize bs.drop n = ds at *
  clear hq
  go_enter Try.func11, Try.ntmps11
  go_wp2_with fail
  refine wp_mix 9 [0, 0, 3, 0, 0, 24, 56, 127, 255] [] [0, 1, 2, 3, 4, 5, 6, 7, 8] (by kernel_rfl) (by kernel_rfl) ?_
  repeat (first | (refine mix_skip (by rfl) (by rfl) (by rfl) (by rfl) ?_) | (refine mix_early (by rfl) (by rfl) (by rfl) ?_; go_big_quiet_step (fail); with_reducible refine wpQuiet_nil ?_) | (refine mix_late (by rfl) (by rfl) (by rfl) ?_; go_big_quiet_step (fail); with_reducible refine wpQuiet_nil ?_) | (refine mix_call (by rfl) (by rfl) (by rfl) ?_; intro pM Qs hQs; go_wp2_with (first | (go_at_call 22; refine Calls.mono (gw_ex (cT _ (by repeat (first | with_reducible exact Below.refl _ _ | with_reducible assumption | refine bgw ?_ (by first | (simp; done) | (simp; omega) | omega) _ | refine Below.setCell ?_ (by first | exact Nat.le_of_not_lt (by assumption) | (simp; done) | (simp; omega) | omega) _ | refine Below.alloc ?_ (by first | (simp; done) | (simp; omega) | omega) _ | refine Below.drew ?_)))) ?_; rintro e w1 ⟨⟨v', rfl, hown⟩, q, rfl⟩; obtain ⟨A', cap', rfl, hle, hmx, hnil, hcs⟩ := owns_sl hown) | (go_at_call 23; refine Calls.mono (gw_at (cE _ _ _ _ (Cs.to hcs (by repeat (first | with_reducible exact Below.refl _ _ | with_reducible assumption | refine bgw ?_ (by first | (simp; done) | (simp; omega) | omega) _ | refine Below.setCell ?_ (by first | exact Nat.le_of_not_lt (by assumption) | (simp; done) | (simp; omega) | omega) _ | refine Below.alloc ?_ (by first | (simp; done) | (simp; omega) | omega) _ | refine Below.drew ?_))) (Cs.to hd (by repeat (first | with_reducible exact Below.refl _ _ | with_reducible assumption | refine bgw ?_ (by first | (simp; done) | (simp; omega) | omega) _ | refine Below.setCell ?_ (by first | exact Nat.le_of_not_lt (by assumption) | (simp; done) | (simp; omega) | omega) _ | refine Below.alloc ?_ (by first | (simp; done) | (simp; omega) | omega) _ | refine Below.drew ?_))))) ?_; rintro e w1 ⟨rfl, q, rfl⟩)); refine hQs _ _ (by repeat (first | with_reducible exact Below.refl _ _ | with_reducible assumption | refine bgw ?_ (by first | (simp; done) | (simp; omega) | omega) _ | refine Below.setCell ?_ (by first | exact Nat.le_of_not_lt (by assumption) | (simp; done) | (simp; omega) | omega) _ | refine Below.alloc ?_ (by first | (simp; done) | (simp; omega) | omega) _ | refine Below.drew ?_)) ?_))
  refine mix_end ?_
  intro pE
  simp only [List.drop_succ_cons, List.drop_zero]
  go_wp2_with fail
  exact bodyPost_ret (v := .tuple #[.slice none 0 0, .int .i64 22]) (by simp [results, Try.results11, go_sem]) rfl ⟨⟨_, rfl, owns_nil _ _ _⟩, (by repeat (first | with_reducible exact Below.refl _ _ | with_reducible assumption | refine bgw ?_ (by first | (simp; done) | (simp; omega) | omega) _ | refine Below.setCell ?_ (by first | exact Nat.le_of_not_lt (by assumption) | (simp; done) | (simp; omega) | omega) _ | refine Below.alloc ?_ (by first | (simp; done) | (simp; omega) | omega) _ | refine Below.drew ?_))⟩

end Go.Proofs.Ytmdnbmekbhljkaa
