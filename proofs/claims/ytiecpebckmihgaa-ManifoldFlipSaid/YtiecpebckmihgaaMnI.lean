/- Laws of chapter 16: ManifoldFlip. -/
import Derived.Test.YtiecpebckmihgaaMnK
set_option linter.unusedVariables false
namespace Go.Proofs.Ytiecpebckmihgaa
open Go.RowKit Fx

theorem eqM_refl (x y : Int) (l : List Cnt) : eqM x y l x y l = true := by unfold eqM; simp

theorem cnts_keep2 {w w' : World} {E F : Nat} {x y z x2 y2 z2 : Value} {t t2 : TypeId} {A : Option Addr} {L : List Cnt} (hk : blk w E #[x, y, z] t) (hk2 : blk w F #[x2, y2, z2] t2) (hp : Cnts w A L) (hs : ∀ b, b ≠ E → b ≠ F → Sm b w w') : Cnts w' A L := by
  rcases Nat.eq_zero_or_pos L.length with h0 | h0
  · exact .inl (List.eq_nil_of_length_eq_zero h0)
  · rcases hp with hp | ⟨b, off, rfl, hc⟩
    · exact .inl hp
    · have h := hs b (cnts_ne hk (.inr ⟨b, off, rfl, hc⟩) h0) (cnts_ne hk2 (.inr ⟨b, off, rfl, hc⟩) h0)
      have e : ∀ i, w'.cell? ⟨b, i, none⟩ = w.cell? ⟨b, i, none⟩ := fun i => by unfold World.cell?; rw [h.2]
      exact .inr ⟨b, off, rfl, fun i hi => by
        obtain ⟨cs, k1, k2, k3⟩ := hc i hi
        exact ⟨cs, k1, fun j hj => by rw [e]; exact k2 j hj, k3⟩⟩
theorem FrB.below {w w' : World} {B : Nat} {A : Option Addr} {l : List Cnt} (h : FrB w B A l) (hb : Below w.heap.size w w') : FrB w' B A l := by
  rcases h with h | ⟨b, c, t, e, hg, k⟩
  · exact .inl h
  · exact .inr ⟨b, c, t, e, hg, blk_below hb k⟩
theorem FrB.mono {w : World} {B B' : Nat} {A : Option Addr} {l : List Cnt} (h : FrB w B A l) (hb : B' ≤ B) : FrB w B' A l := by
  rcases h with h | ⟨b, c, t, e, hg, k⟩
  · exact .inl h
  · exact .inr ⟨b, c, t, e, by omega, k⟩
theorem FrB.keep2 {w w' : World} {B E F : Nat} {x y z x2 y2 z2 : Value} {t t2 : TypeId} {A : Option Addr} {L : List Cnt} (h : FrB w B A L) (hp : Cnts w A L) (hk : blk w E #[x, y, z] t) (hk2 : blk w F #[x2, y2, z2] t2) (hs : ∀ b, b ≠ E → b ≠ F → Sm b w w') : FrB w' B A L := by
  rcases Nat.eq_zero_or_pos L.length with h0 | h0
  · exact .inl (List.eq_nil_of_length_eq_zero h0)
  · rcases h with h | ⟨b, c, t, rfl, hg, k⟩
    · exact .inl h
    · exact .inr ⟨b, c, t, rfl, hg, blk_sm (hs b (cnts_ne hk hp h0) (cnts_ne hk2 hp h0)) k⟩
/-- Numbers at place o of each point. -/
def Has (c : Array Value) (o n : Nat) : Prop := ∀ j, j < n → ∃ s, c[j * 6 + o]? = some (.int .i64 s)
theorem Has.set {c : Array Value} {o n i : Nat} {s : Int} (h : Has c o n) : Has (c.setIfInBounds i (.int .i64 s)) o n := fun j hj => by
  obtain ⟨u, hu⟩ := h j hj
  rw [Array.getElem?_setIfInBounds]
  split
  · rename_i e
    have hlt : i < c.size := by
      rw [e]; exact (Array.getElem?_eq_some_iff.1 hu).1
    rw [if_pos hlt]; exact ⟨s, rfl⟩
  · exact ⟨u, hu⟩
theorem has_of {w : World} {b : Nat} {c : Array Value} {t : TypeId} {l : List Cnt} {o : Nat} (hp : Cnts w (some ⟨b, 0, none⟩) l) (hk : blk w b c t) (ho : o = 2 ∨ o = 3) : Has c o l.length := fun j hj => by
  obtain ⟨b1, o1, e, hc⟩ := cnts_open hp (by omega)
  cases e
  obtain ⟨-, -, h2, h3, -, -⟩ := hc j hj w (Below.refl _ _)
  rcases ho with rfl | rfl
  · exact ⟨_, by rw [← blk_cell hk]; simpa using h2⟩
  · exact ⟨_, by rw [← blk_cell hk]; simpa using h3⟩

set_option maxRecDepth 100000 in
set_option maxHeartbeats 32000000 in
theorem walk_ManifoldFlip (fa fb : Mfr) (w : World) (ha : MfIn w fa) (hb : MfIn w fb) : Calls Try.prog 3 #[.agg #[.int .i64 fa.nx, .int .i64 fa.ny, .slice fa.A fa.l.length fa.cap], .agg #[.int .i64 fb.nx, .int .i64 fb.ny, .slice fb.A fb.l.length fb.cap]] w fun e w' => e = .returned (.bool true) ∧ Below w.heap.size w w' := by
  have e0 := example16_b
  obtain ⟨nx, ny, A, cap, l⟩ := fa
  obtain ⟨mx, my, B_, cbp, r⟩ := fb
  obtain ⟨pa, hA, la, ca, xa, ya⟩ := ha
  obtain ⟨pb, hB, lb, cb, xb, yb⟩ := hb
  dsimp only at *
  by_cases c1 : (50 : Int) < (l.length : Int)
  focus
    go_enter Try.func3, Try.ntmps3
    go_wp2_with (go_at_call 6; refine Calls.mono (gw_at (e0 _)) ?_; rintro e w1 ⟨rfl, q, rfl⟩)
    go_ret
    exact ⟨rfl, (by repeat (first | with_reducible exact Below.refl _ _ | with_reducible assumption | refine bgw ?_ (by first | (simp; done) | (simp; omega) | omega) _ | refine Below.setCell ?_ (by first | exact Nat.le_of_not_lt (by assumption) | (simp; done) | (simp; omega) | omega) _ | refine Below.alloc ?_ (by first | (simp; done) | (simp; omega) | omega) _ | refine Below.drew ?_))⟩
  by_cases c2 : (50 : Int) < (r.length : Int)
  focus
    go_enter Try.func3, Try.ntmps3
    go_wp2_with (go_at_call 6; refine Calls.mono (gw_at (e0 _)) ?_; rintro e w1 ⟨rfl, q, rfl⟩)
    go_ret
    exact ⟨rfl, (by repeat (first | with_reducible exact Below.refl _ _ | with_reducible assumption | refine bgw ?_ (by first | (simp; done) | (simp; omega) | omega) _ | refine Below.setCell ?_ (by first | exact Nat.le_of_not_lt (by assumption) | (simp; done) | (simp; omega) | omega) _ | refine Below.alloc ?_ (by first | (simp; done) | (simp; omega) | omega) _ | refine Below.drew ?_))⟩
  have cT := fun w' h => mnb_ex (mflip2_b nx ny A cap l (by omega) la hA w' h)
  have cC := fun w' h => mnb_ex (mclo2_b nx ny A cap l (by omega) la hA w' h)
  have cR := fun w' h => mnf_ex (rflip16_b nx ny A cap l (by omega) la hA w' h)
  have cG := fun A' c' h1 h2 w' h => mnf_ex (mflip_b (ng nx) (ng ny) A' c' l (by omega) h1 h2 w' h)
  rw [ng_ng xa, ng_ng ya] at cG
  have cL := fun w' h => mnf_ex (rclo16_b nx ny A cap l (by omega) la hA w' h)
  have cE := fun x y A1 c1 A2 c2 w' h1 h2 => re16_b x y A1 c1 l x y A2 c2 l (by omega) (by omega) w' h1 h2
  have cD := fun w' h1 h2 => re16_b nx ny A cap l mx my B_ cbp r (by omega) (by omega) w' h1 h2
  have cM := fun w' h1 h2 => meq_b nx ny A cap l mx my B_ cbp r (by omega) (by omega) w' h1 h2
  have cN := fun A2 c2 w' h1 h2 => meq_b nx ny A cap l nx ny A2 c2 l (by omega) (by omega) w' h1 h2
  simp only [eqM_refl] at cE cN
  generalize eqM nx ny l mx my r = V0 at *
  dsimp only at cT cC cR cG cL
  have gx := ng_ng xa
  clear xa ya xb yb gx
  generalize ng nx = gx at *
  generalize ng ny = gy at *
  go_enter Try.func3, Try.ntmps3
  go_upto_region 3 with fail
  refine wp_named ?_
  intro W hW
  have kA : blk W w.heap.size #[.int .i64 nx, .int .i64 ny, .slice A l.length cap] 26 := by rw [hW]; exact (by repeat (first | with_reducible exact blk_new _ _ _ | ((with_reducible refine blk_at ?_); (simp; done)) | with_reducible apply blk_alloc | with_reducible apply blk_gw | with_reducible apply blk_drew))
  have kB : blk W (w.heap.size + 1) #[.int .i64 mx, .int .i64 my, .slice B_ r.length cbp] 26 := by rw [hW]; exact (by repeat (first | with_reducible exact blk_new _ _ _ | ((with_reducible refine blk_at ?_); (simp; done)) | with_reducible apply blk_alloc | with_reducible apply blk_gw | with_reducible apply blk_drew))
  have hbW : Below w.heap.size w W := by rw [hW]; exact (by repeat (first | with_reducible exact Below.refl _ _ | with_reducible assumption | refine bgw ?_ (by first | (simp; done) | (simp; omega) | omega) _ | refine Below.setCell ?_ (by first | exact Nat.le_of_not_lt (by assumption) | (simp; done) | (simp; omega) | omega) _ | refine Below.alloc ?_ (by first | (simp; done) | (simp; omega) | omega) _ | refine Below.drew ?_))
  have hl50 : l.length ≤ 50 := by omega
  clear hW c1 c2
  have hszW := hbW.size
  have hbW0 : w.heap.size ≤ W.heap.size := hbW.size
  have hzW := blk_lt kB
  have paW := Cnts.to pa hbW
  have pbW := Cnts.to pb hbW
  have okA := blk_older kA
  have ckA_0 : _ = some _ := blk_cell kA 0
  have ckA_1 : _ = some _ := blk_cell kA 1
  have ckA_2 : _ = some _ := blk_cell kA 2
  have fkA_0 := blk_free kA 0
  have fkA_1 := blk_free kA 1
  have fkA_2 := blk_free kA 2
  have okB := blk_older kB
  have ckB_0 : _ = some _ := blk_cell kB 0
  have ckB_1 : _ = some _ := blk_cell kB 1
  have ckB_2 : _ = some _ := blk_cell kB 2
  have fkB_0 := blk_free kB 0
  have fkB_1 := blk_free kB 1
  have fkB_2 := blk_free kB 2
  first
    | (refine wp_mix 6 [0, 1, 0, 7, 0, 0, 63, 127] [] [0, 1, 2, 3, 4, 5] (by kernel_rfl) (by decide +kernel) ?_)
    | (refine wp_mix 33 [0, 0, 2, 7, 15, 31, 63, 63, 255, 511, 1023, 2047, 4095, 8191, 4095, 32767, 65535, 131071, 262143, 524287, 524287, 2097151, 524287, 524287, 16777215, 33554431, 67108863, 134217727, 268435455, 268435455, 1073741823, 2147483647, 4294967295] [6, 7, 12, 19, 20, 28, 29] [0, 1, 2, 3, 4, 5, 6, 7, 8, 9, 10, 11, 12, 13, 14, 15, 16, 17, 18, 19, 20, 21, 22, 23, 24, 25, 26, 27, 28, 29, 30, 31, 32] (by kernel_rfl) (by decide +kernel) ?_)
  first
    | (repeat (first | (refine mix_skip (by rfl) (by rfl) (by rfl) (by rfl) ?_) | (refine mix_early (by rfl) (by rfl) (by rfl) ?_; go_big_quiet_step (fail); with_reducible refine wpQuiet_nil ?_) | (refine mix_late (by rfl) (by rfl) (by rfl) ?_; go_big_quiet_step (fail); with_reducible refine wpQuiet_nil ?_) | (refine mix_call (by rfl) (by rfl) (by rfl) ?_; intro pM Qs hQs; go_wp2_with (first | (go_at_call 7; refine Calls.mono (cT _ (Cnts.to paW (by repeat (first | with_reducible exact Below.refl _ _ | with_reducible assumption | refine bgw ?_ (by first | (simp; done) | (simp; omega) | omega) _ | refine Below.setCell ?_ (by first | exact Nat.le_of_not_lt (by assumption) | (simp; done) | (simp; omega) | omega) _ | refine Below.alloc ?_ (by first | (simp; done) | (simp; omega) | omega) _ | refine Below.drew ?_)))) ?_; rintro e w1 ⟨⟨A5, c5, rfl, hle5, hmx5, hnil5, hP5, hF5⟩, q5, rfl⟩) | (go_at_call 8; refine Calls.mono (cC _ (Cnts.to paW (by repeat (first | with_reducible exact Below.refl _ _ | with_reducible assumption | refine bgw ?_ (by first | (simp; done) | (simp; omega) | omega) _ | refine Below.setCell ?_ (by first | exact Nat.le_of_not_lt (by assumption) | (simp; done) | (simp; omega) | omega) _ | refine Below.alloc ?_ (by first | (simp; done) | (simp; omega) | omega) _ | refine Below.drew ?_)))) ?_; rintro e w1 ⟨⟨A6, c6, rfl, hle6, hmx6, hnil6, hP6, hF6⟩, q6, rfl⟩)); refine hQs _ _ (by repeat (first | with_reducible exact Below.refl _ _ | with_reducible assumption | refine bgw ?_ (by first | (simp; done) | (simp; omega) | omega) _ | refine Below.setCell ?_ (by first | exact Nat.le_of_not_lt (by assumption) | (simp; done) | (simp; omega) | omega) _ | refine Below.alloc ?_ (by first | (simp; done) | (simp; omega) | omega) _ | refine Below.drew ?_)) ?_)))
    | (repeat (first | (refine mix_skip (by rfl) (by rfl) (by rfl) (by rfl) ?_) | (refine mix_early (by rfl) (by rfl) (by rfl) ?_; go_big_quiet_step (fail); with_reducible refine wpQuiet_nil ?_) | (refine mix_late (by rfl) (by rfl) (by rfl) ?_; go_big_quiet_step (fail); with_reducible refine wpQuiet_nil ?_) | (refine mix_call (by rfl) (by rfl) (by rfl) ?_; intro pM Qs hQs; go_wp2_with (first | (go_at_call 7; refine Calls.mono (cT _ (Cnts.to paW (by repeat (first | with_reducible exact Below.refl _ _ | with_reducible assumption | refine bgw ?_ (by first | (simp; done) | (simp; omega) | omega) _ | refine Below.setCell ?_ (by first | exact Nat.le_of_not_lt (by assumption) | (simp; done) | (simp; omega) | omega) _ | refine Below.alloc ?_ (by first | (simp; done) | (simp; omega) | omega) _ | refine Below.drew ?_)))) ?_; rintro e w1 ⟨⟨A5, c5, rfl, hle5, hmx5, hnil5, hP5, hF5⟩, q5, rfl⟩) | (go_at_call 8; refine Calls.mono (cC _ (Cnts.to paW (by repeat (first | with_reducible exact Below.refl _ _ | with_reducible assumption | refine bgw ?_ (by first | (simp; done) | (simp; omega) | omega) _ | refine Below.setCell ?_ (by first | exact Nat.le_of_not_lt (by assumption) | (simp; done) | (simp; omega) | omega) _ | refine Below.alloc ?_ (by first | (simp; done) | (simp; omega) | omega) _ | refine Below.drew ?_)))) ?_; rintro e w1 ⟨⟨A6, c6, rfl, hle6, hmx6, hnil6, hP6, hF6⟩, q6, rfl⟩)); refine hQs _ _ (by repeat (first | with_reducible exact Below.refl _ _ | with_reducible assumption | refine bgw ?_ (by first | (simp; done) | (simp; omega) | omega) _ | refine Below.setCell ?_ (by first | exact Nat.le_of_not_lt (by assumption) | (simp; done) | (simp; omega) | omega) _ | refine Below.alloc ?_ (by first | (simp; done) | (simp; omega) | omega) _ | refine Below.drew ?_)) ?_)))
  refine mix_make #[.int .i64 0, .int .i64 0, .slice none 0 0] 26 none (by rfl) (by rfl) (by rfl) (by rfl) (fun w => by simp [go_sem, mval]) ?_
  intro b7 wb hbb kb hS
  obtain ⟨qb, rfl⟩ := gw_of_below hbb
  refine mix_make #[.int .i64 0, .int .i64 0, .slice none 0 0] 26 none (by rfl) (by rfl) (by rfl) (by rfl) (fun w => by simp [go_sem, mval]) ?_
  intro b8 wc hbc kc hS8
  obtain ⟨qc, rfl⟩ := gw_of_below hbc
  have n7 : W.heap.size ≤ b7 := Nat.le_of_not_lt fun h => hS (by simp [h])
  have n8 : W.heap.size ≤ b8 := Nat.le_of_not_lt fun h => hS8 (by simp [h])
  have n78 : b7 ≠ b8 := fun h => hS8 (by simp [h])
  clear hbb hbc hS hS8
  simp only [mval]
  first
    | (refine mix_end ?_
       intro pE
       simp only [List.drop_succ_cons, List.drop_zero])
    | (refine mix_end ?_
       intro pE
       simp only [List.drop_succ_cons, List.drop_zero])
  refine list_nm ?_
  intro Y hY
  have kA1 : blk Y w.heap.size #[.int .i64 nx, .int .i64 ny, .slice A l.length cap] 26 := by rw [hY]; exact (by apply blk_of; (repeat (first | with_reducible exact kA | with_reducible apply blk_drew | with_reducible apply blk_gw | with_reducible apply blk_alloc | with_reducible apply blk_set | ((with_reducible apply blk_other); focus omega))); (first | rfl | simp))
  have kB1 : blk Y (w.heap.size + 1) #[.int .i64 mx, .int .i64 my, .slice B_ r.length cbp] 26 := by rw [hY]; exact (by apply blk_of; (repeat (first | with_reducible exact kB | with_reducible apply blk_drew | with_reducible apply blk_gw | with_reducible apply blk_alloc | with_reducible apply blk_set | ((with_reducible apply blk_other); focus omega))); (first | rfl | simp))
  have k7 : blk Y b7 #[.int .i64 0, .int .i64 0, .slice none 0 0] 26 := by rw [hY]; exact (by apply blk_of; (repeat (first | with_reducible exact kb | with_reducible apply blk_drew | with_reducible apply blk_gw | with_reducible apply blk_alloc | with_reducible apply blk_set | ((with_reducible apply blk_other); focus omega))); (first | rfl | simp))
  have k8 : blk Y b8 #[.int .i64 0, .int .i64 0, .slice none 0 0] 26 := by rw [hY]; exact (by apply blk_of; (repeat (first | with_reducible exact kc | with_reducible apply blk_drew | with_reducible apply blk_gw | with_reducible apply blk_alloc | with_reducible apply blk_set | ((with_reducible apply blk_other); focus omega))); (first | rfl | simp))
  have hbY : Below w.heap.size w Y := by rw [hY]; exact (by repeat (first | with_reducible exact Below.refl _ _ | with_reducible assumption | refine bgw ?_ (by first | (simp; done) | (simp; omega) | omega) _ | refine Below.setCell ?_ (by first | exact Nat.le_of_not_lt (by assumption) | (simp; done) | (simp; omega) | omega) _ | refine Below.alloc ?_ (by first | (simp; done) | (simp; omega) | omega) _ | refine Below.drew ?_))
  have hP5Y : Cnts Y A5 l := by rw [hY]; exact Cnts.to hP5 (by repeat (first | with_reducible exact Below.refl _ _ | with_reducible assumption | refine bgw ?_ (by first | (simp; done) | (simp; omega) | omega) _ | refine Below.setCell ?_ (by first | exact Nat.le_of_not_lt (by assumption) | (simp; done) | (simp; omega) | omega) _ | refine Below.alloc ?_ (by first | (simp; done) | (simp; omega) | omega) _ | refine Below.drew ?_))
  have hP6Y : Cnts Y A6 l := by rw [hY]; exact Cnts.to hP6 (by repeat (first | with_reducible exact Below.refl _ _ | with_reducible assumption | refine bgw ?_ (by first | (simp; done) | (simp; omega) | omega) _ | refine Below.setCell ?_ (by first | exact Nat.le_of_not_lt (by assumption) | (simp; done) | (simp; omega) | omega) _ | refine Below.alloc ?_ (by first | (simp; done) | (simp; omega) | omega) _ | refine Below.drew ?_))
  have hTC : l = [] ∨ ∃ T cT tT C cC tC, A5 = some ⟨T, 0, none⟩ ∧ A6 = some ⟨C, 0, none⟩ ∧ W.heap.size ≤ T ∧ T < C ∧ blk Y T cT tT ∧ blk Y C cC tC := by
    rcases hF5 with h | ⟨T, cT, tT, rfl, h1, k1⟩
    · exact .inl h
    rcases hF6 with h | ⟨C, cC, tC, rfl, h2, k2⟩
    · exact .inl h
    have h3 := blk_lt k1
    have h4 := blk_lt k2
    refine .inr ⟨T, cT, tT, C, cC, tC, rfl, rfl, ?_, ?_, ?_, ?_⟩
    · (try simp at h1); omega
    · (try simp at h2 h3); omega
    · rw [hY]; exact blk_below (by repeat (first | with_reducible exact Below.refl _ _ | with_reducible assumption | refine bgw ?_ (by first | (simp; done) | (simp; omega) | omega) _ | refine Below.setCell ?_ (by first | exact Nat.le_of_not_lt (by assumption) | (simp; done) | (simp; omega) | omega) _ | refine Below.alloc ?_ (by first | (simp; done) | (simp; omega) | omega) _ | refine Below.drew ?_)) k1
    · rw [hY]; exact blk_below (by repeat (first | with_reducible exact Below.refl _ _ | with_reducible assumption | refine bgw ?_ (by first | (simp; done) | (simp; omega) | omega) _ | refine Below.setCell ?_ (by first | exact Nat.le_of_not_lt (by assumption) | (simp; done) | (simp; omega) | omega) _ | refine Below.alloc ?_ (by first | (simp; done) | (simp; omega) | omega) _ | refine Below.drew ?_)) k2
  have hszY := hbY.size
  have paY := Cnts.to pa hbY
  have pbY := Cnts.to pb hbY
  clear hY okA ckA_0 ckA_1 ckA_2 fkA_0 fkA_1 fkA_2 okB ckB_0 ckB_1 ckB_2 fkB_0 fkB_1 fkB_2 kA kB kb kc hP5 hP6 hF5 hF6 paW pbW hbW cT cC
  have ok7 := blk_older k7
  have ck7_0 : _ = some _ := blk_cell k7 0
  have ck7_1 : _ = some _ := blk_cell k7 1
  have ck7_2 : _ = some _ := blk_cell k7 2
  have fk7_0 := blk_free k7 0
  have fk7_1 := blk_free k7 1
  have fk7_2 := blk_free k7 2
  have ok8 := blk_older k8
  have ck8_0 : _ = some _ := blk_cell k8 0
  have ck8_1 : _ = some _ := blk_cell k8 1
  have ck8_2 : _ = some _ := blk_cell k8 2
  have fk8_0 := blk_free k8 0
  have fk8_1 := blk_free k8 1
  have fk8_2 := blk_free k8 2
  go_upto_region 4 with fail
  refine wp_named ?_
  intro X hX
  have kA2 : blk X w.heap.size #[.int .i64 nx, .int .i64 ny, .slice A l.length cap] 26 := by rw [hX]; exact (by apply blk_of; (repeat (first | with_reducible exact kA1 | with_reducible apply blk_drew | with_reducible apply blk_gw | with_reducible apply blk_alloc | with_reducible apply blk_set | ((with_reducible apply blk_other); focus omega))); (first | rfl | simp))
  have kB2 : blk X (w.heap.size + 1) #[.int .i64 mx, .int .i64 my, .slice B_ r.length cbp] 26 := by rw [hX]; exact (by apply blk_of; (repeat (first | with_reducible exact kB1 | with_reducible apply blk_drew | with_reducible apply blk_gw | with_reducible apply blk_alloc | with_reducible apply blk_set | ((with_reducible apply blk_other); focus omega))); (first | rfl | simp))
  have kE : blk X b7 #[.int .i64 gx, .int .i64 gy, .slice A5 l.length c5] 26 := by rw [hX]; exact (by apply blk_of; (repeat (first | with_reducible exact k7 | with_reducible apply blk_drew | with_reducible apply blk_gw | with_reducible apply blk_alloc | with_reducible apply blk_set | ((with_reducible apply blk_other); focus omega))); (first | rfl | simp))
  have kF : blk X b8 #[.int .i64 nx, .int .i64 ny, .slice A6 l.length c6] 26 := by rw [hX]; exact (by apply blk_of; (repeat (first | with_reducible exact k8 | with_reducible apply blk_drew | with_reducible apply blk_gw | with_reducible apply blk_alloc | with_reducible apply blk_set | ((with_reducible apply blk_other); focus omega))); (first | rfl | simp))
  have hbX : Below w.heap.size w X := by
    have g7 : w.heap.size ≤ b7 := by omega
    have g8 : w.heap.size ≤ b8 := by omega
    rw [hX]
    repeat (first | with_reducible exact hbY | with_reducible refine Below.setCell ?_ (by first | exact g7 | exact g8) _)
  have hP5X : Cnts X A5 l := by
    refine cnts_keep2 k7 k8 hP5Y fun b hb hb2 => ?_
    rw [hX]
    repeat (first | with_reducible exact sm_refl _ _ | with_reducible refine sm_gw ?_ | with_reducible refine sm_set ?_ hb | with_reducible refine sm_set ?_ hb2)
  have hP6X : Cnts X A6 l := by
    refine cnts_keep2 k7 k8 hP6Y fun b hb hb2 => ?_
    rw [hX]
    repeat (first | with_reducible exact sm_refl _ _ | with_reducible refine sm_gw ?_ | with_reducible refine sm_set ?_ hb | with_reducible refine sm_set ?_ hb2)
  have hTX : l = [] ∨ ∃ T cT tT C cC tC, A5 = some ⟨T, 0, none⟩ ∧ A6 = some ⟨C, 0, none⟩ ∧ W.heap.size ≤ T ∧ T < C ∧ blk X T cT tT ∧ blk X C cC tC := by
    rcases hTC with h | ⟨T, cT, tT, C, cC, tC, rfl, rfl, h1, h2, k1, k2⟩
    · exact .inl h
    rcases Nat.eq_zero_or_pos l.length with h0 | h0
    · exact .inl (List.eq_nil_of_length_eq_zero h0)
    · have t7 := cnts_ne k7 hP5Y h0
      have t8 := cnts_ne k8 hP5Y h0
      have u7 := cnts_ne k7 hP6Y h0
      have u8 := cnts_ne k8 hP6Y h0
      refine .inr ⟨T, cT, tT, C, cC, tC, rfl, rfl, h1, h2, blk_sm ?_ k1, blk_sm ?_ k2⟩
      · rw [hX]
        repeat (first | with_reducible exact sm_refl _ _ | with_reducible refine sm_gw ?_ | with_reducible refine sm_set ?_ t7 | with_reducible refine sm_set ?_ t8)
      · rw [hX]
        repeat (first | with_reducible exact sm_refl _ _ | with_reducible refine sm_gw ?_ | with_reducible refine sm_set ?_ u7 | with_reducible refine sm_set ?_ u8)
  clear hX ok7 ck7_0 ck7_1 ck7_2 fk7_0 fk7_1 fk7_2 ok8 ck8_0 ck8_1 ck8_2 fk8_0 fk8_1 fk8_2 kA1 kB1 k7 k8 hP5Y hP6Y hTC paY pbY hbY
  have hszX := hbX.size
  have paX := Cnts.to pa hbX
  have pbX := Cnts.to pb hbX
  have gE := blk_lt kE
  have gF := blk_lt kF
  have okA2 := blk_older kA2
  have ckA2_0 : _ = some _ := blk_cell kA2 0
  have ckA2_1 : _ = some _ := blk_cell kA2 1
  have ckA2_2 : _ = some _ := blk_cell kA2 2
  have fkA2_0 := blk_free kA2 0
  have fkA2_1 := blk_free kA2 1
  have fkA2_2 := blk_free kA2 2
  have okB2 := blk_older kB2
  have ckB2_0 : _ = some _ := blk_cell kB2 0
  have ckB2_1 : _ = some _ := blk_cell kB2 1
  have ckB2_2 : _ = some _ := blk_cell kB2 2
  have fkB2_0 := blk_free kB2 0
  have fkB2_1 := blk_free kB2 1
  have fkB2_2 := blk_free kB2 2
  have okE := blk_older kE
  have ckE_0 : _ = some _ := blk_cell kE 0
  have ckE_1 : _ = some _ := blk_cell kE 1
  have ckE_2 : _ = some _ := blk_cell kE 2
  have fkE_0 := blk_free kE 0
  have fkE_1 := blk_free kE 1
  have fkE_2 := blk_free kE 2
  have okF := blk_older kF
  have ckF_0 : _ = some _ := blk_cell kF 0
  have ckF_1 : _ = some _ := blk_cell kF 1
  have ckF_2 : _ = some _ := blk_cell kF 2
  have fkF_0 := blk_free kF 0
  have fkF_1 := blk_free kF 1
  have fkF_2 := blk_free kF 2
  have hTXH : Hid (_ ∨ _) := hTX
  clear hTX
  go_cut [56] (fun s wx => s = .bool false ∧ Below X.heap.size X wx)
  case first =>
    cases V0
    · skip
      first
        | (refine wp_mix 6 [0, 1, 0, 7, 0, 0, 63, 127] [] [0, 1, 2, 3, 4, 5] (by kernel_rfl) (by decide +kernel) ?_
           repeat (first | (refine mix_skip (by rfl) (by rfl) (by rfl) (by rfl) ?_) | (refine mix_early (by rfl) (by rfl) (by rfl) ?_; go_big_quiet_step (fail); with_reducible refine wpQuiet_nil ?_) | (refine mix_late (by rfl) (by rfl) (by rfl) ?_; go_big_quiet_step (fail); with_reducible refine wpQuiet_nil ?_) | (refine mix_call (by rfl) (by rfl) (by rfl) ?_; intro pM Qs hQs; go_wp2_with (first | (go_at_call 10; refine Calls.mono (cR _ (Cnts.to paX (by repeat (first | with_reducible exact Below.refl _ _ | with_reducible assumption | refine bgw ?_ (by first | (simp; done) | (simp; omega) | omega) _ | refine Below.setCell ?_ (by first | exact Nat.le_of_not_lt (by assumption) | (simp; done) | (simp; omega) | omega) _ | refine Below.alloc ?_ (by first | (simp; done) | (simp; omega) | omega) _ | refine Below.drew ?_)))) ?_; rintro e w1 ⟨⟨A9, c9, rfl, hle9, hmx9, hnil9, hP9, hF9⟩, q9, rfl⟩) | (go_at_call 7; refine Calls.mono (cG A5 c5 hle5 hnil5 _ (Cnts.to hP5X (by repeat (first | with_reducible exact Below.refl _ _ | with_reducible assumption | refine bgw ?_ (by first | (simp; done) | (simp; omega) | omega) _ | refine Below.setCell ?_ (by first | exact Nat.le_of_not_lt (by assumption) | (simp; done) | (simp; omega) | omega) _ | refine Below.alloc ?_ (by first | (simp; done) | (simp; omega) | omega) _ | refine Below.drew ?_)))) ?_; rintro e w1 ⟨⟨A0, c0, rfl, hle0, hmx0, hnil0, hP0, hF0⟩, q0, rfl⟩) | (go_at_call 9; (with_reducible show Calls _ _ #[_, .agg #[_, _, .slice B_ _ _]] _ _); refine Calls.mono (gw_at (cD _ (Cnts.to paX (by repeat (first | with_reducible exact Below.refl _ _ | with_reducible assumption | refine bgw ?_ (by first | (simp; done) | (simp; omega) | omega) _ | refine Below.setCell ?_ (by first | exact Nat.le_of_not_lt (by assumption) | (simp; done) | (simp; omega) | omega) _ | refine Below.alloc ?_ (by first | (simp; done) | (simp; omega) | omega) _ | refine Below.drew ?_))) (Cnts.to pbX (by repeat (first | with_reducible exact Below.refl _ _ | with_reducible assumption | refine bgw ?_ (by first | (simp; done) | (simp; omega) | omega) _ | refine Below.setCell ?_ (by first | exact Nat.le_of_not_lt (by assumption) | (simp; done) | (simp; omega) | omega) _ | refine Below.alloc ?_ (by first | (simp; done) | (simp; omega) | omega) _ | refine Below.drew ?_))))) ?_; rintro e w1 ⟨rfl, q4, rfl⟩) | (go_at_call 9; refine Calls.mono (gw_at (cE _ _ _ _ _ _ _ (by first | exact Cnts.to hP5X (by repeat (first | with_reducible exact Below.refl _ _ | with_reducible assumption | refine bgw ?_ (by first | (simp; done) | (simp; omega) | omega) _ | refine Below.setCell ?_ (by first | exact Nat.le_of_not_lt (by assumption) | (simp; done) | (simp; omega) | omega) _ | refine Below.alloc ?_ (by first | (simp; done) | (simp; omega) | omega) _ | refine Below.drew ?_)) | exact Cnts.to hP6X (by repeat (first | with_reducible exact Below.refl _ _ | with_reducible assumption | refine bgw ?_ (by first | (simp; done) | (simp; omega) | omega) _ | refine Below.setCell ?_ (by first | exact Nat.le_of_not_lt (by assumption) | (simp; done) | (simp; omega) | omega) _ | refine Below.alloc ?_ (by first | (simp; done) | (simp; omega) | omega) _ | refine Below.drew ?_)) | exact Cnts.to hP0 (by repeat (first | with_reducible exact Below.refl _ _ | with_reducible assumption | refine bgw ?_ (by first | (simp; done) | (simp; omega) | omega) _ | refine Below.setCell ?_ (by first | exact Nat.le_of_not_lt (by assumption) | (simp; done) | (simp; omega) | omega) _ | refine Below.alloc ?_ (by first | (simp; done) | (simp; omega) | omega) _ | refine Below.drew ?_))) (by first | exact Cnts.to paX (by repeat (first | with_reducible exact Below.refl _ _ | with_reducible assumption | refine bgw ?_ (by first | (simp; done) | (simp; omega) | omega) _ | refine Below.setCell ?_ (by first | exact Nat.le_of_not_lt (by assumption) | (simp; done) | (simp; omega) | omega) _ | refine Below.alloc ?_ (by first | (simp; done) | (simp; omega) | omega) _ | refine Below.drew ?_)) | exact Cnts.to hP9 (by repeat (first | with_reducible exact Below.refl _ _ | with_reducible assumption | refine bgw ?_ (by first | (simp; done) | (simp; omega) | omega) _ | refine Below.setCell ?_ (by first | exact Nat.le_of_not_lt (by assumption) | (simp; done) | (simp; omega) | omega) _ | refine Below.alloc ?_ (by first | (simp; done) | (simp; omega) | omega) _ | refine Below.drew ?_))))) ?_; rintro e w1 ⟨rfl, q3, rfl⟩) | (go_at_call 11; (with_reducible show Calls _ _ #[_, .agg #[_, _, .slice B_ _ _]] _ _); refine Calls.mono (gw_at (cM _ (Cnts.to paX (by repeat (first | with_reducible exact Below.refl _ _ | with_reducible assumption | refine bgw ?_ (by first | (simp; done) | (simp; omega) | omega) _ | refine Below.setCell ?_ (by first | exact Nat.le_of_not_lt (by assumption) | (simp; done) | (simp; omega) | omega) _ | refine Below.alloc ?_ (by first | (simp; done) | (simp; omega) | omega) _ | refine Below.drew ?_))) (Cnts.to pbX (by repeat (first | with_reducible exact Below.refl _ _ | with_reducible assumption | refine bgw ?_ (by first | (simp; done) | (simp; omega) | omega) _ | refine Below.setCell ?_ (by first | exact Nat.le_of_not_lt (by assumption) | (simp; done) | (simp; omega) | omega) _ | refine Below.alloc ?_ (by first | (simp; done) | (simp; omega) | omega) _ | refine Below.drew ?_))))) ?_; rintro e w1 ⟨rfl, q4, rfl⟩) | (go_at_call 11; refine Calls.mono (gw_at (cN _ _ _ (Cnts.to paX (by repeat (first | with_reducible exact Below.refl _ _ | with_reducible assumption | refine bgw ?_ (by first | (simp; done) | (simp; omega) | omega) _ | refine Below.setCell ?_ (by first | exact Nat.le_of_not_lt (by assumption) | (simp; done) | (simp; omega) | omega) _ | refine Below.alloc ?_ (by first | (simp; done) | (simp; omega) | omega) _ | refine Below.drew ?_))) (Cnts.to hP6X (by repeat (first | with_reducible exact Below.refl _ _ | with_reducible assumption | refine bgw ?_ (by first | (simp; done) | (simp; omega) | omega) _ | refine Below.setCell ?_ (by first | exact Nat.le_of_not_lt (by assumption) | (simp; done) | (simp; omega) | omega) _ | refine Below.alloc ?_ (by first | (simp; done) | (simp; omega) | omega) _ | refine Below.drew ?_))))) ?_; rintro e w1 ⟨rfl, q4, rfl⟩)); refine hQs _ _ (by repeat (first | with_reducible exact Below.refl _ _ | with_reducible assumption | refine bgw ?_ (by first | (simp; done) | (simp; omega) | omega) _ | refine Below.setCell ?_ (by first | exact Nat.le_of_not_lt (by assumption) | (simp; done) | (simp; omega) | omega) _ | refine Below.alloc ?_ (by first | (simp; done) | (simp; omega) | omega) _ | refine Below.drew ?_)) ?_))
           refine mix_end ?_
           intro pE
           simp only [List.drop_succ_cons, List.drop_zero])
        | (refine wp_mix 33 [0, 0, 2, 7, 15, 31, 63, 63, 255, 511, 1023, 2047, 4095, 8191, 4095, 32767, 65535, 131071, 262143, 524287, 524287, 2097151, 524287, 524287, 16777215, 33554431, 67108863, 134217727, 268435455, 268435455, 1073741823, 2147483647, 4294967295] [6, 7, 12, 19, 20, 28, 29] [0, 1, 2, 3, 4, 5, 6, 7, 8, 9, 10, 11, 12, 13, 14, 15, 16, 17, 18, 19, 20, 21, 22, 23, 24, 25, 26, 27, 28, 29, 30, 31, 32] (by kernel_rfl) (by decide +kernel) ?_
           repeat (first | (refine mix_skip (by rfl) (by rfl) (by rfl) (by rfl) ?_) | (refine mix_early (by rfl) (by rfl) (by rfl) ?_; go_big_quiet_step (fail); with_reducible refine wpQuiet_nil ?_) | (refine mix_late (by rfl) (by rfl) (by rfl) ?_; go_big_quiet_step (fail); with_reducible refine wpQuiet_nil ?_) | (refine mix_call (by rfl) (by rfl) (by rfl) ?_; intro pM Qs hQs; go_wp2_with (first | (go_at_call 10; refine Calls.mono (cR _ (Cnts.to paX (by repeat (first | with_reducible exact Below.refl _ _ | with_reducible assumption | refine bgw ?_ (by first | (simp; done) | (simp; omega) | omega) _ | refine Below.setCell ?_ (by first | exact Nat.le_of_not_lt (by assumption) | (simp; done) | (simp; omega) | omega) _ | refine Below.alloc ?_ (by first | (simp; done) | (simp; omega) | omega) _ | refine Below.drew ?_)))) ?_; rintro e w1 ⟨⟨A9, c9, rfl, hle9, hmx9, hnil9, hP9, hF9⟩, q9, rfl⟩) | (go_at_call 7; refine Calls.mono (cG A5 c5 hle5 hnil5 _ (Cnts.to hP5X (by repeat (first | with_reducible exact Below.refl _ _ | with_reducible assumption | refine bgw ?_ (by first | (simp; done) | (simp; omega) | omega) _ | refine Below.setCell ?_ (by first | exact Nat.le_of_not_lt (by assumption) | (simp; done) | (simp; omega) | omega) _ | refine Below.alloc ?_ (by first | (simp; done) | (simp; omega) | omega) _ | refine Below.drew ?_)))) ?_; rintro e w1 ⟨⟨A0, c0, rfl, hle0, hmx0, hnil0, hP0, hF0⟩, q0, rfl⟩) | (go_at_call 9; (with_reducible show Calls _ _ #[_, .agg #[_, _, .slice B_ _ _]] _ _); refine Calls.mono (gw_at (cD _ (Cnts.to paX (by repeat (first | with_reducible exact Below.refl _ _ | with_reducible assumption | refine bgw ?_ (by first | (simp; done) | (simp; omega) | omega) _ | refine Below.setCell ?_ (by first | exact Nat.le_of_not_lt (by assumption) | (simp; done) | (simp; omega) | omega) _ | refine Below.alloc ?_ (by first | (simp; done) | (simp; omega) | omega) _ | refine Below.drew ?_))) (Cnts.to pbX (by repeat (first | with_reducible exact Below.refl _ _ | with_reducible assumption | refine bgw ?_ (by first | (simp; done) | (simp; omega) | omega) _ | refine Below.setCell ?_ (by first | exact Nat.le_of_not_lt (by assumption) | (simp; done) | (simp; omega) | omega) _ | refine Below.alloc ?_ (by first | (simp; done) | (simp; omega) | omega) _ | refine Below.drew ?_))))) ?_; rintro e w1 ⟨rfl, q4, rfl⟩) | (go_at_call 9; refine Calls.mono (gw_at (cE _ _ _ _ _ _ _ (by first | exact Cnts.to hP5X (by repeat (first | with_reducible exact Below.refl _ _ | with_reducible assumption | refine bgw ?_ (by first | (simp; done) | (simp; omega) | omega) _ | refine Below.setCell ?_ (by first | exact Nat.le_of_not_lt (by assumption) | (simp; done) | (simp; omega) | omega) _ | refine Below.alloc ?_ (by first | (simp; done) | (simp; omega) | omega) _ | refine Below.drew ?_)) | exact Cnts.to hP6X (by repeat (first | with_reducible exact Below.refl _ _ | with_reducible assumption | refine bgw ?_ (by first | (simp; done) | (simp; omega) | omega) _ | refine Below.setCell ?_ (by first | exact Nat.le_of_not_lt (by assumption) | (simp; done) | (simp; omega) | omega) _ | refine Below.alloc ?_ (by first | (simp; done) | (simp; omega) | omega) _ | refine Below.drew ?_)) | exact Cnts.to hP0 (by repeat (first | with_reducible exact Below.refl _ _ | with_reducible assumption | refine bgw ?_ (by first | (simp; done) | (simp; omega) | omega) _ | refine Below.setCell ?_ (by first | exact Nat.le_of_not_lt (by assumption) | (simp; done) | (simp; omega) | omega) _ | refine Below.alloc ?_ (by first | (simp; done) | (simp; omega) | omega) _ | refine Below.drew ?_))) (by first | exact Cnts.to paX (by repeat (first | with_reducible exact Below.refl _ _ | with_reducible assumption | refine bgw ?_ (by first | (simp; done) | (simp; omega) | omega) _ | refine Below.setCell ?_ (by first | exact Nat.le_of_not_lt (by assumption) | (simp; done) | (simp; omega) | omega) _ | refine Below.alloc ?_ (by first | (simp; done) | (simp; omega) | omega) _ | refine Below.drew ?_)) | exact Cnts.to hP9 (by repeat (first | with_reducible exact Below.refl _ _ | with_reducible assumption | refine bgw ?_ (by first | (simp; done) | (simp; omega) | omega) _ | refine Below.setCell ?_ (by first | exact Nat.le_of_not_lt (by assumption) | (simp; done) | (simp; omega) | omega) _ | refine Below.alloc ?_ (by first | (simp; done) | (simp; omega) | omega) _ | refine Below.drew ?_))))) ?_; rintro e w1 ⟨rfl, q3, rfl⟩) | (go_at_call 11; (with_reducible show Calls _ _ #[_, .agg #[_, _, .slice B_ _ _]] _ _); refine Calls.mono (gw_at (cM _ (Cnts.to paX (by repeat (first | with_reducible exact Below.refl _ _ | with_reducible assumption | refine bgw ?_ (by first | (simp; done) | (simp; omega) | omega) _ | refine Below.setCell ?_ (by first | exact Nat.le_of_not_lt (by assumption) | (simp; done) | (simp; omega) | omega) _ | refine Below.alloc ?_ (by first | (simp; done) | (simp; omega) | omega) _ | refine Below.drew ?_))) (Cnts.to pbX (by repeat (first | with_reducible exact Below.refl _ _ | with_reducible assumption | refine bgw ?_ (by first | (simp; done) | (simp; omega) | omega) _ | refine Below.setCell ?_ (by first | exact Nat.le_of_not_lt (by assumption) | (simp; done) | (simp; omega) | omega) _ | refine Below.alloc ?_ (by first | (simp; done) | (simp; omega) | omega) _ | refine Below.drew ?_))))) ?_; rintro e w1 ⟨rfl, q4, rfl⟩) | (go_at_call 11; refine Calls.mono (gw_at (cN _ _ _ (Cnts.to paX (by repeat (first | with_reducible exact Below.refl _ _ | with_reducible assumption | refine bgw ?_ (by first | (simp; done) | (simp; omega) | omega) _ | refine Below.setCell ?_ (by first | exact Nat.le_of_not_lt (by assumption) | (simp; done) | (simp; omega) | omega) _ | refine Below.alloc ?_ (by first | (simp; done) | (simp; omega) | omega) _ | refine Below.drew ?_))) (Cnts.to hP6X (by repeat (first | with_reducible exact Below.refl _ _ | with_reducible assumption | refine bgw ?_ (by first | (simp; done) | (simp; omega) | omega) _ | refine Below.setCell ?_ (by first | exact Nat.le_of_not_lt (by assumption) | (simp; done) | (simp; omega) | omega) _ | refine Below.alloc ?_ (by first | (simp; done) | (simp; omega) | omega) _ | refine Below.drew ?_))))) ?_; rintro e w1 ⟨rfl, q4, rfl⟩)); refine hQs _ _ (by repeat (first | with_reducible exact Below.refl _ _ | with_reducible assumption | refine bgw ?_ (by first | (simp; done) | (simp; omega) | omega) _ | refine Below.setCell ?_ (by first | exact Nat.le_of_not_lt (by assumption) | (simp; done) | (simp; omega) | omega) _ | refine Below.alloc ?_ (by first | (simp; done) | (simp; omega) | omega) _ | refine Below.drew ?_)) ?_))
           refine mix_end ?_
           intro pE
           simp only [List.drop_succ_cons, List.drop_zero])
      go_wp2_with fail
      go_meet
      exact ⟨rfl, (by repeat (first | with_reducible exact Below.refl _ _ | with_reducible assumption | refine bgw ?_ (by first | (simp; done) | (simp; omega) | omega) _ | refine Below.setCell ?_ (by first | exact Nat.le_of_not_lt (by assumption) | (simp; done) | (simp; omega) | omega) _ | refine Below.alloc ?_ (by first | (simp; done) | (simp; omega) | omega) _ | refine Below.drew ?_))⟩
    · skip
      first
        | (refine wp_mix 6 [0, 1, 0, 7, 0, 0, 63, 127] [] [0, 1, 2, 3, 4, 5] (by kernel_rfl) (by decide +kernel) ?_
           repeat (first | (refine mix_skip (by rfl) (by rfl) (by rfl) (by rfl) ?_) | (refine mix_early (by rfl) (by rfl) (by rfl) ?_; go_big_quiet_step (fail); with_reducible refine wpQuiet_nil ?_) | (refine mix_late (by rfl) (by rfl) (by rfl) ?_; go_big_quiet_step (fail); with_reducible refine wpQuiet_nil ?_) | (refine mix_call (by rfl) (by rfl) (by rfl) ?_; intro pM Qs hQs; go_wp2_with (first | (go_at_call 10; refine Calls.mono (cR _ (Cnts.to paX (by repeat (first | with_reducible exact Below.refl _ _ | with_reducible assumption | refine bgw ?_ (by first | (simp; done) | (simp; omega) | omega) _ | refine Below.setCell ?_ (by first | exact Nat.le_of_not_lt (by assumption) | (simp; done) | (simp; omega) | omega) _ | refine Below.alloc ?_ (by first | (simp; done) | (simp; omega) | omega) _ | refine Below.drew ?_)))) ?_; rintro e w1 ⟨⟨A9, c9, rfl, hle9, hmx9, hnil9, hP9, hF9⟩, q9, rfl⟩) | (go_at_call 7; refine Calls.mono (cG A5 c5 hle5 hnil5 _ (Cnts.to hP5X (by repeat (first | with_reducible exact Below.refl _ _ | with_reducible assumption | refine bgw ?_ (by first | (simp; done) | (simp; omega) | omega) _ | refine Below.setCell ?_ (by first | exact Nat.le_of_not_lt (by assumption) | (simp; done) | (simp; omega) | omega) _ | refine Below.alloc ?_ (by first | (simp; done) | (simp; omega) | omega) _ | refine Below.drew ?_)))) ?_; rintro e w1 ⟨⟨A0, c0, rfl, hle0, hmx0, hnil0, hP0, hF0⟩, q0, rfl⟩) | (go_at_call 9; (with_reducible show Calls _ _ #[_, .agg #[_, _, .slice B_ _ _]] _ _); refine Calls.mono (gw_at (cD _ (Cnts.to paX (by repeat (first | with_reducible exact Below.refl _ _ | with_reducible assumption | refine bgw ?_ (by first | (simp; done) | (simp; omega) | omega) _ | refine Below.setCell ?_ (by first | exact Nat.le_of_not_lt (by assumption) | (simp; done) | (simp; omega) | omega) _ | refine Below.alloc ?_ (by first | (simp; done) | (simp; omega) | omega) _ | refine Below.drew ?_))) (Cnts.to pbX (by repeat (first | with_reducible exact Below.refl _ _ | with_reducible assumption | refine bgw ?_ (by first | (simp; done) | (simp; omega) | omega) _ | refine Below.setCell ?_ (by first | exact Nat.le_of_not_lt (by assumption) | (simp; done) | (simp; omega) | omega) _ | refine Below.alloc ?_ (by first | (simp; done) | (simp; omega) | omega) _ | refine Below.drew ?_))))) ?_; rintro e w1 ⟨rfl, q4, rfl⟩) | (go_at_call 9; refine Calls.mono (gw_at (cE _ _ _ _ _ _ _ (by first | exact Cnts.to hP5X (by repeat (first | with_reducible exact Below.refl _ _ | with_reducible assumption | refine bgw ?_ (by first | (simp; done) | (simp; omega) | omega) _ | refine Below.setCell ?_ (by first | exact Nat.le_of_not_lt (by assumption) | (simp; done) | (simp; omega) | omega) _ | refine Below.alloc ?_ (by first | (simp; done) | (simp; omega) | omega) _ | refine Below.drew ?_)) | exact Cnts.to hP6X (by repeat (first | with_reducible exact Below.refl _ _ | with_reducible assumption | refine bgw ?_ (by first | (simp; done) | (simp; omega) | omega) _ | refine Below.setCell ?_ (by first | exact Nat.le_of_not_lt (by assumption) | (simp; done) | (simp; omega) | omega) _ | refine Below.alloc ?_ (by first | (simp; done) | (simp; omega) | omega) _ | refine Below.drew ?_)) | exact Cnts.to hP0 (by repeat (first | with_reducible exact Below.refl _ _ | with_reducible assumption | refine bgw ?_ (by first | (simp; done) | (simp; omega) | omega) _ | refine Below.setCell ?_ (by first | exact Nat.le_of_not_lt (by assumption) | (simp; done) | (simp; omega) | omega) _ | refine Below.alloc ?_ (by first | (simp; done) | (simp; omega) | omega) _ | refine Below.drew ?_))) (by first | exact Cnts.to paX (by repeat (first | with_reducible exact Below.refl _ _ | with_reducible assumption | refine bgw ?_ (by first | (simp; done) | (simp; omega) | omega) _ | refine Below.setCell ?_ (by first | exact Nat.le_of_not_lt (by assumption) | (simp; done) | (simp; omega) | omega) _ | refine Below.alloc ?_ (by first | (simp; done) | (simp; omega) | omega) _ | refine Below.drew ?_)) | exact Cnts.to hP9 (by repeat (first | with_reducible exact Below.refl _ _ | with_reducible assumption | refine bgw ?_ (by first | (simp; done) | (simp; omega) | omega) _ | refine Below.setCell ?_ (by first | exact Nat.le_of_not_lt (by assumption) | (simp; done) | (simp; omega) | omega) _ | refine Below.alloc ?_ (by first | (simp; done) | (simp; omega) | omega) _ | refine Below.drew ?_))))) ?_; rintro e w1 ⟨rfl, q3, rfl⟩) | (go_at_call 11; (with_reducible show Calls _ _ #[_, .agg #[_, _, .slice B_ _ _]] _ _); refine Calls.mono (gw_at (cM _ (Cnts.to paX (by repeat (first | with_reducible exact Below.refl _ _ | with_reducible assumption | refine bgw ?_ (by first | (simp; done) | (simp; omega) | omega) _ | refine Below.setCell ?_ (by first | exact Nat.le_of_not_lt (by assumption) | (simp; done) | (simp; omega) | omega) _ | refine Below.alloc ?_ (by first | (simp; done) | (simp; omega) | omega) _ | refine Below.drew ?_))) (Cnts.to pbX (by repeat (first | with_reducible exact Below.refl _ _ | with_reducible assumption | refine bgw ?_ (by first | (simp; done) | (simp; omega) | omega) _ | refine Below.setCell ?_ (by first | exact Nat.le_of_not_lt (by assumption) | (simp; done) | (simp; omega) | omega) _ | refine Below.alloc ?_ (by first | (simp; done) | (simp; omega) | omega) _ | refine Below.drew ?_))))) ?_; rintro e w1 ⟨rfl, q4, rfl⟩) | (go_at_call 11; refine Calls.mono (gw_at (cN _ _ _ (Cnts.to paX (by repeat (first | with_reducible exact Below.refl _ _ | with_reducible assumption | refine bgw ?_ (by first | (simp; done) | (simp; omega) | omega) _ | refine Below.setCell ?_ (by first | exact Nat.le_of_not_lt (by assumption) | (simp; done) | (simp; omega) | omega) _ | refine Below.alloc ?_ (by first | (simp; done) | (simp; omega) | omega) _ | refine Below.drew ?_))) (Cnts.to hP6X (by repeat (first | with_reducible exact Below.refl _ _ | with_reducible assumption | refine bgw ?_ (by first | (simp; done) | (simp; omega) | omega) _ | refine Below.setCell ?_ (by first | exact Nat.le_of_not_lt (by assumption) | (simp; done) | (simp; omega) | omega) _ | refine Below.alloc ?_ (by first | (simp; done) | (simp; omega) | omega) _ | refine Below.drew ?_))))) ?_; rintro e w1 ⟨rfl, q4, rfl⟩)); refine hQs _ _ (by repeat (first | with_reducible exact Below.refl _ _ | with_reducible assumption | refine bgw ?_ (by first | (simp; done) | (simp; omega) | omega) _ | refine Below.setCell ?_ (by first | exact Nat.le_of_not_lt (by assumption) | (simp; done) | (simp; omega) | omega) _ | refine Below.alloc ?_ (by first | (simp; done) | (simp; omega) | omega) _ | refine Below.drew ?_)) ?_))
           refine mix_end ?_
           intro pE
           simp only [List.drop_succ_cons, List.drop_zero])
        | (refine wp_mix 33 [0, 0, 2, 7, 15, 31, 63, 63, 255, 511, 1023, 2047, 4095, 8191, 4095, 32767, 65535, 131071, 262143, 524287, 524287, 2097151, 524287, 524287, 16777215, 33554431, 67108863, 134217727, 268435455, 268435455, 1073741823, 2147483647, 4294967295] [6, 7, 12, 19, 20, 28, 29] [0, 1, 2, 3, 4, 5, 6, 7, 8, 9, 10, 11, 12, 13, 14, 15, 16, 17, 18, 19, 20, 21, 22, 23, 24, 25, 26, 27, 28, 29, 30, 31, 32] (by kernel_rfl) (by decide +kernel) ?_
           repeat (first | (refine mix_skip (by rfl) (by rfl) (by rfl) (by rfl) ?_) | (refine mix_early (by rfl) (by rfl) (by rfl) ?_; go_big_quiet_step (fail); with_reducible refine wpQuiet_nil ?_) | (refine mix_late (by rfl) (by rfl) (by rfl) ?_; go_big_quiet_step (fail); with_reducible refine wpQuiet_nil ?_) | (refine mix_call (by rfl) (by rfl) (by rfl) ?_; intro pM Qs hQs; go_wp2_with (first | (go_at_call 10; refine Calls.mono (cR _ (Cnts.to paX (by repeat (first | with_reducible exact Below.refl _ _ | with_reducible assumption | refine bgw ?_ (by first | (simp; done) | (simp; omega) | omega) _ | refine Below.setCell ?_ (by first | exact Nat.le_of_not_lt (by assumption) | (simp; done) | (simp; omega) | omega) _ | refine Below.alloc ?_ (by first | (simp; done) | (simp; omega) | omega) _ | refine Below.drew ?_)))) ?_; rintro e w1 ⟨⟨A9, c9, rfl, hle9, hmx9, hnil9, hP9, hF9⟩, q9, rfl⟩) | (go_at_call 7; refine Calls.mono (cG A5 c5 hle5 hnil5 _ (Cnts.to hP5X (by repeat (first | with_reducible exact Below.refl _ _ | with_reducible assumption | refine bgw ?_ (by first | (simp; done) | (simp; omega) | omega) _ | refine Below.setCell ?_ (by first | exact Nat.le_of_not_lt (by assumption) | (simp; done) | (simp; omega) | omega) _ | refine Below.alloc ?_ (by first | (simp; done) | (simp; omega) | omega) _ | refine Below.drew ?_)))) ?_; rintro e w1 ⟨⟨A0, c0, rfl, hle0, hmx0, hnil0, hP0, hF0⟩, q0, rfl⟩) | (go_at_call 9; (with_reducible show Calls _ _ #[_, .agg #[_, _, .slice B_ _ _]] _ _); refine Calls.mono (gw_at (cD _ (Cnts.to paX (by repeat (first | with_reducible exact Below.refl _ _ | with_reducible assumption | refine bgw ?_ (by first | (simp; done) | (simp; omega) | omega) _ | refine Below.setCell ?_ (by first | exact Nat.le_of_not_lt (by assumption) | (simp; done) | (simp; omega) | omega) _ | refine Below.alloc ?_ (by first | (simp; done) | (simp; omega) | omega) _ | refine Below.drew ?_))) (Cnts.to pbX (by repeat (first | with_reducible exact Below.refl _ _ | with_reducible assumption | refine bgw ?_ (by first | (simp; done) | (simp; omega) | omega) _ | refine Below.setCell ?_ (by first | exact Nat.le_of_not_lt (by assumption) | (simp; done) | (simp; omega) | omega) _ | refine Below.alloc ?_ (by first | (simp; done) | (simp; omega) | omega) _ | refine Below.drew ?_))))) ?_; rintro e w1 ⟨rfl, q4, rfl⟩) | (go_at_call 9; refine Calls.mono (gw_at (cE _ _ _ _ _ _ _ (by first | exact Cnts.to hP5X (by repeat (first | with_reducible exact Below.refl _ _ | with_reducible assumption | refine bgw ?_ (by first | (simp; done) | (simp; omega) | omega) _ | refine Below.setCell ?_ (by first | exact Nat.le_of_not_lt (by assumption) | (simp; done) | (simp; omega) | omega) _ | refine Below.alloc ?_ (by first | (simp; done) | (simp; omega) | omega) _ | refine Below.drew ?_)) | exact Cnts.to hP6X (by repeat (first | with_reducible exact Below.refl _ _ | with_reducible assumption | refine bgw ?_ (by first | (simp; done) | (simp; omega) | omega) _ | refine Below.setCell ?_ (by first | exact Nat.le_of_not_lt (by assumption) | (simp; done) | (simp; omega) | omega) _ | refine Below.alloc ?_ (by first | (simp; done) | (simp; omega) | omega) _ | refine Below.drew ?_)) | exact Cnts.to hP0 (by repeat (first | with_reducible exact Below.refl _ _ | with_reducible assumption | refine bgw ?_ (by first | (simp; done) | (simp; omega) | omega) _ | refine Below.setCell ?_ (by first | exact Nat.le_of_not_lt (by assumption) | (simp; done) | (simp; omega) | omega) _ | refine Below.alloc ?_ (by first | (simp; done) | (simp; omega) | omega) _ | refine Below.drew ?_))) (by first | exact Cnts.to paX (by repeat (first | with_reducible exact Below.refl _ _ | with_reducible assumption | refine bgw ?_ (by first | (simp; done) | (simp; omega) | omega) _ | refine Below.setCell ?_ (by first | exact Nat.le_of_not_lt (by assumption) | (simp; done) | (simp; omega) | omega) _ | refine Below.alloc ?_ (by first | (simp; done) | (simp; omega) | omega) _ | refine Below.drew ?_)) | exact Cnts.to hP9 (by repeat (first | with_reducible exact Below.refl _ _ | with_reducible assumption | refine bgw ?_ (by first | (simp; done) | (simp; omega) | omega) _ | refine Below.setCell ?_ (by first | exact Nat.le_of_not_lt (by assumption) | (simp; done) | (simp; omega) | omega) _ | refine Below.alloc ?_ (by first | (simp; done) | (simp; omega) | omega) _ | refine Below.drew ?_))))) ?_; rintro e w1 ⟨rfl, q3, rfl⟩) | (go_at_call 11; (with_reducible show Calls _ _ #[_, .agg #[_, _, .slice B_ _ _]] _ _); refine Calls.mono (gw_at (cM _ (Cnts.to paX (by repeat (first | with_reducible exact Below.refl _ _ | with_reducible assumption | refine bgw ?_ (by first | (simp; done) | (simp; omega) | omega) _ | refine Below.setCell ?_ (by first | exact Nat.le_of_not_lt (by assumption) | (simp; done) | (simp; omega) | omega) _ | refine Below.alloc ?_ (by first | (simp; done) | (simp; omega) | omega) _ | refine Below.drew ?_))) (Cnts.to pbX (by repeat (first | with_reducible exact Below.refl _ _ | with_reducible assumption | refine bgw ?_ (by first | (simp; done) | (simp; omega) | omega) _ | refine Below.setCell ?_ (by first | exact Nat.le_of_not_lt (by assumption) | (simp; done) | (simp; omega) | omega) _ | refine Below.alloc ?_ (by first | (simp; done) | (simp; omega) | omega) _ | refine Below.drew ?_))))) ?_; rintro e w1 ⟨rfl, q4, rfl⟩) | (go_at_call 11; refine Calls.mono (gw_at (cN _ _ _ (Cnts.to paX (by repeat (first | with_reducible exact Below.refl _ _ | with_reducible assumption | refine bgw ?_ (by first | (simp; done) | (simp; omega) | omega) _ | refine Below.setCell ?_ (by first | exact Nat.le_of_not_lt (by assumption) | (simp; done) | (simp; omega) | omega) _ | refine Below.alloc ?_ (by first | (simp; done) | (simp; omega) | omega) _ | refine Below.drew ?_))) (Cnts.to hP6X (by repeat (first | with_reducible exact Below.refl _ _ | with_reducible assumption | refine bgw ?_ (by first | (simp; done) | (simp; omega) | omega) _ | refine Below.setCell ?_ (by first | exact Nat.le_of_not_lt (by assumption) | (simp; done) | (simp; omega) | omega) _ | refine Below.alloc ?_ (by first | (simp; done) | (simp; omega) | omega) _ | refine Below.drew ?_))))) ?_; rintro e w1 ⟨rfl, q4, rfl⟩)); refine hQs _ _ (by repeat (first | with_reducible exact Below.refl _ _ | with_reducible assumption | refine bgw ?_ (by first | (simp; done) | (simp; omega) | omega) _ | refine Below.setCell ?_ (by first | exact Nat.le_of_not_lt (by assumption) | (simp; done) | (simp; omega) | omega) _ | refine Below.alloc ?_ (by first | (simp; done) | (simp; omega) | omega) _ | refine Below.drew ?_)) ?_))
           refine mix_end ?_
           intro pE
           simp only [List.drop_succ_cons, List.drop_zero])
      go_wp2_with fail
      go_meet
      exact ⟨rfl, (by repeat (first | with_reducible exact Below.refl _ _ | with_reducible assumption | refine bgw ?_ (by first | (simp; done) | (simp; omega) | omega) _ | refine Below.setCell ?_ (by first | exact Nat.le_of_not_lt (by assumption) | (simp; done) | (simp; omega) | omega) _ | refine Below.alloc ?_ (by first | (simp; done) | (simp; omega) | omega) _ | refine Below.drew ?_))⟩
  case rest =>
  obtain ⟨rfl, hbV⟩ := hcut
  generalize wc = V at *
  have kA3 := blk_below hbV kA2
  have kE3 := blk_below hbV kE
  have kF3 := blk_below hbV kF
  have hTV : l = [] ∨ ∃ T cT tT C cC tC, A5 = some ⟨T, 0, none⟩ ∧ A6 = some ⟨C, 0, none⟩ ∧ W.heap.size ≤ T ∧ T < C ∧ blk V T cT tT ∧ blk V C cC tC := by
    rcases hTXH.out with h | ⟨T, cT, tT, C, cC, tC, rfl, rfl, h1, h2, k1, k2⟩
    · exact .inl h
    · exact .inr ⟨T, cT, tT, C, cC, tC, rfl, rfl, h1, h2, blk_below hbV k1, blk_below hbV k2⟩
  have hP5V := Cnts.to hP5X hbV
  have hP6V := Cnts.to hP6X hbV
  have hbV2 : Below w.heap.size w V := Below.trans hbX (hbV.mono hbX.size)
  have hTVH : Hid (_ ∨ _) := hTV
  clear hTV hTXH hP5X hP6X kA2 kB2 kE kF okA2 ckA2_0 ckA2_1 ckA2_2 fkA2_0 fkA2_1 fkA2_2 okB2 ckB2_0 ckB2_1 ckB2_2 fkB2_0 fkB2_1 fkB2_2 okE ckE_0 ckE_1 ckE_2 fkE_0 fkE_1 fkE_2 okF ckF_0 ckF_1 ckF_2 fkF_0 fkF_1 fkF_2 hbV hbX paX pbX cR cG cD cM cN
  have hszV := hbV2.size
  have paV := Cnts.to pa hbV2
  have okA3 := blk_older kA3
  have ckA3_0 : _ = some _ := blk_cell kA3 0
  have ckA3_1 : _ = some _ := blk_cell kA3 1
  have ckA3_2 : _ = some _ := blk_cell kA3 2
  have fkA3_0 := blk_free kA3 0
  have fkA3_1 := blk_free kA3 1
  have fkA3_2 := blk_free kA3 2
  have okE3 := blk_older kE3
  have ckE3_0 : _ = some _ := blk_cell kE3 0
  have ckE3_1 : _ = some _ := blk_cell kE3 1
  have ckE3_2 : _ = some _ := blk_cell kE3 2
  have fkE3_0 := blk_free kE3 0
  have fkE3_1 := blk_free kE3 1
  have fkE3_2 := blk_free kE3 2
  go_upto_region 7 with (go_at_call 12; refine Calls.mono (cL _ (Cnts.to paV (by repeat (first | with_reducible exact Below.refl _ _ | with_reducible assumption | refine bgw ?_ (by first | (simp; done) | (simp; omega) | omega) _ | refine Below.setCell ?_ (by first | exact Nat.le_of_not_lt (by assumption) | (simp; done) | (simp; omega) | omega) _ | refine Below.alloc ?_ (by first | (simp; done) | (simp; omega) | omega) _ | refine Below.drew ?_)))) ?_; rintro e w1 ⟨⟨A7, c7, rfl, hle7, hmx7, hnil7, hP7, hF7⟩, q7, rfl⟩)
  refine wp_named ?_
  intro U hU
  have kG : blk U (V.heap.size + q7.os.size) #[.int .i64 nx, .int .i64 ny, .slice A7 l.length c7] 26 := by rw [hU]; exact (by repeat (first | with_reducible exact blk_new _ _ _ | ((with_reducible refine blk_at ?_); (simp; done)) | with_reducible apply blk_alloc | with_reducible apply blk_gw | with_reducible apply blk_drew))
  have kA4 : blk U w.heap.size #[.int .i64 nx, .int .i64 ny, .slice A l.length cap] 26 := by rw [hU]; exact (by apply blk_of; (repeat (first | with_reducible exact kA3 | with_reducible apply blk_drew | with_reducible apply blk_gw | with_reducible apply blk_alloc | with_reducible apply blk_set | ((with_reducible apply blk_other); focus omega))); (first | rfl | simp))
  have kE4 : blk U b7 #[.int .i64 gx, .int .i64 gy, .slice A5 l.length c5] 26 := by rw [hU]; exact (by apply blk_of; (repeat (first | with_reducible exact kE3 | with_reducible apply blk_drew | with_reducible apply blk_gw | with_reducible apply blk_alloc | with_reducible apply blk_set | ((with_reducible apply blk_other); focus omega))); (first | rfl | simp))
  have kF4 : blk U b8 #[.int .i64 nx, .int .i64 ny, .slice A6 l.length c6] 26 := by rw [hU]; exact (by apply blk_of; (repeat (first | with_reducible exact kF3 | with_reducible apply blk_drew | with_reducible apply blk_gw | with_reducible apply blk_alloc | with_reducible apply blk_set | ((with_reducible apply blk_other); focus omega))); (first | rfl | simp))
  have hbVU : Below V.heap.size V U := by rw [hU]; exact (by repeat (first | with_reducible exact Below.refl _ _ | with_reducible assumption | refine bgw ?_ (by first | (simp; done) | (simp; omega) | omega) _ | refine Below.setCell ?_ (by first | exact Nat.le_of_not_lt (by assumption) | (simp; done) | (simp; omega) | omega) _ | refine Below.alloc ?_ (by first | (simp; done) | (simp; omega) | omega) _ | refine Below.drew ?_))
  have hP7U : Cnts U A7 l := by rw [hU]; exact Cnts.to hP7 (by repeat (first | with_reducible exact Below.refl _ _ | with_reducible assumption | refine bgw ?_ (by first | (simp; done) | (simp; omega) | omega) _ | refine Below.setCell ?_ (by first | exact Nat.le_of_not_lt (by assumption) | (simp; done) | (simp; omega) | omega) _ | refine Below.alloc ?_ (by first | (simp; done) | (simp; omega) | omega) _ | refine Below.drew ?_))
  have hF7U : l = [] ∨ ∃ b, A7 = some ⟨b, 0, none⟩ ∧ V.heap.size ≤ b := by
    rcases hF7 with h | ⟨b, rfl, h1⟩
    · exact .inl h
    · exact .inr ⟨b, rfl, by (try simp at h1); omega⟩
  have hTU : (l = []) ∨ ∃ T cT tT C cC tC, A5 = some ⟨T, 0, none⟩ ∧ A6 = some ⟨C, 0, none⟩ ∧ W.heap.size ≤ T ∧ T < C ∧ C < V.heap.size ∧ (T ≠ b7 ∧ T ≠ b8 ∧ C ≠ b7 ∧ C ≠ b8) ∧ blk U T cT tT ∧ Has cT 2 l.length ∧ blk U C cC tC ∧ Has cC 3 l.length := by
    rcases hTVH.out with h | ⟨T, cT, tT, C, cC, tC, rfl, rfl, h1, h2, k1, k2⟩
    · exact .inl h
    rcases Nat.eq_zero_or_pos l.length with h0 | h0
    · exact .inl (List.eq_nil_of_length_eq_zero h0)
    · exact .inr ⟨T, cT, tT, C, cC, tC, rfl, rfl, h1, h2, blk_lt k2, ⟨cnts_ne kE3 hP5V h0, cnts_ne kF3 hP5V h0, cnts_ne kE3 hP6V h0, cnts_ne kF3 hP6V h0⟩, blk_below hbVU k1, has_of hP5V k1 (.inl rfl), blk_below hbVU k2, has_of hP6V k2 (.inr rfl)⟩
  have hbU : Below w.heap.size w U := Below.trans hbV2 (hbVU.mono hbV2.size)
  have hGV : V.heap.size ≤ V.heap.size + q7.os.size := by omega
  have hF7H : Hid (_ ∨ _) := hF7U
  have hTUH : Hid (_ ∨ _) := hTU
  clear hU hTVH hF7 hF7U hTU hP7 hP5V hP6V cL paV hbV2 okA3 ckA3_0 ckA3_1 ckA3_2 fkA3_0 fkA3_1 fkA3_2 okE3 ckE3_0 ckE3_1 ckE3_2 fkE3_0 fkE3_1 fkE3_2 kA3 kE3 kF3
  generalize V.heap.size + q7.os.size = G at *
  go_wp2_with fail
  go_loopw [8] (fun ic wr => ∃ k : Nat, k ≤ l.length ∧ ic = .int .i64 (k : Int) ∧ ((l = [] ∧ wr = U) ∨ ∃ T cT tT C cC tC, A5 = some ⟨T, 0, none⟩ ∧ A6 = some ⟨C, 0, none⟩ ∧ W.heap.size ≤ T ∧ T < C ∧ C < V.heap.size ∧ (T ≠ b7 ∧ T ≠ b8 ∧ C ≠ b7 ∧ C ≠ b8) ∧ blk wr T cT tT ∧ Has cT 2 l.length ∧ blk wr C cC tC ∧ Has cC 3 l.length ∧ ∀ b, b ≠ T → b ≠ C → wr.heap[b]? = U.heap[b]?) ∧ U.heap.size ≤ wr.heap.size ∧ Below w.heap.size w wr)
    (fun ic _ => (l.length - intOf ic).toNat)
  case atStart =>
    refine ⟨0, by omega, rfl, ?_, Nat.le_refl _, hbU⟩
    rcases hTUH.out with h | ⟨T, cT, tT, C, cC, tC, h1, h2, h3, h4, h5, h6, k1, k2, k3, k4⟩
    · exact .inl ⟨h, rfl⟩
    · exact .inr ⟨T, cT, tT, C, cC, tC, h1, h2, h3, h4, h5, h6, k1, k2, k3, k4, fun _ _ _ => rfl⟩
  case round =>
    obtain ⟨k, hk, rfl, hrel2, hszR, hbR⟩ := hrel
    have hrH : Hid (_ ∨ _) := hrel2
    clear hrel2 hTUH
    have k0 : (0 : Int) ≤ (k : Int) := by omega
    by_cases hlt : k < l.length
    · have k1 : (k : Int) < (l.length : Int) := by omega
      rcases hrH.out with ⟨rfl, -⟩ | ⟨T, cT, tT, C, cC, tC, rfl, rfl, g1, g2, g3, ⟨n1, n2, n3, n4⟩, kT, hT, kC, hC, hU⟩
      · simp at hlt
      have kE5 : blk wr b7 #[.int .i64 gx, .int .i64 gy, .slice (some ⟨T, 0, none⟩) l.length c5] 26 := (hU _ (Ne.symm n1) (Ne.symm n3)).trans kE4
      have kF5 : blk wr b8 #[.int .i64 nx, .int .i64 ny, .slice (some ⟨C, 0, none⟩) l.length c6] 26 := (hU _ (Ne.symm n2) (Ne.symm n4)).trans kF4
      obtain ⟨s, hs⟩ := hT k hlt
      obtain ⟨s2, hs2⟩ := hC k hlt
      have d1 := (blk_cell kT (k * 6 + 2)).trans hs
      have d2 := blk_free kT (k * 6 + 2)
      have d3 := blk_older kT
      have hTCne : T ≠ C := by omega
      have hsH : Hid (_ = _) := hs2
      clear hrH hs hs2
      have okE5 := blk_older kE5
      have ckE5_0 : _ = some _ := blk_cell kE5 0
      have ckE5_1 : _ = some _ := blk_cell kE5 1
      have ckE5_2 : _ = some _ := blk_cell kE5 2
      have fkE5_0 := blk_free kE5 0
      have fkE5_1 := blk_free kE5 1
      have fkE5_2 := blk_free kE5 2
      go_upto_region 11 with fail
      refine wp_named ?_
      intro Y hY
      obtain ⟨u, hYu⟩ : ∃ u, Y = wr.setCell ⟨T, k * 6 + 2, none⟩ (.int .i64 u) := ⟨_, hY⟩
      have kT1 := blk_set (i := k * 6 + 2) (v := .int .i64 u) kT
      have kC1 : blk (wr.setCell ⟨T, k * 6 + 2, none⟩ (.int .i64 u)) C cC tC := blk_other hTCne kC
      have kF1 : blk (wr.setCell ⟨T, k * 6 + 2, none⟩ (.int .i64 u)) b8 #[.int .i64 nx, .int .i64 ny, .slice (some ⟨C, 0, none⟩) l.length c6] 26 := blk_other n2 kF5
      have hU1 : ∀ b, b ≠ T → b ≠ C → (wr.setCell ⟨T, k * 6 + 2, none⟩ (.int .i64 u)).heap[b]? = U.heap[b]? := fun b h1 h2 => (sm_set (i := k * 6 + 2) (v := .int .i64 u) (sm_refl b wr) h1).2.trans (hU b h1 h2)
      have hbR1 : Below w.heap.size w (wr.setCell ⟨T, k * 6 + 2, none⟩ (.int .i64 u)) := Below.setCell hbR (show w.heap.size ≤ T by omega) _
      have hsz1 : U.heap.size ≤ (wr.setCell ⟨T, k * 6 + 2, none⟩ (.int .i64 u)).heap.size := by rw [(sm_set (i := k * 6 + 2) (v := .int .i64 u) (sm_refl b8 wr) (Ne.symm n2)).1]; exact hszR
      rw [← hYu] at kT1 kC1 kF1 hU1 hbR1 hsz1
      clear hY hYu kT kC kE5 kF5 hU hbR hszR d1 d2 d3 okE5 ckE5_0 ckE5_1 ckE5_2 fkE5_0 fkE5_1 fkE5_2
      have hT1 := Has.set (i := k * 6 + 2) (s := u) hT
      have d1 := (blk_cell kC1 (k * 6 + 3)).trans hsH.out
      have d2 := blk_free kC1 (k * 6 + 3)
      have d3 := blk_older kC1
      have hT1H : Hid (Has _ _ _) := hT1
      have hU1H : Hid (∀ _, _) := hU1
      clear hsH hT hT1 hU1
      have okF1 := blk_older kF1
      have ckF1_0 : _ = some _ := blk_cell kF1 0
      have ckF1_1 : _ = some _ := blk_cell kF1 1
      have ckF1_2 : _ = some _ := blk_cell kF1 2
      have fkF1_0 := blk_free kF1 0
      have fkF1_1 := blk_free kF1 1
      have fkF1_2 := blk_free kF1 2
      go_wp2_with fail
      refine ⟨⟨k + 1, by omega, by go_num, .inr ⟨T, _, tT, C, _, tC, rfl, rfl, g1, g2, g3, ⟨n1, n2, n3, n4⟩, blk_other (Ne.symm hTCne) kT1, hT1H.out, blk_set kC1, hC.set, fun b h1 h2 => (sm_set (sm_refl b Y) h2).2.trans (hU1H.out b h1 h2)⟩, ?_, Below.setCell hbR1 (show w.heap.size ≤ C by omega) _⟩, by (try go_num); simp [intOf]; (try omega)⟩
      rw [(sm_set (sm_refl b8 Y) (Ne.symm n4)).1]; exact hsz1
    · obtain rfl : k = l.length := by omega
      have k1 : ¬ (l.length : Int) < (l.length : Int) := by omega
      have kA5 : blk wr w.heap.size #[.int .i64 nx, .int .i64 ny, .slice A l.length cap] 26 := by
        rcases hrH.out with ⟨h, rfl⟩ | ⟨T, cT, tT, C, cC, tC, h1, h2, g1, g2, g3, -, -, -, -, -, hU⟩
        · exact kA4
        · exact (hU _ (by omega) (by omega)).trans kA4
      have kE5 : blk wr b7 #[.int .i64 gx, .int .i64 gy, .slice A5 l.length c5] 26 := by
        rcases hrH.out with ⟨h, rfl⟩ | ⟨T, cT, tT, C, cC, tC, h1, h2, g1, g2, g3, ⟨n1, n2, n3, n4⟩, -, -, -, -, hU⟩
        · exact kE4
        · exact (hU _ (Ne.symm n1) (Ne.symm n3)).trans kE4
      have kG5 : blk wr G #[.int .i64 nx, .int .i64 ny, .slice A7 l.length c7] 26 := by
        rcases hrH.out with ⟨h, rfl⟩ | ⟨T, cT, tT, C, cC, tC, h1, h2, g1, g2, g3, -, -, -, -, -, hU⟩
        · exact kG
        · exact (hU _ (by omega) (by omega)).trans kG
      have hP7R : Cnts wr A7 l := by
        rcases hrH.out with ⟨h, rfl⟩ | ⟨T, cT, tT, C, cC, tC, h1, h2, g1, g2, g3, -, -, -, -, -, hU⟩
        · exact .inl h
        · rcases hF7H.out with h | ⟨b, rfl, h5⟩
          · exact .inl h
          · exact cnts_hb (hU b (by omega) (by omega)) hP7U
      have paR := Cnts.to pa hbR
      have hszR2 := hbR.size
      clear hrH hF7H kA4 kE4 kF4 kG hP7U
      have okA5 := blk_older kA5
      have ckA5_0 : _ = some _ := blk_cell kA5 0
      have ckA5_1 : _ = some _ := blk_cell kA5 1
      have ckA5_2 : _ = some _ := blk_cell kA5 2
      have fkA5_0 := blk_free kA5 0
      have fkA5_1 := blk_free kA5 1
      have fkA5_2 := blk_free kA5 2
      have okE5 := blk_older kE5
      have ckE5_0 : _ = some _ := blk_cell kE5 0
      have ckE5_1 : _ = some _ := blk_cell kE5 1
      have ckE5_2 : _ = some _ := blk_cell kE5 2
      have fkE5_0 := blk_free kE5 0
      have fkE5_1 := blk_free kE5 1
      have fkE5_2 := blk_free kE5 2
      have okG5 := blk_older kG5
      have ckG5_0 : _ = some _ := blk_cell kG5 0
      have ckG5_1 : _ = some _ := blk_cell kG5 1
      have ckG5_2 : _ = some _ := blk_cell kG5 2
      have fkG5_0 := blk_free kG5 0
      have fkG5_1 := blk_free kG5 1
      have fkG5_2 := blk_free kG5 2
      go_wp2_with (first | (go_at_call 9; refine Calls.mono (gw_at (cE _ _ _ _ _ _ _ (Cnts.to paR (by repeat (first | with_reducible exact Below.refl _ _ | with_reducible assumption | refine bgw ?_ (by first | (simp; done) | (simp; omega) | omega) _ | refine Below.setCell ?_ (by first | exact Nat.le_of_not_lt (by assumption) | (simp; done) | (simp; omega) | omega) _ | refine Below.alloc ?_ (by first | (simp; done) | (simp; omega) | omega) _ | refine Below.drew ?_))) (Cnts.to hP7R (by repeat (first | with_reducible exact Below.refl _ _ | with_reducible assumption | refine bgw ?_ (by first | (simp; done) | (simp; omega) | omega) _ | refine Below.setCell ?_ (by first | exact Nat.le_of_not_lt (by assumption) | (simp; done) | (simp; omega) | omega) _ | refine Below.alloc ?_ (by first | (simp; done) | (simp; omega) | omega) _ | refine Below.drew ?_))))) ?_; rintro e w1 ⟨rfl, q3, rfl⟩) | (go_at_call 6; refine Calls.mono (gw_at (e0 _)) ?_; rintro e w1 ⟨rfl, q4, rfl⟩))
      go_ret
      exact ⟨rfl, (by repeat (first | with_reducible exact Below.refl _ _ | with_reducible assumption | refine bgw ?_ (by first | (simp; done) | (simp; omega) | omega) _ | refine Below.setCell ?_ (by first | exact Nat.le_of_not_lt (by assumption) | (simp; done) | (simp; omega) | omega) _ | refine Below.alloc ?_ (by first | (simp; done) | (simp; omega) | omega) _ | refine Below.drew ?_))⟩

end Go.Proofs.Ytiecpebckmihgaa
