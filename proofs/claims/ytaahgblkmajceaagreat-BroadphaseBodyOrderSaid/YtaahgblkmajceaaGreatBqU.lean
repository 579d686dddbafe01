/- Chapter 22: BroadphaseBodyOrder. -/
import Derived.Test.YtaahgblkmajceaaGreatBqP
set_option linter.unusedVariables false
set_option linter.unusedSimpArgs false
namespace Go.Proofs.YtaahgblkmajceaaGreat
open Go.RowKit Fx Go.Maps

/-! ### Bodies with different IDs -/
def DstB (l : List Bdy) : Prop := l.Pairwise fun a b => a.i ≠ b.i
theorem DstB.first {l : List Bdy} (h : DstB l) {i : Nat} {a : Bdy} (e : l[i]? = some a) : fstB l i = true := by
  unfold fstB; rw [e]
  obtain ⟨hi, rfl⟩ := List.getElem?_eq_some_iff.1 e
  rw [List.all_eq_true]
  intro x hx
  obtain ⟨j, hj, rfl⟩ := List.mem_take_iff_getElem.1 hx
  have := List.pairwise_iff_getElem.1 h j i (by omega) hi (by omega)
  simpa using this
def InM (l : List Bdy) (js : List Jnt) (x : Ky) : Prop := ∃ a ∈ l, ∃ b ∈ l, ∃ p q, a.i < b.i ∧ (a.k == 3 || b.k == 3) = true ∧ cnj js a.i b.i = false ∧ p < a.fs.length ∧ q < b.fs.length ∧ hitF a b p q = true ∧ x = kyOf a b p q
theorem inK_dst {l : List Bdy} {js : List Jnt} (h : DstB l) (x : Ky) : InK l js x ↔ InM l js x := by
  constructor
  · rintro ⟨i, k, a, b, p, q, ea, eb, ho, hp, hq, hh, rfl⟩
    rw [okAB_at ea eb] at ho
    simp only [Bool.and_eq_true, decide_eq_true_eq, Bool.not_eq_true'] at ho
    exact ⟨a, List.mem_of_getElem? ea, b, List.mem_of_getElem? eb, p, q, ho.1.1.1.1, ho.1.2, ho.2, hp, hq, hh, rfl⟩
  · rintro ⟨a, ma, b, mb, p, q, h1, h2, h3, hp, hq, hh, rfl⟩
    obtain ⟨i, ea⟩ := List.mem_iff_getElem?.1 ma
    obtain ⟨k, eb⟩ := List.mem_iff_getElem?.1 mb
    refine ⟨i, k, a, b, p, q, ea, eb, ?_, hp, hq, hh, rfl⟩
    rw [okAB_at ea eb, h.first ea, h.first eb, h2, h3]
    simp [h1]
theorem fpL_congr {l m : List Bdy} (js : List Jnt) (hl : DstB l) (hm : DstB m) (h : ∀ x, x ∈ l ↔ x ∈ m) : fpL l js = fpL m js := by
  refine fpL_eq (fpL_srt l js) fun x => ?_
  rw [fpL_mem, inK_dst hl, inK_dst hm]
  unfold InM
  simp only [h]
theorem DstB.rev {l : List Bdy} (h : DstB l) : DstB l.reverse := by
  unfold DstB at *
  rw [List.pairwise_reverse]
  exact h.imp fun h => h.symm
theorem fpL_rev {l : List Bdy} (js : List Jnt) (h : DstB l) : fpL l.reverse js = fpL l js := fpL_congr js h.rev h fun x => by simp
theorem fpL_vk {l : List Bdy} (js : List Jnt) (h : ∀ x ∈ l, x.fs.length ≤ 4) : vkP (fpL l js) := by
  refine ⟨fun x hx => ?_, fun i hi => ?_⟩
  · obtain ⟨i, k, a, b, p, q, ea, eb, ho, hp, hq, hh, rfl⟩ := fpL_mem.1 hx
    rw [okAB_at ea eb] at ho
    simp only [Bool.and_eq_true, decide_eq_true_eq] at ho
    have h1 := h a (List.mem_of_getElem? ea)
    have h2 := h b (List.mem_of_getElem? eb)
    have h3 := ho.1.1.1.1
    unfold okK kyOf
    dsimp only
    omega
  · exact lesK_iff.2 (List.pairwise_iff_getElem.1 (fpL_srt l js) i (i + 1) (by omega) hi (by omega))
theorem dstB_of {l : List Bdy} (h : ∀ i (hi : i < l.length), ∀ j (hj : j < i), l[i].i ≠ (l[j]'(by omega)).i) : DstB l := by
  unfold DstB
  rw [List.pairwise_iff_getElem]
  intro i j hi hj hlt
  exact fun e => h j hj i hlt e.symm

set_option maxRecDepth 100000 in
set_option maxHeartbeats 32000000 in
theorem walk_BroadphaseBodyOrder (A : Option Addr) (cap : Nat) (l : List Bdy) (A2 : Option Addr) (cap2 : Nat) (js : List Jnt) (w : World) (ha : Bods w A l) (hj : Jnts w A2 js) : Calls Tryz.prog 8 #[.slice A l.length cap, .slice A2 js.length cap2] w fun e w' => e = .returned (.bool true) ∧ Below w.heap.size w w' := by
  have cE := fun w' => example22_b w'
  cases hF : fewB l 10 with
  | false =>
    have cFw := fun w' hw' => rfewA_b A cap l 10 (by decide) false hF w' hw'
    clear hF
    go_enter Tryz.func8, Tryz.ntmps8
    go_wp2_with (first | (go_at_call 9; with_reducible_and_instances refine Calls.mono (gw_at (cFw _ (Bods.to ha bBel))) ?_; rintro e w1 ⟨rfl, q, rfl⟩) | (go_at_call 10; with_reducible_and_instances refine Calls.mono (gw_at (cE _)) ?_; rintro e w1 ⟨rfl, q, rfl⟩))
    go_ret
    exact ⟨rfl, bBel⟩
  | true =>
    have cFw := fun w' hw' => rfewA_b A cap l 10 (by decide) true hF w' hw'
    obtain ⟨hl, hok0⟩ := fewB_iff.1 hF
    have hok : Hid (∀ x ∈ l, okF x) := hok0
    clear hF hok0
    by_cases h12 : 12 < js.length
    · have h12' : (12 : Int) < (js.length : Int) := by omega
      go_enter Tryz.func8, Tryz.ntmps8
      go_wp2_with (first | (go_at_call 9; with_reducible_and_instances refine Calls.mono (gw_at (cFw _ (Bods.to ha bBel))) ?_; rintro e w1 ⟨rfl, q, rfl⟩) | (go_at_call 10; with_reducible_and_instances refine Calls.mono (gw_at (cE _)) ?_; rintro e w1 ⟨rfl, q, rfl⟩))
      go_ret
      exact ⟨rfl, bBel⟩
    have h12' : decide ((12 : Int) < (js.length : Int)) = false := by simp; omega
    have h12'' : decide (12 < js.length) = false := by simp; omega
    have hll : l.length ≤ 100 := by omega
    have hl10 : l.length ≤ 10 := by omega
    have hjl : js.length ≤ 1000 := by omega
    obtain ⟨i0, hi, hz0, hz1, hz2⟩ := info_parts info_bdy
    clear h12
    go_enter Tryz.func8, Tryz.ntmps8
    go_upto_region 3 with (go_at_call 9; refine Calls.mono (gw_at (cFw _ (Bods.to ha bBel))) ?_; rintro e w1 ⟨rfl, q, rfl⟩)
    refine wp_named ?_
    intro W hW
    have hbW : Below w.heap.size w W := by rw [hW]; exact bBel
    clear hW
    have hszW := hbW.size
    clear cFw
    have hw0 : IntKind.i64.wrap ((l.length : Int) - 1) = (l.length : Int) - 1 := by rw [IntKind.wrap_i64]; omega
    go_wp2_with fail
    go_loopw [5, 6] (fun c i wr => ∃ (k : Nat) (iv : Int), k ≤ l.length ∧ iv = (k : Int) - 1 ∧ i = .int .i64 iv ∧ wr.ownsRow W.heap.size 37 20 c (l.drop k).reverse.length (bvv (l.drop k).reverse) ∧ Hid (∀ i (hi : i < l.length), k ≤ i → ∀ j (hj : j < i), l[i].i ≠ (l[j]'(by omega)).i) ∧ Hid (∀ i (hi : i < l.length), k ≤ i → l[i].fs.length ≤ 4) ∧ Below W.heap.size W wr) (fun _ i _ => (intOf i + 1).toNat)
    case atStart => exact ⟨l.length, (l.length : Int) - 1, Nat.le_refl _, rfl, rfl, (by rw [List.drop_length]; exact World.ownsRow_nil _ _ _ _), (fun i hi h => by omega), (fun i hi h => by omega), Below.refl _ _⟩
    case round =>
      obtain ⟨k, iv, hk, hiv, rfl, hown, hd, h4, hb⟩ := hrel
      have hszR := hb.size
      have hbw : Below w.heap.size w wr := Below.trans hbW (hb.mono hszW)
      have hszw := hbw.size
      rcases k with _ | s
      · obtain rfl : iv = -1 := by omega
        have hdst : Hid (DstB l) := dstB_of fun i hi j hj => hd.out i hi (Nat.zero_le _) j hj
        have hf4 : Hid (∀ x ∈ l, x.fs.length ≤ 4) := fun x hx => by
          obtain ⟨i, hi, rfl⟩ := List.mem_iff_getElem.1 hx
          exact h4.out i hi (Nat.zero_le _)
        rw [List.drop_zero] at hown
        have hvk := fpL_vk js hf4.out
        have hrv := fpL_rev js hdst.out
        have hfl := fpL_len (js := js) hok.out hll
        have hokr : ∀ x ∈ l.reverse, okF x := fun x hx => hok.out x (by simpa using hx)
        have hlr : l.reverse.length ≤ 100 := by rw [List.length_reverse]; exact hll
        have cP := fun w' hw' hj' => fp_b A A2 cap cap2 l js hll hok.out hjl w' hw' hj'
        obtain ⟨A7, c7, rfl, -, -, -, hBR⟩ := owns_bods hown (fun f hf => bdQ.to (bods_mem ha f (by simpa using hf)) hbw)
        have cQ := fun w' hw' hj' => fp_b A7 A2 c7 cap2 l.reverse js hlr hokr hjl w' hw' hj'
        rw [hrv, List.length_reverse] at cQ
        have haR := Bods.to ha hbw
        have hjR := Jnts.to hj hbw
        clear hrv hdst hf4 hd h4 hown hokr hlr hok hiv
        have cV := fun A5 c5 w' h' => vk_b A5 c5 (fpL l js) (by omega) w' h' true (by simp [hvk])
        clear hvk
        generalize fpL l js = L at *
        go_wp2_with (first | (go_at_call 12; with_reducible_and_instances refine Calls.mono (cP wr haR hjR) ?_; rintro e W1 ⟨⟨v1, rfl, ho1⟩, hb1⟩; obtain ⟨A5, c5, rfl, -, -, -, hK1⟩ := owns_kys ho1; clear ho1; have hbw1 : Below w.heap.size w W1 := Below.trans hbw (hb1.mono hszw); have hszw1 := hbw1.size; have hBR1 := Bods.to hBR hb1) | (go_at_call 24; with_reducible_and_instances refine Calls.mono (cV A5 c5 W1 hK1) ?_; rintro e W2 ⟨rfl, hb2⟩; have hbw2 : Below w.heap.size w W2 := Below.trans hbw1 (hb2.mono hszw1); have hszw2 := hbw2.size; have hBR2 := Bods.to hBR1 hb2; have hK2 := Kys.to hK1 hb2) | (go_at_call 12; with_reducible_and_instances refine Calls.mono (cQ W2 hBR2 (Jnts.to hj hbw2)) ?_; rintro e W3 ⟨⟨v3, rfl, ho3⟩, hb3⟩; obtain ⟨A6, c6, rfl, -, -, -, hK6⟩ := owns_kys ho3; clear ho3; have hbw3 : Below w.heap.size w W3 := Below.trans hbw2 (hb3.mono hszw2); have hszw3 := hbw3.size; have hK3 := Kys.to hK2 hb3) | (go_at_call 11; with_reducible_and_instances refine Calls.mono (gw_at (rkeys_b A6 A5 c6 c5 L L W3 hK6 hK3 true (by simp) (by omega))) ?_; rintro e w3 ⟨rfl, q3, rfl⟩) | (go_at_call 10; with_reducible_and_instances refine Calls.mono (gw_at (cE _)) ?_; rintro e w3 ⟨rfl, q4, rfl⟩))
        go_ret
        exact ⟨rfl, bBel⟩
      · obtain rfl : iv = (s : Int) := by omega
        clear hiv
        have hs0 : ¬ (s : Int) < 0 := by omega
        have hs1 : (0 : Int) ≤ (s : Int) := by omega
        have hsl : s < l.length := by omega
        have hslI : (s : Int) < (l.length : Int) := by omega
        obtain ⟨b, off, rfl, hbl, hc0⟩ := bods_open ha (by omega)
        have hcH := show Hid _ from hc0
        clear hc0
        have hdr : Hid ((l.drop s).reverse = (l.drop (s + 1)).reverse ++ [l[s]]) := by show _ = _; rw [List.drop_eq_getElem_cons hsl, List.reverse_cons]
        have hlr : (l.drop (s + 1)).reverse.length ≤ 10 := by rw [List.length_reverse, List.length_drop]; omega
        generalize (l.drop (s + 1)).reverse = BK at *
        go_wp2_with fail
        generalize wr = X at *
        go_loopw [7] (fun m wx => ∃ d : Nat, d ≤ s ∧ m = .int .i64 (d : Int) ∧ Hid (∀ j (hj : j < d), (hj2 : j < l.length) → l[s].i ≠ l[j].i) ∧ Below X.heap.size X wx) (fun m _ => s - (intOf m).toNat)
        case atStart => exact ⟨0, by omega, rfl, (fun j hj => by omega), Below.refl _ _⟩
        case round =>
          obtain ⟨d, hds, rfl, hno, hbx⟩ := hrel
          have hszX := hbx.size
          have hbwX : Below w.heap.size w wr := Below.trans hbw (hbx.mono hszw)
          obtain ⟨-, hrs0⟩ := hcH.out s hsl
          obtain ⟨ob, hrs⟩ := hrs0 wr hbwX
          have e0 : wr.cell? ⟨b, off + s * 20, none⟩ = some (.int .i64 l[s].i) := hrs 0 _ rfl
          have e19 : wr.cell? ⟨b, off + s * 20 + 19, none⟩ = some (.slice l[s].A l[s].fs.length l[s].cap) := hrs 19 _ rfl
          by_cases hdl : d < s
          · have hdI : (d : Int) < (s : Int) := by omega
            have hdlen : d < l.length := by omega
            have hdlI : (d : Int) < (l.length : Int) := by omega
            obtain ⟨-, hrd⟩ := hcH.out d hdlen
            have f0 : wr.cell? ⟨b, off + d * 20, none⟩ = some (.int .i64 l[d].i) := (hrd wr hbwX).2 0 _ rfl
            clear hrs0 hrs hrd e19
            by_cases he : l[s].i = l[d].i
            · have hee : (l[s].i == l[d].i) = true := by rw [beq_iff_eq]; exact he
              clear he hno
              generalize l[s].i = y1 at *
              generalize l[d].i = y2 at *
              go_wp2_with fail
              refine wp_region_gw (by kernel_rfl) (by kernel_rfl) ?_
              repeat (go_big_quiet_step (fail))
              refine wpQuiet_nil ?_
              intro w1 hw1
              obtain ⟨q, rfl⟩ := hw1
              go_wp2_with (first | (go_at_call 10; with_reducible_and_instances refine Calls.mono (gw_at (cE _)) ?_; rintro e w1 ⟨rfl, q, rfl⟩))
              go_ret
              exact ⟨rfl, bBel⟩
            · have hee : (l[s].i == l[d].i) = false := by rw [beq_eq_false_iff_ne]; exact he
              have hn2 : Hid (∀ j (hj : j < d + 1), (hj2 : j < l.length) → l[s].i ≠ l[j].i) := fun j hjd hj2 => by
                rcases Nat.lt_or_eq_of_le (Nat.le_of_lt_succ hjd) with h5 | rfl
                · exact hno.out j h5 hj2
                · exact he
              clear he hno
              obtain ⟨y1, hy1'⟩ : ∃ y1, l[s].i = y1 := ⟨_, rfl⟩
              have hy1 : Hid (l[s].i = y1) := hy1'
              clear hy1'
              obtain ⟨y2, hy2'⟩ : ∃ y2, l[d].i = y2 := ⟨_, rfl⟩
              have hy2 : Hid (l[d].i = y2) := hy2'
              clear hy2'
              rw [hy1.out] at e0 hee
              rw [hy2.out] at f0 hee
              go_wp2_with fail
              refine wp_region_gw (by kernel_rfl) (by kernel_rfl) ?_
              repeat (go_big_quiet_step (fail))
              refine wpQuiet_nil ?_
              intro w1 hw1
              obtain ⟨q, rfl⟩ := hw1
              go_wp2_with fail
              exact ⟨⟨d + 1, by omega, by go_num, hn2, bBel⟩, by (try go_num); simp [intOf]; (try omega)⟩
          · obtain rfl : d = s := by omega
            have hwd : IntKind.i64.wrap ((d : Int) - 1) = (d : Int) - 1 := by rw [IntKind.wrap_i64]; omega
            have hd2 : Hid (∀ i (hi : i < l.length), d ≤ i → ∀ j (hj : j < i), l[i].i ≠ (l[j]'(by omega)).i) := fun i hi hdi j hj => by
              rcases Nat.lt_or_eq_of_le hdi with h5 | rfl
              · exact hd.out i hi h5 j hj
              · exact hno.out j hj (by omega)
            have h42 : Hid (l[d].fs.length ≤ 4 → ∀ i (hi : i < l.length), d ≤ i → l[i].fs.length ≤ 4) := fun h5 i hi hdi => by
              rcases Nat.lt_or_eq_of_le hdi with h6 | rfl
              · exact h4.out i hi h6
              · exact h5
            clear hd h4 hno hrs0 e0
            generalize hff : l[d] = f at e19 hrs hdr h42
            clear hff
            obtain ⟨ia, ka, pxa, pya, paa, vxa, vya, ava, fxa, fya, tqa, lda, ada, gsa, bula, fixa, nosa, asla, idla, Aa, capa, fsa⟩ := f
            dsimp only at e19 h42
            have hr' : Hid (wr.rangeAt b (off + d * 20) [.int .i64 ia, .int .i64 ka, .int .i64 pxa, .int .i64 pya, .int .i64 paa, .int .i64 vxa, .int .i64 vya, .int .i64 ava, .int .i64 fxa, .int .i64 fya, .int .i64 tqa, .int .i64 lda, .int .i64 ada, .int .i64 gsa, .bool bula, .bool fixa, .bool nosa, .bool asla, .int .i64 idla, .slice Aa fsa.length capa]) := hrs
            clear hrs
            by_cases h5 : fsa.length ≤ 4
            rotate_left
            · have hgt : (4 : Int) < (fsa.length : Int) := by omega
              clear hr' h42 hdr hd2
              go_wp2_with (first | (go_at_call 10; with_reducible_and_instances refine Calls.mono (gw_at (cE _)) ?_; rintro e w1 ⟨rfl, q, rfl⟩))
              go_ret
              exact ⟨rfl, bBel⟩
            have h43 := h42.out h5
            have h44 : Hid (∀ i (hi : i < l.length), d ≤ i → l[i].fs.length ≤ 4) := h43
            have hgt : decide ((4 : Int) < (fsa.length : Int)) = false := by simp; omega
            have hgt2 : decide (4 < fsa.length) = false := by simp; omega
            have hownX := owns_below hown hbx
            have hbWX : Below W.heap.size W wr := Below.trans hb (hbx.mono hszR)
            have hszWX := hbWX.size
            clear h42 h43 hown
            go_wp2_with (first
              | (refine wpList_load_mid rfl 37 _ rfl b (off + d * 20) rfl _ _ hr'.out Tryz.underlying37 rfl (by kernel_rfl) ?_)
              | (at_builtin; refine wpList_app21 rfl _ _ 22 rfl W.heap.size 37 i0 (.agg #[.int .i64 0, .int .i64 0, .int .i64 0, .int .i64 0, .int .i64 0, .int .i64 0, .int .i64 0, .int .i64 0, .int .i64 0, .int .i64 0, .int .i64 0, .int .i64 0, .int .i64 0, .int .i64 0, .bool false, .bool false, .bool false, .bool false, .int .i64 0, .slice none 0 0]) 20 152 (by kernel_rfl) hi hz0 hz1 hz2 (by kernel_rfl) (by decide) _ _ _ rfl (owns_below hownX bBel) _ [.int .i64 ia, .int .i64 ka, .int .i64 pxa, .int .i64 pya, .int .i64 paa, .int .i64 vxa, .int .i64 vya, .int .i64 ava, .int .i64 fxa, .int .i64 fya, .int .i64 tqa, .int .i64 lda, .int .i64 ada, .int .i64 gsa, .bool bula, .bool fixa, .bool nosa, .bool asla, .int .i64 idla, .slice Aa fsa.length capa] 37 rfl (by kernel_rfl) bBkn (bdc_one ⟨ia, ka, pxa, pya, paa, vxa, vya, ava, fxa, fya, tqa, lda, ada, gsa, bula, fixa, nosa, asla, idla, Aa, capa, fsa⟩) (by unfold maxLen; omega) (by omega) (by first | (simp; omega) | omega) ?_; intro v' w2 hown2 hb2 hg2 ho2))
            refine ⟨⟨d, (d : Int) - 1, by omega, rfl, by go_num, ?_, hd2, h44, Below.trans bBel hb2⟩, by (try go_num); simp [intOf]; (try omega)⟩
            rw [hdr.out, bvv_snoc, List.length_append]; exact hown2

end Go.Proofs.YtaahgblkmajceaaGreat
