/- Chapter 21, the landed code: Sort. -/
import Derived.Test.YtfhhkabdeajieaaSpM
import Derived.Test.YtfhhkabdeajieaaBvZ
import Derived.Deep.DeepCutAuto
set_option linter.unusedVariables false
set_option linter.unusedSimpArgs false
namespace Go.Proofs.Ytfhhkabdeajieaa
open Go.RowKit Fx Go.Maps

/-- append of one struct of sz cells; all other blocks are as they were. -/
theorem wpList_app21 {P : Program} {w : World} {ops : Array Oper} {rest : List Oper} {o : Oper} {a : Act} {Q : Exit → Act → World → Prop} (hg : o.guard = none) (s x : Operand) (t : TypeId)
    (ho : o.op = .call { callee := .builtin .append, args := #[s, x], argTypes := #[t, t] })
    (B : Nat) (e : TypeId) (i : TypeInfo) (z : Value) (sz bytes : Nat) (ht : P.underlying t = some (.slice e)) (hi : P.info? e = some i) (hz : i.zero = some z) (hsize : i.size = sz) (hby : i.bytes = bytes) (hzs : z.cells.size = sz) (hsz : 0 < sz)
    (v : Value) (n : Nat) (xs : List Value) (hs : a.eval s = v) (hown : w.ownsRow B e sz v n xs) (b : Nat) (ys : List Value) (te : TypeId) (hx : a.eval x = .slice (some ⟨b, 0, none⟩) 1 1) (hyl : ys.length = sz) (hy : blk w b ys.toArray te) (h1 : ∀ u ∈ ys, u.oneCell' = true)
    (h63 : n + 1 ≤ maxLen) (hbytes : (n + 1) * bytes ≤ 140737488355328) (hB : B ≤ w.heap.size)
    (h : ∀ v' w', w'.ownsRow B e sz v' (n + 1) (xs ++ ys) → Below B w w' → w.grownBy w' v.ownBlock → (v'.ownBlock = v.ownBlock ∨ v'.ownBlock = some w.heap.size) → wpList P ops Q rest (a.put o.dst v') w') : wpList P ops Q (o :: rest) a w := by
  refine wpList_append_own_at w hg s x t ho B e i z sz bytes ht hi hz hsize hby hzs hsz v n xs hs hown ⟨b, 0, none⟩ 1 1 ys hx (by omega) (fun j u hj => ?_) h1 h63 hbytes hB (fun v' w' h2 h3 _ h5 => h v' w' h2 ?_ h3 h5)
  · have hlt := (List.getElem?_eq_some_iff.1 hj).1
    have e : Addr.add ⟨b, 0, none⟩ j = ⟨b, j, none⟩ := by
      unfold Addr.add; split
      · rename_i h0; rw [h0]
      · simp
    rw [e, blk_cell hy]; simpa using hj
  · refine ⟨h3.os, h3.tape, h3.output, h3.size, fun k hk => h3.block k (by omega) fun hk' => ?_⟩
    obtain ⟨_, ⟨rfl, _⟩ | ⟨g, cap, cur, rfl, hBg, _⟩⟩ := hown
    · simp [Value.ownBlock] at hk'
    · simp [Value.ownBlock] at hk'; omega

theorem info_ent : (Try.prog.info? 33).map (fun i => (i.zero, i.size, i.bytes)) = some (some (.agg #[.int .i64 0, .int .i64 0, .int .i64 0, .int .i64 0, .int .i64 0]), 5, 40) := by kernel_rfl

theorem owns_grown21 {w w' : World} {row : Option Nat} {B k n : Nat} {e : TypeId} {v : Value} {xs : List Value} (h : w.ownsRow B e k v n xs) (hg : w.grownBy w' row) (hne : row = none ∨ v.ownBlock ≠ row) : w'.ownsRow B e k v n xs :=
  owns_but (S := fun k => row = some k) h ⟨hg.os, hg.tape, hg.output, hg.size, fun k hk hn => hg.block k hk (fun e => hn e.symm)⟩ fun k hk hh => by
    rcases hne with h1 | h1
    · rw [h1] at hh; cases hh
    · exact h1 (hk.trans hh.symm)

/-- Whether an entry of this ID counts already. -/
def hasI (o : Bxs) (i : Int) : Bool := o.any fun e => e.1 == i
theorem hasI_yes {o : Bxs} {i : Int} (h : hasI o i = true) : ∃ x ∈ o, x.1 = i := by simpa [hasI] using h
theorem hasI_no {o : Bxs} {i : Int} (h : hasI o i = false) : ∀ x ∈ o, x.1 ≠ i := by
  intro x hx e
  have : hasI o i = true := by unfold hasI; rw [List.any_eq_true]; exact ⟨x, hx, by simp [e]⟩
  rw [h] at this; cases this
theorem hasI_snoc (o : Bxs) (e : En) (i : Int) : hasI (o ++ [e]) i = (decide (i = e.1) || hasI o i) := by
  unfold hasI; rw [List.any_append, Bool.or_comm]; congr 1
  by_cases h : e.1 = i
  · simp [h]
  · have h2 : (e.1 == i) = false := by simpa using h
    have h3 : decide (i = e.1) = false := by simpa using fun e' => h (Eq.symm e')
    simp [h2, h3]
theorem hasI_fun (o : Bxs) (e : En) : (fun y => decide (y = e.1) || hasI o y) = hasI (o ++ [e]) := funext fun y => (hasI_snoc o e y).symm
theorem BMap.congr {K : Type} {T : TypeId} {kl : K → Lit} {ok : K → Prop} {w : World} {b : Nat} {F G : K → Bool} {n : Nat} (h : BMap T kl ok w b F n) (e : F = G) : BMap T kl ok w b G n := e ▸ h

set_option maxRecDepth 100000 in
set_option maxHeartbeats 8000000 in
theorem sort21_b (A : Option Addr) (cap : Nat) (l : List En) (hl : l.length ≤ 100000) (hk64 : ∀ e ∈ l, i64k e.1) (w : World) (ha : Ents w A l) : Calls Try.prog 9 #[.slice A l.length cap] w fun e w' => (∃ v, e = .returned v ∧ w'.ownsRow w.heap.size 33 5 v (srE (cnt l)).length (ev (srE (cnt l)))) ∧ Below w.heap.size w w' := by
  have hk64' : Hid (∀ e ∈ l, i64k e.1) := hk64
  clear hk64
  obtain ⟨i0, hi, hz0, hz1, hz2⟩ := info_parts info_ent
  have hmm := @run_makeMap Try.prog
  go_enter Try.func9, Try.ntmps9
  go_upto_region 3 with fail
  refine wp_named ?_
  intro W hW
  have hbW : Below w.heap.size w W := by rw [hW]; exact bBel
  have hM0 : BMap 3 klI i64k W w.heap.size (hasI (cnt (l.take 0))) 0 := by rw [hW]; exact (BMap.new 3 klI i64k w).congr (funext fun y => by simp [hasI, cnt])
  clear hW hmm
  obtain ⟨mb, hmb⟩ : ∃ mb, Hid (w.heap.size = mb) := ⟨_, rfl⟩
  have hM1 := hM0
  have hmle : Hid (mb ≤ w.heap.size ∧ w.heap.size ≤ mb) := by have := hmb.out; exact ⟨by omega, by omega⟩
  have hszW := hbW.size
  go_wp2_with fail
  go_loopw [3, 10] (fun c i wr => ∃ k n : Nat, k ≤ l.length ∧ n ≤ k ∧ i = .int .i64 (k : Int) ∧ wr.ownsRow w.heap.size 33 5 c (cnt (l.take k)).length (ev (cnt (l.take k))) ∧ BMap 3 klI i64k wr w.heap.size (hasI (cnt (l.take k))) n ∧ Below w.heap.size w wr ∧ c.ownBlock ≠ some w.heap.size) (fun _ i _ => l.length - (intOf i).toNat)
  case atStart => exact ⟨0, 0, by omega, by omega, rfl, World.ownsRow_nil _ _ _ _, hM0, hbW, by simp [Value.ownBlock]⟩
  case round =>
    obtain ⟨k, n, hk, hnk, rfl, hown, hM, hbR, hne⟩ := hrel
    have hszR := hbR.size
    have hMlt := hM.lt
    by_cases hlt : k < l.length
    · have hkk : i64k l[k].1 := hk64'.out _ (List.getElem_mem hlt)
      obtain ⟨b, off, rfl, hbl, hc⟩ := ents_open (ha.to hbR) (by omega)
      obtain ⟨ob, d0, d1, d2, d3, d4⟩ := hc k hlt wr (Below.refl _ _)
      have hst : Hid (cnt (l.take (k + 1)) = stepC (cnt (l.take k)) l[k]) := cnt_take hlt
      have hcl := cnt_take_len l k
      clear hc
      generalize l[k] = e at *
      obtain ⟨i, x0, y0, x1, y1⟩ := e
      dsimp only at d0 d1 d2 d3 d4 hkk
      cases hv : val4 x0 y0 x1 y1 with
      | false =>
        have hst2 : Hid (cnt (l.take (k + 1)) = cnt (l.take k)) := by show _ = _; rw [hst.out, stepC_no (.inl (show Bx.val ⟨x0, y0, x1, y1⟩ = false from hv))]
        clear hst
        go_wp2_with (go_at_call 29; refine Calls.mono (gw_at (boolIs (xval_b x0 y0 x1 y1 _) hv)) ?_; rintro e w1 ⟨rfl, q, rfl⟩)
        have hb2 : Below wr.heap.size wr (gw ((wr.alloc (.cells #[.int .i64 i, .int .i64 x0, .int .i64 y0, .int .i64 x1, .int .i64 y1] 33))) q) := bBel
        refine ⟨⟨k + 1, n, by omega, by omega, by go_num, ?_, ?_, Below.trans hbR (hb2.mono hszR), hne⟩, by (try go_num); simp [intOf]; (try omega)⟩
        · rw [hst2.out]; exact owns_below hown hb2
        · rw [hst2.out]; exact hM.to hb2
      | true =>
        go_upto_region 6 with fail
        refine wp_named ?_
        intro X hX
        have kE : blk X wr.heap.size #[.int .i64 i, .int .i64 x0, .int .i64 y0, .int .i64 x1, .int .i64 y1] 33 := by rw [hX]; exact bBkn
        have hbX : Below wr.heap.size wr X := by rw [hX]; exact bBel
        clear hX d0 d1 d2 d3 d4 ob
        have hszX := hbX.size
        have hMX := hM.to hbX
        have hownX := owns_below hown hbX
        clear hM hown
        have okE := blk_older kE
        have ckE_0 : _ = some _ := blk_cell kE 0
        have ckE_1 : _ = some _ := blk_cell kE 1
        have ckE_2 : _ = some _ := blk_cell kE 2
        have ckE_3 : _ = some _ := blk_cell kE 3
        have ckE_4 : _ = some _ := blk_cell kE 4
        have fkE_0 := blk_free kE 0
        have fkE_1 := blk_free kE 1
        have fkE_2 := blk_free kE 2
        have fkE_3 := blk_free kE 3
        have fkE_4 := blk_free kE 4
        have hlook : ∀ q : Gw, (Instr.lookup 59 (.map (some w.heap.size)) (.int .i64 i) false).run Try.prog (gw X q) = .ok (.bool (hasI (cnt (l.take k)) i)) (gw X q) := fun q => BMap.look keyI umI zbool (hMX.to (below_gw X q)) hkk
        cases hh : hasI (cnt (l.take k)) i with
        | true =>
          have hst2 : Hid (cnt (l.take (k + 1)) = cnt (l.take k)) := by show _ = _; rw [hst.out, stepC_no (e := (i, ⟨x0, y0, x1, y1⟩)) (.inr (hasI_yes hh))]
          rw [hh] at hlook
          clear hst
          go_wp2_with (go_at_call 29; refine Calls.mono (gw_at (boolIs (xval_b x0 y0 x1 y1 _) hv)) ?_; rintro e w1 ⟨rfl, q, rfl⟩)
          have hb2 : Below X.heap.size X (gw X q) := below_gw X q
          refine ⟨⟨k + 1, n, by omega, by omega, by go_num, ?_, ?_, Below.trans hbR (Below.trans hbX (hb2.mono hszX) |>.mono hszR), hne⟩, by (try go_num); simp [intOf]; (try omega)⟩
          · rw [hst2.out]; exact owns_below hownX hb2
          · rw [hst2.out]; exact hMX.to hb2
        | false =>
          have hst2 : Hid (cnt (l.take (k + 1)) = cnt (l.take k) ++ [(i, ⟨x0, y0, x1, y1⟩)]) := by show _ = _; rw [hst.out, stepC_yes (e := (i, ⟨x0, y0, x1, y1⟩)) (show Bx.val ⟨x0, y0, x1, y1⟩ = true from hv) (hasI_no hh)]
          rw [hh] at hlook
          clear hst
          go_upto_region 7 with (go_at_call 29; refine Calls.mono (gw_at (boolIs (xval_b x0 y0 x1 y1 _) hv)) ?_; rintro e w1 ⟨rfl, q, rfl⟩)
          refine wp_named ?_
          intro Y hY
          have hbXY : Below X.heap.size X Y := by rw [hY]; exact bBel
          clear hY hlook
          obtain ⟨Z, hput0, hMZ, hgZ⟩ := BMap.put keyI umI (hMX.to hbXY) hkk (by omega)
          have hput : (Instr.mapUpdate 59 (.map (some w.heap.size)) (.int .i64 i) (.bool true)).run Try.prog Y = .ok () Z := hput0
          have kEY := blk_below hbXY kE
          have hownY := owns_below hownX hbXY
          have hbY : Below w.heap.size w Y := Below.trans hbR ((Below.trans hbX (hbXY.mono hszX)).mono hszR)
          have hbZ : Below w.heap.size w Z := ⟨hgZ.os.trans hbY.os, hgZ.tape.trans hbY.tape, hgZ.output.trans hbY.output, Nat.le_trans hbY.size hgZ.size, fun k' hk' => (hgZ.block k' (Nat.lt_of_lt_of_le hk' hbY.size) (by simp; omega)).trans (hbY.block k' hk')⟩
          have hszY := hbXY.size
          have hlw := blk_lt kE
          clear okE kE hownX hMX hput0
          have okEY := blk_older kEY
          have ckEY_0 : _ = some _ := blk_cell kEY 0
          have ckEY_1 : _ = some _ := blk_cell kEY 1
          have ckEY_2 : _ = some _ := blk_cell kEY 2
          have ckEY_3 : _ = some _ := blk_cell kEY 3
          have ckEY_4 : _ = some _ := blk_cell kEY 4
          have fkEY_0 := blk_free kEY 0
          have fkEY_1 := blk_free kEY 1
          have fkEY_2 := blk_free kEY 2
          have fkEY_3 := blk_free kEY 3
          have fkEY_4 := blk_free kEY 4
          go_upto_region 8 with fail
          have kEZ := blk_grown20 hgZ kEY (by simp; have := hbR.size; omega)
          have hownZ := owns_grown21 hownY hgZ (.inr hne)
          clear okEY kEY hownY hput hgZ
          have okEZ := blk_older kEZ
          have ckEZ_0 : _ = some _ := blk_cell kEZ 0
          have ckEZ_1 : _ = some _ := blk_cell kEZ 1
          have ckEZ_2 : _ = some _ := blk_cell kEZ 2
          have ckEZ_3 : _ = some _ := blk_cell kEZ 3
          have ckEZ_4 : _ = some _ := blk_cell kEZ 4
          have fkEZ_0 := blk_free kEZ 0
          have fkEZ_1 := blk_free kEZ 1
          have fkEZ_2 := blk_free kEZ 2
          have fkEZ_3 := blk_free kEZ 3
          have fkEZ_4 := blk_free kEZ 4
          have hszZ := hbZ.size
          go_wp2_with (at_builtin; refine wpList_app21 rfl _ _ 22 rfl w.heap.size 33 i0 (.agg #[.int .i64 0, .int .i64 0, .int .i64 0, .int .i64 0, .int .i64 0]) 5 40 (by kernel_rfl) hi hz0 hz1 hz2 rfl (by decide) _ _ _ rfl (owns_below hownZ bBel) _ [.int .i64 i, .int .i64 x0, .int .i64 y0, .int .i64 x1, .int .i64 y1] 33 rfl rfl bBkn (by intro u hu; simp at hu; rcases hu with rfl | rfl | rfl | rfl | rfl <;> rfl) (by unfold maxLen; omega) (by omega) (by first | (simp; omega) | omega) ?_; intro v' w2 hown2 hb2 hg2 ho2)
          have hne2 : v'.ownBlock ≠ some w.heap.size := by
            rcases ho2 with e | e
            · rw [e]; exact hne
            · rw [e]; simp; omega
          have hM2 : BMap 3 klI i64k w2 w.heap.size (hasI (cnt (l.take (k + 1)))) (n + 1) := by
            rw [hst2.out]
            exact ((hMZ.to ((Below.refl _ Z).alloc (Nat.le_refl _) _)).grown hg2 hne).congr (hasI_fun (cnt (l.take k)) (i, ⟨x0, y0, x1, y1⟩))
          refine ⟨⟨k + 1, n + 1, by omega, by omega, by go_num, ?_, hM2, Below.trans (Below.alloc hbZ hszZ _) hb2, hne2⟩, by (try go_num); simp [intOf]; (try omega)⟩
          rw [hst2.out, ev_snoc, List.length_append]; exact hown2
    · obtain rfl : k = l.length := by omega
      rw [List.take_length] at hown
      have hnn := cnt_len l
      have hownS := own_hid hown
      clear hown
      go_wp2_with (go_at_call 30; refine Calls.mono (sortE_b w.heap.size _ (cnt l) _ (by omega) (cnt_dst l) hownS.out) ?_; rintro e w1 ⟨rfl, hown1, hb1, -⟩)
      go_ret
      refine ⟨⟨_, rfl, ?_⟩, Below.trans hbR hb1⟩
      rw [srE_len (cnt_dst l)]; exact hown1

end Go.Proofs.Ytfhhkabdeajieaa
