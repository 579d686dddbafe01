/- Chapter 22: the reference's Box, Few, Keys, ValidKeys. -/
import Derived.Test.YtaahgblkmajceaaGreatBpB
set_option linter.unusedVariables false
set_option linter.unusedSimpArgs false
namespace Go.Proofs.YtaahgblkmajceaaGreat
open Go.RowKit Fx

/-- The proxy box of a fixture of a body. -/
def fbx (b : Bdy) (f : Fxr) : Bx := Bx.exp (bndS f.K f.R f.ps b.px b.py b.pa) 1024
theorem fxs_at {w : World} {A : Option Addr} {fs : List Fxr} (h : Fxs w A fs) {i : Nat} (hi : i < fs.length) : ∃ b off, A = some ⟨b, off, none⟩ ∧ fxQ w (fxc fs[i]) fs[i] ∧ ∀ w', Below w.heap.size w w' → older b w' = true ∧ w'.rangeAt b (off + i * 10) (fxc fs[i]) := by
  rcases h with h | ⟨b, off, rfl, hc⟩
  · rw [h] at hi; simp at hi
  · obtain ⟨cs, hl, k, hq⟩ := hc i hi
    obtain rfl : cs = fxc fs[i] := hq.1
    have hlt : b < w.heap.size := World.block_lt_of_cell? w ⟨b, off + i * 10 + 0, none⟩ (show _ = some (Value.int .i64 fs[i].K) from k 0 (by decide))
    exact ⟨b, off, rfl, hq, fun w' hb => ⟨(by have := hb.size; simp [older]; omega), fun j v hv => (hb.cell (p := ⟨b, off + i * 10 + j, none⟩) hlt).trans ((k j (by have := (List.getElem?_eq_some_iff.1 hv).1; exact this)).trans hv)⟩⟩

set_option maxRecDepth 100000 in
set_option maxHeartbeats 16000000 in
theorem rbox_b (f : Bdy) (p : Nat) (hp : p < f.fs.length) (hf : ∀ x ∈ f.fs, x.ps.length ≤ 1000) (w : World) (h : bdQ w (bdc f) f) : Calls Tryz.prog 33 #[.agg (bdc f).toArray, .int .i64 (p : Int)] w fun e w' => e = .returned (.agg #[.int .i64 (fbx f f.fs[p]).x0, .int .i64 (fbx f f.fs[p]).y0, .int .i64 (fbx f f.fs[p]).x1, .int .i64 (fbx f f.fs[p]).y1]) ∧ Below w.heap.size w w' := by
  obtain ⟨b, off, hA, hq, hc⟩ := fxs_at h.2.2.1 hp
  have hps : (f.fs[p]).ps.length ≤ 1000 := hf _ (List.getElem_mem hp)
  obtain ⟨i, k, px, py, pa, vx, vy, av, fx, fy, tq, ld, ad, gs, bul, fix, nos, asl, idl, A, cap, fs⟩ := f
  dsimp only at hA hq hc hps hp ⊢
  subst hA
  have hpl : (p : Int) < (fs.length : Int) := by omega
  show Calls _ _ #[.agg #[.int .i64 i, .int .i64 k, .int .i64 px, .int .i64 py, .int .i64 pa, .int .i64 vx, .int .i64 vy, .int .i64 av, .int .i64 fx, .int .i64 fy, .int .i64 tq, .int .i64 ld, .int .i64 ad, .int .i64 gs, .bool bul, .bool fix, .bool nos, .bool asl, .int .i64 idl, .slice (some ⟨b, off, none⟩) fs.length cap], _] _ _
  clear hf h
  generalize fs[p] = g at *
  obtain ⟨K, R, A2, cap2, ps, fD, fF, fE, sen, c1, m1, g1⟩ := g
  have hpts : Pts w A2 ps := hq.2.1
  dsimp only at hps
  have e : fbx ⟨i, k, px, py, pa, vx, vy, av, fx, fy, tq, ld, ad, gs, bul, fix, nos, asl, idl, some ⟨b, off, none⟩, cap, fs⟩ ⟨K, R, A2, cap2, ps, fD, fF, fE, sen, c1, m1, g1⟩ = Bx.exp (bndS K R ps px py pa) 1024 := rfl
  rw [e]
  have cB := fun w' h => rbnd_b K R A2 cap2 ps px py pa (by omega) w' h
  generalize bndS K R ps px py pa = X at *
  obtain ⟨y0, y1, y2, y3⟩ := X
  dsimp only at cB
  have cE := fun w' => rxexp_b y0 y1 y2 y3 1024 w'
  generalize Bx.exp ⟨y0, y1, y2, y3⟩ 1024 = Z at *
  obtain ⟨z0, z1, z2, z3⟩ := Z
  dsimp only at cE ⊢
  clear e hq
  generalize fs.length = N at *
  go_enter Tryz.func33, Tryz.ntmps33
  go_upto_region 1 with fail
  refine wp_named ?_
  intro V hV
  have kA : blk V w.heap.size #[.int .i64 i, .int .i64 k, .int .i64 px, .int .i64 py, .int .i64 pa, .int .i64 vx, .int .i64 vy, .int .i64 av, .int .i64 fx, .int .i64 fy, .int .i64 tq, .int .i64 ld, .int .i64 ad, .int .i64 gs, .bool bul, .bool fix, .bool nos, .bool asl, .int .i64 idl, .slice (some ⟨b, off, none⟩) N cap] 37 := by rw [hV]; exact bBkn
  have kR : blk V (w.heap.size + 1) #[.int .i64 0, .int .i64 0, .int .i64 0, .int .i64 0] 42 := by rw [hV]; exact bBkn
  have hbV : Below w.heap.size w V := by rw [hV]; exact bBel
  clear hV
  have hszV := hbV.size
  have oA : older w.heap.size V = true := blk_older kA
  have a2 : V.cell? ⟨w.heap.size, 2, none⟩ = some (.int .i64 px) := blk_cell kA 2
  have a3 : V.cell? ⟨w.heap.size, 3, none⟩ = some (.int .i64 py) := blk_cell kA 3
  have a4 : V.cell? ⟨w.heap.size, 4, none⟩ = some (.int .i64 pa) := blk_cell kA 4
  have a19 : V.cell? ⟨w.heap.size, 19, none⟩ = some (.slice (some ⟨b, off, none⟩) N cap) := blk_cell kA 19
  obtain ⟨og, hr⟩ := hc V hbV
  have b0 : V.cell? ⟨b, off + p * 10, none⟩ = some (.int .i64 K) := hr 0 _ rfl
  have b1 : V.cell? ⟨b, off + p * 10 + 1, none⟩ = some (.int .i64 R) := hr 1 _ rfl
  have b2 : V.cell? ⟨b, off + p * 10 + 2, none⟩ = some (.slice A2 ps.length cap2) := hr 2 _ rfl
  have hptsV := Pts.to hpts hbV
  have okR := blk_older kR
  have ckR_0 : _ = some _ := blk_cell kR 0
  have ckR_1 : _ = some _ := blk_cell kR 1
  have ckR_2 : _ = some _ := blk_cell kR 2
  have ckR_3 : _ = some _ := blk_cell kR 3
  have fkR_0 := blk_free kR 0
  have fkR_1 := blk_free kR 1
  have fkR_2 := blk_free kR 2
  have fkR_3 := blk_free kR 3
  clear hr hc kA
  refine wp_region_gw_tail 10 (by kernel_rfl) (by kernel_rfl) ?_
  simp only [List.take_succ_cons, List.take_zero, List.drop_succ_cons, List.drop_zero]
  repeat (go_big_quiet_step ((first | (go_at_call 48; with_reducible_and_instances exact gw_call (cB _ (Pts.to hptsV bBel))) | (go_at_call 47; with_reducible_and_instances exact gw_call (cE _)))))
  refine wpQuiet_nil ?_
  intro w1 hw1
  obtain ⟨q, rfl⟩ := hw1
  go_wp2_with fail
  refine post_named ?_
  intro Z hZ
  have kZ : blk Z (w.heap.size + 1) #[.int .i64 z0, .int .i64 z1, .int .i64 z2, .int .i64 z3] 42 := by rw [hZ]; exact (by apply blk_of; (repeat (first | with_reducible apply blk_set | with_reducible apply blk_gw | with_reducible apply blk_drew | with_reducible apply blk_alloc | with_reducible exact kR)); (first | rfl | simp))
  have hbZ : Below w.heap.size w Z := by rw [hZ]; exact bBel
  clear hZ
  have okZ := blk_older kZ
  have ckZ_0 : _ = some _ := blk_cell kZ 0
  have ckZ_1 : _ = some _ := blk_cell kZ 1
  have ckZ_2 : _ = some _ := blk_cell kZ 2
  have ckZ_3 : _ = some _ := blk_cell kZ 3
  have fkZ_0 := blk_free kZ 0
  have fkZ_1 := blk_free kZ 1
  have fkZ_2 := blk_free kZ 2
  have fkZ_3 := blk_free kZ 3
  exact bodyPost_ret (v := .agg #[.int .i64 z0, .int .i64 z1, .int .i64 z2, .int .i64 z3]) (by simp [results, Tryz.results33, go_sem, ckZ_0, ckZ_1, ckZ_2, ckZ_3]) rfl ⟨rfl, hbZ⟩

def okF (b : Bdy) : Prop := b.fs.length ≤ 8 ∧ ∀ f ∈ b.fs, f.ps.length ≤ 20
instance (b : Bdy) : Decidable (okF b) := by unfold okF; infer_instance
/-- At most lim bodies, with few fixtures and vertices. -/
def fewB (l : List Bdy) (lim : Int) : Bool := decide ((l.length : Int) ≤ lim ∧ ∀ b ∈ l, okF b)

set_option maxRecDepth 100000 in
set_option maxHeartbeats 16000000 in
theorem rfew_b (A : Option Addr) (cap : Nat) (l : List Bdy) (lim : Int) (hl : l.length ≤ 1000000) (w : World) (h : Bods w A l) : Calls Tryz.prog 9 #[.slice A l.length cap, .int .i64 lim] w fun e w' => e = .returned (.bool (fewB l lim)) ∧ Below w.heap.size w w' := by
  obtain ⟨D, hD⟩ : ∃ D, Hid (fewB l lim = D) := ⟨_, rfl⟩
  rw [hD.out]
  by_cases h0 : (l.length : Int) > lim
  · obtain rfl : D = false := by rw [← hD.out]; unfold fewB; simp; omega
    go_enter Tryz.func9, Tryz.ntmps9
    go_wp2_with fail
    go_ret
    exact ⟨rfl, bBel⟩
  have h0d : decide (lim < (l.length : Int)) = false := by simp; omega
  go_enter Tryz.func9, Tryz.ntmps9
  go_wp2_with fail
  go_loopw [5] (fun i wr => ∃ k : Nat, k ≤ l.length ∧ i = .int .i64 (k : Int) ∧ Hid (∀ x ∈ l.take k, okF x) ∧ Below w.heap.size w wr) (fun i _ => l.length - (intOf i).toNat)
  case atStart => exact ⟨0, by omega, rfl, fun x hx => (by simp at hx), bBel⟩
  case round =>
    obtain ⟨k, hk, rfl, hok, hb⟩ := hrel
    have hszR := hb.size
    by_cases hlt : k < l.length
    · obtain ⟨b, off, rfl, hbl, hc0⟩ := bods_open h (by omega)
      obtain ⟨hq, hr0⟩ := hc0 k hlt
      have hr := show Hid _ from hr0
      have hst : Hid (okF l[k] → ∀ x ∈ l.take (k + 1), okF x) := fun h2 x hx => by
        rw [← List.take_append_getElem hlt] at hx
        rcases List.mem_append.1 hx with hx | hx
        · exact hok.out x hx
        · simp at hx; subst hx; exact h2
      have hbad : Hid (¬ okF l[k] → D = false) := fun h2 => by
        rw [← hD.out]; unfold fewB; rw [decide_eq_false_iff_not]
        exact fun h3 => h2 (h3.2 _ (List.getElem_mem hlt))
      have hfx := hq.2.2.1
      clear hc0 hr0 hok hq
      generalize l[k] = f at *
      obtain ⟨fi, fk, px, py, pa, vx, vy, av, fx, fy, tq, ld, ad, gs, bul, fix, nos, asl, idl, A2, cap2, fs⟩ := f
      dsimp only at hfx
      have hcellV : ∀ w', Below w.heap.size w w' → older b w' = true ∧ w'.cell? ⟨b, off + k * 20 + 19, none⟩ = some (.slice A2 fs.length cap2) := fun w' h => ⟨(hr.out w' h).1, (hr.out w' h).2 19 _ rfl⟩
      have hcV := show Hid _ from hcellV
      obtain ⟨o, d19⟩ := hcellV wr hb
      clear hcellV hr
      by_cases h8 : fs.length ≤ 8
      rotate_left
      · obtain rfl := hbad.out fun h2 => h8 h2.1
        have h8' : (fs.length : Int) > 8 := by omega
        clear hst hbad
        go_wp2_with fail
        go_ret
        exact ⟨rfl, bBel⟩
      · have h8' : decide ((8 : Int) < (fs.length : Int)) = false := by simp; omega
        have h8'' : decide (8 < fs.length) = false := by simp; omega
        go_wp2_with fail
        generalize wr = V at *
        go_loopw [6] (fun j wx => ∃ m : Nat, m ≤ fs.length ∧ j = .int .i64 (m : Int) ∧ Hid (∀ x ∈ fs.take m, x.ps.length ≤ 20) ∧ Below V.heap.size V wx) (fun j _ => fs.length - (intOf j).toNat)
        case atStart => exact ⟨0, by omega, rfl, fun x hx => (by simp at hx), Below.refl _ _⟩
        case round =>
          obtain ⟨m, hm, rfl, hno, hbx⟩ := hrel
          have hszX := hbx.size
          have hbw := Below.trans hb (hbx.mono hszR)
          obtain ⟨o2, e19⟩ := hcV.out _ hbw
          by_cases hmt : m < fs.length
          · obtain ⟨b2, off2, rfl, hq2, hr2⟩ := fxs_at hfx hmt
            obtain ⟨og, hr3⟩ := hr2 _ hbw
            have hno2 : Hid (fs[m].ps.length ≤ 20 → ∀ x ∈ fs.take (m + 1), x.ps.length ≤ 20) := fun h2 x hx => by
              rw [← List.take_append_getElem hmt] at hx
              rcases List.mem_append.1 hx with hx | hx
              · exact hno.out x hx
              · simp at hx; subst hx; exact h2
            have hbad2 : Hid (¬ fs[m].ps.length ≤ 20 → D = false) := fun h2 => hbad.out fun h3 => h2 (h3.2 _ (List.getElem_mem hmt))
            have c2 : wr.cell? ⟨b2, off2 + m * 10 + 2, none⟩ = some (.slice fs[m].A fs[m].ps.length fs[m].cap) := hr3 2 _ rfl
            clear hr2 hr3 hq2 hno
            generalize fs[m] = g at *
            obtain ⟨K, R, A3, cap3, ps, fD, fF, fE, sen, c1, m1, g1⟩ := g
            dsimp only at c2 hno2 hbad2
            by_cases h20 : ps.length ≤ 20
            rotate_left
            · obtain rfl := hbad2.out h20
              have h20' : (ps.length : Int) > 20 := by omega
              clear hst hbad hno2 hbad2
              go_wp2_with fail
              go_ret
              exact ⟨rfl, bBel⟩
            · have hn := hno2.out h20
              have hn4 : Hid (∀ x ∈ fs.take (m + 1), x.ps.length ≤ 20) := hn
              have h20' : decide ((20 : Int) < (ps.length : Int)) = false := by simp; omega
              have h20'' : decide (20 < ps.length) = false := by simp; omega
              clear hst hbad hno2 hbad2 hn
              go_wp2_with fail
              exact ⟨⟨m + 1, by omega, by go_num, hn4, bBel⟩, by (try go_num); simp [intOf]; (try omega)⟩
          · obtain rfl : m = fs.length := by omega
            have hn4 : Hid (∀ x ∈ l.take (k + 1), okF x) := hst.out ⟨h8, by have := hno.out; rw [List.take_length] at this; exact this⟩
            clear hst hbad hno
            go_wp2_with fail
            exact ⟨⟨k + 1, by omega, by go_num, hn4, bBel⟩, by (try go_num); simp [intOf]; (try omega)⟩
    · obtain rfl : k = l.length := by omega
      obtain rfl : D = true := by
        rw [← hD.out]; unfold fewB; rw [decide_eq_true_iff]
        exact ⟨by omega, by have := hok.out; rw [List.take_length] at this; exact this⟩
      go_wp2_with fail
      go_ret
      exact ⟨rfl, bBel⟩

end Go.Proofs.YtaahgblkmajceaaGreat
