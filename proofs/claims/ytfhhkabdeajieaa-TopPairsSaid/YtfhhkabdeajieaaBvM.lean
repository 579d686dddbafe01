/- Chapter 20: a world that has turned in some blocks alone; nodes in memory; adopt, replace. -/
import Derived.Test.YtfhhkabdeajieaaCo4
import Derived.Test.YtfhhkabdeajieaaBvA
import Derived.LaidEqlPtr
import Derived.RegionTactic
import Derived.BigRegion
import Derived.Deep.DeepCutAuto
set_option linter.unusedVariables false
namespace Go.Proofs.Ytfhhkabdeajieaa
open Go.RowKit Fx

/-- Nothing old has turned but for blocks in S. -/
structure But (S : Nat → Prop) (w w' : World) : Prop where
  os : w'.os = w.os
  tape : w'.tape = w.tape
  output : w'.output = w.output
  size : w.heap.size ≤ w'.heap.size
  block : ∀ k, k < w.heap.size → ¬ S k → w'.heap[k]? = w.heap[k]?

theorem But.refl (S : Nat → Prop) (w : World) : But S w w := ⟨rfl, rfl, rfl, Nat.le_refl _, fun _ _ _ => rfl⟩
theorem But.trans {S S' : Nat → Prop} {a b c : World} (h : But S a b) (k : But S' b c) (hs : ∀ i, i < a.heap.size → S' i → S i) : But S a c :=
  ⟨k.os.trans h.os, k.tape.trans h.tape, k.output.trans h.output, Nat.le_trans h.size k.size, fun i hi hn => (k.block i (Nat.lt_of_lt_of_le hi h.size) (fun e => hn (hs i hi e))).trans (h.block i hi hn)⟩
theorem But.set {S : Nat → Prop} {a w : World} (h : But S a w) {b i : Nat} (hb : S b) (v : Value) : But S a (w.setCell ⟨b, i, none⟩ v) :=
  ⟨h.os, h.tape, h.output, Nat.le_trans h.size (by simp [World.setCell]), fun k hk hn => (Below.heap_setCell _ _ _ _ (by rintro rfl; exact hn hb)).trans (h.block k hk hn)⟩
theorem But.gw {S : Nat → Prop} {a w : World} (h : But S a w) (p : Gw) : But S a (gw w p) := by
  have hb := below_gw w p
  exact ⟨hb.os.trans h.os, hb.tape.trans h.tape, hb.output.trans h.output, Nat.le_trans h.size hb.size, fun k hk hn => (hb.block k (Nat.lt_of_lt_of_le hk h.size)).trans (h.block k hk hn)⟩
theorem But.below {S : Nat → Prop} {a w w' : World} (h : But S a w) (hb : Below w.heap.size w w') : But S a w' :=
  ⟨hb.os.trans h.os, hb.tape.trans h.tape, hb.output.trans h.output, Nat.le_trans h.size hb.size, fun k hk hn => (hb.block k (Nat.lt_of_lt_of_le hk h.size)).trans (h.block k hk hn)⟩
theorem But.alloc {S : Nat → Prop} {a w : World} (h : But S a w) (o : Obj) : But S a (w.alloc o) := h.below ((Below.refl _ w).alloc (Nat.le_refl _) o)
theorem But.drew {S : Nat → Prop} {a w : World} (h : But S a w) : But S a w.drew := ⟨h.os, h.tape, h.output, h.size, h.block⟩
theorem But.mono {S S' : Nat → Prop} {a w : World} (h : But S a w) (hs : ∀ k, k < a.heap.size → S k → S' k) : But S' a w := ⟨h.os, h.tape, h.output, h.size, fun k hk hn => h.block k hk fun e => hn (hs k hk e)⟩
theorem But.blk {S : Nat → Prop} {a w : World} (h : But S a w) {b : Nat} {c : Array Value} {t : TypeId} (hb : blk a b c t) (hn : ¬ S b) : blk w b c t := (h.block b (blk_lt hb) hn).trans hb
/-- The proof that nothing has turned but for the blocks that are named (a list of stores, calls, draws). -/
theorem bBut {S : Nat → Prop} {a w : World} (h : But S a w := by repeat (first | with_reducible exact But.refl _ _ | with_reducible assumption | with_reducible apply But.gw | with_reducible apply But.alloc | with_reducible apply But.drew | with_reducible refine But.set ?_ (by simp) _)) : But S a w := h

def nptr : Option Nat → Value
  | none => .pointer none
  | some b => .pointer (some ⟨b, 0, none⟩)
theorem nptr_some (b : Nat) : nptr (some b) = .pointer (some ⟨b, 0, none⟩) := rfl
theorem nptr_none : nptr none = .pointer none := rfl
def ndc (n : Nd) : Array Value := #[.int .i64 n.id, .int .i64 n.x.x0, .int .i64 n.x.y0, .int .i64 n.x.x1, .int .i64 n.x.y1, .int .i64 n.h, nptr n.p, nptr n.l, nptr n.r]

set_option maxRecDepth 100000 in
set_option maxHeartbeats 4000000 in
theorem adopt_b (n a b : Nat) (N A B : Nd) (w : World) (kn : blk w n (ndc N) 89) (ka : blk w a (ndc A) 89) (kb : blk w b (ndc B) 89) (na : n ≠ a) (nb : n ≠ b) (ab : a ≠ b)
    (hA : 0 ≤ A.h ∧ A.h ≤ 1000000000) (hB : 0 ≤ B.h ∧ B.h ≤ 1000000000) : Calls Try.prog 89 #[.pointer (some ⟨n, 0, none⟩), .pointer (some ⟨a, 0, none⟩), .pointer (some ⟨b, 0, none⟩)] w fun e w' => e = .returned (.tuple #[]) ∧
      blk w' n (ndc { N with x := Bx.uni A.x B.x, h := 1 + max A.h B.h, l := some a, r := some b }) 89 ∧ blk w' a (ndc { A with p := some n }) 89 ∧ blk w' b (ndc { B with p := some n }) 89 ∧ But (fun k => k = n ∨ k = a ∨ k = b) w w' := by
  obtain ⟨iN, ⟨x0N, y0N, x1N, y1N⟩, hN, pN, lN, rN⟩ := N
  obtain ⟨iA, ⟨x0A, y0A, x1A, y1A⟩, hA', pA, lA, rA⟩ := A
  obtain ⟨iB, ⟨x0B, y0B, x1B, y1B⟩, hB', pB, lB, rB⟩ := B
  simp only [ndc] at kn ka kb ⊢
  dsimp only at hA hB
  obtain ⟨h1, h2⟩ := hA
  obtain ⟨h3, h4⟩ := hB
  generalize nptr pN = PN at *
  generalize nptr lN = LN at *
  generalize nptr rN = RN at *
  generalize nptr pA = PA at *
  generalize nptr lA = LA at *
  generalize nptr rA = RA at *
  generalize nptr pB = PB at *
  generalize nptr lB = LB at *
  generalize nptr rB = RB at *
  have an : a ≠ n := Ne.symm na
  have bn : b ≠ n := Ne.symm nb
  have ba : b ≠ a := Ne.symm ab
  have okn := blk_older kn
  have ckn_0 : _ = some _ := blk_cell kn 0
  have ckn_1 : _ = some _ := blk_cell kn 1
  have ckn_2 : _ = some _ := blk_cell kn 2
  have ckn_3 : _ = some _ := blk_cell kn 3
  have ckn_4 : _ = some _ := blk_cell kn 4
  have ckn_5 : _ = some _ := blk_cell kn 5
  have ckn_6 : _ = some _ := blk_cell kn 6
  have ckn_7 : _ = some _ := blk_cell kn 7
  have ckn_8 : _ = some _ := blk_cell kn 8
  have fkn_0 := blk_free kn 0
  have fkn_1 := blk_free kn 1
  have fkn_2 := blk_free kn 2
  have fkn_3 := blk_free kn 3
  have fkn_4 := blk_free kn 4
  have fkn_5 := blk_free kn 5
  have fkn_6 := blk_free kn 6
  have fkn_7 := blk_free kn 7
  have fkn_8 := blk_free kn 8
  have oka := blk_older ka
  have cka_0 : _ = some _ := blk_cell ka 0
  have cka_1 : _ = some _ := blk_cell ka 1
  have cka_2 : _ = some _ := blk_cell ka 2
  have cka_3 : _ = some _ := blk_cell ka 3
  have cka_4 : _ = some _ := blk_cell ka 4
  have cka_5 : _ = some _ := blk_cell ka 5
  have cka_6 : _ = some _ := blk_cell ka 6
  have cka_7 : _ = some _ := blk_cell ka 7
  have cka_8 : _ = some _ := blk_cell ka 8
  have fka_0 := blk_free ka 0
  have fka_1 := blk_free ka 1
  have fka_2 := blk_free ka 2
  have fka_3 := blk_free ka 3
  have fka_4 := blk_free ka 4
  have fka_5 := blk_free ka 5
  have fka_6 := blk_free ka 6
  have fka_7 := blk_free ka 7
  have fka_8 := blk_free ka 8
  have okb := blk_older kb
  have ckb_0 : _ = some _ := blk_cell kb 0
  have ckb_1 : _ = some _ := blk_cell kb 1
  have ckb_2 : _ = some _ := blk_cell kb 2
  have ckb_3 : _ = some _ := blk_cell kb 3
  have ckb_4 : _ = some _ := blk_cell kb 4
  have ckb_5 : _ = some _ := blk_cell kb 5
  have ckb_6 : _ = some _ := blk_cell kb 6
  have ckb_7 : _ = some _ := blk_cell kb 7
  have ckb_8 : _ = some _ := blk_cell kb 8
  have fkb_0 := blk_free kb 0
  have fkb_1 := blk_free kb 1
  have fkb_2 := blk_free kb 2
  have fkb_3 := blk_free kb 3
  have fkb_4 := blk_free kb 4
  have fkb_5 := blk_free kb 5
  have fkb_6 := blk_free kb 6
  have fkb_7 := blk_free kb 7
  have fkb_8 := blk_free kb 8
  go_enter Try.func89, Try.ntmps89
  go_wp2_with fail
  refine wp_named ?_
  intro X hX
  have kn_1 : blk X n #[.int .i64 iN, .int .i64 x0N, .int .i64 y0N, .int .i64 x1N, .int .i64 y1N, .int .i64 hN, PN, .pointer (some ⟨a, 0, none⟩), .pointer (some ⟨b, 0, none⟩)] 89 := by rw [hX]; exact (by apply blk_of; (repeat (first | with_reducible exact kn | with_reducible apply blk_drew | with_reducible apply blk_gw | with_reducible apply blk_alloc | with_reducible apply blk_set | ((with_reducible apply blk_other); focus omega))); (first | rfl | simp))
  have ka_1 : blk X a #[.int .i64 iA, .int .i64 x0A, .int .i64 y0A, .int .i64 x1A, .int .i64 y1A, .int .i64 hA', .pointer (some ⟨n, 0, none⟩), LA, RA] 89 := by rw [hX]; exact (by apply blk_of; (repeat (first | with_reducible exact ka | with_reducible apply blk_drew | with_reducible apply blk_gw | with_reducible apply blk_alloc | with_reducible apply blk_set | ((with_reducible apply blk_other); focus omega))); (first | rfl | simp))
  have kb_1 : blk X b #[.int .i64 iB, .int .i64 x0B, .int .i64 y0B, .int .i64 x1B, .int .i64 y1B, .int .i64 hB', .pointer (some ⟨n, 0, none⟩), LB, RB] 89 := by rw [hX]; exact (by apply blk_of; (repeat (first | with_reducible exact kb | with_reducible apply blk_drew | with_reducible apply blk_gw | with_reducible apply blk_alloc | with_reducible apply blk_set | ((with_reducible apply blk_other); focus omega))); (first | rfl | simp))
  have hbX : But (fun k => k = n ∨ k = a ∨ k = b) w X := by rw [hX]; exact bBut
  have hzX := hbX.size
  clear hX
  clear okn ckn_0 ckn_1 ckn_2 ckn_3 ckn_4 ckn_5 ckn_6 ckn_7 ckn_8 fkn_0 fkn_1 fkn_2 fkn_3 fkn_4 fkn_5 fkn_6 fkn_7 fkn_8 oka cka_0 cka_1 cka_2 cka_3 cka_4 cka_5 cka_6 cka_7 cka_8 fka_0 fka_1 fka_2 fka_3 fka_4 fka_5 fka_6 fka_7 fka_8 okb ckb_0 ckb_1 ckb_2 ckb_3 ckb_4 ckb_5 ckb_6 ckb_7 ckb_8 fkb_0 fkb_1 fkb_2 fkb_3 fkb_4 fkb_5 fkb_6 fkb_7 fkb_8
  clear kn ka kb
  have okn_1 := blk_older kn_1
  have ckn_1_0 : _ = some _ := blk_cell kn_1 0
  have ckn_1_1 : _ = some _ := blk_cell kn_1 1
  have ckn_1_2 : _ = some _ := blk_cell kn_1 2
  have ckn_1_3 : _ = some _ := blk_cell kn_1 3
  have ckn_1_4 : _ = some _ := blk_cell kn_1 4
  have ckn_1_5 : _ = some _ := blk_cell kn_1 5
  have ckn_1_6 : _ = some _ := blk_cell kn_1 6
  have ckn_1_7 : _ = some _ := blk_cell kn_1 7
  have ckn_1_8 : _ = some _ := blk_cell kn_1 8
  have fkn_1_0 := blk_free kn_1 0
  have fkn_1_1 := blk_free kn_1 1
  have fkn_1_2 := blk_free kn_1 2
  have fkn_1_3 := blk_free kn_1 3
  have fkn_1_4 := blk_free kn_1 4
  have fkn_1_5 := blk_free kn_1 5
  have fkn_1_6 := blk_free kn_1 6
  have fkn_1_7 := blk_free kn_1 7
  have fkn_1_8 := blk_free kn_1 8
  have oka_1 := blk_older ka_1
  have cka_1_0 : _ = some _ := blk_cell ka_1 0
  have cka_1_1 : _ = some _ := blk_cell ka_1 1
  have cka_1_2 : _ = some _ := blk_cell ka_1 2
  have cka_1_3 : _ = some _ := blk_cell ka_1 3
  have cka_1_4 : _ = some _ := blk_cell ka_1 4
  have cka_1_5 : _ = some _ := blk_cell ka_1 5
  have cka_1_6 : _ = some _ := blk_cell ka_1 6
  have cka_1_7 : _ = some _ := blk_cell ka_1 7
  have cka_1_8 : _ = some _ := blk_cell ka_1 8
  have fka_1_0 := blk_free ka_1 0
  have fka_1_1 := blk_free ka_1 1
  have fka_1_2 := blk_free ka_1 2
  have fka_1_3 := blk_free ka_1 3
  have fka_1_4 := blk_free ka_1 4
  have fka_1_5 := blk_free ka_1 5
  have fka_1_6 := blk_free ka_1 6
  have fka_1_7 := blk_free ka_1 7
  have fka_1_8 := blk_free ka_1 8
  have okb_1 := blk_older kb_1
  have ckb_1_0 : _ = some _ := blk_cell kb_1 0
  have ckb_1_1 : _ = some _ := blk_cell kb_1 1
  have ckb_1_2 : _ = some _ := blk_cell kb_1 2
  have ckb_1_3 : _ = some _ := blk_cell kb_1 3
  have ckb_1_4 : _ = some _ := blk_cell kb_1 4
  have ckb_1_5 : _ = some _ := blk_cell kb_1 5
  have ckb_1_6 : _ = some _ := blk_cell kb_1 6
  have ckb_1_7 : _ = some _ := blk_cell kb_1 7
  have ckb_1_8 : _ = some _ := blk_cell kb_1 8
  have fkb_1_0 := blk_free kb_1 0
  have fkb_1_1 := blk_free kb_1 1
  have fkb_1_2 := blk_free kb_1 2
  have fkb_1_3 := blk_free kb_1 3
  have fkb_1_4 := blk_free kb_1 4
  have fkb_1_5 := blk_free kb_1 5
  have fkb_1_6 := blk_free kb_1 6
  have fkb_1_7 := blk_free kb_1 7
  have fkb_1_8 := blk_free kb_1 8
  refine wp_region_gw_tail 12 (by kernel_rfl) (by kernel_rfl) ?_
  simp only [List.take_succ_cons, List.take_zero, List.drop_succ_cons, List.drop_zero]
  repeat (go_big_quiet_step ((first | (go_at_call 113; exact gw_call (xuni_b _ _ _ _ _ _ _ _ _)))))
  refine wpQuiet_nil ?_
  intro w1 hw1
  obtain ⟨q, rfl⟩ := hw1
  go_wp2_with fail
  refine wp_named ?_
  intro Y hY
  have kn_2 : blk Y n #[.int .i64 iN, .int .i64 (Bx.uni ⟨x0A, y0A, x1A, y1A⟩ ⟨x0B, y0B, x1B, y1B⟩).x0, .int .i64 (Bx.uni ⟨x0A, y0A, x1A, y1A⟩ ⟨x0B, y0B, x1B, y1B⟩).y0, .int .i64 (Bx.uni ⟨x0A, y0A, x1A, y1A⟩ ⟨x0B, y0B, x1B, y1B⟩).x1, .int .i64 (Bx.uni ⟨x0A, y0A, x1A, y1A⟩ ⟨x0B, y0B, x1B, y1B⟩).y1, .int .i64 hN, PN, .pointer (some ⟨a, 0, none⟩), .pointer (some ⟨b, 0, none⟩)] 89 := by rw [hY]; exact (by apply blk_of; (repeat (first | with_reducible exact kn_1 | with_reducible apply blk_drew | with_reducible apply blk_gw | with_reducible apply blk_alloc | with_reducible apply blk_set | ((with_reducible apply blk_other); focus omega))); (first | rfl | simp))
  have ka_2 : blk Y a #[.int .i64 iA, .int .i64 x0A, .int .i64 y0A, .int .i64 x1A, .int .i64 y1A, .int .i64 hA', .pointer (some ⟨n, 0, none⟩), LA, RA] 89 := by rw [hY]; exact (by apply blk_of; (repeat (first | with_reducible exact ka_1 | with_reducible apply blk_drew | with_reducible apply blk_gw | with_reducible apply blk_alloc | with_reducible apply blk_set | ((with_reducible apply blk_other); focus omega))); (first | rfl | simp))
  have kb_2 : blk Y b #[.int .i64 iB, .int .i64 x0B, .int .i64 y0B, .int .i64 x1B, .int .i64 y1B, .int .i64 hB', .pointer (some ⟨n, 0, none⟩), LB, RB] 89 := by rw [hY]; exact (by apply blk_of; (repeat (first | with_reducible exact kb_1 | with_reducible apply blk_drew | with_reducible apply blk_gw | with_reducible apply blk_alloc | with_reducible apply blk_set | ((with_reducible apply blk_other); focus omega))); (first | rfl | simp))
  have hbY : But (fun k => k = n ∨ k = a ∨ k = b) w Y := by rw [hY]; exact bBut
  have hzY := hbY.size
  clear hY
  clear okn_1 ckn_1_0 ckn_1_1 ckn_1_2 ckn_1_3 ckn_1_4 ckn_1_5 ckn_1_6 ckn_1_7 ckn_1_8 fkn_1_0 fkn_1_1 fkn_1_2 fkn_1_3 fkn_1_4 fkn_1_5 fkn_1_6 fkn_1_7 fkn_1_8 oka_1 cka_1_0 cka_1_1 cka_1_2 cka_1_3 cka_1_4 cka_1_5 cka_1_6 cka_1_7 cka_1_8 fka_1_0 fka_1_1 fka_1_2 fka_1_3 fka_1_4 fka_1_5 fka_1_6 fka_1_7 fka_1_8 okb_1 ckb_1_0 ckb_1_1 ckb_1_2 ckb_1_3 ckb_1_4 ckb_1_5 ckb_1_6 ckb_1_7 ckb_1_8 fkb_1_0 fkb_1_1 fkb_1_2 fkb_1_3 fkb_1_4 fkb_1_5 fkb_1_6 fkb_1_7 fkb_1_8
  clear kn_1 ka_1 kb_1
  clear hzX
  clear hbX
  have okn_2 := blk_older kn_2
  have ckn_2_0 : _ = some _ := blk_cell kn_2 0
  have ckn_2_1 : _ = some _ := blk_cell kn_2 1
  have ckn_2_2 : _ = some _ := blk_cell kn_2 2
  have ckn_2_3 : _ = some _ := blk_cell kn_2 3
  have ckn_2_4 : _ = some _ := blk_cell kn_2 4
  have ckn_2_5 : _ = some _ := blk_cell kn_2 5
  have ckn_2_6 : _ = some _ := blk_cell kn_2 6
  have ckn_2_7 : _ = some _ := blk_cell kn_2 7
  have ckn_2_8 : _ = some _ := blk_cell kn_2 8
  have fkn_2_0 := blk_free kn_2 0
  have fkn_2_1 := blk_free kn_2 1
  have fkn_2_2 := blk_free kn_2 2
  have fkn_2_3 := blk_free kn_2 3
  have fkn_2_4 := blk_free kn_2 4
  have fkn_2_5 := blk_free kn_2 5
  have fkn_2_6 := blk_free kn_2 6
  have fkn_2_7 := blk_free kn_2 7
  have fkn_2_8 := blk_free kn_2 8
  have oka_2 := blk_older ka_2
  have cka_2_0 : _ = some _ := blk_cell ka_2 0
  have cka_2_1 : _ = some _ := blk_cell ka_2 1
  have cka_2_2 : _ = some _ := blk_cell ka_2 2
  have cka_2_3 : _ = some _ := blk_cell ka_2 3
  have cka_2_4 : _ = some _ := blk_cell ka_2 4
  have cka_2_5 : _ = some _ := blk_cell ka_2 5
  have cka_2_6 : _ = some _ := blk_cell ka_2 6
  have cka_2_7 : _ = some _ := blk_cell ka_2 7
  have cka_2_8 : _ = some _ := blk_cell ka_2 8
  have fka_2_0 := blk_free ka_2 0
  have fka_2_1 := blk_free ka_2 1
  have fka_2_2 := blk_free ka_2 2
  have fka_2_3 := blk_free ka_2 3
  have fka_2_4 := blk_free ka_2 4
  have fka_2_5 := blk_free ka_2 5
  have fka_2_6 := blk_free ka_2 6
  have fka_2_7 := blk_free ka_2 7
  have fka_2_8 := blk_free ka_2 8
  have okb_2 := blk_older kb_2
  have ckb_2_0 : _ = some _ := blk_cell kb_2 0
  have ckb_2_1 : _ = some _ := blk_cell kb_2 1
  have ckb_2_2 : _ = some _ := blk_cell kb_2 2
  have ckb_2_3 : _ = some _ := blk_cell kb_2 3
  have ckb_2_4 : _ = some _ := blk_cell kb_2 4
  have ckb_2_5 : _ = some _ := blk_cell kb_2 5
  have ckb_2_6 : _ = some _ := blk_cell kb_2 6
  have ckb_2_7 : _ = some _ := blk_cell kb_2 7
  have ckb_2_8 : _ = some _ := blk_cell kb_2 8
  have fkb_2_0 := blk_free kb_2 0
  have fkb_2_1 := blk_free kb_2 1
  have fkb_2_2 := blk_free kb_2 2
  have fkb_2_3 := blk_free kb_2 3
  have fkb_2_4 := blk_free kb_2 4
  have fkb_2_5 := blk_free kb_2 5
  have fkb_2_6 := blk_free kb_2 6
  have fkb_2_7 := blk_free kb_2 7
  have fkb_2_8 := blk_free kb_2 8
  refine wp_region_gw_tail 13 (by kernel_rfl) (by kernel_rfl) ?_
  simp only [List.take_succ_cons, List.take_zero, List.drop_succ_cons, List.drop_zero]
  repeat (go_big_quiet_step ((first | (go_at_call 113; exact gw_call (xuni_b _ _ _ _ _ _ _ _ _)))))
  refine wpQuiet_nil ?_
  intro w1 hw1
  obtain ⟨q, rfl⟩ := hw1
  go_wp2_with fail
  go_end0
  exact ⟨rfl, (by apply blk_of; (repeat (first | with_reducible exact kn_2 | with_reducible apply blk_drew | with_reducible apply blk_gw | with_reducible apply blk_alloc | with_reducible apply blk_set | ((with_reducible apply blk_other); focus omega))); (first | rfl | simp)), (by apply blk_of; (repeat (first | with_reducible exact ka_2 | with_reducible apply blk_drew | with_reducible apply blk_gw | with_reducible apply blk_alloc | with_reducible apply blk_set | ((with_reducible apply blk_other); focus omega))); (first | rfl | simp)), (by apply blk_of; (repeat (first | with_reducible exact kb_2 | with_reducible apply blk_drew | with_reducible apply blk_gw | with_reducible apply blk_alloc | with_reducible apply blk_set | ((with_reducible apply blk_other); focus omega))); (first | rfl | simp)), bBut⟩

/-- The blocks of S hold the nodes of M. -/
def Rep (w : World) (M : Nat → Nd) (S : Nat → Prop) : Prop := ∀ b, S b → blk w b (ndc (M b)) 89

theorem adopt_r (n a b : Nat) (M : Nat → Nd) (S : Nat → Prop) (w : World) (hR : Rep w M S) (sn : S n) (sa : S a) (sb : S b) (na : n ≠ a) (nb : n ≠ b) (ab : a ≠ b)
    (hA : 0 ≤ (M a).h ∧ (M a).h ≤ 1000000000) (hB : 0 ≤ (M b).h ∧ (M b).h ≤ 1000000000) : Calls Try.prog 89 #[.pointer (some ⟨n, 0, none⟩), .pointer (some ⟨a, 0, none⟩), .pointer (some ⟨b, 0, none⟩)] w fun e w' => e = .returned (.tuple #[]) ∧ Rep w' (adM M n a b) S ∧ But S w w' := by
  refine (adopt_b n a b (M n) (M a) (M b) w (hR n sn) (hR a sa) (hR b sb) na nb ab hA hB).mono ?_
  rintro e w' ⟨rfl, h1, h2, h3, h4⟩
  refine ⟨rfl, fun c hc => ?_, h4.mono ?_⟩
  · by_cases e1 : c = n
    · subst e1; simp only [adM, if_true]; exact h1
    by_cases e2 : c = a
    · subst e2; simp only [adM, if_neg e1, true_or, if_true]; exact h2
    by_cases e3 : c = b
    · subst e3; simp only [adM, if_neg e1, or_true, if_true]; exact h3
    rw [adM_other e1 e2 e3]
    exact h4.blk (hR c hc) (by simp [e1, e2, e3])
  · rintro k _ (rfl | rfl | rfl) <;> assumption

theorem ptr_same (o : Nat) (w : World) : (binOp .eql 75 (.pointer (some ⟨o, 0, none⟩)) (.pointer (some ⟨o, 0, none⟩))).run Try.prog w = .ok (.bool true) w := by
  obtain ⟨j, hj⟩ : ∃ j, Try.prog.info? 89 = some j := Option.isSome_iff_exists.1 (by kernel_rfl)
  exact run_eql_ptr_same w ⟨o, 0, none⟩ (te := 89) (by kernel_rfl) hj

theorem ptr_other {a b : Nat} (hab : a ≠ b) {ca cb : Array Value} {ta tb : TypeId} {w : World} (ha : blk w a ca ta) (hb : blk w b cb tb) : (binOp .eql 75 (.pointer (some ⟨a, 0, none⟩)) (.pointer (some ⟨b, 0, none⟩))).run Try.prog w = .ok (.bool false) w := by
  obtain ⟨j, hj, hz⟩ : ∃ j, Try.prog.info? 89 = some j ∧ j.size ≠ 0 := by
    have h : (Try.prog.info? 89).map (·.size) = some 9 := by kernel_rfl
    obtain ⟨j, hj, e⟩ := Option.map_eq_some_iff.1 h
    exact ⟨j, hj, by rw [e]; decide⟩
  exact run_eql_ptr_other w (te := 89) (by kernel_rfl) hj hz (fun e => hab (by injection e)) ha hb

set_option maxRecDepth 100000 in
set_option maxHeartbeats 4000000 in
theorem repl0 (t n o : Nat) (root : Value) (mv : Value) (N O : Nd) (w : World) (kt : blk w t #[root, mv] 78) (kn : blk w n (ndc N) 89) (ko : blk w o (ndc O) 89) (tn : t ≠ n) (to' : t ≠ o) (no : n ≠ o) (hp : O.p = none) : Calls Try.prog 88 #[.pointer (some ⟨t, 0, none⟩), .pointer (some ⟨o, 0, none⟩), .pointer (some ⟨n, 0, none⟩)] w fun e w' => e = .returned (.tuple #[]) ∧ blk w' t #[.pointer (some ⟨n, 0, none⟩), mv] 78 ∧ blk w' n (ndc { N with p := none }) 89 ∧ But (fun k => k = n ∨ k = t) w w' := by
  obtain ⟨iN, ⟨x0N, y0N, x1N, y1N⟩, hN, pN, lN, rN⟩ := N
  obtain ⟨iO, ⟨x0O, y0O, x1O, y1O⟩, hO, pO, lO, rO⟩ := O
  simp only [ndc] at kn ko ⊢
  dsimp only at hp
  subst hp
  simp only [nptr_none] at *
  generalize nptr pN = PN at *
  generalize nptr lN = LN at *
  generalize nptr rN = RN at *
  generalize nptr lO = LO at *
  generalize nptr rO = RO at *
  have nt := Ne.symm tn
  have ot := Ne.symm to'
  have on := Ne.symm no
  have okt := blk_older kt
  have ckt_0 : _ = some _ := blk_cell kt 0
  have ckt_1 : _ = some _ := blk_cell kt 1
  have fkt_0 := blk_free kt 0
  have fkt_1 := blk_free kt 1
  have okn := blk_older kn
  have ckn_0 : _ = some _ := blk_cell kn 0
  have ckn_1 : _ = some _ := blk_cell kn 1
  have ckn_2 : _ = some _ := blk_cell kn 2
  have ckn_3 : _ = some _ := blk_cell kn 3
  have ckn_4 : _ = some _ := blk_cell kn 4
  have ckn_5 : _ = some _ := blk_cell kn 5
  have ckn_6 : _ = some _ := blk_cell kn 6
  have ckn_7 : _ = some _ := blk_cell kn 7
  have ckn_8 : _ = some _ := blk_cell kn 8
  have fkn_0 := blk_free kn 0
  have fkn_1 := blk_free kn 1
  have fkn_2 := blk_free kn 2
  have fkn_3 := blk_free kn 3
  have fkn_4 := blk_free kn 4
  have fkn_5 := blk_free kn 5
  have fkn_6 := blk_free kn 6
  have fkn_7 := blk_free kn 7
  have fkn_8 := blk_free kn 8
  have oko := blk_older ko
  have cko_0 : _ = some _ := blk_cell ko 0
  have cko_1 : _ = some _ := blk_cell ko 1
  have cko_2 : _ = some _ := blk_cell ko 2
  have cko_3 : _ = some _ := blk_cell ko 3
  have cko_4 : _ = some _ := blk_cell ko 4
  have cko_5 : _ = some _ := blk_cell ko 5
  have cko_6 : _ = some _ := blk_cell ko 6
  have cko_7 : _ = some _ := blk_cell ko 7
  have cko_8 : _ = some _ := blk_cell ko 8
  have fko_0 := blk_free ko 0
  have fko_1 := blk_free ko 1
  have fko_2 := blk_free ko 2
  have fko_3 := blk_free ko 3
  have fko_4 := blk_free ko 4
  have fko_5 := blk_free ko 5
  have fko_6 := blk_free ko 6
  have fko_7 := blk_free ko 7
  have fko_8 := blk_free ko 8
  go_enter Try.func88, Try.ntmps88
  go_wp2_with fail
  go_end0
  exact ⟨rfl, (by apply blk_of; (repeat (first | with_reducible exact kt | with_reducible apply blk_drew | with_reducible apply blk_gw | with_reducible apply blk_alloc | with_reducible apply blk_set | ((with_reducible apply blk_other); focus omega))); (first | rfl | simp)), (by apply blk_of; (repeat (first | with_reducible exact kn | with_reducible apply blk_drew | with_reducible apply blk_gw | with_reducible apply blk_alloc | with_reducible apply blk_set | ((with_reducible apply blk_other); focus omega))); (first | rfl | simp)), bBut⟩

set_option maxRecDepth 100000 in
set_option maxHeartbeats 4000000 in
theorem repl1 (t n o q : Nat) (root : Value) (mv : Value) (N O Q : Nd) (w : World) (kt : blk w t #[root, mv] 78) (kn : blk w n (ndc N) 89) (ko : blk w o (ndc O) 89) (kq : blk w q (ndc Q) 89) (tn : t ≠ n) (to' : t ≠ o) (no : n ≠ o) (tq : t ≠ q) (nq : n ≠ q) (oq : o ≠ q) (hp : O.p = some q) (hl : Q.l = some o) : Calls Try.prog 88 #[.pointer (some ⟨t, 0, none⟩), .pointer (some ⟨o, 0, none⟩), .pointer (some ⟨n, 0, none⟩)] w fun e w' => e = .returned (.tuple #[]) ∧ blk w' n (ndc { N with p := some q }) 89 ∧ blk w' q (ndc { Q with l := some n }) 89 ∧ But (fun k => k = n ∨ k = q) w w' := by
  obtain ⟨iN, ⟨x0N, y0N, x1N, y1N⟩, hN, pN, lN, rN⟩ := N
  obtain ⟨iO, ⟨x0O, y0O, x1O, y1O⟩, hO, pO, lO, rO⟩ := O
  obtain ⟨iQ, ⟨x0Q, y0Q, x1Q, y1Q⟩, hQ, pQ, lQ, rQ⟩ := Q
  simp only [ndc] at kn ko kq ⊢
  dsimp only at hp hl
  subst hp hl
  simp only [nptr_some] at *
  generalize nptr pN = PN at *
  generalize nptr lN = LN at *
  generalize nptr rN = RN at *
  generalize nptr lO = LO at *
  generalize nptr rO = RO at *
  generalize nptr pQ = PQ at *
  generalize nptr rQ = RQ at *
  have nt := Ne.symm tn
  have ot := Ne.symm to'
  have on := Ne.symm no
  have qt := Ne.symm tq
  have qn := Ne.symm nq
  have qo := Ne.symm oq
  have okt := blk_older kt
  have ckt_0 : _ = some _ := blk_cell kt 0
  have ckt_1 : _ = some _ := blk_cell kt 1
  have fkt_0 := blk_free kt 0
  have fkt_1 := blk_free kt 1
  have okn := blk_older kn
  have ckn_0 : _ = some _ := blk_cell kn 0
  have ckn_1 : _ = some _ := blk_cell kn 1
  have ckn_2 : _ = some _ := blk_cell kn 2
  have ckn_3 : _ = some _ := blk_cell kn 3
  have ckn_4 : _ = some _ := blk_cell kn 4
  have ckn_5 : _ = some _ := blk_cell kn 5
  have ckn_6 : _ = some _ := blk_cell kn 6
  have ckn_7 : _ = some _ := blk_cell kn 7
  have ckn_8 : _ = some _ := blk_cell kn 8
  have fkn_0 := blk_free kn 0
  have fkn_1 := blk_free kn 1
  have fkn_2 := blk_free kn 2
  have fkn_3 := blk_free kn 3
  have fkn_4 := blk_free kn 4
  have fkn_5 := blk_free kn 5
  have fkn_6 := blk_free kn 6
  have fkn_7 := blk_free kn 7
  have fkn_8 := blk_free kn 8
  have oko := blk_older ko
  have cko_0 : _ = some _ := blk_cell ko 0
  have cko_1 : _ = some _ := blk_cell ko 1
  have cko_2 : _ = some _ := blk_cell ko 2
  have cko_3 : _ = some _ := blk_cell ko 3
  have cko_4 : _ = some _ := blk_cell ko 4
  have cko_5 : _ = some _ := blk_cell ko 5
  have cko_6 : _ = some _ := blk_cell ko 6
  have cko_7 : _ = some _ := blk_cell ko 7
  have cko_8 : _ = some _ := blk_cell ko 8
  have fko_0 := blk_free ko 0
  have fko_1 := blk_free ko 1
  have fko_2 := blk_free ko 2
  have fko_3 := blk_free ko 3
  have fko_4 := blk_free ko 4
  have fko_5 := blk_free ko 5
  have fko_6 := blk_free ko 6
  have fko_7 := blk_free ko 7
  have fko_8 := blk_free ko 8
  have okq := blk_older kq
  have ckq_0 : _ = some _ := blk_cell kq 0
  have ckq_1 : _ = some _ := blk_cell kq 1
  have ckq_2 : _ = some _ := blk_cell kq 2
  have ckq_3 : _ = some _ := blk_cell kq 3
  have ckq_4 : _ = some _ := blk_cell kq 4
  have ckq_5 : _ = some _ := blk_cell kq 5
  have ckq_6 : _ = some _ := blk_cell kq 6
  have ckq_7 : _ = some _ := blk_cell kq 7
  have ckq_8 : _ = some _ := blk_cell kq 8
  have fkq_0 := blk_free kq 0
  have fkq_1 := blk_free kq 1
  have fkq_2 := blk_free kq 2
  have fkq_3 := blk_free kq 3
  have fkq_4 := blk_free kq 4
  have fkq_5 := blk_free kq 5
  have fkq_6 := blk_free kq 6
  have fkq_7 := blk_free kq 7
  have fkq_8 := blk_free kq 8
  go_enter Try.func88, Try.ntmps88
  have he := fun W => @ptr_same o W
  go_wp2_with fail
  go_end0
  exact ⟨rfl, (by apply blk_of; (repeat (first | with_reducible exact kn | with_reducible apply blk_drew | with_reducible apply blk_gw | with_reducible apply blk_alloc | with_reducible apply blk_set | ((with_reducible apply blk_other); focus omega))); (first | rfl | simp)), (by apply blk_of; (repeat (first | with_reducible exact kq | with_reducible apply blk_drew | with_reducible apply blk_gw | with_reducible apply blk_alloc | with_reducible apply blk_set | ((with_reducible apply blk_other); focus omega))); (first | rfl | simp)), bBut⟩

set_option maxRecDepth 100000 in
set_option maxHeartbeats 4000000 in
theorem repl2 (t n o q : Nat) (root : Value) (mv : Value) (N O Q : Nd) (w : World) (kt : blk w t #[root, mv] 78) (kn : blk w n (ndc N) 89) (ko : blk w o (ndc O) 89) (kq : blk w q (ndc Q) 89) (tn : t ≠ n) (to' : t ≠ o) (no : n ≠ o) (tq : t ≠ q) (nq : n ≠ q) (oq : o ≠ q) (hp : O.p = some q) (s : Nat) (so : s ≠ o) (sn : s ≠ n) (cs : Array Value) (ts : TypeId) (ks : blk w s cs ts) (hl : Q.l = some s) : Calls Try.prog 88 #[.pointer (some ⟨t, 0, none⟩), .pointer (some ⟨o, 0, none⟩), .pointer (some ⟨n, 0, none⟩)] w fun e w' => e = .returned (.tuple #[]) ∧ blk w' n (ndc { N with p := some q }) 89 ∧ blk w' q (ndc { Q with r := some n }) 89 ∧ But (fun k => k = n ∨ k = q) w w' := by
  obtain ⟨iN, ⟨x0N, y0N, x1N, y1N⟩, hN, pN, lN, rN⟩ := N
  obtain ⟨iO, ⟨x0O, y0O, x1O, y1O⟩, hO, pO, lO, rO⟩ := O
  obtain ⟨iQ, ⟨x0Q, y0Q, x1Q, y1Q⟩, hQ, pQ, lQ, rQ⟩ := Q
  simp only [ndc] at kn ko kq ⊢
  dsimp only at hp hl
  subst hp hl
  simp only [nptr_some] at *
  generalize nptr pN = PN at *
  generalize nptr lN = LN at *
  generalize nptr rN = RN at *
  generalize nptr lO = LO at *
  generalize nptr rO = RO at *
  generalize nptr pQ = PQ at *
  generalize nptr rQ = RQ at *
  have nt := Ne.symm tn
  have ot := Ne.symm to'
  have on := Ne.symm no
  have qt := Ne.symm tq
  have qn := Ne.symm nq
  have qo := Ne.symm oq
  have okt := blk_older kt
  have ckt_0 : _ = some _ := blk_cell kt 0
  have ckt_1 : _ = some _ := blk_cell kt 1
  have fkt_0 := blk_free kt 0
  have fkt_1 := blk_free kt 1
  have okn := blk_older kn
  have ckn_0 : _ = some _ := blk_cell kn 0
  have ckn_1 : _ = some _ := blk_cell kn 1
  have ckn_2 : _ = some _ := blk_cell kn 2
  have ckn_3 : _ = some _ := blk_cell kn 3
  have ckn_4 : _ = some _ := blk_cell kn 4
  have ckn_5 : _ = some _ := blk_cell kn 5
  have ckn_6 : _ = some _ := blk_cell kn 6
  have ckn_7 : _ = some _ := blk_cell kn 7
  have ckn_8 : _ = some _ := blk_cell kn 8
  have fkn_0 := blk_free kn 0
  have fkn_1 := blk_free kn 1
  have fkn_2 := blk_free kn 2
  have fkn_3 := blk_free kn 3
  have fkn_4 := blk_free kn 4
  have fkn_5 := blk_free kn 5
  have fkn_6 := blk_free kn 6
  have fkn_7 := blk_free kn 7
  have fkn_8 := blk_free kn 8
  have oko := blk_older ko
  have cko_0 : _ = some _ := blk_cell ko 0
  have cko_1 : _ = some _ := blk_cell ko 1
  have cko_2 : _ = some _ := blk_cell ko 2
  have cko_3 : _ = some _ := blk_cell ko 3
  have cko_4 : _ = some _ := blk_cell ko 4
  have cko_5 : _ = some _ := blk_cell ko 5
  have cko_6 : _ = some _ := blk_cell ko 6
  have cko_7 : _ = some _ := blk_cell ko 7
  have cko_8 : _ = some _ := blk_cell ko 8
  have fko_0 := blk_free ko 0
  have fko_1 := blk_free ko 1
  have fko_2 := blk_free ko 2
  have fko_3 := blk_free ko 3
  have fko_4 := blk_free ko 4
  have fko_5 := blk_free ko 5
  have fko_6 := blk_free ko 6
  have fko_7 := blk_free ko 7
  have fko_8 := blk_free ko 8
  have okq := blk_older kq
  have ckq_0 : _ = some _ := blk_cell kq 0
  have ckq_1 : _ = some _ := blk_cell kq 1
  have ckq_2 : _ = some _ := blk_cell kq 2
  have ckq_3 : _ = some _ := blk_cell kq 3
  have ckq_4 : _ = some _ := blk_cell kq 4
  have ckq_5 : _ = some _ := blk_cell kq 5
  have ckq_6 : _ = some _ := blk_cell kq 6
  have ckq_7 : _ = some _ := blk_cell kq 7
  have ckq_8 : _ = some _ := blk_cell kq 8
  have fkq_0 := blk_free kq 0
  have fkq_1 := blk_free kq 1
  have fkq_2 := blk_free kq 2
  have fkq_3 := blk_free kq 3
  have fkq_4 := blk_free kq 4
  have fkq_5 := blk_free kq 5
  have fkq_6 := blk_free kq 6
  have fkq_7 := blk_free kq 7
  have fkq_8 := blk_free kq 8
  go_enter Try.func88, Try.ntmps88
  have ns := Ne.symm sn
  go_upto_region 4 with (fail)
  have ks1 : blk (w.setCell ⟨n, 6, none⟩ (.pointer (some ⟨q, 0, none⟩))) s cs ts := blk_other ns ks
  have ko1 : blk (w.setCell ⟨n, 6, none⟩ (.pointer (some ⟨q, 0, none⟩))) o #[.int .i64 iO, .int .i64 x0O, .int .i64 y0O, .int .i64 x1O, .int .i64 y1O, .int .i64 hO, .pointer (some ⟨q, 0, none⟩), LO, RO] 89 := blk_other no ko
  have he := ptr_other so ks1 ko1
  clear ks1 ko1
  go_wp2_with fail
  go_end0
  exact ⟨rfl, (by apply blk_of; (repeat (first | with_reducible exact kn | with_reducible apply blk_drew | with_reducible apply blk_gw | with_reducible apply blk_alloc | with_reducible apply blk_set | ((with_reducible apply blk_other); focus omega))); (first | rfl | simp)), (by apply blk_of; (repeat (first | with_reducible exact kq | with_reducible apply blk_drew | with_reducible apply blk_gw | with_reducible apply blk_alloc | with_reducible apply blk_set | ((with_reducible apply blk_other); focus omega))); (first | rfl | simp)), bBut⟩

theorem replace_r (t o n : Nat) (root : Option Nat) (mv : Value) (M : Nat → Nd) (S : Nat → Prop) (w : World) (hR : Rep w M S) (kt : blk w t #[nptr root, mv] 78) (tS : ¬ S t) (so : S o) (sn : S n) (no : n ≠ o)
    (hq : ∀ q, (M o).p = some q → S q ∧ n ≠ q ∧ o ≠ q ∧ ∃ s, (M q).l = some s ∧ (s ≠ o → S s ∧ s ≠ n)) : Calls Try.prog 88 #[.pointer (some ⟨t, 0, none⟩), .pointer (some ⟨o, 0, none⟩), .pointer (some ⟨n, 0, none⟩)] w fun e w' => e = .returned (.tuple #[]) ∧ Rep w' (replM M o n) S ∧ blk w' t #[nptr (replR M o n root), mv] 78 ∧ But (fun k => k = t ∨ S k) w w' := by
  have tn : t ≠ n := fun e => tS (e ▸ sn)
  have to' : t ≠ o := fun e => tS (e ▸ so)
  cases hp : (M o).p with
  | none =>
    refine (repl0 t n o (nptr root) mv (M n) (M o) w kt (hR n sn) (hR o so) tn to' no hp).mono ?_
    rintro e w' ⟨rfl, h1, h2, h3⟩
    refine ⟨rfl, fun c hc => ?_, by simp only [replR, hp, if_true]; exact h1, h3.mono ?_⟩
    · by_cases e1 : c = n
      · subst e1; rw [replM_self, hp]; exact h2
      rw [replM_other e1 (by rw [hp]; simp)]
      exact h3.blk (hR c hc) (by rintro (rfl | rfl); exact e1 rfl; exact tS hc)
    · rintro k _ (rfl | rfl)
      · exact .inr sn
      · exact .inl rfl
  | some q =>
    obtain ⟨sq, nq, oq, s, hs, hs2⟩ := hq q hp
    have tq : t ≠ q := fun e => tS (e ▸ sq)
    have hroot : replR M o n root = root := by simp [replR, hp]
    rw [hroot]
    by_cases hso : s = o
    · subst hso
      refine (repl1 t n s q (nptr root) mv (M n) (M s) (M q) w kt (hR n sn) (hR s so) (hR q sq) tn to' no tq nq oq hp hs).mono ?_
      rintro e w' ⟨rfl, h1, h2, h3⟩
      refine ⟨rfl, fun c hc => ?_, h3.blk kt (by simp [tn, tq]), h3.mono ?_⟩
      · by_cases e1 : c = n
        · subst e1; rw [replM_self, hp]; exact h1
        by_cases e2 : c = q
        · subst e2; simp only [replM, if_neg e1, hp, if_true, hs]; exact h2
        rw [replM_other e1 (by rw [hp]; simp; exact fun e => e2 e.symm)]
        exact h3.blk (hR c hc) (by simp [e1, e2])
      · rintro k _ (rfl | rfl)
        · exact .inr sn
        · exact .inr sq
    · obtain ⟨ss, sn'⟩ := hs2 hso
      refine (repl2 t n o q (nptr root) mv (M n) (M o) (M q) w kt (hR n sn) (hR o so) (hR q sq) tn to' no tq nq oq hp s hso sn' _ _ (hR s ss) hs).mono ?_
      rintro e w' ⟨rfl, h1, h2, h3⟩
      refine ⟨rfl, fun c hc => ?_, h3.blk kt (by simp [tn, tq]), h3.mono ?_⟩
      · by_cases e1 : c = n
        · subst e1; rw [replM_self, hp]; exact h1
        by_cases e2 : c = q
        · subst e2; simp only [replM, if_neg e1, hp, if_true]; rw [if_neg (by rw [hs]; simpa using hso)]; exact h2
        rw [replM_other e1 (by rw [hp]; simp; exact fun e => e2 e.symm)]
        exact h3.blk (hR c hc) (by simp [e1, e2])
      · rintro k _ (rfl | rfl)
        · exact .inr sn
        · exact .inr sq

theorem replM_h (M : Nat → Nd) (o n c : Nat) : (replM M o n c).h = (M c).h := by
  unfold replM
  by_cases e : c = n
  · subst e; rw [if_pos rfl]
  rw [if_neg e]
  by_cases e2 : (M o).p = some c
  · rw [if_pos e2]; by_cases e3 : (M c).l = some o
    · rw [if_pos e3]
    · rw [if_neg e3]
  · rw [if_neg e2]

end Go.Proofs.Ytfhhkabdeajieaa
