/- Chapter 20: the statements' unitBox and example. -/
import Derived.Test.YtfhhkabdeajieaaBvY
import Derived.Test.YtfhhkabdeajieaaBvU
import Derived.Test.YtfhhkabdeajieaaBvZ
import Derived.Deep.DeepCutAuto
set_option linter.unusedVariables false
set_option linter.unusedSimpArgs false
namespace Go.Proofs.Ytfhhkabdeajieaa
open Go.RowKit Fx

theorem TreeAt.gw {w : World} {a : Nat} {L : Bxs} {S : Nat → Prop} {p : Gw} (h : TreeAt w a L S) : TreeAt (gw w p) a L S := h.below (below_gw w p)
theorem TreeAt.al {w : World} {a : Nat} {L : Bxs} {S : Nat → Prop} {o : Obj} (h : TreeAt w a L S) : TreeAt (w.alloc o) a L S := h.below ((Below.refl _ w).alloc (Nat.le_refl _) o)
theorem TreeAt.dr {w : World} {a : Nat} {L : Bxs} {S : Nat → Prop} (h : TreeAt w a L S) : TreeAt w.drew a L S := h.below (Below.refl _ w).drew
/-- The proof that the tree stands in a world that has grown since it was last known. -/
theorem bTre {w : World} {a : Nat} {L : Bxs} {S : Nat → Prop} (h : TreeAt w a L S := by repeat (first | with_reducible assumption | with_reducible refine TreeAt.gw ?_ | with_reducible refine TreeAt.al ?_ | with_reducible refine TreeAt.dr ?_)) : TreeAt w a L S := h

def ub (x : Int) : Bx := ⟨x, 0, x + 1, 1⟩

theorem sub_but {S S' : Nat → Prop} {w w' : World} (hb : But S' w w') (hs : ∀ k, k < w.heap.size → S' k → S k) : But S w w' := hb.mono hs
theorem own_one2 {w : World} {b : Nat} {e : TypeId} {x y : Value} (h : blk w b #[x, y] e) : w.ownsRow 0 e 2 (.slice (some ⟨b, 0, none⟩) 1 1) 1 [x, y] :=
  ⟨rfl, .inr ⟨b, 1, #[x, y], rfl, Nat.zero_le _, h, Nat.le_refl _, by decide, rfl, rfl⟩⟩

/-- A contract of a method that changes the tree, at known lists. -/
abbrev TurnC (f : FuncId) (args : Array Value) (a : Nat) (L L' : Bxs) (r : Value) : Prop := ∀ (w : World) (S : Nat → Prop), TreeAt w a L S → Calls Try.prog f args w fun e w' => e = .returned r ∧ ∃ S', TreeAt w' a L' S' ∧ But S w w' ∧ ∀ k, S' k → S k ∨ w.heap.size ≤ k

theorem turn_use {f : FuncId} {args : Array Value} {a : Nat} {L L' : Bxs} {r : Value} {w : World} {S : Nat → Prop} {R : Ending → World → Prop} (hc : TurnC f args a L L' r) (h : TreeAt w a L S) (hk : ∀ w' S', TreeAt w' a L' S' → Hid (But S w w' ∧ ∀ k, S' k → S k ∨ w.heap.size ≤ k) → R (.returned r) w') : Calls Try.prog f args w R :=
  (hc w S h).mono fun e w' ⟨h1, S', h2, h3, h4⟩ => by subst h1; exact hk w' S' h2 ⟨h3, h4⟩

theorem turn_useV {f : FuncId} {args : Array Value} {a : Nat} {L L' : Bxs} {r : Value} {V w : World} {S P : Nat → Prop} {R : Ending → World → Prop} (hc : TurnC f args a L L' r) (h : TreeAt w a L S) (hb : But P V w) (hP : Hid (∀ k, S k → P k)) (hV : Hid (∀ k, V.heap.size ≤ k → P k)) (hk : ∀ w' S', TreeAt w' a L' S' → Hid (∀ k, S' k → P k) → But P V w' → R (.returned r) w') : Calls Try.prog f args w R :=
  (hc w S h).mono fun e w' ⟨h1, S', h2, h3, h4⟩ => by
    subst h1
    exact hk w' S' h2 (show ∀ k, S' k → P k from fun k hk => (h4 k hk).elim (hP.out k) fun hh => hV.out k (Nat.le_trans hb.size hh)) (hb.trans h3 fun k _ => hP.out k)

theorem own_one1 {w : World} {b : Nat} {e : TypeId} {x : Value} (h : blk w b #[x] e) : w.ownsRow 0 e 1 (.slice (some ⟨b, 0, none⟩) 1 1) 1 [x] :=
  ⟨rfl, .inr ⟨b, 1, #[x], rfl, Nat.zero_le _, h, Nat.le_refl _, by decide, rfl, rfl⟩⟩

theorem read_use {f : FuncId} {args : Array Value} {a : Nat} {L : Bxs} {w : World} {S : Nat → Prop} {Q R : Ending → World → Prop} (hc : ∀ (w : World) (S : Nat → Prop), TreeAt w a L S → Calls Try.prog f args w fun e w' => Q e w' ∧ Below w.heap.size w w') (h : TreeAt w a L S) (hk : ∀ e q, Q e (gw w q) → R e (gw w q)) : Calls Try.prog f args w R :=
  (hc w S h).mono fun e w' ⟨h1, h2⟩ => by obtain ⟨q, rfl⟩ := gw_of_below h2; exact hk e q h1

theorem ins_c (a : Nat) (L L' : Bxs) (i x0 y0 x1 y1 c : Int) (hi : i64k i) (hc : insC L i ⟨x0, y0, x1, y1⟩ = c) (hL : insT L i ⟨x0, y0, x1, y1⟩ = L') : TurnC 41 #[.pointer (some ⟨a, 0, none⟩), .int .i64 i, .agg #[.int .i64 x0, .int .i64 y0, .int .i64 x1, .int .i64 y1]] a L L' (.int .i64 c) := fun w S h => by
  have := insert_b a L S i x0 y0 x1 y1 hi w h
  rw [hc, hL] at this; exact this

theorem rem_c (a : Nat) (L L' : Bxs) (i : Int) (b : Bool) (hi : i64k i) (hc : (look L i).isSome = b) (hL : remL L i = L') : TurnC 43 #[.pointer (some ⟨a, 0, none⟩), .int .i64 i] a L L' (.bool b) := fun w S h => by
  have := remove_b a L S i hi w h
  rw [hc, hL] at this; exact this

theorem upd_c (a : Nat) (L L' : Bxs) (i x0 y0 x1 y1 c : Int) (hi : i64k i) (hc : updC L i ⟨x0, y0, x1, y1⟩ = c) (hL : updT L i ⟨x0, y0, x1, y1⟩ = L') : TurnC 42 #[.pointer (some ⟨a, 0, none⟩), .int .i64 i, .agg #[.int .i64 x0, .int .i64 y0, .int .i64 x1, .int .i64 y1]] a L L' (.int .i64 c) := fun w S h => by
  have := update_b a L S i x0 y0 x1 y1 hi w h
  rw [hc, hL] at this; exact this

theorem turn_useB {f : FuncId} {args : Array Value} {a : Nat} {L L' : Bxs} {r : Value} {V w : World} {S : Nat → Prop} {R : Ending → World → Prop} (hc : TurnC f args a L L' r) (h : TreeAt w a L S) (hb : Below V.heap.size V w) (hS : Hid (∀ k, S k → V.heap.size ≤ k)) (hk : ∀ w' S', TreeAt w' a L' S' → Hid (∀ k, S' k → V.heap.size ≤ k) → Below V.heap.size V w' → R (.returned r) w') : Calls Try.prog f args w R :=
  (hc w S h).mono fun e w' ⟨h1, S', h2, h3, h4⟩ => by
    subst h1
    have f0 : But (fun k => V.heap.size ≤ k) V w' := ((But.ofBelow hb _).trans h3 fun k _ hk => hS.out k hk)
    exact hk w' S' h2 (show ∀ k, S' k → V.heap.size ≤ k from fun k hk => (h4 k hk).elim (hS.out k) fun hh => Nat.le_trans hb.size hh) ⟨f0.os, f0.tape, f0.output, f0.size, fun k hk => f0.block k hk (by omega)⟩

def Rg (L : Bxs) (a b : Nat) : Prop := L.length = b - a ∧ a ≤ b ∧ ∀ i : Int, (∃ e ∈ L, e.1 = i) ↔ (a : Int) ≤ i ∧ i < b
theorem rg_nil : Rg [] 0 0 := ⟨rfl, by omega, fun i => ⟨fun ⟨e, h, _⟩ => (by cases h), fun h => (by omega)⟩⟩
theorem rg_look {L : Bxs} {a b : Nat} (h : Rg L a b) (i : Int) (hi : ¬ ((a : Int) ≤ i ∧ i < b)) : look L i = none := look_none.2 fun e he hh => hi ((h.2.2 i).1 ⟨e, he, hh⟩)
theorem rg_look_in {L : Bxs} {a b : Nat} (h : Rg L a b) (i : Int) (hi : (a : Int) ≤ i ∧ i < b) : (look L i).isSome = true := by
  rcases hl : look L i with _ | x
  · obtain ⟨e, he, hh⟩ := (h.2.2 i).2 hi
    exact (look_none.1 hl e he hh).elim
  · rfl
theorem rg_ins {L : Bxs} {a b : Nat} (h : Rg L a b) (x : Bx) : Rg (insL L (b : Int) x) a (b + 1) := by
  have hp := insL_perm (b : Int) x L
  refine ⟨by rw [hp.length_eq, List.length_cons, h.1]; have := h.2.1; omega, by have := h.2.1; omega, fun i => ⟨fun ⟨e, he, hh⟩ => ?_, fun hi => ?_⟩⟩
  · rcases List.mem_cons.1 (hp.mem_iff.1 he) with rfl | h2
    · have := h.2.1; dsimp only at hh; omega
    · have := (h.2.2 i).1 ⟨e, h2, hh⟩; omega
  · by_cases hb : i = b
    · exact ⟨(b, x), hp.mem_iff.2 (List.mem_cons_self ..), hb.symm⟩
    · obtain ⟨e, he, hh⟩ := (h.2.2 i).2 (by omega)
      exact ⟨e, hp.mem_iff.2 (List.mem_cons_of_mem _ he), hh⟩
theorem rg_rem {L : Bxs} {a b : Nat} (h : Rg L a b) (hs : Srt L) (hab : a < b) : Rg (remL L (a : Int)) (a + 1) b := by
  obtain ⟨⟨j, x⟩, he, hh⟩ := (h.2.2 a).2 (by omega)
  dsimp only at hh
  subst hh
  have hp := remL_perm hs he
  refine ⟨by have h1 := hp.length_eq; rw [List.length_cons, h.1] at h1; omega, by omega, fun i => ⟨fun ⟨e, h1, h2⟩ => ?_, fun hi => ?_⟩⟩
  · obtain ⟨h3, h4⟩ := mem_remL.1 h1
    have := (h.2.2 i).1 ⟨e, h3, h2⟩; omega
  · obtain ⟨e, h3, h4⟩ := (h.2.2 i).2 (by omega)
    exact ⟨e, mem_remL.2 ⟨h3, by omega⟩, h4⟩
theorem ub_val (m : Int) (h0 : -100000000 ≤ m) (h1 : m ≤ 100000000) : (⟨m, 0, m + 1, 1⟩ : Bx).val = true := by
  rw [Bx.val_iff]; refine ⟨?_, ?_, ?_, ?_, ?_, ?_⟩ <;> simp <;> first | omega | (rw [sat_id] <;> omega)
theorem insC_ok {L : Bxs} {i : Int} {x : Bx} (hv : x.val = true) (hl : look L i = none) (hn : L.length < 4096) : insC L i x = 0 := by
  unfold insC; rw [hv, hl]; simp; omega
theorem insT_ok {L : Bxs} {i : Int} {x : Bx} (h : insC L i x = 0) : insT L i x = insL L i x := by unfold insT; rw [if_pos h]

end Go.Proofs.Ytfhhkabdeajieaa
