import Derived.Test.YtdldlcibjjccpaaBxB
set_option linter.unusedVariables false
set_option linter.unusedSimpArgs false
namespace Go.Proofs.Ytdldlcibjjccpaa
open Go.RowKit Fx

def apN (L : Bxs) (o : Opr) : Int :=
  if o.k = 1 then insC L o.i ⟨o.x0, o.y0, o.x1, o.y1⟩ else if o.k = 2 then (if (look L o.i).isSome then 1 else 0) else if o.k = 3 then updC L o.i ⟨o.x0, o.y0, o.x1, o.y1⟩ else if o.k = 4 then (if (look L o.i).isSome then 1 else 0) else 0
def apI (L : Bxs) (o : Opr) : List Int :=
  if o.k = 5 then hitL L (fun b => Bx.ovl b ⟨o.x0, o.y0, o.x1, o.y1⟩) else if o.k = 6 then hitL L (fun b => Bx.seg b o.x0 o.y0 o.x1 o.y1) else []
def apB (L : Bxs) (o : Opr) : Bx := if o.k = 4 then (look L o.i).getD Bx.zero else Bx.zero
def apT (L : Bxs) (o : Opr) : Bxs :=
  if o.k = 1 then insT L o.i ⟨o.x0, o.y0, o.x1, o.y1⟩ else if o.k = 2 then remL L o.i else if o.k = 3 then updT L o.i ⟨o.x0, o.y0, o.x1, o.y1⟩ else L

theorem ap_but {S : Nat → Prop} {n : Nat} {V X : World} (h : But S V X) (hS : ∀ k, S k → k < n) : But (fun k => k < n ∨ n + 2 ≤ k) V X := h.mono fun k _ hk => .inl (hS k hk)
theorem ap_turn {a : Nat} {L' : Bxs} {S : Nat → Prop} {w V X w' : World} (hS : ∀ k, S k → k < w.heap.size) (hbV : Below w.heap.size w V) (hsz : V.heap.size = w.heap.size + 2) (ht : Turns a L' S V X) (hB : But (fun k => k = w.heap.size + 1) X w') : Turns a L' S w w' := by
  obtain ⟨S', h1, h2, h3⟩ := ht
  refine ⟨S', h1.but hB fun k hk hh => ?_, ((But.ofBelow hbV S).trans h2 fun k _ h => h).trans hB fun k hk hh => ?_, fun k hk => ?_⟩
  · rcases h3 k hk with h | h
    · have := hS k h; omega
    · omega
  · omega
  · rcases h3 k hk with h | h
    · exact .inl h
    · exact .inr (by omega)

/-- What apply hands back. -/
def ApR (w : World) (a : Nat) (L : Bxs) (S : Nat → Prop) (o : Opr) (e : Ending) (w' : World) : Prop :=
  ∃ v, e = .returned (.tuple #[.int .i64 (apN L o), v, .agg #[.int .i64 (apB L o).x0, .int .i64 (apB L o).y0, .int .i64 (apB L o).x1, .int .i64 (apB L o).y1]]) ∧ Hid (w'.ownsRow w.heap.size 3 1 v (apI L o).length (iv (apI L o))) ∧ Turns a (apT L o) S w w'

theorem apply_b (a : Nat) (L : Bxs) (S : Nat → Prop) (o : Opr) (hi : i64k o.i) (w : World) (h : TreeAt w a L S) : Calls Try.prog 12 #[.pointer (some ⟨a, 0, none⟩), .agg #[.int .i64 o.k, .int .i64 o.i, .int .i64 o.x0, .int .i64 o.y0, .int .i64 o.x1, .int .i64 o.y1]] w (ApR w a L S o) := by
  obtain ⟨k, i, x0, y0, x1, y1⟩ := o
  dsimp only at hi ⊢
  have hS := h.lt
  have turn : ∀ {f : FuncId} {args : Array Value} {L' : Bxs} {r : Value}, TurnC f args a L L' r → ApC w f args fun V v X => v = r ∧ Turns a L' S V X := fun hc V hV hz => (hc V S (h.below hV)).mono fun e X ⟨h1, h2⟩ => ⟨_, h1, ⟨rfl, h2⟩, by obtain ⟨S', -, h3, -⟩ := h2; exact ap_but h3 hS⟩
  have no : ∀ {w' : World}, Hid (w'.ownsRow w.heap.size 3 1 (.slice none 0 0) 0 []) := owns_nil _ _ _
  by_cases e1 : k = 1
  · subst e1
    refine (ap_k1 (.pointer (some ⟨a, 0, none⟩)) i x0 y0 x1 y1 w _ (turn (ins_c a L (insT L i ⟨x0, y0, x1, y1⟩) i x0 y0 x1 y1 _ hi rfl rfl))).mono ?_
    rintro e w' ⟨v, rfl, hp⟩
    obtain ⟨V, X, q1, q2, ⟨rfl, q3⟩, -, q4⟩ := hp.out
    exact ⟨_, rfl, no, ap_turn hS q1 q2 q3 q4⟩
  by_cases e2 : k = 2
  · subst e2
    refine (ap_k2 (.pointer (some ⟨a, 0, none⟩)) i x0 y0 x1 y1 w (fun V _ X => Turns a (remL L i) S V X) (look L i).isSome (turn (rem_c a L (remL L i) i _ hi rfl rfl))).mono ?_
    rintro e w' ⟨v, rfl, hp⟩
    obtain ⟨V, X, q1, q2, q3, -, q4⟩ := hp.out
    exact ⟨_, rfl, no, ap_turn hS q1 q2 q3 q4⟩
  by_cases e3 : k = 3
  · subst e3
    refine (ap_k3 (.pointer (some ⟨a, 0, none⟩)) i x0 y0 x1 y1 w _ (turn (upd_c a L (updT L i ⟨x0, y0, x1, y1⟩) i x0 y0 x1 y1 _ hi rfl rfl))).mono ?_
    rintro e w' ⟨v, rfl, hp⟩
    obtain ⟨V, X, q1, q2, ⟨rfl, q3⟩, -, q4⟩ := hp.out
    exact ⟨_, rfl, no, ap_turn hS q1 q2 q3 q4⟩
  by_cases e4 : k = 4
  · subst e4
    have hc : ∀ b z, look L i = b → z = b.getD Bx.zero → ApC w 14 #[.pointer (some ⟨a, 0, none⟩), .int .i64 i] fun V v X => v = .tuple #[.agg #[.int .i64 z.x0, .int .i64 z.y0, .int .i64 z.x1, .int .i64 z.y1], .bool b.isSome] ∧ Turns a L S V X := fun b z hb hz V hV hs => (bounds_b a L S i hi V (h.below hV)).mono fun e X ⟨h1, h2⟩ => ⟨_, h1, ⟨by rw [hb, hz], Turns.same (h.below hV) h2⟩, ap_but (But.ofBelow h2 S) hS⟩
    rcases hb : look L i with _ | z
    · refine (ap_k4f (.pointer (some ⟨a, 0, none⟩)) i x0 y0 x1 y1 w (fun V _ X => Turns a L S V X) 0 0 0 0 (hc none Bx.zero hb rfl)).mono ?_
      rintro e w' ⟨v, rfl, hp⟩
      obtain ⟨V, X, q1, q2, q3, -, q4⟩ := hp.out
      exact ⟨_, by simp [apN, apB, hb, Bx.zero], no, ap_turn hS q1 q2 q3 q4⟩
    · refine (ap_k4t (.pointer (some ⟨a, 0, none⟩)) i x0 y0 x1 y1 w (fun V _ X => Turns a L S V X) z.x0 z.y0 z.x1 z.y1 (hc (some z) z hb rfl)).mono ?_
      rintro e w' ⟨v, rfl, hp⟩
      obtain ⟨V, X, q1, q2, q3, -, q4⟩ := hp.out
      exact ⟨_, by simp [apN, apB, hb], no, ap_turn hS q1 q2 q3 q4⟩
  have rows : ∀ {V X w' : World} {v : Value} {xs : List Int}, V.heap.size = w.heap.size + 2 → X.ownsRow V.heap.size 3 1 v xs.length (iv xs) → But (fun k => k = w.heap.size + 1) X w' → Hid (w'.ownsRow w.heap.size 3 1 v xs.length (iv xs)) := fun hz ho hB => owns_base (owns_but ho hB fun k hk hh => by have := (World.ownsRow.lt ho k hk).1; omega) (by omega)
  by_cases e5 : k = 5
  · subst e5
    refine (ap_k5 (.pointer (some ⟨a, 0, none⟩)) i x0 y0 x1 y1 w (fun V v X => X.ownsRow V.heap.size 3 1 v (hitL L (fun b => Bx.ovl b ⟨x0, y0, x1, y1⟩)).length (iv (hitL L (fun b => Bx.ovl b ⟨x0, y0, x1, y1⟩))) ∧ Turns a L S V X) (fun V hV hs => (query_b a L S x0 y0 x1 y1 V (h.below hV)).mono fun e X ⟨⟨v, h1, h3⟩, h2⟩ => ⟨_, h1, ⟨h3, Turns.same (h.below hV) h2⟩, ap_but (But.ofBelow h2 S) hS⟩)).mono ?_
    rintro e w' ⟨v, rfl, hp⟩
    obtain ⟨V, X, q1, q2, ⟨q0, q3⟩, -, q4⟩ := hp.out
    exact ⟨_, rfl, rows q2 q0 q4, ap_turn hS q1 q2 q3 q4⟩
  by_cases e6 : k = 6
  · subst e6
    refine (ap_k6 (.pointer (some ⟨a, 0, none⟩)) i x0 y0 x1 y1 w (fun V v X => X.ownsRow V.heap.size 3 1 v (hitL L (fun b => Bx.seg b x0 y0 x1 y1)).length (iv (hitL L (fun b => Bx.seg b x0 y0 x1 y1))) ∧ Turns a L S V X) (fun V hV hs => (ray_b a L S x0 y0 x1 y1 V (h.below hV)).mono fun e X ⟨⟨v, h1, h3⟩, h2⟩ => ⟨_, h1, ⟨h3, Turns.same (h.below hV) h2⟩, ap_but (But.ofBelow h2 S) hS⟩)).mono ?_
    rintro e w' ⟨v, rfl, hp⟩
    obtain ⟨V, X, q1, q2, ⟨q0, q3⟩, -, q4⟩ := hp.out
    exact ⟨_, rfl, rows q2 q0 q4, ap_turn hS q1 q2 q3 q4⟩
  · refine (ap_k0 (.pointer (some ⟨a, 0, none⟩)) k i x0 y0 x1 y1 w e1 e2 e3 e4 e5 e6).mono ?_
    rintro e w' ⟨rfl, hb⟩
    refine ⟨.slice none 0 0, by simp [apN, apB, e1, e2, e3, e4, Bx.zero], ?_, ?_⟩
    · simp only [apI, e5, e6, if_false]; exact no
    · simp only [apT, e1, e2, e3, if_false]; exact Turns.same h hb

end Go.Proofs.Ytdldlcibjjccpaa
