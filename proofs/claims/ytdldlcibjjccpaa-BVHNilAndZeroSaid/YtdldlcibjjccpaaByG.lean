/- Chapter 20: the reference's Apply, and both over nil. -/
import Derived.Test.YtdldlcibjjccpaaByF
import Derived.Test.YtdldlcibjjccpaaBxD
set_option linter.unusedVariables false
set_option linter.unusedSimpArgs false
namespace Go.Proofs.Ytdldlcibjjccpaa
open Go.RowKit Fx

theorem ap_turnR {m : Nat} {L' : Bxs} {nl : Bool} {R : Nat → Prop} {w V X w' : World} (hR : ∀ k, R k → k < w.heap.size) (hbV : Below w.heap.size w V) (hsz : V.heap.size = w.heap.size + 2) (ht : TurnsR m L' nl R V X) (hB : But (fun k => k = w.heap.size + 1) X w') : TurnsR m L' nl R w w' := by
  obtain ⟨R', h1, h2, h3⟩ := ht
  refine ⟨R', h1.but hB fun k hk hh => ?_, ((But.ofBelow hbV R).trans h2 fun k _ h => h).trans hB fun k hk hh => ?_, fun k hk => ?_⟩
  · rcases h3 k hk with h | h
    · have := hR k h; omega
    · omega
  · omega
  · rcases h3 k hk with h | h
    · exact .inl h
    · exact .inr (by omega)
theorem ap_bel {w V X w' : World} (hbV : Below w.heap.size w V) (hsz : V.heap.size = w.heap.size + 2) (ht : Below V.heap.size V X) (hB : But (fun k => k = w.heap.size + 1) X w') : Below w.heap.size w w' :=
  (hbV.trans (ht.mono (by omega))).trans ⟨hB.os, hB.tape, hB.output, hB.size, fun k hk => hB.block k (by have := hbV.size; have := ht.size; omega) (by omega)⟩
theorem ap_rows {w V X w' : World} {v : Value} {xs : List Int} (hz : V.heap.size = w.heap.size + 2) (ho : X.ownsRow V.heap.size 3 1 v xs.length (iv xs)) (hB : But (fun k => k = w.heap.size + 1) X w') : Hid (w'.ownsRow w.heap.size 3 1 v xs.length (iv xs)) := owns_base (owns_but ho hB fun k hk hh => by have := (World.ownsRow.lt ho k hk).1; omega) (by omega)

/-- What the reference's Apply hands back. -/
def RpR (w : World) (m : Nat) (L : Bxs) (R : Nat → Prop) (o : Opr) (e : Ending) (w' : World) : Prop :=
  ∃ v, e = .returned (.tuple #[.int .i64 (apN L o), v, .agg #[.int .i64 (apB L o).x0, .int .i64 (apB L o).y0, .int .i64 (apB L o).x1, .int .i64 (apB L o).y1]]) ∧ Hid (w'.ownsRow w.heap.size 3 1 v (apI L o).length (iv (apI L o))) ∧ TurnsR m (apT L o) false R w w'

theorem rapply_b (a : Nat) (L : Bxs) (S : Nat → Prop) (o : Opr) (w : World) (h : RefAt w a L false S) : Calls Try.prog 23 #[.pointer (some ⟨a, 0, none⟩), .agg #[.int .i64 o.k, .int .i64 o.i, .int .i64 o.x0, .int .i64 o.y0, .int .i64 o.x1, .int .i64 o.y1]] w (RpR w a L S o) := by
  obtain ⟨k, i, x0, y0, x1, y1⟩ := o
  dsimp only
  have hS := h.lt
  have turn : ∀ {f : FuncId} {args : Array Value} {L' : Bxs} {r : Value}, (∀ V, RefAt V a L false S → Calls Try.prog f args V fun e w' => e = .returned r ∧ TurnsR a L' false S V w') → ApC w f args fun V v X => v = r ∧ TurnsR a L' false S V X := fun hc V hV hz => (hc V (h.below hV)).mono fun e X ⟨h1, h2⟩ => ⟨_, h1, ⟨rfl, h2⟩, by obtain ⟨S', -, h3, -⟩ := h2; exact ap_but h3 hS⟩
  have no : ∀ {w' : World}, Hid (w'.ownsRow w.heap.size 3 1 (.slice none 0 0) 0 []) := owns_nil _ _ _
  by_cases e1 : k = 1
  · subst e1
    refine (rap_k1 (.pointer (some ⟨a, 0, none⟩)) i x0 y0 x1 y1 w _ (turn fun V hV => rinsert_b a L S i x0 y0 x1 y1 V hV)).mono ?_
    rintro e w' ⟨v, rfl, hp⟩
    obtain ⟨V, X, q1, q2, ⟨rfl, q3⟩, -, q4⟩ := hp.out
    exact ⟨_, rfl, no, ap_turnR hS q1 q2 q3 q4⟩
  by_cases e2 : k = 2
  · subst e2
    refine (rap_k2 (.pointer (some ⟨a, 0, none⟩)) i x0 y0 x1 y1 w (fun V _ X => TurnsR a (remL L i) false S V X) (look L i).isSome (turn fun V hV => rremove_b a L false S i V hV)).mono ?_
    rintro e w' ⟨v, rfl, hp⟩
    obtain ⟨V, X, q1, q2, q3, -, q4⟩ := hp.out
    exact ⟨_, rfl, no, ap_turnR hS q1 q2 q3 q4⟩
  by_cases e3 : k = 3
  · subst e3
    refine (rap_k3 (.pointer (some ⟨a, 0, none⟩)) i x0 y0 x1 y1 w _ (turn fun V hV => rupdate_b a L S i x0 y0 x1 y1 V hV)).mono ?_
    rintro e w' ⟨v, rfl, hp⟩
    obtain ⟨V, X, q1, q2, ⟨rfl, q3⟩, -, q4⟩ := hp.out
    exact ⟨_, rfl, no, ap_turnR hS q1 q2 q3 q4⟩
  by_cases e4 : k = 4
  · subst e4
    have hc : ∀ b z, look L i = b → z = b.getD Bx.zero → ApC w 44 #[.pointer (some ⟨a, 0, none⟩), .int .i64 i] fun V v X => v = .tuple #[.agg #[.int .i64 z.x0, .int .i64 z.y0, .int .i64 z.x1, .int .i64 z.y1], .bool b.isSome] ∧ TurnsR a L false S V X := fun b z hb hz V hV hs => (rbounds_b a L false S i V (h.below hV)).mono fun e X ⟨h1, h2⟩ => ⟨_, h1, ⟨by rw [hb, hz], TurnsR.same (h.below hV) h2⟩, ap_but (But.ofBelow h2 S) hS⟩
    rcases hb : look L i with _ | z
    · refine (rap_k4f (.pointer (some ⟨a, 0, none⟩)) i x0 y0 x1 y1 w (fun V _ X => TurnsR a L false S V X) 0 0 0 0 (hc none Bx.zero hb rfl)).mono ?_
      rintro e w' ⟨v, rfl, hp⟩
      obtain ⟨V, X, q1, q2, q3, -, q4⟩ := hp.out
      exact ⟨_, by simp [apN, apB, hb, Bx.zero], no, ap_turnR hS q1 q2 q3 q4⟩
    · refine (rap_k4t (.pointer (some ⟨a, 0, none⟩)) i x0 y0 x1 y1 w (fun V _ X => TurnsR a L false S V X) z.x0 z.y0 z.x1 z.y1 (hc (some z) z hb rfl)).mono ?_
      rintro e w' ⟨v, rfl, hp⟩
      obtain ⟨V, X, q1, q2, q3, -, q4⟩ := hp.out
      exact ⟨_, by simp [apN, apB, hb], no, ap_turnR hS q1 q2 q3 q4⟩
  by_cases e5 : k = 5
  · subst e5
    refine (rap_k5 (.pointer (some ⟨a, 0, none⟩)) i x0 y0 x1 y1 w (fun V v X => X.ownsRow V.heap.size 3 1 v (hitL L (fun b => Bx.ovl b ⟨x0, y0, x1, y1⟩)).length (iv (hitL L (fun b => Bx.ovl b ⟨x0, y0, x1, y1⟩))) ∧ TurnsR a L false S V X) (fun V hV hs => (rquery_b a L false S x0 y0 x1 y1 V (h.below hV)).mono fun e X ⟨⟨v, h1, h3⟩, h2⟩ => ⟨_, h1, ⟨h3, TurnsR.same (h.below hV) h2⟩, ap_but (But.ofBelow h2 S) hS⟩)).mono ?_
    rintro e w' ⟨v, rfl, hp⟩
    obtain ⟨V, X, q1, q2, ⟨q0, q3⟩, -, q4⟩ := hp.out
    exact ⟨_, rfl, ap_rows q2 q0 q4, ap_turnR hS q1 q2 q3 q4⟩
  by_cases e6 : k = 6
  · subst e6
    refine (rap_k6 (.pointer (some ⟨a, 0, none⟩)) i x0 y0 x1 y1 w (fun V v X => X.ownsRow V.heap.size 3 1 v (hitL L (fun b => Bx.seg b x0 y0 x1 y1)).length (iv (hitL L (fun b => Bx.seg b x0 y0 x1 y1))) ∧ TurnsR a L false S V X) (fun V hV hs => (rray_b a L false S x0 y0 x1 y1 V (h.below hV)).mono fun e X ⟨⟨v, h1, h3⟩, h2⟩ => ⟨_, h1, ⟨h3, TurnsR.same (h.below hV) h2⟩, ap_but (But.ofBelow h2 S) hS⟩)).mono ?_
    rintro e w' ⟨v, rfl, hp⟩
    obtain ⟨V, X, q1, q2, ⟨q0, q3⟩, -, q4⟩ := hp.out
    exact ⟨_, rfl, ap_rows q2 q0 q4, ap_turnR hS q1 q2 q3 q4⟩
  · refine (rap_k0 (.pointer (some ⟨a, 0, none⟩)) k i x0 y0 x1 y1 w e1 e2 e3 e4 e5 e6).mono ?_
    rintro e w' ⟨rfl, hb⟩
    refine ⟨.slice none 0 0, by simp [apN, apB, e1, e2, e3, e4, Bx.zero], ?_, ?_⟩
    · simp only [apI, e5, e6, if_false]; exact no
    · simp only [apT, e1, e2, e3, if_false]; exact TurnsR.same h hb

/-- What both hand back over nil. -/
def nlN (o : Opr) : Int := if o.k = 1 ∨ o.k = 3 then 1 else 0
def NlR (w : World) (o : Opr) (e : Ending) (w' : World) : Prop :=
  (∃ v, e = .returned (.tuple #[.int .i64 (nlN o), v, .agg #[.int .i64 0, .int .i64 0, .int .i64 0, .int .i64 0]]) ∧ Hid (w'.ownsRow w.heap.size 3 1 v ([] : List Int).length (iv []))) ∧ Below w.heap.size w w'
theorem nl_c {w : World} {f : FuncId} {args : Array Value} {r : Value} (hc : ∀ V, Below w.heap.size w V → Calls Try.prog f args V fun e X => e = .returned r ∧ Below V.heap.size V X) : ApC w f args fun V v X => v = r ∧ Below V.heap.size V X := fun V hV hz => (hc V hV).mono fun e X ⟨h1, h2⟩ => ⟨_, h1, ⟨rfl, h2⟩, But.ofBelow h2 _⟩
theorem nl_q {w : World} {f : FuncId} {args : Array Value} (hc : ∀ V, Below w.heap.size w V → Calls Try.prog f args V fun e X => (∃ v, e = .returned v ∧ X.ownsRow V.heap.size 3 1 v ([] : List Int).length (iv [])) ∧ Below V.heap.size V X) : ApC w f args fun V v X => X.ownsRow V.heap.size 3 1 v ([] : List Int).length (iv []) ∧ Below V.heap.size V X := fun V hV hz => (hc V hV).mono fun e X ⟨⟨v, h1, h3⟩, h2⟩ => ⟨_, h1, ⟨h3, h2⟩, But.ofBelow h2 _⟩

theorem rapply0_b (a : Nat) (S : Nat → Prop) (o : Opr) (w : World) (h : RefAt w a [] true S) : Calls Try.prog 23 #[.pointer (some ⟨a, 0, none⟩), .agg #[.int .i64 o.k, .int .i64 o.i, .int .i64 o.x0, .int .i64 o.y0, .int .i64 o.x1, .int .i64 o.y1]] w (NlR w o) := by
  obtain ⟨k, i, x0, y0, x1, y1⟩ := o
  dsimp only
  have no : ∀ {w' : World}, Hid (w'.ownsRow w.heap.size 3 1 (.slice none 0 0) 0 []) := owns_nil _ _ _
  have hF : FindAt [] i 0 false := ⟨by simp, fun j h => by simp at h, fun h => by simp at h, by simp⟩
  by_cases e1 : k = 1
  · subst e1
    refine (rap_k1 (.pointer (some ⟨a, 0, none⟩)) i x0 y0 x1 y1 w _ (nl_c fun V hV => rinsert1_b a [] S i x0 y0 x1 y1 V (h.below hV))).mono ?_
    rintro e w' ⟨v, rfl, hp⟩
    obtain ⟨V, X, q1, q2, ⟨rfl, q3⟩, -, q4⟩ := hp.out
    exact ⟨⟨_, rfl, no⟩, ap_bel q1 q2 q3 q4⟩
  by_cases e2 : k = 2
  · subst e2
    refine (rap_k2 (.pointer (some ⟨a, 0, none⟩)) i x0 y0 x1 y1 w (fun V _ X => Below V.heap.size V X) false (nl_c fun V hV => rrem_no a [] true S i 0 hF V (h.below hV))).mono ?_
    rintro e w' ⟨v, rfl, hp⟩
    obtain ⟨V, X, q1, q2, q3, -, q4⟩ := hp.out
    exact ⟨⟨_, rfl, no⟩, ap_bel q1 q2 q3 q4⟩
  by_cases e3 : k = 3
  · subst e3
    refine (rap_k3 (.pointer (some ⟨a, 0, none⟩)) i x0 y0 x1 y1 w _ (nl_c fun V hV => rupdate1_b a [] S i x0 y0 x1 y1 V (h.below hV))).mono ?_
    rintro e w' ⟨v, rfl, hp⟩
    obtain ⟨V, X, q1, q2, ⟨rfl, q3⟩, -, q4⟩ := hp.out
    exact ⟨⟨_, rfl, no⟩, ap_bel q1 q2 q3 q4⟩
  by_cases e4 : k = 4
  · subst e4
    refine (rap_k4f (.pointer (some ⟨a, 0, none⟩)) i x0 y0 x1 y1 w (fun V _ X => Below V.heap.size V X) 0 0 0 0 (nl_c fun V hV => rbounds_b a [] true S i V (h.below hV))).mono ?_
    rintro e w' ⟨v, rfl, hp⟩
    obtain ⟨V, X, q1, q2, q3, -, q4⟩ := hp.out
    exact ⟨⟨_, rfl, no⟩, ap_bel q1 q2 q3 q4⟩
  by_cases e5 : k = 5
  · subst e5
    refine (rap_k5 (.pointer (some ⟨a, 0, none⟩)) i x0 y0 x1 y1 w _ (nl_q fun V hV => rquery_b a [] true S x0 y0 x1 y1 V (h.below hV))).mono ?_
    rintro e w' ⟨v, rfl, hp⟩
    obtain ⟨V, X, q1, q2, ⟨q0, q3⟩, -, q4⟩ := hp.out
    exact ⟨⟨_, rfl, ap_rows q2 q0 q4⟩, ap_bel q1 q2 q3 q4⟩
  by_cases e6 : k = 6
  · subst e6
    refine (rap_k6 (.pointer (some ⟨a, 0, none⟩)) i x0 y0 x1 y1 w _ (nl_q fun V hV => rray_b a [] true S x0 y0 x1 y1 V (h.below hV))).mono ?_
    rintro e w' ⟨v, rfl, hp⟩
    obtain ⟨V, X, q1, q2, ⟨q0, q3⟩, -, q4⟩ := hp.out
    exact ⟨⟨_, rfl, ap_rows q2 q0 q4⟩, ap_bel q1 q2 q3 q4⟩
  · refine (rap_k0 (.pointer (some ⟨a, 0, none⟩)) k i x0 y0 x1 y1 w e1 e2 e3 e4 e5 e6).mono ?_
    rintro e w' ⟨rfl, hb⟩
    exact ⟨⟨.slice none 0 0, by simp [nlN, e1, e3], no⟩, hb⟩

theorem apply0_b (o : Opr) (w : World) : Calls Try.prog 12 #[.pointer none, .agg #[.int .i64 o.k, .int .i64 o.i, .int .i64 o.x0, .int .i64 o.y0, .int .i64 o.x1, .int .i64 o.y1]] w (NlR w o) := by
  obtain ⟨k, i, x0, y0, x1, y1⟩ := o
  dsimp only
  have no : ∀ {w' : World}, Hid (w'.ownsRow w.heap.size 3 1 (.slice none 0 0) 0 []) := owns_nil _ _ _
  by_cases e1 : k = 1
  · subst e1
    refine (ap_k1 (.pointer none) i x0 y0 x1 y1 w _ (nl_c fun V hV => insert0_b i x0 y0 x1 y1 V)).mono ?_
    rintro e w' ⟨v, rfl, hp⟩
    obtain ⟨V, X, q1, q2, ⟨rfl, q3⟩, -, q4⟩ := hp.out
    exact ⟨⟨_, rfl, no⟩, ap_bel q1 q2 q3 q4⟩
  by_cases e2 : k = 2
  · subst e2
    refine (ap_k2 (.pointer none) i x0 y0 x1 y1 w (fun V _ X => Below V.heap.size V X) false (nl_c fun V hV => remove0_b i V)).mono ?_
    rintro e w' ⟨v, rfl, hp⟩
    obtain ⟨V, X, q1, q2, q3, -, q4⟩ := hp.out
    exact ⟨⟨_, rfl, no⟩, ap_bel q1 q2 q3 q4⟩
  by_cases e3 : k = 3
  · subst e3
    refine (ap_k3 (.pointer none) i x0 y0 x1 y1 w _ (nl_c fun V hV => update0_b i x0 y0 x1 y1 V)).mono ?_
    rintro e w' ⟨v, rfl, hp⟩
    obtain ⟨V, X, q1, q2, ⟨rfl, q3⟩, -, q4⟩ := hp.out
    exact ⟨⟨_, rfl, no⟩, ap_bel q1 q2 q3 q4⟩
  by_cases e4 : k = 4
  · subst e4
    refine (ap_k4f (.pointer none) i x0 y0 x1 y1 w (fun V _ X => Below V.heap.size V X) 0 0 0 0 (nl_c fun V hV => bounds0_b i V)).mono ?_
    rintro e w' ⟨v, rfl, hp⟩
    obtain ⟨V, X, q1, q2, q3, -, q4⟩ := hp.out
    exact ⟨⟨_, rfl, no⟩, ap_bel q1 q2 q3 q4⟩
  by_cases e5 : k = 5
  · subst e5
    refine (ap_k5 (.pointer none) i x0 y0 x1 y1 w _ (nl_q fun V hV => (query0_b x0 y0 x1 y1 V).mono fun e X ⟨h1, h2⟩ => ⟨⟨_, h1, owns_nil _ _ _⟩, h2⟩)).mono ?_
    rintro e w' ⟨v, rfl, hp⟩
    obtain ⟨V, X, q1, q2, ⟨q0, q3⟩, -, q4⟩ := hp.out
    exact ⟨⟨_, rfl, ap_rows q2 q0 q4⟩, ap_bel q1 q2 q3 q4⟩
  by_cases e6 : k = 6
  · subst e6
    refine (ap_k6 (.pointer none) i x0 y0 x1 y1 w _ (nl_q fun V hV => (ray0_b x0 y0 x1 y1 V).mono fun e X ⟨h1, h2⟩ => ⟨⟨_, h1, owns_nil _ _ _⟩, h2⟩)).mono ?_
    rintro e w' ⟨v, rfl, hp⟩
    obtain ⟨V, X, q1, q2, ⟨q0, q3⟩, -, q4⟩ := hp.out
    exact ⟨⟨_, rfl, ap_rows q2 q0 q4⟩, ap_bel q1 q2 q3 q4⟩
  · refine (ap_k0 (.pointer none) k i x0 y0 x1 y1 w e1 e2 e3 e4 e5 e6).mono ?_
    rintro e w' ⟨rfl, hb⟩
    exact ⟨⟨.slice none 0 0, by simp [nlN, e1, e3], no⟩, hb⟩

end Go.Proofs.Ytdldlcibjjccpaa
