/- Tools for contact manifolds in memory: points appended to a row, a world in which one block has a new cell, results of calls. -/
import Derived.Test.YtiecpebckmihgaaGreatMm
set_option linter.unusedVariables false
namespace Go.Proofs.YtiecpebckmihgaaGreat
open Go.RowKit Fx

theorem wpList_appK {P : Program} {w : World} {ops : Array Oper} {rest : List Oper} {o : Oper} {a : Act} {Q : Exit → Act → World → Prop} (hg : o.guard = none) (s x : Operand) (t : TypeId)
    (ho : o.op = .call { callee := .builtin .append, args := #[s, x], argTypes := #[t, t] })
    (B : Nat) (e : TypeId) (i : TypeInfo) (z : Value) (sz bytes : Nat) (ht : P.underlying t = some (.slice e)) (hi : P.info? e = some i) (hz : i.zero = some z) (hsize : i.size = sz) (hby : i.bytes = bytes) (hzs : z.cells.size = sz) (hsz : 0 < sz)
    (v : Value) (n : Nat) (xs : List Value) (hs : a.eval s = v) (hown : w.ownsRow B e sz v n xs) (X : Option Addr) (m c : Nat) (ys : List Value) (hx : a.eval x = .slice X m c) (hnil : X = none → c = 0) (hmc : m ≤ c) (hl : ys.length = m * sz) (hcs : Cs w X ys) (h1 : ∀ u ∈ ys, u.oneCell' = true)
    (h63 : n + m ≤ maxLen) (hbytes : (n + m) * bytes ≤ 140737488355328) (hB : B ≤ w.heap.size)
    (h : ∀ v' w', w'.ownsRow B e sz v' (n + m) (xs ++ ys) → Below B w w' → wpList P ops Q rest (a.put o.dst v') w') : wpList P ops Q (o :: rest) a w := by
  cases X with
  | none =>
    obtain rfl := hnil rfl
    obtain rfl : m = 0 := by omega
    have hn : ys = [] := List.eq_nil_of_length_eq_zero (by omega)
    subst hn
    refine wpList_plain hg fun K hK' => ?_
    have hrun := run_append_owned_none (P := P) w B t o.type e i sz ht hi v n xs hown
    unfold Oper.wp
    simp [execOp, ho, resolve, invoke, builtin, hs, hx, hrun, Result.andThen]
    exact hK' _ _ (h v w (by simpa using hown) (Below.refl _ _))
  | some ad =>
    refine wpList_append_own w hg s x t ho B e i z sz bytes ht hi hz hsize hby hzs hsz v n xs hs hown ad m c ys hx hl (cs_at hcs) h1 h63 hbytes hB (fun v' w' h2 h3 _ => h v' w' h2 ?_)
    refine ⟨h3.os, h3.tape, h3.output, h3.size, fun k hk => h3.block k (by omega) fun hk' => ?_⟩
    obtain ⟨_, ⟨rfl, _⟩ | ⟨g, cap, cur, rfl, hBg, _⟩⟩ := hown
    · simp [Value.ownBlock] at hk'
    · simp [Value.ownBlock] at hk'; omega

theorem cnc_len (f : Cnt) : (cnc f).length = 6 := rfl
theorem cnc_one (l : List Cnt) : ∀ u ∈ l.flatMap cnc, u.oneCell' = true := fun u hu => by
  obtain ⟨f, _, hf⟩ := List.mem_flatMap.1 hu
  simp [cnc] at hf
  rcases hf with rfl | rfl | rfl | rfl | rfl | rfl <;> rfl
theorem cs_of_cnts {w : World} {A : Option Addr} {l : List Cnt} (h : Cnts w A l) : Cs w A (l.flatMap cnc) := by
  rcases h with rfl | ⟨b, off, rfl, hc⟩
  · exact .inl rfl
  · refine .inr ⟨b, off, rfl, fun i hi => ?_⟩
    rw [flat_len cnc_len] at hi
    obtain ⟨cs, k1, k2, rfl⟩ := hc (i / 6) (by omega)
    have g := flat_get cnc_len l (i / 6) (by omega) (i % 6) (by omega)
    rw [show i / 6 * 6 + i % 6 = i by omega] at g
    have c := k2 (i % 6) (by omega)
    rw [show off + i / 6 * 6 + i % 6 = off + i by omega] at c
    rw [c, ← g, List.getElem?_eq_getElem]
def Fr (B : Nat) (A : Option Addr) (l : List Cnt) : Prop := l = [] ∨ ∃ b, A = some ⟨b, 0, none⟩ ∧ B ≤ b
theorem owns_cnts {w : World} {B : Nat} {e : TypeId} {v : Value} {n : Nat} {l : List Cnt} (h : w.ownsRow B e 6 v n (l.flatMap cnc)) : ∃ A cap, v = .slice A l.length cap ∧ n = l.length ∧ l.length ≤ cap ∧ cap ≤ maxLen ∧ (A = none → cap = 0) ∧ Cnts w A l ∧ Fr B A l := by
  obtain ⟨A, cap, rfl, e2, h1, h2, h3, h4⟩ := owns_els cnc_len (by decide) h
  refine ⟨A, cap, rfl, e2, h1, h2, h4, h3, ?_⟩
  obtain ⟨_, ⟨h5, h6⟩ | ⟨g, c, cur, h5, hg, _⟩⟩ := h
  · rw [h6] at e2; exact .inl (List.eq_nil_of_length_eq_zero e2.symm)
  · cases h5; exact .inr ⟨g, rfl, hg⟩
theorem cnts_sm {b : Nat} {W W' : World} {l : List Cnt} (h : Sm b W W') (k : Cnts W (some ⟨b, 0, none⟩) l) : Cnts W' (some ⟨b, 0, none⟩) l := by
  rcases k with k | ⟨b', off', e, hc⟩
  · exact .inl k
  · cases e
    have e : ∀ i, W'.cell? ⟨b, i, none⟩ = W.cell? ⟨b, i, none⟩ := fun i => by unfold World.cell?; rw [h.2]
    exact .inr ⟨b, 0, rfl, fun i hi => by
      obtain ⟨cs, k1, k2, k3⟩ := hc i hi
      exact ⟨cs, k1, fun j hj => by rw [e]; exact k2 j hj, k3⟩⟩
theorem cnts_one {w : World} {b : Nat} {t : TypeId} {c : Cnt} (h : blk w b #[.int .i64 c.x, .int .i64 c.y, .int .i64 c.sep, .int .i64 c.id, .int .i64 c.ni, .int .i64 c.ti] t) : Cnts w (some ⟨b, 0, none⟩) [c] :=
  .inr ⟨b, 0, rfl, fun i hi => ⟨cnc [c][i], rfl, fun j hj => by
    obtain rfl : i = 0 := by simp at hi; omega
    rw [Nat.zero_mul, Nat.zero_add, blk_cell h]
    match j, hj with
    | 0, _ => rfl
    | 1, _ => rfl
    | 2, _ => rfl
    | 3, _ => rfl
    | 4, _ => rfl
    | 5, _ => rfl, rfl⟩⟩

def Bel1 (B M : Nat) (w w' : World) : Prop := ∃ w1 i u, Below B w w1 ∧ w' = w1.setCell ⟨M, i, none⟩ u
theorem Bel1.blk {B M b : Nat} {w w' : World} {c : Array Value} {t : TypeId} (h : Bel1 B M w w') (k : blk w b c t) (hb : b < B) (hne : b ≠ M) : blk w' b c t := by
  obtain ⟨w1, i, u, h1, rfl⟩ := h
  exact blk_other (Ne.symm hne) ((h1.block b hb).trans k)
theorem Bel1.below {B M B' : Nat} {w w' : World} (h : Bel1 B M w w') (h1 : B' ≤ B) (h2 : B' ≤ M) : Below B' w w' := by
  obtain ⟨w1, i, u, h3, rfl⟩ := h
  exact Below.setCell (h3.mono h1) h2 _
theorem Bel1.size {B M : Nat} {w w' : World} (h : Bel1 B M w w') : w.heap.size ≤ w'.heap.size := by
  obtain ⟨w1, i, u, h3, rfl⟩ := h
  simpa using h3.size

def MnR (w : World) (m : Mn) (e : Ending) (w' : World) : Prop := (∃ A' cap', e = .returned (.agg #[.int .i64 m.nx, .int .i64 m.ny, .slice A' m.l.length cap']) ∧ m.l.length ≤ cap' ∧ cap' ≤ maxLen ∧ (A' = none → cap' = 0) ∧ Cnts w' A' m.l) ∧ Below w.heap.size w w'
def MnF (w : World) (m : Mn) (e : Ending) (w' : World) : Prop := (∃ A' cap', e = .returned (.agg #[.int .i64 m.nx, .int .i64 m.ny, .slice A' m.l.length cap']) ∧ m.l.length ≤ cap' ∧ cap' ≤ maxLen ∧ (A' = none → cap' = 0) ∧ Cnts w' A' m.l ∧ Fr w.heap.size A' m.l) ∧ Below w.heap.size w w'
def MnT (w : World) (m : Mn) (ok : Bool) (e : Ending) (w' : World) : Prop := (∃ A' cap', e = .returned (.tuple #[.agg #[.int .i64 m.nx, .int .i64 m.ny, .slice A' m.l.length cap'], .bool ok]) ∧ m.l.length ≤ cap' ∧ cap' ≤ maxLen ∧ (A' = none → cap' = 0) ∧ Cnts w' A' m.l) ∧ Below w.heap.size w w'
theorem MnF.r {w : World} {m : Mn} {e : Ending} {w' : World} (h : MnF w m e w') : MnR w m e w' := by
  obtain ⟨⟨A', cap', h1, h2, h3, h4, h5, _⟩, hb⟩ := h
  exact ⟨⟨A', cap', h1, h2, h3, h4, h5⟩, hb⟩
section
variable {P : Program} {f : FuncId} {args : Array Value} {w : World}
theorem mnr_ex {m : Mn} (h : Calls P f args w (MnR w m)) : Calls P f args w fun e w' => (∃ A' cap', e = .returned (.agg #[.int .i64 m.nx, .int .i64 m.ny, .slice A' m.l.length cap']) ∧ m.l.length ≤ cap' ∧ cap' ≤ maxLen ∧ (A' = none → cap' = 0) ∧ Cnts w' A' m.l) ∧ ∃ q, w' = gw w q :=
  h.mono fun e w' ⟨h1, h2⟩ => ⟨h1, gw_of_below h2⟩
theorem mnf_ex {m : Mn} (h : Calls P f args w (MnF w m)) : Calls P f args w fun e w' => (∃ A' cap', e = .returned (.agg #[.int .i64 m.nx, .int .i64 m.ny, .slice A' m.l.length cap']) ∧ m.l.length ≤ cap' ∧ cap' ≤ maxLen ∧ (A' = none → cap' = 0) ∧ Cnts w' A' m.l ∧ Fr w.heap.size A' m.l) ∧ ∃ q, w' = gw w q :=
  h.mono fun e w' ⟨h1, h2⟩ => ⟨h1, gw_of_below h2⟩
theorem mnt_ex {m : Mn} {ok : Bool} (h : Calls P f args w (MnT w m ok)) : Calls P f args w fun e w' => (∃ A' cap', e = .returned (.tuple #[.agg #[.int .i64 m.nx, .int .i64 m.ny, .slice A' m.l.length cap'], .bool ok]) ∧ m.l.length ≤ cap' ∧ cap' ≤ maxLen ∧ (A' = none → cap' = 0) ∧ Cnts w' A' m.l) ∧ ∃ q, w' = gw w q :=
  h.mono fun e w' ⟨h1, h2⟩ => ⟨h1, gw_of_below h2⟩
end
theorem info_cnt : (Tryz.prog.info? 39).map (fun i => (i.zero, i.size, i.bytes)) = some (some (.agg #[.int .i64 0, .int .i64 0, .int .i64 0, .int .i64 0, .int .i64 0, .int .i64 0]), 6, 48) := by kernel_rfl

end Go.Proofs.YtiecpebckmihgaaGreat
