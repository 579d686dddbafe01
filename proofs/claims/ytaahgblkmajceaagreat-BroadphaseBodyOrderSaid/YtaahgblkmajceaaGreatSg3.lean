/- Chapter 21, Go's library at pairs: slices.Compact, Grow, Concat.
Chapter 21, the reference on lists of pairs: less, containsPair, insert, MergePairs, SubtractPairs, EqualPairs.
Chapter 21: entries as the reference's; the reference's filter. -/
import Derived.Test.YtaahgblkmajceaaGreatSpB
import Derived.Test.YtaahgblkmajceaaGreatBg2
import Derived.Lib.SlBuf
import Derived.Lib.AppendZerosOnto
import Derived.Lib.LazyBuf
import Derived.Deep.DeepCutAuto
import Derived.Test.YtaahgblkmajceaaGreatSg2

set_option linter.unusedVariables false
set_option linter.unusedSimpArgs false
namespace Go.Proofs.YtaahgblkmajceaaGreat
open Go.RowKit Fx Go.Sort

theorem eql_pair (a b c e : Int) (W : World) : (binOp .eql 49 (.agg #[.int .i64 a, .int .i64 b]) (.agg #[.int .i64 c, .int .i64 e])).run Tryz.prog W = .ok (.bool (a == c && b == e)) W := by
  rw [run_eql_struct]
  have := eq_pair 9998 a b c e W
  simp only [this, Result.andThen]
theorem ptsp_open {w : World} {A : Option Addr} {ps : List (Int × Int)} (ha : Pts w A ps) (h0 : 0 < ps.length) : ∃ b off, A = some ⟨b, off, none⟩ ∧ ∀ (i : Nat) (h : i < ps.length), w.cell? ⟨b, off + i * 2, none⟩ = some (.int .i64 ps[i].1) ∧ w.cell? ⟨b, off + i * 2 + 1, none⟩ = some (.int .i64 ps[i].2) := by
  rcases ha with h | ⟨b, off, rfl, hc⟩
  · rw [h] at h0; simp at h0
  · exact ⟨b, off, rfl, hc⟩

def RowP (w : World) (b : Nat) (ys : List Pr) (t : TypeId) : Prop := ∃ c, blk w b c t ∧ ∀ i, i < ys.length * 2 → c[i]? = (pv ys)[i]?
theorem RowP.of {w : World} {b : Nat} {ys : List Pr} {t : TypeId} (h : blk w b (pv ys).toArray t) : RowP w b ys t := ⟨_, h, fun i hi => by simp⟩
theorem RowP.pts {w : World} {b : Nat} {ys : List Pr} {t : TypeId} (h : RowP w b ys t) : Pts w (some ⟨b, 0, none⟩) ys := by
  obtain ⟨c, hb, hc⟩ := h
  refine .inr ⟨b, 0, rfl, fun i hi => ?_⟩
  obtain ⟨g1, g2⟩ := pv_get ys i hi
  rw [Nat.zero_add, blk_cell hb, blk_cell hb, hc _ (by omega), hc _ (by omega)]
  exact ⟨g1, g2⟩

theorem blkp_cells {w : World} {b : Nat} {t : TypeId} (vs : List Value) : ∀ (o : Nat) (c : Array Value), blk w b c t → ∃ c', blk (w.setCells b o vs) b c' t ∧ ∀ i, i < o → c'[i]? = c[i]? := by
  induction vs generalizing w with
  | nil => intro o c h; exact ⟨c, h, fun _ _ => rfl⟩
  | cons v vs ih =>
    intro o c h
    obtain ⟨c', h1, h2⟩ := ih (w := w.setCell ⟨b, o, none⟩ v) (o + 1) _ (blk_set h)
    refine ⟨c', by rw [World.setCells]; exact h1, fun i hi => ?_⟩
    rw [h2 i (by omega), Array.getElem?_setIfInBounds_ne (by omega)]
theorem RowP.cells {w : World} {b : Nat} {ys : List Pr} {t : TypeId} (vs : List Value) {o : Nat} (h : RowP w b ys t) (ho : ys.length * 2 ≤ o) : RowP (w.setCells b o vs) b ys t := by
  obtain ⟨c, hb, hc⟩ := h
  obtain ⟨c', h1, h2⟩ := blkp_cells vs o c hb
  exact ⟨c', h1, fun i hi => by rw [h2 i (by omega)]; exact hc i hi⟩
theorem RowP.pre {w : World} {b m : Nat} {ys xs : List Pr} {t : TypeId} (h : RowP w b xs t) (hm : xs.take m = ys) : RowP w b ys t := by
  subst hm
  obtain ⟨c, hb, hc⟩ := h
  refine ⟨c, hb, fun i hi => ?_⟩
  have hl : (xs.take m).length ≤ xs.length := by simp; omega
  rw [hc i (by omega)]
  have hi2 : i / 2 < (xs.take m).length := by omega
  obtain ⟨g1, g2⟩ := pv_get xs (i / 2) (by omega)
  obtain ⟨g3, g4⟩ := pv_get (xs.take m) (i / 2) hi2
  rw [List.getElem_take] at g3 g4
  rcases Nat.mod_two_eq_zero_or_one i with hm | hm
  · have e : i / 2 * 2 = i := by omega
    rw [e] at g1 g3
    rw [g1, g3]
  · have e : i / 2 * 2 + 1 = i := by omega
    rw [e] at g2 g4
    rw [g2, g4]
theorem RowP.gw {w : World} {b : Nat} {ys : List Pr} {t : TypeId} {p : Gw} (h : RowP w b ys t) : RowP (gw w p) b ys t := by
  obtain ⟨c, hb, hc⟩ := h
  exact ⟨c, blk_gw hb, hc⟩
theorem RowP.at {w : World} {b i : Nat} {ys : List Pr} {t : TypeId} (h : RowP w b ys t) (hi : i < ys.length) : w.cell? ⟨b, i * 2, none⟩ = some (.int .i64 ys[i].1) ∧ w.cell? ⟨b, i * 2 + 1, none⟩ = some (.int .i64 ys[i].2) := by
  obtain ⟨c, hb, hc⟩ := h
  obtain ⟨g1, g2⟩ := pv_get ys i hi
  rw [blk_cell hb, blk_cell hb, hc _ (by omega), hc _ (by omega)]
  exact ⟨g1, g2⟩
theorem RowP.set {w : World} {b m : Nat} {xs : List Pr} {t : TypeId} (h : RowP w b xs t) (hm : m < xs.length) (x y : Int) : RowP ((w.setCell ⟨b, m * 2, none⟩ (.int .i64 x)).setCell ⟨b, m * 2 + 1, none⟩ (.int .i64 y)) b (xs.set m (x, y)) t := by
  obtain ⟨c, hb, hc⟩ := h
  refine ⟨_, blk_set (blk_set hb), fun i hi => ?_⟩
  rw [List.length_set] at hi
  have hci : i < c.size := by
    have := hc i hi
    rw [List.getElem?_eq_getElem (by rw [pv_length]; exact hi)] at this
    exact (Array.getElem?_eq_some_iff.1 this).1
  rw [← pv_set, Array.getElem?_setIfInBounds, Array.getElem?_setIfInBounds, List.getElem?_set, List.getElem?_set, hc i hi]
  simp only [List.length_set, pv_length, Array.size_setIfInBounds]
  by_cases h1 : m * 2 + 1 = i
  · subst h1; simp [hci, hi]
  · rw [if_neg h1, if_neg h1]
    by_cases h2 : m * 2 = i
    · subst h2; simp [hci, hi]
    · rw [if_neg h2, if_neg h2]

end Go.Proofs.YtaahgblkmajceaaGreat

set_option linter.unusedVariables false
set_option linter.unusedSimpArgs false
namespace Go.Proofs.YtaahgblkmajceaaGreat
open Go.RowKit Fx

theorem wpList_appE21 {P : Program} {w : World} {ops : Array Oper} {rest : List Oper} {o : Oper} {a : Act} {Q : Exit → Act → World → Prop} (hg : o.guard = none) (s x : Operand) (t : TypeId)
    (ho : o.op = .call { callee := .builtin .append, args := #[s, x], argTypes := #[t, t] })
    (B : Nat) (e : TypeId) (i : TypeInfo) (z : Value) (sz bytes : Nat) (ht : P.underlying t = some (.slice e)) (hi : P.info? e = some i) (hz : i.zero = some z) (hsize : i.size = sz) (hby : i.bytes = bytes) (hzs : z.cells.size = sz) (hsz : 0 < sz)
    (v : Value) (n : Nat) (xs : List Value) (hs : a.eval s = v) (hown : w.ownsRow B e sz v n xs) (X : Option Addr) (m c : Nat) (ys : List Value) (hx : a.eval x = .slice X m c) (hnil : X = none → c = 0) (hmc : m ≤ c) (hl : ys.length = m * sz) (hcs : Cs w X ys) (h1 : ∀ u ∈ ys, u.oneCell' = true)
    (h63 : n + m ≤ maxLen) (hbytes : (n + m) * bytes ≤ 140737488355328) (hB : B ≤ w.heap.size)
    (h : ∀ v' w', w'.ownsRow B e sz v' (n + m) (xs ++ ys) → Below B w w' → wpList P ops Q rest (a.put o.dst v') w') : wpList P ops Q (o :: rest) a w := by
  cases X with
  | none =>
    obtain rfl := hnil rfl
    obtain rfl : m = 0 := by omega
    have hn : ys = [] := List.eq_nil_of_length_eq_zero (by omega)
    subst hn
    refine wpList_plain hg fun K hK' => ?_
    have hrun := run_append_owned_none (P := P) w B t o.type e i sz ht hi v n xs hown
    unfold Oper.wp
    simp [execOp, ho, resolve, invoke, builtin, hs, hx, hrun, Result.andThen]
    exact hK' _ _ (h v w (by simpa using hown) (Below.refl _ _))
  | some ad =>
    refine wpList_append_own w hg s x t ho B e i z sz bytes ht hi hz hsize hby hzs hsz v n xs hs hown ad m c ys hx hl (cs_at hcs) h1 h63 hbytes hB (fun v' w' h2 h3 _ => h v' w' h2 ?_)
    refine ⟨h3.os, h3.tape, h3.output, h3.size, fun k hk => h3.block k (by omega) fun hk' => ?_⟩
    obtain ⟨_, ⟨rfl, _⟩ | ⟨g, cap, cur, rfl, hBg, _⟩⟩ := hown
    · simp [Value.ownBlock] at hk'
    · simp [Value.ownBlock] at hk'; omega
theorem own_castk21 {w : World} {B n n' k : Nat} {e : TypeId} {v : Value} {xs xs' : List Value} (h : w.ownsRow B e k v n xs) (hn : n = n') (hx : xs = xs') : w.ownsRow B e k v n' xs' := by subst hn; subst hx; exact h
theorem own_lit21 {w : World} {B n k : Nat} {e : TypeId} {v : Value} {xs : List Value} (h : w.ownsRow B e k v n xs) : ∃ A cap, v = .slice A n cap := by
  obtain ⟨_, ⟨rfl, rfl⟩ | ⟨g, cap, _, rfl, _⟩⟩ := h
  · exact ⟨none, 0, rfl⟩
  · exact ⟨_, _, rfl⟩

structure Vw2 (w : World) (v : Value) (xs : List Pr) : Prop where
  len : ∀ ty W, (Builtin.len_ #[47] ty #[v]).run Tryz.prog W = .ok (.int .i64 (xs.length : Int)) W
  ix : ∀ k (hk : k < xs.length), ∃ g o : Nat, (∀ W, (Instr.indexAt 47 v (.int .i64 (k : Int))).run Tryz.prog W = .ok (.pointer (some ⟨g, o, none⟩)) W) ∧ ∀ w', Below w.heap.size w w' → older g w' = true ∧ w'.cell? ⟨g, o, none⟩ = some (.int .i64 xs[k].1) ∧ w'.cell? ⟨g, o + 1, none⟩ = some (.int .i64 xs[k].2)
theorem Vw2.to {w w' : World} {v : Value} {xs : List Pr} (h : Vw2 w v xs) (hb : Below w.heap.size w w') : Vw2 w' v xs :=
  ⟨h.len, fun k hk => by
    obtain ⟨g, o, h1, h2⟩ := h.ix k hk
    exact ⟨g, o, h1, fun w2 hb2 => h2 w2 (Below.trans hb (hb2.mono hb.size))⟩⟩

theorem vw_own {w : World} {B : Nat} {v : Value} {xs : List Pr} (h : w.ownsRow B 49 2 v xs.length (pv xs)) : Vw2 w v xs :=
  ⟨fun ty W => row_len u_pairs h ty W, fun k hk => by
    obtain ⟨g, _, h2, h3⟩ := pairs_ix h hk
    exact ⟨g, k * 2, h2, h3⟩⟩

theorem vw_pts {w : World} {A : Option Addr} {cap : Nat} {xs : List Pr} (h : Pts w A xs) : Vw2 w (.slice A xs.length cap) xs :=
  ⟨fun ty W => by simp [Builtin.len_, run_underlying u_pairs] <;> rfl, fun k hk => by
    obtain ⟨b, off, rfl, hc⟩ := ptsp_open h (by omega)
    obtain ⟨d0, d1⟩ := hc k hk
    have hlt : b < w.heap.size := World.block_lt_of_cell? w ⟨b, off + k * 2, none⟩ d0
    refine ⟨b, off + k * 2, fun W => ?_, fun w' hb => ⟨by have := hb.size; simp [older]; omega, (hb.cell (p := ⟨b, off + k * 2, none⟩) hlt).trans d0, (hb.cell (p := ⟨b, off + k * 2 + 1, none⟩) hlt).trans d1⟩⟩
    simp [Instr.indexAt, run_underlying u_pairs, asIntOf, sz_pair, hk, addN21, go_sem]⟩

theorem own_nil21 {w : World} {g B k : Nat} {e : TypeId} (h : blk w g #[] e) (hB : B ≤ g) : w.ownsRow B e k (.slice (some ⟨g, 0, none⟩) 0 0) 0 [] :=
  ⟨by simp, .inr ⟨g, 0, #[], rfl, hB, h, Nat.le_refl _, by decide, by simp, by simp⟩⟩
theorem pv_take21 : ∀ (ps : List Pr) (k : Nat), (pv ps).take (k * 2) = pv (ps.take k)
  | [], k => by simp [pv]
  | p :: ps, 0 => by simp [pv]
  | p :: ps, k + 1 => by
    rw [show (k + 1) * 2 = k * 2 + 2 by omega]
    simp [pv, pv_take21 ps k]
theorem pv_drop21 : ∀ (ps : List Pr) (k : Nat), (pv ps).drop (k * 2) = pv (ps.drop k)
  | [], k => by simp [pv]
  | p :: ps, 0 => by simp
  | p :: ps, k + 1 => by
    rw [show (k + 1) * 2 = k * 2 + 2 by omega]
    simp [pv, pv_drop21 ps k]
theorem pv_one21 (ps : List Pr) : ∀ u ∈ pv ps, u.oneCell' = true := fun u hu => by
  rw [pv_flat] at hu
  obtain ⟨p, _, hu⟩ := List.mem_flatMap.1 hu
  simp [prc] at hu; rcases hu with rfl | rfl <;> rfl

end Go.Proofs.YtaahgblkmajceaaGreat

set_option linter.unusedVariables false
set_option linter.unusedSimpArgs false
namespace Go.Proofs.YtaahgblkmajceaaGreat
open Go.RowKit Fx

structure Vw5 (SL : TypeId) (w : World) (v : Value) (xs : List En) : Prop where
  len : ∀ ty W, (Builtin.len_ #[SL] ty #[v]).run Tryz.prog W = .ok (.int .i64 (xs.length : Int)) W
  ix : ∀ k (hk : k < xs.length), ∃ g o : Nat, (∀ W, (Instr.indexAt SL v (.int .i64 (k : Int))).run Tryz.prog W = .ok (.pointer (some ⟨g, o, none⟩)) W) ∧ ∀ w', Below w.heap.size w w' → older g w' = true ∧ w'.cell? ⟨g, o, none⟩ = some (.int .i64 xs[k].1) ∧ w'.cell? ⟨g, o + 1, none⟩ = some (.int .i64 xs[k].2.x0) ∧ w'.cell? ⟨g, o + 2, none⟩ = some (.int .i64 xs[k].2.y0) ∧ w'.cell? ⟨g, o + 3, none⟩ = some (.int .i64 xs[k].2.x1) ∧ w'.cell? ⟨g, o + 4, none⟩ = some (.int .i64 xs[k].2.y1)
theorem Vw5.to {SL : TypeId} {w w' : World} {v : Value} {xs : List En} (h : Vw5 SL w v xs) (hb : Below w.heap.size w w') : Vw5 SL w' v xs :=
  ⟨h.len, fun k hk => by
    obtain ⟨g, o, h1, h2⟩ := h.ix k hk
    exact ⟨g, o, h1, fun w2 hb2 => h2 w2 (Below.trans hb (hb2.mono hb.size))⟩⟩
theorem vw5_own {SL E : TypeId} (hu : Tryz.prog.underlying SL = some (.slice E)) (hz : ∀ W, (sizeOf E).run Tryz.prog W = .ok 5 W) {w : World} {B : Nat} {v : Value} {xs : List En} (h : w.ownsRow B E 5 v xs.length (ev xs)) : Vw5 SL w v xs :=
  ⟨fun ty W => row_len hu h ty W, fun k hk => by
    obtain ⟨g, _, h2, h3⟩ := ents_ix hu hz h hk
    exact ⟨g, k * 5, h2, h3⟩⟩
theorem vw5_ents {SL E : TypeId} (hu : Tryz.prog.underlying SL = some (.slice E)) (hz : ∀ W, (sizeOf E).run Tryz.prog W = .ok 5 W) {w : World} {A : Option Addr} {cap : Nat} {xs : List En} (h : Ents w A xs) : Vw5 SL w (.slice A xs.length cap) xs :=
  ⟨fun ty W => by simp [Builtin.len_, run_underlying hu] <;> rfl, fun k hk => by
    obtain ⟨b, off, rfl, hbl, hc⟩ := ents_open h (by omega)
    exact ⟨b, off + k * 5, fun W => by simp [Instr.indexAt, run_underlying hu, asIntOf, hz, hk, addN21, go_sem], fun w' hb => hc k hk w' hb⟩⟩

end Go.Proofs.YtaahgblkmajceaaGreat
