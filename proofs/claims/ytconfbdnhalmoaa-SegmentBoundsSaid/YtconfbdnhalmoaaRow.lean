/- Slices in memory: what their cells hold, what make and append leave. No program is imported. -/
import Derived.Test.YtconfbdnhalmoaaReg
import Derived.OwnWalk
import Derived.LoopTactic
import Derived.Laws.OwnMore
set_option linter.unusedVariables false
namespace Go.Proofs.Ytconfbdnhalmoaa
open Go.RowKit

/-- The cells from this address on are these. -/
def Cs (w : World) (A : Option Addr) (xs : List Value) : Prop := xs = [] ∨ ∃ b off, A = some ⟨b, off, none⟩ ∧ ∀ i (h : i < xs.length), w.cell? ⟨b, off + i, none⟩ = some xs[i]
theorem Cs.to {w w' : World} {A : Option Addr} {xs : List Value} (h : Cs w A xs) (hb : Below w.heap.size w w') : Cs w' A xs := by
  rcases h with h | ⟨b, off, hA, hc⟩
  · exact .inl h
  · refine .inr ⟨b, off, hA, fun i hi => ?_⟩
    have h1 := hc i hi
    have hlt := World.block_lt_of_cell? w ⟨b, off + i, none⟩ h1
    exact (hb.cell (p := ⟨b, off + i, none⟩) hlt).trans h1
theorem Cs.nil (w : World) (A : Option Addr) : Cs w A [] := .inl rfl
theorem Cs.open {w : World} {A : Option Addr} {xs : List Value} (h : Cs w A xs) (h0 : 0 < xs.length) : ∃ b off, A = some ⟨b, off, none⟩ ∧ ∀ i (h : i < xs.length), w.cell? ⟨b, off + i, none⟩ = some xs[i] := by
  rcases h with h | h
  · rw [h] at h0; simp at h0
  · exact h
theorem Cs.of_blk {w : World} {b : Nat} {c : Array Value} {t : TypeId} {xs : List Value} (h : blk w b c t) (hx : ∀ i (h : i < xs.length), c[i]? = some xs[i]) : Cs w (some ⟨b, 0, none⟩) xs :=
  .inr ⟨b, 0, rfl, fun i hi => by rw [Nat.zero_add, blk_cell h]; exact hx i hi⟩
theorem Cs.of_list {w : World} {b : Nat} {t : TypeId} {xs : List Value} (h : blk w b xs.toArray t) : Cs w (some ⟨b, 0, none⟩) xs := Cs.of_blk h fun i hi => by simp [hi]

/-- Numbers as cells. -/
def iv (ns : List Int) : List Value := ns.map (Value.int .i64)
@[simp] theorem iv_length (ns : List Int) : (iv ns).length = ns.length := by simp [iv]
theorem iv_get (ns : List Int) (i : Nat) (h : i < (iv ns).length) : (iv ns)[i] = .int .i64 (ns[i]'(by simpa using h)) := by simp [iv]
theorem iv_append (a b : List Int) : iv (a ++ b) = iv a ++ iv b := by simp [iv]
theorem iv_set (a : List Int) (i : Nat) (n : Int) : (iv a).set i (.int .i64 n) = iv (a.set i n) := by simp [iv, List.map_set]
theorem iv_arr (ns : List Int) (i : Nat) (h : i < ns.length) : (iv ns).toArray[i]? = some (.int .i64 ns[i]) := by simp [iv, h]
theorem iv_arr_set (ns : List Int) (i : Nat) (n : Int) : (iv ns).toArray.setIfInBounds i (.int .i64 n) = (iv (ns.set i n)).toArray := by simp [← iv_set]
/-- Bools as cells. -/
def bv (bs : List Bool) : List Value := bs.map Value.bool
@[simp] theorem bv_length (bs : List Bool) : (bv bs).length = bs.length := by simp [bv]
theorem bv_arr (bs : List Bool) (i : Nat) (h : i < bs.length) : (bv bs).toArray[i]? = some (.bool bs[i]) := by simp [bv, h]
theorem bv_arr_set (bs : List Bool) (i : Nat) (b : Bool) : (bv bs).toArray.setIfInBounds i (.bool b) = (bv (bs.set i b)).toArray := by simp [bv, List.map_set]
theorem made_ints (n : Nat) : madeCells #[Value.int .i64 0] n = (iv (List.replicate n 0)).toArray := by
  apply Array.ext_getElem?; intro j
  by_cases hj : j < n <;> simp [madeCells, hj, Nat.mod_one, iv]
theorem made_bools (n : Nat) : madeCells #[Value.bool false] n = (bv (List.replicate n false)).toArray := by
  apply Array.ext_getElem?; intro j
  by_cases hj : j < n <;> simp [madeCells, hj, Nat.mod_one, bv]
abbrev Ints (w : World) (A : Option Addr) (ns : List Int) : Prop := Cs w A (iv ns)
theorem Ints.open {w : World} {A : Option Addr} {ns : List Int} (h : Ints w A ns) (h0 : 0 < ns.length) : ∃ b off, A = some ⟨b, off, none⟩ ∧ ∀ i (h : i < ns.length), w.cell? ⟨b, off + i, none⟩ = some (.int .i64 ns[i]) := by
  obtain ⟨b, off, hA, hc⟩ := Cs.open h (by simpa using h0)
  exact ⟨b, off, hA, fun i hi => by rw [hc i (by simpa using hi), iv_get]⟩

/-- The elements of the slice with this address are these points. -/
def Pts (w : World) (A : Option Addr) (ps : List (Int × Int)) : Prop :=
  ps = [] ∨ ∃ b off, A = some ⟨b, off, none⟩ ∧ ∀ i (h : i < ps.length), w.cell? ⟨b, off + i * 2, none⟩ = some (.int .i64 ps[i].1) ∧ w.cell? ⟨b, off + i * 2 + 1, none⟩ = some (.int .i64 ps[i].2)
theorem Pts.below {w w' : World} {A : Option Addr} {ps : List (Int × Int)} (hb : Below w.heap.size w w') (h : Pts w A ps) : Pts w' A ps := by
  rcases h with h | ⟨b, off, hA, hc⟩
  · exact .inl h
  · refine .inr ⟨b, off, hA, fun i hi => ?_⟩
    obtain ⟨h1, h2⟩ := hc i hi
    have hlt := World.block_lt_of_cell? w ⟨b, off + i * 2, none⟩ h1
    exact ⟨(hb.cell (p := ⟨b, off + i * 2, none⟩) hlt).trans h1, (hb.cell (p := ⟨b, off + i * 2 + 1, none⟩) hlt).trans h2⟩
theorem Pts.to {w w' : World} {A : Option Addr} {ps : List (Int × Int)} (h : Pts w A ps) (hb : Below w.heap.size w w') : Pts w' A ps := h.below hb
theorem Pts.gw {w : World} {A : Option Addr} {ps : List (Int × Int)} (p : Gw) (h : Pts w A ps) : Pts (gw w p) A ps := h.below (below_gw w p)
theorem Pts.alloc {w : World} {A : Option Addr} {ps : List (Int × Int)} (o : Obj) (h : Pts w A ps) : Pts (w.alloc o) A ps := h.below (Below.alloc (Below.refl _ _) (Nat.le_refl _) o)

theorem Pts.open {w : World} {A : Option Addr} {ps : List (Int × Int)} (h : Pts w A ps) (h0 : 0 < ps.length) : ∃ b off, A = some ⟨b, off, none⟩ ∧ ∀ i (h : i < ps.length), w.cell? ⟨b, off + i * 2, none⟩ = some (.int .i64 ps[i].1) ∧ w.cell? ⟨b, off + i * 2 + 1, none⟩ = some (.int .i64 ps[i].2) := by
  rcases h with h | h
  · rw [h] at h0; simp at h0
  · exact h
/-- Points as cells. -/
def pv : List (Int × Int) → List Value
  | [] => []
  | p :: ps => .int .i64 p.1 :: .int .i64 p.2 :: pv ps
@[simp] theorem pv_length : ∀ ps : List (Int × Int), (pv ps).length = ps.length * 2
  | [] => rfl
  | p :: ps => by simp [pv, pv_length ps]; omega
theorem pv_get : ∀ (ps : List (Int × Int)) (i : Nat) (h : i < ps.length), (pv ps)[i * 2]? = some (.int .i64 ps[i].1) ∧ (pv ps)[i * 2 + 1]? = some (.int .i64 ps[i].2)
  | [], i, h => by simp at h
  | p :: ps, 0, h => by simp [pv]
  | p :: ps, i + 1, h => by
    have := pv_get ps i (by simpa using h)
    rw [show (i + 1) * 2 = i * 2 + 1 + 1 from by omega]
    simpa [pv] using this
theorem pv_set : ∀ (ps : List (Int × Int)) (i : Nat) (x y : Int), ((pv ps).set (i * 2) (.int .i64 x)).set (i * 2 + 1) (.int .i64 y) = pv (ps.set i (x, y))
  | [], i, x, y => by simp [pv]
  | p :: ps, 0, x, y => by simp [pv]
  | p :: ps, i + 1, x, y => by
    rw [show (i + 1) * 2 = i * 2 + 1 + 1 from by omega]
    simp [pv, pv_set ps i x y]
theorem pv_arr (ps : List (Int × Int)) (i : Nat) (h : i < ps.length) : (pv ps).toArray[i * 2]? = some (.int .i64 ps[i].1) ∧ (pv ps).toArray[i * 2 + 1]? = some (.int .i64 ps[i].2) := by simpa using pv_get ps i h
theorem pv_arr_set (ps : List (Int × Int)) (i : Nat) (x y : Int) : ((pv ps).toArray.setIfInBounds (i * 2) (.int .i64 x)).setIfInBounds (i * 2 + 1) (.int .i64 y) = (pv (ps.set i (x, y))).toArray := by simp [← pv_set]
theorem made_pts (n : Nat) : madeCells #[Value.int .i64 0, Value.int .i64 0] (n * 2) = (pv (List.replicate n (0, 0))).toArray := by
  have e : ∀ n : Nat, pv (List.replicate n (0, 0)) = List.replicate (n * 2) (Value.int .i64 0) := fun n => by
    induction n with
    | zero => rfl
    | succ n ih => rw [List.replicate_succ, pv, ih, show (n + 1) * 2 = n * 2 + 1 + 1 from by omega, List.replicate_succ, List.replicate_succ]
  rw [e]; apply Array.ext_getElem?; intro j
  by_cases hj : j < n * 2
  · have h2 : j % 2 = 0 ∨ j % 2 = 1 := by omega
    rcases h2 with h2 | h2 <;> simp [madeCells, hj, h2]
  · simp [madeCells, hj]
theorem pts_of_list {w : World} {b : Nat} {t : TypeId} {ps : List (Int × Int)} (h : blk w b (pv ps).toArray t) : Pts w (some ⟨b, 0, none⟩) ps :=
  .inr ⟨b, 0, rfl, fun i hi => by
    obtain ⟨h1, h2⟩ := pv_arr ps i hi
    rw [Nat.zero_add, blk_cell h, blk_cell h]; exact ⟨h1, h2⟩⟩

/-- A call's end: what it hands back, and that the world has grown. -/
theorem gw_ex {P : Program} {f : FuncId} {args : Array Value} {w : World} {R : Ending → World → Prop} (h : Calls P f args w fun e w' => R e w' ∧ Below w.heap.size w w') : Calls P f args w fun e w' => R e w' ∧ ∃ q, w' = gw w q :=
  h.mono fun e w' ⟨h1, h2⟩ => ⟨h1, gw_of_below h2⟩

/-- What an own row (append's laws) is as cells. -/
theorem owns_cs {w : World} {base : Nat} {e : TypeId} {v : Value} {n : Nat} {xs : List Value} (h : w.ownsRow base e 1 v n xs) : ∃ A cap, v = .slice A n cap ∧ n ≤ cap ∧ cap ≤ maxLen ∧ Cs w A xs := by
  obtain ⟨hl, ⟨rfl, rfl⟩ | ⟨g, cap, cur, rfl, hb, hh, hn, hm, hc, ht⟩⟩ := h
  · exact ⟨none, 0, rfl, Nat.le_refl _, by decide, .inl (List.eq_nil_of_length_eq_zero (by simpa using hl))⟩
  · refine ⟨some ⟨g, 0, none⟩, cap, rfl, hn, hm, Cs.of_blk (b := g) (c := cur) (t := e) hh fun i hi => ?_⟩
    have h1 : (cur.toList.take (n * 1))[i]? = some xs[i] := by rw [ht]; exact List.getElem?_eq_getElem hi
    rw [List.getElem?_take] at h1
    split at h1
    · simpa using h1
    · cases h1

theorem owns_below {w w' : World} {base : Nat} {e : TypeId} {size n : Nat} {v : Value} {xs : List Value} (h : w.ownsRow base e size v n xs) (hb : Below w.heap.size w w') : w'.ownsRow base e size v n xs := by
  obtain ⟨hl, h | ⟨g, cap, cur, rfl, hB, hh, hr⟩⟩ := h
  · exact ⟨hl, .inl h⟩
  · exact ⟨hl, .inr ⟨g, cap, cur, rfl, hB, (hb.block g (Array.getElem?_eq_some_iff.1 hh).1).trans hh, hr⟩⟩
/-- A row that append has built, as a block: numbers, then what the capacity holds behind them. -/
theorem owns_open {w : World} {base : Nat} {e : TypeId} {v : Value} {n : Nat} {ns : List Int} (h : w.ownsRow base e 1 v n (iv ns)) : ns.length = n ∧ ((v = .slice none 0 0 ∧ n = 0) ∨ ∃ g cap rest, v = .slice (some ⟨g, 0, none⟩) n cap ∧ base ≤ g ∧ n ≤ cap ∧ blk w g (iv ns ++ rest).toArray e) := by
  obtain ⟨hl, ⟨rfl, rfl⟩ | ⟨g, cap, cur, rfl, hb, hh, hn, hm, hc, ht⟩⟩ := h
  · exact ⟨by simpa using hl, .inl ⟨rfl, rfl⟩⟩
  · refine ⟨by simpa using hl, .inr ⟨g, cap, cur.toList.drop (n * 1), rfl, hb, hn, ?_⟩⟩
    rw [← ht, List.take_append_drop]
    exact hh
theorem row_cell {w : World} {g : Nat} {e : TypeId} {ns : List Int} {rest : List Value} (h : blk w g (iv ns ++ rest).toArray e) {i : Nat} (hi : i < ns.length) : w.cell? ⟨g, i, none⟩ = some (.int .i64 ns[i]) := by
  rw [blk_cell h]; simp [List.getElem?_append, hi, iv]
theorem row_set (ns : List Int) (rest : List Value) {i : Nat} (hi : i < ns.length) (n : Int) : (iv ns ++ rest).toArray.setIfInBounds i (.int .i64 n) = (iv (ns.set i n) ++ rest).toArray := by
  simp [hi, ← iv_set]
theorem row_cs {w : World} {g : Nat} {e : TypeId} {ns : List Int} {rest : List Value} (h : blk w g (iv ns ++ rest).toArray e) : Ints w (some ⟨g, 0, none⟩) ns :=
  Cs.of_blk h fun i hi => by
    have hi' : i < ns.length := by simpa using hi
    simp [List.getElem?_append, hi', iv]

/-- 'out = append(out, y)', out nil or the call's own, elements of one cell. -/
theorem wpList_app1 {P : Program} {w : World} {ops : Array Oper} {rest : List Oper} {o : Oper} {a : Act} {Q : Exit → Act → World → Prop} (hg : o.guard = none) (s x : Operand) (t : TypeId)
    (ho : o.op = .call { callee := .builtin .append, args := #[s, x], argTypes := #[t, t] })
    (B : Nat) (e : TypeId) (i : TypeInfo) (z : Value) (bytes : Nat) (ht : P.underlying t = some (.slice e)) (hi : P.info? e = some i) (hz : i.zero = some z) (hsize : i.size = 1) (hby : i.bytes = bytes) (hzs : z.cells.size = 1)
    (v : Value) (n : Nat) (xs : List Value) (hs : a.eval s = v) (hown : w.ownsRow B e 1 v n xs) (b : Nat) (y : Value) (hx : a.eval x = .slice (some ⟨b, 0, none⟩) 1 1) (hy : w.cell? ⟨b, 0, none⟩ = some y) (h1 : y.oneCell' = true)
    (h63 : n + 1 ≤ maxLen) (hbytes : (n + 1) * bytes ≤ 140737488355328) (hB : B ≤ w.heap.size)
    (h : ∀ v' w', w'.ownsRow B e 1 v' (n + 1) (xs ++ [y]) → Below B w w' → wpList P ops Q rest (a.put o.dst v') w') : wpList P ops Q (o :: rest) a w := by
  refine wpList_append_own w hg s x t ho B e i z 1 bytes ht hi hz hsize hby hzs (by decide) v n xs hs hown ⟨b, 0, none⟩ 1 1 [y] hx rfl (fun j u hj => ?_) (fun u hu => ?_) h63 hbytes hB (fun v' w' h2 h3 _ => h v' w' h2 ?_)
  · cases j with
    | zero => simp at hj; subst hj; simpa [Addr.add] using hy
    | succ j => simp at hj
  · simp at hu; subst hu; exact h1
  · refine ⟨h3.os, h3.tape, h3.output, h3.size, fun k hk => h3.block k (by omega) fun hk' => ?_⟩
    obtain ⟨_, ⟨rfl, _⟩ | ⟨g, cap, cur, rfl, hBg, _⟩⟩ := hown
    · simp [Value.ownBlock] at hk'
    · simp [Value.ownBlock] at hk'; omega

/-- 'make([]T, n, m)'. -/
theorem wpList_mk {P : Program} {w : World} {ops : Array Oper} {rest : List Oper} {o : Oper} {a : Act} {Q : Exit → Act → World → Prop}
    (hg : o.guard = none) (l c : Operand) (t : TypeId) (hop : o.op = Op.makeSlice t l c) (e : TypeId) (i : TypeInfo) (z : Value) (zc : Array Value) (hzc : z.cells = zc) (size bytes : Nat) (h1 : P.underlying t = some (.slice e)) (h2 : P.info? e = some i) (h3 : i.zero = some z) (h4 : i.size = size) (h5 : i.bytes = bytes)
    (kl kc : IntKind) (L C : Int) (n m : Nat) (hl : a.eval l = .int kl L) (hc : a.eval c = .int kc C) (hL : L = (n : Int)) (hC : C = (m : Int)) (hnm : n ≤ m) (b2 : bytes * m ≤ 281474976710656) (b3 : m ≤ maxLen)
    (hK : wpList P ops Q rest (a.put o.dst (.slice (some ⟨w.heap.size, 0, none⟩) n m)) (w.alloc (.cells (madeCells zc (m * size)) e))) : wpList P ops Q (o :: rest) a w := by
  refine wpList_plain hg fun K hK' => ?_
  subst hL hC h4 h5 hzc
  have h63 : (m : Int) ≤ 9223372036854775807 := by have h := b3; simp [maxLen] at h; omega
  have hb : (i.bytes : Int) * (m : Int) ≤ 281474976710656 := by
    have h : ((i.bytes * m : Nat) : Int) ≤ 281474976710656 := by omega
    rwa [Int.natCast_mul] at h
  have hr := run_make (P := P) w t e i z h1 h2 h3 kl kc n m (by omega) (by omega) hb h63
  simp only [Int.toNat_natCast] at hr
  unfold Oper.wp
  simp [execOp, hop, hl, hc, hr, Result.andThen]
  exact hK' _ _ hK
theorem made_int (z : Value) (n : Nat) : madeCells #[z] n = (List.replicate n z).toArray := by
  apply Array.ext_getElem?
  intro j
  by_cases hj : j < n
  · simp [madeCells, hj, Nat.mod_one]
  · simp [madeCells, hj]

end Go.Proofs.Ytconfbdnhalmoaa
