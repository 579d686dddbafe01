/- Chapter 23: bodies by value: their cells in memory, new fixtures, append. -/
import Derived.Test.YtdmcdicphohlfaaGreatBkA
import Derived.Test.YtdmcdicphohlfaaGreatCoE
set_option linter.unusedVariables false
set_option linter.unusedSimpArgs false
namespace Go.Proofs.YtdmcdicphohlfaaGreat
open Go.RowKit Fx Go.Maps

theorem bd_cells {V : World} {p : Nat} {b : Bdy} {t : TypeId} (k : blk V p (bdc b).toArray t) : V.cell? ⟨p, 0, none⟩ = some (.int .i64 b.i) ∧ V.cell? ⟨p, 1, none⟩ = some (.int .i64 b.k) ∧ V.cell? ⟨p, 2, none⟩ = some (.int .i64 b.px) ∧ V.cell? ⟨p, 3, none⟩ = some (.int .i64 b.py) ∧ V.cell? ⟨p, 4, none⟩ = some (.int .i64 b.pa) ∧ V.cell? ⟨p, 5, none⟩ = some (.int .i64 b.vx) ∧ V.cell? ⟨p, 6, none⟩ = some (.int .i64 b.vy) ∧ V.cell? ⟨p, 7, none⟩ = some (.int .i64 b.av) ∧ V.cell? ⟨p, 8, none⟩ = some (.int .i64 b.fx) ∧ V.cell? ⟨p, 9, none⟩ = some (.int .i64 b.fy) ∧ V.cell? ⟨p, 10, none⟩ = some (.int .i64 b.tq) ∧ V.cell? ⟨p, 11, none⟩ = some (.int .i64 b.ld) ∧ V.cell? ⟨p, 12, none⟩ = some (.int .i64 b.ad) ∧ V.cell? ⟨p, 13, none⟩ = some (.int .i64 b.gs) ∧ V.cell? ⟨p, 14, none⟩ = some (.bool b.bul) ∧ V.cell? ⟨p, 15, none⟩ = some (.bool b.fix) ∧ V.cell? ⟨p, 16, none⟩ = some (.bool b.nos) ∧ V.cell? ⟨p, 17, none⟩ = some (.bool b.asl) ∧ V.cell? ⟨p, 18, none⟩ = some (.int .i64 b.idl) ∧ V.cell? ⟨p, 19, none⟩ = some (.slice b.A b.fs.length b.cap) := ⟨blk_cell k 0, blk_cell k 1, blk_cell k 2, blk_cell k 3, blk_cell k 4, blk_cell k 5, blk_cell k 6, blk_cell k 7, blk_cell k 8, blk_cell k 9, blk_cell k 10, blk_cell k 11, blk_cell k 12, blk_cell k 13, blk_cell k 14, blk_cell k 15, blk_cell k 16, blk_cell k 17, blk_cell k 18, blk_cell k 19⟩
theorem fx_cells {V : World} {p : Nat} {f : Fxr} {t : TypeId} (k : blk V p (fxc f).toArray t) : V.cell? ⟨p, 0, none⟩ = some (.int .i64 f.K) ∧ V.cell? ⟨p, 1, none⟩ = some (.int .i64 f.R) ∧ V.cell? ⟨p, 2, none⟩ = some (.slice f.A f.ps.length f.cap) ∧ V.cell? ⟨p, 3, none⟩ = some (.int .i64 f.D) ∧ V.cell? ⟨p, 4, none⟩ = some (.int .i64 f.F) ∧ V.cell? ⟨p, 5, none⟩ = some (.int .i64 f.E) ∧ V.cell? ⟨p, 6, none⟩ = some (.bool f.sen) ∧ V.cell? ⟨p, 7, none⟩ = some (.int .i64 f.cat) ∧ V.cell? ⟨p, 8, none⟩ = some (.int .i64 f.msk) ∧ V.cell? ⟨p, 9, none⟩ = some (.int .i64 f.grp) := ⟨blk_cell k 0, blk_cell k 1, blk_cell k 2, blk_cell k 3, blk_cell k 4, blk_cell k 5, blk_cell k 6, blk_cell k 7, blk_cell k 8, blk_cell k 9⟩
theorem fx_range {V : World} {p o : Nat} {f : Fxr} (k : V.rangeAt p o (fxc f)) : V.cell? ⟨p, o, none⟩ = some (.int .i64 f.K) ∧ V.cell? ⟨p, o + 1, none⟩ = some (.int .i64 f.R) ∧ V.cell? ⟨p, o + 2, none⟩ = some (.slice f.A f.ps.length f.cap) ∧ V.cell? ⟨p, o + 3, none⟩ = some (.int .i64 f.D) ∧ V.cell? ⟨p, o + 4, none⟩ = some (.int .i64 f.F) ∧ V.cell? ⟨p, o + 5, none⟩ = some (.int .i64 f.E) ∧ V.cell? ⟨p, o + 6, none⟩ = some (.bool f.sen) ∧ V.cell? ⟨p, o + 7, none⟩ = some (.int .i64 f.cat) ∧ V.cell? ⟨p, o + 8, none⟩ = some (.int .i64 f.msk) ∧ V.cell? ⟨p, o + 9, none⟩ = some (.int .i64 f.grp) := ⟨k 0 _ rfl, k 1 _ rfl, k 2 _ rfl, k 3 _ rfl, k 4 _ rfl, k 5 _ rfl, k 6 _ rfl, k 7 _ rfl, k 8 _ rfl, k 9 _ rfl⟩
theorem rng_blk23 {w : World} {b : Nat} {l : List Value} {t : TypeId} (h : blk w b l.toArray t) : w.rangeAt b 0 l := fun j v hv => by rw [Nat.zero_add, blk_cell h]; simpa using hv
theorem bd_one (f : Bdy) : ∀ u ∈ bdc f, u.oneCell' = true := fun u hu => by
  simp [bdc] at hu
  rcases hu with rfl | rfl | rfl | rfl | rfl | rfl | rfl | rfl | rfl | rfl | rfl | rfl | rfl | rfl | rfl | rfl | rfl | rfl | rfl | rfl <;> rfl
theorem fx_one (f : Fxr) : ∀ u ∈ fxc f, u.oneCell' = true := fun u hu => by
  simp [fxc] at hu
  rcases hu with rfl | rfl | rfl | rfl | rfl | rfl | rfl | rfl | rfl | rfl <;> rfl
theorem bd_all (f : Bdy) : (bdc f).all (·.oneCell') = true := List.all_eq_true.2 (bd_one f)
theorem fx_all (f : Fxr) : (fxc f).all (·.oneCell') = true := List.all_eq_true.2 (fx_one f)
theorem fxc_len (f : Fxr) : (fxc f).length = 10 := rfl
theorem bd_size : (Tryz.prog.info? 29).map (·.size) = some 20 := by kernel_rfl
theorem fx_size : (Tryz.prog.info? 35).map (·.size) = some 10 := by kernel_rfl
theorem bd_sizeC (f : Bdy) : (Tryz.prog.info? 29).map (·.size) = some (bdc f).length := by rw [bdc_len]; exact bd_size
theorem fx_sizeC (f : Fxr) : (Tryz.prog.info? 35).map (·.size) = some (fxc f).length := by rw [fxc_len]; exact fx_size
theorem info_fx : (Tryz.prog.info? 35).map (fun i => (i.zero, i.size, i.bytes)) = some (some (.agg #[.int .i64 0, .int .i64 0, .slice none 0 0, .int .i64 0, .int .i64 0, .int .i64 0, .bool false, .int .i64 0, .int .i64 0, .int .i64 0]), 10, 96) := by kernel_rfl

theorem wpList_app23 {P : Program} {w : World} {ops : Array Oper} {rest : List Oper} {o : Oper} {a : Act} {Q : Exit → Act → World → Prop} (hg : o.guard = none) (s x : Operand) (t : TypeId)
    (ho : o.op = .call { callee := .builtin .append, args := #[s, x], argTypes := #[t, t] })
    (B : Nat) (e : TypeId) (i : TypeInfo) (z : Value) (sz bytes : Nat) (ht : P.underlying t = some (.slice e)) (hi : P.info? e = some i) (hz : i.zero = some z) (hsize : i.size = sz) (hby : i.bytes = bytes) (hzs : z.cells.size = sz) (hsz : 0 < sz)
    (v : Value) (n : Nat) (xs : List Value) (hs : a.eval s = v) (hown : w.ownsRow B e sz v n xs) (b : Nat) (ys : List Value) (te : TypeId) (hx : a.eval x = .slice (some ⟨b, 0, none⟩) 1 1) (hyl : ys.length = sz) (hy : blk w b ys.toArray te) (h1 : ∀ u ∈ ys, u.oneCell' = true)
    (h63 : n + 1 ≤ maxLen) (hbytes : (n + 1) * bytes ≤ 140737488355328) (hB : B ≤ w.heap.size)
    (h : ∀ v' w', w'.ownsRow B e sz v' (n + 1) (xs ++ ys) → Below B w w' → w.grownBy w' v.ownBlock → (v'.ownBlock = v.ownBlock ∨ v'.ownBlock = some w.heap.size) → wpList P ops Q rest (a.put o.dst v') w') : wpList P ops Q (o :: rest) a w := by
  refine wpList_append_own_at w hg s x t ho B e i z sz bytes ht hi hz hsize hby hzs hsz v n xs hs hown ⟨b, 0, none⟩ 1 1 ys hx (by omega) (fun j u hj => ?_) h1 h63 hbytes hB (fun v' w' h2 h3 _ h5 => h v' w' h2 ?_ h3 h5)
  · have hlt := (List.getElem?_eq_some_iff.1 hj).1
    have e : Addr.add ⟨b, 0, none⟩ j = ⟨b, j, none⟩ := by
      unfold Addr.add; split
      · rename_i h0; rw [h0]
      · simp
    rw [e, blk_cell hy]; simpa using hj
  · refine ⟨h3.os, h3.tape, h3.output, h3.size, fun k hk => h3.block k (by omega) fun hk' => ?_⟩
    obtain ⟨_, ⟨rfl, _⟩ | ⟨g, cap, cur, rfl, hBg, _⟩⟩ := hown
    · simp [Value.ownBlock] at hk'
    · simp [Value.ownBlock] at hk'; omega


theorem owns_grown23 {w w' : World} {row : Option Nat} {B k n : Nat} {e : TypeId} {v : Value} {xs : List Value} (h : w.ownsRow B e k v n xs) (hg : w.grownBy w' row) (hne : row = none ∨ v.ownBlock ≠ row) : w'.ownsRow B e k v n xs :=
  owns_but (S := fun k => row = some k) h ⟨hg.os, hg.tape, hg.output, hg.size, fun k hk hn => hg.block k hk (fun e => hn e.symm)⟩ fun k hk hh => by
    rcases hne with h1 | h1
    · rw [h1] at hh; cases hh
    · exact h1 (hk.trans hh.symm)

theorem fxs_at23 {w : World} {A : Option Addr} {fs : List Fxr} (h : Fxs w A fs) {i : Nat} (hi : i < fs.length) : ∃ b off, A = some ⟨b, off, none⟩ ∧ fxQ w (fxc fs[i]) fs[i] ∧ ∀ w', Below w.heap.size w w' → older b w' = true ∧ w'.rangeAt b (off + i * 10) (fxc fs[i]) := by
  rcases h with h | ⟨b, off, rfl, hc⟩
  · rw [h] at hi; simp at hi
  · obtain ⟨cs, hl, k, hq⟩ := hc i hi
    obtain rfl : cs = fxc fs[i] := hq.1
    have hlt : b < w.heap.size := World.block_lt_of_cell? w ⟨b, off + i * 10 + 0, none⟩ (show _ = some (Value.int .i64 fs[i].K) from k 0 (by decide))
    exact ⟨b, off, rfl, hq, fun w' hb => ⟨(by have := hb.size; simp [older]; omega), fun j v hv => (hb.cell (p := ⟨b, off + i * 10 + j, none⟩) hlt).trans ((k j (by have := (List.getElem?_eq_some_iff.1 hv).1; exact this)).trans hv)⟩⟩

def BdIn (w : World) (b : Bdy) : Prop := Fxs w b.A b.fs ∧ (b.A = none → b.cap = 0) ∧ b.fs.length ≤ b.cap ∧ b.cap ≤ maxLen
theorem BdIn.to {w w' : World} {b : Bdy} (h : BdIn w b) (hb : Below w.heap.size w w') : BdIn w' b := ⟨Fxs.to h.1 hb, h.2⟩
theorem bdq_in {w : World} {cs : List Value} {b : Bdy} (h : bdQ w cs b) : BdIn w b := h.2.2

def FxNew (w : World) (B : Nat) (v : Value) (fs : List Fxr) : Prop :=
  w.ownsRow B 35 10 v fs.length (fs.flatMap fxc) ∧ ∀ f ∈ fs, w.ownsRow B 24 2 (.slice f.A f.ps.length f.cap) f.ps.length (pv f.ps) ∧ ∀ g, v.ownBlock = some g → (Value.slice f.A f.ps.length f.cap).ownBlock ≠ some g
theorem FxNew.nil (w : World) (B : Nat) : FxNew w B (.slice none 0 0) [] := ⟨World.ownsRow_nil _ _ _ _, fun f hf => by cases hf⟩
theorem FxNew.to {w w' : World} {B : Nat} {v : Value} {fs : List Fxr} (h : FxNew w B v fs) (hb : Below w.heap.size w w') : FxNew w' B v fs :=
  ⟨owns_below h.1 hb, fun f hf => ⟨owns_below (h.2 f hf).1 hb, (h.2 f hf).2⟩⟩
theorem FxNew.mem {w : World} {B : Nat} {v : Value} {fs : List Fxr} (h : FxNew w B v fs) : ∃ A cap, v = .slice A fs.length cap ∧ Fxs w A fs ∧ (A = none → cap = 0) ∧ fs.length ≤ cap ∧ cap ≤ maxLen := by
  obtain ⟨A, cap, h1, _, h3, h4, h5, h6⟩ := owns_els (c := fxc) fxc_len (by decide) h.1
  refine ⟨A, cap, h1, ?_, h6, h3, h4⟩
  rcases h5 with h5 | ⟨b, off, rfl, hc⟩
  · exact .inl h5
  · refine .inr ⟨b, off, rfl, fun i hi => ?_⟩
    obtain ⟨cs, hl, k, rfl⟩ := hc i hi
    obtain ⟨A2, cap2, e, h7, h8, h9, h10, _⟩ := own_fresh (h.2 _ (List.getElem_mem hi)).1
    obtain ⟨rfl, rfl⟩ : fs[i].A = A2 ∧ fs[i].cap = cap2 := by simpa using e
    exact ⟨_, hl, k, rfl, h10, h9, h7, h8⟩
theorem FxNew.weaken {w : World} {B C : Nat} {v : Value} {fs : List Fxr} (h : FxNew w B v fs) (hc : C ≤ B) : FxNew w C v fs := by
  have lw : ∀ {e : TypeId} {k n : Nat} {v : Value} {xs : List Value}, w.ownsRow B e k v n xs → w.ownsRow C e k v n xs := fun h => by
    obtain ⟨h1, h2 | ⟨g, cap, cur, e, hB, r⟩⟩ := h
    · exact ⟨h1, .inl h2⟩
    · exact ⟨h1, .inr ⟨g, cap, cur, e, Nat.le_trans hc hB, r⟩⟩
  exact ⟨lw h.1, fun f hf => ⟨lw (h.2 f hf).1, (h.2 f hf).2⟩⟩
theorem owns_in {w : World} {B k n g : Nat} {e : TypeId} {v : Value} {xs : List Value} (h : w.ownsRow B e k v n xs) (hg : v.ownBlock = some g) : g < w.heap.size := by
  obtain ⟨_, ⟨rfl, _⟩ | ⟨g', cap, cur, rfl, hB, hh, _⟩⟩ := h
  · simp [Value.ownBlock] at hg
  · simp [Value.ownBlock] at hg; subst hg; exact (Array.getElem?_eq_some_iff.1 hh).1
theorem FxNew.snoc {w w' : World} {B : Nat} {v v' : Value} {fs : List Fxr} {f : Fxr} (h : FxNew w B v fs) (hf : w.ownsRow B 24 2 (.slice f.A f.ps.length f.cap) f.ps.length (pv f.ps)) (hne : ∀ g, v.ownBlock = some g → (Value.slice f.A f.ps.length f.cap).ownBlock ≠ some g)
    (hown : w'.ownsRow B 35 10 v' (fs.length + 1) (fs.flatMap fxc ++ fxc f)) (hg : w.grownBy w' v.ownBlock) (ho : v'.ownBlock = v.ownBlock ∨ v'.ownBlock = some w.heap.size) : FxNew w' B v' (fs ++ [f]) := by
  have key : ∀ x : Fxr, (w.ownsRow B 24 2 (.slice x.A x.ps.length x.cap) x.ps.length (pv x.ps) ∧ ∀ g, v.ownBlock = some g → (Value.slice x.A x.ps.length x.cap).ownBlock ≠ some g) → (w'.ownsRow B 24 2 (.slice x.A x.ps.length x.cap) x.ps.length (pv x.ps) ∧ ∀ g, v'.ownBlock = some g → (Value.slice x.A x.ps.length x.cap).ownBlock ≠ some g) := fun x hx => by
    refine ⟨owns_grown23 hx.1 hg ?_, fun g hg2 e => ?_⟩
    · cases hv : v.ownBlock with
      | none => exact .inl rfl
      | some g => exact .inr (hx.2 g hv)
    · rcases ho with e2 | e2
      · exact hx.2 g (e2 ▸ hg2) e
      · have := owns_in hx.1 e
        rw [hg2] at e2; cases e2; omega
  refine ⟨?_, fun x hx => ?_⟩
  · rw [List.length_append, List.flatMap_append]; simpa using hown
  · rcases List.mem_append.1 hx with hx | hx
    · exact key x (h.2 x hx)
    · simp at hx; subst hx; exact key x ⟨hf, hne⟩

def BdR (w : World) (b : Bdy) (e : Ending) (w' : World) : Prop := (∃ A cap fs, e = .returned (.agg (bdc { b with A := A, cap := cap, fs := fs }).toArray) ∧ fs.map fx0 = b.fs.map fx0 ∧ FxNew w' w.heap.size (.slice A fs.length cap) fs) ∧ Below w.heap.size w w'
theorem bd0_with {b : Bdy} {A : Option Addr} {cap : Nat} {fs : List Fxr} (h : fs.map fx0 = b.fs.map fx0) : bd0 { b with A := A, cap := cap, fs := fs } = bd0 b := by unfold bd0; dsimp only; rw [h]

def BdW (b : Bdy) : Prop := i64k b.i ∧ i64k b.pa ∧ i64k b.fy ∧ i64k b.tq ∧ i64k b.ad ∧ i64k b.idl
def BdArg (w : World) (b : Bdy) : Prop := BdW b ∧ BdIn w b
section
open Go.ChangeShapes Go.WideShapes Go.Deep
variable {H : Type} {enc : TypeId × Value → H} {w : World} {base B : Nat} {spare : Nat → Bool} {held : Bool}

theorem rd_BdA {fuel : Nat} {cs : List Value} {x : DataW H × List MemPlace} (h : DataW.trod enc Tryz.prog w base spare held fuel 29 cs = some x) : ∃ f : Bdy, cs = bdc f ∧ BdArg w f := by
  have hl := (rd_struct Tryz.underlying29 h).1
  rw [show Tryz.prog.cellsOf 29 = 20 from by kernel_rfl] at hl
  obtain ⟨c0, r0, rfl, hl_0⟩ := cons_of hl
  obtain ⟨c1, r1, rfl, hl_1⟩ := cons_of hl_0
  obtain ⟨c2, r2, rfl, hl_2⟩ := cons_of hl_1
  obtain ⟨c3, r3, rfl, hl_3⟩ := cons_of hl_2
  obtain ⟨c4, r4, rfl, hl_4⟩ := cons_of hl_3
  obtain ⟨c5, r5, rfl, hl_5⟩ := cons_of hl_4
  obtain ⟨c6, r6, rfl, hl_6⟩ := cons_of hl_5
  obtain ⟨c7, r7, rfl, hl_7⟩ := cons_of hl_6
  obtain ⟨c8, r8, rfl, hl_8⟩ := cons_of hl_7
  obtain ⟨c9, r9, rfl, hl_9⟩ := cons_of hl_8
  obtain ⟨c10, r10, rfl, hl_10⟩ := cons_of hl_9
  obtain ⟨c11, r11, rfl, hl_11⟩ := cons_of hl_10
  obtain ⟨c12, r12, rfl, hl_12⟩ := cons_of hl_11
  obtain ⟨c13, r13, rfl, hl_13⟩ := cons_of hl_12
  obtain ⟨c14, r14, rfl, hl_14⟩ := cons_of hl_13
  obtain ⟨c15, r15, rfl, hl_15⟩ := cons_of hl_14
  obtain ⟨c16, r16, rfl, hl_16⟩ := cons_of hl_15
  obtain ⟨c17, r17, rfl, hl_17⟩ := cons_of hl_16
  obtain ⟨c18, r18, rfl, hl_18⟩ := cons_of hl_17
  obtain ⟨c19, r19, rfl, hl_19⟩ := cons_of hl_18
  obtain rfl := List.eq_nil_of_length_eq_zero hl_19
  obtain ⟨-, fs1⟩ := rd_struct Tryz.underlying29 h
  obtain ⟨_, _, g2_⟩ := fs1 0 _ rfl
  have g2 : DataW.trod enc Tryz.prog w base spare held _ 3 (List.take (Tryz.prog.cellsOf 3) (List.drop 0 [c0, c1, c2, c3, c4, c5, c6, c7, c8, c9, c10, c11, c12, c13, c14, c15, c16, c17, c18, c19])) = _ := g2_
  clear g2_
  rw [show Tryz.prog.cellsOf 3 = 1 from by kernel_rfl] at g2
  replace g2 := (show DataW.trod enc Tryz.prog w base spare held _ 3 [c0] = _ from g2)
  obtain ⟨a3, ea3, wa3⟩ := rd_intw20 Tryz.underlying3 g2
  obtain rfl : c0 = _ := by simpa using ea3
  obtain ⟨_, _, g4_⟩ := fs1 1 _ rfl
  have g4 : DataW.trod enc Tryz.prog w base spare held _ 22 (List.take (Tryz.prog.cellsOf 22) (List.drop 1 [Value.int .i64 a3, c1, c2, c3, c4, c5, c6, c7, c8, c9, c10, c11, c12, c13, c14, c15, c16, c17, c18, c19])) = _ := g4_
  clear g4_
  rw [show Tryz.prog.cellsOf 22 = 1 from by kernel_rfl] at g4
  replace g4 := (show DataW.trod enc Tryz.prog w base spare held _ 22 [c1] = _ from g4)
  obtain ⟨a5, ea5, wa5⟩ := rd_intw20 Tryz.underlying22 g4
  obtain rfl : c1 = _ := by simpa using ea5
  obtain ⟨_, _, g6_⟩ := fs1 2 _ rfl
  have g6 : DataW.trod enc Tryz.prog w base spare held _ 26 (List.take (Tryz.prog.cellsOf 26) (List.drop 2 [Value.int .i64 a3, Value.int .i64 a5, c2, c3, c4, c5, c6, c7, c8, c9, c10, c11, c12, c13, c14, c15, c16, c17, c18, c19])) = _ := g6_
  clear g6_
  rw [show Tryz.prog.cellsOf 26 = 3 from by kernel_rfl] at g6
  replace g6 := (show DataW.trod enc Tryz.prog w base spare held _ 26 [c2, c3, c4] = _ from g6)
  obtain ⟨-, fs7⟩ := rd_struct Tryz.underlying26 g6
  obtain ⟨_, _, g8_⟩ := fs7 0 _ rfl
  have g8 : DataW.trod enc Tryz.prog w base spare held _ 24 (List.take (Tryz.prog.cellsOf 24) (List.drop 0 [c2, c3, c4])) = _ := g8_
  clear g8_
  rw [show Tryz.prog.cellsOf 24 = 2 from by kernel_rfl] at g8
  replace g8 := (show DataW.trod enc Tryz.prog w base spare held _ 24 [c2, c3] = _ from g8)
  obtain ⟨-, fs9⟩ := rd_struct Tryz.underlying24 g8
  obtain ⟨_, _, g10_⟩ := fs9 0 _ rfl
  have g10 : DataW.trod enc Tryz.prog w base spare held _ 3 (List.take (Tryz.prog.cellsOf 3) (List.drop 0 [c2, c3])) = _ := g10_
  clear g10_
  rw [show Tryz.prog.cellsOf 3 = 1 from by kernel_rfl] at g10
  replace g10 := (show DataW.trod enc Tryz.prog w base spare held _ 3 [c2] = _ from g10)
  obtain ⟨a11, ea11, wa11⟩ := rd_intw20 Tryz.underlying3 g10
  obtain rfl : c2 = _ := by simpa using ea11
  obtain ⟨_, _, g12_⟩ := fs9 1 _ rfl
  have g12 : DataW.trod enc Tryz.prog w base spare held _ 3 (List.take (Tryz.prog.cellsOf 3) (List.drop 1 [Value.int .i64 a11, c3])) = _ := g12_
  clear g12_
  rw [show Tryz.prog.cellsOf 3 = 1 from by kernel_rfl] at g12
  replace g12 := (show DataW.trod enc Tryz.prog w base spare held _ 3 [c3] = _ from g12)
  obtain ⟨a13, ea13, wa13⟩ := rd_intw20 Tryz.underlying3 g12
  obtain rfl : c3 = _ := by simpa using ea13
  obtain ⟨_, _, g14_⟩ := fs7 1 _ rfl
  have g14 : DataW.trod enc Tryz.prog w base spare held _ 3 (List.take (Tryz.prog.cellsOf 3) (List.drop 2 [Value.int .i64 a11, Value.int .i64 a13, c4])) = _ := g14_
  clear g14_
  rw [show Tryz.prog.cellsOf 3 = 1 from by kernel_rfl] at g14
  replace g14 := (show DataW.trod enc Tryz.prog w base spare held _ 3 [c4] = _ from g14)
  obtain ⟨a15, ea15, wa15⟩ := rd_intw20 Tryz.underlying3 g14
  obtain rfl : c4 = _ := by simpa using ea15
  obtain ⟨_, _, g16_⟩ := fs1 3 _ rfl
  have g16 : DataW.trod enc Tryz.prog w base spare held _ 24 (List.take (Tryz.prog.cellsOf 24) (List.drop 5 [Value.int .i64 a3, Value.int .i64 a5, Value.int .i64 a11, Value.int .i64 a13, Value.int .i64 a15, c5, c6, c7, c8, c9, c10, c11, c12, c13, c14, c15, c16, c17, c18, c19])) = _ := g16_
  clear g16_
  rw [show Tryz.prog.cellsOf 24 = 2 from by kernel_rfl] at g16
  replace g16 := (show DataW.trod enc Tryz.prog w base spare held _ 24 [c5, c6] = _ from g16)
  obtain ⟨-, fs17⟩ := rd_struct Tryz.underlying24 g16
  obtain ⟨_, _, g18_⟩ := fs17 0 _ rfl
  have g18 : DataW.trod enc Tryz.prog w base spare held _ 3 (List.take (Tryz.prog.cellsOf 3) (List.drop 0 [c5, c6])) = _ := g18_
  clear g18_
  rw [show Tryz.prog.cellsOf 3 = 1 from by kernel_rfl] at g18
  replace g18 := (show DataW.trod enc Tryz.prog w base spare held _ 3 [c5] = _ from g18)
  obtain ⟨a19, ea19, wa19⟩ := rd_intw20 Tryz.underlying3 g18
  obtain rfl : c5 = _ := by simpa using ea19
  obtain ⟨_, _, g20_⟩ := fs17 1 _ rfl
  have g20 : DataW.trod enc Tryz.prog w base spare held _ 3 (List.take (Tryz.prog.cellsOf 3) (List.drop 1 [Value.int .i64 a19, c6])) = _ := g20_
  clear g20_
  rw [show Tryz.prog.cellsOf 3 = 1 from by kernel_rfl] at g20
  replace g20 := (show DataW.trod enc Tryz.prog w base spare held _ 3 [c6] = _ from g20)
  obtain ⟨a21, ea21, wa21⟩ := rd_intw20 Tryz.underlying3 g20
  obtain rfl : c6 = _ := by simpa using ea21
  obtain ⟨_, _, g22_⟩ := fs1 4 _ rfl
  have g22 : DataW.trod enc Tryz.prog w base spare held _ 3 (List.take (Tryz.prog.cellsOf 3) (List.drop 7 [Value.int .i64 a3, Value.int .i64 a5, Value.int .i64 a11, Value.int .i64 a13, Value.int .i64 a15, Value.int .i64 a19, Value.int .i64 a21, c7, c8, c9, c10, c11, c12, c13, c14, c15, c16, c17, c18, c19])) = _ := g22_
  clear g22_
  rw [show Tryz.prog.cellsOf 3 = 1 from by kernel_rfl] at g22
  replace g22 := (show DataW.trod enc Tryz.prog w base spare held _ 3 [c7] = _ from g22)
  obtain ⟨a23, ea23, wa23⟩ := rd_intw20 Tryz.underlying3 g22
  obtain rfl : c7 = _ := by simpa using ea23
  obtain ⟨_, _, g24_⟩ := fs1 5 _ rfl
  have g24 : DataW.trod enc Tryz.prog w base spare held _ 24 (List.take (Tryz.prog.cellsOf 24) (List.drop 8 [Value.int .i64 a3, Value.int .i64 a5, Value.int .i64 a11, Value.int .i64 a13, Value.int .i64 a15, Value.int .i64 a19, Value.int .i64 a21, Value.int .i64 a23, c8, c9, c10, c11, c12, c13, c14, c15, c16, c17, c18, c19])) = _ := g24_
  clear g24_
  rw [show Tryz.prog.cellsOf 24 = 2 from by kernel_rfl] at g24
  replace g24 := (show DataW.trod enc Tryz.prog w base spare held _ 24 [c8, c9] = _ from g24)
  obtain ⟨-, fs25⟩ := rd_struct Tryz.underlying24 g24
  obtain ⟨_, _, g26_⟩ := fs25 0 _ rfl
  have g26 : DataW.trod enc Tryz.prog w base spare held _ 3 (List.take (Tryz.prog.cellsOf 3) (List.drop 0 [c8, c9])) = _ := g26_
  clear g26_
  rw [show Tryz.prog.cellsOf 3 = 1 from by kernel_rfl] at g26
  replace g26 := (show DataW.trod enc Tryz.prog w base spare held _ 3 [c8] = _ from g26)
  obtain ⟨a27, ea27, wa27⟩ := rd_intw20 Tryz.underlying3 g26
  obtain rfl : c8 = _ := by simpa using ea27
  obtain ⟨_, _, g28_⟩ := fs25 1 _ rfl
  have g28 : DataW.trod enc Tryz.prog w base spare held _ 3 (List.take (Tryz.prog.cellsOf 3) (List.drop 1 [Value.int .i64 a27, c9])) = _ := g28_
  clear g28_
  rw [show Tryz.prog.cellsOf 3 = 1 from by kernel_rfl] at g28
  replace g28 := (show DataW.trod enc Tryz.prog w base spare held _ 3 [c9] = _ from g28)
  obtain ⟨a29, ea29, wa29⟩ := rd_intw20 Tryz.underlying3 g28
  obtain rfl : c9 = _ := by simpa using ea29
  obtain ⟨_, _, g30_⟩ := fs1 6 _ rfl
  have g30 : DataW.trod enc Tryz.prog w base spare held _ 3 (List.take (Tryz.prog.cellsOf 3) (List.drop 10 [Value.int .i64 a3, Value.int .i64 a5, Value.int .i64 a11, Value.int .i64 a13, Value.int .i64 a15, Value.int .i64 a19, Value.int .i64 a21, Value.int .i64 a23, Value.int .i64 a27, Value.int .i64 a29, c10, c11, c12, c13, c14, c15, c16, c17, c18, c19])) = _ := g30_
  clear g30_
  rw [show Tryz.prog.cellsOf 3 = 1 from by kernel_rfl] at g30
  replace g30 := (show DataW.trod enc Tryz.prog w base spare held _ 3 [c10] = _ from g30)
  obtain ⟨a31, ea31, wa31⟩ := rd_intw20 Tryz.underlying3 g30
  obtain rfl : c10 = _ := by simpa using ea31
  obtain ⟨_, _, g32_⟩ := fs1 7 _ rfl
  have g32 : DataW.trod enc Tryz.prog w base spare held _ 3 (List.take (Tryz.prog.cellsOf 3) (List.drop 11 [Value.int .i64 a3, Value.int .i64 a5, Value.int .i64 a11, Value.int .i64 a13, Value.int .i64 a15, Value.int .i64 a19, Value.int .i64 a21, Value.int .i64 a23, Value.int .i64 a27, Value.int .i64 a29, Value.int .i64 a31, c11, c12, c13, c14, c15, c16, c17, c18, c19])) = _ := g32_
  clear g32_
  rw [show Tryz.prog.cellsOf 3 = 1 from by kernel_rfl] at g32
  replace g32 := (show DataW.trod enc Tryz.prog w base spare held _ 3 [c11] = _ from g32)
  obtain ⟨a33, ea33, wa33⟩ := rd_intw20 Tryz.underlying3 g32
  obtain rfl : c11 = _ := by simpa using ea33
  obtain ⟨_, _, g34_⟩ := fs1 8 _ rfl
  have g34 : DataW.trod enc Tryz.prog w base spare held _ 3 (List.take (Tryz.prog.cellsOf 3) (List.drop 12 [Value.int .i64 a3, Value.int .i64 a5, Value.int .i64 a11, Value.int .i64 a13, Value.int .i64 a15, Value.int .i64 a19, Value.int .i64 a21, Value.int .i64 a23, Value.int .i64 a27, Value.int .i64 a29, Value.int .i64 a31, Value.int .i64 a33, c12, c13, c14, c15, c16, c17, c18, c19])) = _ := g34_
  clear g34_
  rw [show Tryz.prog.cellsOf 3 = 1 from by kernel_rfl] at g34
  replace g34 := (show DataW.trod enc Tryz.prog w base spare held _ 3 [c12] = _ from g34)
  obtain ⟨a35, ea35, wa35⟩ := rd_intw20 Tryz.underlying3 g34
  obtain rfl : c12 = _ := by simpa using ea35
  obtain ⟨_, _, g36_⟩ := fs1 9 _ rfl
  have g36 : DataW.trod enc Tryz.prog w base spare held _ 3 (List.take (Tryz.prog.cellsOf 3) (List.drop 13 [Value.int .i64 a3, Value.int .i64 a5, Value.int .i64 a11, Value.int .i64 a13, Value.int .i64 a15, Value.int .i64 a19, Value.int .i64 a21, Value.int .i64 a23, Value.int .i64 a27, Value.int .i64 a29, Value.int .i64 a31, Value.int .i64 a33, Value.int .i64 a35, c13, c14, c15, c16, c17, c18, c19])) = _ := g36_
  clear g36_
  rw [show Tryz.prog.cellsOf 3 = 1 from by kernel_rfl] at g36
  replace g36 := (show DataW.trod enc Tryz.prog w base spare held _ 3 [c13] = _ from g36)
  obtain ⟨a37, ea37, wa37⟩ := rd_intw20 Tryz.underlying3 g36
  obtain rfl : c13 = _ := by simpa using ea37
  obtain ⟨_, _, g38_⟩ := fs1 10 _ rfl
  have g38 : DataW.trod enc Tryz.prog w base spare held _ 4 (List.take (Tryz.prog.cellsOf 4) (List.drop 14 [Value.int .i64 a3, Value.int .i64 a5, Value.int .i64 a11, Value.int .i64 a13, Value.int .i64 a15, Value.int .i64 a19, Value.int .i64 a21, Value.int .i64 a23, Value.int .i64 a27, Value.int .i64 a29, Value.int .i64 a31, Value.int .i64 a33, Value.int .i64 a35, Value.int .i64 a37, c14, c15, c16, c17, c18, c19])) = _ := g38_
  clear g38_
  rw [show Tryz.prog.cellsOf 4 = 1 from by kernel_rfl] at g38
  replace g38 := (show DataW.trod enc Tryz.prog w base spare held _ 4 [c14] = _ from g38)
  obtain ⟨a39, ea39⟩ := rd_bool Tryz.underlying4 g38
  obtain rfl : c14 = _ := by simpa using ea39
  obtain ⟨_, _, g40_⟩ := fs1 11 _ rfl
  have g40 : DataW.trod enc Tryz.prog w base spare held _ 4 (List.take (Tryz.prog.cellsOf 4) (List.drop 15 [Value.int .i64 a3, Value.int .i64 a5, Value.int .i64 a11, Value.int .i64 a13, Value.int .i64 a15, Value.int .i64 a19, Value.int .i64 a21, Value.int .i64 a23, Value.int .i64 a27, Value.int .i64 a29, Value.int .i64 a31, Value.int .i64 a33, Value.int .i64 a35, Value.int .i64 a37, Value.bool a39, c15, c16, c17, c18, c19])) = _ := g40_
  clear g40_
  rw [show Tryz.prog.cellsOf 4 = 1 from by kernel_rfl] at g40
  replace g40 := (show DataW.trod enc Tryz.prog w base spare held _ 4 [c15] = _ from g40)
  obtain ⟨a41, ea41⟩ := rd_bool Tryz.underlying4 g40
  obtain rfl : c15 = _ := by simpa using ea41
  obtain ⟨_, _, g42_⟩ := fs1 12 _ rfl
  have g42 : DataW.trod enc Tryz.prog w base spare held _ 4 (List.take (Tryz.prog.cellsOf 4) (List.drop 16 [Value.int .i64 a3, Value.int .i64 a5, Value.int .i64 a11, Value.int .i64 a13, Value.int .i64 a15, Value.int .i64 a19, Value.int .i64 a21, Value.int .i64 a23, Value.int .i64 a27, Value.int .i64 a29, Value.int .i64 a31, Value.int .i64 a33, Value.int .i64 a35, Value.int .i64 a37, Value.bool a39, Value.bool a41, c16, c17, c18, c19])) = _ := g42_
  clear g42_
  rw [show Tryz.prog.cellsOf 4 = 1 from by kernel_rfl] at g42
  replace g42 := (show DataW.trod enc Tryz.prog w base spare held _ 4 [c16] = _ from g42)
  obtain ⟨a43, ea43⟩ := rd_bool Tryz.underlying4 g42
  obtain rfl : c16 = _ := by simpa using ea43
  obtain ⟨_, _, g44_⟩ := fs1 13 _ rfl
  have g44 : DataW.trod enc Tryz.prog w base spare held _ 4 (List.take (Tryz.prog.cellsOf 4) (List.drop 17 [Value.int .i64 a3, Value.int .i64 a5, Value.int .i64 a11, Value.int .i64 a13, Value.int .i64 a15, Value.int .i64 a19, Value.int .i64 a21, Value.int .i64 a23, Value.int .i64 a27, Value.int .i64 a29, Value.int .i64 a31, Value.int .i64 a33, Value.int .i64 a35, Value.int .i64 a37, Value.bool a39, Value.bool a41, Value.bool a43, c17, c18, c19])) = _ := g44_
  clear g44_
  rw [show Tryz.prog.cellsOf 4 = 1 from by kernel_rfl] at g44
  replace g44 := (show DataW.trod enc Tryz.prog w base spare held _ 4 [c17] = _ from g44)
  obtain ⟨a45, ea45⟩ := rd_bool Tryz.underlying4 g44
  obtain rfl : c17 = _ := by simpa using ea45
  obtain ⟨_, _, g46_⟩ := fs1 14 _ rfl
  have g46 : DataW.trod enc Tryz.prog w base spare held _ 3 (List.take (Tryz.prog.cellsOf 3) (List.drop 18 [Value.int .i64 a3, Value.int .i64 a5, Value.int .i64 a11, Value.int .i64 a13, Value.int .i64 a15, Value.int .i64 a19, Value.int .i64 a21, Value.int .i64 a23, Value.int .i64 a27, Value.int .i64 a29, Value.int .i64 a31, Value.int .i64 a33, Value.int .i64 a35, Value.int .i64 a37, Value.bool a39, Value.bool a41, Value.bool a43, Value.bool a45, c18, c19])) = _ := g46_
  clear g46_
  rw [show Tryz.prog.cellsOf 3 = 1 from by kernel_rfl] at g46
  replace g46 := (show DataW.trod enc Tryz.prog w base spare held _ 3 [c18] = _ from g46)
  obtain ⟨a47, ea47, wa47⟩ := rd_intw20 Tryz.underlying3 g46
  obtain rfl : c18 = _ := by simpa using ea47
  obtain ⟨_, _, g48_⟩ := fs1 15 _ rfl
  have g48 : DataW.trod enc Tryz.prog w base spare held _ 27 (List.take (Tryz.prog.cellsOf 27) (List.drop 19 [Value.int .i64 a3, Value.int .i64 a5, Value.int .i64 a11, Value.int .i64 a13, Value.int .i64 a15, Value.int .i64 a19, Value.int .i64 a21, Value.int .i64 a23, Value.int .i64 a27, Value.int .i64 a29, Value.int .i64 a31, Value.int .i64 a33, Value.int .i64 a35, Value.int .i64 a37, Value.bool a39, Value.bool a41, Value.bool a43, Value.bool a45, Value.int .i64 a47, c19])) = _ := g48_
  clear g48_
  rw [show Tryz.prog.cellsOf 27 = 1 from by kernel_rfl] at g48
  replace g48 := (show DataW.trod enc Tryz.prog w base spare held _ 27 [c19] = _ from g48)
  obtain ⟨A49, cap50, l51, e51, hl51, hc51, hp51, hn51⟩ := rd_els 10 (fxQ w) Tryz.underlying27 (by kernel_rfl) (by decide) (fun m ci y hy => rd_Fxr hy) g48
  obtain rfl : c19 = _ := by simpa using e51
  exact ⟨⟨a3, a5, a11, a13, a15, a19, a21, a23, a27, a29, a31, a33, a35, a37, a39, a41, a43, a45, a47, A49, cap50, l51⟩, rfl, ⟨i64_of_wf wa3, i64_of_wf wa15, i64_of_wf wa29, i64_of_wf wa31, i64_of_wf wa35, i64_of_wf wa47⟩, hp51, hn51, hl51, hc51⟩

end

end Go.Proofs.YtdmcdicphohlfaaGreat
