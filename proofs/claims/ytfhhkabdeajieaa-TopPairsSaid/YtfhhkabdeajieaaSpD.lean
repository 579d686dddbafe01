/- Chapter 21: entries, pairs and operations in slices: what their cells say. -/
import Derived.Test.YtfhhkabdeajieaaSpA
import Derived.Test.YtfhhkabdeajieaaChecked
set_option linter.unusedVariables false
namespace Go.Proofs.Ytfhhkabdeajieaa
open Go.RowKit Fx

def ec (e : Int × Bx) : List Value := [.int .i64 e.1, .int .i64 e.2.x0, .int .i64 e.2.y0, .int .i64 e.2.x1, .int .i64 e.2.y1]
def ev (l : Bxs) : List Value := l.flatMap ec
theorem ec_len (e : Int × Bx) : (ec e).length = 5 := rfl
theorem ev_len (l : Bxs) : (ev l).length = l.length * 5 := flat_len ec_len l
theorem ev_snoc (l : Bxs) (e : Int × Bx) : ev (l ++ [e]) = ev l ++ ec e := by simp [ev]
abbrev En := Int × Bx
/-- A slice of entries, an argument. -/
abbrev Enrs (w : World) (A : Option Addr) (l : List En) : Prop := Els w 5 (fun cs f => cs = ec f ∧ i64k f.1) A l
/-- A slice of entries. -/
abbrev Ents (w : World) (A : Option Addr) (l : List En) : Prop := Els w 5 (fun cs f => cs = ec f) A l
theorem Ents.to {w w' : World} {A : Option Addr} {l : List En} (h : Ents w A l) (hb : Below w.heap.size w w') : Ents w' A l := Els.to h (by decide) (fun _ _ h => h) hb
theorem Enrs.to {w w' : World} {A : Option Addr} {l : List En} (h : Enrs w A l) (hb : Below w.heap.size w w') : Enrs w' A l := Els.to h (by decide) (fun _ _ h => h) hb
theorem Enrs.ents {w : World} {A : Option Addr} {l : List En} (h : Enrs w A l) : Ents w A l := Els.to h (by decide) (fun _ _ h => h.1) (Below.refl _ _)
theorem Enrs.keys {w : World} {A : Option Addr} {l : List En} (h : Enrs w A l) : ∀ e ∈ l, i64k e.1 := fun e he => by
  rcases h with h | ⟨b, off, rfl, hc⟩
  · rw [h] at he; simp at he
  · obtain ⟨i, hi, rfl⟩ := List.getElem_of_mem he
    obtain ⟨cs, _, _, _, hk⟩ := hc i hi
    exact hk
theorem ents_open {w : World} {A : Option Addr} {l : List En} (h : Ents w A l) (h0 : 0 < l.length) : ∃ b off, A = some ⟨b, off, none⟩ ∧ b < w.heap.size ∧ ∀ i (h : i < l.length) w', Below w.heap.size w w' → older b w' = true ∧ w'.cell? ⟨b, off + i * 5, none⟩ = some (.int .i64 l[i].1) ∧ w'.cell? ⟨b, off + i * 5 + 1, none⟩ = some (.int .i64 l[i].2.x0) ∧ w'.cell? ⟨b, off + i * 5 + 2, none⟩ = some (.int .i64 l[i].2.y0) ∧ w'.cell? ⟨b, off + i * 5 + 3, none⟩ = some (.int .i64 l[i].2.x1) ∧ w'.cell? ⟨b, off + i * 5 + 4, none⟩ = some (.int .i64 l[i].2.y1) := by
  rcases h with h | ⟨b, off, rfl, hc⟩
  · rw [h] at h0; simp at h0
  · have hlt : b < w.heap.size := by
      obtain ⟨cs, _, k, rfl⟩ := hc 0 h0
      exact World.block_lt_of_cell? w ⟨b, off + 0 * 5 + 0, none⟩ (show _ = some (Value.int .i64 l[0].1) from k 0 (by decide))
    refine ⟨b, off, rfl, hlt, fun i hi w' hb => ?_⟩
    obtain ⟨cs, _, k, rfl⟩ := hc i hi
    exact ⟨(by have := hb.size; simp [older]; omega), (hb.cell (p := ⟨b, off + i * 5 + 0, none⟩) hlt).trans (k 0 (by decide)), (hb.cell (p := ⟨b, off + i * 5 + 1, none⟩) hlt).trans (k 1 (by decide)), (hb.cell (p := ⟨b, off + i * 5 + 2, none⟩) hlt).trans (k 2 (by decide)), (hb.cell (p := ⟨b, off + i * 5 + 3, none⟩) hlt).trans (k 3 (by decide)), (hb.cell (p := ⟨b, off + i * 5 + 4, none⟩) hlt).trans (k 4 (by decide))⟩
/-- An own row of entries. -/
theorem owns_ents {w : World} {B : Nat} {e : TypeId} {v : Value} {n : Nat} {l : List En} (h : w.ownsRow B e 5 v n (ev l)) : ∃ A cap, v = .slice A l.length cap ∧ n = l.length ∧ l.length ≤ cap ∧ cap ≤ maxLen ∧ Ents w A l := by
  obtain ⟨A, cap, h1, h2, h3, h4, h5, _⟩ := owns_els (c := ec) ec_len (by decide) h
  exact ⟨A, cap, h1, h2, h3, h4, h5⟩

def prc (p : Int × Int) : List Value := [.int .i64 p.1, .int .i64 p.2]
/-- A slice of pairs, an argument. -/
abbrev Pr := Int × Int
abbrev Prrs (w : World) (A : Option Addr) (l : List Pr) : Prop := Els w 2 (fun cs f => cs = prc f ∧ i64k f.1 ∧ i64k f.2) A l
theorem Prrs.to {w w' : World} {A : Option Addr} {l : List Pr} (h : Prrs w A l) (hb : Below w.heap.size w w') : Prrs w' A l := Els.to h (by decide) (fun _ _ h => h) hb
theorem Prrs.keys {w : World} {A : Option Addr} {l : List Pr} (h : Prrs w A l) : ∀ e ∈ l, i64k e.1 ∧ i64k e.2 := fun e he => by
  rcases h with h | ⟨b, off, rfl, hc⟩
  · rw [h] at he; simp at he
  · obtain ⟨i, hi, rfl⟩ := List.getElem_of_mem he
    obtain ⟨cs, _, _, _, hk⟩ := hc i hi
    exact hk
theorem Prrs.pts {w : World} {A : Option Addr} {l : List Pr} (h : Prrs w A l) : Pts w A l := by
  rcases h with h | ⟨b, off, rfl, hc⟩
  · exact .inl h
  · refine .inr ⟨b, off, rfl, fun i hi => ?_⟩
    obtain ⟨cs, _, k, rfl, _⟩ := hc i hi
    exact ⟨k 0 (by decide), k 1 (by decide)⟩

/-- An operation of TopPairs. -/
structure TopD where
  k : Int
  i : Int
  x : Bx
  deriving DecidableEq, Inhabited
def toc (f : TopD) : List Value := [.int .u8 f.k, .int .i64 f.i, .int .i64 f.x.x0, .int .i64 f.x.y0, .int .i64 f.x.x1, .int .i64 f.x.y1]
abbrev Tops (w : World) (A : Option Addr) (l : List TopD) : Prop := Els w 6 (fun cs f => cs = toc f ∧ i64k f.i ∧ 0 ≤ f.k ∧ f.k < 256) A l
theorem Tops.to {w w' : World} {A : Option Addr} {l : List TopD} (h : Tops w A l) (hb : Below w.heap.size w w') : Tops w' A l := Els.to h (by decide) (fun _ _ h => h) hb
theorem tops_open {w : World} {A : Option Addr} {l : List TopD} (h : Tops w A l) (h0 : 0 < l.length) : ∃ b off, A = some ⟨b, off, none⟩ ∧ b < w.heap.size ∧ ∀ i (h : i < l.length), (i64k l[i].i ∧ 0 ≤ l[i].k ∧ l[i].k < 256) ∧ ∀ w', Below w.heap.size w w' → older b w' = true ∧ w'.cell? ⟨b, off + i * 6, none⟩ = some (.int .u8 l[i].k) ∧ w'.cell? ⟨b, off + i * 6 + 1, none⟩ = some (.int .i64 l[i].i) ∧ w'.cell? ⟨b, off + i * 6 + 2, none⟩ = some (.int .i64 l[i].x.x0) ∧ w'.cell? ⟨b, off + i * 6 + 3, none⟩ = some (.int .i64 l[i].x.y0) ∧ w'.cell? ⟨b, off + i * 6 + 4, none⟩ = some (.int .i64 l[i].x.x1) ∧ w'.cell? ⟨b, off + i * 6 + 5, none⟩ = some (.int .i64 l[i].x.y1) := by
  rcases h with h | ⟨b, off, rfl, hc⟩
  · rw [h] at h0; simp at h0
  · have hlt : b < w.heap.size := by
      obtain ⟨cs, _, k, rfl, -⟩ := hc 0 h0
      exact World.block_lt_of_cell? w ⟨b, off + 0 * 6 + 0, none⟩ (show _ = some (Value.int .u8 l[0].k) from k 0 (by decide))
    refine ⟨b, off, rfl, hlt, fun i hi => ?_⟩
    obtain ⟨cs, _, k, rfl, hw⟩ := hc i hi
    refine ⟨hw, fun w' hb => ?_⟩
    exact ⟨(by have := hb.size; simp [older]; omega), (hb.cell (p := ⟨b, off + i * 6 + 0, none⟩) hlt).trans (k 0 (by decide)), (hb.cell (p := ⟨b, off + i * 6 + 1, none⟩) hlt).trans (k 1 (by decide)), (hb.cell (p := ⟨b, off + i * 6 + 2, none⟩) hlt).trans (k 2 (by decide)), (hb.cell (p := ⟨b, off + i * 6 + 3, none⟩) hlt).trans (k 3 (by decide)), (hb.cell (p := ⟨b, off + i * 6 + 4, none⟩) hlt).trans (k 4 (by decide)), (hb.cell (p := ⟨b, off + i * 6 + 5, none⟩) hlt).trans (k 5 (by decide))⟩

section
open Go.ChangeShapes Go.WideShapes Go.Deep
variable {H : Type} {enc : TypeId × Value → H} {w : World} {base B : Nat} {spare : Nat → Bool} {held : Bool}
theorem u8_of_wf {n : Int} (h : (Lit.int .u8 n).wf = true) : 0 ≤ n ∧ n < 256 := by
  simp [Lit.wf, IntKind.min, IntKind.max, IntKind.signed, IntKind.bits] at h
  omega

theorem rd_Prr {fuel : Nat} {cs : List Value} {x : DataW H × List MemPlace} (h : DataW.trod enc Try.prog w base spare held fuel 44 cs = some x) : ∃ f : Int × Int, cs = prc f ∧ i64k f.1 ∧ i64k f.2 := by
  obtain ⟨xs, m, _, _, hl, hn, hf⟩ := DataW.trod_array Try.underlying44 h
  rw [show Try.prog.cellsOf 44 = 2 from by kernel_rfl] at hl
  obtain ⟨c0, r0, rfl, hl_0⟩ := cons_of hl
  obtain ⟨c1, r1, rfl, hl_1⟩ := cons_of hl_0
  obtain rfl := List.eq_nil_of_length_eq_zero hl_1
  have e0 : xs[0]? = some (xs[0]'(by omega)) := List.getElem?_eq_getElem _
  have e1 : xs[1]? = some (xs[1]'(by omega)) := List.getElem?_eq_getElem _
  have hc : Try.prog.cellsOf 3 = 1 := by kernel_rfl
  rw [hc] at hf
  have g0 := (hf 0 (by decide)).trans e0
  have g1 := (hf 1 (by decide)).trans e1
  generalize xs[0]'(by omega) = y0 at g0
  generalize xs[1]'(by omega) = y1 at g1
  simp only [Nat.zero_mul, Nat.one_mul, List.drop_zero, List.drop_succ_cons, List.take_succ_cons, List.take_zero, List.take_nil] at g0 g1
  obtain ⟨a, ea, wa⟩ := rd_intw20 Try.underlying3 g0
  obtain ⟨b, eb, wb⟩ := rd_intw20 Try.underlying3 g1
  simp at ea eb
  subst ea; subst eb
  exact ⟨(a, b), rfl, i64_of_wf wa, i64_of_wf wb⟩

theorem rd_Enr {fuel : Nat} {cs : List Value} {x : DataW H × List MemPlace} (h : DataW.trod enc Try.prog w base spare held fuel 33 cs = some x) : ∃ f : Int × Bx, cs = ec f ∧ i64k f.1 := by
  have hl := (rd_struct Try.underlying33 h).1
  rw [show Try.prog.cellsOf 33 = 5 from by kernel_rfl] at hl
  obtain ⟨c0, r0, rfl, hl_0⟩ := cons_of hl
  obtain ⟨c1, r1, rfl, hl_1⟩ := cons_of hl_0
  obtain ⟨c2, r2, rfl, hl_2⟩ := cons_of hl_1
  obtain ⟨c3, r3, rfl, hl_3⟩ := cons_of hl_2
  obtain ⟨c4, r4, rfl, hl_4⟩ := cons_of hl_3
  obtain rfl := List.eq_nil_of_length_eq_zero hl_4
  obtain ⟨-, fs1⟩ := rd_struct Try.underlying33 h
  obtain ⟨_, _, g2_⟩ := fs1 0 _ rfl
  have g2 : DataW.trod enc Try.prog w base spare held _ 3 (List.take (Try.prog.cellsOf 3) (List.drop 0 [c0, c1, c2, c3, c4])) = _ := g2_
  clear g2_
  rw [show Try.prog.cellsOf 3 = 1 from by kernel_rfl] at g2
  replace g2 := (show DataW.trod enc Try.prog w base spare held _ 3 [c0] = _ from g2)
  obtain ⟨a3, ea3, ew⟩ := rd_intw20 Try.underlying3 g2
  obtain rfl : c0 = _ := by simpa using ea3
  obtain ⟨_, _, g4_⟩ := fs1 1 _ rfl
  have g4 : DataW.trod enc Try.prog w base spare held _ 31 (List.take (Try.prog.cellsOf 31) (List.drop 1 [Value.int .i64 a3, c1, c2, c3, c4])) = _ := g4_
  clear g4_
  rw [show Try.prog.cellsOf 31 = 4 from by kernel_rfl] at g4
  replace g4 := (show DataW.trod enc Try.prog w base spare held _ 31 [c1, c2, c3, c4] = _ from g4)
  obtain ⟨-, fs5⟩ := rd_struct Try.underlying31 g4
  obtain ⟨_, _, g6_⟩ := fs5 0 _ rfl
  have g6 : DataW.trod enc Try.prog w base spare held _ 29 (List.take (Try.prog.cellsOf 29) (List.drop 0 [c1, c2, c3, c4])) = _ := g6_
  clear g6_
  rw [show Try.prog.cellsOf 29 = 2 from by kernel_rfl] at g6
  replace g6 := (show DataW.trod enc Try.prog w base spare held _ 29 [c1, c2] = _ from g6)
  obtain ⟨-, fs7⟩ := rd_struct Try.underlying29 g6
  obtain ⟨_, _, g8_⟩ := fs7 0 _ rfl
  have g8 : DataW.trod enc Try.prog w base spare held _ 3 (List.take (Try.prog.cellsOf 3) (List.drop 0 [c1, c2])) = _ := g8_
  clear g8_
  rw [show Try.prog.cellsOf 3 = 1 from by kernel_rfl] at g8
  replace g8 := (show DataW.trod enc Try.prog w base spare held _ 3 [c1] = _ from g8)
  obtain ⟨a9, ea9⟩ := rd_int Try.underlying3 g8
  obtain rfl : c1 = _ := by simpa using ea9
  obtain ⟨_, _, g10_⟩ := fs7 1 _ rfl
  have g10 : DataW.trod enc Try.prog w base spare held _ 3 (List.take (Try.prog.cellsOf 3) (List.drop 1 [Value.int .i64 a9, c2])) = _ := g10_
  clear g10_
  rw [show Try.prog.cellsOf 3 = 1 from by kernel_rfl] at g10
  replace g10 := (show DataW.trod enc Try.prog w base spare held _ 3 [c2] = _ from g10)
  obtain ⟨a11, ea11⟩ := rd_int Try.underlying3 g10
  obtain rfl : c2 = _ := by simpa using ea11
  obtain ⟨_, _, g12_⟩ := fs5 1 _ rfl
  have g12 : DataW.trod enc Try.prog w base spare held _ 29 (List.take (Try.prog.cellsOf 29) (List.drop 2 [Value.int .i64 a9, Value.int .i64 a11, c3, c4])) = _ := g12_
  clear g12_
  rw [show Try.prog.cellsOf 29 = 2 from by kernel_rfl] at g12
  replace g12 := (show DataW.trod enc Try.prog w base spare held _ 29 [c3, c4] = _ from g12)
  obtain ⟨-, fs13⟩ := rd_struct Try.underlying29 g12
  obtain ⟨_, _, g14_⟩ := fs13 0 _ rfl
  have g14 : DataW.trod enc Try.prog w base spare held _ 3 (List.take (Try.prog.cellsOf 3) (List.drop 0 [c3, c4])) = _ := g14_
  clear g14_
  rw [show Try.prog.cellsOf 3 = 1 from by kernel_rfl] at g14
  replace g14 := (show DataW.trod enc Try.prog w base spare held _ 3 [c3] = _ from g14)
  obtain ⟨a15, ea15⟩ := rd_int Try.underlying3 g14
  obtain rfl : c3 = _ := by simpa using ea15
  obtain ⟨_, _, g16_⟩ := fs13 1 _ rfl
  have g16 : DataW.trod enc Try.prog w base spare held _ 3 (List.take (Try.prog.cellsOf 3) (List.drop 1 [Value.int .i64 a15, c4])) = _ := g16_
  clear g16_
  rw [show Try.prog.cellsOf 3 = 1 from by kernel_rfl] at g16
  replace g16 := (show DataW.trod enc Try.prog w base spare held _ 3 [c4] = _ from g16)
  obtain ⟨a17, ea17⟩ := rd_int Try.underlying3 g16
  obtain rfl : c4 = _ := by simpa using ea17
  exact ⟨⟨a3, ⟨a9, a11, a15, a17⟩⟩, rfl, i64_of_wf ew⟩

theorem rd_TopDr {fuel : Nat} {cs : List Value} {x : DataW H × List MemPlace} (h : DataW.trod enc Try.prog w base spare held fuel 52 cs = some x) : ∃ f : TopD, cs = toc f ∧ i64k f.i ∧ 0 ≤ f.k ∧ f.k < 256 := by
  have hl := (rd_struct Try.underlying52 h).1
  rw [show Try.prog.cellsOf 52 = 6 from by kernel_rfl] at hl
  obtain ⟨c0, r0, rfl, hl_0⟩ := cons_of hl
  obtain ⟨c1, r1, rfl, hl_1⟩ := cons_of hl_0
  obtain ⟨c2, r2, rfl, hl_2⟩ := cons_of hl_1
  obtain ⟨c3, r3, rfl, hl_3⟩ := cons_of hl_2
  obtain ⟨c4, r4, rfl, hl_4⟩ := cons_of hl_3
  obtain ⟨c5, r5, rfl, hl_5⟩ := cons_of hl_4
  obtain rfl := List.eq_nil_of_length_eq_zero hl_5
  obtain ⟨-, fs1⟩ := rd_struct Try.underlying52 h
  obtain ⟨_, _, g2_⟩ := fs1 0 _ rfl
  have g2 : DataW.trod enc Try.prog w base spare held _ 5 (List.take (Try.prog.cellsOf 5) (List.drop 0 [c0, c1, c2, c3, c4, c5])) = _ := g2_
  clear g2_
  rw [show Try.prog.cellsOf 5 = 1 from by kernel_rfl] at g2
  replace g2 := (show DataW.trod enc Try.prog w base spare held _ 5 [c0] = _ from g2)
  obtain ⟨a3, ea3, ek⟩ := rd_intw20 Try.underlying5 g2
  obtain rfl : c0 = _ := by simpa using ea3
  obtain ⟨_, _, g4_⟩ := fs1 1 _ rfl
  have g4 : DataW.trod enc Try.prog w base spare held _ 3 (List.take (Try.prog.cellsOf 3) (List.drop 1 [Value.int .u8 a3, c1, c2, c3, c4, c5])) = _ := g4_
  clear g4_
  rw [show Try.prog.cellsOf 3 = 1 from by kernel_rfl] at g4
  replace g4 := (show DataW.trod enc Try.prog w base spare held _ 3 [c1] = _ from g4)
  obtain ⟨a5, ea5, ew⟩ := rd_intw20 Try.underlying3 g4
  obtain rfl : c1 = _ := by simpa using ea5
  obtain ⟨_, _, g6_⟩ := fs1 2 _ rfl
  have g6 : DataW.trod enc Try.prog w base spare held _ 31 (List.take (Try.prog.cellsOf 31) (List.drop 2 [Value.int .u8 a3, Value.int .i64 a5, c2, c3, c4, c5])) = _ := g6_
  clear g6_
  rw [show Try.prog.cellsOf 31 = 4 from by kernel_rfl] at g6
  replace g6 := (show DataW.trod enc Try.prog w base spare held _ 31 [c2, c3, c4, c5] = _ from g6)
  obtain ⟨-, fs7⟩ := rd_struct Try.underlying31 g6
  obtain ⟨_, _, g8_⟩ := fs7 0 _ rfl
  have g8 : DataW.trod enc Try.prog w base spare held _ 29 (List.take (Try.prog.cellsOf 29) (List.drop 0 [c2, c3, c4, c5])) = _ := g8_
  clear g8_
  rw [show Try.prog.cellsOf 29 = 2 from by kernel_rfl] at g8
  replace g8 := (show DataW.trod enc Try.prog w base spare held _ 29 [c2, c3] = _ from g8)
  obtain ⟨-, fs9⟩ := rd_struct Try.underlying29 g8
  obtain ⟨_, _, g10_⟩ := fs9 0 _ rfl
  have g10 : DataW.trod enc Try.prog w base spare held _ 3 (List.take (Try.prog.cellsOf 3) (List.drop 0 [c2, c3])) = _ := g10_
  clear g10_
  rw [show Try.prog.cellsOf 3 = 1 from by kernel_rfl] at g10
  replace g10 := (show DataW.trod enc Try.prog w base spare held _ 3 [c2] = _ from g10)
  obtain ⟨a11, ea11⟩ := rd_int Try.underlying3 g10
  obtain rfl : c2 = _ := by simpa using ea11
  obtain ⟨_, _, g12_⟩ := fs9 1 _ rfl
  have g12 : DataW.trod enc Try.prog w base spare held _ 3 (List.take (Try.prog.cellsOf 3) (List.drop 1 [Value.int .i64 a11, c3])) = _ := g12_
  clear g12_
  rw [show Try.prog.cellsOf 3 = 1 from by kernel_rfl] at g12
  replace g12 := (show DataW.trod enc Try.prog w base spare held _ 3 [c3] = _ from g12)
  obtain ⟨a13, ea13⟩ := rd_int Try.underlying3 g12
  obtain rfl : c3 = _ := by simpa using ea13
  obtain ⟨_, _, g14_⟩ := fs7 1 _ rfl
  have g14 : DataW.trod enc Try.prog w base spare held _ 29 (List.take (Try.prog.cellsOf 29) (List.drop 2 [Value.int .i64 a11, Value.int .i64 a13, c4, c5])) = _ := g14_
  clear g14_
  rw [show Try.prog.cellsOf 29 = 2 from by kernel_rfl] at g14
  replace g14 := (show DataW.trod enc Try.prog w base spare held _ 29 [c4, c5] = _ from g14)
  obtain ⟨-, fs15⟩ := rd_struct Try.underlying29 g14
  obtain ⟨_, _, g16_⟩ := fs15 0 _ rfl
  have g16 : DataW.trod enc Try.prog w base spare held _ 3 (List.take (Try.prog.cellsOf 3) (List.drop 0 [c4, c5])) = _ := g16_
  clear g16_
  rw [show Try.prog.cellsOf 3 = 1 from by kernel_rfl] at g16
  replace g16 := (show DataW.trod enc Try.prog w base spare held _ 3 [c4] = _ from g16)
  obtain ⟨a17, ea17⟩ := rd_int Try.underlying3 g16
  obtain rfl : c4 = _ := by simpa using ea17
  obtain ⟨_, _, g18_⟩ := fs15 1 _ rfl
  have g18 : DataW.trod enc Try.prog w base spare held _ 3 (List.take (Try.prog.cellsOf 3) (List.drop 1 [Value.int .i64 a17, c5])) = _ := g18_
  clear g18_
  rw [show Try.prog.cellsOf 3 = 1 from by kernel_rfl] at g18
  replace g18 := (show DataW.trod enc Try.prog w base spare held _ 3 [c5] = _ from g18)
  obtain ⟨a19, ea19⟩ := rd_int Try.underlying3 g18
  obtain rfl : c5 = _ := by simpa using ea19
  exact ⟨⟨a3, a5, ⟨a11, a13, a17, a19⟩⟩, rfl, i64_of_wf ew, u8_of_wf ek⟩

end

end Go.Proofs.Ytfhhkabdeajieaa
