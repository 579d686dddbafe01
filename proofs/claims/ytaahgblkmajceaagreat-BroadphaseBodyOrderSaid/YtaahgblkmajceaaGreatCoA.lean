/- Contracts of the reference of chapter 13: inverses, the inertia of a polygon.
Contracts of the reference of chapter 13, continued: mass data of a shape.
Contracts of the reference of chapter 13, continued: combinations.
Contracts of the reference of chapter 13, continued: mass data of fixtures. -/
import Derived.Test.YtaahgblkmajceaaGreatCo9
import Derived.Test.YtaahgblkmajceaaGreatMs1
import Derived.Test.YtaahgblkmajceaaGreatKi3

set_option linter.unusedVariables false
namespace Go.Proofs.YtaahgblkmajceaaGreat
open Go.RowKit Fx

theorem kk_in (ps : List (Int × Int)) (cx cy : Int) (i : Nat) : -536870911 ≤ kkI ps cx cy i ∧ kkI ps cx cy i ≤ 536870911 := ⟨cross_ge _ _ _ _, cross_le _ _ _ _⟩
theorem dot_in (a b c d : Int) : -536870911 ≤ dot a b c d ∧ dot a b c d ≤ 536870911 := ⟨sat_ge _, sat_le _⟩
theorem dd_in (ps : List (Int × Int)) (cx cy : Int) (i : Nat) : -1610612733 ≤ ddI ps cx cy i ∧ ddI ps cx cy i ≤ 1610612733 := by
  unfold ddI
  have h1 := dot_in (sub (hp' ps i).1 cx) (sub (hp' ps i).2 cy) (sub (hp' ps i).1 cx) (sub (hp' ps i).2 cy)
  have h2 := dot_in (sub (hp' ps i).1 cx) (sub (hp' ps i).2 cy) (sub (hp' ps (i + 1)).1 cx) (sub (hp' ps (i + 1)).2 cy)
  have h3 := dot_in (sub (hp' ps (i + 1)).1 cx) (sub (hp' ps (i + 1)).2 cy) (sub (hp' ps (i + 1)).1 cx) (sub (hp' ps (i + 1)).2 cy)
  omega
theorem sums_in (ps : List (Int × Int)) (cx cy : Int) : ∀ k : Nat, (-536870911 * (k : Int) ≤ sumB ps cx cy k ∧ sumB ps cx cy k ≤ 536870911 * (k : Int)) ∧ -864691125233909763 * (k : Int) ≤ sumA ps cx cy k ∧ sumA ps cx cy k ≤ 864691125233909763 * (k : Int)
  | 0 => by unfold sumA sumB; omega
  | k + 1 => by
    have ih := sums_in ps cx cy k
    have h1 := kk_in ps cx cy k
    have h2 := dd_in ps cx cy k
    have p := mul_between h1.1 h1.2 h2.1 h2.2
    unfold sumA sumB
    generalize kkI ps cx cy k * ddI ps cx cy k = z at *
    omega

end Go.Proofs.YtaahgblkmajceaaGreat

set_option linter.unusedVariables false
namespace Go.Proofs.YtaahgblkmajceaaGreat
open Go.RowKit Fx

end Go.Proofs.YtaahgblkmajceaaGreat

set_option linter.unusedVariables false
namespace Go.Proofs.YtaahgblkmajceaaGreat
open Go.RowKit Fx

/-- Mass data as cells. -/
def mdc (p : Md) : List Value := [.int .i64 p.m, .int .i64 p.x, .int .i64 p.y, .int .i64 p.i]
abbrev Mds (w : World) (A : Option Addr) (l : List Md) : Prop := Els w 4 (fun cs f => cs = mdc f) A l
theorem Mds.to {w w' : World} {A : Option Addr} {l : List Md} (h : Mds w A l) (hb : Below w.heap.size w w') : Mds w' A l := Els.to h (by decide) (fun _ _ h => h) hb
theorem mds_open {w : World} {A : Option Addr} {l : List Md} (h : Mds w A l) (h0 : 0 < l.length) : ∃ b off, A = some ⟨b, off, none⟩ ∧ ∀ i (h : i < l.length) w', Below w.heap.size w w' → w'.cell? ⟨b, off + i * 4, none⟩ = some (.int .i64 l[i].m) ∧ w'.cell? ⟨b, off + i * 4 + 1, none⟩ = some (.int .i64 l[i].x) ∧ w'.cell? ⟨b, off + i * 4 + 2, none⟩ = some (.int .i64 l[i].y) ∧ w'.cell? ⟨b, off + i * 4 + 3, none⟩ = some (.int .i64 l[i].i) := by
  rcases h with h | ⟨b, off, rfl, hc⟩
  · rw [h] at h0; simp at h0
  · refine ⟨b, off, rfl, fun i hi w' hb => ?_⟩
    obtain ⟨cs, _, k, rfl⟩ := hc i hi
    have k0 := k 0 (by decide)
    have hlt := World.block_lt_of_cell? w ⟨b, off + i * 4 + 0, none⟩ (show _ = some (Value.int .i64 l[i].m) from k0)
    exact ⟨(hb.cell (p := ⟨b, off + i * 4 + 0, none⟩) hlt).trans k0, (hb.cell (p := ⟨b, off + i * 4 + 1, none⟩) hlt).trans (k 1 (by decide)), (hb.cell (p := ⟨b, off + i * 4 + 2, none⟩) hlt).trans (k 2 (by decide)), (hb.cell (p := ⟨b, off + i * 4 + 3, none⟩) hlt).trans (k 3 (by decide))⟩

theorem fold_take {α : Type} (f : Int → α → Int) (s : Int) (l : List α) {k : Nat} (h : k < l.length) : (l.take (k + 1)).foldl f s = f ((l.take k).foldl f s) l[k] := by
  rw [List.take_add_one, List.getElem?_eq_getElem h, List.foldl_append]; rfl
theorem csum_in (l : List Md) : ∀ k : Nat, -536870911 * (k : Int) ≤ csum (l.take k) ∧ csum (l.take k) ≤ 536870911 * (k : Int)
  | 0 => by unfold csum; simp
  | k + 1 => by
    have ih := csum_in l k
    by_cases h : k < l.length
    · unfold csum at *
      rw [fold_take _ _ _ h]
      have h1 := sat_ge l[k].m
      have h2 := sat_le l[k].m
      omega
    · rw [List.take_of_length_le (by omega)]
      rw [List.take_of_length_le (by omega)] at ih
      omega
theorem cmx_in (l : List Md) : ∀ k : Nat, -288230375077969921 * (k : Int) ≤ cmx (l.take k) ∧ cmx (l.take k) ≤ 288230375077969921 * (k : Int)
  | 0 => by unfold cmx; simp
  | k + 1 => by
    have ih := cmx_in l k
    by_cases h : k < l.length
    · unfold cmx at *
      rw [fold_take _ _ _ h]
      have := satmul l[k].m l[k].x
      omega
    · rw [List.take_of_length_le (by omega)]
      rw [List.take_of_length_le (by omega)] at ih
      omega
theorem cmy_in (l : List Md) : ∀ k : Nat, -288230375077969921 * (k : Int) ≤ cmy (l.take k) ∧ cmy (l.take k) ≤ 288230375077969921 * (k : Int)
  | 0 => by unfold cmy; simp
  | k + 1 => by
    have ih := cmy_in l k
    by_cases h : k < l.length
    · unfold cmy at *
      rw [fold_take _ _ _ h]
      have := satmul l[k].m l[k].y
      omega
    · rw [List.take_of_length_le (by omega)]
      rw [List.take_of_length_le (by omega)] at ih
      omega

end Go.Proofs.YtaahgblkmajceaaGreat

set_option linter.unusedVariables false
namespace Go.Proofs.YtaahgblkmajceaaGreat
open Go.RowKit Fx

/-- A fixture as it lies in memory. -/
structure Fxr where
  K : Int
  R : Int
  A : Option Addr
  cap : Nat
  ps : List (Int × Int)
  D : Int
  F : Int
  E : Int
  sen : Bool
  cat : Int
  msk : Int
  grp : Int
def fxc (f : Fxr) : List Value := [.int .i64 f.K, .int .i64 f.R, .slice f.A f.ps.length f.cap, .int .i64 f.D, .int .i64 f.F, .int .i64 f.E, .bool f.sen, .int .i64 f.cat, .int .i64 f.msk, .int .i64 f.grp]
def fxQ (w : World) (cs : List Value) (f : Fxr) : Prop := cs = fxc f ∧ Pts w f.A f.ps ∧ (f.A = none → f.cap = 0) ∧ f.ps.length ≤ f.cap ∧ f.cap ≤ maxLen
abbrev Fxs (w : World) (A : Option Addr) (fs : List Fxr) : Prop := Els w 10 (fxQ w) A fs
theorem Fxs.to {w w' : World} {A : Option Addr} {fs : List Fxr} (h : Fxs w A fs) (hb : Below w.heap.size w w') : Fxs w' A fs :=
  Els.to h (by decide) (fun _ _ h => ⟨h.1, Pts.to h.2.1 hb, h.2.2⟩) hb
theorem fxs_open {w : World} {A : Option Addr} {fs : List Fxr} (h : Fxs w A fs) (h0 : 0 < fs.length) : ∃ b off, A = some ⟨b, off, none⟩ ∧ ∀ i (h : i < fs.length), Pts w fs[i].A fs[i].ps ∧ ∀ w', Below w.heap.size w w' → w'.cell? ⟨b, off + i * 10, none⟩ = some (.int .i64 fs[i].K) ∧ w'.cell? ⟨b, off + i * 10 + 1, none⟩ = some (.int .i64 fs[i].R) ∧ w'.cell? ⟨b, off + i * 10 + 2, none⟩ = some (.slice fs[i].A fs[i].ps.length fs[i].cap) ∧ w'.cell? ⟨b, off + i * 10 + 3, none⟩ = some (.int .i64 fs[i].D) ∧ w'.cell? ⟨b, off + i * 10 + 6, none⟩ = some (.bool fs[i].sen) := by
  rcases h with h | ⟨b, off, rfl, hc⟩
  · rw [h] at h0; simp at h0
  · refine ⟨b, off, rfl, fun i hi => ?_⟩
    obtain ⟨cs, _, k, rfl, hp, _⟩ := hc i hi
    refine ⟨hp, fun w' hb => ?_⟩
    have k0 := k 0 (by decide)
    have hlt := World.block_lt_of_cell? w ⟨b, off + i * 10 + 0, none⟩ (show _ = some (Value.int .i64 fs[i].K) from k0)
    exact ⟨(hb.cell (p := ⟨b, off + i * 10 + 0, none⟩) hlt).trans k0, (hb.cell (p := ⟨b, off + i * 10 + 1, none⟩) hlt).trans (k 1 (by decide)), (hb.cell (p := ⟨b, off + i * 10 + 2, none⟩) hlt).trans (k 2 (by decide)), (hb.cell (p := ⟨b, off + i * 10 + 3, none⟩) hlt).trans (k 3 (by decide)), (hb.cell (p := ⟨b, off + i * 10 + 6, none⟩) hlt).trans (k 6 (by decide))⟩

end Go.Proofs.YtaahgblkmajceaaGreat
