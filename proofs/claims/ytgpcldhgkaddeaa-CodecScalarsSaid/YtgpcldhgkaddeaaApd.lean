/- A slice that may be appended to: the call's own row, or whatever slice without room behind it. No program is imported. -/
import Derived.Test.YtgpcldhgkaddeaaByt
set_option linter.unusedVariables false
namespace Go.Proofs.Ytgpcldhgkaddeaa
open Go.RowKit

/-- Own, or full. -/
def Apd (w : World) (B : Nat) (e : TypeId) (v : Value) (n : Nat) (xs : List Value) : Prop :=
  w.ownsRow B e 1 v n xs ∨ ∃ A, v = .slice A n n ∧ (A = none → n = 0) ∧ xs.length = n ∧ Cs w A xs

theorem Apd.to {w w' : World} {B : Nat} {e : TypeId} {v : Value} {n : Nat} {xs : List Value} (h : Apd w B e v n xs) (hb : Below w.heap.size w w') : Apd w' B e v n xs := by
  rcases h with h | ⟨A, h1, h2, h3, h4⟩
  · exact .inl (owns_below h hb)
  · exact .inr ⟨A, h1, h2, h3, Cs.to h4 hb⟩

/-- 'out = append(out, xs...)' with at least one more, out own or full. -/
theorem wpList_appA {P : Program} {w : World} {ops : Array Oper} {rest : List Oper} {o : Oper} {a : Act} {Q : Exit → Act → World → Prop} (hg : o.guard = none) (s x : Operand) (t : TypeId)
    (ho : o.op = .call { callee := .builtin .append, args := #[s, x], argTypes := #[t, t] })
    (B : Nat) (e : TypeId) (i : TypeInfo) (z : Value) (bytes : Nat) (ht : P.underlying t = some (.slice e)) (hi : P.info? e = some i) (hz : i.zero = some z) (hsize : i.size = 1) (hby : i.bytes = bytes) (hzs : z.cells.size = 1)
    (v : Value) (n : Nat) (xs : List Value) (hs : a.eval s = v) (hown : Apd w B e v n xs) (ad : Addr) (m c : Nat) (news : List Value) (hx : a.eval x = .slice (some ad) m c) (hm : 0 < m) (hl : news.length = m) (hcs : Cs w (some ad) news) (h1 : ∀ u ∈ news, u.oneCell' = true)
    (h63 : n + m ≤ maxLen) (hbytes : (n + m) * bytes ≤ 140737488355328) (hb1 : 0 < bytes) (hB : B ≤ w.heap.size)
    (h : ∀ v' w', w'.ownsRow B e 1 v' (n + m) (xs ++ news) → Below B w w' → wpList P ops Q rest (a.put o.dst v') w') : wpList P ops Q (o :: rest) a w := by
  rcases hown with hown | ⟨A, rfl, hA, hxl, hcx⟩
  · exact wpList_appN hg s x t ho B e i z bytes ht hi hz hsize hby hzs v n xs hs hown (some ad) m c news hx (fun h => by cases h) hl hcs h1 h63 hbytes hB h
  cases A with
  | none =>
    obtain rfl := hA rfl
    exact wpList_appN hg s x t ho B e i z bytes ht hi hz hsize hby hzs _ 0 xs hs ⟨by simpa using hxl, .inl ⟨rfl, rfl⟩⟩ (some ad) m c news hx (fun h => by cases h) hl hcs h1 h63 hbytes hB h
  | some b =>
    refine wpList_plain hg fun K hK' => ?_
    have hfit : Builtin.nextslicecap (n + m) n * i.bytes ≤ 281474976710656 := by rw [hby]; exact growslice_fits (by omega) hbytes
    have hml : maxLen ≤ 9223372036854775807 := by decide
    have hrun := run_append_grow (P := P) (w := w) t o.type e i z ht hi hz b n n xs (by rw [hsize]; omega) (cs_at hcx) ad m c news (by rw [hsize]; omega) (cs_at hcs) (by omega) (by omega) hfit
    unfold Oper.wp
    simp [execOp, ho, resolve, invoke, builtin, hs, hx, hrun, Result.andThen]
    refine hK' _ _ (h _ _ ⟨by simp; omega, .inr ⟨w.heap.size, grownCap w (n + m) n e, _, rfl, hB, heap_alloc_new w.drew _, grownCap_ge w (n + m) n e, grownCap_le_maxLen w (n + m) n e h63, ?_, ?_⟩⟩ (Below.alloc (Below.drew (Below.refl _ _)) hB _))
    · have hge := grownCap_ge w (n + m) n e
      simp only [Array.size_append, List.size_toArray, List.length_append, size_zeroCells, hzs]
      omega
    · simp only [Array.toList_append, List.append_assoc]
      rw [← List.append_assoc, show (n + m) * 1 = (xs ++ news).length from by simp; omega]
      exact List.take_left

end Go.Proofs.Ytgpcldhgkaddeaa
