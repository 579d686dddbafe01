/- Opening the arguments of a statement by their types' outer form, and what a statement owes behind the call, out of 'nothing below the heap's old size has turned'. No program is imported. -/
import Derived.WalkKit
import Derived.ProofKit
import Derived.OpenShut
import Derived.Below
import Derived.Carry
set_option linter.unusedVariables false
namespace Go.Proofs.Ytconfbdnhalmoaa.Opn
open Go.ChangeShapes Go.WideShapes Go.ChangeAt Go.RowKit

/-- The cells have, one by one, the outer forms of these types. -/
def Fits (P : Program) (w : World) (B : Nat) : List TypeId → List Value → Prop
  | [], [] => True
  | u :: us, c :: cs => Cell.okWide P w .any B u c ∧ Fits P w B us cs
  | _, _ => False
theorem fits_cons {P : Program} {w : World} {B : Nat} {u : TypeId} {us : List TypeId} {cs : List Value} (h : Fits P w B (u :: us) cs) : ∃ c cs', cs = c :: cs' ∧ Cell.okWide P w .any B u c ∧ Fits P w B us cs' := by
  cases cs with
  | nil => exact h.elim
  | cons c cs' => exact ⟨c, cs', rfl, h.1, h.2⟩
theorem fits_nil {P : Program} {w : World} {B : Nat} {cs : List Value} (h : Fits P w B [] cs) : cs = [] := by
  cases cs with
  | nil => rfl
  | cons c cs' => exact h.elim
theorem fits_of {P : Program} {w : World} {B : Nat} : ∀ (ts : List TypeId) (cs : List Value), cs.length = ts.length → (∀ (i : Nat) (v : Value), cs[i]? = some v → ∃ u, ts[i]? = some u ∧ Cell.okWide P w .any B u v) → Fits P w B ts cs
  | [], [], _, _ => trivial
  | [], c :: cs, h, _ => by simp at h
  | u :: us, [], h, _ => by simp at h
  | u :: us, c :: cs, h, hi => by
    refine ⟨?_, fits_of us cs (by simpa using h) fun i v hv => ?_⟩
    · obtain ⟨u', hu, hc⟩ := hi 0 c rfl
      simp at hu; subst hu; exact hc
    · obtain ⟨u', hu, hc⟩ := hi (i + 1) v (by simpa using hv)
      exact ⟨u', by simpa using hu, hc⟩

/-- A struct or an array by value: its cells. -/
theorem open_flat {P : Program} {w : World} {B : Nat} {t : TypeId} {v : Value} {ts : List TypeId} (hd : (match P.underlying t with | some (.struct _) | some (.array _ _) => true | _ => false) = true)
    (hct : P.cellTypes P.depth t = some ts) (hC : P.cellsOf t = ts.length) (h : Value.okWide P w .any B t v) : ∃ cs : List Value, v = .agg cs.toArray ∧ Fits P w B ts cs := by
  unfold Value.okWide at h
  split at h
  · obtain ⟨cs, rfl, hsz, ts', hts, _, hi⟩ := h
    rw [hct] at hts; simp at hts; subst hts
    refine ⟨cs.toList, by simp, fits_of _ _ (by simpa using hsz.trans hC) fun i v hv => ?_⟩
    obtain ⟨u, hu, hc⟩ := hi i v (by simpa using hv)
    have hlt : i < ts.length := by
      have := (List.getElem?_eq_some_iff.1 hv).1
      have e : cs.toList.length = ts.length := by simpa using hsz.trans hC
      omega
    rw [Nat.mod_eq_of_lt hlt] at hu
    exact ⟨u, hu, hc⟩
  · obtain ⟨cs, rfl, hsz, ts', hts, _, hi⟩ := h
    rw [hct] at hts; simp at hts; subst hts
    refine ⟨cs.toList, by simp, fits_of _ _ (by simpa using hsz.trans hC) fun i v hv => ?_⟩
    obtain ⟨u, hu, hc⟩ := hi i v (by simpa using hv)
    have hlt : i < ts.length := by
      have := (List.getElem?_eq_some_iff.1 hv).1
      have e : cs.toList.length = ts.length := by simpa using hsz.trans hC
      omega
    rw [Nat.mod_eq_of_lt hlt] at hu
    exact ⟨u, hu, hc⟩
  · rename_i h1 h2
    split at hd
    · rename_i fs e; exact absurd e (h1 fs)
    · rename_i n e' e; exact absurd e (h2 n e')
    · simp at hd

theorem cell_int {P : Program} {w : World} {B : Nat} {t : TypeId} {k : IntKind} {v : Value} (ht : P.underlying t = some (.int k)) (h : Cell.okWide P w .any B t v) : ∃ n, v = .int k n ∧ k.has n := by
  simp only [Cell.okWide, ht] at h
  cases v <;> simp_all [Cell.ok]
theorem cell_bool {P : Program} {w : World} {B : Nat} {t : TypeId} {v : Value} (ht : P.underlying t = some .bool) (h : Cell.okWide P w .any B t v) : ∃ b, v = .bool b := by
  simp only [Cell.okWide, ht] at h
  cases v <;> simp_all [Cell.ok]
theorem one_int {P : Program} {w : World} {B : Nat} {t : TypeId} {k : IntKind} {v : Value} (ht : P.underlying t = some (.int k)) (h : Value.okWide P w .any B t v) : ∃ n, v = .int k n ∧ k.has n := by
  simp only [Value.okWide, ht] at h
  exact cell_int ht h
theorem one_bool {P : Program} {w : World} {B : Nat} {t : TypeId} {v : Value} (ht : P.underlying t = some .bool) (h : Value.okWide P w .any B t v) : ∃ b, v = .bool b := by
  simp only [Value.okWide, ht] at h
  exact cell_bool ht h

theorem one_str {P : Program} {w : World} {B : Nat} {t : TypeId} {v : Value} (ht : P.underlying t = some .string) (h : Value.okWide P w .any B t v) : ∃ s, v = .string s := by
  simp only [Value.okWide, ht, Cell.okWide] at h
  cases v <;> simp_all [Cell.ok]

theorem has_i64 {n : Int} (h : IntKind.i64.has n) : -9223372036854775808 ≤ n ∧ n ≤ 9223372036854775807 := by
  simp [IntKind.has, IntKind.min, IntKind.max, IntKind.signed, IntKind.bits] at h; omega
theorem has_u64 {n : Int} (h : IntKind.u64.has n) : 0 ≤ n ∧ n ≤ 18446744073709551615 := by
  simp [IntKind.has, IntKind.min, IntKind.max, IntKind.signed, IntKind.bits] at h; omega
theorem has_u32 {n : Int} (h : IntKind.u32.has n) : 0 ≤ n ∧ n ≤ 4294967295 := by
  simp [IntKind.has, IntKind.min, IntKind.max, IntKind.signed, IntKind.bits] at h; omega
theorem has_i32 {n : Int} (h : IntKind.i32.has n) : -2147483648 ≤ n ∧ n ≤ 2147483647 := by
  simp [IntKind.has, IntKind.min, IntKind.max, IntKind.signed, IntKind.bits] at h; omega
theorem has_u16 {n : Int} (h : IntKind.u16.has n) : 0 ≤ n ∧ n ≤ 65535 := by
  simp [IntKind.has, IntKind.min, IntKind.max, IntKind.signed, IntKind.bits] at h; omega
theorem has_i16 {n : Int} (h : IntKind.i16.has n) : -32768 ≤ n ∧ n ≤ 32767 := by
  simp [IntKind.has, IntKind.min, IntKind.max, IntKind.signed, IntKind.bits] at h; omega
theorem has_u8 {n : Int} (h : IntKind.u8.has n) : 0 ≤ n ∧ n ≤ 255 := by
  simp [IntKind.has, IntKind.min, IntKind.max, IntKind.signed, IntKind.bits] at h; omega
theorem has_i8 {n : Int} (h : IntKind.i8.has n) : -128 ≤ n ∧ n ≤ 127 := by
  simp [IntKind.has, IntKind.min, IntKind.max, IntKind.signed, IntKind.bits] at h; omega

section
variable {H : Type} {enc : TypeId × Value → H} {P : Program}

/-- The arguments read behind the call as before. -/
theorem all_stay (hl : laidOutB P = true) {W W' : World} (hb : Below W.heap.size W W') : ∀ (ts : List TypeId) (vs : List Value) (ds : List (DataW H)) (p : List MemPlace), ts.all (fun t => P.readableRec t && decide (t < P.types.size)) = true →
    DataW.TrodAll enc P W 0 (fun _ => true) true ts vs ds p → (∀ x ∈ p, x.block < W.heap.size) → DataW.TrodAll enc P W' 0 (fun b => decide (b < W.heap.size)) true ts vs ds p
  | [], [], [], _, _, h, _ => h
  | t :: ts, v :: vs, d :: ds, _, hr, ⟨p, q, h, hs, rfl⟩, hlt => by
    simp only [List.all_cons, Bool.and_eq_true, decide_eq_true_eq] at hr
    exact ⟨p, q, Below.trod hl hr.1.1 hr.1.2 h hb fun x hx => hlt x (List.mem_append_left _ hx), all_stay hl hb ts vs ds q hr.2 hs fun x hx => hlt x (List.mem_append_right _ hx), rfl⟩
  | [], _ :: _, _, _, _, h, _ => h.elim
  | [], [], _ :: _, _, _, h, _ => h.elim
  | _ :: _, [], _, _, _, h, _ => h.elim
  | _ :: _, _ :: _, [], _, _, h, _ => h.elim

/-- What a statement without package variables owes: it answered true, and below the heap's old size nothing has turned. -/
theorem law_post {f : Func} {s : ChangeSpec} {W W' : World} {args : Array Value} {ds gs : List (DataW H)} {before : List MemPlace} {tb : TypeId} (hl : laidOutB P = true)
    (hW : DataW.Whole enc P f.params.toList s.vars false W args.toList ds gs before) (hv : s.vars = []) (hfn : s.fn H (ds ++ gs) = { results := [.lit (.bool true)], args := ds })
    (hres : f.resultTypes = #[tb]) (ht : P.underlying tb = some .bool) (hok : f.params.toList.all (fun t => P.readableRec t && decide (t < P.types.size)) = true) (hb : Below W.heap.size W W') :
    s.post enc P f false true false false W args (.bool true) W' := by
  have hlt := hW.lt
  have hW' := hW
  obtain ⟨p, q, hA, hV, rfl, hz, hn⟩ := hW
  rw [hv] at hV
  obtain ⟨rfl, rfl⟩ := trodVars_none hV
  refine ⟨ds, [], _, [], p, [], hW', ?_, ?_, ?_, hb.frame _, fun h => by simp at h⟩
  · rw [hfn, hres]; exact trodAll_cons_mk (shut_bool ht _) trodAll_mk0
  · rw [hfn]; exact all_stay hl hb _ _ _ _ hok hA fun x hx => hlt x (by simpa using hx)
  · rw [hfn, hv]; exact rfl
end

end Go.Proofs.Ytconfbdnhalmoaa.Opn
