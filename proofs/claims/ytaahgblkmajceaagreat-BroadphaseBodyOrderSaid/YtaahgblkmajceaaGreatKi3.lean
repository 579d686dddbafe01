/- Slices of numbers among a statement's arguments. No program is imported.
Slices of bytes and strings in memory; append from whatever slice. No program is imported.
Slices of points: append of a slice of points to an own row; their parts. No program is imported.
append(literal of no element, xs...): a new row or nothing. And append as one of the calls of a drawn region. No program is imported.
Slices of structs among a statement's arguments, however deep: their elements' cells, and what each element's cells say. No program is imported.
append of one struct to an own row, and such a row as elements. No program is imported. -/
import Derived.Test.YtaahgblkmajceaaGreatKi1
import Derived.ChangeSlices
import Derived.Deep.SlicePairs
import Derived.Laws.AppendOwnNone
import Derived.Laws.BytesArg
import Derived.Deep.AppendSrc
import Derived.Lib.AppendStr
import Derived.Deep.Upon
import Derived.Test.YtaahgblkmajceaaGreatKi2
import Derived.Deep.Slices
import Derived.Maps.AppendAt

set_option linter.unusedVariables false
namespace Go.Proofs.YtaahgblkmajceaaGreat
open Go.RowKit

section
open Go.ChangeShapes Go.WideShapes Go.Deep
/-- A slice of numbers among a statement's arguments. -/
theorem open_ik {H : Type} {enc : TypeId × Value → H} {P : Program} {w : World} {base B : Nat} {spare : Nat → Bool} {held : Bool} {t e : TypeId} {k : IntKind} {v : Value} {d : DataW H} {pl : List MemPlace} (ht : P.underlying t = some (.slice e)) (he : P.underlying e = some (.int k))
    (ce : P.cellsOf e = 1) (h : DataW.Trod enc P w base spare held t v d pl) (hv : Value.okWide P w .any B t v) : ∃ (A : Option Addr) (cap : Nat) (ns : List Int), v = .slice A ns.length cap ∧ ns.length ≤ cap ∧ cap ≤ maxLen ∧ Cs w A (ns.map (Value.int k)) ∧ ∀ n ∈ ns, (Lit.int k n).wf = true := by
  simp only [Value.okWide, ht, Cell.okWide] at hv
  obtain ⟨fuel, h⟩ := h
  cases v with
  | slice A len cap =>
    rcases open_ints ht he ce h with ⟨e1, _⟩ | ⟨a, len', cap', zs, e1, _, hl, hm, hzl, _, hz, hwf⟩
    · simp [Value.cells] at e1
      obtain ⟨rfl, rfl, rfl⟩ := e1
      exact ⟨none, 0, [], rfl, Nat.le_refl _, by decide, .inl rfl, by simp⟩
    · simp [Value.cells] at e1
      obtain ⟨rfl, rfl, rfl⟩ := e1
      have hspot : a.spot = none := by
        simp only [Cell.ok, ht] at hv
        exact hv.2.2.2.1
      have hlm : len ≤ zs.length := by rw [hzl]; split <;> omega
      have hlen : (zs.take len).length = len := by rw [List.length_take]; omega
      refine ⟨some a, cap, zs.take len, by rw [hlen], by omega, hm, ?_, fun n hn => hwf n (List.mem_of_mem_take hn)⟩
      obtain ⟨ab, ao, asp⟩ := a
      simp only at hspot; subst hspot
      refine .inr ⟨ab, ao, rfl, fun i hi => ?_⟩
      have hi' : i < len := by rw [List.length_map, hlen] at hi; exact hi
      have ea : ∀ n, (Addr.mk ab ao none).add n = ⟨ab, ao + n, none⟩ := fun n => by
        unfold Addr.add; split
        · rename_i h0; subst h0; rfl
        · rfl
      have := hz i (by omega)
      rw [ea] at this
      rw [this]
      simp [show i < zs.length by omega]
  | _ => simp [Cell.ok, ht] at hv
theorem open_ik2 {H : Type} {enc : TypeId × Value → H} {P : Program} {w : World} {base B : Nat} {spare : Nat → Bool} {held : Bool} {t e : TypeId} {k : IntKind} {v : Value} {d : DataW H} {pl : List MemPlace} (ht : P.underlying t = some (.slice e)) (he : P.underlying e = some (.int k))
    (ce : P.cellsOf e = 1) (h : DataW.Trod enc P w base spare held t v d pl) (hv : Value.okWide P w .any B t v) : ∃ (A : Option Addr) (cap : Nat) (ns : List Int), v = .slice A ns.length cap ∧ ns.length ≤ cap ∧ cap ≤ maxLen ∧ Cs w A (ns.map (Value.int k)) ∧ (∀ n ∈ ns, (Lit.int k n).wf = true) ∧ (A = none → cap = 0) := by
  obtain ⟨A, cap, ns, rfl, h1, h2, h3, h4⟩ := open_ik ht he ce h hv
  refine ⟨A, cap, ns, rfl, h1, h2, h3, h4, fun hA => ?_⟩
  subst hA
  simp only [Value.okWide, ht, Cell.okWide] at hv
  obtain ⟨fuel, h⟩ := h
  rcases open_ints ht he ce h with ⟨e1, _⟩ | ⟨a, len', cap', zs, e1, _⟩
  · simp [Value.cells] at e1; exact e1.2
  · simp [Value.cells] at e1
theorem wf_u8 {ns : List Int} (h : ∀ n ∈ ns, (Lit.int .u8 n).wf = true) : ∀ x ∈ ns, 0 ≤ x ∧ x < 256 := fun x hx => by
  have := h x hx
  simp [Lit.wf, IntKind.min, IntKind.max, IntKind.signed, IntKind.bits] at this
  omega
theorem wf_i64 {ns : List Int} (h : ∀ n ∈ ns, (Lit.int .i64 n).wf = true) : ∀ x ∈ ns, -9223372036854775808 ≤ x ∧ x ≤ 9223372036854775807 := fun x hx => by
  have := h x hx
  simp [Lit.wf, IntKind.min, IntKind.max, IntKind.signed, IntKind.bits] at this
  omega
end

end Go.Proofs.YtaahgblkmajceaaGreat

set_option linter.unusedVariables false
namespace Go.Proofs.YtaahgblkmajceaaGreat
open Go.RowKit

/-- Bytes as cells. -/
def yv (bs : List Int) : List Value := bs.map (Value.int .u8)
@[simp] theorem yv_length (bs : List Int) : (yv bs).length = bs.length := by simp [yv]
theorem yv_append (a b : List Int) : yv (a ++ b) = yv a ++ yv b := by simp [yv]
theorem yv_one (bs : List Int) : ∀ u ∈ yv bs, u.oneCell' = true := fun u hu => by
  obtain ⟨_, _, rfl⟩ := List.mem_map.1 hu; rfl
abbrev Byts (w : World) (A : Option Addr) (bs : List Int) : Prop := Cs w A (yv bs)
theorem Byts.open {w : World} {A : Option Addr} {bs : List Int} (h : Byts w A bs) (h0 : 0 < bs.length) : ∃ b off, A = some ⟨b, off, none⟩ ∧ ∀ i (h : i < bs.length), w.cell? ⟨b, off + i, none⟩ = some (.int .u8 bs[i]) := by
  obtain ⟨b, off, hA, hc⟩ := Cs.open h (by simpa using h0)
  exact ⟨b, off, hA, fun i hi => by rw [hc i (by simpa using hi)]; simp [yv]⟩
/-- All are bytes. -/
def isB (bs : List Int) : Prop := ∀ x ∈ bs, 0 ≤ x ∧ x < 256

theorem owns_mono {w : World} {B B' : Nat} {e : TypeId} {size n : Nat} {v : Value} {xs : List Value} (h : w.ownsRow B e size v n xs) (hB : B' ≤ B) : w.ownsRow B' e size v n xs := by
  obtain ⟨hl, h | ⟨g, cap, cur, h1, h2, h3⟩⟩ := h
  · exact ⟨hl, .inl h⟩
  · exact ⟨hl, .inr ⟨g, cap, cur, h1, Nat.le_trans hB h2, h3⟩⟩
/-- An own row as a slice: where it lies, and its cells. -/
theorem owns_sl {w : World} {B : Nat} {e : TypeId} {v : Value} {n : Nat} {xs : List Value} (h : w.ownsRow B e 1 v n xs) : ∃ A cap, v = .slice A n cap ∧ n ≤ cap ∧ cap ≤ maxLen ∧ (A = none → cap = 0) ∧ Cs w A xs := by
  obtain ⟨A, cap, rfl, h1, h2, h3⟩ := owns_cs h
  refine ⟨A, cap, rfl, h1, h2, fun hA => ?_, h3⟩
  obtain ⟨_, ⟨h4, _⟩ | ⟨g, _, _, h4, _⟩⟩ := h
  · simp at h4; exact h4.2.2
  · simp [hA] at h4
theorem owns_lit {w : World} {b : Nat} {e : TypeId} {xs : List Value} {B n : Nat} (h : blk w b xs.toArray e) (hn : xs.length = n) (hB : B ≤ b) (hm : n ≤ maxLen) : w.ownsRow B e 1 (.slice (some ⟨b, 0, none⟩) n n) n xs := by
  subst hn
  exact ⟨by simp, .inr ⟨b, xs.length, xs.toArray, rfl, hB, h, Nat.le_refl _, hm, by simp, by simp⟩⟩
theorem owns_nil (w : World) (B : Nat) (e : TypeId) : w.ownsRow B e 1 (.slice none 0 0) 0 [] := World.ownsRow_nil _ _ _ _
/-- An empty slice that is not nil (a literal []T{}). -/
theorem cs_at {w : World} {ad : Addr} {xs : List Value} (h : Cs w (some ad) xs) : ∀ j u, xs[j]? = some u → w.cell? (ad.add j) = some u := fun j u hj => by
  obtain ⟨hl, e⟩ := List.getElem?_eq_some_iff.1 hj
  obtain ⟨b, off, hA, hc⟩ := Cs.open h (by omega)
  obtain rfl := Option.some.inj hA
  have := hc j hl
  rw [e] at this
  rw [← this]
  unfold Addr.add; split
  · rename_i h0; subst h0; rfl
  · rfl

/-- 'out = append(out, xs...)', out nil or the call's own, elements of one cell, xs whatever slice. -/
theorem wpList_appN {P : Program} {w : World} {ops : Array Oper} {rest : List Oper} {o : Oper} {a : Act} {Q : Exit → Act → World → Prop} (hg : o.guard = none) (s x : Operand) (t : TypeId)
    (ho : o.op = .call { callee := .builtin .append, args := #[s, x], argTypes := #[t, t] })
    (B : Nat) (e : TypeId) (i : TypeInfo) (z : Value) (bytes : Nat) (ht : P.underlying t = some (.slice e)) (hi : P.info? e = some i) (hz : i.zero = some z) (hsize : i.size = 1) (hby : i.bytes = bytes) (hzs : z.cells.size = 1)
    (v : Value) (n : Nat) (xs : List Value) (hs : a.eval s = v) (hown : w.ownsRow B e 1 v n xs) (X : Option Addr) (m c : Nat) (news : List Value) (hx : a.eval x = .slice X m c) (hnil : X = none → c = 0) (hl : news.length = m) (hcs : Cs w X news) (h1 : ∀ u ∈ news, u.oneCell' = true)
    (h63 : n + m ≤ maxLen) (hbytes : (n + m) * bytes ≤ 140737488355328) (hB : B ≤ w.heap.size)
    (h : ∀ v' w', w'.ownsRow B e 1 v' (n + m) (xs ++ news) → Below B w w' → wpList P ops Q rest (a.put o.dst v') w') : wpList P ops Q (o :: rest) a w := by
  cases X with
  | none =>
    obtain rfl := hnil rfl
    have hn : news = [] := by
      rcases hcs with h | ⟨b, off, hA, _⟩
      · exact h
      · cases hA
    subst hn
    simp at hl; subst hl
    refine wpList_plain hg fun K hK' => ?_
    have hrun := run_append_owned_none (P := P) w B t o.type e i 1 ht hi v n xs hown
    unfold Oper.wp
    simp [execOp, ho, resolve, invoke, builtin, hs, hx, hrun, Result.andThen]
    exact hK' _ _ (h v w (by simpa using hown) (Below.refl _ _))
  | some ad =>
    refine wpList_append_own w hg s x t ho B e i z 1 bytes ht hi hz hsize hby hzs (by decide) v n xs hs hown ad m c news hx (by omega) (cs_at hcs) h1 h63 hbytes hB (fun v' w' h2 h3 _ => h v' w' h2 ?_)
    refine ⟨h3.os, h3.tape, h3.output, h3.size, fun k hk => h3.block k (by omega) fun hk' => ?_⟩
    obtain ⟨_, ⟨rfl, _⟩ | ⟨g, cap, cur, rfl, hBg, _⟩⟩ := hown
    · simp [Value.ownBlock] at hk'
    · simp [Value.ownBlock] at hk'; omega

/-- 'string(b)'. -/
theorem wpList_str {P : Program} {w : World} {ops : Array Oper} {rest : List Oper} {o : Oper} {a : Act} {Q : Exit → Act → World → Prop} (hg : o.guard = none) (src dst : TypeId) (x : Operand) (ho : o.op = .convert src dst x) (e : TypeId)
    (hs : P.underlying src = some (.slice e)) (he : P.underlying e = some (.int .u8)) (hd : P.underlying dst = some .string) (A : Option Addr) (n c : Nat) (bs : List Int) (hx : a.eval x = .slice A n c) (hl : bs.length = n) (hcs : Byts w A bs)
    (h : wpList P ops Q rest (a.put o.dst (.string (strOfNums bs))) w) : wpList P ops Q (o :: rest) a w := by
  refine wpList_plain hg fun K hK' => ?_
  have hrun : (convert src dst (.slice A n c)).run P w = .ok (.string (strOfNums bs)) w := by
    rcases Nat.eq_zero_or_pos bs.length with h0 | h0
    · obtain rfl := List.eq_nil_of_length_eq_zero h0
      simp at hl; subst hl
      cases A with
      | none => rw [run_convert_bytes_nil w src e hs he 0 c dst hd]; rfl
      | some ad =>
        obtain ⟨b, off, spot⟩ := ad
        rw [run_convert_bytes_string w src dst e _ 0 c hs he hd]
        rfl
    · obtain ⟨b, off, rfl, hc⟩ := Byts.open hcs h0
      exact run_convert_bytes_arg w src e hs he b off n c bs hl (fun i hi => by rw [hc i (by omega)]; simp [List.getD, show i < bs.length by omega]) dst hd
  unfold Oper.wp
  simp [execOp, ho, hx, hrun, Result.andThen]
  exact hK' _ _ h

theorem Cs.take {w : World} {A : Option Addr} {xs : List Value} (m : Nat) (h : Cs w A xs) : Cs w A (xs.take m) := by
  rcases h with rfl | ⟨b, off, rfl, hc⟩
  · exact .inl (by simp)
  · exact .inr ⟨b, off, rfl, fun i hi => by
      have hi' : i < xs.length := by have := List.length_take_le' m xs; omega
      rw [List.getElem_take]; exact hc i hi'⟩
theorem Cs.drop {w : World} {A : Option Addr} {xs : List Value} (m : Nat) (h : Cs w A xs) : Cs w (A.map (fun x => x.add m)) (xs.drop m) := by
  rcases h with rfl | ⟨b, off, rfl, hc⟩
  · exact .inl (by simp)
  · refine .inr ⟨b, off + m, ?_, fun i hi => ?_⟩
    · simp only [Option.map, Addr.add]; split
      · rename_i h0; rw [h0]; rfl
      · rfl
    · have hi' : m + i < xs.length := by rw [List.length_drop] at hi; omega
      rw [List.getElem_drop, Nat.add_assoc]; exact hc (m + i) hi'
theorem Byts.take {w : World} {A : Option Addr} {bs : List Int} (m : Nat) (h : Byts w A bs) : Byts w A (bs.take m) := by
  have := Cs.take m h; rw [yv, ← List.map_take] at this; exact this
theorem Byts.drop {w : World} {A : Option Addr} {bs : List Int} (m : Nat) (h : Byts w A bs) : Byts w (A.map (fun x => x.add m)) (bs.drop m) := by
  have := Cs.drop m h; rw [yv, ← List.map_drop] at this; exact this
/-- 'string(b)', run. -/
theorem str_run {P : Program} {w w' : World} {src dst e : TypeId} (hs : P.underlying src = some (.slice e)) (he : P.underlying e = some (.int .u8)) (hd : P.underlying dst = some .string) {A : Option Addr} {n c : Nat} {bs : List Int} (hl : bs.length = n) (hcs0 : Byts w A bs) (hb : Below w.heap.size w w') :
    (convert src dst (.slice A n c)).run P w' = .ok (.string (strOfNums bs)) w' := by
  have hcs : Byts w' A bs := Cs.to hcs0 hb
  rcases Nat.eq_zero_or_pos bs.length with h0 | h0
  · obtain rfl := List.eq_nil_of_length_eq_zero h0
    simp at hl; subst hl
    cases A with
    | none => rw [run_convert_bytes_nil w' src e hs he 0 c dst hd]; rfl
    | some ad =>
      obtain ⟨b, off, spot⟩ := ad
      rw [run_convert_bytes_string w' src dst e _ 0 c hs he hd]
      rfl
  · obtain ⟨b, off, rfl, hc⟩ := Byts.open hcs h0
    exact run_convert_bytes_arg w' src e hs he b off n c bs hl (fun i hi => by rw [hc i (by omega)]; simp [List.getD, show i < bs.length by omega]) dst hd
/-- A string's bytes as numbers. -/
def nums (s : ByteArray) : List Int := s.data.toList.map fun b => (b.toNat : Int)
@[simp] theorem nums_length (s : ByteArray) : (nums s).length = s.size := by rw [nums, List.length_map, Array.length_toList]; rfl
theorem nums_isB (s : ByteArray) : isB (nums s) := fun x hx => by
  obtain ⟨b, _, rfl⟩ := List.mem_map.1 hx
  have := b.toNat_lt
  omega
theorem nums_of {bs : List Int} (h : isB bs) : nums (strOfNums bs) = bs := by
  simp only [nums, strOfNums_data, List.map_map]
  refine (List.map_congr_left fun x hx => ?_).trans (List.map_id _)
  obtain ⟨h0, h1⟩ := h x hx
  simp only [Function.comp, id]
  rw [UInt8.toNat_ofNat']
  omega
theorem of_nums (s : ByteArray) : strOfNums (nums s) = s := by
  have : (strOfNums (nums s)).data.toList = s.data.toList := by
    rw [strOfNums_data, nums, List.map_map]
    refine (List.map_congr_left fun x hx => ?_).trans (List.map_id _)
    simp [Function.comp]
  cases s; cases h : strOfNums (nums _) ; rename_i a b
  rw [h] at this
  simp only at this
  rw [Array.toList_inj] at this
  subst this; rfl
theorem str_inj {a b : List Int} (ha : isB a) (hb : isB b) (h : strOfNums a = strOfNums b) : a = b := by rw [← nums_of ha, h, nums_of hb]
theorem str_eq {a b : List Int} (ha : isB a) (hb : isB b) : (strOfNums a = strOfNums b) ↔ a = b := ⟨str_inj ha hb, fun h => h ▸ rfl⟩
theorem strCells_yv (s : ByteArray) : Go.Lib.strCells s = yv (nums s) := by simp [Go.Lib.strCells, yv, nums]
theorem isB_append {a b : List Int} (ha : isB a) (hb : isB b) : isB (a ++ b) := fun x hx => (List.mem_append.1 hx).elim (ha x) (hb x)
theorem isB_take {a : List Int} (ha : isB a) (n : Nat) : isB (a.take n) := fun x hx => ha x (List.mem_of_mem_take hx)
theorem isB_drop {a : List Int} (ha : isB a) (n : Nat) : isB (a.drop n) := fun x hx => ha x (List.mem_of_mem_drop hx)

/-- 'out = append(out, s...)', out nil or the call's own bytes, s a string. -/
theorem wpList_appS {P : Program} {w : World} {ops : Array Oper} {rest : List Oper} {o : Oper} {a : Act} {Q : Exit → Act → World → Prop} (hg : o.guard = none) (s x : Operand) (t u : TypeId)
    (ho : o.op = .call { callee := .builtin .append, args := #[s, x], argTypes := #[t, u] })
    (B : Nat) (e : TypeId) (i : TypeInfo) (ht : P.underlying t = some (.slice e)) (hu : P.underlying u = some .string) (hi : P.info? e = some i) (hz : i.zero = some (.int .u8 0)) (hsize : i.size = 1) (hby : i.bytes = 1)
    (v : Value) (n : Nat) (xs : List Value) (hs : a.eval s = v) (hown : w.ownsRow B e 1 v n xs) (str : ByteArray) (hx : a.eval x = .string str)
    (h63 : n + str.size ≤ maxLen) (hbytes : n + str.size ≤ 140737488355328) (hB : B ≤ w.heap.size)
    (h : ∀ v' w', w'.ownsRow B e 1 v' (n + str.size) (xs ++ yv (nums str)) → Below B w w' → wpList P ops Q rest (a.put o.dst v') w') : wpList P ops Q (o :: rest) a w := by
  refine Go.Lib.wpList_append_own_string w hg s x t u ho B e i ht hu hi hz hsize hby v n xs hs hown str hx h63 hbytes hB (fun v' w' h2 h3 _ => h v' w' (by rw [strCells_yv] at h2; exact h2) ?_)
  refine ⟨h3.os, h3.tape, h3.output, h3.size, fun k hk => h3.block k (by omega) fun hk' => ?_⟩
  obtain ⟨_, ⟨rfl, _⟩ | ⟨g, cap, cur, rfl, hBg, _⟩⟩ := hown
  · simp [Value.ownBlock] at hk'
  · simp [Value.ownBlock] at hk'; omega

end Go.Proofs.YtaahgblkmajceaaGreat

set_option linter.unusedVariables false
namespace Go.Proofs.YtaahgblkmajceaaGreat
open Go.RowKit

theorem pv_one : ∀ (qs : List (Int × Int)) (u : Value), u ∈ pv qs → u.oneCell' = true
  | [], u, h => by simp [pv] at h
  | p :: qs, u, h => by
    simp only [pv, List.mem_cons] at h
    rcases h with rfl | rfl | h
    · rfl
    · rfl
    · exact pv_one qs u h
theorem pts_news {w : World} {ad : Addr} {qs : List (Int × Int)} (h : Pts w (some ad) qs) : ∀ j u, (pv qs)[j]? = some u → w.cell? (ad.add j) = some u := fun j u hj => by
  obtain ⟨hl, e⟩ := List.getElem?_eq_some_iff.1 hj
  rw [pv_length] at hl
  obtain ⟨b, off, hA, hc⟩ := Pts.open h (by omega)
  obtain rfl := Option.some.inj hA
  have e3 : (⟨b, off, none⟩ : Addr).add j = ⟨b, off + j, none⟩ := by
    simp only [Addr.add]; split
    · rename_i h0; rw [h0]; rfl
    · rfl
  rw [e3]
  obtain ⟨g1, g2⟩ := pv_get qs (j / 2) (by omega)
  obtain ⟨c1, c2⟩ := hc (j / 2) (by omega)
  rcases Nat.mod_two_eq_zero_or_one j with hm | hm
  · have e2 : j / 2 * 2 = j := by omega
    rw [e2] at g1 c1
    rw [g1] at hj
    cases hj
    exact c1
  · have e2 : j / 2 * 2 + 1 = j := by omega
    rw [e2] at g2
    rw [Nat.add_assoc, e2] at c2
    rw [g2] at hj
    cases hj
    exact c2
theorem wpList_appQ {P : Program} {w : World} {ops : Array Oper} {rest : List Oper} {o : Oper} {a : Act} {Q : Exit → Act → World → Prop} (hg : o.guard = none) (s x : Operand) (t : TypeId)
    (ho : o.op = .call { callee := .builtin .append, args := #[s, x], argTypes := #[t, t] })
    (B : Nat) (e : TypeId) (i : TypeInfo) (z : Value) (bytes : Nat) (ht : P.underlying t = some (.slice e)) (hi : P.info? e = some i) (hz : i.zero = some z) (hsize : i.size = 2) (hby : i.bytes = bytes) (hzs : z.cells.size = 2)
    (v : Value) (n : Nat) (xs : List Value) (hs : a.eval s = v) (hown : w.ownsRow B e 2 v n xs) (X : Option Addr) (m c : Nat) (qs : List (Int × Int)) (hx : a.eval x = .slice X m c) (hnil : X = none → c = 0) (hl : qs.length = m) (hps : Pts w X qs)
    (h63 : n + m ≤ maxLen) (hbytes : (n + m) * bytes ≤ 140737488355328) (hB : B ≤ w.heap.size)
    (h : ∀ v' w', w'.ownsRow B e 2 v' (n + m) (xs ++ pv qs) → Below B w w' → wpList P ops Q rest (a.put o.dst v') w') : wpList P ops Q (o :: rest) a w := by
  cases X with
  | none =>
    obtain rfl := hnil rfl
    have hn : qs = [] := by
      rcases hps with h | ⟨b, off, hA, _⟩
      · exact h
      · cases hA
    subst hn
    simp at hl; subst hl
    refine wpList_plain hg fun K hK' => ?_
    have hrun := run_append_owned_none (P := P) w B t o.type e i 2 ht hi v n xs hown
    unfold Oper.wp
    simp [execOp, ho, resolve, invoke, builtin, hs, hx, hrun, Result.andThen]
    exact hK' _ _ (h v w (by simpa [pv] using hown) (Below.refl _ _))
  | some ad =>
    refine wpList_append_own w hg s x t ho B e i z 2 bytes ht hi hz hsize hby hzs (by decide) v n xs hs hown ad m c (pv qs) hx (by rw [pv_length, hl]) (pts_news hps) (pv_one qs) h63 hbytes hB (fun v' w' h2 h3 _ => h v' w' h2 ?_)
    refine ⟨h3.os, h3.tape, h3.output, h3.size, fun k hk => h3.block k (by omega) fun hk' => ?_⟩
    obtain ⟨_, ⟨rfl, _⟩ | ⟨g, cap, cur, rfl, hBg, _⟩⟩ := hown
    · simp [Value.ownBlock] at hk'
    · simp [Value.ownBlock] at hk'; omega
theorem Pts.takeQ {w : World} {A : Option Addr} {ps : List (Int × Int)} (m : Nat) (h : Pts w A ps) : Pts w A (ps.take m) := by
  rcases h with rfl | ⟨b, off, rfl, hc⟩
  · exact .inl (by simp)
  · exact .inr ⟨b, off, rfl, fun i hi => by
      have hi' : i < ps.length := by have := List.length_take_le' m ps; omega
      simp only [List.getElem_take]
      exact hc i hi'⟩
theorem Pts.dropQ {w : World} {A : Option Addr} {ps : List (Int × Int)} {m cap : Nat} (hm : m ≤ ps.length) (hl : ps.length ≤ cap) (h : Pts w A ps) : Pts w (if cap = m then A else A.map (·.add (m * 2))) (ps.drop m) := by
  by_cases he : ps.length = m
  · exact .inl (by rw [← he]; exact List.drop_length)
  · rcases h with rfl | ⟨b, off, rfl, hc⟩
    · exact .inl (by simp)
    · rw [if_neg (by omega)]
      refine .inr ⟨b, off + m * 2, ?_, fun i hi => ?_⟩
      · simp only [Option.map, Addr.add]; split
        · rename_i h0; rw [h0]; rfl
        · rfl
      · have hi' : m + i < ps.length := by rw [List.length_drop] at hi; omega
        have := hc (m + i) hi'
        simp only [List.getElem_drop]
        rw [show off + m * 2 + i * 2 = off + (m + i) * 2 by omega]
        exact this
theorem nil_drop {A : Option Addr} {cap m : Nat} (hA : A = none → cap = 0) : (if cap = m then A else A.map (·.add (m * 2))) = none → cap - m = 0 := fun h => by
  split at h
  · omega
  · cases A with
    | none => have := hA rfl; omega
    | some a => cases h

end Go.Proofs.YtaahgblkmajceaaGreat

set_option linter.unusedVariables false
namespace Go.Proofs.YtaahgblkmajceaaGreat
open Go.RowKit

/-- A row of new memory. -/
def Fresh (B : Nat) (w : World) (A : Option Addr) (e : TypeId) (xs : List Value) : Prop := xs = [] ∨ ∃ b cur, A = some ⟨b, 0, none⟩ ∧ B ≤ b ∧ blk w b cur e ∧ ∀ i (h : i < xs.length), cur[i]? = some xs[i]
theorem Fresh.cs {B : Nat} {w : World} {A : Option Addr} {e : TypeId} {xs : List Value} (h : Fresh B w A e xs) : Cs w A xs := by
  rcases h with h | ⟨b, cur, rfl, _, k, hc⟩
  · exact .inl h
  · exact Cs.of_blk k hc
/-- 'append([]T{}, xs...)', elements of whatever size. -/
theorem wpList_app0 {P : Program} {w : World} {ops : Array Oper} {rest : List Oper} {o : Oper} {a : Act} {Q : Exit → Act → World → Prop} (hg : o.guard = none) (s x : Operand) (t : TypeId)
    (ho : o.op = .call { callee := .builtin .append, args := #[s, x], argTypes := #[t, t] })
    (e : TypeId) (i : TypeInfo) (z : Value) (sz bytes : Nat) (ht : P.underlying t = some (.slice e)) (hi : P.info? e = some i) (hz : i.zero = some z) (hsize : i.size = sz) (hby : i.bytes = bytes) (hzs : z.cells.size = sz) (hsz : 0 < sz)
    (ab : Addr) (hs : a.eval s = .slice (some ab) 0 0) (X : Option Addr) (m c : Nat) (news : List Value) (hx : a.eval x = .slice X m c) (hnil : X = none → c = 0) (hmc : m ≤ c) (hl : news.length = m * sz) (hcs : Cs w X news)
    (h63 : m ≤ maxLen) (hbytes : m * bytes ≤ 140737488355328)
    (h : ∀ A' cap' w', m ≤ cap' → cap' ≤ maxLen → (A' = none → cap' = 0) → Fresh w.heap.size w' A' e news → Below w.heap.size w w' → wpList P ops Q rest (a.put o.dst (.slice A' m cap')) w') : wpList P ops Q (o :: rest) a w := by
  refine wpList_plain hg fun K hK' => ?_
  rcases Nat.eq_zero_or_pos m with h0 | h0
  · subst h0
    have hn : news = [] := List.eq_nil_of_length_eq_zero (by omega)
    subst hn
    have hsrc : Src P i.size t (.slice X 0 c) 0 [] w := by
      cases X with
      | none => exact Src.ofNil w ht c
      | some ad => exact Src.ofSlice w ht ad 0 c [] (by simp) (fun j u hj => by simp at hj) (fun u hu => by cases hu)
    have hrun := run_append_nothing (P := P) w t t o.type e i ht hi (some ab) 0 0 (Nat.le_refl _) (.slice X 0 c) hsrc
    unfold Oper.wp
    simp [execOp, ho, resolve, invoke, builtin, hs, hx, hrun, Result.andThen]
    exact hK' _ _ (h (some ab) 0 w (Nat.le_refl _) (by decide) (fun h => by cases h) (.inl rfl) (Below.refl _ _))
  · cases X with
    | none => have := hnil rfl; omega
    | some ad =>
      have hfit : Builtin.nextslicecap (0 + m) 0 * i.bytes ≤ 281474976710656 := by rw [hby]; exact growslice_fits (by omega) (by rw [Nat.zero_add]; exact hbytes)
      have hml : maxLen ≤ 9223372036854775807 := by decide
      have hrun := run_append_grow (P := P) (w := w) t o.type e i z ht hi hz ab 0 0 [] (by simp) (fun j u hj => by simp at hj) ad m c news (by rw [hsize]; exact hl) (cs_at hcs) (by omega) (by omega) hfit
      rw [Nat.zero_add] at hrun
      have hge := grownCap_ge w m 0 e
      unfold Oper.wp
      simp [execOp, ho, resolve, invoke, builtin, hs, hx, hrun, Result.andThen]
      refine hK' _ _ (h (some ⟨w.heap.size, 0, none⟩) _ _ hge (grownCap_le_maxLen w m 0 e h63) (fun h => by cases h) ?_ (Below.alloc (Below.drew (Below.refl _ _)) (Nat.le_refl _) _))
      refine .inr ⟨w.heap.size, _, rfl, Nat.le_refl _, blk_new w.drew _ e, fun j hj => ?_⟩
      simp [Array.getElem?_append, hj]

/-- A block that is the same in two worlds of the same size: carried through growth and through stores elsewhere. -/
def Sm (b : Nat) (W W' : World) : Prop := W'.heap.size = W.heap.size ∧ W'.heap[b]? = W.heap[b]?
theorem sm_refl (b : Nat) (W : World) : Sm b W W := ⟨rfl, rfl⟩
theorem sm_gw {b : Nat} {W W' : World} {q : Gw} (h : Sm b W W') : Sm b (gw W q) (gw W' q) := by
  obtain ⟨h1, h2⟩ := h
  refine ⟨by simp [gw, h1], ?_⟩
  simp only [gw, Array.getElem?_append, h1, h2]
theorem sm_set {b c i : Nat} {v : Value} {W W' : World} (h : Sm b W W') (hn : b ≠ c) : Sm b W (W'.setCell ⟨c, i, none⟩ v) :=
  ⟨by rw [← h.1]; simp, by rw [← h.2]; exact Below.heap_setCell _ _ _ _ hn⟩
theorem sm_alloc {b : Nat} {w : World} {o o' : Obj} (hn : b ≠ w.heap.size) : Sm b (w.alloc o) (w.alloc o') :=
  ⟨by simp, by show (w.heap.push o')[b]? = (w.heap.push o)[b]?; rw [Array.getElem?_push, Array.getElem?_push, if_neg hn, if_neg hn]⟩
theorem blk_sm {b : Nat} {W W' : World} {c : Array Value} {t : TypeId} (h : Sm b W W') (k : blk W b c t) : blk W' b c t := h.2.trans k

theorem pts_sm {b off : Nat} {W W' : World} {ps : List (Int × Int)} (h : Sm b W W') (k : Pts W (some ⟨b, off, none⟩) ps) : Pts W' (some ⟨b, off, none⟩) ps := by
  rcases k with k | ⟨b', off', e, hc⟩
  · exact .inl k
  · cases e
    have e : ∀ i, W'.cell? ⟨b, i, none⟩ = W.cell? ⟨b, i, none⟩ := fun i => by unfold World.cell?; rw [h.2]
    exact .inr ⟨b, off, rfl, fun i hi => by rw [e, e]; exact hc i hi⟩

theorem pts_of_cs {w : World} {A : Option Addr} {ps : List (Int × Int)} (h : Cs w A (pv ps)) : Pts w A ps := by
  rcases Nat.eq_zero_or_pos ps.length with h0 | h0
  · exact .inl (List.eq_nil_of_length_eq_zero h0)
  · obtain ⟨b, off, rfl, hc⟩ := Cs.open h (by rw [pv_length]; omega)
    refine .inr ⟨b, off, rfl, fun i hi => ?_⟩
    have g := pv_get ps i hi
    have l0 : i * 2 < (pv ps).length := by rw [pv_length]; omega
    have l1 : i * 2 + 1 < (pv ps).length := by rw [pv_length]; omega
    have c0 := hc (i * 2) l0
    have c1 := hc (i * 2 + 1) l1
    rw [List.getElem?_eq_getElem l0, List.getElem?_eq_getElem l1] at g
    rw [Option.some.inj g.1] at c0
    rw [Option.some.inj g.2] at c1
    exact ⟨c0, by rw [Nat.add_assoc]; exact c1⟩
theorem cs_of_pts {w : World} {A : Option Addr} {ps : List (Int × Int)} (h : Pts w A ps) : Cs w A (pv ps) := by
  rcases h with rfl | ⟨b, off, rfl, hc⟩
  · exact .inl rfl
  · refine .inr ⟨b, off, rfl, fun i hi => ?_⟩
    rw [pv_length] at hi
    obtain ⟨c0, c1⟩ := hc (i / 2) (by omega)
    have g := pv_get ps (i / 2) (by omega)
    rcases (by omega : i = i / 2 * 2 ∨ i = i / 2 * 2 + 1) with e | e
    · have l0 : i / 2 * 2 < (pv ps).length := by rw [pv_length]; omega
      rw [List.getElem?_eq_getElem l0] at g
      rw [← Option.some.inj g.1] at c0
      generalize i / 2 * 2 = k at *
      subst e; exact c0
    · have l1 : i / 2 * 2 + 1 < (pv ps).length := by rw [pv_length]; omega
      rw [List.getElem?_eq_getElem l1] at g
      rw [← Option.some.inj g.2] at c1
      rw [Nat.add_assoc] at c1
      generalize i / 2 * 2 + 1 = k at *
      subst e; exact c1

end Go.Proofs.YtaahgblkmajceaaGreat

set_option linter.unusedVariables false
namespace Go.Proofs.YtaahgblkmajceaaGreat
open Go.RowKit

/-- The elements (n cells each) of the slice with this address say this. -/
def Els {F : Type} (w : World) (n : Nat) (Q : List Value → F → Prop) (A : Option Addr) (fs : List F) : Prop :=
  fs = [] ∨ ∃ b off, A = some ⟨b, off, none⟩ ∧ ∀ i (h : i < fs.length), ∃ cs : List Value, cs.length = n ∧ (∀ j, j < n → w.cell? ⟨b, off + i * n + j, none⟩ = cs[j]?) ∧ Q cs fs[i]

theorem list_choice {F : Type} {R : Nat → F → Prop} : ∀ n, (∀ i, i < n → ∃ f, R i f) → ∃ fs : List F, fs.length = n ∧ ∀ i (h : i < fs.length), R i fs[i]
  | 0, _ => ⟨[], rfl, fun i h => by simp at h⟩
  | n + 1, h => by
    obtain ⟨fs, hl, hf⟩ := list_choice n fun i hi => h i (by omega)
    obtain ⟨f, hr⟩ := h n (by omega)
    refine ⟨fs ++ [f], by simp [hl], fun i hi => ?_⟩
    rw [List.length_append, List.length_singleton] at hi
    by_cases c : i < fs.length
    · rw [List.getElem_append_left c]; exact hf i c
    · have e : i = fs.length := by omega
      subst e
      rw [List.getElem_append_right (by omega)]
      simp only [Nat.sub_self, List.getElem_singleton]
      rw [hl]; exact hr

section
open Go.ChangeShapes Go.WideShapes Go.Deep
variable {H : Type} {enc : TypeId × Value → H} {P : Program} {w : World} {base : Nat} {spare : Nat → Bool} {held : Bool}
/-- A slice, read: its elements one by one. -/
theorem rd_els {F : Type} {t e : TypeId} {fuel : Nat} {cs : List Value} {x : DataW H × List MemPlace} (n : Nat) (Q : List Value → F → Prop) (ht : P.underlying t = some (.slice e)) (hn : P.cellsOf e = n) (h1 : 0 < n)
    (hQ : ∀ m ci y, DataW.trod enc P w base spare held m e ci = some y → ∃ f, Q ci f) (h : DataW.trod enc P w base spare held fuel t cs = some x) :
    ∃ (A : Option Addr) (cap : Nat) (fs : List F), cs = [.slice A fs.length cap] ∧ fs.length ≤ cap ∧ cap ≤ maxLen ∧ Els w n Q A fs ∧ (A = none → cap = 0) := by
  rcases open_slice ht h with ⟨rfl, _⟩ | ⟨a, len, cap, m, n', D, Pl, rfl, hb, hl, hm, hmm, _, hx⟩
  · exact ⟨none, 0, [], rfl, Nat.le_refl _, by decide, .inl rfl, fun _ => rfl⟩
  rw [hn] at hx
  have hlm : len ≤ m := by rw [hmm]; split <;> omega
  obtain ⟨fs, hfl, hf⟩ := list_choice (R := fun i f => ∃ ci : List Value, ci.length = n ∧ (∀ j, j < n → w.cell? ((a.add (i * n)).add j) = ci[j]?) ∧ Q ci f) len fun i hi => by
    obtain ⟨ci, g1, g2⟩ := hx i (by omega)
    obtain ⟨_, g3, g4⟩ := World.cells?_some g1
    obtain ⟨f, hf⟩ := hQ _ _ _ g2
    exact ⟨f, ci, g3, g4, hf⟩
  refine ⟨some a, cap, fs, by rw [hfl], by omega, hm, ?_, fun h => by cases h⟩
  rcases Nat.eq_zero_or_pos fs.length with h0 | h0
  · exact .inl (List.eq_nil_of_length_eq_zero h0)
  obtain ⟨b, off, spot⟩ := a
  have hspot : spot = none := by
    obtain ⟨ci, k1, k2, _⟩ := hf 0 h0
    have k3 := k2 0 h1
    rw [Nat.zero_mul] at k3
    have e : (Addr.add (Addr.add ⟨b, off, spot⟩ 0) 0) = ⟨b, off, spot⟩ := rfl
    rw [e, List.getElem?_eq_getElem (by omega)] at k3
    unfold World.cell? at k3
    split at k3
    · split at k3
      · cases k3
      · rename_i hs; simpa using hs
    · cases k3
  subst hspot
  refine .inr ⟨b, off, rfl, fun i hi => ?_⟩
  obtain ⟨ci, k1, k2, k3⟩ := hf i hi
  refine ⟨ci, k1, fun j hj => ?_, k3⟩
  rw [← k2 j hj]
  have e : ∀ (o k : Nat), Addr.add ⟨b, o, none⟩ k = ⟨b, o + k, none⟩ := fun o k => by
    unfold Addr.add; split
    · rename_i hk; rw [hk]; rfl
    · rfl
  rw [e, e]

theorem len_2 {α : Type} {l : List α} (h : l.length = 2) : ∃ a b, l = [a, b] := by
  match l, h with
  | [a, b], _ => exact ⟨a, b, rfl⟩
theorem rd_pts {t e : TypeId} {f0 f1 : Field} {fuel : Nat} {cs : List Value} {x : DataW H × List MemPlace} (ht : P.underlying t = some (.slice e)) (he : P.underlying e = some (.struct #[f0, f1])) (ce : P.cellsOf e = 2) (o0 : f0.offset = 0) (o1 : f1.offset = 1) (c0 : P.cellsOf f0.type = 1) (c1 : P.cellsOf f1.type = 1)
    (i0 : P.underlying f0.type = some (.int .i64)) (i1 : P.underlying f1.type = some (.int .i64)) (h : DataW.trod enc P w base spare held fuel t cs = some x) :
    ∃ (A : Option Addr) (cap : Nat) (ps : List (Int × Int)), cs = [.slice A ps.length cap] ∧ ps.length ≤ cap ∧ cap ≤ maxLen ∧ Pts w A ps ∧ (A = none → cap = 0) := by
  obtain ⟨A, cap, ps, rfl, h1, h2, h3, h4⟩ := rd_els 2 (fun ci (p : Int × Int) => ci = [.int .i64 p.1, .int .i64 p.2]) ht ce (by decide) (fun m ci y hy => by
    obtain ⟨xs, n, _, _, hl, _, hf⟩ := DataW.trod_struct he hy
    rw [ce] at hl
    obtain ⟨a, b, rfl⟩ := len_2 hl
    have g0 := hf 0 f0 rfl
    have g1 := hf 1 f1 rfl
    rw [o0, c0] at g0
    rw [o1, c1] at g1
    have hx : xs.length = 2 := by assumption
    obtain ⟨z0, z1, rfl⟩ := len_2 hx
    obtain ⟨u, e0, _⟩ := DataW.trod_int i0 g0
    obtain ⟨v, e1, _⟩ := DataW.trod_int i1 g1
    simp at e0 e1
    exact ⟨(u, v), by rw [e0, e1]⟩) h
  refine ⟨A, cap, ps, rfl, h1, h2, ?_, h4⟩
  rcases h3 with h3 | ⟨b, off, rfl, hc⟩
  · exact .inl h3
  · refine .inr ⟨b, off, rfl, fun i hi => ?_⟩
    obtain ⟨ci, _, k, rfl⟩ := hc i hi
    exact ⟨k 0 (by decide), k 1 (by decide)⟩

/-- A struct's cells, read field by field. -/
theorem rd_struct {t : TypeId} {fs : Array Field} {fuel : Nat} {cs : List Value} {x : DataW H × List MemPlace} (ht : P.underlying t = some (.struct fs)) (h : DataW.trod enc P w base spare held fuel t cs = some x) :
    cs.length = P.cellsOf t ∧ ∀ (i : Nat) (f : Field), fs[i]? = some f → ∃ n y, DataW.trod enc P w base spare held n f.type ((cs.drop f.offset).take (P.cellsOf f.type)) = some y := by
  obtain ⟨xs, n, _, _, hl, hx, hf⟩ := DataW.trod_struct ht h
  refine ⟨hl, fun i f hi => ?_⟩
  have hlt := (Array.getElem?_eq_some_iff.1 hi).1
  exact ⟨n, xs[i]'(by omega), by rw [hf i f hi, List.getElem?_eq_getElem (by omega)]⟩
theorem rd_int {t : TypeId} {k : IntKind} {fuel : Nat} {cs : List Value} {x : DataW H × List MemPlace} (ht : P.underlying t = some (.int k)) (h : DataW.trod enc P w base spare held fuel t cs = some x) : ∃ n, cs = [.int k n] := by
  obtain ⟨n, e, _⟩ := DataW.trod_int ht h; exact ⟨n, e⟩
theorem rd_bool {t : TypeId} {fuel : Nat} {cs : List Value} {x : DataW H × List MemPlace} (ht : P.underlying t = some .bool) (h : DataW.trod enc P w base spare held fuel t cs = some x) : ∃ b, cs = [.bool b] := by
  obtain ⟨n, e, _⟩ := DataW.trod_bool ht h; exact ⟨n, e⟩
end

theorem Els.to {F : Type} {w w' : World} {n : Nat} {Q Q' : List Value → F → Prop} {A : Option Addr} {fs : List F} (h : Els w n Q A fs) (hn : 0 < n) (hQ : ∀ cs f, Q cs f → Q' cs f) (hb : Below w.heap.size w w') : Els w' n Q' A fs := by
  rcases h with h | ⟨b, off, hA, hc⟩
  · exact .inl h
  · refine .inr ⟨b, off, hA, fun i hi => ?_⟩
    obtain ⟨cs, k1, k2, k3⟩ := hc i hi
    have k4 := k2 0 hn
    rw [List.getElem?_eq_getElem (by omega)] at k4
    have hlt := World.block_lt_of_cell? w ⟨b, off + i * n + 0, none⟩ k4
    exact ⟨cs, k1, fun j hj => (hb.cell (p := ⟨b, off + i * n + j, none⟩) hlt).trans (k2 j hj), hQ _ _ k3⟩

end Go.Proofs.YtaahgblkmajceaaGreat

set_option linter.unusedVariables false
namespace Go.Proofs.YtaahgblkmajceaaGreat
open Go.RowKit

/-- 'out = append(out, T{..})', out nil or the call's own, elements of sz cells. -/
theorem wpList_appM {P : Program} {w : World} {ops : Array Oper} {rest : List Oper} {o : Oper} {a : Act} {Q : Exit → Act → World → Prop} (hg : o.guard = none) (s x : Operand) (t : TypeId)
    (ho : o.op = .call { callee := .builtin .append, args := #[s, x], argTypes := #[t, t] })
    (B : Nat) (e : TypeId) (i : TypeInfo) (z : Value) (sz bytes : Nat) (ht : P.underlying t = some (.slice e)) (hi : P.info? e = some i) (hz : i.zero = some z) (hsize : i.size = sz) (hby : i.bytes = bytes) (hzs : z.cells.size = sz) (hsz : 0 < sz)
    (v : Value) (n : Nat) (xs : List Value) (hs : a.eval s = v) (hown : w.ownsRow B e sz v n xs) (b : Nat) (ys : List Value) (te : TypeId) (hx : a.eval x = .slice (some ⟨b, 0, none⟩) 1 1) (hyl : ys.length = sz) (hy : blk w b ys.toArray te) (h1 : ∀ u ∈ ys, u.oneCell' = true)
    (h63 : n + 1 ≤ maxLen) (hbytes : (n + 1) * bytes ≤ 140737488355328) (hB : B ≤ w.heap.size)
    (h : ∀ v' w', w'.ownsRow B e sz v' (n + 1) (xs ++ ys) → Below B w w' → wpList P ops Q rest (a.put o.dst v') w') : wpList P ops Q (o :: rest) a w := by
  refine wpList_append_own_at w hg s x t ho B e i z sz bytes ht hi hz hsize hby hzs hsz v n xs hs hown ⟨b, 0, none⟩ 1 1 ys hx (by omega) (fun j u hj => ?_) h1 h63 hbytes hB (fun v' w' h2 h3 _ _ => h v' w' h2 ?_)
  · have hlt := (List.getElem?_eq_some_iff.1 hj).1
    have e : Addr.add ⟨b, 0, none⟩ j = ⟨b, j, none⟩ := by
      unfold Addr.add; split
      · rename_i h0; rw [h0]
      · simp
    rw [e, blk_cell hy]; simpa using hj
  · refine ⟨h3.os, h3.tape, h3.output, h3.size, fun k hk => h3.block k (by omega) fun hk' => ?_⟩
    obtain ⟨_, ⟨rfl, _⟩ | ⟨g, cap, cur, rfl, hBg, _⟩⟩ := hown
    · simp [Value.ownBlock] at hk'
    · simp [Value.ownBlock] at hk'; omega

theorem flat_get {F : Type} {c : F → List Value} {sz : Nat} (hc : ∀ f, (c f).length = sz) : ∀ (l : List F) (i : Nat) (h : i < l.length) (j : Nat), j < sz → (l.flatMap c)[i * sz + j]? = (c l[i])[j]?
  | [], i, h, _, _ => by simp at h
  | f :: l, 0, h, j, hj => by
    rw [List.flatMap_cons, Nat.zero_mul, Nat.zero_add, List.getElem?_append_left (by rw [hc]; exact hj)]; rfl
  | f :: l, i + 1, h, j, hj => by
    rw [List.flatMap_cons, List.getElem?_append_right (by rw [hc, Nat.succ_mul]; omega), hc, show (i + 1) * sz + j - sz = i * sz + j from by rw [Nat.succ_mul]; omega]
    exact flat_get hc l i (by simpa using h) j hj
theorem flat_len {F : Type} {c : F → List Value} {sz : Nat} (hc : ∀ f, (c f).length = sz) (l : List F) : (l.flatMap c).length = l.length * sz := by
  induction l with
  | nil => simp
  | cons f l ih => rw [List.flatMap_cons, List.length_append, hc, ih, List.length_cons, Nat.succ_mul, Nat.add_comm]

/-- An own row as elements. -/
theorem owns_els {F : Type} {c : F → List Value} {sz : Nat} (hc : ∀ f, (c f).length = sz) (hs : 0 < sz) {w : World} {B : Nat} {e : TypeId} {v : Value} {n : Nat} {l : List F} (h : w.ownsRow B e sz v n (l.flatMap c)) :
    ∃ A cap, v = .slice A l.length cap ∧ n = l.length ∧ l.length ≤ cap ∧ cap ≤ maxLen ∧ Els w sz (fun cs f => cs = c f) A l ∧ (A = none → cap = 0) := by
  have hn : n = l.length := by
    obtain ⟨hl, _⟩ := h
    rw [flat_len hc] at hl
    exact Nat.eq_of_mul_eq_mul_right hs hl.symm
  subst hn
  obtain ⟨hl, ⟨rfl, h0⟩ | ⟨g, cap, cur, rfl, hb, hh, hn, hm, hcz, ht⟩⟩ := h
  · have : l = [] := List.eq_nil_of_length_eq_zero h0
    subst this
    exact ⟨none, 0, rfl, rfl, Nat.le_refl _, by decide, .inl rfl, fun _ => rfl⟩
  · refine ⟨_, cap, rfl, rfl, hn, hm, ?_, fun h => by cases h⟩
    refine .inr ⟨g, 0, rfl, fun i hi => ⟨c l[i], hc _, fun j hj => ?_, rfl⟩⟩
    have hk : blk w g cur e := hh
    rw [Nat.zero_add, blk_cell hk, ← flat_get hc l i hi j hj, ← ht, List.getElem?_take]
    have : i * sz + j < l.length * sz := by
      have : (i + 1) * sz ≤ l.length * sz := Nat.mul_le_mul_right _ hi
      rw [Nat.succ_mul] at this; omega
    rw [if_pos this]; simp

end Go.Proofs.YtaahgblkmajceaaGreat
