/- Slices of bytes and strings in memory; append from whatever slice. No program is imported. -/
import Derived.Test.YtmdnbmekbhljkaaRow
import Derived.Laws.AppendOwnNone
import Derived.Laws.BytesArg
import Derived.Deep.AppendSrc
import Derived.Lib.AppendStr
set_option linter.unusedVariables false
namespace Go.Proofs.Ytmdnbmekbhljkaa
open Go.RowKit

/-- Bytes as cells. -/
def yv (bs : List Int) : List Value := bs.map (Value.int .u8)
@[simp] theorem yv_length (bs : List Int) : (yv bs).length = bs.length := by simp [yv]
theorem yv_append (a b : List Int) : yv (a ++ b) = yv a ++ yv b := by simp [yv]
theorem yv_one (bs : List Int) : ∀ u ∈ yv bs, u.oneCell' = true := fun u hu => by
  obtain ⟨_, _, rfl⟩ := List.mem_map.1 hu; rfl
abbrev Byts (w : World) (A : Option Addr) (bs : List Int) : Prop := Cs w A (yv bs)
theorem Byts.open {w : World} {A : Option Addr} {bs : List Int} (h : Byts w A bs) (h0 : 0 < bs.length) : ∃ b off, A = some ⟨b, off, none⟩ ∧ ∀ i (h : i < bs.length), w.cell? ⟨b, off + i, none⟩ = some (.int .u8 bs[i]) := by
  obtain ⟨b, off, hA, hc⟩ := Cs.open h (by simpa using h0)
  exact ⟨b, off, hA, fun i hi => by rw [hc i (by simpa using hi)]; simp [yv]⟩
/-- All are bytes. -/
def isB (bs : List Int) : Prop := ∀ x ∈ bs, 0 ≤ x ∧ x < 256

theorem owns_mono {w : World} {B B' : Nat} {e : TypeId} {size n : Nat} {v : Value} {xs : List Value} (h : w.ownsRow B e size v n xs) (hB : B' ≤ B) : w.ownsRow B' e size v n xs := by
  obtain ⟨hl, h | ⟨g, cap, cur, h1, h2, h3⟩⟩ := h
  · exact ⟨hl, .inl h⟩
  · exact ⟨hl, .inr ⟨g, cap, cur, h1, Nat.le_trans hB h2, h3⟩⟩
/-- An own row as a slice: where it lies, and its cells. -/
theorem owns_sl {w : World} {B : Nat} {e : TypeId} {v : Value} {n : Nat} {xs : List Value} (h : w.ownsRow B e 1 v n xs) : ∃ A cap, v = .slice A n cap ∧ n ≤ cap ∧ cap ≤ maxLen ∧ (A = none → cap = 0) ∧ Cs w A xs := by
  obtain ⟨A, cap, rfl, h1, h2, h3⟩ := owns_cs h
  refine ⟨A, cap, rfl, h1, h2, fun hA => ?_, h3⟩
  obtain ⟨_, ⟨h4, _⟩ | ⟨g, _, _, h4, _⟩⟩ := h
  · simp at h4; exact h4.2.2
  · simp [hA] at h4
theorem owns_lit {w : World} {b : Nat} {e : TypeId} {xs : List Value} {B n : Nat} (h : blk w b xs.toArray e) (hn : xs.length = n) (hB : B ≤ b) (hm : n ≤ maxLen) : w.ownsRow B e 1 (.slice (some ⟨b, 0, none⟩) n n) n xs := by
  subst hn
  exact ⟨by simp, .inr ⟨b, xs.length, xs.toArray, rfl, hB, h, Nat.le_refl _, hm, by simp, by simp⟩⟩
theorem owns_nil (w : World) (B : Nat) (e : TypeId) : w.ownsRow B e 1 (.slice none 0 0) 0 [] := World.ownsRow_nil _ _ _ _
/-- An empty slice that is not nil (a literal []T{}). -/
theorem cs_at {w : World} {ad : Addr} {xs : List Value} (h : Cs w (some ad) xs) : ∀ j u, xs[j]? = some u → w.cell? (ad.add j) = some u := fun j u hj => by
  obtain ⟨hl, e⟩ := List.getElem?_eq_some_iff.1 hj
  obtain ⟨b, off, hA, hc⟩ := Cs.open h (by omega)
  obtain rfl := Option.some.inj hA
  have := hc j hl
  rw [e] at this
  rw [← this]
  unfold Addr.add; split
  · rename_i h0; subst h0; rfl
  · rfl

/-- 'out = append(out, xs...)', out nil or the call's own, elements of one cell, xs whatever slice. -/
theorem wpList_appN {P : Program} {w : World} {ops : Array Oper} {rest : List Oper} {o : Oper} {a : Act} {Q : Exit → Act → World → Prop} (hg : o.guard = none) (s x : Operand) (t : TypeId)
    (ho : o.op = .call { callee := .builtin .append, args := #[s, x], argTypes := #[t, t] })
    (B : Nat) (e : TypeId) (i : TypeInfo) (z : Value) (bytes : Nat) (ht : P.underlying t = some (.slice e)) (hi : P.info? e = some i) (hz : i.zero = some z) (hsize : i.size = 1) (hby : i.bytes = bytes) (hzs : z.cells.size = 1)
    (v : Value) (n : Nat) (xs : List Value) (hs : a.eval s = v) (hown : w.ownsRow B e 1 v n xs) (X : Option Addr) (m c : Nat) (news : List Value) (hx : a.eval x = .slice X m c) (hnil : X = none → c = 0) (hl : news.length = m) (hcs : Cs w X news) (h1 : ∀ u ∈ news, u.oneCell' = true)
    (h63 : n + m ≤ maxLen) (hbytes : (n + m) * bytes ≤ 140737488355328) (hB : B ≤ w.heap.size)
    (h : ∀ v' w', w'.ownsRow B e 1 v' (n + m) (xs ++ news) → Below B w w' → wpList P ops Q rest (a.put o.dst v') w') : wpList P ops Q (o :: rest) a w := by
  cases X with
  | none =>
    obtain rfl := hnil rfl
    have hn : news = [] := by
      rcases hcs with h | ⟨b, off, hA, _⟩
      · exact h
      · cases hA
    subst hn
    simp at hl; subst hl
    refine wpList_plain hg fun K hK' => ?_
    have hrun := run_append_owned_none (P := P) w B t o.type e i 1 ht hi v n xs hown
    unfold Oper.wp
    simp [execOp, ho, resolve, invoke, builtin, hs, hx, hrun, Result.andThen]
    exact hK' _ _ (h v w (by simpa using hown) (Below.refl _ _))
  | some ad =>
    refine wpList_append_own w hg s x t ho B e i z 1 bytes ht hi hz hsize hby hzs (by decide) v n xs hs hown ad m c news hx (by omega) (cs_at hcs) h1 h63 hbytes hB (fun v' w' h2 h3 _ => h v' w' h2 ?_)
    refine ⟨h3.os, h3.tape, h3.output, h3.size, fun k hk => h3.block k (by omega) fun hk' => ?_⟩
    obtain ⟨_, ⟨rfl, _⟩ | ⟨g, cap, cur, rfl, hBg, _⟩⟩ := hown
    · simp [Value.ownBlock] at hk'
    · simp [Value.ownBlock] at hk'; omega

/-- 'string(b)'. -/
theorem wpList_str {P : Program} {w : World} {ops : Array Oper} {rest : List Oper} {o : Oper} {a : Act} {Q : Exit → Act → World → Prop} (hg : o.guard = none) (src dst : TypeId) (x : Operand) (ho : o.op = .convert src dst x) (e : TypeId)
    (hs : P.underlying src = some (.slice e)) (he : P.underlying e = some (.int .u8)) (hd : P.underlying dst = some .string) (A : Option Addr) (n c : Nat) (bs : List Int) (hx : a.eval x = .slice A n c) (hl : bs.length = n) (hcs : Byts w A bs)
    (h : wpList P ops Q rest (a.put o.dst (.string (strOfNums bs))) w) : wpList P ops Q (o :: rest) a w := by
  refine wpList_plain hg fun K hK' => ?_
  have hrun : (convert src dst (.slice A n c)).run P w = .ok (.string (strOfNums bs)) w := by
    rcases Nat.eq_zero_or_pos bs.length with h0 | h0
    · obtain rfl := List.eq_nil_of_length_eq_zero h0
      simp at hl; subst hl
      cases A with
      | none => rw [run_convert_bytes_nil w src e hs he 0 c dst hd]; rfl
      | some ad =>
        obtain ⟨b, off, spot⟩ := ad
        rw [run_convert_bytes_string w src dst e _ 0 c hs he hd]
        rfl
    · obtain ⟨b, off, rfl, hc⟩ := Byts.open hcs h0
      exact run_convert_bytes_arg w src e hs he b off n c bs hl (fun i hi => by rw [hc i (by omega)]; simp [List.getD, show i < bs.length by omega]) dst hd
  unfold Oper.wp
  simp [execOp, ho, hx, hrun, Result.andThen]
  exact hK' _ _ h

theorem Cs.take {w : World} {A : Option Addr} {xs : List Value} (m : Nat) (h : Cs w A xs) : Cs w A (xs.take m) := by
  rcases h with rfl | ⟨b, off, rfl, hc⟩
  · exact .inl (by simp)
  · exact .inr ⟨b, off, rfl, fun i hi => by
      have hi' : i < xs.length := by have := List.length_take_le' m xs; omega
      rw [List.getElem_take]; exact hc i hi'⟩
theorem Cs.drop {w : World} {A : Option Addr} {xs : List Value} (m : Nat) (h : Cs w A xs) : Cs w (A.map (fun x => x.add m)) (xs.drop m) := by
  rcases h with rfl | ⟨b, off, rfl, hc⟩
  · exact .inl (by simp)
  · refine .inr ⟨b, off + m, ?_, fun i hi => ?_⟩
    · simp only [Option.map, Addr.add]; split
      · rename_i h0; rw [h0]; rfl
      · rfl
    · have hi' : m + i < xs.length := by rw [List.length_drop] at hi; omega
      rw [List.getElem_drop, Nat.add_assoc]; exact hc (m + i) hi'
theorem Byts.take {w : World} {A : Option Addr} {bs : List Int} (m : Nat) (h : Byts w A bs) : Byts w A (bs.take m) := by
  have := Cs.take m h; rw [yv, ← List.map_take] at this; exact this
theorem Byts.drop {w : World} {A : Option Addr} {bs : List Int} (m : Nat) (h : Byts w A bs) : Byts w (A.map (fun x => x.add m)) (bs.drop m) := by
  have := Cs.drop m h; rw [yv, ← List.map_drop] at this; exact this
/-- 'string(b)', run. -/
theorem str_run {P : Program} {w w' : World} {src dst e : TypeId} (hs : P.underlying src = some (.slice e)) (he : P.underlying e = some (.int .u8)) (hd : P.underlying dst = some .string) {A : Option Addr} {n c : Nat} {bs : List Int} (hl : bs.length = n) (hcs0 : Byts w A bs) (hb : Below w.heap.size w w') :
    (convert src dst (.slice A n c)).run P w' = .ok (.string (strOfNums bs)) w' := by
  have hcs : Byts w' A bs := Cs.to hcs0 hb
  rcases Nat.eq_zero_or_pos bs.length with h0 | h0
  · obtain rfl := List.eq_nil_of_length_eq_zero h0
    simp at hl; subst hl
    cases A with
    | none => rw [run_convert_bytes_nil w' src e hs he 0 c dst hd]; rfl
    | some ad =>
      obtain ⟨b, off, spot⟩ := ad
      rw [run_convert_bytes_string w' src dst e _ 0 c hs he hd]
      rfl
  · obtain ⟨b, off, rfl, hc⟩ := Byts.open hcs h0
    exact run_convert_bytes_arg w' src e hs he b off n c bs hl (fun i hi => by rw [hc i (by omega)]; simp [List.getD, show i < bs.length by omega]) dst hd
/-- A string's bytes as numbers. -/
def nums (s : ByteArray) : List Int := s.data.toList.map fun b => (b.toNat : Int)
@[simp] theorem nums_length (s : ByteArray) : (nums s).length = s.size := by rw [nums, List.length_map, Array.length_toList]; rfl
theorem nums_isB (s : ByteArray) : isB (nums s) := fun x hx => by
  obtain ⟨b, _, rfl⟩ := List.mem_map.1 hx
  have := b.toNat_lt
  omega
theorem nums_of {bs : List Int} (h : isB bs) : nums (strOfNums bs) = bs := by
  simp only [nums, strOfNums_data, List.map_map]
  refine (List.map_congr_left fun x hx => ?_).trans (List.map_id _)
  obtain ⟨h0, h1⟩ := h x hx
  simp only [Function.comp, id]
  rw [UInt8.toNat_ofNat']
  omega
theorem of_nums (s : ByteArray) : strOfNums (nums s) = s := by
  have : (strOfNums (nums s)).data.toList = s.data.toList := by
    rw [strOfNums_data, nums, List.map_map]
    refine (List.map_congr_left fun x hx => ?_).trans (List.map_id _)
    simp [Function.comp]
  cases s; cases h : strOfNums (nums _) ; rename_i a b
  rw [h] at this
  simp only at this
  rw [Array.toList_inj] at this
  subst this; rfl
theorem str_inj {a b : List Int} (ha : isB a) (hb : isB b) (h : strOfNums a = strOfNums b) : a = b := by rw [← nums_of ha, h, nums_of hb]
theorem str_eq {a b : List Int} (ha : isB a) (hb : isB b) : (strOfNums a = strOfNums b) ↔ a = b := ⟨str_inj ha hb, fun h => h ▸ rfl⟩
theorem strCells_yv (s : ByteArray) : Go.Lib.strCells s = yv (nums s) := by simp [Go.Lib.strCells, yv, nums]
theorem isB_append {a b : List Int} (ha : isB a) (hb : isB b) : isB (a ++ b) := fun x hx => (List.mem_append.1 hx).elim (ha x) (hb x)
theorem isB_take {a : List Int} (ha : isB a) (n : Nat) : isB (a.take n) := fun x hx => ha x (List.mem_of_mem_take hx)
theorem isB_drop {a : List Int} (ha : isB a) (n : Nat) : isB (a.drop n) := fun x hx => ha x (List.mem_of_mem_drop hx)

/-- 'out = append(out, s...)', out nil or the call's own bytes, s a string. -/
theorem wpList_appS {P : Program} {w : World} {ops : Array Oper} {rest : List Oper} {o : Oper} {a : Act} {Q : Exit → Act → World → Prop} (hg : o.guard = none) (s x : Operand) (t u : TypeId)
    (ho : o.op = .call { callee := .builtin .append, args := #[s, x], argTypes := #[t, u] })
    (B : Nat) (e : TypeId) (i : TypeInfo) (ht : P.underlying t = some (.slice e)) (hu : P.underlying u = some .string) (hi : P.info? e = some i) (hz : i.zero = some (.int .u8 0)) (hsize : i.size = 1) (hby : i.bytes = 1)
    (v : Value) (n : Nat) (xs : List Value) (hs : a.eval s = v) (hown : w.ownsRow B e 1 v n xs) (str : ByteArray) (hx : a.eval x = .string str)
    (h63 : n + str.size ≤ maxLen) (hbytes : n + str.size ≤ 140737488355328) (hB : B ≤ w.heap.size)
    (h : ∀ v' w', w'.ownsRow B e 1 v' (n + str.size) (xs ++ yv (nums str)) → Below B w w' → wpList P ops Q rest (a.put o.dst v') w') : wpList P ops Q (o :: rest) a w := by
  refine Go.Lib.wpList_append_own_string w hg s x t u ho B e i ht hu hi hz hsize hby v n xs hs hown str hx h63 hbytes hB (fun v' w' h2 h3 _ => h v' w' (by rw [strCells_yv] at h2; exact h2) ?_)
  refine ⟨h3.os, h3.tape, h3.output, h3.size, fun k hk => h3.block k (by omega) fun hk' => ?_⟩
  obtain ⟨_, ⟨rfl, _⟩ | ⟨g, cap, cur, rfl, hBg, _⟩⟩ := hown
  · simp [Value.ownBlock] at hk'
  · simp [Value.ownBlock] at hk'; omega

end Go.Proofs.Ytmdnbmekbhljkaa
