/- Chapter 21: maps whose values are bool: from IDs, from pairs.
Chapter 21, the landed code: Sort.
Chapter 21: own rows of entries and pairs as run equations: elements, slices of them. -/
import Derived.Test.YtaahgblkmajceaaGreatSpB
import Derived.Maps.Own
import Derived.Maps.OwnSet
import Derived.Maps.Views
import Derived.DeepKeys4
import Derived.Test.YtaahgblkmajceaaGreatBg2
import Derived.Deep.DeepCutAuto
import Derived.Laws.Slices

set_option linter.unusedVariables false
set_option linter.unusedSimpArgs false
namespace Go.Proofs.YtaahgblkmajceaaGreat
open Go.RowKit Fx Go.Maps

def boolE : Value → Option (DataW Unit × List MemPlace)
  | .bool b => some (.lit (.int .u64 (if b then 1 else 0)), [])
  | _ => none
def bcode (b : Bool) : DataW Unit := .lit (.int .u64 (if b then 1 else 0))
theorem boolE_mk (b : Bool) : boolE (.bool b) = some (bcode b, []) := rfl
theorem boolE_inv {v : Value} {b : Bool} {ps : List MemPlace} (h : boolE v = some (bcode b, ps)) : v = .bool b := by
  unfold boolE at h
  split at h
  · rename_i c
    cases b <;> cases c <;> simp [bcode] at h <;> rfl
  · cases h

structure KeyT (T : TypeId) {K : Type} (kv : K → Value) (kl : K → Lit) (ok : K → Prop) : Prop where
  keyed : Keyed Tryz.prog T
  key : ∀ x, ok x → keyOf Tryz.prog T (kv x) = some (kl x)
  vinj : ∀ x y, kv x = kv y → x = y
theorem KeyT.inj {T : TypeId} {K : Type} {kv : K → Value} {kl : K → Lit} {ok : K → Prop} (h : KeyT T kv kl ok) {x y : K} (hx : ok x) (hy : ok y) (e : kl x = kl y) : x = y :=
  h.vinj x y (h.keyed.inj (h.key x hx) (e ▸ h.key y hy))
def BMap {K : Type} (T : TypeId) (kl : K → Lit) (ok : K → Prop) (w : World) (b : Nat) (F : K → Bool) (n : Nat) : Prop := ∃ D : DataW Unit, w.ownsMap Tryz.prog T boolE b n D ∧ ∀ x, ok x → D.atKey (kl x) (bcode false) = bcode (F x)
theorem BMap.lt {K : Type} {T : TypeId} {kl : K → Lit} {ok : K → Prop} {w : World} {b : Nat} {F : K → Bool} {n : Nat} (h : BMap T kl ok w b F n) : b < w.heap.size := by obtain ⟨D, h1, _⟩ := h; exact h1.lt
theorem BMap.new {K : Type} (T : TypeId) (kl : K → Lit) (ok : K → Prop) (w : World) : BMap T kl ok (w.alloc (.map #[] 0)) w.heap.size (fun _ => false) 0 := ⟨.map [], World.ownsMap_made _ _ _ _, fun x _ => rfl⟩
theorem BMap.kept {K : Type} {T : TypeId} {kl : K → Lit} {ok : K → Prop} {w w' : World} {b : Nat} {F : K → Bool} {n : Nat} (h : BMap T kl ok w b F n) (hk : w'.heap[b]? = w.heap[b]?) : BMap T kl ok w' b F n := by
  obtain ⟨D, ⟨es, clock, hb, r⟩, h2⟩ := h
  exact ⟨D, ⟨es, clock, hk.trans hb, r⟩, h2⟩
theorem BMap.to {K : Type} {T : TypeId} {kl : K → Lit} {ok : K → Prop} {w w' : World} {b : Nat} {F : K → Bool} {n : Nat} (h : BMap T kl ok w b F n) (hb : Below w.heap.size w w') : BMap T kl ok w' b F n := h.kept (hb.block b h.lt)
theorem BMap.grown {K : Type} {T : TypeId} {kl : K → Lit} {ok : K → Prop} {w w' : World} {b : Nat} {F : K → Bool} {n : Nat} {row : Option Nat} (h : BMap T kl ok w b F n) (hg : w.grownBy w' row) (hne : row ≠ some b) : BMap T kl ok w' b F n := h.kept (hg.block b h.lt (fun e => hne e.symm))
theorem BMap.look {K : Type} {T MT BT : TypeId} {kv : K → Value} {kl : K → Lit} {ok : K → Prop} (hT : KeyT T kv kl ok) (ht : Tryz.prog.underlying MT = some (.map T BT)) (hz : ∀ w, (zeroValue BT).run Tryz.prog w = .ok (.bool false) w) {w : World} {b : Nat} {F : K → Bool} {n : Nat} (h : BMap T kl ok w b F n) {x : K} (hx : ok x) :
    (Instr.lookup MT (.map (some b)) (kv x) false).run Tryz.prog w = .ok (.bool (F x)) w := by
  obtain ⟨D, h1, h2⟩ := h
  obtain ⟨v, ps, e1, e2⟩ := h1.lookup hT.keyed ht (hz w) (boolE_mk false) (hT.key x hx)
  rw [h2 x hx] at e2
  rw [e1, boolE_inv e2]
theorem BMap.put {K : Type} [DecidableEq K] {T MT BT : TypeId} {kv : K → Value} {kl : K → Lit} {ok : K → Prop} (hT : KeyT T kv kl ok) (ht : Tryz.prog.underlying MT = some (.map T BT)) {w : World} {b : Nat} {F : K → Bool} {n : Nat} (h : BMap T kl ok w b F n) {x : K} (hx : ok x) (hn : n ≤ 1000000) :
    ∃ w', (Instr.mapUpdate MT (.map (some b)) (kv x) (.bool true)).run Tryz.prog w = .ok () w' ∧ BMap T kl ok w' b (fun y => decide (y = x) || F y) (n + 1) ∧ w.grownBy w' (some b) := by
  obtain ⟨D, h1, h2⟩ := h
  obtain ⟨w', e1, e2, e3⟩ := h1.update hT.keyed ht (by unfold maxLen; omega) (hT.key x hx) (boolE_mk true)
  refine ⟨w', e1, ⟨_, e2, fun y hy => ?_⟩, e3⟩
  dsimp only
  by_cases hj : y = x
  · subst hj; simp only [decide_true, Bool.true_or]; exact atKey_put_same h1.isMap (hT.keyed.key (hT.key y hy)) _ _
  · rw [decide_eq_false hj, Bool.false_or, ← h2 y hy]; exact atKey_put_other (fun e => hj (hT.inj hy hx e)) _ _

theorem zbool (w : World) : (zeroValue 4).run Tryz.prog w = .ok (.bool false) w := by kernel_rfl

def kvI (i : Int) : Value := .int .i64 i
def klI (i : Int) : Lit := .int .i64 i
theorem keyI : KeyT 3 kvI klI i64k := ⟨int_keyed (q := .i64) (by kernel_rfl), fun x hx => keyOf_int_mk (by kernel_rfl) (i64_wf hx), fun x y h => by simpa [kvI] using h⟩
theorem umI : Tryz.prog.underlying 102 = some (.map 3 4) := by kernel_rfl

def kvP (p : Pr) : Value := .agg #[.int .i64 p.1, .int .i64 p.2]
def klP (p : Pr) : Lit := .string (keyBytes [.int .i64 p.1, .int .i64 p.2])
def okP (p : Pr) : Prop := i64k p.1 ∧ i64k p.2

theorem keyP_of (p : Pr) (h : okP p) : keyOf Tryz.prog 49 (kvP p) = some (klP p) := by
  obtain ⟨a, b⟩ := p
  have ha := i64_wf h.1
  have hb := i64_wf h.2
  have hc : Tryz.prog.cellsOf 3 = 1 := by kernel_rfl
  have hc2 : Tryz.prog.cellsOf 49 = 2 := by kernel_rfl
  have hk : Tryz.prog.keyType 49 = true := by kernel_rfl
  have hs : Tryz.prog.types.size = (Tryz.prog.types.size - 1) + 1 := by kernel_rfl
  have hf : (kvP (a, b)).formed Tryz.prog 49 = true := by
    simp [Value.formed, kvP, hc2, Tryz.underlying49, Tryz.underlying3]
  have hl : Tryz.prog.keyLits (Tryz.prog.types.size + 1) 49 (kvP (a, b)).cells.toList = some [.int .i64 a, .int .i64 b] := by
    rw [hs]
    generalize Tryz.prog.types.size - 1 = m
    simp only [Program.keyLits, Tryz.underlying49, kvP, Value.cells, hc2, hc]
    simp [Program.keyLits, Tryz.underlying3, List.range_succ, ha, hb]
  unfold keyOf
  rw [Tryz.underlying49]
  simp only [hk, hf, hl, Bool.and_self, if_true]
  rfl

theorem keyP : KeyT 49 kvP klP okP := ⟨Keyed.of_law (deep_law_laid (by kernel_rfl) (m := 2) (by decide) (of_decide_eq_true (by kernel_rfl)) (by kernel_rfl) (by kernel_rfl)), keyP_of, fun x y h => by
  unfold kvP at h
  simp at h
  exact Prod.ext h.1 h.2⟩

end Go.Proofs.YtaahgblkmajceaaGreat

set_option linter.unusedVariables false
set_option linter.unusedSimpArgs false
namespace Go.Proofs.YtaahgblkmajceaaGreat
open Go.RowKit Fx Go.Maps

theorem wpList_app21 {P : Program} {w : World} {ops : Array Oper} {rest : List Oper} {o : Oper} {a : Act} {Q : Exit → Act → World → Prop} (hg : o.guard = none) (s x : Operand) (t : TypeId)
    (ho : o.op = .call { callee := .builtin .append, args := #[s, x], argTypes := #[t, t] })
    (B : Nat) (e : TypeId) (i : TypeInfo) (z : Value) (sz bytes : Nat) (ht : P.underlying t = some (.slice e)) (hi : P.info? e = some i) (hz : i.zero = some z) (hsize : i.size = sz) (hby : i.bytes = bytes) (hzs : z.cells.size = sz) (hsz : 0 < sz)
    (v : Value) (n : Nat) (xs : List Value) (hs : a.eval s = v) (hown : w.ownsRow B e sz v n xs) (b : Nat) (ys : List Value) (te : TypeId) (hx : a.eval x = .slice (some ⟨b, 0, none⟩) 1 1) (hyl : ys.length = sz) (hy : blk w b ys.toArray te) (h1 : ∀ u ∈ ys, u.oneCell' = true)
    (h63 : n + 1 ≤ maxLen) (hbytes : (n + 1) * bytes ≤ 140737488355328) (hB : B ≤ w.heap.size)
    (h : ∀ v' w', w'.ownsRow B e sz v' (n + 1) (xs ++ ys) → Below B w w' → w.grownBy w' v.ownBlock → (v'.ownBlock = v.ownBlock ∨ v'.ownBlock = some w.heap.size) → wpList P ops Q rest (a.put o.dst v') w') : wpList P ops Q (o :: rest) a w := by
  refine wpList_append_own_at w hg s x t ho B e i z sz bytes ht hi hz hsize hby hzs hsz v n xs hs hown ⟨b, 0, none⟩ 1 1 ys hx (by omega) (fun j u hj => ?_) h1 h63 hbytes hB (fun v' w' h2 h3 _ h5 => h v' w' h2 ?_ h3 h5)
  · have hlt := (List.getElem?_eq_some_iff.1 hj).1
    have e : Addr.add ⟨b, 0, none⟩ j = ⟨b, j, none⟩ := by
      unfold Addr.add; split
      · rename_i h0; rw [h0]
      · simp
    rw [e, blk_cell hy]; simpa using hj
  · refine ⟨h3.os, h3.tape, h3.output, h3.size, fun k hk => h3.block k (by omega) fun hk' => ?_⟩
    obtain ⟨_, ⟨rfl, _⟩ | ⟨g, cap, cur, rfl, hBg, _⟩⟩ := hown
    · simp [Value.ownBlock] at hk'
    · simp [Value.ownBlock] at hk'; omega

theorem info_ent : (Tryz.prog.info? 46).map (fun i => (i.zero, i.size, i.bytes)) = some (some (.agg #[.int .i64 0, .int .i64 0, .int .i64 0, .int .i64 0, .int .i64 0]), 5, 40) := by kernel_rfl

theorem owns_grown21 {w w' : World} {row : Option Nat} {B k n : Nat} {e : TypeId} {v : Value} {xs : List Value} (h : w.ownsRow B e k v n xs) (hg : w.grownBy w' row) (hne : row = none ∨ v.ownBlock ≠ row) : w'.ownsRow B e k v n xs :=
  owns_but (S := fun k => row = some k) h ⟨hg.os, hg.tape, hg.output, hg.size, fun k hk hn => hg.block k hk (fun e => hn e.symm)⟩ fun k hk hh => by
    rcases hne with h1 | h1
    · rw [h1] at hh; cases hh
    · exact h1 (hk.trans hh.symm)

def hasI (o : Bxs) (i : Int) : Bool := o.any fun e => e.1 == i
theorem hasI_yes {o : Bxs} {i : Int} (h : hasI o i = true) : ∃ x ∈ o, x.1 = i := by simpa [hasI] using h
theorem hasI_no {o : Bxs} {i : Int} (h : hasI o i = false) : ∀ x ∈ o, x.1 ≠ i := by
  intro x hx e
  have : hasI o i = true := by unfold hasI; rw [List.any_eq_true]; exact ⟨x, hx, by simp [e]⟩
  rw [h] at this; cases this
theorem hasI_snoc (o : Bxs) (e : En) (i : Int) : hasI (o ++ [e]) i = (decide (i = e.1) || hasI o i) := by
  unfold hasI; rw [List.any_append, Bool.or_comm]; congr 1
  by_cases h : e.1 = i
  · simp [h]
  · have h2 : (e.1 == i) = false := by simpa using h
    have h3 : decide (i = e.1) = false := by simpa using fun e' => h (Eq.symm e')
    simp [h2, h3]
theorem hasI_fun (o : Bxs) (e : En) : (fun y => decide (y = e.1) || hasI o y) = hasI (o ++ [e]) := funext fun y => (hasI_snoc o e y).symm
theorem BMap.congr {K : Type} {T : TypeId} {kl : K → Lit} {ok : K → Prop} {w : World} {b : Nat} {F G : K → Bool} {n : Nat} (h : BMap T kl ok w b F n) (e : F = G) : BMap T kl ok w b G n := e ▸ h

set_option maxRecDepth 100000 in
set_option maxHeartbeats 8000000 in
theorem sort21_b (A : Option Addr) (cap : Nat) (l : List En) (hl : l.length ≤ 100000) (hk64 : ∀ e ∈ l, i64k e.1) (w : World) (ha : Ents w A l) : Calls Tryz.prog 36 #[.slice A l.length cap] w fun e w' => (∃ v, e = .returned v ∧ w'.ownsRow w.heap.size 46 5 v (srE (cnt l)).length (ev (srE (cnt l)))) ∧ Below w.heap.size w w' := by
  have hk64' : Hid (∀ e ∈ l, i64k e.1) := hk64
  clear hk64
  obtain ⟨i0, hi, hz0, hz1, hz2⟩ := info_parts info_ent
  have hmm := @run_makeMap Tryz.prog
  go_enter Tryz.func36, Tryz.ntmps36
  go_upto_region 3 with fail
  refine wp_named ?_
  intro W hW
  have hbW : Below w.heap.size w W := by rw [hW]; exact bBel
  have hM0 : BMap 3 klI i64k W w.heap.size (hasI (cnt (l.take 0))) 0 := by rw [hW]; exact (BMap.new 3 klI i64k w).congr (funext fun y => by simp [hasI, cnt])
  clear hW hmm
  obtain ⟨mb, hmb⟩ : ∃ mb, Hid (w.heap.size = mb) := ⟨_, rfl⟩
  have hM1 := hM0
  have hmle : Hid (mb ≤ w.heap.size ∧ w.heap.size ≤ mb) := by have := hmb.out; exact ⟨by omega, by omega⟩
  have hszW := hbW.size
  go_wp2_with fail
  go_loopw [3, 10] (fun c i wr => ∃ k n : Nat, k ≤ l.length ∧ n ≤ k ∧ i = .int .i64 (k : Int) ∧ wr.ownsRow w.heap.size 46 5 c (cnt (l.take k)).length (ev (cnt (l.take k))) ∧ BMap 3 klI i64k wr w.heap.size (hasI (cnt (l.take k))) n ∧ Below w.heap.size w wr ∧ c.ownBlock ≠ some w.heap.size) (fun _ i _ => l.length - (intOf i).toNat)
  case atStart => exact ⟨0, 0, by omega, by omega, rfl, World.ownsRow_nil _ _ _ _, hM0, hbW, by simp [Value.ownBlock]⟩
  case round =>
    obtain ⟨k, n, hk, hnk, rfl, hown, hM, hbR, hne⟩ := hrel
    have hszR := hbR.size
    have hMlt := hM.lt
    by_cases hlt : k < l.length
    · have hkk : i64k l[k].1 := hk64'.out _ (List.getElem_mem hlt)
      obtain ⟨b, off, rfl, hbl, hc⟩ := ents_open (ha.to hbR) (by omega)
      obtain ⟨ob, d0, d1, d2, d3, d4⟩ := hc k hlt wr (Below.refl _ _)
      have hst : Hid (cnt (l.take (k + 1)) = stepC (cnt (l.take k)) l[k]) := cnt_take hlt
      have hcl := cnt_take_len l k
      clear hc
      generalize l[k] = e at *
      obtain ⟨i, x0, y0, x1, y1⟩ := e
      dsimp only at d0 d1 d2 d3 d4 hkk
      cases hv : val4 x0 y0 x1 y1 with
      | false =>
        have hst2 : Hid (cnt (l.take (k + 1)) = cnt (l.take k)) := by show _ = _; rw [hst.out, stepC_no (.inl (show Bx.val ⟨x0, y0, x1, y1⟩ = false from hv))]
        clear hst
        go_wp2_with (go_at_call 51; refine Calls.mono (gw_at (boolIs (xval_b x0 y0 x1 y1 _) hv)) ?_; rintro e w1 ⟨rfl, q, rfl⟩)
        have hb2 : Below wr.heap.size wr (gw ((wr.alloc (.cells #[.int .i64 i, .int .i64 x0, .int .i64 y0, .int .i64 x1, .int .i64 y1] 46))) q) := bBel
        refine ⟨⟨k + 1, n, by omega, by omega, by go_num, ?_, ?_, Below.trans hbR (hb2.mono hszR), hne⟩, by (try go_num); simp [intOf]; (try omega)⟩
        · rw [hst2.out]; exact owns_below hown hb2
        · rw [hst2.out]; exact hM.to hb2
      | true =>
        go_upto_region 6 with fail
        refine wp_named ?_
        intro X hX
        have kE : blk X wr.heap.size #[.int .i64 i, .int .i64 x0, .int .i64 y0, .int .i64 x1, .int .i64 y1] 46 := by rw [hX]; exact bBkn
        have hbX : Below wr.heap.size wr X := by rw [hX]; exact bBel
        clear hX d0 d1 d2 d3 d4 ob
        have hszX := hbX.size
        have hMX := hM.to hbX
        have hownX := owns_below hown hbX
        clear hM hown
        have okE := blk_older kE
        have ckE_0 : _ = some _ := blk_cell kE 0
        have ckE_1 : _ = some _ := blk_cell kE 1
        have ckE_2 : _ = some _ := blk_cell kE 2
        have ckE_3 : _ = some _ := blk_cell kE 3
        have ckE_4 : _ = some _ := blk_cell kE 4
        have fkE_0 := blk_free kE 0
        have fkE_1 := blk_free kE 1
        have fkE_2 := blk_free kE 2
        have fkE_3 := blk_free kE 3
        have fkE_4 := blk_free kE 4
        have hlook : ∀ q : Gw, (Instr.lookup 102 (.map (some w.heap.size)) (.int .i64 i) false).run Tryz.prog (gw X q) = .ok (.bool (hasI (cnt (l.take k)) i)) (gw X q) := fun q => BMap.look keyI umI zbool (hMX.to (below_gw X q)) hkk
        cases hh : hasI (cnt (l.take k)) i with
        | true =>
          have hst2 : Hid (cnt (l.take (k + 1)) = cnt (l.take k)) := by show _ = _; rw [hst.out, stepC_no (e := (i, ⟨x0, y0, x1, y1⟩)) (.inr (hasI_yes hh))]
          rw [hh] at hlook
          clear hst
          go_wp2_with (go_at_call 51; refine Calls.mono (gw_at (boolIs (xval_b x0 y0 x1 y1 _) hv)) ?_; rintro e w1 ⟨rfl, q, rfl⟩)
          have hb2 : Below X.heap.size X (gw X q) := below_gw X q
          refine ⟨⟨k + 1, n, by omega, by omega, by go_num, ?_, ?_, Below.trans hbR (Below.trans hbX (hb2.mono hszX) |>.mono hszR), hne⟩, by (try go_num); simp [intOf]; (try omega)⟩
          · rw [hst2.out]; exact owns_below hownX hb2
          · rw [hst2.out]; exact hMX.to hb2
        | false =>
          have hst2 : Hid (cnt (l.take (k + 1)) = cnt (l.take k) ++ [(i, ⟨x0, y0, x1, y1⟩)]) := by show _ = _; rw [hst.out, stepC_yes (e := (i, ⟨x0, y0, x1, y1⟩)) (show Bx.val ⟨x0, y0, x1, y1⟩ = true from hv) (hasI_no hh)]
          rw [hh] at hlook
          clear hst
          go_upto_region 7 with (go_at_call 51; refine Calls.mono (gw_at (boolIs (xval_b x0 y0 x1 y1 _) hv)) ?_; rintro e w1 ⟨rfl, q, rfl⟩)
          refine wp_named ?_
          intro Y hY
          have hbXY : Below X.heap.size X Y := by rw [hY]; exact bBel
          clear hY hlook
          obtain ⟨Z, hput0, hMZ, hgZ⟩ := BMap.put keyI umI (hMX.to hbXY) hkk (by omega)
          have hput : (Instr.mapUpdate 102 (.map (some w.heap.size)) (.int .i64 i) (.bool true)).run Tryz.prog Y = .ok () Z := hput0
          have kEY := blk_below hbXY kE
          have hownY := owns_below hownX hbXY
          have hbY : Below w.heap.size w Y := Below.trans hbR ((Below.trans hbX (hbXY.mono hszX)).mono hszR)
          have hbZ : Below w.heap.size w Z := ⟨hgZ.os.trans hbY.os, hgZ.tape.trans hbY.tape, hgZ.output.trans hbY.output, Nat.le_trans hbY.size hgZ.size, fun k' hk' => (hgZ.block k' (Nat.lt_of_lt_of_le hk' hbY.size) (by simp; omega)).trans (hbY.block k' hk')⟩
          have hszY := hbXY.size
          have hlw := blk_lt kE
          clear okE kE hownX hMX hput0
          have okEY := blk_older kEY
          have ckEY_0 : _ = some _ := blk_cell kEY 0
          have ckEY_1 : _ = some _ := blk_cell kEY 1
          have ckEY_2 : _ = some _ := blk_cell kEY 2
          have ckEY_3 : _ = some _ := blk_cell kEY 3
          have ckEY_4 : _ = some _ := blk_cell kEY 4
          have fkEY_0 := blk_free kEY 0
          have fkEY_1 := blk_free kEY 1
          have fkEY_2 := blk_free kEY 2
          have fkEY_3 := blk_free kEY 3
          have fkEY_4 := blk_free kEY 4
          go_upto_region 8 with fail
          have kEZ := blk_grown20 hgZ kEY (by simp; have := hbR.size; omega)
          have hownZ := owns_grown21 hownY hgZ (.inr hne)
          clear okEY kEY hownY hput hgZ
          have okEZ := blk_older kEZ
          have ckEZ_0 : _ = some _ := blk_cell kEZ 0
          have ckEZ_1 : _ = some _ := blk_cell kEZ 1
          have ckEZ_2 : _ = some _ := blk_cell kEZ 2
          have ckEZ_3 : _ = some _ := blk_cell kEZ 3
          have ckEZ_4 : _ = some _ := blk_cell kEZ 4
          have fkEZ_0 := blk_free kEZ 0
          have fkEZ_1 := blk_free kEZ 1
          have fkEZ_2 := blk_free kEZ 2
          have fkEZ_3 := blk_free kEZ 3
          have fkEZ_4 := blk_free kEZ 4
          have hszZ := hbZ.size
          go_wp2_with (at_builtin; refine wpList_app21 rfl _ _ 38 rfl w.heap.size 46 i0 (.agg #[.int .i64 0, .int .i64 0, .int .i64 0, .int .i64 0, .int .i64 0]) 5 40 (by kernel_rfl) hi hz0 hz1 hz2 rfl (by decide) _ _ _ rfl (owns_below hownZ bBel) _ [.int .i64 i, .int .i64 x0, .int .i64 y0, .int .i64 x1, .int .i64 y1] 46 rfl rfl bBkn (by intro u hu; simp at hu; rcases hu with rfl | rfl | rfl | rfl | rfl <;> rfl) (by unfold maxLen; omega) (by omega) (by first | (simp; omega) | omega) ?_; intro v' w2 hown2 hb2 hg2 ho2)
          have hne2 : v'.ownBlock ≠ some w.heap.size := by
            rcases ho2 with e | e
            · rw [e]; exact hne
            · rw [e]; simp; omega
          have hM2 : BMap 3 klI i64k w2 w.heap.size (hasI (cnt (l.take (k + 1)))) (n + 1) := by
            rw [hst2.out]
            exact ((hMZ.to ((Below.refl _ Z).alloc (Nat.le_refl _) _)).grown hg2 hne).congr (hasI_fun (cnt (l.take k)) (i, ⟨x0, y0, x1, y1⟩))
          refine ⟨⟨k + 1, n + 1, by omega, by omega, by go_num, ?_, hM2, Below.trans (Below.alloc hbZ hszZ _) hb2, hne2⟩, by (try go_num); simp [intOf]; (try omega)⟩
          rw [hst2.out, ev_snoc, List.length_append]; exact hown2
    · obtain rfl : k = l.length := by omega
      rw [List.take_length] at hown
      have hnn := cnt_len l
      have hownS := own_hid hown
      clear hown
      go_wp2_with (go_at_call 52; refine Calls.mono (sortE_b w.heap.size _ (cnt l) _ (by omega) (cnt_dst l) hownS.out) ?_; rintro e w1 ⟨rfl, hown1, hb1, -⟩)
      go_ret
      refine ⟨⟨_, rfl, ?_⟩, Below.trans hbR hb1⟩
      rw [srE_len (cnt_dst l)]; exact hown1

end Go.Proofs.YtaahgblkmajceaaGreat

set_option linter.unusedVariables false
set_option linter.unusedSimpArgs false
namespace Go.Proofs.YtaahgblkmajceaaGreat
open Go.RowKit Fx

theorem addN21 (b o k : Nat) : Addr.add ⟨b, o, none⟩ k = ⟨b, o + k, none⟩ := by
  unfold Addr.add; split
  · rename_i hk; rw [hk]; rfl
  · rfl
section
variable {P : Program} {SL E : TypeId} {w : World} {B sz n : Nat} {v : Value} {xs : List Value}
theorem sized21 {i : TypeInfo} (hi : P.info? E = some i) (hs : i.size = sz) (W : World) : (sizeOf E).run P W = .ok sz W := by
  subst hs
  simp [sizeOf, typeInfo, hi]
theorem own_at21 {g cap : Nat} {cur : Array Value} (hg : w.heap[g]? = some (.cells cur E (0, 0))) (k : Nat) : w.cell? ⟨g, k, none⟩ = cur[k]? := cell_of_row w g k cur E (0, 0) hg
theorem own_lo21 (hu : P.underlying SL = some (.slice E)) {i : TypeInfo} (hi : P.info? E = some i) (hs : i.size = sz) (h : w.ownsRow B E sz v n xs) (k : Nat) (hk : k ≤ n) (j : Int) (hj : j = (k : Int)) : ∃ A' c', (∀ W, (Instr.slice SL v (some (.int .i64 j)) none none).run P W = .ok (.slice A' (n - k) c') W) ∧ (∀ W, (Instr.sliceAt SL v (some (.int .i64 j)) none none).run P W = .ok (.slice A' (n - k) c') W) ∧ (A' = none → c' = 0) ∧ n - k ≤ c' ∧ Cs w A' (xs.drop (k * sz)) := by
  subst hj
  have hu' : P.underlying SL = some (.slice (P.elem SL)) := by rw [hu]; simp [Program.elem, hu]
  have he : P.elem SL = E := by rw [hu] at hu'; simpa using hu'.symm
  have h2 : ∀ A c W, (Instr.slice SL (.slice A n c) (some (.int .i64 (k : Int))) none none).run P W = .ok (sliced A k n c sz) W := fun A c W => by
    rw [run_slice_l W SL A n c hu' .i64 (k : Int) (by omega) (by omega), he, sized21 hi hs]; simp [Result.andThen]
  obtain ⟨h1, ⟨rfl, rfl⟩ | ⟨g, cap, cur, rfl, hb, hg, hnc, hm, hsz, htk⟩⟩ := h
  · obtain rfl : k = 0 := by omega
    have h3 := h2 none 0
    refine ⟨none, 0, fun W => by rw [h3]; rfl, fun W => by rw [run_sliceAt_slice W SL _ _ _ _ hu', h3]; rfl, fun _ => rfl, by omega, .inl ?_⟩
    simp at h1; simp [h1]
  · have h3 := h2 (some ⟨g, 0, none⟩) cap
    by_cases hck : cap = k
    · obtain rfl : k = n := by omega
      refine ⟨some ⟨g, 0, none⟩, cap - k, fun W => by rw [h3]; simp [sliced, hck], fun W => by rw [run_sliceAt_slice W SL _ _ _ _ hu', h3]; simp [sliced, hck], fun h => (by cases h), by omega, .inl ?_⟩
      rw [List.drop_of_length_le (by omega)]
    · refine ⟨some ⟨g, k * sz, none⟩, cap - k, fun W => by rw [h3]; simp [sliced, hck, addN21], fun W => by rw [run_sliceAt_slice W SL _ _ _ _ hu', h3]; simp [sliced, hck, addN21], fun h => (by cases h), by omega, .inr ⟨g, k * sz, rfl, fun j hj => ?_⟩⟩
      rw [cell_of_row w g _ cur E (0, 0) hg]
      subst htk
      have hj' := hj
      rw [List.length_drop, h1] at hj'
      rw [List.getElem_drop, List.getElem_take, Array.getElem_toList, Array.getElem?_eq_getElem]
theorem own_hi21 (hu : P.underlying SL = some (.slice E)) {i : TypeInfo} (hi : P.info? E = some i) (hs : i.size = sz) (h : w.ownsRow B E sz v n xs) (k : Nat) (hk : k ≤ n) (j : Int) (hj : j = (k : Int)) : ∃ A' c', (∀ W, (Instr.slice SL v none (some (.int .i64 j)) none).run P W = .ok (.slice A' k c') W) ∧ (∀ W, (Instr.sliceAt SL v none (some (.int .i64 j)) none).run P W = .ok (.slice A' k c') W) ∧ (A' = none → c' = 0) ∧ k ≤ c' ∧ Cs w A' (xs.take (k * sz)) := by
  subst hj
  have hu' : P.underlying SL = some (.slice (P.elem SL)) := by rw [hu]; simp [Program.elem, hu]
  have he : P.elem SL = E := by rw [hu] at hu'; simpa using hu'.symm
  have h2 : ∀ A c W, k ≤ c → (Instr.slice SL (.slice A n c) none (some (.int .i64 (k : Int))) none).run P W = .ok (sliced A 0 k c sz) W := fun A c W hc => by
    rw [run_slice_h W SL A n c hu' .i64 (k : Int) (by omega) (by omega), he, sized21 hi hs]; simp [Result.andThen]
  obtain ⟨h1, ⟨rfl, rfl⟩ | ⟨g, cap, cur, rfl, hb, hg, hnc, hm, hsz, htk⟩⟩ := h
  · obtain rfl : k = 0 := by omega
    have h3 := fun W => h2 none 0 W (Nat.le_refl _)
    refine ⟨none, 0, fun W => by rw [h3]; rfl, fun W => by rw [run_sliceAt_slice W SL _ _ _ _ hu', h3]; rfl, fun _ => rfl, by omega, .inl ?_⟩
    simp
  · have h3 := fun W => h2 (some ⟨g, 0, none⟩) cap W (by omega)
    refine ⟨some ⟨g, 0, none⟩, cap, fun W => by rw [h3]; simp [sliced, addN21], fun W => by rw [run_sliceAt_slice W SL _ _ _ _ hu', h3]; simp [sliced, addN21], fun h => (by cases h), by omega, .inr ⟨g, 0, rfl, fun j hj => ?_⟩⟩
    rw [cell_of_row w g _ cur E (0, 0) hg]
    subst htk
    rw [List.getElem_take, List.getElem_take, Array.getElem_toList, Array.getElem?_eq_getElem]
    · simp
    · rw [List.length_take, List.length_take, Array.length_toList] at hj; omega
end

theorem u_se : Tryz.prog.underlying 38 = some (.slice 46) := by kernel_rfl

theorem sz_se (w : World) : (sizeOf 46).run Tryz.prog w = .ok 5 w := by kernel_rfl

theorem ents_ix {SL E : TypeId} (hu : Tryz.prog.underlying SL = some (.slice E)) (hz : ∀ W, (sizeOf E).run Tryz.prog W = .ok 5 W) {w : World} {B : Nat} {v : Value} {L : Bxs} (h : w.ownsRow B E 5 v L.length (ev L)) {k : Nat} (hk : k < L.length) : ∃ g, v.ownBlock = some g ∧ (∀ W, (Instr.indexAt SL v (.int .i64 (k : Int))).run Tryz.prog W = .ok (.pointer (some ⟨g, k * 5, none⟩)) W) ∧ ∀ w', Below w.heap.size w w' → older g w' = true ∧ w'.cell? ⟨g, k * 5, none⟩ = some (.int .i64 L[k].1) ∧ w'.cell? ⟨g, k * 5 + 1, none⟩ = some (.int .i64 L[k].2.x0) ∧ w'.cell? ⟨g, k * 5 + 2, none⟩ = some (.int .i64 L[k].2.y0) ∧ w'.cell? ⟨g, k * 5 + 3, none⟩ = some (.int .i64 L[k].2.x1) ∧ w'.cell? ⟨g, k * 5 + 4, none⟩ = some (.int .i64 L[k].2.y1) := by
  obtain ⟨g, h1, h2, h3, h4⟩ := row_ix hu hz h hk (ev_len L)
  refine ⟨g, h2, h3, fun w' hb => ?_⟩
  have q := fun j (hj : j < 5) => (h4 j hj).trans (flat_get (c := ec) ec_len L k hk j hj)
  have a := q 0 (by decide)
  have b := q 1 (by decide)
  have c := q 2 (by decide)
  have d := q 3 (by decide)
  have e := q 4 (by decide)
  rw [Nat.add_zero] at a
  exact ⟨older_iff.2 (Nat.lt_of_lt_of_le h1 hb.size), (hb.cell (p := ⟨g, k * 5, none⟩) h1).trans a, (hb.cell (p := ⟨g, k * 5 + 1, none⟩) h1).trans b, (hb.cell (p := ⟨g, k * 5 + 2, none⟩) h1).trans c, (hb.cell (p := ⟨g, k * 5 + 3, none⟩) h1).trans d, (hb.cell (p := ⟨g, k * 5 + 4, none⟩) h1).trans e⟩

theorem ents_lo {SL E : TypeId} (hu : Tryz.prog.underlying SL = some (.slice E)) {i : TypeInfo} (hi : Tryz.prog.info? E = some i) (hs : i.size = 5) {w : World} {B : Nat} {v : Value} {L : Bxs} (h : w.ownsRow B E 5 v L.length (ev L)) (k : Nat) (hk : k ≤ L.length) (j : Int) (hj : j = (k : Int)) : ∃ A2 c2, (∀ W, (Instr.slice SL v (some (.int .i64 j)) none none).run Tryz.prog W = .ok (.slice A2 (L.length - k) c2) W) ∧ Ents w A2 (L.drop k) ∧ ∀ b off, A2 = some ⟨b, off, none⟩ → k < L.length → v.ownBlock = some b := by
  obtain ⟨A2, c2, h1, h2, h3, h4, h5⟩ := own_lo21 hu hi hs h k hk j hj
  have hlen : (ev L).drop (k * 5) = ev (L.drop k) := by
    have : ∀ (k : Nat) (L : Bxs), k ≤ L.length → (ev L).drop (k * 5) = ev (L.drop k) := by
      intro k
      induction k with
      | zero => intro L _; simp
      | succ k ih =>
        intro L hL
        cases L with
        | nil => simp at hL
        | cons x L =>
          have := ih L (by simpa using hL)
          rw [show (k + 1) * 5 = 5 + k * 5 by omega, ← List.drop_drop]
          simp only [ev, List.flatMap_cons] at this ⊢
          rw [List.drop_left' (ec_len x)]
          simpa using this
    exact this k L hk
  rw [hlen] at h5
  refine ⟨A2, c2, h1, ?_, ?_⟩
  · rcases h5 with h | ⟨b, off, rfl, hc⟩
    · refine .inl ?_
      have h6 : (ev (L.drop k)).length = 0 := by rw [h]; rfl
      rw [ev_len] at h6
      exact List.eq_nil_of_length_eq_zero (by omega)
    · refine .inr ⟨b, off, rfl, fun i hi => ⟨ec (L.drop k)[i], ec_len _, fun j hj => ?_, rfl⟩⟩
      have hlt : i * 5 + j < (ev (L.drop k)).length := by rw [ev_len]; omega
      have h7 := hc (i * 5 + j) hlt
      have h8 := flat_get (c := ec) ec_len (L.drop k) i hi j hj
      rw [← Nat.add_assoc] at h7
      rw [h7, ← h8]
      exact (List.getElem?_eq_getElem hlt).symm
  · rintro b off rfl hkl
    obtain ⟨_, ⟨rfl, h0⟩ | ⟨g, cap, cur, rfl, hb, hg, hnc, hm, hsz, htk⟩⟩ := id h
    · omega
    · have hu' : Tryz.prog.underlying SL = some (.slice (Tryz.prog.elem SL)) := by rw [hu]; simp [Program.elem, hu]
      have he : Tryz.prog.elem SL = E := by rw [hu] at hu'; simpa using hu'.symm
      have h9 := h1 w
      subst hj
      rw [run_slice_l w SL (some ⟨g, 0, none⟩) L.length cap hu' .i64 (k : Int) (by omega) (by omega), he, sized21 hi hs] at h9
      have hck : ¬ cap = k := by omega
      simp [Result.andThen, sliced, hck, addN21] at h9
      simp [Value.ownBlock, h9]

end Go.Proofs.YtaahgblkmajceaaGreat
