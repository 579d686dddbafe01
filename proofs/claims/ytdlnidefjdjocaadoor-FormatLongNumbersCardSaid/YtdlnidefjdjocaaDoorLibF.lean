/- What Go's library gives in this program, in the words of these files: strconv.Itoa, strings.CutPrefix, CutSuffix, Split at one byte, Join with a blank; and how a range over a string steps. -/
import Derived.Test.YtdlnidefjdjocaaDoorLibR
import Derived.Test.YtdlnidefjdjocaaDoorFmU
import Derived.Test.YtdlnidefjdjocaaDoorFixFT
import Derived.Lib.SmallJoins
import Derived.Lib.AppendIntMem
import Derived.Lib.OthersKept
set_option linter.unusedVariables false
namespace Go.Proofs.YtdlnidefjdjocaaDoor
open Go.RowKit Fm

/-- The library's table of powers of ten holds what its text lays. -/
def Tb (w : World) : Prop := Lib.TabIs Tryd.prog w "internal/strconv.uint64pow10" .u64 Lib.pow10Tab

theorem Tb.to {w w' : World} (h : Tb w) (hb : Below w.heap.size w w') : Tb w' :=
  Joins.tab_stays (g := 0) (by kernel_rfl) h hb (Nat.le_refl _)

theorem itoa_b (n : Int) (h0 : -9223372036854775808 ≤ n) (h1 : n ≤ 9223372036854775807) (w : World) (hT : Tb w) : Calls Tryd.prog 30 #[.int .i64 n] w fun e w' => e = .returned (.string (strOfNums (fmt n))) ∧ Below w.heap.size w w' := by
  refine Calls.mono (Any.strconv_Itoa lib_M171 n h0 h1 w hT) ?_
  rintro e w' ⟨rfl, k, os, rfl⟩
  exact ⟨by rw [itoa_fmt], Lib.below_grow _ w (Nat.le_refl _) k os⟩

theorem cutp_b (bs : List Int) (hB : isB bs) (w : World) : Calls Tryd.prog 40 #[.string (strOfNums bs), .string { data := #[45] }] w fun e w' => e = .returned (.tuple #[.string (strOfNums (if bs.head? = some 45 then bs.tail else bs)), .bool (decide (bs.head? = some 45))]) ∧ Below w.heap.size w w' := by
  refine Calls.mono (Any.strings_CutPrefix lib_103 (strOfNums bs) { data := #[45] } w) ?_
  rintro e w' ⟨rfl, rfl⟩
  obtain ⟨e1, e2⟩ := cut_pre hB 45
  exact ⟨by rw [show ({ data := #[45] } : ByteArray).data.toList = [45] from rfl, e1, e2]; rfl, Below.refl _ _⟩

theorem cuts_b (c : UInt8) (bs : List Int) (hB : isB bs) (hl : bs.length ≤ 1000000) (w : World) : Calls Tryd.prog 31 #[.string (strOfNums bs), .string { data := #[c] }] w fun e w' => e = .returned (.tuple #[.string (strOfNums (if bs.getLast? = some (c.toNat : Int) then bs.dropLast else bs)), .bool (decide (bs.getLast? = some (c.toNat : Int)))]) ∧ Below w.heap.size w w' := by
  refine Calls.mono (Any.strings_CutSuffix lib_104 (strOfNums bs) { data := #[c] } w (by rw [strOfNums_size]; omega)) ?_
  rintro e w' ⟨rfl, rfl⟩
  obtain ⟨e1, e2⟩ := cut_suf hB c
  exact ⟨by rw [show ({ data := #[c] } : ByteArray).data.toList = [c] from rfl, e1, e2], Below.refl _ _⟩

theorem gens_b (c : UInt8) (bs : List Int) (hB : isB bs) (hl : bs.length ≤ 1000000) (w : World) : Calls Tryd.prog 44 #[.string (strOfNums bs), .string { data := #[c] }, .int .i64 0, .int .i64 (-1)] w fun e w' => (∃ v, e = .returned v ∧ w'.ownsRow w.heap.size 9 1 v (sp c.toNat bs).length (sv (strs (sp c.toNat bs)))) ∧ Below w.heap.size w w' := by
  have hsz : (strOfNums bs).size = bs.length := strOfNums_size bs
  have h1 : 1 ≤ ({ data := #[c] } : ByteArray).size := Nat.le_refl _
  have hle := Lib.countB_le { data := #[c] } h1 _ (strOfNums bs) (Nat.le_refl _)
  have hlen := Lib.splitB_all { data := #[c] } h1 0 _ (strOfNums bs) rfl
  have hC := Any.strings_Count_one (P := Tryd.prog) (ρ := libRen) { lib_221 with } (strOfNums bs) c w
  have hI := fun (x : ByteArray) (w' : World) => Any.strings_Index_one (P := Tryd.prog) (ρ := libRen) { lib_221 with } x c w'
  have k := Any.strings_genSplit_core (P := Tryd.prog) (ρ := libRen) lib_221 info_str (strOfNums bs) { data := #[c] } 0 (-1) (Lib.countB (strOfNums bs) { data := #[c] } + 1) w (by omega) h1 (Nat.zero_le _)
    (fun x cs _ => (hI x _).mono fun e w' ⟨he, hw⟩ => ⟨by rw [he]; show _ = Ending.returned (Value.int .i64 (Lib.index x.data.toList [c])); rw [Lib.index_one], hw⟩)
    (hC.mono fun e w' ⟨he, hw⟩ => ⟨by rw [he]; show _ = Ending.returned (Value.int .i64 ((Lib.count (strOfNums bs).data.toList [c] : Nat) : Int)); rw [Lib.count_one]; rfl, hw⟩)
    (by decide) (by decide) (by rw [if_pos (by decide)]; omega)
  rw [Nat.add_sub_cancel, hlen] at k
  have e2 : Lib.cellsOf (Lib.splitB { data := #[c] } 0 (Lib.countB (strOfNums bs) { data := #[c] }) (strOfNums bs)) (Lib.countB (strOfNums bs) { data := #[c] } + 1) = ((Lib.splitB { data := #[c] } 0 (Lib.countB (strOfNums bs) { data := #[c] }) (strOfNums bs)).map Value.string).toArray := by rw [← hlen]; exact Lib.cellsOf_full _
  rw [e2, splitB_sp, nums_of hB] at k
  rw [splitB_sp, nums_of hB] at hlen
  have hlen2 : (sp c.toNat bs).length = Lib.countB (strOfNums bs) { data := #[c] } + 1 := by rw [← hlen]; simp [strs]
  refine Calls.mono k ?_
  rintro e w' ⟨rfl, rfl⟩
  refine ⟨⟨_, rfl, ?_⟩, Below.alloc (Below.refl _ _) (Nat.le_refl _) _⟩
  rw [← hlen2]
  exact owns_lit (blk_new _ _ _) (by simp [sv, strs]) (Nat.le_refl _) (by have := sp_len c.toNat bs; simp only [maxLen]; omega)

theorem split_b (c : UInt8) (bs : List Int) (hB : isB bs) (hl : bs.length ≤ 1000000) (w : World) : Calls Tryd.prog 33 #[.string (strOfNums bs), .string { data := #[c] }] w fun e w' => (∃ v, e = .returned v ∧ w'.ownsRow w.heap.size 9 1 v (sp c.toNat bs).length (sv (strs (sp c.toNat bs)))) ∧ Below w.heap.size w w' := by
  have cG := fun w' => gens_b c bs hB hl w'
  generalize sp c.toNat bs = L at *
  generalize strOfNums bs = S at *
  generalize ({ data := #[c] } : ByteArray) = C at *
  go_enter Tryd.func33, Tryd.ntmps33
  go_wp2_with (go_at_call 44; refine Calls.mono (gw_ex (cG _)) ?_; rintro e w1 ⟨⟨v, rfl, hown⟩, q, rfl⟩)
  go_ret
  exact ⟨⟨_, rfl, owns_mono (owns_below hown (by repeat (first | with_reducible exact Below.refl _ _ | with_reducible assumption | refine bgw ?_ (by first | (simp; done) | (simp; omega) | omega) _ | refine Below.setCell ?_ (by first | exact Nat.le_of_not_lt (by assumption) | (simp; done) | (simp; omega) | omega) _ | refine Below.alloc ?_ (by first | (simp; done) | (simp; omega) | omega) _ | refine Below.drew ?_))) (by simp)⟩, (by repeat (first | with_reducible exact Below.refl _ _ | with_reducible assumption | refine bgw ?_ (by first | (simp; done) | (simp; omega) | omega) _ | refine Below.setCell ?_ (by first | exact Nat.le_of_not_lt (by assumption) | (simp; done) | (simp; omega) | omega) _ | refine Below.alloc ?_ (by first | (simp; done) | (simp; omega) | omega) _ | refine Below.drew ?_))⟩

theorem join_b (A : Option Addr) (ca c : Nat) (l : List ByteArray) (hc : ∀ s ∈ l, s.size ≤ c) (hcb : l.length * (c + 1) ≤ 1000000000) (hle : l.length ≤ ca) (w : World) (ha : Strs w A l) : Calls Tryd.prog 35 #[.slice A l.length ca, .string { data := #[32] }] w fun e w' => e = .returned (.string (strOfNums (jn (numss l)))) ∧ Below w.heap.size w w' := by
  have hj := join_jn l
  have hjl : (Lib.join (l.map (·.data.toList)) [32]).length ≤ 1000000000 := by
    have h1 := jn_len c (numss l) (by intro f hf; obtain ⟨s, hs, rfl⟩ := List.mem_map.1 hf; rw [nums_length]; exact hc s hs)
    rw [show (numss l).length = l.length from by simp [numss]] at h1
    have h2 := congrArg List.length hj
    rw [show (un (Lib.join (l.map (·.data.toList)) [32])).length = (Lib.join (l.map (·.data.toList)) [32]).length from by simp [un]] at h2
    omega
  by_cases h0 : 0 < l.length
  · obtain ⟨b, off, rfl, hcell⟩ := Strs.open ha h0
    have hb := World.block_lt_of_cell? w _ (hcell 0 h0)
    have hN : l.length ≤ 1000000000 := Nat.le_trans (by rw [Nat.mul_add, Nat.mul_one]; omega) hcb
    refine Calls.mono (Any.strings_Join lib_156 libX b off ca l { data := #[32] } w (fun j x hj => ?_) hb (by omega) hle (by rw [show ({ data := #[32] } : ByteArray).data.toList = [32] from rfl]; omega)) ?_
    · obtain ⟨h, rfl⟩ := List.getElem?_eq_some_iff.1 hj
      exact hcell j h
    · rintro e w' ⟨rfl, h⟩
      exact ⟨by rw [show ({ data := #[32] } : ByteArray).data.toList = [32] from rfl, mk_eq hj], h⟩
  · obtain rfl : l = [] := List.eq_nil_of_length_eq_zero (by omega)
    refine Calls.mono (Any.strings_Join_none lib_156 libX A ca { data := #[32] } w) ?_
    rintro e w' ⟨rfl, rfl⟩
    exact ⟨rfl, Below.refl _ _⟩

/-- A step of 'for i, c := range s' at an ASCII byte. -/
theorem nx_lo {bs : List Int} (hB : isB bs) {wr w : World} {I B k : Nat} (hit : wr.heap[I]? = some (.stringIter (strOfNums bs) k)) (hk : k < bs.length) (hx : bs[k] < 128) (hb : Below B w wr) (hI : B ≤ I) :
    ∃ W, (∀ ty, (Instr.next (.pointer (some ⟨I, 0, none⟩)) true ty).run Tryd.prog wr = .ok (.tuple #[.bool true, .int .i64 k, .int .i32 bs[k]]) W) ∧ W.heap[I]? = some (.stringIter (strOfNums bs) (k + 1)) ∧ Below B w W ∧ W.heap.size = wr.heap.size ∧ ∀ b, b ≠ I → W.heap[b]? = wr.heap[b]? := by
  have hs : k < (strOfNums bs).size := by rw [strOfNums_size]; exact hk
  have hi := str_idx hB k hs
  refine ⟨wr.iterAt I (strOfNums bs) (k + 1), fun ty => ?_, Lib.iterAt_heap _ _ _ _ _ hit, Lib.below_iterAt hb hI _ _, Lib.iterAt_size _ _ _ _, fun b hb => Lib.iterAt_other _ _ _ _ _ hb⟩
  rw [Lib.run_next_ascii_at wr I (strOfNums bs) k ty hit hs (by omega), hi]

/-- .. at any other byte: the rune is no ASCII one. -/
theorem nx_hi {bs : List Int} (hB : isB bs) {wr w : World} {I B k : Nat} (hit : wr.heap[I]? = some (.stringIter (strOfNums bs) k)) (hk : k < bs.length) (hx : 128 ≤ bs[k]) (hb : Below B w wr) (hI : B ≤ I) :
    ∃ W r, (∀ ty, (Instr.next (.pointer (some ⟨I, 0, none⟩)) true ty).run Tryd.prog wr = .ok (.tuple #[.bool true, .int .i64 k, .int .i32 r]) W) ∧ 128 ≤ r ∧ r ≤ 2147483647 ∧ Below B w W ∧ W.heap.size = wr.heap.size ∧ ∀ b, b ≠ I → W.heap[b]? = wr.heap[b]? := by
  have hs : k < (strOfNums bs).size := by rw [strOfNums_size]; exact hk
  have hi := str_idx hB k hs
  obtain ⟨d1, d2⟩ := decode_high (strOfNums bs) k hs (by omega)
  have d3 := decode_le (strOfNums bs) k
  exact ⟨_, _, fun ty => Lib.run_next_any_at wr I (strOfNums bs) k ty hit hs, by omega, by omega, Lib.below_iterAt hb hI _ _, Lib.iterAt_size _ _ _ _, fun b hb => Lib.iterAt_other _ _ _ _ _ hb⟩

/-- .. at the end. -/
theorem nx_end {bs : List Int} {wr : World} {I : Nat} (hit : wr.heap[I]? = some (.stringIter (strOfNums bs) bs.length)) :
    ∀ ty, (Instr.next (.pointer (some ⟨I, 0, none⟩)) true ty).run Tryd.prog wr = .ok (.tuple #[.bool false]) wr :=
  fun ty => Lib.run_next_end_at wr I (strOfNums bs) bs.length ty hit (by rw [strOfNums_size]; omega)

theorem blk_same {w W : World} {I b : Nat} {c : Array Value} {t : TypeId} (h : blk w b c t) (hs : ∀ b, b ≠ I → W.heap[b]? = w.heap[b]?) (hn : b ≠ I) : blk W b c t := (hs b hn).trans h

end Go.Proofs.YtdlnidefjdjocaaDoor
