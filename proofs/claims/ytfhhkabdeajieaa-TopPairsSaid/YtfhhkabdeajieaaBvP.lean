/- Chapter 20: attach, detach. -/
import Derived.Test.YtfhhkabdeajieaaBvO
import Derived.Deep.DeepCutAuto
import Derived.Deep.RegionHeld3
set_option linter.unusedVariables false
set_option linter.unusedSimpArgs false
namespace Go.Proofs.Ytfhhkabdeajieaa
open Go.RowKit Fx

theorem St.adopt {M : Nat → Nd} {root : Option Nat} {C : List Frm} {n : Nat} {a b : Tr} (la : Lay M a) (lb : Lay M b) (way : LayC M C n) (nd : (cbs C ++ (n :: (a.bs ++ b.bs))).Nodup) (hroot : root = some (ctop C n)) : St (adM M n a.b b.b) root C (.node n a b) := by
  have hd := nd
  rw [List.nodup_append] at hd
  obtain ⟨d1, d2, d3⟩ := hd
  have hn : n ∉ cbs C := fun e => d3 _ e n (by simp) rfl
  have ha : a.b ∉ cbs C := fun e => d3 _ e a.b (by simp [a.b_mem]) rfl
  have hb : b.b ∉ cbs C := fun e => d3 _ e b.b (by simp [b.b_mem]) rfl
  have hd2 := d2
  simp only [List.nodup_cons, List.mem_append, not_or] at hd2
  exact ⟨la.ad lb d2, way.ad d1 hn ha hb (fun e => hd2.1.1 (e ▸ a.b_mem)) (fun e => hd2.1.2 (e ▸ b.b_mem)), nd, hroot⟩

/-- The memory with a new node. -/
def newM (M : Nat → Nd) (f : Nat) (N : Nd) : Nat → Nd := fun c => if c = f then N else M c
theorem newM_other {M : Nat → Nd} {f c : Nat} {N : Nd} (h : c ≠ f) : newM M f N c = M c := by simp [newM, h]
theorem newM_self (M : Nat → Nd) (f : Nat) (N : Nd) : newM M f N f = N := by simp [newM]

/-- The tree that the memory holds from this root on. -/
def Top (M : Nat → Nd) (T : Tr) : Prop := Lay M T ∧ (M T.b).p = none ∧ T.bal ∧ T.bs.Nodup

/-- A new fork in the place of the leaf b, above it and the new leaf. -/
theorem att_st {M : Nat → Nd} {C : List Frm} {b lf F : Nat} {i j : Int} {x y : Bx} {Z : Nd} (hT : Top M (plug C (.leaf b i x))) (hF : F ∉ (plug C (.leaf b i x)).bs) (hlf : lf ∉ (plug C (.leaf b i x)).bs) (hFl : F ≠ lf) (h1 : (M lf).id = j) (h2 : (M lf).x = y) (h3 : (M lf).h = 1) :
    St (adM (replM (newM M F Z) b F) F b lf) (replR (newM M F Z) b F (some (plug C (.leaf b i x)).b)) C (.node F (.leaf b i x) (.leaf lf j y)) ∧ LayC (newM M F Z) C b ∧ F ∉ cbs C ∧ b ∉ cbs C ∧ lf ∉ cbs C ∧ b ≠ F ∧ b ≠ lf := by
  obtain ⟨t1, t2, t3, t4⟩ := hT
  obtain ⟨p1, p2⟩ := plug_lay C _ t1 t2
  have hp := plug_bs C (.leaf b i x)
  have hnd := hp.nodup_iff.1 t4
  have hF2 : F ∉ cbs C ++ [b] := fun e => hF (hp.mem_iff.2 e)
  have hl2 : lf ∉ cbs C ++ [b] := fun e => hlf (hp.mem_iff.2 e)
  simp only [List.mem_append, List.mem_singleton, not_or] at hF2 hl2
  have hnd2 := hnd
  simp only [Tr.bs, List.nodup_append, List.mem_singleton] at hnd
  obtain ⟨n1, n2, n3⟩ := hnd
  have hb : b ∉ cbs C := fun e => n3 b e b rfl rfl
  simp only [Tr.b] at p2
  have q2 : LayC (newM M F Z) C b := p2.cong n1 (fun k hk => newM_other (fun e => hF2.1 (e ▸ hk))) (by rw [newM_other (Ne.symm hF2.2)])
  have q3 : LayC (replM (newM M F Z) b F) C F := q2.repl n1 hb hF2.1
  have q4 : replR (newM M F Z) b F (some (plug C (.leaf b i x)).b) = some (ctop C F) := by rw [plug_b]; exact replR_top F q2
  have e1 : replM (newM M F Z) b F b = M b := by rw [replM_other (Ne.symm hF2.2) (q2.off hb), newM_other (Ne.symm hF2.2)]
  have e2 : replM (newM M F Z) b F lf = M lf := by rw [replM_other (Ne.symm hFl) (q2.off hl2.1), newM_other (Ne.symm hFl)]
  refine ⟨St.adopt (a := .leaf b i x) (b := .leaf lf j y) (by simp only [Lay, e1]; exact p1) (by simp only [Lay, e2]; exact ⟨h1, h2, h3⟩) q3 ?_ q4, q2, hF2.1, hb, hl2.1, Ne.symm hF2.2, Ne.symm hl2.2⟩
  simp only [Tr.bs, List.singleton_append]
  have : (cbs C ++ [F, b, lf]).Perm (F :: lf :: (cbs C ++ [b])) := List.perm_iff_count.2 fun z => by simp only [List.count_append, List.count_cons]; omega
  refine this.nodup_iff.2 ?_
  simp only [List.nodup_cons, List.mem_cons, List.mem_append, List.not_mem_nil, or_false, not_or]
  refine ⟨⟨hFl, hF2.1, hF2.2⟩, ⟨hl2.1, hl2.2⟩, hnd2⟩

/-- The sibling in the place of the fork. -/
theorem det_st {M : Nat → Nd} {C : List Frm} {f : Frm} {lf : Nat} {i : Int} {x : Bx} (hT : Top M (plug (f :: C) (.leaf lf i x))) :
    St (replM M f.b f.s.b) (replR M f.b f.s.b (some (plug (f :: C) (.leaf lf i x)).b)) C f.s ∧ LayC M C f.b ∧ f.b ∉ cbs C ∧ f.s.b ∉ cbs C ∧ f.b ≠ f.s.b ∧ lf ≠ f.s.b ∧ lf ≠ f.b ∧ lf ∉ cbs C ∧ lf ∉ f.s.bs ∧ (M lf).p = some f.b ∧ (M f.b).l = some (if f.sd then f.s.b else lf) ∧ (M f.b).r = some (if f.sd then lf else f.s.b) ∧ f.s.bal ∧ cbal C (1 + max 1 f.s.ht) := by
  obtain ⟨t1, t2, t3, t4⟩ := hT
  obtain ⟨p1, p2, p3, p4, p5, p6, p7⟩ := plug_lay (f :: C) _ t1 t2
  obtain ⟨b1, b2, b3, b4, b5⟩ := plug_bal (f :: C) _ t3
  have hp := plug_bs (f :: C) (.leaf lf i x)
  have hnd := hp.nodup_iff.1 t4
  simp only [Tr.bs, cbs, List.cons_append, List.append_assoc, List.nodup_cons, List.mem_append, List.mem_singleton, not_or, List.nodup_append] at hnd
  obtain ⟨⟨n1, n2, n3⟩, n4, ⟨n5, _, n6⟩, n7⟩ := hnd
  have hs : f.s.b ∉ cbs C := fun e => n7 _ f.s.b_mem _ (.inl e) rfl
  have hroot : replR M f.b f.s.b (some (plug (f :: C) (.leaf lf i x)).b) = some (ctop C f.s.b) := by rw [plug_b]; exact replR_top f.s.b p7
  refine ⟨⟨?_, p7.repl n5 n2 hs, ?_, hroot⟩, p7, n2, hs, fun e => n1 (e ▸ f.s.b_mem), fun e => n7 _ f.s.b_mem lf (.inr rfl) e.symm, fun e => n3 e.symm, fun e => n6 _ e lf rfl rfl, fun e => n7 _ e lf (.inr rfl) rfl, p2, p4, p5, b2, b5⟩
  · refine p6.cong n4 fun c hc => ?_
    by_cases e : c = f.s.b
    · exact .inr ⟨e, _, by rw [e, replM_self]⟩
    · exact .inl (replM_other e (p7.off fun e' => n7 _ hc _ (.inl e') rfl))
  · rw [List.nodup_append]
    exact ⟨n5, n4, fun a ha b hb e => n7 _ hb _ (.inl ha) e.symm⟩

set_option maxRecDepth 100000 in
set_option maxHeartbeats 4000000 in
theorem attach0 (t lf : Nat) (mv : Value) (M : Nat → Nd) (S : Nat → Prop) (w : World) (hR : Rep w M S) (kt : blk w t #[.pointer none, mv] 78) (tS : ¬ S t) (slf : S lf) (i : Int) (x : Bx) (h1 : (M lf).id = i) (h2 : (M lf).x = x) (h3 : (M lf).h = 1) (h4 : (M lf).p = none) :
    Calls Try.prog 60 #[.pointer (some ⟨t, 0, none⟩), .pointer (some ⟨lf, 0, none⟩)] w fun e w' => e = .returned (.tuple #[]) ∧ TreePost t mv M S w [(lf, i, x)] [lf] w' := by
  have A : Hid (∀ w', blk w' t #[.pointer (some ⟨lf, 0, none⟩), mv] 78 → But (fun k => k = t) w w' → TreePost t mv M S w [(lf, i, x)] [lf] w') := fun w' k1 hb => ⟨.leaf lf i x, M, fun c hc => hb.blk (hR c hc) (fun e => tS (e ▸ hc)), k1, hb.mono fun _ _ h => .inl h, ⟨h1, h2, h3⟩, h4, trivial, List.Perm.refl _, List.Perm.refl _, by simp [Tr.bs], fun _ _ => rfl⟩
  clear h1 h2 h3 h4 hR
  have okt := blk_older kt
  have ckt_0 : _ = some _ := blk_cell kt 0
  have ckt_1 : _ = some _ := blk_cell kt 1
  have fkt_0 := blk_free kt 0
  have fkt_1 := blk_free kt 1
  go_enter Try.func60, Try.ntmps60
  go_wp2_with fail
  refine bodyPost_ret (results_none rfl _ _ _) rfl ?_
  exact ⟨rfl, A.out _ (by apply blk_of; (repeat (first | with_reducible exact kt | with_reducible apply blk_drew | with_reducible apply blk_gw | with_reducible apply blk_alloc | with_reducible apply blk_set | ((with_reducible apply blk_other); focus omega))); (first | rfl | simp)) bBut⟩

set_option maxRecDepth 100000 in
set_option maxHeartbeats 4000000 in
theorem attach1 (t lf : Nat) (mv : Value) (M : Nat → Nd) (S : Nat → Prop) (w : World) (T : Tr) (hR : Rep w M S) (kt : blk w t #[.pointer (some ⟨T.b, 0, none⟩), mv] 78) (tS : ¬ S t) (slf : S lf) (hT : Top M T) (hS : ∀ c ∈ T.bs, S c) (hlf : lf ∉ T.bs) (hN : T.lv.length ≤ 100000) (i : Int) (x : Bx) (h1 : (M lf).id = i) (h2 : (M lf).x = x) (h3 : (M lf).h = 1) :
    Calls Try.prog 60 #[.pointer (some ⟨t, 0, none⟩), .pointer (some ⟨lf, 0, none⟩)] w fun e w' => e = .returned (.tuple #[]) ∧ ∃ F, w.heap.size ≤ F ∧ TreePost t mv M (fun k => S k ∨ k = F) w (T.lv ++ [(lf, i, x)]) (F :: lf :: T.bs) w' := by
  have kl := hR lf slf
  have cC := fun w' (h : Below w.heap.size w w') q0 q1 q2 q3 => closest_b T M S w' (hR.below h) hT.1 hS q0 q1 q2 q3
  obtain ⟨N, hNN⟩ : ∃ N, M lf = N := ⟨_, rfl⟩
  rw [hNN] at kl
  have hNx : N.x = x := by rw [← hNN]; exact h2
  have hlt := blk_lt kl
  have htl := blk_lt kt
  have htlf : t ≠ lf := fun e => tS (e ▸ slf)
  have A := fun (C : List Frm) b j y (e : T = plug C (.leaf b j y)) (F : Nat) (hF : w.heap.size ≤ F) => @att_st M C b lf F j i y x ⟨0, Bx.zero, 0, none, none, none⟩ (e ▸ hT) (fun h => by have := blk_lt (hR F (hS F (e ▸ h))); omega) (e ▸ hlf) (by omega) h1 h2 h3
  obtain ⟨C, hC⟩ := leaf_way T _ (T.clo_mem x)
  obtain ⟨tb, htb⟩ : ∃ tb, Hid (T.b = tb) := ⟨_, rfl⟩
  rw [htb.out] at kt cC
  obtain ⟨⟨b, j, y⟩, hcl⟩ : ∃ c, T.clo x = c := ⟨_, rfl⟩
  rw [hcl] at hC
  dsimp only at hC
  have A2 := A C b j y hC
  clear A
  have cC2 : ∀ w', Below w.heap.size w w' → Calls Try.prog 87 #[.pointer (some ⟨tb, 0, none⟩), .agg #[.int .i64 x.x0, .int .i64 x.y0, .int .i64 x.x1, .int .i64 x.y1]] w' fun e w'' => e = .returned (.pointer (some ⟨b, 0, none⟩)) ∧ Below w'.heap.size w' w'' := fun w' h => by
    have := cC w' h x.x0 x.y0 x.x1 x.y1
    rw [show (⟨x.x0, x.y0, x.x1, x.y1⟩ : Bx) = x from rfl, hcl] at this
    exact this
  clear cC h1 h2
  have hM1 := h3
  clear h3
  obtain ⟨iN, xN, hN', pN, lN, rN⟩ := N
  dsimp only at hNx
  subst hNx
  clear hNN
  obtain ⟨x0N, y0N, x1N, y1N⟩ := xN
  simp only [ndc] at kl
  dsimp only at cC2 A2
  generalize nptr pN = PN at *
  generalize nptr lN = LN at *
  generalize nptr rN = RN at *
  have okt := blk_older kt
  have ckt_0 : _ = some _ := blk_cell kt 0
  have ckt_1 : _ = some _ := blk_cell kt 1
  have fkt_0 := blk_free kt 0
  have fkt_1 := blk_free kt 1
  have okl := blk_older kl
  have ckl_0 : _ = some _ := blk_cell kl 0
  have ckl_1 : _ = some _ := blk_cell kl 1
  have ckl_2 : _ = some _ := blk_cell kl 2
  have ckl_3 : _ = some _ := blk_cell kl 3
  have ckl_4 : _ = some _ := blk_cell kl 4
  have ckl_5 : _ = some _ := blk_cell kl 5
  have ckl_6 : _ = some _ := blk_cell kl 6
  have ckl_7 : _ = some _ := blk_cell kl 7
  have ckl_8 : _ = some _ := blk_cell kl 8
  have fkl_0 := blk_free kl 0
  have fkl_1 := blk_free kl 1
  have fkl_2 := blk_free kl 2
  have fkl_3 := blk_free kl 3
  have fkl_4 := blk_free kl 4
  have fkl_5 := blk_free kl 5
  have fkl_6 := blk_free kl 6
  have fkl_7 := blk_free kl 7
  have fkl_8 := blk_free kl 8
  have hcellB : ∀ w', Below w.heap.size w w' → Below w.heap.size w w' ∧ w'.cell? ⟨t, 0, none⟩ = some (.pointer (some ⟨tb, 0, none⟩)) ∧ w'.cell? ⟨lf, 1, none⟩ = some (.int .i64 x0N) ∧ w'.cell? ⟨lf, 2, none⟩ = some (.int .i64 y0N) ∧ w'.cell? ⟨lf, 3, none⟩ = some (.int .i64 x1N) ∧ w'.cell? ⟨lf, 4, none⟩ = some (.int .i64 y1N) := fun w' h => ⟨h, blk_cell (blk_below h kt) 0, blk_cell (blk_below h kl) 1, blk_cell (blk_below h kl) 2, blk_cell (blk_below h kl) 3, blk_cell (blk_below h kl) 4⟩
  go_enter Try.func60, Try.ntmps60
  go_upto_region 2 with fail
  go_cut [4, 5] (fun sb fk wx => ∃ F : Nat, sb = .pointer (some ⟨b, 0, none⟩) ∧ fk = .pointer (some ⟨F, 0, none⟩) ∧ w.heap.size ≤ F ∧ blk wx F #[.int .i64 0, .int .i64 0, .int .i64 0, .int .i64 0, .int .i64 0, .int .i64 0, .pointer none, .pointer none, .pointer none] 89 ∧ Below w.heap.size w wx)
  case first =>
    go_region_held3 (fun w' => Below w.heap.size w w' ∧ w'.cell? ⟨t, 0, none⟩ = some (.pointer (some ⟨tb, 0, none⟩)) ∧ w'.cell? ⟨lf, 1, none⟩ = some (.int .i64 x0N) ∧ w'.cell? ⟨lf, 2, none⟩ = some (.int .i64 y0N) ∧ w'.cell? ⟨lf, 3, none⟩ = some (.int .i64 x1N) ∧ w'.cell? ⟨lf, 4, none⟩ = some (.int .i64 y1N)) (first | (refine hcellB _ ?_; exact bBel)) ((go_at_call 87; with_reducible_and_instances refine Calls.mono (gw_at (cC2 _ bBel)) ?_; rintro e w1 ⟨rfl, q9, rfl⟩))
    all_goals
      go_wp2_with fail
    all_goals
      go_meet
      exact ⟨_, rfl, rfl, by (try simp); (try omega), bBkn, bBel⟩
  case rest =>
  obtain ⟨F, rfl, rfl, hF, kF0, hbW⟩ := hcut
  have kF : blk wc F (ndc ⟨0, Bx.zero, 0, none, none, none⟩) 89 := kF0
  clear kF0
  generalize wc = W at *
  have ktW := blk_below hbW kt
  have hb0 : Below w.heap.size w W := hbW
  obtain ⟨s1, s2, s3, s4, s5, s6, s7⟩ := A2 F hF
  have hTF : F ∉ T.bs := fun h => by have := blk_lt (hR F (hS F h)); omega
  have nSF : ¬ S F := fun h => by have := blk_lt (hR F h); omega
  have hR0 : Rep W (newM M F ⟨0, Bx.zero, 0, none, none, none⟩) (fun k => S k ∨ k = F) := by
    rintro c (hc | rfl)
    · rw [newM_other (by rintro rfl; exact nSF hc)]; exact blk_below hbW (hR c hc)
    · rw [newM_self]; exact kF
  have hp := plug_bs C (.leaf b j y)
  rw [← hC] at hp s1
  have hSC : ∀ c ∈ cbs C, S c := fun c hc => hS c (hp.mem_iff.2 (by simp [hc]))
  have hSb : S b := hS b (hp.mem_iff.2 (by simp [Tr.bs]))
  have hbh : (M b).h = 1 := by
    have := hT.1; rw [hC] at this
    have h2 := plug_lay C _ this (by have := hT.2.1; rw [hC] at this; exact this)
    exact h2.1.2.2
  have tSF : ¬ (S t ∨ t = F) := by rintro (h | rfl); exact tS h; omega
  generalize hM0 : newM M F ⟨0, Bx.zero, 0, none, none, none⟩ = M0 at *
  have cR := replace_r t b F (some T.b) mv M0 _ W hR0 (by rw [htb.out]; exact ktW) tSF (.inl hSb) (.inr rfl) (Ne.symm s6) (s2.par (fun c hc => .inl (hSC c hc)) s4 s3)
  have e1 : ∀ c, (replM M0 b F c).h = (M0 c).h := replM_h M0 b F
  have e2 : (M0 b).h = 1 := by rw [← hM0, newM_other s6]; exact hbh
  have e3 : (M0 lf).h = 1 := by rw [← hM0, newM_other (by rintro rfl; exact nSF slf)]; exact hM1
  have cA := fun w' (h : Rep w' (replM M0 b F) (fun k => S k ∨ k = F)) => adopt_r F b lf (replM M0 b F) _ w' h (.inr rfl) (.inl hSb) (.inl slf) (Ne.symm s6) (by rintro rfl; exact nSF slf) s7 (by rw [e1, e2]; omega) (by rw [e1, e3]; omega)
  have hoff : ∀ c, c ∉ F :: lf :: T.bs → adM (replM M0 b F) F b lf c = M c := by
    intro c hc
    simp only [List.mem_cons, not_or] at hc
    have h2 := fun h => hc.2.2 (hp.mem_iff.2 h)
    simp only [Tr.bs, List.mem_append, List.mem_singleton, not_or] at h2
    obtain ⟨h3, h4⟩ := (not_or.1 h2)
    rw [adM_other hc.1 h4 hc.2.1, replM_other hc.1 (s2.off h3), ← hM0, newM_other hc.1]
  generalize hM2 : adM (replM M0 b F) F b lf = M2 at *
  generalize replR M0 b F (some T.b) = root1 at *
  generalize replM M0 b F = M1 at *
  obtain ⟨P, hP⟩ : ∃ P, Hid (nptr (M2 F).p = P) := ⟨_, rfl⟩
  have cA2 : ∀ w', Rep w' M1 (fun k => S k ∨ k = F) → Calls Try.prog 89 #[.pointer (some ⟨F, 0, none⟩), .pointer (some ⟨b, 0, none⟩), .pointer (some ⟨lf, 0, none⟩)] w' fun e w'' => e = .returned (.tuple #[]) ∧ w''.cell? ⟨F, 6, none⟩ = some P ∧ Hid (Rep w'' M2 (fun k => S k ∨ k = F)) ∧ But (fun k => S k ∨ k = F) w' w'' := fun w' h => (cA w' h).mono fun e w'' ⟨h1, h2, h3⟩ => ⟨h1, by have := blk_cell (h2 F (.inr rfl)) 6; rw [← hP.out]; exact this, h2, h3⟩
  have hlen := (plug_lv C (.leaf b j y)).length_eq
  rw [← hC] at hlen
  have cM := fun w' (h : Hid (Rep w' M2 (fun k => S k ∨ k = F))) (k : blk w' t #[nptr root1, mv] 78) => mend_b t root1 mv M2 _ w' C _ 1 P h.out k tSF s1 (fun c hc => by
      simp only [Tr.bs, List.mem_append, List.mem_cons, List.singleton_append, List.not_mem_nil, or_false] at hc
      rcases hc with h | h | h | h
      · exact .inl (hSC c h)
      · exact .inr h
      · exact .inl (h ▸ hSb)
      · exact .inl (h ▸ slf)) ⟨trivial, trivial, by simp [Tr.ht], by simp [Tr.ht]⟩ (plug_bal C (.leaf b j y) (hC ▸ hT.2.2.1)).2 (by simp [Tr.ht]) (by simp [Tr.ht]) (by simp [Tr.lv] at hlen ⊢; omega) hP.out
  have B : Hid ((∀ c, c ∉ F :: lf :: T.bs → M2 c = M c) ∧ T.lv.Perm (clv C ++ [(b, j, y)]) ∧ T.bs.Perm (cbs C ++ [b]) ∧ F ∉ T.bs ∧ w.heap.size ≤ F) := ⟨hoff, by rw [hC]; exact plug_lv C _, hp, hTF, hF⟩
  clear hlen hP hoff e1 e2 e3 hM0 hM2 hp hR0 hR hSC hSb hbh hT hS hlf hN hM1 hcl s1 s2 s3 s4 s5 s6 s7 hTF nSF cA cC2 A2 hC
  go_wp2_with (first | (go_at_call 88; with_reducible_and_instances refine Calls.mono cR ?_; rintro e w2 ⟨rfl, hR2, kt2, hb2⟩) | (go_at_call 89; with_reducible_and_instances refine Calls.mono (cA2 _ hR2) ?_; rintro e w3 ⟨rfl, cz, hR3, hb3⟩) | (go_at_call 90; with_reducible_and_instances refine Calls.mono (cM _ hR3 (hb3.blk kt2 tSF)) ?_; rintro e w4 ⟨rfl, hTP⟩))
  go_end0
  refine ⟨rfl, F, B.out.2.2.2.2, ?_⟩
  obtain ⟨T', M', r1, r2, r3, r4, r5, r6, r7, r8, r9, r10⟩ := hTP
  obtain ⟨b1, b2, b3, b4, b5⟩ := B.out
  refine ⟨T', M', r1, r2, ?_, r4, r5, r6, ?_, ?_, r9, ?_⟩
  · have h := ((((But.refl _ w).below hb0).trans hb2 fun _ _ h => h).trans hb3 fun _ _ h => .inr h).trans r3 fun _ _ h => h
    exact h
  · refine r7.trans ?_
    refine List.Perm.trans ?_ (b2.append_right _).symm
    simp only [Tr.lv, List.append_assoc]
    exact List.Perm.refl _
  · refine r8.trans ?_
    refine List.Perm.trans ?_ ((b3.cons _).cons _).symm
    exact List.perm_iff_count.2 fun z => by simp only [Tr.bs, List.count_append, List.count_cons, List.count_nil]; omega
  · intro c hc
    rw [← b1 c hc]
    refine r10 c fun h => hc ?_
    have := b3.mem_iff (a := c)
    simp only [Tr.bs, List.mem_append, List.mem_cons, List.singleton_append, List.not_mem_nil, or_false] at h this ⊢
    rcases h with h | h | h | h
    · exact .inr (.inr (this.2 (.inl h)))
    · exact .inl h
    · exact .inr (.inr (this.2 (.inr h)))
    · exact .inr (.inl h)

set_option maxRecDepth 100000 in
set_option maxHeartbeats 4000000 in
theorem detach0 (t lf : Nat) (mv root : Value) (M : Nat → Nd) (S : Nat → Prop) (w : World) (hR : Rep w M S) (kt : blk w t #[root, mv] 78) (slf : S lf) (h4 : (M lf).p = none) :
    Calls Try.prog 61 #[.pointer (some ⟨t, 0, none⟩), .pointer (some ⟨lf, 0, none⟩)] w fun e w' => e = .returned (.tuple #[]) ∧ blk w' t #[.pointer none, mv] 78 ∧ But (fun k => k = t) w w' := by
  have kl := hR lf slf
  obtain ⟨N, hNN⟩ : ∃ N, M lf = N := ⟨_, rfl⟩
  rw [hNN] at kl h4
  clear hNN hR
  obtain ⟨iN, ⟨x0N, y0N, x1N, y1N⟩, hN', pN, lN, rN⟩ := N
  dsimp only at h4
  subst h4
  simp only [ndc, nptr_none] at kl
  generalize nptr lN = LN at *
  generalize nptr rN = RN at *
  have okt := blk_older kt
  have ckt_0 : _ = some _ := blk_cell kt 0
  have ckt_1 : _ = some _ := blk_cell kt 1
  have fkt_0 := blk_free kt 0
  have fkt_1 := blk_free kt 1
  have okl := blk_older kl
  have ckl_0 : _ = some _ := blk_cell kl 0
  have ckl_1 : _ = some _ := blk_cell kl 1
  have ckl_2 : _ = some _ := blk_cell kl 2
  have ckl_3 : _ = some _ := blk_cell kl 3
  have ckl_4 : _ = some _ := blk_cell kl 4
  have ckl_5 : _ = some _ := blk_cell kl 5
  have ckl_6 : _ = some _ := blk_cell kl 6
  have ckl_7 : _ = some _ := blk_cell kl 7
  have ckl_8 : _ = some _ := blk_cell kl 8
  have fkl_0 := blk_free kl 0
  have fkl_1 := blk_free kl 1
  have fkl_2 := blk_free kl 2
  have fkl_3 := blk_free kl 3
  have fkl_4 := blk_free kl 4
  have fkl_5 := blk_free kl 5
  have fkl_6 := blk_free kl 6
  have fkl_7 := blk_free kl 7
  have fkl_8 := blk_free kl 8
  go_enter Try.func61, Try.ntmps61
  go_wp2_with fail
  refine bodyPost_ret (results_none rfl _ _ _) rfl ?_
  exact ⟨rfl, (by apply blk_of; (repeat (first | with_reducible exact kt | with_reducible apply blk_drew | with_reducible apply blk_gw | with_reducible apply blk_alloc | with_reducible apply blk_set | ((with_reducible apply blk_other); focus omega))); (first | rfl | simp)), bBut⟩

set_option maxRecDepth 100000 in
set_option maxHeartbeats 4000000 in
theorem detach1false (t lf : Nat) (mv : Value) (M : Nat → Nd) (S : Nat → Prop) (w : World) (C : List Frm) (f : Frm) (i : Int) (x : Bx) (hsd : f.sd = false) (hR : Rep w M S) (kt : blk w t #[nptr (some (plug (f :: C) (.leaf lf i x)).b), mv] 78) (tS : ¬ S t) (hT : Top M (plug (f :: C) (.leaf lf i x))) (hS : ∀ c ∈ (plug (f :: C) (.leaf lf i x)).bs, S c) (hN : (plug (f :: C) (.leaf lf i x)).lv.length ≤ 100000) :
    Calls Try.prog 61 #[.pointer (some ⟨t, 0, none⟩), .pointer (some ⟨lf, 0, none⟩)] w fun e w' => e = .returned (.tuple #[]) ∧ TreePost t mv M S w (clv (f :: C)) (f.s.bs ++ cbs C) w' := by
  obtain ⟨s1, s2, s3, s4, s5, s6, s7, s8, s9, l1, l2, l3, b1, b2⟩ := det_st hT
  have hp := plug_bs (f :: C) (.leaf lf i x)
  have hlen := (plug_lv (f :: C) (.leaf lf i x)).length_eq
  have hmem : ∀ c, c ∈ cbs (f :: C) ++ [lf] → S c := fun c h => hS c (hp.mem_iff.2 h)
  have slf : S lf := hmem _ (by simp)
  have sfb : S f.b := hmem _ (by simp [cbs])
  have ssb : S f.s.b := hmem _ (by simp [cbs, f.s.b_mem])
  have kl := hR lf slf
  have kf := hR f.b sfb
  have ks := hR f.s.b ssb
  have cR := replace_r t f.b f.s.b (some (plug (f :: C) (.leaf lf i x)).b) mv M S w hR kt tS sfb ssb (Ne.symm s5) (s2.par (fun c hc => hmem c (by simp [cbs, hc])) s3 s4)
  have hoff : ∀ c, c ∉ f.s.bs ++ cbs C → replM M f.b f.s.b c = M c := fun c hc => by
    simp only [List.mem_append, not_or] at hc
    exact replM_other (fun e => hc.1 (e ▸ f.s.b_mem)) (s2.off hc.2)
  generalize replM M f.b f.s.b = M1 at *
  generalize replR M f.b f.s.b (some (plug (f :: C) (.leaf lf i x)).b) = root1 at *
  obtain ⟨P, hP⟩ : ∃ P, Hid (nptr (M1 f.s.b).p = P) := ⟨_, rfl⟩
  have A : Hid ((∀ c, c ∉ f.s.bs ++ cbs C → M1 c = M c) ∧ (∀ c ∈ cbs C ++ f.s.bs, S c) ∧ (clv C ++ f.s.lv).length ≤ 100000) := ⟨hoff, fun c hc => hmem c (by simp only [cbs, List.mem_append, List.mem_cons] at hc ⊢; rcases hc with h | h <;> simp [h]), by simp only [clv, List.length_append] at hlen ⊢; omega⟩
  have cM := fun w' (h : Hid (Rep w' M1 S)) (k : blk w' t #[nptr root1, mv] 78) => mend_b t root1 mv M1 S w' C f.s (1 + max 1 f.s.ht) P h.out k tS s1 A.out.2.1 b1 b2 (by omega) (by have := f.s.ht_pos; omega) (by have := A.out.2.2; omega) hP.out
  have cR2 : Calls Try.prog 88 #[.pointer (some ⟨t, 0, none⟩), .pointer (some ⟨f.b, 0, none⟩), .pointer (some ⟨f.s.b, 0, none⟩)] w fun e w'' => e = .returned (.tuple #[]) ∧ w''.cell? ⟨f.s.b, 6, none⟩ = some P ∧ Hid (Rep w'' M1 S) ∧ blk w'' t #[nptr root1, mv] 78 ∧ But (fun k => k = t ∨ S k) w w'' := cR.mono fun e w'' ⟨h1, h2, h3, h4⟩ => ⟨h1, by have := blk_cell (h2 _ ssb) 6; rw [← hP.out]; exact this, h2, h3, h4⟩
  clear cR hoff hP s1 s2 hp hlen hmem hR hT hS hN b1 b2
  simp only [hsd, Bool.false_eq_true, if_false, if_true] at l2 l3
  obtain ⟨N, hNN⟩ : ∃ N, M lf = N := ⟨_, rfl⟩
  obtain ⟨Q, hQ⟩ : ∃ Q, M f.b = Q := ⟨_, rfl⟩
  obtain ⟨Y, hY⟩ : ∃ Y, M f.s.b = Y := ⟨_, rfl⟩
  rw [hNN] at kl l1
  rw [hQ] at kf l2 l3
  rw [hY] at ks
  clear hNN hQ hY
  obtain ⟨iN, ⟨x0N, y0N, x1N, y1N⟩, hN', pN, lN, rN⟩ := N
  obtain ⟨iQ, ⟨x0Q, y0Q, x1Q, y1Q⟩, hQ', pQ, lQ, rQ⟩ := Q
  obtain ⟨iY, ⟨x0Y, y0Y, x1Y, y1Y⟩, hY', pY, lY, rY⟩ := Y
  dsimp only at l1 l2 l3
  subst l1 l2 l3
  simp only [ndc, nptr_some] at kl kf ks
  generalize nptr lN = LN at *
  generalize nptr rN = RN at *
  generalize nptr pQ = PQ at *
  generalize nptr pY = PY at *
  generalize nptr lY = LY at *
  generalize nptr rY = RY at *
  obtain ⟨fb, hfb⟩ : ∃ fb, Hid (f.b = fb) := ⟨_, rfl⟩
  obtain ⟨sb, hsb⟩ : ∃ sb, Hid (f.s.b = sb) := ⟨_, rfl⟩
  simp only [hfb.out, hsb.out] at kl kf ks cR2 s3 s4 s5 s6 s7 sfb ssb
  simp only [nptr_some] at kt
  generalize (plug (f :: C) (Tr.leaf lf i x)).b = tb at *
  have D : Hid (¬ fb ∈ cbs C ∧ ¬ sb ∈ cbs C ∧ ¬ lf ∈ cbs C ∧ ¬ lf ∈ f.s.bs) := ⟨s3, s4, s8, s9⟩
  clear s3 s4 s8 s9
  have he := fun W => @ptr_same lf W
  have okl := blk_older kl
  have ckl_0 : _ = some _ := blk_cell kl 0
  have ckl_1 : _ = some _ := blk_cell kl 1
  have ckl_2 : _ = some _ := blk_cell kl 2
  have ckl_3 : _ = some _ := blk_cell kl 3
  have ckl_4 : _ = some _ := blk_cell kl 4
  have ckl_5 : _ = some _ := blk_cell kl 5
  have ckl_6 : _ = some _ := blk_cell kl 6
  have ckl_7 : _ = some _ := blk_cell kl 7
  have ckl_8 : _ = some _ := blk_cell kl 8
  have fkl_0 := blk_free kl 0
  have fkl_1 := blk_free kl 1
  have fkl_2 := blk_free kl 2
  have fkl_3 := blk_free kl 3
  have fkl_4 := blk_free kl 4
  have fkl_5 := blk_free kl 5
  have fkl_6 := blk_free kl 6
  have fkl_7 := blk_free kl 7
  have fkl_8 := blk_free kl 8
  have okf := blk_older kf
  have ckf_0 : _ = some _ := blk_cell kf 0
  have ckf_1 : _ = some _ := blk_cell kf 1
  have ckf_2 : _ = some _ := blk_cell kf 2
  have ckf_3 : _ = some _ := blk_cell kf 3
  have ckf_4 : _ = some _ := blk_cell kf 4
  have ckf_5 : _ = some _ := blk_cell kf 5
  have ckf_6 : _ = some _ := blk_cell kf 6
  have ckf_7 : _ = some _ := blk_cell kf 7
  have ckf_8 : _ = some _ := blk_cell kf 8
  have fkf_0 := blk_free kf 0
  have fkf_1 := blk_free kf 1
  have fkf_2 := blk_free kf 2
  have fkf_3 := blk_free kf 3
  have fkf_4 := blk_free kf 4
  have fkf_5 := blk_free kf 5
  have fkf_6 := blk_free kf 6
  have fkf_7 := blk_free kf 7
  have fkf_8 := blk_free kf 8
  go_enter Try.func61, Try.ntmps61
  go_wp2_with (first | (go_at_call 88; with_reducible_and_instances refine Calls.mono cR2 ?_; rintro e w2 ⟨rfl, cz, hR2, kt2, hb2⟩) | (go_at_call 90; with_reducible_and_instances refine Calls.mono (cM _ hR2 kt2) ?_; rintro e w4 ⟨rfl, hTP⟩))
  go_end0
  refine ⟨rfl, ?_⟩
  obtain ⟨T', M', r1, r2, r3, r4, r5, r6, r7, r8, r9, r10⟩ := hTP
  refine ⟨T', M', r1, r2, hb2.trans r3 fun _ _ h => h, r4, r5, r6, ?_, ?_, r9, ?_⟩
  · exact r7.trans List.perm_append_comm
  · exact r8.trans List.perm_append_comm
  · intro c hc
    rw [← A.out.1 c hc]
    refine r10 c fun h => hc ?_
    simp only [List.mem_append] at h ⊢
    exact h.symm

set_option maxRecDepth 100000 in
set_option maxHeartbeats 4000000 in
theorem detach1true (t lf : Nat) (mv : Value) (M : Nat → Nd) (S : Nat → Prop) (w : World) (C : List Frm) (f : Frm) (i : Int) (x : Bx) (hsd : f.sd = true) (hR : Rep w M S) (kt : blk w t #[nptr (some (plug (f :: C) (.leaf lf i x)).b), mv] 78) (tS : ¬ S t) (hT : Top M (plug (f :: C) (.leaf lf i x))) (hS : ∀ c ∈ (plug (f :: C) (.leaf lf i x)).bs, S c) (hN : (plug (f :: C) (.leaf lf i x)).lv.length ≤ 100000) :
    Calls Try.prog 61 #[.pointer (some ⟨t, 0, none⟩), .pointer (some ⟨lf, 0, none⟩)] w fun e w' => e = .returned (.tuple #[]) ∧ TreePost t mv M S w (clv (f :: C)) (f.s.bs ++ cbs C) w' := by
  obtain ⟨s1, s2, s3, s4, s5, s6, s7, s8, s9, l1, l2, l3, b1, b2⟩ := det_st hT
  have hp := plug_bs (f :: C) (.leaf lf i x)
  have hlen := (plug_lv (f :: C) (.leaf lf i x)).length_eq
  have hmem : ∀ c, c ∈ cbs (f :: C) ++ [lf] → S c := fun c h => hS c (hp.mem_iff.2 h)
  have slf : S lf := hmem _ (by simp)
  have sfb : S f.b := hmem _ (by simp [cbs])
  have ssb : S f.s.b := hmem _ (by simp [cbs, f.s.b_mem])
  have kl := hR lf slf
  have kf := hR f.b sfb
  have ks := hR f.s.b ssb
  have cR := replace_r t f.b f.s.b (some (plug (f :: C) (.leaf lf i x)).b) mv M S w hR kt tS sfb ssb (Ne.symm s5) (s2.par (fun c hc => hmem c (by simp [cbs, hc])) s3 s4)
  have hoff : ∀ c, c ∉ f.s.bs ++ cbs C → replM M f.b f.s.b c = M c := fun c hc => by
    simp only [List.mem_append, not_or] at hc
    exact replM_other (fun e => hc.1 (e ▸ f.s.b_mem)) (s2.off hc.2)
  generalize replM M f.b f.s.b = M1 at *
  generalize replR M f.b f.s.b (some (plug (f :: C) (.leaf lf i x)).b) = root1 at *
  obtain ⟨P, hP⟩ : ∃ P, Hid (nptr (M1 f.s.b).p = P) := ⟨_, rfl⟩
  have A : Hid ((∀ c, c ∉ f.s.bs ++ cbs C → M1 c = M c) ∧ (∀ c ∈ cbs C ++ f.s.bs, S c) ∧ (clv C ++ f.s.lv).length ≤ 100000) := ⟨hoff, fun c hc => hmem c (by simp only [cbs, List.mem_append, List.mem_cons] at hc ⊢; rcases hc with h | h <;> simp [h]), by simp only [clv, List.length_append] at hlen ⊢; omega⟩
  have cM := fun w' (h : Hid (Rep w' M1 S)) (k : blk w' t #[nptr root1, mv] 78) => mend_b t root1 mv M1 S w' C f.s (1 + max 1 f.s.ht) P h.out k tS s1 A.out.2.1 b1 b2 (by omega) (by have := f.s.ht_pos; omega) (by have := A.out.2.2; omega) hP.out
  have cR2 : Calls Try.prog 88 #[.pointer (some ⟨t, 0, none⟩), .pointer (some ⟨f.b, 0, none⟩), .pointer (some ⟨f.s.b, 0, none⟩)] w fun e w'' => e = .returned (.tuple #[]) ∧ w''.cell? ⟨f.s.b, 6, none⟩ = some P ∧ Hid (Rep w'' M1 S) ∧ blk w'' t #[nptr root1, mv] 78 ∧ But (fun k => k = t ∨ S k) w w'' := cR.mono fun e w'' ⟨h1, h2, h3, h4⟩ => ⟨h1, by have := blk_cell (h2 _ ssb) 6; rw [← hP.out]; exact this, h2, h3, h4⟩
  clear cR hoff hP s1 s2 hp hlen hmem hR hT hS hN b1 b2
  simp only [hsd, Bool.false_eq_true, if_false, if_true] at l2 l3
  obtain ⟨N, hNN⟩ : ∃ N, M lf = N := ⟨_, rfl⟩
  obtain ⟨Q, hQ⟩ : ∃ Q, M f.b = Q := ⟨_, rfl⟩
  obtain ⟨Y, hY⟩ : ∃ Y, M f.s.b = Y := ⟨_, rfl⟩
  rw [hNN] at kl l1
  rw [hQ] at kf l2 l3
  rw [hY] at ks
  clear hNN hQ hY
  obtain ⟨iN, ⟨x0N, y0N, x1N, y1N⟩, hN', pN, lN, rN⟩ := N
  obtain ⟨iQ, ⟨x0Q, y0Q, x1Q, y1Q⟩, hQ', pQ, lQ, rQ⟩ := Q
  obtain ⟨iY, ⟨x0Y, y0Y, x1Y, y1Y⟩, hY', pY, lY, rY⟩ := Y
  dsimp only at l1 l2 l3
  subst l1 l2 l3
  simp only [ndc, nptr_some] at kl kf ks
  generalize nptr lN = LN at *
  generalize nptr rN = RN at *
  generalize nptr pQ = PQ at *
  generalize nptr pY = PY at *
  generalize nptr lY = LY at *
  generalize nptr rY = RY at *
  obtain ⟨fb, hfb⟩ : ∃ fb, Hid (f.b = fb) := ⟨_, rfl⟩
  obtain ⟨sb, hsb⟩ : ∃ sb, Hid (f.s.b = sb) := ⟨_, rfl⟩
  simp only [hfb.out, hsb.out] at kl kf ks cR2 s3 s4 s5 s6 s7 sfb ssb
  simp only [nptr_some] at kt
  generalize (plug (f :: C) (Tr.leaf lf i x)).b = tb at *
  have D : Hid (¬ fb ∈ cbs C ∧ ¬ sb ∈ cbs C ∧ ¬ lf ∈ cbs C ∧ ¬ lf ∈ f.s.bs) := ⟨s3, s4, s8, s9⟩
  clear s3 s4 s8 s9
  have he := ptr_other (Ne.symm s6) ks kl
  have okl := blk_older kl
  have ckl_0 : _ = some _ := blk_cell kl 0
  have ckl_1 : _ = some _ := blk_cell kl 1
  have ckl_2 : _ = some _ := blk_cell kl 2
  have ckl_3 : _ = some _ := blk_cell kl 3
  have ckl_4 : _ = some _ := blk_cell kl 4
  have ckl_5 : _ = some _ := blk_cell kl 5
  have ckl_6 : _ = some _ := blk_cell kl 6
  have ckl_7 : _ = some _ := blk_cell kl 7
  have ckl_8 : _ = some _ := blk_cell kl 8
  have fkl_0 := blk_free kl 0
  have fkl_1 := blk_free kl 1
  have fkl_2 := blk_free kl 2
  have fkl_3 := blk_free kl 3
  have fkl_4 := blk_free kl 4
  have fkl_5 := blk_free kl 5
  have fkl_6 := blk_free kl 6
  have fkl_7 := blk_free kl 7
  have fkl_8 := blk_free kl 8
  have okf := blk_older kf
  have ckf_0 : _ = some _ := blk_cell kf 0
  have ckf_1 : _ = some _ := blk_cell kf 1
  have ckf_2 : _ = some _ := blk_cell kf 2
  have ckf_3 : _ = some _ := blk_cell kf 3
  have ckf_4 : _ = some _ := blk_cell kf 4
  have ckf_5 : _ = some _ := blk_cell kf 5
  have ckf_6 : _ = some _ := blk_cell kf 6
  have ckf_7 : _ = some _ := blk_cell kf 7
  have ckf_8 : _ = some _ := blk_cell kf 8
  have fkf_0 := blk_free kf 0
  have fkf_1 := blk_free kf 1
  have fkf_2 := blk_free kf 2
  have fkf_3 := blk_free kf 3
  have fkf_4 := blk_free kf 4
  have fkf_5 := blk_free kf 5
  have fkf_6 := blk_free kf 6
  have fkf_7 := blk_free kf 7
  have fkf_8 := blk_free kf 8
  go_enter Try.func61, Try.ntmps61
  go_wp2_with (first | (go_at_call 88; with_reducible_and_instances refine Calls.mono cR2 ?_; rintro e w2 ⟨rfl, cz, hR2, kt2, hb2⟩) | (go_at_call 90; with_reducible_and_instances refine Calls.mono (cM _ hR2 kt2) ?_; rintro e w4 ⟨rfl, hTP⟩))
  go_end0
  refine ⟨rfl, ?_⟩
  obtain ⟨T', M', r1, r2, r3, r4, r5, r6, r7, r8, r9, r10⟩ := hTP
  refine ⟨T', M', r1, r2, hb2.trans r3 fun _ _ h => h, r4, r5, r6, ?_, ?_, r9, ?_⟩
  · exact r7.trans List.perm_append_comm
  · exact r8.trans List.perm_append_comm
  · intro c hc
    rw [← A.out.1 c hc]
    refine r10 c fun h => hc ?_
    simp only [List.mem_append] at h ⊢
    exact h.symm

/-- The leaf is taken out. -/
theorem detach1 (t lf : Nat) (mv : Value) (M : Nat → Nd) (S : Nat → Prop) (w : World) (C : List Frm) (f : Frm) (i : Int) (x : Bx) (hR : Rep w M S) (kt : blk w t #[nptr (some (plug (f :: C) (.leaf lf i x)).b), mv] 78) (tS : ¬ S t) (hT : Top M (plug (f :: C) (.leaf lf i x))) (hS : ∀ c ∈ (plug (f :: C) (.leaf lf i x)).bs, S c) (hN : (plug (f :: C) (.leaf lf i x)).lv.length ≤ 100000) :
    Calls Try.prog 61 #[.pointer (some ⟨t, 0, none⟩), .pointer (some ⟨lf, 0, none⟩)] w fun e w' => e = .returned (.tuple #[]) ∧ TreePost t mv M S w (clv (f :: C)) (f.s.bs ++ cbs C) w' := by
  cases h : f.sd with
  | false => exact detach1false t lf mv M S w C f i x h hR kt tS hT hS hN
  | true => exact detach1true t lf mv M S w C f i x h hR kt tS hT hS hN

end Go.Proofs.Ytfhhkabdeajieaa
