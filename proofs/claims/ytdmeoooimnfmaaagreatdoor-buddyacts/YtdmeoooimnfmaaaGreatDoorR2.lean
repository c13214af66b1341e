/- The contracts of the document's answer's own 'with' and 'find'. -/
import Derived.Test.YtdmeoooimnfmaaaGreatDoorR0
import Derived.Test.YtdmeoooimnfmaaaGreatDoorR1
import Derived.Laws.AppendOwnNone
namespace Go.Proofs.YtdmeoooimnfmaaaGreatDoor
open Go.RowKit
namespace Bd
open Fr
theorem ins_one (x : Bl) : ins x [] = [x] := rfl
theorem row_flat (L : List Bl) (x : Bl) (j : Nat) : flat (L.take j ++ x :: L.drop j) = flat (L.take j) ++ [.int .i64 x.1, .int .i64 x.2] ++ flat (L.drop j) := by
  rw [flat_append]; simp [flat]

set_option maxRecDepth 100000 in
set_option maxHeartbeats 2000000 in
theorem with_nil (x : Bl) (w : World) :
    Calls Tryz.prog 26 #[.slice none 0 0, blkV x.1 x.2] w fun ev w' => ∃ v, ev = .returned v ∧ w'.ownsRow w.heap.size 33 2 v (ins x []).length (flat (ins x [])) ∧ (ins x [] = [] → v = .slice none 0 0) ∧ Below w.heap.size w w' := by
  obtain ⟨i0, hi, hz0, hz1, hz2⟩ := info_parts info36
  have X := bx_new w x
  have s1 : (w.alloc (blkO x.1 x.2)).heap.size = w.heap.size + 1 := by simp
  have B := ballo (Below.refl w.heap.size w) (blkO x.1 x.2)
  obtain ⟨a, k⟩ := x
  simp only at *
  have HI := hide hi
  have HZ := hide hz0
  have HZ1 := hide hz1
  have HZ2 := hide hz2
  clear hi hz0 hz1 hz2
  have x0 := X.c0
  have x1 := X.c1
  simp only at x0 x1
  obtain ⟨M, hM⟩ : ∃ M, Hid (M = ins (a, k) []) := ⟨_, rfl⟩
  rw [← unhide hM]
  go_enter Tryz.func26, Tryz.ntmps26
  go_wp2
  refine wp_loop_rounds 1 ?_
  rw [rounds_succ]
  go_wp2_with fail
  generalize w.alloc (blkO a k) = W at *
  go_quiet (fail)
  have X := X.b (bdrN (Below.refl _ W) nq)
  have B := bdrN B nq
  clear s1
  clear x0 x1
  have x0 := X.c0
  have x1 := X.c1
  simp only at x0 x1
  generalize W.drewN nq = WQ at *
  go_wp2_with (first
    | (at_builtin; refine wpList_append_own _ rfl (.tmp 28) (.tmp 30) 46 rfl w.heap.size 33 i0 (.agg #[.int .i64 0, .int .i64 0]) 2 16 Tryz.underlying46 (unhide HI) (unhide HZ) (unhide HZ1) (unhide HZ2) rfl (by decide) _ 0 [] rfl (World.ownsRow_nil _ _ _ _) _ _ _ [.int .i64 a, .int .i64 k] rfl rfl (news2 _ a k) (one2 a k) (by unfold maxLen; omega) (by omega) (by have := B.size; simp; omega) ?_; intro v1 w1 o1 g1 n1)
    | (at_builtin; refine wpList_append_own_none rfl (.tmp 32) (.tmp 35) 46 rfl w.heap.size 33 i0 2 Tryz.underlying46 (unhide HI) _ _ _ rfl o1 rfl ?_))
  go_ret
  have hb := (ballo B _).grown g1 (by have := B.size; simp; omega) (fun k hk => by cases hk)
  rw [unhide hM]
  refine ⟨_, rfl, ?_, fun h0 => absurd h0 (by unfold ins; simp), hb⟩
  simpa [ins, flat] using o1

set_option maxRecDepth 100000 in
set_option maxHeartbeats 4000000 in
theorem with_ok (g cap : Nat) (L : List Bl) (x : Bl) (w : World) (hr : Row w g L) (h0 : 0 < L.length) (hl : L.length ≤ 256) (hcap : L.length ≤ cap) (hcap2 : cap ≤ maxLen) (hx : ∀ y ∈ L, y.1 ≠ x.1) :
    Calls Tryz.prog 26 #[.slice (some ⟨g, 0, none⟩) L.length cap, blkV x.1 x.2] w fun ev w' => ∃ v, ev = .returned v ∧ w'.ownsRow w.heap.size 33 2 v (ins x L).length (flat (ins x L)) ∧ (ins x L = [] → v = .slice none 0 0) ∧ Below w.heap.size w w' := by
  obtain ⟨i0, hi, hz0, hz1, hz2⟩ := info_parts info36
  have HI := hide hi
  have HZ := hide hz0
  have HZ1 := hide hz1
  have HZ2 := hide hz2
  have X0 := hide (bx_new w x)
  have B0 := hide (ballo (Below.refl w.heap.size w) (blkO x.1 x.2))
  have s0 : (w.alloc (blkO x.1 x.2)).heap.size = w.heap.size + 1 := by simp
  have R0 := hide (hr.b (ballo (Below.refl w.heap.size w) (blkO x.1 x.2)))
  have hgl := hr.lt
  have HXN := hide hx
  have HR0 := hide hr
  clear hi hz0 hz1 hz2 hr hx
  unfold maxLen at hcap2
  obtain ⟨a, k⟩ := x
  simp only at X0 B0 R0 s0
  obtain ⟨M, hM⟩ : ∃ M, Hid (M = ins (a, k) L) := ⟨_, rfl⟩
  have HNE : Hid (M ≠ []) := by show M ≠ []; rw [unhide hM]; intro h; have := mem_ins_self (a, k) L; rw [h] at this; cases this
  rw [← unhide hM]
  generalize hn : L.length = n at *
  go_enter Tryz.func26, Tryz.ntmps26
  go_wp2_with fail
  generalize w.alloc (blkO a k) = W at *
  go_loopw [5] (fun s wr => ∃ j : Nat, s = .int .i64 j ∧ j ≤ n ∧ Hid (∀ i (_ : i < j) (h : i < L.length), L[i].1 < a) ∧ Hid (Below W.heap.size W wr)) (fun s _ => n - (RowKit.intOf s).toNat)
  case atStart => exact ⟨0, rfl, Nat.zero_le _, fun i hi => by omega, Below.refl _ _⟩
  case round =>
    obtain ⟨j, rfl, hj, hlow, hb⟩ := hrel
    have xr := (unhide X0).b (unhide hb)
    have x0 := xr.c0
    have x1 := xr.c1
    simp only at x0 x1
    have RR := (unhide R0).b (unhide hb)
    have hgr := RR.lt
    by_cases hgo : ∃ h : j < L.length, L[j].1 < a
    · obtain ⟨hjL, hlt⟩ := hgo
      have cc := RR.c j hjL
      rw [getD_lt hjL] at cc
      have hlow2 : Hid (∀ i (_ : i < j + 1) (h : i < L.length), L[i].1 < a) := fun i hi h => by
        by_cases e : i = j
        · subst e; exact hlt
        · exact (unhide hlow) i (by omega) h
      generalize L[j] = y at *
      obtain ⟨y1, y2⟩ := y
      obtain ⟨c1, c2⟩ := cc
      simp only at c1 c2 hlt
      have hjn : j < n := by omega
      have hjn2 : (j : Int) < n := by omega
      have hj0 : (0 : Int) ≤ j := by omega
      have hd : decide (y1 < a) = true := by simpa using hlt
      clear hlow xr RR
      go_wp2_with fail
      go_quiet (fail)
      go_wp2
      go_roundw
      case rel => exact ⟨j + 1, by go_num, by omega, unhide hlow2, bdrN (unhide hb) _⟩
      case measure => simp [RowKit.intOf]; omega
    · have hup : ∀ h : j < L.length, a < L[j].1 := fun h => by
        have h1 : L[j].1 ≠ a := (unhide HXN) L[j] (List.getElem_mem h)
        have h2 : ¬ L[j].1 < a := fun c => hgo ⟨h, c⟩
        omega
      have hins := ins_at (x := (a, k)) (L := L) (j := j) (unhide hlow) (by omega) hup
      have hfl := row_flat L (a, k) j
      rw [← hins, ← unhide hM] at hfl
      have hlen : M.length = j + 1 + (n - j) := by rw [unhide hM, hins]; simp; omega
      have HFL := hide hfl
      have HLEN := hide hlen
      have ht : Hid ((flat (L.take j)).length = j * 2) := by show _ = _; rw [flat_length, List.length_take, Nat.min_eq_left (by omega)]
      have hd : Hid ((flat (L.drop j)).length = (n - j) * 2) := by show _ = _; rw [flat_length, List.length_drop, hn]
      have HN1 := hide (fun w1 (h : Row w1 g L) => news_take h j)
      have HN2 := hide (fun w1 (h : Row w1 g L) => news_drop h j (by omega))
      have hjc : (j : Int) ≤ cap := by omega
      have hjc2 : j ≤ cap := by omega
      have hj0 : (0 : Int) ≤ j := by omega
      clear hins hfl hlen hlow
      have hcase : (∃ y1 y2 : Int, j < n ∧ wr.cell? ⟨g, j * 2, none⟩ = some (.int .i64 y1) ∧ wr.cell? ⟨g, j * 2 + 1, none⟩ = some (.int .i64 y2) ∧ decide (y1 < a) = false) ∨ ¬ j < n := by
        by_cases hjn : j < n
        · have hjL : j < L.length := by omega
          have cc := RR.c j hjL
          rw [getD_lt hjL] at cc
          have := hup hjL
          exact Or.inl ⟨_, _, hjn, cc.1, cc.2, by simp; omega⟩
        · exact Or.inr hjn
      clear hgo hup
      have RRH := hide RR
      have XRH := hide xr
      clear RR xr x0 x1
      have tok1 : True := trivial
      have tok2 : True := trivial
      by_cases hcj : j = cap
      · subst hcj
        have hzd : Hid (flat (L.drop j) = []) := by show _ = _; rw [List.drop_of_length_le (by omega)]; rfl
        have hjn : ¬ j < n := by omega
        have hjn2 : ¬ (j : Int) < n := by omega
        clear hcase
        have x0 := (unhide XRH).c0
        simp only at x0
        go_wp2_with fail
        go_quiet (fail)
        have RQ := hide ((unhide RRH).b (bdrN (Below.refl _ wr) nq))
        have XQ := hide ((unhide XRH).b (bdrN (Below.refl _ wr) nq))
        have FQ := hide (((unhide B0).trans ((unhide hb).mono (by omega))).trans ((bdrN (Below.refl _ wr) nq).mono (by have := (unhide hb).size; omega)))
        generalize wr.drewN nq = WQ at *
        go_wp2_with (first
          | (at_builtin; have _t := tok1; refine wpList_append_own _ rfl (.tmp 23) (.tmp 26) 46 rfl w.heap.size 33 i0 (.agg #[.int .i64 0, .int .i64 0]) 2 16 Tryz.underlying46 (unhide HI) (unhide HZ) (unhide HZ1) (unhide HZ2) rfl (by decide) _ 0 [] rfl (World.ownsRow_nil _ _ _ _) _ _ _ (flat (L.take j)) rfl (unhide ht) ((unhide HN1) _ (unhide RQ)) (flat_one _) (by unfold maxLen; omega) (by omega) (unhide FQ).size ?_; intro v1 w1 o1 g1 n1; have bq := (Below.refl WQ.heap.size WQ).grown g1 (Nat.le_refl _) (fun k hk => by cases hk); have X1 := (unhide XQ).b bq; have q0 := X1.c0; have q1 := X1.c1; simp only at q0 q1; have F1 := hide ((unhide FQ).trans (bq.mono (unhide FQ).size)); have O1 := hide o1; clear o1 g1 n1 bq X1 tok1)
          | (at_builtin; have _t := tok2; refine wpList_append_own _ rfl (.tmp 28) (.tmp 30) 46 rfl w.heap.size 33 i0 (.agg #[.int .i64 0, .int .i64 0]) 2 16 Tryz.underlying46 (unhide HI) (unhide HZ) (unhide HZ1) (unhide HZ2) rfl (by decide) _ _ _ rfl ((unhide O1).alloc _) _ _ _ [.int .i64 a, .int .i64 k] rfl rfl (news2 _ a k) (one2 a k) (by unfold maxLen; omega) (by omega) (by have := (unhide F1).size; simp; omega) ?_; intro v2 w2 o2 g2 n2; have F2 := hide ((ballo (unhide F1) _).grown g2 (by have := (unhide F1).size; simp; omega) (own_row (unhide O1))); have O2 := hide o2; clear o2 g2 n2 tok2)
          | (at_builtin; refine wpList_append_own _ rfl (.tmp 32) (.tmp 35) 46 rfl w.heap.size 33 i0 (.agg #[.int .i64 0, .int .i64 0]) 2 16 Tryz.underlying46 (unhide HI) (unhide HZ) (unhide HZ1) (unhide HZ2) rfl (by decide) _ _ _ rfl (unhide O2) _ 0 _ [] rfl rfl (by intro j u h; simp at h) (by intro u h; simp at h) (by unfold maxLen; omega) (by omega) (unhide F2).size ?_; intro v3 w3 o3 g3 n3))
        go_ret
        have b3 : Below w.heap.size w w3 := (unhide F2).grown g3 (unhide F2).size (own_row (unhide O2))
        refine ⟨_, rfl, ?_, fun h0 => absurd h0 (unhide HNE), b3⟩
        rw [unhide HLEN, unhide HFL, unhide hzd, show j + 1 + (n - j) = j + 1 + 0 by omega]
        simpa using o3
      · have hltc : (j : Int) < cap := by omega
        rcases hcase with ⟨y1, y2, hjn, c1, c2, hd0⟩ | hjn
        · have hjn2 : (j : Int) < n := by omega
          have x0 := (unhide XRH).c0
          simp only at x0
          go_wp2_with fail
          go_quiet (fail)
          have RQ := hide ((unhide RRH).b (bdrN (Below.refl _ wr) nq))
          have XQ := hide ((unhide XRH).b (bdrN (Below.refl _ wr) nq))
          have FQ := hide (((unhide B0).trans ((unhide hb).mono (by omega))).trans ((bdrN (Below.refl _ wr) nq).mono (by have := (unhide hb).size; omega)))
          generalize wr.drewN nq = WQ at *
          clear c1 c2 x0
          go_wp2_with (first
            | (at_builtin; have _t := tok1; refine wpList_append_own _ rfl (.tmp 23) (.tmp 26) 46 rfl w.heap.size 33 i0 (.agg #[.int .i64 0, .int .i64 0]) 2 16 Tryz.underlying46 (unhide HI) (unhide HZ) (unhide HZ1) (unhide HZ2) rfl (by decide) _ 0 [] rfl (World.ownsRow_nil _ _ _ _) _ _ _ (flat (L.take j)) rfl (unhide ht) ((unhide HN1) _ (unhide RQ)) (flat_one _) (by unfold maxLen; omega) (by omega) (unhide FQ).size ?_; intro v1 w1 o1 g1 n1; have bq := (Below.refl WQ.heap.size WQ).grown g1 (Nat.le_refl _) (fun k hk => by cases hk); have X1 := (unhide XQ).b bq; have q0 := X1.c0; have q1 := X1.c1; simp only at q0 q1; have F1 := hide ((unhide FQ).trans (bq.mono (unhide FQ).size)); have O1 := hide o1; clear o1 g1 n1 bq X1 tok1)
            | (at_builtin; have _t := tok2; refine wpList_append_own _ rfl (.tmp 28) (.tmp 30) 46 rfl w.heap.size 33 i0 (.agg #[.int .i64 0, .int .i64 0]) 2 16 Tryz.underlying46 (unhide HI) (unhide HZ) (unhide HZ1) (unhide HZ2) rfl (by decide) _ _ _ rfl ((unhide O1).alloc _) _ _ _ [.int .i64 a, .int .i64 k] rfl rfl (news2 _ a k) (one2 a k) (by unfold maxLen; omega) (by omega) (by have := (unhide F1).size; simp; omega) ?_; intro v2 w2 o2 g2 n2; have F2 := hide ((ballo (unhide F1) _).grown g2 (by have := (unhide F1).size; simp; omega) (own_row (unhide O1))); have O2 := hide o2; clear o2 g2 n2 tok2)
            | (at_builtin; refine wpList_append_own _ rfl (.tmp 32) (.tmp 35) 46 rfl w.heap.size 33 i0 (.agg #[.int .i64 0, .int .i64 0]) 2 16 Tryz.underlying46 (unhide HI) (unhide HZ) (unhide HZ1) (unhide HZ2) rfl (by decide) _ _ _ rfl (unhide O2) _ _ _ (flat (L.drop j)) rfl (unhide hd) ((unhide HN2) _ ((unhide HR0).b (unhide F2))) (flat_one _) (by unfold maxLen; omega) (by omega) (unhide F2).size ?_; intro v3 w3 o3 g3 n3))
          go_ret
          have b3 : Below w.heap.size w w3 := (unhide F2).grown g3 (unhide F2).size (own_row (unhide O2))
          refine ⟨_, rfl, ?_, fun h0 => absurd h0 (unhide HNE), b3⟩
          rw [unhide HLEN, unhide HFL]
          simpa using o3
        · have hjn2 : ¬ (j : Int) < n := by omega
          have x0 := (unhide XRH).c0
          simp only at x0
          go_wp2_with fail
          go_quiet (fail)
          have RQ := hide ((unhide RRH).b (bdrN (Below.refl _ wr) nq))
          have XQ := hide ((unhide XRH).b (bdrN (Below.refl _ wr) nq))
          have FQ := hide (((unhide B0).trans ((unhide hb).mono (by omega))).trans ((bdrN (Below.refl _ wr) nq).mono (by have := (unhide hb).size; omega)))
          generalize wr.drewN nq = WQ at *
          clear x0
          go_wp2_with (first
            | (at_builtin; have _t := tok1; refine wpList_append_own _ rfl (.tmp 23) (.tmp 26) 46 rfl w.heap.size 33 i0 (.agg #[.int .i64 0, .int .i64 0]) 2 16 Tryz.underlying46 (unhide HI) (unhide HZ) (unhide HZ1) (unhide HZ2) rfl (by decide) _ 0 [] rfl (World.ownsRow_nil _ _ _ _) _ _ _ (flat (L.take j)) rfl (unhide ht) ((unhide HN1) _ (unhide RQ)) (flat_one _) (by unfold maxLen; omega) (by omega) (unhide FQ).size ?_; intro v1 w1 o1 g1 n1; have bq := (Below.refl WQ.heap.size WQ).grown g1 (Nat.le_refl _) (fun k hk => by cases hk); have X1 := (unhide XQ).b bq; have q0 := X1.c0; have q1 := X1.c1; simp only at q0 q1; have F1 := hide ((unhide FQ).trans (bq.mono (unhide FQ).size)); have O1 := hide o1; clear o1 g1 n1 bq X1 tok1)
            | (at_builtin; have _t := tok2; refine wpList_append_own _ rfl (.tmp 28) (.tmp 30) 46 rfl w.heap.size 33 i0 (.agg #[.int .i64 0, .int .i64 0]) 2 16 Tryz.underlying46 (unhide HI) (unhide HZ) (unhide HZ1) (unhide HZ2) rfl (by decide) _ _ _ rfl ((unhide O1).alloc _) _ _ _ [.int .i64 a, .int .i64 k] rfl rfl (news2 _ a k) (one2 a k) (by unfold maxLen; omega) (by omega) (by have := (unhide F1).size; simp; omega) ?_; intro v2 w2 o2 g2 n2; have F2 := hide ((ballo (unhide F1) _).grown g2 (by have := (unhide F1).size; simp; omega) (own_row (unhide O1))); have O2 := hide o2; clear o2 g2 n2 tok2)
            | (at_builtin; refine wpList_append_own _ rfl (.tmp 32) (.tmp 35) 46 rfl w.heap.size 33 i0 (.agg #[.int .i64 0, .int .i64 0]) 2 16 Tryz.underlying46 (unhide HI) (unhide HZ) (unhide HZ1) (unhide HZ2) rfl (by decide) _ _ _ rfl (unhide O2) _ _ _ (flat (L.drop j)) rfl (unhide hd) ((unhide HN2) _ ((unhide HR0).b (unhide F2))) (flat_one _) (by unfold maxLen; omega) (by omega) (unhide F2).size ?_; intro v3 w3 o3 g3 n3))
          go_ret
          have b3 : Below w.heap.size w w3 := (unhide F2).grown g3 (unhide F2).size (own_row (unhide O2))
          refine ⟨_, rfl, ?_, fun h0 => absurd h0 (unhide HNE), b3⟩
          rw [unhide HLEN, unhide HFL]
          simpa using o3
end Bd
end Go.Proofs.YtdmeoooimnfmaaaGreatDoor
