/- The document's answer's lists of buddies, plainly: what is put in its place, what is taken out, the best one so far · The contracts of the document's answer's own list functions of chapter 2: find, without, with · The contracts of the document's answer's own 'with' and 'find' · The contracts of the document's answer's own list functions of chapter 2: find, without, with. -/
import Derived.Test.YtfefehkapffljaaGreatDoorGC
import Derived.Test.YtfefehkapffljaaGreatDoorGD
import Derived.Test.YtfefehkapffljaaGreatDoorGE
import Derived.Laws.AppendOwnNone
import Derived.Test.YtfefehkapffljaaGreatDoorGA
namespace Go.Proofs.YtfefehkapffljaaGreatDoor
open Go.RowKit
namespace Bd
open Fr
theorem ins_at {x : Bl} : ∀ {L : List Bl} {j : Nat}, (∀ i (_ : i < j) (h : i < L.length), L[i].1 < x.1) → j ≤ L.length → (∀ h : j < L.length, x.1 < L[j].1) → ins x L = L.take j ++ x :: L.drop j
  | [], j, _, hj, _ => by
    obtain rfl : j = 0 := by simpa using hj
    rfl
  | y :: l, 0, _, _, h2 => by
    have := h2 (by simp)
    simp only [List.getElem_cons_zero] at this
    unfold ins; rw [if_pos this]; rfl
  | y :: l, j + 1, h1, hj, h2 => by
    have hy := h1 0 (by omega) (by simp)
    simp only [List.getElem_cons_zero] at hy
    unfold ins
    rw [if_neg (by omega), if_neg (by omega), ins_at (j := j) (fun i hi h => by have := h1 (i + 1) (by omega) (by simpa using h); simpa using this) (by simpa using hj) (fun h => by have := h2 (by simpa using h); simpa using this)]
    rfl
theorem erase_del : ∀ {L : List Bl} {k : Nat} (_ : Srt L) (h : k < L.length), L.take k ++ L.drop (k + 1) = del L[k].1 L
  | [], _, _, h => by simp at h
  | y :: l, 0, hs, _ => by
    rw [srt_cons] at hs
    simp only [List.take_zero, List.nil_append, List.drop_succ_cons, List.drop_zero, List.getElem_cons_zero]
    show l = List.filter _ (y :: l)
    rw [List.filter_cons]
    simp only [bne_self_eq_false, Bool.false_eq_true, if_false]
    exact (del_none (a := y.1) (fun z hz => by have := hs.1 z hz; omega)).symm
  | y :: l, k + 1, hs, h => by
    rw [srt_cons] at hs
    have hk : k < l.length := by simpa using h
    have := hs.1 l[k] (List.getElem_mem hk)
    simp only [List.take_succ_cons, List.drop_succ_cons, List.getElem_cons_succ, List.cons_append]
    rw [erase_del hs.2 hk]
    show _ = List.filter _ (y :: l)
    rw [List.filter_cons, if_pos (by simp only [bne_iff_ne, ne_eq]; omega)]
    rfl

/-- Of the first j blocks the first one of the least order that will do: its number (-1: none). -/
def bst (o : Int) (L : List Bl) : Nat → Int
  | 0 => -1
  | j + 1 => if o ≤ (L.getD j (0, 0)).2 ∧ (bst o L j < 0 ∨ (L.getD j (0, 0)).2 < (L.getD (bst o L j).toNat (0, 0)).2) then j else bst o L j
theorem bst_range (o : Int) (L : List Bl) : ∀ j, -1 ≤ bst o L j ∧ bst o L j < j
  | 0 => by simp [bst]
  | j + 1 => by
    have := bst_range o L j
    unfold bst
    split <;> omega
def flt (o : Int) (L : List Bl) : List Bl := L.filter (fun x => decide (o ≤ x.2))
theorem pk_append (M : List Bl) (y : Bl) : ∀ j, j < M.length → pk (M ++ [y]) j = pk M j
  | 0, h => by unfold pk; rw [getD_lt (by simp), getD_lt h, List.getElem_append_left h]
  | j + 1, h => by
    unfold pk
    rw [pk_append M y j (by omega), getD_lt (by simp; omega), getD_lt h, List.getElem_append_left h]
theorem bst_fit (o : Int) (L : List Bl) : ∀ j, j ≤ L.length → (bst o L j < 0 → flt o (L.take j) = []) ∧ (0 ≤ bst o L j → flt o (L.take j) ≠ [] ∧ L.getD (bst o L j).toNat (0, 0) = pk (flt o (L.take j)) ((flt o (L.take j)).length - 1))
  | 0, _ => by simp [bst, flt]
  | j + 1, h => by
    obtain ⟨h1, h2⟩ := bst_fit o L j (by omega)
    have hj : j < L.length := by omega
    have hr := bst_range o L j
    have ht : flt o (L.take (j + 1)) = flt o (L.take j) ++ flt o [L[j]] := by
      unfold flt
      rw [List.take_succ_eq_append_getElem hj, List.filter_append]
    have hg : L.getD j (0, 0) = L[j] := getD_lt hj
    unfold bst
    rw [hg, ht]
    by_cases ho : o ≤ L[j].2
    · have hf : flt o [L[j]] = [L[j]] := by simp [flt, ho]
      rw [hf]
      have hl : (flt o (L.take j) ++ [L[j]]).length - 1 = (flt o (L.take j)).length := by simp
      rw [hl]
      by_cases hb : bst o L j < 0
      · rw [if_pos ⟨ho, Or.inl hb⟩, h1 hb]
        refine ⟨fun h => by omega, fun _ => ⟨by simp, ?_⟩⟩
        rw [show ((j : Int)).toNat = j by omega, hg]
        rfl
      · obtain ⟨q1, q2⟩ := h2 (by omega)
        have hpos := List.length_pos_iff.2 q1
        obtain ⟨m, hm⟩ : ∃ m, (flt o (L.take j)).length = m + 1 := ⟨(flt o (L.take j)).length - 1, by omega⟩
        have hpk : pk (flt o (L.take j) ++ [L[j]]) (flt o (L.take j)).length = if L[j].2 < (L.getD (bst o L j).toNat (0, 0)).2 then L[j] else L.getD (bst o L j).toNat (0, 0) := by
          rw [q2, hm]
          show (if ((flt o (L.take j) ++ [L[j]]).getD (m + 1) (0, 0)).2 < (pk (flt o (L.take j) ++ [L[j]]) m).2 then _ else _) = _
          rw [pk_append _ _ m (by omega), getD_lt (by simp; omega), List.getElem_append_right (by omega)]
          simp [hm]
        by_cases hlt : L[j].2 < (L.getD (bst o L j).toNat (0, 0)).2
        · rw [if_pos ⟨ho, Or.inr hlt⟩, hpk, if_pos hlt]
          exact ⟨fun h => by omega, fun _ => ⟨by simp, by rw [show ((j : Int)).toNat = j by omega, hg]⟩⟩
        · rw [if_neg (by intro c; rcases c.2 with c | c; exact hb c; exact hlt c), hpk, if_neg hlt]
          exact ⟨fun h => absurd h hb, fun _ => ⟨by simp, rfl⟩⟩
    · have hf : flt o [L[j]] = [] := by simp [flt, ho]
      rw [if_neg (fun c => ho c.1), hf, List.append_nil]
      exact ⟨h1, h2⟩
/-- The best one of all is the one that 'fit' finds. -/
theorem bst_none {o : Int} {L : List Bl} (h : bst o L L.length < 0) : fit o L = none := by
  have := (bst_fit o L L.length (Nat.le_refl _)).1 h
  rw [List.take_length] at this
  show (if flt o L = [] then none else some (pk (flt o L) ((flt o L).length - 1))) = none
  rw [if_pos this]
theorem bst_some {o : Int} {L : List Bl} (h : 0 ≤ bst o L L.length) : ∃ hb : (bst o L L.length).toNat < L.length, fit o L = some L[(bst o L L.length).toNat] := by
  obtain ⟨h1, h2⟩ := (bst_fit o L L.length (Nat.le_refl _)).2 h
  rw [List.take_length] at h1 h2
  have hr := bst_range o L L.length
  have hb : (bst o L L.length).toNat < L.length := by omega
  refine ⟨hb, ?_⟩
  show (if flt o L = [] then none else some (pk (flt o L) ((flt o L).length - 1))) = _
  rw [if_neg h1, ← getD_lt hb, h2]
end Bd
end Go.Proofs.YtfefehkapffljaaGreatDoor
namespace Go.Proofs.YtfefehkapffljaaGreatDoor
open Go.RowKit
namespace Bd
open Fr
theorem cells_flat {w : World} {g : Nat} {L : List Bl} (hr : Row w g L) : ∀ j u, (flat L)[j]? = some u → w.cell? ⟨g, j, none⟩ = some u := by
  intro j u hj
  have hlt : j < L.length * 2 := by
    have := (List.getElem?_eq_some_iff.1 hj).1
    rw [flat_length] at this; exact this
  have hi : j / 2 < L.length := by omega
  have hf := flat_get L (j / 2) hi
  have hci := hr.c (j / 2) hi
  rw [List.getD_eq_getElem?_getD, List.getElem?_eq_getElem hi, Option.getD_some] at hci
  rcases Nat.mod_two_eq_zero_or_one j with h0 | h1
  · have e : j / 2 * 2 = j := by omega
    have e2 : 2 * (j / 2) = j := by omega
    rw [e] at hci; rw [e2] at hf
    rw [hci.1, ← hj, hf.1]
  · have e : j / 2 * 2 + 1 = j := by omega
    have e2 : 2 * (j / 2) + 1 = j := by omega
    rw [e] at hci; rw [e2] at hf
    rw [hci.2, ← hj, hf.2]
theorem flat_append (a b : List Bl) : flat (a ++ b) = flat a ++ flat b := by simp [flat]
theorem flat_take (L : List Bl) (k : Nat) (j : Nat) (u : Value) (h : (flat (L.take k))[j]? = some u) : (flat L)[j]? = some u := by
  have hlt := (List.getElem?_eq_some_iff.1 h).1
  have e : flat L = flat (L.take k) ++ flat (L.drop k) := by rw [← flat_append, List.take_append_drop]
  rw [e, List.getElem?_append_left hlt]; exact h
theorem flat_drop (L : List Bl) (k : Nat) (hk : k ≤ L.length) (j : Nat) (u : Value) (h : (flat (L.drop k))[j]? = some u) : (flat L)[k * 2 + j]? = some u := by
  have e : flat L = flat (L.take k) ++ flat (L.drop k) := by rw [← flat_append, List.take_append_drop]
  have hl : (flat (L.take k)).length = k * 2 := by rw [flat_length, List.length_take, Nat.min_eq_left hk]
  rw [e, List.getElem?_append_right (by omega), hl, show k * 2 + j - k * 2 = j from by omega]; exact h
theorem flat_one (L : List Bl) : ∀ u ∈ flat L, u.oneCell' = true := by
  intro u hu
  simp only [flat, List.mem_flatMap] at hu
  obtain ⟨x, _, hx⟩ := hu
  simp at hx
  rcases hx with rfl | rfl <;> rfl
theorem add_at (g o j : Nat) : ((⟨g, o, none⟩ : Addr).add j) = ⟨g, o + j, none⟩ := by
  by_cases h : j = 0
  · subst h; simp [Addr.add]
  · simp [Addr.add, h]
/-- The cells of the first ones, and of the last ones, at their addresses. -/
theorem news_take {w : World} {g : Nat} {L : List Bl} (hr : Row w g L) (k : Nat) : ∀ j u, (flat (L.take k))[j]? = some u → w.cell? ((⟨g, 0, none⟩ : Addr).add j) = some u := fun j u h => by
  rw [add_at, Nat.zero_add]; exact cells_flat hr j u (flat_take L k j u h)
theorem news_drop {w : World} {g : Nat} {L : List Bl} (hr : Row w g L) (k : Nat) (hk : k ≤ L.length) : ∀ j u, (flat (L.drop k))[j]? = some u → w.cell? ((⟨g, k * 2, none⟩ : Addr).add j) = some u := fun j u h => by
  rw [add_at]; exact cells_flat hr _ u (flat_drop L k hk j u h)

set_option maxRecDepth 100000 in
set_option maxHeartbeats 2000000 in
theorem without_ok (g cap k : Nat) (L : List Bl) (w : World) (hr : Row w g L) (hl : L.length ≤ 256) (hcap : L.length ≤ cap) (hcap2 : cap ≤ maxLen) (hk : k < L.length) :
    Calls Tryz.prog 133 #[.slice (some ⟨g, 0, none⟩) L.length cap, .int .i64 k] w fun ev w' => ∃ v, ev = .returned v ∧ w'.ownsRow w.heap.size 71 2 v (L.take k ++ L.drop (k + 1)).length (flat (L.take k ++ L.drop (k + 1))) ∧ (L.take k ++ L.drop (k + 1) = [] → v = .slice none 0 0) ∧ Below w.heap.size w w' := by
  obtain ⟨i0, hi, hz0, hz1, hz2⟩ := info_parts info36
  have HI := hide hi
  have HZ := hide hz0
  have HZ1 := hide hz1
  have HZ2 := hide hz2
  have HR := hide hr
  have hgl := hr.lt
  clear hi hz0 hz1 hz2 hr
  have ht : (flat (L.take k)).length = k * 2 := by rw [flat_length, List.length_take, Nat.min_eq_left (by omega)]
  have hd : (flat (L.drop (k + 1))).length = (L.length - (k + 1)) * 2 := by rw [flat_length, List.length_drop]
  have hfin : (L.take k ++ L.drop (k + 1)).length = k + (L.length - (k + 1)) ∧ flat (L.take k ++ L.drop (k + 1)) = flat (L.take k) ++ flat (L.drop (k + 1)) := ⟨by simp; omega, flat_append _ _⟩
  have HFIN := hide hfin
  have HT := hide ht
  have HD := hide hd
  have HN1 := hide (fun w1 (h : Row w1 g L) => news_take h k)
  have HN2 := hide (fun w1 (h : Row w1 g L) => news_drop h (k + 1) (by omega))
  clear hfin ht hd
  unfold maxLen at hcap2
  have HL0 : Hid (L.take k ++ L.drop (k + 1) = [] → k = 0 ∧ L.length - (k + 1) = 0) := fun h => by
    have := congrArg List.length h
    rw [(unhide HFIN).1] at this
    simp at this; omega
  obtain ⟨M, hM⟩ : ∃ M, M = L.take k ++ L.drop (k + 1) := ⟨_, rfl⟩
  rw [← hM] at HFIN HL0 ⊢
  clear hM
  generalize hn : L.length = n at *
  have tok1 : True := trivial
  by_cases hc : k + 1 = cap
  · subst hc
    have hzd : Hid (flat (L.drop (k + 1)) = []) := by show _ = _; rw [List.drop_of_length_le (by omega)]; rfl
    go_enter Tryz.func133, Tryz.ntmps133
    go_wp2_with (first
      | (at_builtin; have _t := tok1; refine wpList_append_own _ rfl (.tmp 6) (.tmp 9) 146 rfl w.heap.size 71 i0 (.agg #[.int .i64 0, .int .i64 0]) 2 16 Tryz.underlying146 (unhide HI) (unhide HZ) (unhide HZ1) (unhide HZ2) rfl (by decide) _ 0 [] rfl (World.ownsRow_nil _ _ _ _) _ _ _ (flat (L.take k)) rfl (unhide HT) ((unhide HN1) _ (unhide HR)) (flat_one _) (by unfold maxLen; omega) (by omega) (Nat.le_refl _) ?_; intro v1 w1 o1 g1 n1; have b1 : Below w.heap.size w w1 := (Below.refl _ _).grown g1 (Nat.le_refl _) (fun k hk => by cases hk); have R1 := hide ((unhide HR).b b1); have N1 := hide n1; have B1 := hide b1; have O1 := hide o1; clear o1 g1 n1 b1 tok1)
      | (at_builtin; refine wpList_append_own _ rfl (.tmp 11) (.tmp 15) 146 rfl w.heap.size 71 i0 (.agg #[.int .i64 0, .int .i64 0]) 2 16 Tryz.underlying146 (unhide HI) (unhide HZ) (unhide HZ1) (unhide HZ2) rfl (by decide) _ _ _ rfl (unhide O1) _ 0 _ [] rfl rfl (by intro j u h; simp at h) (by intro u h; simp at h) (by unfold maxLen; omega) (by omega) (unhide B1).size ?_; intro v2 w2 o2 g2 n2))
    go_ret
    have b2 : Below w.heap.size w w2 := (unhide B1).grown g2 (unhide B1).size (own_row (unhide O1))
    refine ⟨_, rfl, ?_, fun h0 => ?_, b2⟩
    · rw [(unhide HFIN).1, (unhide HFIN).2, unhide hzd, show k + (n - (k + 1)) = k + 0 by omega]; simpa using o2
    · obtain ⟨z1, z2⟩ := (unhide HL0) h0
      exact n2.2 ⟨(unhide N1).2 (by first | exact ⟨rfl, z1⟩ | exact ⟨trivial, z1⟩), by first | rfl | trivial⟩
  · have hlt : (k : Int) + 1 < cap := by omega
    go_enter Tryz.func133, Tryz.ntmps133
    go_wp2_with (first
      | (at_builtin; have _t := tok1; refine wpList_append_own _ rfl (.tmp 6) (.tmp 9) 146 rfl w.heap.size 71 i0 (.agg #[.int .i64 0, .int .i64 0]) 2 16 Tryz.underlying146 (unhide HI) (unhide HZ) (unhide HZ1) (unhide HZ2) rfl (by decide) _ 0 [] rfl (World.ownsRow_nil _ _ _ _) _ _ _ (flat (L.take k)) rfl (unhide HT) ((unhide HN1) _ (unhide HR)) (flat_one _) (by unfold maxLen; omega) (by omega) (Nat.le_refl _) ?_; intro v1 w1 o1 g1 n1; have b1 : Below w.heap.size w w1 := (Below.refl _ _).grown g1 (Nat.le_refl _) (fun k hk => by cases hk); have R1 := hide ((unhide HR).b b1); have N1 := hide n1; have B1 := hide b1; have O1 := hide o1; clear o1 g1 n1 b1 tok1)
      | (at_builtin; refine wpList_append_own _ rfl (.tmp 11) (.tmp 15) 146 rfl w.heap.size 71 i0 (.agg #[.int .i64 0, .int .i64 0]) 2 16 Tryz.underlying146 (unhide HI) (unhide HZ) (unhide HZ1) (unhide HZ2) rfl (by decide) _ _ _ rfl (unhide O1) _ _ _ (flat (L.drop (k + 1))) rfl (unhide HD) ((unhide HN2) _ (unhide R1)) (flat_one _) (by unfold maxLen; omega) (by omega) (unhide B1).size ?_; intro v2 w2 o2 g2 n2))
    go_ret
    have b2 : Below w.heap.size w w2 := (unhide B1).grown g2 (unhide B1).size (own_row (unhide O1))
    refine ⟨_, rfl, ?_, fun h0 => ?_, b2⟩
    · rw [(unhide HFIN).1, (unhide HFIN).2]; simpa using o2
    · obtain ⟨z1, z2⟩ := (unhide HL0) h0
      exact n2.2 ⟨(unhide N1).2 (by first | exact ⟨rfl, z1⟩ | exact ⟨trivial, z1⟩), z2⟩
end Bd
end Go.Proofs.YtfefehkapffljaaGreatDoor
namespace Go.Proofs.YtfefehkapffljaaGreatDoor
open Go.RowKit
namespace Bd
open Fr
theorem ins_one (x : Bl) : ins x [] = [x] := rfl
theorem row_flat (L : List Bl) (x : Bl) (j : Nat) : flat (L.take j ++ x :: L.drop j) = flat (L.take j) ++ [.int .i64 x.1, .int .i64 x.2] ++ flat (L.drop j) := by
  rw [flat_append]; simp [flat]

set_option maxRecDepth 100000 in
set_option maxHeartbeats 2000000 in
theorem with_nil (x : Bl) (w : World) :
    Calls Tryz.prog 134 #[.slice none 0 0, blkV x.1 x.2] w fun ev w' => ∃ v, ev = .returned v ∧ w'.ownsRow w.heap.size 71 2 v (ins x []).length (flat (ins x [])) ∧ (ins x [] = [] → v = .slice none 0 0) ∧ Below w.heap.size w w' := by
  obtain ⟨i0, hi, hz0, hz1, hz2⟩ := info_parts info36
  have X := bx_new w x
  have s1 : (w.alloc (blkO x.1 x.2)).heap.size = w.heap.size + 1 := by simp
  have B := ballo (Below.refl w.heap.size w) (blkO x.1 x.2)
  obtain ⟨a, k⟩ := x
  simp only at *
  have HI := hide hi
  have HZ := hide hz0
  have HZ1 := hide hz1
  have HZ2 := hide hz2
  clear hi hz0 hz1 hz2
  have x0 := X.c0
  have x1 := X.c1
  simp only at x0 x1
  obtain ⟨M, hM⟩ : ∃ M, Hid (M = ins (a, k) []) := ⟨_, rfl⟩
  rw [← unhide hM]
  go_enter Tryz.func134, Tryz.ntmps134
  go_wp2
  refine wp_loop_rounds 1 ?_
  rw [rounds_succ]
  go_wp2_with fail
  generalize w.alloc (blkO a k) = W at *
  go_quiet (fail)
  have X := X.b (bdrN (Below.refl _ W) nq)
  have B := bdrN B nq
  clear s1
  clear x0 x1
  have x0 := X.c0
  have x1 := X.c1
  simp only at x0 x1
  generalize W.drewN nq = WQ at *
  go_wp2_with (first
    | (at_builtin; refine wpList_append_own _ rfl (.tmp 28) (.tmp 30) 146 rfl w.heap.size 71 i0 (.agg #[.int .i64 0, .int .i64 0]) 2 16 Tryz.underlying146 (unhide HI) (unhide HZ) (unhide HZ1) (unhide HZ2) rfl (by decide) _ 0 [] rfl (World.ownsRow_nil _ _ _ _) _ _ _ [.int .i64 a, .int .i64 k] rfl rfl (news2 _ a k) (one2 a k) (by unfold maxLen; omega) (by omega) (by have := B.size; simp; omega) ?_; intro v1 w1 o1 g1 n1)
    | (at_builtin; refine wpList_append_own_none rfl (.tmp 32) (.tmp 35) 146 rfl w.heap.size 71 i0 2 Tryz.underlying146 (unhide HI) _ _ _ rfl o1 rfl ?_))
  go_ret
  have hb := (ballo B _).grown g1 (by have := B.size; simp; omega) (fun k hk => by cases hk)
  rw [unhide hM]
  refine ⟨_, rfl, ?_, fun h0 => absurd h0 (by unfold ins; simp), hb⟩
  simpa [ins, flat] using o1

set_option maxRecDepth 100000 in
set_option maxHeartbeats 4000000 in
theorem with_ok (g cap : Nat) (L : List Bl) (x : Bl) (w : World) (hr : Row w g L) (h0 : 0 < L.length) (hl : L.length ≤ 256) (hcap : L.length ≤ cap) (hcap2 : cap ≤ maxLen) (hx : ∀ y ∈ L, y.1 ≠ x.1) :
    Calls Tryz.prog 134 #[.slice (some ⟨g, 0, none⟩) L.length cap, blkV x.1 x.2] w fun ev w' => ∃ v, ev = .returned v ∧ w'.ownsRow w.heap.size 71 2 v (ins x L).length (flat (ins x L)) ∧ (ins x L = [] → v = .slice none 0 0) ∧ Below w.heap.size w w' := by
  obtain ⟨i0, hi, hz0, hz1, hz2⟩ := info_parts info36
  have HI := hide hi
  have HZ := hide hz0
  have HZ1 := hide hz1
  have HZ2 := hide hz2
  have X0 := hide (bx_new w x)
  have B0 := hide (ballo (Below.refl w.heap.size w) (blkO x.1 x.2))
  have s0 : (w.alloc (blkO x.1 x.2)).heap.size = w.heap.size + 1 := by simp
  have R0 := hide (hr.b (ballo (Below.refl w.heap.size w) (blkO x.1 x.2)))
  have hgl := hr.lt
  have HXN := hide hx
  have HR0 := hide hr
  clear hi hz0 hz1 hz2 hr hx
  unfold maxLen at hcap2
  obtain ⟨a, k⟩ := x
  simp only at X0 B0 R0 s0
  obtain ⟨M, hM⟩ : ∃ M, Hid (M = ins (a, k) L) := ⟨_, rfl⟩
  have HNE : Hid (M ≠ []) := by show M ≠ []; rw [unhide hM]; intro h; have := mem_ins_self (a, k) L; rw [h] at this; cases this
  rw [← unhide hM]
  generalize hn : L.length = n at *
  go_enter Tryz.func134, Tryz.ntmps134
  go_wp2_with fail
  generalize w.alloc (blkO a k) = W at *
  go_loopw [5] (fun s wr => ∃ j : Nat, s = .int .i64 j ∧ j ≤ n ∧ Hid (∀ i (_ : i < j) (h : i < L.length), L[i].1 < a) ∧ Hid (Below W.heap.size W wr)) (fun s _ => n - (RowKit.intOf s).toNat)
  case atStart => exact ⟨0, rfl, Nat.zero_le _, fun i hi => by omega, Below.refl _ _⟩
  case round =>
    obtain ⟨j, rfl, hj, hlow, hb⟩ := hrel
    have xr := (unhide X0).b (unhide hb)
    have x0 := xr.c0
    have x1 := xr.c1
    simp only at x0 x1
    have RR := (unhide R0).b (unhide hb)
    have hgr := RR.lt
    by_cases hgo : ∃ h : j < L.length, L[j].1 < a
    · obtain ⟨hjL, hlt⟩ := hgo
      have cc := RR.c j hjL
      rw [getD_lt hjL] at cc
      have hlow2 : Hid (∀ i (_ : i < j + 1) (h : i < L.length), L[i].1 < a) := fun i hi h => by
        by_cases e : i = j
        · subst e; exact hlt
        · exact (unhide hlow) i (by omega) h
      generalize L[j] = y at *
      obtain ⟨y1, y2⟩ := y
      obtain ⟨c1, c2⟩ := cc
      simp only at c1 c2 hlt
      have hjn : j < n := by omega
      have hjn2 : (j : Int) < n := by omega
      have hj0 : (0 : Int) ≤ j := by omega
      have hd : decide (y1 < a) = true := by simpa using hlt
      clear hlow xr RR
      go_wp2_with fail
      go_quiet (fail)
      go_wp2
      go_roundw
      case rel => exact ⟨j + 1, by go_num, by omega, unhide hlow2, bdrN (unhide hb) _⟩
      case measure => simp [RowKit.intOf]; omega
    · have hup : ∀ h : j < L.length, a < L[j].1 := fun h => by
        have h1 : L[j].1 ≠ a := (unhide HXN) L[j] (List.getElem_mem h)
        have h2 : ¬ L[j].1 < a := fun c => hgo ⟨h, c⟩
        omega
      have hins := ins_at (x := (a, k)) (L := L) (j := j) (unhide hlow) (by omega) hup
      have hfl := row_flat L (a, k) j
      rw [← hins, ← unhide hM] at hfl
      have hlen : M.length = j + 1 + (n - j) := by rw [unhide hM, hins]; simp; omega
      have HFL := hide hfl
      have HLEN := hide hlen
      have ht : Hid ((flat (L.take j)).length = j * 2) := by show _ = _; rw [flat_length, List.length_take, Nat.min_eq_left (by omega)]
      have hd : Hid ((flat (L.drop j)).length = (n - j) * 2) := by show _ = _; rw [flat_length, List.length_drop, hn]
      have HN1 := hide (fun w1 (h : Row w1 g L) => news_take h j)
      have HN2 := hide (fun w1 (h : Row w1 g L) => news_drop h j (by omega))
      have hjc : (j : Int) ≤ cap := by omega
      have hjc2 : j ≤ cap := by omega
      have hj0 : (0 : Int) ≤ j := by omega
      clear hins hfl hlen hlow
      have hcase : (∃ y1 y2 : Int, j < n ∧ wr.cell? ⟨g, j * 2, none⟩ = some (.int .i64 y1) ∧ wr.cell? ⟨g, j * 2 + 1, none⟩ = some (.int .i64 y2) ∧ decide (y1 < a) = false) ∨ ¬ j < n := by
        by_cases hjn : j < n
        · have hjL : j < L.length := by omega
          have cc := RR.c j hjL
          rw [getD_lt hjL] at cc
          have := hup hjL
          exact Or.inl ⟨_, _, hjn, cc.1, cc.2, by simp; omega⟩
        · exact Or.inr hjn
      clear hgo hup
      have RRH := hide RR
      have XRH := hide xr
      clear RR xr x0 x1
      have tok1 : True := trivial
      have tok2 : True := trivial
      by_cases hcj : j = cap
      · subst hcj
        have hzd : Hid (flat (L.drop j) = []) := by show _ = _; rw [List.drop_of_length_le (by omega)]; rfl
        have hjn : ¬ j < n := by omega
        have hjn2 : ¬ (j : Int) < n := by omega
        clear hcase
        have x0 := (unhide XRH).c0
        simp only at x0
        go_wp2_with fail
        go_quiet (fail)
        have RQ := hide ((unhide RRH).b (bdrN (Below.refl _ wr) nq))
        have XQ := hide ((unhide XRH).b (bdrN (Below.refl _ wr) nq))
        have FQ := hide (((unhide B0).trans ((unhide hb).mono (by omega))).trans ((bdrN (Below.refl _ wr) nq).mono (by have := (unhide hb).size; omega)))
        generalize wr.drewN nq = WQ at *
        go_wp2_with (first
          | (at_builtin; have _t := tok1; refine wpList_append_own _ rfl (.tmp 23) (.tmp 26) 146 rfl w.heap.size 71 i0 (.agg #[.int .i64 0, .int .i64 0]) 2 16 Tryz.underlying146 (unhide HI) (unhide HZ) (unhide HZ1) (unhide HZ2) rfl (by decide) _ 0 [] rfl (World.ownsRow_nil _ _ _ _) _ _ _ (flat (L.take j)) rfl (unhide ht) ((unhide HN1) _ (unhide RQ)) (flat_one _) (by unfold maxLen; omega) (by omega) (unhide FQ).size ?_; intro v1 w1 o1 g1 n1; have bq := (Below.refl WQ.heap.size WQ).grown g1 (Nat.le_refl _) (fun k hk => by cases hk); have X1 := (unhide XQ).b bq; have q0 := X1.c0; have q1 := X1.c1; simp only at q0 q1; have F1 := hide ((unhide FQ).trans (bq.mono (unhide FQ).size)); have O1 := hide o1; clear o1 g1 n1 bq X1 tok1)
          | (at_builtin; have _t := tok2; refine wpList_append_own _ rfl (.tmp 28) (.tmp 30) 146 rfl w.heap.size 71 i0 (.agg #[.int .i64 0, .int .i64 0]) 2 16 Tryz.underlying146 (unhide HI) (unhide HZ) (unhide HZ1) (unhide HZ2) rfl (by decide) _ _ _ rfl ((unhide O1).alloc _) _ _ _ [.int .i64 a, .int .i64 k] rfl rfl (news2 _ a k) (one2 a k) (by unfold maxLen; omega) (by omega) (by have := (unhide F1).size; simp; omega) ?_; intro v2 w2 o2 g2 n2; have F2 := hide ((ballo (unhide F1) _).grown g2 (by have := (unhide F1).size; simp; omega) (own_row (unhide O1))); have O2 := hide o2; clear o2 g2 n2 tok2)
          | (at_builtin; refine wpList_append_own _ rfl (.tmp 32) (.tmp 35) 146 rfl w.heap.size 71 i0 (.agg #[.int .i64 0, .int .i64 0]) 2 16 Tryz.underlying146 (unhide HI) (unhide HZ) (unhide HZ1) (unhide HZ2) rfl (by decide) _ _ _ rfl (unhide O2) _ 0 _ [] rfl rfl (by intro j u h; simp at h) (by intro u h; simp at h) (by unfold maxLen; omega) (by omega) (unhide F2).size ?_; intro v3 w3 o3 g3 n3))
        go_ret
        have b3 : Below w.heap.size w w3 := (unhide F2).grown g3 (unhide F2).size (own_row (unhide O2))
        refine ⟨_, rfl, ?_, fun h0 => absurd h0 (unhide HNE), b3⟩
        rw [unhide HLEN, unhide HFL, unhide hzd, show j + 1 + (n - j) = j + 1 + 0 by omega]
        simpa using o3
      · have hltc : (j : Int) < cap := by omega
        rcases hcase with ⟨y1, y2, hjn, c1, c2, hd0⟩ | hjn
        · have hjn2 : (j : Int) < n := by omega
          have x0 := (unhide XRH).c0
          simp only at x0
          go_wp2_with fail
          go_quiet (fail)
          have RQ := hide ((unhide RRH).b (bdrN (Below.refl _ wr) nq))
          have XQ := hide ((unhide XRH).b (bdrN (Below.refl _ wr) nq))
          have FQ := hide (((unhide B0).trans ((unhide hb).mono (by omega))).trans ((bdrN (Below.refl _ wr) nq).mono (by have := (unhide hb).size; omega)))
          generalize wr.drewN nq = WQ at *
          clear c1 c2 x0
          go_wp2_with (first
            | (at_builtin; have _t := tok1; refine wpList_append_own _ rfl (.tmp 23) (.tmp 26) 146 rfl w.heap.size 71 i0 (.agg #[.int .i64 0, .int .i64 0]) 2 16 Tryz.underlying146 (unhide HI) (unhide HZ) (unhide HZ1) (unhide HZ2) rfl (by decide) _ 0 [] rfl (World.ownsRow_nil _ _ _ _) _ _ _ (flat (L.take j)) rfl (unhide ht) ((unhide HN1) _ (unhide RQ)) (flat_one _) (by unfold maxLen; omega) (by omega) (unhide FQ).size ?_; intro v1 w1 o1 g1 n1; have bq := (Below.refl WQ.heap.size WQ).grown g1 (Nat.le_refl _) (fun k hk => by cases hk); have X1 := (unhide XQ).b bq; have q0 := X1.c0; have q1 := X1.c1; simp only at q0 q1; have F1 := hide ((unhide FQ).trans (bq.mono (unhide FQ).size)); have O1 := hide o1; clear o1 g1 n1 bq X1 tok1)
            | (at_builtin; have _t := tok2; refine wpList_append_own _ rfl (.tmp 28) (.tmp 30) 146 rfl w.heap.size 71 i0 (.agg #[.int .i64 0, .int .i64 0]) 2 16 Tryz.underlying146 (unhide HI) (unhide HZ) (unhide HZ1) (unhide HZ2) rfl (by decide) _ _ _ rfl ((unhide O1).alloc _) _ _ _ [.int .i64 a, .int .i64 k] rfl rfl (news2 _ a k) (one2 a k) (by unfold maxLen; omega) (by omega) (by have := (unhide F1).size; simp; omega) ?_; intro v2 w2 o2 g2 n2; have F2 := hide ((ballo (unhide F1) _).grown g2 (by have := (unhide F1).size; simp; omega) (own_row (unhide O1))); have O2 := hide o2; clear o2 g2 n2 tok2)
            | (at_builtin; refine wpList_append_own _ rfl (.tmp 32) (.tmp 35) 146 rfl w.heap.size 71 i0 (.agg #[.int .i64 0, .int .i64 0]) 2 16 Tryz.underlying146 (unhide HI) (unhide HZ) (unhide HZ1) (unhide HZ2) rfl (by decide) _ _ _ rfl (unhide O2) _ _ _ (flat (L.drop j)) rfl (unhide hd) ((unhide HN2) _ ((unhide HR0).b (unhide F2))) (flat_one _) (by unfold maxLen; omega) (by omega) (unhide F2).size ?_; intro v3 w3 o3 g3 n3))
          go_ret
          have b3 : Below w.heap.size w w3 := (unhide F2).grown g3 (unhide F2).size (own_row (unhide O2))
          refine ⟨_, rfl, ?_, fun h0 => absurd h0 (unhide HNE), b3⟩
          rw [unhide HLEN, unhide HFL]
          simpa using o3
        · have hjn2 : ¬ (j : Int) < n := by omega
          have x0 := (unhide XRH).c0
          simp only at x0
          go_wp2_with fail
          go_quiet (fail)
          have RQ := hide ((unhide RRH).b (bdrN (Below.refl _ wr) nq))
          have XQ := hide ((unhide XRH).b (bdrN (Below.refl _ wr) nq))
          have FQ := hide (((unhide B0).trans ((unhide hb).mono (by omega))).trans ((bdrN (Below.refl _ wr) nq).mono (by have := (unhide hb).size; omega)))
          generalize wr.drewN nq = WQ at *
          clear x0
          go_wp2_with (first
            | (at_builtin; have _t := tok1; refine wpList_append_own _ rfl (.tmp 23) (.tmp 26) 146 rfl w.heap.size 71 i0 (.agg #[.int .i64 0, .int .i64 0]) 2 16 Tryz.underlying146 (unhide HI) (unhide HZ) (unhide HZ1) (unhide HZ2) rfl (by decide) _ 0 [] rfl (World.ownsRow_nil _ _ _ _) _ _ _ (flat (L.take j)) rfl (unhide ht) ((unhide HN1) _ (unhide RQ)) (flat_one _) (by unfold maxLen; omega) (by omega) (unhide FQ).size ?_; intro v1 w1 o1 g1 n1; have bq := (Below.refl WQ.heap.size WQ).grown g1 (Nat.le_refl _) (fun k hk => by cases hk); have X1 := (unhide XQ).b bq; have q0 := X1.c0; have q1 := X1.c1; simp only at q0 q1; have F1 := hide ((unhide FQ).trans (bq.mono (unhide FQ).size)); have O1 := hide o1; clear o1 g1 n1 bq X1 tok1)
            | (at_builtin; have _t := tok2; refine wpList_append_own _ rfl (.tmp 28) (.tmp 30) 146 rfl w.heap.size 71 i0 (.agg #[.int .i64 0, .int .i64 0]) 2 16 Tryz.underlying146 (unhide HI) (unhide HZ) (unhide HZ1) (unhide HZ2) rfl (by decide) _ _ _ rfl ((unhide O1).alloc _) _ _ _ [.int .i64 a, .int .i64 k] rfl rfl (news2 _ a k) (one2 a k) (by unfold maxLen; omega) (by omega) (by have := (unhide F1).size; simp; omega) ?_; intro v2 w2 o2 g2 n2; have F2 := hide ((ballo (unhide F1) _).grown g2 (by have := (unhide F1).size; simp; omega) (own_row (unhide O1))); have O2 := hide o2; clear o2 g2 n2 tok2)
            | (at_builtin; refine wpList_append_own _ rfl (.tmp 32) (.tmp 35) 146 rfl w.heap.size 71 i0 (.agg #[.int .i64 0, .int .i64 0]) 2 16 Tryz.underlying146 (unhide HI) (unhide HZ) (unhide HZ1) (unhide HZ2) rfl (by decide) _ _ _ rfl (unhide O2) _ _ _ (flat (L.drop j)) rfl (unhide hd) ((unhide HN2) _ ((unhide HR0).b (unhide F2))) (flat_one _) (by unfold maxLen; omega) (by omega) (unhide F2).size ?_; intro v3 w3 o3 g3 n3))
          go_ret
          have b3 : Below w.heap.size w w3 := (unhide F2).grown g3 (unhide F2).size (own_row (unhide O2))
          refine ⟨_, rfl, ?_, fun h0 => absurd h0 (unhide HNE), b3⟩
          rw [unhide HLEN, unhide HFL]
          simpa using o3
end Bd
end Go.Proofs.YtfefehkapffljaaGreatDoor
namespace Go.Proofs.YtfefehkapffljaaGreatDoor
open Go.RowKit
namespace Fr

/-- The number of a block in a list (-1: none). -/
def fiN : List (Int × Int) → Int × Int → Nat → Int
  | [], _, _ => -1
  | x :: l, y, n => if x = y then n else fiN l y (n + 1)
theorem drop_at (L : List (Int × Int)) (j : Nat) (hj : j < L.length) : L.drop j = L.getD j (0, 0) :: L.drop (j + 1) := by
  rw [List.drop_eq_getElem_cons hj, List.getD_eq_getElem?_getD, List.getElem?_eq_getElem hj, Option.getD_some]
theorem fiN_hit {L : List (Int × Int)} {y : Int × Int} {j : Nat} {F : Int} (hj : j < L.length) (h : L.getD j (0, 0) = y) (hF : fiN (L.drop j) y j = F) : F = j := by
  rw [drop_at L j hj, fiN, if_pos h] at hF; exact hF.symm
theorem fiN_next {L : List (Int × Int)} {y : Int × Int} {j : Nat} {F : Int} (hj : j < L.length) (h : L.getD j (0, 0) ≠ y) (hF : fiN (L.drop j) y j = F) : fiN (L.drop (j + 1)) y (j + 1) = F := by
  rw [drop_at L j hj, fiN, if_neg h] at hF; exact hF
theorem fiN_out {L : List (Int × Int)} {y : Int × Int} {j : Nat} {F : Int} (hj : L.length ≤ j) (hF : fiN (L.drop j) y j = F) : F = -1 := by
  rw [List.drop_of_length_le hj] at hF; exact hF.symm

/-- The worlds of a loop that only reads. -/
def Same (w w' : World) : Prop := w'.heap = w.heap ∧ w'.os = w.os ∧ w'.tape = w.tape ∧ w'.output = w.output
theorem Same.refl (w : World) : Same w w := ⟨rfl, rfl, rfl, rfl⟩
theorem Same.below {w w' : World} (h : Same w w') : Below w.heap.size w w' := ⟨h.2.1, h.2.2.1, h.2.2.2, by rw [h.1]; exact Nat.le_refl _, fun k _ => by rw [h.1]⟩
theorem Same.cell {w w' : World} (h : Same w w') (a : Addr) : w'.cell? a = w.cell? a := by simp [World.cell?, h.1]

set_option maxHeartbeats 1000000 in
theorem find_ok (v : Value) (L : List (Int × Int)) (a k : Int) (w : World) (hl : L.length ≤ 1000) (h : Lies w v L) :
    Calls Tryz.prog 177 #[v, .agg #[.int .i64 a, .int .i64 k]] w fun ev w' => ev = .returned (.int .i64 (fiN L (a, k) 0)) ∧ Below w.heap.size w w' := by
  rcases h with ⟨hL, rfl⟩ | ⟨g, c, rfl, hg, hL, q1, q2, hc⟩
  · subst hL
    go_enter Tryz.func177, Tryz.ntmps177
    go_wp2
    refine wp_loop_rounds 1 ?_
    rw [rounds_succ]
    go_wp2
    go_ret
    exact ⟨rfl, ballo (Below.refl _ _) _⟩
  · have HX := bl_new w a k
    have HG : ∀ i, i < L.length → (w.alloc (blkO a k)).cell? ⟨g, i * 2, none⟩ = some (.int .i64 (L.getD i (0, 0)).1) ∧ (w.alloc (blkO a k)).cell? ⟨g, i * 2 + 1, none⟩ = some (.int .i64 (L.getD i (0, 0)).2) := fun i hi =>
      ⟨(World.cell?_alloc_lt _ _ ⟨g, i * 2, none⟩ hg).trans (hc i hi).1, (World.cell?_alloc_lt _ _ ⟨g, i * 2 + 1, none⟩ hg).trans (hc i hi).2⟩
    have HF : Hid (fiN (L.drop 0) (a, k) 0 = fiN L (a, k) 0) := rfl
    have HB := hide (ballo (Below.refl w.heap.size w) (blkO a k))
    have H1 := hide HG
    have H2 := hide HX
    clear hc hL HG HX hg
    unfold maxLen at q2
    generalize fiN L (a, k) 0 = F at *
    go_enter Tryz.func177, Tryz.ntmps177
    go_wp2
    generalize w.alloc (blkO a k) = W at *
    go_loopw [5] (fun i wr => ∃ j : Nat, j ≤ L.length ∧ i = .int .i64 j ∧ Hid (Same W wr) ∧ Hid (fiN (L.drop j) (a, k) j = F)) (fun i _ => L.length - (intOf i).toNat)
    case atStart => exact ⟨0, Nat.zero_le _, rfl, Same.refl _, HF⟩
    case round =>
      obtain ⟨j, hj, rfl, hQ, hF⟩ := hrel
      by_cases hlt : j < L.length
      · have e1 := (unhide H1) j hlt
        have c1 := ((unhide hQ).cell ⟨g, j * 2, none⟩).trans e1.1
        have c2 := ((unhide hQ).cell ⟨g, j * 2 + 1, none⟩).trans e1.2
        have c3 := ((unhide hQ).cell ⟨w.heap.size, 0, none⟩).trans (unhide H2).c0
        have c4 := ((unhide hQ).cell ⟨w.heap.size, 1, none⟩).trans (unhide H2).c1
        by_cases hx : L.getD j (0, 0) = (a, k)
        · have FH := hide (fiN_hit hlt hx (unhide hF))
          rw [hx] at c1 c2
          clear hx e1 hF
          go_wp2
          go_region
          go_wp2
          go_ret
          exact ⟨by rw [unhide FH]; rfl, btr (unhide HB) ((unhide hQ).below.drew)⟩
        · have FN := hide (fiN_next hlt hx (unhide hF))
          clear e1 hF
          generalize L.getD j (0, 0) = x at *
          obtain ⟨x1, x2⟩ := x
          by_cases h1 : x1 = a
          · subst h1
            have h2 : ¬ x2 = k := fun h => hx (by rw [h])
            clear hx
            go_wp2
            go_region
            go_wp2
            go_roundw
            case rel => exact ⟨j + 1, by omega, by go_num, unhide hQ, unhide FN⟩
            case measure => simp [intOf]; omega
          · clear hx
            go_wp2
            go_region
            go_wp2
            go_roundw
            case rel => exact ⟨j + 1, by omega, by go_num, unhide hQ, unhide FN⟩
            case measure => simp [intOf]; omega
      · have FO := hide (fiN_out (Nat.not_lt.1 hlt) (unhide hF))
        clear hF
        go_wp2
        go_ret
        exact ⟨by rw [unhide FO]; rfl, btr (unhide HB) (unhide hQ).below⟩
end Fr
end Go.Proofs.YtfefehkapffljaaGreatDoor
