/- R0 · R1 · R2 · R3 · R4 · R5 · R5b · R6. -/
import Derived.Test.YtfefehkapffljaaGreatDoorGC
import Derived.Test.YtfefehkapffljaaGreatDoorGD
import Derived.Test.YtfefehkapffljaaGreatDoorGE
import Derived.Laws.AppendOwnNone
import Derived.Test.YtfefehkapffljaaGreatDoorGA
import Derived.Test.YtfefehkapffljaaGreatDoorGF
namespace Go.Proofs.YtfefehkapffljaaGreatDoor
open Go.RowKit
namespace Bd
open Fr
theorem ins_at {x : Bl} : ∀ {L : List Bl} {j : Nat}, (∀ i (_ : i < j) (h : i < L.length), L[i].1 < x.1) → j ≤ L.length → (∀ h : j < L.length, x.1 < L[j].1) → ins x L = L.take j ++ x :: L.drop j
 | [], j, _, hj, _ => by
   obtain rfl : j = 0 := by simpa using hj
   rfl
 | y :: l, 0, _, _, h2 => by
   have := h2 (by simp)
   simp only [List.getElem_cons_zero] at this
   unfold ins; rw [if_pos this]; rfl
 | y :: l, j + 1, h1, hj, h2 => by
   have hy := h1 0 (by omega) (by simp)
   simp only [List.getElem_cons_zero] at hy
   unfold ins
   rw [if_neg (by omega), if_neg (by omega), ins_at (j := j) (fun i hi h => by have := h1 (i + 1) (by omega) (by simpa using h); simpa using this) (by simpa using hj) (fun h => by have := h2 (by simpa using h); simpa using this)]
   rfl
theorem erase_del : ∀ {L : List Bl} {k : Nat} (_ : Srt L) (h : k < L.length), L.take k ++ L.drop (k + 1) = del L[k].1 L
 | [], _, _, h => by simp at h
 | y :: l, 0, hs, _ => by
   rw [srt_cons] at hs
   simp only [List.take_zero, List.nil_append, List.drop_succ_cons, List.drop_zero, List.getElem_cons_zero]
   show l = List.filter _ (y :: l)
   rw [List.filter_cons]
   simp only [bne_self_eq_false, Bool.false_eq_true, if_false]
   exact (del_none (a := y.1) (fun z hz => by have := hs.1 z hz; omega)).symm
 | y :: l, k + 1, hs, h => by
   rw [srt_cons] at hs
   have hk : k < l.length := by simpa using h
   have := hs.1 l[k] (List.getElem_mem hk)
   simp only [List.take_succ_cons, List.drop_succ_cons, List.getElem_cons_succ, List.cons_append]
   rw [erase_del hs.2 hk]
   show _ = List.filter _ (y :: l)
   rw [List.filter_cons, if_pos (by simp only [bne_iff_ne, ne_eq]; omega)]
   rfl
def bst (o : Int) (L : List Bl) : Nat → Int
 | 0 => -1
 | j + 1 => if o ≤ (L.getD j (0, 0)).2 ∧ (bst o L j < 0 ∨ (L.getD j (0, 0)).2 < (L.getD (bst o L j).toNat (0, 0)).2) then j else bst o L j
theorem bst_range (o : Int) (L : List Bl) : ∀ j, -1 ≤ bst o L j ∧ bst o L j < j
 | 0 => by simp [bst]
 | j + 1 => by
   have := bst_range o L j
   unfold bst
   split <;> omega
def flt (o : Int) (L : List Bl) : List Bl := L.filter (fun x => decide (o ≤ x.2))
theorem pk_append (M : List Bl) (y : Bl) : ∀ j, j < M.length → pk (M ++ [y]) j = pk M j
 | 0, h => by unfold pk; rw [getD_lt (by simp), getD_lt h, List.getElem_append_left h]
 | j + 1, h => by
   unfold pk
   rw [pk_append M y j (by omega), getD_lt (by simp; omega), getD_lt h, List.getElem_append_left h]
theorem bst_fit (o : Int) (L : List Bl) : ∀ j, j ≤ L.length → (bst o L j < 0 → flt o (L.take j) = []) ∧ (0 ≤ bst o L j → flt o (L.take j) ≠ [] ∧ L.getD (bst o L j).toNat (0, 0) = pk (flt o (L.take j)) ((flt o (L.take j)).length - 1))
 | 0, _ => by simp [bst, flt]
 | j + 1, h => by
   obtain ⟨h1, h2⟩ := bst_fit o L j (by omega)
   have hj : j < L.length := by omega
   have hr := bst_range o L j
   have ht : flt o (L.take (j + 1)) = flt o (L.take j) ++ flt o [L[j]] := by
     unfold flt
     rw [List.take_succ_eq_append_getElem hj, List.filter_append]
   have hg : L.getD j (0, 0) = L[j] := getD_lt hj
   unfold bst
   rw [hg, ht]
   by_cases ho : o ≤ L[j].2
   · have hf : flt o [L[j]] = [L[j]] := by simp [flt, ho]
     rw [hf]
     have hl : (flt o (L.take j) ++ [L[j]]).length - 1 = (flt o (L.take j)).length := by simp
     rw [hl]
     by_cases hb : bst o L j < 0
     · rw [if_pos ⟨ho, Or.inl hb⟩, h1 hb]
       refine ⟨fun h => by omega, fun _ => ⟨by simp, ?_⟩⟩
       rw [show ((j : Int)).toNat = j by omega, hg]
       rfl
     · obtain ⟨q1, q2⟩ := h2 (by omega)
       have hpos := List.length_pos_iff.2 q1
       obtain ⟨m, hm⟩ : ∃ m, (flt o (L.take j)).length = m + 1 := ⟨(flt o (L.take j)).length - 1, by omega⟩
       have hpk : pk (flt o (L.take j) ++ [L[j]]) (flt o (L.take j)).length = if L[j].2 < (L.getD (bst o L j).toNat (0, 0)).2 then L[j] else L.getD (bst o L j).toNat (0, 0) := by
         rw [q2, hm]
         show (if ((flt o (L.take j) ++ [L[j]]).getD (m + 1) (0, 0)).2 < (pk (flt o (L.take j) ++ [L[j]]) m).2 then _ else _) = _
         rw [pk_append _ _ m (by omega), getD_lt (by simp; omega), List.getElem_append_right (by omega)]
         simp [hm]
       by_cases hlt : L[j].2 < (L.getD (bst o L j).toNat (0, 0)).2
       · rw [if_pos ⟨ho, Or.inr hlt⟩, hpk, if_pos hlt]
         exact ⟨fun h => by omega, fun _ => ⟨by simp, by rw [show ((j : Int)).toNat = j by omega, hg]⟩⟩
       · rw [if_neg (by intro c; rcases c.2 with c | c; exact hb c; exact hlt c), hpk, if_neg hlt]
         exact ⟨fun h => absurd h hb, fun _ => ⟨by simp, rfl⟩⟩
   · have hf : flt o [L[j]] = [] := by simp [flt, ho]
     rw [if_neg (fun c => ho c.1), hf, List.append_nil]
     exact ⟨h1, h2⟩
theorem bst_none {o : Int} {L : List Bl} (h : bst o L L.length < 0) : fit o L = none := by
 have := (bst_fit o L L.length (Nat.le_refl _)).1 h
 rw [List.take_length] at this
 show (if flt o L = [] then none else some (pk (flt o L) ((flt o L).length - 1))) = none
 rw [if_pos this]
theorem bst_some {o : Int} {L : List Bl} (h : 0 ≤ bst o L L.length) : ∃ hb : (bst o L L.length).toNat < L.length, fit o L = some L[(bst o L L.length).toNat] := by
 obtain ⟨h1, h2⟩ := (bst_fit o L L.length (Nat.le_refl _)).2 h
 rw [List.take_length] at h1 h2
 have hr := bst_range o L L.length
 have hb : (bst o L L.length).toNat < L.length := by omega
 refine ⟨hb, ?_⟩
 show (if flt o L = [] then none else some (pk (flt o L) ((flt o L).length - 1))) = _
 rw [if_neg h1, ← getD_lt hb, h2]
end Bd
end Go.Proofs.YtfefehkapffljaaGreatDoor
namespace Go.Proofs.YtfefehkapffljaaGreatDoor
open Go.RowKit
namespace Bd
open Fr
theorem cells_flat {w : World} {g : Nat} {L : List Bl} (hr : Row w g L) : ∀ j u, (flat L)[j]? = some u → w.cell? ⟨g, j, none⟩ = some u := by
 intro j u hj
 have hlt : j < L.length * 2 := by
   have := (List.getElem?_eq_some_iff.1 hj).1
   rw [flat_length] at this; exact this
 have hi : j / 2 < L.length := by omega
 have hf := flat_get L (j / 2) hi
 have hci := hr.c (j / 2) hi
 rw [List.getD_eq_getElem?_getD, List.getElem?_eq_getElem hi, Option.getD_some] at hci
 rcases Nat.mod_two_eq_zero_or_one j with h0 | h1
 · have e : j / 2 * 2 = j := by omega
   have e2 : 2 * (j / 2) = j := by omega
   rw [e] at hci; rw [e2] at hf
   rw [hci.1, ← hj, hf.1]
 · have e : j / 2 * 2 + 1 = j := by omega
   have e2 : 2 * (j / 2) + 1 = j := by omega
   rw [e] at hci; rw [e2] at hf
   rw [hci.2, ← hj, hf.2]
theorem flat_append (a b : List Bl) : flat (a ++ b) = flat a ++ flat b := by simp [flat]
theorem flat_take (L : List Bl) (k : Nat) (j : Nat) (u : Value) (h : (flat (L.take k))[j]? = some u) : (flat L)[j]? = some u := by
 have hlt := (List.getElem?_eq_some_iff.1 h).1
 have e : flat L = flat (L.take k) ++ flat (L.drop k) := by rw [← flat_append, List.take_append_drop]
 rw [e, List.getElem?_append_left hlt]; exact h
theorem flat_drop (L : List Bl) (k : Nat) (hk : k ≤ L.length) (j : Nat) (u : Value) (h : (flat (L.drop k))[j]? = some u) : (flat L)[k * 2 + j]? = some u := by
 have e : flat L = flat (L.take k) ++ flat (L.drop k) := by rw [← flat_append, List.take_append_drop]
 have hl : (flat (L.take k)).length = k * 2 := by rw [flat_length, List.length_take, Nat.min_eq_left hk]
 rw [e, List.getElem?_append_right (by omega), hl, show k * 2 + j - k * 2 = j from by omega]; exact h
theorem flat_one (L : List Bl) : ∀ u ∈ flat L, u.oneCell' = true := by
 intro u hu
 simp only [flat, List.mem_flatMap] at hu
 obtain ⟨x, _, hx⟩ := hu
 simp at hx
 rcases hx with rfl | rfl <;> rfl
theorem add_at (g o j : Nat) : ((⟨g, o, none⟩ : Addr).add j) = ⟨g, o + j, none⟩ := by
 by_cases h : j = 0
 · subst h; simp [Addr.add]
 · simp [Addr.add, h]
theorem news_take {w : World} {g : Nat} {L : List Bl} (hr : Row w g L) (k : Nat) : ∀ j u, (flat (L.take k))[j]? = some u → w.cell? ((⟨g, 0, none⟩ : Addr).add j) = some u := fun j u h => by
 rw [add_at, Nat.zero_add]; exact cells_flat hr j u (flat_take L k j u h)
theorem news_drop {w : World} {g : Nat} {L : List Bl} (hr : Row w g L) (k : Nat) (hk : k ≤ L.length) : ∀ j u, (flat (L.drop k))[j]? = some u → w.cell? ((⟨g, k * 2, none⟩ : Addr).add j) = some u := fun j u h => by
 rw [add_at]; exact cells_flat hr _ u (flat_drop L k hk j u h)
set_option maxRecDepth 100000 in
set_option maxHeartbeats 2000000 in
theorem without_ok (g cap k : Nat) (L : List Bl) (w : World) (hr : Row w g L) (hl : L.length ≤ 256) (hcap : L.length ≤ cap) (hcap2 : cap ≤ maxLen) (hk : k < L.length) :
   Calls Tryz.prog 133 #[.slice (some ⟨g, 0, none⟩) L.length cap, .int .i64 k] w fun ev w' => ∃ v, ev = .returned v ∧ w'.ownsRow w.heap.size 71 2 v (L.take k ++ L.drop (k + 1)).length (flat (L.take k ++ L.drop (k + 1))) ∧ (L.take k ++ L.drop (k + 1) = [] → v = .slice none 0 0) ∧ Below w.heap.size w w' := by
 obtain ⟨i0, hi, hz0, hz1, hz2⟩ := info_parts info36
 have HI := hide hi
 have HZ := hide hz0
 have HZ1 := hide hz1
 have HZ2 := hide hz2
 have HR := hide hr
 have hgl := hr.lt
 clear hi hz0 hz1 hz2 hr
 have ht : (flat (L.take k)).length = k * 2 := by rw [flat_length, List.length_take, Nat.min_eq_left (by omega)]
 have hd : (flat (L.drop (k + 1))).length = (L.length - (k + 1)) * 2 := by rw [flat_length, List.length_drop]
 have hfin : (L.take k ++ L.drop (k + 1)).length = k + (L.length - (k + 1)) ∧ flat (L.take k ++ L.drop (k + 1)) = flat (L.take k) ++ flat (L.drop (k + 1)) := ⟨by simp; omega, flat_append _ _⟩
 have HFIN := hide hfin
 have HT := hide ht
 have HD := hide hd
 have HN1 := hide (fun w1 (h : Row w1 g L) => news_take h k)
 have HN2 := hide (fun w1 (h : Row w1 g L) => news_drop h (k + 1) (by omega))
 clear hfin ht hd
 unfold maxLen at hcap2
 have HL0 : Hid (L.take k ++ L.drop (k + 1) = [] → k = 0 ∧ L.length - (k + 1) = 0) := fun h => by
   have := congrArg List.length h
   rw [(unhide HFIN).1] at this
   simp at this; omega
 obtain ⟨M, hM⟩ : ∃ M, M = L.take k ++ L.drop (k + 1) := ⟨_, rfl⟩
 rw [← hM] at HFIN HL0 ⊢
 clear hM
 generalize hn : L.length = n at *
 have tok1 : True := trivial
 by_cases hc : k + 1 = cap
 · subst hc
   have hzd : Hid (flat (L.drop (k + 1)) = []) := by show _ = _; rw [List.drop_of_length_le (by omega)]; rfl
   go_enter Tryz.func133, Tryz.ntmps133
   go_wp2_with (first
     | (at_builtin; have _t := tok1; refine wpList_append_own _ rfl (.tmp 6) (.tmp 9) 146 rfl w.heap.size 71 i0 (.agg #[.int .i64 0, .int .i64 0]) 2 16 Tryz.underlying146 (unhide HI) (unhide HZ) (unhide HZ1) (unhide HZ2) rfl (by decide) _ 0 [] rfl (World.ownsRow_nil _ _ _ _) _ _ _ (flat (L.take k)) rfl (unhide HT) ((unhide HN1) _ (unhide HR)) (flat_one _) (by unfold maxLen; omega) (by omega) (Nat.le_refl _) ?_; intro v1 w1 o1 g1 n1; have b1 : Below w.heap.size w w1 := (Below.refl _ _).grown g1 (Nat.le_refl _) (fun k hk => by cases hk); have R1 := hide ((unhide HR).b b1); have N1 := hide n1; have B1 := hide b1; have O1 := hide o1; clear o1 g1 n1 b1 tok1)
     | (at_builtin; refine wpList_append_own _ rfl (.tmp 11) (.tmp 15) 146 rfl w.heap.size 71 i0 (.agg #[.int .i64 0, .int .i64 0]) 2 16 Tryz.underlying146 (unhide HI) (unhide HZ) (unhide HZ1) (unhide HZ2) rfl (by decide) _ _ _ rfl (unhide O1) _ 0 _ [] rfl rfl (by intro j u h; simp at h) (by intro u h; simp at h) (by unfold maxLen; omega) (by omega) (unhide B1).size ?_; intro v2 w2 o2 g2 n2))
   go_ret
   have b2 : Below w.heap.size w w2 := (unhide B1).grown g2 (unhide B1).size (own_row (unhide O1))
   refine ⟨_, rfl, ?_, fun h0 => ?_, b2⟩
   · rw [(unhide HFIN).1, (unhide HFIN).2, unhide hzd, show k + (n - (k + 1)) = k + 0 by omega]; simpa using o2
   · obtain ⟨z1, z2⟩ := (unhide HL0) h0
     exact n2.2 ⟨(unhide N1).2 (by first | exact ⟨rfl, z1⟩ | exact ⟨trivial, z1⟩), by first | rfl | trivial⟩
 · have hlt : (k : Int) + 1 < cap := by omega
   go_enter Tryz.func133, Tryz.ntmps133
   go_wp2_with (first
     | (at_builtin; have _t := tok1; refine wpList_append_own _ rfl (.tmp 6) (.tmp 9) 146 rfl w.heap.size 71 i0 (.agg #[.int .i64 0, .int .i64 0]) 2 16 Tryz.underlying146 (unhide HI) (unhide HZ) (unhide HZ1) (unhide HZ2) rfl (by decide) _ 0 [] rfl (World.ownsRow_nil _ _ _ _) _ _ _ (flat (L.take k)) rfl (unhide HT) ((unhide HN1) _ (unhide HR)) (flat_one _) (by unfold maxLen; omega) (by omega) (Nat.le_refl _) ?_; intro v1 w1 o1 g1 n1; have b1 : Below w.heap.size w w1 := (Below.refl _ _).grown g1 (Nat.le_refl _) (fun k hk => by cases hk); have R1 := hide ((unhide HR).b b1); have N1 := hide n1; have B1 := hide b1; have O1 := hide o1; clear o1 g1 n1 b1 tok1)
     | (at_builtin; refine wpList_append_own _ rfl (.tmp 11) (.tmp 15) 146 rfl w.heap.size 71 i0 (.agg #[.int .i64 0, .int .i64 0]) 2 16 Tryz.underlying146 (unhide HI) (unhide HZ) (unhide HZ1) (unhide HZ2) rfl (by decide) _ _ _ rfl (unhide O1) _ _ _ (flat (L.drop (k + 1))) rfl (unhide HD) ((unhide HN2) _ (unhide R1)) (flat_one _) (by unfold maxLen; omega) (by omega) (unhide B1).size ?_; intro v2 w2 o2 g2 n2))
   go_ret
   have b2 : Below w.heap.size w w2 := (unhide B1).grown g2 (unhide B1).size (own_row (unhide O1))
   refine ⟨_, rfl, ?_, fun h0 => ?_, b2⟩
   · rw [(unhide HFIN).1, (unhide HFIN).2]; simpa using o2
   · obtain ⟨z1, z2⟩ := (unhide HL0) h0
     exact n2.2 ⟨(unhide N1).2 (by first | exact ⟨rfl, z1⟩ | exact ⟨trivial, z1⟩), z2⟩
end Bd
end Go.Proofs.YtfefehkapffljaaGreatDoor
namespace Go.Proofs.YtfefehkapffljaaGreatDoor
open Go.RowKit
namespace Bd
open Fr
theorem row_flat (L : List Bl) (x : Bl) (j : Nat) : flat (L.take j ++ x :: L.drop j) = flat (L.take j) ++ [.int .i64 x.1, .int .i64 x.2] ++ flat (L.drop j) := by
 rw [flat_append]; simp [flat]
set_option maxRecDepth 100000 in
set_option maxHeartbeats 2000000 in
theorem with_nil (x : Bl) (w : World) :
   Calls Tryz.prog 134 #[.slice none 0 0, blkV x.1 x.2] w fun ev w' => ∃ v, ev = .returned v ∧ w'.ownsRow w.heap.size 71 2 v (ins x []).length (flat (ins x [])) ∧ (ins x [] = [] → v = .slice none 0 0) ∧ Below w.heap.size w w' := by
 obtain ⟨i0, hi, hz0, hz1, hz2⟩ := info_parts info36
 have X := bx_new w x
 have s1 : (w.alloc (blkO x.1 x.2)).heap.size = w.heap.size + 1 := by simp
 have B := ballo (Below.refl w.heap.size w) (blkO x.1 x.2)
 obtain ⟨a, k⟩ := x
 simp only at *
 have HI := hide hi
 have HZ := hide hz0
 have HZ1 := hide hz1
 have HZ2 := hide hz2
 clear hi hz0 hz1 hz2
 have x0 := X.c0
 have x1 := X.c1
 simp only at x0 x1
 obtain ⟨M, hM⟩ : ∃ M, Hid (M = ins (a, k) []) := ⟨_, rfl⟩
 rw [← unhide hM]
 go_enter Tryz.func134, Tryz.ntmps134
 go_wp2
 refine wp_loop_rounds 1 ?_
 rw [rounds_succ]
 go_wp2_with fail
 generalize w.alloc (blkO a k) = W at *
 go_quiet (fail)
 have X := X.b (bdrN (Below.refl _ W) nq)
 have B := bdrN B nq
 clear s1
 clear x0 x1
 have x0 := X.c0
 have x1 := X.c1
 simp only at x0 x1
 generalize W.drewN nq = WQ at *
 go_wp2_with (first
   | (at_builtin; refine wpList_append_own _ rfl (.tmp 28) (.tmp 30) 146 rfl w.heap.size 71 i0 (.agg #[.int .i64 0, .int .i64 0]) 2 16 Tryz.underlying146 (unhide HI) (unhide HZ) (unhide HZ1) (unhide HZ2) rfl (by decide) _ 0 [] rfl (World.ownsRow_nil _ _ _ _) _ _ _ [.int .i64 a, .int .i64 k] rfl rfl (news2 _ a k) (one2 a k) (by unfold maxLen; omega) (by omega) (by have := B.size; simp; omega) ?_; intro v1 w1 o1 g1 n1)
   | (at_builtin; refine wpList_append_own_none rfl (.tmp 32) (.tmp 35) 146 rfl w.heap.size 71 i0 2 Tryz.underlying146 (unhide HI) _ _ _ rfl o1 rfl ?_))
 go_ret
 have hb := (ballo B _).grown g1 (by have := B.size; simp; omega) (fun k hk => by cases hk)
 rw [unhide hM]
 refine ⟨_, rfl, ?_, fun h0 => absurd h0 (by unfold ins; simp), hb⟩
 simpa [ins, flat] using o1
set_option maxRecDepth 100000 in
set_option maxHeartbeats 4000000 in
theorem with_ok (g cap : Nat) (L : List Bl) (x : Bl) (w : World) (hr : Row w g L) (h0 : 0 < L.length) (hl : L.length ≤ 256) (hcap : L.length ≤ cap) (hcap2 : cap ≤ maxLen) (hx : ∀ y ∈ L, y.1 ≠ x.1) :
   Calls Tryz.prog 134 #[.slice (some ⟨g, 0, none⟩) L.length cap, blkV x.1 x.2] w fun ev w' => ∃ v, ev = .returned v ∧ w'.ownsRow w.heap.size 71 2 v (ins x L).length (flat (ins x L)) ∧ (ins x L = [] → v = .slice none 0 0) ∧ Below w.heap.size w w' := by
 obtain ⟨i0, hi, hz0, hz1, hz2⟩ := info_parts info36
 have HI := hide hi
 have HZ := hide hz0
 have HZ1 := hide hz1
 have HZ2 := hide hz2
 have X0 := hide (bx_new w x)
 have B0 := hide (ballo (Below.refl w.heap.size w) (blkO x.1 x.2))
 have s0 : (w.alloc (blkO x.1 x.2)).heap.size = w.heap.size + 1 := by simp
 have R0 := hide (hr.b (ballo (Below.refl w.heap.size w) (blkO x.1 x.2)))
 have hgl := hr.lt
 have HXN := hide hx
 have HR0 := hide hr
 clear hi hz0 hz1 hz2 hr hx
 unfold maxLen at hcap2
 obtain ⟨a, k⟩ := x
 simp only at X0 B0 R0 s0
 obtain ⟨M, hM⟩ : ∃ M, Hid (M = ins (a, k) L) := ⟨_, rfl⟩
 have HNE : Hid (M ≠ []) := by show M ≠ []; rw [unhide hM]; intro h; have := mem_ins_self (a, k) L; rw [h] at this; cases this
 rw [← unhide hM]
 generalize hn : L.length = n at *
 go_enter Tryz.func134, Tryz.ntmps134
 go_wp2_with fail
 generalize w.alloc (blkO a k) = W at *
 go_loopw [5] (fun s wr => ∃ j : Nat, s = .int .i64 j ∧ j ≤ n ∧ Hid (∀ i (_ : i < j) (h : i < L.length), L[i].1 < a) ∧ Hid (Below W.heap.size W wr)) (fun s _ => n - (RowKit.intOf s).toNat)
 case atStart => exact ⟨0, rfl, Nat.zero_le _, fun i hi => by omega, Below.refl _ _⟩
 case round =>
   obtain ⟨j, rfl, hj, hlow, hb⟩ := hrel
   have xr := (unhide X0).b (unhide hb)
   have x0 := xr.c0
   have x1 := xr.c1
   simp only at x0 x1
   have RR := (unhide R0).b (unhide hb)
   have hgr := RR.lt
   by_cases hgo : ∃ h : j < L.length, L[j].1 < a
   · obtain ⟨hjL, hlt⟩ := hgo
     have cc := RR.c j hjL
     rw [getD_lt hjL] at cc
     have hlow2 : Hid (∀ i (_ : i < j + 1) (h : i < L.length), L[i].1 < a) := fun i hi h => by
       by_cases e : i = j
       · subst e; exact hlt
       · exact (unhide hlow) i (by omega) h
     generalize L[j] = y at *
     obtain ⟨y1, y2⟩ := y
     obtain ⟨c1, c2⟩ := cc
     simp only at c1 c2 hlt
     have hjn : j < n := by omega
     have hjn2 : (j : Int) < n := by omega
     have hj0 : (0 : Int) ≤ j := by omega
     have hd : decide (y1 < a) = true := by simpa using hlt
     clear hlow xr RR
     go_wp2_with fail
     go_quiet (fail)
     go_wp2
     go_roundw
     case rel => exact ⟨j + 1, by go_num, by omega, unhide hlow2, bdrN (unhide hb) _⟩
     case measure => simp [RowKit.intOf]; omega
   · have hup : ∀ h : j < L.length, a < L[j].1 := fun h => by
       have h1 : L[j].1 ≠ a := (unhide HXN) L[j] (List.getElem_mem h)
       have h2 : ¬ L[j].1 < a := fun c => hgo ⟨h, c⟩
       omega
     have hins := ins_at (x := (a, k)) (L := L) (j := j) (unhide hlow) (by omega) hup
     have hfl := row_flat L (a, k) j
     rw [← hins, ← unhide hM] at hfl
     have hlen : M.length = j + 1 + (n - j) := by rw [unhide hM, hins]; simp; omega
     have HFL := hide hfl
     have HLEN := hide hlen
     have ht : Hid ((flat (L.take j)).length = j * 2) := by show _ = _; rw [flat_length, List.length_take, Nat.min_eq_left (by omega)]
     have hd : Hid ((flat (L.drop j)).length = (n - j) * 2) := by show _ = _; rw [flat_length, List.length_drop, hn]
     have HN1 := hide (fun w1 (h : Row w1 g L) => news_take h j)
     have HN2 := hide (fun w1 (h : Row w1 g L) => news_drop h j (by omega))
     have hjc : (j : Int) ≤ cap := by omega
     have hjc2 : j ≤ cap := by omega
     have hj0 : (0 : Int) ≤ j := by omega
     clear hins hfl hlen hlow
     have hcase : (∃ y1 y2 : Int, j < n ∧ wr.cell? ⟨g, j * 2, none⟩ = some (.int .i64 y1) ∧ wr.cell? ⟨g, j * 2 + 1, none⟩ = some (.int .i64 y2) ∧ decide (y1 < a) = false) ∨ ¬ j < n := by
       by_cases hjn : j < n
       · have hjL : j < L.length := by omega
         have cc := RR.c j hjL
         rw [getD_lt hjL] at cc
         have := hup hjL
         exact Or.inl ⟨_, _, hjn, cc.1, cc.2, by simp; omega⟩
       · exact Or.inr hjn
     clear hgo hup
     have RRH := hide RR
     have XRH := hide xr
     clear RR xr x0 x1
     have tok1 : True := trivial
     have tok2 : True := trivial
     by_cases hcj : j = cap
     · subst hcj
       have hzd : Hid (flat (L.drop j) = []) := by show _ = _; rw [List.drop_of_length_le (by omega)]; rfl
       have hjn : ¬ j < n := by omega
       have hjn2 : ¬ (j : Int) < n := by omega
       clear hcase
       have x0 := (unhide XRH).c0
       simp only at x0
       go_wp2_with fail
       go_quiet (fail)
       have RQ := hide ((unhide RRH).b (bdrN (Below.refl _ wr) nq))
       have XQ := hide ((unhide XRH).b (bdrN (Below.refl _ wr) nq))
       have FQ := hide (((unhide B0).trans ((unhide hb).mono (by omega))).trans ((bdrN (Below.refl _ wr) nq).mono (by have := (unhide hb).size; omega)))
       generalize wr.drewN nq = WQ at *
       go_wp2_with (first
         | (at_builtin; have _t := tok1; refine wpList_append_own _ rfl (.tmp 23) (.tmp 26) 146 rfl w.heap.size 71 i0 (.agg #[.int .i64 0, .int .i64 0]) 2 16 Tryz.underlying146 (unhide HI) (unhide HZ) (unhide HZ1) (unhide HZ2) rfl (by decide) _ 0 [] rfl (World.ownsRow_nil _ _ _ _) _ _ _ (flat (L.take j)) rfl (unhide ht) ((unhide HN1) _ (unhide RQ)) (flat_one _) (by unfold maxLen; omega) (by omega) (unhide FQ).size ?_; intro v1 w1 o1 g1 n1; have bq := (Below.refl WQ.heap.size WQ).grown g1 (Nat.le_refl _) (fun k hk => by cases hk); have X1 := (unhide XQ).b bq; have q0 := X1.c0; have q1 := X1.c1; simp only at q0 q1; have F1 := hide ((unhide FQ).trans (bq.mono (unhide FQ).size)); have O1 := hide o1; clear o1 g1 n1 bq X1 tok1)
         | (at_builtin; have _t := tok2; refine wpList_append_own _ rfl (.tmp 28) (.tmp 30) 146 rfl w.heap.size 71 i0 (.agg #[.int .i64 0, .int .i64 0]) 2 16 Tryz.underlying146 (unhide HI) (unhide HZ) (unhide HZ1) (unhide HZ2) rfl (by decide) _ _ _ rfl ((unhide O1).alloc _) _ _ _ [.int .i64 a, .int .i64 k] rfl rfl (news2 _ a k) (one2 a k) (by unfold maxLen; omega) (by omega) (by have := (unhide F1).size; simp; omega) ?_; intro v2 w2 o2 g2 n2; have F2 := hide ((ballo (unhide F1) _).grown g2 (by have := (unhide F1).size; simp; omega) (own_row (unhide O1))); have O2 := hide o2; clear o2 g2 n2 tok2)
         | (at_builtin; refine wpList_append_own _ rfl (.tmp 32) (.tmp 35) 146 rfl w.heap.size 71 i0 (.agg #[.int .i64 0, .int .i64 0]) 2 16 Tryz.underlying146 (unhide HI) (unhide HZ) (unhide HZ1) (unhide HZ2) rfl (by decide) _ _ _ rfl (unhide O2) _ 0 _ [] rfl rfl (by intro j u h; simp at h) (by intro u h; simp at h) (by unfold maxLen; omega) (by omega) (unhide F2).size ?_; intro v3 w3 o3 g3 n3))
       go_ret
       have b3 : Below w.heap.size w w3 := (unhide F2).grown g3 (unhide F2).size (own_row (unhide O2))
       refine ⟨_, rfl, ?_, fun h0 => absurd h0 (unhide HNE), b3⟩
       rw [unhide HLEN, unhide HFL, unhide hzd, show j + 1 + (n - j) = j + 1 + 0 by omega]
       simpa using o3
     · have hltc : (j : Int) < cap := by omega
       rcases hcase with ⟨y1, y2, hjn, c1, c2, hd0⟩ | hjn
       · have hjn2 : (j : Int) < n := by omega
         have x0 := (unhide XRH).c0
         simp only at x0
         go_wp2_with fail
         go_quiet (fail)
         have RQ := hide ((unhide RRH).b (bdrN (Below.refl _ wr) nq))
         have XQ := hide ((unhide XRH).b (bdrN (Below.refl _ wr) nq))
         have FQ := hide (((unhide B0).trans ((unhide hb).mono (by omega))).trans ((bdrN (Below.refl _ wr) nq).mono (by have := (unhide hb).size; omega)))
         generalize wr.drewN nq = WQ at *
         clear c1 c2 x0
         go_wp2_with (first
           | (at_builtin; have _t := tok1; refine wpList_append_own _ rfl (.tmp 23) (.tmp 26) 146 rfl w.heap.size 71 i0 (.agg #[.int .i64 0, .int .i64 0]) 2 16 Tryz.underlying146 (unhide HI) (unhide HZ) (unhide HZ1) (unhide HZ2) rfl (by decide) _ 0 [] rfl (World.ownsRow_nil _ _ _ _) _ _ _ (flat (L.take j)) rfl (unhide ht) ((unhide HN1) _ (unhide RQ)) (flat_one _) (by unfold maxLen; omega) (by omega) (unhide FQ).size ?_; intro v1 w1 o1 g1 n1; have bq := (Below.refl WQ.heap.size WQ).grown g1 (Nat.le_refl _) (fun k hk => by cases hk); have X1 := (unhide XQ).b bq; have q0 := X1.c0; have q1 := X1.c1; simp only at q0 q1; have F1 := hide ((unhide FQ).trans (bq.mono (unhide FQ).size)); have O1 := hide o1; clear o1 g1 n1 bq X1 tok1)
           | (at_builtin; have _t := tok2; refine wpList_append_own _ rfl (.tmp 28) (.tmp 30) 146 rfl w.heap.size 71 i0 (.agg #[.int .i64 0, .int .i64 0]) 2 16 Tryz.underlying146 (unhide HI) (unhide HZ) (unhide HZ1) (unhide HZ2) rfl (by decide) _ _ _ rfl ((unhide O1).alloc _) _ _ _ [.int .i64 a, .int .i64 k] rfl rfl (news2 _ a k) (one2 a k) (by unfold maxLen; omega) (by omega) (by have := (unhide F1).size; simp; omega) ?_; intro v2 w2 o2 g2 n2; have F2 := hide ((ballo (unhide F1) _).grown g2 (by have := (unhide F1).size; simp; omega) (own_row (unhide O1))); have O2 := hide o2; clear o2 g2 n2 tok2)
           | (at_builtin; refine wpList_append_own _ rfl (.tmp 32) (.tmp 35) 146 rfl w.heap.size 71 i0 (.agg #[.int .i64 0, .int .i64 0]) 2 16 Tryz.underlying146 (unhide HI) (unhide HZ) (unhide HZ1) (unhide HZ2) rfl (by decide) _ _ _ rfl (unhide O2) _ _ _ (flat (L.drop j)) rfl (unhide hd) ((unhide HN2) _ ((unhide HR0).b (unhide F2))) (flat_one _) (by unfold maxLen; omega) (by omega) (unhide F2).size ?_; intro v3 w3 o3 g3 n3))
         go_ret
         have b3 : Below w.heap.size w w3 := (unhide F2).grown g3 (unhide F2).size (own_row (unhide O2))
         refine ⟨_, rfl, ?_, fun h0 => absurd h0 (unhide HNE), b3⟩
         rw [unhide HLEN, unhide HFL]
         simpa using o3
       · have hjn2 : ¬ (j : Int) < n := by omega
         have x0 := (unhide XRH).c0
         simp only at x0
         go_wp2_with fail
         go_quiet (fail)
         have RQ := hide ((unhide RRH).b (bdrN (Below.refl _ wr) nq))
         have XQ := hide ((unhide XRH).b (bdrN (Below.refl _ wr) nq))
         have FQ := hide (((unhide B0).trans ((unhide hb).mono (by omega))).trans ((bdrN (Below.refl _ wr) nq).mono (by have := (unhide hb).size; omega)))
         generalize wr.drewN nq = WQ at *
         clear x0
         go_wp2_with (first
           | (at_builtin; have _t := tok1; refine wpList_append_own _ rfl (.tmp 23) (.tmp 26) 146 rfl w.heap.size 71 i0 (.agg #[.int .i64 0, .int .i64 0]) 2 16 Tryz.underlying146 (unhide HI) (unhide HZ) (unhide HZ1) (unhide HZ2) rfl (by decide) _ 0 [] rfl (World.ownsRow_nil _ _ _ _) _ _ _ (flat (L.take j)) rfl (unhide ht) ((unhide HN1) _ (unhide RQ)) (flat_one _) (by unfold maxLen; omega) (by omega) (unhide FQ).size ?_; intro v1 w1 o1 g1 n1; have bq := (Below.refl WQ.heap.size WQ).grown g1 (Nat.le_refl _) (fun k hk => by cases hk); have X1 := (unhide XQ).b bq; have q0 := X1.c0; have q1 := X1.c1; simp only at q0 q1; have F1 := hide ((unhide FQ).trans (bq.mono (unhide FQ).size)); have O1 := hide o1; clear o1 g1 n1 bq X1 tok1)
           | (at_builtin; have _t := tok2; refine wpList_append_own _ rfl (.tmp 28) (.tmp 30) 146 rfl w.heap.size 71 i0 (.agg #[.int .i64 0, .int .i64 0]) 2 16 Tryz.underlying146 (unhide HI) (unhide HZ) (unhide HZ1) (unhide HZ2) rfl (by decide) _ _ _ rfl ((unhide O1).alloc _) _ _ _ [.int .i64 a, .int .i64 k] rfl rfl (news2 _ a k) (one2 a k) (by unfold maxLen; omega) (by omega) (by have := (unhide F1).size; simp; omega) ?_; intro v2 w2 o2 g2 n2; have F2 := hide ((ballo (unhide F1) _).grown g2 (by have := (unhide F1).size; simp; omega) (own_row (unhide O1))); have O2 := hide o2; clear o2 g2 n2 tok2)
           | (at_builtin; refine wpList_append_own _ rfl (.tmp 32) (.tmp 35) 146 rfl w.heap.size 71 i0 (.agg #[.int .i64 0, .int .i64 0]) 2 16 Tryz.underlying146 (unhide HI) (unhide HZ) (unhide HZ1) (unhide HZ2) rfl (by decide) _ _ _ rfl (unhide O2) _ _ _ (flat (L.drop j)) rfl (unhide hd) ((unhide HN2) _ ((unhide HR0).b (unhide F2))) (flat_one _) (by unfold maxLen; omega) (by omega) (unhide F2).size ?_; intro v3 w3 o3 g3 n3))
         go_ret
         have b3 : Below w.heap.size w w3 := (unhide F2).grown g3 (unhide F2).size (own_row (unhide O2))
         refine ⟨_, rfl, ?_, fun h0 => absurd h0 (unhide HNE), b3⟩
         rw [unhide HLEN, unhide HFL]
         simpa using o3
end Bd
end Go.Proofs.YtfefehkapffljaaGreatDoor
namespace Go.Proofs.YtfefehkapffljaaGreatDoor
open Go.RowKit
namespace Fr
end Fr
end Go.Proofs.YtfefehkapffljaaGreatDoor
namespace Go.Proofs.YtfefehkapffljaaGreatDoor
open Go.RowKit
namespace Bd
open Fr
def Tag (w : World) (g : Nat) (t : TypeId) : Prop := ∃ cur fz, w.heap[g]? = some (.cells cur t fz)
theorem Tag.blk {w w' : World} {g : Nat} {t : TypeId} (h : Tag w g t) (hb : w'.heap[g]? = w.heap[g]?) : Tag w' g t := by
 obtain ⟨cur, fz, e⟩ := h
 exact ⟨cur, fz, hb.trans e⟩
theorem Tag.lt {w : World} {g : Nat} {t : TypeId} (h : Tag w g t) : g < w.heap.size := by
 obtain ⟨cur, fz, e⟩ := h
 rcases Nat.lt_or_ge g w.heap.size with h' | h'
 · exact h'
 · rw [Array.getElem?_eq_none h'] at e; cases e
theorem Tag.b {w w' : World} {g : Nat} {t : TypeId} (h : Tag w g t) (hb : Below w.heap.size w w') : Tag w' g t := h.blk (hb.block g h.lt)
theorem Tag.set {w : World} {g : Nat} {t : TypeId} (h : Tag w g t) (a : Addr) (v : Value) : Tag (w.setCell a v) g t := by
 obtain ⟨cur, fz, e⟩ := h
 by_cases hg : g = a.block
 · subst hg
   refine ⟨if a.spot.isSome then cur else cur.setIfInBounds a.off v, fz, ?_⟩
   simp only [World.setCell, Array.getElem?_modify, e]
   simp
 · exact ⟨cur, fz, (Below.heap_setCell _ _ _ _ hg).trans e⟩
theorem Tag.ne {w : World} {g g' : Nat} {t t' : TypeId} (h : Tag w g t) (h' : Tag w g' t') (hne : t ≠ t') : g ≠ g' := by
 rintro rfl
 obtain ⟨cur, fz, e⟩ := h
 obtain ⟨cur', fz', e'⟩ := h'
 rw [e] at e'
 simp only [Option.some.injEq, Obj.cells.injEq] at e'
 exact hne e'.2.1
theorem tag_new (w : World) (cs : Array Value) (t : TypeId) : Tag (w.alloc (.cells cs t)) w.heap.size t := ⟨cs, (0, 0), heap_alloc_new w _⟩
structure Rowt (w : World) (g : Nat) (R : List Bl) : Prop extends Row w g R where
 tg : Tag w g 71
theorem Rowt.b {w w' : World} {g : Nat} {R : List Bl} (h : Rowt w g R) (hb : Below w.heap.size w w') : Rowt w' g R := ⟨h.toRow.b hb, h.tg.b hb⟩
theorem rowt_of {w : World} {B : Nat} {v : Value} {L : List Bl} (h : w.ownsRow B 71 2 v L.length (flat L)) (hL : L ≠ []) : ∃ g cap, v = .slice (some ⟨g, 0, none⟩) L.length cap ∧ B ≤ g ∧ L.length ≤ cap ∧ cap ≤ maxLen ∧ Rowt w g L := by
 obtain ⟨g, cap, hv, hB, h1, h2, hr⟩ := row_of h hL
 refine ⟨g, cap, hv, hB, h1, h2, hr, ?_⟩
 rcases h.2 with ⟨h0, _⟩ | ⟨g', cap', cur, hv', _, hg, _⟩
 · rw [h0] at hv; cases hv
 · rw [hv] at hv'
   simp only [Value.slice.injEq, Option.some.injEq, Addr.mk.injEq] at hv'
   obtain ⟨⟨rfl, _⟩, _⟩ := hv'
   exact ⟨cur, _, hg⟩
def RL (w : World) (b : Nat) (v : Value) (L : List Bl) : Prop :=
 (L = [] ∧ v = .slice none 0 0) ∨ ∃ g c, v = .slice (some ⟨g, 0, none⟩) L.length c ∧ g ≠ b ∧ L.length ≤ c ∧ c ≤ maxLen ∧ L ≠ [] ∧ Rowt w g L
theorem RL.lies {w : World} {b : Nat} {v : Value} {L : List Bl} (h : RL w b v L) : Lies w v L := by
 rcases h with h | ⟨g, c, hv, _, h1, h2, h3, hr⟩
 · exact Or.inl h
 · exact Or.inr ⟨g, c, hv, hr.lt, h3, h1, h2, hr.c⟩
theorem RL.b {w w' : World} {b : Nat} {v : Value} {L : List Bl} (h : RL w b v L) (hb : Below w.heap.size w w') : RL w' b v L := by
 rcases h with h | ⟨g, c, hv, h0, h1, h2, h3, hr⟩
 · exact Or.inl h
 · exact Or.inr ⟨g, c, hv, h0, h1, h2, h3, hr.b hb⟩
theorem Row.off {w : World} {g b : Nat} {L : List Bl} (h : Row w g L) (hne : g ≠ b) (o : Nat) (v : Value) : Row (w.setCell ⟨b, o, none⟩ v) g L :=
 ⟨fun i hi => ⟨(cso (by simp <;> omega)).trans (h.c i hi).1, (cso (by simp <;> omega)).trans (h.c i hi).2⟩, fun o' ho => by simp only [World.frozen?_setCell]; exact h.fz o' ho, by simpa [World.setCell] using h.lt⟩
theorem Rowt.off {w : World} {g b : Nat} {L : List Bl} (h : Rowt w g L) (hne : g ≠ b) (o : Nat) (v : Value) : Rowt (w.setCell ⟨b, o, none⟩ v) g L := ⟨h.toRow.off hne o v, h.tg.set _ _⟩
theorem RL.off {w : World} {b : Nat} {v : Value} {L : List Bl} (h : RL w b v L) (o : Nat) (u : Value) : RL (w.setCell ⟨b, o, none⟩ u) b v L := by
 rcases h with h | ⟨g, c, hv, h0, h1, h2, h3, hr⟩
 · exact Or.inl h
 · exact Or.inr ⟨g, c, hv, h0, h1, h2, h3, hr.off h0 o u⟩
theorem rl_of {w : World} {B b : Nat} {v : Value} {L : List Bl} (h : w.ownsRow B 71 2 v L.length (flat L)) (hn : L = [] → v = .slice none 0 0) (hb : b < B) : RL w b v L := by
 by_cases hL : L = []
 · exact Or.inl ⟨hL, hn hL⟩
 · obtain ⟨g, cap, hv, hg, h1, h2, hr⟩ := rowt_of h hL
   exact Or.inr ⟨g, cap, hv, by omega, h1, h2, hL, hr⟩
structure RB (w : World) (b : Nat) (N : Int) (F T : List Bl) : Prop where
 c0 : w.cell? ⟨b, 0, none⟩ = some (.int .i64 N)
 c1 : ∃ v, w.cell? ⟨b, 1, none⟩ = some v ∧ RL w b v F
 c2 : ∃ v, w.cell? ⟨b, 2, none⟩ = some v ∧ RL w b v T
 f1 : w.frozen? ⟨b, 1, none⟩ = false
 f2 : w.frozen? ⟨b, 2, none⟩ = false
 lt : b < w.heap.size
 tg : Tag w b 213
theorem RB.b {w w' : World} {b : Nat} {N : Int} {F T : List Bl} (h : RB w b N F T) (hb : Below w.heap.size w w') : RB w' b N F T := by
 obtain ⟨v1, e1, l1⟩ := h.c1
 obtain ⟨v2, e2, l2⟩ := h.c2
 exact ⟨(hb.cell (p := ⟨b, 0, none⟩) h.lt).trans h.c0, ⟨v1, (hb.cell (p := ⟨b, 1, none⟩) h.lt).trans e1, l1.b hb⟩, ⟨v2, (hb.cell (p := ⟨b, 2, none⟩) h.lt).trans e2, l2.b hb⟩, (hb.frozen (p := ⟨b, 1, none⟩) h.lt).trans h.f1, (hb.frozen (p := ⟨b, 2, none⟩) h.lt).trans h.f2, Nat.lt_of_lt_of_le h.lt hb.size, h.tg.b hb⟩
theorem RB.a {w : World} {b : Nat} {N : Int} {F T : List Bl} (h : RB w b N F T) (o : Obj) : RB (w.alloc o) b N F T := h.b (ballo (Below.refl _ _) o)
theorem RB.putF {w : World} {b : Nat} {N : Int} {F F' T : List Bl} {v : Value} (h : RB w b N F T) (hv : RL w b v F') : RB (w.setCell ⟨b, 1, none⟩ v) b N F' T := by
 obtain ⟨v1, e1, l1⟩ := h.c1
 obtain ⟨v2, e2, l2⟩ := h.c2
 exact ⟨(cso (by simp)).trans h.c0, ⟨v, css e1, hv.off _ _⟩, ⟨v2, (cso (by simp)).trans e2, l2.off _ _⟩, by simp only [World.frozen?_setCell]; exact h.f1, by simp only [World.frozen?_setCell]; exact h.f2, by simpa [World.setCell] using h.lt, h.tg.set _ _⟩
theorem RB.putT {w : World} {b : Nat} {N : Int} {F T T' : List Bl} {v : Value} (h : RB w b N F T) (hv : RL w b v T') : RB (w.setCell ⟨b, 2, none⟩ v) b N F T' := by
 obtain ⟨v1, e1, l1⟩ := h.c1
 obtain ⟨v2, e2, l2⟩ := h.c2
 exact ⟨(cso (by simp)).trans h.c0, ⟨v1, (cso (by simp)).trans e1, l1.off _ _⟩, ⟨v, css e2, hv.off _ _⟩, by simp only [World.frozen?_setCell]; exact h.f1, by simp only [World.frozen?_setCell]; exact h.f2, by simpa [World.setCell] using h.lt, h.tg.set _ _⟩
theorem rl_slice {w : World} {b : Nat} {v : Value} {L : List Bl} (h : RL w b v L) : ∃ p m c, v = .slice p m c ∧ RL w b (.slice p m c) L := by
 have h' := h
 rcases h with ⟨_, rfl⟩ | ⟨g, c, rfl, _⟩
 · exact ⟨_, _, _, rfl, h'⟩
 · exact ⟨_, _, _, rfl, h'⟩
end Bd
end Go.Proofs.YtfefehkapffljaaGreatDoor
namespace Go.Proofs.YtfefehkapffljaaGreatDoor
open Go.RowKit
namespace Bd
open Fr
theorem fwd {w w1 w2 : World} {n : Nat} (h : Below n w w1) (hn : n ≤ w1.heap.size) (k : Below w1.heap.size w1 w2) : Below n w w2 := h.trans (k.mono hn)
end Bd
end Go.Proofs.YtfefehkapffljaaGreatDoor
namespace Go.Proofs.YtfefehkapffljaaGreatDoor
open Go.RowKit
namespace Bd
open Fr
theorem with_all (b : Nat) (v : Value) (L : List Bl) (x : Bl) (w : World) (h : RL w b v L) (hl : L.length ≤ 256) (hx : ∀ y ∈ L, y.1 ≠ x.1) :
   Calls Tryz.prog 134 #[v, blkV x.1 x.2] w fun ev w' => ∃ p m c, ev = .returned (.slice p m c) ∧ (∀ b', b' < w.heap.size → RL w' b' (.slice p m c) (ins x L)) ∧ Below w.heap.size w w' := by
 have key : ∀ (w' : World) v', w'.ownsRow w.heap.size 71 2 v' (ins x L).length (flat (ins x L)) → (ins x L = [] → v' = .slice none 0 0) → ∃ p m c, v' = .slice p m c ∧ ∀ b', b' < w.heap.size → RL w' b' (.slice p m c) (ins x L) := by
   intro w' v' ho hn
   by_cases h0 : 0 < w.heap.size
   · obtain ⟨p, m, c, rfl, _⟩ := rl_slice (rl_of ho hn h0)
     exact ⟨p, m, c, rfl, fun b' hb' => rl_of ho hn hb'⟩
   · by_cases hL : ins x L = []
     · exact ⟨none, 0, 0, hn hL, fun b' hb' => absurd hb' (by omega)⟩
     · obtain ⟨g, cap, hv, _⟩ := row_of ho hL
       exact ⟨_, _, _, hv, fun b' hb' => absurd hb' (by omega)⟩
 rcases h with ⟨hL, rfl⟩ | ⟨g, c, rfl, _, h1, h2, h3, hr⟩
 · subst hL
   refine (with_nil x w).mono ?_
   rintro ev w' ⟨v', rfl, ho, hn, hbl⟩
   obtain ⟨p, m, c, rfl, hh⟩ := key w' v' ho hn
   exact ⟨p, m, c, rfl, hh, hbl⟩
 · refine (with_ok g c L x w hr.toRow (List.length_pos_iff.2 h3) hl h1 h2 hx).mono ?_
   rintro ev w' ⟨v', rfl, ho, hn, hbl⟩
   obtain ⟨p, m, c, rfl, hh⟩ := key w' v' ho hn
   exact ⟨p, m, c, rfl, hh, hbl⟩
theorem without_all (b : Nat) (v : Value) (L : List Bl) (k : Nat) (w : World) (h : RL w b v L) (hs : Srt L) (hl : L.length ≤ 256) (hk : k < L.length) :
   Calls Tryz.prog 133 #[v, .int .i64 k] w fun ev w' => ∃ p m c, ev = .returned (.slice p m c) ∧ (∀ b', b' < w.heap.size → RL w' b' (.slice p m c) (del L[k].1 L)) ∧ Below w.heap.size w w' := by
 rcases h with ⟨hL, _⟩ | ⟨g, c, rfl, _, h1, h2, h3, hr⟩
 · subst hL; simp at hk
 · have hpos : 0 < w.heap.size := Nat.lt_of_le_of_lt (Nat.zero_le _) hr.lt
   refine (without_ok g c k L w hr.toRow hl h1 h2 hk).mono ?_
   rintro ev w' ⟨v', rfl, ho, hn, hbl⟩
   rw [erase_del hs hk] at ho hn
   obtain ⟨p, m, c, rfl, hh⟩ := rl_slice (rl_of ho hn hpos)
   exact ⟨p, m, c, rfl, fun b' hb' => rl_of ho hn hb', hbl⟩
structure Off (w : World) (b c : Nat) : Prop where
 o1 : ∃ v L, w.cell? ⟨b, 1, none⟩ = some v ∧ RL w c v L
 o2 : ∃ v L, w.cell? ⟨b, 2, none⟩ = some v ∧ RL w c v L
theorem Off.b {w w' : World} {b c : Nat} (h : Off w b c) (hl : b < w.heap.size) (hb : Below w.heap.size w w') : Off w' b c := by
 obtain ⟨v1, L1, e1, r1⟩ := h.o1
 obtain ⟨v2, L2, e2, r2⟩ := h.o2
 exact ⟨⟨v1, L1, (hb.cell (p := ⟨b, 1, none⟩) hl).trans e1, r1.b hb⟩, ⟨v2, L2, (hb.cell (p := ⟨b, 2, none⟩) hl).trans e2, r2.b hb⟩⟩
theorem RL.off2 {w : World} {b c : Nat} {v : Value} {L M : List Bl} (h : RL w c v L) (h2 : RL w b v M) (o : Nat) (u : Value) : RL (w.setCell ⟨b, o, none⟩ u) c v L := by
 rcases h with h | ⟨g, c, rfl, h0, h1, h2', h3, hr⟩
 · exact Or.inl h
 · rcases h2 with ⟨_, hv⟩ | ⟨g', c', hv, h0', _⟩
   · cases hv
   · have e : g' = g := by
       have := hv
       simp only [Value.slice.injEq, Option.some.injEq, Addr.mk.injEq] at this
       exact this.1.1.symm
     exact Or.inr ⟨g, _, rfl, h0, h1, h2', h3, hr.off (e ▸ h0') o u⟩
theorem RB.offF {w : World} {b c : Nat} {N : Int} {F F' T : List Bl} {v : Value} (h : RB w b N F T) (ho : Off w b c) (hv : RL w b v F') (hc : RL w c v F') : Off (w.setCell ⟨b, 1, none⟩ v) b c := by
 obtain ⟨v2, L2, e2, r2⟩ := ho.o2
 obtain ⟨v3, e3, l3⟩ := h.c2
 have e : v2 = v3 := Option.some.inj (e2.symm.trans e3)
 subst e
 obtain ⟨v1, e1, l1⟩ := h.c1
 exact ⟨⟨v, F', css e1, hc.off2 hv _ _⟩, ⟨v2, L2, (cso (by simp)).trans e2, r2.off2 l3 _ _⟩⟩
theorem RB.offT {w : World} {b c : Nat} {N : Int} {F T T' : List Bl} {v : Value} (h : RB w b N F T) (ho : Off w b c) (hv : RL w b v T') (hc : RL w c v T') : Off (w.setCell ⟨b, 2, none⟩ v) b c := by
 obtain ⟨v1, L1, e1, r1⟩ := ho.o1
 obtain ⟨v3, e3, l3⟩ := h.c1
 have e : v1 = v3 := Option.some.inj (e1.symm.trans e3)
 subst e
 obtain ⟨v2, e2, l2⟩ := h.c2
 exact ⟨⟨v1, L1, (cso (by simp)).trans e1, r1.off2 l3 _ _⟩, ⟨v, T', css e2, hc.off2 hv _ _⟩⟩
theorem RB.offNew {w : World} {b : Nat} {N : Int} {F T : List Bl} (h : RB w b N F T) (o : Obj) : Off (w.alloc o) b w.heap.size := by
 obtain ⟨v1, e1, l1⟩ := h.c1
 obtain ⟨v2, e2, l2⟩ := h.c2
 have key : ∀ v L, RL w b v L → RL w w.heap.size v L := by
   intro v L h
   rcases h with h | ⟨g, c, hv, h0, h1, h2, h3, hr⟩
   · exact Or.inl h
   · exact Or.inr ⟨g, c, hv, Nat.ne_of_lt hr.lt, h1, h2, h3, hr⟩
 have hb := ballo (Below.refl w.heap.size w) o
 exact ⟨⟨v1, F, (hb.cell (p := ⟨b, 1, none⟩) h.lt).trans e1, (key _ _ l1).b hb⟩, ⟨v2, T, (hb.cell (p := ⟨b, 2, none⟩) h.lt).trans e2, (key _ _ l2).b hb⟩⟩
theorem RB.box {w : World} {b c : Nat} {N : Int} {F T : List Bl} (h : RB w b N F T) (ho : Off w b c) (hbc : c ≠ b) (o : Nat) (u : Value) : RB (w.setCell ⟨c, o, none⟩ u) b N F T ∧ Off (w.setCell ⟨c, o, none⟩ u) b c := by
 obtain ⟨v1, e1, l1⟩ := h.c1
 obtain ⟨v2, e2, l2⟩ := h.c2
 obtain ⟨u1, L1, g1, r1⟩ := ho.o1
 obtain ⟨u2, L2, g2, r2⟩ := ho.o2
 have q1 : u1 = v1 := Option.some.inj (g1.symm.trans e1)
 have q2 : u2 = v2 := Option.some.inj (g2.symm.trans e2)
 subst q1
 subst q2
 exact ⟨⟨(cso (by simp <;> omega)).trans h.c0, ⟨u1, (cso (by simp <;> omega)).trans e1, l1.off2 r1 _ _⟩, ⟨u2, (cso (by simp <;> omega)).trans e2, l2.off2 r2 _ _⟩, by simp only [World.frozen?_setCell]; exact h.f1, by simp only [World.frozen?_setCell]; exact h.f2, by simpa [World.setCell] using h.lt, h.tg.set _ _⟩,
   ⟨⟨u1, L1, (cso (by simp <;> omega)).trans e1, r1.off _ _⟩, ⟨u2, L2, (cso (by simp <;> omega)).trans e2, r2.off _ _⟩⟩⟩
end Bd
end Go.Proofs.YtfefehkapffljaaGreatDoor
namespace Go.Proofs.YtfefehkapffljaaGreatDoor
open Go.RowKit
namespace Bd
open Fr
theorem drw (w : World) : Below w.heap.size w w.drew := ⟨rfl, rfl, rfl, Nat.le_refl _, fun _ _ => rfl⟩
end Bd
end Go.Proofs.YtfefehkapffljaaGreatDoor
