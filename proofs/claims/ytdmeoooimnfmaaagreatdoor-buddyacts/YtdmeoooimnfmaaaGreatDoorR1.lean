/- The contracts of the document's answer's own list functions of chapter 2: find, without, with. -/
import Derived.Test.YtdmeoooimnfmaaaGreatDoorCover3
import Derived.Test.YtdmeoooimnfmaaaGreatDoorBud3
import Derived.Test.YtdmeoooimnfmaaaGreatDoorMin
namespace Go.Proofs.YtdmeoooimnfmaaaGreatDoor
open Go.RowKit
namespace Bd
open Fr
theorem cells_flat {w : World} {g : Nat} {L : List Bl} (hr : Row w g L) : ∀ j u, (flat L)[j]? = some u → w.cell? ⟨g, j, none⟩ = some u := by
  intro j u hj
  have hlt : j < L.length * 2 := by
    have := (List.getElem?_eq_some_iff.1 hj).1
    rw [flat_length] at this; exact this
  have hi : j / 2 < L.length := by omega
  have hf := flat_get L (j / 2) hi
  have hci := hr.c (j / 2) hi
  rw [List.getD_eq_getElem?_getD, List.getElem?_eq_getElem hi, Option.getD_some] at hci
  rcases Nat.mod_two_eq_zero_or_one j with h0 | h1
  · have e : j / 2 * 2 = j := by omega
    have e2 : 2 * (j / 2) = j := by omega
    rw [e] at hci; rw [e2] at hf
    rw [hci.1, ← hj, hf.1]
  · have e : j / 2 * 2 + 1 = j := by omega
    have e2 : 2 * (j / 2) + 1 = j := by omega
    rw [e] at hci; rw [e2] at hf
    rw [hci.2, ← hj, hf.2]
theorem flat_append (a b : List Bl) : flat (a ++ b) = flat a ++ flat b := by simp [flat]
theorem flat_take (L : List Bl) (k : Nat) (j : Nat) (u : Value) (h : (flat (L.take k))[j]? = some u) : (flat L)[j]? = some u := by
  have hlt := (List.getElem?_eq_some_iff.1 h).1
  have e : flat L = flat (L.take k) ++ flat (L.drop k) := by rw [← flat_append, List.take_append_drop]
  rw [e, List.getElem?_append_left hlt]; exact h
theorem flat_drop (L : List Bl) (k : Nat) (hk : k ≤ L.length) (j : Nat) (u : Value) (h : (flat (L.drop k))[j]? = some u) : (flat L)[k * 2 + j]? = some u := by
  have e : flat L = flat (L.take k) ++ flat (L.drop k) := by rw [← flat_append, List.take_append_drop]
  have hl : (flat (L.take k)).length = k * 2 := by rw [flat_length, List.length_take, Nat.min_eq_left hk]
  rw [e, List.getElem?_append_right (by omega), hl, show k * 2 + j - k * 2 = j from by omega]; exact h
theorem flat_one (L : List Bl) : ∀ u ∈ flat L, u.oneCell' = true := by
  intro u hu
  simp only [flat, List.mem_flatMap] at hu
  obtain ⟨x, _, hx⟩ := hu
  simp at hx
  rcases hx with rfl | rfl <;> rfl
theorem add_at (g o j : Nat) : ((⟨g, o, none⟩ : Addr).add j) = ⟨g, o + j, none⟩ := by
  by_cases h : j = 0
  · subst h; simp [Addr.add]
  · simp [Addr.add, h]
/-- The cells of the first ones, and of the last ones, at their addresses. -/
theorem news_take {w : World} {g : Nat} {L : List Bl} (hr : Row w g L) (k : Nat) : ∀ j u, (flat (L.take k))[j]? = some u → w.cell? ((⟨g, 0, none⟩ : Addr).add j) = some u := fun j u h => by
  rw [add_at, Nat.zero_add]; exact cells_flat hr j u (flat_take L k j u h)
theorem news_drop {w : World} {g : Nat} {L : List Bl} (hr : Row w g L) (k : Nat) (hk : k ≤ L.length) : ∀ j u, (flat (L.drop k))[j]? = some u → w.cell? ((⟨g, k * 2, none⟩ : Addr).add j) = some u := fun j u h => by
  rw [add_at]; exact cells_flat hr _ u (flat_drop L k hk j u h)

set_option maxRecDepth 100000 in
set_option maxHeartbeats 2000000 in
theorem without_ok (g cap k : Nat) (L : List Bl) (w : World) (hr : Row w g L) (hl : L.length ≤ 256) (hcap : L.length ≤ cap) (hcap2 : cap ≤ maxLen) (hk : k < L.length) :
    Calls Tryz.prog 25 #[.slice (some ⟨g, 0, none⟩) L.length cap, .int .i64 k] w fun ev w' => ∃ v, ev = .returned v ∧ w'.ownsRow w.heap.size 33 2 v (L.take k ++ L.drop (k + 1)).length (flat (L.take k ++ L.drop (k + 1))) ∧ (L.take k ++ L.drop (k + 1) = [] → v = .slice none 0 0) ∧ Below w.heap.size w w' := by
  obtain ⟨i0, hi, hz0, hz1, hz2⟩ := info_parts info36
  have HI := hide hi
  have HZ := hide hz0
  have HZ1 := hide hz1
  have HZ2 := hide hz2
  have HR := hide hr
  have hgl := hr.lt
  clear hi hz0 hz1 hz2 hr
  have ht : (flat (L.take k)).length = k * 2 := by rw [flat_length, List.length_take, Nat.min_eq_left (by omega)]
  have hd : (flat (L.drop (k + 1))).length = (L.length - (k + 1)) * 2 := by rw [flat_length, List.length_drop]
  have hfin : (L.take k ++ L.drop (k + 1)).length = k + (L.length - (k + 1)) ∧ flat (L.take k ++ L.drop (k + 1)) = flat (L.take k) ++ flat (L.drop (k + 1)) := ⟨by simp; omega, flat_append _ _⟩
  have HFIN := hide hfin
  have HT := hide ht
  have HD := hide hd
  have HN1 := hide (fun w1 (h : Row w1 g L) => news_take h k)
  have HN2 := hide (fun w1 (h : Row w1 g L) => news_drop h (k + 1) (by omega))
  clear hfin ht hd
  unfold maxLen at hcap2
  have HL0 : Hid (L.take k ++ L.drop (k + 1) = [] → k = 0 ∧ L.length - (k + 1) = 0) := fun h => by
    have := congrArg List.length h
    rw [(unhide HFIN).1] at this
    simp at this; omega
  obtain ⟨M, hM⟩ : ∃ M, M = L.take k ++ L.drop (k + 1) := ⟨_, rfl⟩
  rw [← hM] at HFIN HL0 ⊢
  clear hM
  generalize hn : L.length = n at *
  have tok1 : True := trivial
  by_cases hc : k + 1 = cap
  · subst hc
    have hzd : Hid (flat (L.drop (k + 1)) = []) := by show _ = _; rw [List.drop_of_length_le (by omega)]; rfl
    go_enter Tryz.func25, Tryz.ntmps25
    go_wp2_with (first
      | (at_builtin; have _t := tok1; refine wpList_append_own _ rfl (.tmp 6) (.tmp 9) 46 rfl w.heap.size 33 i0 (.agg #[.int .i64 0, .int .i64 0]) 2 16 Tryz.underlying46 (unhide HI) (unhide HZ) (unhide HZ1) (unhide HZ2) rfl (by decide) _ 0 [] rfl (World.ownsRow_nil _ _ _ _) _ _ _ (flat (L.take k)) rfl (unhide HT) ((unhide HN1) _ (unhide HR)) (flat_one _) (by unfold maxLen; omega) (by omega) (Nat.le_refl _) ?_; intro v1 w1 o1 g1 n1; have b1 : Below w.heap.size w w1 := (Below.refl _ _).grown g1 (Nat.le_refl _) (fun k hk => by cases hk); have R1 := hide ((unhide HR).b b1); have N1 := hide n1; have B1 := hide b1; have O1 := hide o1; clear o1 g1 n1 b1 tok1)
      | (at_builtin; refine wpList_append_own _ rfl (.tmp 11) (.tmp 15) 46 rfl w.heap.size 33 i0 (.agg #[.int .i64 0, .int .i64 0]) 2 16 Tryz.underlying46 (unhide HI) (unhide HZ) (unhide HZ1) (unhide HZ2) rfl (by decide) _ _ _ rfl (unhide O1) _ 0 _ [] rfl rfl (by intro j u h; simp at h) (by intro u h; simp at h) (by unfold maxLen; omega) (by omega) (unhide B1).size ?_; intro v2 w2 o2 g2 n2))
    go_ret
    have b2 : Below w.heap.size w w2 := (unhide B1).grown g2 (unhide B1).size (own_row (unhide O1))
    refine ⟨_, rfl, ?_, fun h0 => ?_, b2⟩
    · rw [(unhide HFIN).1, (unhide HFIN).2, unhide hzd, show k + (n - (k + 1)) = k + 0 by omega]; simpa using o2
    · obtain ⟨z1, z2⟩ := (unhide HL0) h0
      exact n2.2 ⟨(unhide N1).2 (by first | exact ⟨rfl, z1⟩ | exact ⟨trivial, z1⟩), by first | rfl | trivial⟩
  · have hlt : (k : Int) + 1 < cap := by omega
    go_enter Tryz.func25, Tryz.ntmps25
    go_wp2_with (first
      | (at_builtin; have _t := tok1; refine wpList_append_own _ rfl (.tmp 6) (.tmp 9) 46 rfl w.heap.size 33 i0 (.agg #[.int .i64 0, .int .i64 0]) 2 16 Tryz.underlying46 (unhide HI) (unhide HZ) (unhide HZ1) (unhide HZ2) rfl (by decide) _ 0 [] rfl (World.ownsRow_nil _ _ _ _) _ _ _ (flat (L.take k)) rfl (unhide HT) ((unhide HN1) _ (unhide HR)) (flat_one _) (by unfold maxLen; omega) (by omega) (Nat.le_refl _) ?_; intro v1 w1 o1 g1 n1; have b1 : Below w.heap.size w w1 := (Below.refl _ _).grown g1 (Nat.le_refl _) (fun k hk => by cases hk); have R1 := hide ((unhide HR).b b1); have N1 := hide n1; have B1 := hide b1; have O1 := hide o1; clear o1 g1 n1 b1 tok1)
      | (at_builtin; refine wpList_append_own _ rfl (.tmp 11) (.tmp 15) 46 rfl w.heap.size 33 i0 (.agg #[.int .i64 0, .int .i64 0]) 2 16 Tryz.underlying46 (unhide HI) (unhide HZ) (unhide HZ1) (unhide HZ2) rfl (by decide) _ _ _ rfl (unhide O1) _ _ _ (flat (L.drop (k + 1))) rfl (unhide HD) ((unhide HN2) _ (unhide R1)) (flat_one _) (by unfold maxLen; omega) (by omega) (unhide B1).size ?_; intro v2 w2 o2 g2 n2))
    go_ret
    have b2 : Below w.heap.size w w2 := (unhide B1).grown g2 (unhide B1).size (own_row (unhide O1))
    refine ⟨_, rfl, ?_, fun h0 => ?_, b2⟩
    · rw [(unhide HFIN).1, (unhide HFIN).2]; simpa using o2
    · obtain ⟨z1, z2⟩ := (unhide HL0) h0
      exact n2.2 ⟨(unhide N1).2 (by first | exact ⟨rfl, z1⟩ | exact ⟨trivial, z1⟩), z2⟩
end Bd
end Go.Proofs.YtdmeoooimnfmaaaGreatDoor
