/- Package zone's Take, by contract · Package zone's Take, by contract: where the node and the order are right. -/
import Derived.Test.YtfefehkapffljaaGreatDoorGT
import Derived.Deep.Cut
namespace Go.Proofs.YtfefehkapffljaaGreatDoor
open Go.RowKit Go.Maps
namespace Dz
open Fr Bd Zn
/-- The boxes of Take's call: the zone's pointer, the order, the urgency, the result. -/
structure TB (w : World) (s z : Nat) (o : Int) (u : Bool) : Prop where
  cz : w.cell? ⟨s, 0, none⟩ = some (ptr z)
  co : w.cell? ⟨s + 1, 0, none⟩ = some (.int .i64 o)
  cu : w.cell? ⟨s + 2, 0, none⟩ = some (.bool u)
  pb : PB w (s + 3)
  lt : s + 3 < w.heap.size
theorem TB.b {w w' : World} {s z : Nat} {o : Int} {u : Bool} (h : TB w s z o u) (hb : Below w.heap.size w w') : TB w' s z o u := by
  have := h.lt
  exact ⟨(hb.cell (p := ⟨s, 0, none⟩) (by simp only; omega)).trans h.cz, (hb.cell (p := ⟨s + 1, 0, none⟩) (by simp only; omega)).trans h.co, (hb.cell (p := ⟨s + 2, 0, none⟩) (by simp only; omega)).trans h.cu, h.pb.b hb, Nat.lt_of_lt_of_le h.lt hb.size⟩
abbrev tbW (w : World) (z : Nat) (o : Int) (u : Bool) : World := (((w.alloc (.cells #[.pointer (some ⟨z, 0, none⟩)] 31)).alloc (.cells #[.int .i64 o] 3)).alloc (.cells #[.bool u] 4)).alloc (.cells #[.int .i64 0, .int .i64 0, .int .i64 0] 73)
theorem tb_new (w : World) (z : Nat) (o : Int) (u : Bool) : TB (tbW w z o u) w.heap.size z o u ∧ Below w.heap.size w (tbW w z o u) := by
  unfold tbW
  have s1 : (w.alloc (.cells #[.pointer (some ⟨z, 0, none⟩)] 31)).heap.size = w.heap.size + 1 := by simp
  have q0 := World.cell?_alloc_new w #[.pointer (some ⟨z, 0, none⟩)] 31 0
  have q1 := World.cell?_alloc_new (w.alloc (.cells #[.pointer (some ⟨z, 0, none⟩)] 31)) #[.int .i64 o] 3 0
  have s2 : ((w.alloc (.cells #[.pointer (some ⟨z, 0, none⟩)] 31)).alloc (.cells #[.int .i64 o] 3)).heap.size = w.heap.size + 2 := by simp
  have q2 := World.cell?_alloc_new ((w.alloc (.cells #[.pointer (some ⟨z, 0, none⟩)] 31)).alloc (.cells #[.int .i64 o] 3)) #[.bool u] 4 0
  have q3 := pb_new (((w.alloc (.cells #[.pointer (some ⟨z, 0, none⟩)] 31)).alloc (.cells #[.int .i64 o] 3)).alloc (.cells #[.bool u] 4))
  have s3 : (((w.alloc (.cells #[.pointer (some ⟨z, 0, none⟩)] 31)).alloc (.cells #[.int .i64 o] 3)).alloc (.cells #[.bool u] 4)).heap.size = w.heap.size + 3 := by simp
  have s4 : ((((w.alloc (.cells #[.pointer (some ⟨z, 0, none⟩)] 31)).alloc (.cells #[.int .i64 o] 3)).alloc (.cells #[.bool u] 4)).alloc (.cells #[.int .i64 0, .int .i64 0, .int .i64 0] 73)).heap.size = w.heap.size + 4 := by simp
  rw [s1] at q1
  rw [s2] at q2
  rw [s3] at q3
  exact ⟨⟨((ballo (ballo (ballo (Below.refl _ _) _) _) _).cell (p := ⟨w.heap.size, 0, none⟩) (by rw [s1]; simp)).trans q0, ((ballo (ballo (Below.refl _ _) _) _).cell (p := ⟨w.heap.size + 1, 0, none⟩) (by rw [s2]; simp)).trans q1, ((ballo (Below.refl _ _) _).cell (p := ⟨w.heap.size + 2, 0, none⟩) (by rw [s3]; simp)).trans q2, q3, by rw [s4]; omega⟩, ballo (ballo (ballo (ballo (Below.refl _ _) _) _) _) _⟩
/-- The zero place and an error are handed back. -/
theorem below_set3 {w w' : World} {c : Nat} (h : Below w.heap.size w w') (hc : w.heap.size ≤ c) (a b o : Value) : Below w.heap.size w (((w'.setCell ⟨c, 0, none⟩ a).setCell ⟨c, 1, none⟩ b).setCell ⟨c, 2, none⟩ o) := ((h.setCell hc a).setCell hc b).setCell hc o
theorem pb_three {W : World} {b : Nat} (P : PB W b) (x a o : Int) :
    ((((W.setCell ⟨b, 0, none⟩ (.int .i64 x)).setCell ⟨b, 1, none⟩ (.int .i64 a)).setCell ⟨b, 2, none⟩ (.int .i64 o)).cell? ⟨b, 0, none⟩ = some (.int .i64 x)) ∧
    ((((W.setCell ⟨b, 0, none⟩ (.int .i64 x)).setCell ⟨b, 1, none⟩ (.int .i64 a)).setCell ⟨b, 2, none⟩ (.int .i64 o)).cell? ⟨b, 1, none⟩ = some (.int .i64 a)) ∧
    ((((W.setCell ⟨b, 0, none⟩ (.int .i64 x)).setCell ⟨b, 1, none⟩ (.int .i64 a)).setCell ⟨b, 2, none⟩ (.int .i64 o)).cell? ⟨b, 2, none⟩ = some (.int .i64 o)) :=
  ⟨by rw [cso (by simp), cso (by simp)]; exact css P.c0, by rw [cso (by simp)]; exact css (by rw [cso (by simp)]; exact P.c1), css (by rw [cso (by simp), cso (by simp)]; exact P.c2)⟩
theorem set3_far {W : World} {b : Nat} {g : Addr} {v : Value} (h : W.cell? g = some v) (hg : g.block ≠ b) (x a o : Value) : (((W.setCell ⟨b, 0, none⟩ x).setCell ⟨b, 1, none⟩ a).setCell ⟨b, 2, none⟩ o).cell? g = some v := by
  rw [cso (fun e => hg (by rw [← e])), cso (fun e => hg (by rw [← e])), cso (fun e => hg (by rw [← e]))]; exact h
set_option maxHeartbeats 4000000 in
theorem ztake_order (z : Nat) (x o : Int) (u : Bool) (w : World) (e : Nat → Addr) (he : Errs w e) (ho : o < 0 ∨ 6 < o) :
    Calls Tryz.prog 27 #[ptr z, .int .i64 x, .int .i64 o, .bool u] w fun ev w' => ev = .returned (.tuple #[plV 0 0 0, errV (e 1)]) ∧ Below w.heap.size w w' := by
  obtain ⟨T1, F1⟩ := tb_new w z o u
  have HS := hide (size_err o _ e (he.below F1).three ho)
  have HE := hide he
  have hw0 := World.block_lt_of_cell? w _ he.v1
  simp only at hw0
  clear he ho
  unfold ptr at *
  unfold plV
  go_enter Tryz.func27, Tryz.ntmps27
  go_upto_region 1 with (fail)
  generalize hW : tbW w z o u = W at *
  have y1 := T1.co
  go_wp2_with fail
  refine (unhide HS).mono ?_
  rintro ev w2 ⟨rfl, b2⟩
  have F2 := ballo (btr F1 b2) (.cells #[.int .i64 0] 3)
  have P2 := (T1.b b2).pb.b (ballo (Below.refl _ _) (.cells #[.int .i64 0] 3))
  have E2 := ((unhide HE).below F2).v1
  clear y1 HS hW T1 HE
  go_upto_region 3 with (fail)
  generalize w2.alloc (.cells #[.int .i64 0] 3) = W2 at *
  have p0 := P2.c0
  have p1 := P2.c1
  have p2 := P2.c2
  have f0 := P2.f 0
  have f1 := P2.f 1
  have f2 := P2.f 2
  obtain ⟨t0, t1, t2⟩ := pb_three P2 0 0 0
  have hq := set3_far (b := w.heap.size + 3) E2 (by simp only; omega) (.int .i64 0) (.int .i64 0) (.int .i64 0)
  go_region
  all_goals
    go_wp2
    refine bodyPost_ret (v := .tuple #[.agg #[.int .i64 0, .int .i64 0, .int .i64 0], errV (e 1)]) (by simp [results, Tryz.results27, go_sem, t0, t1, t2, errV]; try rfl) rfl ⟨rfl, by first | exact (below_set3 F2 (by omega) _ _ _).drew | exact below_set3 F2.drew (by omega) _ _ _⟩
set_option maxHeartbeats 4000000 in
theorem ztake_node (z : Nat) (mn lw hi : Int) (k : Nat) (nb fm tm : Nat → Nat) (nd : Nat → Nd) (fr : Nat → List Nat) (x o : Int) (u : Bool) (w : World) (e : Nat → Addr) (he : Errs w e) (h : DZ w z mn lw hi k nb fm tm nd fr) (h0 : 0 ≤ o) (h6 : o ≤ 6) (hx : ¬ (0 ≤ x ∧ x < k)) :
    Calls Tryz.prog 27 #[ptr z, .int .i64 x, .int .i64 o, .bool u] w fun ev w' => ev = .returned (.tuple #[plV 0 0 0, errV (e 1)]) ∧ Below w.heap.size w w' := by
  obtain ⟨T1, F1⟩ := tb_new w z o u
  have HS := hide (fun w1 => size_ok o w1 h0 h6)
  have HH := hide (fun w1 (hb : Below w.heap.size w w1) => show Calls Tryz.prog 70 #[ptr z, .int .i64 x] w1 fun ev w' => ev = .returned (.bool false) ∧ w' = w1 by
    have := has_ok z mn lw hi k nb fm tm nd fr x w1 (h.b hb)
    rwa [show decide (0 ≤ x ∧ x < k) = false by simpa using hx] at this)
  have HE := hide he
  have hw0 := World.block_lt_of_cell? w _ he.v1
  simp only at hw0
  clear he h hx h0 h6
  unfold ptr at *
  unfold plV
  generalize pw o = pz at *
  go_enter Tryz.func27, Tryz.ntmps27
  go_upto_region 1 with (fail)
  generalize hW : tbW w z o u = W at *
  have y1 := T1.co
  go_wp2_with fail
  refine (unhide HS _).mono ?_
  rintro ev w2 ⟨rfl, rfl⟩
  have F2 := ballo F1 (.cells #[.int .i64 pz] 3)
  have T2 := T1.b (ballo (Below.refl _ _) (.cells #[.int .i64 pz] 3))
  have E2 := ((unhide HE).below F2).v1
  have HX := hide ((unhide HH) _ F2)
  clear y1 HS hW T1 HE HH F1
  go_upto_region 2 with (fail)
  generalize w2.alloc (.cells #[.int .i64 pz] 3) = W2 at *
  have y0 := T2.cz
  unfold ptr at y0
  go_wp2_with fail
  refine (unhide HX).mono ?_
  rintro ev w3 ⟨rfl, rfl⟩
  have P2 := T2.pb
  go_upto_region 3 with (fail)
  have p0 := P2.c0
  have p1 := P2.c1
  have p2 := P2.c2
  have f0 := P2.f 0
  have f1 := P2.f 1
  have f2 := P2.f 2
  obtain ⟨t0, t1, t2⟩ := pb_three P2 0 0 0
  have hq := set3_far (b := w.heap.size + 3) E2 (by simp only; omega) (.int .i64 0) (.int .i64 0) (.int .i64 0)
  go_region
  all_goals
    go_wp2
    refine bodyPost_ret (v := .tuple #[.agg #[.int .i64 0, .int .i64 0, .int .i64 0], errV (e 1)]) (by simp [results, Tryz.results27, go_sem, t0, t1, t2, errV]; try rfl) rfl ⟨rfl, by first | exact (below_set3 F2 (by omega) _ _ _).drew | exact below_set3 F2.drew (by omega) _ _ _⟩
end Dz
end Go.Proofs.YtfefehkapffljaaGreatDoor
namespace Go.Proofs.YtfefehkapffljaaGreatDoor
open Go.RowKit Go.Maps
namespace Dz
open Fr Bd Zn
theorem any_list (L : List Nat) (k : Nat) (hk : L.length = k) (p : Nat → Bool) : ((List.range k).any fun j => p (L.getD j 0)) = L.any p := by
  rw [Bool.eq_iff_iff]
  simp only [List.any_eq_true, List.mem_range]
  constructor
  · rintro ⟨i, hi, h⟩
    rw [List.getD_eq_getElem?_getD, List.getElem?_eq_getElem (by omega), Option.getD_some] at h
    exact ⟨_, List.getElem_mem (by omega), h⟩
  · rintro ⟨y, hy, h⟩
    obtain ⟨i, hi, rfl⟩ := List.getElem_of_mem hy
    exact ⟨i, by omega, by rw [List.getD_eq_getElem?_getD, List.getElem?_eq_getElem hi, Option.getD_some]; exact h⟩
theorem fst_find {L : List Nat} {k : Nat} {r : Int} {p q : Nat → Bool} (hk : L.length = k) (hpq : ∀ i ∈ L, p i = q i) (h : Fst (fun j => p (L.getD j 0)) k r) :
    (r = -1 ∧ L.find? q = none) ∨ ∃ j : Nat, j < k ∧ r = j ∧ L.find? q = some (L.getD j 0) ∧ q (L.getD j 0) = true := by
  have hg : ∀ j (hj : j < L.length), L.getD j 0 = L[j] := fun j hj => by rw [List.getD_eq_getElem?_getD, List.getElem?_eq_getElem hj, Option.getD_some]
  rcases h with ⟨h1, h2⟩ | ⟨i, hi, h1, h2, h3⟩
  · refine Or.inl ⟨h1, ?_⟩
    rw [List.find?_eq_none]
    intro y hy
    obtain ⟨j, hj, rfl⟩ := List.getElem_of_mem hy
    have := h2 j (by omega)
    simp only [hg j hj] at this
    rw [← hpq _ (List.getElem_mem hj), this]; simp
  · have hi' : i < L.length := by omega
    have h4 : q L[i] = true := by
      have := h2
      simp only [hg i hi'] at this
      rw [← hpq _ (List.getElem_mem hi')]; exact this
    refine Or.inr ⟨i, hi, h1, ?_, by rw [hg i hi']; exact h4⟩
    rw [hg i hi']
    refine find_at hi' (fun j' hj' hlt => ?_) h4
    have := h3 j' hlt
    simp only [hg j' hj'] at this
    rw [← hpq _ (List.getElem_mem hj')]; exact this
/-- What Take answers, where the node and the order are right. -/
def TkR (z : Nat) (mn lw hi : Int) (k : Nat) (nb fm tm : Nat → Nat) (nd : Nat → Nd) (fr : Nat → List Nat) (x : Nat) (o : Int) (u : Bool) (e : Nat → Addr) (w : World) (ev : Ending) (w' : World) : Prop :=
  ((fr x).find? (fun i => tkC o mn u (nd i) == 2) = none ∧ ev = .returned (.tuple #[plV 0 0 0, errV (e (if (fr x).any (fun i => tkC o mn u (nd i) == 1) then 6 else 4))]) ∧ Below w.heap.size w w') ∨
      ∃ i, (fr x).find? (fun i => tkC o mn u (nd i) == 2) = some i ∧ i < k ∧ ev = .returned (.tuple #[plV i (tkA o (nd i)) o, .nilIface]) ∧ DZ w' z mn lw hi k nb fm tm (up nd i (tkN o (nd i))) fr ∧ Kept (fm i) (tm i) w w'
set_option maxRecDepth 100000 in
set_option maxHeartbeats 16000000 in
theorem ztake_ok (z : Nat) (mn lw hi : Int) (k : Nat) (nb fm tm : Nat → Nat) (nd : Nat → Nd) (fr : Nat → List Nat) (x : Nat) (o : Int) (u : Bool) (w : World) (e : Nat → Addr) (he : Errs w e) (h : DZ w z mn lw hi k nb fm tm nd fr) (hx : x < k) (h0 : 0 ≤ o) (h6 : o ≤ 6) (hk4 : k ≤ 20) :
    Calls Tryz.prog 27 #[ptr z, .int .i64 x, .int .i64 o, .bool u] w fun ev w' => TkR z mn lw hi k nb fm tm nd fr x o u e w ev w' := by
  obtain ⟨T1, F1⟩ := tb_new w z o u
  have hsW : (tbW w z o u).heap.size = w.heap.size + 4 := by unfold tbW; simp
  have HS := hide (fun w1 => size_ok o w1 h0 h6)
  have HH := hide (fun w1 (hb : Below w.heap.size w w1) => show Calls Tryz.prog 70 #[ptr z, .int .i64 x] w1 fun ev w' => ev = .returned (.bool true) ∧ w' = w1 by
    have := has_ok z mn lw hi k nb fm tm nd fr x w1 (h.b hb)
    rwa [show decide ((0 : Int) ≤ (x : Int) ∧ (x : Int) < k) = true by simp; omega] at this)
  have hlen := (h.fl x hx).1
  have hmem := (h.fl x hx).2
  have hLk : ∀ j, j < k → (fr x).getD j 0 < k := fun j hj => hmem _ (by rw [List.getD_eq_getElem?_getD, List.getElem?_eq_getElem (by omega), Option.getD_some]; exact List.getElem_mem _)
  have hok := h.ok
  have HFST := hide (fun r (hr : Fst (fun j => okB o mn u (nd ((fr x).getD j 0))) k r) => fst_find (q := fun i => tkC o mn u (nd i) == 2) hlen (fun i hi' => (okB_tk h0 (hok i (hmem i hi'))).1) hr)
  have HANY := hide (fun (hn : (fr x).find? (fun i => tkC o mn u (nd i) == 2) = none) => show ((List.range k).any fun j => fitB o (nd ((fr x).getD j 0))) = (fr x).any (fun i => tkC o mn u (nd i) == 1) by
    rw [any_list (fr x) k hlen (fun i => fitB o (nd i))]
    rw [List.find?_eq_none] at hn
    rw [Bool.eq_iff_iff]
    simp only [List.any_eq_true]
    constructor
    · rintro ⟨i, hi', h'⟩
      exact ⟨i, hi', by rw [← (okB_tk h0 (hok i (hmem i hi'))).2 (by simpa using hn i hi')]; exact h'⟩
    · rintro ⟨i, hi', h'⟩
      exact ⟨i, hi', by rw [(okB_tk h0 (hok i (hmem i hi'))).2 (by simpa using hn i hi')]; exact h'⟩)
  have HE := hide he
  have HZ := hide h
  have hw0 := World.block_lt_of_cell? w _ he.v4
  have hw4 := World.block_lt_of_cell? w _ he.v6
  simp only at hw0 hw4
  clear he h hok
  have HF66 := hide (fun w1 (hb : Below w.heap.size w w1) (i : Nat) (hi' : i < k) (y : Bl) (hf : fit o (nd i).F = some y) => takeon_ok z mn lw hi k nb fm tm nd fr i o y w1 ((unhide HZ).b hb) hi' h0 h6 hf)
  have HAN := hide (fun w1 (hb : Below w.heap.size w w1) (i : Nat) (hi' : i < k) => anon_ok z mn lw hi k nb fm tm nd fr i o u w.heap.size (w.heap.size + 5) (w.heap.size + 1) (w.heap.size + 4) (w.heap.size + 6) (w.heap.size + 2) (w.heap.size + 7) w1 ((unhide HZ).b hb) hi' h0 h6)
  have HFT := hide (fun w1 (hb : Below w.heap.size w w1) (i : Nat) (hi' : i < k) => fits_ok z mn lw hi k nb fm tm nd fr i o w.heap.size (w.heap.size + 5) (w.heap.size + 1) w1 ((unhide HZ).b hb) hi')
  have R1 : Hid (∀ (lo : Bool) w', (fr x).find? (fun i => tkC o mn u (nd i) == 2) = none → (fr x).any (fun i => tkC o mn u (nd i) == 1) = lo → Below w.heap.size w w' → TkR z mn lw hi k nb fm tm nd fr x o u e w (.returned (.tuple #[.agg #[.int .i64 0, .int .i64 0, .int .i64 0], errV (e (if lo then 6 else 4))])) w') := fun lo w' h1 h2 h3 => Or.inl ⟨h1, by rw [h2]; rfl, h3⟩
  have R2 : Hid (∀ (i : Nat) (a : Int) w', (fr x).find? (fun i => tkC o mn u (nd i) == 2) = some i → i < k → tkA o (nd i) = a → DZ w' z mn lw hi k nb fm tm (up nd i (tkN o (nd i))) fr → Kept (fm i) (tm i) w w' → TkR z mn lw hi k nb fm tm nd fr x o u e w (.returned (.tuple #[.agg #[.int .i64 (i : Int), .int .i64 a, .int .i64 o], .nilIface])) w') := fun i a w' h1 h2 h3 h4 h5 => Or.inr ⟨i, h1, h2, by rw [h3]; rfl, h4, h5⟩
  generalize TkR z mn lw hi k nb fm tm nd fr x o u e w = TR at *
  unfold ptr at *
  generalize hpz : pw o = pz at *
  go_enter Tryz.func27, Tryz.ntmps27
  go_upto_region 1 with (fail)
  generalize hW : tbW w z o u = W at *
  have y1 := T1.co
  go_wp2_with fail
  refine (unhide HS _).mono ?_
  rintro ev w2 ⟨rfl, rfl⟩
  have F2 := ballo F1 (.cells #[.int .i64 pz] 3)
  have T2 := T1.b (ballo (Below.refl _ _) (.cells #[.int .i64 pz] 3))
  have q4 := World.cell?_alloc_new w2 #[.int .i64 pz] 3 0
  have hs2 : (w2.alloc (.cells #[.int .i64 pz] 3)).heap.size = w.heap.size + 5 := by simp; omega
  have HX := hide ((unhide HH) _ F2)
  rw [hsW] at q4
  clear y1 HS hW T1 HH F1
  go_upto_region 2 with (fail)
  simp only [Nat.add_assoc, Nat.reduceAdd]
  generalize w2.alloc (.cells #[.int .i64 pz] 3) = W2 at *
  clear hsW
  have y0 := T2.cz
  unfold ptr at y0
  go_wp2_with fail
  refine (unhide HX).mono ?_
  rintro ev w3 ⟨rfl, rfl⟩
  go_upto_region 7 with (fail)
  simp only [Nat.add_assoc, Nat.reduceAdd]
  have F3 := ballo (ballo (ballo F2 (.cells #[.func (.func 71) #[] #[.pointer (some ⟨w.heap.size + 1, 0, none⟩)]] 144)) (.cells #[.func (.func 72) #[] #[.pointer (some ⟨w.heap.size, 0, none⟩), .pointer (some ⟨w.heap.size + 5, 0, none⟩)]] 78)) (.cells #[.func (.func 75) #[] #[.pointer (some ⟨w.heap.size, 0, none⟩), .pointer (some ⟨w.heap.size + 4, 0, none⟩)]] 78)
  have G3 := ballo (ballo (ballo (Below.refl _ w3) (.cells #[.func (.func 71) #[] #[.pointer (some ⟨w.heap.size + 1, 0, none⟩)]] 144)) (.cells #[.func (.func 72) #[] #[.pointer (some ⟨w.heap.size, 0, none⟩), .pointer (some ⟨w.heap.size + 5, 0, none⟩)]] 78)) (.cells #[.func (.func 75) #[] #[.pointer (some ⟨w.heap.size, 0, none⟩), .pointer (some ⟨w.heap.size + 4, 0, none⟩)]] 78)
  have q5 := World.cell?_alloc_new w3 #[.func (.func 71) #[] #[.pointer (some ⟨w.heap.size + 1, 0, none⟩)]] 144 0
  have n5 : (w3.alloc (.cells #[.func (.func 71) #[] #[.pointer (some ⟨w.heap.size + 1, 0, none⟩)]] 144)).heap.size = w.heap.size + 6 := by simp; omega
  have q6 := World.cell?_alloc_new (w3.alloc (.cells #[.func (.func 71) #[] #[.pointer (some ⟨w.heap.size + 1, 0, none⟩)]] 144)) #[.func (.func 72) #[] #[.pointer (some ⟨w.heap.size, 0, none⟩), .pointer (some ⟨w.heap.size + 5, 0, none⟩)]] 78 0
  have n6 : ((w3.alloc (.cells #[.func (.func 71) #[] #[.pointer (some ⟨w.heap.size + 1, 0, none⟩)]] 144)).alloc (.cells #[.func (.func 72) #[] #[.pointer (some ⟨w.heap.size, 0, none⟩), .pointer (some ⟨w.heap.size + 5, 0, none⟩)]] 78)).heap.size = w.heap.size + 7 := by simp; omega
  have q7 := World.cell?_alloc_new ((w3.alloc (.cells #[.func (.func 71) #[] #[.pointer (some ⟨w.heap.size + 1, 0, none⟩)]] 144)).alloc (.cells #[.func (.func 72) #[] #[.pointer (some ⟨w.heap.size, 0, none⟩), .pointer (some ⟨w.heap.size + 5, 0, none⟩)]] 78)) #[.func (.func 75) #[] #[.pointer (some ⟨w.heap.size, 0, none⟩), .pointer (some ⟨w.heap.size + 4, 0, none⟩)]] 78 0
  rw [hs2] at q5
  rw [n5] at q6
  rw [n6] at q7
  have c5 := ((ballo (ballo (Below.refl _ _) (.cells #[.func (.func 72) #[] #[.pointer (some ⟨w.heap.size, 0, none⟩), .pointer (some ⟨w.heap.size + 5, 0, none⟩)]] 78)) (.cells #[.func (.func 75) #[] #[.pointer (some ⟨w.heap.size, 0, none⟩), .pointer (some ⟨w.heap.size + 4, 0, none⟩)]] 78)).cell (p := ⟨w.heap.size + 5, 0, none⟩) (by rw [n5]; simp)).trans q5
  have c6 := ((ballo (Below.refl _ _) (.cells #[.func (.func 75) #[] #[.pointer (some ⟨w.heap.size, 0, none⟩), .pointer (some ⟨w.heap.size + 4, 0, none⟩)]] 78)).cell (p := ⟨w.heap.size + 6, 0, none⟩) (by rw [n6]; simp)).trans q6
  have c4 := (G3.cell (p := ⟨w.heap.size + 4, 0, none⟩) (by rw [hs2]; simp)).trans q4
  have T3 := T2.b G3
  clear q5 q6 n5 n6 G3 T2 F2 q4 HX y0
  generalize ((w3.alloc (.cells #[.func (.func 71) #[] #[.pointer (some ⟨w.heap.size + 1, 0, none⟩)]] 144)).alloc (.cells #[.func (.func 72) #[] #[.pointer (some ⟨w.heap.size, 0, none⟩), .pointer (some ⟨w.heap.size + 5, 0, none⟩)]] 78)).alloc (.cells #[.func (.func 75) #[] #[.pointer (some ⟨w.heap.size, 0, none⟩), .pointer (some ⟨w.heap.size + 4, 0, none⟩)]] 78) = W3 at *
  clear hs2
  simp only [List.getElem?_toArray, List.getElem?_cons_zero] at c4 c5 c6 q7
  obtain ⟨g, c, h', d, e1, e2, hh', e3⟩ := ((unhide HZ).b F3).from hx
  have hzl := ((unhide HZ).b F3).lt
  have y0 := T3.cz
  have y1 := T3.co
  have y2 := T3.cu
  unfold ptr at y0
  have hT3l := T3.lt
  have hxk : (x : Int) < k := by omega
  have hx0 : (0 : Int) ≤ x := by omega
  have l4 := World.block_lt_of_cell? W3 _ c4
  have l5 := World.block_lt_of_cell? W3 _ c5
  have l6 := World.block_lt_of_cell? W3 _ c6
  have l7 := World.block_lt_of_cell? W3 _ q7
  simp only at l4 l5 l6 l7
  have HIDX := hide (idx_ints (some ⟨h', 0, none⟩) k d (fun j => (((fr x).getD j 0 : Nat) : Int)) 77 #[.pointer (some ⟨w.heap.size + 6, 0, none⟩), .pointer (some ⟨w.heap.size + 2, 0, none⟩), .pointer (some ⟨w.heap.size + 7, 0, none⟩)] (fun j => okB o mn u (nd ((fr x).getD j 0))) eg65 W3 (fun j hj => ⟨h', 0, rfl, hh', by rw [Nat.zero_add]; exact e3 j hj⟩) (by omega)
    (fun i hi' W' hW' => ((unhide HAN) W' (btr F3 hW') ((fr x).getD i 0) (hLk i hi') ((hW'.cell (p := ⟨w.heap.size, 0, none⟩) (by simp only; omega)).trans T3.cz) ((hW'.cell (p := ⟨w.heap.size + 4, 0, none⟩) l4).trans c4) ((hW'.cell (p := ⟨w.heap.size + 5, 0, none⟩) l5).trans c5) ((hW'.cell (p := ⟨w.heap.size + 1, 0, none⟩) (by simp only; omega)).trans T3.co) ((hW'.cell (p := ⟨w.heap.size + 6, 0, none⟩) l6).trans c6) ((hW'.cell (p := ⟨w.heap.size + 2, 0, none⟩) (by simp only; omega)).trans T3.cu) ((hW'.cell (p := ⟨w.heap.size + 7, 0, none⟩) l7).trans q7)).mono fun ev w' hh => ⟨hh.1, btr hW' hh.2⟩))
  clear HAN
  have E3 := hide e3
  clear e3
  go_wp2_with fail
  refine (unhide HIDX).mono ?_
  rintro ev w4 ⟨r, rfl, hr, b4⟩
  have hr2 := (unhide HFST) r hr
  have F4 := btr F3 b4
  have T4 := T3.b b4
  clear hr HIDX HFST
  rcases hr2 with ⟨rfl, hn⟩ | ⟨j, hj, rfl, hfd, hq⟩
  · have hAN := (unhide HANY) hn
    have c64 := (b4.cell (p := ⟨w.heap.size + 6, 0, none⟩) l6).trans c6
    have HH := hide (has_ints (some ⟨h', 0, none⟩) k d (fun j => (((fr x).getD j 0 : Nat) : Int)) 72 #[.pointer (some ⟨w.heap.size, 0, none⟩), .pointer (some ⟨w.heap.size + 5, 0, none⟩)] (fun j => fitB o (nd ((fr x).getD j 0))) eg60 w4 (fun j hj => ⟨h', 0, rfl, Nat.lt_of_lt_of_le hh' b4.size, by rw [Nat.zero_add]; exact (b4.cell (p := ⟨h', j, none⟩) hh').trans ((unhide E3) j hj)⟩) (by omega)
      (fun i hi' W' hW' => ((unhide HFT) W' (btr F4 hW') ((fr x).getD i 0) (hLk i hi') (((btr b4 hW').cell (p := ⟨w.heap.size, 0, none⟩) (by simp only; omega)).trans T3.cz) (((btr b4 hW').cell (p := ⟨w.heap.size + 5, 0, none⟩) l5).trans c5) (((btr b4 hW').cell (p := ⟨w.heap.size + 1, 0, none⟩) (by simp only; omega)).trans T3.co)).mono fun ev w' hh => ⟨hh.1, btr hW' hh.2⟩))
    rw [hAN] at HH
    have R3 := hide (fun w' h3 => (unhide R1) ((fr x).any (fun i => tkC o mn u (nd i) == 1)) w' hn rfl h3)
    generalize (fr x).any (fun i => tkC o mn u (nd i) == 1) = lo at *
    clear R1 R2 hAN HANY HFT HF66 hn e1 e2 y0 y1 y2 c4 c5 c6 q7
    go_wp2_with fail
    refine (unhide HH).mono ?_
    rintro ev w5 ⟨rfl, b5⟩
    have F5 := btr F4 b5
    have P5 := (T4.b b5).pb
    have E5 := (unhide HE).below F5
    have E54 := E5.v4
    have E56 := E5.v6
    clear E5 HH
    cases lo with
    | true =>
      go_upto_region 12 with (fail)
      have p0 := P5.c0
      have p1 := P5.c1
      have p2 := P5.c2
      have f0 := P5.f 0
      have f1 := P5.f 1
      have f2 := P5.f 2
      obtain ⟨t0, t1, t2⟩ := pb_three P5 0 0 0
      have hq := set3_far (b := w.heap.size + 3) E56 (by simp only; omega) (.int .i64 0) (.int .i64 0) (.int .i64 0)
      go_region
      all_goals
        go_wp2
        refine bodyPost_ret (v := .tuple #[.agg #[.int .i64 0, .int .i64 0, .int .i64 0], errV (e 6)]) (by simp [results, Tryz.results27, go_sem, t0, t1, t2, errV]; try rfl) rfl ((unhide R3) _ (by first | exact (below_set3 F5 (by omega) _ _ _).drew | exact below_set3 F5.drew (by omega) _ _ _))
    | false =>
      go_upto_region 13 with (fail)
      have p0 := P5.c0
      have p1 := P5.c1
      have p2 := P5.c2
      have f0 := P5.f 0
      have f1 := P5.f 1
      have f2 := P5.f 2
      obtain ⟨t0, t1, t2⟩ := pb_three P5 0 0 0
      have hq := set3_far (b := w.heap.size + 3) E54 (by simp only; omega) (.int .i64 0) (.int .i64 0) (.int .i64 0)
      go_region
      all_goals
        go_wp2
        refine bodyPost_ret (v := .tuple #[.agg #[.int .i64 0, .int .i64 0, .int .i64 0], errV (e 4)]) (by simp [results, Tryz.results27, go_sem, t0, t1, t2, errV]; try rfl) rfl ((unhide R3) _ (by first | exact (below_set3 F5 (by omega) _ _ _).drew | exact below_set3 F5.drew (by omega) _ _ _))
  · have hnk := hLk j hj
    have ej := (b4.cell (p := ⟨h', j, none⟩) hh').trans ((unhide E3) j hj)
    clear hLk E3 HANY HFT e1 e2 c4 c5 c6 q7 y0 y1 y2
    generalize (fr x).getD j 0 = n at *
    have hq2 : tkC o mn u (nd n) = 2 := by simpa using hq
    obtain ⟨y, hf⟩ : ∃ y, fit o (nd n).F = some y := by
      cases hf : fit o (nd n).F with
      | none => simp [tkC, hf] at hq2
      | some y => exact ⟨y, rfl⟩
    have htA : tkA o (nd n) = y.1 := by simp [tkA, hf]
    have F4d : Below w.heap.size w w4.drew := F4.drew
    have D4 := (unhide HZ).b F4d
    have hF := (D4.bd n hnk).f
    have hT := (D4.bd n hnk).t
    have P4 : PB w4.drew (w.heap.size + 3) := T4.pb.b (drw w4)
    have HT := hide ((unhide HF66) w4.drew F4d n hnk y hf)
    have y0 := T4.cz
    have y1 := T4.co
    unfold ptr at y0
    have hjk : (j : Int) < k := by omega
    have hj0 : (0 : Int) ≤ j := by omega
    have tk : True := trivial
    clear D4 HF66 hq hq2 hf T3 T4 HZ
    unfold plV at *
    have R3 := hide (fun w' h4 h5 => (unhide R2) n y.1 w' hfd hnk htA h4 h5)
    clear R1 R2 hfd htA
    go_upto_region 10 with (fail)
    first
    | (go_region_law (first
      | (have _t := tk; go_simp; go_at_call 78; refine (unhide HT).mono ?_; rintro ev w5 ⟨rfl, D5, k5⟩; have P5 := pb_turn P4 hF hT k5; have p0 := P5.c0; have p1 := P5.c1; have p2 := P5.c2; have f0 := P5.f 0; have f1 := P5.f 1; have f2 := P5.f 2; clear tk)))
    | skip
    all_goals
      have K5 := (kept_of (A := fm n) (B := tm n) F4d).trans k5
      have ks := ((kept_set (g := w.heap.size + 3) w5 0 (.int .i64 (n : Int))).trans (kept_set _ 1 (.int .i64 y.1))).trans (kept_set _ 2 (.int .i64 o))
      have DF := hide (D5.keep ks P5.tg (by decide) (by decide) (by decide) (by decide) (by decide))
      have KF := kept_set3 K5 (c := w.heap.size + 3) (by omega) (.int .i64 (n : Int)) (.int .i64 y.1) (.int .i64 o)
      obtain ⟨t0, t1, t2⟩ := pb_three P5 n y.1 o
      clear D5 K5 ks
      go_wp2
      refine bodyPost_ret (v := .tuple #[.agg #[.int .i64 (n : Int), .int .i64 y.1, .int .i64 o], .nilIface]) (by simp [results, Tryz.results27, go_sem, t0, t1, t2]; try rfl) rfl ((unhide R3) _ (unhide DF) KF)
end Dz
end Go.Proofs.YtfefehkapffljaaGreatDoor
