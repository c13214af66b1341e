/- Where fewer variables are listed: the six errors and the table of package bits that a depot's ways read; the contracts that read them. -/
import Derived.Test.YtcbmfakjfoggaaaGreatDoorG22
namespace Go.Proofs.YtcbmfakjfoggaaaGreatDoor
open Go.RowKit Go.Maps
/-- What the listed variables give where errors of six kinds are listed. -/
structure ErrsM (w : World) (e : Nat → Addr) : Prop where
  v1 : w.cell? ⟨1, 0, none⟩ = some (.iface 424 (.pointer (some (e 1))))
  v2 : w.cell? ⟨0, 0, none⟩ = some (.iface 424 (.pointer (some (e 2))))
  v3 : w.cell? ⟨3, 0, none⟩ = some (.iface 424 (.pointer (some (e 3))))
  v4 : w.cell? ⟨6, 0, none⟩ = some (.iface 424 (.pointer (some (e 4))))
  v6 : w.cell? ⟨8, 0, none⟩ = some (.iface 424 (.pointer (some (e 6))))
  v8 : w.cell? ⟨2, 0, none⟩ = some (.iface 424 (.pointer (some (e 8))))
  tab : ∀ j, j < 64 → w.cell? ⟨11, j, none⟩ = some (.int .u8 ((Lib.deBruijn64tab.getD j 0 : Nat) : Int))
theorem Errs.toM {w : World} {e : Nat → Addr} (h : Errs w e) : ErrsM w e := ⟨h.v1, h.v2, h.v3, h.v4, h.v6, h.v8, h.tab⟩
theorem ErrsM.three {w : World} {e : Nat → Addr} (h : ErrsM w e) : Errs3 w e := ⟨h.v1, h.v2, h.v3⟩
theorem ErrsM.below {w w' : World} {e : Nat → Addr} (h : ErrsM w e) (hb : Below w.heap.size w w') : ErrsM w' e :=
  ⟨keep h.v1 hb, keep h.v2 hb, keep h.v3 hb, keep h.v4 hb, keep h.v6 hb, keep h.v8 hb, fun j hj => keep (h.tab j hj) hb⟩
namespace Mg
open Fr Bd Zn Dz Sb
theorem errsM_chg {ts : List (Option TypeId)} {N : Nat} {w w0 w' : World} {e : Nat → Addr} (he : ErrsM w0 e) (hb : Below w0.heap.size w0 w) (hc : Chg ts N w w') (hN : w0.heap.size ≤ N) : ErrsM w' e := he.below (hb.trans ((hc.mono (fun _ h => h) hN).toBelow hb.size))
theorem ctzM_ok (x : Nat) (hx : x < 18446744073709551616) (w : World) (e : Nat → Addr) (he : ErrsM w e) :
    Calls Tryz.prog 173 #[.int .u64 x] w fun e w' => e = .returned (.int .i64 (Lib.ctz 64 x)) ∧ w' = w := by
  by_cases hx0 : x = 0
  · subst hx0
    exact ctz_zero w
  · obtain ⟨hlow, hk⟩ := Lib.lowest_bit 64 x hx0 hx
    obtain ⟨hi, htab⟩ := Lib.deBruijn64_at _ hk
    have hcell := he.tab _ hi
    rw [htab] at hcell
    exact ctz_core x _ _ w (by simp; omega) (tz64_key x _ hx hx0 hlow) hi hk hcell
set_option maxHeartbeats 4000000 in
theorem ztakeM_order (z : Nat) (x o : Int) (u : Bool) (w : World) (e : Nat → Addr) (he : ErrsM w e) (ho : o < 0 ∨ 6 < o) :
    Calls Tryz.prog 171 #[ptr z, .int .i64 x, .int .i64 o, .bool u] w fun ev w' => ev = .returned (.tuple #[plV 0 0 0, errV (e 1)]) ∧ Below w.heap.size w w' := by
  obtain ⟨T1, F1⟩ := tb_new w z o u
  have HS := hide (size_err o _ e (he.below F1).three ho)
  have HE := hide he
  have hw0 := World.block_lt_of_cell? w _ he.v1
  simp only at hw0
  clear he ho
  unfold ptr at *
  unfold plV
  go_enter Tryz.func171, Tryz.ntmps171
  go_upto_region 1 with (fail)
  generalize hW : tbW w z o u = W at *
  have y1 := T1.co
  go_wp2_with fail
  refine (unhide HS).mono ?_
  rintro ev w2 ⟨rfl, b2⟩
  have F2 := ballo (btr F1 b2) (.cells #[.int .i64 0] 3)
  have P2 := (T1.b b2).pb.b (ballo (Below.refl _ _) (.cells #[.int .i64 0] 3))
  have E2 := ((unhide HE).below F2).v1
  clear y1 HS hW T1 HE
  go_upto_region 3 with (fail)
  generalize w2.alloc (.cells #[.int .i64 0] 3) = W2 at *
  have p0 := P2.c0
  have p1 := P2.c1
  have p2 := P2.c2
  have f0 := P2.f 0
  have f1 := P2.f 1
  have f2 := P2.f 2
  obtain ⟨t0, t1, t2⟩ := pb_three P2 0 0 0
  have hq := set3_far (b := w.heap.size + 3) E2 (by simp only; omega) (.int .i64 0) (.int .i64 0) (.int .i64 0)
  go_region
  all_goals
    go_wp2
    refine bodyPost_ret (v := .tuple #[.agg #[.int .i64 0, .int .i64 0, .int .i64 0], errV (e 1)]) (by simp [results, Tryz.results171, go_sem, t0, t1, t2, errV]; try rfl) rfl ⟨rfl, by first | exact (below_set3 F2 (by omega) _ _ _).drew | exact below_set3 F2.drew (by omega) _ _ _⟩
set_option maxHeartbeats 4000000 in
theorem ztakeM_node (z : Nat) (mn lw hi : Int) (k : Nat) (nb fm tm : Nat → Nat) (nd : Nat → Nd) (fr : Nat → List Nat) (x o : Int) (u : Bool) (w : World) (e : Nat → Addr) (he : ErrsM w e) (h : DZ w z mn lw hi k nb fm tm nd fr) (h0 : 0 ≤ o) (h6 : o ≤ 6) (hx : ¬ (0 ≤ x ∧ x < k)) :
    Calls Tryz.prog 171 #[ptr z, .int .i64 x, .int .i64 o, .bool u] w fun ev w' => ev = .returned (.tuple #[plV 0 0 0, errV (e 1)]) ∧ Below w.heap.size w w' := by
  obtain ⟨T1, F1⟩ := tb_new w z o u
  have HS := hide (fun w1 => size_ok o w1 h0 h6)
  have HH := hide (fun w1 (hb : Below w.heap.size w w1) => show Calls Tryz.prog 221 #[ptr z, .int .i64 x] w1 fun ev w' => ev = .returned (.bool false) ∧ w' = w1 by
    have := has_ok z mn lw hi k nb fm tm nd fr x w1 (h.b hb)
    rwa [show decide (0 ≤ x ∧ x < k) = false by simpa using hx] at this)
  have HE := hide he
  have hw0 := World.block_lt_of_cell? w _ he.v1
  simp only at hw0
  clear he h hx h0 h6
  unfold ptr at *
  unfold plV
  generalize pw o = pz at *
  go_enter Tryz.func171, Tryz.ntmps171
  go_upto_region 1 with (fail)
  generalize hW : tbW w z o u = W at *
  have y1 := T1.co
  go_wp2_with fail
  refine (unhide HS _).mono ?_
  rintro ev w2 ⟨rfl, rfl⟩
  have F2 := ballo F1 (.cells #[.int .i64 pz] 3)
  have T2 := T1.b (ballo (Below.refl _ _) (.cells #[.int .i64 pz] 3))
  have E2 := ((unhide HE).below F2).v1
  have HX := hide ((unhide HH) _ F2)
  clear y1 HS hW T1 HE HH F1
  go_upto_region 2 with (fail)
  generalize w2.alloc (.cells #[.int .i64 pz] 3) = W2 at *
  have y0 := T2.cz
  unfold ptr at y0
  go_wp2_with fail
  refine (unhide HX).mono ?_
  rintro ev w3 ⟨rfl, rfl⟩
  have P2 := T2.pb
  go_upto_region 3 with (fail)
  have p0 := P2.c0
  have p1 := P2.c1
  have p2 := P2.c2
  have f0 := P2.f 0
  have f1 := P2.f 1
  have f2 := P2.f 2
  obtain ⟨t0, t1, t2⟩ := pb_three P2 0 0 0
  have hq := set3_far (b := w.heap.size + 3) E2 (by simp only; omega) (.int .i64 0) (.int .i64 0) (.int .i64 0)
  go_region
  all_goals
    go_wp2
    refine bodyPost_ret (v := .tuple #[.agg #[.int .i64 0, .int .i64 0, .int .i64 0], errV (e 1)]) (by simp [results, Tryz.results171, go_sem, t0, t1, t2, errV]; try rfl) rfl ⟨rfl, by first | exact (below_set3 F2 (by omega) _ _ _).drew | exact below_set3 F2.drew (by omega) _ _ _⟩
set_option maxRecDepth 100000 in
set_option maxHeartbeats 16000000 in
theorem ztakeM_ok (z : Nat) (mn lw hi : Int) (k : Nat) (nb fm tm : Nat → Nat) (nd : Nat → Nd) (fr : Nat → List Nat) (x : Nat) (o : Int) (u : Bool) (w : World) (e : Nat → Addr) (he : ErrsM w e) (h : DZ w z mn lw hi k nb fm tm nd fr) (hx : x < k) (h0 : 0 ≤ o) (h6 : o ≤ 6) (hk4 : k ≤ 20) :
    Calls Tryz.prog 171 #[ptr z, .int .i64 x, .int .i64 o, .bool u] w fun ev w' => TkR z mn lw hi k nb fm tm nd fr x o u e w ev w' := by
  obtain ⟨T1, F1⟩ := tb_new w z o u
  have hsW : (tbW w z o u).heap.size = w.heap.size + 4 := by unfold tbW; simp
  have HS := hide (fun w1 => size_ok o w1 h0 h6)
  have HH := hide (fun w1 (hb : Below w.heap.size w w1) => show Calls Tryz.prog 221 #[ptr z, .int .i64 x] w1 fun ev w' => ev = .returned (.bool true) ∧ w' = w1 by
    have := has_ok z mn lw hi k nb fm tm nd fr x w1 (h.b hb)
    rwa [show decide ((0 : Int) ≤ (x : Int) ∧ (x : Int) < k) = true by simp; omega] at this)
  have hlen := (h.fl x hx).1
  have hmem := (h.fl x hx).2
  have hLk : ∀ j, j < k → (fr x).getD j 0 < k := fun j hj => hmem _ (by rw [List.getD_eq_getElem?_getD, List.getElem?_eq_getElem (by omega), Option.getD_some]; exact List.getElem_mem _)
  have hok := h.ok
  have HFST := hide (fun r (hr : Fst (fun j => okB o mn u (nd ((fr x).getD j 0))) k r) => fst_find (q := fun i => tkC o mn u (nd i) == 2) hlen (fun i hi' => (okB_tk h0 (hok i (hmem i hi'))).1) hr)
  have HANY := hide (fun (hn : (fr x).find? (fun i => tkC o mn u (nd i) == 2) = none) => show ((List.range k).any fun j => fitB o (nd ((fr x).getD j 0))) = (fr x).any (fun i => tkC o mn u (nd i) == 1) by
    rw [any_list (fr x) k hlen (fun i => fitB o (nd i))]
    rw [List.find?_eq_none] at hn
    rw [Bool.eq_iff_iff]
    simp only [List.any_eq_true]
    constructor
    · rintro ⟨i, hi', h'⟩
      exact ⟨i, hi', by rw [← (okB_tk h0 (hok i (hmem i hi'))).2 (by simpa using hn i hi')]; exact h'⟩
    · rintro ⟨i, hi', h'⟩
      exact ⟨i, hi', by rw [(okB_tk h0 (hok i (hmem i hi'))).2 (by simpa using hn i hi')]; exact h'⟩)
  have HE := hide he
  have HZ := hide h
  have hw0 := World.block_lt_of_cell? w _ he.v4
  have hw4 := World.block_lt_of_cell? w _ he.v6
  simp only at hw0 hw4
  clear he h hok
  have HF66 := hide (fun w1 (hb : Below w.heap.size w w1) (i : Nat) (hi' : i < k) (y : Bl) (hf : fit o (nd i).F = some y) => takeon_ok z mn lw hi k nb fm tm nd fr i o y w1 ((unhide HZ).b hb) hi' h0 h6 hf)
  have HAN := hide (fun w1 (hb : Below w.heap.size w w1) (i : Nat) (hi' : i < k) => anon_ok z mn lw hi k nb fm tm nd fr i o u w.heap.size (w.heap.size + 5) (w.heap.size + 1) (w.heap.size + 4) (w.heap.size + 6) (w.heap.size + 2) (w.heap.size + 7) w1 ((unhide HZ).b hb) hi' h0 h6)
  have HFT := hide (fun w1 (hb : Below w.heap.size w w1) (i : Nat) (hi' : i < k) => fits_ok z mn lw hi k nb fm tm nd fr i o w.heap.size (w.heap.size + 5) (w.heap.size + 1) w1 ((unhide HZ).b hb) hi')
  have R1 : Hid (∀ (lo : Bool) w', (fr x).find? (fun i => tkC o mn u (nd i) == 2) = none → (fr x).any (fun i => tkC o mn u (nd i) == 1) = lo → Below w.heap.size w w' → TkR z mn lw hi k nb fm tm nd fr x o u e w (.returned (.tuple #[.agg #[.int .i64 0, .int .i64 0, .int .i64 0], errV (e (if lo then 6 else 4))])) w') := fun lo w' h1 h2 h3 => Or.inl ⟨h1, by rw [h2]; rfl, h3⟩
  have R2 : Hid (∀ (i : Nat) (a : Int) w', (fr x).find? (fun i => tkC o mn u (nd i) == 2) = some i → i < k → tkA o (nd i) = a → DZ w' z mn lw hi k nb fm tm (up nd i (tkN o (nd i))) fr → Kept (fm i) (tm i) w w' → TkR z mn lw hi k nb fm tm nd fr x o u e w (.returned (.tuple #[.agg #[.int .i64 (i : Int), .int .i64 a, .int .i64 o], .nilIface])) w') := fun i a w' h1 h2 h3 h4 h5 => Or.inr ⟨i, h1, h2, by rw [h3]; rfl, h4, h5⟩
  generalize TkR z mn lw hi k nb fm tm nd fr x o u e w = TR at *
  unfold ptr at *
  generalize hpz : pw o = pz at *
  go_enter Tryz.func171, Tryz.ntmps171
  go_upto_region 1 with (fail)
  generalize hW : tbW w z o u = W at *
  have y1 := T1.co
  go_wp2_with fail
  refine (unhide HS _).mono ?_
  rintro ev w2 ⟨rfl, rfl⟩
  have F2 := ballo F1 (.cells #[.int .i64 pz] 3)
  have T2 := T1.b (ballo (Below.refl _ _) (.cells #[.int .i64 pz] 3))
  have q4 := World.cell?_alloc_new w2 #[.int .i64 pz] 3 0
  have hs2 : (w2.alloc (.cells #[.int .i64 pz] 3)).heap.size = w.heap.size + 5 := by simp; omega
  have HX := hide ((unhide HH) _ F2)
  rw [hsW] at q4
  clear y1 HS hW T1 HH F1
  go_upto_region 2 with (fail)
  simp only [Nat.add_assoc, Nat.reduceAdd]
  generalize w2.alloc (.cells #[.int .i64 pz] 3) = W2 at *
  clear hsW
  have y0 := T2.cz
  unfold ptr at y0
  go_wp2_with fail
  refine (unhide HX).mono ?_
  rintro ev w3 ⟨rfl, rfl⟩
  go_upto_region 7 with (fail)
  simp only [Nat.add_assoc, Nat.reduceAdd]
  have F3 := ballo (ballo (ballo F2 (.cells #[.func (.func 222) #[] #[.pointer (some ⟨w.heap.size + 1, 0, none⟩)]] 357)) (.cells #[.func (.func 223) #[] #[.pointer (some ⟨w.heap.size, 0, none⟩), .pointer (some ⟨w.heap.size + 5, 0, none⟩)]] 146)) (.cells #[.func (.func 226) #[] #[.pointer (some ⟨w.heap.size, 0, none⟩), .pointer (some ⟨w.heap.size + 4, 0, none⟩)]] 146)
  have G3 := ballo (ballo (ballo (Below.refl _ w3) (.cells #[.func (.func 222) #[] #[.pointer (some ⟨w.heap.size + 1, 0, none⟩)]] 357)) (.cells #[.func (.func 223) #[] #[.pointer (some ⟨w.heap.size, 0, none⟩), .pointer (some ⟨w.heap.size + 5, 0, none⟩)]] 146)) (.cells #[.func (.func 226) #[] #[.pointer (some ⟨w.heap.size, 0, none⟩), .pointer (some ⟨w.heap.size + 4, 0, none⟩)]] 146)
  have q5 := World.cell?_alloc_new w3 #[.func (.func 222) #[] #[.pointer (some ⟨w.heap.size + 1, 0, none⟩)]] 357 0
  have n5 : (w3.alloc (.cells #[.func (.func 222) #[] #[.pointer (some ⟨w.heap.size + 1, 0, none⟩)]] 357)).heap.size = w.heap.size + 6 := by simp; omega
  have q6 := World.cell?_alloc_new (w3.alloc (.cells #[.func (.func 222) #[] #[.pointer (some ⟨w.heap.size + 1, 0, none⟩)]] 357)) #[.func (.func 223) #[] #[.pointer (some ⟨w.heap.size, 0, none⟩), .pointer (some ⟨w.heap.size + 5, 0, none⟩)]] 146 0
  have n6 : ((w3.alloc (.cells #[.func (.func 222) #[] #[.pointer (some ⟨w.heap.size + 1, 0, none⟩)]] 357)).alloc (.cells #[.func (.func 223) #[] #[.pointer (some ⟨w.heap.size, 0, none⟩), .pointer (some ⟨w.heap.size + 5, 0, none⟩)]] 146)).heap.size = w.heap.size + 7 := by simp; omega
  have q7 := World.cell?_alloc_new ((w3.alloc (.cells #[.func (.func 222) #[] #[.pointer (some ⟨w.heap.size + 1, 0, none⟩)]] 357)).alloc (.cells #[.func (.func 223) #[] #[.pointer (some ⟨w.heap.size, 0, none⟩), .pointer (some ⟨w.heap.size + 5, 0, none⟩)]] 146)) #[.func (.func 226) #[] #[.pointer (some ⟨w.heap.size, 0, none⟩), .pointer (some ⟨w.heap.size + 4, 0, none⟩)]] 146 0
  rw [hs2] at q5
  rw [n5] at q6
  rw [n6] at q7
  have c5 := ((ballo (ballo (Below.refl _ _) (.cells #[.func (.func 223) #[] #[.pointer (some ⟨w.heap.size, 0, none⟩), .pointer (some ⟨w.heap.size + 5, 0, none⟩)]] 146)) (.cells #[.func (.func 226) #[] #[.pointer (some ⟨w.heap.size, 0, none⟩), .pointer (some ⟨w.heap.size + 4, 0, none⟩)]] 146)).cell (p := ⟨w.heap.size + 5, 0, none⟩) (by rw [n5]; simp)).trans q5
  have c6 := ((ballo (Below.refl _ _) (.cells #[.func (.func 226) #[] #[.pointer (some ⟨w.heap.size, 0, none⟩), .pointer (some ⟨w.heap.size + 4, 0, none⟩)]] 146)).cell (p := ⟨w.heap.size + 6, 0, none⟩) (by rw [n6]; simp)).trans q6
  have c4 := (G3.cell (p := ⟨w.heap.size + 4, 0, none⟩) (by rw [hs2]; simp)).trans q4
  have T3 := T2.b G3
  clear q5 q6 n5 n6 G3 T2 F2 q4 HX y0
  generalize ((w3.alloc (.cells #[.func (.func 222) #[] #[.pointer (some ⟨w.heap.size + 1, 0, none⟩)]] 357)).alloc (.cells #[.func (.func 223) #[] #[.pointer (some ⟨w.heap.size, 0, none⟩), .pointer (some ⟨w.heap.size + 5, 0, none⟩)]] 146)).alloc (.cells #[.func (.func 226) #[] #[.pointer (some ⟨w.heap.size, 0, none⟩), .pointer (some ⟨w.heap.size + 4, 0, none⟩)]] 146) = W3 at *
  clear hs2
  simp only [List.getElem?_toArray, List.getElem?_cons_zero] at c4 c5 c6 q7
  obtain ⟨g, c, h', d, e1, e2, hh', e3⟩ := ((unhide HZ).b F3).from hx
  have hzl := ((unhide HZ).b F3).lt
  have y0 := T3.cz
  have y1 := T3.co
  have y2 := T3.cu
  unfold ptr at y0
  have hT3l := T3.lt
  have hxk : (x : Int) < k := by omega
  have hx0 : (0 : Int) ≤ x := by omega
  have l4 := World.block_lt_of_cell? W3 _ c4
  have l5 := World.block_lt_of_cell? W3 _ c5
  have l6 := World.block_lt_of_cell? W3 _ c6
  have l7 := World.block_lt_of_cell? W3 _ q7
  simp only at l4 l5 l6 l7
  have HIDX := hide (idx_ints (some ⟨h', 0, none⟩) k d (fun j => (((fr x).getD j 0 : Nat) : Int)) 228 #[.pointer (some ⟨w.heap.size + 6, 0, none⟩), .pointer (some ⟨w.heap.size + 2, 0, none⟩), .pointer (some ⟨w.heap.size + 7, 0, none⟩)] (fun j => okB o mn u (nd ((fr x).getD j 0))) eg65 W3 (fun j hj => ⟨h', 0, rfl, hh', by rw [Nat.zero_add]; exact e3 j hj⟩) (by omega)
    (fun i hi' W' hW' => ((unhide HAN) W' (btr F3 hW') ((fr x).getD i 0) (hLk i hi') ((hW'.cell (p := ⟨w.heap.size, 0, none⟩) (by simp only; omega)).trans T3.cz) ((hW'.cell (p := ⟨w.heap.size + 4, 0, none⟩) l4).trans c4) ((hW'.cell (p := ⟨w.heap.size + 5, 0, none⟩) l5).trans c5) ((hW'.cell (p := ⟨w.heap.size + 1, 0, none⟩) (by simp only; omega)).trans T3.co) ((hW'.cell (p := ⟨w.heap.size + 6, 0, none⟩) l6).trans c6) ((hW'.cell (p := ⟨w.heap.size + 2, 0, none⟩) (by simp only; omega)).trans T3.cu) ((hW'.cell (p := ⟨w.heap.size + 7, 0, none⟩) l7).trans q7)).mono fun ev w' hh => ⟨hh.1, btr hW' hh.2⟩))
  clear HAN
  have E3 := hide e3
  clear e3
  go_wp2_with fail
  refine (unhide HIDX).mono ?_
  rintro ev w4 ⟨r, rfl, hr, b4⟩
  have hr2 := (unhide HFST) r hr
  have F4 := btr F3 b4
  have T4 := T3.b b4
  clear hr HIDX HFST
  rcases hr2 with ⟨rfl, hn⟩ | ⟨j, hj, rfl, hfd, hq⟩
  · have hAN := (unhide HANY) hn
    have c64 := (b4.cell (p := ⟨w.heap.size + 6, 0, none⟩) l6).trans c6
    have HH := hide (has_ints (some ⟨h', 0, none⟩) k d (fun j => (((fr x).getD j 0 : Nat) : Int)) 223 #[.pointer (some ⟨w.heap.size, 0, none⟩), .pointer (some ⟨w.heap.size + 5, 0, none⟩)] (fun j => fitB o (nd ((fr x).getD j 0))) eg60 w4 (fun j hj => ⟨h', 0, rfl, Nat.lt_of_lt_of_le hh' b4.size, by rw [Nat.zero_add]; exact (b4.cell (p := ⟨h', j, none⟩) hh').trans ((unhide E3) j hj)⟩) (by omega)
      (fun i hi' W' hW' => ((unhide HFT) W' (btr F4 hW') ((fr x).getD i 0) (hLk i hi') (((btr b4 hW').cell (p := ⟨w.heap.size, 0, none⟩) (by simp only; omega)).trans T3.cz) (((btr b4 hW').cell (p := ⟨w.heap.size + 5, 0, none⟩) l5).trans c5) (((btr b4 hW').cell (p := ⟨w.heap.size + 1, 0, none⟩) (by simp only; omega)).trans T3.co)).mono fun ev w' hh => ⟨hh.1, btr hW' hh.2⟩))
    rw [hAN] at HH
    have R3 := hide (fun w' h3 => (unhide R1) ((fr x).any (fun i => tkC o mn u (nd i) == 1)) w' hn rfl h3)
    generalize (fr x).any (fun i => tkC o mn u (nd i) == 1) = lo at *
    clear R1 R2 hAN HANY HFT HF66 hn e1 e2 y0 y1 y2 c4 c5 c6 q7
    go_wp2_with fail
    refine (unhide HH).mono ?_
    rintro ev w5 ⟨rfl, b5⟩
    have F5 := btr F4 b5
    have P5 := (T4.b b5).pb
    have E5 := (unhide HE).below F5
    have E54 := E5.v4
    have E56 := E5.v6
    clear E5 HH
    cases lo with
    | true =>
      go_upto_region 12 with (fail)
      have p0 := P5.c0
      have p1 := P5.c1
      have p2 := P5.c2
      have f0 := P5.f 0
      have f1 := P5.f 1
      have f2 := P5.f 2
      obtain ⟨t0, t1, t2⟩ := pb_three P5 0 0 0
      have hq := set3_far (b := w.heap.size + 3) E56 (by simp only; omega) (.int .i64 0) (.int .i64 0) (.int .i64 0)
      go_region
      all_goals
        go_wp2
        refine bodyPost_ret (v := .tuple #[.agg #[.int .i64 0, .int .i64 0, .int .i64 0], errV (e 6)]) (by simp [results, Tryz.results171, go_sem, t0, t1, t2, errV]; try rfl) rfl ((unhide R3) _ (by first | exact (below_set3 F5 (by omega) _ _ _).drew | exact below_set3 F5.drew (by omega) _ _ _))
    | false =>
      go_upto_region 13 with (fail)
      have p0 := P5.c0
      have p1 := P5.c1
      have p2 := P5.c2
      have f0 := P5.f 0
      have f1 := P5.f 1
      have f2 := P5.f 2
      obtain ⟨t0, t1, t2⟩ := pb_three P5 0 0 0
      have hq := set3_far (b := w.heap.size + 3) E54 (by simp only; omega) (.int .i64 0) (.int .i64 0) (.int .i64 0)
      go_region
      all_goals
        go_wp2
        refine bodyPost_ret (v := .tuple #[.agg #[.int .i64 0, .int .i64 0, .int .i64 0], errV (e 4)]) (by simp [results, Tryz.results171, go_sem, t0, t1, t2, errV]; try rfl) rfl ((unhide R3) _ (by first | exact (below_set3 F5 (by omega) _ _ _).drew | exact below_set3 F5.drew (by omega) _ _ _))
  · have hnk := hLk j hj
    have ej := (b4.cell (p := ⟨h', j, none⟩) hh').trans ((unhide E3) j hj)
    clear hLk E3 HANY HFT e1 e2 c4 c5 c6 q7 y0 y1 y2
    generalize (fr x).getD j 0 = n at *
    have hq2 : tkC o mn u (nd n) = 2 := by simpa using hq
    obtain ⟨y, hf⟩ : ∃ y, fit o (nd n).F = some y := by
      cases hf : fit o (nd n).F with
      | none => simp [tkC, hf] at hq2
      | some y => exact ⟨y, rfl⟩
    have htA : tkA o (nd n) = y.1 := by simp [tkA, hf]
    have F4d : Below w.heap.size w w4.drew := F4.drew
    have D4 := (unhide HZ).b F4d
    have hF := (D4.bd n hnk).f
    have hT := (D4.bd n hnk).t
    have P4 : PB w4.drew (w.heap.size + 3) := T4.pb.b (drw w4)
    have HT := hide ((unhide HF66) w4.drew F4d n hnk y hf)
    have y0 := T4.cz
    have y1 := T4.co
    unfold ptr at y0
    have hjk : (j : Int) < k := by omega
    have hj0 : (0 : Int) ≤ j := by omega
    have tk : True := trivial
    clear D4 HF66 hq hq2 hf T3 T4 HZ
    unfold plV at *
    have R3 := hide (fun w' h4 h5 => (unhide R2) n y.1 w' hfd hnk htA h4 h5)
    clear R1 R2 hfd htA
    go_upto_region 10 with (fail)
    first
    | (go_region_law (first
      | (have _t := tk; go_simp; go_at_call 229; refine (unhide HT).mono ?_; rintro ev w5 ⟨rfl, D5, k5⟩; have P5 := pb_turn P4 hF hT k5; have p0 := P5.c0; have p1 := P5.c1; have p2 := P5.c2; have f0 := P5.f 0; have f1 := P5.f 1; have f2 := P5.f 2; clear tk)))
    | skip
    all_goals
      have K5 := (kept_of (A := fm n) (B := tm n) F4d).trans k5
      have ks := ((kept_set (g := w.heap.size + 3) w5 0 (.int .i64 (n : Int))).trans (kept_set _ 1 (.int .i64 y.1))).trans (kept_set _ 2 (.int .i64 o))
      have DF := hide (D5.keep ks P5.tg (by decide) (by decide) (by decide) (by decide) (by decide))
      have KF := kept_set3 K5 (c := w.heap.size + 3) (by omega) (.int .i64 (n : Int)) (.int .i64 y.1) (.int .i64 o)
      obtain ⟨t0, t1, t2⟩ := pb_three P5 n y.1 o
      clear D5 K5 ks
      go_wp2
      refine bodyPost_ret (v := .tuple #[.agg #[.int .i64 (n : Int), .int .i64 y.1, .int .i64 o], .nilIface]) (by simp [results, Tryz.results171, go_sem, t0, t1, t2]; try rfl) rfl ((unhide R3) _ (unhide DF) KF)
theorem ztakeM_any (z : Nat) (mn lw hi : Int) (k : Nat) (nb fm tm : Nat → Nat) (nd : Nat → Nd) (fr : Nat → List Nat) (x o : Int) (u : Bool) (w : World) (e : Nat → Addr) (he : ErrsM w e) (h : DZ w z mn lw hi k nb fm tm nd fr) (hk4 : k ≤ 20) :
    Calls Tryz.prog 171 #[.pointer (some ⟨z, 0, none⟩), .int .i64 x, .int .i64 o, .bool u] w fun ev w' => TkAny z mn lw hi k nb fm tm nd fr x o u e w ev w' := by
  by_cases ho : o < 0 ∨ 6 < o
  · exact (ztakeM_order z x o u w e he ho).mono fun ev w' hh => Or.inl ⟨1, by omega, hh.1, hh.2, Or.inl ⟨rfl, Or.inr ho⟩⟩
  · by_cases hx : 0 ≤ x ∧ x < k
    · obtain ⟨x', rfl⟩ := Int.eq_ofNat_of_zero_le hx.1
      refine (ztakeM_ok z mn lw hi k nb fm tm nd fr x' o u w e he h (by omega) (by omega) (by omega) hk4).mono fun ev w' hh => ?_
      rcases hh with ⟨h1, h2, h3⟩ | ⟨i, h1, h2, h3, h4, h5⟩
      · refine Or.inl ⟨_, ?_, h2, h3, Or.inr ⟨x', rfl, by omega, by omega, by omega, h1, rfl⟩⟩
        split <;> omega
      · exact Or.inr ⟨x', i, _, rfl, by omega, by omega, by omega, h1, h2, rfl, h3, h4, h5⟩
    · exact (ztakeM_node z mn lw hi k nb fm tm nd fr x o u w e he h (by omega) (by omega) hx).mono fun ev w' hh => Or.inl ⟨1, by omega, hh.1, hh.2, Or.inl ⟨rfl, Or.inl hx⟩⟩
set_option maxRecDepth 100000 in
set_option maxHeartbeats 16000000 in
theorem stakeM_ok (N0 : Nat) (c z : Nat) (ly : Ly) (sz : Int) (m : Nat) (bs : List Nat) (ss : List Sl) (mn lw hi : Int) (k : Nat) (nb fm tm : Nat → Nat) (nd : Nat → Nd) (fr : Nat → List Nat) (x : Int) (u : Bool) (e : Nat → Addr) (w0 w : World) (he0 : ErrsM w0 e) (hb0 : Below w0.heap.size w0 w) (hN0 : w0.heap.size ≤ N0) (h : PS N0 w c z ly sz m bs ss mn lw hi k nb fm tm nd fr) :
    Calls Tryz.prog 101 #[ptr c, .int .i64 x, .bool u] w fun ev w' => TkS N0 c z ly sz m bs ss mn lw hi k nb fm tm nd fr x u e w ev w' := by
  have he := he0.below hb0
  have HEC : Hid (∀ w', Chg K4 N0 w w' → ErrsM w' e) := fun w' hc => errsM_chg he0 hb0 hc hN0
  have F1 := ballo (Below.refl w.heap.size w) (.cells #[.int .i64 0, .int .i64 0] 34)
  have R1 := rx_new w
  have P1 := h.b F1
  have HCH := hide (chas_ok c z mn lw hi k nb fm tm nd fr x _ e (he.below F1).three P1.d P1.c.c0)
  have HE := hide he
  have HP1 := hide P1
  have HF1 := hide F1
  have HR1 := hide R1
  have lcN := P1.c.ge
  have RN : Hid (∀ a w', a < 10 → PS N0 w' c z ly sz m bs ss mn lw hi k nb fm tm nd fr → Chg K4 N0 w w' → ((a = 1 ∧ ¬ (0 ≤ x ∧ x < k)) ∨ ∃ x' : Nat, x = x' ∧ x' < k ∧ (bst m x' ss ss.length).1 = none ∧ (fr x').find? (fun i => tkC 0 mn u (nd i) == 2) = none ∧ a = if (fr x').any (fun i => tkC 0 mn u (nd i) == 1) then 6 else 4) → TkS N0 c z ly sz m bs ss mn lw hi k nb fm tm nd fr x u e w (.returned (.tuple #[objV 0 0, errV (e a)])) w') := fun a w' h1 h2 h3 h4 => .no a w' h1 h2 h3 h4
  have RO : Hid (∀ x' j s w', x = (x' : Nat) → x' < k → (bst m x' ss ss.length).1 = some j → ss[j]? = some s → PS N0 w' c z ly sz m bs (ss.set j { s with bm := s.bm ||| 2 ^ ff s.bm }) mn lw hi k nb fm tm nd fr → Chg K4 N0 w w' → TkS N0 c z ly sz m bs ss mn lw hi k nb fm tm nd fr x u e w (.returned (.tuple #[objV s.nd (s.at_ * 64 + ff s.bm * sz), .nilIface])) w') := fun x' j s w' h1 h2 h3 h4 h5 h6 => .old x' j s w' h1 h2 h3 h4 h5 h6
  have RW : Hid (∀ (x' i b q : Nat) (a : Int) w', x = (x' : Nat) → x' < k → (bst m x' ss ss.length).1 = none → (fr x').find? (fun i => tkC 0 mn u (nd i) == 2) = some i → i < k → a = tkA 0 (nd i) → Pos ss i a q → PS N0 w' c z ly sz m (Sb.ins bs q b) (Sb.ins ss q ⟨i, a, 1⟩) mn lw hi k nb fm tm (up nd i (tkN 0 (nd i))) fr → Chg K4 N0 w w' → TkS N0 c z ly sz m bs ss mn lw hi k nb fm tm nd fr x u e w (.returned (.tuple #[objV i (a * 64), .nilIface])) w') := fun x' i b q a w' h1 h2 h3 h4 h5 h6 h7 h8 h9 => .new x' i b q a w' h1 h2 h3 h4 h5 h6 h7 h8 h9
  clear he h F1 R1 P1 he0 hb0
  generalize TkS N0 c z ly sz m bs ss mn lw hi k nb fm tm nd fr x u e w = TR at *
  unfold ptr at *
  go_enter Tryz.func101, Tryz.ntmps101
  go_upto_region 1 with (fail)
  generalize hW : w.alloc (.cells #[.int .i64 0, .int .i64 0] 34) = W at *
  go_wp2_with fail
  refine (unhide HCH).mono ?_
  rintro ev w1 ⟨rfl, b1⟩
  have F2 := btr (unhide HF1) b1
  have P2 := (unhide HP1).b b1
  have R2 := (unhide HR1).b b1
  clear HCH HF1 HP1 HR1
  by_cases hx : 0 ≤ x ∧ x < k
  · rw [show decide (0 ≤ x ∧ x < k) = true by simpa using hx]
    obtain ⟨x', rfl⟩ := Int.eq_ofNat_of_zero_le hx.1
    have hxk : x' < k := by omega
    have hml := P2.c.mle
    have HFU := hide (full_ok N0 c z ly sz m bs ss x' w1 P2.c (sl_len P2))
    cases hb : (bst m x' ss ss.length).1 with
    | some j =>
      obtain ⟨hj, hnd, hpop⟩ := bst_some hb
      obtain ⟨b, s, eb, es, hS, hok⟩ := P2.c.slab hj
      rw [getD_at es] at hpop
      have hbv : bestV bs (some j) = .pointer (some ⟨b, 0, none⟩) := by simp only [bestV, getD_at eb]; rfl
      rw [hb, hbv] at HFU
      have HRES : Hid (∀ w', PS N0 w' c z ly sz m bs (ss.set j { s with bm := s.bm ||| 2 ^ ff s.bm }) mn lw hi k nb fm tm nd fr → Chg K4 N0 w w' → TR (.returned (.tuple #[objV s.nd (s.at_ * 64 + ff s.bm * sz), .nilIface])) w') := fun w' h1 h2 => (unhide RO) x' j s w' rfl hxk hb es h1 h2
      obtain ⟨hf1, hf2, hf3⟩ := ff_spec hok.2.2.1 hml.2 hpop
      obtain ⟨X, hX⟩ : ∃ X, X = 18446744073709551615 - s.bm := ⟨_, rfl⟩
      have HCT : Hid (Calls Tryz.prog 173 #[.int .u64 (X : Int)] w1 fun e w' => e = .returned (.int .i64 (ff s.bm)) ∧ w' = w1) := by
        have hff : ff s.bm = Lib.ctz 64 X := by rw [hX]; rfl
        rw [hff]
        exact ctzM_ok X (by omega) w1 e ((unhide HE).below F2)
      have HXO : Hid (bits .xor .u64 (if IntKind.u64.signed = true then -1 else IntKind.u64.max) (s.bm : Int) = (X : Int)) := by
        rw [show (if IntKind.u64.signed = true then (-1 : Int) else IntKind.u64.max) = IntKind.u64.max from rfl, hX]; exact xor_max s.bm (pow_le64 hok.2.2.1 hml.2)
      clear hX
      have c3 := hS.c3
      have f3 := hS.fz 3
      have HP := hide P2
      have HR := hide R2
      have HC : Hid (Chg K4 N0 w w1) := Chg.below F2
      have HS := hide hS
      have HOK := hide hok
      have HEB := hide eb
      have HES := hide es
      clear P2 R2 F2 hS hok hb hbv RN RO RW eb es b1 hf2 hf3 hpop hnd
      go_wp2_with (first | (go_at_call 170; refine (unhide HFU).mono ?_; rintro ev w2 ⟨rfl, rfl⟩) | (go_at_call 173; rw [unhide HXO]; refine (unhide HCT).mono ?_; rintro ev w2 ⟨rfl, rfl⟩))
      have hi63 : ff s.bm < 64 := by omega
      have hbx : s.bm < 2 ^ m := (unhide HOK).2.2.1
      have hor := or_bit s.bm (ff s.bm) (pow_le64 hbx hml.2) hi63
      generalize ff s.bm = fi at *
      have hnw : s.bm ||| 2 ^ fi < 2 ^ m := set_lt hbx hf1
      generalize hnb : s.bm ||| 2 ^ fi = nbm at *
      go_region
      have hne : b ≠ w.heap.size := (unhide HS).tg.ne (unhide HR).tg (by decide)
      have HP5 := hide (((unhide HP).bit (unhide HEB) (unhide HES) hnw).b (drw _))
      have HC5 : Hid (Chg K4 N0 w (w2.setCell ⟨b, 3, none⟩ (.int .u64 (nbm : Int))).drew) := ((unhide HC).trans ((Chg.set (unhide HS).tg ((unhide HP).c.bg b (List.mem_of_getElem? (unhide HEB))) 3 _).mono (by decide) (Nat.le_refl _))).drew
      have HR5 := hide ((unhide HR).c (Chg.set (N := 0) (unhide HS).tg (Nat.zero_le _) 3 (.int .u64 (nbm : Int))).drew (by decide))
      have HS5 : Hid (SLm (w2.setCell ⟨b, 3, none⟩ (.int .u64 (nbm : Int))).drew b { s with bm := nbm }) := (unhide HP5).c.sl j b _ (unhide HEB) (by rw [List.getElem?_set_self (by exact hj)])
      generalize (w2.setCell ⟨b, 3, none⟩ (.int .u64 (nbm : Int))).drew = W5 at *
      have HOB := hide (obj_ok c b sz s.nd s.at_ fi W5 (unhide HS5).c0 (unhide HS5).c1 (unhide HP5).c.c1 ⟨(unhide HOK).1, (unhide HOK).2.1⟩ ⟨(unhide HP5).c.mm.1, (unhide HP5).c.mm.2.1⟩ ⟨by omega, by omega⟩)
      clear hor hbx hnb HP HC HR HS HCT HFU c3 f3
      unfold ptr objV at *
      go_wp2_with (go_at_call 174; refine (unhide HOB).mono ?_; rintro ev w6 ⟨rfl, b6⟩; obtain ⟨r0, r1, rfz, _⟩ := (unhide HR5).b b6; have f0 := rfz 0; have f1 := rfz 1)
      obtain ⟨t0, t1⟩ := set2_at r0 r1 (.int .i64 (s.nd : Int)) (.int .i64 (s.at_ * 64 + (fi : Int) * sz))
      refine bodyPost_ret (v := .tuple #[.agg #[.int .i64 s.nd, .int .i64 (s.at_ * 64 + (fi : Int) * sz)], .nilIface]) (by simp [results, Tryz.results101, go_sem, t0, t1]; try rfl) rfl ?_
      exact (unhide HRES) _ (((unhide HP5).b b6).rx ((unhide HR5).b b6) _ _) ((((unhide HC5).trans (Chg.below b6)).fresh (Nat.le_refl _) 0 _).fresh (Nat.le_refl _) 1 _)
    | none =>
      have hbv : bestV bs none = .pointer none := rfl
      rw [hb, hbv] at HFU
      have hz0 := P2.c.c0
      have HZT := hide (ztakeM_any z mn lw hi k nb fm tm nd fr x' 0 u w1 e ((unhide HE).below F2) P2.d P2.k4)
      have HP := hide P2
      have HR := hide R2
      have HC : Hid (Chg K4 N0 w w1) := Chg.below F2
      have HF2 := hide F2
      have HB := hide hb
      clear P2 R2 F2 hb hbv RO b1
      unfold ptr at *
      go_wp2_with (first | (go_at_call 170; refine (unhide HFU).mono ?_; rintro ev w2 ⟨rfl, rfl⟩))
      refine (unhide HZT).mono ?_
      rintro ev w3 hT
      rcases hT with ⟨a, ha10, rfl, b3, hr⟩ | ⟨x2, i, at', hx2, hx2k, _, _, hfd, hik, hat, rfl, D3, K3⟩
      · have F4 := ballo (btr (unhide HF2) b3) (.cells #[.int .i64 0, .int .i64 0, .int .i64 0] 293)
        have P4 := ((unhide HP).b b3).b (ballo (Below.refl _ _) (.cells #[.int .i64 0, .int .i64 0, .int .i64 0] 293))
        have R4 := ((unhide HR).b b3).b (ballo (Below.refl _ _) (.cells #[.int .i64 0, .int .i64 0, .int .i64 0] 293))
        have hcond : (a = 1 ∧ ¬ (0 ≤ (x' : Int) ∧ (x' : Int) < k)) ∨ ∃ y : Nat, (x' : Int) = y ∧ y < k ∧ (bst m y ss ss.length).1 = none ∧ (fr y).find? (fun i => tkC 0 mn u (nd i) == 2) = none ∧ a = if (fr y).any (fun i => tkC 0 mn u (nd i) == 1) then 6 else 4 := by
          rcases hr with ⟨h1, h2 | h2 | h2⟩ | ⟨y, h1, h2, _, _, h3, h4⟩
          · exact absurd hx h2
          · omega
          · omega
          · obtain rfl : x' = y := by omega
            exact Or.inr ⟨x', rfl, hxk, unhide HB, h3, h4⟩
        have RES := hide (fun w' (hp : PS N0 w' c z ly sz m bs ss mn lw hi k nb fm tm nd fr) (hc : Chg K4 N0 w w') => (unhide RN) a w' ha10 hp hc hcond)
        have HP4 := hide P4
        have HR4 := hide R4
        have HF4 := hide F4
        clear P4 R4 F4 hcond hr HZT HFU HP HR HF2 HC b3 RN RW
        go_upto_region 6 with (fail)
        generalize w3.alloc (.cells #[.int .i64 0, .int .i64 0, .int .i64 0] 293) = W4 at *
        obtain ⟨r0, r1, rfz, _⟩ := unhide HR4
        have f0 := rfz 0
        have f1 := rfz 1
        unfold objV errV at *
        go_wp2
        obtain ⟨t0, t1⟩ := set2_at r0 r1 (.int .i64 0) (.int .i64 0)
        refine bodyPost_ret (v := .tuple #[.agg #[.int .i64 0, .int .i64 0], .iface 424 (.pointer (some (e a)))]) (by simp [results, Tryz.results101, go_sem, t0, t1]; try rfl) rfl ?_
        exact (unhide RES) _ ((unhide HP4).rx (unhide HR4) _ _) (((Chg.below (unhide HF4)).fresh (Nat.le_refl _) 0 _).fresh (Nat.le_refl _) 1 _)
      · obtain rfl : x' = x2 := by omega
        have hP := unhide HP
        have hmf := hP.mf i hik
        have hbd := hP.d.bd i hik
        have hC3 : Chg [none] N0 w2 w3 := Chg.maps K3 hbd.f hbd.t hmf.1 hmf.2
        have htk : tkC 0 mn u (nd i) = 2 := by
          have := List.find?_some hfd
          simpa using this
        have hokd := hP.d.ok i hik
        have hpg := tk_page hokd htk
        have hfresh := hP.ow.fresh hokd htk
        have hP3 : PS N0 w3 c z ly sz m bs ss mn lw hi k nb fm tm (up nd i (tkN 0 (nd i))) fr := ⟨D3, hP.c.same (hC3.toSame (by decide)) (fun j hj => K3.block _ (hP.c.ym.ltk hj) (hP.ml i hik j hj).1 (hP.ml i hik j hj).2), hP.ow.take hik hokd htk, hP.mf, hP.k4, hP.ml⟩
        have hR3 := (unhide HR).c hC3 (by decide)
        have G4 := ballo (Below.refl w3.heap.size w3) (.cells #[.int .i64 (i : Int), .int .i64 at', .int .i64 0] 293)
        have hP4 := hP3.b G4
        have hR4 := hR3.b G4
        have hC4 : Chg K4 N0 w _ := ((unhide HC).trans (hC3.mono (by decide) (Nat.le_refl _))).trans (Chg.below G4)
        have hlen := sl_len hP
        rw [← hat] at hpg hfresh
        have HAD := hide (add_ok N0 c z ly sz m bs ss i at' _ hP4.c hfresh (by have := hP.k4; omega) ⟨hpg.1, hpg.2.1⟩ hlen)
        have q := World.cell?_alloc_new w3 #[.int .i64 (i : Int), .int .i64 at', .int .i64 0] 293
        have q0 := q 0
        have q1 := q 1
        have q2 := q 2
        simp only [List.getElem?_toArray, List.getElem?_cons_zero, List.getElem?_cons_succ] at q0 q1 q2
        have HRW : Hid (∀ b q w', Pos ss i at' q → PS N0 w' c z ly sz m (Sb.ins bs q b) (Sb.ins ss q ⟨i, at', 1⟩) mn lw hi k nb fm tm (up nd i (tkN 0 (nd i))) fr → Chg K4 N0 w w' → TR (.returned (.tuple #[objV i (at' * 64), .nilIface])) w') := fun b q w' h1 h2 h3 => (unhide RW) x' i b q at' w' rfl hxk (unhide HB) hfd hik hat h1 h2 h3
        have HIT : Hid ((at', 0) ∈ (up nd i (tkN 0 (nd i)) i).T) := by rw [up_at]; exact hpg.2.2.2.1
        have HAT : Hid (0 ≤ at' ∧ at' < 256) := ⟨hpg.1, hpg.2.1⟩
        have HP4 := hide hP4
        have HR4 := hide hR4
        have HC4 := hide hC4
        clear hP hmf hbd hC3 htk hokd hpg hfresh hP3 hR3 G4 hP4 hR4 hC4 q D3 K3 hfd hat HZT HFU HP HR HF2 HC RN RW hlen hx2 hx2k
        generalize up nd i (tkN 0 (nd i)) = nd' at *
        go_upto_region 6 with (fail)
        generalize w3.alloc (.cells #[.int .i64 (i : Int), .int .i64 at', .int .i64 0] 293) = W4 at *
        unfold ptr plV at *
        go_wp2_with fail
        refine (unhide HAD).mono ?_
        rintro ev w5 ⟨b, q, hev, hpos, _, hD5, hC5⟩
        obtain rfl : ev = .returned (.pointer (some ⟨b, 0, none⟩)) := hev
        have hP4 := unhide HP4
        obtain ⟨s, hs⟩ : ∃ s : Sl, s = ⟨i, at', 0⟩ := ⟨_, rfl⟩
        rw [← hs] at hD5
        have hP5 : PS N0 w5 c z ly sz m (Sb.ins bs q b) (Sb.ins ss q s) mn lw hi k nb fm tm nd' fr := ⟨dz_chg hP4.d hC5 (by decide) (by decide), hD5, hP4.ow.ins (by rw [hs]; exact ⟨hik, unhide HIT⟩) q, hP4.mf, hP4.k4, hP4.ml⟩
        have hql : q < (Sb.ins ss q s).length := by rw [ins_length]; have := hpos.1; omega
        have eb : (Sb.ins bs q b)[q]? = some b := by rw [ins_get _ (by rw [hP4.c.len]; exact hpos.1), if_neg (by omega), if_pos rfl]
        have es : (Sb.ins ss q s)[q]? = some s := by rw [ins_get _ hpos.1, if_neg (by omega), if_pos rfl]
        have hS := hD5.sl q b s eb es
        have hok := hD5.ok s (List.mem_of_getElem? es)
        have hpop : pop s.bm m < m := by rw [hs]; simp only; rw [pop_of_zero]; omega
        obtain ⟨hf1, hf2, hf3⟩ := ff_spec hok.2.2.1 hml.2 hpop
        have hC := (unhide HC4).trans (hC5.mono (by decide) (Nat.le_refl _))
        have HRES : Hid (∀ w', PS N0 w' c z ly sz m (Sb.ins bs q b) ((Sb.ins ss q s).set q { s with bm := s.bm ||| 2 ^ ff s.bm }) mn lw hi k nb fm tm nd' fr → Chg K4 N0 w w' → TR (.returned (.tuple #[objV s.nd (s.at_ * 64 + ff s.bm * sz), .nilIface])) w') := fun w' h1 h2 => by
          rw [ins_set hpos.1] at h1
          subst hs
          simp only [ff_zero] at h1 ⊢
          have e1 : (at' * 64 + ((0 : Nat) : Int) * sz) = at' * 64 := by simp
          rw [e1]
          exact (unhide HRW) b q w' hpos h1 h2
        obtain ⟨X, hX⟩ : ∃ X, X = 18446744073709551615 - s.bm := ⟨_, rfl⟩
        have HCT : Hid (Calls Tryz.prog 173 #[.int .u64 (X : Int)] w5 fun e w' => e = .returned (.int .i64 (ff s.bm)) ∧ w' = w5) := by
          have hff : ff s.bm = Lib.ctz 64 X := by rw [hX]; rfl
          rw [hff]
          exact ctzM_ok X (by omega) w5 e ((unhide HEC) _ hC)
        have HXO : Hid (bits .xor .u64 (if IntKind.u64.signed = true then -1 else IntKind.u64.max) (s.bm : Int) = (X : Int)) := by
          rw [show (if IntKind.u64.signed = true then (-1 : Int) else IntKind.u64.max) = IntKind.u64.max from rfl, hX]; exact xor_max s.bm (pow_le64 hok.2.2.1 hml.2)
        clear hX
        have c3 := hS.c3
        have f3 := hS.fz 3
        have HP := hide hP5
        have HR := hide ((unhide HR4).c hC5 (by decide))
        have HC := hide hC
        have HS := hide hS
        have HOK := hide hok
        have HEB := hide eb
        have HES := hide es
        clear HAD hP4 hs hP5 eb es hS hok hpop hf2 hf3 hC hpos hD5 hC5 HRW HP4 HR4 HC4 HIT HAT q0 q1 q2
        go_wp2_with (first | (go_at_call 173; rw [unhide HXO]; refine (unhide HCT).mono ?_; rintro ev w2 ⟨rfl, rfl⟩))
        have hi63 : ff s.bm < 64 := by omega
        have hbx : s.bm < 2 ^ m := (unhide HOK).2.2.1
        have hor := or_bit s.bm (ff s.bm) (pow_le64 hbx hml.2) hi63
        generalize ff s.bm = fi at *
        have hnw : s.bm ||| 2 ^ fi < 2 ^ m := set_lt hbx hf1
        generalize hnb : s.bm ||| 2 ^ fi = nbm at *
        go_region
        have hne : b ≠ w.heap.size := (unhide HS).tg.ne (unhide HR).tg (by decide)
        have HP5 := hide (((unhide HP).bit (unhide HEB) (unhide HES) hnw).b (drw _))
        have HC5 : Hid (Chg K4 N0 w (w2.setCell ⟨b, 3, none⟩ (.int .u64 (nbm : Int))).drew) := ((unhide HC).trans ((Chg.set (unhide HS).tg ((unhide HP).c.bg b (List.mem_of_getElem? (unhide HEB))) 3 _).mono (by decide) (Nat.le_refl _))).drew
        have HR5 := hide ((unhide HR).c (Chg.set (N := 0) (unhide HS).tg (Nat.zero_le _) 3 (.int .u64 (nbm : Int))).drew (by decide))
        have HS5 : Hid (SLm (w2.setCell ⟨b, 3, none⟩ (.int .u64 (nbm : Int))).drew b { s with bm := nbm }) := (unhide HP5).c.sl q b _ (unhide HEB) (by rw [List.getElem?_set_self (by exact hql)])
        generalize (w2.setCell ⟨b, 3, none⟩ (.int .u64 (nbm : Int))).drew = W5 at *
        have HOB := hide (obj_ok c b sz s.nd s.at_ fi W5 (unhide HS5).c0 (unhide HS5).c1 (unhide HP5).c.c1 ⟨(unhide HOK).1, (unhide HOK).2.1⟩ ⟨(unhide HP5).c.mm.1, (unhide HP5).c.mm.2.1⟩ ⟨by omega, by omega⟩)
        clear hor hbx hnb HP HC HR HS HCT c3 f3
        unfold ptr objV at *
        go_wp2_with (go_at_call 174; refine (unhide HOB).mono ?_; rintro ev w6 ⟨rfl, b6⟩; obtain ⟨r0, r1, rfz, _⟩ := (unhide HR5).b b6; have f0 := rfz 0; have f1 := rfz 1)
        obtain ⟨t0, t1⟩ := set2_at r0 r1 (.int .i64 (s.nd : Int)) (.int .i64 (s.at_ * 64 + (fi : Int) * sz))
        refine bodyPost_ret (v := .tuple #[.agg #[.int .i64 s.nd, .int .i64 (s.at_ * 64 + (fi : Int) * sz)], .nilIface]) (by simp [results, Tryz.results101, go_sem, t0, t1]; try rfl) rfl ?_
        exact (unhide HRES) _ (((unhide HP5).b b6).rx ((unhide HR5).b b6) _ _) ((((unhide HC5).trans (Chg.below b6)).fresh (Nat.le_refl _) 0 _).fresh (Nat.le_refl _) 1 _)
  · rw [show decide (0 ≤ x ∧ x < k) = false by simpa using hx]
    have E2 := ((unhide HE).below F2).v1
    have l1 := World.block_lt_of_cell? w _ (unhide HE).v1
    simp only at l1
    have hPE := hide (P2.rx R2 (.int .i64 0) (.int .i64 0))
    have hCE := hide (((Chg.below F2 : Chg K4 N0 w w1).fresh (Nat.le_refl _) 0 (.int .i64 0)).fresh (Nat.le_refl _) 1 (.int .i64 0))
    have hq := set2_far (r := w.heap.size) E2 (by simp only; omega) (.int .i64 0) (.int .i64 0)
    obtain ⟨t0, t1⟩ := set2_at R2.c0 R2.c1 (.int .i64 0) (.int .i64 0)
    have r0 := R2.c0
    have r1 := R2.c1
    have f0 := R2.fz 0
    have f1 := R2.fz 1
    clear RO RW F2 P2 R2 b1
    go_wp2_with fail
    go_region
    all_goals
      go_wp2
      refine bodyPost_ret (v := .tuple #[.agg #[.int .i64 0, .int .i64 0], errV (e 1)]) (by simp [results, Tryz.results101, go_sem, t0, t1, errV]; try rfl) rfl ?_
      exact (unhide RN) 1 _ (by omega) ((unhide hPE).b (drw _)) (unhide hCE).drew (Or.inl ⟨rfl, hx⟩)
end Mg
end Go.Proofs.YtcbmfakjfoggaaaGreatDoor
