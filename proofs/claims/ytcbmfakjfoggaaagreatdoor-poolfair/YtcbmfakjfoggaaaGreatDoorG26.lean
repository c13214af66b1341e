/- Package slab's Give, by contract · Package slab's Out, by contract. -/
import Derived.Test.YtcbmfakjfoggaaaGreatDoorG25
import Derived.Test.YtcbmfakjfoggaaaGreatDoorG10
namespace Go.Proofs.YtcbmfakjfoggaaaGreatDoor
open Go.RowKit Go.Maps
namespace Sb
open Fr Bd Zn Dz
theorem mul_in {m i : Nat} {sz : Int} (h1 : 1 ≤ sz) (hm : (m : Int) = 64 / sz) (hi : i < m) : 0 ≤ (i : Int) * sz ∧ (i : Int) * sz + sz ≤ 64 := by
  have h2 : (64 : Int) / sz * sz ≤ 64 := Int.ediv_mul_le _ (by omega)
  have h3 : ((i : Int) + 1) * sz ≤ (m : Int) * sz := Int.mul_le_mul_of_nonneg_right (by omega) (by omega)
  rw [Int.add_mul] at h3
  exact ⟨Int.mul_nonneg (by omega) (by omega), by rw [hm] at h3; omega⟩
/-- What find does. -/
inductive FdS (m : Nat) (sz : Int) (bs : List Nat) (ss : List Sl) (oN oA : Int) (w : World) : Ending → World → Prop
  | no (w' : World) (hb : Below w.heap.size w w') (hr : ∀ j i, ¬ GiveAt m sz ss (oN, oA) j i) : FdS m sz bs ss oN oA w (.returned (.tuple #[.pointer none, .int .i64 0])) w'
  | yes (j i b : Nat) (s : Sl) (w' : World) (hg : GiveAt m sz ss (oN, oA) j i) (eb : bs[j]? = some b) (es : ss[j]? = some s) (hi : i < 64) (hb : Below w.heap.size w w') : FdS m sz bs ss oN oA w (.returned (.tuple #[.pointer (some ⟨b, 0, none⟩), .int .i64 (i : Int)])) w'
set_option maxRecDepth 100000 in
set_option maxHeartbeats 16000000 in
theorem find_ok (N0 : Nat) (c z : Nat) (ly : Ly) (sz : Int) (m : Nat) (bs : List Nat) (ss : List Sl) (oN oA : Int) (w : World) (h : DC N0 w c z ly sz m bs ss) (hlen : ss.length ≤ 10000) :
    Calls Tryz.prog 209 #[ptr c, objV oN oA] w fun ev w' => FdS m sz bs ss oN oA w ev w' := by
  have F2 := ballo (ballo (Below.refl w.heap.size w) (.cells #[ptr c] 129)) (.cells #[.int .i64 oN, .int .i64 oA] 34)
  have hs1 : (w.alloc (.cells #[ptr c] 129)).heap.size = w.heap.size + 1 := by simp
  have kc : ((w.alloc (.cells #[ptr c] 129)).alloc (.cells #[.int .i64 oN, .int .i64 oA] 34)).cell? ⟨w.heap.size, 0, none⟩ = some (ptr c) := ((ballo (Below.refl _ _) _).cell (p := ⟨w.heap.size, 0, none⟩) (by simp)).trans (World.cell?_alloc_new w #[ptr c] 129 0)
  have ko := World.cell?_alloc_new (w.alloc (.cells #[ptr c] 129)) #[.int .i64 oN, .int .i64 oA] 34
  rw [hs1] at ko
  have ko0 := ko 0
  have ko1 := ko 1
  simp only [List.getElem?_toArray, List.getElem?_cons_zero, List.getElem?_cons_succ] at ko0 ko1
  have hs2 : ((w.alloc (.cells #[ptr c] 129)).alloc (.cells #[.int .i64 oN, .int .i64 oA] 34)).heap.size = w.heap.size + 2 := by simp
  have P2 := h.b F2
  have RN : Hid (∀ w', Below w.heap.size w w' → (∀ j i, ¬ GiveAt m sz ss (oN, oA) j i) → FdS m sz bs ss oN oA w (.returned (.tuple #[.pointer none, .int .i64 0])) w') := fun w' h1 h2 => .no w' h1 h2
  have RY : Hid (∀ j i b s w', GiveAt m sz ss (oN, oA) j i → bs[j]? = some b → ss[j]? = some s → i < 64 → Below w.heap.size w w' → FdS m sz bs ss oN oA w (.returned (.tuple #[.pointer (some ⟨b, 0, none⟩), .int .i64 (i : Int)])) w') := fun j i b s w' h1 h2 h3 h4 h5 => .yes j i b s w' h1 h2 h3 h4 h5
  have HP2 := hide P2
  have HF2 := hide F2
  clear h F2 P2 ko
  generalize FdS m sz bs ss oN oA w = TR at *
  unfold ptr objV at *
  go_enter Tryz.func209, Tryz.ntmps209
  go_upto_region 1 with (fail)
  generalize (w.alloc (.cells #[.pointer (some ⟨c, 0, none⟩)] 129)).alloc (.cells #[.int .i64 oN, .int .i64 oA] 34) = W at *
  have hP := unhide HP2
  obtain ⟨p, d, e2, o2⟩ := hP.c2
  have hSl := hP.slabs o2
  have hnl := hP.len
  have hcl := hP.tg.lt
  have hmm := hP.mm
  have hml := hP.mle
  have HIX := hide (idx_slabs p ss.length d (fun i => bs.getD i 0) (fun i => ss.getD i default) 253 #[ptr w.heap.size, ptr (w.heap.size + 1)] (fun i => rnd (ss.getD i default) oN oA) eg115 W hSl (by omega) (fun i hi W' hW => by
    obtain ⟨b, s, eb, es, hS, hok⟩ := hP.slab hi
    have hbl := hS.tg.lt
    simp only [getD_at eb, getD_at es]
    exact (around_ok c b w.heap.size (w.heap.size + 1) sz s oN oA W' ((hW.cell (p := ⟨w.heap.size, 0, none⟩) (by rw [hs2]; simp)).trans kc) ((hW.cell (p := ⟨b, 0, none⟩) hbl).trans hS.c0) ((hW.cell (p := ⟨b, 1, none⟩) hbl).trans hS.c1) ((hW.cell (p := ⟨c, 1, none⟩) hcl).trans hP.c1) ⟨hmm.1, hmm.2.1⟩ ⟨hok.1, hok.2.1⟩ ((hW.cell (p := ⟨w.heap.size + 1, 0, none⟩) (by rw [hs2]; simp)).trans ko0) ((hW.cell (p := ⟨w.heap.size + 1, 1, none⟩) (by rw [hs2]; simp)).trans ko1)).mono fun ev w' hh => ⟨hh.1, btr hW hh.2⟩))
  rw [hnl] at e2
  have HSL := hide hSl
  clear hP o2 hSl
  unfold ptr at *
  go_wp2_with fail
  refine (unhide HIX).mono ?_
  rintro ev w3 ⟨r, rfl, hr, b3⟩
  clear HIX
  have F3 := btr (unhide HF2) b3
  have P3 := (unhide HP2).b b3
  have kc3 := (b3.cell (p := ⟨w.heap.size, 0, none⟩) (by rw [hs2]; simp)).trans kc
  have ko03 := (b3.cell (p := ⟨w.heap.size + 1, 0, none⟩) (by rw [hs2]; simp)).trans ko0
  have ko13 := (b3.cell (p := ⟨w.heap.size + 1, 1, none⟩) (by rw [hs2]; simp)).trans ko1
  have e23 := (b3.cell (p := ⟨c, 2, none⟩) hcl).trans e2
  have hlow : w.heap.size + 2 ≤ w3.heap.size := by have := b3.size; omega
  rcases hr with ⟨rfl, hnone⟩ | ⟨kk, hkk, rfl, hyes, _⟩
  · have hcond : ∀ j i, ¬ GiveAt m sz ss (oN, oA) j i := fun j i ⟨s, es, hi, hb, hn, ha⟩ => by
      have hj : j < ss.length := (List.getElem?_eq_some_iff.mp es).1
      have := hnone j hj
      simp only [getD_at es] at this
      have hmu := mul_in hmm.1 hmm.2.2 hi
      simp only at hn ha
      unfold rnd at this
      simp only [decide_eq_false_iff_not] at this
      exact this ⟨hn, by omega, by omega⟩
    have RES := hide ((unhide RN) w3 F3 hcond)
    clear RN RY hnone hcond P3 F3 b3 e2 kc ko0 ko1
    go_wp2
    exact unhide RES
  · obtain ⟨b, s, eb, es, hS, hok⟩ := P3.slab hkk
    simp only [getD_at es] at hyes
    unfold rnd at hyes
    simp only [decide_eq_true_eq] at hyes
    obtain ⟨hnd, hlo, hhi⟩ := hyes
    obtain ⟨g, rfl, hg, cg, _⟩ := (unhide HSL) kk hkk
    simp only [getD_at eb] at cg
    have cg3 := (b3.cell (p := ⟨g, kk, none⟩) hg).trans cg
    have hk0 : (0 : Int) ≤ kk := by omega
    have hk1 : (kk : Int) < ss.length := by omega
    -- which object
    obtain ⟨dl, hdl⟩ : ∃ dl : Int, dl = oA - s.at_ * 64 := ⟨_, rfl⟩
    have hrem : oA % 64 = dl := by omega
    obtain ⟨i, hi⟩ := Int.eq_ofNat_of_zero_le (Int.ediv_nonneg (show 0 ≤ dl by omega) (show 0 ≤ sz by omega))
    have hi63 : i < 64 := by
      have : dl / sz ≤ dl := Int.ediv_le_self _ (by omega)
      omega
    have hoA0 : 0 ≤ oA := by have := hok.1; omega
    have hq1 : oA % 64 / sz = (i : Int) := by rw [hrem]; exact hi
    have c1 := P3.c1
    have c3 := hS.c3
    have f3 := hS.fz 3
    have hbx := hok.2.2.1
    have hbl := hS.tg.lt
    have hcl3 := P3.tg.lt
    have HOB := hide (fun w4 (hb : Below w3.heap.size w3 w4) => obj_ok c b sz s.nd s.at_ i w4 ((hb.cell (p := ⟨b, 0, none⟩) hbl).trans hS.c0) ((hb.cell (p := ⟨b, 1, none⟩) hbl).trans hS.c1) ((hb.cell (p := ⟨c, 1, none⟩) hcl3).trans c1) ⟨hok.1, hok.2.1⟩ ⟨hmm.1, hmm.2.1⟩ ⟨by omega, by omega⟩)
    have HSH := hide (fun w4 (h : w4.cell? ⟨b, 3, none⟩ = some (.int .u64 s.bm)) => shas_ok b i s.bm w4 h hi63 (pow_le64 hbx hml.2))
    have HK := hide (fun w4 (hb : Below w3.heap.size w3 w4) => (⟨(hb.cell (p := ⟨w.heap.size, 0, none⟩) (by simp only; omega)).trans kc3, (hb.cell (p := ⟨w.heap.size + 1, 0, none⟩) (by simp only; omega)).trans ko03, (hb.cell (p := ⟨w.heap.size + 1, 1, none⟩) (by simp only; omega)).trans ko13, (hb.cell (p := ⟨b, 3, none⟩) hbl).trans c3⟩ : w4.cell? ⟨w.heap.size, 0, none⟩ = some (.pointer (some ⟨c, 0, none⟩)) ∧ w4.cell? ⟨w.heap.size + 1, 0, none⟩ = some (.int .i64 oN) ∧ w4.cell? ⟨w.heap.size + 1, 1, none⟩ = some (.int .i64 oA) ∧ w4.cell? ⟨b, 3, none⟩ = some (.int .u64 s.bm)))
    have hcond : (oA = s.at_ * 64 + i * sz ∧ s.bm.testBit i = true → GiveAt m sz ss (oN, oA) kk i) ∧ (¬ (oA = s.at_ * 64 + i * sz ∧ s.bm.testBit i = true) → ∀ j i', ¬ GiveAt m sz ss (oN, oA) j i') := by
      refine ⟨fun ⟨h1, h2⟩ => ⟨s, es, ?_, h2, hnd, h1⟩, fun hno j i' ⟨t, et, ti, tb, tn, ta⟩ => ?_⟩
      · rcases Nat.lt_or_ge i m with h | h
        · exact h
        · have := Nat.testBit_lt_two_pow (Nat.lt_of_lt_of_le hbx (Nat.pow_le_pow_right (by omega) h))
          rw [this] at h2; cases h2
      · have hmu := mul_in hmm.1 hmm.2.2 ti
        simp only at tn ta
        have e1 : s.at_ = t.at_ := by omega
        have e2 : kk = j := sorted_uniq P3.so es et (by omega) e1
        subst e2
        rw [es] at et
        cases et
        have e3 : dl = i' * sz := by omega
        have e4 : (i : Int) = i' := by
          rw [← hi, e3]
          exact Int.mul_ediv_cancel _ (by omega)
        have e5 : i = i' := by omega
        subst e5
        exact hno ⟨ta, tb⟩
    have HC := hide hcond
    have HP3 := hide P3
    have HF3 := hide F3
    have HS := hide hS
    have HEB := hide eb
    have HES := hide es
    clear hcond P3 F3 hS eb es hrem hi hdl hlo hhi hok HSL cg e2 kc ko0 ko1 b3
    subst hnd
    unfold ptr objV at *
    go_wp2_with fail
    go_quiet (fail)
    go_wp2_with fail
    rw [hq1]
    have b3' : Below w3.heap.size w3 (w3.drewN nq) := bdN (Below.refl _ _) _
    generalize w3.drewN nq = W3 at *
    obtain ⟨x0, x1, x2, x3⟩ := (unhide HK) W3 b3'
    have HOB3 := hide ((unhide HOB) W3.drew b3'.drew)
    have HK3 := hide (fun w4 (hb : Below W3.drew.heap.size W3.drew w4) => (unhide HK) w4 (btr b3'.drew hb))
    have HF4 := hide (btr (unhide HF3) b3')
    have HP4 := hide ((unhide HP3).b b3')
    have HS4 := hide ((unhide HS).b b3')
    have f34 := (unhide HS4).fz 3
    have hlow4 : w.heap.size + 2 ≤ W3.heap.size := by have := b3'.size; omega
    clear hq1 c3 f3 c1 kc3 ko03 ko13 cg3 e23 b3' HOB HK HP2 HP3 HF3 HS
    generalize hqq : s.at_ * 64 + (i : Int) * sz = q at *
    by_cases heq : oA = q
    · subst heq
      cases hbit : s.bm.testBit i with
      | true =>
        have HG := hide ((unhide HC).1 ⟨rfl, hbit⟩)
        rw [hbit] at HSH
        clear HC
        go_region_held3 (fun w' => w'.cell? ⟨w.heap.size, 0, none⟩ = some (.pointer (some ⟨c, 0, none⟩)) ∧ w'.cell? ⟨w.heap.size + 1, 0, none⟩ = some (.int .i64 (s.nd : Int)) ∧ w'.cell? ⟨w.heap.size + 1, 1, none⟩ = some (.int .i64 oA) ∧ w'.cell? ⟨b, 3, none⟩ = some (.int .u64 s.bm)) ((first | (go_keep; done) | (exact (unhide HK3) _ (by assumption)))) ((first | (go_at_call 174; refine (unhide HOB3).mono ?_; rintro ev w5 ⟨rfl, b5⟩; have y3 := ((unhide HK3) w5 b5).2.2.2) | (go_at_call 214; refine ((unhide HSH) _ (by assumption)).mono ?_; rintro ev w5 ⟨rfl, rfl⟩)))
        have b5' : Below W3.heap.size W3 w5 := bd (w := W3) b5
        have HF5 := hide (btr (unhide HF4) b5')
        clear b5 b5' HOB3 HSH HK3 HP4 HF4 HS4 x0 x1 x2 x3
        go_wp2
        exact (unhide RY) kk i b s _ (unhide HG) (unhide HEB) (unhide HES) hi63 (unhide HF5)
      | false =>
        have HG := hide ((unhide HC).2 (fun h => by rw [hbit] at h; cases h.2))
        rw [hbit] at HSH
        clear HC
        go_region_held3 (fun w' => w'.cell? ⟨w.heap.size, 0, none⟩ = some (.pointer (some ⟨c, 0, none⟩)) ∧ w'.cell? ⟨w.heap.size + 1, 0, none⟩ = some (.int .i64 (s.nd : Int)) ∧ w'.cell? ⟨w.heap.size + 1, 1, none⟩ = some (.int .i64 oA) ∧ w'.cell? ⟨b, 3, none⟩ = some (.int .u64 s.bm)) ((first | (go_keep; done) | (exact (unhide HK3) _ (by assumption)))) ((first | (go_at_call 174; refine (unhide HOB3).mono ?_; rintro ev w5 ⟨rfl, b5⟩; have y3 := ((unhide HK3) w5 b5).2.2.2) | (go_at_call 214; refine ((unhide HSH) _ (by assumption)).mono ?_; rintro ev w5 ⟨rfl, rfl⟩)))
        have b5' : Below W3.heap.size W3 w5 := bd (w := W3) b5
        have HF5 := hide (btr (unhide HF4) b5')
        clear b5 b5' HOB3 HSH HK3 HP4 HF4 HS4 x0 x1 x2 x3
        go_wp2
        exact (unhide RN) _ (unhide HF5) (unhide HG)
    · have hne1 : ¬ q = oA := fun h => heq h.symm
      have hne2 : decide (q = oA) = false := by simp [hne1]
      have hne3 : (q == oA) = false := by simp [hne1]
      have HG := hide ((unhide HC).2 (fun h => heq h.1))
      clear HC
      refine wp_region_held_drew (S := fun w' => w'.cell? ⟨w.heap.size, 0, none⟩ = some (.pointer (some ⟨c, 0, none⟩)) ∧ w'.cell? ⟨w.heap.size + 1, 0, none⟩ = some (.int .i64 (s.nd : Int)) ∧ w'.cell? ⟨w.heap.size + 1, 1, none⟩ = some (.int .i64 oA) ∧ w'.cell? ⟨b, 3, none⟩ = some (.int .u64 s.bm)) (by kernel_rfl) ((unhide HK3) _ (Below.refl _ _)) (fun hHeld => ?_)
      refine wpAnyH_take (i := 0) (oi := { dst := some 34, op := .load 129 (.tmp 2), type := 129, pos := "slab.go:149", after := #[], guard := none }) (v := (.pointer (some ⟨c, 0, none⟩))) rfl (by kernel_rfl) (by kernel_rfl) (by kernel_rfl) (fun _ _ _ h => h) (Or.inl ⟨by rfl, ?_⟩) hHeld ?_
      · intro w hSw
        go_simp
      simp only [Act.put, List.setIfInBounds_toArray, List.set_cons_zero, List.set_cons_succ]
      refine wpAnyH_take (i := 1) (oi := { dst := some 35, op := .move (.tmp 8), type := 288, pos := "slab.go:149", after := #[], guard := none }) (v := (.pointer (some ⟨b, 0, none⟩))) rfl (by kernel_rfl) (by kernel_rfl) (by kernel_rfl) (fun _ _ _ h => h) (Or.inl ⟨by rfl, ?_⟩) hHeld ?_
      · intro w hSw
        go_simp
      simp only [Act.put, List.setIfInBounds_toArray, List.set_cons_zero, List.set_cons_succ]
      refine wpAnyH_take (i := 2) (oi := { dst := some 36, op := .move (.tmp 9), type := 3, pos := "slab.go:149", after := #[], guard := none }) (v := (.int .i64 i)) rfl (by kernel_rfl) (by kernel_rfl) (by kernel_rfl) (fun _ _ _ h => h) (Or.inl ⟨by rfl, ?_⟩) hHeld ?_
      · intro w hSw
        go_simp
      simp only [Act.put, List.setIfInBounds_toArray, List.set_cons_zero, List.set_cons_succ]
      refine wpAnyH_take (i := 4) (oi := { dst := some 38, op := .load 34 (.tmp 3), type := 34, pos := "slab.go:149", after := #[], guard := none }) (v := (.agg #[.int .i64 s.nd, .int .i64 oA])) rfl (by kernel_rfl) (by kernel_rfl) (by kernel_rfl) (fun _ _ _ h => h) (Or.inl ⟨by rfl, ?_⟩) hHeld ?_
      · intro w hSw
        go_simp
      simp only [Act.put, List.setIfInBounds_toArray, List.set_cons_zero, List.set_cons_succ]
      refine wpAnyH_ready (rs := [3]) (by kernel_rfl) (by simp) ?_
      refine AllReadyH.cons (o := { dst := some 37, op := .call { callee := .value (.func 174), args := #[.tmp 34, .tmp 35, .tmp 36], argTypes := #[129, 288, 3] }, type := 34, pos := "slab.go:149", after := #[{ on := 0, ground := .data }, { on := 1, ground := .data }, { on := 2, ground := .data }], guard := none }) rfl (fun K hK => ?_) AllReadyH.nil
      go_simp
      go_at_call 174
      refine (unhide HOB3).mono ?_
      rintro ev w5 ⟨rfl, b5⟩
      go_wp2_with fail
      refine hK.out _ _ ((unhide HK3) _ b5) (fun hHeld => ?_)
      clear hK K
      refine wpAnyH_take (i := 5) (oi := { dst := some 39, op := .binOp .neq 34 (.tmp 37) (.tmp 38) 34, type := 4, pos := "slab.go:149", after := #[{ on := 3, ground := .data }, { on := 4, ground := .data }], guard := none }) (v := (.bool true)) rfl (by kernel_rfl) (by kernel_rfl) (by kernel_rfl) (fun _ _ _ h => h) (Or.inl ⟨by rfl, ?_⟩) hHeld ?_
      · intro w hSw
        go_simp
      simp only [Act.put, List.setIfInBounds_toArray, List.set_cons_zero, List.set_cons_succ]
      refine wpAnyH_take (i := 6) (oi := { dst := some 40, op := .move (.tmp 39), type := 4, pos := "slab.go:149", after := #[{ on := 5, ground := .data }, { on := 3, ground := .chain }], guard := none }) (v := (.bool true)) rfl (by kernel_rfl) (by kernel_rfl) (by kernel_rfl) (fun _ _ _ h => h) (Or.inl ⟨by rfl, ?_⟩) hHeld ?_
      · intro w hSw
        go_simp
      simp only [Act.put, List.setIfInBounds_toArray, List.set_cons_zero, List.set_cons_succ]
      refine wpAnyH_take (i := 7) (oi := { dst := some 41, op := .move (.tmp 8), type := 288, pos := "slab.go:149", after := #[{ on := 6, ground := .guard }], guard := some (6, false) }) (v := undef) rfl (by kernel_rfl) (by kernel_rfl) (by kernel_rfl) (fun _ _ _ h => h) (Or.inr ⟨by rfl, rfl⟩) hHeld ?_
      simp only [Act.put, List.setIfInBounds_toArray, List.set_cons_zero, List.set_cons_succ]
      refine wpAnyH_take (i := 8) (oi := { dst := some 42, op := .move (.tmp 9), type := 3, pos := "slab.go:149", after := #[{ on := 6, ground := .guard }], guard := some (6, false) }) (v := undef) rfl (by kernel_rfl) (by kernel_rfl) (by kernel_rfl) (fun _ _ _ h => h) (Or.inr ⟨by rfl, rfl⟩) hHeld ?_
      simp only [Act.put, List.setIfInBounds_toArray, List.set_cons_zero, List.set_cons_succ]
      refine wpAnyH_take (i := 9) (oi := { dst := some 43, op := .call { callee := .value (.func 214), args := #[.tmp 41, .tmp 42], argTypes := #[288, 3] }, type := 4, pos := "slab.go:149", after := #[{ on := 7, ground := .data }, { on := 8, ground := .data }, { on := 6, ground := .chain }, { on := 6, ground := .guard }], guard := some (6, false) }) (v := undef) rfl (by kernel_rfl) (by kernel_rfl) (by kernel_rfl) (fun _ _ _ h => h) (Or.inr ⟨by rfl, rfl⟩) hHeld ?_
      simp only [Act.put, List.setIfInBounds_toArray, List.set_cons_zero, List.set_cons_succ]
      refine wpAnyH_take (i := 10) (oi := { dst := some 44, op := .unOp .not 4 (.tmp 43), type := 4, pos := "slab.go:149", after := #[{ on := 9, ground := .data }, { on := 6, ground := .guard }], guard := some (6, false) }) (v := undef) rfl (by kernel_rfl) (by kernel_rfl) (by kernel_rfl) (fun _ _ _ h => h) (Or.inr ⟨by rfl, rfl⟩) hHeld ?_
      simp only [Act.put, List.setIfInBounds_toArray, List.set_cons_zero, List.set_cons_succ]
      refine wpAnyH_take (i := 11) (oi := { dst := some 45, op := .pick (.tmp 40) (.const (.bool true)) (.tmp 44), type := 4, pos := "slab.go:149", after := #[{ on := 6, ground := .data }, { on := 10, ground := .data }], guard := none }) (v := (.bool true)) rfl (by kernel_rfl) (by kernel_rfl) (by kernel_rfl) (fun _ _ _ h => h) (Or.inl ⟨by rfl, ?_⟩) hHeld ?_
      · intro w hSw
        go_simp
      simp only [Act.put, List.setIfInBounds_toArray, List.set_cons_zero, List.set_cons_succ]
      refine wpAnyH_done (by kernel_rfl) ?_ _
      have b5' : Below W3.heap.size W3 w5 := bd (w := W3) b5
      have HF5 := hide (btr (unhide HF4) b5')
      clear b5 b5' HOB3 HSH HK3 HP4 HF4 HS4 x0 x1 x2 x3
      go_wp2
      exact (unhide RN) _ (unhide HF5) (unhide HG)
end Sb
end Go.Proofs.YtcbmfakjfoggaaaGreatDoor
namespace Go.Proofs.YtcbmfakjfoggaaaGreatDoor
open Go.RowKit Go.Maps
namespace Mg
open Fr Bd Zn Dz Sb
/-- Is an object taken? -/
def Tkn (m : Nat) (sz : Int) (ss : List Sl) (a b : Int) : Prop := ∃ j i, GiveAt m sz ss (a, b) j i
theorem Tkn.w2 {N0 : Nat} {w : World} {c z : Nat} {ly : Ly} {sz : Int} {m : Nat} {bs : List Nat} {ss : List Sl} (h : DC N0 w c z ly sz m bs ss) {a b : Int} (ht : Tkn m sz ss a b) : W2 a b := by
  obtain ⟨j, i, s, es, hi, hb, hn, ha⟩ := ht
  have hok := h.ok s (List.mem_of_getElem? es)
  have hmu := mul_in h.mm.1 h.mm.2.2 hi
  have hat0 := hok.1
  have hat1 := hok.2.1
  have hnd := hok.2.2.2
  have hs := h.mm.1
  simp only at hn ha
  unfold W2
  simp [Lit.wf, IntKind.min, IntKind.max, IntKind.signed, IntKind.bits]
  omega
def OutR (m : Nat) (sz : Int) (ss : List Sl) (f : Int → Int → Option Nat) (oN oA : Int) (w : World) (ev : Ending) (w' : World) : Prop := Below w.heap.size w w' ∧ ((ev = .returned (.bool true) ∧ Tkn m sz ss oN oA ∧ f oN oA = none) ∨ (ev = .returned (.bool false) ∧ ¬ (Tkn m sz ss oN oA ∧ f oN oA = none)))
set_option maxRecDepth 100000 in
set_option maxHeartbeats 4000000 in
theorem out_ok (N0 : Nat) (c z : Nat) (ly : Ly) (sz : Int) (m : Nat) (bs : List Nat) (ss : List Sl) (oN oA : Int) (w : World) (h : DC N0 w c z ly sz m bs ss) (hlen : ss.length ≤ 10000) (q : Nat) (f : Int → Int → Option Nat) (hm : Ml w ly.1 q f) :
    Calls Tryz.prog 155 #[.pointer (some ⟨c, 0, none⟩), .agg #[.int .i64 oN, .int .i64 oA]] w fun ev w' => OutR m sz ss f oN oA w ev w' := by
  have F1 := ballo (Below.refl w.heap.size w) (.cells #[.int .i64 oN, .int .i64 oA] 34)
  have q' := World.cell?_alloc_new w #[.int .i64 oN, .int .i64 oA] 34
  have q0 := q' 0
  have q1 := q' 1
  simp only [List.getElem?_toArray, List.getElem?_cons_zero, List.getElem?_cons_succ] at q0 q1
  have hs1 : w.heap.size < (w.alloc (.cells #[.int .i64 oN, .int .i64 oA] 34)).heap.size := by simp
  have P1 := h.b F1
  have HFD := hide (find_ok N0 c z ly sz m bs ss oN oA _ P1 hlen)
  have HP1 := hide P1
  have HM1 := hide (hm.b F1)
  have HF1 := hide F1
  have HW := hide (fun (ht : Tkn m sz ss oN oA) => ht.w2 h)
  have RT : Hid (∀ w', Below w.heap.size w w' → Tkn m sz ss oN oA → f oN oA = none → OutR m sz ss f oN oA w (.returned (.bool true)) w') := fun w' h1 h2 h3 => ⟨h1, Or.inl ⟨rfl, h2, h3⟩⟩
  have RF : Hid (∀ w', Below w.heap.size w w' → ¬ (Tkn m sz ss oN oA ∧ f oN oA = none) → OutR m sz ss f oN oA w (.returned (.bool false)) w') := fun w' h1 h2 => ⟨h1, Or.inr ⟨rfl, h2⟩⟩
  clear h hm F1 P1 q'
  generalize OutR m sz ss f oN oA w = TR at *
  unfold ptr objV at *
  go_enter Tryz.func155, Tryz.ntmps155
  go_upto_region 1 with (fail)
  generalize w.alloc (.cells #[.int .i64 oN, .int .i64 oA] 34) = W at *
  generalize hFS : FdS m sz bs ss oN oA W = FR at HFD
  go_wp2_with fail
  refine (unhide HFD).mono ?_
  rintro ev w3 hf
  rw [← hFS] at hf
  clear HFD hFS
  cases hf with
  | no _ b3 hr =>
    have F3 := hide (btr (unhide HF1) b3)
    have e0 := (b3.cell (p := ⟨w.heap.size, 0, none⟩) hs1).trans q0
    have e1 := (b3.cell (p := ⟨w.heap.size, 1, none⟩) hs1).trans q1
    have HN := hide (show ¬ (Tkn m sz ss oN oA ∧ f oN oA = none) from fun ⟨⟨j, i, hg⟩, _⟩ => hr j i hg)
    clear RT HP1 HM1 HF1 HW b3 q0 q1 hr
    go_wp2
    go_quiet (fail)
    go_wp2
    exact (unhide RF) _ (bdN (unhide F3) _) (unhide HN)
  | yes j i b s _ hg eb es hi b3 =>
    have F3 := hide (btr (unhide HF1) b3)
    have e0 := (b3.cell (p := ⟨w.heap.size, 0, none⟩) hs1).trans q0
    have e1 := (b3.cell (p := ⟨w.heap.size, 1, none⟩) hs1).trans q1
    have P3 := (unhide HP1).b b3
    have d3 := P3.ym.c3
    have HT : Hid (Tkn m sz ss oN oA) := ⟨j, i, hg⟩
    have hw := (unhide HW) (unhide HT)
    have hr : ∀ n, (Instr.lookup 245 (.map (some ly.1)) (.agg #[.int .i64 oN, .int .i64 oA]) false).run Tryz.prog (w3.drewN n) = .ok (trV (f oN oA)) (w3.drewN n) := fun n => ((unhide HM1).b b3).lookN hw n
    cases hfo : f oN oA with
    | none =>
      rw [hfo] at hr
      simp only [trV] at hr
      have HO := hide hfo
      clear HP1 HM1 HF1 HW b3 q0 q1 hg eb es P3 RF hfo hw
      go_wp2
      go_quiet (fail)
      go_wp2
      exact (unhide RT) _ (bdN (unhide F3) _) (unhide HT) (unhide HO)
    | some t =>
      rw [hfo] at hr
      simp only [trV] at hr
      have HO : Hid (¬ (Tkn m sz ss oN oA ∧ f oN oA = none)) := fun ⟨_, h2⟩ => by rw [hfo] at h2; cases h2
      clear HP1 HM1 HF1 HW b3 q0 q1 hg eb es P3 RT hfo hw
      go_wp2
      go_quiet (fail)
      go_wp2
      exact (unhide RF) _ (bdN (unhide F3) _) (unhide HO)
end Mg
end Go.Proofs.YtcbmfakjfoggaaaGreatDoor
