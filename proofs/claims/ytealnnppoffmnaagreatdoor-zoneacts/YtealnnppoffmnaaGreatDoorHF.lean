/- The package's zone and the document's answer's beside each other: an act on both. -/
import Derived.Test.YtealnnppoffmnaaGreatDoorHC
import Derived.Test.YtealnnppoffmnaaGreatDoorGW
import Derived.Test.YtealnnppoffmnaaGreatDoorHA
import Derived.Test.YtealnnppoffmnaaGreatDoorGB
namespace Go.Proofs.YtealnnppoffmnaaGreatDoor
open Go.RowKit Go.Maps
namespace Dz
open Fr Bd Zn
/-- The document's answer's zone stays where maps turn. -/
theorem rz_kk {w w' : World} {z A B : Nat} {mn lw hi : Int} {k : Nat} {nb : Nat → Nat} {nd : Nat → Nd} {fr : Nat → List Nat} {LA LB : List Bl} (h : RZ w z mn lw hi k nb nd fr) (hA : Mp w A LA) (hB : Mp w B LB) (hk : Kept A B w w') : RZ w' z mn lw hi k nb nd fr := by
  obtain ⟨g, c, e1, o1⟩ := h.cn
  obtain ⟨g2, c2, rows, e2, o2, r2⟩ := h.cf
  refine ⟨cell_kept h.m2 hA hB hk, cell_kept h.m3 hA hB hk, cell_kept h.m4 hA hB hk, ⟨g, c, cell_kept e1 hA hB hk, own_turn o1 hA hB hk⟩, ⟨g2, c2, rows, cell_kept e2 hA hB hk, own_turn o2 hA hB hk, fun i hi => ?_⟩, h.tg.kk hA hB hk, fun i hi => (h.rb i hi).kk hA hB hk, h.ok, h.ne⟩
  obtain ⟨h', d, e3, o3⟩ := r2 i hi
  exact ⟨h', d, e3, own_turn o3 hA hB hk⟩
/-- Cells of blocks of one type stay. -/
def CK (t : TypeId) (w w' : World) : Prop := ∀ ab, Tag w ab t → Tag w' ab t ∧ ∀ j v, w.cell? ⟨ab, j, none⟩ = some v → w'.cell? ⟨ab, j, none⟩ = some v
theorem ck_below {t : TypeId} {w w' : World} (hb : Below w.heap.size w w') : CK t w w' := fun ab ht => ⟨ht.b hb, fun j _ hc => (hb.cell (p := ⟨ab, j, none⟩) ht.lt).trans hc⟩
theorem ck_maps {t : TypeId} {w w' : World} {A B : Nat} {LA LB : List Bl} (hA : Mp w A LA) (hB : Mp w B LB) (hk : Kept A B w w') : CK t w w' := fun _ ht => ⟨ht.kk hA hB hk, fun _ _ hc => cell_kept hc hA hB hk⟩
theorem ck_tag {t s : TypeId} {w w' : World} {A : Nat} (hk : Kept A A w w') (hs : Tag w A s) (hne : t ≠ s) : CK t w w' := fun ab ht => ⟨ht.keep hk (ht.ne hs hne), fun j _ hc => (hk.cell (p := ⟨ab, j, none⟩) ht.lt (ht.ne hs hne) (ht.ne hs hne)).trans hc⟩
/-- Both zones in one memory. -/
structure ZZ (w0 w : World) (z m : Nat) (mn lw hi : Int) (k : Nat) (nb fm tm : Nat → Nat) (n1 n2 : Nat → Nd) (fr : Nat → List Nat) : Prop where
  d : DZ w z mn lw hi k nb fm tm n1 fr
  r : ∃ nb2, RZ w m mn lw hi k nb2 n2 fr ∧ ∀ i, i < k → w0.heap.size ≤ nb2 i
  n : ∀ g cp, w.cell? ⟨m, 5, none⟩ = some (.slice (some ⟨g, 0, none⟩) k cp) → w0.heap.size ≤ g
  f : ∀ i, i < k → w0.heap.size ≤ fm i ∧ w0.heap.size ≤ tm i
  b : Below w0.heap.size w0 w
section
variable {w0 w w' : World} {z m : Nat} {mn lw hi : Int} {k : Nat} {nb fm tm : Nat → Nat} {n1 n2 : Nat → Nd} {fr : Nat → List Nat}
theorem ZZ.bl (h : ZZ w0 w z m mn lw hi k nb fm tm n1 n2 fr) (hb : Below w.heap.size w w') : ZZ w0 w' z m mn lw hi k nb fm tm n1 n2 fr := by
  obtain ⟨nb2, hr, hn⟩ := h.r
  exact ⟨h.d.b hb, ⟨nb2, hr.b hb, hn⟩, fun g cp hc => h.n g cp ((hb.cell (p := ⟨m, 5, none⟩) hr.tg.lt).symm.trans hc), h.f, btr h.b hb⟩
theorem ZZ.dturn (h : ZZ w0 w z m mn lw hi k nb fm tm n1 n2 fr) {x : Nat} (hx : x < k) (hk : Kept (fm x) (tm x) w w') {n1' : Nat → Nd} (hd : DZ w' z mn lw hi k nb fm tm n1' fr) : ZZ w0 w' z m mn lw hi k nb fm tm n1' n2 fr := by
  obtain ⟨nb2, hr, hn⟩ := h.r
  have hF := (h.d.bd x hx).f
  have hT := (h.d.bd x hx).t
  refine ⟨hd, ⟨nb2, rz_kk hr hF hT hk, hn⟩, fun g cp hc => ?_, h.f, h.b.trans (hk.below (N := w0.heap.size) (h.f x hx).1 (h.f x hx).2 h.b.size)⟩
  obtain ⟨g', c', e1, _⟩ := hr.cn
  have e2 := cell_kept e1 hF hT hk
  rw [hc] at e2
  simp only [Option.some.injEq, Value.slice.injEq, Addr.mk.injEq] at e2
  obtain ⟨⟨rfl, _⟩, _⟩ := e2
  exact h.n _ _ e1
theorem ZZ.rturn (h : ZZ w0 w z m mn lw hi k nb fm tm n1 n2 fr) {A : Nat} (hk : Kept A A w w') {t : TypeId} (ht : Tag w A t) (h1 : t ≠ 109) (h2 : t ≠ 24) (h3 : t ≠ 46) (h4 : t ≠ 3) (h5 : t ≠ 89) (h6 : t ≠ 121) (hA : w0.heap.size ≤ A) {nb2 : Nat → Nat} {n2' : Nat → Nd} (hr' : RZ w' m mn lw hi k nb2 n2' fr) (hn' : ∀ i, i < k → w0.heap.size ≤ nb2 i) : ZZ w0 w' z m mn lw hi k nb fm tm n1 n2' fr := by
  obtain ⟨_, hr, _⟩ := h.r
  have hm := hr.tg.ne ht h6.symm
  exact ⟨h.d.keep hk ht (by assumption) (by assumption) (by assumption) (by assumption) (by assumption), ⟨nb2, hr', hn'⟩, fun g cp hc => h.n g cp ((hk.cell (p := ⟨m, 5, none⟩) hr.tg.lt hm hm).symm.trans hc), h.f, h.b.trans (hk.below (N := w0.heap.size) hA hA h.b.size)⟩
end
theorem give_pair (w0 : World) (e : Nat → Addr) (he : Errs w0 e) (z m : Nat) (mn lw hi : Int) (k : Nat) (nb fm tm : Nat → Nat) (nd : Nat → Nd) (fr : Nat → List Nat) (px pa po : Int) (hw : (Lit.int .i64 pa).wf = true) :
    ∃ d r nd', (∀ w1, ZZ w0 w1 z m mn lw hi k nb fm tm nd nd fr → Calls Tryz.prog 32 #[ptr z, plV px pa po] w1 fun ev w' => ev = .returned d ∧ ZZ w0 w' z m mn lw hi k nb fm tm nd' nd fr ∧ CK 62 w1 w') ∧
      (∀ w1, ZZ w0 w1 z m mn lw hi k nb fm tm nd' nd fr → Calls Tryz.prog 33 #[ptr m, plV px pa po] w1 fun ev w' => ev = .returned (.int .i64 r) ∧ ZZ w0 w' z m mn lw hi k nb fm tm nd' nd' fr ∧ CK 62 w1 w') ∧
      (∀ w1, Errs w1 e → Calls Tryz.prog 9 #[d, .int .i64 r] w1 fun ev w' => ev = .returned (.bool true) ∧ Below w1.heap.size w1 w') := by
  by_cases hx : 0 ≤ px ∧ px < k
  · obtain ⟨x, rfl⟩ := Int.eq_ofNat_of_zero_le hx.1
    have hx : x < k := by omega
    refine ⟨errC e (gaveE (pa, po) (nd x)), gaveE (pa, po) (nd x), up nd x (gaveD (pa, po) (nd x)), fun w1 hZ => ?_, fun w1 hZ => ?_, fun w1 he1 => ?_⟩
    · refine (zgive_ok z mn lw hi k nb fm tm nd fr x pa po w1 e (he.below hZ.b).three hZ.d hx hw).mono ?_
      rintro ev w' ⟨rfl, hd, hk⟩
      exact ⟨rfl, hZ.dturn hx hk hd, ck_maps (hZ.d.bd x hx).f (hZ.d.bd x hx).t hk⟩
    · obtain ⟨nb2, hr, hn⟩ := hZ.r
      refine (rzgive_ok m mn lw hi k nb2 nd fr x pa po w1 hr hx).mono ?_
      rintro ev w' ⟨rfl, hr', hk⟩
      have ht := (hr.rb x hx).tg
      exact ⟨rfl, hZ.rturn hk ht (by decide) (by decide) (by decide) (by decide) (by decide) (by decide) (hn x hx) hr' hn, ck_tag hk ht (by decide)⟩
    · unfold gaveE
      split
      · exact coded_nil w1
      · exact coded_sent 3 (by omega) 4 rfl w1 e he1
  · refine ⟨errV (e 1), 2, nd, fun w1 hZ => ?_, fun w1 hZ => ?_, fun w1 he1 => ?_⟩
    · refine (zgive_bad z mn lw hi k nb fm tm nd fr px pa po w1 e (he.below hZ.b).three hZ.d hx).mono ?_
      rintro ev w' ⟨rfl, hb⟩
      exact ⟨rfl, hZ.bl hb, ck_below hb⟩
    · obtain ⟨nb2, hr, hn⟩ := hZ.r
      refine (rzgive_bad m mn lw hi k nb2 nd fr px pa po w1 hr hx).mono ?_
      rintro ev w' ⟨rfl, hb⟩
      exact ⟨rfl, hZ.bl hb, ck_below hb⟩
    · exact coded_sent 1 (by omega) 2 rfl w1 e he1
theorem take_pair (w0 : World) (e : Nat → Addr) (he : Errs w0 e) (z m : Nat) (mn lw hi : Int) (k : Nat) (nb fm tm : Nat → Nat) (nd : Nat → Nd) (fr : Nat → List Nat) (hk4 : k ≤ 20) (hfr : ∀ x, x < k → (fr x).length = k ∧ ∀ i ∈ fr x, i < k) (x o : Int) (u : Bool) :
    ∃ vx va vo d r nd', (∀ w1, ZZ w0 w1 z m mn lw hi k nb fm tm nd nd fr → Calls Tryz.prog 24 #[.pointer (some ⟨z, 0, none⟩), .int .i64 x, .int .i64 o, .bool u] w1 fun ev w' => ev = .returned (.tuple #[.agg #[.int .i64 vx, .int .i64 va, .int .i64 vo], d]) ∧ ZZ w0 w' z m mn lw hi k nb fm tm nd' nd fr ∧ CK 62 w1 w') ∧
      (∀ w1, ZZ w0 w1 z m mn lw hi k nb fm tm nd' nd fr → Calls Tryz.prog 34 #[.pointer (some ⟨m, 0, none⟩), .int .i64 x, .int .i64 o, .bool u] w1 fun ev w' => ev = .returned (.tuple #[.agg #[.int .i64 vx, .int .i64 va, .int .i64 vo], .int .i64 r]) ∧ ZZ w0 w' z m mn lw hi k nb fm tm nd' nd' fr ∧ CK 60 w1 w') ∧
      (∀ w1, Errs w1 e → Calls Tryz.prog 9 #[d, .int .i64 r] w1 fun ev w' => ev = .returned (.bool true) ∧ Below w1.heap.size w1 w') := by
  by_cases hbad : ¬ (0 ≤ x ∧ x < k) ∨ o < 0 ∨ 6 < o
  · refine ⟨0, 0, 0, .iface 212 (.pointer (some (e 1))), 2, nd, fun w1 hZ => ?_, fun w1 hZ => ?_, fun w1 he1 => ?_⟩
    · refine (ztake_any z mn lw hi k nb fm tm nd fr x o u w1 e (he.below hZ.b) hZ.d hk4).mono ?_
      rintro ev w' hT
      rcases hT with ⟨a, _, hev, hb, hr⟩ | ⟨x', i, _, hx, hx', ho0, ho6, _⟩
      · rcases hr with ⟨rfl, _⟩ | ⟨x', hx, hx', ho0, ho6, _⟩
        · exact ⟨hev, hZ.bl hb, ck_below hb⟩
        · omega
      · omega
    · obtain ⟨nb2, hr, hn⟩ := hZ.r
      refine (rztake_bad m mn lw hi k nb2 nd fr x o u w1 hr hbad).mono ?_
      rintro ev w' ⟨rfl, hb⟩
      exact ⟨rfl, hZ.bl hb, ck_below hb⟩
    · exact coded_sent 1 (by omega) 2 rfl w1 e he1
  · obtain ⟨x', rfl⟩ := Int.eq_ofNat_of_zero_le (show 0 ≤ x by omega)
    have hx : x' < k := by omega
    cases hf : (fr x').find? (fun i => tkC o mn u (nd i) == 2) with
    | none =>
      obtain ⟨a, ha, hae⟩ : ∃ a : Nat, a < 10 ∧ a = if (fr x').any (fun i => tkC o mn u (nd i) == 1) then 6 else 4 := ⟨_, by split <;> omega, rfl⟩
      refine ⟨0, 0, 0, .iface 212 (.pointer (some (e a))), a + 1, nd, fun w1 hZ => ?_, fun w1 hZ => ?_, fun w1 he1 => ?_⟩
      · refine (ztake_any z mn lw hi k nb fm tm nd fr x' o u w1 e (he.below hZ.b) hZ.d hk4).mono ?_
        rintro ev w' hT
        rcases hT with ⟨a', _, hev, hb, hr⟩ | ⟨x2, i, _, hx2, _, _, _, hf2, _⟩
        · rcases hr with ⟨_, hh⟩ | ⟨x2, hx2, _, _, _, _, haa⟩
          · omega
          · obtain rfl : x' = x2 := by omega
            rw [hev, haa, ← hae]
            exact ⟨rfl, hZ.bl hb, ck_below hb⟩
        · obtain rfl : x' = x2 := by omega
          rw [hf] at hf2
          cases hf2
      · obtain ⟨nb2, hr, hn⟩ := hZ.r
        refine (rztake_at m mn lw hi k nb2 nd fr x' o u w1 hr hx (by omega) (by omega) (hfr x' hx).1 (hfr x' hx).2 hk4).mono ?_
        rintro ev w' (⟨_, hev, hb⟩ | ⟨i, hf2, _⟩)
        · refine ⟨?_, hZ.bl hb, ck_below hb⟩
          rw [hev, hae]
          split <;> rfl
        · rw [hf] at hf2
          cases hf2
      · exact coded_sent a ha _ rfl w1 e he1
    | some i =>
      refine ⟨i, tkA o (nd i), o, .nilIface, 0, up nd i (tkN o (nd i)), fun w1 hZ => ?_, fun w1 hZ => ?_, fun w1 he1 => ?_⟩
      · refine (ztake_any z mn lw hi k nb fm tm nd fr x' o u w1 e (he.below hZ.b) hZ.d hk4).mono ?_
        rintro ev w' hT
        rcases hT with ⟨a', _, hev, hb, hr⟩ | ⟨x2, i2, at', hx2, _, _, _, hf2, hi2, rfl, hev, hd, hk⟩
        · rcases hr with ⟨_, hh⟩ | ⟨x2, hx2, _, _, _, hf2, _⟩
          · omega
          · obtain rfl : x' = x2 := by omega
            rw [hf] at hf2
            cases hf2
        · obtain rfl : x' = x2 := by omega
          rw [hf] at hf2
          cases hf2
          exact ⟨hev, hZ.dturn hi2 hk hd, ck_maps (hZ.d.bd _ hi2).f (hZ.d.bd _ hi2).t hk⟩
      · obtain ⟨nb2, hr, hn⟩ := hZ.r
        refine (rztake_at m mn lw hi k nb2 nd fr x' o u w1 hr hx (by omega) (by omega) (hfr x' hx).1 (hfr x' hx).2 hk4).mono ?_
        rintro ev w' (⟨hf2, _⟩ | ⟨i2, hf2, hi2, hev, c, g, hc, hr', ⟨ht, cp, hat⟩, hk⟩)
        · rw [hf] at hf2
          cases hf2
        · rw [hf] at hf2
          cases hf2
          refine ⟨hev, hZ.rturn hk ht (by decide) (by decide) (by decide) (by decide) (by decide) (by decide) (hZ.n g cp hat) hr' (fun j hj => ?_), ck_tag hk ht (by decide)⟩
          by_cases hji : j = i
          · subst hji; rw [up_at]; exact Nat.le_trans hZ.b.size hc
          · rw [up_ne _ _ hji]; exact hn j hj
      · exact coded_nil w1
end Dz
end Go.Proofs.YtealnnppoffmnaaGreatDoor
