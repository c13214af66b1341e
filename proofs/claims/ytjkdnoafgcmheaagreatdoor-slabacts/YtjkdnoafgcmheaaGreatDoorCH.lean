/- The package's zone and the document's answer's beside each other: an act on both · The package's cache and the document's answer's in one memory: an act on both · Give, Shrink and a page beside, on both caches · A page beside, in both zones. -/
import Derived.Test.YtjkdnoafgcmheaaGreatDoorGX
import Derived.Test.YtjkdnoafgcmheaaGreatDoorGW
import Derived.Test.YtjkdnoafgcmheaaGreatDoorCD
import Derived.Test.YtjkdnoafgcmheaaGreatDoorGB
import Derived.Test.YtjkdnoafgcmheaaGreatDoorCE
import Derived.Test.YtjkdnoafgcmheaaGreatDoorCF
namespace Go.Proofs.YtjkdnoafgcmheaaGreatDoor
open Go.RowKit Go.Maps
namespace Dz
open Fr Bd Zn
/-- The document's answer's zone stays where maps turn. -/
theorem rz_kk {w w' : World} {z A B : Nat} {mn lw hi : Int} {k : Nat} {nb : Nat → Nat} {nd : Nat → Nd} {fr : Nat → List Nat} {LA LB : List Bl} (h : RZ w z mn lw hi k nb nd fr) (hA : Mp w A LA) (hB : Mp w B LB) (hk : Kept A B w w') : RZ w' z mn lw hi k nb nd fr := by
  obtain ⟨g, c, e1, o1⟩ := h.cn
  obtain ⟨g2, c2, rows, e2, o2, r2⟩ := h.cf
  refine ⟨cell_kept h.m2 hA hB hk, cell_kept h.m3 hA hB hk, cell_kept h.m4 hA hB hk, ⟨g, c, cell_kept e1 hA hB hk, own_turn o1 hA hB hk⟩, ⟨g2, c2, rows, cell_kept e2 hA hB hk, own_turn o2 hA hB hk, fun i hi => ?_⟩, h.tg.kk hA hB hk, fun i hi => (h.rb i hi).kk hA hB hk, h.ok, h.ne⟩
  obtain ⟨h', d, e3, o3⟩ := r2 i hi
  exact ⟨h', d, e3, own_turn o3 hA hB hk⟩
/-- Cells of blocks of one type stay. -/
def CK (t : TypeId) (w w' : World) : Prop := ∀ ab, Tag w ab t → Tag w' ab t ∧ ∀ j v, w.cell? ⟨ab, j, none⟩ = some v → w'.cell? ⟨ab, j, none⟩ = some v
theorem ck_below {t : TypeId} {w w' : World} (hb : Below w.heap.size w w') : CK t w w' := fun ab ht => ⟨ht.b hb, fun j _ hc => (hb.cell (p := ⟨ab, j, none⟩) ht.lt).trans hc⟩
theorem ck_maps {t : TypeId} {w w' : World} {A B : Nat} {LA LB : List Bl} (hA : Mp w A LA) (hB : Mp w B LB) (hk : Kept A B w w') : CK t w w' := fun _ ht => ⟨ht.kk hA hB hk, fun _ _ hc => cell_kept hc hA hB hk⟩
theorem ck_tag {t s : TypeId} {w w' : World} {A : Nat} (hk : Kept A A w w') (hs : Tag w A s) (hne : t ≠ s) : CK t w w' := fun ab ht => ⟨ht.keep hk (ht.ne hs hne), fun j _ hc => (hk.cell (p := ⟨ab, j, none⟩) ht.lt (ht.ne hs hne) (ht.ne hs hne)).trans hc⟩
/-- Both zones in one memory. -/
structure ZZ (w0 w : World) (z m : Nat) (mn lw hi : Int) (k : Nat) (nb fm tm : Nat → Nat) (n1 n2 : Nat → Nd) (fr : Nat → List Nat) : Prop where
  d : DZ w z mn lw hi k nb fm tm n1 fr
  r : ∃ nb2, RZ w m mn lw hi k nb2 n2 fr ∧ ∀ i, i < k → w0.heap.size ≤ nb2 i
  n : ∀ g cp, w.cell? ⟨m, 5, none⟩ = some (.slice (some ⟨g, 0, none⟩) k cp) → w0.heap.size ≤ g
  f : ∀ i, i < k → w0.heap.size ≤ fm i ∧ w0.heap.size ≤ tm i
  b : Below w0.heap.size w0 w
section
variable {w0 w w' : World} {z m : Nat} {mn lw hi : Int} {k : Nat} {nb fm tm : Nat → Nat} {n1 n2 : Nat → Nd} {fr : Nat → List Nat}
theorem ZZ.bl (h : ZZ w0 w z m mn lw hi k nb fm tm n1 n2 fr) (hb : Below w.heap.size w w') : ZZ w0 w' z m mn lw hi k nb fm tm n1 n2 fr := by
  obtain ⟨nb2, hr, hn⟩ := h.r
  exact ⟨h.d.b hb, ⟨nb2, hr.b hb, hn⟩, fun g cp hc => h.n g cp ((hb.cell (p := ⟨m, 5, none⟩) hr.tg.lt).symm.trans hc), h.f, btr h.b hb⟩
theorem ZZ.dturn (h : ZZ w0 w z m mn lw hi k nb fm tm n1 n2 fr) {x : Nat} (hx : x < k) (hk : Kept (fm x) (tm x) w w') {n1' : Nat → Nd} (hd : DZ w' z mn lw hi k nb fm tm n1' fr) : ZZ w0 w' z m mn lw hi k nb fm tm n1' n2 fr := by
  obtain ⟨nb2, hr, hn⟩ := h.r
  have hF := (h.d.bd x hx).f
  have hT := (h.d.bd x hx).t
  refine ⟨hd, ⟨nb2, rz_kk hr hF hT hk, hn⟩, fun g cp hc => ?_, h.f, h.b.trans (hk.below (N := w0.heap.size) (h.f x hx).1 (h.f x hx).2 h.b.size)⟩
  obtain ⟨g', c', e1, _⟩ := hr.cn
  have e2 := cell_kept e1 hF hT hk
  rw [hc] at e2
  simp only [Option.some.injEq, Value.slice.injEq, Addr.mk.injEq] at e2
  obtain ⟨⟨rfl, _⟩, _⟩ := e2
  exact h.n _ _ e1
theorem ZZ.rturn (h : ZZ w0 w z m mn lw hi k nb fm tm n1 n2 fr) {A : Nat} (hk : Kept A A w w') {t : TypeId} (ht : Tag w A t) (h1 : t ≠ 106) (h2 : t ≠ 107) (h3 : t ≠ 22) (h4 : t ≠ 3) (h5 : t ≠ 188) (h6 : t ≠ 136) (hA : w0.heap.size ≤ A) {nb2 : Nat → Nat} {n2' : Nat → Nd} (hr' : RZ w' m mn lw hi k nb2 n2' fr) (hn' : ∀ i, i < k → w0.heap.size ≤ nb2 i) : ZZ w0 w' z m mn lw hi k nb fm tm n1 n2' fr := by
  obtain ⟨_, hr, _⟩ := h.r
  have hm := hr.tg.ne ht h6.symm
  exact ⟨h.d.keep hk ht (by assumption) (by assumption) (by assumption) (by assumption) (by assumption), ⟨nb2, hr', hn'⟩, fun g cp hc => h.n g cp ((hk.cell (p := ⟨m, 5, none⟩) hr.tg.lt hm hm).symm.trans hc), h.f, h.b.trans (hk.below (N := w0.heap.size) hA hA h.b.size)⟩
end
theorem give_pair (w0 : World) (e : Nat → Addr) (he : Errs w0 e) (z m : Nat) (mn lw hi : Int) (k : Nat) (nb fm tm : Nat → Nat) (nd : Nat → Nd) (fr : Nat → List Nat) (px pa po : Int) (hw : (Lit.int .i64 pa).wf = true) :
    ∃ d r nd', (∀ w1, ZZ w0 w1 z m mn lw hi k nb fm tm nd nd fr → Calls Tryz.prog 60 #[ptr z, plV px pa po] w1 fun ev w' => ev = .returned d ∧ ZZ w0 w' z m mn lw hi k nb fm tm nd' nd fr ∧ CK 62 w1 w') ∧
      (∀ w1, ZZ w0 w1 z m mn lw hi k nb fm tm nd' nd fr → Calls Tryz.prog 84 #[ptr m, plV px pa po] w1 fun ev w' => ev = .returned (.int .i64 r) ∧ ZZ w0 w' z m mn lw hi k nb fm tm nd' nd' fr ∧ CK 62 w1 w') ∧
      (∀ w1, Errs w1 e → Calls Tryz.prog 22 #[d, .int .i64 r] w1 fun ev w' => ev = .returned (.bool true) ∧ Below w1.heap.size w1 w') := by
  by_cases hx : 0 ≤ px ∧ px < k
  · obtain ⟨x, rfl⟩ := Int.eq_ofNat_of_zero_le hx.1
    have hx : x < k := by omega
    refine ⟨errC e (gaveE (pa, po) (nd x)), gaveE (pa, po) (nd x), up nd x (gaveD (pa, po) (nd x)), fun w1 hZ => ?_, fun w1 hZ => ?_, fun w1 he1 => ?_⟩
    · refine (zgive_ok z mn lw hi k nb fm tm nd fr x pa po w1 e (he.below hZ.b).three hZ.d hx hw).mono ?_
      rintro ev w' ⟨rfl, hd, hk⟩
      exact ⟨rfl, hZ.dturn hx hk hd, ck_maps (hZ.d.bd x hx).f (hZ.d.bd x hx).t hk⟩
    · obtain ⟨nb2, hr, hn⟩ := hZ.r
      refine (rzgive_ok m mn lw hi k nb2 nd fr x pa po w1 hr hx).mono ?_
      rintro ev w' ⟨rfl, hr', hk⟩
      have ht := (hr.rb x hx).tg
      exact ⟨rfl, hZ.rturn hk ht (by decide) (by decide) (by decide) (by decide) (by decide) (by decide) (hn x hx) hr' hn, ck_tag hk ht (by decide)⟩
    · unfold gaveE
      split
      · exact coded_nil w1
      · exact coded_sent 3 (by omega) 4 rfl w1 e he1
  · refine ⟨errV (e 1), 2, nd, fun w1 hZ => ?_, fun w1 hZ => ?_, fun w1 he1 => ?_⟩
    · refine (zgive_bad z mn lw hi k nb fm tm nd fr px pa po w1 e (he.below hZ.b).three hZ.d hx).mono ?_
      rintro ev w' ⟨rfl, hb⟩
      exact ⟨rfl, hZ.bl hb, ck_below hb⟩
    · obtain ⟨nb2, hr, hn⟩ := hZ.r
      refine (rzgive_bad m mn lw hi k nb2 nd fr px pa po w1 hr hx).mono ?_
      rintro ev w' ⟨rfl, hb⟩
      exact ⟨rfl, hZ.bl hb, ck_below hb⟩
    · exact coded_sent 1 (by omega) 2 rfl w1 e he1
theorem take_pair (w0 : World) (e : Nat → Addr) (he : Errs w0 e) (z m : Nat) (mn lw hi : Int) (k : Nat) (nb fm tm : Nat → Nat) (nd : Nat → Nd) (fr : Nat → List Nat) (hk4 : k ≤ 20) (hfr : ∀ x, x < k → (fr x).length = k ∧ ∀ i ∈ fr x, i < k) (x o : Int) (u : Bool) :
    ∃ vx va vo d r nd', (∀ w1, ZZ w0 w1 z m mn lw hi k nb fm tm nd nd fr → Calls Tryz.prog 27 #[.pointer (some ⟨z, 0, none⟩), .int .i64 x, .int .i64 o, .bool u] w1 fun ev w' => ev = .returned (.tuple #[.agg #[.int .i64 vx, .int .i64 va, .int .i64 vo], d]) ∧ ZZ w0 w' z m mn lw hi k nb fm tm nd' nd fr ∧ CK 62 w1 w') ∧
      (∀ w1, ZZ w0 w1 z m mn lw hi k nb fm tm nd' nd fr → Calls Tryz.prog 28 #[.pointer (some ⟨m, 0, none⟩), .int .i64 x, .int .i64 o, .bool u] w1 fun ev w' => ev = .returned (.tuple #[.agg #[.int .i64 vx, .int .i64 va, .int .i64 vo], .int .i64 r]) ∧ ZZ w0 w' z m mn lw hi k nb fm tm nd' nd' fr ∧ CK 60 w1 w') ∧
      (∀ w1, Errs w1 e → Calls Tryz.prog 22 #[d, .int .i64 r] w1 fun ev w' => ev = .returned (.bool true) ∧ Below w1.heap.size w1 w') := by
  by_cases hbad : ¬ (0 ≤ x ∧ x < k) ∨ o < 0 ∨ 6 < o
  · refine ⟨0, 0, 0, .iface 304 (.pointer (some (e 1))), 2, nd, fun w1 hZ => ?_, fun w1 hZ => ?_, fun w1 he1 => ?_⟩
    · refine (ztake_any z mn lw hi k nb fm tm nd fr x o u w1 e (he.below hZ.b) hZ.d hk4).mono ?_
      rintro ev w' hT
      rcases hT with ⟨a, _, hev, hb, hr⟩ | ⟨x', i, _, hx, hx', ho0, ho6, _⟩
      · rcases hr with ⟨rfl, _⟩ | ⟨x', hx, hx', ho0, ho6, _⟩
        · exact ⟨hev, hZ.bl hb, ck_below hb⟩
        · omega
      · omega
    · obtain ⟨nb2, hr, hn⟩ := hZ.r
      refine (rztake_bad m mn lw hi k nb2 nd fr x o u w1 hr hbad).mono ?_
      rintro ev w' ⟨rfl, hb⟩
      exact ⟨rfl, hZ.bl hb, ck_below hb⟩
    · exact coded_sent 1 (by omega) 2 rfl w1 e he1
  · obtain ⟨x', rfl⟩ := Int.eq_ofNat_of_zero_le (show 0 ≤ x by omega)
    have hx : x' < k := by omega
    cases hf : (fr x').find? (fun i => tkC o mn u (nd i) == 2) with
    | none =>
      obtain ⟨a, ha, hae⟩ : ∃ a : Nat, a < 10 ∧ a = if (fr x').any (fun i => tkC o mn u (nd i) == 1) then 6 else 4 := ⟨_, by split <;> omega, rfl⟩
      refine ⟨0, 0, 0, .iface 304 (.pointer (some (e a))), a + 1, nd, fun w1 hZ => ?_, fun w1 hZ => ?_, fun w1 he1 => ?_⟩
      · refine (ztake_any z mn lw hi k nb fm tm nd fr x' o u w1 e (he.below hZ.b) hZ.d hk4).mono ?_
        rintro ev w' hT
        rcases hT with ⟨a', _, hev, hb, hr⟩ | ⟨x2, i, _, hx2, _, _, _, hf2, _⟩
        · rcases hr with ⟨_, hh⟩ | ⟨x2, hx2, _, _, _, _, haa⟩
          · omega
          · obtain rfl : x' = x2 := by omega
            rw [hev, haa, ← hae]
            exact ⟨rfl, hZ.bl hb, ck_below hb⟩
        · obtain rfl : x' = x2 := by omega
          rw [hf] at hf2
          cases hf2
      · obtain ⟨nb2, hr, hn⟩ := hZ.r
        refine (rztake_at m mn lw hi k nb2 nd fr x' o u w1 hr hx (by omega) (by omega) (hfr x' hx).1 (hfr x' hx).2 hk4).mono ?_
        rintro ev w' (⟨_, hev, hb⟩ | ⟨i, hf2, _⟩)
        · refine ⟨?_, hZ.bl hb, ck_below hb⟩
          rw [hev, hae]
          split <;> rfl
        · rw [hf] at hf2
          cases hf2
      · exact coded_sent a ha _ rfl w1 e he1
    | some i =>
      refine ⟨i, tkA o (nd i), o, .nilIface, 0, up nd i (tkN o (nd i)), fun w1 hZ => ?_, fun w1 hZ => ?_, fun w1 he1 => ?_⟩
      · refine (ztake_any z mn lw hi k nb fm tm nd fr x' o u w1 e (he.below hZ.b) hZ.d hk4).mono ?_
        rintro ev w' hT
        rcases hT with ⟨a', _, hev, hb, hr⟩ | ⟨x2, i2, at', hx2, _, _, _, hf2, hi2, rfl, hev, hd, hk⟩
        · rcases hr with ⟨_, hh⟩ | ⟨x2, hx2, _, _, _, hf2, _⟩
          · omega
          · obtain rfl : x' = x2 := by omega
            rw [hf] at hf2
            cases hf2
        · obtain rfl : x' = x2 := by omega
          rw [hf] at hf2
          cases hf2
          exact ⟨hev, hZ.dturn hi2 hk hd, ck_maps (hZ.d.bd _ hi2).f (hZ.d.bd _ hi2).t hk⟩
      · obtain ⟨nb2, hr, hn⟩ := hZ.r
        refine (rztake_at m mn lw hi k nb2 nd fr x' o u w1 hr hx (by omega) (by omega) (hfr x' hx).1 (hfr x' hx).2 hk4).mono ?_
        rintro ev w' (⟨hf2, _⟩ | ⟨i2, hf2, hi2, hev, c, g, hc, hr', ⟨ht, cp, hat⟩, hk⟩)
        · rw [hf] at hf2
          cases hf2
        · rw [hf] at hf2
          cases hf2
          refine ⟨hev, hZ.rturn hk ht (by decide) (by decide) (by decide) (by decide) (by decide) (by decide) (hZ.n g cp hat) hr' (fun j hj => ?_), ck_tag hk ht (by decide)⟩
          by_cases hji : j = i
          · subst hji; rw [up_at]; exact Nat.le_trans hZ.b.size hc
          · rw [up_ne _ _ hji]; exact hn j hj
      · exact coded_nil w1
end Dz
end Go.Proofs.YtjkdnoafgcmheaaGreatDoor
namespace Go.Proofs.YtjkdnoafgcmheaaGreatDoor
open Go.RowKit Go.Maps
namespace Sb
open Fr Bd Zn Dz
/-- Both in one memory. -/
def SQ (w0 : World) (N0 : Nat) (c z rc rz : Nat) (ly : Ly) (sz : Int) (m : Nat) (mn lw hi : Int) (k : Nat) (nb fm tm : Nat → Nat) (fr : Nat → List Nat) (s1 : List Sl) (n1 : Nat → Nd) (s2 : List Sl) (n2 : Nat → Nd) (w : World) : Prop :=
  Below w0.heap.size w0 w ∧ (∃ bs, PS N0 w c z ly sz m bs s1 mn lw hi k nb fm tm n1 fr) ∧ ∃ rb rt nb2, RR N0 w rc rz sz m rb rt s2 mn lw hi k nb2 n2 fr
section
variable {w0 : World} {N0 c z rc rz : Nat} {ly : Ly} {sz : Int} {m : Nat} {mn lw hi : Int} {k : Nat} {nb fm tm : Nat → Nat} {fr : Nat → List Nat} {s1 s2 s1' s2' : List Sl} {n1 n2 n1' n2' : Nat → Nd} {w w' : World}
theorem SQ.b (h : SQ w0 N0 c z rc rz ly sz m mn lw hi k nb fm tm fr s1 n1 s2 n2 w) (hb : Below w.heap.size w w') : SQ w0 N0 c z rc rz ly sz m mn lw hi k nb fm tm fr s1 n1 s2 n2 w' := by
  obtain ⟨h0, ⟨bs, h1⟩, rb, rt, nb2, h2⟩ := h
  exact ⟨btr h0 hb, ⟨bs, h1.b hb⟩, rb, rt, nb2, h2.b hb⟩
theorem SQ.pk (h : SQ w0 N0 c z rc rz ly sz m mn lw hi k nb fm tm fr s1 n1 s2 n2 w) (hN : w0.heap.size ≤ N0) (hc : Chg K4 N0 w w') {bs : List Nat} (hp : PS N0 w' c z ly sz m bs s1' mn lw hi k nb fm tm n1' fr) : SQ w0 N0 c z rc rz ly sz m mn lw hi k nb fm tm fr s1' n1' s2 n2 w' := by
  obtain ⟨h0, _, rb, rt, nb2, h2⟩ := h
  exact ⟨h0.trans ((hc.mono (fun _ h => h) hN).toBelow h0.size), ⟨bs, hp⟩, rb, rt, nb2, h2.chg hc (by decide)⟩
theorem SQ.rf (h : SQ w0 N0 c z rc rz ly sz m mn lw hi k nb fm tm fr s1 n1 s2 n2 w) (hN : w0.heap.size ≤ N0) (hc : Chg R4 N0 w w') {rb rt : List Nat} {nb2 : Nat → Nat} (hr : RR N0 w' rc rz sz m rb rt s2' mn lw hi k nb2 n2' fr) : SQ w0 N0 c z rc rz ly sz m mn lw hi k nb fm tm fr s1 n1 s2' n2' w' := by
  obtain ⟨h0, ⟨bs, h1⟩, _⟩ := h
  exact ⟨h0.trans ((hc.mono (fun _ h => h) hN).toBelow h0.size), ⟨bs, h1.chg hc (by decide) (by decide) (by decide)⟩, rb, rt, nb2, hr⟩
end
/-- A place there is. -/
theorem pos_is {ss : List Sl} (hs : Sorted ss) (x : Nat) (a : Int) : ∃ q, Pos ss x a q := by
  have key : ∀ n, n ≤ ss.length → (∃ q, Pos ss x a q) ∨ ∀ t s, t < n → ss[t]? = some s → lt s x a := fun n => by
    induction n with
    | zero => exact fun _ => Or.inr fun t s ht => by omega
    | succ n ih =>
      intro hn
      rcases ih (by omega) with h | h
      · exact Or.inl h
      · have e : ss[n]? = some (ss[n]) := List.getElem?_eq_getElem (by omega)
        by_cases hl : lt ss[n] x a
        · refine Or.inr fun t s ht es => ?_
          rcases Nat.lt_or_ge t n with h' | h'
          · exact h t s h' es
          · obtain rfl : t = n := by omega
            rw [e] at es
            cases es
            exact hl
        · exact Or.inl ⟨n, pos_up hs (by omega) h (fun s es => by rw [e] at es; cases es; exact hl)⟩
  rcases key ss.length (Nat.le_refl _) with h | h
  · exact h
  · exact ⟨ss.length, pos_up hs (Nat.le_refl _) h (fun s es => by have := (List.getElem?_eq_some_iff.mp es).1; omega)⟩
theorem ctake_pair (w0 : World) (e : Nat → Addr) (he : Errs w0 e) (N0 c z rc rz : Nat) (ly : Ly) (sz : Int) (m : Nat) (mn lw hi : Int) (k : Nat) (nb fm tm : Nat → Nat) (fr : Nat → List Nat) (ss : List Sl) (nd : Nat → Nd) (hN : w0.heap.size ≤ N0) (hfr : ∀ x, x < k → (fr x).length = k ∧ ∀ i ∈ fr x, i < k) (x : Int) (u : Bool) (wx : World) (hx0 : SQ w0 N0 c z rc rz ly sz m mn lw hi k nb fm tm fr ss nd ss nd wx) :
    ∃ oN oA d r ss' nd', (∀ w1, SQ w0 N0 c z rc rz ly sz m mn lw hi k nb fm tm fr ss nd ss nd w1 → Calls Tryz.prog 16 #[ptr c, .int .i64 x, .bool u] w1 fun ev w' => ev = .returned (.tuple #[objV oN oA, d]) ∧ SQ w0 N0 c z rc rz ly sz m mn lw hi k nb fm tm fr ss' nd' ss nd w' ∧ Chg K4 N0 w1 w') ∧
      (∀ w1, SQ w0 N0 c z rc rz ly sz m mn lw hi k nb fm tm fr ss' nd' ss nd w1 → N0 ≤ w1.heap.size → Calls Tryz.prog 25 #[ptr rc, .int .i64 x, .bool u] w1 fun ev w' => ev = .returned (.tuple #[objV oN oA, .int .i64 r]) ∧ SQ w0 N0 c z rc rz ly sz m mn lw hi k nb fm tm fr ss' nd' ss' nd' w' ∧ Chg R4 N0 w1 w') ∧
      (∀ w1, Errs w1 e → Calls Tryz.prog 22 #[d, .int .i64 r] w1 fun ev w' => ev = .returned (.bool true) ∧ Below w1.heap.size w1 w') := by
  obtain ⟨_, ⟨bsx, hpx⟩, _⟩ := hx0
  have hok := hpx.c.ok
  have hso := hpx.c.so
  have hmm := hpx.c.mm
  have hlen := sl_len hpx
  have hk4 := hpx.k4
  have PT : ∀ w1, SQ w0 N0 c z rc rz ly sz m mn lw hi k nb fm tm fr ss nd ss nd w1 → ∃ bs, Calls Tryz.prog 16 #[ptr c, .int .i64 x, .bool u] w1 fun ev w' => TkS N0 c z ly sz m bs ss mn lw hi k nb fm tm nd fr x u e w1 ev w' := fun w1 h => by
    obtain ⟨h0, ⟨bs, hp⟩, _⟩ := h
    exact ⟨bs, stake_ok N0 c z ly sz m bs ss mn lw hi k nb fm tm nd fr x u e w0 w1 he h0 hN hp⟩
  have RT : ∀ s1 n1 w1, SQ w0 N0 c z rc rz ly sz m mn lw hi k nb fm tm fr s1 n1 ss nd w1 → N0 ≤ w1.heap.size → ∃ rb rt nb2, Calls Tryz.prog 25 #[ptr rc, .int .i64 x, .bool u] w1 fun ev w' => RtS N0 rc rz sz m rb rt ss mn lw hi k nb2 nd fr x u w1 ev w' := fun s1 n1 w1 h hs => by
    obtain ⟨_, _, rb, rt, nb2, hr⟩ := h
    exact ⟨rb, rt, nb2, rtake_ok N0 rc rz sz m rb rt ss mn lw hi k nb2 nd fr x u w1 hr hok hso hmm hlen hs hk4 hfr⟩
  by_cases hx : 0 ≤ x ∧ x < k
  · obtain ⟨x', rfl⟩ := Int.eq_ofNat_of_zero_le hx.1
    have hxk : x' < k := by omega
    cases hb : (bst m x' ss ss.length).1 with
    | some j =>
      obtain ⟨hj, _, _⟩ := bst_some hb
      have es : ss[j]? = some (ss[j]) := List.getElem?_eq_getElem hj
      generalize ss[j] = s at es
      refine ⟨s.nd, s.at_ * 64 + ff s.bm * sz, .nilIface, 0, ss.set j { s with bm := s.bm ||| 2 ^ ff s.bm }, nd, fun w1 h => ?_, fun w1 h hs => ?_, fun w1 _ => coded_nil w1⟩
      · obtain ⟨bs, hc⟩ := PT w1 h
        refine hc.mono ?_
        rintro ev w' hT
        cases hT with
        | no a _ ha hp hc hr =>
          rcases hr with ⟨_, h'⟩ | ⟨x2, hx2, _, hb2, _⟩
          · exact absurd hx h'
          · obtain rfl : x' = x2 := by omega
            rw [hb] at hb2; cases hb2
        | old x2 j2 s2 _ hx2 _ hb2 hs2 hp hc =>
          obtain rfl : x' = x2 := by omega
          rw [hb] at hb2; cases hb2
          rw [es] at hs2; cases hs2
          exact ⟨rfl, h.pk hN hc hp, hc⟩
        | new x2 i b q a _ hx2 _ hb2 =>
          obtain rfl : x' = x2 := by omega
          rw [hb] at hb2; cases hb2
      · obtain ⟨rb, rt, nb2, hc⟩ := RT _ _ w1 h hs
        refine hc.mono ?_
        rintro ev w' hT
        cases hT with
        | no r _ hp hc hr =>
          rcases hr with ⟨_, h'⟩ | ⟨x2, hx2, _, hb2, _⟩
          · exact absurd hx h'
          · obtain rfl : x' = x2 := by omega
            rw [hb] at hb2; cases hb2
        | old x2 j2 s2 _ hx2 _ hb2 hs2 hp hc =>
          obtain rfl : x' = x2 := by omega
          rw [hb] at hb2; cases hb2
          rw [es] at hs2; cases hs2
          exact ⟨rfl, h.rf hN hc hp, hc⟩
        | new x2 i q a _ _ _ _ hx2 _ hb2 =>
          obtain rfl : x' = x2 := by omega
          rw [hb] at hb2; cases hb2
    | none =>
      cases hf : (fr x').find? (fun i => tkC 0 mn u (nd i) == 2) with
      | none =>
        obtain ⟨a, ha, hae⟩ : ∃ a : Nat, a < 10 ∧ a = if (fr x').any (fun i => tkC 0 mn u (nd i) == 1) then 6 else 4 := ⟨_, by split <;> omega, rfl⟩
        refine ⟨0, 0, errV (e a), a + 1, ss, nd, fun w1 h => ?_, fun w1 h hs => ?_, fun w1 he1 => coded_sent a ha _ rfl w1 e he1⟩
        · obtain ⟨bs, hc⟩ := PT w1 h
          refine hc.mono ?_
          rintro ev w' hT
          cases hT with
          | no a2 _ ha2 hp hc hr =>
            rcases hr with ⟨_, h'⟩ | ⟨x2, hx2, _, _, _, haa⟩
            · exact absurd hx h'
            · obtain rfl : x' = x2 := by omega
              rw [← hae] at haa
              subst haa
              exact ⟨rfl, h.pk hN hc hp, hc⟩
          | old x2 j2 s2 _ hx2 _ hb2 =>
            obtain rfl : x' = x2 := by omega
            rw [hb] at hb2; cases hb2
          | new x2 i b q a _ hx2 _ _ hf2 =>
            obtain rfl : x' = x2 := by omega
            rw [hf] at hf2; cases hf2
        · obtain ⟨rb, rt, nb2, hc⟩ := RT _ _ w1 h hs
          refine hc.mono ?_
          rintro ev w' hT
          cases hT with
          | no r _ hp hc hr =>
            rcases hr with ⟨_, h'⟩ | ⟨x2, hx2, _, _, _, hrr⟩
            · exact absurd hx h'
            · obtain rfl : x' = x2 := by omega
              have : r = (a : Int) + 1 := by rw [hrr, hae]; split <;> rfl
              subst this
              exact ⟨rfl, h.rf hN hc hp, hc⟩
          | old x2 j2 s2 _ hx2 _ hb2 =>
            obtain rfl : x' = x2 := by omega
            rw [hb] at hb2; cases hb2
          | new x2 i q a _ _ _ _ hx2 _ _ hf2 =>
            obtain rfl : x' = x2 := by omega
            rw [hf] at hf2; cases hf2
      | some i =>
        obtain ⟨q, hq⟩ := pos_is hso i (tkA 0 (nd i))
        refine ⟨i, tkA 0 (nd i) * 64, .nilIface, 0, Sb.ins ss q ⟨i, tkA 0 (nd i), 1⟩, up nd i (tkN 0 (nd i)), fun w1 h => ?_, fun w1 h hs => ?_, fun w1 _ => coded_nil w1⟩
        · obtain ⟨bs, hc⟩ := PT w1 h
          refine hc.mono ?_
          rintro ev w' hT
          cases hT with
          | no a2 _ ha2 hp hc hr =>
            rcases hr with ⟨_, h'⟩ | ⟨x2, hx2, _, _, hf2, _⟩
            · exact absurd hx h'
            · obtain rfl : x' = x2 := by omega
              rw [hf] at hf2; cases hf2
          | old x2 j2 s2 _ hx2 _ hb2 =>
            obtain rfl : x' = x2 := by omega
            rw [hb] at hb2; cases hb2
          | new x2 i2 b q2 a _ hx2 _ _ hf2 hik ha hq2 hp hc =>
            obtain rfl : x' = x2 := by omega
            rw [hf] at hf2; cases hf2
            subst ha
            obtain rfl := hq.uniq hq2
            exact ⟨rfl, h.pk hN hc hp, hc⟩
        · obtain ⟨rb, rt, nb2, hc⟩ := RT _ _ w1 h hs
          refine hc.mono ?_
          rintro ev w' hT
          cases hT with
          | no r _ hp hc hr =>
            rcases hr with ⟨_, h'⟩ | ⟨x2, hx2, _, _, hf2, _⟩
            · exact absurd hx h'
            · obtain rfl : x' = x2 := by omega
              rw [hf] at hf2; cases hf2
          | old x2 j2 s2 _ hx2 _ hb2 =>
            obtain rfl : x' = x2 := by omega
            rw [hb] at hb2; cases hb2
          | new x2 i2 q2 a _ _ _ _ hx2 _ _ hf2 hik ha hq2 hp hc =>
            obtain rfl : x' = x2 := by omega
            rw [hf] at hf2; cases hf2
            subst ha
            obtain rfl := hq.uniq hq2
            exact ⟨rfl, h.rf hN hc hp, hc⟩
  · refine ⟨0, 0, errV (e 1), 2, ss, nd, fun w1 h => ?_, fun w1 h hs => ?_, fun w1 he1 => coded_sent 1 (by omega) 2 rfl w1 e he1⟩
    · obtain ⟨bs, hc⟩ := PT w1 h
      refine hc.mono ?_
      rintro ev w' hT
      cases hT with
      | no a2 _ ha2 hp hc hr =>
        rcases hr with ⟨rfl, _⟩ | ⟨x2, hx2, hxk, _⟩
        · exact ⟨rfl, h.pk hN hc hp, hc⟩
        · exact absurd (by omega) hx
      | old x2 j2 s2 _ hx2 hxk => exact absurd (by omega) hx
      | new x2 i2 b q2 a _ hx2 hxk => exact absurd (by omega) hx
    · obtain ⟨rb, rt, nb2, hc⟩ := RT _ _ w1 h hs
      refine hc.mono ?_
      rintro ev w' hT
      cases hT with
      | no r _ hp hc hr =>
        rcases hr with ⟨rfl, _⟩ | ⟨x2, hx2, hxk, _⟩
        · exact ⟨rfl, h.rf hN hc hp, hc⟩
        · exact absurd (by omega) hx
      | old x2 j2 s2 _ hx2 hxk => exact absurd (by omega) hx
      | new x2 i2 q2 a _ _ _ _ hx2 hxk => exact absurd (by omega) hx
end Sb
end Go.Proofs.YtjkdnoafgcmheaaGreatDoor
namespace Go.Proofs.YtjkdnoafgcmheaaGreatDoor
open Go.RowKit Go.Maps
namespace Sb
open Fr Bd Zn Dz
theorem cgive_pair (w0 : World) (e : Nat → Addr) (he : Errs w0 e) (N0 c z rc rz : Nat) (ly : Ly) (hly : ly.2 = .map #[] 0) (sz : Int) (m : Nat) (mn lw hi : Int) (k : Nat) (nb fm tm : Nat → Nat) (fr : Nat → List Nat) (ss : List Sl) (nd : Nat → Nd) (hN : w0.heap.size ≤ N0) (oN oA : Int) (wx : World) (hx0 : SQ w0 N0 c z rc rz ly sz m mn lw hi k nb fm tm fr ss nd ss nd wx) :
    ∃ d r ss', (∀ w1, SQ w0 N0 c z rc rz ly sz m mn lw hi k nb fm tm fr ss nd ss nd w1 → Calls Tryz.prog 15 #[ptr c, objV oN oA] w1 fun ev w' => ev = .returned d ∧ SQ w0 N0 c z rc rz ly sz m mn lw hi k nb fm tm fr ss' nd ss nd w' ∧ Chg K4 N0 w1 w') ∧
      (∀ w1, SQ w0 N0 c z rc rz ly sz m mn lw hi k nb fm tm fr ss' nd ss nd w1 → Calls Tryz.prog 26 #[ptr rc, objV oN oA] w1 fun ev w' => ev = .returned (.int .i64 r) ∧ SQ w0 N0 c z rc rz ly sz m mn lw hi k nb fm tm fr ss' nd ss' nd w' ∧ Chg R4 N0 w1 w') ∧
      (∀ w1, Errs w1 e → Calls Tryz.prog 22 #[d, .int .i64 r] w1 fun ev w' => ev = .returned (.bool true) ∧ Below w1.heap.size w1 w') := by
  obtain ⟨_, ⟨bsx, hpx⟩, _⟩ := hx0
  have hok := hpx.c.ok
  have hso := hpx.c.so
  have hmm := hpx.c.mm
  have hlen := sl_len hpx
  have hmu : (m : Int) * sz ≤ 64 := by rw [hmm.2.2]; exact Int.ediv_mul_le _ (by omega)
  have PT : ∀ w1, SQ w0 N0 c z rc rz ly sz m mn lw hi k nb fm tm fr ss nd ss nd w1 → ∃ bs, Calls Tryz.prog 15 #[ptr c, objV oN oA] w1 fun ev w' => GvS N0 c z ly sz m bs ss mn lw hi k nb fm tm nd fr oN oA e w1 ev w' := fun w1 h => by
    obtain ⟨h0, ⟨bs, hp⟩, _⟩ := h
    exact ⟨bs, sgive_ok N0 c z ly sz m bs ss mn lw hi k nb fm tm nd fr oN oA e w1 (he.below h0) hp hly⟩
  have RT : ∀ s1 n1 w1, SQ w0 N0 c z rc rz ly sz m mn lw hi k nb fm tm fr s1 n1 ss nd w1 → ∃ rb rt nb2, RR N0 w1 rc rz sz m rb rt ss mn lw hi k nb2 nd fr ∧ Calls Tryz.prog 26 #[ptr rc, objV oN oA] w1 fun ev w' => RgS N0 rc rz sz m rb rt ss oN oA w1 ev w' := fun s1 n1 w1 h => by
    obtain ⟨_, _, rb, rt, nb2, hr⟩ := h
    exact ⟨rb, rt, nb2, hr, rgive_ok N0 rc rz sz m rb rt ss oN oA w1 hr.hc hok hmm hlen⟩
  by_cases hg : ∃ j i, GiveAt m sz ss (oN, oA) j i
  · obtain ⟨j, i, hg⟩ := hg
    obtain ⟨s, es, _⟩ := id hg
    refine ⟨.nilIface, 0, ss.set j { s with bm := s.bm &&& (18446744073709551615 - 2 ^ i) }, fun w1 h => ?_, fun w1 h => ?_, fun w1 _ => coded_nil w1⟩
    · obtain ⟨bs, hc⟩ := PT w1 h
      refine hc.mono ?_
      rintro ev w' hT
      cases hT with
      | no _ hp hc hr => exact absurd hg (hr _ _)
      | yes j2 i2 s2 _ hg2 hs2 hp hc =>
        obtain ⟨rfl, rfl⟩ := GiveAt.uniq hso hmm.1 hmu hg hg2
        rw [es] at hs2; cases hs2
        exact ⟨rfl, h.pk hN hc hp, hc⟩
    · obtain ⟨rb, rt, nb2, hr, hc⟩ := RT _ _ w1 h
      refine hc.mono ?_
      rintro ev w' hT
      cases hT with
      | no _ hb hr2 => exact absurd hg (hr2 _ _)
      | yes j2 i2 s2 _ hg2 hs2 hp hc =>
        obtain ⟨rfl, rfl⟩ := GiveAt.uniq hso hmm.1 hmu hg hg2
        rw [es] at hs2; cases hs2
        have hc4 : Chg R4 N0 w1 w' := hc.mono (by decide) (Nat.le_refl _)
        exact ⟨rfl, h.rf hN hc4 (hr.turnC (hc.mono (by decide) (Nat.le_refl _)) hp), hc4⟩
  · refine ⟨errV (e 8), 9, ss, fun w1 h => ?_, fun w1 h => ?_, fun w1 he1 => coded_sent 8 (by omega) 9 rfl w1 e he1⟩
    · obtain ⟨bs, hc⟩ := PT w1 h
      refine hc.mono ?_
      rintro ev w' hT
      cases hT with
      | no _ hp hc hr => exact ⟨rfl, h.pk hN hc hp, hc⟩
      | yes j2 i2 s2 _ hg2 => exact absurd ⟨_, _, hg2⟩ hg
    · obtain ⟨rb, rt, nb2, hr, hc⟩ := RT _ _ w1 h
      refine hc.mono ?_
      rintro ev w' hT
      cases hT with
      | no _ hb hr2 => exact ⟨rfl, h.b hb, Chg.below hb⟩
      | yes j2 i2 s2 _ hg2 => exact absurd ⟨_, _, hg2⟩ hg
theorem shr_any (x : Nat) (q : Int) : ∀ (j g : Nat) (bs bs' : List Nat) (ss : List Sl) (nd : Nat → Nd), (shr x q j g bs ss nd).1 = (shr x q j g bs' ss nd).1 ∧ (shr x q j g bs ss nd).2.2 = (shr x q j g bs' ss nd).2.2
  | 0, g, bs, bs', ss, nd => ⟨rfl, rfl⟩
  | j + 1, g, bs, bs', ss, nd => by
    rw [shr, shr]
    split
    · split
      · exact shr_any x q j _ _ _ _ _
      · exact shr_any x q j _ _ _ _ _
    · exact ⟨rfl, rfl⟩
theorem cshrink_pair (w0 : World) (e : Nat → Addr) (he : Errs w0 e) (N0 c z rc rz : Nat) (ly : Ly) (sz : Int) (m : Nat) (mn lw hi : Int) (k : Nat) (nb fm tm : Nat → Nat) (fr : Nat → List Nat) (ss : List Sl) (nd : Nat → Nd) (hN : w0.heap.size ≤ N0) (x : Nat) (hx : x < k) (q : Int) (hq : 0 ≤ q) (wx : World) (hx0 : SQ w0 N0 c z rc rz ly sz m mn lw hi k nb fm tm fr ss nd ss nd wx) :
    ∃ (g : Nat) (ss' : List Sl) (nd' : Nat → Nd), (∀ w1, SQ w0 N0 c z rc rz ly sz m mn lw hi k nb fm tm fr ss nd ss nd w1 → Calls Tryz.prog 17 #[ptr c, .int .i64 x, .int .i64 q] w1 fun ev w' => ev = .returned (.tuple #[.int .i64 g, .nilIface]) ∧ SQ w0 N0 c z rc rz ly sz m mn lw hi k nb fm tm fr ss' nd' ss nd w' ∧ Chg K4 N0 w1 w') ∧
      (∀ w1, SQ w0 N0 c z rc rz ly sz m mn lw hi k nb fm tm fr ss' nd' ss nd w1 → N0 ≤ w1.heap.size → Calls Tryz.prog 30 #[ptr rc, .int .i64 x, .int .i64 q] w1 fun ev w' => ev = .returned (.int .i64 g) ∧ SQ w0 N0 c z rc rz ly sz m mn lw hi k nb fm tm fr ss' nd' ss' nd' w' ∧ Chg R4 N0 w1 w') := by
  obtain ⟨_, ⟨bsx, hpx⟩, _⟩ := hx0
  have hok := hpx.c.ok
  have hml := hpx.c.mle
  have hlen := sl_len hpx
  obtain ⟨g, b0, ss', nd', h0⟩ : ∃ g b0 ss' nd', shr x q ss.length 0 [] ss nd = (g, b0, ss', nd') := ⟨_, _, _, _, rfl⟩
  refine ⟨g, ss', nd', fun w1 h => ?_, fun w1 h hs => ?_⟩
  · obtain ⟨h1, ⟨bs, hp⟩, _⟩ := id h
    refine (shrink_ok N0 c z ly sz m bs ss mn lw hi k nb fm tm nd fr x q e w0 w1 he h1 hN hp).mono ?_
    rintro ev w' hT
    cases hT with
    | no _ hp hc hr => omega
    | yes x2 g2 bs2 ss2 nd2 _ hx2 _ _ hsh hp hc =>
      obtain rfl : x = x2 := by omega
      have ha := shr_any x q ss.length 0 bs [] ss nd
      rw [hsh, h0] at ha
      obtain ⟨rfl, h3⟩ := ha
      simp only [Prod.mk.injEq] at h3
      obtain ⟨rfl, rfl⟩ := h3
      exact ⟨rfl, h.pk hN hc hp, hc⟩
  · obtain ⟨_, _, rb, rt, nb2, hr⟩ := id h
    refine (rshrink_ok N0 rc rz sz m rb rt ss mn lw hi k nb2 nd fr x q w1 hr hok hx hml.2 hlen hs).mono ?_
    rintro ev w' ⟨g2, bs2, ts2, ss2, nd2, rfl, hr2, hc2, he2⟩
    obtain ⟨bx', hb⟩ := he2 []
    rw [h0] at hb
    simp only [Prod.mk.injEq] at hb
    obtain ⟨rfl, _, rfl, rfl⟩ := hb
    exact ⟨rfl, h.rf hN hc2 hr2, hc2⟩
end Sb
end Go.Proofs.YtjkdnoafgcmheaaGreatDoor
namespace Go.Proofs.YtjkdnoafgcmheaaGreatDoor
open Go.RowKit Go.Maps
namespace Sb
open Fr Bd Zn Dz
theorem cpage_pair (w0 : World) (e : Nat → Addr) (he : Errs w0 e) (N0 c z rc rz : Nat) (ly : Ly) (sz : Int) (m : Nat) (mn lw hi : Int) (k : Nat) (nb fm tm : Nat → Nat) (fr : Nat → List Nat) (ss : List Sl) (nd : Nat → Nd) (hN : w0.heap.size ≤ N0) (hfr : ∀ x, x < k → (fr x).length = k ∧ ∀ i ∈ fr x, i < k) (x : Int) (u : Bool) (wx : World) (hx0 : SQ w0 N0 c z rc rz ly sz m mn lw hi k nb fm tm fr ss nd ss nd wx) :
    ∃ vx va vo d r nd', (∀ w1, SQ w0 N0 c z rc rz ly sz m mn lw hi k nb fm tm fr ss nd ss nd w1 → Calls Tryz.prog 27 #[.pointer (some ⟨z, 0, none⟩), .int .i64 x, .int .i64 0, .bool u] w1 fun ev w' => ev = .returned (.tuple #[.agg #[.int .i64 vx, .int .i64 va, .int .i64 vo], d]) ∧ SQ w0 N0 c z rc rz ly sz m mn lw hi k nb fm tm fr ss nd' ss nd w' ∧ Chg K4 N0 w1 w') ∧
      (∀ w1, SQ w0 N0 c z rc rz ly sz m mn lw hi k nb fm tm fr ss nd' ss nd w1 → N0 ≤ w1.heap.size → Calls Tryz.prog 28 #[.pointer (some ⟨rz, 0, none⟩), .int .i64 x, .int .i64 0, .bool u] w1 fun ev w' => ev = .returned (.tuple #[.agg #[.int .i64 vx, .int .i64 va, .int .i64 vo], .int .i64 r]) ∧ SQ w0 N0 c z rc rz ly sz m mn lw hi k nb fm tm fr ss nd' ss nd' w' ∧ Chg R4 N0 w1 w') ∧
      (∀ w1, Errs w1 e → Calls Tryz.prog 22 #[d, .int .i64 r] w1 fun ev w' => ev = .returned (.bool true) ∧ Below w1.heap.size w1 w') := by
  obtain ⟨_, ⟨bsx, hpx⟩, _⟩ := hx0
  have hk4 := hpx.k4
  have PT : ∀ w1, SQ w0 N0 c z rc rz ly sz m mn lw hi k nb fm tm fr ss nd ss nd w1 → ∃ bs, PS N0 w1 c z ly sz m bs ss mn lw hi k nb fm tm nd fr ∧ Calls Tryz.prog 27 #[.pointer (some ⟨z, 0, none⟩), .int .i64 x, .int .i64 0, .bool u] w1 fun ev w' => TkAny z mn lw hi k nb fm tm nd fr x 0 u e w1 ev w' := fun w1 h => by
    obtain ⟨h0, ⟨bs, hp⟩, _⟩ := h
    exact ⟨bs, hp, ztake_any z mn lw hi k nb fm tm nd fr x 0 u w1 e (he.below h0) hp.d hk4⟩
  by_cases hbad : ¬ (0 ≤ x ∧ x < k)
  · refine ⟨0, 0, 0, .iface 304 (.pointer (some (e 1))), 2, nd, fun w1 h => ?_, fun w1 h hs => ?_, fun w1 he1 => coded_sent 1 (by omega) 2 rfl w1 e he1⟩
    · obtain ⟨bs, hp, hc⟩ := PT w1 h
      refine hc.mono ?_
      rintro ev w' hT
      rcases hT with ⟨a, _, hev, hb, hr⟩ | ⟨x', i, _, hx, hx', ho0, ho6, _⟩
      · rcases hr with ⟨rfl, _⟩ | ⟨x', hx, hx', ho0, ho6, _⟩
        · exact ⟨hev, h.b hb, Chg.below hb⟩
        · omega
      · omega
    · obtain ⟨_, _, rb, rt, nb2, hr⟩ := id h
      refine (rztake_bad rz mn lw hi k nb2 nd fr x 0 u w1 hr.hz (Or.inl hbad)).mono ?_
      rintro ev w' ⟨rfl, hb⟩
      exact ⟨rfl, h.b hb, Chg.below hb⟩
  · obtain ⟨x', rfl⟩ := Int.eq_ofNat_of_zero_le (show 0 ≤ x by omega)
    have hx : x' < k := by omega
    cases hf : (fr x').find? (fun i => tkC 0 mn u (nd i) == 2) with
    | none =>
      obtain ⟨a, ha, hae⟩ : ∃ a : Nat, a < 10 ∧ a = if (fr x').any (fun i => tkC 0 mn u (nd i) == 1) then 6 else 4 := ⟨_, by split <;> omega, rfl⟩
      refine ⟨0, 0, 0, .iface 304 (.pointer (some (e a))), a + 1, nd, fun w1 h => ?_, fun w1 h hs => ?_, fun w1 he1 => coded_sent a ha _ rfl w1 e he1⟩
      · obtain ⟨bs, hp, hc⟩ := PT w1 h
        refine hc.mono ?_
        rintro ev w' hT
        rcases hT with ⟨a', _, hev, hb, hr⟩ | ⟨x2, i, _, hx2, _, _, _, hf2, _⟩
        · rcases hr with ⟨_, hh⟩ | ⟨x2, hx2, _, _, _, _, haa⟩
          · omega
          · obtain rfl : x' = x2 := by omega
            rw [hev, haa, ← hae]
            exact ⟨rfl, h.b hb, Chg.below hb⟩
        · obtain rfl : x' = x2 := by omega
          rw [hf] at hf2
          cases hf2
      · obtain ⟨_, _, rb, rt, nb2, hr⟩ := id h
        refine (rztake_at rz mn lw hi k nb2 nd fr x' 0 u w1 hr.hz hx (by omega) (by omega) (hfr x' hx).1 (hfr x' hx).2 hk4).mono ?_
        rintro ev w' (⟨_, hev, hb⟩ | ⟨i, hf2, _⟩)
        · refine ⟨?_, h.b hb, Chg.below hb⟩
          rw [hev, hae]
          split <;> rfl
        · rw [hf] at hf2
          cases hf2
    | some i =>
      refine ⟨i, tkA 0 (nd i), 0, .nilIface, 0, up nd i (tkN 0 (nd i)), fun w1 h => ?_, fun w1 h hs => ?_, fun w1 _ => coded_nil w1⟩
      · obtain ⟨bs, hp, hc⟩ := PT w1 h
        refine hc.mono ?_
        rintro ev w' hT
        rcases hT with ⟨a', _, hev, hb, hr⟩ | ⟨x2, i2, at', hx2, _, _, _, hf2, hi2, rfl, hev, hd, hk⟩
        · rcases hr with ⟨_, hh⟩ | ⟨x2, hx2, _, _, _, hf2, _⟩
          · omega
          · obtain rfl : x' = x2 := by omega
            rw [hf] at hf2
            cases hf2
        · obtain rfl : x' = x2 := by omega
          rw [hf] at hf2
          cases hf2
          have ht : tkC 0 mn u (nd i) = 2 := by simpa using List.find?_some hf
          have hC : Chg [none] N0 w1 w' := Chg.maps hk (hp.d.bd _ hi2).f (hp.d.bd _ hi2).t (hp.mf _ hi2).1 (hp.mf _ hi2).2
          have hC4 : Chg K4 N0 w1 w' := hC.mono (by decide) (Nat.le_refl _)
          have hp' : PS N0 w' c z ly sz m bs ss mn lw hi k nb fm tm (up nd i (tkN 0 (nd i))) fr := ⟨hd, hp.c.same (hC.toSame (by decide)) (hk.block _ hp.c.ym.lt (hp.ml i hi2).1 (hp.ml i hi2).2), hp.ow.take hi2 (hp.d.ok i hi2) ht, hp.mf, hp.k4, hp.ml⟩
          exact ⟨hev, h.pk hN hC4 hp', hC4⟩
      · obtain ⟨_, _, rb, rt, nb2, hr⟩ := id h
        refine (rztake_at rz mn lw hi k nb2 nd fr x' 0 u w1 hr.hz hx (by omega) (by omega) (hfr x' hx).1 (hfr x' hx).2 hk4).mono ?_
        rintro ev w' (⟨hf2, _⟩ | ⟨i2, hf2, hi2, hev, cn, gn, hcn, hr', ⟨ht, cp, hat⟩, hk⟩)
        · rw [hf] at hf2
          cases hf2
        · rw [hf] at hf2
          cases hf2
          have hC : Chg [some 137] N0 w1 w' := Chg.one hk ht (hr.r gn cp hat)
          have hC4 : Chg R4 N0 w1 w' := hC.mono (by decide) (Nat.le_refl _)
          refine ⟨hev, h.rf hN hC4 (rb := rb) (rt := rt) ⟨hr', hr.hc.same (hC.toSame (by decide)), fun j hj => ?_, fun g cp e2 => hr.r g cp ((World.cell?_of_block (w := w1) (a := ⟨rz, 5, none⟩) (hC.same hr.hz.tg (by decide))).symm.trans e2)⟩, hC4⟩
          by_cases hji : j = i
          · subst hji; rw [up_at]; omega
          · rw [up_ne _ _ hji]; exact hr.g j hj
end Sb
end Go.Proofs.YtjkdnoafgcmheaaGreatDoor
