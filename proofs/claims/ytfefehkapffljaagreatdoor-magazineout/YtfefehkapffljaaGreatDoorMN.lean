/- How many objects lie on a depot's trays · A law that knows which objects are out: what a depot's Take and Give make of it · giveBack, by contract: all objects of some trays go back to the cache. -/
import Derived.Test.YtfefehkapffljaaGreatDoorMM
namespace Go.Proofs.YtfefehkapffljaaGreatDoor
open Go.RowKit Go.Maps
namespace Mg
open Fr Bd Zn Dz Sb
/-- How many objects lie on trays. -/
def sumL (ct : Nat → List Bl) (L : List Nat) : Nat := (L.map fun t => (ct t).length).sum
section
variable {ct ct' : Nat → List Bl} {L L' : List Nat} {t a b a' b' tn i : Nat} {xs : List Bl} {o x : Bl} {ws ws' : List (Nat × Nat)} {pl pl' : List Nat}
theorem sumL_cons : sumL ct (t :: L) = (ct t).length + sumL ct L := by simp [sumL]
theorem sumL_app : sumL ct (L ++ L') = sumL ct L + sumL ct L' := by simp [sumL]
theorem sumL_perm (h : L.Perm L') : sumL ct L = sumL ct L' := (h.map _).sum_nat
theorem sumL_off (h : t ∉ L) : sumL (upN ct t xs) L = sumL ct L := by
  unfold sumL
  congr 1
  refine List.map_congr_left fun u hu => ?_
  rw [upN_ne (fun e => h (by rw [← e]; exact hu))]
theorem sumL_up (hn : L.Nodup) (ht : t ∈ L) : sumL (upN ct t xs) L + (ct t).length = sumL ct L + xs.length := by
  induction L with
  | nil => cases ht
  | cons u L ih =>
    obtain ⟨h1, h2⟩ := List.nodup_cons.1 hn
    rw [sumL_cons, sumL_cons]
    by_cases e : u = t
    · subst e
      rw [upN_at, sumL_off h1]
      omega
    · rw [upN_ne e]
      have := ih h2 (by rcases List.mem_cons.1 ht with e' | h'; exact absurd e'.symm e; exact h')
      omega
theorem sumL_zero (h : ∀ t ∈ L, ct t = []) : sumL ct L = 0 := by
  induction L with
  | nil => rfl
  | cons u L ih =>
    rw [sumL_cons, h u (by simp), ih (fun t ht => h t (List.mem_cons_of_mem _ ht))]
    rfl
theorem sumT_sumL (L : List Nat) : ∀ n, n ≤ L.length → sumT ct L n = sumL ct (L.take n)
  | 0, _ => by simp [sumT, sumL]
  | n + 1, h => by
    have e : L[n]? = some L[n] := List.getElem?_eq_getElem (by omega)
    rw [sumT_at e, sumT_sumL L n (by omega), List.take_add_one, e, sumL_app]
    simp [sumL]
theorem sumT_all : sumT ct L L.length = sumL ct L := by rw [sumT_sumL L _ (Nat.le_refl _), List.take_length]
/-- An object lies on one of the trays. -/
def OnT (ct : Nat → List Bl) (L : List Nat) (x : Bl) : Prop := ∃ u ∈ L, x ∈ ct u
theorem LdR.lies (h : LdR ct a b pl a' b' pl') (hx : ws[i]? = some (a, b)) : sumL ct (trs (ws.set i (a', b')) pl') = sumL ct (trs ws pl) ∧ ∀ u ∈ trs (ws.set i (a', b')) pl', u ∈ trs ws pl := by
  have hi : i < ws.length := (List.getElem?_eq_some_iff.1 hx).1
  have p1 := trs_perm pl hx
  have p2 := trs_set hi a' b' pl'
  rw [sumL_perm p1, sumL_perm p2]
  cases h with
  | keep _ _ => exact ⟨rfl, fun u hu => p1.mem_iff.2 (p2.mem_iff.1 hu)⟩
  | swap _ _ _ =>
    refine ⟨by simp only [sumL_cons]; omega, fun u hu => p1.mem_iff.2 ((List.Perm.swap a b _).mem_iff.1 (p2.mem_iff.1 hu))⟩
  | none _ _ =>
    refine ⟨by simp only [sumL_cons]; omega, fun u hu => p1.mem_iff.2 ((List.Perm.swap a b _).mem_iff.1 (p2.mem_iff.1 hu))⟩
  | pile _ _ h1 h2 =>
    have p3 := trs_app (ws.eraseIdx i) pl' a'
    have p4 := (List.Perm.cons a (List.Perm.cons b p3))
    refine ⟨?_, fun u hu => p1.mem_iff.2 (p4.mem_iff.2 ?_)⟩
    · rw [sumL_perm p4]
      simp only [sumL_cons, h1, h2, List.length_nil]
      omega
    · have := p2.mem_iff.1 hu
      simp only [List.mem_cons] at this ⊢
      rcases this with h | h | h
      · exact Or.inr (Or.inr (Or.inl h))
      · exact Or.inl h
      · exact Or.inr (Or.inr (Or.inr h))
theorem GvR.lies (h : GvR ct a b i o ws pl ws' pl' ct') (hn : (trs ws pl).Nodup) (hx : ws[i]? = some (a, b)) : sumL ct' (trs ws' pl') = sumL ct (trs ws pl) + 1 ∧ OnT ct' (trs ws' pl') o ∧ (∀ x, x ≠ o → OnT ct' (trs ws' pl') x → OnT ct (trs ws pl) x) ∧ ws'.length = ws.length := by
  have hi : i < ws.length := (List.getElem?_eq_some_iff.1 hx).1
  have p1 := trs_perm pl hx
  have hn1 := p1.nodup_iff.1 hn
  have ha : a ∈ trs ws pl := p1.mem_iff.2 (by simp)
  have hb : b ∈ trs ws pl := p1.mem_iff.2 (by simp)
  cases h with
  | room h =>
    refine ⟨?_, ⟨a, ha, by rw [upN_at]; simp⟩, fun x hne ⟨u, hu, hm⟩ => ?_, rfl⟩
    · have := sumL_up (ct := ct) (xs := ct a ++ [o]) hn ha
      rw [List.length_append, List.length_singleton] at this
      omega
    · by_cases e : u = a
      · subst e
        rw [upN_at] at hm
        rcases List.mem_append.1 hm with h' | h'
        · exact ⟨u, hu, h'⟩
        · exact absurd (List.mem_singleton.1 h') hne
      · rw [upN_ne e] at hm
        exact ⟨u, hu, hm⟩
  | swap h h2 =>
    have p2 := (trs_set hi b a pl).trans ((List.Perm.swap a b _).trans p1.symm)
    refine ⟨?_, ⟨b, p2.mem_iff.2 hb, by rw [upN_at]; simp⟩, fun x hne ⟨u, hu, hm⟩ => ?_, by simp⟩
    · rw [sumL_perm p2]
      have := sumL_up (ct := ct) (xs := [o]) hn hb
      rw [h2, List.length_nil, List.length_singleton] at this
      omega
    · by_cases e : u = b
      · subst e
        rw [upN_at] at hm
        exact absurd (List.mem_singleton.1 hm) hne
      · rw [upN_ne e] at hm
        exact ⟨u, p2.mem_iff.1 hu, hm⟩
  | pile tn h h2 h3 =>
    have p3 := trs_app (ws.eraseIdx i) pl a
    have p4 : (trs (ws.set i (tn, b)) (pl ++ [a])).Perm (tn :: trs ws pl) := (trs_set hi tn b (pl ++ [a])).trans (List.Perm.cons tn (((List.Perm.cons b p3).trans (List.Perm.swap a b _)).trans p1.symm))
    refine ⟨?_, ⟨tn, p4.mem_iff.2 (by simp), by rw [upN_at]; simp⟩, fun x hne ⟨u, hu, hm⟩ => ?_, by simp⟩
    · rw [sumL_perm p4, sumL_cons, upN_at, sumL_off h3, List.length_singleton]
      omega
    · by_cases e : u = tn
      · subst e
        rw [upN_at] at hm
        exact absurd (List.mem_singleton.1 hm) hne
      · rw [upN_ne e] at hm
        rcases List.mem_cons.1 (p4.mem_iff.1 hu) with e' | h'
        · exact absurd e' e
        · exact ⟨u, h', hm⟩
end
end Mg
end Go.Proofs.YtfefehkapffljaaGreatDoor
namespace Go.Proofs.YtfefehkapffljaaGreatDoor
open Go.RowKit Go.Maps
namespace Mg
open Fr Bd Zn Dz Sb
section
variable {w0 : World} {N0 : Nat} {U V : Nat → Prop} {c z d g : Nat} {sz : Int} {m : Nat} {mn lw hi : Int} {k : Nat} {nb fm tm : Nat → Nat} {fr : Nat → List Nat} {Q : Nat} {ss ss' : List Sl} {nd nd' : Nat → Nd} {ws : List (Nat × Nat)} {pl L : List Nat} {ct : Nat → List Bl} {w w' : World}
/-- What a cache's Take beneath a depot does to what is taken. -/
inductive StR (w0 : World) (N0 : Nat) (U : Nat → Prop) (c z d g : Nat) (sz : Int) (m : Nat) (mn lw hi : Int) (k : Nat) (nb fm tm : Nat → Nat) (fr : Nat → List Nat) (Q : Nat) (ss : List Sl) (ws : List (Nat × Nat)) (pl : List Nat) (ct : Nat → List Bl) (e : Nat → Addr) (w w' : World) : Ending → Prop
  | no (a : Nat) (ha : a < 10) (nd : Nat → Nd) (h : DQ w0 N0 U c z d g sz m mn lw hi k nb fm tm fr Q ss nd ws pl ct w') (hu : UK U w w') : StR w0 N0 U c z d g sz m mn lw hi k nb fm tm fr Q ss ws pl ct e w w' (.returned (.tuple #[objV 0 0, errV (e a)]))
  | yes (p q : Int) (ss' : List Sl) (nd : Nat → Nd) (h : DQ w0 N0 U c z d g sz m mn lw hi k nb fm tm fr Q ss' nd ws pl ct w') (hu : UK U w w') (ht : Tkn m sz ss' p q) (hn : ¬ Tkn m sz ss p q) (hk : ∀ a b, Tkn m sz ss a b → Tkn m sz ss' a b) (hl : totL m ss' = totL m ss + 1) : StR w0 N0 U c z d g sz m mn lw hi k nb fm tm fr Q ss ws pl ct e w w' (.returned (.tuple #[objV p q, .nilIface]))
theorem ct_step {x : Int} {u : Bool} {e : Nat → Addr} {ev : Ending} (hT : CtR w0 N0 U c z d g sz m mn lw hi k nb fm tm fr Q ss nd ws pl ct x u e w ev w') (hm : 1 ≤ m ∧ m ≤ 64) (hmm : 1 ≤ sz ∧ sz ≤ 64 ∧ (m : Int) = 64 / sz) (hb : ∀ s ∈ ss, s.bm < 2 ^ m) (hso : Sorted ss) (how : Ow k nd ss) (hok : ∀ i, i < k → (nd i).ok) : StR w0 N0 U c z d g sz m mn lw hi k nb fm tm fr Q ss ws pl ct e w w' ev := by
  cases hT with
  | no a _ ha hd hu hr => exact .no a ha nd hd hu
  | old x' j s _ h1 h2 h3 h4 hd hu =>
    obtain ⟨hj, hnd, hpop⟩ := bst_some h3
    rw [getD_at h4] at hnd hpop
    have hsm := hb s (List.mem_of_getElem? h4)
    obtain ⟨f1, f2, f3⟩ := ff_spec hsm hm.2 hpop
    have e1 := totL_set m ss j s { s with bm := s.bm ||| 2 ^ ff s.bm } h4
    simp only [pop_setbit hsm hm.2 hpop] at e1
    refine .yes _ _ _ nd hd hu ?_ ?_ (fun p q h => h.or h4 _) (by omega)
    · exact ⟨j, ff s.bm, _, List.getElem?_set_self hj, f1, by simp [Nat.testBit_or], rfl, rfl⟩
    · rintro ⟨j', i', s', es, hi, hbt, hn, ha⟩
      have hm1 := mul_in hmm.1 hmm.2.2 hi
      have hm2 := mul_in hmm.1 hmm.2.2 f1
      simp only at hn ha
      have e2 : s.at_ = s'.at_ := by omega
      have e3 : j = j' := sorted_uniq hso h4 es (by omega) e2
      subst e3
      rw [h4] at es
      cases es
      have e4 : (ff s.bm : Int) * sz = i' * sz := by omega
      have e5 : (ff s.bm : Int) = i' := Int.eq_of_mul_eq_mul_right (by omega) e4
      have e6 : ff s.bm = i' := by omega
      rw [← e6, f2] at hbt
      cases hbt
  | new x' i q a _ h1 h2 h3 h4 h5 h6 h7 hd hu =>
    have htk : tkC 0 mn u (nd i) = 2 := by
      have := List.find?_some h4
      simpa using this
    refine .yes _ _ _ _ hd hu ?_ ?_ (fun p q' h => h.ins h7.1 _) ?_
    · exact ⟨q, 0, ⟨i, a, 1⟩, by rw [ins_get _ h7.1, if_neg (by omega), if_pos rfl], by omega, (show (1 : Nat).testBit 0 = true by decide), rfl, by simp⟩
    · rintro ⟨j', i', s', es, hi, hbt, hn, ha⟩
      have hm1 := mul_in hmm.1 hmm.2.2 hi
      simp only at hn ha
      have hs' := List.mem_of_getElem? es
      have := how.fresh (hok i h5) htk s' hs' (by omega)
      omega
    · rw [totL_ins]
      have e1 : pop 1 m = 1 := by
        have h0 := pop_setbit (x := 0) (m := m) (Nat.two_pow_pos _) hm.2 (by rw [pop_of_zero]; omega)
        rw [ff_zero, pop_of_zero] at h0
        exact h0
      simp only [e1]
      try omega
/-- What is out: on no tray; what the cache misses is out or on a tray. -/
structure MO (w0 : World) (N0 : Nat) (U : Nat → Prop) (c z d g : Nat) (sz : Int) (m : Nat) (mn lw hi : Int) (nb fm tm : Nat → Nat) (fr : Nat → List Nat) (n : Nat) (Q : Nat) (S : List Bl) (lo : List Bl) (w : World) : Prop where
  ex : ∃ ss nd ws pl ct, DQ w0 N0 U c z d g sz m mn lw hi 1 nb fm tm fr Q ss nd ws pl ct w ∧ ws.length = n ∧ (∀ o ∈ lo, Tkn m sz ss o.1 o.2 ∧ ¬ OnT ct (trs ws pl) o) ∧ totL m ss = lo.length + sumL ct (trs ws pl) ∧ ∀ o ∈ S, OnT ct (trs ws pl) o
  nd : lo.Nodup
theorem DQ.facts (h : DQ w0 N0 U c z d g sz m mn lw hi k nb fm tm fr Q ss nd ws pl ct w) : (1 ≤ m ∧ m ≤ 64) ∧ (1 ≤ sz ∧ sz ≤ 64 ∧ (m : Int) = 64 / sz) ∧ (∀ s ∈ ss, s.bm < 2 ^ m) ∧ Sorted ss ∧ Ow k nd ss ∧ ∀ i, i < k → (nd i).ok := by
  obtain ⟨ly, bs, q, f, rb, h1, h2, h3⟩ := h.ex
  exact ⟨h1.c.mle, h1.c.mm, fun s hs => (h1.c.ok s hs).2.2.1, h1.c.so, h1.ow, h1.d.ok⟩
variable {n : Nat} {S : List Bl} {lo : List Bl}
theorem MO.map {w0' : World} (h : MO w0 N0 U c z d g sz m mn lw hi nb fm tm fr n Q S lo w) (hm : ∀ ss nd ws pl ct, DQ w0 N0 U c z d g sz m mn lw hi 1 nb fm tm fr Q ss nd ws pl ct w → DQ w0' N0 V c z d g sz m mn lw hi 1 nb fm tm fr Q ss nd ws pl ct w') : MO w0' N0 V c z d g sz m mn lw hi nb fm tm fr n Q S lo w' := by
  obtain ⟨ss, nd, ws, pl, ct, h1, h2⟩ := h.ex
  exact ⟨⟨ss, nd, ws, pl, ct, hm _ _ _ _ _ h1, h2⟩, h.nd⟩
theorem MO.b (h : MO w0 N0 U c z d g sz m mn lw hi nb fm tm fr n Q S lo w) (hb : Below w.heap.size w w') : MO w0 N0 U c z d g sz m mn lw hi nb fm tm fr n Q S lo w' := h.map fun _ _ _ _ _ h => h.b hb
theorem MO.less (h : MO w0 N0 U c z d g sz m mn lw hi nb fm tm fr n Q S lo w) (hv : ∀ j, V j → U j) : MO w0 N0 V c z d g sz m mn lw hi nb fm tm fr n Q S lo w := h.map fun _ _ _ _ _ h => h.less hv
theorem MO.b0 (h : MO w0 N0 U c z d g sz m mn lw hi nb fm tm fr n Q S lo w) : Below w0.heap.size w0 w := by
  obtain ⟨_, _, _, _, _, h1, _⟩ := h.ex
  exact h1.b0
theorem MO.ukb (h : MO w0 N0 U c z d g sz m mn lw hi nb fm tm fr n Q S lo w) (hb : Below w.heap.size w w') : UK U w w' := by
  obtain ⟨_, _, _, _, _, h1, _⟩ := h.ex
  exact h1.ukb hb
theorem MO.forget (h : MO w0 N0 U c z d g sz m mn lw hi nb fm tm fr n Q S lo w) : MO w0 N0 U c z d g sz m mn lw hi nb fm tm fr n Q [] lo w := by
  obtain ⟨ss, nd, ws, pl, ct, h1, h2, h3, h4, h5⟩ := h.ex
  exact ⟨⟨ss, nd, ws, pl, ct, h1, h2, h3, h4, fun o ho => (by cases ho)⟩, h.nd⟩
theorem MO.box (h : MO w0 N0 U c z d g sz m mn lw hi nb fm tm fr n Q S lo w) (x y : Int) : MO w0 N0 (fun j => U j ∨ j = w.heap.size) c z d g sz m mn lw hi nb fm tm fr n Q S lo (w.alloc (.cells #[.int .i64 x, .int .i64 y] 42)) ∧ UK U w (w.alloc (.cells #[.int .i64 x, .int .i64 y] 42)) := by
  have hb := ballo (Below.refl w.heap.size w) (.cells #[.int .i64 x, .int .i64 y] 42)
  exact ⟨h.map fun _ _ _ _ _ h => h.more hb (Nat.le_refl _) (tag_new _ _ _), h.ukb hb⟩
/-- What a law sees of Take. -/
inductive MtR (w0 : World) (N0 : Nat) (U : Nat → Prop) (c z d g : Nat) (sz : Int) (m : Nat) (mn lw hi : Int) (nb fm tm : Nat → Nat) (fr : Nat → List Nat) (n : Nat) (Q : Nat) (lo : List Bl) (e : Nat → Addr) (w w' : World) : Ending → Prop
  | no (a : Nat) (h : MO w0 N0 U c z d g sz m mn lw hi nb fm tm fr n Q [] lo w') (hu : UK U w w') : MtR w0 N0 U c z d g sz m mn lw hi nb fm tm fr n Q lo e w w' (.returned (.tuple #[objV 0 0, errV (e a)]))
  | yes (p q : Int) (h : MO w0 N0 U c z d g sz m mn lw hi nb fm tm fr n Q [] (lo ++ [(p, q)]) w') (hu : UK U w w') (hn : (p, q) ∉ lo) : MtR w0 N0 U c z d g sz m mn lw hi nb fm tm fr n Q lo e w w' (.returned (.tuple #[objV p q, .nilIface]))
theorem MO.take (h : MO w0 N0 U c z d g sz m mn lw hi nb fm tm fr n Q S lo w) (hN : w0.heap.size ≤ N0) (e : Nat → Addr) (he : ErrsM w0 e) (x y : Int) (u : Bool) :
    Calls Tryz.prog 36 #[.pointer (some ⟨d, 0, none⟩), .int .i64 x, .int .i64 y, .bool u] w fun ev w' => MtR w0 N0 U c z d g sz m mn lw hi nb fm tm fr n Q lo e w w' ev := by
  obtain ⟨ss, nd, ws, pl, ct, h1, h2, h3, h4, _⟩ := h.ex
  obtain ⟨f1, f2, f3, f4, f5, f6⟩ := h1.facts
  refine (h1.dtake hN e he x y u).mono ?_
  intro ev w' hT
  cases hT with
  | bad _ _ hd hu => exact .no 1 ⟨⟨ss, nd, ws, pl, ct, hd, h2, h3, h4, fun o ho => (by cases ho)⟩, h.nd⟩ hu
  | lift i a b a' b' pl' xs o _ hx hws hl hc hd hu =>
    obtain ⟨s1, s2⟩ := hl.lies hws
    have hi : i < ws.length := (List.getElem?_eq_some_iff.1 hws).1
    have hmem : a' ∈ trs (ws.set i (a', b')) pl' := (trs_set hi a' b' pl').mem_iff.2 (by simp)
    have hon : OnT ct (trs ws pl) o := ⟨a', s2 _ hmem, by rw [hc]; simp⟩
    have hno : o ∉ lo := fun ho => (h3 o ho).2 hon
    have htk : Tkn m sz ss o.1 o.2 := h1.tk a' (s2 _ hmem) o (by rw [hc]; simp)
    obtain ⟨ly, bs, q, f, rb, h5, h6, h7⟩ := h1.ex
    have hsub : ∀ v x, v ∈ trs (ws.set i (a', b')) pl' → x ∈ upN ct a' xs v → v ∈ trs ws pl ∧ x ∈ ct v := fun v x hv hxm => by
      refine ⟨s2 v hv, ?_⟩
      by_cases e : v = a'
      · subst e
        rw [upN_at] at hxm
        rw [hc]; simp [hxm]
      · rw [upN_ne e] at hxm
        exact hxm
    have hou : ¬ OnT (upN ct a' xs) (trs (ws.set i (a', b')) pl') o := fun ⟨v, hv, hxm⟩ => by
      obtain ⟨g1, g2⟩ := hsub v o hv hxm
      have e1 := (h6.lf o.1 o.2 v).2 ⟨g1, g2⟩
      have e2 := (h6.lf o.1 o.2 a').2 ⟨s2 _ hmem, by rw [hc]; simp⟩
      rw [e1] at e2
      have e3 : v = a' := Option.some.inj e2
      rw [e3, upN_at] at hxm
      have := (h6.cn a' (s2 _ hmem)).1
      rw [hc] at this
      have := (List.nodup_append.1 this).2.2 o hxm o (by simp)
      exact this rfl
    have e5 := sumL_up (ct := ct) (xs := xs) hd.nodup hmem
    rw [hc, List.length_append, List.length_singleton] at e5
    refine .yes o.1 o.2 ⟨⟨ss, nd, _, _, _, hd, by simp [h2], fun x hx => ?_, ?_, fun o ho => (by cases ho)⟩, ?_⟩ hu hno
    · rcases List.mem_append.1 hx with hx | hx
      · exact ⟨(h3 x hx).1, fun ⟨v, hv, hxm⟩ => (h3 x hx).2 ⟨v, hsub v x hv hxm⟩⟩
      · obtain rfl : x = o := List.mem_singleton.1 hx
        exact ⟨htk, hou⟩
    · rw [List.length_append, List.length_singleton]
      omega
    · exact List.nodup_append.2 ⟨h.nd, by simp, fun x hx y hy e => hno (by have h9 := List.mem_singleton.1 hy; rw [e, h9] at hx; exact hx)⟩
  | cache i a b a' b' pl' _ _ hx hws hl hc hT =>
    obtain ⟨s1, s2⟩ := hl.lies hws
    have hS := ct_step hT f1 f2 f3 f4 f5 f6
    have hsub : ∀ x, OnT ct (trs (ws.set i (a', b')) pl') x → OnT ct (trs ws pl) x := fun x ⟨v, hv, hxm⟩ => ⟨v, s2 v hv, hxm⟩
    cases hS with
    | no a _ nd' hd hu => exact .no a ⟨⟨ss, nd', _, _, ct, hd, by simp [h2], fun x hx => ⟨(h3 x hx).1, fun ho => (h3 x hx).2 (hsub x ho)⟩, by omega, fun o ho => (by cases ho)⟩, h.nd⟩ hu
    | yes p q ss' nd' hd hu ht hn hk hl' =>
      have hno : (p, q) ∉ lo := fun ho => hn (h3 _ ho).1
      refine .yes p q ⟨⟨ss', nd', _, _, ct, hd, by simp [h2], fun x hx => ?_, ?_, fun o ho => (by cases ho)⟩, ?_⟩ hu hno
      · rcases List.mem_append.1 hx with hx | hx
        · exact ⟨hk _ _ (h3 x hx).1, fun ho => (h3 x hx).2 (hsub x ho)⟩
        · obtain rfl : x = (p, q) := List.mem_singleton.1 hx
          exact ⟨ht, fun ⟨v, hv, hxm⟩ => hn (h1.tk v (s2 v hv) (p, q) hxm)⟩
      · rw [List.length_append, List.length_singleton]
        omega
      · exact List.nodup_append.2 ⟨h.nd, by simp, fun x hx y hy e => hno (by have h9 := List.mem_singleton.1 hy; rw [e, h9] at hx; exact hx)⟩
theorem mem_out {l : List Bl} {i : Nat} {o x : Bl} (h : l[i]? = some o) (hn : l.Nodup) (hx : x ∈ l.take i ++ l.drop (i + 1)) : x ∈ l ∧ x ≠ o := by
  rw [← List.eraseIdx_eq_take_drop_succ] at hx
  refine ⟨List.mem_of_mem_eraseIdx hx, fun e => ?_⟩
  subst e
  obtain ⟨j, hj, hne⟩ := (List.mem_eraseIdx_iff_getElem?).1 hx |>.imp fun j h => h
  exact absurd ((List.getElem?_inj (List.getElem?_eq_some_iff.1 h).1 hn).1 (h.trans hne.symm)).symm hj
/-- An object that is out is given back. -/
theorem MO.give (h : MO w0 N0 U c z d g sz m mn lw hi nb fm tm fr n Q S lo w) (hN : w0.heap.size ≤ N0) (hQ : Q ≤ 900000) (hn : 1 ≤ n) (e : Nat → Addr) (he : ErrsM w0 e) {i : Nat} {o : Bl} (ho : lo[i]? = some o) :
    Calls Tryz.prog 35 #[.pointer (some ⟨d, 0, none⟩), .int .i64 0, .agg #[.int .i64 o.1, .int .i64 o.2]] w fun ev w' => ev = .returned .nilIface ∧ MO w0 N0 U c z d g sz m mn lw hi nb fm tm fr n (Q + 1) [o] (lo.take i ++ lo.drop (i + 1)) w' ∧ UK U w w' := by
  obtain ⟨ss, nd, ws, pl, ct, h1, h2, h3, h4, _⟩ := h.ex
  have hm := List.mem_of_getElem? ho
  obtain ⟨t1, t2⟩ := h3 o hm
  refine (h1.dgive hN hQ e he 0 o.1 o.2).mono ?_
  intro ev w' hG
  cases hG with
  | bad _ hx _ _ => omega
  | stale j _ _ _ hne _ _ => exact absurd ⟨t1, fun u hu hx => t2 ⟨u, hu, hx⟩⟩ hne
  | yes j a b ws' pl' ct' _ hx hws ht hne hg hd hu =>
    obtain ⟨g1, g2, g3, g4⟩ := hg.lies h1.nodup hws
    have hlen : (lo.take i ++ lo.drop (i + 1)).length + 1 = lo.length := by
      have := (List.getElem?_eq_some_iff.1 ho).1
      simp only [List.length_append, List.length_take, List.length_drop]
      omega
    refine ⟨rfl, ⟨⟨ss, nd, ws', pl', ct', hd, by omega, fun x hx => ?_, by omega, fun x hx => ?_⟩, ?_⟩, hu⟩
    · obtain ⟨k1, k2⟩ := mem_out ho h.nd hx
      exact ⟨(h3 x k1).1, fun hx' => (h3 x k1).2 (g3 x k2 hx')⟩
    · rw [List.mem_singleton.1 hx]
      exact g2
    · rw [← List.eraseIdx_eq_take_drop_succ]
      exact h.nd.sublist (List.eraseIdx_sublist _ _)
/-- An object that lies on a tray is given: stale. -/
theorem MO.stale (h : MO w0 N0 U c z d g sz m mn lw hi nb fm tm fr n Q S lo w) (hN : w0.heap.size ≤ N0) (hQ : Q ≤ 900000) (hn : 1 ≤ n) (e : Nat → Addr) (he : ErrsM w0 e) {o : Bl} (ho : o ∈ S) :
    Calls Tryz.prog 35 #[.pointer (some ⟨d, 0, none⟩), .int .i64 0, .agg #[.int .i64 o.1, .int .i64 o.2]] w fun ev w' => ev = .returned (errV (e 8)) ∧ MO w0 N0 U c z d g sz m mn lw hi nb fm tm fr n Q S lo w' ∧ UK U w w' := by
  obtain ⟨ss, nd, ws, pl, ct, h1, h2, h3, h4, h5⟩ := h.ex
  obtain ⟨v, hv, hvm⟩ := h5 o ho
  refine (h1.dgive hN hQ e he 0 o.1 o.2).mono ?_
  intro ev w' hG
  cases hG with
  | bad _ hx _ _ => omega
  | stale j _ _ _ hne hd hu => exact ⟨rfl, ⟨⟨ss, nd, ws, pl, ct, hd, h2, h3, h4, h5⟩, h.nd⟩, hu⟩
  | yes j a b ws' pl' ct' _ hx hws ht hne hg hd hu => exact absurd hvm (hne v hv)
end
end Mg
end Go.Proofs.YtfefehkapffljaaGreatDoor
namespace Go.Proofs.YtfefehkapffljaaGreatDoor
open Go.RowKit Go.Maps
namespace Mg
open Fr Bd Zn Dz Sb
theorem upN_upN {α : Type} (f : Nat → α) (t : Nat) (a b : α) : upN (upN f t a) t b = upN f t b := by
  funext x
  by_cases e : x = t
  · subst e; rw [upN_at, upN_at]
  · rw [upN_ne e, upN_ne e, upN_ne e]
theorem upN_id {α : Type} (f : Nat → α) (t : Nat) : upN f t (f t) = f := by
  funext x
  by_cases e : x = t
  · subst e; rw [upN_at]
  · rw [upN_ne e]
/-- How many objects lie on a tray, as its own cell says. -/
def lenAt (w : World) (t : Nat) : Nat := match w.cell? ⟨t, 1, none⟩ with | some (.slice _ n _) => n | _ => 0
theorem TRy.lenAt {N0 c t r : Nat} {w : World} {xs : List Bl} (h : TRy N0 w c t r xs) : Mg.lenAt w t = xs.length := by
  obtain ⟨v, e, o, hv⟩ := h.c1
  unfold Mg.lenAt
  rw [e]
  rcases hv with ⟨rfl, _⟩ | ⟨cp, rfl⟩
  · rcases o.2 with ⟨_, h0⟩ | ⟨g, cap, cur, e2, _⟩
    · exact h0.symm
    · cases e2
  · rfl
/-- What lies on the trays once some are emptied. -/
def offT (ct : Nat → List Bl) (l : List Nat) : Nat → List Bl := fun t => if t ∈ l then [] else ct t
theorem offT_nil (ct : Nat → List Bl) : offT ct [] = ct := by funext x; simp [offT]
theorem offT_in {ct : Nat → List Bl} {l : List Nat} {t : Nat} (h : t ∈ l) : offT ct l t = [] := if_pos h
theorem offT_out {ct : Nat → List Bl} {l : List Nat} {t : Nat} (h : t ∉ l) : offT ct l t = ct t := if_neg h
theorem offT_next {ct : Nat → List Bl} {l : List Nat} {i t : Nat} (h : l[i]? = some t) : upN (offT ct (l.take i)) t [] = offT ct (l.take (i + 1)) := by
  funext x
  rw [List.take_add_one, h]
  by_cases e : x = t
  · subst e; rw [upN_at, offT_in (by simp)]
  · rw [upN_ne e]
    by_cases e2 : x ∈ l.take i
    · rw [offT_in e2, offT_in (by simp [e2])]
    · rw [offT_out e2, offT_out (by simp [e2, e])]
theorem take_off {l : List Nat} (hn : l.Nodup) {i t : Nat} (h : l[i]? = some t) : t ∉ l.take i := fun hm => by
  obtain ⟨j, hj⟩ := List.getElem?_of_mem hm
  rw [List.getElem?_take] at hj
  split at hj
  · rename_i h1
    have := (List.getElem?_inj (List.getElem?_eq_some_iff.1 h).1 hn).1 (h.trans hj.symm)
    omega
  · cases hj
section
variable {w0 : World} {N0 : Nat} {U V : Nat → Prop} {c z d g : Nat} {sz : Int} {m : Nat} {mn lw hi : Int} {k : Nat} {nb fm tm : Nat → Nat} {fr : Nat → List Nat} {Q : Nat} {ss ssA : List Sl} {nd : Nat → Nd} {ws : List (Nat × Nat)} {pl L : List Nat} {ct ctA : Nat → List Bl} {w w' W : World}
/-- Lift, whatever lies on the tray. -/
theorem DX.liftA (h : DX w0 N0 U c z d g sz m mn lw hi k nb fm tm fr Q ss nd ws pl L ct w) (hN : w0.heap.size ≤ N0) {t : Nat} (ht : t ∈ L) :
    Calls Tryz.prog 101 #[.pointer (some ⟨t, 0, none⟩)] w fun ev w' => ∃ oN oA b xs, ev = .returned (.tuple #[.agg #[.int .i64 oN, .int .i64 oA], .bool b]) ∧ DX w0 N0 U c z d g sz m mn lw hi k nb fm tm fr Q ss nd ws pl L (upN ct t xs) w' ∧ UK U w w' ∧ Sb.Same [164, 165, 168] w w' ∧ (b = true → ct t = xs ++ [(oN, oA)] ∧ Tkn m sz ss oN oA ∧ ∀ u ∈ L, (oN, oA) ∉ upN ct t xs u) ∧ (b = false → xs = [] ∧ ct t = []) := by
  rcases last_or (ct t) with hce | ⟨xs, ⟨oN, oA⟩, hce⟩
  · obtain ⟨r, hT, _⟩ := h.lift0 ht
    rw [hce] at hT
    refine (lift_none hT).mono ?_
    rintro ev w' ⟨rfl, hb⟩
    have e1 : upN ct t [] = ct := by rw [← hce]; exact upN_id ct t
    exact ⟨0, 0, false, [], rfl, by rw [e1]; exact h.b hb, fun j hj => hb.block j (h.uk j hj).lt, same_below hb, fun e => (by cases e), fun _ => ⟨rfl, hce⟩⟩
  · refine (h.lift hN ht hce).mono ?_
    rintro ev w' ⟨rfl, h2, uk, sm⟩
    refine ⟨oN, oA, true, xs, rfl, h2, uk, sm, fun _ => ⟨hce, h.tk t ht (oN, oA) (by rw [hce]; simp), fun u hu hm => ?_⟩, fun e => by cases e⟩
    obtain ⟨ly, bs, q, f, rb, h5, h6, h7⟩ := h.ex
    have hu2 : (oN, oA) ∈ ct u := by
      by_cases e : u = t
      · subst e; rw [upN_at] at hm; rw [hce]; simp [hm]
      · rw [upN_ne e] at hm; exact hm
    have e1 := (h6.lf oN oA u).2 ⟨hu, hu2⟩
    have e2 := (h6.lf oN oA t).2 ⟨ht, by rw [hce]; simp⟩
    rw [e1] at e2
    have e3 : u = t := Option.some.inj e2
    rw [e3, upN_at] at hm
    have hn := (h6.cn t ht).1
    rw [hce] at hn
    exact (List.nodup_append.1 hn).2.2 _ hm _ (by simp) rfl
/-- What is left of a tray that is being emptied; the box of who was lifted last. -/
structure GB (w0 : World) (N0 : Nat) (U : Nat → Prop) (c z d g : Nat) (sz : Int) (m : Nat) (mn lw hi : Int) (k : Nat) (nb fm tm : Nat → Nat) (fr : Nat → List Nat) (Q : Nat) (ssA : List Sl) (nd : Nat → Nd) (ws : List (Nat × Nat)) (pl L : List Nat) (ctA : Nat → List Bl) (t p : Nat) (b : Bool) (W w : World) : Prop where
  ex : ∃ ss2 xs oN oA, DX w0 N0 (fun j => U j ∨ j = p) c z d g sz m mn lw hi k nb fm tm fr Q ss2 nd ws pl L (upN ctA t xs) w ∧ Rx w p (.int .i64 oN) (.int .i64 oA) ∧ (b = true → Tkn m sz ss2 oN oA ∧ (∀ u ∈ L, (oN, oA) ∉ upN ctA t xs u) ∧ totL m ss2 + (ctA t).length = totL m ssA + xs.length + 1) ∧ (b = false → xs = [] ∧ totL m ss2 + (ctA t).length = totL m ssA)
  sm : Sb.Same [164, 165, 168] W w
  uk : UK U W w
theorem rx_two {w : World} {r : Nat} {x y : Int} (h : Rx w r (.int .i64 x) (.int .i64 y)) (x' y' : Int) : Rx ((w.setCell ⟨r, 0, none⟩ (.int .i64 x')).setCell ⟨r, 1, none⟩ (.int .i64 y')) r (.int .i64 x') (.int .i64 y') := by
  obtain ⟨r0, r1, rfz, rt⟩ := h
  obtain ⟨t0, t1⟩ := set2_at r0 r1 (.int .i64 x') (.int .i64 y')
  exact ⟨t0, t1, fun j => by rw [World.frozen?_setCell, World.frozen?_setCell]; exact rfz j, (rt.set _ _).set _ _⟩
theorem rx_val (w : World) (x y : Int) : Rx (w.alloc (.cells #[.int .i64 x, .int .i64 y] 42)) w.heap.size (.int .i64 x) (.int .i64 y) := by
  have q' := World.cell?_alloc_new w #[.int .i64 x, .int .i64 y] 42
  exact ⟨by simp [q' 0], by simp [q' 1], fun o => World.frozen?_alloc_at _ _ w.heap.size o rfl, tag_new _ _ _⟩
end
end Mg
end Go.Proofs.YtfefehkapffljaaGreatDoor
