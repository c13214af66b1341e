/- A cache on one node, filled: how many objects it has; the closed fact 'cached', its three acts · Free pages and taken ones are all pages; the closed fact 'cached' · The closed fact 'cached' of the laws of chapter 4. -/
import Derived.Test.YtfefehkapffljaaGreatDoorKH
namespace Go.Proofs.YtfefehkapffljaaGreatDoor
open Go.RowKit Go.Maps
namespace Sb
open Fr Bd Zn Dz
def totL (m : Nat) : List Sl → Nat
  | [] => 0
  | s :: l => pop s.bm m + totL m l
theorem totL_append (m : Nat) : ∀ (l k : List Sl), totL m (l ++ k) = totL m l + totL m k
  | [], k => by simp [totL]
  | s :: l, k => by simp only [List.cons_append, totL, totL_append m l k]; omega
theorem totL_ins (m : Nat) (l : List Sl) (q : Nat) (x : Sl) : totL m (Sb.ins l q x) = totL m l + pop x.bm m := by
  have h : totL m l = totL m (l.take q) + totL m (l.drop q) := by rw [← totL_append, List.take_append_drop]
  unfold Sb.ins
  rw [totL_append, totL, h]; omega
theorem totL_set (m : Nat) : ∀ (l : List Sl) (j : Nat) (s x : Sl), l[j]? = some s → totL m (l.set j x) + pop s.bm m = totL m l + pop x.bm m
  | [], j, s, x, h => by simp at h
  | y :: l, 0, s, x, h => by simp at h; subst h; simp only [List.set_cons_zero, totL]; omega
  | y :: l, j + 1, s, x, h => by
    have := totL_set m l j s x (by simpa using h)
    simp only [List.set_cons_succ, totL]; omega
theorem totL_le (m : Nat) : ∀ (l : List Sl), totL m l ≤ l.length * m
  | [] => by simp [totL]
  | s :: l => by
    have h1 := totL_le m l
    have h2 := pop_le s.bm m
    simp only [totL, List.length_cons, Nat.add_mul]; omega
theorem totL_full (m : Nat) : ∀ (l : List Sl), (∀ s ∈ l, ¬ pop s.bm m < m) → totL m l = l.length * m
  | [], _ => by simp [totL]
  | s :: l, h => by
    have h1 := totL_full m l (fun t ht => h t (List.mem_cons_of_mem _ ht))
    have h2 := pop_le s.bm m
    have h3 := h s (List.mem_cons_self ..)
    simp only [totL, List.length_cons, Nat.add_mul]; omega
theorem totL_lt (m : Nat) {l : List Sl} {j : Nat} {s : Sl} (h : l[j]? = some s) (hp : pop s.bm m < m) : totL m l < l.length * m := by
  have hj : j < l.length := (List.getElem?_eq_some_iff.mp h).1
  have e : l = Sb.ins (l.eraseIdx j) j s := by
    unfold Sb.ins
    rw [List.eraseIdx_eq_take_drop_succ]
    have h1 : (l.take j).length = j := by simp; omega
    rw [List.take_append_of_le_length (by omega), List.take_take, Nat.min_self, List.drop_append_of_le_length (by omega), List.drop_eq_nil_of_le (by omega), List.nil_append]
    have h2 : l[j] = s := (List.getElem?_eq_some_iff.mp h).2
    rw [← h2, List.getElem_cons_drop, List.take_append_drop]
  have h3 := totL_ins m (l.eraseIdx j) j s
  rw [← e] at h3
  have h4 := totL_le m (l.eraseIdx j)
  have h5 : (l.eraseIdx j).length = l.length - 1 := by rw [List.length_eraseIdx]; simp [hj]
  rw [h5] at h4
  have h6 : (l.length - 1) * m + m = l.length * m := by
    obtain ⟨n, hn⟩ : ∃ n, l.length = n + 1 := ⟨l.length - 1, by omega⟩
    rw [hn, Nat.add_mul]; simp
  omega
theorem tot_is (m : Nat) (ss : List Sl) : ∀ i, i ≤ ss.length → tot m ss i = totL m (ss.take i)
  | 0, _ => by simp [tot, totL]
  | i + 1, h => by
    rw [tot, tot_is m ss i (by omega), List.take_add_one, totL_append, getD_at (List.getElem?_eq_getElem (show i < ss.length by omega)), List.getElem?_eq_getElem (show i < ss.length by omega)]
    simp [totL]
theorem pop_setbit {x m : Nat} (hx : x < 2 ^ m) (hm : m ≤ 64) (hp : pop x m < m) : pop (x ||| 2 ^ ff x) m = pop x m + 1 := by
  obtain ⟨h1, h2, _⟩ := ff_spec hx hm hp
  rw [pop_set x (ff x) h2 m, if_pos h1]
theorem bst_all {m nd : Nat} {ss : List Sl} (h : (bst m nd ss ss.length).1 = none) (hs : ∀ s ∈ ss, s.nd = nd) : ∀ s ∈ ss, ¬ pop s.bm m < m := by
  intro s hm
  obtain ⟨i, hi, e⟩ := List.getElem_of_mem hm
  have e2 := List.getElem?_eq_getElem hi
  rw [e] at e2
  have := bst_none h i hi (by rw [getD_at e2]; exact hs s hm)
  rwa [getD_at e2] at this
theorem pgs_pos : ∀ {l : List Bl}, 0 ≤ pgs l ∧ (l ≠ [] → 1 ≤ pgs l)
  | [] => ⟨by simp [pgs], fun h => absurd rfl h⟩
  | x :: l => by
    have h1 := (pgs_pos (l := l)).1
    have h2 := pw_pos x.2
    simp only [pgs]
    exact ⟨by omega, fun _ => by omega⟩
/-- One node's pages, so many of them slabs; so many objects. -/
structure Fill (pg : Nat) (m : Nat) (d : Nd) (ss : List Sl) (t : Nat) : Prop where
  ok : d.ok
  pg : pgs d.F + ss.length = pg
  tt : totL m ss = t
  nd : ∀ s ∈ ss, s.nd = 0
theorem tkC_true {o mn : Int} {d : Nd} (h : tkC o mn true d ≠ 2) : fit o d.F = none := by
  cases hf : fit o d.F with
  | none => rfl
  | some x => simp [tkC, hf] at h
theorem tkC_one (o mn : Int) (d : Nd) : (tkC o mn true d == 1) = false := by
  cases hf : fit o d.F with
  | none => simp [tkC, hf]
  | some x => simp [tkC, hf]
theorem fit0_nil {d : Nd} (hok : d.ok) (h : fit 0 d.F = none) : d.F = [] := by
  rw [fit_none] at h
  cases hF : d.F with
  | nil => rfl
  | cons x l =>
    have h1 := h x (by rw [hF]; exact List.mem_cons_self ..)
    have h2 := (hok.2.2.oF x (by rw [hF]; exact List.mem_cons_self ..)).1
    omega
section
variable {N0 c z : Nat} {ly : Ly} {sz : Int} {m : Nat} {bs : List Nat} {ss : List Sl} {mn lw hi : Int} {nb fm tm : Nat → Nat} {nd : Nat → Nd} {fr : Nat → List Nat} {e : Nat → Addr} {w w' : World} {ev : Ending} {pg t : Nat}
theorem fill_lt (hT : TkS N0 c z ly sz m bs ss mn lw hi 1 nb fm tm nd fr 0 true e w ev w') (hfr : fr 0 = [0]) (hF : Fill pg m (nd 0) ss t) (hm : 1 ≤ m ∧ m ≤ 64) (hb : ∀ s ∈ ss, s.bm < 2 ^ m) (ht : t < pg * m) :
    ∃ a bs' ss' nd', ev = .returned (.tuple #[objV 0 a, .nilIface]) ∧ PS N0 w' c z ly sz m bs' ss' mn lw hi 1 nb fm tm nd' fr ∧ Fill pg m (nd' 0) ss' (t + 1) ∧ Chg K4 N0 w w' := by
  cases hT with
  | no a _ ha hp hc hr =>
    exfalso
    rcases hr with ⟨_, h⟩ | ⟨x', h1, h2, h3, h4, _⟩
    · omega
    · obtain rfl : x' = 0 := by omega
      rw [hfr] at h4
      have h5 : tkC 0 mn true (nd 0) ≠ 2 := by
        intro h
        simp [h] at h4
      have h6 := fit0_nil hF.ok (tkC_true h5)
      have h7 := totL_full m ss (bst_all h3 hF.nd)
      have h8 := hF.pg
      rw [h6] at h8
      simp only [pgs] at h8
      have h9 : ss.length = pg := by omega
      rw [h9, hF.tt] at h7
      omega
  | old x' j s _ h1 h2 h3 h4 hp hc =>
    obtain rfl : x' = 0 := by omega
    obtain ⟨hj, hnd, hpop⟩ := bst_some h3
    rw [getD_at h4] at hnd hpop
    have hsm := hb s (List.mem_of_getElem? h4)
    have e1 := totL_set m ss j s { s with bm := s.bm ||| 2 ^ ff s.bm } h4
    simp only [pop_setbit hsm hm.2 hpop] at e1
    refine ⟨_, _, _, _, by rw [hnd]; rfl, hp, ⟨hF.ok, by rw [List.length_set]; exact hF.pg, by have := hF.tt; omega, fun s' hs' => ?_⟩, hc⟩
    rcases List.mem_or_eq_of_mem_set hs' with q | rfl
    · exact hF.nd s' q
    · exact hnd
  | new x' i b q a _ h1 h2 h3 h4 h5 h6 h7 hp hc =>
    obtain rfl : i = 0 := by omega
    obtain rfl : x' = 0 := by omega
    have htk : tkC 0 mn true (nd 0) = 2 := by
      have := List.find?_some h4
      simpa using this
    have hok := hF.ok
    refine ⟨_, _, _, _, rfl, hp, ⟨by rw [up_at]; exact tkN_ok (by omega) hok, ?_, ?_, fun s hs => ?_⟩, hc⟩
    · rw [up_at, ins_length]
      have := hF.pg
      cases hf : fit 0 (nd 0).F with
      | none => simp [tkC, hf] at htk
      | some y =>
        obtain ⟨hy, hy2⟩ := fit_some hf
        have e1 : (tkN 0 (nd 0)).F = takeF 0 y (nd 0).F := by simp [tkN, hf]
        have e2 := pgs_takeF (by omega) hok.2.2 hy hy2
        have e3 : pw 0 = 1 := rfl
        rw [e1]; push_cast; omega
    · rw [totL_ins, hF.tt]
      have e1 : pop 1 m = 1 := by
        have h0 := pop_setbit (x := 0) (m := m) (Nat.two_pow_pos _) hm.2 (by rw [pop_of_zero]; omega)
        rw [ff_zero, pop_of_zero] at h0
        exact h0
      simp only [e1]
    · rcases ins_mem.mp hs with rfl | q
      · rfl
      · exact hF.nd s q
theorem fill_eq (hT : TkS N0 c z ly sz m bs ss mn lw hi 1 nb fm tm nd fr 0 true e w ev w') (hfr : fr 0 = [0]) (hF : Fill pg m (nd 0) ss (pg * m)) (hm : 1 ≤ m) :
    ev = .returned (.tuple #[objV 0 0, errV (e 4)]) ∧ PS N0 w' c z ly sz m bs ss mn lw hi 1 nb fm tm nd fr ∧ Chg K4 N0 w w' := by
  have hle := totL_le m ss
  have hpp := (pgs_pos (l := (nd 0).F)).1
  have hpg := hF.pg
  have htt := hF.tt
  have hlp : ss.length ≤ pg := by omega
  cases hT with
  | no a _ ha hp hc hr =>
    rcases hr with ⟨_, h⟩ | ⟨x', h1, h2, h3, h4, h5⟩
    · omega
    · obtain rfl : x' = 0 := by omega
      rw [hfr] at h5
      simp only [List.any_cons, tkC_one, List.any_nil, Bool.or_self, Bool.false_eq_true, if_false] at h5
      subst h5
      exact ⟨rfl, hp, hc⟩
  | old x' j s _ h1 h2 h3 h4 hp hc =>
    exfalso
    obtain ⟨hj, hnd, hpop⟩ := bst_some h3
    rw [getD_at h4] at hpop
    have := totL_lt m h4 hpop
    have : ss.length * m ≤ pg * m := Nat.mul_le_mul_right _ hlp
    omega
  | new x' i b q a _ h1 h2 h3 h4 h5 h6 h7 hp hc =>
    exfalso
    obtain rfl : i = 0 := by omega
    have htk : tkC 0 mn true (nd 0) = 2 := by
      have := List.find?_some h4
      simpa using this
    have hne : (nd 0).F ≠ [] := fun h => by
      cases hf : fit 0 (nd 0).F with
      | none => simp [tkC, hf] at htk
      | some y => have := (fit_some hf).1; rw [h] at this; cases this
    have := (pgs_pos (l := (nd 0).F)).2 hne
    have h8 : ss.length + 1 ≤ pg := by omega
    have : (ss.length + 1) * m ≤ pg * m := Nat.mul_le_mul_right _ h8
    rw [Nat.add_mul] at this
    omega
end
end Sb
end Go.Proofs.YtfefehkapffljaaGreatDoor
namespace Go.Proofs.YtfefehkapffljaaGreatDoor
open Go.RowKit Go.Maps
namespace Sb
open Fr Bd Zn Dz
def sumP (f : Int → Nat) : Nat → Nat
  | 0 => 0
  | n + 1 => sumP f n + f n
theorem sumP_add (f g : Int → Nat) : ∀ n, sumP (fun p => f p + g p) n = sumP f n + sumP g n
  | 0 => rfl
  | n + 1 => by simp only [sumP, sumP_add f g n]; omega
theorem sumP_zero : ∀ n, sumP (fun _ => 0) n = 0
  | 0 => rfl
  | n + 1 => by simp only [sumP, sumP_zero n]
theorem sum_inb (x : Bl) (h0 : 0 ≤ x.1) : ∀ n : Nat, (sumP (fun p => inb p x) n : Int) = (if (n : Int) ≤ x.1 then 0 else if (n : Int) ≤ x.1 + pw x.2 then (n : Int) - x.1 else pw x.2)
  | 0 => by
    have := pw_pos x.2
    simp only [sumP]
    rw [if_pos (by omega)]; rfl
  | n + 1 => by
    have h := sum_inb x h0 n
    have hp := pw_pos x.2
    simp only [sumP]
    by_cases hi : x.1 ≤ (n : Int) ∧ (n : Int) < x.1 + pw x.2
    · have e : inb (n : Int) x = 1 := inb_one.2 hi
      rw [e]
      rw [if_neg (by omega), if_pos (by omega)]
      by_cases h1 : (n : Int) ≤ x.1
      · rw [if_pos h1] at h; omega
      · rw [if_neg h1, if_pos (by omega)] at h; omega
    · have e : inb (n : Int) x = 0 := by unfold inb; rw [if_neg hi]
      rw [e]
      by_cases h1 : (n : Int) ≤ x.1
      · rw [if_pos h1] at h
        rw [if_pos (by omega)]; omega
      · rw [if_neg h1] at h
        rw [if_neg (by omega)]
        by_cases h2 : (n : Int) ≤ x.1 + pw x.2
        · rw [if_pos h2] at h
          rw [if_neg (by omega)]; omega
        · rw [if_neg h2] at h
          rw [if_neg (by omega)]; omega
theorem sum_cnt (N : Nat) : ∀ l : List Bl, (∀ x ∈ l, 0 ≤ x.1 ∧ x.1 + pw x.2 ≤ N) → (sumP (fun p => cnt p l) N : Int) = pgs l
  | [], _ => by simp only [cnt, sumP_zero, pgs]; rfl
  | x :: l, h => by
    have h1 := sum_cnt N l (fun y hy => h y (List.mem_cons_of_mem _ hy))
    have h2 := h x (List.mem_cons_self ..)
    have h3 := sum_inb x h2.1 N
    have hp := pw_pos x.2
    simp only [cnt, sumP_add, pgs]
    rw [if_neg (by omega)] at h3
    push_cast
    rw [h1, h3]
    split <;> omega
theorem sum_ind (N : Nat) : ∀ n : Nat, n ≤ N → sumP (fun p => ind N p) n = n
  | 0, _ => rfl
  | n + 1, h => by
    have h1 := sum_ind N n (by omega)
    have e : ind (N : Int) (n : Int) = 1 := ind_one.2 (by omega)
    simp only [sumP]
    rw [h1, e]
/-- All pages are free or taken. -/
theorem inv_pgs {N : Int} {F T : List Bl} (h : Inv N F T) (h0 : 0 ≤ N) : pgs F + pgs T = N := by
  obtain ⟨n, rfl⟩ := Int.eq_ofNat_of_zero_le h0
  have h1 := sum_cnt n F (fun x hx => h.inF hx)
  have h2 := sum_cnt n T (fun x hx => h.inT hx)
  have h3 := sum_ind n n (Nat.le_refl _)
  have e : (fun p => ind (n : Int) p) = fun p => cnt p F + cnt p T := by
    funext p
    exact (h.one p).symm
  rw [e, sumP_add] at h3
  omega
theorem pgs_nd0 {P : Nat → Int} {i : Nat} (h1 : 1 ≤ P i) (h2 : P i ≤ 256) : pgs (nd0 P i).F = P i := by
  have h := inv_pgs (nd0_ok h1 h2).2.2 (by show (0 : Int) ≤ P i; omega)
  have e : pgs (nd0 P i).T = 0 := rfl
  have e2 : (nd0 P i).N = P i := rfl
  rw [e, e2] at h
  omega
/-- A new cache on a new zone. -/
theorem ps_new {N0 : Nat} {w : World} {c z : Nat} {ly : Ly} {sz : Int} {m : Nat} {mn lw hi : Int} {k : Nat} {nb fm tm : Nat → Nat} {nd : Nat → Nd} {fr : Nat → List Nat} {w0 : World} (hD : DZ w0 z mn lw hi k nb fm tm nd fr) (hb : Below w0.heap.size w0 w) (hl : w0.heap.size ≤ ly.1) (hC : DC N0 w c z ly sz m [] []) (hf : ∀ i, i < k → N0 ≤ fm i ∧ N0 ≤ tm i) (hk : k ≤ 20) : PS N0 w c z ly sz m [] [] mn lw hi k nb fm tm nd fr :=
  ⟨hD.b hb, hC, fun s hs => (by cases hs), hf, hk, fun i hi => ⟨fun e => by have := (hD.bd i hi).f.lt; omega, fun e => by have := (hD.bd i hi).t.lt; omega⟩⟩
section
variable {N0 c z : Nat} {ly : Ly} {bs : List Nat} {ss : List Sl} {mn lw hi : Int} {nb fm tm : Nat → Nat} {nd : Nat → Nd} {fr : Nat → List Nat} {e : Nat → Addr} {w w' : World} {ev : Ending}
theorem cached1 (hT : TkS N0 c z ly 30 2 [] [] mn lw hi 1 nb fm tm nd fr 0 true e w ev w') (hfr : fr 0 = [0]) (hnd : nd 0 = ⟨1, [(0, 0)], []⟩) :
    ev = .returned (.tuple #[objV 0 0, .nilIface]) ∧ ∃ b nd', PS N0 w' c z ly 30 2 [b] [⟨0, 0, 1⟩] mn lw hi 1 nb fm tm nd' fr ∧ (nd' 0).F = [] ∧ Chg K4 N0 w w' := by
  have hft : fit 0 [((0 : Int), (0 : Int))] = some (0, 0) := by decide +kernel
  have h2 : tkC 0 mn true (nd 0) = 2 := by rw [hnd]; simp [tkC, hft]
  have hA : tkA 0 (nd 0) = 0 := by rw [hnd]; simp [tkA, hft]
  have hN : (tkN 0 (nd 0)).F = [] := by
    rw [hnd]; simp only [tkN, hft]
    decide +kernel
  cases hT with
  | no a _ ha hp hc hr =>
    exfalso
    rcases hr with ⟨_, h⟩ | ⟨x', h1, _, _, h4, _⟩
    · omega
    · obtain rfl : x' = 0 := by omega
      rw [hfr] at h4
      simp [h2] at h4
  | old x' j s _ h1 _ h3 h4 hp hc => simp at h4
  | new x' i b q a _ h1 _ h3 h4 h5 h6 h7 hp hc =>
    obtain rfl : i = 0 := by omega
    rw [hA] at h6
    subst h6
    obtain rfl : q = 0 := by have := h7.1; simpa using this
    refine ⟨rfl, b, _, hp, by rw [up_at]; exact hN, hc⟩
theorem cached2 {b : Nat} (hT : TkS N0 c z ly 30 2 [b] [⟨0, 0, 1⟩] mn lw hi 1 nb fm tm nd fr 0 true e w ev w') :
    ev = .returned (.tuple #[objV 0 30, .nilIface]) ∧ PS N0 w' c z ly 30 2 [b] [⟨0, 0, 3⟩] mn lw hi 1 nb fm tm nd fr ∧ Chg K4 N0 w w' := by
  have hb : (bst 2 0 [(⟨0, 0, 1⟩ : Sl)] 1).1 = some 0 := by decide +kernel
  have hff : ff 1 = 1 := by
    obtain ⟨h1, h2, h3⟩ := ff_spec (x := 1) (m := 2) (by decide) (by decide) (by decide +kernel)
    rcases Nat.lt_or_ge (ff 1) 1 with h | h
    · have : ff 1 = 0 := by omega
      rw [this] at h2
      simp at h2
    · omega
  cases hT with
  | no a _ ha hp hc hr =>
    exfalso
    rcases hr with ⟨_, h⟩ | ⟨x', h1, _, h3, h4, _⟩
    · omega
    · obtain rfl : x' = 0 := by omega
      rw [show ([(⟨0, 0, 1⟩ : Sl)]).length = 1 from rfl, hb] at h3
      cases h3
  | old x' j s _ h1 _ h3 h4 hp hc =>
    obtain rfl : x' = 0 := by omega
    rw [show ([(⟨0, 0, 1⟩ : Sl)]).length = 1 from rfl, hb] at h3
    obtain rfl : 0 = j := Option.some.inj h3
    simp only [List.getElem?_cons_zero, Option.some.injEq] at h4
    subst h4
    simp only [hff] at hp ⊢
    exact ⟨rfl, hp, hc⟩
  | new x' i b q a _ h1 _ h3 h4 h5 h6 h7 hp hc =>
    exfalso
    obtain rfl : x' = 0 := by omega
    rw [show ([(⟨0, 0, 1⟩ : Sl)]).length = 1 from rfl, hb] at h3
    cases h3
theorem cached3 {b : Nat} (hT : TkS N0 c z ly 30 2 [b] [⟨0, 0, 3⟩] mn lw hi 1 nb fm tm nd fr 0 true e w ev w') (hfr : fr 0 = [0]) (hF : (nd 0).F = []) :
    ev = .returned (.tuple #[objV 0 0, errV (e 4)]) ∧ PS N0 w' c z ly 30 2 [b] [⟨0, 0, 3⟩] mn lw hi 1 nb fm tm nd fr ∧ Chg K4 N0 w w' := by
  have hb : (bst 2 0 [(⟨0, 0, 3⟩ : Sl)] 1).1 = none := by decide +kernel
  have htk : tkC 0 mn true (nd 0) = 0 := by
    have : fit 0 (nd 0).F = none := by rw [hF]; rfl
    simp [tkC, this]
  cases hT with
  | no a _ ha hp hc hr =>
    rcases hr with ⟨_, h⟩ | ⟨x', h1, _, h3, h4, h5⟩
    · omega
    · obtain rfl : x' = 0 := by omega
      rw [hfr] at h5
      simp only [List.any_cons, tkC_one, List.any_nil, Bool.or_self, Bool.false_eq_true, if_false] at h5
      subst h5
      exact ⟨rfl, hp, hc⟩
  | old x' j s _ h1 _ h3 h4 hp hc =>
    exfalso
    obtain rfl : x' = 0 := by omega
    rw [show ([(⟨0, 0, 3⟩ : Sl)]).length = 1 from rfl, hb] at h3
    cases h3
  | new x' i b q a _ h1 _ h3 h4 h5 h6 h7 hp hc =>
    exfalso
    obtain rfl : x' = 0 := by omega
    rw [hfr] at h4
    simp [htk] at h4
end
end Sb
end Go.Proofs.YtfefehkapffljaaGreatDoor
namespace Go.Proofs.YtfefehkapffljaaGreatDoor
open Go.RowKit Go.Maps
namespace Sb
open Fr Bd Zn Dz
theorem cv1 : cv 0 1 = [(0, 0)] := by decide +kernel
set_option maxRecDepth 100000 in
set_option maxHeartbeats 8000000 in
theorem cached_ok (w : World) (e : Nat → Addr) (he : Errs w e) :
    Calls Tryz.prog 9 #[] w fun ev w' => ev = .returned (.bool true) ∧ Below w.heap.size w w' := by
  have HE := hide he
  clear he
  go_enter Tryz.func9, Tryz.ntmps9
  go_wp2_with fail
  refine (one_ok 1 w).mono ?_
  rintro ev w1 ⟨p, pc, q, qc, rfl, A1, b1⟩
  have HN := hide (znew_ok (oneC 1) p q pc qc w1 e ((unhide HE).below b1).three A1 (oneC_is 1 (by omega) (by omega)).2 (oneC_is 1 (by omega) (by omega)).1)
  clear A1
  unfold cfV at *
  go_wp2_with fail
  refine (unhide HN).mono ?_
  rintro ev w2 ⟨z, nb, fm, tm, rfl, D2, fr2, b2⟩
  have F2 := btr b1 b2
  have hnd : nd0 (oneC 1).P 0 = ⟨1, [(0, 0)], []⟩ := by
    show (⟨1, cv 0 1, []⟩ : Nd) = _
    rw [cv1]
  have hfr : (fun i => nfr ((oneC 1).D i) (oneC 1).n 1001) 0 = [0] := one_fr
  have hn1 : (oneC 1).n = 1 := rfl
  have HNW := hide (snew_ok w.heap.size z 30 w2 (by omega) (by omega) F2.size)
  generalize nd0 (oneC 1).P = nd at *
  generalize (fun i => nfr ((oneC 1).D i) (oneC 1).n 1001) = fr at *
  rw [hn1] at D2
  have HF2 := hide F2
  have HD2 := hide D2
  have HFR : Hid (∀ i, i < 1 → w.heap.size ≤ fm i ∧ w.heap.size ≤ tm i) := fun i hi => by have := fr2 i (by rw [hn1]; exact hi); have := b1.size; omega
  have HND := hide hnd
  have HFF := hide hfr
  clear HN F2 D2 fr2 b2 b1 hnd hfr hn1
  unfold ptr at *
  go_wp2_with fail
  refine (unhide HNW).mono ?_
  rintro ev w3 ⟨c, m, ly, rfl, hC, hl, _, b3⟩
  have hm2 : m = 2 := by
    have := hC.mm.2.2
    have e : (64 : Int) / 30 = 2 := by decide
    rw [e] at this
    omega
  subst hm2
  have P3 := ps_new (nb := nb) (fm := fm) (tm := tm) (unhide HD2) b3 hl hC (unhide HFR) (by omega)
  have F3 := btr (unhide HF2) b3
  have HT1 := hide (stake_ok w.heap.size c z ly 30 2 [] [] _ _ _ 1 nb fm tm nd fr 0 true e w w3 (unhide HE) F3 (Nat.le_refl _) P3)
  have HF3 := hide F3
  clear HNW hC b3 P3 F3 HF2 HD2
  unfold ptr at *
  go_wp2_with fail
  refine (unhide HT1).mono ?_
  rintro ev w4 hT
  obtain ⟨rfl, b, nd', P4, hF4, C4⟩ := cached1 hT (unhide HFF) (unhide HND)
  have q1 := World.cell?_alloc_new w4 #[.int .i64 0, .int .i64 0] 42
  have hs1 : (w4.alloc (.cells #[.int .i64 0, .int .i64 0] 42)).heap.size = w4.heap.size + 1 := by simp
  have R4 := rx_new w4
  have G4 := ballo (Below.refl w4.heap.size w4) (.cells #[.int .i64 0, .int .i64 0] 42)
  have P5 := P4.b G4
  have B5 := (((unhide HF3).trans (C4.toBelow (unhide HF3).size))).trans (G4.mono ((unhide HF3).trans (C4.toBelow (unhide HF3).size)).size)
  have HT2 := hide (stake_ok w.heap.size c z ly 30 2 [b] [⟨0, 0, 1⟩] _ _ _ 1 nb fm tm nd' fr 0 true e w _ (unhide HE) B5 (Nat.le_refl _) P5)
  have HR4 := hide R4
  have HB5 := hide B5
  have HF4 := hide hF4
  clear HT1 hT P4 C4 q1 R4 G4 P5 B5 hF4 HF3 HND
  unfold objV at *
  go_upto_region 8 with (fail)
  generalize w4.alloc (.cells #[.int .i64 0, .int .i64 0] 42) = W5 at *
  unfold ptr at *
  go_wp2_with fail
  refine (unhide HT2).mono ?_
  rintro ev w6 hT
  obtain ⟨rfl, P6, C6⟩ := cached2 hT
  have R6 := (unhide HR4).c C6 (by decide)
  have B6 := (unhide HB5).trans (C6.toBelow (unhide HB5).size)
  have G7 := ballo (Below.refl w6.heap.size w6) (.cells #[.int .i64 0, .int .i64 30] 42)
  have P7 := P6.b G7
  have B7 := B6.trans (G7.mono B6.size)
  have R7 := R6.b G7
  have S7 : Rx (w6.alloc (.cells #[.int .i64 0, .int .i64 30] 42)) w6.heap.size (.int .i64 0) (.int .i64 30) := by
    have q := World.cell?_alloc_new w6 #[.int .i64 0, .int .i64 30] 42
    exact ⟨q 0, q 1, fun o => World.frozen?_alloc_at _ _ w6.heap.size o rfl, tag_new _ _ _⟩
  have HT3 := hide (stake_ok w.heap.size c z ly 30 2 [b] [⟨0, 0, 3⟩] _ _ _ 1 nb fm tm nd' fr 0 true e w _ (unhide HE) B7 (Nat.le_refl _) P7)
  have HB7 := hide B7
  have HR7 := hide R7
  have HS7 := hide S7
  clear HT2 hT P6 C6 R6 B6 G7 P7 B7 R7 S7 HR4 HB5
  unfold objV at *
  go_upto_region 9 with (fail)
  generalize w6.alloc (.cells #[.int .i64 0, .int .i64 30] 42) = W7 at *
  unfold ptr at *
  go_wp2_with fail
  refine (unhide HT3).mono ?_
  rintro ev w8 hT
  obtain ⟨rfl, P8, C8⟩ := cached3 hT (unhide HFF) (unhide HF4)
  have R8 := (unhide HR7).c C8 (by decide)
  have S8 := (unhide HS7).c C8 (by decide)
  have B8 := (unhide HB7).trans (C8.toBelow (unhide HB7).size)
  have G9 := ballo (Below.refl w8.heap.size w8) (.cells #[.int .i64 0, .int .i64 0] 42)
  have HR9 := hide (R8.b G9)
  have HS9 := hide (S8.b G9)
  have B9 := B8.trans (G9.mono B8.size)
  have HCD := hide (coded_sent 4 (by omega) 5 (by omega) _ e ((unhide HE).below B9))
  have HB9 := hide B9
  clear HT3 hT P8 C8 R8 S8 B8 G9 B9 HR7 HS7 HB7 HF4 HFF HFR
  unfold objV errV at *
  go_upto_region 10 with (fail)
  generalize w8.alloc (.cells #[.int .i64 0, .int .i64 0] 42) = W9 at *
  go_wp2_with fail
  refine (unhide HCD).mono ?_
  rintro ev w10 ⟨rfl, b10⟩
  obtain ⟨x0, x1, _, _⟩ := (unhide HR9).b b10
  obtain ⟨y0, y1, _, _⟩ := (unhide HS9).b b10
  have B10 := hide ((unhide HB9).trans (b10.mono (unhide HB9).size))
  clear HCD HR9 HS9 HB9 b10
  go_wp2
  go_ret
  exact ⟨rfl, unhide B10⟩
end Sb
end Go.Proofs.YtfefehkapffljaaGreatDoor
