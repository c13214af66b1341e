/- K18 · K19 · K20. -/
import Derived.Test.YtfefehkapffljaaGreatDoorKG
namespace Go.Proofs.YtfefehkapffljaaGreatDoor
open Go.RowKit Go.Maps
namespace Sb
open Fr Bd Zn Dz
def totL (m : Nat) : List Sl → Nat
 | [] => 0
 | s :: l => pop s.bm m + totL m l
theorem totL_append (m : Nat) : ∀ (l k : List Sl), totL m (l ++ k) = totL m l + totL m k
 | [], k => by simp [totL]
 | s :: l, k => by simp only [List.cons_append, totL, totL_append m l k]; omega
theorem totL_ins (m : Nat) (l : List Sl) (q : Nat) (x : Sl) : totL m (Sb.ins l q x) = totL m l + pop x.bm m := by
 have h : totL m l = totL m (l.take q) + totL m (l.drop q) := by rw [← totL_append, List.take_append_drop]
 unfold Sb.ins
 rw [totL_append, totL, h]; omega
theorem totL_set (m : Nat) : ∀ (l : List Sl) (j : Nat) (s x : Sl), l[j]? = some s → totL m (l.set j x) + pop s.bm m = totL m l + pop x.bm m
 | [], j, s, x, h => by simp at h
 | y :: l, 0, s, x, h => by simp at h; subst h; simp only [List.set_cons_zero, totL]; omega
 | y :: l, j + 1, s, x, h => by
   have := totL_set m l j s x (by simpa using h)
   simp only [List.set_cons_succ, totL]; omega
theorem totL_full (m : Nat) : ∀ (l : List Sl), (∀ s ∈ l, ¬ pop s.bm m < m) → totL m l = l.length * m
 | [], _ => by simp [totL]
 | s :: l, h => by
   have h1 := totL_full m l (fun t ht => h t (List.mem_cons_of_mem _ ht))
   have h2 := pop_le s.bm m
   have h3 := h s (List.mem_cons_self ..)
   simp only [totL, List.length_cons, Nat.add_mul]; omega
theorem pop_setbit {x m : Nat} (hx : x < 2 ^ m) (hm : m ≤ 64) (hp : pop x m < m) : pop (x ||| 2 ^ ff x) m = pop x m + 1 := by
 obtain ⟨h1, h2, _⟩ := ff_spec hx hm hp
 rw [pop_set x (ff x) h2 m, if_pos h1]
theorem bst_all {m nd : Nat} {ss : List Sl} (h : (bst m nd ss ss.length).1 = none) (hs : ∀ s ∈ ss, s.nd = nd) : ∀ s ∈ ss, ¬ pop s.bm m < m := by
 intro s hm
 obtain ⟨i, hi, e⟩ := List.getElem_of_mem hm
 have e2 := List.getElem?_eq_getElem hi
 rw [e] at e2
 have := bst_none h i hi (by rw [getD_at e2]; exact hs s hm)
 rwa [getD_at e2] at this
structure Fill (pg : Nat) (m : Nat) (d : Nd) (ss : List Sl) (t : Nat) : Prop where
 ok : d.ok
 pg : pgs d.F + ss.length = pg
 tt : totL m ss = t
 nd : ∀ s ∈ ss, s.nd = 0
theorem tkC_true {o mn : Int} {d : Nd} (h : tkC o mn true d ≠ 2) : fit o d.F = none := by
 cases hf : fit o d.F with
 | none => rfl
 | some x => simp [tkC, hf] at h
theorem fit0_nil {d : Nd} (hok : d.ok) (h : fit 0 d.F = none) : d.F = [] := by
 rw [fit_none] at h
 cases hF : d.F with
 | nil => rfl
 | cons x l =>
   have h1 := h x (by rw [hF]; exact List.mem_cons_self ..)
   have h2 := (hok.2.2.oF x (by rw [hF]; exact List.mem_cons_self ..)).1
   omega
end Sb
end Go.Proofs.YtfefehkapffljaaGreatDoor
namespace Go.Proofs.YtfefehkapffljaaGreatDoor
open Go.RowKit Go.Maps
namespace Sb
open Fr Bd Zn Dz
def sumP (f : Int → Nat) : Nat → Nat
 | 0 => 0
 | n + 1 => sumP f n + f n
theorem sumP_add (f g : Int → Nat) : ∀ n, sumP (fun p => f p + g p) n = sumP f n + sumP g n
 | 0 => rfl
 | n + 1 => by simp only [sumP, sumP_add f g n]; omega
theorem sumP_zero : ∀ n, sumP (fun _ => 0) n = 0
 | 0 => rfl
 | n + 1 => by simp only [sumP, sumP_zero n]
theorem sum_inb (x : Bl) (h0 : 0 ≤ x.1) : ∀ n : Nat, (sumP (fun p => inb p x) n : Int) = (if (n : Int) ≤ x.1 then 0 else if (n : Int) ≤ x.1 + pw x.2 then (n : Int) - x.1 else pw x.2)
 | 0 => by
   have := pw_pos x.2
   simp only [sumP]
   rw [if_pos (by omega)]; rfl
 | n + 1 => by
   have h := sum_inb x h0 n
   have hp := pw_pos x.2
   simp only [sumP]
   by_cases hi : x.1 ≤ (n : Int) ∧ (n : Int) < x.1 + pw x.2
   · have e : inb (n : Int) x = 1 := inb_one.2 hi
     rw [e]
     rw [if_neg (by omega), if_pos (by omega)]
     by_cases h1 : (n : Int) ≤ x.1
     · rw [if_pos h1] at h; omega
     · rw [if_neg h1, if_pos (by omega)] at h; omega
   · have e : inb (n : Int) x = 0 := by unfold inb; rw [if_neg hi]
     rw [e]
     by_cases h1 : (n : Int) ≤ x.1
     · rw [if_pos h1] at h
       rw [if_pos (by omega)]; omega
     · rw [if_neg h1] at h
       rw [if_neg (by omega)]
       by_cases h2 : (n : Int) ≤ x.1 + pw x.2
       · rw [if_pos h2] at h
         rw [if_neg (by omega)]; omega
       · rw [if_neg h2] at h
         rw [if_neg (by omega)]; omega
theorem sum_cnt (N : Nat) : ∀ l : List Bl, (∀ x ∈ l, 0 ≤ x.1 ∧ x.1 + pw x.2 ≤ N) → (sumP (fun p => cnt p l) N : Int) = pgs l
 | [], _ => by simp only [cnt, sumP_zero, pgs]; rfl
 | x :: l, h => by
   have h1 := sum_cnt N l (fun y hy => h y (List.mem_cons_of_mem _ hy))
   have h2 := h x (List.mem_cons_self ..)
   have h3 := sum_inb x h2.1 N
   have hp := pw_pos x.2
   simp only [cnt, sumP_add, pgs]
   rw [if_neg (by omega)] at h3
   push_cast
   rw [h1, h3]
   split <;> omega
theorem sum_ind (N : Nat) : ∀ n : Nat, n ≤ N → sumP (fun p => ind N p) n = n
 | 0, _ => rfl
 | n + 1, h => by
   have h1 := sum_ind N n (by omega)
   have e : ind (N : Int) (n : Int) = 1 := ind_one.2 (by omega)
   simp only [sumP]
   rw [h1, e]
theorem inv_pgs {N : Int} {F T : List Bl} (h : Inv N F T) (h0 : 0 ≤ N) : pgs F + pgs T = N := by
 obtain ⟨n, rfl⟩ := Int.eq_ofNat_of_zero_le h0
 have h1 := sum_cnt n F (fun x hx => h.inF hx)
 have h2 := sum_cnt n T (fun x hx => h.inT hx)
 have h3 := sum_ind n n (Nat.le_refl _)
 have e : (fun p => ind (n : Int) p) = fun p => cnt p F + cnt p T := by
   funext p
   exact (h.one p).symm
 rw [e, sumP_add] at h3
 omega
theorem pgs_nd0 {P : Nat → Int} {i : Nat} (h1 : 1 ≤ P i) (h2 : P i ≤ 256) : pgs (nd0 P i).F = P i := by
 have h := inv_pgs (nd0_ok h1 h2).2.2 (by show (0 : Int) ≤ P i; omega)
 have e : pgs (nd0 P i).T = 0 := rfl
 have e2 : (nd0 P i).N = P i := rfl
 rw [e, e2] at h
 omega
theorem ps_new {N0 : Nat} {w : World} {c z : Nat} {ly : Ly} {sz : Int} {m : Nat} {mn lw hi : Int} {k : Nat} {nb fm tm : Nat → Nat} {nd : Nat → Nd} {fr : Nat → List Nat} {w0 : World} (hD : DZ w0 z mn lw hi k nb fm tm nd fr) (hb : Below w0.heap.size w0 w) (hl : w0.heap.size ≤ ly.1) (hC : DC N0 w c z ly sz m [] []) (hf : ∀ i, i < k → N0 ≤ fm i ∧ N0 ≤ tm i) (hk : k ≤ 20) : PS N0 w c z ly sz m [] [] mn lw hi k nb fm tm nd fr :=
 ⟨hD.b hb, hC, fun s hs => (by cases hs), hf, hk, fun i hi => ⟨fun e => by have := (hD.bd i hi).f.lt; omega, fun e => by have := (hD.bd i hi).t.lt; omega⟩⟩
end Sb
end Go.Proofs.YtfefehkapffljaaGreatDoor
namespace Go.Proofs.YtfefehkapffljaaGreatDoor
open Go.RowKit Go.Maps
namespace Sb
open Fr Bd Zn Dz
end Sb
end Go.Proofs.YtfefehkapffljaaGreatDoor
