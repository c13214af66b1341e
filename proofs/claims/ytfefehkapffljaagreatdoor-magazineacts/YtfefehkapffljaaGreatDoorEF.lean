/- E12 · E13. -/
import Derived.Test.YtfefehkapffljaaGreatDoorEE
import Derived.Test.YtfefehkapffljaaGreatDoorMO
import Derived.Test.YtfefehkapffljaaGreatDoorCF
namespace Go.Proofs.YtfefehkapffljaaGreatDoor
open Go.RowKit Go.Maps
namespace Rd
open Fr Bd Zn Dz Sb Mg
theorem info179 : (Tryz.prog.info? 179).map (fun i => (i.zero, i.size, i.bytes)) = some (some (.agg #[.slice none 0 0, .slice none 0 0]), 2, 48) := by kernel_rfl
theorem make_hands (n : Nat) (hn : 1 ≤ n ∧ n ≤ 4) : ∃ ZZ : Array Value, (∀ j, j < n * 2 → ZZ[j]? = some (.slice none 0 0)) ∧ ∀ W : World, (Instr.makeSlice 98 (.int .i64 (n : Int)) (.int .i64 (n : Int))).run Tryz.prog W = .ok (.slice (some ⟨W.heap.size, 0, none⟩) n n) (W.alloc (.cells ZZ 179)) := by
 obtain ⟨i0, h0, hz0, hz1, hz2⟩ := info_parts info179
 refine ⟨madeCells (Value.agg #[.slice none 0 0, .slice none 0 0]).cells (n * 2), fun j hj => ?_, fun W => ?_⟩
 · have h1 : (Value.agg #[.slice none 0 0, .slice none 0 0]).cells = #[.slice none 0 0, .slice none 0 0] := rfl
   rw [h1]
   have h2 : j % 2 = 0 ∨ j % 2 = 1 := by omega
   unfold madeCells
   rw [Array.getElem?_map, Array.getElem?_range]
   rcases h2 with h2 | h2 <;> simp [hj, h2]
 · have := run_makeSlice (P := Tryz.prog) W 98 179 i0 (.agg #[.slice none 0 0, .slice none 0 0]) Tryz.underlying98 h0 hz0 .i64 .i64 n n (by omega) (by omega) (by rw [hz1]; simp; omega) (by rw [hz2]; omega) (by omega)
   rw [hz1] at this
   simpa using this
set_option maxRecDepth 100000 in
theorem rdnew_ok (N1 rc n : Nat) (hn : 1 ≤ n ∧ n ≤ 4) (w : World) (hN : N1 ≤ w.heap.size) (U : Nat → Prop) :
   Calls Tryz.prog 39 #[.pointer (some ⟨rc, 0, none⟩), .int .i64 (n : Int)] w fun ev w' => ∃ rd hb, ev = .returned (.pointer (some ⟨rd, 0, none⟩)) ∧ RD N1 U w' rd rc hb (List.replicate n ([], [])) [] ∧ Below w.heap.size w w' := by
 obtain ⟨ZZ, hZ, hm⟩ := make_hands n hn
 go_enter Tryz.func39, Tryz.ntmps39
 go_wp2
 go_ret
 have e1 : (w.alloc (.cells ZZ 179)).heap.size = w.heap.size + 1 := by simp
 have hq := World.cell?_alloc_new (w.alloc (.cells ZZ 179)) #[.pointer (some ⟨rc, 0, none⟩), .slice (some ⟨w.heap.size, 0, none⟩) n n, .slice none 0 0] 101
 have ht := tag_new (w.alloc (.cells ZZ 179)) #[.pointer (some ⟨rc, 0, none⟩), .slice (some ⟨w.heap.size, 0, none⟩) n n, .slice none 0 0] 101
 have hf := fun o => World.frozen?_alloc_at (w := w.alloc (.cells ZZ 179)) #[.pointer (some ⟨rc, 0, none⟩), .slice (some ⟨w.heap.size, 0, none⟩) n n, .slice none 0 0] 101 (w.heap.size + 1) o e1.symm
 rw [e1] at hq ht
 have b2 := ballo (Below.refl (w.alloc (.cells ZZ 179)).heap.size (w.alloc (.cells ZZ 179))) (.cells #[.pointer (some ⟨rc, 0, none⟩), .slice (some ⟨w.heap.size, 0, none⟩) n n, .slice none 0 0] 101)
 have hc := World.cell?_alloc_new w ZZ 179
 have htz := (tag_new w ZZ 179).b b2
 have hcz : ∀ j, j < n * 2 → ((w.alloc (.cells ZZ 179)).alloc (.cells #[.pointer (some ⟨rc, 0, none⟩), .slice (some ⟨w.heap.size, 0, none⟩) n n, .slice none 0 0] 101)).cell? ⟨w.heap.size, j, none⟩ = some (.slice none 0 0) := fun j hj => (b2.cell (p := ⟨w.heap.size, j, none⟩) (by rw [e1]; simp)).trans ((hc j).trans (hZ j hj))
 have hfz : ∀ o, ((w.alloc (.cells ZZ 179)).alloc (.cells #[.pointer (some ⟨rc, 0, none⟩), .slice (some ⟨w.heap.size, 0, none⟩) n n, .slice none 0 0] 101)).frozen? ⟨w.heap.size, o, none⟩ = false := fun o => (b2.frozen (p := ⟨w.heap.size, o, none⟩) (by rw [e1]; simp)).trans (World.frozen?_alloc_at _ _ w.heap.size o rfl)
 refine ⟨w.heap.size + 1, w.heap.size, rfl, ⟨hq 0, ⟨n, by rw [List.length_replicate]; exact hq 1⟩, ⟨_, hq 2, Or.inl ⟨rfl, rfl⟩⟩, fun i a b hi => ?_, ht, htz, by omega, hN, hf, hfz⟩, ballo (ballo (Below.refl _ _) _) _⟩
 have hil := (List.getElem?_eq_some_iff.1 hi).1
 rw [List.length_replicate] at hil
 rw [List.getElem?_replicate, if_pos hil] at hi
 simp only [Option.some.injEq, Prod.mk.injEq] at hi
 obtain ⟨rfl, rfl⟩ := hi
 exact ⟨_, _, hcz (i * 2) (by omega), hcz (i * 2 + 1) (by omega), Or.inl ⟨rfl, rfl⟩, Or.inl ⟨rfl, rfl⟩⟩
end Rd
end Go.Proofs.YtfefehkapffljaaGreatDoor
namespace Go.Proofs.YtfefehkapffljaaGreatDoor
open Go.RowKit Go.Maps
namespace Rd
open Fr Bd Zn Dz Sb Mg
def HH (ct : Nat → List Bl) (ws : List (Nat × Nat)) : List (List Bl × List Bl) := ws.map fun x => (ct x.1, ct x.2)
def PP (ct : Nat → List Bl) (pl : List Nat) : List (List Bl) := pl.map ct
section
variable {ct ct' : Nat → List Bl} {ws ws' : List (Nat × Nat)} {pl pl' : List Nat} {a b a' b' i t : Nat} {o : Bl} {xs : List Bl}
theorem HH_len : (HH ct ws).length = ws.length := by simp [HH]
theorem PP_len : (PP ct pl).length = pl.length := by simp [PP]
theorem HH_get (h : ws[i]? = some (a, b)) : (HH ct ws)[i]? = some (ct a, ct b) := by simp [HH, h]
theorem HH_set : HH ct (ws.set i (a, b)) = (HH ct ws).set i (ct a, ct b) := by simp [HH, List.map_set]
theorem HH_congr (h : ∀ x ∈ ws, ct x.1 = ct' x.1 ∧ ct x.2 = ct' x.2) : HH ct ws = HH ct' ws := List.map_congr_left fun x hx => by rw [(h x hx).1, (h x hx).2]
theorem PP_congr (h : ∀ t ∈ pl, ct t = ct' t) : PP ct pl = PP ct' pl := List.map_congr_left h
theorem PP_snoc : PP ct (pl ++ [t]) = PP ct pl ++ [ct t] := by simp [PP]
theorem on_mem : o ∈ lieH (HH ct ws) ++ (PP ct pl).flatten ↔ OnT ct (trs ws pl) o := by
 unfold lieH HH PP OnT trs
 simp only [List.mem_append, List.mem_flatMap, List.mem_map, List.mem_flatten, List.mem_cons, List.not_mem_nil, or_false]
 constructor
 · rintro (⟨x, ⟨y, hy, rfl⟩, h⟩ | ⟨l, ⟨t, ht, rfl⟩, h⟩)
   · rcases h with h | h
     · exact ⟨y.1, Or.inl ⟨y, hy, Or.inl rfl⟩, h⟩
     · exact ⟨y.2, Or.inl ⟨y, hy, Or.inr rfl⟩, h⟩
   · exact ⟨t, Or.inr ht, h⟩
 · rintro ⟨u, hu | hu, h⟩
   · obtain ⟨y, hy, rfl | rfl⟩ := hu
     · exact Or.inl ⟨_, ⟨y, hy, rfl⟩, Or.inl h⟩
     · exact Or.inl ⟨_, ⟨y, hy, rfl⟩, Or.inr h⟩
   · exact Or.inr ⟨_, ⟨u, hu, rfl⟩, h⟩
theorem lieH_bound (h : ∀ x ∈ ws, (ct x.1).length ≤ 4 ∧ (ct x.2).length ≤ 4) : (lieH (HH ct ws)).length ≤ ws.length * 8 := by
 induction ws with
 | nil => simp [lieH, HH]
 | cons x l ih =>
   have e : lieH (HH ct (x :: l)) = ct x.1 ++ ct x.2 ++ lieH (HH ct l) := by simp [lieH, HH]
   obtain ⟨h1, h2⟩ := h x (by simp)
   have := ih (fun y hy => h y (List.mem_cons_of_mem _ hy))
   rw [e, List.length_append, List.length_append, List.length_cons]
   omega
theorem flat_four (h : ∀ t ∈ pl, (ct t).length = 4) : (PP ct pl).flatten.length = pl.length * 4 := by
 induction pl with
 | nil => simp [PP]
 | cons x l ih =>
   have e : (PP ct (x :: l)).flatten = ct x ++ (PP ct l).flatten := by simp [PP]
   have h1 := h x (by simp)
   have := ih (fun y hy => h y (List.mem_cons_of_mem _ hy))
   rw [e, List.length_append, List.length_cons]
   omega
theorem sumW_lie : ∀ n, n ≤ ws.length → sumW ct ws n = (lieH (HH ct (ws.take n))).length
 | 0, _ => by simp [sumW, lieH, HH]
 | n + 1, h => by
   have e : ws[n]? = some ws[n] := List.getElem?_eq_getElem (by omega)
   generalize ws[n] = x at e
   obtain ⟨p, q⟩ := x
   rw [sumW_at e, sumW_lie n (by omega), List.take_add_one, e]
   simp [lieH, HH]
theorem LdR.toH (h : LdR ct a b pl a' b' pl') {oN oA : Int} (hc : ct a' = xs ++ [(oN, oA)]) : LdH (ct a) (ct b) (PP ct pl) (ct a') (ct b') (PP ct pl') := by
 cases h with
 | keep _ h => exact LdH.keep _ h
 | swap _ h h2 => exact LdH.swap _ h h2
 | none h h2 => rw [h2] at hc; exact absurd hc.symm (by simp)
 | pile _ _ h h2 =>
   rw [PP_snoc, h, h2]
   exact LdH.pile _ _ rfl rfl
theorem LdR.bare (h : LdR ct a b pl a' b' pl') (hp : ∀ t ∈ pl, (ct t).length = 4) (hc : ct a' = []) : pl = [] ∧ pl' = [] ∧ ct a = [] ∧ ct b = [] ∧ ct b' = [] := by
 cases h with
 | keep _ h => exact absurd hc h
 | swap _ h h2 => exact absurd hc h2
 | none h h2 => exact ⟨rfl, rfl, h, h2, h⟩
 | pile _ _ h h2 =>
   have := hp a' (by simp)
   rw [hc] at this
   cases this
theorem GvR.toH (h : GvR ct a b i o ws pl ws' pl' ct') (hn : (trs ws pl).Nodup) (hx : ws[i]? = some (a, b)) (h4 : (ct a).length ≤ 4) : GvH (ct a) (ct b) i o (HH ct ws) (PP ct pl) (HH ct' ws') (PP ct' pl') := by
 have hi : i < ws.length := (List.getElem?_eq_some_iff.1 hx).1
 have p1 := trs_perm pl hx
 have hn1 := p1.nodup_iff.1 hn
 simp only [List.nodup_cons, List.mem_cons, not_or] at hn1
 obtain ⟨⟨n1, n2⟩, n3, n4⟩ := hn1
 have hoff : ∀ (u : Nat) (l : List Bl), u ∉ trs (ws.eraseIdx i) pl → ∀ j x, j ≠ i → ws[j]? = some x → upN ct u l x.1 = ct x.1 ∧ upN ct u l x.2 = ct x.2 := fun u l hu j x hj hx' => by
   have hm : x ∈ ws.eraseIdx i := (List.mem_eraseIdx_iff_getElem?).2 ⟨j, hj, hx'⟩
   have h1 : x.1 ∈ trs (ws.eraseIdx i) pl := by unfold trs; exact List.mem_append_left _ (List.mem_flatMap.2 ⟨x, hm, by simp⟩)
   have h2 : x.2 ∈ trs (ws.eraseIdx i) pl := by unfold trs; exact List.mem_append_left _ (List.mem_flatMap.2 ⟨x, hm, by simp⟩)
   exact ⟨upN_ne (fun e => hu (by rw [← e]; exact h1)) _, upN_ne (fun e => hu (by rw [← e]; exact h2)) _⟩
 have hpl : ∀ (u : Nat) (l : List Bl), u ∉ trs (ws.eraseIdx i) pl → PP (upN ct u l) pl = PP ct pl := fun u l hu => PP_congr fun t ht => upN_ne (fun e => hu (by unfold trs; exact List.mem_append_right _ (by rw [← e]; exact ht))) _
 have hset : ∀ (u p q : Nat) (l : List Bl), u ∉ trs (ws.eraseIdx i) pl → HH (upN ct u l) (ws.set i (p, q)) = (HH ct ws).set i (upN ct u l p, upN ct u l q) := fun u p q l hu => by
   refine List.ext_getElem? fun j => ?_
   by_cases e : j = i
   · subst e
     rw [List.getElem?_set_self (by rw [HH_len]; exact hi)]
     simp [HH, hi]
   · rw [List.getElem?_set_ne (Ne.symm e)]
     unfold HH
     rw [List.getElem?_map, List.getElem?_map, List.getElem?_set_ne (Ne.symm e)]
     cases hj : ws[j]? with
     | none => rfl
     | some x =>
       obtain ⟨z1, z2⟩ := hoff u l hu j x e hj
       simp [z1, z2]
 cases h with
 | room h =>
   rw [hpl a _ n2]
   have e1 := hset a a b (ct a ++ [o]) n2
   rw [set_id hx, upN_at, upN_ne (Ne.symm n1)] at e1
   rw [e1]
   exact GvH.room (by omega)
 | swap h h2 =>
   rw [hpl b _ n3, hset b b a [o] n3, upN_at, upN_ne n1]
   exact GvH.swap h h2
 | pile tn h h2 h3 =>
   have hno : tn ∉ trs (ws.eraseIdx i) pl := fun hm => h3 (p1.mem_iff.2 (by simp [hm]))
   have na : a ≠ tn := fun e => h3 (p1.mem_iff.2 (by simp [e]))
   have nb : b ≠ tn := fun e => h3 (p1.mem_iff.2 (by simp [e]))
   rw [PP_snoc, hpl tn _ hno, upN_ne na, hset tn tn b [o] hno, upN_at, upN_ne nb]
   exact GvH.pile h h2
end
end Rd
end Go.Proofs.YtfefehkapffljaaGreatDoor
