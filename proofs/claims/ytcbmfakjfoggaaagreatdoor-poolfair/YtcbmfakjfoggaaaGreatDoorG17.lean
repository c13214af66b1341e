/- The library's Insert at pointers to slabs, over a row that the cache owns: all ways in one · What may turn between two worlds, by the blocks' types; the zone where other blocks turn. -/
import Derived.Test.YtcbmfakjfoggaaaGreatDoorG16
import Derived.Test.YtcbmfakjfoggaaaGreatDoorG05
import Derived.Shelf.RegionOpenPlain
import Derived.Deep.RegionLaw
import Derived.Lib.SliceRun
namespace Go.Proofs.YtcbmfakjfoggaaaGreatDoor
open Go.RowKit Go.Lib
namespace Sb
theorem blk_setCell {w : World} {g : Nat} {cur : Array Value} {e : TypeId} {fz : Nat × Nat} (h : w.heap[g]? = some (.cells cur e fz)) (o : Nat) (v : Value) : (w.setCell ⟨g, o, none⟩ v).heap[g]? = some (.cells (cur.setIfInBounds o v) e fz) := by
  simp only [World.setCell, Array.getElem?_modify, h]
  simp
theorem blk_setCells (g : Nat) (e : TypeId) (fz : Nat × Nat) : ∀ (vs : List Value) (o : Nat) (w : World) (cur : Array Value), w.heap[g]? = some (.cells cur e fz) →
    ∃ cur', (w.setCells g o vs).heap[g]? = some (.cells cur' e fz) ∧ cur'.size = cur.size ∧ ∀ j, cur'[j]? = if o ≤ j ∧ j < o + vs.length ∧ j < cur.size then vs[j - o]? else cur[j]?
  | [], o, w, cur, h => ⟨cur, h, rfl, fun j => by rw [if_neg (by simp; omega)]⟩
  | v :: r, o, w, cur, h => by
    obtain ⟨cur', h1, h2, h3⟩ := blk_setCells g e fz r (o + 1) (w.setCell ⟨g, o, none⟩ v) _ (blk_setCell h o v)
    refine ⟨cur', h1, by rw [h2]; simp, fun j => ?_⟩
    rw [h3 j]
    simp only [Array.size_setIfInBounds, List.length_cons, Array.getElem?_setIfInBounds]
    by_cases hj : j = o
    · subst hj
      rw [if_neg (by omega)]
      by_cases hs : j < cur.size
      · rw [if_pos rfl, if_pos hs, if_pos (by omega)]; simp
      · rw [if_pos rfl, if_neg hs, if_neg (by omega), Array.getElem?_eq_none (by omega)]
    · rw [if_neg (Ne.symm hj)]
      by_cases hc : o + 1 ≤ j ∧ j < o + 1 + r.length ∧ j < cur.size
      · rw [if_pos hc, if_pos (by omega)]
        obtain ⟨d, rfl⟩ : ∃ d, j = o + 1 + d := ⟨j - o - 1, by omega⟩
        rw [show o + 1 + d - (o + 1) = d by omega, show o + 1 + d - o = d + 1 by omega, List.getElem?_cons_succ]
      · rw [if_neg hc, if_neg (by omega)]
theorem grown_setCells (g : Nat) : ∀ (vs : List Value) (o : Nat) (w : World), w.grownBy (w.setCells g o vs) (some g)
  | [], _, w => ⟨rfl, rfl, rfl, Nat.le_refl _, fun _ _ _ => rfl⟩
  | v :: r, o, w => by
    have h := grown_setCells g r (o + 1) (w.setCell ⟨g, o, none⟩ v)
    have hsz : (w.setCell ⟨g, o, none⟩ v).heap.size = w.heap.size := by simp [World.setCell]
    exact ⟨h.os, h.tape, h.output, Nat.le_trans (Nat.le_of_eq (hsz.symm)) h.size, fun k hk hne => (h.block k (by rw [hsz]; exact hk) hne).trans (Below.heap_setCell _ _ _ _ (fun e => hne (by rw [e])))⟩
theorem grown_drew (w : World) (row : Option Nat) : w.grownBy w.drew row := ⟨rfl, rfl, rfl, Nat.le_refl _, fun _ _ _ => rfl⟩
theorem grown_trans {w w' w2 : World} {row : Option Nat} (h : w.grownBy w' row) (h2 : w'.grownBy w2 row) : w.grownBy w2 row :=
  ⟨h2.os.trans h.os, h2.tape.trans h.tape, h2.output.trans h.output, Nat.le_trans h.size h2.size, fun k hk hne => (h2.block k (Nat.lt_of_lt_of_le hk h.size) hne).trans (h.block k hk hne)⟩
/-- A row of cells told by its cells. -/
theorem own_of {w : World} {N0 g n d : Nat} {e : TypeId} {cur : Array Value} {xs : List Value} (hg : w.heap[g]? = some (.cells cur e (0, 0))) (hN : N0 ≤ g) (hd : n ≤ d) (hm : d ≤ maxLen) (hs : cur.size = d) (hl : xs.length = n) (hc : ∀ j, j < n → cur[j]? = xs[j]?) :
    w.ownsRow N0 e 1 (.slice (some ⟨g, 0, none⟩) n d) n xs := by
  refine ⟨by omega, Or.inr ⟨g, d, cur, rfl, hN, hg, hd, hm, by omega, ?_⟩⟩
  apply List.ext_getElem?
  intro j
  rw [Nat.mul_one, List.getElem?_take]
  split
  · rename_i hj
    rw [← hc j hj]; simp
  · rw [List.getElem?_eq_none (by omega)]
set_option maxRecDepth 100000 in
set_option maxHeartbeats 2000000 in
theorem insert_own (N0 : Nat) (p : Option Addr) (n d k vb : Nat) (cs : List Value) (x : Value) (w : World) (h : w.ownsRow N0 288 1 (.slice p n d) n cs) (hk : k ≤ n) (hn : n ≤ 100000) (hN : N0 ≤ w.heap.size)
    (hx : w.heap[vb]? = some (.cells #[x] 288 (0, 0))) (hvb : ∀ g o, p = some ⟨g, o, none⟩ → vb ≠ g) (h1c : ∀ v ∈ cs, v.oneCell' = true) (h1v : x.oneCell' = true) :
    Calls Tryz.prog 234 #[.slice p n d, .int .i64 k, .slice (some ⟨vb, 0, none⟩) 1 1] w fun ev w' => ∃ p' d', ev = .returned (.slice p' (n + 1) d') ∧ w'.ownsRow N0 288 1 (.slice p' (n + 1) d') (n + 1) (ins cs k x) ∧ w.grownBy w' (Value.slice p n d).ownBlock := by
  have hcl : cs.length = n := by have := h.1; omega
  have hv : w.cell? ⟨vb, 0, none⟩ = some x := by rw [cell_of_row w vb 0 _ _ _ hx]; rfl
  by_cases hkn : k = n
  · subst hkn
    have e1 : ins cs k x = cs ++ [x] := by unfold ins; rw [← hcl, List.take_length, List.drop_length]
    rw [e1]
    obtain ⟨i0, hi0, hz0, hzs, hzb⟩ := info94
    have H : Hid (∀ v' w', w'.ownsRow N0 288 1 v' (k + 1) (cs ++ [x]) → w.grownBy w' (Value.slice p k d).ownBlock → ∃ p' d', Ending.returned v' = .returned (.slice p' (k + 1) d') ∧ w'.ownsRow N0 288 1 (.slice p' (k + 1) d') (k + 1) (cs ++ [x]) ∧ w.grownBy w' (Value.slice p k d).ownBlock) := fun v' w' h1 h2 => by
      have h1' := h1
      rcases h1.2 with ⟨_, h3⟩ | ⟨g, cap, cur, rfl, _⟩
      · omega
      · exact ⟨_, _, rfl, h1', h2⟩
    have hnews : ∀ j u, [x][j]? = some u → w.cell? ((⟨vb, 0, none⟩ : Addr).add j) = some u := fun j u hj => by
      obtain rfl : j = 0 := by rcases j with _ | j <;> simp at hj ⊢
      rw [Addr.add_lit]
      simp at hj; subst hj
      exact hv
    have HI := hide hi0
    have HZ := hide hz0
    have HZ1 := hide hzs
    have HZ2 := hide hzb
    have HO := hide h
    obtain ⟨ob, hob⟩ : ∃ ob, (Value.slice p k d).ownBlock = ob := ⟨_, rfl⟩
    have HG := hide (fun w' (g1 : w.grownBy w' (Value.slice p k d).ownBlock) => (by rw [hob] at g1; exact g1 : w.grownBy w' ob))
    rw [hob] at H ⊢
    have HNW := hide hnews
    clear hi0 hz0 hzs hzb h hnews hob
    by_cases hd : d = k
    · subst hd
      go_enter Tryz.func234, Tryz.ntmps234
      go_wp2_with (at_builtin; refine wpList_append_own _ rfl _ _ 246 rfl N0 288 i0 (.pointer none) 1 8 Tryz.underlying246 (unhide HI) (unhide HZ) (unhide HZ1) (unhide HZ2) rfl (by decide) _ _ cs rfl (unhide HO) ⟨vb, 0, none⟩ 1 1 [x] rfl rfl (unhide HNW) (fun u hu => by simp at hu; subst hu; exact h1v) (by unfold maxLen; omega) (by omega) hN ?_; intro v' w' o1 g1 _)
      go_ret
      exact (unhide H) _ _ o1 ((unhide HG) _ g1)
    · go_enter Tryz.func234, Tryz.ntmps234
      go_wp2_with (at_builtin; refine wpList_append_own _ rfl _ _ 246 rfl N0 288 i0 (.pointer none) 1 8 Tryz.underlying246 (unhide HI) (unhide HZ) (unhide HZ1) (unhide HZ2) rfl (by decide) _ k cs rfl (unhide HO) ⟨vb, 0, none⟩ 1 1 [x] rfl rfl (unhide HNW) (fun u hu => by simp at hu; subst hu; exact h1v) (by unfold maxLen; omega) (by omega) hN ?_; intro v' w' o1 g1 _)
      go_ret
      exact (unhide H) _ _ o1 ((unhide HG) _ g1)
  · have hkn' : k < n := by omega
    obtain ⟨hl, hh⟩ := h
    rcases hh with ⟨_, h0⟩ | ⟨g, cap, cur, hv', hNg, hg, hcap, hmax, hsz, htk⟩
    · omega
    · simp only [Value.slice.injEq, true_and] at hv'
      obtain ⟨rfl, rfl⟩ := hv'
      have hcur : ∀ j, j < n → cur[j]? = cs[j]? := fun j hj => by
        rw [← htk, Nat.mul_one, List.getElem?_take, if_pos hj]; simp
      have hcell : ∀ j, w.cell? ⟨g, j, none⟩ = cur[j]? := fun j => cell_of_row w g j cur 288 (0, 0) hg
      have hcs : ∀ j v, cs[j]? = some v → w.cell? ⟨g, j, none⟩ = some v := fun j v hj => by
        rw [hcell, hcur j (by have := (List.getElem?_eq_some_iff.mp hj).1; omega)]; exact hj
      have hvg := hvb g 0 rfl
      have hlx : (ins cs k x).length = n + 1 := by rw [ins_length, hcl]
      by_cases hroom : n + 1 ≤ d
      · refine (insert_shift g n d k vb cs x w hkn' hroom (by unfold maxLen at hmax; omega) hvg hcl hcs (fun j hj => ?_) (fun j => ?_) hv h1c h1v 288 288 1 d ?_ ?_ (by omega) ?_ ?_).mono ?_
        · rw [hcell, Array.getElem?_eq_getElem (by omega)]; rfl
        · simp [World.frozen?, hg]
        · simp [World.shape?, hx]
        · simp [World.shape?, hg]; omega
        · simp [World.frozen?, hx]
        · simp [World.frozen?, hx]
        · rintro ev w' ⟨rfl, rfl⟩
          obtain ⟨c1, a1, a2, a3⟩ := blk_setCells g 288 (0, 0) (cs.drop k) (k + 1) w.drew cur hg
          obtain ⟨c2, b1, b2, b3⟩ := blk_setCells g 288 (0, 0) [x] k _ c1 a1
          refine ⟨_, _, rfl, own_of b1 hNg hroom hmax (by omega) hlx (fun j hj => ?_), ?_⟩
          · rw [b3 j, a3 j, ins_get x (by omega) j]
            simp only [List.length_singleton, List.length_drop, hcl]
            by_cases h1 : j < k
            · rw [if_neg (by omega), if_neg (by omega), if_pos h1, hcur j (by omega)]
            · by_cases h2 : j = k
              · subst h2
                rw [if_pos (by omega), if_neg h1, if_pos rfl]; simp
              · rw [if_neg (by omega), if_pos (by omega), if_neg h1, if_neg h2, List.getElem?_drop]
                congr 1; omega
          · exact grown_trans (grown_trans (grown_drew w _) (grown_setCells g _ _ _)) (grown_setCells g _ _ _)
      · refine (insert_grow g n d k vb cs x w hkn' hcap (by omega) hn hcl hcs hv h1c h1v).mono ?_
        rintro ev w' ⟨rfl, rfl⟩
        have hge := grownCap_ge w (n + 1) d 288
        have hle := grownCap_le_maxLen w (n + 1) d 288 (by unfold maxLen; omega)
        generalize grownCap w (n + 1) d 288 = G at *
        obtain ⟨ROW, hROW⟩ : ∃ ROW : Array Value, ROW = (cs.take k).toArray ++ Builtin.zeroCells (Value.pointer none).cells (n + 1 - k) ++ Builtin.zeroCells (Value.pointer none).cells (G - (n + 1)) := ⟨_, rfl⟩
        rw [← hROW]
        have hRs : ROW.size = G := by
          rw [hROW]
          simp [Builtin.zeroCells, Value.cells]
          omega
        have hRc : ∀ j, j < k → ROW[j]? = cs[j]? := fun j hj => by
          have hlt : (cs.take k).length = k := by simp; omega
          rw [hROW, Array.append_assoc, Array.getElem?_append_left (by simp; omega)]
          simp [hj]
        have hnew : (w.alloc (.cells ROW 288)).heap[w.heap.size]? = some (.cells ROW 288 (0, 0)) := heap_alloc_new w _
        obtain ⟨c1, a1, a2, a3⟩ := blk_setCells w.heap.size 288 (0, 0) [x] k (w.alloc (.cells ROW 288)).drew ROW hnew
        obtain ⟨c2, b1, b2, b3⟩ := blk_setCells w.heap.size 288 (0, 0) (cs.drop k) (k + 1) ((w.alloc (.cells ROW 288)).drew.setCells w.heap.size k [x]).drew c1 a1
        refine ⟨_, _, rfl, own_of b1 hN hge hle (by omega) hlx (fun j hj => ?_), ?_⟩
        · rw [b3 j, a3 j, ins_get x (by omega) j]
          simp only [List.length_singleton, List.length_drop, hcl]
          by_cases h1 : j < k
          · rw [if_neg (by omega), if_neg (by omega), if_pos h1, hRc j h1]
          · by_cases h2 : j = k
            · subst h2
              rw [if_neg (by omega), if_pos (by omega), if_neg h1, if_pos rfl]; simp
            · rw [if_pos (by omega), if_neg h1, if_neg h2, List.getElem?_drop]
              congr 1; omega
        · have q1 := World.grownBy_alloc w (.cells ROW 288) (Value.slice (some ⟨g, 0, none⟩) n d).ownBlock
          have q2 := grown_setCells w.heap.size [x] k (w.alloc (.cells ROW 288)).drew
          have q3 := grown_setCells w.heap.size (cs.drop k) (k + 1) ((w.alloc (.cells ROW 288)).drew.setCells w.heap.size k [x]).drew
          refine ⟨q3.os.trans (q2.os.trans q1.os), q3.tape.trans (q2.tape.trans q1.tape), q3.output.trans (q2.output.trans q1.output), Nat.le_trans q1.size (Nat.le_trans q2.size q3.size), fun j hj hne => ?_⟩
          have hjs : some j ≠ some w.heap.size := by simp; omega
          have s1 := q1.size
          have s2 := q2.size
          exact (q3.block j (Nat.lt_of_lt_of_le hj (Nat.le_trans s1 s2)) hjs).trans ((q2.block j (Nat.lt_of_lt_of_le hj s1) hjs).trans (q1.block j hj hne))
end Sb
end Go.Proofs.YtcbmfakjfoggaaaGreatDoor
namespace Go.Proofs.YtcbmfakjfoggaaaGreatDoor
open Go.RowKit Go.Maps
namespace Sb
open Fr Bd Zn Dz
/-- Only blocks of such kinds turn, from N on. -/
structure Chg (ts : List (Option TypeId)) (N : Nat) (w w' : World) : Prop where
  os : w'.os = w.os
  tape : w'.tape = w.tape
  output : w'.output = w.output
  size : w.heap.size ≤ w'.heap.size
  blk : ∀ k, k < w.heap.size → w'.heap[k]? = w.heap[k]? ∨ (N ≤ k ∧ ∃ o, w.heap[k]? = some o ∧ kind o ∈ ts)
theorem Chg.below {ts : List (Option TypeId)} {N : Nat} {w w' : World} (h : Below w.heap.size w w') : Chg ts N w w' := ⟨h.os, h.tape, h.output, h.size, fun k hk => Or.inl (h.block k hk)⟩
theorem Chg.refl (ts : List (Option TypeId)) (N : Nat) (w : World) : Chg ts N w w := Chg.below (Below.refl _ _)
theorem Chg.trans {ts : List (Option TypeId)} {N : Nat} {w w1 w2 : World} (h : Chg ts N w w1) (k : Chg ts N w1 w2) : Chg ts N w w2 := by
  refine ⟨k.os.trans h.os, k.tape.trans h.tape, k.output.trans h.output, Nat.le_trans h.size k.size, fun j hj => ?_⟩
  rcases h.blk j hj with e1 | h1
  · rcases k.blk j (Nat.lt_of_lt_of_le hj h.size) with f1 | ⟨hN, p, f0, f3⟩
    · exact Or.inl (f1.trans e1)
    · exact Or.inr ⟨hN, p, e1.symm.trans f0, f3⟩
  · exact Or.inr h1
theorem Chg.mono {ts ts' : List (Option TypeId)} {N N' : Nat} {w w' : World} (h : Chg ts N w w') (hs : ∀ t ∈ ts, t ∈ ts') (hN : N' ≤ N) : Chg ts' N' w w' :=
  ⟨h.os, h.tape, h.output, h.size, fun k hk => (h.blk k hk).imp id fun ⟨h1, o, h2, h5⟩ => ⟨Nat.le_trans hN h1, o, h2, hs _ h5⟩⟩
theorem Chg.toBelow {ts : List (Option TypeId)} {N : Nat} {w w' : World} (h : Chg ts N w w') (hN : N ≤ w.heap.size) : Below N w w' :=
  ⟨h.os, h.tape, h.output, h.size, fun k hk => by
    rcases h.blk k (by omega) with e | ⟨h1, _⟩
    · exact e
    · omega⟩
theorem Chg.same {ts : List (Option TypeId)} {N : Nat} {w w' : World} (h : Chg ts N w w') {b : Nat} {t : TypeId} (ht : Tag w b t) (hn : some t ∉ ts) : w'.heap[b]? = w.heap[b]? := by
  rcases h.blk b ht.lt with e | ⟨_, o, h1, h4⟩
  · exact e
  · obtain ⟨cur, fz, e⟩ := ht
    rw [e] at h1
    cases h1
    exact absurd h4 hn
theorem Chg.low {ts : List (Option TypeId)} {N : Nat} {w w' : World} (h : Chg ts N w w') {b : Nat} (hb : b < N) (hl : b < w.heap.size) : w'.heap[b]? = w.heap[b]? := by
  rcases h.blk b hl with e | ⟨h1, _⟩
  · exact e
  · omega
theorem Chg.toSame {ts : List (Option TypeId)} {us : List TypeId} {N : Nat} {w w' : World} (h : Chg ts N w w') (hd : ∀ t ∈ us, some t ∉ ts) : Same us w w' := fun _ t hm ht => h.same ht (hd t hm)
theorem Chg.mp {ts : List (Option TypeId)} {N : Nat} {w w' : World} (h : Chg ts N w w') (hn : none ∉ ts) {b : Nat} {L : List Bl} (hm : Mp w b L) : w'.heap[b]? = w.heap[b]? := by
  rcases h.blk b hm.lt with e | ⟨_, o, h1, h4⟩
  · exact e
  · obtain ⟨⟨es, clock, e, _⟩, _, _⟩ := hm
    rw [e] at h1
    cases h1
    exact absurd h4 hn
theorem Chg.one {N : Nat} {w w' : World} {A : Nat} {t : TypeId} (hk : Kept A A w w') (ht : Tag w A t) (hN : N ≤ A) : Chg [some t] N w w' :=
  ⟨hk.os, hk.tape, hk.output, hk.size, fun k hl => by
    by_cases e : k = A
    · subst e
      obtain ⟨c, f, h1⟩ := ht
      exact Or.inr ⟨hN, _, h1, by simp [kind]⟩
    · exact Or.inl (hk.block k hl e e)⟩
theorem Chg.grown {N : Nat} {w w' : World} {t : TypeId} {p : Option Addr} {n d : Nat} {xs : List Value} (h : w.grownBy w' (Value.slice p n d).ownBlock) (ho : w.ownsRow N t 1 (.slice p n d) n xs) : Chg [some t] N w w' :=
  ⟨h.os, h.tape, h.output, h.size, fun k hl => by
    by_cases e : some k = (Value.slice p n d).ownBlock
    · rcases ho.2 with ⟨e2, _⟩ | ⟨g, cap, cur, e2, hg, hh, _⟩
      · rw [e2] at e; cases e
      · rw [e2] at e
        simp only [Value.ownBlock, Option.some.injEq] at e
        subst e
        exact Or.inr ⟨hg, _, hh, by simp [kind]⟩
    · exact Or.inl (h.block k hl e)⟩
theorem Chg.set {N : Nat} {w : World} {A : Nat} {t : TypeId} (ht : Tag w A t) (hN : N ≤ A) (o : Nat) (v : Value) : Chg [some t] N w (w.setCell ⟨A, o, none⟩ v) :=
  ⟨rfl, rfl, rfl, by simp [World.setCell], fun k _ => by
    by_cases e : k = A
    · subst e
      obtain ⟨c, f, h1⟩ := ht
      exact Or.inr ⟨hN, _, h1, by simp [kind]⟩
    · exact Or.inl (Below.heap_setCell _ _ _ _ e)⟩
theorem Chg.maps {N : Nat} {w w' : World} {A B : Nat} {LA LB : List Bl} (hk : Kept A B w w') (hA : Mp w A LA) (hB : Mp w B LB) (h1 : N ≤ A) (h2 : N ≤ B) : Chg [none] N w w' :=
  ⟨hk.os, hk.tape, hk.output, hk.size, fun k hl => by
    by_cases e : k = A
    · subst e
      obtain ⟨⟨es, clock, e1, _⟩, _, _⟩ := hA
      exact Or.inr ⟨h1, _, e1, by simp [kind]⟩
    · by_cases e' : k = B
      · subst e'
        obtain ⟨⟨es, clock, e1, _⟩, _, _⟩ := hB
        exact Or.inr ⟨h2, _, e1, by simp [kind]⟩
      · exact Or.inl (hk.block k hl e e')⟩
/-- The zone, where none of its blocks' kinds turn. -/
theorem dz_chg {ts : List (Option TypeId)} {N : Nat} {w w' : World} {z : Nat} {mn lw hi : Int} {k : Nat} {nb fm tm : Nat → Nat} {nd : Nat → Nd} {fr : Nat → List Nat} (h : DZ w z mn lw hi k nb fm tm nd fr) (hc : Chg ts N w w') (h0 : none ∉ ts) (h1 : ∀ t ∈ ([241, 242, 38, 3, 327] : List TypeId), some t ∉ ts) : DZ w' z mn lw hi k nb fm tm nd fr := by
  have hs := hc.toSame h1
  have hl := h.lt
  have hz := fun j => cell_same hs (by simp) h.tz j
  obtain ⟨g, c, e1, o1⟩ := h.cn
  obtain ⟨g2, c2, rows, e2, o2, r2⟩ := h.cf
  refine ⟨(hz 0).trans h.m0, (hz 1).trans h.m1, (hz 2).trans h.m2, ⟨g, c, (hz 3).trans e1, own_same o1 hs (by simp)⟩, ⟨g2, c2, rows, (hz 4).trans e2, own_same o2 hs (by simp), fun i hi => ?_⟩, Nat.lt_of_lt_of_le hl hc.size, fun i hi => ?_, h.ok, h.ne, h.fl, tag_same hs (by simp) h.tz, fun i hi => tag_same hs (by simp) (h.tb i hi)⟩
  · obtain ⟨h', d, e3, o3⟩ := r2 i hi
    exact ⟨h', d, e3, own_same o3 hs (by simp)⟩
  · have hb := h.bd i hi
    exact hb.blk hc.size (hs _ 327 (by simp) (h.tb i hi)) (hc.mp h0 hb.f) (hc.mp h0 hb.t)
theorem Chg.kindless {ts : List (Option TypeId)} {N : Nat} {w w' : World} (h : Chg ts N w w') (hn : none ∉ ts) {j : Nat} {o : Obj} (ho : w.heap[j]? = some o) (hk : kind o = none) : w'.heap[j]? = w.heap[j]? := by
  rcases h.blk j (Array.getElem?_eq_some_iff.mp ho).1 with e | ⟨_, o', h1, h4⟩
  · exact e
  · rw [ho] at h1
    rw [← Option.some.inj h1, hk] at h4
    exact absurd h4 hn
theorem Chg.ly {ts : List (Option TypeId)} {N N0 : Nat} {w w' : World} {c : Nat} {ly : Ly} (h : Chg ts N w w') (hn : none ∉ ts) (hy : LY N0 w c ly) (j : Nat) (hj : Lk ly j) : w'.heap[j]? = w.heap[j]? := by
  rcases hj with rfl | ⟨o, e⟩
  · exact h.kindless hn hy.lm hy.lk
  · exact h.kindless hn (hy.lx j o e).1 (hy.lx j o e).2.1
end Sb
end Go.Proofs.YtcbmfakjfoggaaaGreatDoor
