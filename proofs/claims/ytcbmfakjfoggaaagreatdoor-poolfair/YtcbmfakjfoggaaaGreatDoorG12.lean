/- The document's answer's NodesFrom and SameInts, the law's ConfigOf, by contract · The law's ConfigOf, by contract: the same numbers in new lists. -/
import Derived.Test.YtcbmfakjfoggaaaGreatDoorG09
import Derived.Deep.AppendLies
import Derived.Deep.RegionLaw
import Derived.Handy
namespace Go.Proofs.YtcbmfakjfoggaaaGreatDoor
open Go.RowKit
namespace Zn
open Fr Bd
theorem info3 : (Tryz.prog.info? 3).map (fun i => (i.zero, i.size, i.bytes)) = some (some (.int .i64 0), 1, 8) := by kernel_rfl
theorem own_less {w : World} {b b' e size : Nat} {v : Value} {n : Nat} {xs : List Value} (h : w.ownsRow b e size v n xs) (hb : b' ≤ b) : w.ownsRow b' e size v n xs := by
  refine ⟨h.1, ?_⟩
  rcases h.2 with h2 | ⟨g, cap, cur, h1, h2, h3⟩
  · exact Or.inl h2
  · exact Or.inr ⟨g, cap, cur, h1, by omega, h3⟩
def ivs (L : List Nat) : List Value := L.map fun (k : Nat) => .int .i64 (k : Int)
/-- The nodes nearer than f, by how far they are. -/
def nfr (r : Nat → Int) (n : Nat) : Nat → List Nat
  | 0 => []
  | f + 1 => nfr r n f ++ (List.range n).filter (fun k => decide (r k = (f : Int)))
theorem nfr_len (r : Nat → Int) (n : Nat) : ∀ f, (nfr r n f).length ≤ n * f
  | 0 => by simp [nfr]
  | f + 1 => by
    have h1 := nfr_len r n f
    have h2 := List.length_filter_le (fun k => decide (r k = (f : Int))) (List.range n)
    simp only [List.length_range] at h2
    simp only [nfr, List.length_append]
    rw [Nat.mul_succ]; omega
theorem ran_yes {r : Nat → Int} {f : Int} {i : Nat} (h : r i = f) : (List.range (i + 1)).filter (fun k => decide (r k = f)) = (List.range i).filter (fun k => decide (r k = f)) ++ [i] := by
  rw [List.range_succ, List.filter_append]; simp [h]
theorem ran_no {r : Nat → Int} {f : Int} {i : Nat} (h : r i ≠ f) : (List.range (i + 1)).filter (fun k => decide (r k = f)) = (List.range i).filter (fun k => decide (r k = f)) := by
  rw [List.range_succ, List.filter_append]; simp [h]
set_option maxRecDepth 100000 in
set_option maxHeartbeats 8000000 in
theorem from_ok (c : Cf) (p q : Option Addr) (pc qc : Nat) (x : Nat) (w : World) (h : At w c p q) (hx : x < c.m) (hn : c.n ≤ 20) (hM : c.n ≤ c.M x) :
    Calls Tryz.prog 147 #[cfV c p pc q qc, .int .i64 x] w fun ev w' => ∃ v, ev = .returned v ∧ w'.ownsRow w.heap.size 3 1 v (nfr (c.D x) c.n 1001).length (ivs (nfr (c.D x) c.n 1001)) ∧ (nfr (c.D x) c.n 1001 = [] → v = .slice none 0 0) ∧ Below w.heap.size w w' := by
  unfold cfV
  have BX := box_new w c p q pc qc 122
  have F1 := ballo (Below.refl w.heap.size w) (.cells #[.slice p c.n pc, .slice q c.m qc, .int .i64 c.mn, .int .i64 c.lw, .int .i64 c.hi] 122)
  have A1 := h.rs.b F1
  clear h
  obtain ⟨n, P, m, M, D, mn, lw, hi⟩ := c
  simp only at *
  obtain ⟨blk, off, pr, cc, rfl, hbl, hc, hrow, _⟩ := A1 x hx
  generalize D x = r at *
  generalize M x = l at *
  obtain ⟨i0, hi0, hz0, hz1, hz2⟩ := info_parts info3
  have HI := hide hi0
  have HZ := hide hz0
  have HZ1 := hide hz1
  have HZ2 := hide hz2
  clear hi0 hz0 hz1 hz2 A1
  have hge : (0 : Int) ≤ x := by omega
  have hlt : (x : Int) < m := by omega
  obtain ⟨L, hL⟩ : ∃ L, L = nfr r n 1001 := ⟨_, rfl⟩
  rw [← hL]
  have HL := hide hL
  clear hL
  go_enter Tryz.func147, Tryz.ntmps147
  go_wp2_with fail
  generalize w.alloc (.cells #[.slice p n pc, .slice (some ⟨blk, off, none⟩) m qc, .int .i64 mn, .int .i64 lw, .int .i64 hi] 122) = W at *
  have b0 := BX.c0
  have b1 := BX.c1
  have bl := BX.lt
  simp only at b0 b1
  have hws := F1.size
  have KB := hide (fun wr (hb : Below W.heap.size W wr) => (⟨(hb.cell (p := ⟨w.heap.size, 0, none⟩) bl).trans b0, (hb.cell (p := ⟨w.heap.size, 1, none⟩) bl).trans b1, (hb.cell (p := ⟨blk, off + x, none⟩) hbl).trans hc⟩ : wr.cell? ⟨w.heap.size, 0, none⟩ = some (.slice p n pc) ∧ wr.cell? ⟨w.heap.size, 1, none⟩ = some (.slice (some ⟨blk, off, none⟩) m qc) ∧ wr.cell? ⟨blk, off + x, none⟩ = some (.slice pr l cc)))
  have hrow := hide hrow
  have F1 := hide F1
  clear BX b0 b1 hc
  go_loopw [5, 6] (fun u a wr => ∃ (f : Nat), a = .int .i64 f ∧ f ≤ 1001 ∧ wr.ownsRow W.heap.size 3 1 u (nfr r n f).length (ivs (nfr r n f)) ∧ Hid (nfr r n f = [] → u = .slice none 0 0) ∧ Below W.heap.size W wr) (fun _ a _ => 1001 - (RowKit.intOf a).toNat)
  case atStart => exact ⟨0, rfl, by omega, World.ownsRow_nil _ _ _ _, fun _ => rfl, Below.refl _ _⟩
  case round =>
    obtain ⟨f, rfl, hf', hown, hnil, hb⟩ := hrel
    have hgef : (0 : Int) ≤ f := by omega
    by_cases hin : f < 1001
    · have hle : (f : Int) ≤ 1000 := by omega
      have hlen := nfr_len r n f
      go_wp2_with fail
      go_loopw [5, 7] (fun u a wr => ∃ (i : Nat) (L1 : List Nat), a = .int .i64 i ∧ i ≤ n ∧ Hid (L1 = nfr r n f ++ (List.range i).filter (fun k => decide (r k = (f : Int)))) ∧ wr.ownsRow W.heap.size 3 1 u L1.length (ivs L1) ∧ Hid (L1 = [] → u = .slice none 0 0) ∧ Below W.heap.size W wr) (fun _ a _ => n - (RowKit.intOf a).toNat)
      case atStart => exact ⟨0, _, rfl, by omega, (by simp [Hid]), hown, hnil, hb⟩
      case round =>
        clear hown hnil hb
        obtain ⟨i, L1, rfl, hi', hL1, hown, hnil, hb⟩ := hrel
        have hgei : (0 : Int) ≤ i := by omega
        obtain ⟨k0, k1, kc⟩ := (unhide KB) _ hb
        by_cases hin2 : i < n
        · have hlti : (i : Int) < n := by omega
          have hltl : (i : Int) < l := by omega
          obtain ⟨blk2, off2, rfl, hbl2, hci⟩ := ((unhide hrow).b hb) i (by omega)
          have hl1 : L1.length ≤ 20 * 1001 + 20 := by
            rw [unhide hL1, List.length_append]
            have h2 := List.length_filter_le (fun k => decide (r k = (f : Int))) (List.range i)
            simp only [List.length_range] at h2
            have : n * f ≤ 20 * 1001 := Nat.mul_le_mul hn (by omega)
            omega
          by_cases he : r i = f
          · have e1 : (r i == (f : Int)) = true := by simp [he]
            have hL2 := hide (show L1 ++ [i] = nfr r n f ++ (List.range (i + 1)).filter (fun k => decide (r k = (f : Int))) by rw [ran_yes he, unhide hL1]; simp)
            clear hL1 he
            generalize r i = y at *
            have hsz := hb.size
            go_wp2_with (at_builtin; refine wpList_append_own _ rfl _ _ 38 rfl W.heap.size 3 i0 (.int .i64 0) 1 8 Tryz.underlying38 (unhide HI) (unhide HZ) (unhide HZ1) (unhide HZ2) rfl (by decide) _ _ _ rfl (hown.alloc _) ⟨wr.heap.size, 0, none⟩ 1 1 [.int .i64 i] rfl rfl (by intro j u hj; match j, hj with | 0, hj => simp at hj; subst hj; simp [Addr.add]) (by intro u hu; simp at hu; subst hu; rfl) (by unfold maxLen; omega) (by omega) (by simp; omega) ?_; intro v' w3 hown' hgrow3 hnil3)
            have b3 : Below W.heap.size W w3 := (ballo hb _).grown hgrow3 (by simp; omega) (own_row hown)
            have hown3 : w3.ownsRow W.heap.size 3 1 v' (L1 ++ [i]).length (ivs (L1 ++ [i])) := by simpa [ivs] using hown'
            clear hown' hgrow3 hnil3 hown hnil
            go_wp2
            go_roundw
            case rel => exact ⟨i + 1, L1 ++ [i], by go_num, by omega, hL2, hown3, (fun h => by simp at h), b3⟩
            case measure => simp [RowKit.intOf]; omega
          · have e1 : (r i == (f : Int)) = false := by simp [he]
            have hL2 := hide (show L1 = nfr r n f ++ (List.range (i + 1)).filter (fun k => decide (r k = (f : Int))) by rw [ran_no he, unhide hL1])
            clear hL1 he
            generalize r i = y at *
            go_wp2
            go_roundw
            case rel => exact ⟨i + 1, L1, by go_num, by omega, hL2, hown, hnil, hb⟩
            case measure => simp [RowKit.intOf]; omega
        · have hlti : ¬ (i : Int) < n := by omega
          obtain rfl : i = n := by omega
          have hL2 : L1 = nfr r i (f + 1) := unhide hL1
          subst hL2
          clear hL1
          have hown := hide hown
          have hnil := hide (unhide hnil)
          go_wp2
          go_roundw
          case rel => exact ⟨f + 1, by go_num, by omega, unhide hown, hnil, hb⟩
          case measure => simp [RowKit.intOf]; omega
    · obtain rfl : f = 1001 := by omega
      have hle : ¬ ((1001 : Nat) : Int) ≤ 1000 := by omega
      have F2 := btr (unhide F1) hb
      rw [← unhide HL] at hown hnil
      go_wp2
      go_ret
      exact ⟨_, rfl, own_less hown hws, unhide hnil, F2⟩

end Zn
end Go.Proofs.YtcbmfakjfoggaaaGreatDoor
namespace Go.Proofs.YtcbmfakjfoggaaaGreatDoor
open Go.RowKit
namespace Zn
open Fr Bd
theorem none_zero {w : World} {p : Option Addr} {n : Nat} {z : Nat → Int} (h : Nums w p n z) (hp : p = none) : n = 0 := by
  subst hp
  rcases Nat.eq_zero_or_pos n with h0 | h0
  · exact h0
  · obtain ⟨b, o, hq, _⟩ := h 0 h0
    cases hq
/-- A row of numbers that was made. -/
theorem nums_of {w : World} {B : Nat} {v : Value} {n : Nat} {z : Nat → Int} (h : w.ownsRow B 3 1 v n ((List.range n).map fun k => .int .i64 (z k))) : ∃ p c, v = .slice p n c ∧ Nums w p n z ∧ (p = none → c = 0) := by
  rcases h.2 with ⟨rfl, h0⟩ | ⟨g, cap, cur, rfl, hb, hg, hle, hcap, hcs, hx⟩
  · subst h0
    exact ⟨none, 0, rfl, fun i hi => by omega, fun _ => rfl⟩
  · refine ⟨_, _, rfl, fun i hi => ?_, fun h => by cases h⟩
    have hlt : g < w.heap.size := by
      rcases Nat.lt_or_ge g w.heap.size with h' | h'
      · exact h'
      · rw [Array.getElem?_eq_none h'] at hg; cases hg
    have := h.cellAt i (by omega)
    refine ⟨g, 0, rfl, hlt, ?_⟩
    rw [Nat.zero_add, this]
    simp [hi]
def zs (n : Nat) (z : Nat → Int) : List Value := (List.range n).map fun k => .int .i64 (z k)
theorem zs_len (n : Nat) (z : Nat → Int) : (zs n z).length = n := by simp [zs]
theorem zs_one (n : Nat) (z : Nat → Int) : ∀ u ∈ zs n z, u.oneCell' = true := by intro u hu; simp [zs] at hu; obtain ⟨k, _, rfl⟩ := hu; rfl
theorem news_any {w : World} {q : Addr} {n : Nat} {z : Nat → Int} (h : Nums w (some q) n z) : ∀ j u, (zs n z)[j]? = some u → w.cell? (q.add j) = some u := by
  intro j u hj
  have hlt : j < n := by have := (List.getElem?_eq_some_iff.1 hj).1; simpa [zs] using this
  obtain ⟨b, o, hp, _, hc⟩ := h j hlt
  obtain rfl := Option.some.inj hp
  rw [add_at, hc, ← hj]
  simp [zs, hlt]
/-- What is appended to nothing. -/
theorem append_all {P : Program} {w : World} {ops : Array Oper} {rest : List Oper} {o : Oper} {a : Act} {Q : Exit → Act → World → Prop} (hgd : o.guard = none) (s x : Operand) (t : TypeId)
    (ho : o.op = .call { callee := .builtin .append, args := #[s, x], argTypes := #[t, t] })
    (base : Nat) (i : TypeInfo) (ht : P.underlying t = some (.slice 3)) (hi : P.info? 3 = some i) (hz : i.zero = some (.int .i64 0)) (hsize : i.size = 1) (hby : i.bytes = 8)
    (hs : a.eval s = .slice none 0 0) (p : Option Addr) (n c : Nat) (z : Nat → Int) (hx : a.eval x = .slice p n c) (hn : Nums w p n z) (hp : p = none → c = 0) (h20 : n ≤ 20) (hbase : base ≤ w.heap.size)
    (h : ∀ v w', w'.ownsRow base 3 1 v n (zs n z) → w.grownBy w' none → wpList P ops Q rest (a.put o.dst v) w') : wpList P ops Q (o :: rest) a w := by
  cases p with
  | none =>
    obtain rfl := none_zero hn rfl
    obtain rfl := hp rfl
    exact wpList_append_own_none hgd s x t ho base 3 i 1 ht hi _ 0 [] hs (World.ownsRow_nil _ _ _ _) hx (h _ _ (World.ownsRow_nil _ _ _ _) ⟨rfl, rfl, rfl, Nat.le_refl _, fun _ _ _ => rfl⟩)
  | some q =>
    refine wpList_append_own w hgd s x t ho base 3 i (.int .i64 0) 1 8 ht hi hz hsize hby rfl (by decide) _ 0 [] hs (World.ownsRow_nil _ _ _ _) _ n c (zs n z) hx (by rw [zs_len, Nat.mul_one]) (news_any hn) (zs_one n z) (by unfold maxLen; omega) (by omega) hbase ?_
    intro v w' h1 h2 h3
    rw [Nat.zero_add, List.nil_append] at h1
    exact h v w' h1 (by simpa [Value.ownBlock] using h2)
/-- The same as a step of a statement that draws its order. -/
theorem step_append_all {P : Program} {w : World} {ops : Array Oper} {o : Oper} {a : Act} {K : Act → World → Prop} {Q : Exit → Act → World → Prop} {E : Prop} (hgd : o.guard = none) (s x : Operand) (t : TypeId)
    (ho : o.op = .call { callee := .builtin .append, args := #[s, x], argTypes := #[t, t] })
    (base : Nat) (i : TypeInfo) (ht : P.underlying t = some (.slice 3)) (hi : P.info? 3 = some i) (hz : i.zero = some (.int .i64 0)) (hsize : i.size = 1) (hby : i.bytes = 8)
    (hs : a.eval s = .slice none 0 0) (p : Option Addr) (n c : Nat) (z : Nat → Int) (hx : a.eval x = .slice p n c) (hn : Nums w p n z) (hp : p = none → c = 0) (h20 : n ≤ 20) (hbase : base ≤ w.heap.size)
    (h : ∀ v w', w'.ownsRow base 3 1 v n (zs n z) → w.grownBy w' none → K (a.put o.dst v) w') :
    if Region.wanted o (yielded ops a.tmps) = true then Oper.wp P o a w K Q else E := by
  have hw : Region.wanted o (yielded ops a.tmps) = true := by simp [Region.wanted, hgd]
  rw [if_pos hw]
  cases p with
  | none =>
    obtain rfl := none_zero hn rfl
    obtain rfl := hp rfl
    have hrun := run_append_owned_none (P := P) (w := w) base t o.type 3 i 1 ht hi _ 0 [] (World.ownsRow_nil _ _ _ _)
    unfold Oper.wp
    simp [execOp, ho, resolve, invoke, builtin, hs, hx, hrun, Result.andThen]
    exact h _ _ (World.ownsRow_nil _ _ _ _) ⟨rfl, rfl, rfl, Nat.le_refl _, fun _ _ _ => rfl⟩
  | some q =>
    refine wp_append_own w s x t ho base 3 i (.int .i64 0) 1 8 ht hi hz hsize hby rfl (by decide) _ 0 [] hs (World.ownsRow_nil _ _ _ _) _ n c (zs n z) hx (by rw [zs_len, Nat.mul_one]) (news_any hn) (zs_one n z) (by unfold maxLen; omega) (by omega) hbase ?_
    intro v w' h1 h2 h3
    rw [Nat.zero_add, List.nil_append] at h1
    exact h v w' h1 (by simpa [Value.ownBlock] using h2)
theorem info22 : (Tryz.prog.info? 38).map (fun i => (i.zero, i.size, i.bytes)) = some (some (.slice none 0 0), 1, 24) := by kernel_rfl
theorem own_other {w : World} {b b' e e' size size' n n' : Nat} {v v' : Value} {xs xs' : List Value} (h : w.ownsRow b e size v n xs) (h' : w.ownsRow b' e' size' v' n' xs') (hne : e ≠ e') : v.ownBlock = none ∨ v.ownBlock ≠ v'.ownBlock := by
  rcases h.2 with ⟨rfl, _⟩ | ⟨g, cap, cur, rfl, _, hg, _⟩
  · exact Or.inl rfl
  · right
    rcases h'.2 with ⟨rfl, _⟩ | ⟨g', cap', cur', rfl, _, hg', _⟩
    · simp [Value.ownBlock]
    · intro h
      simp only [Value.ownBlock, Option.some.injEq] at h
      subst h
      rw [hg] at hg'
      simp only [Option.some.injEq, Obj.cells.injEq] at hg'
      exact hne hg'.2.1
theorem own_set {w : World} {b e size n : Nat} {v : Value} {xs : List Value} (h : w.ownsRow b e size v n xs) {c : Nat} (hc : c < b) (o : Nat) (u : Value) : (w.setCell ⟨c, o, none⟩ u).ownsRow b e size v n xs := by
  refine ⟨h.1, ?_⟩
  rcases h.2 with h2 | ⟨g, cap, cur, h1, h2, h3, h4⟩
  · exact Or.inl h2
  · refine Or.inr ⟨g, cap, cur, h1, h2, ?_, h4⟩
    rw [Below.heap_setCell _ _ _ _ (by simp; omega)]; exact h3
theorem own_b {w w' : World} {b e size n : Nat} {v : Value} {xs : List Value} (h : w.ownsRow b e size v n xs) (hb : Below w.heap.size w w') : w'.ownsRow b e size v n xs := by
  have hl := h.lt
  refine ⟨h.1, ?_⟩
  rcases h.2 with h2 | ⟨g, cap, cur, rfl, h2, h3, h4⟩
  · exact Or.inl h2
  · exact Or.inr ⟨g, cap, cur, rfl, h2, (hb.block g (hl g rfl).2).trans h3, h4⟩
theorem own_up {w w' : World} {b e size n : Nat} {v : Value} {xs : List Value} (h : w.ownsRow b e size v n xs) (hb : ∀ k, b ≤ k → w'.heap[k]? = w.heap[k]?) : w'.ownsRow b e size v n xs := by
  refine ⟨h.1, ?_⟩
  rcases h.2 with h2 | ⟨g, cap, cur, rfl, h2, h3, h4⟩
  · exact Or.inl h2
  · exact Or.inr ⟨g, cap, cur, rfl, h2, (hb g h2).trans h3, h4⟩
theorem kept_low {A N : Nat} {a b c : World} (h : Kept A A a b) (k : Below N b c) (hN : a.heap.size ≤ N) : Kept A A a c :=
  ⟨k.os.trans h.os, k.tape.trans h.tape, k.output.trans h.output, Nat.le_trans h.size k.size, fun i hi h1 h2 => (k.block i (Nat.lt_of_lt_of_le hi hN)).trans (h.block i hi h1 h2)⟩
/-- The box of a config that is being made. -/
structure OutBox (w : World) (b : Nat) (v u : Value) (mn lw hi : Int) : Prop where
  c0 : w.cell? ⟨b, 0, none⟩ = some v
  c1 : w.cell? ⟨b, 1, none⟩ = some u
  c2 : w.cell? ⟨b, 2, none⟩ = some (.int .i64 mn)
  c3 : w.cell? ⟨b, 3, none⟩ = some (.int .i64 lw)
  c4 : w.cell? ⟨b, 4, none⟩ = some (.int .i64 hi)
  ff : ∀ o, w.frozen? ⟨b, o, none⟩ = false
  lt : b < w.heap.size
theorem box5 (w : World) (mn lw hi : Int) (b : Nat) (hb : w.heap.size = b) : OutBox (w.alloc (.cells #[.slice none 0 0, .slice none 0 0, .int .i64 mn, .int .i64 lw, .int .i64 hi] 127)) b (.slice none 0 0) (.slice none 0 0) mn lw hi := by
  subst hb
  exact ⟨by simp, by simp, by simp, by simp, by simp, fun o => by simp, by simp⟩
theorem OutBox.b {w w' : World} {b : Nat} {v u : Value} {mn lw hi : Int} (h : OutBox w b v u mn lw hi) (hb : Below w.heap.size w w') : OutBox w' b v u mn lw hi :=
  ⟨(hb.cell (p := ⟨b, 0, none⟩) h.lt).trans h.c0, (hb.cell (p := ⟨b, 1, none⟩) h.lt).trans h.c1, (hb.cell (p := ⟨b, 2, none⟩) h.lt).trans h.c2, (hb.cell (p := ⟨b, 3, none⟩) h.lt).trans h.c3, (hb.cell (p := ⟨b, 4, none⟩) h.lt).trans h.c4, fun o => (hb.frozen (p := ⟨b, o, none⟩) h.lt).trans (h.ff o), Nat.lt_of_lt_of_le h.lt hb.size⟩
theorem OutBox.bn {w w' : World} {b N : Nat} {v u : Value} {mn lw hi : Int} (h : OutBox w b v u mn lw hi) (hb : Below N w w') (hn : b < N) : OutBox w' b v u mn lw hi :=
  ⟨(hb.cell (p := ⟨b, 0, none⟩) hn).trans h.c0, (hb.cell (p := ⟨b, 1, none⟩) hn).trans h.c1, (hb.cell (p := ⟨b, 2, none⟩) hn).trans h.c2, (hb.cell (p := ⟨b, 3, none⟩) hn).trans h.c3, (hb.cell (p := ⟨b, 4, none⟩) hn).trans h.c4, fun o => (hb.frozen (p := ⟨b, o, none⟩) hn).trans (h.ff o), Nat.lt_of_lt_of_le h.lt hb.size⟩
theorem OutBox.p0 {w : World} {b : Nat} {v u : Value} {mn lw hi : Int} (h : OutBox w b v u mn lw hi) (v' : Value) : OutBox (w.setCell ⟨b, 0, none⟩ v') b v' u mn lw hi :=
  ⟨css h.c0, (cso (by simp)).trans h.c1, (cso (by simp)).trans h.c2, (cso (by simp)).trans h.c3, (cso (by simp)).trans h.c4, fun o => by simp only [World.frozen?_setCell]; exact h.ff o, by simpa [World.setCell] using h.lt⟩
theorem OutBox.p1 {w : World} {b : Nat} {v u : Value} {mn lw hi : Int} (h : OutBox w b v u mn lw hi) (v' : Value) : OutBox (w.setCell ⟨b, 1, none⟩ v') b v v' mn lw hi :=
  ⟨(cso (by simp)).trans h.c0, css h.c1, (cso (by simp)).trans h.c2, (cso (by simp)).trans h.c3, (cso (by simp)).trans h.c4, fun o => by simp only [World.frozen?_setCell]; exact h.ff o, by simpa [World.setCell] using h.lt⟩
set_option maxRecDepth 100000 in
set_option maxHeartbeats 8000000 in
theorem conf_ok (c : Cf) (p q : Option Addr) (pc qc : Nat) (w : World) (h : At w c p q) (hwd : ¬ c.wide) (hp : p = none → pc = 0) :
    Calls Tryz.prog 65 #[cfV c p pc q qc] w fun ev w' => ∃ p' q' pc' qc', ev = .returned (cfV c p' pc' q' qc') ∧ At w' c p' q' ∧ Below w.heap.size w w' := by
  unfold cfV
  have BX := box_new w c p q pc qc 122
  have F1 := ballo (Below.refl w.heap.size w) (.cells #[.slice p c.n pc, .slice q c.m qc, .int .i64 c.mn, .int .i64 c.lw, .int .i64 c.hi] 122)
  have A1 := h.b F1
  clear h
  obtain ⟨n, P, m, M, D, mn, lw, hi⟩ := c
  simp only at *
  obtain ⟨i1, hi1, hy0, hy1, hy2⟩ := info_parts info22
  have HJ := hide hi1
  have HY := hide hy0
  have HY1 := hide hy1
  have HY2 := hide hy2
  clear hi1 hy0 hy1 hy2
  obtain ⟨i0, hi0, hz0, hz1, hz2⟩ := info_parts info3
  have HI := hide hi0
  have HZ := hide hz0
  have HZ1 := hide hz1
  have HZ2 := hide hz2
  clear hi0 hz0 hz1 hz2
  have b0 := BX.c0
  have b1 := BX.c1
  have b2 := BX.c2
  have b3 := BX.c3
  have b4 := BX.c4
  have bl := BX.lt
  simp only at b0 b1 b2 b3 b4
  have hn20 : n ≤ 20 := Nat.le_of_not_lt fun h => hwd (Or.inl h)
  have hm20 : m ≤ 20 := Nat.le_of_not_lt fun h => hwd (Or.inr (Or.inl h))
  have hM20 : Hid (∀ i, i < m → M i ≤ 20) := fun i hi => Nat.le_of_not_lt fun h => hwd (Or.inr (Or.inr ⟨i, hi, h⟩))
  have HP := hide hp
  have A1 := hide A1
  clear hwd BX hp
  have F3 := hide (ballo (ballo F1 (.cells #[.slice none 0 0, .slice none 0 0, .int .i64 0, .int .i64 0, .int .i64 0] 127)) (.cells #[.slice none 0 0, .slice none 0 0, .int .i64 mn, .int .i64 lw, .int .i64 hi] 127))
  have F31 := hide (ballo (ballo (Below.refl (w.alloc (.cells #[.slice p n pc, .slice q m qc, .int .i64 mn, .int .i64 lw, .int .i64 hi] 122)).heap.size _) (.cells #[.slice none 0 0, .slice none 0 0, .int .i64 0, .int .i64 0, .int .i64 0] 127)) (.cells #[.slice none 0 0, .slice none 0 0, .int .i64 mn, .int .i64 lw, .int .i64 hi] 127))
  have s3 : (((w.alloc (.cells #[.slice p n pc, .slice q m qc, .int .i64 mn, .int .i64 lw, .int .i64 hi] 122)).alloc (.cells #[.slice none 0 0, .slice none 0 0, .int .i64 0, .int .i64 0, .int .i64 0] 127)).alloc (.cells #[.slice none 0 0, .slice none 0 0, .int .i64 mn, .int .i64 lw, .int .i64 hi] 127)).heap.size = w.heap.size + 3 := by simp
  have y0 := box5 ((w.alloc (.cells #[.slice p n pc, .slice q m qc, .int .i64 mn, .int .i64 lw, .int .i64 hi] 122)).alloc (.cells #[.slice none 0 0, .slice none 0 0, .int .i64 0, .int .i64 0, .int .i64 0] 127)) mn lw hi (w.heap.size + 1 + 1) (by simp)
  have r0 := hide ((box5 (w.alloc (.cells #[.slice p n pc, .slice q m qc, .int .i64 mn, .int .i64 lw, .int .i64 hi] 122)) 0 0 0 (w.heap.size + 1) (by simp)).b (ballo (Below.refl _ _) (.cells #[.slice none 0 0, .slice none 0 0, .int .i64 mn, .int .i64 lw, .int .i64 hi] 127)))
  have s1 : (w.alloc (.cells #[.slice p n pc, .slice q m qc, .int .i64 mn, .int .i64 lw, .int .i64 hi] 122)).heap.size = w.heap.size + 1 := by simp
  have tok1 : True := trivial
  go_enter Tryz.func65, Tryz.ntmps65
  go_wp2_with (at_builtin; have _t := tok1; generalize (((w.alloc (.cells #[.slice p n pc, .slice q m qc, .int .i64 mn, .int .i64 lw, .int .i64 hi] 122)).alloc (.cells #[.slice none 0 0, .slice none 0 0, .int .i64 0, .int .i64 0, .int .i64 0] 127)).alloc (.cells #[.slice none 0 0, .slice none 0 0, .int .i64 mn, .int .i64 lw, .int .i64 hi] 127)) = W3 at *; generalize w.alloc (.cells #[.slice p n pc, .slice q m qc, .int .i64 mn, .int .i64 lw, .int .i64 hi] 122) = W1 at *; refine append_all rfl (.tmp 10) (.tmp 12) 38 rfl W3.heap.size i0 Tryz.underlying38 (unhide HI) (unhide HZ) (unhide HZ1) (unhide HZ2) rfl p n pc P rfl ((unhide A1).ps.b (unhide F31)) (unhide HP) hn20 (Nat.le_refl _) ?_; intro v4 w4 o4 g4; obtain ⟨p4, c4, hv4, n4, e4⟩ := nums_of o4; subst hv4; have B4 : Below W3.heap.size W3 w4 := (Below.refl _ _).grown g4 (Nat.le_refl _) (fun k hk => by cases hk); have Y4 := y0.b B4; have yc0 := Y4.c0; have yf0 := Y4.ff 0; clear tok1)
  have y5 := hide (Y4.p0 (.slice p4 n c4))
  have o5 := hide (own_set o4 (c := w.heap.size + 1 + 1) (by omega) 0 (.slice p4 n c4))
  have k5 := hide ((kept_of B4 : Kept (w.heap.size + 1 + 1) (w.heap.size + 1 + 1) W3 w4).trans (kept_set w4 0 (.slice p4 n c4)))
  have KB := hide (fun wr (hk : Kept (w.heap.size + 1 + 1) (w.heap.size + 1 + 1) W3 wr) => (unhide F31).trans (hk.below (N := W1.heap.size) (by omega) (by omega) (by omega)))
  clear o4 B4 g4 Y4 yc0 yf0 y0 n4
  go_loopw [4] (fun a wr => ∃ (i : Nat) (pu : Option Addr) (cu : Nat) (xs : List Value), a = .int .i64 i ∧ i ≤ m ∧ Hid (OutBox wr (w.heap.size + 1 + 1) (.slice p4 n c4) (.slice pu i cu) mn lw hi) ∧ Hid (wr.ownsRow W3.heap.size 3 1 (.slice p4 n c4) n (zs n P)) ∧ Hid (wr.ownsRow W3.heap.size 38 1 (.slice pu i cu) i xs) ∧ Hid (∀ j, j < i → ∃ v, xs[j]? = some v ∧ wr.ownsRow W3.heap.size 3 1 v (M j) (zs (M j) (D j))) ∧ Hid (Kept (w.heap.size + 1 + 1) (w.heap.size + 1 + 1) W3 wr)) (fun a _ => m - (RowKit.intOf a).toNat)
  case atStart => exact ⟨0, none, 0, [], rfl, Nat.zero_le _, y5, o5, World.ownsRow_nil _ _ _ _, fun j hj => by omega, k5⟩
  case round =>
    clear y5 o5 k5
    obtain ⟨i, pu, cu, xs, rfl, hi', Y, O, U, R, K⟩ := hrel
    have hge : (0 : Int) ≤ i := by omega
    have HB := (unhide KB) _ (unhide K)
    have d1 := (HB.cell (p := ⟨w.heap.size, 1, none⟩) bl).trans b1
    have yc1 := (unhide Y).c1
    have yf1 := (unhide Y).ff 1
    by_cases hin : i < m
    · have hlt : (i : Int) < m := by omega
      obtain ⟨blk, off, pr, cc, rfl, hbl, hc, hrow, hr0⟩ := ((unhide A1).rs.b HB) i hin
      have hMi := (unhide hM20) i hin
      simp only at hc hrow
      have hrow := hide hrow
      have tok2 : True := trivial
      have hsz := (unhide K).size
      clear HB
      generalize hMe : M i = l at *
      generalize hDe : D i = z at *
      go_wp2_with fail
      go_region_law (first
        | (have _t := tok2; refine step_append_all rfl (.tmp 24) (.tmp 29) 38 rfl W3.heap.size i0 Tryz.underlying38 (unhide HI) (unhide HZ) (unhide HZ1) (unhide HZ2) (by simp [Act.eval]) pr l cc z (by simp [Act.eval]) ((unhide hrow).b (drw _)) hr0 hMi hsz ?_; intro v6 w6 o6 g6; obtain ⟨p6, c6, hv6, _, _⟩ := nums_of o6; subst hv6; have B6 : Below wr.heap.size wr.drew w6 := (Below.refl _ _).grown g6 (Nat.le_refl _) (fun k hk => by cases hk); have C6 : Below wr.heap.size wr w6 := (drw wr).trans B6; have U6 := own_b (unhide U) C6; have Y6 := (unhide Y).b C6; have yc6 := Y6.c1; have yf6 := Y6.ff 1; have ya6 := (Y6.b (ballo (Below.refl _ _) (.cells #[.slice p6 l c6] 38))).c1; clear tok2)
        | (refine step_append_lies _ rfl (.tmp 23) (.tmp 31) 118 rfl W3.heap.size 38 i1 (.slice none 0 0) 1 24 Tryz.underlying118 (unhide HJ) (unhide HY) (unhide HY1) (unhide HY2) rfl (by decide) (.slice pu i cu) i xs (by simp [Act.eval]) (U6.alloc _) ⟨w6.heap.size, 0, none⟩ 1 1 [.slice p6 l c6] (by simp [Act.eval]) rfl (by intro j u hj; match j, hj with | 0, hj => simp at hj; subst hj; simp [Addr.add]) (by intro u hu; simp at hu; subst hu; rfl) (by omega) (by unfold maxLen; omega) (by omega) (by have := C6.size; simp; omega) _ rfl ?_; intro g8 c8 w8 o8 q8 _ _; have B8 : Below W3.heap.size wr w8 := ((C6.mono hsz).alloc (Nat.le_trans hsz C6.size) _).grown q8 (by have := C6.size; simp; omega) (own_row U6); have Y8 := (unhide Y).bn B8 (by omega); have yc8 := Y8.c1; have yf8 := Y8.ff 1))
      all_goals
        have hOw : ∀ (v : Value) (k : Nat) (xs' : List Value), wr.ownsRow W3.heap.size 3 1 v k xs' → w8.ownsRow W3.heap.size 3 1 v k xs' := fun v k xs' h =>
          ((own_b h C6).alloc _).kept q8 (own_other (own_b h C6) U6 (by decide))
        have O8 := hOw _ _ _ (unhide O)
        have V8 := (o6.alloc _).kept q8 (own_other o6 U6 (by decide))
        have hxl : xs.length = i := by have := U6.1; omega
        have R9 : Hid (∀ j, j < i + 1 → ∃ v, (xs ++ [.slice p6 l c6])[j]? = some v ∧ (w8.setCell ⟨w.heap.size + 1 + 1, 1, none⟩ (.slice (some ⟨g8, 0, none⟩) (i + 1) c8)).ownsRow W3.heap.size 3 1 v (M j) (zs (M j) (D j))) := fun j hj => by
          rcases Nat.lt_or_ge j i with h' | h'
          · obtain ⟨v, e1, e2⟩ := (unhide R) j h'
            exact ⟨v, by rw [List.getElem?_append_left (by omega)]; exact e1, own_set (hOw _ _ _ e2) (by omega) _ _⟩
          · obtain rfl : j = i := by omega
            refine ⟨.slice p6 l c6, by rw [List.getElem?_append_right (by omega)]; simp [hxl], ?_⟩
            rw [hMe, hDe]
            exact own_set V8 (by omega) _ _
        have Y9 := hide (Y8.p1 (.slice (some ⟨g8, 0, none⟩) (i + 1) c8))
        have O9 := hide (own_set O8 (c := w.heap.size + 1 + 1) (by omega) 1 (.slice (some ⟨g8, 0, none⟩) (i + 1) c8))
        have U9 := hide (own_set o8 (c := w.heap.size + 1 + 1) (by omega) 1 (.slice (some ⟨g8, 0, none⟩) (i + 1) c8))
        have K9 := hide ((kept_low (unhide K) B8 (Nat.le_refl _)).trans (kept_set w8 1 (.slice (some ⟨g8, 0, none⟩) (i + 1) c8)))
        clear hOw O8 V8 Y8 Y6 U6 C6 B8 yc6 yf6 ya6 yc8 yf8 o6 o8 q8 g6 B6 d1 yc1 yf1 hrow Y O U R K
        go_wp2
        go_roundw
        case rel => exact ⟨i + 1, some ⟨g8, 0, none⟩, c8, xs ++ [.slice p6 l c6], by go_num, by omega, Y9, O9, U9, R9, K9⟩
        case measure => simp [RowKit.intOf]; omega
    · have hlt : ¬ (i : Int) < m := by omega
      obtain rfl : m = i := by omega
      have yc0 := (unhide Y).c0
      have yc2 := (unhide Y).c2
      have yc3 := (unhide Y).c3
      have yc4 := (unhide Y).c4
      have HRB := (unhide r0)
      have HRK : Below (w.heap.size + 1 + 1) W3 wr := (unhide K).below (by omega) (by omega) (by omega)
      have RX := HRB.bn HRK (by omega)
      have rx0 := RX.c0
      have rx1 := RX.c1
      have rx2 := RX.c2
      have rx3 := RX.c3
      have rx4 := RX.c4
      have rf0 := RX.ff 0
      have rf1 := RX.ff 1
      have rf2 := RX.ff 2
      have rf3 := RX.ff 3
      have rf4 := RX.ff 4
      clear HRB HRK RX
      have F9 := ((unhide F3).trans ((unhide K).below (N := w.heap.size) (by omega) (by omega) (by omega)))
      have FIN : Hid (∀ wf : World, (∀ k, W3.heap.size ≤ k → wf.heap[k]? = wr.heap[k]?) → At wf ⟨n, P, m, M, D, mn, lw, hi⟩ p4 pu) := by
        intro wf hwf
        obtain ⟨p5, c5, e5, n5, _⟩ := nums_of (own_up (unhide O) hwf)
        simp only [Value.slice.injEq, true_and] at e5
        obtain ⟨rfl, rfl⟩ := e5
        refine ⟨n5, fun j hj0 => ?_⟩
        have hj : j < m := hj0
        obtain ⟨v, e1, e2⟩ := (unhide R) j hj
        obtain ⟨pj, cj, rfl, nj, zj⟩ := nums_of (own_up e2 hwf)
        have UU := own_up (unhide U) hwf
        rcases UU.2 with ⟨_, h0⟩ | ⟨g, cap, cur, hv, hb, hg, hle, hcap, hcs, hx⟩
        · omega
        · simp only [Value.slice.injEq] at hv
          obtain ⟨rfl, _, rfl⟩ := hv
          have hgl := (UU.lt g rfl).2
          refine ⟨g, 0, pj, cj, rfl, hgl, ?_, nj, zj⟩
          rw [Nat.zero_add, UU.cellAt j (by omega), e1]
      clear O U R K Y
      go_wp2
      have t0 := css (v := .slice p4 n c4) rx0
      have t1 := css (v := .slice pu m cu) ((cso (w := wr) (a := ⟨w.heap.size + 1, 0, none⟩) (b := ⟨w.heap.size + 1, 1, none⟩) (v := .slice p4 n c4) (by simp)).trans rx1)
      have t2 := css (v := .int .i64 mn) ((cso (a := ⟨w.heap.size + 1, 1, none⟩) (b := ⟨w.heap.size + 1, 2, none⟩) (v := .slice pu m cu) (by simp)).trans ((cso (w := wr) (a := ⟨w.heap.size + 1, 0, none⟩) (b := ⟨w.heap.size + 1, 2, none⟩) (v := .slice p4 n c4) (by simp)).trans rx2))
      have t3 := css (v := .int .i64 lw) ((cso (a := ⟨w.heap.size + 1, 2, none⟩) (b := ⟨w.heap.size + 1, 3, none⟩) (v := .int .i64 mn) (by simp)).trans ((cso (a := ⟨w.heap.size + 1, 1, none⟩) (b := ⟨w.heap.size + 1, 3, none⟩) (v := .slice pu m cu) (by simp)).trans ((cso (w := wr) (a := ⟨w.heap.size + 1, 0, none⟩) (b := ⟨w.heap.size + 1, 3, none⟩) (v := .slice p4 n c4) (by simp)).trans rx3)))
      have t4 := css (v := .int .i64 hi) ((cso (a := ⟨w.heap.size + 1, 3, none⟩) (b := ⟨w.heap.size + 1, 4, none⟩) (v := .int .i64 lw) (by simp)).trans ((cso (a := ⟨w.heap.size + 1, 2, none⟩) (b := ⟨w.heap.size + 1, 4, none⟩) (v := .int .i64 mn) (by simp)).trans ((cso (a := ⟨w.heap.size + 1, 1, none⟩) (b := ⟨w.heap.size + 1, 4, none⟩) (v := .slice pu m cu) (by simp)).trans ((cso (w := wr) (a := ⟨w.heap.size + 1, 0, none⟩) (b := ⟨w.heap.size + 1, 4, none⟩) (v := .slice p4 n c4) (by simp)).trans rx4))))
      (try simp only [Exit.inBlock, Exit.then])
      refine bodyPost_ret (v := .agg #[.slice p4 n c4, .slice pu m cu, .int .i64 mn, .int .i64 lw, .int .i64 hi]) (by simp [results, Tryz.results65, go_sem, t0, t1, t2, t3, t4]; try rfl) rfl ?_
      refine ⟨p4, pu, ⟨c4, cu, rfl⟩, (unhide FIN) _ ?_, ?_⟩
      · intro k hk
        have hne : k ≠ w.heap.size + 1 := by omega
        rw [Below.heap_setCell _ _ _ _ hne, Below.heap_setCell _ _ _ _ hne, Below.heap_setCell _ _ _ _ hne, Below.heap_setCell _ _ _ _ hne, Below.heap_setCell _ _ _ _ hne]
      · exact ((((F9.setCell (by simp) _).setCell (by simp) _).setCell (by simp) _).setCell (by simp) _).setCell (by simp) _
end Zn
end Go.Proofs.YtcbmfakjfoggaaaGreatDoor
