/- A pool of the laws' depot, of which the depot gets nothing back · The document's answer's slabs and cache in memory; Many, by contract · The document's answer's zone and cache in one memory. -/
import Derived.Test.YtcbmfakjfoggaaaGreatDoorG39
import Derived.Test.YtcbmfakjfoggaaaGreatDoorG20
import Derived.Test.YtcbmfakjfoggaaaGreatDoorG27
import Derived.Test.YtcbmfakjfoggaaaGreatDoorG15
import Derived.Test.YtcbmfakjfoggaaaGreatDoorG14
import Derived.Test.YtcbmfakjfoggaaaGreatDoorG08
import Derived.Test.YtcbmfakjfoggaaaGreatDoorG04
import Derived.Test.YtcbmfakjfoggaaaGreatDoorG06
import Derived.Deep.DrawnRows
import Derived.BigQuiet
import Derived.Deep.RegionHeld3
import Derived.Test.YtcbmfakjfoggaaaGreatDoorG13
namespace Go.Proofs.YtcbmfakjfoggaaaGreatDoor
open Go.RowKit Go.Maps
namespace Pl
open Fr Bd Zn Dz Sb Mg
/-- What the depot gave is in the reserve, taken, or ready. -/
structure FP (pg : Nat) (C : Dc) (S : Ds) (P : Ps) (l : List Bl) : Prop where
  fs : FS pg C S l
  sub : ∀ o ∈ P.R ++ (P.T ++ P.Y.map (·.2)), o ∈ l
  nd : (P.R ++ (P.T ++ P.Y.map (·.2))).Nodup
  len : P.R.length + (P.T.length + P.Y.length) = l.length
  mn : C.mn = 0
  ws : S.ws.length = 1
/-- Others' blocks stand. -/
def VF (V : Nat → Prop) (w w' : World) : Prop := (∀ k, V k → w'.heap[k]? = w.heap[k]?) ∧ w.heap.size ≤ w'.heap.size
theorem VF.refl (V : Nat → Prop) (w : World) : VF V w w := ⟨fun _ _ => rfl, Nat.le_refl _⟩
theorem VF.trans {V : Nat → Prop} {w w1 w2 : World} (h : VF V w w1) (k : VF V w1 w2) : VF V w w2 := ⟨fun j hj => (k.1 j hj).trans (h.1 j hj), Nat.le_trans h.2 k.2⟩
theorem VF.mono {V V' : Nat → Prop} {w w1 : World} (h : VF V w w1) (hv : ∀ j, V' j → V j) : VF V' w w1 := ⟨fun j hj => h.1 j (hv j hj), h.2⟩
theorem PF.vf {V : Nat → Prop} {P P' : Ps} {w w' : World} (h : PF V P P' w w') : VF V w w' := ⟨h.v, h.z⟩
/-- A pool of which it is known what is taken, what is ready, who waits, tickets, how much the reserve has. -/
def PZ (B : Nat) (C : Dc) (V : Nat → Prop) (pb tm ym pg : Nat) (T : List Bl) (Y : List (Nat × Bl)) (L : List Nat) (tk q n : Nat) (w : World) : Prop :=
  ∃ S P l, PD B C V (fun _ => none) pb tm ym S P w ∧ FP pg C S P l ∧ P.T = T ∧ P.Y = Y ∧ P.L = L ∧ P.tk = tk ∧ P.q ≤ q ∧ P.R.length = n
section
variable {B : Nat} {C : Dc} {V V' : Nat → Prop} {X : Nat → Option Obj} {pb tm ym pg tk q n : Nat} {S S' : Ds} {P P' : Ps} {w w' : World} {e : Nat → Addr} {x y : Int} {u : Bool} {r : Option Nat} {o : Bl} {l T : List Bl} {Y : List (Nat × Bl)} {L : List Nat}
theorem FS.le (h : FS pg C S l) : l.length ≤ pg * C.m := by
  have h1 : S.ss.length ≤ pg := by have := h.fi.pg; have := (pgs_pos (l := (S.nd 0).F)).1; omega
  have h2 := totL_le C.m S.ss
  have h3 : S.ss.length * C.m ≤ pg * C.m := Nat.mul_le_mul_right _ h1
  have h4 := h.fi.tt
  omega
theorem FS.w2 (h : FS pg C S l) {U : Nat → Prop} (hD : DK C U X S w) (ho : o ∈ l) : W2 o.1 o.2 := by
  obtain ⟨ly, bs, q, f, rb, hP, h2, h3⟩ := DQ.ex hD
  exact Tkn.w2 hP.c (h.tk o ho)
theorem FS.out (h : FS pg C S l) (ho : o ∈ l) : Isout C S o := ⟨h.tk o ho, fun t _ => by rw [h.ct]; simp⟩
theorem PZ.le (h : PZ B C V pb tm ym pg T Y L tk q n w) : n + (T.length + Y.length) ≤ pg * C.m := by
  obtain ⟨S, P, l, hD, hF, rfl, rfl, rfl, rfl, _, rfl⟩ := h
  have := hF.len
  have := hF.fs.le
  omega
theorem PZ.b (h : PZ B C V pb tm ym pg T Y L tk q n w) (hb : Below w.heap.size w w') : PZ B C V pb tm ym pg T Y L tk q n w' := by
  obtain ⟨S, P, l, hD, hr⟩ := h
  exact ⟨S, P, l, hD.b hb, hr⟩
theorem PZ.more (h : PZ B C V pb tm ym pg T Y L tk q n w) (hb : Below w.heap.size w w') {b : Nat} (hw : w.heap.size ≤ b) (ht : Tag w' b 34) : PZ B C (fun j => V j ∨ j = b) pb tm ym pg T Y L tk q n w' := by
  obtain ⟨S, P, l, hD, hr⟩ := h
  exact ⟨S, P, l, hD.more hb hw ht, hr⟩
theorem PZ.less (h : PZ B C V pb tm ym pg T Y L tk q n w) (hv : ∀ j, V' j → V j) : PZ B C V' pb tm ym pg T Y L tk q n w := by
  obtain ⟨S, P, l, hD, hr⟩ := h
  exact ⟨S, P, l, hD.less hv, hr⟩
theorem PZ.low (h : PZ B C V pb tm ym pg T Y L tk q n w) : Below C.w0.heap.size C.w0 w := by
  obtain ⟨S, P, l, hD, hr⟩ := h
  exact DQ.b0 hD.k
theorem PZ.vlt (h : PZ B C V pb tm ym pg T Y L tk q n w) : ∀ k, V k → k < w.heap.size := by
  obtain ⟨S, P, l, hD, hr⟩ := h
  exact hD.vlt
theorem take_z (h : PZ B C V pb tm ym pg T Y [] tk q n w) (hN : C.w0.heap.size ≤ C.N0) (he : Errs C.w0 e) (h12 : 11 < B) (hq : q < 1000000) (htk : tk < 1000000) :
    Calls Tryz.prog 15 #[.pointer (some ⟨pb, 0, none⟩), .int .i64 0, .int .i64 0] w fun ev w' => VF V w w' ∧
      ((T.length + Y.length < pg * C.m ∧ ∃ o n', ev = .returned (.tuple #[objV o.1 o.2, .nilIface]) ∧ o ∉ T ∧ PZ B C V pb tm ym pg (T ++ [o]) Y [] tk (q + 1) n' w') ∨
       (T.length + Y.length = pg * C.m ∧ ev = .returned (.tuple #[objV 0 0, errV (e 7)]) ∧ PZ B C V pb tm ym pg T Y [tk + 1] (tk + 1) q 0 w')) := by
  obtain ⟨S, P, l, hD, hF, rfl, rfl, hL, rfl, hPq, rfl⟩ := h
  have hmn : C.mn ≤ 0 := by rw [hF.mn]; omega
  have hx : (0 : Int) ≤ 0 ∧ (0 : Int) < S.ws.length := by have := hF.ws; omega
  have hy : (0 : Int) ≤ 0 ∧ (0 : Int) < C.k := by have := hF.fs.k1; omega
  have hle := hF.fs.le
  have hlen := hF.len
  have hfr : ∀ (o : Bl) (S' : Ds) (U : Nat → Prop) (X : Nat → Option Obj) (W : World), TkA C S 0 0 false none o S' → DK C U X S' W → o ∉ P.T ∧ W2 o.1 o.2 := fun o S' U X W hT hD' => by
    rcases hF.fs.take hD.k (Or.inr hmn) hx hT with ⟨_, _, h3, h4⟩ | ⟨_, h2, _⟩
    · exact ⟨fun hm => h3 (hF.sub o (by simp [hm])), h4.w2 hD' (by simp)⟩
    · cases h2
  have hsp : ∀ o ∈ P.R, o ∉ P.T ∧ W2 o.1 o.2 := fun o ho => ⟨fun hm => (List.nodup_append.1 hF.nd).2.2 o ho o (by simp [hm]) rfl, hF.fs.w2 hD.k (hF.sub o (by simp [ho]))⟩
  refine (take_ask hD hN he h12 hL hx hy (by omega) htk hfr hsp).mono ?_
  rintro ev w' ⟨r, o, S', hT, h1⟩
  have hft := hF.fs.take hD.k (Or.inr hmn) hx hT
  have hws : S'.ws.length = 1 := (tka_ws hT).trans hF.ws
  rcases h1 with ⟨rfl, rfl, hD', hP'⟩ | ⟨hr, R, o2, vr', hR, rfl, hD', hP'⟩ | ⟨hr, hR, vl', rfl, hD', hP'⟩
  · refine ⟨hP'.vf, Or.inl ?_⟩
    rcases hft with ⟨h2, _, h3, h4⟩ | ⟨_, h2, _⟩
    · have hoT : o ∉ P.R ++ (P.T ++ P.Y.map (·.2)) := fun hm => h3 (hF.sub o hm)
      refine ⟨by omega, o, P.R.length, rfl, fun hm => hoT (by simp [hm]), S', _, l ++ [o], hD', ⟨h4, fun p hp => ?_, ?_, ?_, hF.mn, hws⟩, rfl, rfl, hL, rfl, by simp only; omega, rfl⟩
      · simp only [List.mem_append, List.mem_singleton] at hp ⊢
        rcases hp with hp | ((hp | hp) | hp)
        · exact Or.inl (hF.sub p (by simp [hp]))
        · exact Or.inl (hF.sub p (by simp [hp]))
        · exact Or.inr hp
        · exact Or.inl (hF.sub p (List.mem_append.2 (Or.inr (List.mem_append.2 (Or.inr hp)))))
      · have hp : (P.R ++ ((P.T ++ [o]) ++ P.Y.map (·.2))).Perm ((P.R ++ (P.T ++ P.Y.map (·.2))) ++ [o]) := by
          simp only [List.append_assoc]
          exact List.Perm.append_left _ (List.Perm.append_left _ List.perm_append_comm)
        refine hp.nodup_iff.2 (List.nodup_append.2 ⟨hF.nd, by simp, fun a ha b hb e => ?_⟩)
        simp only [List.mem_singleton] at hb
        exact hoT (by rw [← hb, ← e]; exact ha)
      · simp only [List.length_append, List.length_singleton]; omega
    · cases h2
  · refine ⟨hP'.vf, Or.inl ?_⟩
    rcases hft with ⟨_, h2, _⟩ | ⟨h2, _, h4⟩
    · exact absurd h2 hr
    · have hnd := hF.nd
      have hsub := hF.sub
      rw [hR] at hnd hsub hlen
      simp only [List.length_append, List.length_singleton] at hlen
      have hp : (R ++ ((P.T ++ [o2]) ++ P.Y.map (·.2))).Perm ((R ++ [o2]) ++ (P.T ++ P.Y.map (·.2))) := by
        simp only [List.append_assoc]
        refine List.Perm.append_left _ ?_
        rw [← List.append_assoc, ← List.append_assoc]
        exact List.Perm.append_right _ List.perm_append_comm
      refine ⟨by omega, o2, R.length, rfl, fun hm => ?_, S', _, l, hD', ⟨h4, fun p hp' => hsub p (hp.mem_iff.1 hp'), hp.nodup_iff.2 hnd, ?_, hF.mn, hws⟩, rfl, rfl, hL, rfl, by simp only; omega, rfl⟩
      · exact (List.nodup_append.1 hnd).2.2 o2 (by simp) o2 (by simp [hm]) rfl
      · simp only [List.length_append, List.length_singleton]; omega
  · refine ⟨hP'.vf, Or.inr ?_⟩
    rcases hft with ⟨_, h2, _⟩ | ⟨h2, _, h4⟩
    · exact absurd h2 hr
    · rw [hR] at hlen
      simp only [List.length_nil] at hlen
      refine ⟨by omega, rfl, S', _, l, hD', ⟨h4, hF.sub, hF.nd, hF.len, hF.mn, hws⟩, rfl, rfl, by simp [hL], rfl, hPq, by simp [hR]⟩
theorem take_z2 (h : PZ B C V pb tm ym pg T Y L tk q n w) (he : Errs C.w0 e) (h12 : 11 < B) (hL : L ≠ []) (hl8 : L.length < 8) (htk : tk < 1000000) :
    Calls Tryz.prog 15 #[.pointer (some ⟨pb, 0, none⟩), .int .i64 0, .int .i64 0] w fun ev w' => VF V w w' ∧ ev = .returned (.tuple #[objV 0 0, errV (e 7)]) ∧ PZ B C V pb tm ym pg T Y (L ++ [tk + 1]) (tk + 1) q n w' := by
  obtain ⟨S, P, l, hD, hF, rfl, rfl, rfl, rfl, hPq, rfl⟩ := h
  have hx : (0 : Int) ≤ 0 ∧ (0 : Int) < S.ws.length := by have := hF.ws; omega
  have hy : (0 : Int) ≤ 0 ∧ (0 : Int) < C.k := by have := hF.fs.k1; omega
  refine (take_line hD he h12 hL hl8 hx hy htk).mono ?_
  rintro ev w' ⟨vl', rfl, hD', hP'⟩
  exact ⟨hP'.vf, rfl, S, _, l, hD', ⟨hF.fs, hF.sub, hF.nd, hF.len, hF.mn, hF.ws⟩, rfl, rfl, rfl, rfl, hPq, rfl⟩
theorem give_z (h : PZ B C V pb tm ym pg T [] (tk :: L) n q x.toNat w) (he : Errs C.w0 e) (ht : tk < 1000000) (hq : q < 1000000) (ho : o ∈ T) :
    Calls Tryz.prog 19 #[.pointer (some ⟨pb, 0, none⟩), .int .i64 0, .agg #[.int .i64 o.1, .int .i64 o.2]] w fun ev w' => VF V w w' ∧ ev = .returned .nilIface ∧ PZ B C V pb tm ym pg (T.erase o) [(tk, o)] L n (q + 1) x.toNat w' := by
  obtain ⟨S, P, l, hD, hF, rfl, hY, hL, rfl, hPq, hn⟩ := h
  have hx : (0 : Int) ≤ 0 ∧ (0 : Int) < S.ws.length := by have := hF.ws; omega
  have hol : o ∈ l := hF.sub o (by simp [ho])
  refine (give_line hD he hL (by simp [Lit.wf, IntKind.min, IntKind.max, IntKind.signed, IntKind.bits]; omega) (by rw [hY]; simp) (by unfold maxLen; omega) hx ho (hF.fs.out hol)).mono ?_
  rintro ev w' ⟨rfl, vl', hD', hP'⟩
  have hp : (P.R ++ (P.T.erase o ++ [o])).Perm (P.R ++ (P.T ++ P.Y.map (·.2))) := by
    rw [hY]
    simp only [List.map_nil, List.append_nil]
    exact List.Perm.append_left _ (List.perm_append_comm.trans (List.perm_cons_erase ho).symm)
  have hlen := hF.len
  rw [hY] at hlen
  have hel := List.length_erase_of_mem ho
  have hpos : 0 < P.T.length := List.length_pos_of_mem ho
  simp only [List.length_nil] at hlen
  refine ⟨hP'.vf, rfl, S, _, l, hD', ⟨hF.fs, fun p hp' => hF.sub p (hp.mem_iff.1 (by simpa [hY] using hp')), ?_, ?_, hF.mn, hF.ws⟩, rfl, by simp [hY], rfl, rfl, by simp only; omega, hn⟩
  · have := hp.nodup_iff.2 hF.nd
    simpa [hY] using this
  · simp only [hY, List.nil_append, List.length_singleton]; omega
theorem ready_z {t : Nat} (h : PZ B C V pb tm ym pg T [(t, o)] L tk q n w) (ht : t < 1000000) (hq : q < 1000000) :
    Calls Tryz.prog 20 #[.pointer (some ⟨pb, 0, none⟩), .int .i64 t] w fun ev w' => VF V w w' ∧ ev = .returned (.tuple #[objV o.1 o.2, .bool true, .nilIface]) ∧ PZ B C V pb tm ym pg (T ++ [o]) [] L tk (q + 1) n w' := by
  obtain ⟨S, P, l, hD, hF, rfl, hY, rfl, rfl, hPq, rfl⟩ := h
  have hy : yget P.Y t = some o := by rw [hY]; simp [yget]
  have hdl : ydel P.Y t = [] := by rw [hY]; simp [ydel]
  have hol : o ∈ l := hF.sub o (by simp [hY])
  have hnd := hF.nd
  rw [hY] at hnd
  have hoT : o ∉ P.T := fun hm => (List.nodup_append.1 (List.nodup_append.1 hnd).2.1).2.2 o hm o (by simp) rfl
  refine (ready_hit hD (by simp [Lit.wf, IntKind.min, IntKind.max, IntKind.signed, IntKind.bits]; omega) hy hoT (hF.fs.w2 hD.k hol) (by unfold maxLen; omega)).mono ?_
  rintro ev w' ⟨rfl, hD', hP'⟩
  have hlen := hF.len
  rw [hY] at hlen
  rw [hdl] at hD' hP'
  refine ⟨hP'.vf, rfl, S, _, l, hD', ⟨hF.fs, fun p hp => hF.sub p (by simpa [hY] using hp), by simpa using hnd, by simpa using hlen, hF.mn, hF.ws⟩, rfl, rfl, rfl, rfl, by simp only; omega, rfl⟩
theorem waiting_z (h : PZ B C V pb tm ym pg T Y L tk q n w) (hl : L.length ≤ 1000) : Calls Tryz.prog 17 #[.pointer (some ⟨pb, 0, none⟩)] w fun ev w' => ∃ v', ev = .returned v' ∧ w'.ownsRow w.heap.size 3 1 v' L.length (ivs L) ∧ Below w.heap.size w w' := by
  obtain ⟨S, P, l, hD, hF, rfl, rfl, rfl, rfl, hPq, rfl⟩ := h
  exact waiting_ok hD.m hl
theorem reserve_z (h : PZ B C V pb tm ym pg T Y L tk q n w) : Calls Tryz.prog 18 #[.pointer (some ⟨pb, 0, none⟩)] w fun ev w' => ev = .returned (.int .i64 n) ∧ w' = w := by
  obtain ⟨S, P, l, hD, hF, rfl, rfl, rfl, rfl, hPq, rfl⟩ := h
  exact reserve_ok hD.m
theorem new_z (h : DK C V (fun _ => none) S w) (hN : C.w0.heap.size ≤ C.N0) (he : Errs C.w0 e) (hB0 : C.w0.heap.size ≤ B) (hB : B ≤ w.heap.size) (hfs : FS pg C S []) (hmn : C.mn = 0) (hws : S.ws.length = 1) (hn : 1 ≤ n ∧ n ≤ 16) (hnp : n ≤ pg * C.m) :
    Calls Tryz.prog 14 #[.pointer (some ⟨C.d, 0, none⟩), .int .i64 0, .int .i64 n] w fun ev w' => VF V w w' ∧ ev = .returned (.tuple #[.pointer (some ⟨w.heap.size + 1 + 1, 0, none⟩), .nilIface]) ∧ PZ B C V (w.heap.size + 1 + 1) w.heap.size (w.heap.size + 1) pg [] [] [] 0 0 n w' := by
  refine (new_ok (V := V) h hN he hB0 hB hn 0 (fun S R => FS pg C S R ∧ S.ws.length = 1) ⟨hfs, hws⟩ (fun S R r o S' U X w hl hΦ hD hT => ?_)).mono ?_
  · rcases hΦ.1.take hD (Or.inl rfl) (by have := hΦ.2; omega) hT with ⟨_, h2, _, h4⟩ | ⟨h2, _⟩
    · exact ⟨h2, h4, (tka_ws hT).trans hΦ.2⟩
    · omega
  · rintro ev w' ⟨rfl, S', R, vr, hl, ⟨h1, h2⟩, hD, hP⟩
    refine ⟨hP.vf, rfl, S', _, R, hD, ⟨h1, fun p hp => by simpa [Ps0] using hp, by simpa [Ps0] using h1.nd, by simp [Ps0], hmn, h2⟩, rfl, rfl, rfl, rfl, Nat.le_refl _, hl⟩
end
end Pl
end Go.Proofs.YtcbmfakjfoggaaaGreatDoor
namespace Go.Proofs.YtcbmfakjfoggaaaGreatDoor
open Go.RowKit Go.Maps
namespace Sb
open Fr Bd Zn Dz
/-- A slab of the document's answer in memory: its block, its list's. -/
structure RSl (w : World) (b t m : Nat) (s : Sl) : Prop where
  c0 : w.cell? ⟨b, 0, none⟩ = some (.int .i64 s.nd)
  c1 : w.cell? ⟨b, 1, none⟩ = some (.int .i64 s.at_)
  c2 : w.cell? ⟨b, 2, none⟩ = some (.int .i64 0)
  c3 : w.cell? ⟨b, 3, none⟩ = some (.slice (some ⟨t, 0, none⟩) m m)
  row : ∀ j, j < m → w.cell? ⟨t, j, none⟩ = some (.bool (s.bm.testBit j))
  tg : Tag w b 305
  tt : Tag w t 4
  fz : ∀ o, w.frozen? ⟨t, o, none⟩ = false
theorem RSl.same {w w' : World} {b t m : Nat} {s : Sl} (h : RSl w b t m s) (hb : w'.heap[b]? = w.heap[b]?) (ht : w'.heap[t]? = w.heap[t]?) : RSl w' b t m s :=
  ⟨(World.cell?_of_block (w := w) (a := ⟨b, 0, none⟩) hb).trans h.c0, (World.cell?_of_block (w := w) (a := ⟨b, 1, none⟩) hb).trans h.c1, (World.cell?_of_block (w := w) (a := ⟨b, 2, none⟩) hb).trans h.c2, (World.cell?_of_block (w := w) (a := ⟨b, 3, none⟩) hb).trans h.c3, fun j hj => (World.cell?_of_block (w := w) (a := ⟨t, j, none⟩) ht).trans (h.row j hj), h.tg.blk hb, h.tt.blk ht, fun o => (World.frozen?_of_block (w := w) (a := ⟨t, o, none⟩) ht).trans (h.fz o)⟩
theorem RSl.b {w w' : World} {b t m : Nat} {s : Sl} (h : RSl w b t m s) (hb : Below w.heap.size w w') : RSl w' b t m s := h.same (hb.block b h.tg.lt) (hb.block t h.tt.lt)
/-- The document's answer's cache in memory. -/
structure RC (N0 : Nat) (w : World) (c z : Nat) (sz : Int) (m : Nat) (bs ts : List Nat) (ss : List Sl) : Prop where
  c0 : w.cell? ⟨c, 0, none⟩ = some (ptr z)
  c1 : w.cell? ⟨c, 1, none⟩ = some (.int .i64 sz)
  c2 : ∃ p d, w.cell? ⟨c, 2, none⟩ = some (.slice p bs.length d) ∧ w.ownsRow N0 302 1 (.slice p bs.length d) bs.length (ptrl bs)
  tg : Tag w c 140
  ge : N0 ≤ c
  len : bs.length = ss.length
  lt : ts.length = ss.length
  tn : ts.Nodup
  gt : ∀ t ∈ ts, N0 ≤ t
  sl : ∀ (i b t : Nat) (s : Sl), bs[i]? = some b → ts[i]? = some t → ss[i]? = some s → RSl w b t m s
  cf : ∀ o, w.frozen? ⟨c, o, none⟩ = false
section
variable {N0 : Nat} {w w' : World} {c z : Nat} {sz : Int} {m : Nat} {bs ts : List Nat} {ss : List Sl}
theorem RC.same (h : RC N0 w c z sz m bs ts ss) (hs : Same [140, 302, 305, 4] w w') : RC N0 w' c z sz m bs ts ss := by
  obtain ⟨p, d, e2, o2⟩ := h.c2
  have hc := fun j => cell_same hs (by simp) h.tg j
  exact ⟨(hc 0).trans h.c0, (hc 1).trans h.c1, ⟨p, d, (hc 2).trans e2, own_same o2 hs (by simp)⟩, tag_same hs (by simp) h.tg, h.ge, h.len, h.lt, h.tn, h.gt, fun i b t s h1 h2 h3 => (h.sl i b t s h1 h2 h3).same (hs b 305 (by simp) (h.sl i b t s h1 h2 h3).tg) (hs t 4 (by simp) (h.sl i b t s h1 h2 h3).tt), fun o => (World.frozen?_of_block (w := w) (a := ⟨c, o, none⟩) (hs c 140 (by simp) h.tg)).trans (h.cf o)⟩
theorem RC.b (h : RC N0 w c z sz m bs ts ss) (hb : Below w.heap.size w w') : RC N0 w' c z sz m bs ts ss := h.same (same_below hb)
theorem RC.slab (h : RC N0 w c z sz m bs ts ss) {i : Nat} (hi : i < ss.length) : ∃ b t s, bs[i]? = some b ∧ ts[i]? = some t ∧ ss[i]? = some s ∧ RSl w b t m s := by
  have hb : i < bs.length := by rw [h.len]; exact hi
  have ht : i < ts.length := by rw [h.lt]; exact hi
  exact ⟨_, _, _, List.getElem?_eq_getElem hb, List.getElem?_eq_getElem ht, List.getElem?_eq_getElem hi, h.sl i _ _ _ (List.getElem?_eq_getElem hb) (List.getElem?_eq_getElem ht) (List.getElem?_eq_getElem hi)⟩
theorem RC.row (h : RC N0 w c z sz m bs ts ss) (hn : 0 < ss.length) : ∃ g d, w.cell? ⟨c, 2, none⟩ = some (.slice (some ⟨g, 0, none⟩) ss.length d) ∧ g < w.heap.size ∧ ∀ i b, bs[i]? = some b → w.cell? ⟨g, i, none⟩ = some (ptr b) := by
  obtain ⟨p, d, e2, o2⟩ := h.c2
  rw [h.len] at e2 o2
  obtain ⟨g, cap, hv, hg, hl⟩ := o2.form hn
  simp only [Value.slice.injEq, true_and] at hv
  obtain ⟨rfl, rfl⟩ := hv
  refine ⟨g, d, e2, hl, fun i b hb => ?_⟩
  have hi : i < bs.length := (List.getElem?_eq_some_iff.mp hb).1
  exact (o2.cellAt i (by rw [h.len] at hi; omega)).trans (ptrl_at hb)
end
end Sb
end Go.Proofs.YtcbmfakjfoggaaaGreatDoor
namespace Go.Proofs.YtcbmfakjfoggaaaGreatDoor
open Go.RowKit Go.Maps
namespace Sb
open Fr Bd Zn Dz
theorem rl_same {w w' : World} {b : Nat} {v : Value} {L : List Bl} (h : RL w b v L) (hs : Same [291] w w') (hz : w.heap.size ≤ w'.heap.size) : RL w' b v L := by
  rcases h with h | ⟨g, c, hv, h0, h1, h2, h3, hr⟩
  · exact Or.inl h
  · have hb := hs g 291 (by simp) hr.tg
    refine Or.inr ⟨g, c, hv, h0, h1, h2, h3, ⟨⟨fun i hi => ?_, fun o ho => ?_, Nat.lt_of_lt_of_le hr.lt hz⟩, hr.tg.blk hb⟩⟩
    · exact ⟨(World.cell?_of_block (w := w) (a := ⟨g, i * 2, none⟩) hb).trans (hr.c i hi).1, (World.cell?_of_block (w := w) (a := ⟨g, i * 2 + 1, none⟩) hb).trans (hr.c i hi).2⟩
    · exact (World.frozen?_of_block (w := w) (a := ⟨g, o, none⟩) hb).trans (hr.fz o ho)
theorem rb_same {w w' : World} {b : Nat} {N : Int} {F T : List Bl} (h : RB w b N F T) (hs : Same [291] w w') (hb : w'.heap[b]? = w.heap[b]?) (hz : w.heap.size ≤ w'.heap.size) : RB w' b N F T := by
  obtain ⟨v1, e1, l1⟩ := h.c1
  obtain ⟨v2, e2, l2⟩ := h.c2
  have fr : ∀ o, w'.frozen? ⟨b, o, none⟩ = w.frozen? ⟨b, o, none⟩ := fun o => World.frozen?_of_block (w := w) (a := ⟨b, o, none⟩) hb
  have cl : ∀ o, w'.cell? ⟨b, o, none⟩ = w.cell? ⟨b, o, none⟩ := fun o => World.cell?_of_block (w := w) (a := ⟨b, o, none⟩) hb
  exact ⟨(cl 0).trans h.c0, ⟨v1, (cl 1).trans e1, rl_same l1 hs hz⟩, ⟨v2, (cl 2).trans e2, rl_same l2 hs hz⟩, (fr 1).trans h.f1, (fr 2).trans h.f2, Nat.lt_of_lt_of_le h.lt hz, h.tg.blk hb⟩
/-- The document's answer's zone, where none of its blocks' types turn. -/
theorem rz_same {w w' : World} {z : Nat} {mn lw hi : Int} {k : Nat} {nb : Nat → Nat} {nd : Nat → Nd} {fr : Nat → List Nat} (h : RZ w z mn lw hi k nb nd fr) (hs : Same [252, 253, 38, 3, 333, 291] w w') (hz : w.heap.size ≤ w'.heap.size) : RZ w' z mn lw hi k nb nd fr := by
  have cl := fun j => cell_same hs (by simp) h.tg j
  obtain ⟨g, c, e1, o1⟩ := h.cn
  obtain ⟨g2, c2, rows, e2, o2, r2⟩ := h.cf
  have h71 : Same [291] w w' := fun b t hm ht => hs b t (by simp at hm; simp [hm]) ht
  refine ⟨(cl 2).trans h.m2, (cl 3).trans h.m3, (cl 4).trans h.m4, ⟨g, c, (cl 5).trans e1, own_same o1 hs (by simp)⟩, ⟨g2, c2, rows, (cl 6).trans e2, own_same o2 hs (by simp), fun i hi => ?_⟩, tag_same hs (by simp) h.tg, fun i hi => rb_same (h.rb i hi) h71 (hs _ 333 (by simp) (h.rb i hi).tg) hz, h.ok, h.ne⟩
  obtain ⟨h', d, e3, o3⟩ := r2 i hi
  exact ⟨h', d, e3, own_same o3 hs (by simp)⟩
/-- The document's answer's zone and cache. -/
structure RR (N0 : Nat) (w : World) (c z : Nat) (sz : Int) (m : Nat) (bs ts : List Nat) (ss : List Sl) (mn lw hi : Int) (k : Nat) (nb : Nat → Nat) (nd : Nat → Nd) (fr : Nat → List Nat) : Prop where
  hz : RZ w z mn lw hi k nb nd fr
  hc : RC N0 w c z sz m bs ts ss
  g : ∀ i, i < k → N0 ≤ nb i
  r : ∀ g cp, w.cell? ⟨z, 5, none⟩ = some (.slice (some ⟨g, 0, none⟩) k cp) → N0 ≤ g
section
variable {N0 : Nat} {w w' : World} {c z : Nat} {sz : Int} {m : Nat} {bs ts : List Nat} {ss : List Sl} {mn lw hi : Int} {k : Nat} {nb : Nat → Nat} {nd : Nat → Nd} {fr : Nat → List Nat}
theorem RR.b (h : RR N0 w c z sz m bs ts ss mn lw hi k nb nd fr) (hb : Below w.heap.size w w') : RR N0 w' c z sz m bs ts ss mn lw hi k nb nd fr :=
  ⟨h.hz.b hb, h.hc.b hb, h.g, fun g cp hc => h.r g cp ((hb.cell (p := ⟨z, 5, none⟩) h.hz.tg.lt).symm.trans hc)⟩
theorem RR.chg (h : RR N0 w c z sz m bs ts ss mn lw hi k nb nd fr) {tl : List (Option TypeId)} {N : Nat} (hc : Chg tl N w w') (hn : ∀ t ∈ ([252, 253, 38, 3, 333, 291, 140, 302, 305, 4] : List TypeId), some t ∉ tl) : RR N0 w' c z sz m bs ts ss mn lw hi k nb nd fr :=
  ⟨rz_same h.hz (hc.toSame (fun t ht => hn t ((by decide : ∀ t ∈ ([252, 253, 38, 3, 333, 291] : List TypeId), t ∈ ([252, 253, 38, 3, 333, 291, 140, 302, 305, 4] : List TypeId)) t ht))) hc.size, h.hc.same (hc.toSame (fun t ht => hn t ((by decide : ∀ t ∈ ([140, 302, 305, 4] : List TypeId), t ∈ ([252, 253, 38, 3, 333, 291, 140, 302, 305, 4] : List TypeId)) t ht))), h.g, fun g cp e => h.r g cp ((World.cell?_of_block (w := w) (a := ⟨z, 5, none⟩) (hc.same h.hz.tg (hn 252 (by simp)))).symm.trans e)⟩
end
end Sb
end Go.Proofs.YtcbmfakjfoggaaaGreatDoor
