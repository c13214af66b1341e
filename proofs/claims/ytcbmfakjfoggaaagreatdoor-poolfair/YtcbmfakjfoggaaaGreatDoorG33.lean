/- A pool in memory: its block, its rows, its maps · The library's slices.Index, Contains, Clone, Delete, Sort over []int and the like stand in this program as the library's contracts ask (laid by lay-shelf.mjs, made plain by lay-plain.mjs, renamed). -/
import Derived.Test.YtcbmfakjfoggaaaGreatDoorG32
import Derived.Shelf.Small.Bits
import Derived.Shelf.Small.Wraps
import Derived.Shelf.Strconv.Itoa0
import Derived.Shelf.Sort.Plain
import Derived.Shelf.Slices.Turned
import Derived.Ground.Names2Prog
import Derived.Shelf.Slices.Clone
import Derived.Shelf.Slices.SearchI
import Derived.Shelf.Slices.Delete
import Derived.Shelf.Slices.Cells
import Derived.Shelf.Slices.In.SortNone
import Derived.Shelf.Slices.Empties
import Derived.Ground.SlgnProg
import Derived.Shelf.SlicesE.Delete
import Derived.Shelf.SlicesE.Clone
import Derived.Ground.SlsfProg
import Derived.Shelf.SlSortCmp.Insertion
import Derived.Shelf.SlSortCmp.Insertion1
import Derived.Test.YtcbmfakjfoggaaaGreatDoorProg
namespace Go.Proofs.YtcbmfakjfoggaaaGreatDoor
open Go.RowKit Go.Maps
namespace Pl
open Fr Bd Zn Dz Sb Mg
/-- What a pool has: most, the reserve, what is taken, what is ready, who waits, tickets; q: no fewer than its maps ever had; its rows. -/
structure Ps where
  most : Nat
  R : List Bl
  T : List Bl
  Y : List (Nat × Bl)
  L : List Nat
  tk : Nat
  q : Nat
  vr : Value
  vl : Value
structure PLm (B : Nat) (w : World) (pb d tm ym : Nat) (P : Ps) : Prop where
  c0 : w.cell? ⟨pb, 0, none⟩ = some (.pointer (some ⟨d, 0, none⟩))
  c1 : w.cell? ⟨pb, 1, none⟩ = some (.int .i64 P.most)
  c2 : w.cell? ⟨pb, 2, none⟩ = some P.vr
  c3 : w.cell? ⟨pb, 3, none⟩ = some (.map (some tm))
  c4 : w.cell? ⟨pb, 4, none⟩ = some (.map (some ym))
  c5 : w.cell? ⟨pb, 5, none⟩ = some P.vl
  c6 : w.cell? ⟨pb, 6, none⟩ = some (.int .i64 P.tk)
  tg : Tag w pb 144
  fz : ∀ o, w.frozen? ⟨pb, o, none⟩ = false
  r : w.ownsRow B 34 2 P.vr P.R.length (flat P.R)
  l : w.ownsRow B 3 1 P.vl P.L.length (ivs P.L)
  t : Mo w tm P.q P.T
  y : My w ym P.q P.Y
  ne : tm ≠ ym
  ge : B ≤ pb
  gt : B ≤ tm ∧ B ≤ ym
/-- A pool's own blocks. -/
def PB (pb tm ym : Nat) (P : Ps) (b : Nat) : Prop := b = pb ∨ b = tm ∨ b = ym ∨ OB P.vr b ∨ OB P.vl b
theorem ob_tag {w : World} {B e size n : Nat} {v : Value} {xs : List Value} (h : w.ownsRow B e size v n xs) {b : Nat} (hb : OB v b) : Tag w b e ∧ B ≤ b := by
  rcases h.2 with ⟨e1, _⟩ | ⟨g', cap, cur, e1, hg, hh, _⟩
  · rw [e1] at hb; cases hb
  · rw [e1] at hb
    obtain rfl : g' = b := by simpa [OB, Value.ownBlock] using hb
    exact ⟨⟨cur, _, hh⟩, hg⟩
section
variable {B : Nat} {w w' : World} {pb d tm ym : Nat} {P : Ps}
theorem PLm.keep (h : PLm B w pb d tm ym P) (hb : ∀ b, PB pb tm ym P b → w'.heap[b]? = w.heap[b]?) : PLm B w' pb d tm ym P := by
  have hp := hb pb (Or.inl rfl)
  have hc := fun j => World.cell?_of_block (w := w) (a := ⟨pb, j, none⟩) hp
  exact ⟨(hc 0).trans h.c0, (hc 1).trans h.c1, (hc 2).trans h.c2, (hc 3).trans h.c3, (hc 4).trans h.c4, (hc 5).trans h.c5, (hc 6).trans h.c6, h.tg.blk hp, fun o => (World.frozen?_of_block (w := w) (a := ⟨pb, o, none⟩) hp).trans (h.fz o), own_keepF h.r (fun g hg => hb g (Or.inr (Or.inr (Or.inr (Or.inl hg))))), own_keepF h.l (fun g hg => hb g (Or.inr (Or.inr (Or.inr (Or.inr hg))))), h.t.blk (hb tm (Or.inr (Or.inl rfl))), h.y.blk (hb ym (Or.inr (Or.inr (Or.inl rfl)))), h.ne, h.ge, h.gt⟩
theorem PLm.lt (h : PLm B w pb d tm ym P) {b : Nat} (hb : PB pb tm ym P b) : b < w.heap.size ∧ B ≤ b := by
  rcases hb with rfl | rfl | rfl | e | e
  · exact ⟨h.tg.lt, h.ge⟩
  · exact ⟨h.t.lt, h.gt.1⟩
  · exact ⟨h.y.lt, h.gt.2⟩
  · exact ⟨(ob_tag h.r e).1.lt, (ob_tag h.r e).2⟩
  · exact ⟨(ob_tag h.l e).1.lt, (ob_tag h.l e).2⟩
theorem PLm.b (h : PLm B w pb d tm ym P) (hb : Below w.heap.size w w') : PLm B w' pb d tm ym P := h.keep fun b hp => hb.block b (h.lt hp).1
theorem PLm.mne (h : PLm B w pb d tm ym P) : tm ≠ pb ∧ ym ≠ pb := by
  obtain ⟨o, e1, e2⟩ := h.t.kindless
  obtain ⟨o', e3, e4⟩ := h.y.kindless
  exact ⟨kindless_ne e1 e2 h.tg, kindless_ne e3 e4 h.tg⟩
theorem own_set {e size n j : Nat} {u v : Value} {xs : List Value} (ho : w.ownsRow B e size u n xs) (ht : Tag w pb 144) (hne : e ≠ 144) : (w.setCell ⟨pb, j, none⟩ v).ownsRow B e size u n xs := own_keepF ho (fun _ hg => Below.heap_setCell _ _ _ _ ((ob_tag ho hg).1.ne ht hne))
/-- The line is another one. -/
theorem PLm.put5 (h : PLm B w pb d tm ym P) (hb : ∀ b, b = pb ∨ b = tm ∨ b = ym ∨ OB P.vr b → w'.heap[b]? = w.heap[b]?) {v' : Value} {L' : List Nat} (ho : w'.ownsRow B 3 1 v' L'.length (ivs L')) : PLm B (w'.setCell ⟨pb, 5, none⟩ v') pb d tm ym { P with L := L', vl := v' } := by
  have hp := hb pb (Or.inl rfl)
  have hc := fun j => World.cell?_of_block (w := w) (a := ⟨pb, j, none⟩) hp
  have htg := h.tg.blk hp
  have hs : ∀ b, b ≠ pb → (w'.setCell ⟨pb, 5, none⟩ v').heap[b]? = w'.heap[b]? := fun b hn => Below.heap_setCell _ _ _ _ hn
  have hr : w'.ownsRow B 34 2 P.vr P.R.length (flat P.R) := own_keepF h.r (fun g hg => hb g (Or.inr (Or.inr (Or.inr hg))))
  exact ⟨(cso (by simp)).trans ((hc 0).trans h.c0), (cso (by simp)).trans ((hc 1).trans h.c1), (cso (by simp)).trans ((hc 2).trans h.c2), (cso (by simp)).trans ((hc 3).trans h.c3), (cso (by simp)).trans ((hc 4).trans h.c4), css ((hc 5).trans h.c5), (cso (by simp)).trans ((hc 6).trans h.c6), htg.set _ _, fun o => by rw [World.frozen?_setCell]; exact (World.frozen?_of_block (w := w) (a := ⟨pb, o, none⟩) hp).trans (h.fz o), own_set hr htg (by decide), own_set ho htg (by decide), h.t.blk ((hs tm h.mne.1).trans (hb tm (Or.inr (Or.inl rfl)))), h.y.blk ((hs ym h.mne.2).trans (hb ym (Or.inr (Or.inr (Or.inl rfl))))), h.ne, h.ge, h.gt⟩
/-- The reserve is another one. -/
theorem PLm.put2 (h : PLm B w pb d tm ym P) (hb : ∀ b, b = pb ∨ b = tm ∨ b = ym ∨ OB P.vl b → w'.heap[b]? = w.heap[b]?) {v' : Value} {R' : List Bl} (ho : w'.ownsRow B 34 2 v' R'.length (flat R')) : PLm B (w'.setCell ⟨pb, 2, none⟩ v') pb d tm ym { P with R := R', vr := v' } := by
  have hp := hb pb (Or.inl rfl)
  have hc := fun j => World.cell?_of_block (w := w) (a := ⟨pb, j, none⟩) hp
  have htg := h.tg.blk hp
  have hs : ∀ b, b ≠ pb → (w'.setCell ⟨pb, 2, none⟩ v').heap[b]? = w'.heap[b]? := fun b hn => Below.heap_setCell _ _ _ _ hn
  have hr : w'.ownsRow B 3 1 P.vl P.L.length (ivs P.L) := own_keepF h.l (fun g hg => hb g (Or.inr (Or.inr (Or.inr hg))))
  exact ⟨(cso (by simp)).trans ((hc 0).trans h.c0), (cso (by simp)).trans ((hc 1).trans h.c1), css ((hc 2).trans h.c2), (cso (by simp)).trans ((hc 3).trans h.c3), (cso (by simp)).trans ((hc 4).trans h.c4), (cso (by simp)).trans ((hc 5).trans h.c5), (cso (by simp)).trans ((hc 6).trans h.c6), htg.set _ _, fun o => by rw [World.frozen?_setCell]; exact (World.frozen?_of_block (w := w) (a := ⟨pb, o, none⟩) hp).trans (h.fz o), own_set ho htg (by decide), own_set hr htg (by decide), h.t.blk ((hs tm h.mne.1).trans (hb tm (Or.inr (Or.inl rfl)))), h.y.blk ((hs ym h.mne.2).trans (hb ym (Or.inr (Or.inr (Or.inl rfl))))), h.ne, h.ge, h.gt⟩
/-- A ticket more. -/
theorem PLm.put6 (h : PLm B w pb d tm ym P) (n : Nat) : PLm B (w.setCell ⟨pb, 6, none⟩ (.int .i64 n)) pb d tm ym { P with tk := n } := by
  have hs : ∀ b, b ≠ pb → (w.setCell ⟨pb, 6, none⟩ (.int .i64 n)).heap[b]? = w.heap[b]? := fun b hn => Below.heap_setCell _ _ _ _ hn
  exact ⟨(cso (by simp)).trans h.c0, (cso (by simp)).trans h.c1, (cso (by simp)).trans h.c2, (cso (by simp)).trans h.c3, (cso (by simp)).trans h.c4, (cso (by simp)).trans h.c5, css h.c6, h.tg.set _ _, fun o => by rw [World.frozen?_setCell]; exact h.fz o, own_set h.r h.tg (by decide), own_set h.l h.tg (by decide), h.t.blk (hs tm h.mne.1), h.y.blk (hs ym h.mne.2), h.ne, h.ge, h.gt⟩
/-- A box of an object beside is written. -/
theorem PLm.box (h : PLm B w pb d tm ym P) {r : Nat} (hr : Tag w r 34) (hn : ¬ OB P.vr r) (o : Nat) (v : Value) : PLm B (w.setCell ⟨r, o, none⟩ v) pb d tm ym P := h.keep fun b hp => Below.heap_setCell _ _ _ _ (by
  rcases hp with rfl | rfl | rfl | e | e
  · exact h.tg.ne hr (by decide)
  · obtain ⟨o, e1, e2⟩ := h.t.kindless
    exact kindless_ne e1 e2 hr
  · obtain ⟨o, e1, e2⟩ := h.y.kindless
    exact kindless_ne e1 e2 hr
  · rintro rfl
    exact hn e
  · exact (ob_tag h.l e).1.ne hr (by decide))
theorem PLm.box2 (h : PLm B w pb d tm ym P) {r : Nat} (hr : Tag w r 34) (hn : ¬ OB P.vr r) (u v : Value) : PLm B ((w.setCell ⟨r, 0, none⟩ u).setCell ⟨r, 1, none⟩ v) pb d tm ym P := (h.box hr hn 0 u).box (hr.set _ _) hn 1 v
theorem Kp.box2 {S : Nat → Prop} {W : World} (h : Kp S w W) {r : Nat} (hr : w.heap.size ≤ r) (u v : Value) : Kp S w ((W.setCell ⟨r, 0, none⟩ u).setCell ⟨r, 1, none⟩ v) := ⟨h.os, h.tape, h.output, Nat.le_trans h.size (by simp [World.setCell]), fun k hk hn => (Below.heap_setCell _ _ _ _ (by simp only; omega)).trans ((Below.heap_setCell _ _ _ _ (by simp only; omega)).trans (h.blk k hk hn))⟩
end
end Pl
end Go.Proofs.YtcbmfakjfoggaaaGreatDoor
namespace Go.Proofs.YtcbmfakjfoggaaaGreatDoor
open Go.Shelf
def Sh.lays189_ren : Go.Shelf.Ren := ⟨fun | 189 => 178 | 125 => 241 | 257 => 240 | 128 => 274 | 129 => 275 | 294 => 265 | 295 => 266 | 296 => 267 | 297 => 268 | 298 => 269 | 299 => 270 | 216 => 271 | 300 => 272 | 301 => 273 | 328 => 286 | 329 => 287 | 330 => 288 | 331 => 289 | 332 => 290 | 215 => 248 | 343 => 299 | n => n, fun | 28 => 38 | 3 => 3 | 46 => 369 | 0 => 0 | 51 => 404 | 53 => 298 | 4 => 4 | 183 => 398 | 182 => 397 | 131 => 363 | 5 => 5 | 9 => 9 | 218 => 411 | 222 => 415 | 228 => 422 | 229 => 152 | n => n, fun | n => n⟩
theorem Sh.lays189 : Go.Proofs.Lays.n189 Tryz.prog Sh.lays189_ren := {
  mixed := by kernel_rfl
  f125 := Tryz.func241.trans (congrArg some (by kernel_rfl))
  f128 := Tryz.func274.trans (congrArg some (by kernel_rfl))
  f129 := Tryz.func275.trans (congrArg some (by kernel_rfl))
  f189 := Tryz.func178.trans (congrArg some (by kernel_rfl))
  f215 := Tryz.func248.trans (congrArg some (by kernel_rfl))
  f216 := Tryz.func271.trans (congrArg some (by kernel_rfl))
  f257 := Tryz.func240.trans (congrArg some (by kernel_rfl))
  f294 := Tryz.func265.trans (congrArg some (by kernel_rfl))
  f295 := Tryz.func266.trans (congrArg some (by kernel_rfl))
  f296 := Tryz.func267.trans (congrArg some (by kernel_rfl))
  f297 := Tryz.func268.trans (congrArg some (by kernel_rfl))
  f298 := Tryz.func269.trans (congrArg some (by kernel_rfl))
  f299 := Tryz.func270.trans (congrArg some (by kernel_rfl))
  f300 := Tryz.func272.trans (congrArg some (by kernel_rfl))
  f301 := Tryz.func273.trans (congrArg some (by kernel_rfl))
  f328 := Tryz.func286.trans (congrArg some (by kernel_rfl))
  f329 := Tryz.func287.trans (congrArg some (by kernel_rfl))
  f330 := Tryz.func288.trans (congrArg some (by kernel_rfl))
  f331 := Tryz.func289.trans (congrArg some (by kernel_rfl))
  f332 := Tryz.func290.trans (congrArg some (by kernel_rfl))
  f343 := Tryz.func299.trans (congrArg some (by kernel_rfl))
  t0 := Tryz.underlying0
  a0 := Tryz.isAgg0
  z0 := Tryz.sizeOf0
  v0 := Tryz.zeroValue0
  t3 := Tryz.underlying3
  a3 := Tryz.isAgg3
  z3 := Tryz.sizeOf3
  v3 := Tryz.zeroValue3
  t4 := Tryz.underlying4
  a4 := Tryz.isAgg4
  z4 := Tryz.sizeOf4
  v4 := Tryz.zeroValue4
  t5 := Tryz.underlying5
  a5 := Tryz.isAgg5
  z5 := Tryz.sizeOf5
  v5 := Tryz.zeroValue5
  t9 := Tryz.underlying9
  a9 := Tryz.isAgg9
  z9 := Tryz.sizeOf9
  v9 := Tryz.zeroValue9
  t28 := Tryz.underlying38
  a28 := Tryz.isAgg38
  z28 := Tryz.sizeOf38
  v28 := Tryz.zeroValue38
  t46 := Tryz.underlying369
  a46 := Tryz.isAgg369
  z46 := Tryz.sizeOf369
  v46 := Tryz.zeroValue369
  t51 := Tryz.underlying404
  a51 := Tryz.isAgg404
  z51 := Tryz.sizeOf404
  v51 := Tryz.zeroValue404
  t53 := Tryz.underlying298
  a53 := Tryz.isAgg298
  z53 := Tryz.sizeOf298
  v53 := Tryz.zeroValue298
  t131 := Tryz.underlying363
  a131 := Tryz.isAgg363
  z131 := Tryz.sizeOf363
  v131 := Tryz.zeroValue363
  t182 := Tryz.underlying397
  a182 := Tryz.isAgg397
  z182 := Tryz.sizeOf397
  v182 := Tryz.zeroValue397
  t183 := Tryz.underlying398
  a183 := Tryz.isAgg398
  z183 := Tryz.sizeOf398
  v183 := Tryz.zeroValue398
  t218 := Tryz.underlying411
  a218 := Tryz.isAgg411
  z218 := Tryz.sizeOf411
  v218 := Tryz.zeroValue411
  t222 := Tryz.underlying415
  a222 := Tryz.isAgg415
  z222 := Tryz.sizeOf415
  v222 := Tryz.zeroValue415
  t228 := Tryz.underlying422
  a228 := Tryz.isAgg422
  z228 := Tryz.sizeOf422
  v228 := Tryz.zeroValue422
  t229 := Tryz.underlying152
  a229 := Tryz.isAgg152
  z229 := Tryz.sizeOf152
  v229 := Tryz.zeroValue152 }
open Go.Sort Go.RowKit in
theorem Sh.slices_Sort_int (blk off cap : Nat) (zs : List Int) (w : World) (hH : Holds (Value.int .i64) w blk off zs.toArray) (hblk : blk < w.heap.size) (hsz : zs.length < 4611686018427387904) :
    Calls Tryz.prog 178 #[.slice (some ⟨blk, off, none⟩) zs.length cap] w fun e w' =>
      e = .returned (.tuple #[]) ∧ ∃ n os, w' = grow (putRow (Value.int .i64) (Sort.ahead w n) blk off (zs.mergeSort fun x y => decide (x ≤ y)).toArray) os := Any.slices_Sort_int Sh.lays189 blk off cap zs w hH hblk hsz
def Sh.laysNm215_ren : Go.Shelf.Ren := ⟨fun | 15 => 79 | n => n, fun | 22 => 38 | 3 => 3 | 4 => 4 | n => n, fun | n => n⟩
theorem Sh.laysNm215 : Go.Proofs.Lays2.n15 Tryz.prog Sh.laysNm215_ren := {
  mixed := by kernel_rfl
  f15 := Tryz.func79.trans (congrArg some (by kernel_rfl))
  t3 := Tryz.underlying3
  a3 := Tryz.isAgg3
  z3 := Tryz.sizeOf3
  v3 := Tryz.zeroValue3
  t4 := Tryz.underlying4
  a4 := Tryz.isAgg4
  z4 := Tryz.sizeOf4
  v4 := Tryz.zeroValue4
  t22 := Tryz.underlying38
  a22 := Tryz.isAgg38
  z22 := Tryz.sizeOf38
  v22 := Tryz.zeroValue38
  i3 := by kernel_rfl }
open Go.RowKit Go.Lib in
theorem Sh.slices_Clone_int (b off n c : Nat) (zs : List Int) (w : World) (hz : n ≤ zs.length) (hbig : n * 8 ≤ 140737488355328) (hc : ∀ j, j < zs.length → w.cell? ⟨b, off + j, none⟩ = some (.int .i64 (zs.getD j 0))) :
    Calls Tryz.prog 79 #[.slice (some ⟨b, off, none⟩) n c] w fun e w' => ∃ v', e = .returned v' ∧ w'.ownsRow w.heap.size 3 1 v' n ((zs.take n).map (Value.int .i64)) ∧ v' ≠ .slice none 0 0 ∧ Below w.heap.size w w' := Any.slices_Clone_int Sh.laysNm215 b off n c zs w hz hbig hc
open Go.RowKit Go.Lib in
theorem Sh.slices_Clone_int_nil (n c : Nat) (w : World) :
    Calls Tryz.prog 79 #[.slice none n c] w fun e w' => e = .returned (.slice none 0 0) ∧ w' = w := Any.slices_Clone_int_nil Sh.laysNm215 n c w
def Sh.laysNm223_ren : Go.Shelf.Ren := ⟨fun | 23 => 96 | n => n, fun | 22 => 38 | 3 => 3 | 4 => 4 | 0 => 0 | n => n, fun | n => n⟩
theorem Sh.laysNm223 : Go.Proofs.Lays2.n23 Tryz.prog Sh.laysNm223_ren := {
  mixed := by kernel_rfl
  f23 := Tryz.func96.trans (congrArg some (by kernel_rfl))
  t0 := Tryz.underlying0
  a0 := Tryz.isAgg0
  z0 := Tryz.sizeOf0
  v0 := Tryz.zeroValue0
  t3 := Tryz.underlying3
  a3 := Tryz.isAgg3
  z3 := Tryz.sizeOf3
  v3 := Tryz.zeroValue3
  t4 := Tryz.underlying4
  a4 := Tryz.isAgg4
  z4 := Tryz.sizeOf4
  v4 := Tryz.zeroValue4
  t22 := Tryz.underlying38
  a22 := Tryz.isAgg38
  z22 := Tryz.sizeOf38
  v22 := Tryz.zeroValue38
  i3 := by kernel_rfl }
open Go.RowKit Go.Lib Go.Sort in
theorem Sh.slices_Delete_int_cells (b off n c i j : Nat) (zs : List Int) (w : World) (hz : n ≤ zs.length) (hcap : n ≤ c) (hm : c ≤ 9223372036854775807) (hij : i ≤ j) (hj : j ≤ n) (hc : ∀ j, j < zs.length → w.cell? ⟨b, off + j, none⟩ = some (.int .i64 (zs.getD j 0))) (hf : ∀ j, j < n → w.frozen? ⟨b, off + j, none⟩ = false) :
    Calls Tryz.prog 96 #[.slice (some ⟨b, off, none⟩) n c, .int .i64 i, .int .i64 j] w fun e w' => e = .returned (.slice (some ⟨b, off, none⟩) (n - (j - i)) c) ∧ ∃ q, w' = (w.drewN q).setCells b off (((zs.take n).take i ++ (zs.take n).drop j ++ List.replicate (j - i) 0).map (Value.int .i64)) := Any.slices_Delete_int_cells Sh.laysNm223 b off n c i j zs w hz hcap hm hij hj hc hf
open Go.RowKit Go.Sort in
theorem Sh.slices_Sort_int_none (p : Option Addr) (cap : Nat) (w : World) :
    Calls Tryz.prog 178 #[.slice p 0 cap] w fun e w' => e = .returned (.tuple #[]) ∧ w' = w := Any.slices_Sort_int_none Sh.lays189 p cap w
def Sh.laysSlF20_f220_ren : Go.Shelf.Ren := ⟨fun | 20 => 279 | n => n, fun | 24 => 3 | 22 => 38 | 3 => 3 | 25 => 198 | 4 => 4 | 0 => 0 | n => n, fun | n => n⟩
theorem Sh.laysSlF20_f220 : Go.Proofs.SlLaysF.n20 Tryz.prog Sh.laysSlF20_f220_ren := {
  mixed := by kernel_rfl
  f20 := ⟨Tryz.f279.name, by decide, Tryz.func279.trans (congrArg some (by kernel_rfl))⟩
  t0 := Tryz.underlying0
  a0 := Tryz.isAgg0
  z0 := Tryz.sizeOf0
  v0 := Tryz.zeroValue0
  t3 := Tryz.underlying3
  a3 := Tryz.isAgg3
  z3 := Tryz.sizeOf3
  v3 := Tryz.zeroValue3
  t4 := Tryz.underlying4
  a4 := Tryz.isAgg4
  z4 := Tryz.sizeOf4
  v4 := Tryz.zeroValue4
  t22 := Tryz.underlying38
  a22 := Tryz.isAgg38
  z22 := Tryz.sizeOf38
  v22 := Tryz.zeroValue38
  a24 := Tryz.isAgg3
  z24 := Tryz.sizeOf3
  t25 := Tryz.underlying198
  a25 := Tryz.isAgg198
  z25 := Tryz.sizeOf198
  v25 := Tryz.zeroValue198 }
open Go.RowKit Go.Lib Go.Sort in
theorem Sh.insertionSortCmpFunc_s {α : Type} [Inhabited α] (enc : α → Value) (cf : α → α → Int) (g : Nat) (cb : Array Value) (blk off cap a b : Nat) (d0 d : Array α) (w0 w : World) (eg : ∀ args w, (callFunc g args).run Tryz.prog w = .ok (.enter g args) w) (hcmp : CmpLays1 Tryz.prog g cb enc cf blk off d0.size w0) (R : Row1 enc w0 blk off d0) (hs : d0.size = d.size) (S : SW enc w0 blk off d w) (hab : a ≤ b) (hb : b ≤ d.size) (hsz : d.size < 4611686018427387904) :
    Calls Tryz.prog 279 #[.slice (some ⟨blk, off, none⟩) d.size cap, .int .i64 a, .int .i64 b, .func (.func g) #[] cb] w fun e w' => e = .returned (.tuple #[]) ∧ SW enc w0 blk off (Sort.insertionSort (ltOf cf) d a b) w' := Any.insertionSortCmpFunc_s Sh.laysSlF20_f220 enc cf g cb blk off cap a b d0 d w0 w eg hcmp R hs S hab hb hsz
end Go.Proofs.YtcbmfakjfoggaaaGreatDoor
