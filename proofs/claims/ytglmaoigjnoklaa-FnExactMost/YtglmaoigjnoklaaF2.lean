import Derived.Test.YtglmaoigjnoklaaF1
namespace Go.Proofs.Ytglmaoigjnoklaa
open Go.RowKit

theorem len_fin (x y : Int) (c M : Nat) (hM : M = 2 ^ c) (hc : c ≤ 56) (hy : y.toNat = x.toNat / M) (hy1 : y < 256) (hyz : c = 0 ∨ 1 ≤ y) : wrap64 ((c : Int) + wrap64 (bitLen y.toNat : Int)) = bitLen x.toNat := by
  have hb := bitLen_le8 y.toNat (by omega)
  have e : bitLen x.toNat = c + bitLen y.toNat := by
    rcases hyz with rfl | h
    · rw [hy, hM]; simp
    · rw [hy, hM]
      refine bitLen_shift _ _ ?_
      rw [← hM, ← hy]
      omega
  rw [e]
  simp only [wrap64]
  omega

set_option maxRecDepth 10000 in
set_option maxHeartbeats 2000000 in
theorem len64_any (x : Int) (w : World) (h0 : 0 ≤ x) (h1 : x < 18446744073709551616) :
    Calls Try.prog 47 #[.int .u64 x] w fun e w' => e = .returned (.int .i64 (bitLen x.toNat)) ∧ w = w' := by
  go_enter Try.func47, Try.ntmps47
  go_wp2
  all_goals
    go_ret
    refine ⟨?_, rfl⟩
    rw [len8tab_get]
    refine congrArg (fun z => Ending.returned (.int .i64 z)) ?_
    first
    | exact len_fin x _ 56 72057594037927936 rfl (by decide) (by omega) (by omega) (by omega)
    | exact len_fin x _ 48 281474976710656 rfl (by decide) (by omega) (by omega) (by omega)
    | exact len_fin x _ 40 1099511627776 rfl (by decide) (by omega) (by omega) (by omega)
    | exact len_fin x _ 32 4294967296 rfl (by decide) (by omega) (by omega) (by omega)
    | exact len_fin x _ 24 16777216 rfl (by decide) (by omega) (by omega) (by omega)
    | exact len_fin x _ 16 65536 rfl (by decide) (by omega) (by omega) (by omega)
    | exact len_fin x _ 8 256 rfl (by decide) (by omega) (by omega) (by omega)
    | exact len_fin x _ 0 1 rfl (by decide) (by omega) (by omega) (by omega)
    | (have := len_fin x x 0 1 rfl (by decide) (by omega) (by omega) (by omega); simpa using this)

set_option maxHeartbeats 1000000 in
theorem widthIn_any (n : Int) (w : World) (h1 : 1 ≤ n) (h2 : n ≤ 4611686018427387904) :
    Calls Try.prog 44 #[.int .i64 n] w fun e w' => e = .returned (.int .i64 (wid n)) ∧ w = w' := by
  go_enter Try.func44, Try.ntmps44
  go_wp2_with fail
  refine (len64_any (n - 1) _ (by omega) (by omega)).mono ?_
  rintro e w1 ⟨rfl, rfl⟩
  have eq : ((bitLen (n - 1).toNat : Nat) : Int) = wid n := rfl
  rw [eq]
  go_wp2
  go_ret
  exact ⟨rfl, rfl⟩

/-- A variable that holds a span. -/
structure Box3 (w : World) (g : Nat) (s : Sp) : Prop where
  heap : w.heap[g]? = some (.cells #[.int .i64 s.f, .int .i64 s.m, .bool s.k] 45 (0, 0))
theorem Box3.c0 {w : World} {g : Nat} {s : Sp} (h : Box3 w g s) : w.cell? ⟨g, 0, none⟩ = some (.int .i64 s.f) := (cell_of_row _ g 0 _ 45 (0, 0) h.heap).trans rfl
theorem Box3.c1 {w : World} {g : Nat} {s : Sp} (h : Box3 w g s) : w.cell? ⟨g, 1, none⟩ = some (.int .i64 s.m) := (cell_of_row _ g 1 _ 45 (0, 0) h.heap).trans rfl
theorem Box3.c2 {w : World} {g : Nat} {s : Sp} (h : Box3 w g s) : w.cell? ⟨g, 2, none⟩ = some (.bool s.k) := (cell_of_row _ g 2 _ 45 (0, 0) h.heap).trans rfl
theorem Box3.fr {w : World} {g : Nat} {s : Sp} (h : Box3 w g s) (j : Nat) : w.frozen? ⟨g, j, none⟩ = false := frozen_of_row w g j _ 45 h.heap
theorem Box3.lt {w : World} {g : Nat} {s : Sp} (h : Box3 w g s) : g < w.heap.size := (Array.getElem?_eq_some_iff.1 h.heap).1
theorem Box3.kept {w w' : World} {g : Nat} {s : Sp} (h : Box3 w g s) (hb : Below w.heap.size w w') : Box3 w' g s := ⟨(hb.block _ h.lt).trans h.heap⟩
theorem Box3.same {w w' : World} {g : Nat} {s : Sp} (h : Box3 w g s) (hb : w'.heap[g]? = w.heap[g]?) : Box3 w' g s := ⟨hb.trans h.heap⟩
theorem box3_new (w : World) (s : Sp) : Box3 (w.alloc (.cells #[.int .i64 s.f, .int .i64 s.m, .bool s.k] 45)) w.heap.size s := ⟨heap_alloc_new w _⟩
theorem Box3.set0 {w : World} {g : Nat} {s : Sp} (h : Box3 w g s) (v : Int) : Box3 (w.setCell ⟨g, 0, none⟩ (.int .i64 v)) g ⟨v, s.m, s.k⟩ := ⟨heap_setCell_same _ g 0 _ 45 _ h.heap⟩
theorem Box3.set1 {w : World} {g : Nat} {s : Sp} (h : Box3 w g s) (v : Int) : Box3 (w.setCell ⟨g, 1, none⟩ (.int .i64 v)) g ⟨s.f, v, s.k⟩ := ⟨heap_setCell_same _ g 1 _ 45 _ h.heap⟩
theorem Box3.set2 {w : World} {g : Nat} {s : Sp} (h : Box3 w g s) (v : Bool) : Box3 (w.setCell ⟨g, 2, none⟩ (.bool v)) g ⟨s.f, s.m, v⟩ := ⟨heap_setCell_same _ g 2 _ 45 _ h.heap⟩
def set3 (w : World) (g : Nat) (v : Sp) : World := ((w.setCell ⟨g, 0, none⟩ (.int .i64 v.f)).setCell ⟨g, 1, none⟩ (.int .i64 v.m)).setCell ⟨g, 2, none⟩ (.bool v.k)
theorem Box3.set3 {w : World} {g : Nat} {s : Sp} (h : Box3 w g s) (v : Sp) : Box3 (((w.setCell ⟨g, 0, none⟩ (.int .i64 v.f)).setCell ⟨g, 1, none⟩ (.int .i64 v.m)).setCell ⟨g, 2, none⟩ (.bool v.k)) g v := ((h.set0 v.f).set1 v.m).set2 v.k
theorem below_set3 {B : Nat} {w0 w : World} (h : Below B w0 w) (g : Nat) (hg : B ≤ g) (v : Sp) : Below B w0 (((w.setCell ⟨g, 0, none⟩ (.int .i64 v.f)).setCell ⟨g, 1, none⟩ (.int .i64 v.m)).setCell ⟨g, 2, none⟩ (.bool v.k)) := ((h.setCell hg _).setCell hg _).setCell hg _
theorem results_sp {fn : Func} {t : Tmp} (h : fn.results = #[.cell t 45]) (tmps : Array Value) (g : Nat) (ht : tmps.getD t undef = .pointer (some ⟨g, 0, none⟩)) (w : World) (s : Sp) (hb : Box3 w g s) : (results fn tmps).run Try.prog w = .ok (spv s) w := by
  have d0 := hb.c0
  have d1 := hb.c1
  have d2 := hb.c2
  clear hb
  have ht' : tmps[t]?.getD undef = .pointer (some ⟨g, 0, none⟩) := by rw [← ht]; simp
  simp [results, h, go_sem, ht', d0, d1, d2, spv]

set_option maxHeartbeats 1000000 in
theorem numberSpan_any (n : Int) (w : World) (h1 : 1 ≤ n) (h2 : n ≤ 4611686018427387904) :
    Calls Try.prog 37 #[.int .i64 n] w fun e w' => e = .returned (spv (numSp n)) ∧ Below w.heap.size w w' := by
  have hB : ∀ o1, Below w.heap.size w (w.alloc o1) := fun o1 => (Below.refl _ _).alloc (Nat.le_refl _) _
  have w0 := wid_nonneg n
  have w1 := wid_le n 62 (by omega)
  go_enter Try.func37, Try.ntmps37
  go_wp2_with fail
  refine (widthIn_any n _ h1 h2).mono ?_
  rintro e w1 ⟨rfl, rfl⟩
  go_wp2
  try simp only [Exit.inBlock, Exit.then]
  exact bodyPost_ret (results_sp rfl _ w.heap.size rfl _ (numSp n) (box3_new w (numSp n))) rfl ⟨rfl, hB _⟩

set_option maxHeartbeats 1000000 in
theorem flagSpan_any (b : Bool) (w : World) :
    Calls Try.prog 46 #[.bool b] w fun e w' => e = .returned (spv (flagSp b)) ∧ Below w.heap.size w w' := by
  have hB : ∀ o1, Below w.heap.size w (w.alloc o1) := fun o1 => (Below.refl _ _).alloc (Nat.le_refl _) _
  cases b with
  | true =>
    have X0 := box3_new w ⟨0, 0, false⟩
    have e0 : flagSp true = numSp 2 := rfl
    rw [e0]
    clear e0
    go_enter Try.func46, Try.ntmps46
    go_wp2_with fail
    refine (numberSpan_any 2 _ (by decide) (by decide)).mono ?_
    rintro e w1 ⟨rfl, hb1⟩
    replace X0 := X0.kept hb1
    have hB1 : Below w.heap.size w w1 := (hB _).trans (hb1.mono (hB _).size)
    obtain ⟨c0, c1, c2, f0, f1, f2⟩ := And.intro X0.c0 (And.intro X0.c1 (And.intro X0.c2 (And.intro (X0.fr 0) (And.intro (X0.fr 1) (X0.fr 2)))))
    obtain ⟨s, hs⟩ : ∃ s, s = numSp 2 := ⟨_, rfl⟩
    rw [← hs]
    have HS : Hid (s = numSp 2) := hs
    have F : Hid (_ ∧ _) := ⟨X0.set3 s, below_set3 hB1 _ (Nat.le_refl _) s⟩
    clear hs X0 hb1 hB1
    simp only [spv]
    go_wp2
    try simp only [Exit.inBlock, Exit.then]
    exact bodyPost_ret (results_sp rfl _ w.heap.size rfl _ s F.out.1) rfl ⟨by rw [HS.out], F.out.2⟩
  | false =>
    go_enter Try.func46, Try.ntmps46
    go_wp2
    try simp only [Exit.inBlock, Exit.then]
    exact bodyPost_ret (results_sp rfl _ w.heap.size rfl _ ⟨0, 0, false⟩ (box3_new w ⟨0, 0, false⟩)) rfl ⟨rfl, hB _⟩

set_option maxHeartbeats 1000000 in
theorem with_any (s o : Sp) (w : World) (hs : s.ok 2000000000000000000) (ho : o.ok 2000000000000000000) :
    Calls Try.prog 45 #[spv s, spv o] w fun e w' => e = .returned (spv (s.cat o)) ∧ Below w.heap.size w w' := by
  obtain ⟨a, b, c, d⟩ := hs
  obtain ⟨a', b', c', d'⟩ := ho
  have hB : ∀ o1 o2 o3, Below w.heap.size w (((w.alloc o1).alloc o2).alloc o3) := fun o1 o2 o3 => (((Below.refl _ _).alloc (Nat.le_refl _) _).alloc (by simp) _).alloc (by simp; omega) _
  have hz : ∀ o1 o2, ((w.alloc o1).alloc o2).heap.size = w.heap.size + 1 + 1 := by intro o1 o2; simp
  obtain ⟨sf, sm, sk⟩ := s
  obtain ⟨of, om, ok⟩ := o
  dsimp only at a b c d a' b' c' d'
  have X := fun o1 o2 => box3_new ((w.alloc o1).alloc o2) (Sp.cat ⟨sf, sm, sk⟩ ⟨of, om, ok⟩)
  simp only [hz] at X
  have HX : Hid (_) := X
  clear X
  simp only [spv]
  cases sk with
  | true =>
    go_enter Try.func45, Try.ntmps45
    go_wp2
    try simp only [Exit.inBlock, Exit.then]
    exact bodyPost_ret (results_sp rfl _ (w.heap.size + 1 + 1) rfl _ _ (HX.out _ _)) rfl ⟨rfl, hB _ _ _⟩
  | false =>
    go_enter Try.func45, Try.ntmps45
    go_wp2
    try simp only [Exit.inBlock, Exit.then]
    exact bodyPost_ret (results_sp rfl _ (w.heap.size + 1 + 1) rfl _ _ (HX.out _ _)) rfl ⟨rfl, hB _ _ _⟩
end Go.Proofs.Ytglmaoigjnoklaa
