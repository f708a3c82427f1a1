import Derived.Test.YtglmaoigjnoklaaF2
import Derived.Deep.RegionHeldLaw
namespace Go.Proofs.Ytglmaoigjnoklaa
open Go.RowKit

theorem hA3 (w : World) (o0 o1 o2 o3 : Obj) : ((((w.alloc o0).alloc o1).alloc o2).alloc o3).heap[w.heap.size]? = some o0 ∧ ((((w.alloc o0).alloc o1).alloc o2).alloc o3).heap[w.heap.size + 1]? = some o1 ∧ ((((w.alloc o0).alloc o1).alloc o2).alloc o3).heap[w.heap.size + 1 + 1]? = some o2 ∧ ((((w.alloc o0).alloc o1).alloc o2).alloc o3).heap[w.heap.size + 1 + 1 + 1]? = some o3 := by
  have h := three_blocks w o0 o1 o2
  have s3 : (((w.alloc o0).alloc o1).alloc o2).heap.size = w.heap.size + 1 + 1 + 1 := by simp
  exact ⟨(alloc_old _ o3 _ (by omega)).trans h.1, (alloc_old _ o3 _ (by omega)).trans h.2.1, (alloc_old _ o3 _ (by omega)).trans h.2.2, by rw [← s3]; exact heap_alloc_new _ o3⟩
theorem bA4 (w : World) (o0 o1 o2 o3 : Obj) : Below w.heap.size w ((((w.alloc o0).alloc o1).alloc o2).alloc o3) := ((((Below.refl _ _).alloc (Nat.le_refl _) _).alloc (by simp) _).alloc (by simp; omega) _).alloc (by simp; omega) _
theorem bA3 (w : World) (o0 o1 o2 : Obj) : Below w.heap.size w (((w.alloc o0).alloc o1).alloc o2) := (((Below.refl _ _).alloc (Nat.le_refl _) _).alloc (by simp) _).alloc (by simp; omega) _
theorem bA2 (w : World) (o0 o1 : Obj) : Below w.heap.size w ((w.alloc o0).alloc o1) := ((Below.refl _ _).alloc (Nat.le_refl _) _).alloc (by simp) _
theorem hA1 (w : World) (o0 o1 : Obj) : ((w.alloc o0).alloc o1).heap[w.heap.size]? = some o0 ∧ ((w.alloc o0).alloc o1).heap[w.heap.size + 1]? = some o1 := by
  have s1 : (w.alloc o0).heap.size = w.heap.size + 1 := by simp
  exact ⟨(alloc_old _ o1 _ (by omega)).trans (heap_alloc_new w o0), by rw [← s1]; exact heap_alloc_new _ o1⟩
theorem set3_other (w : World) (g k : Nat) (v : Sp) (h : k ≠ g) : (((w.setCell ⟨g, 0, none⟩ (.int .i64 v.f)).setCell ⟨g, 1, none⟩ (.int .i64 v.m)).setCell ⟨g, 2, none⟩ (.bool v.k)).heap[k]? = w.heap[k]? :=
  (heap_setCell_other _ ⟨g, 2, none⟩ k _ h).trans ((heap_setCell_other _ ⟨g, 1, none⟩ k _ h).trans (heap_setCell_other _ ⟨g, 0, none⟩ k _ h))
theorem BoxS.same {t g : Nat} {W W' : World} {x : ST} {a : Option Addr} {n c : Nat} (h : BoxS t g W x a n c) (hb : W'.heap[g]? = W.heap[g]?) : BoxS t g W' x a n c := ⟨hb.trans h.heap⟩
def HoldS (w' : World) (g : Nat) (r : Sp) : Prop := w'.cell? ⟨g, 0, none⟩ = some (.int .i64 r.f) ∧ w'.cell? ⟨g, 1, none⟩ = some (.int .i64 r.m) ∧ w'.cell? ⟨g, 2, none⟩ = some (.bool r.k)
theorem Box3.hold {w : World} {g : Nat} {s : Sp} (h : Box3 w g s) : w.cell? ⟨g, 0, none⟩ = some (.int .i64 s.f) ∧ w.cell? ⟨g, 1, none⟩ = some (.int .i64 s.m) ∧ w.cell? ⟨g, 2, none⟩ = some (.bool s.k) := ⟨h.c0, h.c1, h.c2⟩

theorem _root_.Go.World.drew_below (W : World) {w1 : World} (h : Below W.drew.heap.size W.drew w1) : Below W.heap.size W w1 := ((Below.refl _ _).drew).trans h

set_option maxHeartbeats 4000000 in
theorem rowSpan_any (x : ST) (a : Option Addr) (n c : Nat) (e : Sp) (w : World) (h0 : 0 ≤ x.lo) (h1 : x.lo ≤ x.hi) (h2 : x.hi ≤ 1000) (he : e.ok 1000000000000000) :
    Calls Try.prog 38 #[stv x a n c, spv e] w fun e2 w' => e2 = .returned (spv (rowSp x.lo x.hi e)) ∧ Below w.heap.size w w' := by
  obtain ⟨p0, p1, p2, p3⟩ := he
  have n1 : 0 ≤ x.lo * e.f := Int.mul_nonneg h0 p0
  have n2 : 0 ≤ x.hi * e.m := Int.mul_nonneg (by omega) p2
  have n3 : x.lo * e.f ≤ 1000 * 1000000000000000 := Int.mul_le_mul (by omega) p1 p0 (by decide)
  have n4 : x.hi * e.m ≤ 1000 * 1000000000000000 := Int.mul_le_mul (by omega) p3 p2 (by decide)
  obtain ⟨r, hr⟩ : ∃ r : Sp, r = ⟨x.lo * e.f, x.hi * e.m, e.k && decide (x.hi > 0)⟩ := ⟨_, rfl⟩
  have ok1 : r.ok 2000000000000000000 := by rw [hr]; exact ⟨n1, by show x.lo * e.f ≤ _; omega, n2, by show x.hi * e.m ≤ _; omega⟩
  have ok2 : (numSp (x.hi - x.lo + 1)).ok 2000000000000000000 := (numSp_ok _ 10 (by omega)).mono (by decide)
  have RS : Hid (rowSp x.lo x.hi e = r.cat (numSp (x.hi - x.lo + 1))) := by show _ = _; rw [hr]; rfl
  have OK : Hid (_ ∧ _) := ⟨ok1, ok2⟩
  obtain ⟨ef, em, ek⟩ := e
  dsimp only at p0 p1 p2 p3 n1 n2 n3 n4
  have hv1 : IntKind.i64.wrap (x.hi - x.lo) = x.hi - x.lo := by rw [IntKind.wrap_i64]; omega
  have hv2 : IntKind.i64.wrap (x.hi - x.lo + 1) = x.hi - x.lo + 1 := by rw [IntKind.wrap_i64]; omega
  unfold stv
  simp only [spv]
  cases ek with
  | false =>
    have HR : Hid (r = ⟨x.lo * ef, x.hi * em, false⟩) := by show _ = _; rw [hr]; rfl
    clear hr ok1 ok2
    go_enter Try.func38, Try.ntmps38
    go_wp2_with fail
    obtain ⟨W0, hW0⟩ : ∃ W0, W0 = ((((w.alloc (.cells #[.int .i64 x.kind, .int .i64 x.lo, .int .i64 x.hi, .bool x.ext, .bool x.opt, .slice a n c] 37)).alloc (.cells #[.int .i64 ef, .int .i64 em, .bool false] 45)).alloc (.cells #[.int .i64 0, .int .i64 0, .bool false] 45)).alloc (.cells #[.int .i64 (x.lo * ef), .int .i64 (x.hi * em), .bool false] 45)) := ⟨_, rfl⟩
    have hB0 : Below w.heap.size w W0 := by rw [hW0]; exact bA4 _ _ _ _ _
    have hS0 : W0.heap.size = w.heap.size + 1 + 1 + 1 + 1 := by rw [hW0]; simp
    have b0 := hA3 w (.cells #[.int .i64 x.kind, .int .i64 x.lo, .int .i64 x.hi, .bool x.ext, .bool x.opt, .slice a n c] 37) (.cells #[.int .i64 ef, .int .i64 em, .bool false] 45) (.cells #[.int .i64 0, .int .i64 0, .bool false] 45) (.cells #[.int .i64 (x.lo * ef), .int .i64 (x.hi * em), .bool false] 45)
    rw [← hW0] at b0 ⊢
    clear hW0
    have BS : BoxS 37 w.heap.size W0 x a n c := ⟨b0.1⟩
    have X2 : Box3 W0 (w.heap.size + 1 + 1) ⟨0, 0, false⟩ := ⟨b0.2.2.1⟩
    have X3 : Box3 W0 (w.heap.size + 1 + 1 + 1) r := ⟨by rw [HR.out]; exact b0.2.2.2⟩
    have HS5 : Hid (∀ w', Box3 w' (w.heap.size + 1 + 1 + 1) r → BoxS 37 w.heap.size w' x a n c → (fun w' => w'.cell? ⟨w.heap.size + 1 + 1 + 1, 0, none⟩ = some (.int .i64 r.f) ∧ w'.cell? ⟨w.heap.size + 1 + 1 + 1, 1, none⟩ = some (.int .i64 r.m) ∧ w'.cell? ⟨w.heap.size + 1 + 1 + 1, 2, none⟩ = some (.bool r.k) ∧ w'.cell? ⟨w.heap.size, 1, none⟩ = some (.int .i64 x.lo) ∧ w'.cell? ⟨w.heap.size, 2, none⟩ = some (.int .i64 x.hi)) w') := fun w' X Y => ⟨X.c0, X.c1, X.c2, Y.cells.c1, Y.cells.c2⟩
    have SS := HS5.out _ X3 BS
    have FX : Hid (_ ∧ _) := ⟨X2, X3⟩
    clear b0 X2 X3
    go_region_held_law (fun w' => w'.cell? ⟨w.heap.size + 1 + 1 + 1, 0, none⟩ = some (.int .i64 r.f) ∧ w'.cell? ⟨w.heap.size + 1 + 1 + 1, 1, none⟩ = some (.int .i64 r.m) ∧ w'.cell? ⟨w.heap.size + 1 + 1 + 1, 2, none⟩ = some (.bool r.k) ∧ w'.cell? ⟨w.heap.size, 1, none⟩ = some (.int .i64 x.lo) ∧ w'.cell? ⟨w.heap.size, 2, none⟩ = some (.int .i64 x.hi)) (first | assumption | exact SS | exact SS1 | exact SS2 | exact SS3)
      (first
        | (go_at_call 37; refine (numberSpan_any (x.hi - x.lo + 1) _ (by omega) (by omega)).mono ?_; rintro e w1 ⟨rfl, hb_w1⟩; obtain ⟨t, ht⟩ : ∃ q : Sp, q = numSp (x.hi - x.lo + 1) := ⟨_, rfl⟩; have Ht : Hid (t = numSp (x.hi - x.lo + 1)) := ht; rw [← ht]; clear ht; have F1 : Hid (_ ∧ _ ∧ _ ∧ _) := ⟨FX.out.1.kept (W0.drew_below hb_w1), FX.out.2.kept (W0.drew_below hb_w1), BS.kept (W0.drew_below hb_w1), hB0.trans ((W0.drew_below hb_w1).mono hB0.size)⟩; have SS1 := HS5.out _ F1.out.2.1 F1.out.2.2.1; clear hb_w1; simp only [spv])
        | (go_at_call 45; refine (with_any r t _ OK.out.1 (by rw [Ht.out]; exact OK.out.2)).mono ?_; rintro e w2 ⟨rfl, hb_w2⟩; obtain ⟨q, hq⟩ : ∃ q : Sp, q = r.cat t := ⟨_, rfl⟩; have Hq : Hid (q = r.cat t) := hq; rw [← hq]; clear hq; have X := F1.out.1.kept hb_w2; have X3 := F1.out.2.1.kept hb_w2; have Y := F1.out.2.2.1.kept hb_w2; have B := F1.out.2.2.2.trans (hb_w2.mono F1.out.2.2.2.size); have f0 := X.fr 0; have f1 := X.fr 1; have f2 := X.fr 2; have z0 := X.c0; have z1 := X.c1; have z2 := X.c2; have F2 : Hid (_ ∧ _) := ⟨X.set3 q, below_set3 B (w.heap.size + 1 + 1) (by omega) q⟩; have SS2 := HS5.out _ X3 Y; have SS3 := HS5.out _ (X3.same (set3_other w2 (w.heap.size + 1 + 1) (w.heap.size + 1 + 1 + 1) q (by omega))) (Y.same (set3_other w2 (w.heap.size + 1 + 1) (w.heap.size) q (by omega))); clear X B X3 Y; clear hb_w2; simp only [spv]))
    all_goals (
      go_wp2
      try simp only [Exit.inBlock, Exit.then]
      exact bodyPost_ret (results_sp rfl _ (w.heap.size + 1 + 1) rfl _ q F2.out.1) rfl ⟨by rw [RS.out, Hq.out, Ht.out]; rfl, F2.out.2⟩)
  | true =>
    by_cases hp : 0 < x.hi
    · have HR : Hid (r = ⟨x.lo * ef, x.hi * em, true⟩) := by show _ = _; rw [hr, decide_eq_true hp]; rfl
      clear hr ok1 ok2
      go_enter Try.func38, Try.ntmps38
      go_wp2_with fail
      obtain ⟨W0, hW0⟩ : ∃ W0, W0 = ((((w.alloc (.cells #[.int .i64 x.kind, .int .i64 x.lo, .int .i64 x.hi, .bool x.ext, .bool x.opt, .slice a n c] 37)).alloc (.cells #[.int .i64 ef, .int .i64 em, .bool true] 45)).alloc (.cells #[.int .i64 0, .int .i64 0, .bool false] 45)).alloc (.cells #[.int .i64 (x.lo * ef), .int .i64 (x.hi * em), .bool true] 45)) := ⟨_, rfl⟩
      have hB0 : Below w.heap.size w W0 := by rw [hW0]; exact bA4 _ _ _ _ _
      have hS0 : W0.heap.size = w.heap.size + 1 + 1 + 1 + 1 := by rw [hW0]; simp
      have b0 := hA3 w (.cells #[.int .i64 x.kind, .int .i64 x.lo, .int .i64 x.hi, .bool x.ext, .bool x.opt, .slice a n c] 37) (.cells #[.int .i64 ef, .int .i64 em, .bool true] 45) (.cells #[.int .i64 0, .int .i64 0, .bool false] 45) (.cells #[.int .i64 (x.lo * ef), .int .i64 (x.hi * em), .bool true] 45)
      rw [← hW0] at b0 ⊢
      clear hW0
      have BS : BoxS 37 w.heap.size W0 x a n c := ⟨b0.1⟩
      have X2 : Box3 W0 (w.heap.size + 1 + 1) ⟨0, 0, false⟩ := ⟨b0.2.2.1⟩
      have X3 : Box3 W0 (w.heap.size + 1 + 1 + 1) r := ⟨by rw [HR.out]; exact b0.2.2.2⟩
      have HS5 : Hid (∀ w', Box3 w' (w.heap.size + 1 + 1 + 1) r → BoxS 37 w.heap.size w' x a n c → (fun w' => w'.cell? ⟨w.heap.size + 1 + 1 + 1, 0, none⟩ = some (.int .i64 r.f) ∧ w'.cell? ⟨w.heap.size + 1 + 1 + 1, 1, none⟩ = some (.int .i64 r.m) ∧ w'.cell? ⟨w.heap.size + 1 + 1 + 1, 2, none⟩ = some (.bool r.k) ∧ w'.cell? ⟨w.heap.size, 1, none⟩ = some (.int .i64 x.lo) ∧ w'.cell? ⟨w.heap.size, 2, none⟩ = some (.int .i64 x.hi)) w') := fun w' X Y => ⟨X.c0, X.c1, X.c2, Y.cells.c1, Y.cells.c2⟩
      have SS := HS5.out _ X3 BS
      have FX : Hid (_ ∧ _) := ⟨X2, X3⟩
      clear b0 X2 X3
      go_region_held_law (fun w' => w'.cell? ⟨w.heap.size + 1 + 1 + 1, 0, none⟩ = some (.int .i64 r.f) ∧ w'.cell? ⟨w.heap.size + 1 + 1 + 1, 1, none⟩ = some (.int .i64 r.m) ∧ w'.cell? ⟨w.heap.size + 1 + 1 + 1, 2, none⟩ = some (.bool r.k) ∧ w'.cell? ⟨w.heap.size, 1, none⟩ = some (.int .i64 x.lo) ∧ w'.cell? ⟨w.heap.size, 2, none⟩ = some (.int .i64 x.hi)) (first | assumption | exact SS | exact SS1 | exact SS2 | exact SS3)
        (first
          | (go_at_call 37; refine (numberSpan_any (x.hi - x.lo + 1) _ (by omega) (by omega)).mono ?_; rintro e w1 ⟨rfl, hb_w1⟩; obtain ⟨t, ht⟩ : ∃ q : Sp, q = numSp (x.hi - x.lo + 1) := ⟨_, rfl⟩; have Ht : Hid (t = numSp (x.hi - x.lo + 1)) := ht; rw [← ht]; clear ht; have F1 : Hid (_ ∧ _ ∧ _ ∧ _) := ⟨FX.out.1.kept (W0.drew_below hb_w1), FX.out.2.kept (W0.drew_below hb_w1), BS.kept (W0.drew_below hb_w1), hB0.trans ((W0.drew_below hb_w1).mono hB0.size)⟩; have SS1 := HS5.out _ F1.out.2.1 F1.out.2.2.1; clear hb_w1; simp only [spv])
          | (go_at_call 45; refine (with_any r t _ OK.out.1 (by rw [Ht.out]; exact OK.out.2)).mono ?_; rintro e w2 ⟨rfl, hb_w2⟩; obtain ⟨q, hq⟩ : ∃ q : Sp, q = r.cat t := ⟨_, rfl⟩; have Hq : Hid (q = r.cat t) := hq; rw [← hq]; clear hq; have X := F1.out.1.kept hb_w2; have X3 := F1.out.2.1.kept hb_w2; have Y := F1.out.2.2.1.kept hb_w2; have B := F1.out.2.2.2.trans (hb_w2.mono F1.out.2.2.2.size); have f0 := X.fr 0; have f1 := X.fr 1; have f2 := X.fr 2; have z0 := X.c0; have z1 := X.c1; have z2 := X.c2; have F2 : Hid (_ ∧ _) := ⟨X.set3 q, below_set3 B (w.heap.size + 1 + 1) (by omega) q⟩; have SS2 := HS5.out _ X3 Y; have SS3 := HS5.out _ (X3.same (set3_other w2 (w.heap.size + 1 + 1) (w.heap.size + 1 + 1 + 1) q (by omega))) (Y.same (set3_other w2 (w.heap.size + 1 + 1) (w.heap.size) q (by omega))); clear X B X3 Y; clear hb_w2; simp only [spv]))
      all_goals (
        go_wp2
        try simp only [Exit.inBlock, Exit.then]
        exact bodyPost_ret (results_sp rfl _ (w.heap.size + 1 + 1) rfl _ q F2.out.1) rfl ⟨by rw [RS.out, Hq.out, Ht.out]; rfl, F2.out.2⟩)
    · have HR : Hid (r = ⟨x.lo * ef, x.hi * em, false⟩) := by show _ = _; rw [hr, decide_eq_false (by omega)]; rfl
      clear hr ok1 ok2
      go_enter Try.func38, Try.ntmps38
      go_wp2_with fail
      obtain ⟨W0, hW0⟩ : ∃ W0, W0 = ((((w.alloc (.cells #[.int .i64 x.kind, .int .i64 x.lo, .int .i64 x.hi, .bool x.ext, .bool x.opt, .slice a n c] 37)).alloc (.cells #[.int .i64 ef, .int .i64 em, .bool true] 45)).alloc (.cells #[.int .i64 0, .int .i64 0, .bool false] 45)).alloc (.cells #[.int .i64 (x.lo * ef), .int .i64 (x.hi * em), .bool false] 45)) := ⟨_, rfl⟩
      have hB0 : Below w.heap.size w W0 := by rw [hW0]; exact bA4 _ _ _ _ _
      have hS0 : W0.heap.size = w.heap.size + 1 + 1 + 1 + 1 := by rw [hW0]; simp
      have b0 := hA3 w (.cells #[.int .i64 x.kind, .int .i64 x.lo, .int .i64 x.hi, .bool x.ext, .bool x.opt, .slice a n c] 37) (.cells #[.int .i64 ef, .int .i64 em, .bool true] 45) (.cells #[.int .i64 0, .int .i64 0, .bool false] 45) (.cells #[.int .i64 (x.lo * ef), .int .i64 (x.hi * em), .bool false] 45)
      rw [← hW0] at b0 ⊢
      clear hW0
      have BS : BoxS 37 w.heap.size W0 x a n c := ⟨b0.1⟩
      have X2 : Box3 W0 (w.heap.size + 1 + 1) ⟨0, 0, false⟩ := ⟨b0.2.2.1⟩
      have X3 : Box3 W0 (w.heap.size + 1 + 1 + 1) r := ⟨by rw [HR.out]; exact b0.2.2.2⟩
      have HS5 : Hid (∀ w', Box3 w' (w.heap.size + 1 + 1 + 1) r → BoxS 37 w.heap.size w' x a n c → (fun w' => w'.cell? ⟨w.heap.size + 1 + 1 + 1, 0, none⟩ = some (.int .i64 r.f) ∧ w'.cell? ⟨w.heap.size + 1 + 1 + 1, 1, none⟩ = some (.int .i64 r.m) ∧ w'.cell? ⟨w.heap.size + 1 + 1 + 1, 2, none⟩ = some (.bool r.k) ∧ w'.cell? ⟨w.heap.size, 1, none⟩ = some (.int .i64 x.lo) ∧ w'.cell? ⟨w.heap.size, 2, none⟩ = some (.int .i64 x.hi)) w') := fun w' X Y => ⟨X.c0, X.c1, X.c2, Y.cells.c1, Y.cells.c2⟩
      have SS := HS5.out _ X3 BS
      have FX : Hid (_ ∧ _) := ⟨X2, X3⟩
      clear b0 X2 X3
      go_region_held_law (fun w' => w'.cell? ⟨w.heap.size + 1 + 1 + 1, 0, none⟩ = some (.int .i64 r.f) ∧ w'.cell? ⟨w.heap.size + 1 + 1 + 1, 1, none⟩ = some (.int .i64 r.m) ∧ w'.cell? ⟨w.heap.size + 1 + 1 + 1, 2, none⟩ = some (.bool r.k) ∧ w'.cell? ⟨w.heap.size, 1, none⟩ = some (.int .i64 x.lo) ∧ w'.cell? ⟨w.heap.size, 2, none⟩ = some (.int .i64 x.hi)) (first | assumption | exact SS | exact SS1 | exact SS2 | exact SS3)
        (first
          | (go_at_call 37; refine (numberSpan_any (x.hi - x.lo + 1) _ (by omega) (by omega)).mono ?_; rintro e w1 ⟨rfl, hb_w1⟩; obtain ⟨t, ht⟩ : ∃ q : Sp, q = numSp (x.hi - x.lo + 1) := ⟨_, rfl⟩; have Ht : Hid (t = numSp (x.hi - x.lo + 1)) := ht; rw [← ht]; clear ht; have F1 : Hid (_ ∧ _ ∧ _ ∧ _) := ⟨FX.out.1.kept (W0.drew_below hb_w1), FX.out.2.kept (W0.drew_below hb_w1), BS.kept (W0.drew_below hb_w1), hB0.trans ((W0.drew_below hb_w1).mono hB0.size)⟩; have SS1 := HS5.out _ F1.out.2.1 F1.out.2.2.1; clear hb_w1; simp only [spv])
          | (go_at_call 45; refine (with_any r t _ OK.out.1 (by rw [Ht.out]; exact OK.out.2)).mono ?_; rintro e w2 ⟨rfl, hb_w2⟩; obtain ⟨q, hq⟩ : ∃ q : Sp, q = r.cat t := ⟨_, rfl⟩; have Hq : Hid (q = r.cat t) := hq; rw [← hq]; clear hq; have X := F1.out.1.kept hb_w2; have X3 := F1.out.2.1.kept hb_w2; have Y := F1.out.2.2.1.kept hb_w2; have B := F1.out.2.2.2.trans (hb_w2.mono F1.out.2.2.2.size); have f0 := X.fr 0; have f1 := X.fr 1; have f2 := X.fr 2; have z0 := X.c0; have z1 := X.c1; have z2 := X.c2; have F2 : Hid (_ ∧ _) := ⟨X.set3 q, below_set3 B (w.heap.size + 1 + 1) (by omega) q⟩; have SS2 := HS5.out _ X3 Y; have SS3 := HS5.out _ (X3.same (set3_other w2 (w.heap.size + 1 + 1) (w.heap.size + 1 + 1 + 1) q (by omega))) (Y.same (set3_other w2 (w.heap.size + 1 + 1) (w.heap.size) q (by omega))); clear X B X3 Y; clear hb_w2; simp only [spv]))
      all_goals (
        go_wp2
        try simp only [Exit.inBlock, Exit.then]
        exact bodyPost_ret (results_sp rfl _ (w.heap.size + 1 + 1) rfl _ q F2.out.1) rfl ⟨by rw [RS.out, Hq.out, Ht.out]; rfl, F2.out.2⟩)

end Go.Proofs.Ytglmaoigjnoklaa
