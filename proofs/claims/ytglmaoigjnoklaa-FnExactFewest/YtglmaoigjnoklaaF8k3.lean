import Derived.Test.YtglmaoigjnoklaaF5
namespace Go.Proofs.Ytglmaoigjnoklaa
open Go.RowKit

set_option maxHeartbeats 20000000 in
theorem spanOf_3 (xs : List ST) (aL : Option Addr) (n cL : Nat) (x : ST) (a : Option Addr) (nk ck g cg : Nat) (L : Nat → Sp) (w : World) (hL : Sts w aL n xs) (hr : Row64 w a nk x.kids) (hx : fieldsP x) (hk : x.kind = 3) (hg : SpRow w g n L) (hok : ∀ i, (L i).ok 1000000000000000) (hin : ∀ k, k < nk → 0 ≤ x.kids.getD k 0 ∧ x.kids.getD k 0 < n) :
    Calls Try.prog 36 #[.slice aL n cL, stv x a nk ck, .slice (some ⟨g, 0, none⟩) n cg] w fun e w' => e = .returned (spv (spanP xs L x)) ∧ Below w.heap.size w w' := by
  have HLs : Hid (Sts w aL n xs) := hL
  have HR : Hid (Row64 w a nk x.kids) := hr
  have HL : Hid (x.kids.length = nk) := hr.len
  have HG : Hid (SpRow w g n L) := hg
  have HI : Hid (_) := hin
  have HOK : Hid (_) := hok
  have hgl := hg.lt
  have h12 : nk ≤ 12 := by rw [← hr.len]; unfold fieldsP at hx; omega
  obtain ⟨W0, hW0⟩ : ∃ W0, W0 = ((w.alloc (.cells #[.int .i64 x.kind, .int .i64 x.lo, .int .i64 x.hi, .bool x.ext, .bool x.opt, .slice a nk ck] 37)).alloc (.cells #[.int .i64 0, .int .i64 0, .bool false] 45)) := ⟨_, rfl⟩
  have hB0 : Below w.heap.size w W0 := by rw [hW0]; exact bA2 _ _ _
  have hS0 : W0.heap.size = w.heap.size + 1 + 1 := by rw [hW0]; simp
  have b0 := hA1 w (.cells #[.int .i64 x.kind, .int .i64 x.lo, .int .i64 x.hi, .bool x.ext, .bool x.opt, .slice a nk ck] 37) (.cells #[.int .i64 0, .int .i64 0, .bool false] 45)
  have BS : Hid (BoxS 37 w.heap.size W0 x a nk ck) := ⟨by rw [hW0]; exact b0.1⟩
  have X1 : Hid (Box3 W0 (w.heap.size + 1) ⟨0, 0, false⟩) := ⟨by rw [hW0]; exact b0.2⟩
  have HS6 : Hid (∀ w', BoxS 37 w.heap.size w' x a nk ck → (fun w' => w'.cell? ⟨w.heap.size, 0, none⟩ = some (.int .i64 x.kind) ∧ w'.cell? ⟨w.heap.size, 1, none⟩ = some (.int .i64 x.lo) ∧ w'.cell? ⟨w.heap.size, 2, none⟩ = some (.int .i64 x.hi) ∧ w'.cell? ⟨w.heap.size, 3, none⟩ = some (.bool x.ext) ∧ w'.cell? ⟨w.heap.size, 4, none⟩ = some (.bool x.opt) ∧ w'.cell? ⟨w.heap.size, 5, none⟩ = some (.slice a nk ck)) w') := fun w' Y => ⟨Y.cells.c0, Y.cells.c1, Y.cells.c2, Y.cells.c3, Y.cells.c4, Y.cells.c5⟩
  obtain ⟨c0, c1, c2, c3, c4, c5⟩ := BS.out.cells
  have HW0 : Hid (W0 = ((w.alloc (.cells #[.int .i64 x.kind, .int .i64 x.lo, .int .i64 x.hi, .bool x.ext, .bool x.opt, .slice a nk ck] 37)).alloc (.cells #[.int .i64 0, .int .i64 0, .bool false] 45))) := hW0
  have len := hr.len
  clear b0 hr hg hin hok hL hW0
  unfold fieldsP bnd at hx
  rw [len] at hx
  clear len
  unfold stv
  · have hb : 0 ≤ x.lo ∧ x.lo ≤ x.hi ∧ x.hi ≤ 1000 := by omega
    have EQ : Hid (spanP xs L x = rowSp x.lo x.hi (numSp 256)) := by show _ = _; unfold spanP; rw [if_neg (by omega), if_neg (by omega), if_pos hk]
    rw [hk] at c0
    clear hk
    clear hx
    go_enter Try.func36, Try.ntmps36
    go_upto_region 1 with fail
    rw [← HW0.out]
    go_wp2_with fail
    have SS := HS6.out _ BS.out
    go_region_held_law (fun w' => w'.cell? ⟨w.heap.size, 0, none⟩ = some (.int .i64 x.kind) ∧ w'.cell? ⟨w.heap.size, 1, none⟩ = some (.int .i64 x.lo) ∧ w'.cell? ⟨w.heap.size, 2, none⟩ = some (.int .i64 x.hi) ∧ w'.cell? ⟨w.heap.size, 3, none⟩ = some (.bool x.ext) ∧ w'.cell? ⟨w.heap.size, 4, none⟩ = some (.bool x.opt) ∧ w'.cell? ⟨w.heap.size, 5, none⟩ = some (.slice a nk ck)) (first | assumption | exact SS | exact SS1 | exact SS2 | exact SS3)
      (first
        | (go_at_call 37; refine (numberSpan_any 256 _ (by decide) (by decide)).mono ?_; rintro e w1 ⟨rfl, hb_w1⟩; obtain ⟨u, hu⟩ : ∃ q : Sp, q = numSp 256 := ⟨_, rfl⟩; have Hu : Hid (u = numSp 256) := hu; rw [← hu]; clear hu; have E1 : Hid (_ ∧ _ ∧ _) := ⟨BS.out.kept (W0.drew_below hb_w1), X1.out.kept (W0.drew_below hb_w1), hB0.trans ((W0.drew_below hb_w1).mono hB0.size)⟩; have SS1 := HS6.out _ E1.out.1; clear hb_w1; simp only [spv])
        | (go_at_call 38; refine (rowSpan_any x a nk ck u _ hb.1 hb.2.1 hb.2.2 (by rw [Hu.out]; exact (numSp_ok 256 8 (by decide)).mono (by decide))).mono ?_; rintro e w2 ⟨rfl, hb_w2⟩; obtain ⟨v, hv⟩ : ∃ q : Sp, q = rowSp x.lo x.hi u := ⟨_, rfl⟩; have Hv : Hid (v = rowSp x.lo x.hi u) := hv; rw [← hv]; clear hv; have X := E1.out.2.1.kept hb_w2; have Y := E1.out.1.kept hb_w2; have f0 := X.fr 0; have f1 := X.fr 1; have f2 := X.fr 2; have z0 := X.c0; have z1 := X.c1; have z2 := X.c2; have FF : Hid (_ ∧ _) := ⟨X.set3 v, below_set3 (E1.out.2.2.trans (hb_w2.mono E1.out.2.2.size)) (w.heap.size + 1) (by omega) v⟩; have SS2 := HS6.out _ Y; have SS3 := HS6.out _ (Y.same (set3_other w2 (w.heap.size + 1) w.heap.size v (by omega))); clear X Y; clear hb_w2; simp only [spv]))
    all_goals (
      go_wp2
      try simp only [Exit.inBlock, Exit.then]
      exact bodyPost_ret (results_sp rfl _ (w.heap.size + 1) rfl _ v FF.out.1) rfl ⟨by rw [EQ.out, Hv.out, Hu.out]; try rfl, FF.out.2⟩)

end Go.Proofs.Ytglmaoigjnoklaa
