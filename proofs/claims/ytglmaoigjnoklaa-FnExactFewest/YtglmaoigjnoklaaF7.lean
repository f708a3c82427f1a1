import Derived.Test.YtglmaoigjnoklaaF5
import Derived.Deep.RegionHeld3
namespace Go.Proofs.Ytglmaoigjnoklaa
open Go.RowKit

set_option maxHeartbeats 8000000 in
theorem choiceSpan_any (x : ST) (a : Option Addr) (nk ck g n cg : Nat) (L : Nat → Sp) (w : World) (hr : Row64 w a nk x.kids) (hnk : nk ≤ 12) (h1 : 1 ≤ nk) (hg : SpRow w g n L) (hok : ∀ i, (L i).ok 1000000000000000) (hin : ∀ k, k < nk → 0 ≤ x.kids.getD k 0 ∧ x.kids.getD k 0 < n) :
    Calls Try.prog 41 #[stv x a nk ck, .slice (some ⟨g, 0, none⟩) n cg] w fun e w' => e = .returned (spv (choiceSp L x)) ∧ Below w.heap.size w w' := by
  have HR : Hid (Row64 w a nk x.kids) := hr
  have HL : Hid (x.kids.length = nk) := hr.len
  have HG : Hid (SpRow w g n L) := hg
  have HI : Hid (_) := hin
  have O1 : Hid ((pickSp L x.kids).ok 1000000000000000) := pickSp_ok L hok x.kids
  have O2 : Hid ((numSp nk).ok 4) := numSp_ok _ 4 (by omega)
  obtain ⟨W0, hW0⟩ : ∃ W0, W0 = ((w.alloc (.cells #[.int .i64 x.kind, .int .i64 x.lo, .int .i64 x.hi, .bool x.ext, .bool x.opt, .slice a nk ck] 37)).alloc (.cells #[.int .i64 0, .int .i64 0, .bool false] 45)) := ⟨_, rfl⟩
  have hB0 : Below w.heap.size w W0 := by rw [hW0]; exact bA2 _ _ _
  have hS0 : W0.heap.size = w.heap.size + 1 + 1 := by rw [hW0]; simp
  have b0 := hA1 w (.cells #[.int .i64 x.kind, .int .i64 x.lo, .int .i64 x.hi, .bool x.ext, .bool x.opt, .slice a nk ck] 37) (.cells #[.int .i64 0, .int .i64 0, .bool false] 45)
  have BS : BoxS 37 w.heap.size W0 x a nk ck := ⟨by rw [hW0]; exact b0.1⟩
  have X1 : Box3 W0 (w.heap.size + 1) ⟨0, 0, false⟩ := ⟨by rw [hW0]; exact b0.2⟩
  have HS6 : Hid (∀ w', BoxS 37 w.heap.size w' x a nk ck → (fun w' => w'.cell? ⟨w.heap.size, 0, none⟩ = some (.int .i64 x.kind) ∧ w'.cell? ⟨w.heap.size, 1, none⟩ = some (.int .i64 x.lo) ∧ w'.cell? ⟨w.heap.size, 2, none⟩ = some (.int .i64 x.hi) ∧ w'.cell? ⟨w.heap.size, 3, none⟩ = some (.bool x.ext) ∧ w'.cell? ⟨w.heap.size, 4, none⟩ = some (.bool x.opt) ∧ w'.cell? ⟨w.heap.size, 5, none⟩ = some (.slice a nk ck)) w') := fun w' Y => ⟨Y.cells.c0, Y.cells.c1, Y.cells.c2, Y.cells.c3, Y.cells.c4, Y.cells.c5⟩
  have SS := HS6.out _ BS
  obtain ⟨Z0, hZ0⟩ : ∃ Z, Z = W0.alloc (.cells #[.int .i64 0, .int .i64 0, .bool false] 45) := ⟨_, rfl⟩
  have BZ0 : Below W0.heap.size W0 Z0 := by rw [hZ0]; exact (Below.refl _ _).alloc (Nat.le_refl _) _
  have YZ0 : Box3 Z0 (w.heap.size + 1 + 1) ⟨0, 0, false⟩ := by rw [hZ0, ← hS0]; exact box3_new W0 ⟨0, 0, false⟩
  have SSa0 := HS6.out _ (BS.kept BZ0)
  rw [hZ0] at SSa0
  clear b0 hr hg hin hok
  unfold stv
  go_enter Try.func41, Try.ntmps41
  go_upto_region 1 with fail
  rw [← hW0]
  clear hW0
  go_region_held3 (fun w' => w'.cell? ⟨w.heap.size, 0, none⟩ = some (.int .i64 x.kind) ∧ w'.cell? ⟨w.heap.size, 1, none⟩ = some (.int .i64 x.lo) ∧ w'.cell? ⟨w.heap.size, 2, none⟩ = some (.int .i64 x.hi) ∧ w'.cell? ⟨w.heap.size, 3, none⟩ = some (.bool x.ext) ∧ w'.cell? ⟨w.heap.size, 4, none⟩ = some (.bool x.opt) ∧ w'.cell? ⟨w.heap.size, 5, none⟩ = some (.slice a nk ck)) (first | assumption | exact SS | exact SSa0 | exact SS1 | exact SSa1 | exact SS2 | exact SSa2 | exact SS3 | exact SS4 _ | exact SS5 _ (by omega))
    (first
      | (go_at_call 42; first | (rw [← hZ0]; refine (pickSpan_any x a nk ck g n cg L _ (HR.out.kept (hB0.trans (BZ0.mono hB0.size)).drew) (by omega) h1 (HG.out.kept (hB0.trans (BZ0.mono hB0.size)).drew) HI.out).mono ?_; rintro e w1 ⟨rfl, hb_w1⟩; have D1 : Below W0.heap.size W0 w1 := BZ0.trans ((Z0.drew_below hb_w1).mono BZ0.size); have Y1 : Box3 w1 (w.heap.size + 1 + 1) ⟨0, 0, false⟩ := YZ0.kept (Z0.drew_below hb_w1); obtain ⟨p, hp⟩ : ∃ q : Sp, q = pickSp L x.kids := ⟨_, rfl⟩; have Hp : Hid (p = pickSp L x.kids) := hp; rw [← hp]; clear hp; have E1 : Hid (_ ∧ _ ∧ _) := ⟨BS.kept D1, X1.kept D1, hB0.trans (D1.mono hB0.size)⟩; have SS1 := HS6.out _ E1.out.1; obtain ⟨Z1, hZ1⟩ : ∃ Z, Z = w1.alloc (.cells #[.int .i64 0, .int .i64 0, .bool false] 45) := ⟨_, rfl⟩; have BZ1 : Below w1.heap.size w1 Z1 := (by rw [hZ1]; exact (Below.refl _ _).alloc (Nat.le_refl _) _); have YZ1 : Box3 Z1 w1.heap.size ⟨0, 0, false⟩ := (by rw [hZ1]; exact box3_new w1 ⟨0, 0, false⟩); have SSa1 := HS6.out _ (E1.out.1.kept BZ1); rw [hZ1] at SSa1; clear hb_w1; simp only [spv]) | (refine (pickSpan_any x a nk ck g n cg L _ (HR.out.kept hB0.drew) (by omega) h1 (HG.out.kept hB0.drew) HI.out).mono ?_; rintro e w1 ⟨rfl, hb_w1⟩; have D1 : Below W0.heap.size W0 w1 := W0.drew_below hb_w1; obtain ⟨p, hp⟩ : ∃ q : Sp, q = pickSp L x.kids := ⟨_, rfl⟩; have Hp : Hid (p = pickSp L x.kids) := hp; rw [← hp]; clear hp; have E1 : Hid (_ ∧ _ ∧ _) := ⟨BS.kept D1, X1.kept D1, hB0.trans (D1.mono hB0.size)⟩; have SS1 := HS6.out _ E1.out.1; obtain ⟨Z1, hZ1⟩ : ∃ Z, Z = w1.alloc (.cells #[.int .i64 0, .int .i64 0, .bool false] 45) := ⟨_, rfl⟩; have BZ1 : Below w1.heap.size w1 Z1 := (by rw [hZ1]; exact (Below.refl _ _).alloc (Nat.le_refl _) _); have YZ1 : Box3 Z1 w1.heap.size ⟨0, 0, false⟩ := (by rw [hZ1]; exact box3_new w1 ⟨0, 0, false⟩); have SSa1 := HS6.out _ (E1.out.1.kept BZ1); rw [hZ1] at SSa1; clear hb_w1; simp only [spv]))
      | (go_at_call 37; first | (rw [← hZ1]; refine (numberSpan_any nk _ (by omega) (by omega)).mono ?_; rintro e w2 ⟨rfl, hb_w2⟩; have D2 : Below w1.heap.size w1 w2 := BZ1.trans (hb_w2.mono BZ1.size); have Y2 : Box3 w2 w1.heap.size ⟨0, 0, false⟩ := YZ1.kept hb_w2; obtain ⟨t, ht⟩ : ∃ q : Sp, q = numSp nk := ⟨_, rfl⟩; have Ht : Hid (t = numSp nk) := ht; rw [← ht]; clear ht; have E2 : Hid (_ ∧ _ ∧ _) := ⟨E1.out.1.kept D2, E1.out.2.1.kept D2, E1.out.2.2.trans (D2.mono E1.out.2.2.size)⟩; have SS2 := HS6.out _ E2.out.1; obtain ⟨Z2, hZ2⟩ : ∃ Z, Z = w2.alloc (.cells #[.int .i64 0, .int .i64 0, .bool false] 45) := ⟨_, rfl⟩; have BZ2 : Below w2.heap.size w2 Z2 := (by rw [hZ2]; exact (Below.refl _ _).alloc (Nat.le_refl _) _); have YZ2 : Box3 Z2 w2.heap.size ⟨0, 0, false⟩ := (by rw [hZ2]; exact box3_new w2 ⟨0, 0, false⟩); have SSa2 := HS6.out _ (E2.out.1.kept BZ2); rw [hZ2] at SSa2; clear hb_w2; simp only [spv]) | (refine (numberSpan_any nk _ (by omega) (by omega)).mono ?_; rintro e w2 ⟨rfl, hb_w2⟩; have D2 : Below w1.heap.size w1 w2 := hb_w2; (first | (have Y2 := Y1.kept D2) | skip); obtain ⟨t, ht⟩ : ∃ q : Sp, q = numSp nk := ⟨_, rfl⟩; have Ht : Hid (t = numSp nk) := ht; rw [← ht]; clear ht; have E2 : Hid (_ ∧ _ ∧ _) := ⟨E1.out.1.kept D2, E1.out.2.1.kept D2, E1.out.2.2.trans (D2.mono E1.out.2.2.size)⟩; have SS2 := HS6.out _ E2.out.1; obtain ⟨Z2, hZ2⟩ : ∃ Z, Z = w2.alloc (.cells #[.int .i64 0, .int .i64 0, .bool false] 45) := ⟨_, rfl⟩; have BZ2 : Below w2.heap.size w2 Z2 := (by rw [hZ2]; exact (Below.refl _ _).alloc (Nat.le_refl _) _); have YZ2 : Box3 Z2 w2.heap.size ⟨0, 0, false⟩ := (by rw [hZ2]; exact box3_new w2 ⟨0, 0, false⟩); have SSa2 := HS6.out _ (E2.out.1.kept BZ2); rw [hZ2] at SSa2; clear hb_w2; simp only [spv]))
      | (go_at_call 45; first | (rw [← hZ2]; refine (with_any p t _ (by rw [Hp.out]; exact O1.out.mono (by decide)) (by rw [Ht.out]; exact O2.out.mono (by decide))).mono ?_; rintro e w3 ⟨rfl, hb_w3⟩; have D3 : Below w2.heap.size w2 w3 := BZ2.trans (hb_w3.mono BZ2.size); have Y3 : Box3 w3 w2.heap.size ⟨0, 0, false⟩ := YZ2.kept hb_w3; obtain ⟨q, hq⟩ : ∃ q : Sp, q = p.cat t := ⟨_, rfl⟩; have Hq : Hid (q = p.cat t) := hq; rw [← hq]; clear hq; have E3 : Hid (_ ∧ _ ∧ _) := ⟨E2.out.1.kept D3, E2.out.2.1.kept D3, E2.out.2.2.trans (D3.mono E2.out.2.2.size)⟩; have SS3 := HS6.out _ E3.out.1; have hsz1 := D1.size; have hsz2 := D2.size; have SS4 : ∀ o, (fun w' => w'.cell? ⟨w.heap.size, 0, none⟩ = some (.int .i64 x.kind) ∧ w'.cell? ⟨w.heap.size, 1, none⟩ = some (.int .i64 x.lo) ∧ w'.cell? ⟨w.heap.size, 2, none⟩ = some (.int .i64 x.hi) ∧ w'.cell? ⟨w.heap.size, 3, none⟩ = some (.bool x.ext) ∧ w'.cell? ⟨w.heap.size, 4, none⟩ = some (.bool x.opt) ∧ w'.cell? ⟨w.heap.size, 5, none⟩ = some (.slice a nk ck)) (w3.alloc o) := fun o => HS6.out _ (E3.out.1.kept ((Below.refl _ _).alloc (Nat.le_refl _) o)); have SS5 : ∀ g5, w.heap.size ≠ g5 → (fun w' => w'.cell? ⟨w.heap.size, 0, none⟩ = some (.int .i64 x.kind) ∧ w'.cell? ⟨w.heap.size, 1, none⟩ = some (.int .i64 x.lo) ∧ w'.cell? ⟨w.heap.size, 2, none⟩ = some (.int .i64 x.hi) ∧ w'.cell? ⟨w.heap.size, 3, none⟩ = some (.bool x.ext) ∧ w'.cell? ⟨w.heap.size, 4, none⟩ = some (.bool x.opt) ∧ w'.cell? ⟨w.heap.size, 5, none⟩ = some (.slice a nk ck)) (((w3.setCell ⟨g5, 0, none⟩ (.int .i64 q.f)).setCell ⟨g5, 1, none⟩ (.int .i64 q.m)).setCell ⟨g5, 2, none⟩ (.bool q.k)) := fun g5 h5 => HS6.out _ (E3.out.1.same (set3_other w3 g5 w.heap.size q h5)); (first | (obtain ⟨g0, g1, g2⟩ := Y3.hold; have h0 := Y3.fr 0; have h1 := Y3.fr 1; have h2 := Y3.fr 2) | skip); clear hb_w3; simp only [spv]) | (refine (with_any p t _ (by rw [Hp.out]; exact O1.out.mono (by decide)) (by rw [Ht.out]; exact O2.out.mono (by decide))).mono ?_; rintro e w3 ⟨rfl, hb_w3⟩; have D3 : Below w2.heap.size w2 w3 := hb_w3; (first | (have Y3 := Y2.kept D3) | skip); obtain ⟨q, hq⟩ : ∃ q : Sp, q = p.cat t := ⟨_, rfl⟩; have Hq : Hid (q = p.cat t) := hq; rw [← hq]; clear hq; have E3 : Hid (_ ∧ _ ∧ _) := ⟨E2.out.1.kept D3, E2.out.2.1.kept D3, E2.out.2.2.trans (D3.mono E2.out.2.2.size)⟩; have SS3 := HS6.out _ E3.out.1; have hsz1 := D1.size; have hsz2 := D2.size; have SS4 : ∀ o, (fun w' => w'.cell? ⟨w.heap.size, 0, none⟩ = some (.int .i64 x.kind) ∧ w'.cell? ⟨w.heap.size, 1, none⟩ = some (.int .i64 x.lo) ∧ w'.cell? ⟨w.heap.size, 2, none⟩ = some (.int .i64 x.hi) ∧ w'.cell? ⟨w.heap.size, 3, none⟩ = some (.bool x.ext) ∧ w'.cell? ⟨w.heap.size, 4, none⟩ = some (.bool x.opt) ∧ w'.cell? ⟨w.heap.size, 5, none⟩ = some (.slice a nk ck)) (w3.alloc o) := fun o => HS6.out _ (E3.out.1.kept ((Below.refl _ _).alloc (Nat.le_refl _) o)); have SS5 : ∀ g5, w.heap.size ≠ g5 → (fun w' => w'.cell? ⟨w.heap.size, 0, none⟩ = some (.int .i64 x.kind) ∧ w'.cell? ⟨w.heap.size, 1, none⟩ = some (.int .i64 x.lo) ∧ w'.cell? ⟨w.heap.size, 2, none⟩ = some (.int .i64 x.hi) ∧ w'.cell? ⟨w.heap.size, 3, none⟩ = some (.bool x.ext) ∧ w'.cell? ⟨w.heap.size, 4, none⟩ = some (.bool x.opt) ∧ w'.cell? ⟨w.heap.size, 5, none⟩ = some (.slice a nk ck)) (((w3.setCell ⟨g5, 0, none⟩ (.int .i64 q.f)).setCell ⟨g5, 1, none⟩ (.int .i64 q.m)).setCell ⟨g5, 2, none⟩ (.bool q.k)) := fun g5 h5 => HS6.out _ (E3.out.1.same (set3_other w3 g5 w.heap.size q h5)); (first | (obtain ⟨g0, g1, g2⟩ := Y3.hold; have h0 := Y3.fr 0; have h1 := Y3.fr 1; have h2 := Y3.fr 2) | skip); clear hb_w3; simp only [spv])))
  all_goals (
   first
    | (obtain ⟨V1, hV1⟩ : ∃ V1, V1 = ((w3.setCell ⟨(w.heap.size + 1 + 1), 0, none⟩ (.int .i64 q.f)).setCell ⟨(w.heap.size + 1 + 1), 1, none⟩ (.int .i64 q.m)).setCell ⟨(w.heap.size + 1 + 1), 2, none⟩ (.bool q.k) := ⟨_, rfl⟩
       rw [← hV1]
       have HV1 : Hid (_ = _) := hV1
       clear hV1
       have hlt3 : w.heap.size + 1 < (w.heap.size + 1 + 1) := by omega
       have FV : Hid (Box3 V1 (w.heap.size + 1 + 1) q ∧ BoxS 37 w.heap.size V1 x a nk ck ∧ Box3 V1 (w.heap.size + 1) ⟨0, 0, false⟩ ∧ Below w.heap.size w V1) := by
         rw [HV1.out]
         exact ⟨Y3.set3 q, E3.out.1.same (set3_other w3 (w.heap.size + 1 + 1) _ q (by omega)), E3.out.2.1.same (set3_other w3 (w.heap.size + 1 + 1) _ q (by omega)), below_set3 E3.out.2.2 (w.heap.size + 1 + 1) (by omega) q⟩
       have HS4 : Hid (∀ w', Box3 w' (w.heap.size + 1 + 1) q → BoxS 37 w.heap.size w' x a nk ck → (fun w' => w'.cell? ⟨w.heap.size + 1 + 1, 0, none⟩ = some (.int .i64 q.f) ∧ w'.cell? ⟨w.heap.size + 1 + 1, 1, none⟩ = some (.int .i64 q.m) ∧ w'.cell? ⟨w.heap.size + 1 + 1, 2, none⟩ = some (.bool q.k) ∧ w'.cell? ⟨w.heap.size, 3, none⟩ = some (.bool x.ext)) w') := fun w' X Y => ⟨X.c0, X.c1, X.c2, Y.cells.c3⟩
       have TT := HS4.out _ FV.out.1 FV.out.2.1
       have O3 : Hid (q.ok 1000000000000004) := by show Sp.ok _ _; rw [Hq.out, Ht.out, Hp.out]; exact cat_ok O1.out O2.out
       have EQ : Hid (choiceSp L x = (q.orKept x.ext).cat (flagSp x.ext)) := by show _ = _; rw [Hq.out, Ht.out, Hp.out, ← HL.out]; rfl
       go_wp2_with fail
       clear HV1 SS SS1 SS2 SS3 SS4 SS5 SSa0 SSa1 SSa2 hZ0 hZ1 hZ2 BZ0 BZ1 BZ2 YZ0 YZ1 YZ2
       go_region_held3 (fun w' => w'.cell? ⟨w.heap.size + 1 + 1, 0, none⟩ = some (.int .i64 q.f) ∧ w'.cell? ⟨w.heap.size + 1 + 1, 1, none⟩ = some (.int .i64 q.m) ∧ w'.cell? ⟨w.heap.size + 1 + 1, 2, none⟩ = some (.bool q.k) ∧ w'.cell? ⟨w.heap.size, 3, none⟩ = some (.bool x.ext)) (first | assumption | exact TT | exact TT1 | exact TT2 | exact TT3 | exact TT4)
         (first
           | (go_at_call 43; refine (orKept_any q x.ext _ (O3.out.mono (by decide))).mono ?_; rintro e w4 ⟨rfl, hb_w4⟩; obtain ⟨o, ho⟩ : ∃ zz : Sp, zz = q.orKept x.ext := ⟨_, rfl⟩; have Ho : Hid (o = q.orKept x.ext) := ho; rw [← ho]; clear ho; have G1 : Hid (_ ∧ _ ∧ _ ∧ _) := ⟨FV.out.1.kept (V1.drew_below hb_w4), FV.out.2.1.kept (V1.drew_below hb_w4), FV.out.2.2.1.kept (V1.drew_below hb_w4), FV.out.2.2.2.trans ((V1.drew_below hb_w4).mono FV.out.2.2.2.size)⟩; have TT1 := HS4.out _ G1.out.1 G1.out.2.1; clear hb_w4; simp only [spv])
           | (go_at_call 46; refine (flagSpan_any x.ext _).mono ?_; rintro e w5 ⟨rfl, hb_w5⟩; obtain ⟨f, hf⟩ : ∃ zz : Sp, zz = flagSp x.ext := ⟨_, rfl⟩; have Hf : Hid (f = flagSp x.ext) := hf; rw [← hf]; clear hf; have G2 : Hid (_ ∧ _ ∧ _ ∧ _) := ⟨G1.out.1.kept hb_w5, G1.out.2.1.kept hb_w5, G1.out.2.2.1.kept hb_w5, G1.out.2.2.2.trans (hb_w5.mono G1.out.2.2.2.size)⟩; have TT2 := HS4.out _ G2.out.1 G2.out.2.1; clear hb_w5; simp only [spv])
           | (go_at_call 45; refine (with_any o f _ (by rw [Ho.out]; exact (orKept_ok _ _ _ O3.out).mono (by decide)) (by rw [Hf.out]; exact (flagSp_ok _).mono (by decide))).mono ?_; rintro e w6 ⟨rfl, hb_w6⟩; obtain ⟨v, hv⟩ : ∃ zz : Sp, zz = o.cat f := ⟨_, rfl⟩; have Hv : Hid (v = o.cat f) := hv; rw [← hv]; clear hv; have X3 := G2.out.1.kept hb_w6; have Y := G2.out.2.1.kept hb_w6; have X := G2.out.2.2.1.kept hb_w6; have B := G2.out.2.2.2.trans (hb_w6.mono G2.out.2.2.2.size); have f0 := X.fr 0; have f1 := X.fr 1; have f2 := X.fr 2; have z0 := X.c0; have z1 := X.c1; have z2 := X.c2; have F2 : Hid (_ ∧ _) := ⟨X.set3 v, below_set3 B (w.heap.size + 1) (by omega) v⟩; have TT3 := HS4.out _ X3 Y; have TT4 := HS4.out _ (X3.same (set3_other w6 (w.heap.size + 1) _ v (by omega))) (Y.same (set3_other w6 (w.heap.size + 1) w.heap.size v (by omega))); clear X B X3 Y; clear hb_w6; simp only [spv]))
       all_goals (
         go_wp2
         try simp only [Exit.inBlock, Exit.then]
         exact bodyPost_ret (results_sp rfl _ (w.heap.size + 1) rfl _ v F2.out.1) rfl ⟨by rw [EQ.out, Hv.out, Ho.out, Hf.out]; try rfl, F2.out.2⟩))
    | (obtain ⟨V1, hV1⟩ : ∃ V1, V1 = ((w3.setCell ⟨w1.heap.size, 0, none⟩ (.int .i64 q.f)).setCell ⟨w1.heap.size, 1, none⟩ (.int .i64 q.m)).setCell ⟨w1.heap.size, 2, none⟩ (.bool q.k) := ⟨_, rfl⟩
       rw [← hV1]
       have HV1 : Hid (_ = _) := hV1
       clear hV1
       have hlt3 : w.heap.size + 1 < w1.heap.size := by omega
       have FV : Hid (Box3 V1 w1.heap.size q ∧ BoxS 37 w.heap.size V1 x a nk ck ∧ Box3 V1 (w.heap.size + 1) ⟨0, 0, false⟩ ∧ Below w.heap.size w V1) := by
         rw [HV1.out]
         exact ⟨Y3.set3 q, E3.out.1.same (set3_other w3 w1.heap.size _ q (by omega)), E3.out.2.1.same (set3_other w3 w1.heap.size _ q (by omega)), below_set3 E3.out.2.2 w1.heap.size (by omega) q⟩
       have HS4 : Hid (∀ w', Box3 w' w1.heap.size q → BoxS 37 w.heap.size w' x a nk ck → (fun w' => w'.cell? ⟨w1.heap.size, 0, none⟩ = some (.int .i64 q.f) ∧ w'.cell? ⟨w1.heap.size, 1, none⟩ = some (.int .i64 q.m) ∧ w'.cell? ⟨w1.heap.size, 2, none⟩ = some (.bool q.k) ∧ w'.cell? ⟨w.heap.size, 3, none⟩ = some (.bool x.ext)) w') := fun w' X Y => ⟨X.c0, X.c1, X.c2, Y.cells.c3⟩
       have TT := HS4.out _ FV.out.1 FV.out.2.1
       have O3 : Hid (q.ok 1000000000000004) := by show Sp.ok _ _; rw [Hq.out, Ht.out, Hp.out]; exact cat_ok O1.out O2.out
       have EQ : Hid (choiceSp L x = (q.orKept x.ext).cat (flagSp x.ext)) := by show _ = _; rw [Hq.out, Ht.out, Hp.out, ← HL.out]; rfl
       go_wp2_with fail
       clear HV1 SS SS1 SS2 SS3 SS4 SS5 SSa0 SSa1 SSa2 hZ0 hZ1 hZ2 BZ0 BZ1 BZ2 YZ0 YZ1 YZ2
       go_region_held3 (fun w' => w'.cell? ⟨w1.heap.size, 0, none⟩ = some (.int .i64 q.f) ∧ w'.cell? ⟨w1.heap.size, 1, none⟩ = some (.int .i64 q.m) ∧ w'.cell? ⟨w1.heap.size, 2, none⟩ = some (.bool q.k) ∧ w'.cell? ⟨w.heap.size, 3, none⟩ = some (.bool x.ext)) (first | assumption | exact TT | exact TT1 | exact TT2 | exact TT3 | exact TT4)
         (first
           | (go_at_call 43; refine (orKept_any q x.ext _ (O3.out.mono (by decide))).mono ?_; rintro e w4 ⟨rfl, hb_w4⟩; obtain ⟨o, ho⟩ : ∃ zz : Sp, zz = q.orKept x.ext := ⟨_, rfl⟩; have Ho : Hid (o = q.orKept x.ext) := ho; rw [← ho]; clear ho; have G1 : Hid (_ ∧ _ ∧ _ ∧ _) := ⟨FV.out.1.kept (V1.drew_below hb_w4), FV.out.2.1.kept (V1.drew_below hb_w4), FV.out.2.2.1.kept (V1.drew_below hb_w4), FV.out.2.2.2.trans ((V1.drew_below hb_w4).mono FV.out.2.2.2.size)⟩; have TT1 := HS4.out _ G1.out.1 G1.out.2.1; clear hb_w4; simp only [spv])
           | (go_at_call 46; refine (flagSpan_any x.ext _).mono ?_; rintro e w5 ⟨rfl, hb_w5⟩; obtain ⟨f, hf⟩ : ∃ zz : Sp, zz = flagSp x.ext := ⟨_, rfl⟩; have Hf : Hid (f = flagSp x.ext) := hf; rw [← hf]; clear hf; have G2 : Hid (_ ∧ _ ∧ _ ∧ _) := ⟨G1.out.1.kept hb_w5, G1.out.2.1.kept hb_w5, G1.out.2.2.1.kept hb_w5, G1.out.2.2.2.trans (hb_w5.mono G1.out.2.2.2.size)⟩; have TT2 := HS4.out _ G2.out.1 G2.out.2.1; clear hb_w5; simp only [spv])
           | (go_at_call 45; refine (with_any o f _ (by rw [Ho.out]; exact (orKept_ok _ _ _ O3.out).mono (by decide)) (by rw [Hf.out]; exact (flagSp_ok _).mono (by decide))).mono ?_; rintro e w6 ⟨rfl, hb_w6⟩; obtain ⟨v, hv⟩ : ∃ zz : Sp, zz = o.cat f := ⟨_, rfl⟩; have Hv : Hid (v = o.cat f) := hv; rw [← hv]; clear hv; have X3 := G2.out.1.kept hb_w6; have Y := G2.out.2.1.kept hb_w6; have X := G2.out.2.2.1.kept hb_w6; have B := G2.out.2.2.2.trans (hb_w6.mono G2.out.2.2.2.size); have f0 := X.fr 0; have f1 := X.fr 1; have f2 := X.fr 2; have z0 := X.c0; have z1 := X.c1; have z2 := X.c2; have F2 : Hid (_ ∧ _) := ⟨X.set3 v, below_set3 B (w.heap.size + 1) (by omega) v⟩; have TT3 := HS4.out _ X3 Y; have TT4 := HS4.out _ (X3.same (set3_other w6 (w.heap.size + 1) _ v (by omega))) (Y.same (set3_other w6 (w.heap.size + 1) w.heap.size v (by omega))); clear X B X3 Y; clear hb_w6; simp only [spv]))
       all_goals (
         go_wp2
         try simp only [Exit.inBlock, Exit.then]
         exact bodyPost_ret (results_sp rfl _ (w.heap.size + 1) rfl _ v F2.out.1) rfl ⟨by rw [EQ.out, Hv.out, Ho.out, Hf.out]; try rfl, F2.out.2⟩))
    | (obtain ⟨V1, hV1⟩ : ∃ V1, V1 = ((w3.setCell ⟨w2.heap.size, 0, none⟩ (.int .i64 q.f)).setCell ⟨w2.heap.size, 1, none⟩ (.int .i64 q.m)).setCell ⟨w2.heap.size, 2, none⟩ (.bool q.k) := ⟨_, rfl⟩
       rw [← hV1]
       have HV1 : Hid (_ = _) := hV1
       clear hV1
       have hlt3 : w.heap.size + 1 < w2.heap.size := by omega
       have FV : Hid (Box3 V1 w2.heap.size q ∧ BoxS 37 w.heap.size V1 x a nk ck ∧ Box3 V1 (w.heap.size + 1) ⟨0, 0, false⟩ ∧ Below w.heap.size w V1) := by
         rw [HV1.out]
         exact ⟨Y3.set3 q, E3.out.1.same (set3_other w3 w2.heap.size _ q (by omega)), E3.out.2.1.same (set3_other w3 w2.heap.size _ q (by omega)), below_set3 E3.out.2.2 w2.heap.size (by omega) q⟩
       have HS4 : Hid (∀ w', Box3 w' w2.heap.size q → BoxS 37 w.heap.size w' x a nk ck → (fun w' => w'.cell? ⟨w2.heap.size, 0, none⟩ = some (.int .i64 q.f) ∧ w'.cell? ⟨w2.heap.size, 1, none⟩ = some (.int .i64 q.m) ∧ w'.cell? ⟨w2.heap.size, 2, none⟩ = some (.bool q.k) ∧ w'.cell? ⟨w.heap.size, 3, none⟩ = some (.bool x.ext)) w') := fun w' X Y => ⟨X.c0, X.c1, X.c2, Y.cells.c3⟩
       have TT := HS4.out _ FV.out.1 FV.out.2.1
       have O3 : Hid (q.ok 1000000000000004) := by show Sp.ok _ _; rw [Hq.out, Ht.out, Hp.out]; exact cat_ok O1.out O2.out
       have EQ : Hid (choiceSp L x = (q.orKept x.ext).cat (flagSp x.ext)) := by show _ = _; rw [Hq.out, Ht.out, Hp.out, ← HL.out]; rfl
       go_wp2_with fail
       clear HV1 SS SS1 SS2 SS3 SS4 SS5 SSa0 SSa1 SSa2 hZ0 hZ1 hZ2 BZ0 BZ1 BZ2 YZ0 YZ1 YZ2
       go_region_held3 (fun w' => w'.cell? ⟨w2.heap.size, 0, none⟩ = some (.int .i64 q.f) ∧ w'.cell? ⟨w2.heap.size, 1, none⟩ = some (.int .i64 q.m) ∧ w'.cell? ⟨w2.heap.size, 2, none⟩ = some (.bool q.k) ∧ w'.cell? ⟨w.heap.size, 3, none⟩ = some (.bool x.ext)) (first | assumption | exact TT | exact TT1 | exact TT2 | exact TT3 | exact TT4)
         (first
           | (go_at_call 43; refine (orKept_any q x.ext _ (O3.out.mono (by decide))).mono ?_; rintro e w4 ⟨rfl, hb_w4⟩; obtain ⟨o, ho⟩ : ∃ zz : Sp, zz = q.orKept x.ext := ⟨_, rfl⟩; have Ho : Hid (o = q.orKept x.ext) := ho; rw [← ho]; clear ho; have G1 : Hid (_ ∧ _ ∧ _ ∧ _) := ⟨FV.out.1.kept (V1.drew_below hb_w4), FV.out.2.1.kept (V1.drew_below hb_w4), FV.out.2.2.1.kept (V1.drew_below hb_w4), FV.out.2.2.2.trans ((V1.drew_below hb_w4).mono FV.out.2.2.2.size)⟩; have TT1 := HS4.out _ G1.out.1 G1.out.2.1; clear hb_w4; simp only [spv])
           | (go_at_call 46; refine (flagSpan_any x.ext _).mono ?_; rintro e w5 ⟨rfl, hb_w5⟩; obtain ⟨f, hf⟩ : ∃ zz : Sp, zz = flagSp x.ext := ⟨_, rfl⟩; have Hf : Hid (f = flagSp x.ext) := hf; rw [← hf]; clear hf; have G2 : Hid (_ ∧ _ ∧ _ ∧ _) := ⟨G1.out.1.kept hb_w5, G1.out.2.1.kept hb_w5, G1.out.2.2.1.kept hb_w5, G1.out.2.2.2.trans (hb_w5.mono G1.out.2.2.2.size)⟩; have TT2 := HS4.out _ G2.out.1 G2.out.2.1; clear hb_w5; simp only [spv])
           | (go_at_call 45; refine (with_any o f _ (by rw [Ho.out]; exact (orKept_ok _ _ _ O3.out).mono (by decide)) (by rw [Hf.out]; exact (flagSp_ok _).mono (by decide))).mono ?_; rintro e w6 ⟨rfl, hb_w6⟩; obtain ⟨v, hv⟩ : ∃ zz : Sp, zz = o.cat f := ⟨_, rfl⟩; have Hv : Hid (v = o.cat f) := hv; rw [← hv]; clear hv; have X3 := G2.out.1.kept hb_w6; have Y := G2.out.2.1.kept hb_w6; have X := G2.out.2.2.1.kept hb_w6; have B := G2.out.2.2.2.trans (hb_w6.mono G2.out.2.2.2.size); have f0 := X.fr 0; have f1 := X.fr 1; have f2 := X.fr 2; have z0 := X.c0; have z1 := X.c1; have z2 := X.c2; have F2 : Hid (_ ∧ _) := ⟨X.set3 v, below_set3 B (w.heap.size + 1) (by omega) v⟩; have TT3 := HS4.out _ X3 Y; have TT4 := HS4.out _ (X3.same (set3_other w6 (w.heap.size + 1) _ v (by omega))) (Y.same (set3_other w6 (w.heap.size + 1) w.heap.size v (by omega))); clear X B X3 Y; clear hb_w6; simp only [spv]))
       all_goals (
         go_wp2
         try simp only [Exit.inBlock, Exit.then]
         exact bodyPost_ret (results_sp rfl _ (w.heap.size + 1) rfl _ v F2.out.1) rfl ⟨by rw [EQ.out, Hv.out, Ho.out, Hf.out]; try rfl, F2.out.2⟩))
    | (obtain ⟨V1, hV1⟩ : ∃ V1, V1 = w3.alloc (.cells #[.int .i64 q.f, .int .i64 q.m, .bool q.k] 45) := ⟨_, rfl⟩
       rw [← hV1]
       have HV1 : Hid (_ = _) := hV1
       clear hV1
       have hbv : Below w3.heap.size w3 V1 := by rw [HV1.out]; exact (Below.refl _ _).alloc (Nat.le_refl _) _
       have hlt3 : w.heap.size + 1 < w3.heap.size := E3.out.2.1.lt
       have FV : Hid (Box3 V1 w3.heap.size q ∧ BoxS 37 w.heap.size V1 x a nk ck ∧ Box3 V1 (w.heap.size + 1) ⟨0, 0, false⟩ ∧ Below w.heap.size w V1) := ⟨(by rw [HV1.out]; exact box3_new w3 q), E3.out.1.kept hbv, E3.out.2.1.kept hbv, E3.out.2.2.trans (hbv.mono E3.out.2.2.size)⟩
       have HS4 : Hid (∀ w', Box3 w' w3.heap.size q → BoxS 37 w.heap.size w' x a nk ck → (fun w' => w'.cell? ⟨w3.heap.size, 0, none⟩ = some (.int .i64 q.f) ∧ w'.cell? ⟨w3.heap.size, 1, none⟩ = some (.int .i64 q.m) ∧ w'.cell? ⟨w3.heap.size, 2, none⟩ = some (.bool q.k) ∧ w'.cell? ⟨w.heap.size, 3, none⟩ = some (.bool x.ext)) w') := fun w' X Y => ⟨X.c0, X.c1, X.c2, Y.cells.c3⟩
       have TT := HS4.out _ FV.out.1 FV.out.2.1
       have O3 : Hid (q.ok 1000000000000004) := by show Sp.ok _ _; rw [Hq.out, Ht.out, Hp.out]; exact cat_ok O1.out O2.out
       have EQ : Hid (choiceSp L x = (q.orKept x.ext).cat (flagSp x.ext)) := by show _ = _; rw [Hq.out, Ht.out, Hp.out, ← HL.out]; rfl
       go_wp2_with fail
       clear HV1 SS SS1 SS2 SS3 SS4 SS5 SSa0 SSa1 SSa2 hZ0 hZ1 hZ2 BZ0 BZ1 BZ2 YZ0 YZ1 YZ2
       go_region_held3 (fun w' => w'.cell? ⟨w3.heap.size, 0, none⟩ = some (.int .i64 q.f) ∧ w'.cell? ⟨w3.heap.size, 1, none⟩ = some (.int .i64 q.m) ∧ w'.cell? ⟨w3.heap.size, 2, none⟩ = some (.bool q.k) ∧ w'.cell? ⟨w.heap.size, 3, none⟩ = some (.bool x.ext)) (first | assumption | exact TT | exact TT1 | exact TT2 | exact TT3 | exact TT4)
         (first
           | (go_at_call 43; refine (orKept_any q x.ext _ (O3.out.mono (by decide))).mono ?_; rintro e w4 ⟨rfl, hb_w4⟩; obtain ⟨o, ho⟩ : ∃ zz : Sp, zz = q.orKept x.ext := ⟨_, rfl⟩; have Ho : Hid (o = q.orKept x.ext) := ho; rw [← ho]; clear ho; have G1 : Hid (_ ∧ _ ∧ _ ∧ _) := ⟨FV.out.1.kept (V1.drew_below hb_w4), FV.out.2.1.kept (V1.drew_below hb_w4), FV.out.2.2.1.kept (V1.drew_below hb_w4), FV.out.2.2.2.trans ((V1.drew_below hb_w4).mono FV.out.2.2.2.size)⟩; have TT1 := HS4.out _ G1.out.1 G1.out.2.1; clear hb_w4; simp only [spv])
           | (go_at_call 46; refine (flagSpan_any x.ext _).mono ?_; rintro e w5 ⟨rfl, hb_w5⟩; obtain ⟨f, hf⟩ : ∃ zz : Sp, zz = flagSp x.ext := ⟨_, rfl⟩; have Hf : Hid (f = flagSp x.ext) := hf; rw [← hf]; clear hf; have G2 : Hid (_ ∧ _ ∧ _ ∧ _) := ⟨G1.out.1.kept hb_w5, G1.out.2.1.kept hb_w5, G1.out.2.2.1.kept hb_w5, G1.out.2.2.2.trans (hb_w5.mono G1.out.2.2.2.size)⟩; have TT2 := HS4.out _ G2.out.1 G2.out.2.1; clear hb_w5; simp only [spv])
           | (go_at_call 45; refine (with_any o f _ (by rw [Ho.out]; exact (orKept_ok _ _ _ O3.out).mono (by decide)) (by rw [Hf.out]; exact (flagSp_ok _).mono (by decide))).mono ?_; rintro e w6 ⟨rfl, hb_w6⟩; obtain ⟨v, hv⟩ : ∃ zz : Sp, zz = o.cat f := ⟨_, rfl⟩; have Hv : Hid (v = o.cat f) := hv; rw [← hv]; clear hv; have X3 := G2.out.1.kept hb_w6; have Y := G2.out.2.1.kept hb_w6; have X := G2.out.2.2.1.kept hb_w6; have B := G2.out.2.2.2.trans (hb_w6.mono G2.out.2.2.2.size); have f0 := X.fr 0; have f1 := X.fr 1; have f2 := X.fr 2; have z0 := X.c0; have z1 := X.c1; have z2 := X.c2; have F2 : Hid (_ ∧ _) := ⟨X.set3 v, below_set3 B (w.heap.size + 1) (by omega) v⟩; have TT3 := HS4.out _ X3 Y; have TT4 := HS4.out _ (X3.same (set3_other w6 (w.heap.size + 1) _ v (by omega))) (Y.same (set3_other w6 (w.heap.size + 1) w.heap.size v (by omega))); clear X B X3 Y; clear hb_w6; simp only [spv]))
       all_goals (
         go_wp2
         try simp only [Exit.inBlock, Exit.then]
         exact bodyPost_ret (results_sp rfl _ (w.heap.size + 1) rfl _ v F2.out.1) rfl ⟨by rw [EQ.out, Hv.out, Ho.out, Hf.out]; try rfl, F2.out.2⟩)))

end Go.Proofs.Ytglmaoigjnoklaa
