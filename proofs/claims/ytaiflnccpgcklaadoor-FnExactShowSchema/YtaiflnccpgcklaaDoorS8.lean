import Derived.Test.YtaiflnccpgcklaaDoorS5
namespace Go.Proofs.YtaiflnccpgcklaaDoor
open Go.RowKit

/-- The kid at place i of the type t. -/
def kidP (xs : List ST) (t i : Nat) : Prop :=
  (t : Int) < (xs.getD t default).kids.getD i 0 ∧ (xs.getD t default).kids.getD i 0 < xs.length ∧
  ((xs.getD t default).kind ≠ 6 → (xs.getD ((xs.getD t default).kids.getD i 0).toNat default).opt = false ∧ (xs.getD ((xs.getD t default).kids.getD i 0).toNat default).kind ≠ 9) ∧
  ((xs.getD ((xs.getD t default).kids.getD i 0).toNat default).kind = 9 → aheadP xs (xs.getD t default).kids i (xs.getD ((xs.getD t default).kids.getD i 0).toNat default).lo)
def typP (xs : List ST) (t : Nat) : Prop := (xs.getD t default).kids.length ≤ 12 ∧ (∀ i, i < (xs.getD t default).kids.length → kidP xs t i) ∧ fieldsP (xs.getD t default)

set_option maxRecDepth 10000 in
set_option maxHeartbeats 20000000 in
theorem l3TypeOk_any (a : Option Addr) (n c t : Nat) (xs : List ST) (w : World) (h : Sts w a n xs) (_h40 : n ≤ 40) (ht : t < n) :
    Calls Tryd.prog 19 #[.slice a n c, .int .i64 t] w fun e w' => Tells (typP xs t) w e w' := by
  have HS : Hid (Sts w a n xs) := h
  have HL : Hid (xs.length = n) := h.len
  clear h
  obtain ⟨b, off, rfl, hlb, ak, nk, ck, hcs, hr, hnk⟩ := HS.out.get t ht
  obtain ⟨x, hx⟩ : ∃ x, x = xs.getD t default := ⟨_, rfl⟩
  rw [← hx] at hcs hr
  have HX : Hid (x = xs.getD t default) := hx
  have HKL0 : Hid (x.kids.length = nk) := hr.len
  obtain ⟨c0, c1, c2, c3, c4, c5⟩ := hcs
  have t2 : (t : Int) < (n : Int) := by omega
  have hbl : Below w.heap.size w (w.alloc (.cells #[.int .i64 x.kind, .int .i64 x.lo, .int .i64 x.hi, .bool x.ext, .bool x.opt, .slice ak nk ck] 35)) := (Below.refl _ _).alloc (Nat.le_refl _) _
  have BX0 : Hid (_) := boxS_new 35 w x ak nk ck
  have HR : Hid (Row64 w ak nk x.kids) := hr
  clear hx hr
  by_cases hk12 : nk ≤ 12
  · have z12 : ¬ (nk : Int) > 12 := by omega
    go_enter Tryd.func19, Tryd.ntmps19
    go_wp2
    go_loopw [7] (fun ii wr => ∃ i : Nat, i ≤ nk ∧ ii = .int .i64 i ∧ BoxS 35 w.heap.size wr x ak nk ck ∧ Hid (∀ i', i' < i → kidP xs t i') ∧ Below w.heap.size w wr) (fun ii _ => nk - (intOf ii).toNat)
    case atStart => exact ⟨0, Nat.zero_le _, rfl, BX0.out, fun i' hi => absurd hi (Nat.not_lt_zero _), hbl⟩
    case round =>
      obtain ⟨i, hi, rfl, hbx, HK, hbq⟩ := hrel
      have BXq : Hid (_) := hbx
      obtain ⟨d0, d1, d2, d3, d4, d5⟩ := hbx.cells
      clear c0 c1 c2 c3 c4 c5 hbx
      by_cases hin : i < nk
      · obtain ⟨b2, off2, rfl, hl2, hc2⟩ := HR.out.get i hin
        have hcr := (hbq.cell (p := ⟨b2, off2 + i, none⟩) hl2).trans hc2
        have hil : i < (xs.getD t default).kids.length := by rw [← HX.out, HKL0.out]; exact hin
        have i1 : (i : Int) < (nk : Int) := by omega
        have hs := hbq.size
        have hslt := BXq.out.lt
        obtain ⟨pp, hpp⟩ : ∃ pp, pp = x.kids.getD i 0 := ⟨_, rfl⟩
        rw [← hpp] at hcr
        have HPP : Hid (pp = x.kids.getD i 0) := hpp
        clear hpp hc2
        by_cases hp1 : pp ≤ (t : Int)
        · have HN : Hid (¬ typP xs t) := fun hP => by have hk := (hP.2.1 i hil).1; rw [← HX.out, ← HPP.out] at hk; omega
          go_wp2
          go_ret
          refine ⟨false, rfl, ?_, hbq⟩
          show _ ↔ _
          simp only [Bool.false_eq_true, false_iff]
          exact HN.out
        · by_cases hp2 : pp ≥ (n : Int)
          · have HN : Hid (¬ typP xs t) := fun hP => by have hk := (hP.2.1 i hil).2.1; rw [← HX.out, ← HPP.out, HL.out] at hk; omega
            go_wp2
            go_ret
            refine ⟨false, rfl, ?_, hbq⟩
            show _ ↔ _
            simp only [Bool.false_eq_true, false_iff]
            exact HN.out
          · obtain ⟨p, rfl⟩ : ∃ p : Nat, pp = (p : Int) := ⟨pp.toNat, by omega⟩
            have hpn : p < n := by omega
            have p4 : (p : Int) < (n : Int) := by omega
            obtain ⟨b3, off3, he3, hl3, ak3, nk3, ck3, hcs3, _, _⟩ := HS.out.get p hpn
            simp at he3
            obtain ⟨rfl, rfl⟩ := he3
            obtain ⟨y, hy⟩ : ∃ y, y = xs.getD p default := ⟨_, rfl⟩
            rw [← hy] at hcs3
            have HY : Hid (y = xs.getD p default) := hy
            obtain ⟨e0, e1, e2, e3, e4, e5⟩ := hcs3.of (w' := wr) (fun j => hbq.cell (p := ⟨b, j, none⟩) hl3)
            have hBA : ∀ o, Below w.heap.size w (wr.alloc o) := fun o => hbq.alloc hs o
            have BXA : ∀ o, BoxS 35 w.heap.size (wr.alloc o) x (some ⟨b2, off2, none⟩) nk ck := fun o => BXq.out.kept ((Below.refl _ _).alloc (Nat.le_refl _) o)
            have HKP : Hid (kidP xs t i ↔ ((x.kind ≠ 6 → y.opt = false ∧ y.kind ≠ 9) ∧ (y.kind = 9 → aheadP xs x.kids i y.lo))) := by
              show _ ↔ _
              unfold kidP
              rw [← HX.out, ← HPP.out, Int.toNat_natCast, ← hy, HL.out]
              exact ⟨fun h => h.2.2, fun h => ⟨by omega, by omega, h⟩⟩
            have HNO : Hid (¬ ((x.kind ≠ 6 → y.opt = false ∧ y.kind ≠ 9) ∧ (y.kind = 9 → aheadP xs x.kids i y.lo)) → ¬ typP xs t) := fun h hP => h (HKP.out.mp (hP.2.1 i hil))
            obtain ⟨yo, hyo⟩ : ∃ yo, yo = y.opt := ⟨_, rfl⟩
            rw [← hyo] at e4
            have HYO : Hid (yo = y.opt) := hyo
            clear hcs3 hy hyo
            by_cases h6 : x.kind = 6
            · have z6 : (x.kind != 6) = false := by simp [h6]
              have H6 : Hid (x.kind = 6) := h6
              clear h6
              by_cases h9 : y.kind = 9
              · have z9 : (y.kind == 9) = true := by simp [h9]
                have H9 : Hid (y.kind = 9) := h9
                clear h9
                by_cases hl0 : y.lo < 0
                · skip
                  have HN : Hid (¬ typP xs t) := HNO.out (fun h => by have := (h.2 H9.out).1; omega)
                  clear HNO HKP
                  go_wp2
                  go_ret
                  refine ⟨false, rfl, ?_, hBA _⟩
                  show _ ↔ _
                  simp only [Bool.false_eq_true, false_iff]
                  exact HN.out
                · by_cases hl1 : y.lo ≥ (i : Int)
                  · skip
                    have HN : Hid (¬ typP xs t) := HNO.out (fun h => by have := (h.2 H9.out).2.1; omega)
                    clear HNO HKP
                    go_wp2
                    go_ret
                    refine ⟨false, rfl, ?_, hBA _⟩
                    show _ ↔ _
                    simp only [Bool.false_eq_true, false_iff]
                    exact HN.out
                  · obtain ⟨m, hm⟩ : ∃ m : Nat, y.lo = (m : Int) := ⟨y.lo.toNat, by omega⟩
                    have hmi : m < i := by omega
                    have m1 : (m : Int) < (nk : Int) := by omega
                    have m2 : (m : Int) < (i : Int) := by omega
                    have m3 : (0 : Int) ≤ (m : Int) := by omega
                    have hb2r : b2 < wr.heap.size := by omega
                    have hbr2 : b < wr.heap.size := by omega
                    obtain ⟨b4, off4, he4, hl4, hc4⟩ := HR.out.get m (by omega)
                    simp at he4
                    obtain ⟨rfl, rfl⟩ := he4
                    have hkm := HK.out m hmi
                    unfold kidP at hkm
                    rw [← HX.out, HL.out] at hkm
                    obtain ⟨q, hq⟩ : ∃ q : Nat, (q : Int) = x.kids.getD m 0 := ⟨(x.kids.getD m 0).toNat, by omega⟩
                    rw [← hq] at hc4
                    have hqn : q < n := by omega
                    have q4 : (q : Int) < (n : Int) := by omega
                    have hcq := (hbq.cell (p := ⟨b2, off2 + m, none⟩) hl4).trans hc4
                    obtain ⟨b5, off5, he5, hl5, ak5, nk5, ck5, hcs5, _, _⟩ := HS.out.get q hqn
                    simp at he5
                    obtain ⟨rfl, rfl⟩ := he5
                    obtain ⟨f, hf⟩ : ∃ f, f = xs.getD q default := ⟨_, rfl⟩
                    rw [← hf] at hcs5
                    obtain ⟨g0, g1, g2, g3, g4, g5⟩ := hcs5.of (w' := wr) (fun j => hbq.cell (p := ⟨b, j, none⟩) hl5)
                    have HAH : Hid (aheadP xs x.kids i y.lo ↔ (f.kind = 2 ∧ f.opt = false)) := by
                      show _ ↔ _
                      unfold aheadP
                      rw [hm, Int.toNat_natCast, ← hq, Int.toNat_natCast, ← hf]
                      exact ⟨fun h => h.2.2, fun h => ⟨by omega, by omega, h⟩⟩
                    rw [hm] at e1
                    have hBA2 : ∀ o o', Below w.heap.size w ((wr.alloc o).alloc o') := fun o o' => (hBA o).alloc (hBA o).size o'
                    have BXA2 : ∀ o o', BoxS 35 w.heap.size ((wr.alloc o).alloc o') x (some ⟨b2, off2, none⟩) nk ck := fun o o' => (BXA o).kept ((Below.refl _ _).alloc (Nat.le_refl _) o')
                    obtain ⟨fo, hfo⟩ : ∃ fo, fo = f.opt := ⟨_, rfl⟩
                    rw [← hfo] at g4
                    have HFO : Hid (fo = f.opt) := hfo
                    have HM : Hid (y.lo = (m : Int)) := hm
                    clear hkm hq hc4 hcs5 hf hfo hl0 hl1 hm
                    by_cases hf2 : f.kind = 2
                    · have zf : (f.kind != 2) = false := by simp [hf2]
                      have HF2 : Hid (f.kind = 2) := hf2
                      clear hf2
                      cases fo with
                      | true =>
                        have HN : Hid (¬ typP xs t) := HNO.out (fun h => by have := (HAH.out.mp (h.2 H9.out)).2; rw [← HFO.out] at this; cases this)
                        clear HNO HKP
                        go_wp2
                        go_ret
                        refine ⟨false, rfl, ?_, hBA2 _ _⟩
                        show _ ↔ _
                        simp only [Bool.false_eq_true, false_iff]
                        exact HN.out
                      | false =>
                        have HOK : Hid (kidP xs t i) := HKP.out.mpr (by exact ⟨fun h => absurd H6.out h, fun _ => HAH.out.mpr ⟨HF2.out, HFO.out.symm⟩⟩)
                        clear HNO HKP
                        go_wp2
                        go_roundw
                        case rel =>
                          refine ⟨i + 1, by omega, by go_num, BXA2 _ _, fun i' hi' => ?_, hBA2 _ _⟩
                          by_cases hii : i' = i
                          · subst hii; exact HOK.out
                          · exact HK.out i' (by omega)
                        case measure => simp [intOf]; omega
                    · have zf : (f.kind != 2) = true := by simp [hf2]
                      have HF2 : Hid (¬ f.kind = 2) := hf2
                      clear hf2
                      have HN : Hid (¬ typP xs t) := HNO.out (fun h => by exact HF2.out (HAH.out.mp (h.2 H9.out)).1)
                      clear HNO HKP
                      go_wp2
                      go_ret
                      refine ⟨false, rfl, ?_, hBA2 _ _⟩
                      show _ ↔ _
                      simp only [Bool.false_eq_true, false_iff]
                      exact HN.out
              · have z9 : (y.kind == 9) = false := by simp [h9]
                have H9 : Hid (¬ y.kind = 9) := h9
                clear h9
                have HOK : Hid (kidP xs t i) := HKP.out.mpr (by exact ⟨fun h => absurd H6.out h, fun h => absurd h H9.out⟩)
                clear HNO HKP
                go_wp2
                go_roundw
                case rel =>
                  refine ⟨i + 1, by omega, by go_num, BXA _, fun i' hi' => ?_, hBA _⟩
                  by_cases hii : i' = i
                  · subst hii; exact HOK.out
                  · exact HK.out i' (by omega)
                case measure => simp [intOf]; omega
            · have z6 : (x.kind != 6) = true := by simp [h6]
              have H6 : Hid (x.kind ≠ 6) := h6
              clear h6
              cases yo with
              | true =>
                have HN : Hid (¬ typP xs t) := HNO.out (fun h => by have := (h.1 H6.out).1; rw [← HYO.out] at this; cases this)
                clear HNO HKP
                go_wp2
                go_ret
                refine ⟨false, rfl, ?_, hBA _⟩
                show _ ↔ _
                simp only [Bool.false_eq_true, false_iff]
                exact HN.out
              | false =>
                by_cases h9 : y.kind = 9
                · have z9 : (y.kind == 9) = true := by simp [h9]
                  have H9 : Hid (y.kind = 9) := h9
                  clear h9
                  have HN : Hid (¬ typP xs t) := HNO.out (fun h => by exact (h.1 H6.out).2 H9.out)
                  clear HNO HKP
                  go_wp2
                  go_ret
                  refine ⟨false, rfl, ?_, hBA _⟩
                  show _ ↔ _
                  simp only [Bool.false_eq_true, false_iff]
                  exact HN.out
                · have z9 : (y.kind == 9) = false := by simp [h9]
                  have H9 : Hid (¬ y.kind = 9) := h9
                  clear h9
                  have HOK : Hid (kidP xs t i) := HKP.out.mpr (by exact ⟨fun _ => ⟨HYO.out.symm, H9.out⟩, fun h => absurd h H9.out⟩)
                  clear HNO HKP
                  go_wp2
                  go_roundw
                  case rel =>
                    refine ⟨i + 1, by omega, by go_num, BXA _, fun i' hi' => ?_, hBA _⟩
                    by_cases hii : i' = i
                    · subst hii; exact HOK.out
                    · exact HK.out i' (by omega)
                  case measure => simp [intOf]; omega
      · obtain rfl : nk = i := by omega
        obtain ⟨kd, lo, hi, ex, op, ks⟩ := x
        have HKL : Hid (ks.length = nk) := HKL0.out
        have HT : Hid (typP xs t ↔ fieldsP ⟨kd, lo, hi, ex, op, ks⟩) := by
          show _ ↔ _
          unfold typP
          rw [← HX.out]
          exact ⟨fun h => h.2.2, fun h => ⟨by show ks.length ≤ 12; rw [HKL.out]; exact hk12, fun i' hi' => HK.out i' (by have : i' < ks.length := hi'; rw [HKL.out] at this; exact this), h⟩⟩
        dsimp only at d0 d1 d2 d3 d4 d5
        clear HX HKL0 BX0 HR hbl HK
        have hkd : kd = 1 ∨ kd = 2 ∨ kd = 3 ∨ kd = 4 ∨ kd = 5 ∨ kd = 6 ∨ kd = 7 ∨ kd = 8 ∨ kd = 9 ∨ (kd < 1 ∨ 9 < kd) := by omega
        rcases hkd with rfl | rfl | rfl | rfl | rfl | rfl | rfl | rfl | rfl | hkd
        · skip
          by_cases hlo : lo = 0
          · subst hlo
            by_cases hhi : hi = 0
            · subst hhi
              cases ex <;> go_wp2
              all_goals go_ret
              all_goals refine ⟨_, rfl, ?_, hbq⟩
              all_goals show _ ↔ _
              all_goals rw [HT.out]
              all_goals unfold fieldsP
              all_goals rw [HKL.out]
              all_goals first | (simp; done) | (simp; omega) | (simp_all; done) | (simp_all; omega)
            · have z : (hi == 0) = false := by simp [hhi]
              cases ex <;> go_wp2
              all_goals go_ret
              all_goals refine ⟨_, rfl, ?_, hbq⟩
              all_goals show _ ↔ _
              all_goals rw [HT.out]
              all_goals unfold fieldsP
              all_goals rw [HKL.out]
              all_goals first | (simp; done) | (simp; omega) | (simp_all; done) | (simp_all; omega)
          · have z : (lo == 0) = false := by simp [hlo]
            cases ex <;> go_wp2
            all_goals go_ret
            all_goals refine ⟨_, rfl, ?_, hbq⟩
            all_goals show _ ↔ _
            all_goals rw [HT.out]
            all_goals unfold fieldsP
            all_goals rw [HKL.out]
            all_goals first | (simp; done) | (simp; omega) | (simp_all; done) | (simp_all; omega)
        · skip
          by_cases hlo : lo = 0
          · subst hlo
            by_cases hhi : hi = 0
            · subst hhi
              go_wp2_with fail
              refine (l3Span_any ⟨2, 0, 0, ex, op, ks⟩ ak nk ck (-1000000000000000) 1000000000000000 _).mono ?_
              rintro e w1 ⟨rfl, hb1⟩
              obtain ⟨bv, hbv⟩ : ∃ bv, bv = decide (bnd ⟨2, 0, 0, ex, op, ks⟩ (-1000000000000000) 1000000000000000) := ⟨_, rfl⟩
              rw [← hbv]
              have HV : Hid (bv = decide (bnd ⟨2, 0, 0, ex, op, ks⟩ (-1000000000000000) 1000000000000000)) := hbv
              have hB1 : Below w.heap.size w w1 := hbq.trans (hb1.mono hbq.size)
              have e3 := (BXq.out.kept hb1).cells.c3
              clear hbv hb1
              cases bv <;> cases ex <;> go_wp2
              all_goals go_ret
              all_goals refine ⟨_, rfl, ?_, hB1⟩
              all_goals show _ ↔ _
              all_goals rw [HT.out]
              all_goals unfold fieldsP
              all_goals rw [HKL.out]
              all_goals first | (have hb := of_decide_eq_true HV.out.symm; first | (simp [hb]; done) | (simp [hb]; omega)) | (have hb := of_decide_eq_false HV.out.symm; first | (simp [hb]; done) | (simp [hb]; omega))
            · have z : (hi == 0) = false := by simp [hhi]
              go_wp2_with fail
              refine (l3Span_any ⟨2, 0, hi, ex, op, ks⟩ ak nk ck (-1000000000000000) 1000000000000000 _).mono ?_
              rintro e w1 ⟨rfl, hb1⟩
              obtain ⟨bv, hbv⟩ : ∃ bv, bv = decide (bnd ⟨2, 0, hi, ex, op, ks⟩ (-1000000000000000) 1000000000000000) := ⟨_, rfl⟩
              rw [← hbv]
              have HV : Hid (bv = decide (bnd ⟨2, 0, hi, ex, op, ks⟩ (-1000000000000000) 1000000000000000)) := hbv
              have hB1 : Below w.heap.size w w1 := hbq.trans (hb1.mono hbq.size)
              have e3 := (BXq.out.kept hb1).cells.c3
              clear hbv hb1
              cases bv <;> cases ex <;> go_wp2
              all_goals go_ret
              all_goals refine ⟨_, rfl, ?_, hB1⟩
              all_goals show _ ↔ _
              all_goals rw [HT.out]
              all_goals unfold fieldsP
              all_goals rw [HKL.out]
              all_goals first | (have hb := of_decide_eq_true HV.out.symm; first | (simp [hb]; done) | (simp [hb]; omega)) | (have hb := of_decide_eq_false HV.out.symm; first | (simp [hb]; done) | (simp [hb]; omega))
          · have z : (lo == 0) = false := by simp [hlo]
            go_wp2_with fail
            refine (l3Span_any ⟨2, lo, hi, ex, op, ks⟩ ak nk ck (-1000000000000000) 1000000000000000 _).mono ?_
            rintro e w1 ⟨rfl, hb1⟩
            obtain ⟨bv, hbv⟩ : ∃ bv, bv = decide (bnd ⟨2, lo, hi, ex, op, ks⟩ (-1000000000000000) 1000000000000000) := ⟨_, rfl⟩
            rw [← hbv]
            have HV : Hid (bv = decide (bnd ⟨2, lo, hi, ex, op, ks⟩ (-1000000000000000) 1000000000000000)) := hbv
            have hB1 : Below w.heap.size w w1 := hbq.trans (hb1.mono hbq.size)
            have e3 := (BXq.out.kept hb1).cells.c3
            clear hbv hb1
            cases bv <;> cases ex <;> go_wp2
            all_goals go_ret
            all_goals refine ⟨_, rfl, ?_, hB1⟩
            all_goals show _ ↔ _
            all_goals rw [HT.out]
            all_goals unfold fieldsP
            all_goals rw [HKL.out]
            all_goals first | (have hb := of_decide_eq_true HV.out.symm; first | (simp [hb]; done) | (simp [hb]; omega)) | (have hb := of_decide_eq_false HV.out.symm; first | (simp [hb]; done) | (simp [hb]; omega))
        · skip
          by_cases hlo : lo = 0
          · subst hlo
            by_cases hhi : hi = 0
            · subst hhi
              go_wp2_with fail
              refine (l3Span_any ⟨3, 0, 0, ex, op, ks⟩ ak nk ck 0 1000 _).mono ?_
              rintro e w1 ⟨rfl, hb1⟩
              obtain ⟨bv, hbv⟩ : ∃ bv, bv = decide (bnd ⟨3, 0, 0, ex, op, ks⟩ 0 1000) := ⟨_, rfl⟩
              rw [← hbv]
              have HV : Hid (bv = decide (bnd ⟨3, 0, 0, ex, op, ks⟩ 0 1000)) := hbv
              have hB1 : Below w.heap.size w w1 := hbq.trans (hb1.mono hbq.size)
              have e3 := (BXq.out.kept hb1).cells.c3
              clear hbv hb1
              cases bv <;> cases ex <;> go_wp2
              all_goals go_ret
              all_goals refine ⟨_, rfl, ?_, hB1⟩
              all_goals show _ ↔ _
              all_goals rw [HT.out]
              all_goals unfold fieldsP
              all_goals rw [HKL.out]
              all_goals first | (have hb := of_decide_eq_true HV.out.symm; first | (simp [hb]; done) | (simp [hb]; omega)) | (have hb := of_decide_eq_false HV.out.symm; first | (simp [hb]; done) | (simp [hb]; omega))
            · have z : (hi == 0) = false := by simp [hhi]
              go_wp2_with fail
              refine (l3Span_any ⟨3, 0, hi, ex, op, ks⟩ ak nk ck 0 1000 _).mono ?_
              rintro e w1 ⟨rfl, hb1⟩
              obtain ⟨bv, hbv⟩ : ∃ bv, bv = decide (bnd ⟨3, 0, hi, ex, op, ks⟩ 0 1000) := ⟨_, rfl⟩
              rw [← hbv]
              have HV : Hid (bv = decide (bnd ⟨3, 0, hi, ex, op, ks⟩ 0 1000)) := hbv
              have hB1 : Below w.heap.size w w1 := hbq.trans (hb1.mono hbq.size)
              have e3 := (BXq.out.kept hb1).cells.c3
              clear hbv hb1
              cases bv <;> cases ex <;> go_wp2
              all_goals go_ret
              all_goals refine ⟨_, rfl, ?_, hB1⟩
              all_goals show _ ↔ _
              all_goals rw [HT.out]
              all_goals unfold fieldsP
              all_goals rw [HKL.out]
              all_goals first | (have hb := of_decide_eq_true HV.out.symm; first | (simp [hb]; done) | (simp [hb]; omega)) | (have hb := of_decide_eq_false HV.out.symm; first | (simp [hb]; done) | (simp [hb]; omega))
          · have z : (lo == 0) = false := by simp [hlo]
            go_wp2_with fail
            refine (l3Span_any ⟨3, lo, hi, ex, op, ks⟩ ak nk ck 0 1000 _).mono ?_
            rintro e w1 ⟨rfl, hb1⟩
            obtain ⟨bv, hbv⟩ : ∃ bv, bv = decide (bnd ⟨3, lo, hi, ex, op, ks⟩ 0 1000) := ⟨_, rfl⟩
            rw [← hbv]
            have HV : Hid (bv = decide (bnd ⟨3, lo, hi, ex, op, ks⟩ 0 1000)) := hbv
            have hB1 : Below w.heap.size w w1 := hbq.trans (hb1.mono hbq.size)
            have e3 := (BXq.out.kept hb1).cells.c3
            clear hbv hb1
            cases bv <;> cases ex <;> go_wp2
            all_goals go_ret
            all_goals refine ⟨_, rfl, ?_, hB1⟩
            all_goals show _ ↔ _
            all_goals rw [HT.out]
            all_goals unfold fieldsP
            all_goals rw [HKL.out]
            all_goals first | (have hb := of_decide_eq_true HV.out.symm; first | (simp [hb]; done) | (simp [hb]; omega)) | (have hb := of_decide_eq_false HV.out.symm; first | (simp [hb]; done) | (simp [hb]; omega))
        · skip
          by_cases hlo : lo = 0
          · subst hlo
            by_cases hhi : hi = 0
            · subst hhi
              go_wp2_with fail
              refine (l3Span_any ⟨4, 0, 0, ex, op, ks⟩ ak nk ck 0 1000 _).mono ?_
              rintro e w1 ⟨rfl, hb1⟩
              obtain ⟨bv, hbv⟩ : ∃ bv, bv = decide (bnd ⟨4, 0, 0, ex, op, ks⟩ 0 1000) := ⟨_, rfl⟩
              rw [← hbv]
              have HV : Hid (bv = decide (bnd ⟨4, 0, 0, ex, op, ks⟩ 0 1000)) := hbv
              have hB1 : Below w.heap.size w w1 := hbq.trans (hb1.mono hbq.size)
              have e3 := (BXq.out.kept hb1).cells.c3
              clear hbv hb1
              cases bv <;> cases ex <;> go_wp2
              all_goals go_ret
              all_goals refine ⟨_, rfl, ?_, hB1⟩
              all_goals show _ ↔ _
              all_goals rw [HT.out]
              all_goals unfold fieldsP
              all_goals rw [HKL.out]
              all_goals first | (have hb := of_decide_eq_true HV.out.symm; first | (simp [hb]; done) | (simp [hb]; omega)) | (have hb := of_decide_eq_false HV.out.symm; first | (simp [hb]; done) | (simp [hb]; omega))
            · have z : (hi == 0) = false := by simp [hhi]
              go_wp2_with fail
              refine (l3Span_any ⟨4, 0, hi, ex, op, ks⟩ ak nk ck 0 1000 _).mono ?_
              rintro e w1 ⟨rfl, hb1⟩
              obtain ⟨bv, hbv⟩ : ∃ bv, bv = decide (bnd ⟨4, 0, hi, ex, op, ks⟩ 0 1000) := ⟨_, rfl⟩
              rw [← hbv]
              have HV : Hid (bv = decide (bnd ⟨4, 0, hi, ex, op, ks⟩ 0 1000)) := hbv
              have hB1 : Below w.heap.size w w1 := hbq.trans (hb1.mono hbq.size)
              have e3 := (BXq.out.kept hb1).cells.c3
              clear hbv hb1
              cases bv <;> cases ex <;> go_wp2
              all_goals go_ret
              all_goals refine ⟨_, rfl, ?_, hB1⟩
              all_goals show _ ↔ _
              all_goals rw [HT.out]
              all_goals unfold fieldsP
              all_goals rw [HKL.out]
              all_goals first | (have hb := of_decide_eq_true HV.out.symm; first | (simp [hb]; done) | (simp [hb]; omega)) | (have hb := of_decide_eq_false HV.out.symm; first | (simp [hb]; done) | (simp [hb]; omega))
          · have z : (lo == 0) = false := by simp [hlo]
            go_wp2_with fail
            refine (l3Span_any ⟨4, lo, hi, ex, op, ks⟩ ak nk ck 0 1000 _).mono ?_
            rintro e w1 ⟨rfl, hb1⟩
            obtain ⟨bv, hbv⟩ : ∃ bv, bv = decide (bnd ⟨4, lo, hi, ex, op, ks⟩ 0 1000) := ⟨_, rfl⟩
            rw [← hbv]
            have HV : Hid (bv = decide (bnd ⟨4, lo, hi, ex, op, ks⟩ 0 1000)) := hbv
            have hB1 : Below w.heap.size w w1 := hbq.trans (hb1.mono hbq.size)
            have e3 := (BXq.out.kept hb1).cells.c3
            clear hbv hb1
            cases bv <;> cases ex <;> go_wp2
            all_goals go_ret
            all_goals refine ⟨_, rfl, ?_, hB1⟩
            all_goals show _ ↔ _
            all_goals rw [HT.out]
            all_goals unfold fieldsP
            all_goals rw [HKL.out]
            all_goals first | (have hb := of_decide_eq_true HV.out.symm; first | (simp [hb]; done) | (simp [hb]; omega)) | (have hb := of_decide_eq_false HV.out.symm; first | (simp [hb]; done) | (simp [hb]; omega))
        · skip
          by_cases hlo : lo = 0
          · subst hlo
            by_cases hhi : hi = 0
            · subst hhi
              go_wp2_with fail
              refine (l1In_any 0 0 1000 _).mono ?_
              rintro e w1 ⟨rfl, rfl⟩
              by_cases hin : 0 ≤ (0 : Int) ∧ (0 : Int) ≤ 1000
              · rw [decide_eq_true hin]
                have hb : bnd ⟨5, 0, 0, ex, op, ks⟩ 0 1000 := ⟨Int.le_refl 0, hin.1, hin.2⟩
                go_wp2
                all_goals go_ret
                all_goals refine ⟨_, rfl, ?_, hbq⟩
                all_goals show _ ↔ _
                all_goals rw [HT.out]
                all_goals unfold fieldsP
                all_goals rw [HKL.out]
                all_goals first | (simp [hb]; done) | (simp [hb]; omega)
              · rw [decide_eq_false hin]
                have hb : ¬ bnd ⟨5, 0, 0, ex, op, ks⟩ 0 1000 := fun h => hin ⟨h.2.1, h.2.2⟩
                go_wp2
                all_goals go_ret
                all_goals refine ⟨_, rfl, ?_, hbq⟩
                all_goals show _ ↔ _
                all_goals rw [HT.out]
                all_goals unfold fieldsP
                all_goals rw [HKL.out]
                all_goals first | (simp [hb]; done) | (simp [hb]; omega)
            · have z : (hi == 0) = false := by simp [hhi]
              go_wp2_with fail
              refine (l1In_any hi 0 1000 _).mono ?_
              rintro e w1 ⟨rfl, rfl⟩
              by_cases hin : 0 ≤ (hi : Int) ∧ (hi : Int) ≤ 1000
              · rw [decide_eq_true hin]
                have hb : bnd ⟨5, 0, hi, ex, op, ks⟩ 0 1000 := ⟨Int.le_refl 0, hin.1, hin.2⟩
                go_wp2
                all_goals go_ret
                all_goals refine ⟨_, rfl, ?_, hbq⟩
                all_goals show _ ↔ _
                all_goals rw [HT.out]
                all_goals unfold fieldsP
                all_goals rw [HKL.out]
                all_goals first | (simp [hb]; done) | (simp [hb]; omega)
              · rw [decide_eq_false hin]
                have hb : ¬ bnd ⟨5, 0, hi, ex, op, ks⟩ 0 1000 := fun h => hin ⟨h.2.1, h.2.2⟩
                go_wp2
                all_goals go_ret
                all_goals refine ⟨_, rfl, ?_, hbq⟩
                all_goals show _ ↔ _
                all_goals rw [HT.out]
                all_goals unfold fieldsP
                all_goals rw [HKL.out]
                all_goals first | (simp [hb]; done) | (simp [hb]; omega)
          · have z : (lo == 0) = false := by simp [hlo]
            cases ex <;> go_wp2
            all_goals go_ret
            all_goals refine ⟨_, rfl, ?_, hbq⟩
            all_goals show _ ↔ _
            all_goals rw [HT.out]
            all_goals unfold fieldsP
            all_goals rw [HKL.out]
            all_goals first | (simp; done) | (simp; omega) | (simp_all; done) | (simp_all; omega)
        · skip
          by_cases hlo : lo = 0
          · subst hlo
            by_cases hhi : hi = 0
            · subst hhi
              cases ex <;> go_wp2
              all_goals go_ret
              all_goals refine ⟨_, rfl, ?_, hbq⟩
              all_goals show _ ↔ _
              all_goals rw [HT.out]
              all_goals unfold fieldsP
              all_goals rw [HKL.out]
              all_goals first | (simp; done) | (simp; omega) | (simp_all; done) | (simp_all; omega)
            · have z : (hi == 0) = false := by simp [hhi]
              cases ex <;> go_wp2
              all_goals go_ret
              all_goals refine ⟨_, rfl, ?_, hbq⟩
              all_goals show _ ↔ _
              all_goals rw [HT.out]
              all_goals unfold fieldsP
              all_goals rw [HKL.out]
              all_goals first | (simp; done) | (simp; omega) | (simp_all; done) | (simp_all; omega)
          · have z : (lo == 0) = false := by simp [hlo]
            cases ex <;> go_wp2
            all_goals go_ret
            all_goals refine ⟨_, rfl, ?_, hbq⟩
            all_goals show _ ↔ _
            all_goals rw [HT.out]
            all_goals unfold fieldsP
            all_goals rw [HKL.out]
            all_goals first | (simp; done) | (simp; omega) | (simp_all; done) | (simp_all; omega)
        · skip
          by_cases hlo : lo = 0
          · subst hlo
            by_cases hhi : hi = 0
            · subst hhi
              go_wp2_with fail
              refine (l3Span_any ⟨7, 0, 0, ex, op, ks⟩ ak nk ck 0 200 _).mono ?_
              rintro e w1 ⟨rfl, hb1⟩
              obtain ⟨bv, hbv⟩ : ∃ bv, bv = decide (bnd ⟨7, 0, 0, ex, op, ks⟩ 0 200) := ⟨_, rfl⟩
              rw [← hbv]
              have HV : Hid (bv = decide (bnd ⟨7, 0, 0, ex, op, ks⟩ 0 200)) := hbv
              have hB1 : Below w.heap.size w w1 := hbq.trans (hb1.mono hbq.size)
              have e3 := (BXq.out.kept hb1).cells.c3
              clear hbv hb1
              cases bv <;> cases ex <;> go_wp2
              all_goals go_ret
              all_goals refine ⟨_, rfl, ?_, hB1⟩
              all_goals show _ ↔ _
              all_goals rw [HT.out]
              all_goals unfold fieldsP
              all_goals rw [HKL.out]
              all_goals first | (have hb := of_decide_eq_true HV.out.symm; first | (simp [hb]; done) | (simp [hb]; omega)) | (have hb := of_decide_eq_false HV.out.symm; first | (simp [hb]; done) | (simp [hb]; omega))
            · have z : (hi == 0) = false := by simp [hhi]
              go_wp2_with fail
              refine (l3Span_any ⟨7, 0, hi, ex, op, ks⟩ ak nk ck 0 200 _).mono ?_
              rintro e w1 ⟨rfl, hb1⟩
              obtain ⟨bv, hbv⟩ : ∃ bv, bv = decide (bnd ⟨7, 0, hi, ex, op, ks⟩ 0 200) := ⟨_, rfl⟩
              rw [← hbv]
              have HV : Hid (bv = decide (bnd ⟨7, 0, hi, ex, op, ks⟩ 0 200)) := hbv
              have hB1 : Below w.heap.size w w1 := hbq.trans (hb1.mono hbq.size)
              have e3 := (BXq.out.kept hb1).cells.c3
              clear hbv hb1
              cases bv <;> cases ex <;> go_wp2
              all_goals go_ret
              all_goals refine ⟨_, rfl, ?_, hB1⟩
              all_goals show _ ↔ _
              all_goals rw [HT.out]
              all_goals unfold fieldsP
              all_goals rw [HKL.out]
              all_goals first | (have hb := of_decide_eq_true HV.out.symm; first | (simp [hb]; done) | (simp [hb]; omega)) | (have hb := of_decide_eq_false HV.out.symm; first | (simp [hb]; done) | (simp [hb]; omega))
          · have z : (lo == 0) = false := by simp [hlo]
            go_wp2_with fail
            refine (l3Span_any ⟨7, lo, hi, ex, op, ks⟩ ak nk ck 0 200 _).mono ?_
            rintro e w1 ⟨rfl, hb1⟩
            obtain ⟨bv, hbv⟩ : ∃ bv, bv = decide (bnd ⟨7, lo, hi, ex, op, ks⟩ 0 200) := ⟨_, rfl⟩
            rw [← hbv]
            have HV : Hid (bv = decide (bnd ⟨7, lo, hi, ex, op, ks⟩ 0 200)) := hbv
            have hB1 : Below w.heap.size w w1 := hbq.trans (hb1.mono hbq.size)
            have e3 := (BXq.out.kept hb1).cells.c3
            clear hbv hb1
            cases bv <;> cases ex <;> go_wp2
            all_goals go_ret
            all_goals refine ⟨_, rfl, ?_, hB1⟩
            all_goals show _ ↔ _
            all_goals rw [HT.out]
            all_goals unfold fieldsP
            all_goals rw [HKL.out]
            all_goals first | (have hb := of_decide_eq_true HV.out.symm; first | (simp [hb]; done) | (simp [hb]; omega)) | (have hb := of_decide_eq_false HV.out.symm; first | (simp [hb]; done) | (simp [hb]; omega))
        · skip
          by_cases hlo : lo = 0
          · subst hlo
            by_cases hhi : hi = 0
            · subst hhi
              cases ex <;> go_wp2
              all_goals go_ret
              all_goals refine ⟨_, rfl, ?_, hbq⟩
              all_goals show _ ↔ _
              all_goals rw [HT.out]
              all_goals unfold fieldsP
              all_goals rw [HKL.out]
              all_goals first | (simp; done) | (simp; omega) | (simp_all; done) | (simp_all; omega)
            · have z : (hi == 0) = false := by simp [hhi]
              cases ex <;> go_wp2
              all_goals go_ret
              all_goals refine ⟨_, rfl, ?_, hbq⟩
              all_goals show _ ↔ _
              all_goals rw [HT.out]
              all_goals unfold fieldsP
              all_goals rw [HKL.out]
              all_goals first | (simp; done) | (simp; omega) | (simp_all; done) | (simp_all; omega)
          · have z : (lo == 0) = false := by simp [hlo]
            cases ex <;> go_wp2
            all_goals go_ret
            all_goals refine ⟨_, rfl, ?_, hbq⟩
            all_goals show _ ↔ _
            all_goals rw [HT.out]
            all_goals unfold fieldsP
            all_goals rw [HKL.out]
            all_goals first | (simp; done) | (simp; omega) | (simp_all; done) | (simp_all; omega)
        · skip
          by_cases hlo : lo = 0
          · subst hlo
            by_cases hhi : hi = 0
            · subst hhi
              cases ex <;> go_wp2
              all_goals go_ret
              all_goals refine ⟨_, rfl, ?_, hbq⟩
              all_goals show _ ↔ _
              all_goals rw [HT.out]
              all_goals unfold fieldsP
              all_goals rw [HKL.out]
              all_goals first | (simp; done) | (simp; omega) | (simp_all; done) | (simp_all; omega)
            · have z : (hi == 0) = false := by simp [hhi]
              cases ex <;> go_wp2
              all_goals go_ret
              all_goals refine ⟨_, rfl, ?_, hbq⟩
              all_goals show _ ↔ _
              all_goals rw [HT.out]
              all_goals unfold fieldsP
              all_goals rw [HKL.out]
              all_goals first | (simp; done) | (simp; omega) | (simp_all; done) | (simp_all; omega)
          · have z : (lo == 0) = false := by simp [hlo]
            cases ex <;> go_wp2
            all_goals go_ret
            all_goals refine ⟨_, rfl, ?_, hbq⟩
            all_goals show _ ↔ _
            all_goals rw [HT.out]
            all_goals unfold fieldsP
            all_goals rw [HKL.out]
            all_goals first | (simp; done) | (simp; omega) | (simp_all; done) | (simp_all; omega)
        · skip
          have e1 : (kd == 1) = false := by simp; omega
          have e2 : (kd == 2) = false := by simp; omega
          have e3 : (kd == 3) = false := by simp; omega
          have e4 : (kd == 4) = false := by simp; omega
          have e5 : (kd == 5) = false := by simp; omega
          have e6 : (kd == 6) = false := by simp; omega
          have e7 : (kd == 7) = false := by simp; omega
          have e8 : (kd == 8) = false := by simp; omega
          have e9 : (kd == 9) = false := by simp; omega
          by_cases hlo : lo = 0
          · subst hlo
            by_cases hhi : hi = 0
            · subst hhi
              cases ex <;> go_wp2
              all_goals go_ret
              all_goals refine ⟨_, rfl, ?_, hbq⟩
              all_goals show _ ↔ _
              all_goals rw [HT.out]
              all_goals unfold fieldsP
              all_goals rw [HKL.out]
              all_goals first | (simp; done) | (simp; omega) | (simp_all; done) | (simp_all; omega)
            · have z : (hi == 0) = false := by simp [hhi]
              cases ex <;> go_wp2
              all_goals go_ret
              all_goals refine ⟨_, rfl, ?_, hbq⟩
              all_goals show _ ↔ _
              all_goals rw [HT.out]
              all_goals unfold fieldsP
              all_goals rw [HKL.out]
              all_goals first | (simp; done) | (simp; omega) | (simp_all; done) | (simp_all; omega)
          · have z : (lo == 0) = false := by simp [hlo]
            cases ex <;> go_wp2
            all_goals go_ret
            all_goals refine ⟨_, rfl, ?_, hbq⟩
            all_goals show _ ↔ _
            all_goals rw [HT.out]
            all_goals unfold fieldsP
            all_goals rw [HKL.out]
            all_goals first | (simp; done) | (simp; omega) | (simp_all; done) | (simp_all; omega)
  · have z12 : (nk : Int) > 12 := by omega
    have HN : Hid (¬ typP xs t) := fun h => by have := h.1; rw [← HX.out, HKL0.out] at this; omega
    go_enter Tryd.func19, Tryd.ntmps19
    go_wp2
    go_ret
    refine ⟨false, rfl, ?_, hbl⟩
    show _ ↔ _
    simp only [Bool.false_eq_true, false_iff]
    exact HN.out

end Go.Proofs.YtaiflnccpgcklaaDoor
