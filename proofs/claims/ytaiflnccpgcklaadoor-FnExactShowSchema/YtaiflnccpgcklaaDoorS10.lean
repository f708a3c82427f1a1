import Derived.Test.YtaiflnccpgcklaaDoorS9
import Derived.Deep.CutRange
import Derived.BigQuiet
import Derived.Deep.RegionHeldLaw
namespace Go.Proofs.YtaiflnccpgcklaaDoor
open Go.RowKit

theorem Tryd.info3 : (Tryd.prog.info? 3).map (fun i => (i.zero, i.size, i.bytes)) = some (some (.int .i64 0), 1, 8) := by kernel_rfl

/-- A row of n numbers. -/
structure ArrN (w : World) (g n : Nat) (L : Nat → Int) : Prop where
  heap : ∃ cs, w.heap[g]? = some (.cells cs 3 (0, 0)) ∧ cs.size = n ∧ ∀ i, i < n → cs[i]? = some (.int .i64 (L i))
theorem ArrN.cell {w : World} {g n : Nat} {L : Nat → Int} (h : ArrN w g n L) (i : Nat) (hi : i < n) : w.cell? ⟨g, i, none⟩ = some (.int .i64 (L i)) := by
  obtain ⟨cs, hh, _, hc⟩ := h.heap
  exact (cell_of_row _ g i _ _ (0, 0) hh).trans (hc i hi)
theorem ArrN.frozen {w : World} {g n : Nat} {L : Nat → Int} (h : ArrN w g n L) (i : Nat) : w.frozen? ⟨g, i, none⟩ = false := by
  obtain ⟨cs, hh, _, _⟩ := h.heap
  exact frozen_of_row w g i _ _ hh
theorem ArrN.lt {w : World} {g n : Nat} {L : Nat → Int} (h : ArrN w g n L) : g < w.heap.size := by
  obtain ⟨cs, hh, _, _⟩ := h.heap
  exact (Array.getElem?_eq_some_iff.1 hh).1
theorem ArrN.set {w : World} {g n : Nat} {L : Nat → Int} (h : ArrN w g n L) (j : Nat) (v : Int) : ArrN (w.setCell ⟨g, j, none⟩ (.int .i64 v)) g n (upd L j v) := by
  obtain ⟨cs, hh, hs, hc⟩ := h.heap
  refine ⟨cs.setIfInBounds j (.int .i64 v), heap_setCell_same w g j cs _ _ hh, by simpa using hs, fun i hi => ?_⟩
  rw [Array.getElem?_setIfInBounds]
  unfold upd
  by_cases hij : i = j
  · subst hij
    simp [hs, hi]
  · have h2 : ¬ j = i := fun e => hij e.symm
    simp only [if_neg h2, if_neg hij]
    exact hc i hi
theorem ArrN.kept {w w' : World} {g n : Nat} {L : Nat → Int} (h : ArrN w g n L) (hb : w'.heap[g]? = w.heap[g]?) : ArrN w' g n L := by
  obtain ⟨cs, hh, hs, hc⟩ := h.heap
  exact ⟨cs, hb.trans hh, hs, hc⟩
theorem arrN_made {B n g : Nat} {w : World} (h : w.ownsRow B 3 1 (.slice (some ⟨g, 0, none⟩) n n) n (madeCells (Value.int .i64 0).cells (n * 1)).toList) : ArrN w g n (fun _ => 0) := by
  rcases h.2 with ⟨hv, _⟩ | ⟨g', cap, cur, hv, _, hg, _, _, hs, ht⟩
  · simp at hv
  · simp only [Value.slice.injEq, Option.some.injEq, Addr.mk.injEq, and_true, true_and] at hv
    obtain ⟨rfl, rfl⟩ := hv
    refine ⟨cur, hg, by omega, fun i hi => ?_⟩
    have e : (madeCells (Value.int .i64 0).cells (n * 1)).toList = List.replicate n (Value.int .i64 0) := by rw [Nat.mul_one]; exact toList_madeCells_one _ _
    rw [e] at ht
    have h2 : (cur.toList.take (n * 1))[i]? = some (Value.int .i64 0) := by rw [ht]; simp [hi]
    rw [List.getElem?_take, if_pos (by omega)] at h2
    simpa using h2

theorem fold_shift (L : Nat → Int) (ks : List Int) : ∀ m : Int, ks.foldl (fun m kid => max m (L kid.toNat + 1)) (m + 1) = ks.foldl (fun m kid => max m (L kid.toNat)) m + 1 := by
  induction ks with
  | nil => intro m; rfl
  | cons k ks ih =>
    intro m
    simp only [List.foldl_cons]
    rw [← ih, show max (m + 1) (L k.toNat + 1) = max m (L k.toNat) + 1 by omega]

theorem bad_iff (op : Bool) (sv uv kd : Int) : ((op && (sv == 0 || uv != sv)) || (kd == 9 && uv != 1)) = false ↔ ((op = true → sv ≠ 0 ∧ uv = sv) ∧ (kd = 9 → uv = 1)) := by
  cases op <;> by_cases h1 : sv = 0 <;> by_cases h2 : uv = sv <;> by_cases h3 : kd = 9 <;> by_cases h4 : uv = 1 <;> simp [h1, h2, h3, h4]

theorem levA_zero (xs : List ST) (j : Nat) : ∀ i, i < xs.length - j → levA xs j i = 0 := by
  induction j with
  | zero => intro i _; rfl
  | succ j ih =>
    intro i hi
    rw [levA, if_neg (by omega)]
    exact ih i (by omega)

def uAt (xs : List ST) (t k i : Nat) : Int := cAt true xs t k i + cAt false xs t k i
theorem uAt_next (xs : List ST) (t k p : Nat) (h : k < (xs.getD t default).kids.length) (hp : ((xs.getD t default).kids.getD k 0).toNat = p) : uAt xs t (k + 1) = upd (uAt xs t k) p (uAt xs t k p + 1) := by
  funext i
  unfold uAt
  cases h6 : ((xs.getD t default).kind == 6) with
  | true =>
    rw [cAt_next true xs t k p h hp h6, cAt_stay false xs t k (by rw [h6]; decide)]
    unfold upd
    by_cases hi : i = p
    · rw [if_pos hi, if_pos hi, hi]; omega
    · rw [if_neg hi, if_neg hi]
  | false =>
    rw [cAt_next false xs t k p h hp h6, cAt_stay true xs t k (by rw [h6]; decide)]
    unfold upd
    by_cases hi : i = p
    · rw [if_pos hi, if_pos hi, hi]; omega
    · rw [if_neg hi, if_neg hi]

set_option maxRecDepth 10000 in
set_option maxHeartbeats 20000000 in
theorem specSchemaOk_any (a : Option Addr) (n c : Nat) (xs : List ST) (w : World) (h : Sts w a n xs) :
    Calls Tryd.prog 10 #[.slice a n c] w fun e w' => Tells (spcP xs) w e w' := by
  have HS : Hid (Sts w a n xs) := h
  have HL : Hid (xs.length = n) := h.len
  have hn := h.max
  clear h
  obtain ⟨i0, hi, hz0, hz1, hz2⟩ := info_parts Tryd.info3
  by_cases h1 : n < 1
  · have z : (n : Int) < 1 := by omega
    have HN : Hid (¬ spcP xs) := fun h => by have := h.1; rw [HL.out] at this; omega
    go_enter Tryd.func10, Tryd.ntmps10
    go_wp2
    go_ret
    refine ⟨false, rfl, ?_, Below.refl _ _⟩
    show _ ↔ _
    simp only [Bool.false_eq_true, false_iff]
    exact HN.out
  · have z : ¬ (n : Int) < 1 := by omega
    by_cases h40 : n ≤ 40
    · have z2 : ¬ (n : Int) > 40 := by omega
      go_enter Tryd.func10, Tryd.ntmps10
      go_wp2_with (first | (at_make; have mk2 := hown1; refine wpList_make_full _ rfl _ _ 44 rfl w1.heap.size 3 i0 (.int .i64 0) 1 Tryd.underlying44 hi hz0 hz1 _ _ _ _ n rfl rfl rfl rfl (by rw [hz2]; omega) (by unfold maxLen; omega) (by exact Nat.le_refl _) ?_; intro w2 hown2 hgrow2) | (at_make; refine wpList_make_full _ rfl _ _ 44 rfl w.heap.size 3 i0 (.int .i64 0) 1 Tryd.underlying44 hi hz0 hz1 _ _ _ _ n rfl rfl rfl rfl (by rw [hz2]; omega) (by unfold maxLen; omega) (by exact Nat.le_refl _) ?_; intro w1 hown1 hgrow1))
      have hlt1 : w.heap.size < w1.heap.size := (hown1.lt _ rfl).2
      have hlt2 : w1.heap.size < w2.heap.size := (hown2.lt _ rfl).2
      have B1 : Below w.heap.size w w1 := (Below.refl _ _).grown hgrow1 (Nat.le_refl _) (by simp)
      have B2 : Below w.heap.size w w2 := B1.grown hgrow2 (by omega) (by simp)
      have A2 := arrN_made hown2
      have A1 := (arrN_made hown1).kept (hgrow2.block _ hlt1 (by simp))
      have F0 : Hid (_ ∧ _ ∧ _) := ⟨A1, A2, B2⟩
      have hz1' := hgrow2.size
      obtain ⟨g2, hg2⟩ : ∃ g2, g2 = w1.heap.size := ⟨_, rfl⟩
      rw [← hg2] at F0 ⊢
      have hg2lt : w.heap.size < g2 := by omega
      clear hown1 hown2 hgrow1 hgrow2 A1 A2 B1 B2 hg2 hlt1 hlt2 hz1'
      go_loopw [5] (fun i wr => ∃ t : Nat, t ≤ n ∧ i = .int .i64 t ∧ ArrN wr w.heap.size n (fun i => cN true xs t i + cN false xs t i) ∧ ArrN wr g2 n (cN true xs t) ∧ Hid (∀ t', t' < t → typP xs t') ∧ Below w.heap.size w wr) (fun i _ => n - (intOf i).toNat)
      case atStart => exact ⟨0, Nat.zero_le _, rfl, F0.out.1, F0.out.2.1, fun t' ht => absurd ht (Nat.not_lt_zero _), F0.out.2.2⟩
      case round =>
        obtain ⟨t, ht, rfl, har1, har2, HA, hbr⟩ := hrel
        by_cases htn : t < n
        · have t2 : (t : Int) < (n : Int) := by omega
          have P0 : Hid (_ ∧ _) := ⟨har1, har2⟩
          clear har1 har2
          go_wp2_with fail
          refine (l3TypeOk_any a n c t xs _ (HS.out.kept hbr) h40 htn).mono ?_
          rintro e w3 ⟨bv, rfl, hbv, hb3⟩
          have hB3 : Below w.heap.size w w3 := hbr.trans (hb3.mono hbr.size)
          cases bv with
          | false =>
            have HN : Hid (¬ spcP xs) := fun h => by have := hbv.out.mpr (h.2.2.1 t (by rw [HL.out]; exact htn)); cases this
            go_wp2
            go_ret
            refine ⟨false, rfl, ?_, hB3⟩
            show _ ↔ _
            simp only [Bool.false_eq_true, false_iff]
            exact HN.out
          | true =>
            have HTY : Hid (typP xs t) := hbv.out.mp rfl
            obtain ⟨b, off, rfl, hlb, ak, nk, ck, hcs, hr, hnk⟩ := HS.out.get t htn
            obtain ⟨x, hx⟩ : ∃ x, x = xs.getD t default := ⟨_, rfl⟩
            rw [← hx] at hcs hr
            have HX : Hid (x = xs.getD t default) := hx
            have HCS : Hid (_) := hcs
            have HR : Hid (Row64 w ak nk x.kids) := hr
            have A1 : ArrN w3 w.heap.size n (uAt xs t 0) := by
              have e : uAt xs t 0 = fun i => cN true xs t i + cN false xs t i := by funext i; unfold uAt; rw [cAt_zero, cAt_zero]
              rw [e]
              exact P0.out.1.kept (hb3.block _ P0.out.1.lt)
            have A2 : ArrN w3 g2 n (cAt true xs t 0) := by rw [cAt_zero]; exact P0.out.2.kept (hb3.block _ P0.out.2.lt)
            have F1 : Hid (_ ∧ _ ∧ _) := ⟨A1, A2, hB3⟩
            have H12 : Hid (∀ t', t' < t + 1 → (xs.getD t' default).kids.length ≤ 12) := fun t' ht' => by
              by_cases htt : t' = t
              · subst htt; exact HTY.out.1
              · exact (HA.out t' (by omega)).1
            have T12 : Hid (_) := fun k i => cAt_bounds true xs (t + 1) H12.out t k i (Nat.lt_succ_self _) (by omega)
            have F12 : Hid (_) := fun k i => cAt_bounds false xs (t + 1) H12.out t k i (Nat.lt_succ_self _) (by omega)
            clear hcs hx hr A1 A2 hB3 hb3 hbv P0
            go_wp2
            go_loopw [6] (fun i wq => ∃ k : Nat, k ≤ nk ∧ i = .int .i64 k ∧ ArrN wq w.heap.size n (uAt xs t k) ∧ ArrN wq g2 n (cAt true xs t k) ∧ Below w.heap.size w wq) (fun i _ => nk - (intOf i).toNat)
            case atStart => exact ⟨0, Nat.zero_le _, rfl, F1.out.1, F1.out.2.1, F1.out.2.2⟩
            case round =>
              obtain ⟨k, hk, rfl, har1, har2, hbq⟩ := hrel
              obtain ⟨c0, c1, c2, c3, c4, c5⟩ := HCS.out.of (w' := wr) (fun i => hbq.cell (p := ⟨b, i, none⟩) hlb)
              by_cases hkn : k < nk
              · obtain ⟨b2, off2, rfl, hl2, hc2⟩ := HR.out.get k hkn
                have hcr := (hbq.cell (p := ⟨b2, off2 + k, none⟩) hl2).trans hc2
                have hkl : k < (xs.getD t default).kids.length := by rw [← HX.out, HR.out.len]; exact hkn
                have hkp := HTY.out.2.1 k hkl
                unfold kidP at hkp
                rw [← HX.out, HL.out] at hkp
                obtain ⟨p, hp⟩ : ∃ p : Nat, (p : Int) = x.kids.getD k 0 := ⟨(x.kids.getD k 0).toNat, by omega⟩
                rw [← hp] at hcr
                have hpn : p < n := by omega
                have hpt : ((xs.getD t default).kids.getD k 0).toNat = p := by rw [← HX.out, ← hp, Int.toNat_natCast]
                have p2 : (k : Int) < (nk : Int) := by omega
                have p3 : (0 : Int) ≤ (p : Int) := by omega
                have p4 : (p : Int) < (n : Int) := by omega
                have v0 := T12.out k p
                have v1 := F12.out k p
                have q1 := har1.cell p hpn
                have q2 := har2.cell p hpn
                have f1 := har1.frozen p
                have f2 := har2.frozen p
                have nu := uAt_next xs t k p hkl hpt
                have uv : 0 ≤ uAt xs t k p ∧ uAt xs t k p ≤ 2000 := by unfold uAt; omega
                obtain ⟨u, hu⟩ : ∃ u, u = uAt xs t k p := ⟨_, rfl⟩
                rw [← hu] at nu q1 uv
                have S1 := har1.set p (u + 1)
                rw [← nu] at S1
                have K2 := har2.kept (w' := wr.setCell ⟨w.heap.size, p, none⟩ (.int .i64 (u + 1))) (heap_setCell_other wr ⟨w.heap.size, p, none⟩ g2 _ (by simp; omega))
                have hBW : Below w.heap.size w (wr.setCell ⟨w.heap.size, p, none⟩ (.int .i64 (u + 1))) := hbq.setCell (Nat.le_refl _) _
                by_cases h6 : x.kind = 6
                · have z6 : (x.kind == 6) = true := by simp [h6]
                  have nx := cAt_next true xs t k p hkl hpt (by rw [← HX.out]; exact z6)
                  obtain ⟨v, hv⟩ : ∃ v, v = cAt true xs t k p := ⟨_, rfl⟩
                  rw [← hv] at nx q2 v0
                  have S2 := K2.set p (v + 1)
                  rw [← nx] at S2
                  have S1' := S1.kept (w' := (wr.setCell ⟨w.heap.size, p, none⟩ (.int .i64 (u + 1))).setCell ⟨g2, p, none⟩ (.int .i64 (v + 1))) (heap_setCell_other _ ⟨g2, p, none⟩ w.heap.size _ (by simp; omega))
                  have hBW2 : Below w.heap.size w ((wr.setCell ⟨w.heap.size, p, none⟩ (.int .i64 (u + 1))).setCell ⟨g2, p, none⟩ (.int .i64 (v + 1))) := hBW.setCell (by simp; omega) _
                  have FIN : Hid (_ ∧ _ ∧ _) := ⟨S1', S2, hBW2⟩
                  clear hc2 hp hkp nu nx hu hv S1 S2 S1' hBW hBW2 K2 har1 har2 h6 v1
                  go_wp2
                  go_roundw
                  case rel => exact ⟨k + 1, by omega, by go_num, FIN.out.1, FIN.out.2.1, FIN.out.2.2⟩
                  case measure => simp [intOf]; omega
                · have z6 : (x.kind == 6) = false := by simp [h6]
                  have ny := cAt_stay true xs t k (by rw [← HX.out, z6]; decide)
                  rw [← ny] at K2
                  have FIN : Hid (_ ∧ _ ∧ _) := ⟨S1, K2, hBW⟩
                  clear hc2 hp hkp nu ny hu S1 hBW K2 har1 har2 h6 v1 v0 q2 f2
                  go_wp2
                  go_roundw
                  case rel => exact ⟨k + 1, by omega, by go_num, FIN.out.1, FIN.out.2.1, FIN.out.2.2⟩
                  case measure => simp [intOf]; omega
              · obtain rfl : nk = k := by omega
                have hle : (xs.getD t default).kids.length ≤ nk := by rw [← HX.out, HR.out.len]; exact Nat.le_refl _
                have eU : uAt xs t nk = fun i => cN true xs (t + 1) i + cN false xs (t + 1) i := by funext i; unfold uAt; rw [cAt_all true xs t nk hle, cAt_all false xs t nk hle]
                rw [eU] at har1
                rw [cAt_all true xs t nk hle] at har2
                have FIN : Hid (_ ∧ _ ∧ _) := ⟨har1, har2, hbq⟩
                clear har1 har2 hbq eU
                go_wp2
                go_roundw
                case rel =>
                  refine ⟨t + 1, by omega, by go_num, FIN.out.1, FIN.out.2.1, fun t' ht' => ?_, FIN.out.2.2⟩
                  by_cases htt : t' = t
                  · subst htt; exact HTY.out
                  · exact HA.out t' (by omega)
                case measure => simp [intOf]; omega
        · obtain rfl : n = t := by omega
          have P0 : Hid (_ ∧ _ ∧ _) := ⟨har1, har2, hbr⟩
          have l1 := har1.lt
          have l2 := har2.lt
          clear har1 har2
          go_wp2_with (first | (at_make; refine wpList_make_full _ rfl _ _ 44 rfl wr.heap.size 3 i0 (.int .i64 0) 1 Tryd.underlying44 hi hz0 hz1 _ _ _ _ n rfl rfl rfl rfl (by rw [hz2]; omega) (by unfold maxLen; omega) (by exact Nat.le_refl _) ?_; intro w6 hown6 hgrow6))
          have A3 := arrN_made hown6
          have A1 := P0.out.1.kept (hgrow6.block _ l1 (by simp))
          have A2 := P0.out.2.1.kept (hgrow6.block _ l2 (by simp))
          have B6 : Below w.heap.size w w6 := hbr.grown hgrow6 hbr.size (by simp)
          have F0 : Hid (_ ∧ _ ∧ _ ∧ _) := ⟨A1, A2, A3, B6⟩
          obtain ⟨g3, hg3⟩ : ∃ g3, g3 = wr.heap.size := ⟨_, rfl⟩
          rw [← hg3] at F0 ⊢
          have hg3lt : g2 < g3 := by omega
          have H12 : Hid (∀ t', t' < n → (xs.getD t' default).kids.length ≤ 12) := fun t' ht' => (HA.out t' ht').1
          have BS : Hid (_) := fun i => cN_bounds true xs n H12.out n i (Nat.le_refl _)
          have BO : Hid (_) := fun i => cN_bounds false xs n H12.out n i (Nat.le_refl _)
          clear hown6 hgrow6 A1 A2 A3 B6 hg3 l1 l2 P0 hbr
          go_loopw [9] (fun i wq => ∃ T1 : Nat, T1 ≤ n ∧ i = .int .i64 ((T1 : Int) - 1) ∧ ArrN wq w.heap.size n (fun i => cN true xs n i + cN false xs n i) ∧ ArrN wq g2 n (cN true xs n) ∧ ArrN wq g3 n (levA xs (n - T1)) ∧ Hid (∀ j, j < n - T1 → levA xs (j + 1) (n - 1 - j) ≤ 8) ∧ Hid (∀ t', T1 ≤ t' → t' < n → useU xs (cN true xs n) (cN false xs n) t') ∧ Below w.heap.size w wq) (fun i _ => (intOf i + 1).toNat)
          case atStart => exact ⟨n, Nat.le_refl _, rfl, F0.out.1, F0.out.2.1, by rw [Nat.sub_self]; exact F0.out.2.2.1, fun j hj => by omega, fun t' h1' h2' => by omega, F0.out.2.2.2⟩
          case round =>
            obtain ⟨T1, hT, rfl, a1, a2, a3, HV, HU, hbq⟩ := hrel
            cases T1 with
            | zero =>
              have HE : Hid (spcP xs) := ⟨by rw [HL.out]; omega, by rw [HL.out]; exact h40, fun t' ht' => HA.out t' (by rw [HL.out] at ht'; exact ht'), fun t' ht' => by rw [HL.out] at ht' ⊢; exact HU.out t' (Nat.zero_le _) ht', fun j hj => by rw [HL.out] at hj ⊢; exact HV.out j (by omega)⟩
              go_wp2
              go_ret
              exact ⟨true, rfl, (by show _ ↔ _; simp only [true_iff]; exact HE.out), hbq⟩
            | succ T =>
              have e0 : ((T + 1 : Nat) : Int) - 1 = (T : Int) := by omega
              rw [e0]
              clear e0
              obtain ⟨j, hj⟩ : ∃ j, j = n - (T + 1) := ⟨_, rfl⟩
              rw [← hj] at a3 HV
              have HJ : Hid (j = n - (T + 1)) := hj
              obtain ⟨b, off, rfl, hlb, ak, nk, ck, hcs, hr, hnk⟩ := HS.out.get T (by omega)
              have hty := HA.out T (by omega)
              obtain ⟨x, hx⟩ : ∃ x, x = xs.getD T default := ⟨_, rfl⟩
              obtain ⟨ks, hks⟩ : ∃ ks, ks = (xs.getD T default).kids := ⟨_, rfl⟩
              rw [← hks] at hr
              have HBK : Hid (∀ k, k < nk → (T : Int) < ks.getD k 0 ∧ ks.getD k 0 < n) := fun k hk => by
                have := hty.2.1 k (by rw [← hks, hr.len]; exact hk)
                unfold kidP at this
                rw [← hks, HL.out] at this
                exact ⟨this.1, this.2.1⟩
              rw [← hx] at hcs
              have HX : Hid (x = xs.getD T default) := hx
              have HKS : Hid (ks = (xs.getD T default).kids) := hks
              have HCS : Hid (_) := hcs
              have HR : Hid (Row64 w ak nk ks) := hr
              obtain ⟨c0, c1, c2, c3, c4, c5⟩ := hcs.of (w' := wr) (fun i => hbq.cell (p := ⟨b, i, none⟩) hlb)
              have t2 : (T : Int) < (n : Int) := by omega
              have t3 : (0 : Int) ≤ (T : Int) := by omega
              have q1 := a1.cell T (by omega)
              have q2 := a2.cell T (by omega)
              have v0 := BS.out T
              have v1 := BO.out T
              obtain ⟨sv, hsv⟩ : ∃ sv, sv = cN true xs n T := ⟨_, rfl⟩
              obtain ⟨uv, huv⟩ : ∃ uv, uv = cN true xs n T + cN false xs n T := ⟨_, rfl⟩
              have HUS : Hid (useU xs (cN true xs n) (cN false xs n) T ↔ ((x.opt = true → sv ≠ 0 ∧ uv = sv) ∧ (x.kind = 9 → uv = 1))) := by show _ ↔ _; unfold useU; rw [← hx, ← huv, ← hsv]
              have q1' : wr.cell? ⟨w.heap.size, T, none⟩ = some (.int .i64 uv) := by rw [huv]; exact q1
              rw [← hsv] at q2 v0
              have vu : 0 ≤ uv ∧ uv ≤ 1000 := by omega
              obtain ⟨op, hop⟩ : ∃ op, op = x.opt := ⟨_, rfl⟩
              rw [← hop] at c4 HUS
              have P1 : Hid (_ ∧ _ ∧ _) := ⟨a1, a2, a3⟩
              have hTn : T < n := by omega
              clear hj hcs hr hx hks hty q1 a1 a2 a3 hop huv hsv v1
              have q1 := q1'
              clear q1'
              obtain ⟨bad, hbad⟩ : ∃ bad, bad = ((op && (sv == 0 || uv != sv)) || (x.kind == 9 && uv != 1)) := ⟨_, rfl⟩
              have HBAD : Hid (bad = ((op && (sv == 0 || uv != sv)) || (x.kind == 9 && uv != 1))) := hbad
              clear hbad
              go_wp2_with fail
              go_cut [118] from 77 to 158 (fun c wx => c = .bool bad ∧ ∃ nq, wx = wr.drewN nq)
              case first =>
                cases op with
                | true =>
                  by_cases hs0 : sv = 0
                  · have z0 : (sv == 0) = true := by simp [hs0]
                    have zb : bad = true := by rw [HBAD.out, z0]; rfl
                    go_quiet (fail)
                    go_wp2
                    go_meet
                    exact ⟨by first | (rw [zb]; done) | (rw [zb, ← hus, z1]), _, rfl⟩
                  · have z0 : (sv == 0) = false := by simp [hs0]
                    by_cases hus : uv = sv
                    · have z3 : (uv != sv) = false := by simp [hus]
                      by_cases h9 : x.kind = 9
                      · have z9 : (x.kind == 9) = true := by simp [h9]
                        by_cases hu1 : uv = 1
                        · have z1 : (uv != 1) = false := by simp [hu1]
                          have zb : bad = false := by rw [HBAD.out, z0, z3, z9, z1]; rfl
                          go_quiet (fail)
                          go_wp2
                          go_meet
                          exact ⟨by first | (rw [zb]; done) | (rw [zb, ← hus, z1]), _, rfl⟩
                        · have z1 : (uv != 1) = true := by simp [hu1]
                          have zb : bad = true := by rw [HBAD.out, z0, z3, z9, z1]; rfl
                          go_quiet (fail)
                          go_wp2
                          go_meet
                          exact ⟨by first | (rw [zb]; done) | (rw [zb, ← hus, z1]), _, rfl⟩
                      · have z9 : (x.kind == 9) = false := by simp [h9]
                        have zb : bad = false := by rw [HBAD.out, z0, z3, z9]; rfl
                        go_quiet (fail)
                        go_wp2
                        go_meet
                        exact ⟨by first | (rw [zb]; done) | (rw [zb, ← hus, z1]), _, rfl⟩
                    · have z3 : (uv != sv) = true := by simp [hus]
                      have zb : bad = true := by rw [HBAD.out, z0, z3]; rfl
                      go_quiet (fail)
                      go_wp2
                      go_meet
                      exact ⟨by first | (rw [zb]; done) | (rw [zb, ← hus, z1]), _, rfl⟩
                | false =>
                  by_cases h9 : x.kind = 9
                  · have z9 : (x.kind == 9) = true := by simp [h9]
                    by_cases hu1 : uv = 1
                    · have z1 : (uv != 1) = false := by simp [hu1]
                      have zb : bad = false := by rw [HBAD.out, z9, z1]; rfl
                      go_quiet (fail)
                      go_wp2
                      go_meet
                      exact ⟨by first | (rw [zb]; done) | (rw [zb, ← hus, z1]), _, rfl⟩
                    · have z1 : (uv != 1) = true := by simp [hu1]
                      have zb : bad = true := by rw [HBAD.out, z9, z1]; rfl
                      go_quiet (fail)
                      go_wp2
                      go_meet
                      exact ⟨by first | (rw [zb]; done) | (rw [zb, ← hus, z1]), _, rfl⟩
                  · have z9 : (x.kind == 9) = false := by simp [h9]
                    have zb : bad = false := by rw [HBAD.out, z9]; rfl
                    go_quiet (fail)
                    go_wp2
                    go_meet
                    exact ⟨by first | (rw [zb]; done) | (rw [zb, ← hus, z1]), _, rfl⟩
              case rest =>
                obtain ⟨rfl, nq, rfl⟩ := hcut
                cases bad with
                | true =>
                  have HN : Hid (¬ spcP xs) := fun hP => by
                    have hu := hP.2.2.2.1 T (by rw [HL.out]; omega)
                    rw [HL.out, HUS.out, ← bad_iff, ← HBAD.out] at hu
                    cases hu
                  clear HUS
                  go_wp2
                  go_ret
                  refine ⟨false, rfl, ?_, below_drewN hbq nq⟩
                  show _ ↔ _
                  simp only [Bool.false_eq_true, false_iff]
                  exact HN.out
                | false =>
                  have HUT : Hid (useU xs (cN true xs n) (cN false xs n) T) := by show useU _ _ _ _; rw [HUS.out, ← bad_iff]; exact HBAD.out.symm
                  clear HUS
                  have H5 : Below wr.heap.size wr (wr.drewN nq) := below_drewN (Below.refl _ _) nq
                  have hB5 : Below w.heap.size w (wr.drewN nq) := hbq.trans (H5.mono hbq.size)
                  have K1 := P1.out.1.kept (H5.block _ P1.out.1.lt)
                  have K2 := P1.out.2.1.kept (H5.block _ P1.out.2.1.lt)
                  have K3 := P1.out.2.2.kept (H5.block _ P1.out.2.2.lt)
                  have ez : levA xs j = upd (levA xs j) T 0 := by
                    funext i
                    unfold upd
                    by_cases hi : i = T
                    · rw [if_pos hi, hi]; exact levA_zero xs j T (by rw [HL.out]; have := HJ.out; omega)
                    · rw [if_neg hi]
                  rw [ez] at K3
                  have F6 : Hid (_ ∧ _ ∧ _ ∧ _) := ⟨K1, K2, K3, hB5⟩
                  clear H5 hB5 K1 K2 K3 ez P1 q1 q2 c0 c1 c2 c3 c4 c5
                  go_wp2
                  go_loopw [10] (fun i wq => ∃ (k : Nat) (m : Int), k ≤ nk ∧ i = .int .i64 k ∧ ArrN wq w.heap.size n (fun i => cN true xs n i + cN false xs n i) ∧ ArrN wq g2 n (cN true xs n) ∧ ArrN wq g3 n (upd (levA xs j) T m) ∧ 0 ≤ m ∧ m ≤ 8 ∧ Hid (mxOf (levA xs j) ks = (ks.drop k).foldl (fun m kid => max m (levA xs j kid.toNat)) m + 1) ∧ Below w.heap.size w wq) (fun i _ => nk - (intOf i).toNat)
                  case atStart => exact ⟨0, 0, Nat.zero_le _, rfl, F6.out.1, F6.out.2.1, F6.out.2.2.1, by decide, by decide, (by show _ = _; rw [List.drop_zero]; exact fold_shift _ _ 0), F6.out.2.2.2⟩
                  case round =>
                    obtain ⟨k, m, hk, rfl, a1, a2, a3, m0, m8, HM, hbz⟩ := hrel
                    obtain ⟨c0, c1, c2, c3, c4, c5⟩ := HCS.out.of (w' := wr) (fun i => hbz.cell (p := ⟨b, i, none⟩) hlb)
                    have cT : wr.cell? ⟨g3, T, none⟩ = some (.int .i64 m) := by rw [a3.cell T (by omega), upd_same]
                    have fT := a3.frozen T
                    by_cases hkn : k < nk
                    · obtain ⟨b2, off2, rfl, hl2, hc2⟩ := HR.out.get k hkn
                      have hcr := (hbz.cell (p := ⟨b2, off2 + k, none⟩) hl2).trans hc2
                      have hin := HBK.out k hkn
                      obtain ⟨p, hp⟩ : ∃ p : Nat, (p : Int) = ks.getD k 0 := ⟨(ks.getD k 0).toNat, by omega⟩
                      rw [← hp] at hcr hin
                      have hpn : p < n := by omega
                      have cp : wr.cell? ⟨g3, p, none⟩ = some (.int .i64 (levA xs j p)) := by rw [a3.cell p (by omega), upd_other _ _ _ _ (by omega)]
                      have hq0 := levA_nonneg xs j p
                      have hq8 : levA xs j p ≤ 8 := by
                        have hj := HJ.out
                        have e1 := levA_stable xs (n - 1 - p) j (by omega) (by rw [HL.out]; omega)
                        rw [HL.out, show n - 1 - (n - 1 - p) = p by omega] at e1
                        have e2 := HV.out (n - 1 - p) (by omega)
                        rw [show n - 1 - (n - 1 - p) = p by omega] at e2
                        omega
                      have HM2 : Hid (mxOf (levA xs j) ks = (ks.drop (k + 1)).foldl (fun m kid => max m (levA xs j kid.toNat)) (max m (levA xs j p)) + 1) := by
                        show _ = _
                        rw [HM.out, show ks.drop k = ks.getD k 0 :: ks.drop (k + 1) by rw [List.drop_eq_getElem_cons (by rw [HR.out.len]; exact hkn)]; simp [show k < ks.length by rw [HR.out.len]; exact hkn], List.foldl_cons, ← hp, Int.toNat_natCast]
                      obtain ⟨q, hq⟩ : ∃ q, q = levA xs j p := ⟨_, rfl⟩
                      rw [← hq] at cp hq0 hq8 HM2
                      have p1 : (p : Int) < (n : Int) := by omega
                      have p2 : (k : Int) < (nk : Int) := by omega
                      have p3 : (0 : Int) ≤ (p : Int) := by omega
                      have hT3 : T ≠ p := by omega
                      by_cases hmq : m < q
                      · rw [Int.max_eq_right (Int.le_of_lt hmq)] at HM2
                        have hset := a3.set T q
                        rw [upd_upd] at hset
                        have hset2 : ArrN (wr.setCell ⟨g3, T, none⟩ (.int .i64 q)).drew g3 n (upd (levA xs j) T q) := hset.kept rfl
                        have k1 : ArrN (wr.setCell ⟨g3, T, none⟩ (.int .i64 q)).drew w.heap.size n (fun i => cN true xs n i + cN false xs n i) := a1.kept (heap_setCell_other wr ⟨g3, T, none⟩ w.heap.size _ (by simp; omega))
                        have k2 : ArrN (wr.setCell ⟨g3, T, none⟩ (.int .i64 q)).drew g2 n (cN true xs n) := a2.kept (heap_setCell_other wr ⟨g3, T, none⟩ g2 _ (by simp; omega))
                        have hB5 : Below w.heap.size w (wr.setCell ⟨g3, T, none⟩ (.int .i64 q)).drew := (hbz.setCell (by simp; omega) _).drew
                        have FIN : Hid (_ ∧ _ ∧ _ ∧ _ ∧ _ ∧ _) := ⟨k1, k2, hset2, hq0, hq8, hB5⟩
                        clear hc2 hp hq a1 a2 a3 HM hin hset hset2 hB5 k1 k2 c0 c1 c2 c3 c4
                        go_wp2_with fail
                        go_region_with (fail)
                        all_goals go_wp2
                        all_goals
                          go_roundw
                          case rel => first | exact ⟨k + 1, by omega, by go_num, FIN.out.1, FIN.out.2.1, q, FIN.out.2.2.1, FIN.out.2.2.2.1, FIN.out.2.2.2.2.1, HM2, FIN.out.2.2.2.2.2⟩ | exact ⟨k + 1, q, by omega, by go_num, FIN.out.1, FIN.out.2.1, FIN.out.2.2.1, FIN.out.2.2.2.1, FIN.out.2.2.2.2.1, HM2, FIN.out.2.2.2.2.2⟩
                          case measure => simp [intOf]; omega
                      · rw [Int.max_eq_left (by omega)] at HM2
                        have hset := a3.set T m
                        rw [upd_upd] at hset
                        have hset2 : ArrN (wr.setCell ⟨g3, T, none⟩ (.int .i64 m)).drew g3 n (upd (levA xs j) T m) := hset.kept rfl
                        have k1 : ArrN (wr.setCell ⟨g3, T, none⟩ (.int .i64 m)).drew w.heap.size n (fun i => cN true xs n i + cN false xs n i) := a1.kept (heap_setCell_other wr ⟨g3, T, none⟩ w.heap.size _ (by simp; omega))
                        have k2 : ArrN (wr.setCell ⟨g3, T, none⟩ (.int .i64 m)).drew g2 n (cN true xs n) := a2.kept (heap_setCell_other wr ⟨g3, T, none⟩ g2 _ (by simp; omega))
                        have hB5 : Below w.heap.size w (wr.setCell ⟨g3, T, none⟩ (.int .i64 m)).drew := (hbz.setCell (by simp; omega) _).drew
                        have FIN : Hid (_ ∧ _ ∧ _ ∧ _ ∧ _ ∧ _) := ⟨k1, k2, hset2, m0, m8, hB5⟩
                        clear hc2 hp hq a1 a2 a3 HM hin hset hset2 hB5 k1 k2 c0 c1 c2 c3 c4
                        go_wp2_with fail
                        go_region_with (fail)
                        all_goals go_wp2
                        all_goals
                          go_roundw
                          case rel => first | exact ⟨k + 1, by omega, by go_num, FIN.out.1, FIN.out.2.1, m, FIN.out.2.2.1, FIN.out.2.2.2.1, FIN.out.2.2.2.2.1, HM2, FIN.out.2.2.2.2.2⟩ | exact ⟨k + 1, m, by omega, by go_num, FIN.out.1, FIN.out.2.1, FIN.out.2.2.1, FIN.out.2.2.2.1, FIN.out.2.2.2.2.1, HM2, FIN.out.2.2.2.2.2⟩
                          case measure => simp [intOf]; omega
                    · obtain rfl : nk = k := by omega
                      have HM3 : Hid (mxOf (levA xs j) ks = m + 1) := by show _ = _; rw [HM.out, List.drop_eq_nil_of_le (by rw [HR.out.len]; exact Nat.le_refl _)]; rfl
                      have HLV : Hid (levA xs (j + 1) T = m + 1) := by
                        show _ = _
                        have hj := HJ.out
                        rw [levA, HL.out, if_pos (by omega), show n - 1 - j = T by omega, ← HKS.out]
                        exact HM3.out
                      have hset := a3.set T (m + 1)
                      rw [upd_upd] at hset
                      have k1 := a1.kept (w' := wr.setCell ⟨g3, T, none⟩ (.int .i64 (m + 1))) (heap_setCell_other wr ⟨g3, T, none⟩ w.heap.size _ (by simp; omega))
                      have k2 := a2.kept (w' := wr.setCell ⟨g3, T, none⟩ (.int .i64 (m + 1))) (heap_setCell_other wr ⟨g3, T, none⟩ g2 _ (by simp; omega))
                      have hB5 : Below w.heap.size w (wr.setCell ⟨g3, T, none⟩ (.int .i64 (m + 1))) := hbz.setCell (by simp; omega) _
                      have FIN : Hid (_ ∧ _ ∧ _ ∧ _) := ⟨k1, k2, hset, hB5⟩
                      clear a1 a2 a3 hset k1 k2 hB5 HM
                      by_cases h8 : m + 1 > 8
                      · have HN : Hid (¬ spcP xs) := fun hP => by
                          have hj := HJ.out
                          have := hP.2.2.2.2 j (by rw [HL.out]; omega)
                          rw [HL.out, show n - 1 - j = T by omega, HLV.out] at this
                          omega
                        go_wp2
                        go_ret
                        refine ⟨false, rfl, ?_, FIN.out.2.2.2⟩
                        show _ ↔ _
                        simp only [Bool.false_eq_true, false_iff]
                        exact HN.out
                      · have HAR3 : Hid (ArrN (wr.setCell ⟨g3, T, none⟩ (.int .i64 (m + 1))) g3 n (levA xs (n - T))) := by
                          show ArrN _ _ _ _
                          have hj := HJ.out
                          have e : levA xs (n - T) = upd (levA xs j) T (m + 1) := by
                            funext i
                            rw [show n - T = j + 1 by omega]
                            unfold upd
                            by_cases hi : i = T
                            · rw [if_pos hi, hi]; exact HLV.out
                            · rw [if_neg hi, levA, HL.out, if_neg (by omega)]
                          rw [e]
                          exact FIN.out.2.2.1
                        go_wp2
                        go_roundw
                        case rel =>
                          refine ⟨T, by omega, rfl, FIN.out.1, FIN.out.2.1, HAR3.out, fun j' hj' => ?_, fun t' h1' h2' => ?_, FIN.out.2.2.2⟩
                          · have hj := HJ.out
                            by_cases hjj : j' = j
                            · subst hjj
                              rw [show n - 1 - j' = T by omega, HLV.out]
                              omega
                            · exact HV.out j' (by omega)
                          · by_cases htt : t' = T
                            · subst htt; exact HUT.out
                            · exact HU.out t' (by omega) h2'
                        case measure => simp [intOf]
    · have z2 : (n : Int) > 40 := by omega
      have HN : Hid (¬ spcP xs) := fun h => by have := h.2.1; rw [HL.out] at this; omega
      go_enter Tryd.func10, Tryd.ntmps10
      go_wp2
      go_ret
      refine ⟨false, rfl, ?_, Below.refl _ _⟩
      show _ ↔ _
      simp only [Bool.false_eq_true, false_iff]
      exact HN.out

end Go.Proofs.YtaiflnccpgcklaaDoor
