import Derived.Test.YtaiflnccpgcklaaDoorS5
namespace Go.Proofs.YtaiflnccpgcklaaDoor
open Go.RowKit

/-- How deep a type is, by how deep its kids are. -/
def mxOf (L : Nat → Int) (ks : List Int) : Int := ks.foldl (fun m kid => max m (L kid.toNat + 1)) 1
/-- The levels when the last j types are done. -/
def levA (xs : List ST) : Nat → Nat → Int
  | 0, _ => 0
  | j + 1, i => if i = xs.length - 1 - j then mxOf (levA xs j) (xs.getD (xs.length - 1 - j) default).kids else levA xs j i
def levP (xs : List ST) : Prop := ∀ j, j < xs.length → levA xs (j + 1) (xs.length - 1 - j) ≤ 8

theorem mx_ge (L : Nat → Int) (ks : List Int) : ∀ m : Int, m ≤ ks.foldl (fun m kid => max m (L kid.toNat + 1)) m := by
  induction ks with
  | nil => intro m; exact Int.le_refl _
  | cons k ks ih => intro m; exact Int.le_trans (Int.le_max_left _ _) (ih _)
theorem levA_nonneg (xs : List ST) (j : Nat) : ∀ i, 0 ≤ levA xs j i := by
  induction j with
  | zero => intro i; exact Int.le_refl _
  | succ j ih =>
    intro i
    unfold levA
    split
    · exact Int.le_trans (by decide) (mx_ge _ _ 1)
    · exact ih i
theorem levA_stable (xs : List ST) (j k : Nat) (hjk : j < k) (hk : k ≤ xs.length) : levA xs k (xs.length - 1 - j) = levA xs (j + 1) (xs.length - 1 - j) := by
  induction k with
  | zero => omega
  | succ k ih =>
    by_cases h : j = k
    · subst h; rfl
    · rw [levA, if_neg (by omega)]
      exact ih (by omega) (by omega)

/-- An array of 40 numbers. -/
structure Arr (w : World) (g : Nat) (L : Nat → Int) : Prop where
  heap : ∃ cs, w.heap[g]? = some (.cells cs 67 (0, 0)) ∧ cs.size = 40 ∧ ∀ i, i < 40 → cs[i]? = some (.int .i64 (L i))
theorem Arr.cell {w : World} {g : Nat} {L : Nat → Int} (h : Arr w g L) (i : Nat) (hi : i < 40) : w.cell? ⟨g, i, none⟩ = some (.int .i64 (L i)) := by
  obtain ⟨cs, hh, _, hc⟩ := h.heap
  exact (cell_of_row _ g i _ _ (0, 0) hh).trans (hc i hi)
theorem Arr.frozen {w : World} {g : Nat} {L : Nat → Int} (h : Arr w g L) (i : Nat) : w.frozen? ⟨g, i, none⟩ = false := by
  obtain ⟨cs, hh, _, _⟩ := h.heap
  exact frozen_of_row w g i _ _ hh
theorem Arr.lt {w : World} {g : Nat} {L : Nat → Int} (h : Arr w g L) : g < w.heap.size := by
  obtain ⟨cs, hh, _, _⟩ := h.heap
  exact (Array.getElem?_eq_some_iff.1 hh).1
def upd (L : Nat → Int) (j : Nat) (v : Int) : Nat → Int := fun i => if i = j then v else L i
theorem upd_same (L : Nat → Int) (j : Nat) (v : Int) : upd L j v j = v := by unfold upd; rw [if_pos rfl]
theorem upd_other (L : Nat → Int) (j i : Nat) (v : Int) (h : i ≠ j) : upd L j v i = L i := by unfold upd; rw [if_neg h]
theorem upd_upd (L : Nat → Int) (j : Nat) (u v : Int) : upd (upd L j u) j v = upd L j v := by
  funext i
  unfold upd
  by_cases h : i = j
  · simp [h]
  · simp [h]
theorem Arr.set {w : World} {g : Nat} {L : Nat → Int} (h : Arr w g L) (j : Nat) (v : Int) : Arr (w.setCell ⟨g, j, none⟩ (.int .i64 v)) g (upd L j v) := by
  obtain ⟨cs, hh, hs, hc⟩ := h.heap
  refine ⟨cs.setIfInBounds j (.int .i64 v), heap_setCell_same w g j cs _ _ hh, by simpa using hs, fun i hi => ?_⟩
  rw [Array.getElem?_setIfInBounds]
  unfold upd
  by_cases hij : i = j
  · subst hij
    simp [hs, hi]
  · have h2 : ¬ j = i := fun e => hij e.symm
    simp only [if_neg h2, if_neg hij]
    exact hc i hi
theorem Arr.kept {w w' : World} {g : Nat} {L : Nat → Int} (h : Arr w g L) (hb : w'.heap[g]? = w.heap[g]?) : Arr w' g L := by
  obtain ⟨cs, hh, hs, hc⟩ := h.heap
  exact ⟨cs, hb.trans hh, hs, hc⟩
theorem arr_new (w : World) : Arr (w.alloc (.cells #[.int .i64 0, .int .i64 0, .int .i64 0, .int .i64 0, .int .i64 0, .int .i64 0, .int .i64 0, .int .i64 0, .int .i64 0, .int .i64 0, .int .i64 0, .int .i64 0, .int .i64 0, .int .i64 0, .int .i64 0, .int .i64 0, .int .i64 0, .int .i64 0, .int .i64 0, .int .i64 0, .int .i64 0, .int .i64 0, .int .i64 0, .int .i64 0, .int .i64 0, .int .i64 0, .int .i64 0, .int .i64 0, .int .i64 0, .int .i64 0, .int .i64 0, .int .i64 0, .int .i64 0, .int .i64 0, .int .i64 0, .int .i64 0, .int .i64 0, .int .i64 0, .int .i64 0, .int .i64 0] 67)) w.heap.size (fun _ => 0) := by
  refine ⟨_, heap_alloc_new w _, rfl, fun i hi => ?_⟩
  have e : (#[.int .i64 0, .int .i64 0, .int .i64 0, .int .i64 0, .int .i64 0, .int .i64 0, .int .i64 0, .int .i64 0, .int .i64 0, .int .i64 0, .int .i64 0, .int .i64 0, .int .i64 0, .int .i64 0, .int .i64 0, .int .i64 0, .int .i64 0, .int .i64 0, .int .i64 0, .int .i64 0, .int .i64 0, .int .i64 0, .int .i64 0, .int .i64 0, .int .i64 0, .int .i64 0, .int .i64 0, .int .i64 0, .int .i64 0, .int .i64 0, .int .i64 0, .int .i64 0, .int .i64 0, .int .i64 0, .int .i64 0, .int .i64 0, .int .i64 0, .int .i64 0, .int .i64 0, .int .i64 0] : Array Value) = Array.replicate 40 (.int .i64 0) := rfl
  rw [e]
  simp [hi]

set_option maxRecDepth 10000 in
set_option maxHeartbeats 8000000 in
theorem levelsOk_any (a : Option Addr) (n c : Nat) (xs : List ST) (w : World) (h : Sts w a n xs) (h1 : 1 ≤ n) (h40 : n ≤ 40) (hb : ∀ t, t < n → behindP (xs.getD t default).kids t n) :
    Calls Tryd.prog 23 #[.slice a n c] w fun e w' => Tells (levP xs) w e w' := by
  have HS : Hid (Sts w a n xs) := h
  have HL : Hid (xs.length = n) := h.len
  have HB : Hid (_) := hb
  have HA0 : Hid (_) := arr_new w
  have hbl : ∀ o, Below w.heap.size w (w.alloc o) := fun o => (Below.refl _ _).alloc (Nat.le_refl _) o
  clear h hb
  go_enter Tryd.func23, Tryd.ntmps23
  go_wp2
  go_loopw [4] (fun i wr => ∃ T1 : Nat, T1 ≤ n ∧ i = .int .i64 ((T1 : Int) - 1) ∧ Arr wr w.heap.size (levA xs (n - T1)) ∧ Hid (∀ j, j < n - T1 → levA xs (j + 1) (n - 1 - j) ≤ 8) ∧ Below w.heap.size w wr) (fun i _ => (intOf i + 1).toNat)
  case atStart => exact ⟨n, Nat.le_refl _, rfl, by rw [Nat.sub_self]; exact HA0.out, fun j hj => by omega, hbl _⟩
  case round =>
    obtain ⟨T1, hT, rfl, harr, HV, hbr⟩ := hrel
    cases T1 with
    | zero =>
      go_wp2
      go_ret
      refine ⟨true, rfl, ?_, hbr⟩
      show _ ↔ _
      simp only [true_iff]
      intro j hj
      rw [HL.out] at hj ⊢
      exact HV.out j (by omega)
    | succ T =>
      have e0 : ((T + 1 : Nat) : Int) - 1 = (T : Int) := by omega
      rw [e0]
      clear e0
      obtain ⟨j, hj⟩ : ∃ j, j = n - (T + 1) := ⟨_, rfl⟩
      rw [← hj] at harr HV
      obtain ⟨b, off, rfl, hlb, ak, nk, ck, hcs, hr, hnk⟩ := HS.out.get T (by omega)
      have hbk := HB.out T (by omega)
      unfold behindP at hbk
      rw [hr.len] at hbk
      obtain ⟨ks, hks⟩ : ∃ ks, ks = (xs.getD T default).kids := ⟨_, rfl⟩
      rw [← hks] at hbk hr
      have HKS : Hid (ks = (xs.getD T default).kids) := hks
      obtain ⟨_, _, _, _, _, c5⟩ := hcs.of (w' := wr) (fun i => hbr.cell (p := ⟨b, i, none⟩) hlb)
      have HBK : Hid (_) := hbk
      have HR : Hid (Row64 w ak nk ks) := hr
      have t1 : (T : Int) < 40 := by omega
      have t2 : (T : Int) < (n : Int) := by omega
      have t3 : (0 : Int) ≤ (T : Int) := by omega
      have f0 := harr.frozen T
      have c0 := harr.cell T (by omega)
      have hst := harr.set T 1
      have hB1 : Below w.heap.size w (wr.setCell ⟨w.heap.size, T, none⟩ (.int .i64 1)) := hbr.setCell (Nat.le_refl _) _
      have HST : Hid (_ ∧ _) := ⟨hst, hB1⟩
      have HJ : Hid (j = n - (T + 1)) := hj
      clear hcs hks hbk hr harr hst hB1 hj
      go_wp2
      go_loopw [22] (fun i wq => ∃ (k : Nat) (m : Int), k ≤ nk ∧ i = .int .i64 k ∧ Arr wq w.heap.size (upd (levA xs j) T m) ∧ 1 ≤ m ∧ m ≤ 9 ∧ Hid (mxOf (levA xs j) ks = (ks.drop k).foldl (fun m kid => max m (levA xs j kid.toNat + 1)) m) ∧ Below w.heap.size w wq) (fun i _ => nk - (intOf i).toNat)
      case atStart => exact ⟨0, 1, Nat.zero_le _, rfl, HST.out.1, by decide, by decide, (by show _ = _; rw [List.drop_zero]; rfl), HST.out.2⟩
      case round =>
        obtain ⟨k, m, hk, rfl, harr, m1, m9, HM, hbq⟩ := hrel
        have cT : wr.cell? ⟨w.heap.size, T, none⟩ = some (.int .i64 m) := by rw [harr.cell T (by omega), upd_same]
        have fT := harr.frozen T
        by_cases hkn : k < nk
        · obtain ⟨b2, off2, rfl, hl2, hc2⟩ := HR.out.get k hkn
          have hcr := (hbq.cell (p := ⟨b2, off2 + k, none⟩) hl2).trans hc2
          have hin := HBK.out k hkn
          obtain ⟨p, hp⟩ : ∃ p : Nat, (p : Int) = ks.getD k 0 := ⟨(ks.getD k 0).toNat, by omega⟩
          rw [← hp] at hcr hin
          have hpn : p < n := by omega
          have hpT : T < p := by omega
          have cp : wr.cell? ⟨w.heap.size, p, none⟩ = some (.int .i64 (levA xs j p)) := by rw [harr.cell p (by omega), upd_other _ _ _ _ (by omega)]
          have hq0 := levA_nonneg xs j p
          have hq8 : levA xs j p ≤ 8 := by
            have hj := HJ.out
            have e1 := levA_stable xs (n - 1 - p) j (by omega) (by rw [HL.out]; omega)
            rw [HL.out, show n - 1 - (n - 1 - p) = p by omega] at e1
            have e2 := HV.out (n - 1 - p) (by omega)
            rw [show n - 1 - (n - 1 - p) = p by omega] at e2
            omega
          have HM2 : Hid (mxOf (levA xs j) ks = (ks.drop (k + 1)).foldl (fun m kid => max m (levA xs j kid.toNat + 1)) (max m (levA xs j p + 1))) := by
            show _ = _
            rw [HM.out, show ks.drop k = ks.getD k 0 :: ks.drop (k + 1) by rw [List.drop_eq_getElem_cons (by rw [HR.out.len]; exact hkn)]; simp [show k < ks.length by rw [HR.out.len]; exact hkn], List.foldl_cons, ← hp, Int.toNat_natCast]
          obtain ⟨q, hq⟩ : ∃ q, q = levA xs j p := ⟨_, rfl⟩
          rw [← hq] at cp hq0 hq8 HM2
          have p1 : (p : Int) < 40 := by omega
          have p2 : (k : Int) < (nk : Int) := by omega
          have p3 : (0 : Int) ≤ (p : Int) := by omega
          have emx : max m (q + 1) = (if m < q + 1 then q + 1 else m) := by split <;> omega
          rw [emx] at HM2
          have hset := harr.set T (if m < q + 1 then q + 1 else m)
          rw [upd_upd] at hset
          have hset2 : Arr (wr.setCell ⟨w.heap.size, T, none⟩ (.int .i64 (if m < q + 1 then q + 1 else m))).drew w.heap.size (upd (levA xs j) T (if m < q + 1 then q + 1 else m)) := hset.kept rfl
          have hB5 : Below w.heap.size w (wr.setCell ⟨w.heap.size, T, none⟩ (.int .i64 (if m < q + 1 then q + 1 else m))).drew := (hbq.setCell (Nat.le_refl _) _).drew
          have v1 : 1 ≤ (if m < q + 1 then q + 1 else m) := by split <;> omega
          have v9 : (if m < q + 1 then q + 1 else m) ≤ 9 := by split <;> omega
          have FIN : Hid (_ ∧ _ ∧ _ ∧ _) := ⟨hset2, hB5, v1, v9⟩
          clear hc2 hp hq harr HM hin emx hset hset2 hB5 v1 v9
          go_wp2_with fail
          go_region_with (fail)
          all_goals
            go_wp2
            go_roundw
            case rel => exact ⟨k + 1, _, by omega, by go_num, FIN.out.1, FIN.out.2.2.1, FIN.out.2.2.2, HM2, FIN.out.2.1⟩
            case measure => simp [intOf]; omega
        · obtain rfl : nk = k := by omega
          have HM3 : Hid (mxOf (levA xs j) ks = m) := by show _ = _; rw [HM.out, List.drop_eq_nil_of_le (by rw [HR.out.len]; exact Nat.le_refl _)]; rfl
          have HLV : Hid (levA xs (j + 1) T = m) := by
            show _ = _
            have hj := HJ.out
            rw [levA, HL.out, if_pos (by omega), show n - 1 - j = T by omega, ← HKS.out]
            exact HM3.out
          by_cases h8 : m > 8
          · go_wp2
            go_ret
            refine ⟨false, rfl, ?_, hbq⟩
            show _ ↔ _
            simp only [Bool.false_eq_true, false_iff]
            intro hP
            have hj := HJ.out
            have := hP j (by rw [HL.out]; omega)
            rw [HL.out, show n - 1 - j = T by omega, HLV.out] at this
            omega
          · have HAR3 : Hid (Arr wr w.heap.size (levA xs (n - T))) := by
              show Arr _ _ _
              have hj := HJ.out
              have e : levA xs (n - T) = upd (levA xs j) T m := by
                funext i
                rw [show n - T = j + 1 by omega]
                unfold upd
                by_cases hi : i = T
                · rw [if_pos hi, hi]; exact HLV.out
                · rw [if_neg hi, levA, HL.out, if_neg (by omega)]
              rw [e]
              exact harr
            go_wp2
            go_roundw
            case rel =>
              refine ⟨T, by omega, rfl, HAR3.out, fun j' hj' => ?_, hbq⟩
              have hj := HJ.out
              by_cases hjj : j' = j
              · subst hjj
                rw [show n - 1 - j' = T by omega, HLV.out]
                omega
              · exact HV.out j' (by omega)
            case measure => simp [intOf]

end Go.Proofs.YtaiflnccpgcklaaDoor
