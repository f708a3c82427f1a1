import Derived.Test.YtoncodoimnideaaGreatDoorH6
import Derived.Test.YtoncodoimnideaaGreatDoorShelf
namespace Go.Proofs.YtoncodoimnideaaGreatDoor
open Go.RowKit

/-- A variable of the library's that holds some integer. -/
def MaxW (w : World) : Prop := ∃ m, w.cell? ⟨0, 0, none⟩ = some (.int .i64 m)
theorem MaxW.kept {w w' : World} (h : MaxW w) (hb : Below w.heap.size w w') : MaxW w' := by
  obtain ⟨m, hm⟩ := h
  exact ⟨m, (hb.cell (p := ⟨0, 0, none⟩) (World.block_lt_of_cell? w _ hm)).trans hm⟩

theorem split_any (s sep : ByteArray) (cb : UInt8) (hsep : sep.data.toList = [cb]) (w : World) (hs : s.size ≤ 1048576) (hm : MaxW w) :
    Calls Tryz.prog 30 #[.string s, .string sep] w fun e w' => ∃ g n, e = .returned (.slice (some ⟨g, 0, none⟩) n n) ∧ n = (cutAt s (cb.toNat : Int)).length ∧ g < w'.heap.size ∧
      Hid (∀ k, k < n → w'.cell? ⟨g, k, none⟩ = some (.string ((cutAt s (cb.toNat : Int)).getD k ByteArray.empty))) ∧ Below w.heap.size w w' := by
  obtain ⟨m, hm⟩ := hm
  refine (Tryz.strings_Split s sep m w (by omega) hm (by rw [Lib.size_eq, hsep]; exact Nat.le_refl _)).mono ?_
  rintro e w' ⟨rfl, rfl⟩
  rw [split_cut s sep cb hsep]
  refine ⟨w.heap.size, _, rfl, (split_len s sep cb hsep).symm, by simp, fun k hk => ?_, (Below.refl _ _).alloc (Nat.le_refl _) _⟩
  rw [cell_of_row _ w.heap.size k _ 9 (0, 0) (heap_alloc_new w _)]
  rw [← split_len s sep cb hsep] at hk
  simp [hk]

theorem hostL_one {L : List ByteArray} {wild : Bool} (h : isStar L wild 0) : hostL L wild (0 + 1) := fun j hj => by
  have e : j = 0 := by omega
  rw [e]
  exact .inl h
theorem ext_le (s : ByteArray) (f j : Nat) : (s.extract f j).size ≤ s.size := by
  rw [Lib.size_eq, Lib.extract_data, List.length_take, List.length_drop, Lib.size_eq]; omega
theorem pcs_size (s : ByteArray) (c : Int) : ∀ k f i, ∀ b ∈ pcs s c k f i, b.size ≤ s.size
  | 0, f, i, b, hb => by
    simp only [pcs, List.mem_singleton] at hb
    rw [hb]; exact ext_le s f i
  | k + 1, f, i, b, hb => by
    unfold pcs at hb
    split at hb
    · rcases List.mem_cons.1 hb with h | h
      · rw [h]; exact ext_le s f i
      · exact pcs_size s c k (i + 1) (i + 1) b h
    · exact pcs_size s c k f (i + 1) b hb
theorem cut_size (s : ByteArray) (c : Int) (k : Nat) : ((cutAt s c).getD k ByteArray.empty).size ≤ s.size := by
  rw [List.getD_eq_getElem?_getD]
  cases h : (cutAt s c)[k]? with
  | none => exact Nat.zero_le _
  | some b => exact pcs_size s c _ _ _ b (List.mem_of_getElem? h)

set_option maxRecDepth 10000 in
set_option maxHeartbeats 4000000 in
theorem implHostOk_any (s : ByteArray) (wild : Bool) (w : World) (hm : MaxW w) : Calls Tryz.prog 10 #[.string s, .bool wild] w (SaysB (hostP s wild) w) := by
  obtain ⟨P, hP⟩ : ∃ P, P = hostP s wild := ⟨_, rfl⟩
  rw [← hP]
  have HP : Hid (P = hostP s wild) := hP
  have HM : Hid (MaxW w) := hm
  clear hP hm
  by_cases h100 : 100 < s.size
  · have HN : Hid (¬ P) := by show ¬ P; rw [HP.out]; intro h; have := h.1; omega
    go_enter Tryz.func10, Tryz.ntmps10
    go_wp2
    go_ret
    exact saysB_f HN.out (Below.refl _ _)
  go_enter Tryz.func10, Tryz.ntmps10
  go_wp2_with fail
  refine (split_any s ⟨#[46]⟩ 46 rfl _ (by omega) HM.out).mono ?_
  rintro e w1 ⟨g, n, rfl, hn, hg, HC, hb⟩
  obtain ⟨L, hL⟩ : ∃ L, L = cutAt s 46 := ⟨_, rfl⟩
  have h46 : ((46 : UInt8).toNat : Int) = 46 := rfl
  rw [h46, ← hL] at hn HC
  have hlen := cutAt_len s 46
  rw [← hL, ← hn] at hlen
  have HL : Hid (P ↔ L.length ≤ 10 ∧ hostL L wild L.length) := by
    show P ↔ _
    rw [HP.out, hL]
    exact ⟨fun h => h.2, fun h => ⟨by omega, h⟩⟩
  have HLEN : Hid (L.length = n) := hn.symm
  have HSZ : Hid (∀ k, (L.getD k ByteArray.empty).size ≤ 100) := fun k => by rw [hL]; have := cut_size s 46 k; omega
  clear HP hL hn h46 HM
  obtain ⟨hl1, hl2⟩ := hlen
  by_cases h10 : 10 < n
  · have HN : Hid (¬ P) := by show ¬ P; rw [HL.out, HLEN.out]; intro h; have := h.1; omega
    clear HC
    go_wp2
    go_ret
    exact saysB_f HN.out hb
  have x0 : w1.cell? ⟨g, 0, none⟩ = some (.string (L.getD 0 ByteArray.empty)) := HC.out 0 (by omega)
  obtain ⟨b0, hb0⟩ : ∃ b0, b0 = L.getD 0 ByteArray.empty := ⟨_, rfl⟩
  rw [← hb0] at x0
  have HB0 : Hid (b0 = L.getD 0 ByteArray.empty) := hb0
  clear hb0
  by_cases hst : isStar L wild 0
  · have HST : Hid (isStar L wild 0) := hst
    obtain ⟨_, rfl, h3, h4⟩ := hst
    rw [HLEN.out] at h4
    have z : (b0.toList == [42]) = true := (toList_star b0).2 (HB0.out.trans h3)
    clear h3 HB0
    obtain ⟨m, rfl⟩ : ∃ m, n = m + 1 := ⟨n - 1, by omega⟩
    have z2 : decide ((2 : Int) < (m : Int) + 1) = true := decide_eq_true (by omega)
    go_wp2
    go_loopw [32] (fun i wr => ∃ k : Nat, k ≤ m ∧ i = .int .i64 k ∧ Hid (hostL L true (k + 1)) ∧ w1 = wr) (fun i _ => m - (intOf i).toNat)
    case atStart => exact ⟨0, by omega, rfl, hostL_one HST.out, rfl⟩
    case round =>
      obtain ⟨k, hk, rfl, HI, rfl⟩ := hrel
      by_cases hlt : k < m
      · have xk : w1.cell? ⟨g, 1 + k, none⟩ = some (.string (L.getD (k + 1) ByteArray.empty)) := by rw [Nat.add_comm]; exact HC.out (k + 1) (by omega)
        obtain ⟨bk, hbk⟩ : ∃ bk, bk = L.getD (k + 1) ByteArray.empty := ⟨_, rfl⟩
        rw [← hbk] at xk
        have hks : bk.size ≤ 100 := by rw [hbk]; exact HSZ.out _
        have HN : Hid (labP bk → hostL L true (k + 1 + 1)) := fun h => hostL_succ HI.out (.inr (hbk ▸ h))
        have HF : Hid (¬ labP bk → ¬ P) := fun h => by
          rw [HL.out, HLEN.out]
          rintro ⟨_, h2⟩
          rcases h2 (k + 1) (by omega) with h3 | h3
          · exact absurd h3.1 (by omega)
          · exact h (hbk ▸ h3)
        clear hbk HI HC x0 z
        go_wp2_with fail
        refine (labelOk_any bk _ (by omega)).mono ?_
        rintro e w2 ⟨b, rfl, HV, rfl⟩
        cases b with
        | true =>
          have HN2 : Hid (hostL L true (k + 1 + 1)) := HN.out (HV.out.1 rfl)
          clear HN HF HV
          go_wp2
          go_roundw
          case rel => exact ⟨k + 1, by omega, by go_num, HN2, by trivial⟩
          case measure => simp [intOf]; omega
        | false =>
          have HF2 : Hid (¬ P) := HF.out (fun h => Bool.false_ne_true (HV.out.2 h))
          clear HN HF HV
          go_wp2
          go_ret
          exact saysB_f HF2.out hb
      · obtain rfl : k = m := by omega
        have HN : Hid P := by show P; rw [HL.out, HLEN.out]; exact ⟨by omega, HI.out⟩
        clear HI
        go_wp2
        go_ret
        exact saysB_t HN.out hb
  · have HST : Hid (∀ j, ¬ isStar L wild j) := fun j h => by
      have e := h.1
      subst e
      exact hst h
    have hcs : (wild = false) ∨ (wild = true ∧ (b0.toList == [42]) = false) ∨ (wild = true ∧ (b0.toList == [42]) = true ∧ ¬ 2 < n) := by
      cases hw : wild with
      | false => exact .inl rfl
      | true =>
        cases hz : (b0.toList == [42]) with
        | false => exact .inr (.inl ⟨rfl, rfl⟩)
        | true => exact .inr (.inr ⟨rfl, rfl, fun h2 => hst ⟨rfl, hw, HB0.out.symm.trans ((toList_star b0).1 hz), by rw [HLEN.out]; exact h2⟩⟩)
    clear hst HB0
    rcases hcs with rfl | ⟨rfl, hz⟩ | ⟨rfl, hz, h2⟩
    · go_wp2
      go_loopw [32] (fun i wr => ∃ k : Nat, k ≤ n ∧ i = .int .i64 k ∧ Hid (hostL L false k) ∧ w1 = wr) (fun i _ => n - (intOf i).toNat)
      case atStart => exact ⟨0, by omega, rfl, (fun j hj => absurd hj (Nat.not_lt_zero _)), rfl⟩
      case round =>
        obtain ⟨k, hk, rfl, HI, rfl⟩ := hrel
        by_cases hlt : k < n
        · have xk : w1.cell? ⟨g, k, none⟩ = some (.string (L.getD k ByteArray.empty)) := HC.out k hlt
          obtain ⟨bk, hbk⟩ : ∃ bk, bk = L.getD k ByteArray.empty := ⟨_, rfl⟩
          rw [← hbk] at xk
          have hks : bk.size ≤ 100 := by rw [hbk]; exact HSZ.out _
          have HN : Hid (labP bk → hostL L false (k + 1)) := fun h => hostL_succ HI.out (.inr (hbk ▸ h))
          have HF : Hid (¬ labP bk → ¬ P) := fun h => by
            rw [HL.out, HLEN.out]
            rintro ⟨_, h2⟩
            rcases h2 k hlt with h3 | h3
            · exact HST.out _ h3
            · exact h (hbk ▸ h3)
          clear hbk HI HC x0
          go_wp2_with fail
          refine (labelOk_any bk _ (by omega)).mono ?_
          rintro e w2 ⟨b, rfl, HV, rfl⟩
          cases b with
          | true =>
            have HN3 : Hid (hostL L false (k + 1)) := HN.out (HV.out.1 rfl)
            clear HN HF HV
            go_wp2
            go_roundw
            case rel => exact ⟨k + 1, by omega, by go_num, HN3, by trivial⟩
            case measure => simp [intOf]; omega
          | false =>
            have HF2 : Hid (¬ P) := HF.out (fun h => Bool.false_ne_true (HV.out.2 h))
            clear HN HF HV
            go_wp2
            go_ret
            exact saysB_f HF2.out hb
        · obtain rfl : k = n := by omega
          have HN : Hid P := by show P; rw [HL.out, HLEN.out]; exact ⟨by omega, HI.out⟩
          clear HI
          go_wp2
          go_ret
          exact saysB_t HN.out hb
    · go_wp2
      go_loopw [32] (fun i wr => ∃ k : Nat, k ≤ n ∧ i = .int .i64 k ∧ Hid (hostL L true k) ∧ w1 = wr) (fun i _ => n - (intOf i).toNat)
      case atStart => exact ⟨0, by omega, rfl, (fun j hj => absurd hj (Nat.not_lt_zero _)), rfl⟩
      case round =>
        obtain ⟨k, hk, rfl, HI, rfl⟩ := hrel
        by_cases hlt : k < n
        · have xk : w1.cell? ⟨g, k, none⟩ = some (.string (L.getD k ByteArray.empty)) := HC.out k hlt
          obtain ⟨bk, hbk⟩ : ∃ bk, bk = L.getD k ByteArray.empty := ⟨_, rfl⟩
          rw [← hbk] at xk
          have hks : bk.size ≤ 100 := by rw [hbk]; exact HSZ.out _
          have HN : Hid (labP bk → hostL L true (k + 1)) := fun h => hostL_succ HI.out (.inr (hbk ▸ h))
          have HF : Hid (¬ labP bk → ¬ P) := fun h => by
            rw [HL.out, HLEN.out]
            rintro ⟨_, h2⟩
            rcases h2 k hlt with h3 | h3
            · exact HST.out _ h3
            · exact h (hbk ▸ h3)
          clear hbk HI HC x0
          go_wp2_with fail
          refine (labelOk_any bk _ (by omega)).mono ?_
          rintro e w2 ⟨b, rfl, HV, rfl⟩
          cases b with
          | true =>
            have HN3 : Hid (hostL L true (k + 1)) := HN.out (HV.out.1 rfl)
            clear HN HF HV
            go_wp2
            go_roundw
            case rel => exact ⟨k + 1, by omega, by go_num, HN3, by trivial⟩
            case measure => simp [intOf]; omega
          | false =>
            have HF2 : Hid (¬ P) := HF.out (fun h => Bool.false_ne_true (HV.out.2 h))
            clear HN HF HV
            go_wp2
            go_ret
            exact saysB_f HF2.out hb
        · obtain rfl : k = n := by omega
          have HN : Hid P := by show P; rw [HL.out, HLEN.out]; exact ⟨by omega, HI.out⟩
          clear HI
          go_wp2
          go_ret
          exact saysB_t HN.out hb
    · go_wp2
      go_loopw [32] (fun i wr => ∃ k : Nat, k ≤ n ∧ i = .int .i64 k ∧ Hid (hostL L true k) ∧ w1 = wr) (fun i _ => n - (intOf i).toNat)
      case atStart => exact ⟨0, by omega, rfl, (fun j hj => absurd hj (Nat.not_lt_zero _)), rfl⟩
      case round =>
        obtain ⟨k, hk, rfl, HI, rfl⟩ := hrel
        by_cases hlt : k < n
        · have xk : w1.cell? ⟨g, k, none⟩ = some (.string (L.getD k ByteArray.empty)) := HC.out k hlt
          obtain ⟨bk, hbk⟩ : ∃ bk, bk = L.getD k ByteArray.empty := ⟨_, rfl⟩
          rw [← hbk] at xk
          have hks : bk.size ≤ 100 := by rw [hbk]; exact HSZ.out _
          have HN : Hid (labP bk → hostL L true (k + 1)) := fun h => hostL_succ HI.out (.inr (hbk ▸ h))
          have HF : Hid (¬ labP bk → ¬ P) := fun h => by
            rw [HL.out, HLEN.out]
            rintro ⟨_, h2⟩
            rcases h2 k hlt with h3 | h3
            · exact HST.out _ h3
            · exact h (hbk ▸ h3)
          clear hbk HI HC x0
          go_wp2_with fail
          refine (labelOk_any bk _ (by omega)).mono ?_
          rintro e w2 ⟨b, rfl, HV, rfl⟩
          cases b with
          | true =>
            have HN3 : Hid (hostL L true (k + 1)) := HN.out (HV.out.1 rfl)
            clear HN HF HV
            go_wp2
            go_roundw
            case rel => exact ⟨k + 1, by omega, by go_num, HN3, by trivial⟩
            case measure => simp [intOf]; omega
          | false =>
            have HF2 : Hid (¬ P) := HF.out (fun h => Bool.false_ne_true (HV.out.2 h))
            clear HN HF HV
            go_wp2
            go_ret
            exact saysB_f HF2.out hb
        · obtain rfl : k = n := by omega
          have HN : Hid P := by show P; rw [HL.out, HLEN.out]; exact ⟨by omega, HI.out⟩
          clear HI
          go_wp2
          go_ret
          exact saysB_t HN.out hb

end Go.Proofs.YtoncodoimnideaaGreatDoor
