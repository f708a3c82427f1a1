import Derived.Test.YtdkgilkjcndonaaPL5
import Derived.Test.YtdkgilkjcndonaaPL9a
namespace Go.Proofs.Ytdkgilkjcndonaa
open Go.RowKit

set_option maxRecDepth 10000 in
set_option maxHeartbeats 400000 in
theorem l12First_any (now : Bool) (n : Nat) (w : World) (hn : n ≤ 8) : Calls Try.prog 43 #[.bool now, .int .i64 n] w fun e w' => e = .returned (.int .i64 (ctr0 now n)) ∧ w' = w := by
  cases now with
  | true =>
    go_enter Try.func43, Try.ntmps43
    go_wp2
    go_ret
    exact ⟨rfl, rfl⟩
  | false =>
    have hw : IntKind.i64.wrap ((n : Int) + 1) = (n : Int) + 1 := by rw [IntKind.wrap_i64]; omega
    go_enter Try.func43, Try.ntmps43
    go_wp2
    go_ret
    exact ⟨rfl, rfl⟩

set_option maxRecDepth 10000 in
set_option maxHeartbeats 1000000 in
theorem l12Next_any (c : Int) (self : Bool) (says : Int) (w : World) (h0 : 0 ≤ c) (h9 : c ≤ 9) : Calls Try.prog 44 #[.int .i64 c, .bool self, .int .i64 says] w fun e w' => e = .returned (.int .i64 (nxt c self says)) ∧ w' = w := by
  obtain ⟨v, hv⟩ : ∃ v, v = nxt c self says := ⟨_, rfl⟩
  rw [← hv]
  have HV : Hid (v = nxt c self says) := hv
  clear hv
  cases self with
  | true =>
    have HV2 : Hid (v = if 0 ≤ says ∧ says < c then says else c) := by
      show _ = _
      rw [HV.out]; unfold nxt
      simp only [Bool.true_eq_false, false_and, if_false]
    by_cases g : 0 ≤ says
    · by_cases l : says < c
      · have hv2 : says = v := by rw [HV2.out, if_pos ⟨g, l⟩]
        have HE : Hid (_ = _) := hv2
        clear hv2
        go_enter Try.func44, Try.ntmps44
        go_wp2
        go_ret
        exact ⟨by rw [← HE.out]; rfl, rfl⟩
      · have hv2 : c = v := by rw [HV2.out, if_neg (fun h => l h.2)]
        have HE : Hid (_ = _) := hv2
        clear hv2
        go_enter Try.func44, Try.ntmps44
        go_wp2
        go_ret
        exact ⟨by rw [← HE.out]; rfl, rfl⟩
    · have hv2 : c = v := by rw [HV2.out, if_neg (fun h => g h.1)]
      have HE : Hid (_ = _) := hv2
      clear hv2
      go_enter Try.func44, Try.ntmps44
      go_wp2
      go_ret
      exact ⟨by rw [← HE.out]; rfl, rfl⟩
  | false =>
    by_cases hc : 0 < c
    · have HV2 : Hid (v = if 0 ≤ says ∧ says < c - 1 then says else c - 1) := by
        show _ = _
        rw [HV.out]; unfold nxt
        rw [if_pos (⟨rfl, hc⟩ : false = false ∧ 0 < c)]
      by_cases g : 0 ≤ says
      · by_cases l : says < c - 1
        · have hv2 : says = v := by rw [HV2.out, if_pos ⟨g, l⟩]
          have HE : Hid (_ = _) := hv2
          clear hv2
          go_enter Try.func44, Try.ntmps44
          go_wp2
          go_ret
          exact ⟨by rw [← HE.out]; rfl, rfl⟩
        · have hv2 : c - 1 = v := by rw [HV2.out, if_neg (fun h => l h.2)]
          have HE : Hid (_ = _) := hv2
          clear hv2
          go_enter Try.func44, Try.ntmps44
          go_wp2
          go_ret
          exact ⟨by rw [← HE.out]; rfl, rfl⟩
      · have hv2 : c - 1 = v := by rw [HV2.out, if_neg (fun h => g h.1)]
        have HE : Hid (_ = _) := hv2
        clear hv2
        go_enter Try.func44, Try.ntmps44
        go_wp2
        go_ret
        exact ⟨by rw [← HE.out]; rfl, rfl⟩
    · have HV2 : Hid (v = if 0 ≤ says ∧ says < c then says else c) := by
        show _ = _
        rw [HV.out]; unfold nxt
        rw [if_neg (fun h : false = false ∧ 0 < c => hc h.2)]
      have hv2 : c = v := by rw [HV2.out, if_neg (fun h => by omega)]
      have HE : Hid (_ = _) := hv2
      clear hv2
      by_cases g : 0 ≤ says
      · have l : ¬ (says < c) := by omega
        go_enter Try.func44, Try.ntmps44
        go_wp2
        go_ret
        exact ⟨by rw [← HE.out]; rfl, rfl⟩
      · go_enter Try.func44, Try.ntmps44
        go_wp2
        go_ret
        exact ⟨by rw [← HE.out]; rfl, rfl⟩

/-- A number is put to others, but not twice. -/
def putL (zs : List Int) (x : Int) : List Int := if x ∈ zs then zs else zs ++ [x]
theorem mem_putL (zs : List Int) (x y : Int) : y ∈ putL zs x ↔ y ∈ zs ∨ y = x := by
  unfold putL
  split
  · rename_i h
    exact ⟨.inl, fun e => e.elim id (fun e => e ▸ h)⟩
  · simp
theorem len_putL (zs : List Int) (x : Int) : (putL zs x).length ≤ zs.length + 1 := by
  unfold putL
  split <;> simp
/-- What l12Put answers. -/
def PutR (B : Nat) (w : World) (l : List Int) (e : Ending) (w' : World) : Prop := ∃ a n c, e = .returned (.slice a n c) ∧ OwnL B w' a n c l ∧ Below B w w'

set_option maxRecDepth 10000 in
set_option maxHeartbeats 1000000 in
theorem l12Put_any (B : Nat) (a : Option Addr) (n c : Nat) (zs : List Int) (x : Int) (w : World) (h : OwnL B w a n c zs) (hn : n ≤ 100000000) (hB : B ≤ w.heap.size) :
    Calls Try.prog 51 #[.slice a n c, .int .i64 x] w (PutR B w (putL zs x)) := by
  obtain ⟨i0, ih, hz0, hz1, hz2⟩ := info_parts Try.info2P
  have H0 : Hid (OwnL B w a n c zs) := h
  clear h
  by_cases hx : x ∈ zs
  · have HP : Hid (putL zs x = zs) := if_pos hx
    have HD : Hid (decide (x ∈ zs) = true) := decide_eq_true hx
    clear hx
    go_enter Try.func51, Try.ntmps51
    go_wp2_with fail
    refine (l1HasNum_any a n c zs x _ H0.out.toRow (by omega)).mono ?_
    rintro e w1 ⟨rfl, hw1⟩; have hw2 := hw1.symm; subst hw2
    rw [HD.out]
    go_wp2
    go_ret
    exact ⟨a, n, c, rfl, by rw [HP.out]; exact H0.out, Below.refl _ _⟩
  · have HP : Hid (zs ++ [x] = putL zs x) := (if_neg hx).symm
    have HD : Hid (decide (x ∈ zs) = false) := decide_eq_false hx
    clear hx
    go_enter Try.func51, Try.ntmps51
    go_wp2_with fail
    refine (l1HasNum_any a n c zs x _ H0.out.toRow (by omega)).mono ?_
    rintro e w1 ⟨rfl, hw1⟩; have hw2 := hw1.symm; subst hw2
    rw [HD.out]
    go_wp2_with (at_builtin; refine wpList_append_own _ rfl _ _ 32 rfl B 2 i0 (.int .i64 0) 1 8 Try.underlying32 ih hz0 hz1 hz2 rfl (by decide) _ n _ rfl (H0.out.kept ((Below.refl _ _).alloc (Nat.le_refl _) _)).row ⟨w.heap.size, 0, none⟩ 1 1 ([x].map (Value.int .i64)) rfl rfl (cell_one64P _ _) (ints_oneCell .i64 [x]) (by unfold maxLen; omega) (by omega) (by simp; omega) ?_; intro v' w5 hown' hgrow' _; rw [← List.map_append, HP.out] at hown'; obtain ⟨a5, c5, rfl, ho5⟩ := ownL_appended hown'; have hA5 : Below B w w5 := (((Below.refl B w).alloc hB _).grown hgrow' (by simp; omega) (fun l hl => ((H0.out.kept ((Below.refl w.heap.size w).alloc (Nat.le_refl _) (.cells #[.int .i64 x] 2))).row.lt l hl).1)))
    go_ret
    exact ⟨a5, n + 1, c5, rfl, ho5, hA5⟩

end Go.Proofs.Ytdkgilkjcndonaa
