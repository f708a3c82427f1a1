import Derived.Test.YtpnaopmpiobemaaR6
namespace Go.Proofs.Ytpnaopmpiobemaa
open Go.RowKit

def mkK (bss : List (List Int)) : Nat → List (List Int)
  | 0 => bss
  | k + 1 => (mkK bss k).set k (marks (1 + total (bss.take k)) (bss.getD k []).length)
theorem mkK_len (bss : List (List Int)) (k : Nat) : (mkK bss k).length = bss.length := by
  induction k with
  | zero => rfl
  | succ k ih => simp [mkK, ih]
theorem mkK_get (bss : List (List Int)) (k j : Nat) (hj : j < bss.length) : (mkK bss k).getD j [] = if j < k then marks (1 + total (bss.take j)) (bss.getD j []).length else bss.getD j [] := by
  induction k with
  | zero => simp [mkK]
  | succ k ih =>
    rw [mkK]
    by_cases e : j = k
    · subst e
      rw [if_pos (Nat.lt_succ_self _)]
      simp [mkK_len, hj]
    · have e1 : ((mkK bss k).set k (marks (1 + total (bss.take k)) (bss.getD k []).length)).getD j [] = (mkK bss k).getD j [] := by
        simp only [List.getD_eq_getElem?_getD]
        rw [List.getElem?_set_ne (fun h => e h.symm)]
      rw [e1, ih]
      by_cases c : j < k
      · rw [if_pos c, if_pos (by omega)]
      · rw [if_neg c, if_neg (by omega)]
theorem OwnC.touch {B lo hi : Nat} {w w' : World} {a : Option Addr} {n cap : Nat} {qs : List Rw} {bss : List (List Int)} (h : OwnC B w a n cap qs bss) (ht : Touch lo hi w w') (hd : hi ≤ B) : OwnC B w' a n cap qs bss :=
  ⟨owns_touchM h.row ht hd, h.len, fun j hj => ⟨owns_touchM (h.each j hj).row ht hd, (h.each j hj).byte⟩, h.apart⟩
/-- One row is another. -/
theorem OwnC.turned {B : Nat} {w w' : World} {a : Option Addr} {n cap : Nat} {qs : List Rw} {bss : List (List Int)} (h : OwnC B w a n cap qs bss) {k : Nat} (hk : k < n) {bs : List Int} (ho : Own B w' (qs.getD k rw0).1 (qs.getD k rw0).2 (qs.getD k rw0).2 bs) (hg : w.grownBy w' (rwv (qs.getD k rw0)).ownBlock) : OwnC B w' a n cap qs (bss.set k bs) := by
  refine ⟨h.row.kept hg (blocks_apart h.row (h.each k hk).row (by decide)), by simp [h.len], fun j hj => ?_, h.apart⟩
  by_cases e : j = k
  · subst e
    have : (bss.set j bs).getD j [] = bs := by simp [h.len, hj]
    rw [this]; exact ho
  · have : (bss.set k bs).getD j [] = bss.getD j [] := by
      simp only [List.getD_eq_getElem?_getD]
      rw [List.getElem?_set_ne (fun h => e h.symm)]
    rw [this]
    refine ⟨(h.each j hj).row.kept hg ?_, (h.each j hj).byte⟩
    cases hb : (rwv (qs.getD j rw0)).ownBlock with
    | none => exact .inl hb
    | some l =>
      right
      intro h2
      have h3 : (rwv (qs.getD k rw0)).ownBlock = some l := by rw [← h2]; exact hb
      exact e (h.apart j k l hj hk hb h3)

set_option maxRecDepth 10000 in
set_option maxHeartbeats 2000000 in
theorem markRowC_any (B hi : Nat) (a : Option Addr) (n cap : Nat) (qs : List Rw) (bss : List (List Int)) (w : World) (h : OwnC B w a n cap qs bss) (hn : n ≤ 30) (ht : total bss ≤ 160000) (hh : ∀ j l, j < n → (rwv (qs.getD j rw0)).ownBlock = some l → l < hi) :
    Calls Try.prog 34 #[.slice a n cap, .int .i64 1] w fun e w' => e = .returned (.int .i64 ((1 + total bss : Nat) : Int)) ∧ OwnC B w' a n cap qs (mkK bss n) ∧ Touch B hi w w' := by
  have HO : Hid (OwnC B w a n cap qs bss) := h
  have HL : Hid (bss.length = n) := h.len
  have HT : Hid (total bss ≤ 160000) := ht
  have HH : Hid (∀ j l, j < n → (rwv (qs.getD j rw0)).ownBlock = some l → l < hi) := hh
  clear h ht hh
  go_enter Try.func34, Try.ntmps34
  go_wp2
  go_loopw [1, 5] (fun s i wr => ∃ k kk : Nat, k ≤ n ∧ i = .int .i64 k ∧ s = .int .i64 kk ∧ kk ≤ 160001 ∧ Hid (kk = 1 + total (bss.take k)) ∧ Hid (OwnC B wr a n cap qs (mkK bss k)) ∧ Touch B hi w wr) (fun _ i _ => n - (intOf i).toNat)
  case atStart => exact ⟨0, 1, Nat.zero_le _, rfl, rfl, by decide, by show _ = _; simp [total], HO, ⟨rfl, rfl, rfl, Nat.le_refl _, fun _ _ _ => rfl⟩⟩
  case round =>
    obtain ⟨k, kk, hk, rfl, rfl, hkb, HKB, HOC, htr⟩ := hrel
    by_cases hlt : k < n
    · have hkl : k < bss.length := by rw [HL.out]; exact hlt
      obtain ⟨b, off, rfl, hb, ak, nk, ck, hc, hrk, hnk⟩ := HOC.out.rows.get k hlt
      obtain ⟨⟨aq, nq⟩, hq⟩ : ∃ q, q = qs.getD k rw0 := ⟨_, rfl⟩
      have hoq := HOC.out.each k hlt
      have hcell : wr.cell? ⟨b, off + k, none⟩ = some (rwv (qs.getD k rw0)) := by
        rcases HOC.out.row.2 with ⟨hv, _⟩ | ⟨g, cap', cur, hv, _⟩
        · simp at hv
        · simp only [Value.slice.injEq, Option.some.injEq, Addr.mk.injEq, and_true] at hv
          obtain ⟨⟨rfl, rfl⟩, _, rfl⟩ := hv
          rw [Nat.zero_add, HOC.out.row.cellAt k (by omega)]
          simp [HOC.out.qlen, hlt]
      rw [← hq] at hoq hcell
      unfold rwv at hcell
      simp only at hoq hcell
      have hgk : (mkK bss k).getD k [] = bss.getD k [] := by rw [mkK_get bss k k hkl, if_neg (Nat.lt_irrefl _)]
      rw [hgk] at hoq
      have hlen : (bss.getD k []).length = nq := hoq.length
      have HSP : Hid (total (bss.take (k + 1)) = total (bss.take k) + nq) := by show _ = _; rw [total_split bss k hkl, hlen]
      have hkn : kk + nq ≤ 160001 := by have := HSP.out; have := total_take bss (k + 1); have := HT.out; have := HKB.out; omega
      have HOQ : Hid (Own B wr aq nq nq (bss.getD k [])) := hoq
      have HQ : Hid ((aq, nq) = qs.getD k rw0) := hq
      have hlti : (k : Int) < (n : Int) := by omega
      have HLE : Hid ((bss.getD k []).length = nq) := hlen
      clear hc hrk hnk hoq hq hgk hlen
      go_wp2_with fail
      refine (markByteS_any B aq nq nq kk (bss.getD k []) _ HOQ.out (by omega) (by omega)).mono ?_
      rintro e w2 ⟨rfl, ho2, hg2⟩
      have T2 : Touch B hi wr w2 := touch_grownM hg2 fun l hl => ⟨(HOQ.out.row.lt l hl).1, HH.out k l hlt (by rw [← HQ.out]; exact hl)⟩
      have HOC2 : Hid (OwnC B w2 (some ⟨b, off, none⟩) n cap qs (mkK bss (k + 1))) := by
        rw [mkK, ← HKB.out, HLE.out]
        exact HOC.out.turned hlt (by rw [← HQ.out]; exact ho2) (by rw [← HQ.out]; exact hg2)
      have HKB2 : Hid (kk + nq = 1 + total (bss.take (k + 1))) := by show _ = _; rw [HSP.out, HKB.out]; omega
      have T3 := htr.trans T2
      clear HOC HKB htr T2 ho2 hg2
      go_wp2
      go_roundw
      case rel => exact ⟨k + 1, kk + nq, by omega, by go_num, rfl, hkn, HKB2, HOC2, T3⟩
      case measure => simp [intOf]; omega
    · obtain rfl : k = n := by omega
      have HE : Hid (kk = 1 + total bss) := by show _ = _; rw [HKB.out, List.take_of_length_le (by rw [HL.out]; exact Nat.le_refl _)]
      go_wp2
      go_ret
      exact ⟨by rw [← HE.out]; rfl, HOC.out, htr⟩

set_option maxRecDepth 10000 in
set_option maxHeartbeats 1000000 in
theorem markCascadeC_any (B hi : Nat) (a : Option Addr) (n cap : Nat) (qs : List Rw) (bss : List (List Int)) (w : World) (h : OwnC B w a n cap qs bss) (hn : n ≤ 30) (ht : total bss ≤ 160000) (hh : ∀ j l, j < n → (rwv (qs.getD j rw0)).ownBlock = some l → l < hi) :
    Calls Try.prog 13 #[.agg #[.slice a n cap], .int .i64 1] w fun e w' => e = .returned (.int .i64 ((1 + total bss : Nat) : Int)) ∧ OwnC B w' a n cap qs (mkK bss n) ∧ Touch B hi w w' := by
  have hbb : Below w.heap.size w (w.alloc (.cells #[.slice a n cap] 25)) := (Below.refl _ _).alloc (Nat.le_refl _) _
  go_enter Try.func13, Try.ntmps13
  go_wp2_with fail
  refine (markRowC_any B hi a n cap qs bss _ (h.kept hbb) hn ht hh).mono ?_
  rintro e w2 ⟨rfl, ho2, ht2⟩
  go_wp2
  go_ret
  exact ⟨rfl, ho2, (Touch.of_below hbb).trans ht2⟩

set_option maxRecDepth 10000 in
set_option maxHeartbeats 2000000 in
theorem heldRowS_any (a : Option Addr) (n cap : Nat) (bss : List (List Int)) (w : World) (h : Rows2 w a n (mkK bss n)) (hl : bss.length = n) (hn : n ≤ 30) (ht : total bss ≤ 160000) :
    Calls Try.prog 35 #[.slice a n cap, .int .i64 1] w fun e w' => e = .returned (.int .i64 ((1 + total bss : Nat) : Int)) ∧ Below w.heap.size w w' := by
  have H0 : Hid (Rows2 w a n (mkK bss n)) := h
  have HL : Hid (bss.length = n) := hl
  have HT : Hid (total bss ≤ 160000) := ht
  clear h hl ht
  go_enter Try.func35, Try.ntmps35
  go_wp2
  go_loop [1, 5] (fun s i => ∃ k kk : Nat, k ≤ n ∧ i = .int .i64 k ∧ s = .int .i64 kk ∧ kk ≤ 160001 ∧ Hid (kk = 1 + total (bss.take k))) (fun _ i => n - (intOf i).toNat)
  case atStart => exact ⟨0, 1, Nat.zero_le _, rfl, rfl, by decide, by show _ = _; simp [total]⟩
  case round =>
    obtain ⟨k, kk, hk, rfl, rfl, hkb, HKB⟩ := hrel
    by_cases hlt : k < n
    · have hkl : k < bss.length := by rw [HL.out]; exact hlt
      obtain ⟨b, off, rfl, hb, ak, nk, ck, hc, hrk, hnk⟩ := H0.out.get k hlt
      rw [mkK_get bss n k hkl, if_pos hlt, ← HKB.out] at hrk
      have hlen : (bss.getD k []).length = nk := by rw [← hrk.len, marks_len]
      rw [hlen] at hrk
      have HSP : Hid (total (bss.take (k + 1)) = total (bss.take k) + nk) := by show _ = _; rw [total_split bss k hkl, hlen]
      have hkn : kk + nk ≤ 160001 := by have := HSP.out; have := total_take bss (k + 1); have := HT.out; have := HKB.out; omega
      have HRK : Hid (Row w ak nk (marks kk nk)) := hrk
      have hlti : (k : Int) < (n : Int) := by omega
      have hk0 : ¬ (((kk + nk : Nat) : Int) < 0) := by omega
      clear hrk hnk hlen
      go_wp2_with fail
      refine (heldByteS_any ak nk ck kk _ HRK.out (by omega) (by omega)).mono ?_
      rintro e w2 ⟨rfl, hw2⟩
      subst hw2
      have HKB2 : Hid (kk + nk = 1 + total (bss.take (k + 1))) := by show _ = _; rw [HSP.out, HKB.out]; omega
      clear HKB
      go_wp2
      go_round
      case rel => exact ⟨k + 1, kk + nk, by omega, by go_num, rfl, hkn, HKB2⟩
      case measure => simp [intOf]; omega
    · obtain rfl : k = n := by omega
      have HE : Hid (kk = 1 + total bss) := by show _ = _; rw [HKB.out, List.take_of_length_le (by rw [HL.out]; exact Nat.le_refl _)]
      go_wp2
      go_ret
      have he : (kk : Int) = ((1 + total bss : Nat) : Int) := by rw [HE.out]
      exact ⟨by first | (rw [← he]; rfl) | (show Ending.returned (Value.int .i64 (kk : Int)) = _; rw [he]; push_cast; rfl), Below.refl _ _⟩

set_option maxRecDepth 10000 in
set_option maxHeartbeats 1000000 in
theorem heldCascade_any (a : Option Addr) (n cap : Nat) (bss : List (List Int)) (w : World) (h : Rows2 w a n (mkK bss n)) (hl : bss.length = n) (hn : n ≤ 30) (ht : total bss ≤ 160000) :
    Calls Try.prog 14 #[.agg #[.slice a n cap], .int .i64 1] w fun e w' => e = .returned (.int .i64 ((1 + total bss : Nat) : Int)) ∧ Below w.heap.size w w' := by
  have hbb : Below w.heap.size w (w.alloc (.cells #[.slice a n cap] 25)) := (Below.refl _ _).alloc (Nat.le_refl _) _
  have hk0 : ¬ (((1 + total bss : Nat) : Int) < 0) := by omega
  go_enter Try.func14, Try.ntmps14
  go_wp2_with fail
  refine (heldRowS_any a n cap bss _ (h.kept hbb) hl hn ht).mono ?_
  rintro e w2 ⟨rfl, hb2⟩
  obtain ⟨kk, hkk⟩ : ∃ kk : Int, kk = ((1 + total bss : Nat) : Int) := ⟨_, rfl⟩
  rw [← hkk] at hk0 ⊢
  go_wp2
  go_ret
  exact ⟨rfl, keepT hbb hb2⟩

end Go.Proofs.Ytpnaopmpiobemaa
