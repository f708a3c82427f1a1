import Derived.Test.YtpnaopmpiobemaaB2
namespace Go.Proofs.Ytpnaopmpiobemaa
open Go.RowKit

def BitsN (bs : List Int) (n : Nat) : Prop := ∀ k, k < n → bs.getD k 0 ≤ 1
def AllB (bss : List (List Int)) (n : Nat) : Prop := ∀ k, k < n → BitsN (bss.getD k []) (bss.getD k []).length
theorem bits_of {w : World} {a : Option Addr} {n : Nat} {bs : List Int} (h : Row w a n bs) (hb : BitsN bs n) : Bits bs := by
  intro k
  refine ⟨(h.byte k).1, ?_⟩
  by_cases hk : k < n
  · exact hb k hk
  · rw [List.getD_eq_getElem?_getD, List.getElem?_eq_none (by rw [h.len]; omega)]; simp

set_option maxRecDepth 10000 in
set_option maxHeartbeats 1000000 in
theorem isBit_any (v : Int) (w : World) : Calls Try.prog 65 #[.int .u8 v] w fun e w' => e = .returned (.bool (decide (v ≤ 1))) ∧ w = w' := by
  by_cases h : v ≤ 1
  · rw [decide_eq_true h]
    go_enter Try.func65, Try.ntmps65
    go_wp2
    go_ret
    exact ⟨rfl, rfl⟩
  · rw [decide_eq_false h]
    have h' : 1 < v := by omega
    go_enter Try.func65, Try.ntmps65
    go_wp2
    go_ret
    exact ⟨rfl, rfl⟩

set_option maxRecDepth 10000 in
set_option maxHeartbeats 1000000 in
theorem everyBit_any (a : Option Addr) (n c : Nat) (bs : List Int) (w : World) (h : Row w a n bs) (hn : n ≤ 9223372036854775807) :
    Calls Try.prog 64 #[.slice a n c, .func (Fn.func 65) #[] #[]] w (SaysG (BitsN bs n) w) := by
  have H0 : Hid (Row w a n bs) := h
  clear h
  go_enter Try.func64, Try.ntmps64
  go_wp2
  go_loop [9] (fun i => ∃ k : Nat, k ≤ n ∧ i = .int .i64 k ∧ Hid (BitsN bs k)) (fun i => n - (intOf i).toNat)
  case atStart => exact ⟨0, Nat.zero_le _, rfl, fun k hk => absurd hk (Nat.not_lt_zero _)⟩
  case round =>
    obtain ⟨k, hk, rfl, HE⟩ := hrel
    by_cases hlt : k < n
    · obtain ⟨b, off, rfl, hb, hc⟩ := H0.out.get k hlt
      obtain ⟨v, hv⟩ : ∃ v, v = bs.getD k 0 := ⟨_, rfl⟩
      have HV : Hid (v = bs.getD k 0) := hv
      rw [← hv] at hc
      have hlti : (k : Int) < (n : Int) := by omega
      clear hv
      go_wp2_with fail
      refine (isBit_any v _).mono ?_
      rintro e w2 ⟨rfl, hw2⟩
      subst hw2
      by_cases h1 : v ≤ 1
      · rw [decide_eq_true h1]
        go_wp2
        go_round
        case rel => exact ⟨k + 1, by omega, by go_num, fun j hj => by
          by_cases e : j < k
          · exact HE.out j e
          · obtain rfl : j = k := by omega
            rw [← HV.out]; exact h1⟩
        case measure => simp [intOf]; omega
      · rw [decide_eq_false h1]
        have HN : Hid (¬ BitsN bs n) := fun e => h1 (by rw [HV.out]; exact e k hlt)
        go_wp2
        go_ret
        exact saysG_f HN.out (Below.refl _ _)
    · obtain rfl : k = n := by omega
      go_wp2
      go_ret
      exact saysG_t HE.out (Below.refl _ _)

set_option maxRecDepth 10000 in
set_option maxHeartbeats 1000000 in
theorem allBits_any (a : Option Addr) (n c : Nat) (bs : List Int) (w : World) (h : Row w a n bs) (hn : n ≤ 9223372036854775807) :
    Calls Try.prog 43 #[.agg #[.slice a n c]] w (SaysG (BitsN bs n) w) := by
  have hb0 : Below w.heap.size w (w.alloc (.cells #[.slice a n c] 54)) := (Below.refl _ _).alloc (Nat.le_refl _) _
  go_enter Try.func43, Try.ntmps43
  go_wp2_with fail
  refine (everyBit_any a n c bs _ (h.kept hb0) hn).mono ?_
  rintro e w2 ⟨b, rfl, HB, hb2⟩
  go_wp2
  go_ret
  exact ⟨b, rfl, HB, keepT hb0 hb2⟩

set_option maxRecDepth 10000 in
set_option maxHeartbeats 2000000 in
theorem everyAll_any (a : Option Addr) (n c : Nat) (bss : List (List Int)) (w : World) (h : Rows2 w a n bss) (hn : n ≤ 9223372036854775807) (hp : ∀ k, k < n → (bss.getD k []).length ≤ 9223372036854775807) :
    Calls Try.prog 42 #[.slice a n c, .func (Fn.func 43) #[] #[]] w (SaysG (AllB bss n) w) := by
  have H0 : Hid (Rows2 w a n bss) := h
  have HP : Hid (∀ k, k < n → (bss.getD k []).length ≤ 9223372036854775807) := hp
  clear h hp
  go_enter Try.func42, Try.ntmps42
  go_wp2
  go_loopw [9] (fun i wr => ∃ k : Nat, k ≤ n ∧ i = .int .i64 k ∧ Hid (AllB bss k) ∧ Below w.heap.size w wr) (fun i _ => n - (intOf i).toNat)
  case atStart => exact ⟨0, Nat.zero_le _, rfl, fun k hk => absurd hk (Nat.not_lt_zero _), Below.refl _ _⟩
  case round =>
    obtain ⟨k, hk, rfl, HE, hbr⟩ := hrel
    have hws := hbr.size
    by_cases hlt : k < n
    · obtain ⟨b, off, rfl, hb, ak, nk, ck, hc, hrk, hnk⟩ := H0.out.get k hlt
      have hcr : wr.cell? ⟨b, off + k, none⟩ = some (.slice ak nk ck) := (hbr.cell (p := ⟨b, off + k, none⟩) hb).trans hc
      have hnk' : nk ≤ 9223372036854775807 := by rw [← hrk.len]; exact HP.out k hlt
      have HLN : Hid ((bss.getD k []).length = nk) := hrk.len
      have hbw : b < wr.heap.size := by omega
      have hbz : Below wr.heap.size wr (wr.alloc (.cells #[.slice ak nk ck] 54)) := (Below.refl _ _).alloc (Nat.le_refl _) _
      have HRK : Hid (Row (wr.alloc (.cells #[.slice ak nk ck] 54)) ak nk (bss.getD k [])) := (hrk.kept hbr).kept hbz
      have hlti : (k : Int) < (n : Int) := by omega
      clear hc hrk hnk
      go_wp2_with fail
      refine (allBits_any ak nk ck (bss.getD k []) _ HRK.out hnk').mono ?_
      rintro e w2 ⟨r, rfl, HR, hb2⟩
      have B2 : Below w.heap.size w w2 := hbr.trans ((keepT hbz hb2).mono hws)
      cases r with
      | true =>
        have HN : Hid (AllB bss (k + 1)) := fun j hj => by
          by_cases e : j < k
          · exact HE.out j e
          · obtain rfl : j = k := by omega
            rw [HLN.out]; exact HR.out.1 rfl
        clear HR HE
        go_wp2
        go_roundw
        case rel => exact ⟨k + 1, by omega, by go_num, HN, B2⟩
        case measure => simp [intOf]; omega
      | false =>
        have HN : Hid (¬ AllB bss n) := fun e => by
          have h1 := e k hlt
          rw [HLN.out] at h1
          have := HR.out.2 h1
          cases this
        clear HR HE
        go_wp2
        go_ret
        exact saysG_f HN.out B2
    · obtain rfl : k = n := by omega
      go_wp2
      go_ret
      exact saysG_t HE.out hbr

set_option maxRecDepth 10000 in
set_option maxHeartbeats 2000000 in
theorem bitCount_any (a : Option Addr) (n c : Nat) (bss : List (List Int)) (w : World) (h : Rows2 w a n bss) (hn : n ≤ 9223372036854775807) (ht : total bss ≤ 5000000) :
    Calls Try.prog 41 #[.agg #[.slice a n c]] w fun e w' => e = .returned (.int .i64 (total bss)) ∧ Below w.heap.size w w' := by
  have H0 : Hid (Rows2 w a n bss) := h
  have HL : Hid (bss.length = n) := h.len
  have HT : Hid (total bss ≤ 5000000) := ht
  obtain ⟨wb, hwb⟩ : ∃ wb, wb = w.alloc (.cells #[.slice a n c] 25) := ⟨_, rfl⟩
  have hbb : Below w.heap.size w wb := by rw [hwb]; exact (Below.refl _ _).alloc (Nat.le_refl _) _
  have hbx : wb.heap[w.heap.size]? = some (.cells #[.slice a n c] 25) := by rw [hwb]; exact heap_alloc_new w _
  have hsz : w.heap.size < wb.heap.size := (Array.getElem?_eq_some_iff.1 hbx).1
  have kb : wb.cell? ⟨w.heap.size, 0, none⟩ = some (.slice a n c) := (cell_of_row _ _ 0 _ 25 (0, 0) hbx).trans rfl
  have HWB : Hid (_ = _) := hwb
  clear h ht hwb hbx
  go_enter Try.func41, Try.ntmps41
  go_upto_region 1 with fail
  rw [← HWB.out]
  clear HWB
  go_wp2
  go_loopw [3, 9] (fun s i wr => ∃ k t : Nat, k ≤ n ∧ i = .int .i64 k ∧ s = .int .i64 t ∧ t ≤ 5000000 ∧ Hid (t = total (bss.take k)) ∧ Below w.heap.size w wr) (fun _ i _ => n - (intOf i).toNat)
  case atStart => exact ⟨0, 0, Nat.zero_le _, rfl, rfl, by decide, by show _ = _; simp [total], hbb⟩
  case round =>
    obtain ⟨k, t, hk, rfl, rfl, ht1, HTK, hbr⟩ := hrel
    have hws := hbr.size
    by_cases hlt : k < n
    · obtain ⟨b, off, rfl, hb, ak, nk, ck, hc, hrk, hnk⟩ := H0.out.get k hlt
      have hcr : wr.cell? ⟨b, off + k, none⟩ = some (.slice ak nk ck) := (hbr.cell (p := ⟨b, off + k, none⟩) hb).trans hc
      have hbw : b < wr.heap.size := by omega
      have hkl : k < bss.length := by have := HL.out; omega
      have HN : Hid (t + nk = total (bss.take (k + 1))) := by show _ = _; rw [total_split bss k hkl, hrk.len, HTK.out]
      have hle : t + nk ≤ 5000000 := by have := HN.out; have := total_take bss (k + 1); have := HT.out; omega
      have hlti : (k : Int) < (n : Int) := by omega
      have B2 : Below w.heap.size w (wr.alloc (.cells #[.slice ak nk ck] 54)) := hbr.alloc hws _
      clear hc hrk hnk HTK
      go_wp2
      go_roundw
      case rel => exact ⟨k + 1, t + nk, by omega, by go_num, by go_num, hle, HN, B2⟩
      case measure => simp [intOf]; omega
    · obtain rfl : k = n := by omega
      have HN : Hid (t = total bss) := by show _ = _; rw [HTK.out, List.take_of_length_le (by rw [HL.out]; exact Nat.le_refl _)]
      go_wp2
      go_ret
      exact ⟨by rw [← HN.out]; rfl, hbr⟩

set_option maxRecDepth 10000 in
set_option maxHeartbeats 2000000 in
theorem eights_any (a : Option Addr) (n c : Nat) (bs : List Int) (w : World) (h : Row w a n bs) (hbit : Bits bs) (hn : n ≤ 1048576) :
    Calls Try.prog 45 #[.slice a n c] w fun e w' => ∃ a' c', e = .returned (.slice a' ((n + 7) / 8) c') ∧ Own w.heap.size w' a' ((n + 7) / 8) c' (packL bs) ∧ Below w.heap.size w w' := by
  have H0 : Hid (Row w a n bs) := h
  have HBI : Hid (Bits bs) := hbit
  have HL : Hid (bs.length = n) := h.len
  obtain ⟨wb, hwb⟩ : ∃ wb, wb = w.alloc (.cells #[.slice none 0 0, .int .i64 0] 102) := ⟨_, rfl⟩
  have hbb : Below w.heap.size w wb := by rw [hwb]; exact (Below.refl _ _).alloc (Nat.le_refl _) _
  have HX : Hid (wb.heap[w.heap.size]? = some (.cells #[.slice none 0 0, .int .i64 ((0 : Nat) : Int)] 102)) := by show _ = _; rw [hwb]; exact heap_alloc_new w _
  have HWB : Hid (_ = _) := hwb
  clear h hwb hbit
  go_enter Try.func45, Try.ntmps45
  go_upto_region 2 with fail
  rw [← HWB.out]
  clear HWB
  go_wp2
  go_loopw [8] (fun i wr => ∃ (k : Nat) (ak : Option Addr) (ck : Nat), k ≤ n ∧ i = .int .i64 k ∧ Hid (wr.heap[w.heap.size]? = some (.cells #[.slice ak ((k + 7) / 8) ck, .int .i64 k] 102)) ∧ Hid (Own (w.heap.size + 1) wr ak ((k + 7) / 8) ck (pkL bs k ((k + 7) / 8))) ∧ Below w.heap.size w wr) (fun i _ => n - (intOf i).toNat)
  case atStart => exact ⟨0, none, 0, Nat.zero_le _, rfl, HX, own_none _ _, hbb⟩
  case round =>
    obtain ⟨k, ak, ck, hk, rfl, HG, HO, hbr⟩ := hrel
    have hws := hbr.size
    by_cases hlt : k < n
    · obtain ⟨b, off, rfl, hb, hc⟩ := H0.out.get k hlt
      have hcr : wr.cell? ⟨b, off + k, none⟩ = some (.int .u8 (bs.getD k 0)) := (hbr.cell (p := ⟨b, off + k, none⟩) hb).trans hc
      have hbw : b < wr.heap.size := by omega
      have hlti : (k : Int) < (n : Int) := by omega
      have h01 : bs.getD k 0 = 0 ∨ bs.getD k 0 = 1 := by have := HBI.out k; omega
      clear hc
      rcases h01 with e | e
      · rw [e] at hcr
        have HON : Hid (false = decide (bs.getD k 0 = 1)) := by show _ = _; rw [e]; rfl
        clear e
        go_wp2_with fail
        refine (bit_any w.heap.size ak ((k + 7) / 8) ck k bs false _ HBI.out HG.out HO.out rfl (by omega) HON.out).mono ?_
        rintro e w2 ⟨rfl, a2, c2, hg2, ho2, hb2⟩
        have HG2 : Hid (_ = _) := hg2
        have HO2 : Hid (_) := ho2
        have B2 := hbr.trans hb2
        clear hg2 ho2 hb2
        go_wp2
        go_roundw
        case rel => exact ⟨k + 1, a2, c2, by omega, by go_num, HG2, HO2, B2⟩
        case measure => simp [intOf]; omega
      · rw [e] at hcr
        have HON : Hid (true = decide (bs.getD k 0 = 1)) := by show _ = _; rw [e]; rfl
        clear e
        go_wp2_with fail
        refine (bit_any w.heap.size ak ((k + 7) / 8) ck k bs true _ HBI.out HG.out HO.out rfl (by omega) HON.out).mono ?_
        rintro e w2 ⟨rfl, a2, c2, hg2, ho2, hb2⟩
        have HG2 : Hid (_ = _) := hg2
        have HO2 : Hid (_) := ho2
        have B2 := hbr.trans hb2
        clear hg2 ho2 hb2
        go_wp2
        go_roundw
        case rel => exact ⟨k + 1, a2, c2, by omega, by go_num, HG2, HO2, B2⟩
        case measure => simp [intOf]; omega
    · obtain rfl : k = n := by omega
      have j0 : wr.cell? ⟨w.heap.size, 0, none⟩ = some (.slice ak ((k + 7) / 8) ck) := (cell_of_row wr _ 0 _ 102 (0, 0) HG.out).trans rfl
      have hgs : w.heap.size < wr.heap.size := (Array.getElem?_eq_some_iff.1 HG.out).1
      have HOE : Hid (Own w.heap.size wr ak ((k + 7) / 8) ck (packL bs)) := by
        unfold packL; rw [HL.out]; exact HO.out.mono (Nat.le_succ _)
      clear HO HG
      go_wp2
      go_ret
      exact ⟨_, _, rfl, HOE.out, hbr⟩

end Go.Proofs.Ytpnaopmpiobemaa
