import Derived.Test.YtpnaopmpiobemaaC3
namespace Go.Proofs.Ytpnaopmpiobemaa
open Go.RowKit

/-- A flag that says P, and nothing old is turned. -/
def SaysG (P : Prop) (w : World) (e : Ending) (w' : World) : Prop := ∃ b, e = .returned (.bool b) ∧ Hid (b = true ↔ P) ∧ Below w.heap.size w w'
theorem saysG_t {P : Prop} {w w' : World} (h : P) (hb : Below w.heap.size w w') : SaysG P w (.returned (.bool true)) w' := ⟨true, rfl, ⟨fun _ => h, fun _ => rfl⟩, hb⟩
theorem saysG_f {P : Prop} {w w' : World} (h : ¬ P) (hb : Below w.heap.size w w') : SaysG P w (.returned (.bool false)) w' := ⟨false, rfl, ⟨fun e => (by cases e), fun e => absurd e h⟩, hb⟩
def NoEmpty (bss : List (List Int)) (n : Nat) : Prop := ∀ k, k < n → 0 < (bss.getD k []).length

def RowsP (bss : List (List Int)) (n : Nat) : Prop := n ≤ 30 ∧ NoEmpty bss n

set_option maxRecDepth 10000 in
set_option maxHeartbeats 1000000 in
theorem someBits_any (a : Option Addr) (n c : Nat) (w : World) (hn : n ≤ 9223372036854775807) :
    Calls Try.prog 63 #[.agg #[.slice a n c]] w fun e w' => e = .returned (.bool (decide (0 < n))) ∧ Below w.heap.size w w' := by
  by_cases h : 0 < n
  · rw [decide_eq_true h]
    have h' : (0 : Int) < (n : Int) := by omega
    go_enter Try.func63, Try.ntmps63
    go_wp2
    go_ret
    exact ⟨rfl, (Below.refl _ _).alloc (Nat.le_refl _) _⟩
  · rw [decide_eq_false h]
    obtain rfl : n = 0 := by omega
    go_enter Try.func63, Try.ntmps63
    go_wp2
    go_ret
    exact ⟨rfl, (Below.refl _ _).alloc (Nat.le_refl _) _⟩

set_option maxRecDepth 10000 in
set_option maxHeartbeats 2000000 in
theorem everySome_any (a : Option Addr) (n c : Nat) (bss : List (List Int)) (w : World) (h : Rows2 w a n bss) (hn : n ≤ 9223372036854775807) (hp : ∀ k, k < n → (bss.getD k []).length ≤ 9223372036854775807) :
    Calls Try.prog 42 #[.slice a n c, .func (Fn.func 63) #[] #[]] w (SaysG (NoEmpty bss n) w) := by
  have H0 : Hid (Rows2 w a n bss) := h
  have HP : Hid (∀ k, k < n → (bss.getD k []).length ≤ 9223372036854775807) := hp
  clear h hp
  go_enter Try.func42, Try.ntmps42
  go_wp2
  go_loopw [9] (fun i wr => ∃ k : Nat, k ≤ n ∧ i = .int .i64 k ∧ Hid (NoEmpty bss k) ∧ Below w.heap.size w wr) (fun i _ => n - (intOf i).toNat)
  case atStart => exact ⟨0, Nat.zero_le _, rfl, fun k hk => absurd hk (Nat.not_lt_zero _), Below.refl _ _⟩
  case round =>
    obtain ⟨k, hk, rfl, HE, hbr⟩ := hrel
    have hws := hbr.size
    by_cases hlt : k < n
    · obtain ⟨b, off, rfl, hb, ak, nk, ck, hc, hrk, hnk⟩ := H0.out.get k hlt
      have hcr : wr.cell? ⟨b, off + k, none⟩ = some (.slice ak nk ck) := (hbr.cell (p := ⟨b, off + k, none⟩) hb).trans hc
      have hnk' : nk ≤ 9223372036854775807 := by rw [← hrk.len]; exact HP.out k hlt
      have HLN : Hid ((bss.getD k []).length = nk) := hrk.len
      have hbw : b < wr.heap.size := by omega
      clear hc hrk hnk
      go_wp2_with fail
      refine (someBits_any ak nk ck _ hnk').mono ?_
      rintro e w2 ⟨rfl, hb2⟩
      have hbz : Below wr.heap.size wr (wr.alloc (.cells #[.slice ak nk ck] 54)) := (Below.refl _ _).alloc (Nat.le_refl _) _
      have B2 : Below w.heap.size w w2 := hbr.trans ((keepT hbz hb2).mono hws)
      by_cases h0 : 0 < nk
      · rw [decide_eq_true h0]
        go_wp2
        go_roundw
        case rel => exact ⟨k + 1, by omega, by go_num, fun j hj => by
          by_cases e : j < k
          · exact HE.out j e
          · obtain rfl : j = k := by omega
            rw [HLN.out]; exact h0, B2⟩
        case measure => simp [intOf]; omega
      · rw [decide_eq_false h0]
        go_wp2
        go_ret
        exact saysG_f (fun e => absurd (e k hlt) (by rw [HLN.out]; exact h0)) B2
    · obtain rfl : k = n := by omega
      go_wp2
      go_ret
      exact saysG_t HE.out hbr

set_option maxRecDepth 10000 in
set_option maxHeartbeats 2000000 in
theorem rowsOk_any (a : Option Addr) (n c : Nat) (bss : List (List Int)) (w : World) (h : Rows2 w a n bss) (hn : n ≤ 9223372036854775807) (hp : ∀ k, k < n → (bss.getD k []).length ≤ 9223372036854775807) :
    Calls Try.prog 38 #[.agg #[.slice a n c]] w (SaysG (RowsP bss n) w) := by
  by_cases h30 : n ≤ 30
  · have h30' : (n : Int) ≤ 30 := by omega
    go_enter Try.func38, Try.ntmps38
    go_wp2_with fail
    refine (everySome_any a n c bss _ (h.kept ((Below.refl _ _).alloc (Nat.le_refl _) _)) hn hp).mono ?_
    rintro e w2 ⟨r, rfl, HR, hb2⟩
    go_wp2
    go_ret
    exact ⟨r, rfl, ⟨fun e => ⟨h30, HR.out.1 e⟩, fun e => HR.out.2 e.2⟩, keepT ((Below.refl _ _).alloc (Nat.le_refl _) _) hb2⟩
  · have h30' : (30 : Int) < (n : Int) := by omega
    go_enter Try.func38, Try.ntmps38
    go_wp2
    go_ret
    exact saysG_f (fun e => absurd e.1 h30) ((Below.refl _ _).alloc (Nat.le_refl _) _)

end Go.Proofs.Ytpnaopmpiobemaa
