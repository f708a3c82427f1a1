import Derived.Test.YtkpabanjlhlmfaaGreatDoorMCa
import Derived.Test.YtkpabanjlhlmfaaGreatDoorGN10
import Derived.Test.YtkpabanjlhlmfaaGreatDoorGN11
import Derived.Test.YtkpabanjlhlmfaaGreatDoorGN8
import Derived.Test.YtkpabanjlhlmfaaGreatDoorWI64
import Derived.Test.YtkpabanjlhlmfaaGreatDoorGB3GB4
import Derived.WalkMore
import Derived.ScopeJumps
import Derived.Deep.DeepCutAuto
import Derived.Deep.RegionWith
import Derived.Handy
import Derived.Laws.Tables
import Derived.Laws.Rows
import Derived.Great.BuildSlice
import Derived.Great.Walk
import Derived.Deep.Cut
import Derived.Deep.MidRow
namespace Go.Proofs.YtkpabanjlhlmfaaGreatDoor
open Go.RowKit

def BasesN (xs : List GE) (n : Nat) : Prop := ∀ k, k < n → baseP (xs.getD k default).g (xs.getD k default).parts
/-- At most MaxNames bases. -/
def basesP (xs : List GE) (n : Nat) : Prop := n ≤ 8 ∧ BasesN xs n
def anchorP (x : AP) (n2 n3 : Nat) : Prop := calledP x.parts ∧ pubP x.sch x.y x.ht ∧ basesP x.per n2 ∧ basesP x.den n3 ∧ timeP x.til

set_option maxRecDepth 10000 in
set_option maxHeartbeats 2000000 in
theorem l9Bases_any (a : Option Addr) (n c : Nat) (xs : List GE) (w : World) (h : Ges w a n xs) (hz : ∀ k, k < n → GeOk (xs.getD k default)) :
    Calls Tryz.prog 31 #[.slice a n c] w (SaysB (basesP xs n) w) := by
  have H0 : Hid (Ges w a n xs) := h
  have HZ : Hid (∀ k, k < n → GeOk (xs.getD k default)) := hz
  have hn := h.max
  clear h hz
  by_cases h8 : n ≤ 8
  · have h8' : ¬ ((8 : Int) < (n : Int)) := by omega
    go_enter Tryz.func31, Tryz.ntmps31
    go_wp2
    go_loopw [3] (fun i wr => ∃ k : Nat, k ≤ n ∧ i = .int .i64 k ∧ Hid (BasesN xs k) ∧ Below w.heap.size w wr) (fun i _ => n - (intOf i).toNat)
    case atStart => exact ⟨0, Nat.zero_le _, rfl, fun k hk => absurd hk (Nat.not_lt_zero _), Below.refl _ _⟩
    case round =>
      obtain ⟨k, hk, rfl, HE, hbr⟩ := hrel
      by_cases hkn : k < n
      · obtain ⟨b, off, an, nn, cn, rfl, hlb, hc, hp, _⟩ := H0.out.get k hkn
        have hgp := HZ.out k hkn
        obtain ⟨y, hy⟩ : ∃ y, y = xs.getD k default := ⟨_, rfl⟩
        rw [← hy] at hc hp hgp
        have HY : Hid (y = xs.getD k default) := hy
        obtain ⟨c0, c1, c2, c3, c4⟩ := hc.of (w' := wr) (fun i => hbr.cell (p := ⟨b, i, none⟩) hlb)
        have HP : Hid (Pts wr an nn y.parts) := hp.kept hbr
        have HS : Hid (y.g.text.size ≤ 1048576 ∧ ∀ k, k < nn → (y.parts.getD k default).val.size ≤ 1048576) := ⟨hgp.1, by rw [← hp.len]; exact hgp.2.2⟩
        have hkni : (k : Int) < (n : Int) := by omega
        clear hc hy hp hgp
        go_wp2_with fail
        refine (specBaseOk_any y.g an nn cn y.parts _ HP.out HS.out.2 HS.out.1).mono ?_
        rintro e w2 ⟨v, rfl, hv, hb2⟩
        have B2 : Below w.heap.size w w2 := hbr.trans (hb2.mono hbr.size)
        have HV : Hid _ := hv
        clear hb2 hv
        cases v with
        | false =>
          have HN : Hid (¬ basesP xs n) := fun q => by have := q.2 k hkn; rw [← HY.out] at this; have := HV.out.2 this; simp at this
          go_wp2
          go_ret
          exact saysB_f HN.out B2
        | true =>
          have HN : Hid (BasesN xs (k + 1)) := fun j hj => by
            by_cases e : j < k
            · exact HE.out j e
            · obtain rfl : j = k := by omega
              rw [← HY.out]; exact HV.out.1 rfl
          go_wp2
          go_roundw
          case rel => exact ⟨k + 1, by omega, by go_num, HN, B2⟩
          case measure => simp [intOf]; omega
      · obtain rfl : k = n := by omega
        go_wp2
        go_ret
        exact saysB_t ⟨h8, HE.out⟩ hbr
  · have h8' : (8 : Int) < (n : Int) := by omega
    go_enter Tryz.func31, Tryz.ntmps31
    go_wp2
    go_ret
    exact saysB_f (fun q => h8 q.1) (Below.refl _ _)

set_option maxRecDepth 10000 in
set_option maxHeartbeats 2000000 in
theorem everyBase_any (a : Option Addr) (n c : Nat) (xs : List GE) (w : World) (hm : MaxW w) (h : Ges w a n xs) (hz : ∀ k, k < n → GeOk (xs.getD k default)) :
    Calls Tryz.prog 56 #[.slice a n c, .func (Fn.func 57) #[] #[]] w (SaysB (BasesN xs n) w) := by
  have H0 : Hid (Ges w a n xs) := h
  have HM : Hid (MaxW w) := hm
  have HZ : Hid (∀ k, k < n → GeOk (xs.getD k default)) := hz
  have hn := h.max
  clear h hz hm
  go_enter Tryz.func56, Tryz.ntmps56
  go_wp2
  go_loopw [9] (fun i wr => ∃ k : Nat, k ≤ n ∧ i = .int .i64 k ∧ Hid (BasesN xs k) ∧ Below w.heap.size w wr) (fun i _ => n - (intOf i).toNat)
  case atStart => exact ⟨0, Nat.zero_le _, rfl, fun k hk => absurd hk (Nat.not_lt_zero _), Below.refl _ _⟩
  case round =>
    obtain ⟨k, hk, rfl, HE, hbr⟩ := hrel
    have hws := hbr.size
    by_cases hkn : k < n
    · obtain ⟨b, off, an, nn, cn, rfl, hlb, hc, hp, _⟩ := H0.out.get k hkn
      have hgp := HZ.out k hkn
      obtain ⟨y, hy⟩ : ∃ y, y = xs.getD k default := ⟨_, rfl⟩
      rw [← hy] at hc hp hgp
      have HY : Hid (y = xs.getD k default) := hy
      obtain ⟨c0, c1, c2, c3, c4⟩ := hc.of (w' := wr) (fun i => hbr.cell (p := ⟨b, i, none⟩) hlb)
      have hbz : Below wr.heap.size wr (wr.alloc (.cells #[.int .i64 y.g.kind, .string y.g.text, .int .i64 y.g.addr, .int .i64 y.g.bits, .slice an nn cn] 96)) := (Below.refl _ _).alloc (Nat.le_refl _) _
      have B1 : Hid (Below w.heap.size w (wr.alloc (.cells #[.int .i64 y.g.kind, .string y.g.text, .int .i64 y.g.addr, .int .i64 y.g.bits, .slice an nn cn] 96))) := hbr.trans (hbz.mono hws)
      have HP : Hid (Pts (wr.alloc (.cells #[.int .i64 y.g.kind, .string y.g.text, .int .i64 y.g.addr, .int .i64 y.g.bits, .slice an nn cn] 96)) an nn y.parts) := hp.kept B1.out
      have HS : Hid (y.g.text.size ≤ 1048576 ∧ ∀ k, k < nn → (y.parts.getD k default).val.size ≤ 1048576) := ⟨hgp.1, by rw [← hp.len]; exact hgp.2.2⟩
      have hkni : (k : Int) < (n : Int) := by omega
      have hbw : b < wr.heap.size := by omega
      clear hc hy hp hgp hbz
      go_wp2_with fail
      refine (implBaseOk_any y.g an nn cn y.parts _ (HM.out.kept B1.out) HP.out HS.out.2 HS.out.1).mono ?_
      rintro e w2 ⟨v, rfl, hv, hb2⟩
      have B2 : Below w.heap.size w w2 := B1.out.trans (hb2.mono B1.out.size)
      have HV : Hid _ := hv
      clear hb2 hv
      cases v with
      | false =>
        have HN : Hid (¬ BasesN xs n) := fun q => by have := q k hkn; rw [← HY.out] at this; have := HV.out.2 this; simp at this
        go_wp2
        go_ret
        exact saysB_f HN.out B2
      | true =>
        have HN : Hid (BasesN xs (k + 1)) := fun j hj => by
          by_cases e : j < k
          · exact HE.out j e
          · obtain rfl : j = k := by omega
            rw [← HY.out]; exact HV.out.1 rfl
        go_wp2
        go_roundw
        case rel => exact ⟨k + 1, by omega, by go_num, HN, B2⟩
        case measure => simp [intOf]; omega
    · obtain rfl : k = n := by omega
      go_wp2
      go_ret
      exact saysB_t HE.out hbr

set_option maxRecDepth 10000 in
set_option maxHeartbeats 1000000 in
theorem gensBase_any (a : Option Addr) (n c : Nat) (xs : List GE) (w : World) (hm : MaxW w) (h : Ges w a n xs) (hz : ∀ k, k < n → GeOk (xs.getD k default)) :
    Calls Tryz.prog 83 #[.slice a n c, .func (Fn.func 57) #[] #[]] w (SaysB (basesP xs n) w) := by
  by_cases h8 : n ≤ 8
  · have h8' : (n : Int) ≤ 8 := by omega
    go_enter Tryz.func83, Tryz.ntmps83
    go_wp2_with fail
    refine (everyBase_any a n c xs _ hm h hz).mono ?_
    rintro e w2 ⟨r, rfl, HR, hb2⟩
    go_wp2
    go_ret
    exact ⟨r, rfl, ⟨fun e => ⟨h8, HR.out.1 e⟩, fun e => HR.out.2 e.2⟩, hb2⟩
  · have h8' : (8 : Int) < (n : Int) := by omega
    go_enter Tryz.func83, Tryz.ntmps83
    go_wp2
    go_ret
    exact saysB_f (fun e => absurd e.1 h8) (Below.refl _ _)

set_option maxRecDepth 10000 in
set_option maxHeartbeats 1000000 in
theorem isTime_any (t : Int) (w : World) : Calls Tryz.prog 85 #[.int .i64 t] w fun e w' => e = .returned (.bool (decide (0 ≤ t ∧ t ≤ 253402300799))) ∧ w = w' := by
  go_enter Tryz.func85, Tryz.ntmps85
  go_wp2_with fail
  refine (inBounds_any t 0 253402300799 _).mono ?_
  rintro e w1 ⟨rfl, rfl⟩
  obtain ⟨v, hv⟩ : ∃ v, decide (0 ≤ t ∧ t ≤ 253402300799) = v := ⟨_, rfl⟩
  rw [hv]
  have HV : Hid (decide (0 ≤ t ∧ t ≤ 253402300799) = v) := hv
  clear hv
  go_wp2
  go_ret
  exact ⟨by rw [HV.out]; rfl, rfl⟩

set_option maxRecDepth 10000 in
set_option maxHeartbeats 1000000 in
theorem someName_any (a : Option Addr) (n c : Nat) (xs : List PT) (w : World) (h : Pts w a n xs) (hz : ∀ k, k < n → (xs.getD k default).val.size ≤ 1048576) :
    Calls Tryz.prog 39 #[nmv a n c] w (Says (calledP xs) w) := by
  have HL : Hid (xs.length = n) := h.len
  have hn := h.max
  obtain ⟨w0, hw0⟩ : ∃ w0, w0 = w.alloc (.cells #[.slice a n c] 39) := ⟨_, rfl⟩
  have hb0 : Below w.heap.size w w0 := by rw [hw0]; exact (Below.refl _ _).alloc (Nat.le_refl _) _
  have hh0 : w0.heap[w.heap.size]? = some (.cells #[.slice a n c] 39) := by rw [hw0]; exact heap_alloc_new w _
  have hl0 : w.heap.size < w0.heap.size := (Array.getElem?_eq_some_iff.1 hh0).1
  have HK : Hid (Pts w0 a n xs) := h.kept hb0
  have HZ : Hid (_) := hz
  clear h hz
  unfold nmv
  go_enter Tryz.func39, Tryz.ntmps39
  go_wp2_with fail
  rw [← hw0]
  clear hw0
  refine (implNameOk_any a n c xs _ HK.out HZ.out).mono ?_
  rintro e w1 ⟨b, rfl, hb, hb1⟩
  have hc : w1.cell? ⟨w.heap.size, 0, none⟩ = some (.slice a n c) := (cell_of_row _ _ 0 _ 39 (0, 0) ((hb1.block _ hl0).trans hh0)).trans rfl
  have HB : Hid (Below w.heap.size w w1) := hb0.trans (hb1.mono hb0.size)
  clear hb0 hb1 hh0
  rcases b with _ | _
  · have HN : Hid (¬ calledP xs) := fun q => by have := hb.out.2 q.1; simp at this
    clear hb
    go_wp2
    go_ret
    exact says_f HN.out HB.out
  · have HN : Hid (nameP xs) := hb.out.1 rfl
    clear hb
    by_cases h0 : n = 0
    · subst h0
      have HE : Hid (¬ calledP xs) := fun q => q.2 (List.eq_nil_of_length_eq_zero HL.out)
      go_wp2
      go_ret
      exact says_f HE.out HB.out
    · have hp : (0 : Int) < (n : Int) := by omega
      have HE : Hid (calledP xs) := ⟨HN.out, fun e => h0 (by rw [← HL.out, e]; rfl)⟩
      go_wp2
      go_ret
      exact ⟨decide (0 < n), rfl, ⟨fun _ => HE.out, fun _ => decide_eq_true (by omega)⟩, HB.out⟩

end Go.Proofs.YtkpabanjlhlmfaaGreatDoor

set_option linter.unusedVariables false
namespace Go.Proofs.YtkpabanjlhlmfaaGreatDoor
open Go.RowKit

def GensN (xs : List GE) (n : Nat) : Prop := ∀ k, k < n → genP (xs.getD k default).g (xs.getD k default).parts
/-- Names that are right, and not too many. -/
def gensP (xs : List GE) (n : Nat) : Prop := n ≤ 8 ∧ GensN xs n

set_option maxRecDepth 10000 in
set_option maxHeartbeats 2000000 in
theorem l9Gens_any (a : Option Addr) (n c : Nat) (xs : List GE) (w : World) (h : Ges w a n xs) (hz : ∀ k, k < n → GeOk (xs.getD k default)) :
    Calls Tryz.prog 29 #[.slice a n c] w (SaysB (gensP xs n) w) := by
  have H0 : Hid (Ges w a n xs) := h
  have HZ : Hid (∀ k, k < n → GeOk (xs.getD k default)) := hz
  have hn := h.max
  clear h hz
  by_cases h8 : n ≤ 8
  · have h8' : ¬ ((8 : Int) < (n : Int)) := by omega
    go_enter Tryz.func29, Tryz.ntmps29
    go_wp2
    go_loopw [3] (fun i wr => ∃ k : Nat, k ≤ n ∧ i = .int .i64 k ∧ Hid (GensN xs k) ∧ Below w.heap.size w wr) (fun i _ => n - (intOf i).toNat)
    case atStart => exact ⟨0, Nat.zero_le _, rfl, fun k hk => absurd hk (Nat.not_lt_zero _), Below.refl _ _⟩
    case round =>
      obtain ⟨k, hk, rfl, HE, hbr⟩ := hrel
      by_cases hkn : k < n
      · obtain ⟨b, off, an, nn, cn, rfl, hlb, hc, hp, _⟩ := H0.out.get k hkn
        have hgp := HZ.out k hkn
        obtain ⟨y, hy⟩ : ∃ y, y = xs.getD k default := ⟨_, rfl⟩
        rw [← hy] at hc hp hgp
        have HY : Hid (y = xs.getD k default) := hy
        obtain ⟨c0, c1, c2, c3, c4⟩ := hc.of (w' := wr) (fun i => hbr.cell (p := ⟨b, i, none⟩) hlb)
        have HP : Hid (Pts wr an nn y.parts) := hp.kept hbr
        have HS : Hid (y.g.text.size ≤ 1048576 ∧ ∀ k, k < nn → (y.parts.getD k default).val.size ≤ 1048576) := ⟨hgp.1, by rw [← hp.len]; exact hgp.2.2⟩
        have hkni : (k : Int) < (n : Int) := by omega
        clear hc hy hp hgp
        go_wp2_with fail
        refine (specGenOk_any y.g an nn cn y.parts _ HP.out HS.out.2 HS.out.1).mono ?_
        rintro e w2 ⟨v, rfl, hv, hb2⟩
        have B2 : Below w.heap.size w w2 := hbr.trans (hb2.mono hbr.size)
        have HV : Hid _ := hv
        clear hb2 hv
        cases v with
        | false =>
          have HN : Hid (¬ gensP xs n) := fun q => by have := q.2 k hkn; rw [← HY.out] at this; have := HV.out.2 this; simp at this
          go_wp2
          go_ret
          exact saysB_f HN.out B2
        | true =>
          have HN : Hid (GensN xs (k + 1)) := fun j hj => by
            by_cases e : j < k
            · exact HE.out j e
            · obtain rfl : j = k := by omega
              rw [← HY.out]; exact HV.out.1 rfl
          go_wp2
          go_roundw
          case rel => exact ⟨k + 1, by omega, by go_num, HN, B2⟩
          case measure => simp [intOf]; omega
      · obtain rfl : k = n := by omega
        go_wp2
        go_ret
        exact saysB_t ⟨h8, HE.out⟩ hbr
  · have h8' : (8 : Int) < (n : Int) := by omega
    go_enter Tryz.func29, Tryz.ntmps29
    go_wp2
    go_ret
    exact saysB_f (fun q => h8 q.1) (Below.refl _ _)

set_option maxRecDepth 10000 in
set_option maxHeartbeats 2000000 in
theorem everyGen_any (a : Option Addr) (n c : Nat) (xs : List GE) (w : World) (hm : MaxW w) (h : Ges w a n xs) (hz : ∀ k, k < n → GeOk (xs.getD k default)) :
    Calls Tryz.prog 56 #[.slice a n c, .func (Fn.func 84) #[] #[]] w (SaysB (GensN xs n) w) := by
  have H0 : Hid (Ges w a n xs) := h
  have HM : Hid (MaxW w) := hm
  have HZ : Hid (∀ k, k < n → GeOk (xs.getD k default)) := hz
  have hn := h.max
  clear h hz hm
  go_enter Tryz.func56, Tryz.ntmps56
  go_wp2
  go_loopw [9] (fun i wr => ∃ k : Nat, k ≤ n ∧ i = .int .i64 k ∧ Hid (GensN xs k) ∧ Below w.heap.size w wr) (fun i _ => n - (intOf i).toNat)
  case atStart => exact ⟨0, Nat.zero_le _, rfl, fun k hk => absurd hk (Nat.not_lt_zero _), Below.refl _ _⟩
  case round =>
    obtain ⟨k, hk, rfl, HE, hbr⟩ := hrel
    have hws := hbr.size
    by_cases hkn : k < n
    · obtain ⟨b, off, an, nn, cn, rfl, hlb, hc, hp, _⟩ := H0.out.get k hkn
      have hgp := HZ.out k hkn
      obtain ⟨y, hy⟩ : ∃ y, y = xs.getD k default := ⟨_, rfl⟩
      rw [← hy] at hc hp hgp
      have HY : Hid (y = xs.getD k default) := hy
      obtain ⟨c0, c1, c2, c3, c4⟩ := hc.of (w' := wr) (fun i => hbr.cell (p := ⟨b, i, none⟩) hlb)
      have hbz : Below wr.heap.size wr (wr.alloc (.cells #[.int .i64 y.g.kind, .string y.g.text, .int .i64 y.g.addr, .int .i64 y.g.bits, .slice an nn cn] 96)) := (Below.refl _ _).alloc (Nat.le_refl _) _
      have B1 : Hid (Below w.heap.size w (wr.alloc (.cells #[.int .i64 y.g.kind, .string y.g.text, .int .i64 y.g.addr, .int .i64 y.g.bits, .slice an nn cn] 96))) := hbr.trans (hbz.mono hws)
      have HP : Hid (Pts (wr.alloc (.cells #[.int .i64 y.g.kind, .string y.g.text, .int .i64 y.g.addr, .int .i64 y.g.bits, .slice an nn cn] 96)) an nn y.parts) := hp.kept B1.out
      have HS : Hid (y.g.text.size ≤ 1048576 ∧ ∀ k, k < nn → (y.parts.getD k default).val.size ≤ 1048576) := ⟨hgp.1, by rw [← hp.len]; exact hgp.2.2⟩
      have hkni : (k : Int) < (n : Int) := by omega
      have hbw : b < wr.heap.size := by omega
      clear hc hy hp hgp hbz
      go_wp2_with fail
      refine (implGenOk_any y.g an nn cn y.parts _ (HM.out.kept B1.out) HP.out HS.out.2 HS.out.1).mono ?_
      rintro e w2 ⟨v, rfl, hv, hb2⟩
      have B2 : Below w.heap.size w w2 := B1.out.trans (hb2.mono B1.out.size)
      have HV : Hid _ := hv
      clear hb2 hv
      cases v with
      | false =>
        have HN : Hid (¬ GensN xs n) := fun q => by have := q k hkn; rw [← HY.out] at this; have := HV.out.2 this; simp at this
        go_wp2
        go_ret
        exact saysB_f HN.out B2
      | true =>
        have HN : Hid (GensN xs (k + 1)) := fun j hj => by
          by_cases e : j < k
          · exact HE.out j e
          · obtain rfl : j = k := by omega
            rw [← HY.out]; exact HV.out.1 rfl
        go_wp2
        go_roundw
        case rel => exact ⟨k + 1, by omega, by go_num, HN, B2⟩
        case measure => simp [intOf]; omega
    · obtain rfl : k = n := by omega
      go_wp2
      go_ret
      exact saysB_t HE.out hbr

set_option maxRecDepth 10000 in
set_option maxHeartbeats 1000000 in
theorem gensGen_any (a : Option Addr) (n c : Nat) (xs : List GE) (w : World) (hm : MaxW w) (h : Ges w a n xs) (hz : ∀ k, k < n → GeOk (xs.getD k default)) :
    Calls Tryz.prog 83 #[.slice a n c, .func (Fn.func 84) #[] #[]] w (SaysB (gensP xs n) w) := by
  by_cases h8 : n ≤ 8
  · have h8' : (n : Int) ≤ 8 := by omega
    go_enter Tryz.func83, Tryz.ntmps83
    go_wp2_with fail
    refine (everyGen_any a n c xs _ hm h hz).mono ?_
    rintro e w2 ⟨r, rfl, HR, hb2⟩
    go_wp2
    go_ret
    exact ⟨r, rfl, ⟨fun e => ⟨h8, HR.out.1 e⟩, fun e => HR.out.2 e.2⟩, hb2⟩
  · have h8' : (8 : Int) < (n : Int) := by omega
    go_enter Tryz.func83, Tryz.ntmps83
    go_wp2
    go_ret
    exact saysB_f (fun e => absurd e.1 h8) (Below.refl _ _)

end Go.Proofs.YtkpabanjlhlmfaaGreatDoor

namespace Go.Proofs.YtkpabanjlhlmfaaGreatDoor
open Go.RowKit

theorem Row64.take {w : World} {a : Option Addr} {n : Nat} {zs : List Int} (h : Row64 w a n zs) (k : Nat) (hk : k ≤ n) : Row64 w a k (zs.take k) := by
  refine ⟨by rw [List.length_take, h.len]; omega, fun j hj => ?_⟩
  obtain ⟨b, off, ha, hb, hc⟩ := h.get j (by omega)
  exact ⟨b, off, ha, hb, hc.trans (by simp [hj])⟩
theorem mem_next (zs : List Int) (k : Nat) (h : k < zs.length) (x : Int) : x ∈ zs.take (k + 1) ↔ x ∈ zs.take k ∨ x = zs.getD k 0 := by
  have e : zs.getD k 0 = zs[k] := by simp [h]
  rw [List.take_succ_eq_append_getElem h, List.mem_append, List.mem_singleton, e]
theorem mem_all (zs : List Int) (k : Nat) (h : zs.length ≤ k) : zs.take k = zs := List.take_of_length_le h
theorem getD_mem (zs : List Int) (k : Nat) (h : k < zs.length) : zs.getD k 0 ∈ zs := by
  have e : zs.getD k 0 = zs[k] := by simp [h]
  rw [e]; exact List.getElem_mem h

set_option maxRecDepth 10000 in
set_option maxHeartbeats 1000000 in
theorem index_any (a : Option Addr) (n c : Nat) (zs : List Int) (x : Int) (w : World) (h : Row64 w a n zs) (hn : n ≤ 9223372036854775807) :
    Calls Tryz.prog 141 #[.slice a n c, .int .i64 x] w fun e w' => ∃ i : Int, e = .returned (.int .i64 i) ∧ Hid (0 ≤ i ↔ x ∈ zs) ∧ w' = w := by
  have H0 : Hid (Row64 w a n zs) := h
  have HL : Hid (zs.length = n) := h.len
  clear h
  go_enter Tryz.func141, Tryz.ntmps141
  go_wp2
  go_loopw [8] (fun i wr => ∃ k : Nat, k ≤ n ∧ i = .int .i64 k ∧ Hid (x ∉ zs.take k) ∧ w = wr) (fun i _ => n - (intOf i).toNat)
  case atStart => exact ⟨0, Nat.zero_le _, rfl, (by show _ ∉ _; simp), rfl⟩
  case round =>
    obtain ⟨k, hk, rfl, HA, rfl⟩ := hrel
    by_cases hlt : k < n
    · obtain ⟨b, off, rfl, hb, hc⟩ := H0.out.get k hlt
      obtain ⟨z, hz⟩ : ∃ z, z = zs.getD k 0 := ⟨_, rfl⟩
      rw [← hz] at hc
      have HZ : Hid (z = zs.getD k 0) := hz
      have HM : Hid (k < zs.length) := by show _ < _; rw [HL.out]; exact hlt
      have hlti : (k : Int) < (n : Int) := by omega
      clear hz
      by_cases he : x = z
      · have HT : Hid (x ∈ zs) := by show _ ∈ _; rw [he, HZ.out]; exact getD_mem zs k HM.out
        have ze : (x == z) = true := beq_iff_eq.2 he
        clear he
        go_wp2
        go_ret
        exact ⟨_, rfl, ⟨fun _ => HT.out, fun _ => by omega⟩, rfl⟩
      · have HN : Hid (x ∉ zs.take (k + 1)) := by
          show _ ∉ _
          rw [mem_next zs k HM.out]
          rintro (h | h)
          · exact HA.out h
          · exact he (by rw [HZ.out]; exact h)
        have ze : (x == z) = false := beq_false_of_ne he
        clear he HA
        go_wp2
        go_roundw
        case rel => exact ⟨k + 1, by omega, by go_num, HN, by trivial⟩
        case measure => simp [intOf]; omega
    · obtain rfl : k = n := by omega
      have HN : Hid (x ∉ zs) := by show _ ∉ _; have := HA.out; rwa [mem_all zs k (by rw [HL.out]; exact Nat.le_refl _)] at this
      go_wp2
      go_ret
      exact ⟨_, rfl, ⟨fun h => absurd h (by decide), fun h => absurd h HN.out⟩, rfl⟩

set_option maxRecDepth 10000 in
set_option maxHeartbeats 1000000 in
theorem contains_any (a : Option Addr) (n c : Nat) (zs : List Int) (x : Int) (w : World) (h : Row64 w a n zs) (hn : n ≤ 9223372036854775807) :
    Calls Tryz.prog 112 #[.slice a n c, .int .i64 x] w fun e w' => e = .returned (.bool (decide (x ∈ zs))) ∧ w' = w := by
  have H0 : Hid (Row64 w a n zs) := h
  clear h
  go_enter Tryz.func112, Tryz.ntmps112
  go_wp2_with fail
  refine (index_any a n c zs x _ H0.out hn).mono ?_
  rintro e w1 ⟨i, rfl, hi, rfl⟩
  have HD : Hid (decide (0 ≤ i) = decide (x ∈ zs)) := by show _ = _; exact decide_eq_decide.2 hi.out
  go_wp2
  go_ret
  exact ⟨by rw [← HD.out]; rfl, rfl⟩

set_option maxRecDepth 10000 in
set_option maxHeartbeats 1000000 in
theorem l1HasNum_any (a : Option Addr) (n c : Nat) (zs : List Int) (x : Int) (w : World) (h : Row64 w a n zs) (hn : n ≤ 9223372036854775807) :
    Calls Tryz.prog 30 #[.slice a n c, .int .i64 x] w fun e w' => e = .returned (.bool (decide (x ∈ zs))) ∧ w' = w := by
  have H0 : Hid (Row64 w a n zs) := h
  have HL : Hid (zs.length = n) := h.len
  clear h
  go_enter Tryz.func30, Tryz.ntmps30
  go_wp2
  go_loopw [5] (fun i wr => ∃ k : Nat, k ≤ n ∧ i = .int .i64 k ∧ Hid (x ∉ zs.take k) ∧ w = wr) (fun i _ => n - (intOf i).toNat)
  case atStart => exact ⟨0, Nat.zero_le _, rfl, (by show _ ∉ _; simp), rfl⟩
  case round =>
    obtain ⟨k, hk, rfl, HA, rfl⟩ := hrel
    by_cases hlt : k < n
    · obtain ⟨b, off, rfl, hb, hc⟩ := H0.out.get k hlt
      obtain ⟨z, hz⟩ : ∃ z, z = zs.getD k 0 := ⟨_, rfl⟩
      rw [← hz] at hc
      have HZ : Hid (z = zs.getD k 0) := hz
      have HM : Hid (k < zs.length) := by show _ < _; rw [HL.out]; exact hlt
      have hlti : (k : Int) < (n : Int) := by omega
      clear hz
      by_cases he : z = x
      · have HT : Hid (decide (x ∈ zs) = true) := decide_eq_true (by rw [← he, HZ.out]; exact getD_mem zs k HM.out)
        have ze : (z == x) = true := beq_iff_eq.2 he
        clear he
        go_wp2
        go_ret
        exact ⟨by rw [HT.out]; rfl, rfl⟩
      · have HN : Hid (x ∉ zs.take (k + 1)) := by
          show _ ∉ _
          rw [mem_next zs k HM.out]
          rintro (h | h)
          · exact HA.out h
          · exact he (by rw [HZ.out]; exact h.symm)
        have ze : (z == x) = false := beq_false_of_ne he
        clear he HA
        go_wp2
        go_roundw
        case rel => exact ⟨k + 1, by omega, by go_num, HN, by trivial⟩
        case measure => simp [intOf]; omega
    · obtain rfl : k = n := by omega
      have HN : Hid (decide (x ∈ zs) = false) := decide_eq_false (by have := HA.out; rwa [mem_all zs k (by rw [HL.out]; exact Nat.le_refl _)] at this)
      go_wp2
      go_ret
      exact ⟨by rw [HN.out]; rfl, rfl⟩

/-- No number stands twice. -/
def unl (zs : List Int) : Prop := ∀ j, j < zs.length → zs.getD j 0 ∉ zs.take j
instance (zs : List Int) : Decidable (unl zs) := by unfold unl; infer_instance

def lenOf : Value → Nat
  | .slice _ n _ => n
  | _ => 0

set_option maxRecDepth 10000 in
set_option maxHeartbeats 2000000 in
theorem allUnlike_any (a : Option Addr) (n c : Nat) (zs : List Int) (w : World) (h : Row64 w a n zs) (hn : n ≤ c) (hc : c ≤ 9223372036854775807) :
    Calls Tryz.prog 89 #[.slice a n c] w fun e w' => e = .returned (.bool (decide (unl zs))) ∧ w' = w := by
  have H0 : Hid (Row64 w a n zs) := h
  have HL : Hid (zs.length = n) := h.len
  clear h
  have HS : Hid (∀ j, n ≤ j → j < n → zs.getD j 0 ∉ zs.take j) := fun j h1 h2 => absurd h1 (by omega)
  go_enter Tryz.func89, Tryz.ntmps89
  go_wp2
  refine wp_scope_jumps 0 (fun a' w' => w = w' ∧ ∃ (k : Nat) (u3 u4 u5 u6 u7 u8 u9 u10 u11 u12 u13 u14 u15 u16 u17 u18 u19 u20 u21 : Value), a' = { tmps := #[.slice a k c, undef, .bool false, u3, u4, u5, u6, u7, u8, u9, u10, u11, u12, u13, u14, u15, u16, u17, u18, u19, u20, u21], defers := [] } ∧ k ≤ n ∧ Hid (∀ j, k ≤ j → j < n → zs.getD j 0 ∉ zs.take j)) (fun a' _ => lenOf (a'.tmps.getD 0 undef)) rfl ?_ ?_
  · by_cases h0 : n = 0
    · have HT : Hid (decide (unl zs) = true) := decide_eq_true (fun j hj => HS.out j (by omega) (by rw [HL.out] at hj; exact hj))
      have z0 : ((n : Int) == 0) = true := by simp [h0]
      clear h0
      go_wp2
      go_step3
      go_wp2
      simp only [Exit.jump]
      go_ret
      exact ⟨by rw [HT.out]; rfl, rfl⟩
    · obtain ⟨m, rfl⟩ : ∃ m, n = m + 1 := ⟨n - 1, by omega⟩
      have z0 : (((m + 1 : Nat) : Int) == 0) = false := by simp; omega
      obtain ⟨b, off, rfl, hb, hcell⟩ := H0.out.get m (by omega)
      obtain ⟨z, hz⟩ : ∃ z, z = zs.getD m 0 := ⟨_, rfl⟩
      rw [← hz] at hcell
      have HZ : Hid (z = zs.getD m 0) := hz
      have e1 : ((m + 1 : Nat) : Int) - 1 = (m : Int) := by omega
      clear hz h0
      go_wp2
      go_step3
      go_wp2_with fail
      refine (contains_any _ m c (zs.take m) z _ (H0.out.take m (by omega)) (by omega)).mono ?_
      rintro e w1 ⟨rfl, rfl⟩
      by_cases hin : z ∈ zs.take m
      · have HT : Hid (decide (unl zs) = false) := decide_eq_false (fun hu => hu m (by rw [HL.out]; omega) (by rw [← HZ.out]; exact hin))
        rw [decide_eq_true hin]
        clear hin
        go_wp2
        simp only [Exit.jump]
        go_ret
        exact ⟨by rw [HT.out]; rfl, rfl⟩
      · have HN : Hid (∀ j, m ≤ j → j < m + 1 → zs.getD j 0 ∉ zs.take j) := fun j h1 h2 => by
          by_cases e : j = m
          · rw [e, ← HZ.out]; exact hin
          · exact HS.out j (by omega) h2
        rw [decide_eq_false hin]
        clear hin
        go_wp2_with fail
        go_step3
        exact ⟨rfl, rfl, m, _, _, _, _, _, _, _, _, _, _, _, _, _, _, _, _, _, _, _, rfl, by omega, HN⟩
  · rintro a' w' ⟨rfl, k, u3, u4, u5, u6, u7, u8, u9, u10, u11, u12, u13, u14, u15, u16, u17, u18, u19, u20, u21, rfl, hk, HK⟩
    by_cases h0 : k = 0
    · have HT : Hid (decide (unl zs) = true) := decide_eq_true (fun j hj => HK.out j (by omega) (by rw [HL.out] at hj; exact hj))
      subst h0
      go_wp2
      simp only [Exit.jump]
      go_ret
      exact ⟨by rw [HT.out]; rfl, rfl⟩
    · obtain ⟨m, rfl⟩ : ∃ m, k = m + 1 := ⟨k - 1, by omega⟩
      have z0 : (((m + 1 : Nat) : Int) == 0) = false := by simp; omega
      obtain ⟨b, off, rfl, hb, hcell⟩ := H0.out.get m (by omega)
      obtain ⟨z, hz⟩ : ∃ z, z = zs.getD m 0 := ⟨_, rfl⟩
      rw [← hz] at hcell
      have HZ : Hid (z = zs.getD m 0) := hz
      have e1 : ((m + 1 : Nat) : Int) - 1 = (m : Int) := by omega
      clear hz h0
      go_wp2_with fail
      refine (contains_any _ m c (zs.take m) z _ (H0.out.take m (by omega)) (by omega)).mono ?_
      rintro e w1 ⟨rfl, rfl⟩
      by_cases hin : z ∈ zs.take m
      · have HT : Hid (decide (unl zs) = false) := decide_eq_false (fun hu => hu m (by rw [HL.out]; omega) (by rw [← HZ.out]; exact hin))
        rw [decide_eq_true hin]
        clear hin
        go_wp2
        simp only [Exit.jump]
        go_ret
        exact ⟨by rw [HT.out]; rfl, rfl⟩
      · have HN : Hid (∀ j, m ≤ j → j < n → zs.getD j 0 ∉ zs.take j) := fun j h1 h2 => by
          by_cases e : j = m
          · rw [e, ← HZ.out]; exact hin
          · exact HK.out j (by omega) h2
        rw [decide_eq_false hin]
        clear hin
        go_wp2_with fail
        go_step3
        exact ⟨rfl, ⟨rfl, m, _, _, _, _, _, _, _, _, _, _, _, _, _, _, _, _, _, _, _, rfl, by omega, HN⟩, by simp [lenOf]⟩

end Go.Proofs.YtkpabanjlhlmfaaGreatDoor

namespace Go.Proofs.YtkpabanjlhlmfaaGreatDoor
open Go.RowKit

/-- A certificate of a path: what it says of policies. -/
structure PC where
  pols : List Int
  maps : List (Int × Int)
  self : Bool
  need : Int
  nomap : Int
  noany : Int
instance : Inhabited PC := ⟨⟨[], [], false, 0, 0, 0⟩⟩
def pcv (a1 : Option Addr) (n1 c1 : Nat) (a2 : Option Addr) (n2 c2 : Nat) (x : PC) : Value := .agg #[.slice a1 n1 c1, .slice a2 n2 c2, .bool x.self, .int .i64 x.need, .int .i64 x.nomap, .int .i64 x.noany]
def pmv (p : Int × Int) : Value := .agg #[.int .i64 p.1, .int .i64 p.2]

/-- The slice at a reads as these maps. -/
structure Pms (w : World) (a : Option Addr) (n : Nat) (ps : List (Int × Int)) : Prop where
  len : ps.length = n
  max : n ≤ 9223372036854775807
  get : ∀ k, k < n → ∃ b off, a = some ⟨b, off, none⟩ ∧ b < w.heap.size ∧ w.cell? ⟨b, off + k * 2, none⟩ = some (.int .i64 (ps.getD k (0, 0)).1) ∧ w.cell? ⟨b, off + k * 2 + 1, none⟩ = some (.int .i64 (ps.getD k (0, 0)).2)
theorem Pms.kept {w w' : World} {a : Option Addr} {n : Nat} {ps : List (Int × Int)} (h : Pms w a n ps) (hb : Below w.heap.size w w') : Pms w' a n ps := by
  refine ⟨h.len, h.max, fun k hk => ?_⟩
  obtain ⟨b, off, ha, hlt, h0, h1⟩ := h.get k hk
  exact ⟨b, off, ha, Nat.lt_of_lt_of_le hlt hb.size, (hb.cell (p := ⟨b, off + k * 2, none⟩) hlt).trans h0, (hb.cell (p := ⟨b, off + k * 2 + 1, none⟩) hlt).trans h1⟩

/-- The six cells of a certificate from o on. -/
structure CellsP (w : World) (b o : Nat) (a1 : Option Addr) (n1 c1 : Nat) (a2 : Option Addr) (n2 c2 : Nat) (x : PC) : Prop where
  c0 : w.cell? ⟨b, o, none⟩ = some (.slice a1 n1 c1)
  c1 : w.cell? ⟨b, o + 1, none⟩ = some (.slice a2 n2 c2)
  c2 : w.cell? ⟨b, o + 2, none⟩ = some (.bool x.self)
  c3 : w.cell? ⟨b, o + 3, none⟩ = some (.int .i64 x.need)
  c4 : w.cell? ⟨b, o + 4, none⟩ = some (.int .i64 x.nomap)
  c5 : w.cell? ⟨b, o + 5, none⟩ = some (.int .i64 x.noany)
theorem CellsP.of {w w' : World} {b o : Nat} {a1 : Option Addr} {n1 c1 : Nat} {a2 : Option Addr} {n2 c2 : Nat} {x : PC} (h : CellsP w b o a1 n1 c1 a2 n2 c2 x) (hc : ∀ i, w'.cell? ⟨b, i, none⟩ = w.cell? ⟨b, i, none⟩) : CellsP w' b o a1 n1 c1 a2 n2 c2 x :=
  ⟨(hc _).trans h.c0, (hc _).trans h.c1, (hc _).trans h.c2, (hc _).trans h.c3, (hc _).trans h.c4, (hc _).trans h.c5⟩

/-- Its two lists are there. -/
structure PcAt (w : World) (a1 : Option Addr) (n1 c1 : Nat) (a2 : Option Addr) (n2 : Nat) (x : PC) : Prop where
  pol : Row64 w a1 n1 x.pols
  le : n1 ≤ c1
  max : c1 ≤ 9223372036854775807
  mp : Pms w a2 n2 x.maps
theorem PcAt.kept {w w' : World} {a1 : Option Addr} {n1 c1 : Nat} {a2 : Option Addr} {n2 : Nat} {x : PC} (h : PcAt w a1 n1 c1 a2 n2 x) (hb : Below w.heap.size w w') : PcAt w' a1 n1 c1 a2 n2 x := ⟨h.pol.kept hb, h.le, h.max, h.mp.kept hb⟩

/-- The slice at a reads as these certificates. -/
structure Pcs (w : World) (a : Option Addr) (n : Nat) (xs : List PC) : Prop where
  len : xs.length = n
  max : n ≤ 9223372036854775807
  get : ∀ k, k < n → ∃ b off a1 n1 c1 a2 n2 c2, a = some ⟨b, off, none⟩ ∧ b < w.heap.size ∧ CellsP w b (off + k * 6) a1 n1 c1 a2 n2 c2 (xs.getD k default) ∧ PcAt w a1 n1 c1 a2 n2 (xs.getD k default)
theorem Pcs.kept {w w' : World} {a : Option Addr} {n : Nat} {xs : List PC} (h : Pcs w a n xs) (hb : Below w.heap.size w w') : Pcs w' a n xs := by
  refine ⟨h.len, h.max, fun k hk => ?_⟩
  obtain ⟨b, off, a1, n1, c1, a2, n2, c2, ha, hlt, hc, hp⟩ := h.get k hk
  exact ⟨b, off, a1, n1, c1, a2, n2, c2, ha, Nat.lt_of_lt_of_le hlt hb.size, hc.of (fun i => hb.cell (p := ⟨b, i, none⟩) hlt), hp.kept hb⟩
/-- It is small. -/
def PcOk (x : PC) : Prop := x.pols.length ≤ 1048576 ∧ x.maps.length ≤ 1048576

theorem keepP {a b c : World} (h1 : Below a.heap.size a b) (h2 : Below b.heap.size b c) : Below a.heap.size a c := h1.trans (h2.mono h1.size)
theorem below_drewNP {B : Nat} {w w' : World} (h : Below B w w') (n : Nat) : Below B w (w'.drewN n) := by
  induction n with
  | zero => simpa [World.drewN] using h
  | succ n ih => exact ih.drew

set_option maxRecDepth 10000 in
set_option maxHeartbeats 400000 in
theorem szInt64S_p (a : Option Addr) (n cap : Nat) (left : Int) (w : World) (hn : n ≤ 9223372036854775807) (h0 : 0 ≤ left) (h1 : left ≤ 1048576) :
    Calls Tryz.prog 22 #[.slice a n cap, .int .i64 left] w fun e w' => ∃ r, e = .returned (.int .i64 r) ∧ (r < 0 ∨ (0 ≤ r ∧ r ≤ 1048576 ∧ n ≤ 1048576)) ∧ w = w' := by
  by_cases hlt : (n : Int) ≤ left
  · go_enter Tryz.func22, Tryz.ntmps22
    go_wp2
    go_ret
    exact ⟨_, rfl, .inr (by omega), rfl⟩
  · go_enter Tryz.func22, Tryz.ntmps22
    go_wp2
    go_ret
    exact ⟨_, rfl, .inl (by decide), rfl⟩

set_option maxRecDepth 10000 in
set_option maxHeartbeats 400000 in
theorem szPolMapS_any (a : Option Addr) (n cap : Nat) (left : Int) (w : World) (hn : n ≤ 9223372036854775807) (h0 : 0 ≤ left) (h1 : left ≤ 1048576) :
    Calls Tryz.prog 23 #[.slice a n cap, .int .i64 left] w fun e w' => ∃ r, e = .returned (.int .i64 r) ∧ (r < 0 ∨ (0 ≤ r ∧ r ≤ 1048576 ∧ n ≤ 1048576)) ∧ w = w' := by
  by_cases hlt : (n : Int) ≤ left
  · go_enter Tryz.func23, Tryz.ntmps23
    go_wp2
    go_ret
    exact ⟨_, rfl, .inr (by omega), rfl⟩
  · go_enter Tryz.func23, Tryz.ntmps23
    go_wp2
    go_ret
    exact ⟨_, rfl, .inl (by decide), rfl⟩

set_option maxRecDepth 10000 in
set_option maxHeartbeats 400000 in
theorem eqPolMap_same (p : Int × Int) (w : World) :
    Calls Tryz.prog 94 #[pmv p, pmv p] w fun e w' => e = .returned (.bool true) ∧ Below w.heap.size w w' := by
  obtain ⟨a, b⟩ := p
  unfold pmv
  have z1 : (a != a) = false := by simp
  have z2 : (b != b) = false := by simp
  go_enter Tryz.func94, Tryz.ntmps94
  go_wp2
  go_ret
  exact ⟨rfl, ((Below.refl _ _).alloc (Nat.le_refl _) _).alloc (by simp) _⟩

set_option maxRecDepth 10000 in
set_option maxHeartbeats 2000000 in
theorem eqPolMapS_same (a b : Option Addr) (n ca cb : Nat) (ps : List (Int × Int)) (w : World) (hx : Pms w a n ps) (hy : Pms w b n ps) :
    Calls Tryz.prog 49 #[.slice a n ca, .slice b n cb] w fun e w' => e = .returned (.bool true) ∧ Below w.heap.size w w' := by
  have HX : Hid (Pms w a n ps) := hx
  have HY : Hid (Pms w b n ps) := hy
  have hn := hx.max
  clear hx hy
  have zn : ((n : Int) != (n : Int)) = false := by simp
  go_enter Tryz.func49, Tryz.ntmps49
  go_wp2
  go_loopw [5] (fun i wr => ∃ k : Nat, k ≤ n ∧ i = .int .i64 k ∧ Below w.heap.size w wr) (fun i _ => n - (intOf i).toNat)
  case atStart => exact ⟨0, Nat.zero_le _, rfl, Below.refl _ _⟩
  case round =>
    obtain ⟨k, hk, rfl, hbr⟩ := hrel
    by_cases hlt : k < n
    · obtain ⟨b1, o1, rfl, hl1, x0, x1⟩ := (HX.out.kept hbr).get k hlt
      obtain ⟨b2, o2, rfl, hl2, y0, y1⟩ := (HY.out.kept hbr).get k hlt
      obtain ⟨q, hq⟩ : ∃ q, q = ps.getD k (0, 0) := ⟨_, rfl⟩
      rw [← hq] at x0 x1 y0 y1
      clear hq
      have hlti : (k : Int) < (n : Int) := by omega
      go_wp2_with fail
      have EQ : Hid (_) := eqPolMap_same q wr.drew
      have e0 : wr.drew.cell? ⟨b1, o1 + k * 2, none⟩ = some (.int .i64 q.1) := x0
      go_region_with ((go_at_call 94; refine Calls.mono EQ.out ?_; rintro e w2 ⟨rfl, hb2⟩))
      all_goals
        go_wp2
        go_roundw
        case rel => exact ⟨k + 1, by omega, by go_num, keepP hbr.drew hb2⟩
        case measure => simp [intOf]; omega
    · go_wp2
      go_ret
      exact ⟨rfl, hbr⟩

theorem two_blocksP (w : World) (o0 o1 : Obj) : ((w.alloc o0).alloc o1).heap[w.heap.size]? = some o0 ∧ ((w.alloc o0).alloc o1).heap[w.heap.size + 1]? = some o1 := by
  have s1 : (w.alloc o0).heap.size = w.heap.size + 1 := by simp
  exact ⟨(((Below.refl (w.alloc o0).heap.size (w.alloc o0)).alloc (Nat.le_refl _) o1).block _ (by omega)).trans (heap_alloc_new w o0), by rw [← s1]; exact heap_alloc_new _ o1⟩

end Go.Proofs.YtkpabanjlhlmfaaGreatDoor

namespace Go.Proofs.YtkpabanjlhlmfaaGreatDoor
open Go.RowKit

/-- A counter, behind a certificate. -/
def nxt (c : Int) (self : Bool) (says : Int) : Int :=
  if 0 ≤ says ∧ says < (if self = false ∧ 0 < c then c - 1 else c) then says else (if self = false ∧ 0 < c then c - 1 else c)
def ctr0 (now : Bool) (n : Nat) : Int := if now then 0 else (n : Int) + 1
def ctr (f : PC → Int) (c0 : Int) (xs : List PC) : Nat → Int
  | 0 => c0
  | i + 1 => nxt (ctr f c0 xs i) (xs.getD i default).self (f (xs.getD i default))
theorem nxt_bounds {c : Int} (self : Bool) (says : Int) (h0 : 0 ≤ c) (h1 : c ≤ 9) : 0 ≤ nxt c self says ∧ nxt c self says ≤ 9 := by
  unfold nxt
  split <;> split <;> omega
theorem ctr_bounds (f : PC → Int) {c0 : Int} (xs : List PC) (h0 : 0 ≤ c0) (h1 : c0 ≤ 9) : ∀ i, 0 ≤ ctr f c0 xs i ∧ ctr f c0 xs i ≤ 9
  | 0 => ⟨h0, h1⟩
  | i + 1 => nxt_bounds _ _ (ctr_bounds f xs h0 h1 i).1 (ctr_bounds f xs h0 h1 i).2
theorem ctr0_bounds (now : Bool) (n : Nat) (h : n ≤ 8) : 0 ≤ ctr0 now n ∧ ctr0 now n ≤ 9 := by
  unfold ctr0
  split <;> omega

/-- What the certificate at i lets in by any. -/
def allIn (xs : List PC) (a0 : Int) (i : Nat) : Prop := 0 < ctr PC.noany a0 xs i ∨ ((xs.getD i default).self = true ∧ i + 1 ≠ xs.length)
instance (xs : List PC) (a0 : Int) (i : Nat) : Decidable (allIn xs a0 i) := by unfold allIn; infer_instance
/-- Whether a policy holds at the certificate at i. -/
def hAt (xs : List PC) (a0 : Int) (i : Nat) (q : Int) : Prop := q ∈ (xs.getD i default).pols ∨ (0 ∈ (xs.getD i default).pols ∧ allIn xs a0 i)
instance (xs : List PC) (a0 : Int) (i : Nat) (q : Int) : Decidable (hAt xs a0 i q) := by unfold hAt; infer_instance
/-- The Tos of a policy. -/
def tosOf (ms : List (Int × Int)) (q : Int) : List Int := (ms.filter (fun p => p.1 == q)).map Prod.snd
/-- What a policy means behind the certificate at i. -/
def nx (xs : List PC) (m0 : Int) (i : Nat) (q : Int) : List Int :=
  if tosOf (xs.getD i default).maps q = [] then [q] else if 0 < ctr PC.nomap m0 xs i then tosOf (xs.getD i default).maps q else []
/-- How many chains lead on from a policy, m certificates from the end. -/
def chn (xs : List PC) (m0 a0 : Int) : Nat → Nat → Int → Int
  | 0, _, _ => 0
  | m + 1, i, q => if hAt xs a0 i q then (if m = 0 then 1 else ((nx xs m0 i q).map (fun q' => chn xs m0 a0 m (i + 1) q')).sum) else 0

theorem chn_succ (xs : List PC) (m0 a0 : Int) (m i : Nat) (q : Int) : chn xs m0 a0 (m + 1) i q = if hAt xs a0 i q then (if m = 0 then 1 else ((nx xs m0 i q).map (fun q' => chn xs m0 a0 m (i + 1) q')).sum) else 0 := rfl
theorem tos_len (ms : List (Int × Int)) (q : Int) : (tosOf ms q).length ≤ ms.length := by
  unfold tosOf
  rw [List.length_map]
  exact List.length_filter_le _ _
theorem tos_next (ms : List (Int × Int)) (q : Int) (k : Nat) (h : k < ms.length) : tosOf (ms.take (k + 1)) q = tosOf (ms.take k) q ++ (if (ms.getD k (0, 0)).1 = q then [(ms.getD k (0, 0)).2] else []) := by
  have e : ms.getD k (0, 0) = ms[k] := by simp [h]
  rw [e, List.take_succ_eq_append_getElem h]
  unfold tosOf
  rw [List.filter_append, List.map_append]
  by_cases hq : (ms[k]).1 = q
  · simp [hq]
  · have : (ms[k].fst == q) = false := beq_false_of_ne hq
    simp [this, hq]
theorem tos_all (ms : List (Int × Int)) (q : Int) (k : Nat) (h : ms.length ≤ k) : tosOf (ms.take k) q = tosOf ms q := by rw [List.take_of_length_le h]

theorem sum_nonneg {l : List Int} (h : ∀ x ∈ l, 0 ≤ x) : 0 ≤ l.sum := by
  induction l with
  | nil => simp
  | cons a r ih =>
    rw [List.sum_cons]
    have h1 := h a (by simp)
    have h2 := ih (fun x hx => h x (by simp [hx]))
    omega
theorem sum_pos {l : List Int} (h : ∀ x ∈ l, 0 ≤ x) : 0 < l.sum ↔ ∃ x ∈ l, 0 < x := by
  induction l with
  | nil => simp
  | cons a r ih =>
    rw [List.sum_cons]
    have h1 := h a (by simp)
    have h2 : ∀ x ∈ r, 0 ≤ x := fun x hx => h x (by simp [hx])
    have h3 := sum_nonneg h2
    have h4 := ih h2
    constructor
    · intro hs
      by_cases ha : 0 < a
      · exact ⟨a, by simp, ha⟩
      · obtain ⟨x, hx, hx0⟩ := h4.1 (by omega)
        exact ⟨x, by simp [hx], hx0⟩
    · rintro ⟨x, hx, hx0⟩
      rcases List.mem_cons.1 hx with rfl | hx
      · omega
      · have := h4.2 ⟨x, hx, hx0⟩
        omega
theorem sum_le {l : List Int} {c : Int} (h : ∀ x ∈ l, x ≤ c) : l.sum ≤ l.length * c := by
  induction l with
  | nil => simp
  | cons a r ih =>
    rw [List.sum_cons, List.length_cons]
    have h1 := h a (by simp)
    have h2 := ih (fun x hx => h x (by simp [hx]))
    have e : ((r.length + 1 : Nat) : Int) * c = (r.length : Int) * c + c := by rw [Int.natCast_add, Int.add_mul]; simp
    omega
theorem chn_nonneg (xs : List PC) (m0 a0 : Int) : ∀ m i q, 0 ≤ chn xs m0 a0 m i q
  | 0, _, _ => Int.le_refl _
  | m + 1, i, q => by
    unfold chn
    split
    · split
      · decide
      · refine sum_nonneg (fun x hx => ?_)
        obtain ⟨q', _, rfl⟩ := List.mem_map.1 hx
        exact chn_nonneg xs m0 a0 m (i + 1) q'
    · decide
theorem nx_len (xs : List PC) (m0 : Int) (i : Nat) (q : Int) (h : (xs.getD i default).maps.length ≤ 6) : (nx xs m0 i q).length ≤ 6 := by
  have := tos_len (xs.getD i default).maps q
  unfold nx
  split
  · simp
  · split
    · omega
    · simp
def six (m : Nat) : Int := ((6 ^ m : Nat) : Int)
theorem six_succ (m : Nat) : six (m + 1) = 6 * six m := by unfold six; rw [Nat.pow_succ]; omega
theorem six_pos (m : Nat) : 0 < six m := by unfold six; have : 0 < 6 ^ m := Nat.pow_pos (by decide); omega
theorem chn_le (xs : List PC) (m0 a0 : Int) (hm : ∀ i, (xs.getD i default).maps.length ≤ 6) : ∀ m i q, chn xs m0 a0 m i q ≤ six m
  | 0, _, _ => Int.le_of_lt (six_pos 0)
  | m + 1, i, q => by
    have p := six_pos m
    have e := six_succ m
    unfold chn
    split
    · split
      · omega
      · have hs := sum_le (l := (nx xs m0 i q).map (fun q' => chn xs m0 a0 m (i + 1) q')) (c := six m) (fun x hx => by
          obtain ⟨q', _, rfl⟩ := List.mem_map.1 hx
          exact chn_le xs m0 a0 hm m (i + 1) q')
        have hl := nx_len xs m0 i q (hm i)
        rw [List.length_map] at hs
        have h6 : ((nx xs m0 i q).length : Int) * six m ≤ 6 * six m := Int.mul_le_mul_of_nonneg_right (by omega) (Int.le_of_lt p)
        omega
    · omega

theorem chn_last (xs : List PC) (m0 a0 : Int) (i : Nat) (q : Int) : 0 < chn xs m0 a0 1 i q ↔ hAt xs a0 i q := by
  unfold chn
  by_cases h : hAt xs a0 i q
  · simp [h]
  · simp [h]
theorem chn_step (xs : List PC) (m0 a0 : Int) (m i : Nat) (q : Int) (hm : m ≠ 0) : 0 < chn xs m0 a0 (m + 1) i q ↔ hAt xs a0 i q ∧ ∃ q' ∈ nx xs m0 i q, 0 < chn xs m0 a0 m (i + 1) q' := by
  rw [chn_succ]
  by_cases h : hAt xs a0 i q
  · rw [if_pos h, if_neg hm, sum_pos (fun x hx => by obtain ⟨q', _, rfl⟩ := List.mem_map.1 hx; exact chn_nonneg xs m0 a0 m (i + 1) q')]
    constructor
    · rintro ⟨x, hx, hx0⟩
      obtain ⟨q', hq', rfl⟩ := List.mem_map.1 hx
      exact ⟨h, q', hq', hx0⟩
    · rintro ⟨_, q', hq', h0⟩
      exact ⟨_, List.mem_map.2 ⟨q', hq', rfl⟩, h0⟩
  · rw [if_neg h]
    exact ⟨fun h' => absurd h' (by decide), fun h' => absurd h'.1 h⟩

/-- Behind a certificate: what is meant by some that hold. -/
theorem means_step (xs : List PC) (m0 a0 : Int) (m i : Nat) (hm : m ≠ 0) (means means' : List Int) (h : ∀ x, x ∈ means' ↔ ∃ q ∈ means, hAt xs a0 i q ∧ x ∈ nx xs m0 i q) :
    (∃ q ∈ means, 0 < chn xs m0 a0 (m + 1) i q) ↔ ∃ q ∈ means', 0 < chn xs m0 a0 m (i + 1) q := by
  constructor
  · rintro ⟨q, hq, h0⟩
    obtain ⟨h1, q', h2, h3⟩ := (chn_step xs m0 a0 m i q hm).1 h0
    exact ⟨q', (h q').2 ⟨q, hq, h1, h2⟩, h3⟩
  · rintro ⟨q', hq', h0⟩
    obtain ⟨q, hq, h1, h2⟩ := (h q').1 hq'
    exact ⟨q, hq, (chn_step xs m0 a0 m i q hm).2 ⟨h1, q', h2, h0⟩⟩

/-- A certificate is right. -/
def certP (x : PC) : Prop := (x.pols.length ≤ 6 ∧ x.maps.length ≤ 6) ∧ ((-1 ≤ x.need ∧ x.need ≤ 10) ∧ (-1 ≤ x.nomap ∧ x.nomap ≤ 10) ∧ (-1 ≤ x.noany ∧ x.noany ≤ 10)) ∧ (∀ j, j < x.pols.length → 0 ≤ x.pols.getD j 0 ∧ x.pols.getD j 0 ≤ 1000) ∧ unl x.pols ∧ (∀ j, j < x.maps.length → (1 ≤ (x.maps.getD j (0, 0)).1 ∧ (x.maps.getD j (0, 0)).1 ≤ 1000) ∧ (1 ≤ (x.maps.getD j (0, 0)).2 ∧ (x.maps.getD j (0, 0)).2 ≤ 1000))
/-- A path is right. -/
def pathP (xs : List PC) : Prop := (1 ≤ xs.length ∧ xs.length ≤ 8) ∧ ∀ j, j < xs.length → certP (xs.getD j default)
theorem pathP.maps {xs : List PC} (h : pathP xs) (i : Nat) : (xs.getD i default).maps.length ≤ 6 := by
  by_cases hi : i < xs.length
  · exact (h.2 i hi).1.2
  · have e : xs.getD i default = default := by simp [show xs.length ≤ i by omega]
    rw [e]; exact Nat.zero_le _
/-- A policy holds. -/
def polP (xs : List PC) (p : Int) (noMap noAny : Bool) : Prop := pathP xs ∧ (1 ≤ p ∧ p ≤ 1000) ∧ 0 < chn xs (ctr0 noMap xs.length) (ctr0 noAny xs.length) xs.length 0 p

end Go.Proofs.YtkpabanjlhlmfaaGreatDoor

namespace Go.Proofs.YtkpabanjlhlmfaaGreatDoor
open Go.RowKit

def flat (ps : List (Int × Int)) : List Value := ps.flatMap fun p => [Value.int .i64 p.1, .int .i64 p.2]
theorem flat_nil : flat [] = [] := rfl
theorem flat_cons (p : Int × Int) (r : List (Int × Int)) : flat (p :: r) = Value.int .i64 p.1 :: .int .i64 p.2 :: flat r := rfl
theorem flat_append (a b : List (Int × Int)) : flat (a ++ b) = flat a ++ flat b := by simp [flat, List.flatMap_append]
theorem flat_len (ps : List (Int × Int)) : (flat ps).length = ps.length * 2 := by
  induction ps with
  | nil => rfl
  | cons p r ih => rw [flat_cons]; simp [ih]; omega
theorem flat_get (ps : List (Int × Int)) : ∀ k, k < ps.length → (flat ps)[k * 2]? = some (.int .i64 (ps.getD k (0, 0)).1) ∧ (flat ps)[k * 2 + 1]? = some (.int .i64 (ps.getD k (0, 0)).2) := by
  induction ps with
  | nil => intro k h; simp at h
  | cons p r ih =>
    intro k h
    cases k with
    | zero => simp [flat_cons]
    | succ k =>
      have := ih k (by simpa using h)
      rw [flat_cons, show (k + 1) * 2 = k * 2 + 1 + 1 by omega]
      simpa using this
theorem flat_set (ps : List (Int × Int)) : ∀ k (u : Int × Int), k < ps.length → ((flat ps).set (k * 2) (.int .i64 u.1)).set (k * 2 + 1) (.int .i64 u.2) = flat (ps.set k u) := by
  induction ps with
  | nil => intro k u h; simp at h
  | cons p r ih =>
    intro k u h
    cases k with
    | zero => simp [flat_cons]
    | succ k =>
      have := ih k u (by simpa using h)
      rw [flat_cons, show (k + 1) * 2 = k * 2 + 1 + 1 by omega]
      simp only [List.set_cons_succ, flat_cons]
      rw [this]

def Pre2 (vs : List Value) (ps : List (Int × Int)) (k : Nat) : Prop := ∀ j, j < k → vs[j * 2]? = some (.int .i64 (ps.getD j (0, 0)).1) ∧ vs[j * 2 + 1]? = some (.int .i64 (ps.getD j (0, 0)).2)
theorem Pre2.set {vs : List Value} {ps : List (Int × Int)} {k : Nat} (h : Pre2 vs ps k) (hk : k * 2 + 1 < vs.length) : Pre2 ((vs.set (k * 2) (.int .i64 (ps.getD k (0, 0)).1)).set (k * 2 + 1) (.int .i64 (ps.getD k (0, 0)).2)) ps (k + 1) := by
  intro j hj
  by_cases e : j = k
  · subst e
    refine ⟨?_, ?_⟩
    · rw [List.getElem?_set_ne (by omega), List.getElem?_set_self (by omega)]
    · rw [List.getElem?_set_self (by simp; omega)]
  · have h1 := h j (by omega)
    refine ⟨?_, ?_⟩
    · rw [List.getElem?_set_ne (by omega), List.getElem?_set_ne (by omega)]; exact h1.1
    · rw [List.getElem?_set_ne (by omega), List.getElem?_set_ne (by omega)]; exact h1.2
theorem Pre2.all {vs : List Value} {ps : List (Int × Int)} {n : Nat} (h : Pre2 vs ps n) (hv : vs.length = n * 2) (hp : ps.length = n) : vs = flat ps := by
  apply List.ext_getElem?
  intro i
  by_cases hi : i < n * 2
  · have h1 := h (i / 2) (by omega)
    have h2 := flat_get ps (i / 2) (by omega)
    rcases Nat.mod_two_eq_zero_or_one i with e | e
    · have ei : i / 2 * 2 = i := by omega
      rw [ei] at h1 h2
      exact h1.1.trans h2.1.symm
    · have ei : i / 2 * 2 + 1 = i := by omega
      rw [ei] at h1 h2
      exact h1.2.trans h2.2.symm
  · rw [List.getElem?_eq_none (by omega), List.getElem?_eq_none (by rw [flat_len]; omega)]

/-- Maps of our own, between lo and hi. -/
structure OwnPm (lo hi : Nat) (w : World) (a : Option Addr) (n cap : Nat) (ps : List (Int × Int)) : Prop where
  row : w.ownsRow lo 74 2 (.slice a n cap) n (flat ps)
  max : n ≤ 9223372036854775807
  lt : ∀ x, a = some x → x.block < hi
theorem OwnPm.len {lo hi : Nat} {w : World} {a : Option Addr} {n cap : Nat} {ps : List (Int × Int)} (h : OwnPm lo hi w a n cap ps) : ps.length = n := by
  have := h.row.1
  rw [flat_len] at this
  omega
theorem OwnPm.toPms {lo hi : Nat} {w : World} {a : Option Addr} {n cap : Nat} {ps : List (Int × Int)} (h : OwnPm lo hi w a n cap ps) : Pms w a n ps := by
  refine ⟨h.len, h.max, fun k hk => ?_⟩
  have hf := flat_get ps k (by rw [h.len]; exact hk)
  rcases h.row.2 with ⟨_, h0⟩ | ⟨g, cap', cur, hv, hb, hg, _⟩
  · omega
  · simp only [Value.slice.injEq] at hv
    obtain ⟨rfl, _, rfl⟩ := hv
    exact ⟨g, 0, rfl, (Array.getElem?_eq_some_iff.1 hg).1, by rw [Nat.zero_add, h.row.cellAt _ (by omega)]; exact hf.1, by rw [Nat.zero_add, h.row.cellAt _ (by omega)]; exact hf.2⟩
theorem OwnPm.kept {lo hi : Nat} {w w' : World} {a : Option Addr} {n cap : Nat} {ps : List (Int × Int)} (h : OwnPm lo hi w a n cap ps) (hb : Below w.heap.size w w') : OwnPm lo hi w' a n cap ps := ⟨ownsRow_below h.row hb, h.max, h.lt⟩
/-- What hangs on the blocks from B on alone. -/
def StabP (B : Nat) (R : World → Prop) : Prop := ∀ W W' : World, (∀ l, B ≤ l → l < W.heap.size → W'.heap[l]? = W.heap[l]?) → R W → R W'
theorem stabP_row {B lo e s n : Nat} {v : Value} {xs : List Value} (h : B ≤ lo) : StabP B (fun W => W.ownsRow lo e s v n xs) := by
  intro W W' hb hr
  refine ⟨hr.1, ?_⟩
  rcases hr.2 with hn' | ⟨g, cap', cur, hv, hbb, hgg, rest⟩
  · exact .inl hn'
  · exact .inr ⟨g, cap', cur, hv, hbb, (hb g (by omega) (Array.getElem?_eq_some_iff.1 hgg).1).trans hgg, rest⟩
theorem stabP_64 {B lo hi n c : Nat} {a : Option Addr} {zs : List Int} (h : B ≤ lo) : StabP B (fun W => Own64 lo hi W a n c zs) := fun W W' hb hr => ⟨stabP_row h W W' hb hr.row, hr.lt⟩
theorem stabP_pm {B lo hi n c : Nat} {a : Option Addr} {ps : List (Int × Int)} (h : B ≤ lo) : StabP B (fun W => OwnPm lo hi W a n c ps) := fun W W' hb hr => ⟨stabP_row h W W' hb hr.row, hr.max, hr.lt⟩
theorem StabP.and {B : Nat} {R S : World → Prop} (h : StabP B R) (k : StabP B S) : StabP B (fun W => R W ∧ S W) := fun W W' hb hr => ⟨h W W' hb hr.1, k W W' hb hr.2⟩
theorem Own64.monoP {lo hi lo' hi' : Nat} {w : World} {a : Option Addr} {n cap : Nat} {zs : List Int} (h : Own64 lo hi w a n cap zs) (h1 : lo' ≤ lo) (h2 : hi ≤ hi') : Own64 lo' hi' w a n cap zs := by
  refine ⟨⟨h.row.1, ?_⟩, fun x hx => Nat.lt_of_lt_of_le (h.lt x hx) h2⟩
  rcases h.row.2 with hv | ⟨g, cap, cur, hv, hbb, rest⟩
  · exact .inl hv
  · exact .inr ⟨g, cap, cur, hv, by omega, rest⟩
theorem OwnPm.monoP {lo hi lo' hi' : Nat} {w : World} {a : Option Addr} {n cap : Nat} {ps : List (Int × Int)} (h : OwnPm lo hi w a n cap ps) (h1 : lo' ≤ lo) (h2 : hi ≤ hi') : OwnPm lo' hi' w a n cap ps := by
  refine ⟨⟨h.row.1, ?_⟩, h.max, fun x hx => Nat.lt_of_lt_of_le (h.lt x hx) h2⟩
  rcases h.row.2 with hv | ⟨g, cap, cur, hv, hbb, rest⟩
  · exact .inl hv
  · exact .inr ⟨g, cap, cur, hv, by omega, rest⟩

theorem Tryz.infoPolMap : (Tryz.prog.info? 74).map (fun i => (i.zero, i.size, i.bytes)) = some (some (.agg #[.int .i64 0, .int .i64 0]), 2, 16) := by kernel_rfl

theorem results_pm {fn : Func} {t : Tmp} (h : fn.results = #[.cell t 74]) (tmps : Array Value) (g : Nat) (ht : tmps.getD t undef = .pointer (some ⟨g, 0, none⟩)) (w : World) (p : Int × Int)
    (hb : w.heap[g]? = some (.cells #[.int .i64 p.1, .int .i64 p.2] 74 (0, 0))) : (results fn tmps).run Tryz.prog w = .ok (pmv p) w := by
  have d0 : w.cell? ⟨g, 0, none⟩ = some (.int .i64 p.1) := (cell_of_row _ g 0 _ 74 (0, 0) hb).trans rfl
  have d1 : w.cell? ⟨g, 1, none⟩ = some (.int .i64 p.2) := (cell_of_row _ g 1 _ 74 (0, 0) hb).trans rfl
  clear hb
  have ht' : tmps[t]?.getD undef = .pointer (some ⟨g, 0, none⟩) := by rw [← ht]; simp
  simp [results, h, go_sem, ht', d0, d1, pmv]
theorem alloc_oldP (w : World) (o : Obj) (g : Nat) (hg : g < w.heap.size) : (w.alloc o).heap[g]? = w.heap[g]? := ((Below.refl w.heap.size w).alloc (Nat.le_refl _) o).block g hg

set_option maxRecDepth 10000 in
set_option maxHeartbeats 1000000 in
theorem toPolMap_any (p : Int × Int) (w : World) :
    Calls Tryz.prog 80 #[pmv p] w fun e w' => e = .returned (pmv p) ∧ Below w.heap.size w w' := by
  obtain ⟨a, b⟩ := p
  have b1 : ((((w.alloc (.cells #[.int .i64 a, .int .i64 b] 127)).alloc (.cells #[.int .i64 a, .int .i64 b] 74)).alloc (.cells #[.int .i64 a, .int .i64 b] 74))).heap[w.heap.size + 1]? = some (.cells #[.int .i64 a, .int .i64 b] 74) := by
    have s1 : (w.alloc (.cells #[.int .i64 a, .int .i64 b] 127)).heap.size = w.heap.size + 1 := by simp
    exact (alloc_oldP _ _ _ (by simp)).trans (by rw [← s1]; exact heap_alloc_new _ _)
  have HB1 : Hid (_ = _) := b1
  clear b1
  unfold pmv
  go_enter Tryz.func80, Tryz.ntmps80
  go_wp2
  try simp only [Exit.inBlock, Exit.then]
  exact bodyPost_ret (results_pm (p := (a, b)) rfl _ (w.heap.size + 1) rfl _ HB1.out) rfl ⟨rfl, (((Below.refl _ _).alloc (Nat.le_refl _) _).alloc (by simp) _).alloc (by simp; omega) _⟩

set_option maxRecDepth 10000 in
set_option maxHeartbeats 2000000 in
theorem toPolMapS_any (a : Option Addr) (n c : Nat) (ps : List (Int × Int)) (w : World) (h : Pms w a n ps) (hn : n ≤ 1048576) :
    Calls Tryz.prog 35 #[.slice a n c] w fun e w' => ∃ ar, e = .returned (.slice ar n n) ∧ OwnPm w.heap.size w'.heap.size w' ar n n ps ∧ Below w.heap.size w w' := by
  obtain ⟨i0, hi, hz0, hz1, hz2⟩ := info_parts Tryz.infoPolMap
  have H0 : Hid (Pms w a n ps) := h
  have HL : Hid (ps.length = n) := h.len
  clear h
  go_enter Tryz.func35, Tryz.ntmps35
  go_wp2_with (first | (at_make; refine wpList_make_full _ rfl _ _ 42 rfl w.heap.size 74 i0 _ 2 Tryz.underlying42 hi hz0 hz1 _ _ _ _ n rfl rfl rfl rfl (by rw [hz2]; omega) (by unfold maxLen; omega) (by exact Nat.le_refl _) ?_; intro w2 hown hgrow))
  have hbl : Below w.heap.size w w2 := (Below.refl _ _).grown hgrow (Nat.le_refl _) (by simp)
  clear hgrow hi hz0 hz1 hz2
  go_loopw [4] (fun i wr => ∃ k : Nat, k ≤ n ∧ i = .int .i64 k ∧ (∃ vs, wr.ownsRow w.heap.size 74 2 (.slice (some ⟨w.heap.size, 0, none⟩) n n) n vs ∧ Pre2 vs ps k) ∧ Below w.heap.size w wr) (fun i _ => n - (intOf i).toNat)
  case atStart => exact ⟨0, Nat.zero_le _, rfl, ⟨_, hown, fun j hj => absurd hj (Nat.not_lt_zero _)⟩, hbl⟩
  case round =>
    obtain ⟨k, hk, rfl, ⟨vs, hor, hpre⟩, hbr⟩ := hrel
    by_cases hkn : k < n
    · obtain ⟨b, off, rfl, hlb, x0, x1⟩ := (H0.out.kept hbr).get k hkn
      obtain ⟨p, hp⟩ : ∃ p, p = ps.getD k (0, 0) := ⟨_, rfl⟩
      rw [← hp] at x0 x1
      have HP : Hid (ps.getD k (0, 0) = p) := hp.symm
      have hkni : (k : Int) < (n : Int) := by omega
      have HPRE : Hid (Pre2 vs ps k) := hpre
      have HOR : Hid (_) := hor
      have hws := hbr.size
      clear hp hpre hor hown hbl
      go_wp2_with fail
      refine (toPolMap_any p _).mono ?_
      rintro e w3 ⟨rfl, hb3⟩
      have hor3 := ownsRow_below HOR.out hb3
      have hvl : vs.length = n * 2 := hor3.1
      have f0 : w3.frozen? ⟨w.heap.size, k * 2, none⟩ = false := hor3.frozenAt _
      have f1 : w3.frozen? ⟨w.heap.size, k * 2 + 1, none⟩ = false := hor3.frozenAt _
      obtain ⟨y0, hy0⟩ : ∃ y, w3.cell? ⟨w.heap.size, k * 2, none⟩ = some y := ⟨_, (hor3.cellAt _ (by omega)).trans (List.getElem?_eq_getElem (by omega))⟩
      obtain ⟨y1, hy1⟩ : ∃ y, w3.cell? ⟨w.heap.size, k * 2 + 1, none⟩ = some y := ⟨_, (hor3.cellAt _ (by omega)).trans (List.getElem?_eq_getElem (by omega))⟩
      have hP := HPRE.out.set (by omega)
      rw [HP.out] at hP
      have hO := ((hor3.stored (k * 2) (.int .i64 p.1)).1.stored (k * 2 + 1) (.int .i64 p.2)).1
      have hB : Below w.heap.size w ((w3.setCell ⟨w.heap.size, k * 2, none⟩ (.int .i64 p.1)).setCell ⟨w.heap.size, k * 2 + 1, none⟩ (.int .i64 p.2)) := ((keepP hbr hb3).setCell (Nat.le_refl _) _).setCell (Nat.le_refl _) _
      have FIN : Hid (_ ∧ _ ∧ _) := ⟨hO, hP, hB⟩
      clear hP hO hB hor3 hb3 hbr HPRE HOR
      rw [pmv]
      go_wp2
      go_roundw
      case rel => exact ⟨k + 1, by omega, by go_num, ⟨_, FIN.out.1, FIN.out.2.1⟩, FIN.out.2.2⟩
      case measure => simp [intOf]; omega
    · obtain rfl : k = n := by omega
      have hvs := hpre.all hor.1 HL.out
      rw [hvs] at hor
      have FIN : Hid (OwnPm w.heap.size wr.heap.size wr (some ⟨w.heap.size, 0, none⟩) k k ps ∧ _) := ⟨⟨hor, by omega, fun x hx => by cases hx; exact (hor.lt _ rfl).2⟩, hbr⟩
      clear hor hpre hbr hvs hown hbl
      go_wp2
      go_ret
      exact ⟨_, rfl, FIN.out.1, FIN.out.2⟩

end Go.Proofs.YtkpabanjlhlmfaaGreatDoor

namespace Go.Proofs.YtkpabanjlhlmfaaGreatDoor
open Go.RowKit

/-- A flag that says P, and nothing old is turned. -/
def SaysP (P : Prop) (w : World) (e : Ending) (w' : World) : Prop := ∃ b, e = .returned (.bool b) ∧ Hid (b = true ↔ P) ∧ Below w.heap.size w w'
theorem saysP_t {P : Prop} {w w' : World} (h : P) (hb : Below w.heap.size w w') : SaysP P w (.returned (.bool true)) w' := ⟨true, rfl, ⟨fun _ => h, fun _ => rfl⟩, hb⟩
theorem saysP_f {P : Prop} {w w' : World} (h : ¬ P) (hb : Below w.heap.size w w') : SaysP P w (.returned (.bool false)) w' := ⟨false, rfl, ⟨fun e => (by cases e), fun e => absurd e h⟩, hb⟩

set_option maxRecDepth 10000 in
set_option maxHeartbeats 400000 in
theorem isPolicy_any (x : Int) (w : World) : Calls Tryz.prog 142 #[.int .i64 x] w fun e w' => e = .returned (.bool (decide (1 ≤ x ∧ x ≤ 1000))) ∧ w' = w := by
  by_cases h : 1 ≤ x ∧ x ≤ 1000
  · rw [decide_eq_true h]
    go_enter Tryz.func142, Tryz.ntmps142
    go_wp2_with fail
    refine (inBounds_t x 1 1000 _ h).mono ?_
    rintro e w1 ⟨rfl, rfl⟩
    go_wp2
    go_ret
    exact ⟨rfl, rfl⟩
  · rw [decide_eq_false h]
    go_enter Tryz.func142, Tryz.ntmps142
    go_wp2_with fail
    refine (inBounds_f x 1 1000 _ h).mono ?_
    rintro e w1 ⟨rfl, rfl⟩
    go_wp2
    go_ret
    exact ⟨rfl, rfl⟩

set_option maxRecDepth 10000 in
set_option maxHeartbeats 400000 in
theorem isPolicyOrAny_any (x : Int) (w : World) : Calls Tryz.prog 88 #[.int .i64 x] w fun e w' => e = .returned (.bool (decide (0 ≤ x ∧ x ≤ 1000))) ∧ w' = w := by
  by_cases h : 0 ≤ x ∧ x ≤ 1000
  · rw [decide_eq_true h]
    go_enter Tryz.func88, Tryz.ntmps88
    go_wp2_with fail
    refine (inBounds_t x 0 1000 _ h).mono ?_
    rintro e w1 ⟨rfl, rfl⟩
    go_wp2
    go_ret
    exact ⟨rfl, rfl⟩
  · rw [decide_eq_false h]
    go_enter Tryz.func88, Tryz.ntmps88
    go_wp2_with fail
    refine (inBounds_f x 0 1000 _ h).mono ?_
    rintro e w1 ⟨rfl, rfl⟩
    go_wp2
    go_ret
    exact ⟨rfl, rfl⟩

set_option maxRecDepth 10000 in
set_option maxHeartbeats 2000000 in
theorem everyPol_any (a : Option Addr) (n c : Nat) (zs : List Int) (w : World) (h : Row64 w a n zs) (hn : n ≤ 9223372036854775807) :
    Calls Tryz.prog 87 #[.slice a n c, .func (Fn.func 88) #[] #[]] w (SaysP (∀ j, j < zs.length → 0 ≤ zs.getD j 0 ∧ zs.getD j 0 ≤ 1000) w) := by
  have H0 : Hid (Row64 w a n zs) := h
  have HL : Hid (zs.length = n) := h.len
  clear h
  go_enter Tryz.func87, Tryz.ntmps87
  go_wp2
  go_loopw [9] (fun i wr => ∃ k : Nat, k ≤ n ∧ i = .int .i64 k ∧ Hid (∀ j, j < k → 0 ≤ zs.getD j 0 ∧ zs.getD j 0 ≤ 1000) ∧ w = wr) (fun i _ => n - (intOf i).toNat)
  case atStart => exact ⟨0, Nat.zero_le _, rfl, fun k hk => absurd hk (Nat.not_lt_zero _), rfl⟩
  case round =>
    obtain ⟨k, hk, rfl, HE, rfl⟩ := hrel
    by_cases hlt : k < n
    · obtain ⟨b, off, rfl, hb, hc⟩ := H0.out.get k hlt
      obtain ⟨z, hz⟩ : ∃ z, z = zs.getD k 0 := ⟨_, rfl⟩
      rw [← hz] at hc
      have HZ : Hid (z = zs.getD k 0) := hz
      have hlti : (k : Int) < (n : Int) := by omega
      clear hz
      go_wp2_with fail
      refine (isPolicyOrAny_any z _).mono ?_
      rintro e w2 ⟨rfl, rfl⟩
      by_cases h0 : 0 ≤ z ∧ z ≤ 1000
      · rw [decide_eq_true h0]
        have HN : Hid (∀ j, j < k + 1 → 0 ≤ zs.getD j 0 ∧ zs.getD j 0 ≤ 1000) := fun j hj => by
          by_cases e : j < k
          · exact HE.out j e
          · obtain rfl : j = k := by omega
            rw [← HZ.out]; exact h0
        clear h0 HE
        go_wp2
        go_roundw
        case rel => exact ⟨k + 1, by omega, by go_num, HN, by trivial⟩
        case measure => simp [intOf]; omega
      · rw [decide_eq_false h0]
        have HN : Hid (¬ (∀ j, j < zs.length → 0 ≤ zs.getD j 0 ∧ zs.getD j 0 ≤ 1000)) := fun e => h0 (by rw [HZ.out]; exact e k (by rw [HL.out]; exact hlt))
        clear h0 HE
        go_wp2
        go_ret
        exact saysP_f HN.out (Below.refl _ _)
    · obtain rfl : k = n := by omega
      go_wp2
      go_ret
      exact saysP_t (fun j hj => HE.out j (by rw [HL.out] at hj; exact hj)) (Below.refl _ _)

set_option maxRecDepth 10000 in
set_option maxHeartbeats 400000 in
theorem limitOk_any (x : Int) (w : World) : Calls Tryz.prog 91 #[.int .i64 x] w fun e w' => e = .returned (.bool (decide ((-1) ≤ x ∧ x ≤ 10))) ∧ w' = w := by
  by_cases h : (-1) ≤ x ∧ x ≤ 10
  · rw [decide_eq_true h]
    go_enter Tryz.func91, Tryz.ntmps91
    go_wp2_with fail
    refine (inBounds_t x (-1) 10 _ h).mono ?_
    rintro e w1 ⟨rfl, rfl⟩
    go_wp2
    go_ret
    exact ⟨rfl, rfl⟩
  · rw [decide_eq_false h]
    go_enter Tryz.func91, Tryz.ntmps91
    go_wp2_with fail
    refine (inBounds_f x (-1) 10 _ h).mono ?_
    rintro e w1 ⟨rfl, rfl⟩
    go_wp2
    go_ret
    exact ⟨rfl, rfl⟩

set_option maxRecDepth 10000 in
set_option maxHeartbeats 2000000 in
theorem everyLim_any (a : Option Addr) (n c : Nat) (zs : List Int) (w : World) (h : Row64 w a n zs) (hn : n ≤ 9223372036854775807) :
    Calls Tryz.prog 87 #[.slice a n c, .func (Fn.func 91) #[] #[]] w (SaysP (∀ j, j < zs.length → (-1) ≤ zs.getD j 0 ∧ zs.getD j 0 ≤ 10) w) := by
  have H0 : Hid (Row64 w a n zs) := h
  have HL : Hid (zs.length = n) := h.len
  clear h
  go_enter Tryz.func87, Tryz.ntmps87
  go_wp2
  go_loopw [9] (fun i wr => ∃ k : Nat, k ≤ n ∧ i = .int .i64 k ∧ Hid (∀ j, j < k → (-1) ≤ zs.getD j 0 ∧ zs.getD j 0 ≤ 10) ∧ w = wr) (fun i _ => n - (intOf i).toNat)
  case atStart => exact ⟨0, Nat.zero_le _, rfl, fun k hk => absurd hk (Nat.not_lt_zero _), rfl⟩
  case round =>
    obtain ⟨k, hk, rfl, HE, rfl⟩ := hrel
    by_cases hlt : k < n
    · obtain ⟨b, off, rfl, hb, hc⟩ := H0.out.get k hlt
      obtain ⟨z, hz⟩ : ∃ z, z = zs.getD k 0 := ⟨_, rfl⟩
      rw [← hz] at hc
      have HZ : Hid (z = zs.getD k 0) := hz
      have hlti : (k : Int) < (n : Int) := by omega
      clear hz
      go_wp2_with fail
      refine (limitOk_any z _).mono ?_
      rintro e w2 ⟨rfl, rfl⟩
      by_cases h0 : (-1) ≤ z ∧ z ≤ 10
      · rw [decide_eq_true h0]
        have HN : Hid (∀ j, j < k + 1 → (-1) ≤ zs.getD j 0 ∧ zs.getD j 0 ≤ 10) := fun j hj => by
          by_cases e : j < k
          · exact HE.out j e
          · obtain rfl : j = k := by omega
            rw [← HZ.out]; exact h0
        clear h0 HE
        go_wp2
        go_roundw
        case rel => exact ⟨k + 1, by omega, by go_num, HN, by trivial⟩
        case measure => simp [intOf]; omega
      · rw [decide_eq_false h0]
        have HN : Hid (¬ (∀ j, j < zs.length → (-1) ≤ zs.getD j 0 ∧ zs.getD j 0 ≤ 10)) := fun e => h0 (by rw [HZ.out]; exact e k (by rw [HL.out]; exact hlt))
        clear h0 HE
        go_wp2
        go_ret
        exact saysP_f HN.out (Below.refl _ _)
    · obtain rfl : k = n := by omega
      go_wp2
      go_ret
      exact saysP_t (fun j hj => HE.out j (by rw [HL.out] at hj; exact hj)) (Below.refl _ _)

def polsP (zs : List Int) : Prop := zs.length ≤ 6 ∧ (∀ j, j < zs.length → 0 ≤ zs.getD j 0 ∧ zs.getD j 0 ≤ 1000) ∧ unl zs

set_option maxRecDepth 10000 in
set_option maxHeartbeats 2000000 in
theorem policiesOk_any (a : Option Addr) (n c : Nat) (zs : List Int) (w : World) (h : Row64 w a n zs) (hn : n ≤ c) (hc : c ≤ 9223372036854775807) :
    Calls Tryz.prog 43 #[.slice a n c] w (SaysP (polsP zs) w) := by
  have H0 : Hid (Row64 w a n zs) := h
  have HL : Hid (zs.length = n) := h.len
  clear h
  by_cases h6 : n ≤ 6
  · have h6' : (n : Int) ≤ 6 := by omega
    go_enter Tryz.func43, Tryz.ntmps43
    go_wp2_with fail
    refine (everyPol_any a n c zs _ H0.out (by omega)).mono ?_
    rintro e w1 ⟨b, rfl, HB, hb1⟩
    cases b with
    | false =>
      have HN : Hid (¬ polsP zs) := fun e => absurd (HB.out.2 e.2.1) (by decide)
      clear HB
      go_wp2
      go_ret
      exact saysP_f HN.out hb1
    | true =>
      have HT : Hid (∀ j, j < zs.length → 0 ≤ zs.getD j 0 ∧ zs.getD j 0 ≤ 1000) := HB.out.1 rfl
      clear HB
      go_wp2_with fail
      refine (allUnlike_any a n c zs _ (H0.out.kept hb1) hn hc).mono ?_
      rintro e w2 ⟨rfl, rfl⟩
      have FIN : Hid (decide (unl zs) = true ↔ polsP zs) := ⟨fun e => ⟨by rw [HL.out]; exact h6, HT.out, of_decide_eq_true e⟩, fun e => decide_eq_true e.2.2⟩
      obtain ⟨d, hd⟩ : ∃ d, d = decide (unl zs) := ⟨_, rfl⟩
      rw [← hd] at FIN ⊢
      clear hd
      go_wp2
      go_ret
      exact ⟨_, rfl, FIN, hb1⟩
  · have h6' : ¬ (n : Int) ≤ 6 := by omega
    have HN : Hid (¬ polsP zs) := fun e => h6 (by rw [← HL.out]; exact e.1)
    go_enter Tryz.func43, Tryz.ntmps43
    go_wp2
    go_ret
    exact saysP_f HN.out (Below.refl _ _)

def mapP (p : Int × Int) : Prop := (1 ≤ p.1 ∧ p.1 ≤ 1000) ∧ (1 ≤ p.2 ∧ p.2 ≤ 1000)
instance (p : Int × Int) : Decidable (mapP p) := by unfold mapP; infer_instance

set_option maxRecDepth 10000 in
set_option maxHeartbeats 1000000 in
theorem mapOk_any (p : Int × Int) (w : World) : Calls Tryz.prog 114 #[pmv p] w fun e w' => e = .returned (.bool (decide (mapP p))) ∧ Below w.heap.size w w' := by
  obtain ⟨x, y⟩ := p
  unfold pmv
  have hbl : Below w.heap.size w (w.alloc (.cells #[.int .i64 x, .int .i64 y] 74)) := (Below.refl _ _).alloc (Nat.le_refl _) _
  by_cases h1 : 1 ≤ x ∧ x ≤ 1000
  · have HD : Hid (decide (1 ≤ y ∧ y ≤ 1000) = decide (mapP (x, y))) := by show _ = _; exact decide_eq_decide.2 ⟨fun h => ⟨h1, h⟩, fun h => h.2⟩
    have HD1 : Hid (decide (1 ≤ x ∧ x ≤ 1000) = true) := decide_eq_true h1
    clear h1
    go_enter Tryz.func114, Tryz.ntmps114
    go_wp2_with fail
    refine (isPolicy_any x _).mono ?_
    rintro e w1 ⟨rfl, rfl⟩
    rw [HD1.out]
    go_wp2_with fail
    refine (isPolicy_any y _).mono ?_
    rintro e w1 ⟨rfl, rfl⟩
    rw [HD.out]
    obtain ⟨d, hd⟩ : ∃ d, d = decide (mapP (x, y)) := ⟨_, rfl⟩
    rw [← hd]
    have HDD : Hid (d = decide (mapP (x, y))) := hd
    clear hd HD
    go_wp2
    go_ret
    exact ⟨by rw [← HDD.out]; rfl, hbl⟩
  · have HD : Hid (decide (mapP (x, y)) = false) := decide_eq_false (fun h => h1 h.1)
    have HD1 : Hid (decide (1 ≤ x ∧ x ≤ 1000) = false) := decide_eq_false h1
    clear h1
    go_enter Tryz.func114, Tryz.ntmps114
    go_wp2_with fail
    refine (isPolicy_any x _).mono ?_
    rintro e w1 ⟨rfl, rfl⟩
    rw [HD1.out]
    go_wp2
    go_ret
    exact ⟨by rw [HD.out]; rfl, hbl⟩

def mapsP (ps : List (Int × Int)) : Prop := ∀ j, j < ps.length → mapP (ps.getD j (0, 0))

set_option maxRecDepth 10000 in
set_option maxHeartbeats 2000000 in
theorem everyMap_any (a : Option Addr) (n c : Nat) (ps : List (Int × Int)) (w : World) (h : Pms w a n ps) :
    Calls Tryz.prog 113 #[.slice a n c, .func (Fn.func 114) #[] #[]] w (SaysP (mapsP ps) w) := by
  have H0 : Hid (Pms w a n ps) := h
  have HL : Hid (ps.length = n) := h.len
  have hn := h.max
  clear h
  go_enter Tryz.func113, Tryz.ntmps113
  go_wp2
  go_loopw [9] (fun i wr => ∃ k : Nat, k ≤ n ∧ i = .int .i64 k ∧ Hid (∀ j, j < k → mapP (ps.getD j (0, 0))) ∧ Below w.heap.size w wr) (fun i _ => n - (intOf i).toNat)
  case atStart => exact ⟨0, Nat.zero_le _, rfl, fun k hk => absurd hk (Nat.not_lt_zero _), Below.refl _ _⟩
  case round =>
    obtain ⟨k, hk, rfl, HE, hbr⟩ := hrel
    have hws := hbr.size
    by_cases hlt : k < n
    · obtain ⟨b, off, rfl, hlb, x0, x1⟩ := (H0.out.kept hbr).get k hlt
      obtain ⟨p, hp⟩ : ∃ p, p = ps.getD k (0, 0) := ⟨_, rfl⟩
      rw [← hp] at x0 x1
      have HP : Hid (p = ps.getD k (0, 0)) := hp
      have hlti : (k : Int) < (n : Int) := by omega
      have hbz : Below wr.heap.size wr (wr.alloc (.cells #[.int .i64 p.1, .int .i64 p.2] 74)) := (Below.refl _ _).alloc (Nat.le_refl _) _
      clear hp
      go_wp2_with fail
      refine (mapOk_any p _).mono ?_
      rintro e w2 ⟨rfl, hb2⟩
      have B2 : Below w.heap.size w w2 := keepP hbr (keepP hbz hb2)
      by_cases h0 : mapP p
      · rw [decide_eq_true h0]
        have HN : Hid (∀ j, j < k + 1 → mapP (ps.getD j (0, 0))) := fun j hj => by
          by_cases e : j < k
          · exact HE.out j e
          · obtain rfl : j = k := by omega
            rw [← HP.out]; exact h0
        clear h0 HE hb2 hbz hbr x0 x1
        go_wp2
        go_roundw
        case rel => exact ⟨k + 1, by omega, by go_num, HN, B2⟩
        case measure => simp [intOf]; omega
      · rw [decide_eq_false h0]
        have HN : Hid (¬ mapsP ps) := fun e => h0 (by rw [HP.out]; exact e k (by rw [HL.out]; exact hlt))
        clear h0 HE hb2 hbz hbr x0 x1
        go_wp2
        go_ret
        exact saysP_f HN.out B2
    · obtain rfl : k = n := by omega
      go_wp2
      go_ret
      exact saysP_t (fun j hj => HE.out j (by rw [HL.out] at hj; exact hj)) hbr

set_option maxRecDepth 10000 in
set_option maxHeartbeats 1000000 in
theorem mapsOk_any (a : Option Addr) (n c : Nat) (ps : List (Int × Int)) (w : World) (h : Pms w a n ps) :
    Calls Tryz.prog 92 #[.slice a n c] w (SaysP (ps.length ≤ 6 ∧ mapsP ps) w) := by
  have H0 : Hid (Pms w a n ps) := h
  have HL : Hid (ps.length = n) := h.len
  have hn := h.max
  clear h
  by_cases h6 : n ≤ 6
  · have h6' : (n : Int) ≤ 6 := by omega
    go_enter Tryz.func92, Tryz.ntmps92
    go_wp2_with fail
    refine (everyMap_any a n c ps _ H0.out).mono ?_
    rintro e w1 ⟨b, rfl, HB, hb1⟩
    have FIN : Hid (b = true ↔ ps.length ≤ 6 ∧ mapsP ps) := ⟨fun e => ⟨by rw [HL.out]; exact h6, HB.out.1 e⟩, fun e => HB.out.2 e.2⟩
    go_wp2
    go_ret
    exact ⟨_, rfl, FIN, hb1⟩
  · have h6' : ¬ (n : Int) ≤ 6 := by omega
    have HN : Hid (¬ (ps.length ≤ 6 ∧ mapsP ps)) := fun e => h6 (by rw [← HL.out]; exact e.1)
    go_enter Tryz.func92, Tryz.ntmps92
    go_wp2
    go_ret
    exact saysP_f HN.out (Below.refl _ _)

theorem row64_of_cells {w : World} {g t : Nat} {u v s : Int} (h : w.heap[g]? = some (.cells #[.int .i64 u, .int .i64 v, .int .i64 s] t (0, 0))) : Row64 w (some ⟨g, 0, none⟩) 3 [u, v, s] := by
  have hl := (Array.getElem?_eq_some_iff.1 h).1
  refine ⟨rfl, fun k hk => ⟨g, 0, rfl, hl, ?_⟩⟩
  rw [Nat.zero_add, cell_of_row _ g k _ t (0, 0) h]
  match k, hk with
  | 0, _ => rfl
  | 1, _ => rfl
  | 2, _ => rfl
theorem lims_iff (u v s : Int) : (∀ j, j < [u, v, s].length → (-1) ≤ [u, v, s].getD j 0 ∧ [u, v, s].getD j 0 ≤ 10) ↔ (-1 ≤ u ∧ u ≤ 10) ∧ (-1 ≤ v ∧ v ≤ 10) ∧ (-1 ≤ s ∧ s ≤ 10) := by
  constructor
  · intro h
    exact ⟨h 0 (by simp), h 1 (by simp), h 2 (by simp)⟩
  · rintro ⟨h0, h1, h2⟩ j hj
    match j, hj with
    | 0, _ => exact h0
    | 1, _ => exact h1
    | 2, _ => exact h2
theorem certP_iff (x : PC) : certP x ↔ polsP x.pols ∧ (x.maps.length ≤ 6 ∧ mapsP x.maps) ∧ (-1 ≤ x.need ∧ x.need ≤ 10) ∧ (-1 ≤ x.nomap ∧ x.nomap ≤ 10) ∧ (-1 ≤ x.noany ∧ x.noany ≤ 10) :=
  ⟨fun h => ⟨⟨h.1.1, h.2.2.1, h.2.2.2.1⟩, ⟨h.1.2, h.2.2.2.2⟩, h.2.1⟩, fun h => ⟨⟨h.1.1, h.2.1.1⟩, h.2.2, h.1.2.1, h.1.2.2, h.2.1.2⟩⟩

end Go.Proofs.YtkpabanjlhlmfaaGreatDoor

namespace Go.Proofs.YtkpabanjlhlmfaaGreatDoor
open Go.RowKit

/-- What holds, whatever is done to the blocks below B. -/
def Keeps (B : Nat) (W : World) (Q : World → Prop) : Prop := ∃ R : World → Prop, Stab B R ∧ R W ∧ ∀ W', R W' → Q W'
theorem Keeps.now {B : Nat} {W : World} {Q : World → Prop} (h : Keeps B W Q) : Q W := by
  obtain ⟨R, _, hr, hq⟩ := h
  exact hq _ hr
theorem Keeps.mono {B B' : Nat} {W : World} {Q : World → Prop} (h : Keeps B' W Q) (hB : B ≤ B') : Keeps B W Q := by
  obtain ⟨R, hs, hr, hq⟩ := h
  exact ⟨R, fun W W' e s r => hs W W' (fun l hl => e l (by omega)) s r, hr, hq⟩
theorem stab_keeps (B : Nat) (Q : World → Prop) : Stab B (fun W => Keeps B W Q) := fun W W' e s h => by
  obtain ⟨R, hs, hr, hq⟩ := h
  exact ⟨R, hs, hs W W' e s hr, hq⟩
theorem keeps_of {B : Nat} {W : World} {Q : World → Prop} (hs : Stab B Q) (h : Q W) : Keeps B W Q := ⟨Q, hs, h, fun _ h => h⟩
theorem Keeps.map {B : Nat} {W : World} {Q P : World → Prop} (h : Keeps B W Q) (f : ∀ W, Q W → P W) : Keeps B W P := by
  obtain ⟨R, hs, hr, hq⟩ := h
  exact ⟨R, hs, hr, fun W h => f W (hq W h)⟩
theorem stab_owns {B t m n : Nat} {v : Value} {vs : List Value} : Stab B (fun W => W.ownsRow B t m v n vs) := fun W W' e s h => by
  refine ⟨h.1, ?_⟩
  rcases h.2 with q | ⟨g, c, cur, h1, hb, hg, r⟩
  · exact .inl q
  · exact .inr ⟨g, c, cur, h1, hb, (e g (by omega) (Array.getElem?_eq_some_iff.1 hg).1).trans hg, r⟩
theorem stab_64 {lo hi : Nat} {a : Option Addr} {n cap : Nat} {zs : List Int} : Stab lo (fun W => Own64 lo hi W a n cap zs) := fun W W' e s h => ⟨stab_owns W W' e s h.row, h.lt⟩

theorem below_dq {B : Nat} {w w' : World} (h : Below B w w') (n : Nat) : Below B w (w'.drewN n) := by
  induction n with
  | zero => simpa [World.drewN] using h
  | succ n ih => exact ih.drew

set_option maxRecDepth 10000 in
set_option maxHeartbeats 1000000 in
theorem toInt64S_k (a : Option Addr) (n cap : Nat) (zs : List Int) (w : World) (h : Row64 w a n zs) (hn : n ≤ 1048576) :
    Calls Tryz.prog 34 #[.slice a n cap] w fun e w' => ∃ a', e = .returned (.slice a' n n) ∧ Keeps w.heap.size w' (fun W => Row64 W a' n zs) ∧ Below w.heap.size w w' :=
  (toInt64S_any a n cap zs w h hn).mono fun _ _ ⟨_, h1, h2, h3⟩ => ⟨_, h1, (keeps_of stab_64 h2).map (fun _ q => q.toRow), h3⟩

set_option maxRecDepth 10000 in
set_option maxHeartbeats 400000 in
theorem szInt64S_q (a : Option Addr) (n cap : Nat) (left : Int) (w : World) (hn : n ≤ 9223372036854775807) (h0 : 0 ≤ left) (h1 : left ≤ 1048576) :
    Calls Tryz.prog 22 #[.slice a n cap, .int .i64 left] w fun e w' => ∃ r, e = .returned (.int .i64 r) ∧ (r < 0 ∨ (0 ≤ r ∧ r ≤ 1048576 ∧ n ≤ 1048576)) ∧ w = w' := by
  by_cases hlt : (n : Int) ≤ left
  · go_enter Tryz.func22, Tryz.ntmps22
    go_wp2
    go_ret
    exact ⟨_, rfl, .inr (by omega), rfl⟩
  · go_enter Tryz.func22, Tryz.ntmps22
    go_wp2
    go_ret
    exact ⟨_, rfl, .inl (by decide), rfl⟩

/-- The slice at a reads as the digests zs. -/
structure RowV (w : World) (a : Option Addr) (n : Nat) (zs : List Int) : Prop where
  len : zs.length = n
  get : ∀ k, k < n → ∃ b off, a = some ⟨b, off, none⟩ ∧ b < w.heap.size ∧ w.cell? ⟨b, off + k, none⟩ = some (.int .u64 (zs.getD k 0))
theorem RowV.kept {w w' : World} {a : Option Addr} {n : Nat} {zs : List Int} (h : RowV w a n zs) (hb : Below w.heap.size w w') : RowV w' a n zs := by
  refine ⟨h.len, fun k hk => ?_⟩
  obtain ⟨b, off, ha, hlt, hc⟩ := h.get k hk
  exact ⟨b, off, ha, Nat.lt_of_lt_of_le hlt hb.size, (hb.cell (p := ⟨b, off + k, none⟩) hlt).trans hc⟩
theorem owns_rowV {B g n cap : Nat} {w : World} {zs : List Int} (h : w.ownsRow B 25 1 (.slice (some ⟨g, 0, none⟩) n cap) n (zs.map (Value.int .u64))) : RowV w (some ⟨g, 0, none⟩) n zs := by
  have hl : zs.length = n := by simpa using h.1
  refine ⟨hl, fun k hk => ⟨g, 0, rfl, (h.lt _ rfl).2, ?_⟩⟩
  rw [Nat.zero_add, World.ownsRow.cellAt h k (by omega)]
  simp [show k < zs.length by omega]
theorem Tryz.infoV : (Tryz.prog.info? 25).map (fun i => (i.zero, i.size, i.bytes)) = some (some (.int .u64 0), 1, 8) := by kernel_rfl
theorem madeV {B n : Nat} {w : World} {v : Value} (h : w.ownsRow B 25 1 v n (madeCells (Value.int .u64 0).cells (n * 1)).toList) : w.ownsRow B 25 1 v n ((List.replicate n (0 : Int)).map (Value.int .u64)) := by
  have e : (madeCells (Value.int .u64 0).cells (n * 1)).toList = (List.replicate n (0 : Int)).map (Value.int .u64) := by
    rw [List.map_replicate, Nat.mul_one]; exact toList_madeCells_one _ _
  rwa [e] at h

end Go.Proofs.YtkpabanjlhlmfaaGreatDoor

set_option linter.unusedVariables false
namespace Go.Proofs.YtkpabanjlhlmfaaGreatDoor
open Go.RowKit

theorem keeps_and {B : Nat} {W : World} {P Q : World → Prop} (h : Keeps B W P) (k : Keeps B W Q) : Keeps B W (fun W => P W ∧ Q W) := by
  obtain ⟨R1, s1, r1, q1⟩ := h
  obtain ⟨R2, s2, r2, q2⟩ := k
  exact ⟨fun W => R1 W ∧ R2 W, stab_and s1 s2, ⟨r1, r2⟩, fun W' r => ⟨q1 _ r.1, q2 _ r.2⟩⟩

theorem toName_k (a : Option Addr) (n c : Nat) (xs : List PT) (w : World) (h : Pts w a n xs) (hn : n ≤ 1048576) :
    Calls Tryz.prog 32 #[.agg #[.slice a n c]] w fun e w' => ∃ a', e = .returned (.agg #[.slice a' n n]) ∧ Keeps w.heap.size w' (fun W => Pts W a' n xs) ∧ Below w.heap.size w w' :=
  (toName_at a n c xs w h hn).mono fun _ _ ⟨_, h1, hg, h2, h3⟩ => ⟨_, h1, keeps_of (stab_pts hg) h2, h3⟩

theorem toGenName_k (g : GT) (a : Option Addr) (n c : Nat) (xs : List PT) (w : World) (h : Pts w a n xs) (hn : n ≤ 1048576) :
    Calls Tryz.prog 55 #[gnv g a n c] w fun e w' => ∃ a', e = .returned (gnv g a' n n) ∧ Keeps w.heap.size w' (fun W => Pts W a' n xs) ∧ Below w.heap.size w w' :=
  (toGenName_at g a n c xs w h hn).mono fun _ _ ⟨_, h1, hg, h2, h3⟩ => ⟨_, h1, keeps_of (stab_pts (Nat.le_of_lt hg)) h2, h3⟩

theorem toGenNameS_k (a : Option Addr) (n cap : Nat) (xs : List GE) (w : World) (h : Ges w a n xs) (hn : n ≤ 1048576) (hz : ∀ k, k < n → GeOk (xs.getD k default)) :
    Calls Tryz.prog 13 #[.slice a n cap] w fun e w' => ∃ a', e = .returned (.slice a' n n) ∧ Keeps w.heap.size w' (fun W => Ges W a' n xs) ∧ Below w.heap.size w w' :=
  (toGenNameS_at a n cap xs w h hn hz).mono fun _ _ ⟨h1, h2, h3, h4⟩ => ⟨_, h1, (keeps_of (stab_and (stab_ge (Nat.le_refl _)) (stab_lt _ _)) ⟨h2, h3⟩).map (fun W q => q.1.ges h.len h.max q.2 hz), h4⟩

theorem stab_pm {lo hi : Nat} {a : Option Addr} {n cap : Nat} {ps : List (Int × Int)} : Stab lo (fun W => OwnPm lo hi W a n cap ps) := fun W W' e s h => ⟨stab_owns W W' e s h.row, h.max, h.lt⟩

theorem toPolMapS_k (a : Option Addr) (n c : Nat) (ps : List (Int × Int)) (w : World) (h : Pms w a n ps) (hn : n ≤ 1048576) :
    Calls Tryz.prog 35 #[.slice a n c] w fun e w' => ∃ a', e = .returned (.slice a' n n) ∧ Keeps w.heap.size w' (fun W => Pms W a' n ps) ∧ Below w.heap.size w w' :=
  (toPolMapS_any a n c ps w h hn).mono fun _ _ ⟨_, h1, h2, h3⟩ => ⟨_, h1, (keeps_of stab_pm h2).map (fun _ q => q.toPms), h3⟩

theorem toByteS_k (a : Option Addr) (n cap : Nat) (bs : List Int) (w : World) (h : Row w a n bs) (hn : n ≤ 1048576) :
    Calls Tryz.prog 37 #[.slice a n cap] w fun e w' => ∃ a', e = .returned (.slice a' n n) ∧ Keeps w.heap.size w' (fun W => Row W a' n bs) ∧ Below w.heap.size w w' :=
  (toByteS_any a n cap bs w h hn).mono fun _ _ ⟨_, h1, h2, h3⟩ => ⟨_, h1, (keeps_of (stab_own (Nat.le_refl _)) h2).map (fun _ q => q.toRow), h3⟩

theorem eqByteS_one (a b : Option Addr) (n ca cb : Nat) (xs : List Int) (w : World) (hx : Row w a n xs) (hy : Row w b n xs) (hn : n ≤ 1048576) :
    Calls Tryz.prog 51 #[.slice a n ca, .slice b n cb] w fun e w' => e = .returned (.bool true) ∧ Below w.heap.size w w' :=
  (eqByteS_any a b n n ca cb xs xs w hx hy (by unfold maxLen; omega) (by unfold maxLen; omega)).mono fun _ _ ⟨h1, h2⟩ => ⟨by rw [h1, decide_eq_true rfl], h2⟩

end Go.Proofs.YtkpabanjlhlmfaaGreatDoor

