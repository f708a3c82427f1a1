import Derived.Test.YtoldngiclmidaaaGreatDoorMX1
import Derived.Test.YtoldngiclmidaaaGreatDoorGN10
import Derived.Test.YtoldngiclmidaaaGreatDoorGN11
import Derived.Test.YtoldngiclmidaaaGreatDoorGN8
import Derived.Test.YtoldngiclmidaaaGreatDoorN1
import Derived.Deep.Slices
import Derived.ChangeArms
import Derived.ChangeSlices
import Derived.WalkKit
import Derived.ProofKit
import Derived.Test.YtoldngiclmidaaaGreatDoorGN3
import Derived.OpenShut
namespace Go.Proofs.YtoldngiclmidaaaGreatDoor
open Go.RowKit

def BasesN (xs : List GE) (n : Nat) : Prop := ∀ k, k < n → baseP (xs.getD k default).g (xs.getD k default).parts
/-- At most MaxNames bases. -/
def basesP (xs : List GE) (n : Nat) : Prop := n ≤ 8 ∧ BasesN xs n
def anchorP (x : AP) (n2 n3 : Nat) : Prop := calledP x.parts ∧ pubP x.sch x.y x.ht ∧ basesP x.per n2 ∧ basesP x.den n3 ∧ timeP x.til

set_option maxRecDepth 10000 in
set_option maxHeartbeats 2000000 in
theorem l9Bases_any (a : Option Addr) (n c : Nat) (xs : List GE) (w : World) (h : Ges w a n xs) (hz : ∀ k, k < n → GeOk (xs.getD k default)) :
    Calls Tryz.prog 19 #[.slice a n c] w (SaysB (basesP xs n) w) := by
  have H0 : Hid (Ges w a n xs) := h
  have HZ : Hid (∀ k, k < n → GeOk (xs.getD k default)) := hz
  have hn := h.max
  clear h hz
  by_cases h8 : n ≤ 8
  · have h8' : ¬ ((8 : Int) < (n : Int)) := by omega
    go_enter Tryz.func19, Tryz.ntmps19
    go_wp2
    go_loopw [3] (fun i wr => ∃ k : Nat, k ≤ n ∧ i = .int .i64 k ∧ Hid (BasesN xs k) ∧ Below w.heap.size w wr) (fun i _ => n - (intOf i).toNat)
    case atStart => exact ⟨0, Nat.zero_le _, rfl, fun k hk => absurd hk (Nat.not_lt_zero _), Below.refl _ _⟩
    case round =>
      obtain ⟨k, hk, rfl, HE, hbr⟩ := hrel
      by_cases hkn : k < n
      · obtain ⟨b, off, an, nn, cn, rfl, hlb, hc, hp, _⟩ := H0.out.get k hkn
        have hgp := HZ.out k hkn
        obtain ⟨y, hy⟩ : ∃ y, y = xs.getD k default := ⟨_, rfl⟩
        rw [← hy] at hc hp hgp
        have HY : Hid (y = xs.getD k default) := hy
        obtain ⟨c0, c1, c2, c3, c4⟩ := hc.of (w' := wr) (fun i => hbr.cell (p := ⟨b, i, none⟩) hlb)
        have HP : Hid (Pts wr an nn y.parts) := hp.kept hbr
        have HS : Hid (y.g.text.size ≤ 1048576 ∧ ∀ k, k < nn → (y.parts.getD k default).val.size ≤ 1048576) := ⟨hgp.1, by rw [← hp.len]; exact hgp.2.2⟩
        have hkni : (k : Int) < (n : Int) := by omega
        clear hc hy hp hgp
        go_wp2_with fail
        refine (specBaseOk_any y.g an nn cn y.parts _ HP.out HS.out.2 HS.out.1).mono ?_
        rintro e w2 ⟨v, rfl, hv, hb2⟩
        have B2 : Below w.heap.size w w2 := hbr.trans (hb2.mono hbr.size)
        have HV : Hid _ := hv
        clear hb2 hv
        cases v with
        | false =>
          have HN : Hid (¬ basesP xs n) := fun q => by have := q.2 k hkn; rw [← HY.out] at this; have := HV.out.2 this; simp at this
          go_wp2
          go_ret
          exact saysB_f HN.out B2
        | true =>
          have HN : Hid (BasesN xs (k + 1)) := fun j hj => by
            by_cases e : j < k
            · exact HE.out j e
            · obtain rfl : j = k := by omega
              rw [← HY.out]; exact HV.out.1 rfl
          go_wp2
          go_roundw
          case rel => exact ⟨k + 1, by omega, by go_num, HN, B2⟩
          case measure => simp [intOf]; omega
      · obtain rfl : k = n := by omega
        go_wp2
        go_ret
        exact saysB_t ⟨h8, HE.out⟩ hbr
  · have h8' : (8 : Int) < (n : Int) := by omega
    go_enter Tryz.func19, Tryz.ntmps19
    go_wp2
    go_ret
    exact saysB_f (fun q => h8 q.1) (Below.refl _ _)

set_option maxRecDepth 10000 in
set_option maxHeartbeats 2000000 in
theorem everyBase_any (a : Option Addr) (n c : Nat) (xs : List GE) (w : World) (hm : MaxW w) (h : Ges w a n xs) (hz : ∀ k, k < n → GeOk (xs.getD k default)) :
    Calls Tryz.prog 57 #[.slice a n c, .func (Fn.func 27) #[] #[]] w (SaysB (BasesN xs n) w) := by
  have H0 : Hid (Ges w a n xs) := h
  have HM : Hid (MaxW w) := hm
  have HZ : Hid (∀ k, k < n → GeOk (xs.getD k default)) := hz
  have hn := h.max
  clear h hz hm
  go_enter Tryz.func57, Tryz.ntmps57
  go_wp2
  go_loopw [9] (fun i wr => ∃ k : Nat, k ≤ n ∧ i = .int .i64 k ∧ Hid (BasesN xs k) ∧ Below w.heap.size w wr) (fun i _ => n - (intOf i).toNat)
  case atStart => exact ⟨0, Nat.zero_le _, rfl, fun k hk => absurd hk (Nat.not_lt_zero _), Below.refl _ _⟩
  case round =>
    obtain ⟨k, hk, rfl, HE, hbr⟩ := hrel
    have hws := hbr.size
    by_cases hkn : k < n
    · obtain ⟨b, off, an, nn, cn, rfl, hlb, hc, hp, _⟩ := H0.out.get k hkn
      have hgp := HZ.out k hkn
      obtain ⟨y, hy⟩ : ∃ y, y = xs.getD k default := ⟨_, rfl⟩
      rw [← hy] at hc hp hgp
      have HY : Hid (y = xs.getD k default) := hy
      obtain ⟨c0, c1, c2, c3, c4⟩ := hc.of (w' := wr) (fun i => hbr.cell (p := ⟨b, i, none⟩) hlb)
      have hbz : Below wr.heap.size wr (wr.alloc (.cells #[.int .i64 y.g.kind, .string y.g.text, .int .i64 y.g.addr, .int .i64 y.g.bits, .slice an nn cn] 53)) := (Below.refl _ _).alloc (Nat.le_refl _) _
      have B1 : Hid (Below w.heap.size w (wr.alloc (.cells #[.int .i64 y.g.kind, .string y.g.text, .int .i64 y.g.addr, .int .i64 y.g.bits, .slice an nn cn] 53))) := hbr.trans (hbz.mono hws)
      have HP : Hid (Pts (wr.alloc (.cells #[.int .i64 y.g.kind, .string y.g.text, .int .i64 y.g.addr, .int .i64 y.g.bits, .slice an nn cn] 53)) an nn y.parts) := hp.kept B1.out
      have HS : Hid (y.g.text.size ≤ 1048576 ∧ ∀ k, k < nn → (y.parts.getD k default).val.size ≤ 1048576) := ⟨hgp.1, by rw [← hp.len]; exact hgp.2.2⟩
      have hkni : (k : Int) < (n : Int) := by omega
      have hbw : b < wr.heap.size := by omega
      clear hc hy hp hgp hbz
      go_wp2_with fail
      refine (implBaseOk_any y.g an nn cn y.parts _ (HM.out.kept B1.out) HP.out HS.out.2 HS.out.1).mono ?_
      rintro e w2 ⟨v, rfl, hv, hb2⟩
      have B2 : Below w.heap.size w w2 := B1.out.trans (hb2.mono B1.out.size)
      have HV : Hid _ := hv
      clear hb2 hv
      cases v with
      | false =>
        have HN : Hid (¬ BasesN xs n) := fun q => by have := q k hkn; rw [← HY.out] at this; have := HV.out.2 this; simp at this
        go_wp2
        go_ret
        exact saysB_f HN.out B2
      | true =>
        have HN : Hid (BasesN xs (k + 1)) := fun j hj => by
          by_cases e : j < k
          · exact HE.out j e
          · obtain rfl : j = k := by omega
            rw [← HY.out]; exact HV.out.1 rfl
        go_wp2
        go_roundw
        case rel => exact ⟨k + 1, by omega, by go_num, HN, B2⟩
        case measure => simp [intOf]; omega
    · obtain rfl : k = n := by omega
      go_wp2
      go_ret
      exact saysB_t HE.out hbr

set_option maxHeartbeats 1000000 in
theorem gensBase_any (a : Option Addr) (n c : Nat) (xs : List GE) (w : World) (hm : MaxW w) (h : Ges w a n xs) (hz : ∀ k, k < n → GeOk (xs.getD k default)) :
    Calls Tryz.prog 26 #[.slice a n c, .func (Fn.func 27) #[] #[]] w (SaysB (basesP xs n) w) := by
  by_cases h8 : n ≤ 8
  · have h8' : (n : Int) ≤ 8 := by omega
    go_enter Tryz.func26, Tryz.ntmps26
    go_wp2_with fail
    refine (everyBase_any a n c xs _ hm h hz).mono ?_
    rintro e w2 ⟨r, rfl, HR, hb2⟩
    go_wp2
    go_ret
    exact ⟨r, rfl, ⟨fun e => ⟨h8, HR.out.1 e⟩, fun e => HR.out.2 e.2⟩, hb2⟩
  · have h8' : (8 : Int) < (n : Int) := by omega
    go_enter Tryz.func26, Tryz.ntmps26
    go_wp2
    go_ret
    exact saysB_f (fun e => absurd e.1 h8) (Below.refl _ _)

set_option maxHeartbeats 1000000 in
theorem isTime_any (t : Int) (w : World) : Calls Tryz.prog 28 #[.int .i64 t] w fun e w' => e = .returned (.bool (decide (0 ≤ t ∧ t ≤ 253402300799))) ∧ w = w' := by
  go_enter Tryz.func28, Tryz.ntmps28
  go_wp2_with fail
  refine (inBounds_any t 0 253402300799 _).mono ?_
  rintro e w1 ⟨rfl, rfl⟩
  obtain ⟨v, hv⟩ : ∃ v, decide (0 ≤ t ∧ t ≤ 253402300799) = v := ⟨_, rfl⟩
  rw [hv]
  have HV : Hid (decide (0 ≤ t ∧ t ≤ 253402300799) = v) := hv
  clear hv
  go_wp2
  go_ret
  exact ⟨by rw [HV.out]; rfl, rfl⟩

set_option maxHeartbeats 1000000 in
theorem someName_any (a : Option Addr) (n c : Nat) (xs : List PT) (w : World) (h : Pts w a n xs) (hz : ∀ k, k < n → (xs.getD k default).val.size ≤ 1048576) :
    Calls Tryz.prog 24 #[nmv a n c] w (Says (calledP xs) w) := by
  have HL : Hid (xs.length = n) := h.len
  have hn := h.max
  obtain ⟨w0, hw0⟩ : ∃ w0, w0 = w.alloc (.cells #[.slice a n c] 35) := ⟨_, rfl⟩
  have hb0 : Below w.heap.size w w0 := by rw [hw0]; exact (Below.refl _ _).alloc (Nat.le_refl _) _
  have hh0 : w0.heap[w.heap.size]? = some (.cells #[.slice a n c] 35) := by rw [hw0]; exact heap_alloc_new w _
  have hl0 : w.heap.size < w0.heap.size := (Array.getElem?_eq_some_iff.1 hh0).1
  have HK : Hid (Pts w0 a n xs) := h.kept hb0
  have HZ : Hid (_) := hz
  clear h hz
  unfold nmv
  go_enter Tryz.func24, Tryz.ntmps24
  go_wp2_with fail
  rw [← hw0]
  clear hw0
  refine (implNameOk_any a n c xs _ HK.out HZ.out).mono ?_
  rintro e w1 ⟨b, rfl, hb, hb1⟩
  have hc : w1.cell? ⟨w.heap.size, 0, none⟩ = some (.slice a n c) := (cell_of_row _ _ 0 _ 35 (0, 0) ((hb1.block _ hl0).trans hh0)).trans rfl
  have HB : Hid (Below w.heap.size w w1) := hb0.trans (hb1.mono hb0.size)
  clear hb0 hb1 hh0
  rcases b with _ | _
  · have HN : Hid (¬ calledP xs) := fun q => by have := hb.out.2 q.1; simp at this
    clear hb
    go_wp2
    go_ret
    exact says_f HN.out HB.out
  · have HN : Hid (nameP xs) := hb.out.1 rfl
    clear hb
    by_cases h0 : n = 0
    · subst h0
      have HE : Hid (¬ calledP xs) := fun q => q.2 (List.eq_nil_of_length_eq_zero HL.out)
      go_wp2
      go_ret
      exact says_f HE.out HB.out
    · have hp : (0 : Int) < (n : Int) := by omega
      have HE : Hid (calledP xs) := ⟨HN.out, fun e => h0 (by rw [← HL.out, e]; rfl)⟩
      go_wp2
      go_ret
      exact ⟨decide (0 < n), rfl, ⟨fun _ => HE.out, fun _ => decide_eq_true (by omega)⟩, HB.out⟩

set_option maxRecDepth 10000 in
set_option maxHeartbeats 4000000 in
theorem specAnchorOk_any (a1 : Option Addr) (n1 c1 : Nat) (a2 : Option Addr) (n2 c2 : Nat) (a3 : Option Addr) (n3 c3 : Nat) (x : AP) (w : World) (h : Ans w a1 n1 a2 n2 a3 n3 x) (hz : AnOk n1 n2 n3 x) :
    Calls Tryz.prog 6 #[anv a1 n1 c1 a2 n2 c2 a3 n3 c3 x] w (SaysB (anchorP x n2 n3) w) := by
  have HK : Hid (Ans w a1 n1 a2 n2 a3 n3 x) := h
  have HZ : Hid (AnOk n1 n2 n3 x) := hz
  clear h hz
  unfold anv
  obtain ⟨w0, hw0⟩ : ∃ w0, w0 = w.alloc (.cells #[.slice a1 n1 c1, .int .i64 x.sch, .int .u64 x.y, .int .i64 x.ht, .slice a2 n2 c2, .slice a3 n3 c3, .int .i64 x.til] 39) := ⟨_, rfl⟩
  have B0 : Hid (Below w.heap.size w w0) := by show Below w.heap.size w w0; rw [hw0]; exact (Below.refl _ _).alloc (Nat.le_refl _) _
  have hh0 : w0.heap[w.heap.size]? = some (.cells #[.slice a1 n1 c1, .int .i64 x.sch, .int .u64 x.y, .int .i64 x.ht, .slice a2 n2 c2, .slice a3 n3 c3, .int .i64 x.til] 39) := by rw [hw0]; exact heap_alloc_new w _
  have Y0 : Hid (_ = _) := hh0
  have l0 : w.heap.size < w0.heap.size := (Array.getElem?_eq_some_iff.1 hh0).1
  clear hh0
  go_enter Tryz.func6, Tryz.ntmps6
  go_wp2_with fail
  rw [← hw0]
  clear hw0
  refine (l10Called_any a1 n1 c1 x.parts _ (HK.out.kept B0.out).nm HZ.out.2.1).mono ?_
  rintro e w1 ⟨v1, rfl, hv1, hb1⟩
  have B1 : Hid (Below w.heap.size w w1) := B0.out.trans (hb1.mono B0.out.size)
  have y0 := (hb1.block _ l0).trans Y0.out
  replace Y0 : Hid (_ = _) := y0
  have l1 : w.heap.size < w1.heap.size := (Array.getElem?_eq_some_iff.1 y0).1
  have p1 : w1.cell? ⟨w.heap.size, 1, none⟩ = some (.int .i64 x.sch) := (cell_of_row _ _ 1 _ 39 (0, 0) y0).trans rfl
  have p2 : w1.cell? ⟨w.heap.size, 2, none⟩ = some (.int .u64 x.y) := (cell_of_row _ _ 2 _ 39 (0, 0) y0).trans rfl
  have p3 : w1.cell? ⟨w.heap.size, 3, none⟩ = some (.int .i64 x.ht) := (cell_of_row _ _ 3 _ 39 (0, 0) y0).trans rfl
  clear hb1 y0
  have HV1 : Hid _ := hv1
  clear hv1
  cases v1 with
  | false =>
    have HN : Hid (¬ anchorP x n2 n3) := fun q => by have := HV1.out.2 q.1; simp at this
    go_wp2
    go_ret
    exact saysB_f HN.out B1.out
  | true =>
    go_wp2_with fail
    refine (l8PubOk_any x.sch x.y x.ht _ HK.out.u).mono ?_
    rintro e w2 ⟨rfl, hb2⟩
    obtain ⟨v2, hd2⟩ : ∃ v, v = decide (pubP x.sch x.y x.ht) := ⟨_, rfl⟩
    rw [← hd2]
    have hv2 : Hid (v2 = true ↔ pubP x.sch x.y x.ht) := by show _ ↔ _; rw [hd2]; exact decide_eq_true_iff
    clear hd2
    have B2 : Hid (Below w.heap.size w w2) := B1.out.trans (hb2.mono B1.out.size)
    have y0 := (hb2.block _ l1).trans Y0.out
    replace Y0 : Hid (_ = _) := y0
    have l2 : w.heap.size < w2.heap.size := (Array.getElem?_eq_some_iff.1 y0).1
    clear p1 p2 p3
    have p4 : w2.cell? ⟨w.heap.size, 4, none⟩ = some (.slice a2 n2 c2) := (cell_of_row _ _ 4 _ 39 (0, 0) y0).trans rfl
    clear hb2 y0
    have HV2 : Hid _ := hv2
    clear hv2
    cases v2 with
    | false =>
      have HN : Hid (¬ anchorP x n2 n3) := fun q => by have := HV2.out.2 q.2.1; simp at this
      go_wp2
      go_ret
      exact saysB_f HN.out B2.out
    | true =>
      go_wp2_with fail
      refine (l9Bases_any a2 n2 c2 x.per _ (HK.out.kept B2.out).pe HZ.out.2.2.2.1).mono ?_
      rintro e w3 ⟨v3, rfl, hv3, hb3⟩
      have B3 : Hid (Below w.heap.size w w3) := B2.out.trans (hb3.mono B2.out.size)
      have y0 := (hb3.block _ l2).trans Y0.out
      replace Y0 : Hid (_ = _) := y0
      have l3 : w.heap.size < w3.heap.size := (Array.getElem?_eq_some_iff.1 y0).1
      clear p4
      have p5 : w3.cell? ⟨w.heap.size, 5, none⟩ = some (.slice a3 n3 c3) := (cell_of_row _ _ 5 _ 39 (0, 0) y0).trans rfl
      clear hb3 y0
      have HV3 : Hid _ := hv3
      clear hv3
      cases v3 with
      | false =>
        have HN : Hid (¬ anchorP x n2 n3) := fun q => by have := HV3.out.2 q.2.2.1; simp at this
        go_wp2
        go_ret
        exact saysB_f HN.out B3.out
      | true =>
        go_wp2_with fail
        refine (l9Bases_any a3 n3 c3 x.den _ (HK.out.kept B3.out).de HZ.out.2.2.2.2.2).mono ?_
        rintro e w4 ⟨v4, rfl, hv4, hb4⟩
        have B4 : Hid (Below w.heap.size w w4) := B3.out.trans (hb4.mono B3.out.size)
        have y0 := (hb4.block _ l3).trans Y0.out
        replace Y0 : Hid (_ = _) := y0
        have l4 : w.heap.size < w4.heap.size := (Array.getElem?_eq_some_iff.1 y0).1
        clear p5
        have p6 : w4.cell? ⟨w.heap.size, 6, none⟩ = some (.int .i64 x.til) := (cell_of_row _ _ 6 _ 39 (0, 0) y0).trans rfl
        clear hb4 y0
        have HV4 : Hid _ := hv4
        clear hv4
        cases v4 with
        | false =>
          have HN : Hid (¬ anchorP x n2 n3) := fun q => by have := HV4.out.2 q.2.2.2.1; simp at this
          go_wp2
          go_ret
          exact saysB_f HN.out B4.out
        | true =>
          go_wp2_with fail
          refine (l10Time_any x.til _).mono ?_
          rintro e w5 ⟨rfl, hw⟩; have hw' := hw.symm; subst hw'
          obtain ⟨v5, hd5⟩ : ∃ v, v = decide (0 ≤ x.til ∧ x.til ≤ 253402300799) := ⟨_, rfl⟩
          rw [← hd5]
          have hv5 : Hid (v5 = true ↔ timeP x.til) := by show _ ↔ _; rw [hd5]; exact decide_eq_true_iff
          clear hd5
          have HV5 : Hid _ := hv5
          clear hv5
          go_wp2
          go_ret
          exact ⟨v5, rfl, ⟨fun e => ⟨HV1.out.1 (by simp), HV2.out.1 (by simp), HV3.out.1 (by simp), HV4.out.1 (by simp), HV5.out.1 e⟩, fun q => HV5.out.2 q.2.2.2.2⟩, B4.out⟩

set_option maxRecDepth 10000 in
set_option maxHeartbeats 4000000 in
theorem implAnchorOk_any (a1 : Option Addr) (n1 c1 : Nat) (a2 : Option Addr) (n2 c2 : Nat) (a3 : Option Addr) (n3 c3 : Nat) (x : AP) (w : World) (hm : MaxW w) (h : Ans w a1 n1 a2 n2 a3 n3 x) (hz : AnOk n1 n2 n3 x) :
    Calls Tryz.prog 8 #[anv a1 n1 c1 a2 n2 c2 a3 n3 c3 x] w (SaysB (anchorP x n2 n3) w) := by
  have HK : Hid (Ans w a1 n1 a2 n2 a3 n3 x) := h
  have HZ : Hid (AnOk n1 n2 n3 x) := hz
  have HM : Hid (MaxW w) := hm
  clear h hz hm
  unfold anv
  obtain ⟨w0, hw0⟩ : ∃ w0, w0 = w.alloc (.cells #[.slice a1 n1 c1, .int .i64 x.sch, .int .u64 x.y, .int .i64 x.ht, .slice a2 n2 c2, .slice a3 n3 c3, .int .i64 x.til] 39) := ⟨_, rfl⟩
  have B0 : Hid (Below w.heap.size w w0) := by show Below w.heap.size w w0; rw [hw0]; exact (Below.refl _ _).alloc (Nat.le_refl _) _
  have hh0 : w0.heap[w.heap.size]? = some (.cells #[.slice a1 n1 c1, .int .i64 x.sch, .int .u64 x.y, .int .i64 x.ht, .slice a2 n2 c2, .slice a3 n3 c3, .int .i64 x.til] 39) := by rw [hw0]; exact heap_alloc_new w _
  have Y0 : Hid (_ = _) := hh0
  have l0 : w.heap.size < w0.heap.size := (Array.getElem?_eq_some_iff.1 hh0).1
  clear hh0
  go_enter Tryz.func8, Tryz.ntmps8
  go_wp2_with fail
  rw [← hw0]
  clear hw0
  refine (someName_any a1 n1 c1 x.parts _ (HK.out.kept B0.out).nm HZ.out.2.1).mono ?_
  rintro e w1 ⟨v1, rfl, hv1, hb1⟩
  have B1 : Hid (Below w.heap.size w w1) := B0.out.trans (hb1.mono B0.out.size)
  have y0 := (hb1.block _ l0).trans Y0.out
  replace Y0 : Hid (_ = _) := y0
  have l1 : w.heap.size < w1.heap.size := (Array.getElem?_eq_some_iff.1 y0).1
  have p1 : w1.cell? ⟨w.heap.size, 1, none⟩ = some (.int .i64 x.sch) := (cell_of_row _ _ 1 _ 39 (0, 0) y0).trans rfl
  have p2 : w1.cell? ⟨w.heap.size, 2, none⟩ = some (.int .u64 x.y) := (cell_of_row _ _ 2 _ 39 (0, 0) y0).trans rfl
  have p3 : w1.cell? ⟨w.heap.size, 3, none⟩ = some (.int .i64 x.ht) := (cell_of_row _ _ 3 _ 39 (0, 0) y0).trans rfl
  clear hb1 y0
  have HV1 : Hid _ := hv1
  clear hv1
  cases v1 with
  | false =>
    have HN : Hid (¬ anchorP x n2 n3) := fun q => by have := HV1.out.2 q.1; simp at this
    go_wp2
    go_ret
    exact saysB_f HN.out B1.out
  | true =>
    go_wp2_with fail
    refine (pubOk_any x.sch x.y x.ht _ HK.out.u).mono ?_
    rintro e w2 ⟨rfl, hb2⟩
    obtain ⟨v2, hd2⟩ : ∃ v, v = decide (pubP x.sch x.y x.ht) := ⟨_, rfl⟩
    rw [← hd2]
    have hv2 : Hid (v2 = true ↔ pubP x.sch x.y x.ht) := by show _ ↔ _; rw [hd2]; exact decide_eq_true_iff
    clear hd2
    have B2 : Hid (Below w.heap.size w w2) := B1.out.trans (hb2.mono B1.out.size)
    have y0 := (hb2.block _ l1).trans Y0.out
    replace Y0 : Hid (_ = _) := y0
    have l2 : w.heap.size < w2.heap.size := (Array.getElem?_eq_some_iff.1 y0).1
    clear p1 p2 p3
    have p4 : w2.cell? ⟨w.heap.size, 4, none⟩ = some (.slice a2 n2 c2) := (cell_of_row _ _ 4 _ 39 (0, 0) y0).trans rfl
    clear hb2 y0
    have HV2 : Hid _ := hv2
    clear hv2
    cases v2 with
    | false =>
      have HN : Hid (¬ anchorP x n2 n3) := fun q => by have := HV2.out.2 q.2.1; simp at this
      go_wp2
      go_ret
      exact saysB_f HN.out B2.out
    | true =>
      go_wp2_with fail
      refine (gensBase_any a2 n2 c2 x.per _ (HM.out.kept B2.out) (HK.out.kept B2.out).pe HZ.out.2.2.2.1).mono ?_
      rintro e w3 ⟨v3, rfl, hv3, hb3⟩
      have B3 : Hid (Below w.heap.size w w3) := B2.out.trans (hb3.mono B2.out.size)
      have y0 := (hb3.block _ l2).trans Y0.out
      replace Y0 : Hid (_ = _) := y0
      have l3 : w.heap.size < w3.heap.size := (Array.getElem?_eq_some_iff.1 y0).1
      clear p4
      have p5 : w3.cell? ⟨w.heap.size, 5, none⟩ = some (.slice a3 n3 c3) := (cell_of_row _ _ 5 _ 39 (0, 0) y0).trans rfl
      clear hb3 y0
      have HV3 : Hid _ := hv3
      clear hv3
      cases v3 with
      | false =>
        have HN : Hid (¬ anchorP x n2 n3) := fun q => by have := HV3.out.2 q.2.2.1; simp at this
        go_wp2
        go_ret
        exact saysB_f HN.out B3.out
      | true =>
        go_wp2_with fail
        refine (gensBase_any a3 n3 c3 x.den _ (HM.out.kept B3.out) (HK.out.kept B3.out).de HZ.out.2.2.2.2.2).mono ?_
        rintro e w4 ⟨v4, rfl, hv4, hb4⟩
        have B4 : Hid (Below w.heap.size w w4) := B3.out.trans (hb4.mono B3.out.size)
        have y0 := (hb4.block _ l3).trans Y0.out
        replace Y0 : Hid (_ = _) := y0
        have l4 : w.heap.size < w4.heap.size := (Array.getElem?_eq_some_iff.1 y0).1
        clear p5
        have p6 : w4.cell? ⟨w.heap.size, 6, none⟩ = some (.int .i64 x.til) := (cell_of_row _ _ 6 _ 39 (0, 0) y0).trans rfl
        clear hb4 y0
        have HV4 : Hid _ := hv4
        clear hv4
        cases v4 with
        | false =>
          have HN : Hid (¬ anchorP x n2 n3) := fun q => by have := HV4.out.2 q.2.2.2.1; simp at this
          go_wp2
          go_ret
          exact saysB_f HN.out B4.out
        | true =>
          go_wp2_with fail
          refine (isTime_any x.til _).mono ?_
          rintro e w5 ⟨rfl, hw⟩; have hw' := hw.symm; subst hw'
          obtain ⟨v5, hd5⟩ : ∃ v, v = decide (0 ≤ x.til ∧ x.til ≤ 253402300799) := ⟨_, rfl⟩
          rw [← hd5]
          have hv5 : Hid (v5 = true ↔ timeP x.til) := by show _ ↔ _; rw [hd5]; exact decide_eq_true_iff
          clear hd5
          have HV5 : Hid _ := hv5
          clear hv5
          go_wp2
          go_ret
          exact ⟨v5, rfl, ⟨fun e => ⟨HV1.out.1 (by simp), HV2.out.1 (by simp), HV3.out.1 (by simp), HV4.out.1 (by simp), HV5.out.1 e⟩, fun q => HV5.out.2 q.2.2.2.2⟩, B4.out⟩

end Go.Proofs.YtoldngiclmidaaaGreatDoor

namespace Go.Proofs.YtoldngiclmidaaaGreatDoor
open Go.RowKit

/-- A variable that holds an anchor. -/
structure BoxA (t b : Nat) (W : World) (a1 : Option Addr) (n1 c1 : Nat) (a2 : Option Addr) (n2 c2 : Nat) (a3 : Option Addr) (n3 c3 : Nat) (x : AP) : Prop where
  heap : W.heap[b]? = some (.cells #[.slice a1 n1 c1, .int .i64 x.sch, .int .u64 x.y, .int .i64 x.ht, .slice a2 n2 c2, .slice a3 n3 c3, .int .i64 x.til] t (0, 0))
theorem BoxA.cells {t b : Nat} {W : World} {a1 : Option Addr} {n1 c1 : Nat} {a2 : Option Addr} {n2 c2 : Nat} {a3 : Option Addr} {n3 c3 : Nat} {x : AP} (h : BoxA t b W a1 n1 c1 a2 n2 c2 a3 n3 c3 x) :
    W.cell? ⟨b, 0, none⟩ = some (.slice a1 n1 c1) ∧ W.cell? ⟨b, 1, none⟩ = some (.int .i64 x.sch) ∧ W.cell? ⟨b, 2, none⟩ = some (.int .u64 x.y) ∧ W.cell? ⟨b, 3, none⟩ = some (.int .i64 x.ht) ∧ W.cell? ⟨b, 4, none⟩ = some (.slice a2 n2 c2) ∧ W.cell? ⟨b, 5, none⟩ = some (.slice a3 n3 c3) ∧ W.cell? ⟨b, 6, none⟩ = some (.int .i64 x.til) :=
  ⟨(cell_of_row _ _ 0 _ t (0, 0) h.heap).trans rfl, (cell_of_row _ _ 1 _ t (0, 0) h.heap).trans rfl, (cell_of_row _ _ 2 _ t (0, 0) h.heap).trans rfl, (cell_of_row _ _ 3 _ t (0, 0) h.heap).trans rfl, (cell_of_row _ _ 4 _ t (0, 0) h.heap).trans rfl, (cell_of_row _ _ 5 _ t (0, 0) h.heap).trans rfl, (cell_of_row _ _ 6 _ t (0, 0) h.heap).trans rfl⟩
theorem BoxA.kept {t b : Nat} {W W' : World} {a1 : Option Addr} {n1 c1 : Nat} {a2 : Option Addr} {n2 c2 : Nat} {a3 : Option Addr} {n3 c3 : Nat} {x : AP} (h : BoxA t b W a1 n1 c1 a2 n2 c2 a3 n3 c3 x) (hb : Below W.heap.size W W') : BoxA t b W' a1 n1 c1 a2 n2 c2 a3 n3 c3 x := ⟨(hb.block _ (Array.getElem?_eq_some_iff.1 h.heap).1).trans h.heap⟩
theorem boxA_new (t : Nat) (w : World) (a1 : Option Addr) (n1 c1 : Nat) (a2 : Option Addr) (n2 c2 : Nat) (a3 : Option Addr) (n3 c3 : Nat) (x : AP) : BoxA t w.heap.size (w.alloc (.cells #[.slice a1 n1 c1, .int .i64 x.sch, .int .u64 x.y, .int .i64 x.ht, .slice a2 n2 c2, .slice a3 n3 c3, .int .i64 x.til] t)) a1 n1 c1 a2 n2 c2 a3 n3 c3 x := ⟨heap_alloc_new w _⟩

set_option maxRecDepth 10000 in
set_option maxHeartbeats 4000000 in
theorem lawAnchorOk_walk (a1 : Option Addr) (n1 c1 : Nat) (a2 : Option Addr) (n2 c2 : Nat) (a3 : Option Addr) (n3 c3 : Nat) (x : AP) (w : World) (hm : MaxW w) (h : Ans w a1 n1 a2 n2 a3 n3 x) :
    Calls Tryz.prog 3 #[anv a1 n1 c1 a2 n2 c2 a3 n3 c3 x] w fun e w' => e = .returned (.bool true) ∧ Below w.heap.size w w' := by
  have HK : Hid (Ans w a1 n1 a2 n2 a3 n3 x) := h
  have HM : Hid (MaxW w) := hm
  clear h hm
  have hbl : Below w.heap.size w (w.alloc (.cells #[.slice a1 n1 c1, .int .i64 x.sch, .int .u64 x.y, .int .i64 x.ht, .slice a2 n2 c2, .slice a3 n3 c3, .int .i64 x.til] 30)) := (Below.refl _ _).alloc (Nat.le_refl _) _
  have hbx := boxA_new 30 w a1 n1 c1 a2 n2 c2 a3 n3 c3 x
  have SZ := szAnchor_any a1 n1 c1 a2 n2 c2 a3 n3 c3 x 1048576 _ (HK.out.kept hbl) (by decide) (by decide)
  have TO := toAnchor_any a1 n1 c1 a2 n2 c2 a3 n3 c3 x
  unfold anv at SZ ⊢
  go_enter Tryz.func3, Tryz.ntmps3
  go_wp2_with fail
  refine SZ.mono ?_
  rintro e w1 ⟨r, rfl, hr, hb1⟩
  have B1 : Below w.heap.size w w1 := hbl.trans (hb1.mono hbl.size)
  have HB1 : Hid (_) := hbx.kept hb1
  clear hb1 hbl hbx SZ
  by_cases hneg : r < 0
  · clear hr
    go_wp2
    go_ret
    exact ⟨rfl, B1⟩
  · have hr0 : 0 ≤ r ∧ r ≤ 1048576 := by omega
    have HZ : Hid (AnOk n1 n2 n3 x) := by rcases hr with h | h; exact absurd h hneg; exact h.2.2
    clear hr
    obtain ⟨q0, q1, q2, q3, q4, q5, q6⟩ := HB1.out.cells
    have T1 := TO w1 (HK.out.kept B1) HZ.out
    unfold anv at T1
    go_wp2_with fail
    refine T1.mono ?_
    rintro e w2 ⟨u1, u2, u3, rfl, hs2, hb2⟩
    have B2 : Below w.heap.size w w2 := B1.trans (hb2.mono B1.size)
    have HB2 : Hid (_) := HB1.out.kept hb2
    have S2 := specAnchorOk_any u1 n1 n1 u2 n2 n2 u3 n3 n3 x w2 hs2 HZ.out
    unfold anv at S2
    clear q0 q1 q2 q3 q4 q5 q6 HB1 hs2 hb2 T1
    go_wp2_with fail
    refine S2.mono ?_
    rintro e w3 ⟨b1, rfl, hv1, hb3⟩
    have B3 : Below w.heap.size w w3 := B2.trans (hb3.mono B2.size)
    have HB3 : Hid (_) := HB2.out.kept hb3
    obtain ⟨q0, q1, q2, q3, q4, q5, q6⟩ := HB3.out.cells
    clear HB2 hb3 S2
    have T3 := TO w3 (HK.out.kept B3) HZ.out
    unfold anv at T3
    go_wp2_with fail
    refine T3.mono ?_
    rintro e w4 ⟨p1, p2, p3, rfl, hs4, hb4⟩
    have B4 : Below w.heap.size w w4 := B3.trans (hb4.mono B3.size)
    have HB4 : Hid (_) := HB3.out.kept hb4
    have hal : Below w4.heap.size w4 (w4.alloc (.cells #[.slice p1 n1 n1, .int .i64 x.sch, .int .u64 x.y, .int .i64 x.ht, .slice p2 n2 n2, .slice p3 n3 n3, .int .i64 x.til] 39)) := (Below.refl _ _).alloc (Nat.le_refl _) _
    have B5 : Below w.heap.size w (w4.alloc (.cells #[.slice p1 n1 n1, .int .i64 x.sch, .int .u64 x.y, .int .i64 x.ht, .slice p2 n2 n2, .slice p3 n3 n3, .int .i64 x.til] 39)) := B4.alloc B4.size _
    have HX5 : Hid (_) := boxA_new 39 w4 p1 n1 n1 p2 n2 n2 p3 n3 n3 x
    have HS5 : Hid (_) := hs4.kept hal
    have HB5 : Hid (_) := HB4.out.kept hal
    have I5 := implAnchorOk_any p1 n1 n1 p2 n2 n2 p3 n3 n3 x _ (HM.out.kept B5) HS5.out HZ.out
    unfold anv at I5
    clear q0 q1 q2 q3 q4 q5 q6 HB3 HB4 hs4 hb4 hal T3
    go_wp2_with fail
    refine I5.mono ?_
    rintro e w6 ⟨b2, rfl, hv2, hb6⟩
    have B6 : Below w.heap.size w w6 := B5.trans (hb6.mono B5.size)
    obtain rfl : b2 = b1 := says_one hv2 hv1
    have t1 : (b2 != b2) = false := by simp
    have HX6 : Hid (_) := HX5.out.kept hb6
    obtain ⟨z0, z1, z2, z3, z4, z5, z6⟩ := HX6.out.cells
    obtain ⟨q0, q1, q2, q3, q4, q5, q6⟩ := (HB5.out.kept hb6).cells
    have HS6 : Hid (_) := HS5.out.kept hb6
    clear HX5 HS5 HB5 hb6 hv1 hv2 I5
    go_wp2_with fail
    have hsz6 := B6.size
    have Bd : Below w.heap.size w w6.drew := B6.drew
    have hdd : Below w6.heap.size w6 w6.drew := (Below.refl _ _).drew
    have TI0 := TO w6.drew (HK.out.kept Bd) HZ.out
    unfold anv at TI0
    have TI : Hid (_) := TI0
    clear TI0 TO
    have EQ : ∀ (s1 s2 s3 : Option Addr) (w7 : World), Below w6.drew.heap.size w6.drew w7 → Ans w7 s1 n1 s2 n2 s3 n3 x → Hid (Calls Tryz.prog 9 #[.agg #[.slice p1 n1 n1, .int .i64 x.sch, .int .u64 x.y, .int .i64 x.ht, .slice p2 n2 n2, .slice p3 n3 n3, .int .i64 x.til], .agg #[.slice s1 n1 n1, .int .i64 x.sch, .int .u64 x.y, .int .i64 x.ht, .slice s2 n2 n2, .slice s3 n3 n3, .int .i64 x.til]] w7 fun e w' => e = .returned (.bool true) ∧ Below w7.heap.size w7 w') := fun s1 s2 s3 w7 h7 r7 =>
      eqAnchor_same p1 n1 n1 p2 n2 n2 p3 n3 n3 s1 n1 s2 n2 s3 n3 x w7 ((HS6.out.kept hdd).kept h7) r7
    have HXD : ∀ (w7 : World), Below w6.drew.heap.size w6.drew w7 → w7.cell? ⟨w4.heap.size, 0, none⟩ = some (.slice p1 n1 n1) ∧ w7.cell? ⟨w4.heap.size, 1, none⟩ = some (.int .i64 x.sch) ∧ w7.cell? ⟨w4.heap.size, 2, none⟩ = some (.int .u64 x.y) ∧ w7.cell? ⟨w4.heap.size, 3, none⟩ = some (.int .i64 x.ht) ∧ w7.cell? ⟨w4.heap.size, 4, none⟩ = some (.slice p2 n2 n2) ∧ w7.cell? ⟨w4.heap.size, 5, none⟩ = some (.slice p3 n3 n3) ∧ w7.cell? ⟨w4.heap.size, 6, none⟩ = some (.int .i64 x.til) := fun w7 h7 => ((HX6.out.kept hdd).kept h7).cells
    go_region_with (first
      | (go_at_call 7; refine Calls.mono TI.out ?_; rintro e w7 ⟨s1, s2, s3, rfl, ok7, hb7⟩; obtain ⟨y0, y1, y2, y3, y4, y5, y6⟩ := HXD w7 hb7)
      | (go_at_call 9; refine Calls.mono (EQ s1 s2 s3 w7 hb7 ok7).out ?_; rintro e w8 ⟨rfl, hb8⟩))
    all_goals
      have B8 : Below w.heap.size w w8 := (Bd.trans (hb7.mono (by simpa using hsz6))).trans (hb8.mono (Nat.le_trans hsz6 hb7.size))
      go_wp2
      go_ret
      exact ⟨rfl, B8⟩

end Go.Proofs.YtoldngiclmidaaaGreatDoor

namespace Go.Proofs.YtoldngiclmidaaaGreatDoor
open Go.ChangeShapes Go.WideShapes Go.ChangeAt Go.RowKit

def OpensP (y : PT) (cs : List Value) : Prop := cs = [.int .i64 y.attr, .string y.val] ∧ y.val.size ≤ 9223372036854775807

set_option maxRecDepth 20000 in
theorem open_part {H : Type} {enc : TypeId × Value → H} {W : World} {fuel : Nat} {cs : List Value} {x : DataW H × List MemPlace} (h : DataW.trod enc Tryz.prog W 0 (fun _ => true) true fuel 114 cs = some x) : ∃ y, OpensP y cs := by
  obtain ⟨xs, m, rfl, _, hl, hxl, hf⟩ := DataW.trod_struct Tryz.underlying114 h
  have hl2 : cs.length = 2 := hl.trans (by kernel_rfl)
  have hx2 : xs.length = 2 := hxl
  obtain ⟨c0, c1, rfl⟩ : ∃ c0 c1, cs = [c0, c1] := by
    match cs, hl2 with
    | [c0, c1], _ => exact ⟨c0, c1, rfl⟩
  obtain ⟨x0, x1, rfl⟩ : ∃ c0 c1, xs = [c0, c1] := by
    match xs, hx2 with
    | [c0, c1], _ => exact ⟨c0, c1, rfl⟩
  have e1 : Tryz.prog.cellsOf 2 = 1 := by kernel_rfl
  have e2 : Tryz.prog.cellsOf 9 = 1 := by kernel_rfl
  have f0 : DataW.trod enc Tryz.prog W 0 (fun _ => true) true m 2 ((([c0, c1] : List Value).drop 0).take (Tryz.prog.cellsOf 2)) = some x0 := hf 0 _ rfl
  rw [e1] at f0
  have f1 : DataW.trod enc Tryz.prog W 0 (fun _ => true) true m 9 ((([c0, c1] : List Value).drop 1).take (Tryz.prog.cellsOf 9)) = some x1 := hf 1 _ rfl
  rw [e2] at f1
  obtain ⟨n0, h0, _, _⟩ := DataW.trod_int Tryz.underlying2 f0
  obtain ⟨s1, h1, _, hs⟩ := DataW.trod_string Tryz.underlying9 f1
  simp at h0 h1
  subst h0 h1
  exact ⟨⟨n0, s1⟩, rfl, by unfold maxLen at hs; show s1.size ≤ _; omega⟩

set_option maxRecDepth 20000 in
theorem open_parts {H : Type} {enc : TypeId × Value → H} {W : World} {fuel : Nat} {cs : List Value} {x : DataW H × List MemPlace} (h : DataW.trod enc Tryz.prog W 0 (fun _ => true) true fuel 22 cs = some x) : ∃ a n c xs, cs = [.slice a n c] ∧ Pts W a n xs := by
  rcases DataW.trod_slice Tryz.underlying22 h with ⟨rfl, _⟩ | ⟨a, len, cap, elems, rest, n, rfl, rfl, _, _, hl, hm, hlen, hel, _, _⟩
  · exact ⟨none, 0, 0, [], rfl, ⟨rfl, by decide, fun k hk => absurd hk (by omega)⟩⟩
  · have ec : Tryz.prog.cellsOf 114 = 2 := by kernel_rfl
    rw [ec] at hel
    have each : ∀ i, i < len → ∃ y : PT, ∃ cs', W.cells? 0 (a.add (i * 2)) 2 = some cs' ∧ OpensP y cs' := by
      intro i hi
      have he := hel i hi
      rw [List.getElem?_eq_getElem (by omega)] at he
      cases hc : W.cells? 0 (a.add (i * 2)) 2 with
      | none => rw [hc] at he; cases he
      | some cs' =>
        rw [hc] at he
        obtain ⟨y, hy⟩ := open_part he
        exact ⟨y, cs', rfl, hy⟩
    obtain ⟨y, hy⟩ := Go.Deep.choose_lt each
    have hm' : len ≤ 9223372036854775807 := by unfold maxLen at hm; omega
    refine ⟨some a, len, cap, (List.range len).map y, rfl, ⟨by simp, hm', fun k hk => ?_⟩⟩
    obtain ⟨cs', hcs, rfl, hnk⟩ := hy k hk
    obtain ⟨_, _, hcell⟩ := World.cells?_some hcs
    obtain ⟨b, off, spot⟩ := a
    have hs : spot = none := by
      obtain ⟨cs0, hcs0, _⟩ := hy 0 (by omega)
      obtain ⟨_, hl0, hcell0⟩ := World.cells?_some hcs0
      have h00 := hcell0 0 (by omega)
      rw [List.getElem?_eq_getElem (by omega)] at h00
      simpa [Addr.add] using World.cell?_spot h00
    subst hs
    have ey : ((List.range len).map y).getD k default = y k := by simp [hk]
    rw [ey]
    have cc : ∀ j, j < 2 → W.cell? ⟨b, off + k * 2 + j, none⟩ = [Value.int .i64 (y k).attr, .string (y k).val][j]? := by
      intro j hj
      have := hcell j hj
      rw [Addr.add_lit, Addr.add_lit] at this
      exact this
    exact ⟨b, off, rfl, World.block_lt_of_cell? W _ (cc 0 (by omega)), ⟨cc 0 (by omega), cc 1 (by omega)⟩, hnk⟩

set_option maxRecDepth 20000 in
theorem open_name {H : Type} {enc : TypeId × Value → H} {W : World} {fuel : Nat} {cs : List Value} {x : DataW H × List MemPlace} (h : DataW.trod enc Tryz.prog W 0 (fun _ => true) true fuel 24 cs = some x) : ∃ a n c xs, cs = [.slice a n c] ∧ Pts W a n xs := by
  obtain ⟨xs, m, rfl, _, hl, hxl, hf⟩ := DataW.trod_struct Tryz.underlying24 h
  have hl2 : cs.length = 1 := hl.trans (by kernel_rfl)
  have hx2 : xs.length = 1 := hxl
  obtain ⟨c0, rfl⟩ : ∃ c0, cs = [c0] := by
    match cs, hl2 with
    | [c0], _ => exact ⟨c0, rfl⟩
  obtain ⟨x0, rfl⟩ : ∃ c0, xs = [c0] := by
    match xs, hx2 with
    | [c0], _ => exact ⟨c0, rfl⟩
  have e1 : Tryz.prog.cellsOf 22 = 1 := by kernel_rfl
  have f0 : DataW.trod enc Tryz.prog W 0 (fun _ => true) true m 22 ((([c0] : List Value).drop 0).take (Tryz.prog.cellsOf 22)) = some x0 := hf 0 _ rfl
  rw [e1] at f0
  exact open_parts f0

end Go.Proofs.YtoldngiclmidaaaGreatDoor

namespace Go.Proofs.YtoldngiclmidaaaGreatDoor
open Go.ChangeShapes Go.WideShapes Go.ChangeAt Go.RowKit

set_option maxRecDepth 20000 in
theorem open_gen {H : Type} {enc : TypeId × Value → H} {W : World} {fuel : Nat} {cs : List Value} {x : DataW H × List MemPlace} (h : DataW.trod enc Tryz.prog W 0 (fun _ => true) true fuel 44 cs = some x) :
    ∃ g : GT, ∃ a n c xs, cs = [.int .i64 g.kind, .string g.text, .int .i64 g.addr, .int .i64 g.bits, .slice a n c] ∧ Pts W a n xs ∧ g.text.size ≤ 9223372036854775807 := by
  obtain ⟨xs, m, rfl, _, hl, hxl, hf⟩ := DataW.trod_struct Tryz.underlying44 h
  have hl2 : cs.length = 5 := hl.trans (by kernel_rfl)
  have hx2 : xs.length = 5 := hxl
  obtain ⟨c0, c1, c2, c3, c4, rfl⟩ : ∃ c0 c1 c2 c3 c4, cs = [c0, c1, c2, c3, c4] := by
    match cs, hl2 with
    | [c0, c1, c2, c3, c4], _ => exact ⟨c0, c1, c2, c3, c4, rfl⟩
  obtain ⟨x0, x1, x2, x3, x4, rfl⟩ : ∃ c0 c1 c2 c3 c4, xs = [c0, c1, c2, c3, c4] := by
    match xs, hx2 with
    | [c0, c1, c2, c3, c4], _ => exact ⟨c0, c1, c2, c3, c4, rfl⟩
  have e1 : Tryz.prog.cellsOf 2 = 1 := by kernel_rfl
  have e2 : Tryz.prog.cellsOf 9 = 1 := by kernel_rfl
  have e3 : Tryz.prog.cellsOf 24 = 1 := by kernel_rfl
  have f0 : DataW.trod enc Tryz.prog W 0 (fun _ => true) true m 2 ((([c0, c1, c2, c3, c4] : List Value).drop 0).take (Tryz.prog.cellsOf 2)) = some x0 := hf 0 _ rfl
  have f1 : DataW.trod enc Tryz.prog W 0 (fun _ => true) true m 9 ((([c0, c1, c2, c3, c4] : List Value).drop 1).take (Tryz.prog.cellsOf 9)) = some x1 := hf 1 _ rfl
  have f2 : DataW.trod enc Tryz.prog W 0 (fun _ => true) true m 2 ((([c0, c1, c2, c3, c4] : List Value).drop 2).take (Tryz.prog.cellsOf 2)) = some x2 := hf 2 _ rfl
  have f3 : DataW.trod enc Tryz.prog W 0 (fun _ => true) true m 2 ((([c0, c1, c2, c3, c4] : List Value).drop 3).take (Tryz.prog.cellsOf 2)) = some x3 := hf 3 _ rfl
  have f4 : DataW.trod enc Tryz.prog W 0 (fun _ => true) true m 24 ((([c0, c1, c2, c3, c4] : List Value).drop 4).take (Tryz.prog.cellsOf 24)) = some x4 := hf 4 _ rfl
  rw [e1] at f0 f2 f3
  rw [e2] at f1
  rw [e3] at f4
  obtain ⟨n0, h0, _, _⟩ := DataW.trod_int Tryz.underlying2 f0
  obtain ⟨s1, h1, _, hs⟩ := DataW.trod_string Tryz.underlying9 f1
  obtain ⟨n2, h2, _, _⟩ := DataW.trod_int Tryz.underlying2 f2
  obtain ⟨n3, h3, _, _⟩ := DataW.trod_int Tryz.underlying2 f3
  obtain ⟨a, n, c, ys, h4, hp⟩ := open_name f4
  simp at h0 h1 h2 h3 h4
  subst h0 h1 h2 h3 h4
  exact ⟨⟨n0, s1, n2, n3⟩, a, n, c, ys, rfl, hp, by unfold maxLen at hs; show s1.size ≤ _; omega⟩

end Go.Proofs.YtoldngiclmidaaaGreatDoor

namespace Go.Proofs.YtoldngiclmidaaaGreatDoor
open Go.ChangeShapes Go.WideShapes Go.ChangeAt Go.RowKit

def OpensE (W : World) (y : Option Addr × Nat × Nat × GE) (cs : List Value) : Prop := cs = [.int .i64 y.2.2.2.g.kind, .string y.2.2.2.g.text, .int .i64 y.2.2.2.g.addr, .int .i64 y.2.2.2.g.bits, .slice y.1 y.2.1 y.2.2.1] ∧ Pts W y.1 y.2.1 y.2.2.2.parts ∧ y.2.2.2.g.text.size ≤ 9223372036854775807

set_option maxRecDepth 20000 in
theorem open_gens {H : Type} {enc : TypeId × Value → H} {W : World} {fuel : Nat} {cs : List Value} {x : DataW H × List MemPlace} (h : DataW.trod enc Tryz.prog W 0 (fun _ => true) true fuel 28 cs = some x) : ∃ a n c xs, cs = [.slice a n c] ∧ Ges W a n xs := by
  rcases DataW.trod_slice Tryz.underlying28 h with ⟨rfl, _⟩ | ⟨a, len, cap, elems, rest, n, rfl, rfl, _, _, hl, hm, hlen, hel, _, _⟩
  · exact ⟨none, 0, 0, [], rfl, ⟨rfl, by decide, fun k hk => absurd hk (by omega)⟩⟩
  · have ec : Tryz.prog.cellsOf 44 = 5 := by kernel_rfl
    rw [ec] at hel
    have each : ∀ i, i < len → ∃ y : Option Addr × Nat × Nat × GE, ∃ cs', W.cells? 0 (a.add (i * 5)) 5 = some cs' ∧ OpensE W y cs' := by
      intro i hi
      have he := hel i hi
      rw [List.getElem?_eq_getElem (by omega)] at he
      cases hc : W.cells? 0 (a.add (i * 5)) 5 with
      | none => rw [hc] at he; cases he
      | some cs' =>
        rw [hc] at he
        obtain ⟨g, a1, n1, c1, ps, hcs, hp, hs⟩ := open_gen he
        exact ⟨(a1, n1, c1, ⟨g, ps⟩), cs', rfl, hcs, hp, hs⟩
    obtain ⟨y, hy⟩ := Go.Deep.choose_lt each
    have hm' : len ≤ 9223372036854775807 := by unfold maxLen at hm; omega
    refine ⟨some a, len, cap, (List.range len).map (fun i => (y i).2.2.2), rfl, ⟨by simp, hm', fun k hk => ?_⟩⟩
    obtain ⟨cs', hcs, rfl, hnk, hsk⟩ := hy k hk
    obtain ⟨_, _, hcell⟩ := World.cells?_some hcs
    obtain ⟨b, off, spot⟩ := a
    have hs : spot = none := by
      obtain ⟨cs0, hcs0, _⟩ := hy 0 (by omega)
      obtain ⟨_, hl0, hcell0⟩ := World.cells?_some hcs0
      have h00 := hcell0 0 (by omega)
      rw [List.getElem?_eq_getElem (by omega)] at h00
      simpa [Addr.add] using World.cell?_spot h00
    subst hs
    have ey : ((List.range len).map (fun i => (y i).2.2.2)).getD k default = (y k).2.2.2 := by simp [hk]
    rw [ey]
    have cc : ∀ j, j < 5 → W.cell? ⟨b, off + k * 5 + j, none⟩ = [Value.int .i64 (y k).2.2.2.g.kind, .string (y k).2.2.2.g.text, .int .i64 (y k).2.2.2.g.addr, .int .i64 (y k).2.2.2.g.bits, .slice (y k).1 (y k).2.1 (y k).2.2.1][j]? := by
      intro j hj
      have := hcell j hj
      rw [Addr.add_lit, Addr.add_lit] at this
      exact this
    exact ⟨b, off, _, _, _, rfl, World.block_lt_of_cell? W _ (cc 0 (by omega)), ⟨cc 0 (by omega), cc 1 (by omega), cc 2 (by omega), cc 3 (by omega), cc 4 (by omega)⟩, hnk, hsk⟩

set_option maxRecDepth 20000 in
theorem open_pub {H : Type} {enc : TypeId × Value → H} {W : World} {fuel : Nat} {cs : List Value} {x : DataW H × List MemPlace} (h : DataW.trod enc Tryz.prog W 0 (fun _ => true) true fuel 27 cs = some x) : ∃ s y k : Int, cs = [.int .i64 s, .int .u64 y, .int .i64 k] ∧ U64 y := by
  obtain ⟨xs, m, rfl, _, hl, hxl, hf⟩ := DataW.trod_struct Tryz.underlying27 h
  have hl2 : cs.length = 3 := hl.trans (by kernel_rfl)
  have hx2 : xs.length = 3 := hxl
  obtain ⟨c0, c1, c2, rfl⟩ : ∃ c0 c1 c2, cs = [c0, c1, c2] := by
    match cs, hl2 with
    | [c0, c1, c2], _ => exact ⟨c0, c1, c2, rfl⟩
  obtain ⟨x0, x1, x2, rfl⟩ : ∃ y0 y1 y2, xs = [y0, y1, y2] := by
    match xs, hx2 with
    | [y0, y1, y2], _ => exact ⟨y0, y1, y2, rfl⟩
  have e0 : Tryz.prog.cellsOf 2 = 1 := by kernel_rfl
  have f0 : DataW.trod enc Tryz.prog W 0 (fun _ => true) true m 2 ((([c0, c1, c2] : List Value).drop 0).take (Tryz.prog.cellsOf 2)) = some x0 := hf 0 _ rfl
  rw [e0] at f0
  have e1 : Tryz.prog.cellsOf 25 = 1 := by kernel_rfl
  have f1 : DataW.trod enc Tryz.prog W 0 (fun _ => true) true m 25 ((([c0, c1, c2] : List Value).drop 1).take (Tryz.prog.cellsOf 25)) = some x1 := hf 1 _ rfl
  rw [e1] at f1
  have e2 : Tryz.prog.cellsOf 2 = 1 := by kernel_rfl
  have f2 : DataW.trod enc Tryz.prog W 0 (fun _ => true) true m 2 ((([c0, c1, c2] : List Value).drop 2).take (Tryz.prog.cellsOf 2)) = some x2 := hf 2 _ rfl
  rw [e2] at f2
  obtain ⟨n0, h0, _, _⟩ := DataW.trod_int Tryz.underlying2 f0
  obtain ⟨n1, h1, _, hw⟩ := DataW.trod_int Tryz.underlying25 f1
  obtain ⟨n2, h2, _, _⟩ := DataW.trod_int Tryz.underlying2 f2
  simp at h0 h1 h2
  subst h0 h1 h2
  exact ⟨n0, n1, n2, rfl, bounds_u64 hw⟩

set_option maxRecDepth 20000 in
theorem open_anchor {H : Type} {enc : TypeId × Value → H} {W : World} {fuel : Nat} {cs : List Value} {x : DataW H × List MemPlace} (h : DataW.trod enc Tryz.prog W 0 (fun _ => true) true fuel 30 cs = some x) : ∃ a1 n1 c1 a2 n2 c2 a3 n3 c3, ∃ x : AP, cs = [.slice a1 n1 c1, .int .i64 x.sch, .int .u64 x.y, .int .i64 x.ht, .slice a2 n2 c2, .slice a3 n3 c3, .int .i64 x.til] ∧ Ans W a1 n1 a2 n2 a3 n3 x := by
  obtain ⟨xs, m, rfl, _, hl, hxl, hf⟩ := DataW.trod_struct Tryz.underlying30 h
  have hl2 : cs.length = 7 := hl.trans (by kernel_rfl)
  have hx2 : xs.length = 5 := hxl
  obtain ⟨c0, c1, c2, c3, c4, c5, c6, rfl⟩ : ∃ c0 c1 c2 c3 c4 c5 c6, cs = [c0, c1, c2, c3, c4, c5, c6] := by
    match cs, hl2 with
    | [c0, c1, c2, c3, c4, c5, c6], _ => exact ⟨c0, c1, c2, c3, c4, c5, c6, rfl⟩
  obtain ⟨x0, x1, x2, x3, x4, rfl⟩ : ∃ y0 y1 y2 y3 y4, xs = [y0, y1, y2, y3, y4] := by
    match xs, hx2 with
    | [y0, y1, y2, y3, y4], _ => exact ⟨y0, y1, y2, y3, y4, rfl⟩
  have e0 : Tryz.prog.cellsOf 24 = 1 := by kernel_rfl
  have f0 : DataW.trod enc Tryz.prog W 0 (fun _ => true) true m 24 ((([c0, c1, c2, c3, c4, c5, c6] : List Value).drop 0).take (Tryz.prog.cellsOf 24)) = some x0 := hf 0 _ rfl
  rw [e0] at f0
  have e1 : Tryz.prog.cellsOf 27 = 3 := by kernel_rfl
  have f1 : DataW.trod enc Tryz.prog W 0 (fun _ => true) true m 27 ((([c0, c1, c2, c3, c4, c5, c6] : List Value).drop 1).take (Tryz.prog.cellsOf 27)) = some x1 := hf 1 _ rfl
  rw [e1] at f1
  have e2 : Tryz.prog.cellsOf 28 = 1 := by kernel_rfl
  have f2 : DataW.trod enc Tryz.prog W 0 (fun _ => true) true m 28 ((([c0, c1, c2, c3, c4, c5, c6] : List Value).drop 4).take (Tryz.prog.cellsOf 28)) = some x2 := hf 2 _ rfl
  rw [e2] at f2
  have e3 : Tryz.prog.cellsOf 28 = 1 := by kernel_rfl
  have f3 : DataW.trod enc Tryz.prog W 0 (fun _ => true) true m 28 ((([c0, c1, c2, c3, c4, c5, c6] : List Value).drop 5).take (Tryz.prog.cellsOf 28)) = some x3 := hf 3 _ rfl
  rw [e3] at f3
  have e4 : Tryz.prog.cellsOf 2 = 1 := by kernel_rfl
  have f4 : DataW.trod enc Tryz.prog W 0 (fun _ => true) true m 2 ((([c0, c1, c2, c3, c4, c5, c6] : List Value).drop 6).take (Tryz.prog.cellsOf 2)) = some x4 := hf 4 _ rfl
  rw [e4] at f4
  obtain ⟨a1, n1, d1, ys, h0, hp⟩ := open_name f0
  obtain ⟨s, y, k, h1, hu⟩ := open_pub f1
  obtain ⟨a2, n2, d2, es, h2, hg⟩ := open_gens f2
  obtain ⟨a3, n3, d3, es3, h3, hg3⟩ := open_gens f3
  obtain ⟨v4, h4, _, _⟩ := DataW.trod_int Tryz.underlying2 f4
  simp at h0 h1 h2 h3 h4
  obtain ⟨h1a, h1b, h1c⟩ := h1
  subst h0 h1a h1b h1c h2 h3 h4
  exact ⟨a1, n1, d1, a2, n2, d2, a3, n3, d3, ⟨ys, s, y, k, es, es3, v4⟩, rfl, hp, hg, hg3, hu⟩

end Go.Proofs.YtoldngiclmidaaaGreatDoor

