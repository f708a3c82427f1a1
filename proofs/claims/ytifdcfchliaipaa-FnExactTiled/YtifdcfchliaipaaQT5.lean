import Derived.Test.YtifdcfchliaipaaQT4
namespace Go.Proofs.Ytifdcfchliaipaa
open Go.RowKit Go.Sort

def FewP (xs : List TP) (n : Nat) : Prop := ∀ k, k < n → (xs.getD k default).hs.length ≤ 4
instance (xs : List TP) (n : Nat) : Decidable (FewP xs n) := inferInstanceAs (Decidable (∀ k, k < n → _))
/-- What both tell. -/
def tdV (xs : List TP) (n : Int) : Int × Int := if 1 ≤ n ∧ n ≤ 200 then (if FewP xs xs.length then tsV (tilR xs 0 n.toNat) else (0, -1)) else (0, -1)

set_option maxHeartbeats 1000000 in
theorem fewHashes_any (lv ix : Int) (a : Option Addr) (n c : Nat) (w : World) (hn : n ≤ 9223372036854775807) :
    Calls Try.prog 55 #[.agg #[.int .i64 lv, .int .i64 ix, .slice a n c]] w fun e w' => e = .returned (.bool (decide (n ≤ 4))) ∧ Below w.heap.size w w' := by
  by_cases h : n ≤ 4
  · rw [decide_eq_true h]
    have h' : (n : Int) ≤ 4 := by omega
    go_enter Try.func55, Try.ntmps55
    go_wp2
    go_ret
    exact ⟨rfl, (Below.refl _ _).alloc (Nat.le_refl _) _⟩
  · rw [decide_eq_false h]
    have h' : ¬ (n : Int) ≤ 4 := by omega
    go_enter Try.func55, Try.ntmps55
    go_wp2
    go_ret
    exact ⟨rfl, (Below.refl _ _).alloc (Nat.le_refl _) _⟩

set_option maxRecDepth 10000 in
set_option maxHeartbeats 2000000 in
theorem everyFew_any (a : Option Addr) (n c : Nat) (xs : List TP) (w : World) (h : Tls w a n xs) :
    Calls Try.prog 54 #[.slice a n c, .func (Fn.func 55) #[] #[]] w fun e w' => e = .returned (.bool (decide (FewP xs n))) ∧ Below w.heap.size w w' := by
  have H0 : Hid (Tls w a n xs) := h
  have hn := h.max
  clear h
  obtain ⟨ans, hans⟩ : ∃ ans, ans = decide (FewP xs n) := ⟨_, rfl⟩
  rw [← hans]
  have HA : Hid (ans = decide (FewP xs n)) := hans
  clear hans
  go_enter Try.func54, Try.ntmps54
  go_wp2
  go_loopw [9] (fun i wr => ∃ k : Nat, k ≤ n ∧ i = .int .i64 k ∧ Hid (FewP xs k) ∧ Below w.heap.size w wr) (fun i _ => n - (intOf i).toNat)
  case atStart => exact ⟨0, Nat.zero_le _, rfl, fun k hk => absurd hk (Nat.not_lt_zero _), Below.refl _ _⟩
  case round =>
    obtain ⟨k, hk, rfl, HE, hbr⟩ := hrel
    have hws := hbr.size
    by_cases hlt : k < n
    · obtain ⟨b, off, a1, n1, c1, rfl, hlb, hc, hp, hm⟩ := H0.out.get k hlt
      have HLN : Hid ((xs.getD k default).hs.length = n1) := hp.len
      obtain ⟨y, hy⟩ : ∃ y, y = xs.getD k default := ⟨_, rfl⟩
      rw [← hy] at hc
      obtain ⟨e0, e1, e2⟩ := hc.of (w' := wr) (fun i => hbr.cell (p := ⟨b, i, none⟩) hlb)
      have hlti : (k : Int) < (n : Int) := by omega
      have hbw : b < wr.heap.size := by omega
      clear hc hp hy
      go_wp2_with fail
      refine (fewHashes_any y.lv y.ix a1 n1 c1 _ hm).mono ?_
      rintro e w2 ⟨rfl, hb2⟩
      have hbz : Below wr.heap.size wr (wr.alloc (.cells #[.int .i64 y.lv, .int .i64 y.ix, .slice a1 n1 c1] 74)) := (Below.refl _ _).alloc (Nat.le_refl _) _
      have B2 : Below w.heap.size w w2 := hbr.trans ((keepT hbz hb2).mono hws)
      by_cases h0 : n1 ≤ 4
      · rw [decide_eq_true h0]
        go_wp2
        go_roundw
        case rel => exact ⟨k + 1, by omega, by go_num, fun j hj => by
          by_cases e : j < k
          · exact HE.out j e
          · obtain rfl : j = k := by omega
            rw [HLN.out]; exact h0, B2⟩
        case measure => simp [intOf]; omega
      · rw [decide_eq_false h0]
        go_wp2
        go_ret
        exact ⟨by rw [HA.out, decide_eq_false (fun e => absurd (e k hlt) (by rw [HLN.out]; exact h0))]; rfl, B2⟩
    · obtain rfl : k = n := by omega
      go_wp2
      go_ret
      exact ⟨by rw [HA.out, decide_eq_true HE.out]; rfl, hbr⟩

set_option maxRecDepth 10000 in
set_option maxHeartbeats 2000000 in
theorem implTiled_any (a : Option Addr) (n c : Nat) (xs : List TP) (m : Int) (w : World) (h : Tls w a n xs) :
    Calls Try.prog 34 #[.slice a n c, .int .i64 m] w fun e w' => e = .returned (.tuple #[.int .u64 (tdV xs m).1, .int .i64 (tdV xs m).2]) ∧ Below w.heap.size w w' := by
  have H0 : Hid (Tls w a n xs) := h
  have HL : Hid (xs.length = n) := h.len
  clear h
  by_cases h1 : 1 ≤ m ∧ m ≤ 200
  · obtain ⟨s, rfl⟩ := Int.eq_ofNat_of_zero_le (show 0 ≤ m by omega)
    by_cases h2 : FewP xs n
    · have HV : Hid (tdV xs s = tsV (tilR xs 0 s)) := by show _ = _; unfold tdV; rw [if_pos h1, if_pos (by rw [HL.out]; exact h2), Int.toNat_natCast]
      have HEV : Hid (_) := fun W (hW : Below w.heap.size w W) => everyFew_any a n c xs W (H0.out.kept hW)
      rw [decide_eq_true h2] at HEV
      have HTR : Hid (_) := fun W (hW : Below w.heap.size w W) => tiledRoot_any s a n c xs 0 s W (Nat.le_refl _) (H0.out.kept hW) (by omega) (by omega)
      clear h2
      go_enter Try.func34, Try.ntmps34
      go_wp2_with fail
      refine (inBounds_t (s : Int) 1 200 _ h1).mono ?_
      rintro e w1 ⟨rfl, hw⟩
      have hw2 := hw.symm
      subst hw2
      go_wp2_with fail
      refine (HEV.out _ (Below.refl _ _)).mono ?_
      rintro e w1 ⟨rfl, hb1⟩
      go_wp2_with fail
      refine (HTR.out _ hb1).mono ?_
      rintro e w2 ⟨v, t, ok, rfl, hr, hb2⟩
      have HR : Hid (TrR (tilR xs 0 s) s v t ok) := hr
      clear hr
      have B2 := keepT hb1 hb2
      cases ok with
      | false =>
        have HN : Hid (tilR xs 0 s = none) := by
          show _ = _
          cases e1 : tilR xs 0 s with
          | none => rfl
          | some z => have := (HR.out.yes z.1 z.2 e1).1; simp at this
        go_wp2
        go_ret2
        exact ⟨by rw [HV.out, HN.out]; rfl, B2⟩
      | true =>
        have HY : Hid (tsV (tilR xs 0 s) = (v, t)) := by
          show _ = _
          cases e1 : tilR xs 0 s with
          | none => have := HR.out.no e1; simp at this
          | some z => obtain ⟨_, rfl, rfl⟩ := HR.out.yes z.1 z.2 e1; rfl
        go_wp2
        go_ret2
        exact ⟨by rw [HV.out, HY.out]; rfl, B2⟩
    · have HV : Hid (tdV xs s = (0, -1)) := by show _ = _; unfold tdV; rw [if_pos h1, if_neg (by rw [HL.out]; exact h2)]
      have HEV : Hid (_) := fun W (hW : Below w.heap.size w W) => everyFew_any a n c xs W (H0.out.kept hW)
      rw [decide_eq_false h2] at HEV
      clear h2
      go_enter Try.func34, Try.ntmps34
      go_wp2_with fail
      refine (inBounds_t (s : Int) 1 200 _ h1).mono ?_
      rintro e w1 ⟨rfl, hw⟩
      have hw2 := hw.symm
      subst hw2
      go_wp2_with fail
      refine (HEV.out _ (Below.refl _ _)).mono ?_
      rintro e w1 ⟨rfl, hb1⟩
      go_wp2
      go_ret2
      exact ⟨by rw [HV.out]; rfl, hb1⟩
  · have HV : Hid (tdV xs m = (0, -1)) := by show _ = _; unfold tdV; rw [if_neg h1]
    go_enter Try.func34, Try.ntmps34
    go_wp2_with fail
    refine (inBounds_f m 1 200 _ h1).mono ?_
    rintro e w1 ⟨rfl, hw⟩
    have hw2 := hw.symm
    subst hw2
    go_wp2
    go_ret2
    exact ⟨by rw [HV.out]; rfl, Below.refl _ _⟩

end Go.Proofs.Ytifdcfchliaipaa
