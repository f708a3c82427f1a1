import Derived.Test.YtaiflnccpgcklaaDoorS4
namespace Go.Proofs.YtaiflnccpgcklaaDoor
open Go.RowKit

/-- The kids of a type stand behind it. -/
def behindP (ks : List Int) (t c : Int) : Prop := ∀ j, j < ks.length → t < ks.getD j 0 ∧ ks.getD j 0 < c

set_option maxHeartbeats 1000000 in
theorem kidsBehind_any (x : ST) (a : Option Addr) (n c : Nat) (t cnt : Int) (w : World) (hr : Row64 w a n x.kids) (hn : n ≤ 9223372036854775807) :
    Calls Tryd.prog 22 #[stv x a n c, .int .i64 t, .int .i64 cnt] w fun e w' => Tells (behindP x.kids t cnt) w e w' := by
  have hbl : Below w.heap.size w (w.alloc (.cells #[.int .i64 x.kind, .int .i64 x.lo, .int .i64 x.hi, .bool x.ext, .bool x.opt, .slice a n c] 35)) := (Below.refl _ _).alloc (Nat.le_refl _) _
  have HR : Hid (Row64 w a n x.kids) := hr
  have HL : Hid (x.kids.length = n) := hr.len
  clear hr
  unfold stv
  go_enter Tryd.func22, Tryd.ntmps22
  go_wp2
  go_loopw [12] (fun i wr => ∃ k : Nat, k ≤ n ∧ i = .int .i64 k ∧ Hid (∀ j, j < k → t < x.kids.getD j 0 ∧ x.kids.getD j 0 < cnt) ∧ Below w.heap.size w wr) (fun i _ => n - (intOf i).toNat)
  case atStart => exact ⟨0, Nat.zero_le _, rfl, fun j hj => absurd hj (Nat.not_lt_zero _), hbl⟩
  case round =>
    obtain ⟨k, hk, rfl, HA, hbr⟩ := hrel
    by_cases hkn : k < n
    · obtain ⟨b, off, rfl, hlb, hc⟩ := HR.out.get k hkn
      have hcr : wr.cell? ⟨b, off + k, none⟩ = some (.int .i64 (x.kids.getD k 0)) := (hbr.cell (p := ⟨b, off + k, none⟩) hlb).trans hc
      obtain ⟨p, hp⟩ : ∃ p, p = x.kids.getD k 0 := ⟨_, rfl⟩
      rw [← hp] at hcr
      have HP : Hid (p = x.kids.getD k 0) := hp
      have hkni : (k : Int) < (n : Int) := by omega
      clear hc hp
      by_cases h1 : p ≤ t
      · go_wp2
        go_ret
        refine ⟨false, rfl, ?_, hbr⟩
        show _ ↔ _
        simp only [Bool.false_eq_true, false_iff]
        intro h
        have := h k (by rw [HL.out]; exact hkn)
        rw [← HP.out] at this
        omega
      · by_cases h2 : p ≥ cnt
        · go_wp2
          go_ret
          refine ⟨false, rfl, ?_, hbr⟩
          show _ ↔ _
          simp only [Bool.false_eq_true, false_iff]
          intro h
          have := h k (by rw [HL.out]; exact hkn)
          rw [← HP.out] at this
          omega
        · go_wp2
          go_roundw
          case rel =>
            refine ⟨k + 1, by omega, by go_num, fun j hj => ?_, hbr⟩
            by_cases hjk : j = k
            · subst hjk; rw [← HP.out]; omega
            · exact HA.out j (by omega)
          case measure => simp [intOf]; omega
    · obtain rfl : n = k := by omega
      go_wp2
      go_ret
      refine ⟨true, rfl, ?_, hbr⟩
      show _ ↔ _
      simp only [true_iff]
      intro j hj
      exact HA.out j (by rw [HL.out] at hj; exact hj)

/-- The field ahead that an open type hangs on. -/
def aheadP (xs : List ST) (ks : List Int) (k : Nat) (f : Int) : Prop := 0 ≤ f ∧ f < k ∧ (xs.getD (ks.getD f.toNat 0).toNat default).kind = 2 ∧ (xs.getD (ks.getD f.toNat 0).toNat default).opt = false

set_option maxHeartbeats 2000000 in
theorem fieldAhead_any (aL : Option Addr) (nL cL : Nat) (xs : List ST) (x : ST) (a : Option Addr) (n c k : Nat) (f : Int) (w : World) (hL : Sts w aL nL xs) (hr : Row64 w a n x.kids) (_hn : n ≤ 9223372036854775807) (hk : k ≤ n) (hin : ∀ j, j < n → 0 ≤ x.kids.getD j 0 ∧ x.kids.getD j 0 < nL) :
    Calls Tryd.prog 34 #[.slice aL nL cL, stv x a n c, .int .i64 k, .int .i64 f] w fun e w' => Tells (aheadP xs x.kids k f) w e w' := by
  have hbl : Below w.heap.size w (w.alloc (.cells #[.int .i64 x.kind, .int .i64 x.lo, .int .i64 x.hi, .bool x.ext, .bool x.opt, .slice a n c] 35)) := (Below.refl _ _).alloc (Nat.le_refl _) _
  have HLs : Hid (Sts w aL nL xs) := hL
  have HR : Hid (Row64 w a n x.kids) := hr
  have HI : Hid (_) := hin
  have hnL := hL.max
  clear hL hr hin
  unfold stv
  by_cases h1 : f < 0
  · have HN : Hid (¬ aheadP xs x.kids k f) := fun h => by have := h.1; omega
    go_enter Tryd.func34, Tryd.ntmps34
    go_wp2
    go_ret
    exact ⟨false, rfl, (by show _ ↔ _; simp [HN.out]), hbl⟩
  · by_cases h2 : f ≥ (k : Int)
    · have HN : Hid (¬ aheadP xs x.kids k f) := fun h => by have := h.2.1; omega
      go_enter Tryd.func34, Tryd.ntmps34
      go_wp2
      go_ret
      exact ⟨false, rfl, (by show _ ↔ _; simp [HN.out]), hbl⟩
    · obtain ⟨m, rfl⟩ : ∃ m : Nat, f = (m : Int) := ⟨f.toNat, by omega⟩
      have hmn : m < n := by omega
      have hmni : (m : Int) < (n : Int) := by omega
      obtain ⟨b, off, rfl, hlb, hc⟩ := HR.out.get m hmn
      have hi := HI.out m hmn
      obtain ⟨p, hp⟩ : ∃ p : Nat, (p : Int) = x.kids.getD m 0 := ⟨(x.kids.getD m 0).toNat, by omega⟩
      rw [← hp] at hc hi
      obtain ⟨b2, off2, rfl, hl2, ak, nk, ck, hcs, _, _⟩ := HLs.out.get p (by omega)
      obtain ⟨y, hy⟩ : ∃ y, y = xs.getD p default := ⟨_, rfl⟩
      rw [← hy] at hcs
      have HA : Hid (aheadP xs x.kids k m ↔ (y.kind = 2 ∧ y.opt = false)) := by
        show _ ↔ _
        unfold aheadP
        rw [Int.toNat_natCast, ← hp, Int.toNat_natCast, ← hy]
        constructor
        · exact fun h => h.2.2
        · exact fun h => ⟨by omega, by omega, h⟩
      have hcr := (hbl.cell (p := ⟨b, off + m, none⟩) hlb).trans hc
      obtain ⟨c0, c1, c2, c3, c4, c5⟩ := hcs.of (fun i => hbl.cell (p := ⟨b2, i, none⟩) hl2)
      have hpi : (p : Int) < (nL : Int) := by omega
      have hB2 : ∀ o, Below w.heap.size w ((w.alloc (.cells #[.int .i64 x.kind, .int .i64 x.lo, .int .i64 x.hi, .bool x.ext, .bool x.opt, .slice (some ⟨b, off, none⟩) n c] 35)).alloc o) := fun o => hbl.alloc hbl.size o
      clear hc hcs hy hp hi h1
      by_cases hk2 : y.kind = 2
      · have z : (y.kind == 2) = true := by simp [hk2]
        obtain ⟨op, hop⟩ : ∃ op, op = y.opt := ⟨_, rfl⟩
        have HO : Hid (op = y.opt) := hop
        have HK : Hid (y.kind = 2) := hk2
        rw [← hop] at c4
        clear hop hk2
        cases op with
        | true =>
          go_enter Tryd.func34, Tryd.ntmps34
          go_wp2
          go_ret
          exact ⟨false, rfl, (by show _ ↔ _; rw [HA.out, ← HO.out]; simp), hB2 _⟩
        | false =>
          go_enter Tryd.func34, Tryd.ntmps34
          go_wp2
          go_ret
          exact ⟨true, rfl, (by show _ ↔ _; rw [HA.out, ← HO.out, HK.out]; simp), hB2 _⟩
      · have z : (y.kind == 2) = false := by simp [hk2]
        have HK : Hid (¬ y.kind = 2) := hk2
        clear hk2
        go_enter Tryd.func34, Tryd.ntmps34
        go_wp2
        go_ret
        exact ⟨false, rfl, (by show _ ↔ _; rw [HA.out]; simp [HK.out]), hB2 _⟩

end Go.Proofs.YtaiflnccpgcklaaDoor
