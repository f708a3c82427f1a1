import Derived.Test.YtpnaopmpiobemaaC7
import Derived.Test.YtpnaopmpiobemaaW2
namespace Go.Proofs.Ytpnaopmpiobemaa
open Go.RowKit

theorem owns_touchM {w w' : World} {B e s n lo hi : Nat} {v : Value} {xs : List Value} (h : w.ownsRow B e s v n xs) (ht : Touch lo hi w w') (hd : hi ≤ B) : w'.ownsRow B e s v n xs := by
  refine ⟨h.1, ?_⟩
  rcases h.2 with hv | ⟨g, cap, cur, hv, hb, hg, rest⟩
  · exact .inl hv
  · exact .inr ⟨g, cap, cur, hv, hb, (ht.block g (Array.getElem?_eq_some_iff.1 hg).1 (by omega)).trans hg, rest⟩
theorem touch_grownM {w w' : World} {r : Option Nat} {lo hi : Nat} (hg : w.grownBy w' r) (hr : ∀ k, r = some k → lo ≤ k ∧ k < hi) : Touch lo hi w w' :=
  ⟨hg.os, hg.tape, hg.output, hg.size, fun k hk ho => hg.block k hk (fun e => by have := hr k e.symm; omega)⟩
theorem ownBlock_in {a : Option Addr} {n c p q : Nat} {w : World} {B : Nat} {bs : List Int} (h : Own B w a n c bs) (hi : In a n p q) (hn : 0 < n) : ∀ k, (Value.slice a n c).ownBlock = some k → p ≤ k ∧ k < q := by
  intro k hk
  obtain ⟨d, rfl⟩ := h.shape hn
  have := hi d 0 rfl hn
  simp [Value.ownBlock] at hk
  omega
/-- Rows of our own in the blocks from g up to hi. -/
def LaidH (g hi : Nat) (w : World) (n : Nat) (bss : List (List Int)) : Prop :=
  ∃ (vs : List Value) (p : Nat → Nat), w.ownsRow g 54 1 (.slice (some ⟨g, 0, none⟩) n n) n vs ∧ g < p 0 ∧ (∀ j, j < n → p j ≤ p (j + 1)) ∧ p n ≤ hi ∧ hi ≤ w.heap.size ∧ ∀ j, j < n → ∃ aj nj, vs[j]? = some (.slice aj nj nj) ∧ Own (p j) w aj nj nj (bss.getD j []) ∧ In aj nj (p j) (p (j + 1))
theorem LaidR.at {g : Nat} {w : World} {n : Nat} {bss : List (List Int)} (h : LaidR g w n n bss) : LaidH g w.heap.size w n bss := by
  obtain ⟨vs, p, hv, h0, hm, hk, hr⟩ := h.owns
  exact ⟨vs, p, hv, h0, hm, hk, Nat.le_refl _, hr⟩
theorem LaidH.kept {g hi : Nat} {w w1 : World} {n : Nat} {bss : List (List Int)} (h : LaidH g hi w n bss) (hb : Below w.heap.size w w1) : LaidH g hi w1 n bss := by
  obtain ⟨vs, p, hv, h0, hm, hk, hh, hr⟩ := h
  refine ⟨vs, p, ownsRow_below hv hb, h0, hm, hk, Nat.le_trans hh hb.size, fun j hj => ?_⟩
  obtain ⟨aj, nj, h1, h2, h3⟩ := hr j hj
  exact ⟨aj, nj, h1, h2.kept hb, h3⟩

set_option maxRecDepth 10000 in
set_option maxHeartbeats 1000000 in
theorem markByteS_zero (a : Option Addr) (cap k : Nat) (w : World) :
    Calls Try.prog 22 #[.slice a 0 cap, .int .i64 k] w fun e w' => e = .returned (.int .i64 k) ∧ w' = w := by
  go_enter Try.func22, Try.ntmps22
  go_wp2
  go_loop [1, 5] (fun s i => s = .int .i64 k ∧ i = .int .i64 0) (fun _ _ => 0)
  case atStart => exact ⟨rfl, rfl⟩
  case round =>
    obtain ⟨rfl, rfl⟩ := hrel
    go_wp2
    go_ret
    exact ⟨rfl, rfl⟩
theorem markByteS_at (p q : Nat) (a : Option Addr) (n k : Nat) (bs : List Int) (w : World) (h : Own p w a n n bs) (hin : In a n p q) (hn : n ≤ 1000000000) (hk : k ≤ 1000000000) :
    Calls Try.prog 22 #[.slice a n n, .int .i64 k] w fun e w' => e = .returned (.int .i64 (k + n : Nat)) ∧ Touch p q w w' := by
  by_cases h0 : 0 < n
  · refine (markByteS_any p a n n k bs w h hn hk).mono ?_
    rintro e w2 ⟨rfl, ho2, hg2⟩
    exact ⟨rfl, touch_grownM hg2 (ownBlock_in h hin h0)⟩
  · obtain rfl : n = 0 := by omega
    refine (markByteS_zero a 0 k w).mono ?_
    rintro e w2 ⟨rfl, hw2⟩
    subst hw2
    exact ⟨rfl, ⟨rfl, rfl, rfl, Nat.le_refl _, fun _ _ _ => rfl⟩⟩

set_option maxRecDepth 10000 in
set_option maxHeartbeats 2000000 in
theorem markRowS_any (g hi n : Nat) (bss : List (List Int)) (w : World) (h : LaidH g hi w n bss) (hl : bss.length = n) (hn : n ≤ 1048576) (ht : total bss ≤ 1048576) :
    Calls Try.prog 34 #[.slice (some ⟨g, 0, none⟩) n n, .int .i64 1] w fun e w' => ∃ kk : Nat, e = .returned (.int .i64 kk) ∧ Touch g hi w w' := by
  obtain ⟨vs, p, hv, hg0, hm, hpn, hhi, hr⟩ := h
  have HV : Hid (w.ownsRow g 54 1 (.slice (some ⟨g, 0, none⟩) n n) n vs) := hv
  have HM : Hid (∀ j, j < n → p j ≤ p (j + 1)) := hm
  have HR : Hid (∀ j, j < n → ∃ aj nj, vs[j]? = some (.slice aj nj nj) ∧ Own (p j) w aj nj nj (bss.getD j []) ∧ In aj nj (p j) (p (j + 1))) := hr
  have HL : Hid (bss.length = n) := hl
  have HT : Hid (total bss ≤ 1048576) := ht
  have hgw : g < w.heap.size := ownsRow_lt hv
  have HG0 : Hid (g < p 0) := hg0
  have HPN : Hid (p n ≤ hi) := hpn
  have HHI : Hid (hi ≤ w.heap.size) := hhi
  clear hv hm hr hl ht hg0 hpn hhi
  go_enter Try.func34, Try.ntmps34
  go_wp2
  go_loopw [1, 5] (fun s i wr => ∃ k kk : Nat, k ≤ n ∧ i = .int .i64 k ∧ s = .int .i64 kk ∧ kk ≤ 2000000 ∧ Hid (kk ≤ 1 + total (bss.take k)) ∧ Hid (wr.heap[g]? = w.heap[g]?) ∧ Hid (∀ j, k ≤ j → j < n → ∃ aj nj, vs[j]? = some (.slice aj nj nj) ∧ Own (p j) wr aj nj nj (bss.getD j []) ∧ In aj nj (p j) (p (j + 1))) ∧ Touch g hi w wr) (fun _ i _ => n - (intOf i).toNat)
  case atStart => exact ⟨0, 1, Nat.zero_le _, rfl, rfl, by decide, by show _ ≤ _; simp [total], rfl, fun j _ hj => HR.out j hj, ⟨rfl, rfl, rfl, Nat.le_refl _, fun _ _ _ => rfl⟩⟩
  case round =>
    obtain ⟨k, kk, hk, rfl, rfl, hkb, HKB, HGB, HRR, htr⟩ := hrel
    have hws := htr.size
    by_cases hlt : k < n
    · obtain ⟨ak, nk, hvk, hok, hink⟩ := HRR.out k (Nat.le_refl _) hlt
      have hcr : wr.cell? ⟨g, k, none⟩ = some (.slice ak nk nk) := (World.cell?_of_block HGB.out).trans ((HV.out.cellAt k (by omega)).trans hvk)
      have hkl : k < bss.length := by rw [HL.out]; exact hlt
      have hlen : (bss.getD k []).length = nk := hok.length
      have HSP : Hid (total (bss.take (k + 1)) = total (bss.take k) + nk) := by show _ = _; rw [total_split bss k hkl, hlen]
      have hnb : nk ≤ 1048576 := by have := HSP.out; have := total_take bss (k + 1); have := HT.out; omega
      have hkn : kk + nk ≤ 2000000 := by have := HSP.out; have := total_take bss (k + 1); have := HT.out; have := HKB.out; omega
      have hgr : g < wr.heap.size := by omega
      have HOK : Hid (Own (p k) wr ak nk nk (bss.getD k [])) := hok
      have HIN : Hid (In ak nk (p k) (p (k + 1))) := hink
      have hlti : (k : Int) < (n : Int) := by omega
      clear hok hink hlen hvk
      go_wp2_with fail
      refine (markByteS_at (p k) (p (k + 1)) ak nk kk (bss.getD k []) _ HOK.out HIN.out (by omega) (by omega)).mono ?_
      rintro e w2 ⟨rfl, T2⟩
      have mu := mono_upto HM.out k (by omega)
      have mv := mono_upto HM.out (k + 1) (by omega)
      have hpn := HPN.out
      have hg0 := HG0.out
      have hhi := HHI.out
      have TG : Touch g hi w w2 := htr.trans (T2.mono (by omega) (by omega))
      have HGB2 : Hid (w2.heap[g]? = w.heap[g]?) := (T2.block g hgr (.inl (by omega))).trans HGB.out
      have HRR2 : Hid (∀ j, k + 1 ≤ j → j < n → ∃ aj nj, vs[j]? = some (.slice aj nj nj) ∧ Own (p j) w2 aj nj nj (bss.getD j []) ∧ In aj nj (p j) (p (j + 1))) := fun j hj hjn => by
        obtain ⟨aj, nj, h1, h2, h3⟩ := HRR.out j (by omega) hjn
        have m1 : p (k + 1) ≤ p j := by
          have := mono_upto (p := fun i => p (k + 1 + i)) (k := j - (k + 1)) (fun i hi' => HM.out (k + 1 + i) (by omega)) (j - (k + 1)) (Nat.le_refl _)
          simp only [Nat.add_zero] at this
          rw [show k + 1 + (j - (k + 1)) = j by omega] at this
          exact this.1
        exact ⟨aj, nj, h1, ⟨owns_touchM h2.row T2 m1, h2.byte⟩, h3⟩
      have HKB2 : Hid (kk + nk ≤ 1 + total (bss.take (k + 1))) := by show _ ≤ _; rw [HSP.out]; have := HKB.out; omega
      clear HRR HGB HKB htr T2 mu mv hpn hg0 hhi
      go_wp2
      go_roundw
      case rel => exact ⟨k + 1, kk + nk, by omega, by go_num, rfl, hkn, HKB2, HGB2, HRR2, TG⟩
      case measure => simp [intOf]; omega
    · obtain rfl : k = n := by omega
      go_wp2
      go_ret
      exact ⟨kk, rfl, htr⟩

set_option maxRecDepth 10000 in
set_option maxHeartbeats 1000000 in
theorem markCascade_any (g hi n : Nat) (bss : List (List Int)) (w : World) (h : LaidH g hi w n bss) (hl : bss.length = n) (hn : n ≤ 1048576) (ht : total bss ≤ 1048576) :
    Calls Try.prog 13 #[.agg #[.slice (some ⟨g, 0, none⟩) n n], .int .i64 1] w fun e w' => ∃ kk : Nat, e = .returned (.int .i64 kk) ∧ Touch g hi w w' := by
  have hbb : Below w.heap.size w (w.alloc (.cells #[.slice (some ⟨g, 0, none⟩) n n] 25)) := (Below.refl _ _).alloc (Nat.le_refl _) _
  go_enter Try.func13, Try.ntmps13
  go_wp2_with fail
  refine (markRowS_any g hi n bss _ (h.kept hbb) hl hn ht).mono ?_
  rintro e w2 ⟨kk, rfl, ht2⟩
  go_wp2
  go_ret
  exact ⟨kk, rfl, (Touch.of_below hbb).trans ht2⟩

end Go.Proofs.Ytpnaopmpiobemaa
