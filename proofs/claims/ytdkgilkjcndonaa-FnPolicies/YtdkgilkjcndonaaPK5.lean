import Derived.Test.YtdkgilkjcndonaaPK4
namespace Go.Proofs.Ytdkgilkjcndonaa
open Go.RowKit

theorem results_four {fn : Func} {t0 t1 t2 t3 : Tmp} (h : fn.results = #[.tmp t0, .tmp t1, .tmp t2, .tmp t3]) (tmps : Array Value) (v0 v1 v2 v3 : Value) (h0 : tmps.getD t0 undef = v0) (h1 : tmps.getD t1 undef = v1) (h2 : tmps.getD t2 undef = v2) (h3 : tmps.getD t3 undef = v3) (w : World) : (results fn tmps).run Try.prog w = .ok (.tuple #[v0, v1, v2, v3]) w := by
  have e0 : tmps[t0]?.getD undef = v0 := by rw [← h0]; simp
  have e1 : tmps[t1]?.getD undef = v1 := by rw [← h1]; simp
  have e2 : tmps[t2]?.getD undef = v2 := by rw [← h2]; simp
  have e3 : tmps[t3]?.getD undef = v3 := by rw [← h3]; simp
  simp [results, h, go_sem, e0, e1, e2, e3]
theorem three_at (V : Nat) (h : V < 3) : ∃ z : Int, (#[.int .i64 0, .int .i64 1000, .int .i64 1001] : Array Value)[V]? = some (.int .i64 z) := by
  match V, h with
  | 0, _ => exact ⟨_, rfl⟩
  | 1, _ => exact ⟨_, rfl⟩
  | 2, _ => exact ⟨_, rfl⟩
/-- A path that was drawn is there, while a reader goes on. -/
structure Stay (w1 w2 W : World) (g : Nat) (a : Option Addr) (n cap : Nat) (bs : List Int) : Prop where
  same : ∀ l, w1.heap.size ≤ l → l < w2.heap.size → W.heap[l]? = w2.heap[l]?
  size : w2.heap.size ≤ W.heap.size
  rd : RdPost w1 g a n cap bs W
theorem Stay.step {w1 w2 W W' : World} {g : Nat} {a : Option Addr} {n cap : Nat} {bs : List Int} (h : Stay w1 w2 W g a n cap bs) (k : RdPost W g a n cap bs W') (hg : g < w1.heap.size) : Stay w1 w2 W' g a n cap bs :=
  ⟨fun l h1 h2 => (k.2.block l (Nat.lt_of_lt_of_le h2 h.size) (.inr (by omega))).trans (h.same l h1 h2), Nat.le_trans h.size k.2.size, h.rd.step k⟩
theorem Stay.alloc {w1 w2 W : World} {g : Nat} {a : Option Addr} {n cap : Nat} {bs : List Int} (h : Stay w1 w2 W g a n cap bs) (o : Obj) : Stay w1 w2 (W.alloc o) g a n cap bs :=
  have hb : Below W.heap.size W (W.alloc o) := (Below.refl _ _).alloc (Nat.le_refl _) o
  ⟨fun l h1 h2 => (hb.block l (Nat.lt_of_lt_of_le h2 h.size)).trans (h.same l h1 h2), Nat.le_trans h.size hb.size, h.rd.alloc o⟩
/-- What DrawPolicyHolds answers. -/
def DhR (w : World) (e : Ending) (w' : World) : Prop := ∃ ao m c xs p b1 b2, e = .returned (.tuple #[.slice ao m c, .int .i64 p, .bool b1, .bool b2]) ∧ m ≤ 100 ∧ Pcs w' ao m xs ∧ Below w.heap.size w w'

set_option maxRecDepth 10000 in
set_option maxHeartbeats 2000000 in
theorem drawHolds_any (a : Option Addr) (n cap : Nat) (bs : List Int) (w : World) (h : Row w a n bs) (hn : n ≤ 1000000000) :
    Calls Try.prog 8 #[.slice a n cap] w (DhR w) := by
  have HR : Hid (Row w a n bs) := h
  clear h
  go_enter Try.func8, Try.ntmps8
  go_wp2_with fail
  refine (open_any a n cap bs _ HR.out hn).mono ?_
  rintro e w1 ⟨rfl, hrd, hb1⟩
  obtain ⟨g, hg⟩ : ∃ g, g = w.heap.size := ⟨_, rfl⟩
  rw [← hg] at hrd ⊢
  have HG : Hid (g = w.heap.size) := hg
  have HB1 : Hid (Below w.heap.size w w1) := hb1
  have HR1 : Hid (Rd w1 g a n cap bs) := hrd
  have hg1 : g < w1.heap.size := hrd.lt
  clear hg hrd hb1
  go_wp2_with fail
  refine (l12Draw_any g a n cap bs _ HR1.out).mono ?_
  rintro e w2 ⟨ao, m, c, xs, rfl, hm, hx, hp2⟩
  have HX2 : Hid (∀ W' : World, (∀ l, w1.heap.size ≤ l → l < w2.heap.size → W'.heap[l]? = w2.heap[l]?) → Pcs W' ao m xs) := hx
  have HS2 : Hid (Stay w1 w2 w2 g a n cap bs) := ⟨fun _ _ _ => rfl, Nat.le_refl _, hp2⟩
  clear hx hp2
  go_wp2_with fail
  refine (below_any g a n cap bs 4 _ HS2.out.rd.1 (by decide)).mono ?_
  rintro e w3 ⟨v3, rfl, h0, h1, hq3⟩
  obtain ⟨V3, rfl⟩ := Int.eq_ofNat_of_zero_le h0
  have hV3 : V3 ≤ 3 := by omega
  have HS3 : Hid (Stay w1 w2 w3 g a n cap bs) := HS2.out.step hq3 hg1
  clear h0 h1 hq3 HS2
  go_wp2_with fail
  refine (once_any g a n cap bs 15 _ HS3.out.rd.1 (by decide) (by decide)).mono ?_
  rintro e w4 ⟨o4, rfl, hq4⟩
  have HS4 : Hid (Stay w1 w2 w4 g a n cap bs) := HS3.out.step hq4 hg1
  clear hq4 HS3
  go_upto_if 18 with fail
  go_cut [8] (fun s wx => ∃ p : Int, s = .int .i64 p ∧ Hid (Stay w1 w2 wx g a n cap bs))
  case first =>
    cases o4 with
    | false =>
      go_wp2
      go_meet
      exact ⟨_, rfl, HS4⟩
    | true =>
      have HS5 : Hid (Stay w1 w2 (w4.alloc (.cells #[.int .i64 0, .int .i64 1000, .int .i64 1001] 2)) g a n cap bs) := HS4.out.alloc _
      have n5 := heap_alloc_new w4 (.cells #[.int .i64 0, .int .i64 1000, .int .i64 1001] 2)
      have HN5 : Hid (_ = _) := n5
      have l5 := (Array.getElem?_eq_some_iff.1 n5).1
      have HL5 : Hid (w4.heap.size < (w4.alloc (.cells #[.int .i64 0, .int .i64 1000, .int .i64 1001] 2)).heap.size) := l5
      have hg4 : g < w4.heap.size := Nat.lt_of_lt_of_le hg1 HS4.out.rd.2.size
      clear n5 l5
      go_wp2_with fail
      refine (below_any g a n cap bs 3 _ HS5.out.rd.1 (by decide)).mono ?_
      rintro e w6 ⟨v6, rfl, h0, h1, hq6⟩
      obtain ⟨V6, rfl⟩ := Int.eq_ofNat_of_zero_le h0
      have hV6 : V6 < 3 := by omega
      have hV6i : (V6 : Int) < 3 := by omega
      have n6 := (hq6.2.block w4.heap.size HL5.out (.inr (by omega))).trans HN5.out
      obtain ⟨z, hz⟩ : ∃ z : Int, w6.cell? ⟨w4.heap.size, V6, none⟩ = some (.int .i64 z) := by
        rw [cell_of_row _ _ V6 _ 2 (0, 0) n6]; exact three_at V6 hV6
      have l6 : w4.heap.size < w6.heap.size := (Array.getElem?_eq_some_iff.1 n6).1
      have HS6 : Hid (Stay w1 w2 w6 g a n cap bs) := HS5.out.step hq6 hg1
      clear hq6 n6 h0 h1
      go_wp2
      go_meet
      exact ⟨z, rfl, HS6⟩
  case rest =>
    obtain ⟨p, rfl, HS7⟩ := hcut
    clear HS4
    go_wp2_with fail
    refine (once_any g a n cap bs 5 _ HS7.out.rd.1 (by decide) (by decide)).mono ?_
    rintro e w8 ⟨o8, rfl, hq8⟩
    have HS8 : Hid (Stay w1 w2 w8 g a n cap bs) := HS7.out.step hq8 hg1
    clear hq8 HS7
    go_wp2_with fail
    refine (once_any g a n cap bs 5 _ HS8.out.rd.1 (by decide) (by decide)).mono ?_
    rintro e w9 ⟨o9, rfl, hq9⟩
    have HS9 : Hid (Stay w1 w2 w9 g a n cap bs) := HS8.out.step hq9 hg1
    clear hq9 HS8
    go_wp2
    try simp only [Exit.inBlock, Exit.then]
    refine bodyPost_ret (results_four rfl _ _ _ _ _ rfl rfl rfl rfl _) rfl ⟨ao, m, c, xs, p, o8, o9, rfl, hm, HX2.out _ HS9.out.same, ?_⟩
    have ht := HS9.out.rd.2
    have hb1 := HB1.out
    have hgw := HG.out
    exact ⟨ht.os.trans hb1.os, ht.tape.trans hb1.tape, ht.output.trans hb1.output, Nat.le_trans hb1.size ht.size, fun l hl => (ht.block l (Nat.lt_of_lt_of_le hl hb1.size) (.inl (by omega))).trans (hb1.block l hl)⟩

end Go.Proofs.Ytdkgilkjcndonaa
