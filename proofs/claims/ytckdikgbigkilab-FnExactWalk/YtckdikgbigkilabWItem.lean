import Derived.Test.YtckdikgbigkilabW3
namespace Go.Proofs.Ytckdikgbigkilab
open Go.RowKit

inductive It where
  | mk (cls tag : Int) (cons : Bool) (body : List Int) (kids : List It)
instance : Inhabited It := ⟨.mk 0 0 false [] []⟩
def It.cls : It → Int | .mk c _ _ _ _ => c
def It.tag : It → Int | .mk _ t _ _ _ => t
def It.cons : It → Bool | .mk _ _ b _ _ => b
def It.body : It → List Int | .mk _ _ _ b _ => b
def It.kids : It → List It | .mk _ _ _ _ k => k

/-- The value of an item: its five fields. -/
def itv (x : It) (ab : Option Addr) (nb cb : Nat) (ak : Option Addr) (nk ck : Nat) : Value := .agg #[.int .i64 x.cls, .int .i64 x.tag, .bool x.cons, .slice ab nb cb, .slice ak nk ck]

/-- The slice at a reads as these items, none deeper than d. -/
def Kids : Nat → World → Option Addr → Nat → List It → Prop
  | 0, _, _, _, _ => False
  | d + 1, w, a, n, xs => xs.length = n ∧ n ≤ 9223372036854775807 ∧ ∀ k, k < n → ∃ b off, a = some ⟨b, off, none⟩ ∧ b < w.heap.size ∧ ∃ ab nb cb ak nk ck,
      w.cell? ⟨b, off + k * 5, none⟩ = some (.int .i64 (xs.getD k default).cls) ∧ w.cell? ⟨b, off + k * 5 + 1, none⟩ = some (.int .i64 (xs.getD k default).tag) ∧ w.cell? ⟨b, off + k * 5 + 2, none⟩ = some (.bool (xs.getD k default).cons)
      ∧ w.cell? ⟨b, off + k * 5 + 3, none⟩ = some (.slice ab nb cb) ∧ w.cell? ⟨b, off + k * 5 + 4, none⟩ = some (.slice ak nk ck)
      ∧ Row w ab nb (xs.getD k default).body ∧ (ab = none → cb = 0) ∧ nb ≤ 9223372036854775807 ∧ Kids d w ak nk (xs.getD k default).kids

theorem Kids.kept {d : Nat} : ∀ {w w' : World} {a : Option Addr} {n : Nat} {xs : List It}, Kids d w a n xs → Below w.heap.size w w' → Kids d w' a n xs := by
  induction d with
  | zero => intro _ _ _ _ _ h; exact h.elim
  | succ d ih =>
    intro w w' a n xs h hb
    refine ⟨h.1, h.2.1, fun k hk => ?_⟩
    obtain ⟨b, off, ha, hlt, ab, nb, cb, ak, nk, ck, c0, c1, c2, c3, c4, hr, hn, hm, hk⟩ := h.2.2 k hk
    have cc : ∀ j, w'.cell? ⟨b, j, none⟩ = w.cell? ⟨b, j, none⟩ := fun j => hb.cell (p := ⟨b, j, none⟩) hlt
    exact ⟨b, off, ha, Nat.lt_of_lt_of_le hlt hb.size, ab, nb, cb, ak, nk, ck, (cc _).trans c0, (cc _).trans c1, (cc _).trans c2, (cc _).trans c3, (cc _).trans c4, hr.kept hb, hn, hm, ih hk hb⟩

/-- How much an item weighs: its bytes, its kids, and what they weigh. -/
def wtS : Nat → List It → Nat
  | 0, _ => 0
  | d + 1, xs => xs.length + (xs.map fun x => x.body.length + wtS d x.kids).sum
def szR (t : Nat) (left : Int) : Int := if (t : Int) ≤ left then left - t else -1

set_option maxHeartbeats 400000 in
theorem szByteS_any (a : Option Addr) (n cap : Nat) (left : Int) (w : World) (hn : n ≤ 9223372036854775807) (h0 : 0 ≤ left) (h1 : left ≤ 1048576) :
    Calls Try.prog 27 #[.slice a n cap, .int .i64 left] w fun e w' => e = .returned (.int .i64 (szR n left)) ∧ w = w' := by
  by_cases hlt : (n : Int) ≤ left
  · go_enter Try.func27, Try.ntmps27
    go_wp2
    go_ret
    exact ⟨by rw [szR, if_pos hlt]; rfl, rfl⟩
  · go_enter Try.func27, Try.ntmps27
    go_wp2
    go_ret
    exact ⟨by rw [szR, if_neg (by omega)]; rfl, rfl⟩

def SzS (d : Nat) : Prop := ∀ (a : Option Addr) (n cap : Nat) (xs : List It) (left : Int) (w : World), Kids d w a n xs → 0 ≤ left → left ≤ 1048576 →
    Calls Try.prog 28 #[.slice a n cap, .int .i64 left] w fun e w' => e = .returned (.int .i64 (szR (wtS d xs) left)) ∧ Below w.heap.size w w'

set_option maxHeartbeats 1000000 in
theorem szItem_any (d : Nat) (ih : SzS d) (x : It) (ab : Option Addr) (nb cb : Nat) (ak : Option Addr) (nk ck : Nat) (left : Int) (w : World) (hb : nb ≤ 9223372036854775807) (hk : Kids d w ak nk x.kids) (h0 : 0 ≤ left) (h1 : left ≤ 1048576) :
    Calls Try.prog 13 #[itv x ab nb cb ak nk ck, .int .i64 left] w fun e w' => e = .returned (.int .i64 (szR (nb + wtS d x.kids) left)) ∧ Below w.heap.size w w' := by
  have HK : Hid (Kids d w ak nk x.kids) := hk
  clear hk
  unfold itv
  go_enter Try.func13, Try.ntmps13
  go_wp2_with fail
  refine (szByteS_any ab nb cb left _ hb h0 h1).mono ?_
  rintro e w1 ⟨rfl, rfl⟩
  have hbl : Below w.heap.size w (w.alloc (.cells #[.int .i64 x.cls, .int .i64 x.tag, .bool x.cons, .slice ab nb cb, .slice ak nk ck] 29)) := (Below.refl _ _).alloc (Nat.le_refl _) _
  by_cases hlt : (nb : Int) ≤ left
  · have e1 : szR nb left = left - nb := by rw [szR, if_pos hlt]
    have e2 : szR (nb + wtS d x.kids) left = szR (wtS d x.kids) (left - nb) := by unfold szR; split <;> split <;> omega
    rw [e1]
    have hl0 : 0 ≤ left - nb := by omega
    clear e1
    go_wp2_with fail
    refine (ih ak nk ck x.kids (left - nb) _ (HK.out.kept hbl) (by omega) (by omega)).mono ?_
    rintro e w2 ⟨rfl, hb2⟩
    have E2 : Hid (szR (nb + wtS d x.kids) left = szR (wtS d x.kids) (left - nb)) := e2
    have hb2' : Below w.heap.size w w2 := hbl.trans (hb2.mono (by simp))
    clear e2
    by_cases hl2 : ((wtS d x.kids : Nat) : Int) ≤ left - nb
    · have e3 : szR (wtS d x.kids) (left - nb) = left - nb - (wtS d x.kids : Nat) := by rw [szR, if_pos hl2]
      have E3 : Hid (szR (wtS d x.kids) (left - nb) = left - nb - (wtS d x.kids : Nat)) := e3
      rw [e3]
      clear e3
      go_wp2
      go_ret
      exact ⟨by rw [E2.out, E3.out]; rfl, hb2'⟩
    · have e3 : szR (wtS d x.kids) (left - nb) = -1 := by rw [szR, if_neg hl2]
      have E3 : Hid (szR (wtS d x.kids) (left - nb) = -1) := e3
      rw [e3]
      clear e3
      go_wp2
      go_ret
      exact ⟨by rw [E2.out, E3.out]; rfl, hb2'⟩
  · have e1 : szR nb left = -1 := by rw [szR, if_neg hlt]
    rw [e1]
    clear e1
    go_wp2
    go_ret
    exact ⟨by rw [szR, if_neg (by omega)]; rfl, hbl⟩

/-- What the first k of them weigh. -/
def wtP (d : Nat) (xs : List It) (k : Nat) : Nat := ((xs.take k).map fun x => x.body.length + wtS d x.kids).sum
theorem wtP_next (d : Nat) (xs : List It) (k : Nat) (h : k < xs.length) : wtP d xs (k + 1) = wtP d xs k + ((xs.getD k default).body.length + wtS d (xs.getD k default).kids) := by
  have e : xs.getD k default = xs[k] := by simp [h]
  unfold wtP
  rw [List.take_succ_eq_append_getElem h, List.map_append, List.sum_append, e]
  simp
theorem wtP_le (d : Nat) (xs : List It) (k : Nat) : wtP d xs k ≤ wtP d xs xs.length := by
  unfold wtP
  rw [List.take_length]
  conv => rhs; rw [← List.take_append_drop k xs, List.map_append, List.sum_append]
  omega
theorem wtS_succ (d : Nat) (xs : List It) : wtS (d + 1) xs = xs.length + wtP d xs xs.length := by
  unfold wtP
  rw [List.take_length]
  rfl

set_option maxHeartbeats 1000000 in
theorem szItemS_any (d : Nat) (ih : SzS d) : SzS (d + 1) := by
  intro a n cap xs left w hk h0 h1
  have HK : Hid (Kids (d + 1) w a n xs) := hk
  have hlen : Hid (xs.length = n) := hk.1
  have hn := hk.2.1
  have HW : Hid (wtS (d + 1) xs = n + wtP d xs n) := by show _ = _; rw [wtS_succ, hlen.out]
  clear hk
  by_cases hlt : (n : Int) ≤ left
  · go_enter Try.func28, Try.ntmps28
    go_wp2
    go_loopw [1, 5] (fun l i wr => ∃ k : Nat, k ≤ n ∧ i = .int .i64 k ∧ l = .int .i64 (left - n - (wtP d xs k : Nat)) ∧ 0 ≤ left - n - (wtP d xs k : Nat) ∧ Below w.heap.size w wr) (fun _ i _ => n - (intOf i).toNat)
    case atStart => exact ⟨0, Nat.zero_le _, rfl, by simp [wtP], by simp [wtP]; omega, Below.refl _ _⟩
    case round =>
      obtain ⟨k, hk, rfl, rfl, hpos, hbr⟩ := hrel
      by_cases hkn : k < n
      · obtain ⟨b, off, rfl, hlb, ab, nb, cb, ak, nk, ck, c0, c1, c2, c3, c4, hr, hnil, hnb, hkk⟩ := HK.out.2.2 k hkn
        obtain ⟨y, hy⟩ : ∃ y, y = xs.getD k default := ⟨_, rfl⟩
        rw [← hy] at c0 c1 c2 hr hkk
        have cc : ∀ j, wr.cell? ⟨b, j, none⟩ = w.cell? ⟨b, j, none⟩ := fun j => hbr.cell (p := ⟨b, j, none⟩) hlb
        rw [← cc] at c0 c1 c2 c3 c4
        have hkni : (k : Int) < (n : Int) := by omega
        have HY : Hid (y = xs.getD k default) := hy
        have HN : Hid (wtP d xs (k + 1) = wtP d xs k + (nb + wtS d y.kids)) := by show _ = _; rw [wtP_next d xs k (by have := hlen.out; omega), ← hy, hr.len]
        clear cc hy
        have hs := hbr.size
        obtain ⟨p, hp⟩ : ∃ p, p = wtP d xs k := ⟨_, rfl⟩
        rw [← hp] at hpos ⊢
        have HP : Hid (p = wtP d xs k) := hp
        clear hp
        go_wp2_with fail
        refine (szItem_any d ih y ab nb cb ak nk ck (left - n - p) _ hnb (hkk.kept hbr) hpos (by omega)).mono ?_
        rintro e w2 ⟨rfl, hb2⟩
        have hb2' : Below w.heap.size w w2 := hbr.trans (hb2.mono hs)
        by_cases hl2 : ((nb + wtS d y.kids : Nat) : Int) ≤ left - n - p
        · have e3 : szR (nb + wtS d y.kids) (left - n - p) = left - n - (wtP d xs (k + 1) : Nat) := by rw [szR, if_pos hl2, HN.out, ← HP.out]; omega
          have hq : 0 ≤ left - n - (wtP d xs (k + 1) : Nat) := by rw [HN.out, ← HP.out]; omega
          rw [e3]
          clear e3
          go_wp2
          go_roundw
          case rel => exact ⟨k + 1, by omega, by go_num, rfl, hq, hb2'⟩
          case measure => simp [intOf]; omega
        · have e3 : szR (nb + wtS d y.kids) (left - n - p) = -1 := by rw [szR, if_neg hl2]
          rw [e3]
          clear e3
          go_wp2
          go_ret
          have hw := wtP_le d xs (k + 1)
          rw [hlen.out] at hw
          exact ⟨by rw [HW.out, szR, if_neg (by have := HN.out; have := HP.out; omega)]; rfl, hb2'⟩
      · obtain rfl : n = k := by omega
        go_wp2
        go_ret
        have e4 : left - ((n + wtP d xs n : Nat) : Int) = left - n - (wtP d xs n : Nat) := by omega
        exact ⟨by rw [HW.out, szR, if_pos (by omega), e4]; rfl, hbr⟩
  · go_enter Try.func28, Try.ntmps28
    go_wp2
    go_ret
    exact ⟨by rw [HW.out, szR, if_neg (by omega)]; rfl, Below.refl _ _⟩

theorem szS_all (d : Nat) : SzS d := by
  induction d with
  | zero => intro a n cap xs left w h; exact h.elim
  | succ d ih => exact szItemS_any d ih

end Go.Proofs.Ytckdikgbigkilab
