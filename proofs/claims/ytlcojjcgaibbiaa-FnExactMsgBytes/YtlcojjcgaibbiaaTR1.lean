import Derived.Test.YtlcojjcgaibbiaaW3
import Derived.Test.YtlcojjcgaibbiaaTT2
set_option linter.unusedVariables false
namespace Go.Proofs.Ytlcojjcgaibbiaa
open Go.RowKit

/-- A signer. -/
inductive ItT where
  | mk (ky at2 : Int) (sg : List Int) (over : List ItT)
instance : Inhabited ItT := ⟨.mk 0 0 [] []⟩
def ItT.ky : ItT → Int | .mk c _ _ _ => c
def ItT.at2 : ItT → Int | .mk _ t _ _ => t
def ItT.sg : ItT → List Int | .mk _ _ b _ => b
def ItT.over : ItT → List ItT | .mk _ _ _ k => k

/-- The value of an item: its five fields. -/
def itvT (x : ItT) (ab : Option Addr) (nb cb : Nat) (ak : Option Addr) (nk ck : Nat) : Value := .agg #[.int .u64 x.ky, .int .i64 x.at2, .slice ab nb cb, .slice ak nk ck]

/-- The slice at a reads as these items, none deeper than d. -/
def KidsT : Nat → World → Option Addr → Nat → List ItT → Prop
  | 0, _, _, _, _ => False
  | d + 1, w, a, n, xs => xs.length = n ∧ n ≤ 9223372036854775807 ∧ ∀ k, k < n → ∃ b off, a = some ⟨b, off, none⟩ ∧ b < w.heap.size ∧ ∃ ab nb cb ak nk ck,
      w.cell? ⟨b, off + k * 4, none⟩ = some (.int .u64 (xs.getD k default).ky) ∧ w.cell? ⟨b, off + k * 4 + 1, none⟩ = some (.int .i64 (xs.getD k default).at2)
      ∧ w.cell? ⟨b, off + k * 4 + 2, none⟩ = some (.slice ab nb cb) ∧ w.cell? ⟨b, off + k * 4 + 3, none⟩ = some (.slice ak nk ck)
      ∧ Row w ab nb (xs.getD k default).sg ∧ ((ab = none → cb = 0) ∧ nb ≤ cb) ∧ nb ≤ 9223372036854775807 ∧ U64 (xs.getD k default).ky ∧ KidsT d w ak nk (xs.getD k default).over

theorem KidsT.kept {d : Nat} : ∀ {w w' : World} {a : Option Addr} {n : Nat} {xs : List ItT}, KidsT d w a n xs → Below w.heap.size w w' → KidsT d w' a n xs := by
  induction d with
  | zero => intro _ _ _ _ _ h; exact h.elim
  | succ d ih =>
    intro w w' a n xs h hb
    refine ⟨h.1, h.2.1, fun k hk => ?_⟩
    obtain ⟨b, off, ha, hlt, ab, nb, cb, ak, nk, ck, c0, c1, c3, c4, hr, hn, hm, hu, hk⟩ := h.2.2 k hk
    have cc : ∀ j, w'.cell? ⟨b, j, none⟩ = w.cell? ⟨b, j, none⟩ := fun j => hb.cell (p := ⟨b, j, none⟩) hlt
    exact ⟨b, off, ha, Nat.lt_of_lt_of_le hlt hb.size, ab, nb, cb, ak, nk, ck, (cc _).trans c0, (cc _).trans c1, (cc _).trans c3, (cc _).trans c4, hr.kept hb, hn, hm, hu, ih hk hb⟩

/-- How much an item weighs: its bytes, its kids, and what they weigh. -/
def wtST : Nat → List ItT → Nat
  | 0, _ => 0
  | d + 1, xs => xs.length + (xs.map fun x => x.sg.length + wtST d x.over).sum
def szRT (t : Nat) (left : Int) : Int := if (t : Int) ≤ left then left - t else -1

set_option maxRecDepth 10000 in
set_option maxHeartbeats 400000 in
theorem szByteS_anyT (a : Option Addr) (n cap : Nat) (left : Int) (w : World) (hn : n ≤ 9223372036854775807) (h0 : 0 ≤ left) (h1 : left ≤ 1048576) :
    Calls Try.prog 13 #[.slice a n cap, .int .i64 left] w fun e w' => e = .returned (.int .i64 (szRT n left)) ∧ w = w' := by
  by_cases hlt : (n : Int) ≤ left
  · go_enter Try.func13, Try.ntmps13
    go_wp2
    go_ret
    exact ⟨by rw [szRT, if_pos hlt]; rfl, rfl⟩
  · go_enter Try.func13, Try.ntmps13
    go_wp2
    go_ret
    exact ⟨by rw [szRT, if_neg (by omega)]; rfl, rfl⟩

def SzST (d : Nat) : Prop := ∀ (a : Option Addr) (n cap : Nat) (xs : List ItT) (left : Int) (w : World), KidsT d w a n xs → 0 ≤ left → left ≤ 1048576 →
    Calls Try.prog 14 #[.slice a n cap, .int .i64 left] w fun e w' => e = .returned (.int .i64 (szRT (wtST d xs) left)) ∧ Below w.heap.size w w'

set_option maxRecDepth 10000 in
set_option maxHeartbeats 1000000 in
theorem szSigner_anyT (d : Nat) (ih : SzST d) (x : ItT) (ab : Option Addr) (nb cb : Nat) (ak : Option Addr) (nk ck : Nat) (left : Int) (w : World) (hb : nb ≤ 9223372036854775807) (hk : KidsT d w ak nk x.over) (h0 : 0 ≤ left) (h1 : left ≤ 1048576) :
    Calls Try.prog 31 #[itvT x ab nb cb ak nk ck, .int .i64 left] w fun e w' => e = .returned (.int .i64 (szRT (nb + wtST d x.over) left)) ∧ Below w.heap.size w w' := by
  have HK : Hid (KidsT d w ak nk x.over) := hk
  clear hk
  unfold itvT
  go_enter Try.func31, Try.ntmps31
  go_wp2_with fail
  refine (szByteS_anyT ab nb cb left _ hb h0 h1).mono ?_
  rintro e w1 ⟨rfl, rfl⟩
  have hbl : Below w.heap.size w (w.alloc (.cells #[.int .u64 x.ky, .int .i64 x.at2, .slice ab nb cb, .slice ak nk ck] 65)) := (Below.refl _ _).alloc (Nat.le_refl _) _
  by_cases hlt : (nb : Int) ≤ left
  · have e1 : szRT nb left = left - nb := by rw [szRT, if_pos hlt]
    have e2 : szRT (nb + wtST d x.over) left = szRT (wtST d x.over) (left - nb) := by unfold szRT; split <;> split <;> omega
    rw [e1]
    have hl0 : 0 ≤ left - nb := by omega
    clear e1
    go_wp2_with fail
    refine (ih ak nk ck x.over (left - nb) _ (HK.out.kept hbl) (by omega) (by omega)).mono ?_
    rintro e w2 ⟨rfl, hb2⟩
    have E2 : Hid (szRT (nb + wtST d x.over) left = szRT (wtST d x.over) (left - nb)) := e2
    have hb2' : Below w.heap.size w w2 := hbl.trans (hb2.mono (by simp))
    clear e2
    by_cases hl2 : ((wtST d x.over : Nat) : Int) ≤ left - nb
    · have e3 : szRT (wtST d x.over) (left - nb) = left - nb - (wtST d x.over : Nat) := by rw [szRT, if_pos hl2]
      have E3 : Hid (szRT (wtST d x.over) (left - nb) = left - nb - (wtST d x.over : Nat)) := e3
      rw [e3]
      clear e3
      go_wp2
      go_ret
      exact ⟨by rw [E2.out, E3.out]; rfl, hb2'⟩
    · have e3 : szRT (wtST d x.over) (left - nb) = -1 := by rw [szRT, if_neg hl2]
      have E3 : Hid (szRT (wtST d x.over) (left - nb) = -1) := e3
      rw [e3]
      clear e3
      go_wp2
      go_ret
      exact ⟨by rw [E2.out, E3.out]; rfl, hb2'⟩
  · have e1 : szRT nb left = -1 := by rw [szRT, if_neg hlt]
    rw [e1]
    clear e1
    go_wp2
    go_ret
    exact ⟨by rw [szRT, if_neg (by omega)]; rfl, hbl⟩

/-- What the first k of them weigh. -/
def wtPT (d : Nat) (xs : List ItT) (k : Nat) : Nat := ((xs.take k).map fun x => x.sg.length + wtST d x.over).sum
theorem wtP_nextT (d : Nat) (xs : List ItT) (k : Nat) (h : k < xs.length) : wtPT d xs (k + 1) = wtPT d xs k + ((xs.getD k default).sg.length + wtST d (xs.getD k default).over) := by
  have e : xs.getD k default = xs[k] := by simp [h]
  unfold wtPT
  rw [List.take_succ_eq_append_getElem h, List.map_append, List.sum_append, e]
  simp
theorem wtP_leT (d : Nat) (xs : List ItT) (k : Nat) : wtPT d xs k ≤ wtPT d xs xs.length := by
  unfold wtPT
  rw [List.take_length]
  conv => rhs; rw [← List.take_append_drop k xs, List.map_append, List.sum_append]
  omega
theorem wtS_succT (d : Nat) (xs : List ItT) : wtST (d + 1) xs = xs.length + wtPT d xs xs.length := by
  unfold wtPT
  rw [List.take_length]
  rfl

set_option maxRecDepth 10000 in
set_option maxHeartbeats 1000000 in
theorem szSignerS_anyT (d : Nat) (ih : SzST d) : SzST (d + 1) := by
  intro a n cap xs left w hk h0 h1
  have HK : Hid (KidsT (d + 1) w a n xs) := hk
  have hlen : Hid (xs.length = n) := hk.1
  have hn := hk.2.1
  have HW : Hid (wtST (d + 1) xs = n + wtPT d xs n) := by show _ = _; rw [wtS_succT, hlen.out]
  clear hk
  by_cases hlt : (n : Int) ≤ left
  · go_enter Try.func14, Try.ntmps14
    go_wp2
    go_loopw [1, 5] (fun l i wr => ∃ k : Nat, k ≤ n ∧ i = .int .i64 k ∧ l = .int .i64 (left - n - (wtPT d xs k : Nat)) ∧ 0 ≤ left - n - (wtPT d xs k : Nat) ∧ Below w.heap.size w wr) (fun _ i _ => n - (intOf i).toNat)
    case atStart => exact ⟨0, Nat.zero_le _, rfl, by simp [wtPT], by simp [wtPT]; omega, Below.refl _ _⟩
    case round =>
      obtain ⟨k, hk, rfl, rfl, hpos, hbr⟩ := hrel
      by_cases hkn : k < n
      · obtain ⟨b, off, rfl, hlb, ab, nb, cb, ak, nk, ck, c0, c1, c3, c4, hr, hnil, hnb, hu, hkk⟩ := HK.out.2.2 k hkn
        obtain ⟨y, hy⟩ : ∃ y, y = xs.getD k default := ⟨_, rfl⟩
        rw [← hy] at c0 c1 hr hkk
        have cc : ∀ j, wr.cell? ⟨b, j, none⟩ = w.cell? ⟨b, j, none⟩ := fun j => hbr.cell (p := ⟨b, j, none⟩) hlb
        rw [← cc] at c0 c1 c3 c4
        have hkni : (k : Int) < (n : Int) := by omega
        have HY : Hid (y = xs.getD k default) := hy
        have HN : Hid (wtPT d xs (k + 1) = wtPT d xs k + (nb + wtST d y.over)) := by show _ = _; rw [wtP_nextT d xs k (by have := hlen.out; omega), ← hy, hr.len]
        clear cc hy
        have hs := hbr.size
        obtain ⟨p, hp⟩ : ∃ p, p = wtPT d xs k := ⟨_, rfl⟩
        rw [← hp] at hpos ⊢
        have HP : Hid (p = wtPT d xs k) := hp
        clear hp
        go_wp2_with fail
        refine (szSigner_anyT d ih y ab nb cb ak nk ck (left - n - p) _ hnb (hkk.kept hbr) hpos (by omega)).mono ?_
        rintro e w2 ⟨rfl, hb2⟩
        have hb2' : Below w.heap.size w w2 := hbr.trans (hb2.mono hs)
        by_cases hl2 : ((nb + wtST d y.over : Nat) : Int) ≤ left - n - p
        · have e3 : szRT (nb + wtST d y.over) (left - n - p) = left - n - (wtPT d xs (k + 1) : Nat) := by rw [szRT, if_pos hl2, HN.out, ← HP.out]; omega
          have hq : 0 ≤ left - n - (wtPT d xs (k + 1) : Nat) := by rw [HN.out, ← HP.out]; omega
          rw [e3]
          clear e3
          go_wp2
          go_roundw
          case rel => exact ⟨k + 1, by omega, by go_num, rfl, hq, hb2'⟩
          case measure => simp [intOf]; omega
        · have e3 : szRT (nb + wtST d y.over) (left - n - p) = -1 := by rw [szRT, if_neg hl2]
          rw [e3]
          clear e3
          go_wp2
          go_ret
          have hw := wtP_leT d xs (k + 1)
          rw [hlen.out] at hw
          exact ⟨by rw [HW.out, szRT, if_neg (by have := HN.out; have := HP.out; omega)]; rfl, hb2'⟩
      · obtain rfl : n = k := by omega
        go_wp2
        go_ret
        have e4 : left - ((n + wtPT d xs n : Nat) : Int) = left - n - (wtPT d xs n : Nat) := by omega
        exact ⟨by rw [HW.out, szRT, if_pos (by omega), e4]; rfl, hbr⟩
  · go_enter Try.func14, Try.ntmps14
    go_wp2
    go_ret
    exact ⟨by rw [HW.out, szRT, if_neg (by omega)]; rfl, Below.refl _ _⟩

theorem szS_allT (d : Nat) : SzST d := by
  induction d with
  | zero => intro a n cap xs left w h; exact h.elim
  | succ d ih => exact szSignerS_anyT d ih

end Go.Proofs.Ytlcojjcgaibbiaa
