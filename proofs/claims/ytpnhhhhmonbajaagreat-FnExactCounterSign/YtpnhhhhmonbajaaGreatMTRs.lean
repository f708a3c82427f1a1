import Derived.Test.YtpnhhhhmonbajaaGreatW3
import Derived.Test.YtpnhhhhmonbajaaGreatTT2
import Derived.Test.YtpnhhhhmonbajaaGreatTouch
import Derived.Handy
import Derived.Deep.RegionWith
import Derived.Test.YtpnhhhhmonbajaaGreatW2
set_option linter.unusedVariables false
namespace Go.Proofs.YtpnhhhhmonbajaaGreat
open Go.RowKit

/-- A signer. -/
inductive ItT where
  | mk (ky at2 : Int) (sg : List Int) (over : List ItT)
instance : Inhabited ItT := ⟨.mk 0 0 [] []⟩
def ItT.ky : ItT → Int | .mk c _ _ _ => c
def ItT.at2 : ItT → Int | .mk _ t _ _ => t
def ItT.sg : ItT → List Int | .mk _ _ b _ => b
def ItT.over : ItT → List ItT | .mk _ _ _ k => k

/-- The value of an item: its five fields. -/
def itvT (x : ItT) (ab : Option Addr) (nb cb : Nat) (ak : Option Addr) (nk ck : Nat) : Value := .agg #[.int .u64 x.ky, .int .i64 x.at2, .slice ab nb cb, .slice ak nk ck]

/-- The slice at a reads as these items, none deeper than d. -/
def KidsT : Nat → World → Option Addr → Nat → List ItT → Prop
  | 0, _, _, _, _ => False
  | d + 1, w, a, n, xs => xs.length = n ∧ n ≤ 9223372036854775807 ∧ ∀ k, k < n → ∃ b off, a = some ⟨b, off, none⟩ ∧ b < w.heap.size ∧ ∃ ab nb cb ak nk ck,
      w.cell? ⟨b, off + k * 4, none⟩ = some (.int .u64 (xs.getD k default).ky) ∧ w.cell? ⟨b, off + k * 4 + 1, none⟩ = some (.int .i64 (xs.getD k default).at2)
      ∧ w.cell? ⟨b, off + k * 4 + 2, none⟩ = some (.slice ab nb cb) ∧ w.cell? ⟨b, off + k * 4 + 3, none⟩ = some (.slice ak nk ck)
      ∧ Row w ab nb (xs.getD k default).sg ∧ ((ab = none → cb = 0) ∧ nb ≤ cb) ∧ nb ≤ 9223372036854775807 ∧ U64 (xs.getD k default).ky ∧ KidsT d w ak nk (xs.getD k default).over

theorem KidsT.kept {d : Nat} : ∀ {w w' : World} {a : Option Addr} {n : Nat} {xs : List ItT}, KidsT d w a n xs → Below w.heap.size w w' → KidsT d w' a n xs := by
  induction d with
  | zero => intro _ _ _ _ _ h; exact h.elim
  | succ d ih =>
    intro w w' a n xs h hb
    refine ⟨h.1, h.2.1, fun k hk => ?_⟩
    obtain ⟨b, off, ha, hlt, ab, nb, cb, ak, nk, ck, c0, c1, c3, c4, hr, hn, hm, hu, hk⟩ := h.2.2 k hk
    have cc : ∀ j, w'.cell? ⟨b, j, none⟩ = w.cell? ⟨b, j, none⟩ := fun j => hb.cell (p := ⟨b, j, none⟩) hlt
    exact ⟨b, off, ha, Nat.lt_of_lt_of_le hlt hb.size, ab, nb, cb, ak, nk, ck, (cc _).trans c0, (cc _).trans c1, (cc _).trans c3, (cc _).trans c4, hr.kept hb, hn, hm, hu, ih hk hb⟩

/-- How much an item weighs: its bytes, its kids, and what they weigh. -/
def wtST : Nat → List ItT → Nat
  | 0, _ => 0
  | d + 1, xs => xs.length + (xs.map fun x => x.sg.length + wtST d x.over).sum
def szRT (t : Nat) (left : Int) : Int := if (t : Int) ≤ left then left - t else -1

set_option maxRecDepth 10000 in
set_option maxHeartbeats 400000 in
theorem szByteS_anyT (a : Option Addr) (n cap : Nat) (left : Int) (w : World) (hn : n ≤ 9223372036854775807) (h0 : 0 ≤ left) (h1 : left ≤ 1048576) :
    Calls Tryz.prog 13 #[.slice a n cap, .int .i64 left] w fun e w' => e = .returned (.int .i64 (szRT n left)) ∧ w = w' := by
  by_cases hlt : (n : Int) ≤ left
  · go_enter Tryz.func13, Tryz.ntmps13
    go_wp2
    go_ret
    exact ⟨by rw [szRT, if_pos hlt]; rfl, rfl⟩
  · go_enter Tryz.func13, Tryz.ntmps13
    go_wp2
    go_ret
    exact ⟨by rw [szRT, if_neg (by omega)]; rfl, rfl⟩

def SzST (d : Nat) : Prop := ∀ (a : Option Addr) (n cap : Nat) (xs : List ItT) (left : Int) (w : World), KidsT d w a n xs → 0 ≤ left → left ≤ 1048576 →
    Calls Tryz.prog 14 #[.slice a n cap, .int .i64 left] w fun e w' => e = .returned (.int .i64 (szRT (wtST d xs) left)) ∧ Below w.heap.size w w'

set_option maxRecDepth 10000 in
set_option maxHeartbeats 1000000 in
theorem szSigner_anyT (d : Nat) (ih : SzST d) (x : ItT) (ab : Option Addr) (nb cb : Nat) (ak : Option Addr) (nk ck : Nat) (left : Int) (w : World) (hb : nb ≤ 9223372036854775807) (hk : KidsT d w ak nk x.over) (h0 : 0 ≤ left) (h1 : left ≤ 1048576) :
    Calls Tryz.prog 34 #[itvT x ab nb cb ak nk ck, .int .i64 left] w fun e w' => e = .returned (.int .i64 (szRT (nb + wtST d x.over) left)) ∧ Below w.heap.size w w' := by
  have HK : Hid (KidsT d w ak nk x.over) := hk
  clear hk
  unfold itvT
  go_enter Tryz.func34, Tryz.ntmps34
  go_wp2_with fail
  refine (szByteS_anyT ab nb cb left _ hb h0 h1).mono ?_
  rintro e w1 ⟨rfl, rfl⟩
  have hbl : Below w.heap.size w (w.alloc (.cells #[.int .u64 x.ky, .int .i64 x.at2, .slice ab nb cb, .slice ak nk ck] 62)) := (Below.refl _ _).alloc (Nat.le_refl _) _
  by_cases hlt : (nb : Int) ≤ left
  · have e1 : szRT nb left = left - nb := by rw [szRT, if_pos hlt]
    have e2 : szRT (nb + wtST d x.over) left = szRT (wtST d x.over) (left - nb) := by unfold szRT; split <;> split <;> omega
    rw [e1]
    have hl0 : 0 ≤ left - nb := by omega
    clear e1
    go_wp2_with fail
    refine (ih ak nk ck x.over (left - nb) _ (HK.out.kept hbl) (by omega) (by omega)).mono ?_
    rintro e w2 ⟨rfl, hb2⟩
    have E2 : Hid (szRT (nb + wtST d x.over) left = szRT (wtST d x.over) (left - nb)) := e2
    have hb2' : Below w.heap.size w w2 := hbl.trans (hb2.mono (by simp))
    clear e2
    by_cases hl2 : ((wtST d x.over : Nat) : Int) ≤ left - nb
    · have e3 : szRT (wtST d x.over) (left - nb) = left - nb - (wtST d x.over : Nat) := by rw [szRT, if_pos hl2]
      have E3 : Hid (szRT (wtST d x.over) (left - nb) = left - nb - (wtST d x.over : Nat)) := e3
      rw [e3]
      clear e3
      go_wp2
      go_ret
      exact ⟨by rw [E2.out, E3.out]; rfl, hb2'⟩
    · have e3 : szRT (wtST d x.over) (left - nb) = -1 := by rw [szRT, if_neg hl2]
      have E3 : Hid (szRT (wtST d x.over) (left - nb) = -1) := e3
      rw [e3]
      clear e3
      go_wp2
      go_ret
      exact ⟨by rw [E2.out, E3.out]; rfl, hb2'⟩
  · have e1 : szRT nb left = -1 := by rw [szRT, if_neg hlt]
    rw [e1]
    clear e1
    go_wp2
    go_ret
    exact ⟨by rw [szRT, if_neg (by omega)]; rfl, hbl⟩

/-- What the first k of them weigh. -/
def wtPT (d : Nat) (xs : List ItT) (k : Nat) : Nat := ((xs.take k).map fun x => x.sg.length + wtST d x.over).sum
theorem wtP_nextT (d : Nat) (xs : List ItT) (k : Nat) (h : k < xs.length) : wtPT d xs (k + 1) = wtPT d xs k + ((xs.getD k default).sg.length + wtST d (xs.getD k default).over) := by
  have e : xs.getD k default = xs[k] := by simp [h]
  unfold wtPT
  rw [List.take_succ_eq_append_getElem h, List.map_append, List.sum_append, e]
  simp
theorem wtP_leT (d : Nat) (xs : List ItT) (k : Nat) : wtPT d xs k ≤ wtPT d xs xs.length := by
  unfold wtPT
  rw [List.take_length]
  conv => rhs; rw [← List.take_append_drop k xs, List.map_append, List.sum_append]
  omega
theorem wtS_succT (d : Nat) (xs : List ItT) : wtST (d + 1) xs = xs.length + wtPT d xs xs.length := by
  unfold wtPT
  rw [List.take_length]
  rfl

set_option maxRecDepth 10000 in
set_option maxHeartbeats 1000000 in
theorem szSignerS_anyT (d : Nat) (ih : SzST d) : SzST (d + 1) := by
  intro a n cap xs left w hk h0 h1
  have HK : Hid (KidsT (d + 1) w a n xs) := hk
  have hlen : Hid (xs.length = n) := hk.1
  have hn := hk.2.1
  have HW : Hid (wtST (d + 1) xs = n + wtPT d xs n) := by show _ = _; rw [wtS_succT, hlen.out]
  clear hk
  by_cases hlt : (n : Int) ≤ left
  · go_enter Tryz.func14, Tryz.ntmps14
    go_wp2
    go_loopw [1, 5] (fun l i wr => ∃ k : Nat, k ≤ n ∧ i = .int .i64 k ∧ l = .int .i64 (left - n - (wtPT d xs k : Nat)) ∧ 0 ≤ left - n - (wtPT d xs k : Nat) ∧ Below w.heap.size w wr) (fun _ i _ => n - (intOf i).toNat)
    case atStart => exact ⟨0, Nat.zero_le _, rfl, by simp [wtPT], by simp [wtPT]; omega, Below.refl _ _⟩
    case round =>
      obtain ⟨k, hk, rfl, rfl, hpos, hbr⟩ := hrel
      by_cases hkn : k < n
      · obtain ⟨b, off, rfl, hlb, ab, nb, cb, ak, nk, ck, c0, c1, c3, c4, hr, hnil, hnb, hu, hkk⟩ := HK.out.2.2 k hkn
        obtain ⟨y, hy⟩ : ∃ y, y = xs.getD k default := ⟨_, rfl⟩
        rw [← hy] at c0 c1 hr hkk
        have cc : ∀ j, wr.cell? ⟨b, j, none⟩ = w.cell? ⟨b, j, none⟩ := fun j => hbr.cell (p := ⟨b, j, none⟩) hlb
        rw [← cc] at c0 c1 c3 c4
        have hkni : (k : Int) < (n : Int) := by omega
        have HY : Hid (y = xs.getD k default) := hy
        have HN : Hid (wtPT d xs (k + 1) = wtPT d xs k + (nb + wtST d y.over)) := by show _ = _; rw [wtP_nextT d xs k (by have := hlen.out; omega), ← hy, hr.len]
        clear cc hy
        have hs := hbr.size
        obtain ⟨p, hp⟩ : ∃ p, p = wtPT d xs k := ⟨_, rfl⟩
        rw [← hp] at hpos ⊢
        have HP : Hid (p = wtPT d xs k) := hp
        clear hp
        go_wp2_with fail
        refine (szSigner_anyT d ih y ab nb cb ak nk ck (left - n - p) _ hnb (hkk.kept hbr) hpos (by omega)).mono ?_
        rintro e w2 ⟨rfl, hb2⟩
        have hb2' : Below w.heap.size w w2 := hbr.trans (hb2.mono hs)
        by_cases hl2 : ((nb + wtST d y.over : Nat) : Int) ≤ left - n - p
        · have e3 : szRT (nb + wtST d y.over) (left - n - p) = left - n - (wtPT d xs (k + 1) : Nat) := by rw [szRT, if_pos hl2, HN.out, ← HP.out]; omega
          have hq : 0 ≤ left - n - (wtPT d xs (k + 1) : Nat) := by rw [HN.out, ← HP.out]; omega
          rw [e3]
          clear e3
          go_wp2
          go_roundw
          case rel => exact ⟨k + 1, by omega, by go_num, rfl, hq, hb2'⟩
          case measure => simp [intOf]; omega
        · have e3 : szRT (nb + wtST d y.over) (left - n - p) = -1 := by rw [szRT, if_neg hl2]
          rw [e3]
          clear e3
          go_wp2
          go_ret
          have hw := wtP_leT d xs (k + 1)
          rw [hlen.out] at hw
          exact ⟨by rw [HW.out, szRT, if_neg (by have := HN.out; have := HP.out; omega)]; rfl, hb2'⟩
      · obtain rfl : n = k := by omega
        go_wp2
        go_ret
        have e4 : left - ((n + wtPT d xs n : Nat) : Int) = left - n - (wtPT d xs n : Nat) := by omega
        exact ⟨by rw [HW.out, szRT, if_pos (by omega), e4]; rfl, hbr⟩
  · go_enter Tryz.func14, Tryz.ntmps14
    go_wp2
    go_ret
    exact ⟨by rw [HW.out, szRT, if_neg (by omega)]; rfl, Below.refl _ _⟩

theorem szS_allT (d : Nat) : SzST d := by
  induction d with
  | zero => intro a n cap xs left w h; exact h.elim
  | succ d ih => exact szSignerS_anyT d ih

end Go.Proofs.YtpnhhhhmonbajaaGreat

set_option linter.unusedVariables false
namespace Go.Proofs.YtpnhhhhmonbajaaGreat
open Go.RowKit

/-- Bytes of our own, between lo and hi. -/
structure OwnBT (lo hi : Nat) (w : World) (a : Option Addr) (n cap : Nat) (bs : List Int) : Prop where
  own : Own lo w a n cap bs
  lt : ∀ x, a = some x → x.block < hi

theorem own_capT {B : Nat} {w : World} {a : Option Addr} {n cap : Nat} {bs : List Int} (h : Own B w a n cap bs) : n ≤ cap := by
  rcases h.row.2 with ⟨hv, h0⟩ | ⟨g, cap', cur, hv, _, _, hc, hm, _⟩
  · omega
  · simp only [Value.slice.injEq] at hv; omega
theorem Own.maxT {B : Nat} {w : World} {a : Option Addr} {n cap : Nat} {bs : List Int} (h : Own B w a n cap bs) : n ≤ 9223372036854775807 := by
  rcases h.row.2 with ⟨_, h0⟩ | ⟨g, cap', cur, _, _, _, hc, hm, _⟩
  · omega
  · unfold maxLen at hm; omega
theorem Own.ownBT {B : Nat} {w : World} {a : Option Addr} {n cap : Nat} {bs : List Int} (h : Own B w a n cap bs) : OwnBT B w.heap.size w a n cap bs := by
  refine ⟨h, fun x hx => ?_⟩
  rcases h.row.2 with ⟨hv, _⟩ | ⟨g, cap', cur, hv, _, hg, _⟩
  · simp only [Value.slice.injEq] at hv; rw [hv.1] at hx; cases hx
  · simp only [Value.slice.injEq] at hv; rw [hv.1] at hx; cases hx; exact (Array.getElem?_eq_some_iff.1 hg).1

theorem OwnBT.touch {lo hi p q : Nat} {w w' : World} {a : Option Addr} {n cap : Nat} {bs : List Int} (h : OwnBT lo hi w a n cap bs) (hd : hi ≤ p ∨ q ≤ lo) (ht : Touch p q w w') : OwnBT lo hi w' a n cap bs := by
  refine ⟨⟨⟨h.own.row.1, ?_⟩, h.own.byte⟩, h.lt⟩
  rcases h.own.row.2 with hn' | ⟨g, cap', cur, hv, hbb, hgg, rest⟩
  · exact .inl hn'
  · simp only [Value.slice.injEq] at hv
    obtain ⟨rfl, _, rfl⟩ := hv
    have hp := h.lt _ rfl
    simp at hp
    exact .inr ⟨g, cap, cur, rfl, hbb, (ht.block g (Array.getElem?_eq_some_iff.1 hgg).1 (by omega)).trans hgg, rest⟩
theorem OwnBT.kept {lo hi : Nat} {w w' : World} {a : Option Addr} {n cap : Nat} {bs : List Int} (h : OwnBT lo hi w a n cap bs) (hb : Below w.heap.size w w') : OwnBT lo hi w' a n cap bs := ⟨h.own.kept hb, h.lt⟩

/-- The first i of the items xs lie in the row g, what hangs on them between lo and hi. -/
def OwnPreT (K : Nat → Nat → World → Option Addr → Nat → List ItT → Prop) (lo hi : Nat) (w : World) (g i : Nat) (xs : List ItT) : Prop :=
  ∃ L H : Nat → Nat, (∀ k, k < i → lo ≤ L k ∧ L k ≤ H k ∧ H k ≤ hi ∧ (g < L k ∨ H k ≤ g)) ∧ (∀ j k, j < k → k < i → H j ≤ L k) ∧
    ∀ k, k < i → ∃ ab nb cb ak nk ck M, w.cell? ⟨g, k * 4, none⟩ = some (.int .u64 (xs.getD k default).ky) ∧ w.cell? ⟨g, k * 4 + 1, none⟩ = some (.int .i64 (xs.getD k default).at2)
      ∧ w.cell? ⟨g, k * 4 + 2, none⟩ = some (.slice ab nb cb) ∧ w.cell? ⟨g, k * 4 + 3, none⟩ = some (.slice ak nk ck)
      ∧ L k ≤ M ∧ M ≤ H k ∧ U64 (xs.getD k default).ky ∧ OwnBT (L k) M w ab nb cb (xs.getD k default).sg ∧ K M (H k) w ak nk (xs.getD k default).over

/-- The slice at a holds the items xs, all of it our own memory, between lo and hi; no two parts share any. -/
def OwnKidsT : Nat → Nat → Nat → World → Option Addr → Nat → List ItT → Prop
  | 0, _, _, _, _, _, _ => False
  | d + 1, lo, hi, w, a, n, xs => xs.length = n ∧ n ≤ 9223372036854775807 ∧ (n = 0 ∨ ∃ g cap vs, a = some ⟨g, 0, none⟩ ∧ lo ≤ g ∧ g < hi ∧ w.ownsRow lo 47 4 (.slice a n cap) n vs ∧ OwnPreT (OwnKidsT d) lo hi w g n xs)

def MovesT (K : Nat → Nat → World → Option Addr → Nat → List ItT → Prop) : Prop := ∀ lo hi p q w w' a n xs, K lo hi w a n xs → hi ≤ p ∨ q ≤ lo → Touch p q w w' → K lo hi w' a n xs

theorem OwnPreT.move {K : Nat → Nat → World → Option Addr → Nat → List ItT → Prop} (hK : MovesT K) {lo hi p q : Nat} {w w' : World} {g i : Nat} {xs : List ItT} (h : OwnPreT K lo hi w g i xs)
    (hc : ∀ j, j < i * 4 → w'.cell? ⟨g, j, none⟩ = w.cell? ⟨g, j, none⟩) (hd : (hi ≤ p ∨ q ≤ lo) ∨ (p = g ∧ q = g + 1)) (ht : Touch p q w w') : OwnPreT K lo hi w' g i xs := by
  obtain ⟨L, H, h1, h2, h3⟩ := h
  refine ⟨L, H, h1, h2, fun k hk => ?_⟩
  obtain ⟨ab, nb, cb, ak, nk, ck, M, c0, c1, c3, c4, m1, m2, hu, ob, ok⟩ := h3 k hk
  have hb := h1 k hk
  exact ⟨ab, nb, cb, ak, nk, ck, M, (hc _ (by omega)).trans c0, (hc _ (by omega)).trans c1, (hc _ (by omega)).trans c3, (hc _ (by omega)).trans c4, m1, m2, hu,
    ob.touch (by omega) ht, hK _ _ _ _ _ _ _ _ _ ok (by omega) ht⟩

theorem ownKids_movesT (d : Nat) : MovesT (OwnKidsT d) := by
  induction d with
  | zero => intro _ _ _ _ _ _ _ _ _ h; exact h.elim
  | succ d ih =>
    intro lo hi p q w w' a n xs h hd ht
    refine ⟨h.1, h.2.1, ?_⟩
    rcases h.2.2 with h0 | ⟨g, cap, vs, rfl, g1, g2, hr, hp⟩
    · exact .inl h0
    · have hlt := (hr.lt g rfl).2
      have hblk : w'.heap[g]? = w.heap[g]? := ht.block g hlt (by omega)
      refine .inr ⟨g, cap, vs, rfl, g1, g2, ⟨hr.1, ?_⟩, hp.move ih (fun j _ => World.cell?_of_block (a := ⟨g, j, none⟩) hblk) (.inl hd) ht⟩
      rcases hr.2 with hn | ⟨g', cap', cur, hv, hbb, hgg, rest⟩
      · exact .inl hn
      · simp only [Value.slice.injEq, Option.some.injEq, Addr.mk.injEq, and_true, true_and] at hv
        obtain ⟨rfl, rfl⟩ := hv
        exact .inr ⟨g, cap, cur, rfl, hbb, hblk.trans hgg, rest⟩

theorem OwnKidsT.kept {d lo hi : Nat} {w w' : World} {a : Option Addr} {n : Nat} {xs : List ItT} (h : OwnKidsT d lo hi w a n xs) (hb : Below w.heap.size w w') : OwnKidsT d lo hi w' a n xs :=
  ownKids_movesT d lo hi hi hi w w' a n xs h (.inl (Nat.le_refl _)) (Touch.of_below hb)

theorem OwnKidsT.over {d : Nat} : ∀ {lo hi : Nat} {w : World} {a : Option Addr} {n : Nat} {xs : List ItT}, OwnKidsT d lo hi w a n xs → KidsT d w a n xs := by
  induction d with
  | zero => intro _ _ _ _ _ _ h; exact h.elim
  | succ d ih =>
    intro lo hi w a n xs h
    refine ⟨h.1, h.2.1, fun k hk => ?_⟩
    rcases h.2.2 with h0 | ⟨g, cap, vs, rfl, g1, g2, hr, L, H, h1, h2, h3⟩
    · omega
    · obtain ⟨ab, nb, cb, ak, nk, ck, M, c0, c1, c3, c4, m1, m2, hu, ob, ok⟩ := h3 k hk
      exact ⟨g, 0, rfl, (hr.lt g rfl).2, ab, nb, cb, ak, nk, ck, by rw [Nat.zero_add]; exact c0, by rw [Nat.zero_add]; exact c1, by rw [Nat.zero_add]; exact c3, by rw [Nat.zero_add]; exact c4, ob.own.toRow, ⟨ob.own.nil, own_capT ob.own⟩, ob.own.maxT, hu, ih ok⟩

theorem OwnPreT.more {K : Nat → Nat → World → Option Addr → Nat → List ItT → Prop} {lo hi s hi' M : Nat} {w : World} {g i : Nat} {xs : List ItT} (h : OwnPreT K lo hi w g i xs) (hs : hi ≤ s) (hg : g < s) (hlo : lo ≤ s) (m1 : s ≤ M) (m2 : M ≤ hi')
    {ab : Option Addr} {nb cb : Nat} {ak : Option Addr} {nk ck : Nat} (c0 : w.cell? ⟨g, i * 4, none⟩ = some (.int .u64 (xs.getD i default).ky)) (c1 : w.cell? ⟨g, i * 4 + 1, none⟩ = some (.int .i64 (xs.getD i default).at2))
    (c3 : w.cell? ⟨g, i * 4 + 2, none⟩ = some (.slice ab nb cb)) (c4 : w.cell? ⟨g, i * 4 + 3, none⟩ = some (.slice ak nk ck)) (hu : U64 (xs.getD i default).ky) (ob : OwnBT s M w ab nb cb (xs.getD i default).sg) (ok : K M hi' w ak nk (xs.getD i default).over) : OwnPreT K lo hi' w g (i + 1) xs := by
  obtain ⟨L, H, h1, h2, h3⟩ := h
  refine ⟨fun k => if k = i then s else L k, fun k => if k = i then hi' else H k, fun k hk => ?_, fun j k hjk hk => ?_, fun k hk => ?_⟩
  · by_cases hki : k = i
    · subst hki
      simp only [if_true]
      omega
    · have := h1 k (by omega)
      simp only [if_neg hki]
      omega
  · have hj := h1 j (by omega)
    simp only [if_neg (show j ≠ i by omega)]
    by_cases hki : k = i
    · simp only [if_pos hki]; omega
    · simp only [if_neg hki]; exact h2 j k hjk (by omega)
  · by_cases hki : k = i
    · subst hki
      simp only [if_true]
      exact ⟨ab, nb, cb, ak, nk, ck, M, c0, c1, c3, c4, m1, m2, hu, ob, ok⟩
    · simp only [if_neg hki]
      exact h3 k (by omega)
theorem ownPre_zeroT {K : Nat → Nat → World → Option Addr → Nat → List ItT → Prop} (lo hi : Nat) (w : World) (g : Nat) (xs : List ItT) : OwnPreT K lo hi w g 0 xs :=
  ⟨fun _ => 0, fun _ => 0, fun _ hk => absurd hk (Nat.not_lt_zero _), fun _ _ _ hk => absurd hk (Nat.not_lt_zero _), fun _ hk => absurd hk (Nat.not_lt_zero _)⟩

end Go.Proofs.YtpnhhhhmonbajaaGreat

set_option linter.unusedVariables false
namespace Go.Proofs.YtpnhhhhmonbajaaGreat
open Go.RowKit

theorem Tryz.infoItem : (Tryz.prog.info? 47).map (fun i => (i.zero, i.size, i.bytes)) = some (some (.agg #[.int .u64 0, .int .i64 0, .slice none 0 0, .slice none 0 0]), 4, 64) := by kernel_rfl

def ToST (d : Nat) : Prop := ∀ (a : Option Addr) (n cap : Nat) (xs : List ItT) (w : World), KidsT d w a n xs → wtST d xs ≤ 1048576 →
    Calls Tryz.prog 20 #[.slice a n cap] w fun e w' => ∃ a', e = .returned (.slice a' n n) ∧ OwnKidsT d w.heap.size w'.heap.size w' a' n xs ∧ Below w.heap.size w w'

/-- What toSigner answers. -/
def ToPostT (d : Nat) (x : ItT) (nb nk : Nat) (w : World) (e : Ending) (w' : World) : Prop :=
  ∃ ab ak M, e = .returned (itvT x ab nb nb ak nk nk) ∧ w.heap.size ≤ M ∧ M ≤ w'.heap.size ∧ OwnBT w.heap.size M w' ab nb nb x.sg ∧ OwnKidsT d M w'.heap.size w' ak nk x.over ∧ Below w.heap.size w w'

theorem alloc_oldTr (w : World) (o : Obj) (g : Nat) (hg : g < w.heap.size) : (w.alloc o).heap[g]? = w.heap[g]? := ((Below.refl w.heap.size w).alloc (Nat.le_refl _) o).block g hg
theorem three_blocksTr (w : World) (o0 o1 o2 : Obj) : (((w.alloc o0).alloc o1).alloc o2).heap[w.heap.size]? = some o0 ∧ (((w.alloc o0).alloc o1).alloc o2).heap[w.heap.size + 1]? = some o1 ∧ (((w.alloc o0).alloc o1).alloc o2).heap[w.heap.size + 2]? = some o2 := by
  have s1 : (w.alloc o0).heap.size = w.heap.size + 1 := by simp
  have s2 : ((w.alloc o0).alloc o1).heap.size = w.heap.size + 2 := by simp
  exact ⟨(alloc_oldTr _ o2 _ (by omega)).trans ((alloc_oldTr _ o1 _ (by omega)).trans (heap_alloc_new w o0)), (alloc_oldTr _ o2 _ (by omega)).trans (by rw [← s1]; exact heap_alloc_new _ o1), by rw [← s2]; exact heap_alloc_new _ o2⟩
theorem touch_setT {p q : Nat} (w : World) (g j : Nat) (u : Value) (h1 : p ≤ g) (h2 : g < q) : Touch p q w (w.setCell ⟨g, j, none⟩ u) :=
  ⟨rfl, rfl, rfl, by simp, fun k _ hk => heap_setCell_other w ⟨g, j, none⟩ k u (by simp; omega)⟩
theorem OwnBT.mono {lo hi lo' hi' : Nat} {w : World} {a : Option Addr} {n cap : Nat} {bs : List Int} (h : OwnBT lo hi w a n cap bs) (h1 : lo' ≤ lo) (h2 : hi ≤ hi') : OwnBT lo' hi' w a n cap bs := ⟨h.own.mono h1, fun x hx => Nat.lt_of_lt_of_le (h.lt x hx) h2⟩

theorem results_itemT {fn : Func} {t : Tmp} (h : fn.results = #[.cell t 47]) (tmps : Array Value) (g : Nat) (ht : tmps.getD t undef = .pointer (some ⟨g, 0, none⟩)) (w : World) (c0 c1 c3 c4 : Value)
    (hb : w.heap[g]? = some (.cells #[c0, c1, c3, c4] 47 (0, 0))) : (results fn tmps).run Tryz.prog w = .ok (.agg #[c0, c1, c3, c4]) w := by
  have d0 : w.cell? ⟨g, 0, none⟩ = some c0 := (cell_of_row _ g 0 _ 47 (0, 0) hb).trans rfl
  have d1 : w.cell? ⟨g, 1, none⟩ = some c1 := (cell_of_row _ g 1 _ 47 (0, 0) hb).trans rfl
  have d3 : w.cell? ⟨g, 2, none⟩ = some c3 := (cell_of_row _ g 2 _ 47 (0, 0) hb).trans rfl
  have d4 : w.cell? ⟨g, 3, none⟩ = some c4 := (cell_of_row _ g 3 _ 47 (0, 0) hb).trans rfl
  clear hb
  have ht' : tmps[t]?.getD undef = .pointer (some ⟨g, 0, none⟩) := by rw [← ht]; simp
  simp [results, h, go_sem, ht', d0, d1, d3, d4]

theorem heap_keptT {B : Nat} {w w' : World} (h : Below B w w') {g : Nat} (hg : g < B) {o : Obj} (e : w.heap[g]? = some o) : w'.heap[g]? = some o := (h.block g hg).trans e

set_option maxRecDepth 10000 in
set_option maxHeartbeats 1000000 in
theorem toSigner_anyT (d : Nat) (ih : ToST d) (x : ItT) (ab : Option Addr) (nb cb : Nat) (ak : Option Addr) (nk ck : Nat) (w : World) (hr : Row w ab nb x.sg) (hk : KidsT d w ak nk x.over) (hb : nb ≤ 1048576) (hw : wtST d x.over ≤ 1048576) :
    Calls Tryz.prog 42 #[itvT x ab nb cb ak nk ck] w fun e w' => ToPostT d x nb nk w e w' := by
  have HK : Hid (KidsT d w ak nk x.over) := hk
  have HR : Hid (Row w ab nb x.sg) := hr
  have HW : Hid (wtST d x.over ≤ 1048576) := hw
  clear hk hr hw
  unfold itvT
  go_enter Tryz.func42, Tryz.ntmps42
  go_wp2_with fail
  obtain ⟨W0, hW0⟩ : ∃ W0, W0 = (((w.alloc (.cells #[.int .u64 x.ky, .int .i64 x.at2, .slice ab nb cb, .slice ak nk ck] 62)).alloc (.cells #[.int .u64 0, .int .i64 0, .slice none 0 0, .slice none 0 0] 47)).alloc (.cells #[.int .u64 x.ky, .int .i64 x.at2, .slice none 0 0, .slice none 0 0] 47)) := ⟨_, rfl⟩
  have hB0 : Below w.heap.size w W0 := by rw [hW0]; exact (((Below.refl _ _).alloc (Nat.le_refl _) _).alloc (by simp) _).alloc (by simp; omega) _
  have hS0 : W0.heap.size = w.heap.size + 3 := by rw [hW0]; simp
  obtain ⟨b0, b1, b2⟩ := three_blocksTr w (.cells #[.int .u64 x.ky, .int .i64 x.at2, .slice ab nb cb, .slice ak nk ck] 62) (.cells #[.int .u64 0, .int .i64 0, .slice none 0 0, .slice none 0 0] 47) (.cells #[.int .u64 x.ky, .int .i64 x.at2, .slice none 0 0, .slice none 0 0] 47)
  rw [← hW0] at b0 b1 b2
  rw [← hW0]
  clear hW0
  refine (toByteS_any ab nb cb x.sg _ (HR.out.kept hB0) hb).mono ?_
  rintro e w1 ⟨a1, rfl, ho1, hb1⟩
  have hs1 := hb1.size
  replace b0 := heap_keptT hb1 (by omega) b0
  replace b1 := heap_keptT hb1 (by omega) b1
  replace b2 := heap_keptT hb1 (by omega) b2
  have hB1 : Below w.heap.size w w1 := hB0.trans (hb1.mono (by omega))
  have hB2 : Below w.heap.size w (w1.setCell ⟨w.heap.size + 1 + 1, 2, none⟩ (.slice a1 nb nb)) := hB1.setCell (by simp; omega) _
  have c23 : w1.cell? ⟨w.heap.size + 1 + 1, 2, none⟩ = some (.slice none 0 0) := (cell_of_row _ (w.heap.size + 1 + 1) 2 _ 47 (0, 0) b2).trans rfl
  have f23 : w1.frozen? ⟨w.heap.size + 1 + 1, 2, none⟩ = false := frozen_of_row w1 (w.heap.size + 1 + 1) 2 _ 47 b2
  have c04 : w1.cell? ⟨w.heap.size, 3, none⟩ = some (.slice ak nk ck) := (cell_of_row _ w.heap.size 3 _ 62 (0, 0) b0).trans rfl
  go_wp2_with fail
  have hsz : (w1.setCell ⟨w.heap.size + 1 + 1, 2, none⟩ (.slice a1 nb nb)).heap.size = w1.heap.size := by simp
  have t1 : Touch (w.heap.size + 1) (w.heap.size + 3) w1 (w1.setCell ⟨w.heap.size + 1 + 1, 2, none⟩ (.slice a1 nb nb)) := touch_setT w1 _ 2 _ (by omega) (by omega)
  have e2 : (w1.setCell ⟨w.heap.size + 1 + 1, 2, none⟩ (.slice a1 nb nb)).heap[w.heap.size + 2]? = some (.cells #[.int .u64 x.ky, .int .i64 x.at2, .slice a1 nb nb, .slice none 0 0] 47 (0, 0)) := (heap_setCell_same w1 (w.heap.size + 2) 2 _ 47 (.slice a1 nb nb) b2).trans rfl
  have e1 : (w1.setCell ⟨w.heap.size + 1 + 1, 2, none⟩ (.slice a1 nb nb)).heap[w.heap.size + 1]? = some (.cells #[.int .u64 0, .int .i64 0, .slice none 0 0, .slice none 0 0] 47 (0, 0)) := (heap_setCell_other w1 ⟨w.heap.size + 1 + 1, 2, none⟩ (w.heap.size + 1) (.slice a1 nb nb) (by simp)).trans b1
  clear b0 b1 b2 c23 f23 c04
  obtain ⟨W1, hW1⟩ : ∃ W1, W1 = w1.setCell ⟨w.heap.size + 1 + 1, 2, none⟩ (.slice a1 nb nb) := ⟨_, rfl⟩
  rw [← hW1] at hB2 hsz t1 e1 e2 ⊢
  clear hW1
  refine (ih ak nk ck x.over W1 (HK.out.kept (hB2.mono (Nat.le_refl _))) HW.out).mono ?_
  rintro e w2 ⟨a2, rfl, ho2, hb2⟩
  have hs2 := hb2.size
  replace e1 := heap_keptT hb2 (by omega) e1
  replace e2 := heap_keptT hb2 (by omega) e2
  have cr0 : w2.cell? ⟨w.heap.size + 1 + 1, 0, none⟩ = some (.int .u64 x.ky) := (cell_of_row _ (w.heap.size + 1 + 1) 0 _ 47 (0, 0) e2).trans rfl
  have cr1 : w2.cell? ⟨w.heap.size + 1 + 1, 1, none⟩ = some (.int .i64 x.at2) := (cell_of_row _ (w.heap.size + 1 + 1) 1 _ 47 (0, 0) e2).trans rfl
  have cr3 : w2.cell? ⟨w.heap.size + 1 + 1, 2, none⟩ = some (.slice a1 nb nb) := (cell_of_row _ (w.heap.size + 1 + 1) 2 _ 47 (0, 0) e2).trans rfl
  have cr4 : w2.cell? ⟨w.heap.size + 1 + 1, 3, none⟩ = some (.slice none 0 0) := (cell_of_row _ (w.heap.size + 1 + 1) 3 _ 47 (0, 0) e2).trans rfl
  have fr4 : w2.frozen? ⟨w.heap.size + 1 + 1, 3, none⟩ = false := frozen_of_row w2 (w.heap.size + 1 + 1) 3 _ 47 e2
  have cs0 : w2.cell? ⟨w.heap.size + 1, 0, none⟩ = some (.int .u64 0) := (cell_of_row _ (w.heap.size + 1) 0 _ 47 (0, 0) e1).trans rfl
  have cs1 : w2.cell? ⟨w.heap.size + 1, 1, none⟩ = some (.int .i64 0) := (cell_of_row _ (w.heap.size + 1) 1 _ 47 (0, 0) e1).trans rfl
  have cs3 : w2.cell? ⟨w.heap.size + 1, 2, none⟩ = some (.slice none 0 0) := (cell_of_row _ (w.heap.size + 1) 2 _ 47 (0, 0) e1).trans rfl
  have cs4 : w2.cell? ⟨w.heap.size + 1, 3, none⟩ = some (.slice none 0 0) := (cell_of_row _ (w.heap.size + 1) 3 _ 47 (0, 0) e1).trans rfl
  have fs0 : w2.frozen? ⟨w.heap.size + 1, 0, none⟩ = false := frozen_of_row w2 (w.heap.size + 1) 0 _ 47 e1
  have fs1 : w2.frozen? ⟨w.heap.size + 1, 1, none⟩ = false := frozen_of_row w2 (w.heap.size + 1) 1 _ 47 e1
  have fs3 : w2.frozen? ⟨w.heap.size + 1, 2, none⟩ = false := frozen_of_row w2 (w.heap.size + 1) 2 _ 47 e1
  have fs4 : w2.frozen? ⟨w.heap.size + 1, 3, none⟩ = false := frozen_of_row w2 (w.heap.size + 1) 3 _ 47 e1
  have E1 : Hid (_ = _) := e1
  clear e1 e2
  have ob1 : OwnBT W0.heap.size w1.heap.size w1 a1 nb nb x.sg := ho1.ownBT
  have OB : Hid (OwnBT W0.heap.size w1.heap.size w2 a1 nb nb x.sg) := (ob1.touch (.inr (by omega)) t1).kept hb2
  have OK : Hid (OwnKidsT d w1.heap.size w2.heap.size w2 a2 nk x.over) := by show OwnKidsT _ _ _ _ _ _ _; rw [← hsz]; exact ho2
  have HB3 : Hid (Below w.heap.size w w2) := hB2.trans (hb2.mono (by omega))
  clear ho1 ho2 ob1 hB0 hB1 hB2 hb1 hb2 t1
  go_wp2
  have q0 := heap_setCell_other w2 ⟨w.heap.size + 1 + 1, 3, none⟩ (w.heap.size + 1) (.slice a2 nk nk) (by simp)
  have q1 := heap_setCell_same _ (w.heap.size + 1) 0 _ 47 (.int .u64 x.ky) (q0.trans E1.out)
  have q2 := heap_setCell_same _ (w.heap.size + 1) 1 _ 47 (.int .i64 x.at2) q1
  have q4 := heap_setCell_same _ (w.heap.size + 1) 2 _ 47 (.slice a1 nb nb) q2
  have q5 := heap_setCell_same _ (w.heap.size + 1) 3 _ 47 (.slice a2 nk nk) q4
  have tt : Touch (w.heap.size + 1) (w.heap.size + 3) w2 (((((w2.setCell ⟨w.heap.size + 1 + 1, 3, none⟩ (.slice a2 nk nk)).setCell ⟨w.heap.size + 1, 0, none⟩ (.int .u64 x.ky)).setCell ⟨w.heap.size + 1, 1, none⟩ (.int .i64 x.at2)).setCell ⟨w.heap.size + 1, 2, none⟩ (.slice a1 nb nb)).setCell ⟨w.heap.size + 1, 3, none⟩ (.slice a2 nk nk)) :=
    ((((touch_setT _ _ _ _ (by omega) (by omega)).trans (touch_setT _ _ _ _ (by omega) (by omega))).trans (touch_setT _ _ _ _ (by omega) (by omega))).trans (touch_setT _ _ _ _ (by omega) (by omega))).trans (touch_setT _ _ _ _ (by omega) (by omega))
  have hsz3 : (((((w2.setCell ⟨w.heap.size + 1 + 1, 3, none⟩ (.slice a2 nk nk)).setCell ⟨w.heap.size + 1, 0, none⟩ (.int .u64 x.ky)).setCell ⟨w.heap.size + 1, 1, none⟩ (.int .i64 x.at2)).setCell ⟨w.heap.size + 1, 2, none⟩ (.slice a1 nb nb)).setCell ⟨w.heap.size + 1, 3, none⟩ (.slice a2 nk nk)).heap.size = w2.heap.size := by simp
  try simp only [Exit.inBlock, Exit.then]
  refine bodyPost_ret (results_itemT rfl _ (w.heap.size + 1) rfl _ _ _ _ _ q5) rfl ?_
  refine ⟨a1, a2, w1.heap.size, rfl, by omega, by rw [hsz3]; omega, (OB.out.touch (.inr (by omega)) tt).mono (by omega) (Nat.le_refl _), ?_, HB3.out.trans (tt.below (by omega) (by omega))⟩
  rw [hsz3]
  exact ownKids_movesT d _ _ _ _ _ _ _ _ _ OK.out (.inr (by omega)) tt

end Go.Proofs.YtpnhhhhmonbajaaGreat

set_option linter.unusedVariables false
namespace Go.Proofs.YtpnhhhhmonbajaaGreat
open Go.RowKit

theorem ownsRow_below'T {B e size n lo : Nat} {w w' : World} {v : Value} {xs : List Value} (h : w.ownsRow B e size v n xs) (hb : Below lo w w') (hl : ∀ k, v.ownBlock = some k → k < lo) : w'.ownsRow B e size v n xs := by
  refine ⟨h.1, ?_⟩
  rcases h.2 with hn | ⟨g, cap, cur, rfl, hbb, hgg, rest⟩
  · exact .inl hn
  · exact .inr ⟨g, cap, cur, rfl, hbb, (hb.block g (hl g rfl)).trans hgg, rest⟩

/-- The cells of a signer are stored. -/
def set5T (w : World) (g i : Nat) (u0 u1 u3 u4 : Value) : World := (((w.setCell ⟨g, i * 4, none⟩ u0).setCell ⟨g, i * 4 + 1, none⟩ u1).setCell ⟨g, i * 4 + 2, none⟩ u3).setCell ⟨g, i * 4 + 3, none⟩ u4

structure Set5T (B : Nat) (w w' : World) (g n cap i : Nat) (u0 u1 u3 u4 : Value) : Prop where
  own : ∃ vs, w'.ownsRow B 47 4 (.slice (some ⟨g, 0, none⟩) n cap) n vs
  touch : Touch g (g + 1) w w'
  size : w'.heap.size = w.heap.size
  old : ∀ j, j < n * 4 → j < i * 4 ∨ i * 4 + 4 ≤ j → w'.cell? ⟨g, j, none⟩ = w.cell? ⟨g, j, none⟩
  c0 : w'.cell? ⟨g, i * 4, none⟩ = some u0
  c1 : w'.cell? ⟨g, i * 4 + 1, none⟩ = some u1
  c3 : w'.cell? ⟨g, i * 4 + 2, none⟩ = some u3
  c4 : w'.cell? ⟨g, i * 4 + 3, none⟩ = some u4

theorem set5_isT {B : Nat} {w : World} {g n cap : Nat} {vs : List Value} (h : w.ownsRow B 47 4 (.slice (some ⟨g, 0, none⟩) n cap) n vs) (i : Nat) (hi : i < n) (u0 u1 u3 u4 : Value) : Set5T B w (set5T w g i u0 u1 u3 u4) g n cap i u0 u1 u3 u4 := by
  have h1 := ((((h.stored (i * 4) u0).1.stored (i * 4 + 1) u1).1.stored (i * 4 + 2) u3).1.stored (i * 4 + 3) u4).1
  have hl : vs.length = n * 4 := h.1
  have cc : ∀ j, j < n * 4 → (set5T w g i u0 u1 u3 u4).cell? ⟨g, j, none⟩ = ((((vs.set (i * 4) u0).set (i * 4 + 1) u1).set (i * 4 + 2) u3).set (i * 4 + 3) u4)[j]? := fun j hj => h1.cellAt j hj
  refine ⟨⟨_, h1⟩, ?_, by simp [set5T], fun j hj ho => ?_, ?_, ?_, ?_, ?_⟩
  · exact (((touch_setT _ _ _ _ (Nat.le_refl _) (Nat.lt_succ_self _)).trans (touch_setT _ _ _ _ (Nat.le_refl _) (Nat.lt_succ_self _))).trans (touch_setT _ _ _ _ (Nat.le_refl _) (Nat.lt_succ_self _))).trans (touch_setT _ _ _ _ (Nat.le_refl _) (Nat.lt_succ_self _))
  · rw [cc j hj, h.cellAt j hj]
    rw [List.getElem?_set_ne (by omega), List.getElem?_set_ne (by omega), List.getElem?_set_ne (by omega), List.getElem?_set_ne (by omega)]
  · rw [cc _ (by omega), List.getElem?_set_ne (by omega), List.getElem?_set_ne (by omega), List.getElem?_set_ne (by omega), List.getElem?_set_self (by omega)]
  · rw [cc _ (by omega), List.getElem?_set_ne (by omega), List.getElem?_set_ne (by omega), List.getElem?_set_self (by simp; omega)]
  · rw [cc _ (by omega), List.getElem?_set_ne (by omega), List.getElem?_set_self (by simp; omega)]
  · rw [cc _ (by omega), List.getElem?_set_self (by simp; omega)]

set_option maxRecDepth 10000 in
set_option maxHeartbeats 1000000 in
theorem toSignerS_anyT (d : Nat) (ih : ToST d) : ToST (d + 1) := by
  intro a n cap xs w hk hw
  obtain ⟨i0, hi, hz0, hz1, hz2⟩ := info_parts Tryz.infoItem
  have HK : Hid (KidsT (d + 1) w a n xs) := hk
  have hlen : Hid (xs.length = n) := hk.1
  have HW : Hid (n + wtPT d xs n ≤ 1048576) := by show _ ≤ _; rw [wtS_succT, hk.1] at hw; exact hw
  have hn : n ≤ 1048576 := by have := HW.out; omega
  clear hk hw
  go_enter Tryz.func20, Tryz.ntmps20
  go_wp2_with (first | (at_make; refine wpList_make_full _ rfl _ _ 30 rfl w.heap.size 47 i0 _ 4 Tryz.underlying30 hi hz0 hz1 _ _ _ _ n rfl rfl rfl rfl (by rw [hz2]; omega) (by unfold maxLen; omega) (by exact Nat.le_refl _) ?_; intro w1 hown hgrow))
  have hbl : Below w.heap.size w w1 := (Below.refl _ _).grown hgrow (Nat.le_refl _) (by simp)
  have hlt1 := (hown.lt _ rfl).2
  clear hgrow hi hz0 hz1 hz2
  go_loopw [4] (fun i wr => ∃ k : Nat, k ≤ n ∧ i = .int .i64 k ∧ (∃ vs, wr.ownsRow w.heap.size 47 4 (.slice (some ⟨w.heap.size, 0, none⟩) n n) n vs) ∧ OwnPreT (OwnKidsT d) w.heap.size wr.heap.size wr w.heap.size k xs ∧ Below w.heap.size w wr) (fun i _ => n - (intOf i).toNat)
  case atStart => exact ⟨0, Nat.zero_le _, rfl, ⟨_, hown⟩, ownPre_zeroT _ _ _ _ _, hbl⟩
  case round =>
    obtain ⟨k, hk, rfl, ⟨vs, hor⟩, hpre, hbr⟩ := hrel
    by_cases hkn : k < n
    · obtain ⟨b, off, rfl, hlb, ab, nb, cb, ak, nk, ck, c0, c1, c3, c4, hr, hnil, hnb, hu, hkk⟩ := HK.out.2.2 k hkn
      have HN : Hid (_ = _) := wtP_nextT d xs k (by have := hlen.out; omega)
      have HL : Hid (_ ≤ _) := wtP_leT d xs (k + 1)
      obtain ⟨y, hy⟩ : ∃ y, y = xs.getD k default := ⟨_, rfl⟩
      rw [← hy] at c0 c1 hr hkk hu
      have HY : Hid (y = xs.getD k default) := hy
      have cc : ∀ j, wr.cell? ⟨b, j, none⟩ = w.cell? ⟨b, j, none⟩ := fun j => hbr.cell (p := ⟨b, j, none⟩) hlb
      rw [← cc] at c0 c1 c3 c4
      have hkni : (k : Int) < (n : Int) := by omega
      have hwt : nb + wtST d y.over ≤ 1048576 := by
        have h1 := HN.out
        have h2 := HL.out
        have h3 := HW.out
        rw [hlen.out] at h2
        rw [← hy, hr.len] at h1
        omega
      clear cc hy
      have hs := hbr.size
      have hrr := hr.kept hbr
      have hkr := hkk.kept hbr
      have hgl := (hor.lt _ rfl).2
      have HPRE : Hid (OwnPreT (OwnKidsT d) w.heap.size wr.heap.size wr w.heap.size k xs) := hpre
      have HOR : Hid (wr.ownsRow w.heap.size 47 4 (.slice (some ⟨w.heap.size, 0, none⟩) n n) n vs) := hor
      clear hpre hor hr hkk
      go_wp2_with fail
      refine (toSigner_anyT d ih y ab nb cb ak nk ck _ hrr hkr (by omega) (by omega)).mono ?_
      rintro e w2 ⟨ab2, ak2, M, rfl, m1, m2, ob2, ok2, hb2⟩
      have hor2 := ownsRow_below HOR.out hb2
      have hs2 := hb2.size
      have fr : ∀ j, w2.frozen? ⟨w.heap.size, j, none⟩ = false := fun j => hor2.frozenAt j
      have hvl : vs.length = n * 4 := hor2.1
      have cx : ∀ j, j < n * 4 → ∃ z, w2.cell? ⟨w.heap.size, j, none⟩ = some z := fun j hj => ⟨_, (hor2.cellAt j hj).trans (List.getElem?_eq_getElem (by omega))⟩
      obtain ⟨z0, x0⟩ := cx (k * 4) (by omega)
      obtain ⟨z1, x1⟩ := cx (k * 4 + 1) (by omega)
      obtain ⟨z3, x3⟩ := cx (k * 4 + 2) (by omega)
      obtain ⟨z4, x4⟩ := cx (k * 4 + 3) (by omega)
      have f0 := fr (k * 4)
      have f1 := fr (k * 4 + 1)
      have f3 := fr (k * 4 + 2)
      have f4 := fr (k * 4 + 3)
      clear fr cx
      unfold itvT
      have hS := set5_isT hor2 k hkn (.int .u64 y.ky) (.int .i64 y.at2) (.slice ab2 nb nb) (.slice ak2 nk nk)
      have HP2 : OwnPreT (OwnKidsT d) w.heap.size wr.heap.size w2 w.heap.size k xs := HPRE.out.move (ownKids_movesT d) (fun j hj => hb2.cell (p := ⟨w.heap.size, j, none⟩) (by simp; omega)) (.inr ⟨rfl, rfl⟩) (Touch.of_below hb2)
      have HP3 : OwnPreT (OwnKidsT d) w.heap.size wr.heap.size (set5T w2 w.heap.size k (.int .u64 y.ky) (.int .i64 y.at2) (.slice ab2 nb nb) (.slice ak2 nk nk)) w.heap.size k xs := HP2.move (ownKids_movesT d) (fun j hj => hS.old j (by omega) (.inl hj)) (.inr ⟨rfl, rfl⟩) hS.touch
      have HP4 := HP3.more (s := wr.heap.size) (hi' := w2.heap.size) (M := M) (Nat.le_refl _) hgl hs m1 m2 (by rw [← HY.out]; exact hS.c0) (by rw [← HY.out]; exact hS.c1) hS.c3 hS.c4 (by rw [← HY.out]; exact hu) (by rw [← HY.out]; exact ob2.touch (.inr (by omega)) hS.touch) (by rw [← HY.out]; exact ownKids_movesT d _ _ _ _ _ _ _ _ _ ok2 (.inr (by omega)) hS.touch)
      rw [← hS.size] at HP4
      have HB4 : Below w.heap.size w (set5T w2 w.heap.size k (.int .u64 y.ky) (.int .i64 y.at2) (.slice ab2 nb nb) (.slice ak2 nk nk)) := (hbr.trans (hb2.mono hs)).trans (hS.touch.below (Nat.le_refl _) (by omega))
      have HP5 : Hid (_ ∧ _ ∧ _) := ⟨hS.own, HP4, HB4⟩
      clear hS HP2 HP3 HP4 HB4
      go_wp2
      go_roundw
      case rel => exact ⟨k + 1, by omega, by go_num, HP5.out.1, HP5.out.2.1, HP5.out.2.2⟩
      case measure => simp [intOf]; omega
    · obtain rfl : n = k := by omega
      go_wp2
      go_ret
      refine ⟨_, rfl, ⟨hlen.out, by omega, ?_⟩, hbr⟩
      rcases Nat.eq_zero_or_pos n with h0 | h0
      · exact .inl h0
      · exact .inr ⟨w.heap.size, n, vs, rfl, Nat.le_refl _, (hor.lt _ rfl).2, hor, hpre⟩

theorem toS_allT (d : Nat) : ToST d := by
  induction d with
  | zero => intro a n cap xs w h; exact h.elim
  | succ d ih => exact toSignerS_anyT d ih

end Go.Proofs.YtpnhhhhmonbajaaGreat

set_option linter.unusedVariables false
namespace Go.Proofs.YtpnhhhhmonbajaaGreat
open Go.RowKit

theorem two_blocksT (w : World) (o0 o1 : Obj) : ((w.alloc o0).alloc o1).heap[w.heap.size]? = some o0 ∧ ((w.alloc o0).alloc o1).heap[w.heap.size + 1]? = some o1 := by
  have s1 : (w.alloc o0).heap.size = w.heap.size + 1 := by simp
  exact ⟨(alloc_oldTr _ o1 _ (by omega)).trans (heap_alloc_new w o0), by rw [← s1]; exact heap_alloc_new _ o1⟩

def EqST (d : Nat) : Prop := ∀ (a b : Option Addr) (n ca cb : Nat) (xs : List ItT) (w : World), KidsT d w a n xs → KidsT d w b n xs →
    Calls Tryz.prog 29 #[.slice a n ca, .slice b n cb] w fun e w' => e = .returned (.bool true) ∧ Below w.heap.size w w'

set_option maxRecDepth 10000 in
set_option maxHeartbeats 1000000 in
theorem eqSigner_sameT (d : Nat) (ih : EqST d) (x : ItT) (ab : Option Addr) (nb cb : Nat) (ak : Option Addr) (nk ck : Nat) (ab2 : Option Addr) (cb2 : Nat) (ak2 : Option Addr) (ck2 : Nat) (w : World)
    (hr : Row w ab nb x.sg) (hk : KidsT d w ak nk x.over) (hr2 : Row w ab2 nb x.sg) (hk2 : KidsT d w ak2 nk x.over) (hnb : nb ≤ maxLen) :
    Calls Tryz.prog 46 #[itvT x ab nb cb ak nk ck, itvT x ab2 nb cb2 ak2 nk ck2] w fun e w' => e = .returned (.bool true) ∧ Below w.heap.size w w' := by
  have HR : Hid (Row w ab nb x.sg) := hr
  have HR2 : Hid (Row w ab2 nb x.sg) := hr2
  have HK : Hid (KidsT d w ak nk x.over) := hk
  have HK2 : Hid (KidsT d w ak2 nk x.over) := hk2
  clear hr hk hr2 hk2
  unfold itvT
  have t1 : (x.ky != x.ky) = false := by simp
  have t2 : (x.at2 != x.at2) = false := by simp
  go_enter Tryz.func46, Tryz.ntmps46
  have hB : Below w.heap.size w ((w.alloc (.cells #[.int .u64 x.ky, .int .i64 x.at2, .slice ab nb cb, .slice ak nk ck] 47)).alloc (.cells #[.int .u64 x.ky, .int .i64 x.at2, .slice ab2 nb cb2, .slice ak2 nk ck2] 47)) := ((Below.refl _ _).alloc (Nat.le_refl _) _).alloc (by simp) _
  go_wp2_with fail
  refine (eqByteS_any ab ab2 nb nb cb cb2 x.sg x.sg _ (HR.out.kept hB) (HR2.out.kept hB) hnb hnb).mono ?_
  rintro e w1 ⟨rfl, hb1⟩
  rw [decide_eq_true (rfl : x.sg = x.sg)]
  have hb1' : Below w.heap.size w w1 := hB.trans (hb1.mono (by simp; omega))
  have k4 : w1.cell? ⟨w.heap.size, 3, none⟩ = some (.slice ak nk ck) := (hb1.cell (p := ⟨w.heap.size, 3, none⟩) (by simp; omega)).trans ((cell_of_row _ w.heap.size 3 _ 47 (0, 0) (two_blocksT w _ _).1).trans rfl)
  have k5 : w1.cell? ⟨w.heap.size + 1, 3, none⟩ = some (.slice ak2 nk ck2) := (hb1.cell (p := ⟨w.heap.size + 1, 3, none⟩) (by simp)).trans ((cell_of_row _ (w.heap.size + 1) 3 _ 47 (0, 0) (two_blocksT w _ _).2).trans rfl)
  clear hb1 hB
  go_wp2_with fail
  refine (ih ak ak2 nk ck ck2 x.over _ (HK.out.kept hb1') (HK2.out.kept hb1')).mono ?_
  rintro e w2 ⟨rfl, hb2⟩
  go_wp2
  go_ret
  exact ⟨rfl, hb1'.trans (hb2.mono hb1'.size)⟩

set_option maxRecDepth 10000 in
set_option maxHeartbeats 1000000 in
theorem eqSignerS_sameT (d : Nat) (ih : EqST d) : EqST (d + 1) := by
  intro a b n ca cb xs w hk hk2
  have HK : Hid (KidsT (d + 1) w a n xs) := hk
  have HK2 : Hid (KidsT (d + 1) w b n xs) := hk2
  have hn := hk.2.1
  clear hk hk2
  have t1 : ((n : Int) != (n : Int)) = false := by simp
  go_enter Tryz.func29, Tryz.ntmps29
  go_wp2
  go_loopw [5] (fun i wr => ∃ k : Nat, k ≤ n ∧ i = .int .i64 k ∧ Below w.heap.size w wr) (fun i _ => n - (intOf i).toNat)
  case atStart => exact ⟨0, Nat.zero_le _, rfl, Below.refl _ _⟩
  case round =>
    obtain ⟨k, hk, rfl, hbr⟩ := hrel
    by_cases hkn : k < n
    · obtain ⟨b1, off1, rfl, hl1, ab1, nb1, cb1, ak1, nk1, ck1, c0, c1, c3, c4, hr1, hn1, hm1, hu1, hk1⟩ := HK.out.2.2 k hkn
      obtain ⟨b2, off2, rfl, hl2, ab2, nb2, cb2, ak2, nk2, ck2, d0, d1, d3, d4, hr2, hn2, hm2, hu2, hk2⟩ := HK2.out.2.2 k hkn
      obtain ⟨y, hy⟩ : ∃ y, y = xs.getD k default := ⟨_, rfl⟩
      rw [← hy] at c0 c1 hr1 hk1 d0 d1 hr2 hk2
      clear hy
      obtain rfl : nb1 = nb2 := hr1.len.symm.trans hr2.len
      obtain rfl : nk1 = nk2 := by
        cases d with
        | zero => exact hk1.elim
        | succ d => exact hk1.1.symm.trans hk2.1
      have cc : ∀ j, wr.cell? ⟨b1, j, none⟩ = w.cell? ⟨b1, j, none⟩ := fun j => hbr.cell (p := ⟨b1, j, none⟩) hl1
      have dd : ∀ j, wr.cell? ⟨b2, j, none⟩ = w.cell? ⟨b2, j, none⟩ := fun j => hbr.cell (p := ⟨b2, j, none⟩) hl2
      rw [← cc] at c0 c1 c3 c4
      rw [← dd] at d0 d1 d3 d4
      clear cc dd
      have hkni : (k : Int) < (n : Int) := by omega
      have hs := hbr.size
      have R1 : Hid (Row wr.drew ab1 nb1 y.sg) := hr1.kept hbr.drew
      have R2 : Hid (Row wr.drew ab2 nb1 y.sg) := hr2.kept hbr.drew
      have K1 : Hid (KidsT d wr.drew ak1 nk1 y.over) := hk1.kept hbr.drew
      have K2 : Hid (KidsT d wr.drew ak2 nk1 y.over) := hk2.kept hbr.drew
      clear hr1 hr2 hk1 hk2
      go_wp2_with fail
      go_region_with (go_at_call 46; refine (eqSigner_sameT d ih y ab1 nb1 cb1 ak1 nk1 ck1 ab2 cb2 ak2 ck2 _ R1.out K1.out R2.out K2.out (by unfold maxLen; omega)).mono ?_; rintro e w2 ⟨rfl, hb2⟩)
      all_goals
        have b5 : Below w.heap.size w w2 := hbr.drew.trans (hb2.mono hs)
        go_wp2
        go_roundw
        case rel => exact ⟨k + 1, by omega, by go_num, b5⟩
        case measure => simp [intOf]; omega
    · go_wp2
      go_ret
      exact ⟨rfl, hbr⟩

theorem eqS_allT (d : Nat) : EqST d := by
  induction d with
  | zero => intro a b n ca cb xs w h; exact h.elim
  | succ d ih => exact eqSignerS_sameT d ih

end Go.Proofs.YtpnhhhhmonbajaaGreat

set_option linter.unusedVariables false
namespace Go.Proofs.YtpnhhhhmonbajaaGreat
open Go.RowKit

/-- One item, marked from k on; and the number behind it. -/
def mkItemT (f : List ItT → Nat → List ItT × Nat) (x : ItT) (k : Nat) : ItT × Nat :=
  (.mk (k : Int) ((k : Int) + 1) (marks (k + 2) x.sg.length) (f x.over (k + 2 + x.sg.length)).1, (f x.over (k + 2 + x.sg.length)).2)
/-- The number ahead of the j-th. -/
def kkAtT (f : List ItT → Nat → List ItT × Nat) (xs : List ItT) (k : Nat) : Nat → Nat
  | 0 => k
  | j + 1 => (mkItemT f (xs.getD j default) (kkAtT f xs k j)).2
def mkKT (f : List ItT → Nat → List ItT × Nat) (xs : List ItT) (k : Nat) : List ItT × Nat := ((List.range xs.length).map fun j => (mkItemT f (xs.getD j default) (kkAtT f xs k j)).1, kkAtT f xs k xs.length)
def mkST : Nat → List ItT → Nat → List ItT × Nat
  | 0, xs, k => (xs, k)
  | d + 1, xs, k => mkKT (mkST d) xs k

theorem mkS_leT (d : Nat) : ∀ xs k, (mkST d xs k).2 ≤ k + 3 * wtST d xs := by
  induction d with
  | zero => intro xs k; exact Nat.le_add_right _ _
  | succ d ih =>
    intro xs k
    have hj : ∀ j, j ≤ xs.length → kkAtT (mkST d) xs k j ≤ k + 3 * (j + wtPT d xs j) := by
      intro j
      induction j with
      | zero => intro _; exact Nat.le_add_right _ _
      | succ j ihj =>
        intro hj
        have h1 := ihj (by omega)
        have h2 := wtP_nextT d xs j (by omega)
        have h3 := ih (xs.getD j default).over (kkAtT (mkST d) xs k j + 2 + (xs.getD j default).sg.length)
        show (mkItemT (mkST d) (xs.getD j default) (kkAtT (mkST d) xs k j)).2 ≤ _
        unfold mkItemT
        show (mkST d (xs.getD j default).over (kkAtT (mkST d) xs k j + 2 + (xs.getD j default).sg.length)).2 ≤ _
        omega
    have := hj xs.length (Nat.le_refl _)
    rw [wtS_succT]
    exact this
theorem kkAt_leT (d : Nat) (xs : List ItT) (k j : Nat) (hj : j ≤ xs.length) : kkAtT (mkST d) xs k j ≤ k + 3 * (j + wtPT d xs j) := by
  induction j with
  | zero => exact Nat.le_add_right _ _
  | succ j ihj =>
    have h1 := ihj (by omega)
    have h2 := wtP_nextT d xs j (by omega)
    have h3 := mkS_leT d (xs.getD j default).over (kkAtT (mkST d) xs k j + 2 + (xs.getD j default).sg.length)
    show (mkST d (xs.getD j default).over (kkAtT (mkST d) xs k j + 2 + (xs.getD j default).sg.length)).2 ≤ _
    omega

/-- The item x lies in the row g at place j, what hangs on it between lo and hi. -/
def ItemAtT (K : Nat → Nat → World → Option Addr → Nat → List ItT → Prop) (lo hi : Nat) (w : World) (g j : Nat) (x : ItT) : Prop :=
  ∃ ab nb cb ak nk ck M, w.cell? ⟨g, j * 4, none⟩ = some (.int .u64 x.ky) ∧ w.cell? ⟨g, j * 4 + 1, none⟩ = some (.int .i64 x.at2)
      ∧ w.cell? ⟨g, j * 4 + 2, none⟩ = some (.slice ab nb cb) ∧ w.cell? ⟨g, j * 4 + 3, none⟩ = some (.slice ak nk ck)
      ∧ lo ≤ M ∧ M ≤ hi ∧ U64 x.ky ∧ OwnBT lo M w ab nb cb x.sg ∧ K M hi w ak nk x.over

theorem ItemAtT.move {K : Nat → Nat → World → Option Addr → Nat → List ItT → Prop} (hK : MovesT K) {lo hi p q : Nat} {w w' : World} {g j : Nat} {x : ItT} (h : ItemAtT K lo hi w g j x)
    (hc : ∀ i, j * 4 ≤ i → i < j * 4 + 4 → w'.cell? ⟨g, i, none⟩ = w.cell? ⟨g, i, none⟩) (hd : hi ≤ p ∨ q ≤ lo) (ht : Touch p q w w') : ItemAtT K lo hi w' g j x := by
  obtain ⟨ab, nb, cb, ak, nk, ck, M, c0, c1, c3, c4, m1, m2, hu, ob, ok⟩ := h
  exact ⟨ab, nb, cb, ak, nk, ck, M, (hc _ (by omega) (by omega)).trans c0, (hc _ (by omega) (by omega)).trans c1, (hc _ (by omega) (by omega)).trans c3, (hc _ (by omega) (by omega)).trans c4, m1, m2, hu,
    ob.touch (by omega) ht, hK _ _ _ _ _ _ _ _ _ ok (by omega) ht⟩

structure Set3T (B : Nat) (w w' : World) (g n cap i : Nat) (u0 u1 : Value) : Prop where
  own : ∃ vs, w'.ownsRow B 47 4 (.slice (some ⟨g, 0, none⟩) n cap) n vs
  touch : Touch g (g + 1) w w'
  old : ∀ j, j < n * 4 → j < i * 4 ∨ i * 4 + 2 ≤ j → w'.cell? ⟨g, j, none⟩ = w.cell? ⟨g, j, none⟩
  c0 : w'.cell? ⟨g, i * 4, none⟩ = some u0
  c1 : w'.cell? ⟨g, i * 4 + 1, none⟩ = some u1

theorem set3_isT {B : Nat} {w : World} {g n cap : Nat} {vs : List Value} (h : w.ownsRow B 47 4 (.slice (some ⟨g, 0, none⟩) n cap) n vs) (i : Nat) (hi : i < n) (u0 u1 : Value) :
    Set3T B w ((w.setCell ⟨g, i * 4, none⟩ u0).setCell ⟨g, i * 4 + 1, none⟩ u1) g n cap i u0 u1 := by
  have h1 := ((h.stored (i * 4) u0).1.stored (i * 4 + 1) u1).1
  have hl : vs.length = n * 4 := h.1
  have cc := fun j (hj : j < n * 4) => h1.cellAt j hj
  refine ⟨⟨_, h1⟩, ?_, fun j hj ho => ?_, ?_, ?_⟩
  · exact (touch_setT _ _ _ _ (Nat.le_refl _) (Nat.lt_succ_self _)).trans (touch_setT _ _ _ _ (Nat.le_refl _) (Nat.lt_succ_self _))
  · rw [cc j hj, h.cellAt j hj]
    rw [List.getElem?_set_ne (by omega), List.getElem?_set_ne (by omega)]
  · rw [cc _ (by omega), List.getElem?_set_ne (by omega), List.getElem?_set_self (by omega)]
  · rw [cc _ (by omega), List.getElem?_set_self (by simp; omega)]

theorem OwnBT.wrote {lo hi : Nat} {w w' : World} {a : Option Addr} {n cap : Nat} {bs : List Int} (h : OwnBT lo hi w a n cap bs) (hg : w.grownBy w' (Value.slice a n cap).ownBlock) : Touch lo hi w w' := by
  refine ⟨hg.os, hg.tape, hg.output, hg.size, fun k hk ho => hg.block k hk ?_⟩
  intro e
  have h1 := (h.own.row.lt k e.symm).1
  cases a with
  | none => simp [Value.ownBlock] at e
  | some x =>
    simp [Value.ownBlock] at e
    have h2 := h.lt x rfl
    omega
theorem ownsRow_sameT {B e size n g cap : Nat} {w w' : World} {xs : List Value} (h : w.ownsRow B e size (.slice (some ⟨g, 0, none⟩) n cap) n xs) (hb : w'.heap[g]? = w.heap[g]?) : w'.ownsRow B e size (.slice (some ⟨g, 0, none⟩) n cap) n xs := by
  refine ⟨h.1, ?_⟩
  rcases h.2 with hn | ⟨g', cap', cur, hv, hbb, hgg, rest⟩
  · exact .inl hn
  · simp only [Value.slice.injEq, Option.some.injEq, Addr.mk.injEq, and_true, true_and] at hv
    obtain ⟨rfl, rfl⟩ := hv
    exact .inr ⟨g, cap, cur, rfl, hbb, hb.trans hgg, rest⟩

/-- What the j-th is when i are marked. -/
def zAtT (f : List ItT → Nat → List ItT × Nat) (xs : List ItT) (k i j : Nat) : ItT := if j < i then (mkItemT f (xs.getD j default) (kkAtT f xs k j)).1 else xs.getD j default

def MarkST (d : Nat) : Prop := ∀ (lo hi : Nat) (a : Option Addr) (n cap : Nat) (xs : List ItT) (k : Nat) (K : Int) (w : World), K = (k : Int) → OwnKidsT d lo hi w a n xs → k + 3 * wtST d xs ≤ 100000000 →
    Calls Tryz.prog 31 #[.slice a n cap, .int .i64 K] w fun e w' => e = .returned (.int .i64 ((mkST d xs k).2 : Nat)) ∧ OwnKidsT d lo hi w' a n (mkST d xs k).1 ∧ Touch lo hi w w'

set_option maxRecDepth 10000 in
set_option maxHeartbeats 2000000 in
theorem markS_nextT (d : Nat) (ih : MarkST d) : MarkST (d + 1) := by
  intro lo hi a n cap xs k K w hKk hown hwt
  have hlen := hown.1
  have hn := hown.2.1
  have HW : Hid (k + 3 * (n + wtPT d xs n) ≤ 100000000) := by show _ ≤ _; rw [wtS_succT, hlen] at hwt; exact hwt
  have HLN : Hid (xs.length = n) := hlen
  have hn9 : n ≤ 100000000 := by have := HW.out; omega
  subst hKk
  rcases hown.2.2 with h0 | ⟨g, capo, vs, rfl, g1, g2, hrow, L, H, h1, h2, h3⟩
  · subst h0
    have hx : xs = [] := List.eq_nil_of_length_eq_zero hlen
    subst hx
    clear hown hwt
    go_enter Tryz.func31, Tryz.ntmps31
    go_wp2
    refine wp_loop_rounds 2 ?_
    rw [rounds_succ]
    go_wp2
    go_ret
    exact ⟨rfl, ⟨rfl, hn, .inl rfl⟩, Touch.of_below (Below.refl _ _)⟩
  · have H3 : Hid (∀ j, j < n → ItemAtT (OwnKidsT d) (L j) (H j) w g j (zAtT (mkST d) xs k 0 j)) := fun j hj => h3 j hj
    have H1 : Hid (_) := h1
    have H2 : Hid (_) := h2
    clear h1 h2 h3 hown hwt hlen
    go_enter Tryz.func31, Tryz.ntmps31
    go_wp2
    go_loopw [1, 5] (fun kk i wr => ∃ j q : Nat, j ≤ n ∧ i = .int .i64 j ∧ kk = .int .i64 q ∧ Hid (q = kkAtT (mkST d) xs k j) ∧ (∃ us, wr.ownsRow lo 47 4 (.slice (some ⟨g, 0, none⟩) n capo) n us) ∧ (∀ m, m < n → ItemAtT (OwnKidsT d) (L m) (H m) wr g m (zAtT (mkST d) xs k j m)) ∧ Touch lo hi w wr) (fun _ i _ => n - (intOf i).toNat)
    case atStart => exact ⟨0, k, Nat.zero_le _, rfl, rfl, rfl, ⟨_, hrow⟩, H3.out, Touch.of_below (Below.refl _ _)⟩
    case round =>
      obtain ⟨j, q, hj, rfl, rfl, HQ, ⟨us, hor⟩, hit, htr⟩ := hrel
      by_cases hjn : j < n
      · obtain ⟨ab, nb, cb, ak, nk, ck, M, c0, c1, c3, c4, m1, m2, hu, ob, ok⟩ := hit j hjn
        have hkl := kkAt_leT d xs k j (by rw [HLN.out]; omega)
        rw [← HQ.out] at hkl
        have hz : zAtT (mkST d) xs k j j = xs.getD j default := by rw [zAtT, if_neg (by omega)]
        rw [hz] at c0 c1 ob ok
        have hnx := wtP_nextT d xs j (by rw [HLN.out]; exact hjn)
        have hle := wtP_leT d xs (j + 1)
        rw [HLN.out] at hle
        obtain ⟨y, hy⟩ : ∃ y, y = xs.getD j default := ⟨_, rfl⟩
        rw [← hy] at c0 c1 ob ok hnx
        have HY : Hid (y = xs.getD j default) := hy
        have hbl := ob.own.length
        have hqk : q + 2 + nb + 3 * wtST d y.over ≤ 100000000 := by have := HW.out; rw [hbl] at hnx; omega
        clear hy hz hnx hle
        have f0 := hor.frozenAt (j * 4)
        have f1 := hor.frozenAt (j * 4 + 1)
        have hji : (j : Int) < (n : Int) := by omega
        have vq : IntKind.u64.wrap (q : Int) = (q : Int) := by rw [IntKind.wrap_u64]; omega
        have OB : Hid (_) := ob
        have OKK : Hid (_) := ok
        have IT : Hid (∀ m, m < n → ItemAtT (OwnKidsT d) (L m) (H m) wr g m (zAtT (mkST d) xs k j m)) := hit
        clear ob ok hit
        have hS := set3_isT hor j hjn (.int .u64 (q : Int)) (.int .i64 ((q : Int) + 1))
        have hLH := H1.out j hjn
        have hglt := (hor.lt g rfl).2
        have HS : Hid (_) := hS
        have ob3 := OB.out.touch (p := g) (q := g + 1) (by omega) hS.touch
        have ok3 := ownKids_movesT d _ _ g (g + 1) _ _ _ _ _ OKK.out (by omega) hS.touch
        have c43 := (hS.old (j * 4 + 3) (by omega) (by omega)).trans c4
        have c33 := (hS.old (j * 4 + 2) (by omega) (by omega)).trans c3
        clear hS
        go_wp2_with fail
        obtain ⟨W3, hW3⟩ : ∃ W3, W3 = (wr.setCell ⟨g, j * 4, none⟩ (.int .u64 (q : Int))).setCell ⟨g, j * 4 + 1, none⟩ (.int .i64 ((q : Int) + 1)) := ⟨_, rfl⟩
        rw [← hW3] at HS ob3 ok3 c43 c33 ⊢
        clear hW3 c0 c1 c3 c4 f0 f1
        refine (markByteS_int (L j) ab nb cb ((q : Int) + 1 + 1) y.sg _ ob3.own (by omega) (by omega) (by omega)).mono ?_
        rintro e w2 ⟨rfl, ho2, hg2⟩
        have htn : ((q : Int) + 1 + 1).toNat = q + 2 := by omega
        rw [htn] at ho2
        have t2 : Touch (L j) M W3 w2 := ob3.wrote hg2
        have hg3 : g < W3.heap.size := Nat.lt_of_lt_of_le hglt HS.out.touch.size
        have b2 : w2.heap[g]? = W3.heap[g]? := t2.block g hg3 (by omega)
        have c44 : w2.cell? ⟨g, j * 4 + 3, none⟩ = some (.slice ak nk ck) := (World.cell?_of_block (a := ⟨g, j * 4 + 3, none⟩) b2).trans c43
        have ok2 := ownKids_movesT d _ _ (L j) M _ _ _ _ _ ok3 (.inr (Nat.le_refl _)) t2
        have ob2 : OwnBT (L j) M w2 ab nb cb (marks (q + 2) nb) := ⟨ho2, ob3.lt⟩
        have OB2 : Hid (_) := ob2
        have OK2 : Hid (_) := ok2
        have T2 : Hid (_) := t2
        have B2 : Hid (_ = _) := b2
        have C33 : Hid (_ = _) := c33
        have C43 : Hid (_ = _) := c43
        clear ho2 hg2 ob3 ok3 c33 c43 ob2 ok2 t2 b2 htn
        go_wp2_with fail
        refine (ih M (H j) ak nk ck y.over (q + 2 + nb) ((q : Int) + 1 + 1 + (nb : Int)) w2 (by omega) OK2.out hqk).mono ?_
        rintro e w4 ⟨rfl, ok4, t4⟩
        have hg4 : g < w2.heap.size := Nat.lt_of_lt_of_le hg3 T2.out.size
        have b4 : w4.heap[g]? = W3.heap[g]? := (t4.block g hg4 (by omega)).trans B2.out
        have cc4 : ∀ i, w4.cell? ⟨g, i, none⟩ = W3.cell? ⟨g, i, none⟩ := fun i => World.cell?_of_block (a := ⟨g, i, none⟩) b4
        have hown4 : ∃ us, w4.ownsRow lo 47 4 (.slice (some ⟨g, 0, none⟩) n capo) n us := by
          obtain ⟨us', hu⟩ := HS.out.own
          exact ⟨us', ownsRow_sameT hu b4⟩
        have hzj : zAtT (mkST d) xs k (j + 1) j = .mk (q : Int) ((q : Int) + 1) (marks (q + 2) nb) (mkST d y.over (q + 2 + nb)).1 := by
          rw [zAtT, if_pos (by omega), ← HY.out, ← HQ.out, mkItemT, hbl]
        have hkj : (mkST d y.over (q + 2 + nb)).2 = kkAtT (mkST d) xs k (j + 1) := by
          show _ = (mkItemT (mkST d) (xs.getD j default) (kkAtT (mkST d) xs k j)).2
          rw [← HY.out, ← HQ.out, mkItemT, hbl]
        have hit4 : ∀ m, m < n → ItemAtT (OwnKidsT d) (L m) (H m) w4 g m (zAtT (mkST d) xs k (j + 1) m) := by
          intro m hm
          by_cases hmj : m = j
          · subst hmj
            rw [hzj]
            exact ⟨ab, nb, cb, ak, nk, ck, M, (cc4 _).trans HS.out.c0, (cc4 _).trans HS.out.c1, (cc4 _).trans C33.out, (cc4 _).trans C43.out, m1, m2, ⟨by show (0 : Int) ≤ (q : Int); omega, by show (q : Int) ≤ _; omega⟩, OB2.out.touch (.inl (Nat.le_refl _)) t4, ok4⟩
          · have hzm : zAtT (mkST d) xs k (j + 1) m = zAtT (mkST d) xs k j m := by
              unfold zAtT
              by_cases hlt : m < j
              · rw [if_pos hlt, if_pos (by omega)]
              · rw [if_neg hlt, if_neg (by omega)]
            rw [hzm]
            have hm1 := H1.out m hm
            have hdj : H m ≤ L j ∨ H j ≤ L m := by
              by_cases hlt : m < j
              · exact .inl (H2.out m j hlt hjn)
              · exact .inr (H2.out j m (by omega) hm)
            have s1 := (IT.out m hm).move (ownKids_movesT d) (w' := W3) (p := g) (q := g + 1) (fun i hi1 hi2 => HS.out.old i (by omega) (by omega)) (by omega) HS.out.touch
            have s2 := s1.move (ownKids_movesT d) (w' := w2) (p := L j) (q := M) (fun i _ _ => World.cell?_of_block (a := ⟨g, i, none⟩) B2.out) (by omega) T2.out
            exact s2.move (ownKids_movesT d) (w' := w4) (p := M) (q := H j) (fun i _ _ => (cc4 i).trans (World.cell?_of_block (a := ⟨g, i, none⟩) B2.out).symm) (by omega) t4
        have ht4 : Touch lo hi w w4 := ((htr.trans (HS.out.touch.mono (by omega) (by omega))).trans (T2.out.mono (by omega) (by omega))).trans (t4.mono (by omega) (by omega))
        have hq4 := mkS_leT d y.over (q + 2 + nb)
        obtain ⟨q2, hq2⟩ : ∃ q2, q2 = (mkST d y.over (q + 2 + nb)).2 := ⟨_, rfl⟩
        rw [← hq2] at hkj hq4 ⊢
        have FIN : Hid (_ ∧ _ ∧ _ ∧ _) := ⟨hkj, hown4, hit4, ht4⟩
        clear hkj hown4 hit4 ht4 hzj cc4 b4 hq2 ok4 t4
        go_wp2
        go_roundw
        case rel => exact ⟨j + 1, q2, by omega, by go_num, rfl, FIN.out.1, FIN.out.2.1, FIN.out.2.2.1, FIN.out.2.2.2⟩
        case measure => simp [intOf]; omega
      · obtain rfl : n = j := by omega
        have hkl := kkAt_leT d xs k n (by rw [HLN.out]; exact Nat.le_refl _)
        rw [← HQ.out] at hkl
        have hq9 : q ≤ 100000000 := by have := HW.out; omega
        have hE : (mkST (d + 1) xs k).2 = q := by show kkAtT (mkST d) xs k xs.length = q; rw [HLN.out, ← HQ.out]
        have hO : OwnKidsT (d + 1) lo hi wr (some ⟨g, 0, none⟩) n (mkST (d + 1) xs k).1 := by
          refine ⟨by show ((List.range xs.length).map _).length = n; simp [HLN.out], hn, .inr ⟨g, capo, us, rfl, g1, g2, hor, L, H, H1.out, H2.out, fun m hm => ?_⟩⟩
          have hg : ((mkST (d + 1) xs k).1).getD m default = zAtT (mkST d) xs k n m := by
            show ((List.range xs.length).map fun j => (mkItemT (mkST d) (xs.getD j default) (kkAtT (mkST d) xs k j)).1).getD m default = _
            rw [zAtT, if_pos hm]
            have hm' : m < xs.length := by rw [HLN.out]; exact hm
            simp [hm']
          rw [hg]
          exact hit m hm
        have FIN : Hid (_ ∧ _ ∧ _) := ⟨hE, hO, htr⟩
        clear hE hO htr hit hor hkl
        go_wp2
        go_ret
        exact ⟨by rw [FIN.out.1]; rfl, FIN.out.2.1, FIN.out.2.2⟩

theorem markS_allT (d : Nat) : MarkST d := by
  induction d with
  | zero => intro lo hi a n cap xs k K w _ h; exact h.elim
  | succ d ih => exact markS_nextT d ih

end Go.Proofs.YtpnhhhhmonbajaaGreat

