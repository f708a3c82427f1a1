import Derived.Test.YtjkkokjojaknkaaDoorG12
import Derived.Test.YtjkkokjojaknkaaDoorRR17
import Derived.Test.YtjkkokjojaknkaaDoorLX3
import Derived.Test.YtjkkokjojaknkaaDoorIB1
namespace Go.Proofs.YtjkkokjojaknkaaDoor
open Go.RowKit

set_option maxRecDepth 10000 in
set_option maxHeartbeats 4000000 in
theorem specCanon_any (a : Option Addr) (n cap : Nat) (bs : List Int) (w : World) (h : Row w a n bs) (hcap : n ≤ cap) (hn63 : n ≤ 9223372036854775807) :
    Calls Tryd.prog 29 #[.slice a n cap] w fun ev w' => CnPost bs w ev w' := by
  have HC := specReadItem_any a n cap true bs w h hcap hn63
  have hby := h.byte
  have hlen := h.len
  clear h
  cases hrd : readR true bs with
  | no c p =>
    rw [hrd] at HC
    have hcode := readR_code hrd
    have hne : ((c : Int) != 0) = true := by simp; omega
    have hf : Hid (cnL bs = [] ∧ cO (readR true bs) = c ∧ pO (readR true bs) = p) := by show _ ∧ _ ∧ _; unfold cnL; rw [hrd]; exact ⟨rfl, rfl, rfl⟩
    clear hrd hby
    go_enter Tryd.func29, Tryd.ntmps29
    go_wp2_with (go_at_call 21; refine HC.mono ?_; rintro ev w3 ⟨hb3, hev⟩; obtain rfl : ev = .returned (.tuple #[.agg #[.int .i64 0, .int .i64 0, .bool false, .slice none 0 0, .slice none 0 0], .int .i64 (c : Int), .int .i64 (p : Int)]) := hev; have hs3 := hb3.size)
    go_ret3
    refine ⟨(hb3.alloc hs3 _).alloc (by simp; omega) _, some ⟨w3.heap.size + 1, 0, none⟩, 0, ?_⟩
    rw [hf.out.1, hf.out.2.1, hf.out.2.2]
    exact ⟨rfl, own_zero _ _ _ (by simp) (by simp; omega)⟩
  | ok x nx =>
    rw [hrd] at HC
    obtain ⟨l, hl1, hl2⟩ := readR_enc hby hrd
    have hf : Hid (cnL bs = l ∧ cO (readR true bs) = 0 ∧ pO (readR true bs) = 0) := by show _ ∧ _ ∧ _; unfold cnL; rw [hrd]; exact ⟨by simp only [hl1]; rfl, rfl, rfl⟩
    have HEN : Hid (enc 12 x = some l) := hl1
    clear hrd hby hl1
    go_enter Tryd.func29, Tryd.ntmps29
    go_wp2_with fail
    refine HC.mono ?_
    rintro ev w3 ⟨hb3, ab, nb, cb, ak, nk, ck, M, rfl, m1, m2, ob, ok⟩
    have hal : Below w3.heap.size w3 (w3.alloc (.cells #[.int .i64 x.cls, .int .i64 x.tag, .bool x.cons, .slice ab nb cb, .slice ak nk ck] 26)) := (Below.refl _ _).alloc (Nat.le_refl _) _
    have hs3 := hb3.size
    have HI := specBytes_all 12 12 x l ab nb cb ak nk ck (w3.alloc (.cells #[.int .i64 x.cls, .int .i64 x.tag, .bool x.cons, .slice ab nb cb, .slice ak nk ck] 26)) HEN.out (ob.kept hal).own.toRow ob.own.nil (ok.kept hal).kids
    have hbb : Below w.heap.size w (w3.alloc (.cells #[.int .i64 x.cls, .int .i64 x.tag, .bool x.cons, .slice ab nb cb, .slice ak nk ck] 26)) := hb3.trans (hal.mono hs3)
    have hsa : (w3.alloc (.cells #[.int .i64 x.cls, .int .i64 x.tag, .bool x.cons, .slice ab nb cb, .slice ak nk ck] 26)).heap.size = w3.heap.size + 1 := by simp
    have HBB : Hid (_) := hbb
    clear ob ok hal hbb HC
    unfold itv at HI ⊢
    go_wp2_with fail
    refine HI.mono ?_
    rintro ev w4 ⟨a4, c4, rfl, ho4, hb4⟩
    have hb5 := HBB.out.trans (hb4.mono (by omega))
    go_wp2
    go_ret3
    refine ⟨hb5, a4, c4, ?_⟩
    rw [hf.out.1, hf.out.2.1, hf.out.2.2]
    exact ⟨rfl, ho4.mono (by omega)⟩

end Go.Proofs.YtjkkokjojaknkaaDoor

namespace Go.Proofs.YtjkkokjojaknkaaDoor
open Go.RowKit

theorem sread_any (a : Option Addr) (n cap : Nat) (lax : Bool) (bs : List Int) (w : World) (h : Row w a n bs) (hcap : n ≤ cap) (hn63 : n ≤ 9223372036854775807) :
    Calls Tryd.prog 21 #[.slice a n cap, .bool lax] w fun ev w' => RdI (yO (readR lax bs)) (cO (readR lax bs)) (pO (readR lax bs)) w ev w' := by
  refine (specReadItem_any a n cap lax bs w h hcap hn63).mono ?_
  intro ev w' hp
  obtain ⟨b2, ab, nb, cb, ak, nk, ck, M, rfl, m1, m2, ob, ok⟩ := hp.out
  have hs := readR_size lax bs
  have hl := ob.own.length
  exact ⟨b2, ab, nb, cb, ak, nk, ck, rfl, ob.own.toRow, ob.own.nil, by omega, ok.kids, by omega⟩
/-- What is read laxly: either nothing is, strictly or laxly, or its one form is no longer, and is itself just when it is read strictly. -/
theorem lax_cases {l : List Int} (hb : ∀ i, 0 ≤ l.getD i 0 ∧ l.getD i 0 ≤ 255) :
    (cO (readR true l) ≠ 0 ∧ cO (readR false l) ≠ 0 ∧ cnL l = []) ∨
    (cO (readR true l) = 0 ∧ ∃ l', enc 12 (yO (readR true l)) = some l' ∧ l'.length ≤ l.length ∧ cnL l = l' ∧ (cO (readR false l) = 0 → l' = l ∧ yO (readR false l) = yO (readR true l)) ∧ (l' = l → cO (readR false l) = 0)) := by
  cases h2 : readR true l with
  | no c p =>
    refine .inl ⟨?_, ?_, ?_⟩
    · have := readR_code h2
      simp only [cO]
      omega
    · cases h1 : readR false l with
      | no c1 p1 =>
        have := readR_code h1
        simp only [cO]
        omega
      | ok x nx =>
        have h3 := readR_exact hb h1
        have h4 := readR_back (lax := true) h3
        rw [h2] at h4
        cases h4
    · unfold cnL
      rw [h2]
  | ok y nx =>
    obtain ⟨l', h3, h4⟩ := readR_enc hb h2
    refine .inr ⟨rfl, l', h3, h4, ?_, ?_, ?_⟩
    · unfold cnL
      rw [h2]
      show (enc 12 y).getD [] = l'
      rw [h3]
      rfl
    · intro h0
      cases h1 : readR false l with
      | no c1 p1 =>
        have := readR_code h1
        rw [h1] at h0
        simp only [cO] at h0
        omega
      | ok x nx1 =>
        have h5 := readR_exact hb h1
        have h6 := readR_back (lax := true) h5
        rw [h2] at h6
        cases h6
        rw [h3] at h5
        exact ⟨Option.some.inj h5, rfl⟩
    · intro h5
      rw [h5] at h3
      rw [readR_back (lax := false) h3]
      rfl

set_option maxRecDepth 10000 in
set_option maxHeartbeats 4000000 in
theorem drawReadItem_any (a : Option Addr) (n cap : Nat) (bs : List Int) (w : World) (h : Row w a n bs) (hn : n ≤ 1000000000) :
    Calls Tryd.prog 20 #[.slice a n cap] w fun e w' => ∃ a' k c' l b, e = .returned (.tuple #[.slice a' k c', .bool b]) ∧ k ≤ 2000100 ∧ Row w' a' k l ∧ (a' = none → c' = 0) ∧ k ≤ c' ∧ Below w.heap.size w w' := by
  have H : Hid (Row w a n bs) := h
  clear h
  go_enter Tryd.func20, Tryd.ntmps20
  go_wp2_with fail
  refine (open_any a n cap bs w H.out hn).mono ?_
  rintro e w1 ⟨rfl, hr1, hb1⟩
  obtain ⟨g, hg0⟩ : ∃ g, g = w.heap.size := ⟨_, rfl⟩
  have hg : Hid (g = w.heap.size) := hg0
  rw [← hg0] at hr1 ⊢
  clear hg0
  go_wp2_with fail
  refine (once_any g a n cap bs 2 _ hr1 (by decide) (by decide)).mono ?_
  rintro e w2 ⟨v2, rfl, hr2⟩
  go_wp2_with fail
  refine (drawBytes_any g a n cap bs w2 hr2.1).mono ?_
  rintro e w3 ⟨a', k, c', l, rfl, hk, hrow, hnil, hkc, hr3⟩
  have hB : Below w.heap.size w w3 := by
    have := hr2.step hr3
    rw [hg.out] at this
    exact RdPost.below hb1 this
  go_wp2
  go_ret2
  exact ⟨a', k, c', l, v2, rfl, hk, hrow, hnil, hkc, hB⟩

end Go.Proofs.YtjkkokjojaknkaaDoor
