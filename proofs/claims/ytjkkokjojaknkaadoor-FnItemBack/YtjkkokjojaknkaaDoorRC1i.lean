import Derived.Test.YtjkkokjojaknkaaDoorRR14
import Derived.Test.YtjkkokjojaknkaaDoorRC0
import Derived.Test.YtjkkokjojaknkaaDoorRS0
namespace Go.Proofs.YtjkkokjojaknkaaDoor
open Go.RowKit

/-- What Canon answers: the bytes of what is read laxly, or none and the fault. -/
def cnL (bs : List Int) : List Int := match readR true bs with
  | .ok x _ => (enc 12 x).getD []
  | .no _ _ => []
def CnPost (bs : List Int) (w : World) (ev : Ending) (w' : World) : Prop := Below w.heap.size w w' ∧ ∃ a cap, ev = .returned (.tuple #[.slice a (cnL bs).length cap, .int .i64 (cO (readR true bs)), .int .i64 (pO (readR true bs))]) ∧ Own w.heap.size w' a (cnL bs).length cap (cnL bs)

theorem readR_code {lax : Bool} {bs : List Int} {c p : Nat} (h : readR lax bs = .no c p) : c ≠ 0 := by
  unfold readR at h
  split at h
  · cases h; decide
  · cases hi : itemR lax bs 12 0 bs.length with
    | no c2 p2 => rw [hi] at h; cases h; exact itemR_code 12 0 bs.length (Nat.zero_le _) hi
    | ok y n2 =>
      rw [hi] at h
      simp only at h
      split at h
      · cases h; decide
      · cases h

set_option maxRecDepth 10000 in
set_option maxHeartbeats 4000000 in
theorem implCanon_any (a : Option Addr) (n cap : Nat) (bs : List Int) (w : World) (hE : ErrT w) (h : Row w a n bs) (hcap : n ≤ cap) (hn63 : n ≤ 9223372036854775807) :
    Calls Tryd.prog 16 #[.slice a n cap] w fun ev w' => CnPost bs w ev w' := by
  have HC := implReadItem_any a n cap true bs w hE h hcap hn63
  have hby := h.byte
  have hlen := h.len
  clear h hE
  cases hrd : readR true bs with
  | no c p =>
    rw [hrd] at HC
    have hcode := readR_code hrd
    have hne : ((c : Int) != 0) = true := by simp; omega
    have hf : Hid (cnL bs = [] ∧ cO (readR true bs) = c ∧ pO (readR true bs) = p) := by show _ ∧ _ ∧ _; unfold cnL; rw [hrd]; exact ⟨rfl, rfl, rfl⟩
    clear hrd hby
    go_enter Tryd.func16, Tryd.ntmps16
    go_wp2_with (go_at_call 14; refine HC.mono ?_; rintro ev w3 ⟨hb3, hev⟩; obtain rfl : ev = .returned (.tuple #[.agg #[.int .i64 0, .int .i64 0, .bool false, .slice none 0 0, .slice none 0 0], .int .i64 (c : Int), .int .i64 (p : Int)]) := hev)
    go_ret3
    refine ⟨hb3.alloc hb3.size _, none, 0, ?_⟩
    rw [hf.out.1, hf.out.2.1, hf.out.2.2]
    exact ⟨rfl, own_none _ _⟩
  | ok x nx =>
    rw [hrd] at HC
    obtain ⟨l, hl1, hl2⟩ := readR_enc hby hrd
    have hf : Hid (cnL bs = l ∧ cO (readR true bs) = 0 ∧ pO (readR true bs) = 0) := by show _ ∧ _ ∧ _; unfold cnL; rw [hrd]; exact ⟨by simp only [hl1]; rfl, rfl, rfl⟩
    have HEN : Hid (enc 12 x = some l) := hl1
    clear hrd hby hl1
    go_enter Tryd.func16, Tryd.ntmps16
    go_wp2_with fail
    refine HC.mono ?_
    rintro ev w3 ⟨hb3, ab, nb, cb, ak, nk, ck, M, rfl, m1, m2, ob, ok⟩
    have hal : Below w3.heap.size w3 (w3.alloc (.cells #[.int .i64 x.cls, .int .i64 x.tag, .bool x.cons, .slice ab nb cb, .slice ak nk ck] 26)) := (Below.refl _ _).alloc (Nat.le_refl _) _
    have hs3 := hb3.size
    have HI := implItemBytes_any 12 x ab nb cb ak nk ck (w3.alloc (.cells #[.int .i64 x.cls, .int .i64 x.tag, .bool x.cons, .slice ab nb cb, .slice ak nk ck] 26)) (ob.kept hal).own.toRow ob.own.nil ob.own.max (ok.kept hal).kids
    have hbb : Below w.heap.size w (w3.alloc (.cells #[.int .i64 x.cls, .int .i64 x.tag, .bool x.cons, .slice ab nb cb, .slice ak nk ck] 26)) := hb3.trans (hal.mono hs3)
    have hsa : (w3.alloc (.cells #[.int .i64 x.cls, .int .i64 x.tag, .bool x.cons, .slice ab nb cb, .slice ak nk ck] 26)).heap.size = w3.heap.size + 1 := by simp
    rw [HEN.out] at HI
    have HBB : Hid (_) := hbb
    clear ob ok hal hbb HC
    unfold itv at HI ⊢
    go_wp2_with fail
    refine HI.mono ?_
    rintro ev w4 ⟨hans, hb4⟩
    rcases hans with ⟨a4, n4, c4, bs4, rfl, he4, ho4⟩ | ⟨rfl, he4⟩
    · obtain rfl : l = bs4 := by simpa using he4.out
      obtain rfl : n4 = l.length := ho4.length.symm
      have hb5 := HBB.out.trans (hb4.mono (by omega))
      go_wp2
      go_ret3
      refine ⟨hb5, a4, c4, ?_⟩
      rw [hf.out.1, hf.out.2.1, hf.out.2.2]
      exact ⟨rfl, ho4.mono (by omega)⟩
    · cases he4.out

end Go.Proofs.YtjkkokjojaknkaaDoor
