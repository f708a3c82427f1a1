import Derived.Test.YtpnhhhhmonbajaaGreatEM1
namespace Go.Proofs.YtpnhhhhmonbajaaGreat
open Go.RowKit

/-- The j-th eight bytes of the stream of k. -/
def strmW (k : Int) (j : Nat) : List Int := eightI (triN smX (eightI k) (putI (j : Int)))
def strm (k : Int) : Nat → List Int
  | 0 => []
  | j + 1 => strm k j ++ strmW k j
theorem strm_len (k : Int) (j : Nat) : (strm k j).length = 8 * j := by
  induction j with
  | zero => rfl
  | succ j ih => rw [strm, List.length_append, ih, strmW, eightI_len]; omega
def nblk (n : Nat) : Nat := (n + 7) / 8
def maskL (k : Int) (bs : List Int) : List Int := xorL bs (strm k (nblk bs.length))
def pkN (s : ByteArray) (salt : List Int) (r : Nat) : Int := stepsN (triN psX (strL s) salt) r
theorem pkN_bd (s : ByteArray) (salt : List Int) (r : Nat) : U64 (pkN s salt r) := stepsN_bd _ (triN_bd _ _ _) r
theorem own_nilE (B : Nat) (w : World) : Own B w none 0 0 [] := ⟨World.ownsRow_nil w B 5 1, by simp⟩
theorem own_zeroE (B : Nat) (w : World) (g : Nat) (hg : w.heap.size = g) (h : B ≤ w.heap.size) : Own B (w.alloc (.cells #[] 5)) (some ⟨g, 0, none⟩) 0 0 [] := by
  subst hg
  exact ⟨World.ownsRow_lit w #[] 0 h (by decide) rfl, by simp⟩
def lkP (n s m : Nat) (r : Int) : Prop := n ≤ 4000 ∧ s ≤ 100 ∧ m ≤ 16 ∧ 1 ≤ r ∧ r ≤ 1000

set_option maxRecDepth 10000 in
set_option maxHeartbeats 1000000 in
theorem clone_any (a : Option Addr) (n cap : Nat) (bs : List Int) (w : World) (h : Row w a n bs) (hnil : a = none → cap = 0) (hn : n ≤ 1048576) :
    Calls Tryz.prog 25 #[.slice a n cap] w fun e w' => ∃ a' cap', e = .returned (.slice a' n cap') ∧ Own w.heap.size w' a' n cap' bs ∧ Below w.heap.size w w' := by
  obtain ⟨i0, hi, hz0, hz1, hz2⟩ := info_parts Tryz.info5
  cases a with
  | none =>
    obtain ⟨rfl, rfl⟩ := row_none h
    obtain rfl := hnil rfl
    clear h
    have he : ∀ w : World, (binOp .eql 22 (.slice none 0 0) (.slice none 0 0)).run Tryz.prog w = .ok (.bool true) w := fun _ => rfl
    go_enter Tryz.func25, Tryz.ntmps25
    go_wp2
    go_ret
    exact ⟨none, 0, rfl, own_nilE _ _, Below.refl _ _⟩
  | some ad =>
    have hB1 : Below w.heap.size w (w.alloc (.cells #[] 5)) := (Below.refl _ _).alloc (Nat.le_refl _) _
    have HO : Hid (Own w.heap.size (w.alloc (.cells #[] 5)) (some ⟨w.heap.size, 0, none⟩) 0 0 []) := own_zeroE _ _ _ rfl (Nat.le_refl _)
    have HR : Hid (Row w (some ad) n bs) := h
    clear h
    have he : ∀ w : World, (binOp .eql 22 (.slice (some ad) n cap) (.slice none 0 0)).run Tryz.prog w = .ok (.bool false) w := fun _ => rfl
    go_enter Tryz.func25, Tryz.ntmps25
    go_wp2_with (at_builtin; refine wpList_append_row _ rfl (.tmp 5) (.tmp 6) 22 rfl w.heap.size i0 Tryz.underlying22 hi hz0 hz1 hz2 _ _ _ rfl HO.out.row (some ad) n cap bs rfl (HR.out.kept hB1) hnil (by omega) hB1.size ?_; intro v1 w1 hv1 hg1; obtain ⟨a1, c1, rfl, ho1⟩ := own_appended (xs := []) (ys := bs) hv1 HO.out.byte HR.out.byte; have hb1 : Below w.heap.size w w1 := below_appended hB1 hB1.size HO.out.row hg1)
    go_ret
    have ho1' : Own w.heap.size w1 a1 n c1 bs := by simpa using ho1
    exact ⟨a1, c1, by simp [Array.getD], ho1', hb1⟩

end Go.Proofs.YtpnhhhhmonbajaaGreat
