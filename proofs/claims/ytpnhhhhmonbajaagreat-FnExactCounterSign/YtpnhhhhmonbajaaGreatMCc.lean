import Derived.Test.YtpnhhhhmonbajaaGreatMSC
import Derived.Test.YtpnhhhhmonbajaaGreatTouch
import Derived.Test.YtpnhhhhmonbajaaGreatMCb
namespace Go.Proofs.YtpnhhhhmonbajaaGreat
open Go.RowKit

theorem saV_len (sc x h n : Int) (ms : List Int) : (saV sc x h n ms).1.length ≤ 1000 := by
  unfold saV
  split
  · rename_i hk
    split
    · rename_i h1
      have hg : grpP x h n := hk.elim (fun a => a.2) (fun a => absurd a.1 (by omega))
      have hs : secP x := hg.1
      show (sgG x ms).length ≤ 1000
      unfold sgG
      rw [List.length_append]
      have e1 : (signR x ms).1.1 ≤ 9223372036854775807 := by unfold signR; rw [if_pos hs]; exact Int.le_trans (chalN_bd _ _ _).2 (by decide)
      have e2 : (signR x ms).1.2 ≤ 9223372036854775807 := by unfold signR; rw [if_pos hs]; show (nonN x ms + sigE x ms * x) % 500000003 ≤ _; omega
      have := putI_len _ e1
      have := putI_len _ e2
      omega
    · rename_i h1
      have hkk : kP h n := hk.elim (fun a => absurd a.1 h1) (fun a => a.2)
      show (saT x h n ms).1.length ≤ 1000
      unfold saT
      split
      · simp
      · show (sgT x h n ms).length ≤ 1000
        unfold sgT
        rw [List.length_append, flatL_len, List.length_append, endSs_len, pathN_len]
        have hb : n ≤ 9223372036854775807 := by
          have a1 := hkk.2.2
          have a2 : 2 ^ h.toNat ≤ 2 ^ 5 := Nat.pow_le_pow_right (by decide) (by have := hkk.1; omega)
          omega
        have := putI_len n hb
        have := hkk.1
        omega
  · simp

/-- The boxes of the law: the secret that came in, the one that the specification told, the one that the program told. -/
structure Sxs (K sB gB : Nat) (sc x h n : Int) (t : Sc4) (W : World) : Prop where
  k : W.heap[K]? = some (.cells #[.int .i64 sc, .int .u64 x, .int .i64 h, .int .i64 n] 28)
  s : W.heap[sB]? = some (.cells #[.int .i64 t.1, .int .u64 t.2.1, .int .i64 t.2.2.1, .int .i64 t.2.2.2] 33)
  g : W.heap[gB]? = some (.cells #[.int .i64 t.1, .int .u64 t.2.1, .int .i64 t.2.2.1, .int .i64 t.2.2.2] 33)
theorem Sxs.touch {K sB gB : Nat} {sc x h n : Int} {t : Sc4} {W W' : World} {lo hi : Nat} (b : Sxs K sB gB sc x h n t W) (ht : Touch lo hi W W') (h1 : K < lo ∨ hi ≤ K) (h2 : sB < lo ∨ hi ≤ sB) (h3 : gB < lo ∨ hi ≤ gB) : Sxs K sB gB sc x h n t W' :=
  ⟨(ht.block _ (Array.getElem?_eq_some_iff.1 b.k).1 h1).trans b.k, (ht.block _ (Array.getElem?_eq_some_iff.1 b.s).1 h2).trans b.s, (ht.block _ (Array.getElem?_eq_some_iff.1 b.g).1 h3).trans b.g⟩
theorem Sxs.kept {K sB gB : Nat} {sc x h n : Int} {t : Sc4} {W W' : World} (b : Sxs K sB gB sc x h n t W) (hb : Below W.heap.size W W') : Sxs K sB gB sc x h n t W' :=
  ⟨(hb.block _ (Array.getElem?_eq_some_iff.1 b.k).1).trans b.k, (hb.block _ (Array.getElem?_eq_some_iff.1 b.s).1).trans b.s, (hb.block _ (Array.getElem?_eq_some_iff.1 b.g).1).trans b.g⟩
theorem touch_grownS {w w' : World} {r : Option Nat} {lo hi : Nat} (hg : w.grownBy w' r) (hr : ∀ k, r = some k → lo ≤ k ∧ k < hi) : Touch lo hi w w' :=
  ⟨hg.os, hg.tape, hg.output, hg.size, fun k hk ho => hg.block k hk (fun e => by have := hr k e.symm; omega)⟩
theorem own_touchS {w w' : World} {B lo hi : Nat} {a : Option Addr} {n cap : Nat} {bs : List Int} (h : Own B w a n cap bs) (ht : Touch lo hi w w') (hd : hi ≤ B) : Own B w' a n cap bs := by
  refine ⟨⟨h.row.1, ?_⟩, h.byte⟩
  rcases h.row.2 with hv | ⟨g, cap, cur, hv, hb, hg, rest⟩
  · exact .inl hv
  · exact .inr ⟨g, cap, cur, hv, hb, (ht.block g (Array.getElem?_eq_some_iff.1 hg).1 (by omega)).trans hg, rest⟩

set_option maxRecDepth 10000 in
set_option maxHeartbeats 1000000 in
theorem eqSecret_same (t : Sc4) (w : World) :
    Calls Tryz.prog 10 #[scw t, scw t] w fun e w' => e = .returned (.bool true) ∧ Below w.heap.size w w' := by
  obtain ⟨a, b, c, d⟩ := t
  unfold scw
  have z1 : (a != a) = false := by simp
  have z2 : (b != b) = false := by simp
  have z3 : (c != c) = false := by simp
  have z4 : (d != d) = false := by simp
  have hbb : Below w.heap.size w ((w.alloc (.cells #[.int .i64 a, .int .u64 b, .int .i64 c, .int .i64 d] 33)).alloc (.cells #[.int .i64 a, .int .u64 b, .int .i64 c, .int .i64 d] 33)) := two_below _ _ _
  go_enter Tryz.func10, Tryz.ntmps10
  go_wp2
  go_ret
  exact ⟨rfl, hbb⟩

end Go.Proofs.YtpnhhhhmonbajaaGreat

set_option linter.unusedVariables false
namespace Go.Proofs.YtpnhhhhmonbajaaGreat
open Go.RowKit

theorem asV_rng (sc x h n : Int) (ms : List Int) (hx : U64 x) : U64 (asV sc x h n ms).k ∧ U64 (asV sc x h n ms).t.2.1 := by
  have z : U64 0 := ⟨by decide, by decide⟩
  unfold asV
  split
  · refine ⟨hashL_bd _, ?_⟩
    unfold saV
    split
    · split
      · exact hx
      · exact hx
    · exact z
  · exact ⟨z, z⟩
theorem asV_len (sc x h n : Int) (ms : List Int) : (asV sc x h n ms).sg.length ≤ 1000 := by
  unfold asV
  split
  · exact saV_len _ _ _ _ _
  · exact Nat.zero_le _
theorem nsV_rngT (tag : Int) (ws : List Int) (at2 sc x h nx : Int) (hx : U64 x) : U64 (nsV tag ws at2 sc x h nx).k := by
  have z : U64 0 := ⟨by decide, by decide⟩
  unfold nsV
  split
  · exact (asV_rng _ _ _ _ _ hx).1
  · exact z
theorem nsV_lenT (tag : Int) (ws : List Int) (at2 sc x h nx : Int) : (nsV tag ws at2 sc x h nx).sg.length ≤ 1000 := by
  unfold nsV
  split
  · exact asV_len _ _ _ _ _
  · exact Nat.zero_le _
/-- A tree that ends within d levels weighs no more at another. -/
theorem kids_wt (d : Nat) : ∀ {w : World} {a : Option Addr} {n : Nat} {xs : List ItT}, KidsT d w a n xs → wtST (d + 1) xs = wtST d xs := by
  induction d with
  | zero => intro w a n xs h; exact h.elim
  | succ d ih =>
    intro w a n xs h
    show xs.length + (xs.map fun x => x.sg.length + wtST (d + 1) x.over).sum = xs.length + (xs.map fun x => x.sg.length + wtST d x.over).sum
    congr 2
    refine List.map_congr_left (fun x hx => ?_)
    obtain ⟨k, hk, rfl⟩ := List.getElem_of_mem hx
    obtain ⟨bq, oq, hA, hlb1, ab, nb, cb, ak, nk, ck, e0, e1, e2, e3, hrow, hnil, hnb, hu, hov⟩ := h.2.2 k (by rw [← h.len.1]; exact hk)
    have e : xs.getD k default = xs[k] := by simp [hk]
    rw [e] at hov
    rw [ih hov]
theorem KidsT.more {d : Nat} : ∀ {w : World} {a : Option Addr} {n : Nat} {xs : List ItT}, KidsT d w a n xs → KidsT (d + 1) w a n xs := by
  induction d with
  | zero => intro w a n xs h; exact h.elim
  | succ d ih =>
    intro w a n xs h
    refine ⟨h.1, h.2.1, fun k hk => ?_⟩
    obtain ⟨bq, oq, hA, hlb1, ab, nb, cb, ak, nk, ck, e0, e1, e2, e3, hrow, hnil, hnb, hu, hov⟩ := h.2.2 k hk
    exact ⟨bq, oq, hA, hlb1, ab, nb, cb, ak, nk, ck, e0, e1, e2, e3, hrow, hnil, hnb, hu, ih hov⟩
theorem sum_set (f : ItT → Nat) : ∀ (xs : List ItT) (k : Nat) (z : ItT), k < xs.length → ((xs.set k z).map f).sum + f (xs.getD k default) = (xs.map f).sum + f z
  | [], k, z, h => absurd h (Nat.not_lt_zero _)
  | x :: xs, 0, z, h => by simp; omega
  | x :: xs, k + 1, z, h => by
    have := sum_set f xs k z (by simpa using h)
    simp at this ⊢
    omega
theorem wt_put (d : Nat) (xs : List ItT) (k : Nat) (y : ItT) (hk : k < xs.length) (hy : y.over = []) : wtST (d + 3) (xs.set k (overT (xs.getD k default) y)) ≤ wtST (d + 3) xs + 1 + y.sg.length := by
  show (xs.set k _).length + ((xs.set k _).map fun x => x.sg.length + wtST (d + 2) x.over).sum ≤ xs.length + (xs.map fun x => x.sg.length + wtST (d + 2) x.over).sum + 1 + y.sg.length
  have h1 := sum_set (fun x => x.sg.length + wtST (d + 2) x.over) xs k (overT (xs.getD k default) y) hk
  have h2 : wtST (d + 2) (overT (xs.getD k default) y).over = wtST (d + 2) (xs.getD k default).over + 1 + y.sg.length := by
    show ((xs.getD k default).over ++ [y]).length + (((xs.getD k default).over ++ [y]).map fun x => x.sg.length + wtST (d + 1) x.over).sum = (xs.getD k default).over.length + ((xs.getD k default).over.map fun x => x.sg.length + wtST (d + 1) x.over).sum + 1 + y.sg.length
    simp [hy, wtST]
    omega
  have h3 : (overT (xs.getD k default) y).sg = (xs.getD k default).sg := rfl
  simp only [h2, h3] at h1
  rw [List.length_set]
  omega
/-- What the answer weighs. -/
theorem csV_small (D nn : Nat) (ws : List Int) (xs : List ItT) (i at2 sc x h nx : Int) (w : World) (a : Option Addr) (n : Nat) (hk : KidsT D w a n xs) (hw : wtST D xs ≤ 1048576) (hl : ws.length ≤ 1048576) : wtST (D + 2) (csV nn ws xs i at2 sc x h nx).gs ≤ 2000000 ∧ (csV nn ws xs i at2 sc x h nx).ct.length ≤ 1048576 := by
  have z : ∀ c, wtST (D + 2) (csBad c).gs ≤ 2000000 ∧ (csBad c).ct.length ≤ 1048576 := fun c => ⟨by show wtST (D + 2) [] ≤ _; simp [wtST], by show ([] : List Int).length ≤ _; simp⟩
  unfold csV
  split
  · rename_i hg
    unfold csGo
    split
    · refine ⟨?_, hl⟩
      have hi := hg.2.1
      obtain ⟨d, rfl⟩ : ∃ d, D = d + 1 := by
        cases D with
        | zero => exact hk.elim
        | succ d => exact ⟨d, rfl⟩
      have h1 := wt_put d xs i.toNat (sgTr (nsV 9 (xs.getD i.toNat default).sg at2 sc x h nx)) (by omega) rfl
      have h2 := nsV_lenT 9 (xs.getD i.toNat default).sg at2 sc x h nx
      have h3 := kids_wt (d + 1) hk
      have h4 := kids_wt (d + 2) hk.more
      have h5 : (sgTr (nsV 9 (xs.getD i.toNat default).sg at2 sc x h nx)).sg.length ≤ 1000 := h2
      have h6 : wtST (d + 3) xs ≤ 1048576 := Nat.le_trans (Nat.le_of_eq (h4.trans h3)) hw
      exact Nat.le_trans h1 (by omega)
    · exact z _
  · exact z _

def Ty (w : World) (b : Nat) : Prop := ∃ cs t fr, w.heap[b]? = some (.cells cs t fr) ∧ (t = 5 ∨ t = 47)
theorem ty_row {B e k n : Nat} {w : World} {v : Value} {xs : List Value} (h : w.ownsRow B e k v n xs) (he : e = 5 ∨ e = 47) (b : Nat) (hb : v.ownBlock = some b) : Ty w b := by
  rcases h.2 with ⟨hv, _⟩ | ⟨g, cap, cur, hv, _, hh, _⟩
  · rw [hv] at hb; cases hb
  · rw [hv] at hb
    have : g = b := by injection hb
    rw [this] at hh
    exact ⟨cur, e, (0, 0), hh, he⟩
theorem Ty.ne {w : World} {b g t : Nat} {cs : Array Value} {fr : Nat × Nat} (h : Ty w b) (hg : w.heap[g]? = some (.cells cs t fr)) (h1 : t ≠ 5) (h2 : t ≠ 47) : b ≠ g := fun e => by
  obtain ⟨cs', t', fr', h3, h4⟩ := h
  rw [e, hg] at h3
  injection h3 with h3
  injection h3 with h3 h5 h6
  rcases h4 with h4 | h4
  · exact h1 (h5.trans h4)
  · exact h2 (h5.trans h4)
theorem OwnBX.typed {S : Nat → Prop} {w : World} {a : Option Addr} {n c : Nat} {bs : List Int} (h : OwnBX S w a n c bs) : OwnBX (fun b => S b ∧ Ty w b) w a n c bs := ⟨h.own, fun k hk => ⟨h.lt k hk, ty_row h.own.row (.inl rfl) k hk⟩⟩
theorem OwnKidsX.typed (d : Nat) : ∀ {S : Nat → Prop} {w : World} {a : Option Addr} {n c : Nat} {xs : List ItT}, OwnKidsX d S w a n c xs → OwnKidsX d (fun b => S b ∧ Ty w b) w a n c xs := by
  induction d with
  | zero => intro S w a n c xs h; exact h.elim
  | succ d ih =>
    intro S w a n c xs h
    obtain ⟨h0, h1, ⟨vs, hr⟩, hS, h2⟩ := h
    refine ⟨h0, h1, ⟨vs, hr⟩, fun k hk => ⟨hS k hk, ty_row hr (.inr rfl) k hk⟩, ?_⟩
    rcases h2 with h2 | ⟨g, rfl, T, t1, t2, t3⟩
    · exact .inl h2
    · refine .inr ⟨g, rfl, fun k b => T k b ∧ Ty w b, fun k hk b hb => ⟨⟨(t1 k hk b hb.1).1, hb.2⟩, (t1 k hk b hb.1).2⟩, fun j k hj hk b hb hb2 => t2 j k hj hk b hb.1 hb2.1, fun k hk => ?_⟩
      obtain ⟨ab, nb, cb, ak, nk, ck, U, V, c0, c1, c3, c4, m1, m2, m3, hu, ob, ok⟩ := t3 k hk
      exact ⟨ab, nb, cb, ak, nk, ck, fun b => U b ∧ Ty w b, fun b => V b ∧ Ty w b, c0, c1, c3, c4, fun b hb => ⟨m1 b hb.1, hb.2⟩, fun b hb => ⟨m2 b hb.1, hb.2⟩, fun b hb hb2 => m3 b hb.1 hb2.1, hu, ob.typed, ih ok⟩
/-- A message of our own, between lo and hi. -/
structure MsgI (D lo hi : Nat) (w : World) (a1 : Option Addr) (n1 c1 : Nat) (ws : List Int) (a2 : Option Addr) (n2 c2 : Nat) (xs : List ItT) : Prop where
  ex : ∃ U V : Nat → Prop, MsgX D U V w a1 n1 c1 ws a2 n2 c2 xs ∧ ∀ b, U b ∨ V b → lo ≤ b ∧ b < hi ∧ b < w.heap.size ∧ Ty w b
theorem MsgI.of {D lo hi : Nat} {U V : Nat → Prop} {w : World} {a1 : Option Addr} {n1 c1 : Nat} {ws : List Int} {a2 : Option Addr} {n2 c2 : Nat} {xs : List ItT} (h : MsgX D U V w a1 n1 c1 ws a2 n2 c2 xs) (hb : ∀ b, U b ∨ V b → lo ≤ b ∧ b < hi) : MsgI D lo hi w a1 n1 c1 ws a2 n2 c2 xs := by
  refine ⟨_, _, ⟨h.ct.typed, h.sg.typed D, fun b hb hb2 => h.ap b hb.1 hb2.1⟩, fun b hb' => ?_⟩
  have ht : Ty w b := hb'.elim (fun h => h.2) (fun h => h.2)
  have h1 := hb b (hb'.imp (fun h => h.1) (fun h => h.1))
  obtain ⟨cs, t, fr, h2, _⟩ := id ht
  exact ⟨h1.1, h1.2, (Array.getElem?_eq_some_iff.1 h2).1, ht⟩
theorem MsgI.touch {D lo hi : Nat} {w w' : World} {a1 : Option Addr} {n1 c1 : Nat} {ws : List Int} {a2 : Option Addr} {n2 c2 : Nat} {xs : List ItT} {P : Nat → Prop} (h : MsgI D lo hi w a1 n1 c1 ws a2 n2 c2 xs) (ht : TouchX P w w') (hd : ∀ b, lo ≤ b → b < hi → Ty w b → ¬ P b) : MsgI D lo hi w' a1 n1 c1 ws a2 n2 c2 xs := by
  obtain ⟨U, V, h1, h2⟩ := h
  refine MsgI.of (h1.move (fun b hb => ?_) (fun b hb => ?_) ht) (fun b hb => ⟨(h2 b hb).1, (h2 b hb).2.1⟩)
  · exact hd b (h2 b (.inl hb)).1 (h2 b (.inl hb)).2.1 (h2 b (.inl hb)).2.2.2
  · exact hd b (h2 b (.inr hb)).1 (h2 b (.inr hb)).2.1 (h2 b (.inr hb)).2.2.2
theorem MsgI.kept {D lo hi : Nat} {w w' : World} {a1 : Option Addr} {n1 c1 : Nat} {ws : List Int} {a2 : Option Addr} {n2 c2 : Nat} {xs : List ItT} (h : MsgI D lo hi w a1 n1 c1 ws a2 n2 c2 xs) (hb : Below w.heap.size w w') : MsgI D lo hi w' a1 n1 c1 ws a2 n2 c2 xs := h.touch (P := fun _ => False) (TouchX.of_below hb) (fun _ _ _ _ h => h)
theorem MsgI.mono {D lo hi lo' hi' : Nat} {w : World} {a1 : Option Addr} {n1 c1 : Nat} {ws : List Int} {a2 : Option Addr} {n2 c2 : Nat} {xs : List ItT} (h : MsgI D lo hi w a1 n1 c1 ws a2 n2 c2 xs) (h1 : lo' ≤ lo) (h2 : hi ≤ hi') : MsgI D lo' hi' w a1 n1 c1 ws a2 n2 c2 xs := by
  obtain ⟨U, V, h3, h4⟩ := h
  exact ⟨U, V, h3, fun b hb => ⟨Nat.le_trans h1 (h4 b hb).1, Nat.lt_of_lt_of_le (h4 b hb).2.1 h2, (h4 b hb).2.2⟩⟩
theorem MsgI.row {D lo hi : Nat} {w : World} {a1 : Option Addr} {n1 c1 : Nat} {ws : List Int} {a2 : Option Addr} {n2 c2 : Nat} {xs : List ItT} (h : MsgI D lo hi w a1 n1 c1 ws a2 n2 c2 xs) : Row w a1 n1 ws := by obtain ⟨U, V, h1, _⟩ := h; exact h1.ct.own.toRow
theorem MsgI.kids {D lo hi : Nat} {w : World} {a1 : Option Addr} {n1 c1 : Nat} {ws : List Int} {a2 : Option Addr} {n2 c2 : Nat} {xs : List ItT} (h : MsgI D lo hi w a1 n1 c1 ws a2 n2 c2 xs) : KidsT D w a2 n2 xs := by obtain ⟨U, V, h1, _⟩ := h; exact h1.sg.over
def MsgO (D lo : Nat) (w : World) (a1 : Option Addr) (n1 c1 : Nat) (ws : List Int) (a2 : Option Addr) (n2 c2 : Nat) (xs : List ItT) : Prop := MsgI D lo w.heap.size w a1 n1 c1 ws a2 n2 c2 xs
theorem MsgO.kept {D lo : Nat} {w w' : World} {a1 : Option Addr} {n1 c1 : Nat} {ws : List Int} {a2 : Option Addr} {n2 c2 : Nat} {xs : List ItT} (h : MsgO D lo w a1 n1 c1 ws a2 n2 c2 xs) (hb : Below w.heap.size w w') : MsgO D lo w' a1 n1 c1 ws a2 n2 c2 xs := (MsgI.kept h hb).mono (Nat.le_refl _) hb.size
theorem MsgO.mono {D lo lo' : Nat} {w : World} {a1 : Option Addr} {n1 c1 : Nat} {ws : List Int} {a2 : Option Addr} {n2 c2 : Nat} {xs : List ItT} (h : MsgO D lo w a1 n1 c1 ws a2 n2 c2 xs) (h1 : lo' ≤ lo) : MsgO D lo' w a1 n1 c1 ws a2 n2 c2 xs := MsgI.mono h h1 (Nat.le_refl _)
theorem MsgO.touched {D lo g t : Nat} {w w' : World} {cs : Array Value} {fr : Nat × Nat} {a1 : Option Addr} {n1 c1 : Nat} {ws : List Int} {a2 : Option Addr} {n2 c2 : Nat} {xs : List ItT} (h : MsgO D lo w a1 n1 c1 ws a2 n2 c2 xs) (hg : w.heap[g]? = some (.cells cs t fr)) (h1 : t ≠ 5) (h2 : t ≠ 47) (ht : Touch g (g + 1) w w') : MsgO D lo w' a1 n1 c1 ws a2 n2 c2 xs :=
  (MsgI.touch h ht.toX (fun b _ _ hy e => hy.ne hg h1 h2 (by omega))).mono (Nat.le_refl _) ht.size
/-- A copy that the law made. -/
theorem ownKids_touchedT (d : Nat) : ∀ {lo hi : Nat} {w w' : World} {a : Option Addr} {n : Nat} {xs : List ItT} {g t : Nat} {cs : Array Value} {fr : Nat × Nat}, OwnKidsT d lo hi w a n xs → w.heap[g]? = some (.cells cs t fr) → t ≠ 5 → t ≠ 47 → Touch g (g + 1) w w' → OwnKidsT d lo hi w' a n xs := by
  induction d with
  | zero => intro _ _ _ _ _ _ _ _ _ _ _ h; exact h.elim
  | succ d ih =>
    intro lo hi w w' a n xs g t cs fr h hg h1 h2 ht
    obtain ⟨p0, p1, p2⟩ := h
    refine ⟨p0, p1, ?_⟩
    rcases p2 with p2 | ⟨gr, cap, vs, rfl, q1, q2, hr, L, H, l1, l2, l3⟩
    · exact .inl p2
    · have hne : gr ≠ g := (ty_row hr (.inr rfl) gr rfl).ne hg h1 h2
      have hblk : w'.heap[gr]? = w.heap[gr]? := ht.block gr (hr.lt gr rfl).2 (by omega)
      have hc : ∀ j, w'.cell? ⟨gr, j, none⟩ = w.cell? ⟨gr, j, none⟩ := fun j => World.cell?_of_block (a := ⟨gr, j, none⟩) hblk
      refine .inr ⟨gr, cap, vs, rfl, q1, q2, ownsRow_box hr hg h2 ht, L, H, l1, l2, fun k hk => ?_⟩
      obtain ⟨ab, nb, cb, ak, nk, ck, M, c0, c1, c3, c4, m1, m2, hu, ob, ok⟩ := l3 k hk
      exact ⟨ab, nb, cb, ak, nk, ck, M, (hc _).trans c0, (hc _).trans c1, (hc _).trans c3, (hc _).trans c4, m1, m2, hu, ⟨⟨ownsRow_box ob.own.row hg h1 ht, ob.own.byte⟩, ob.lt⟩, ih ok hg h1 h2 ht⟩
def CpyM (D B nn n : Nat) (ws : List Int) (xs : List ItT) (t1 t2 : Option Addr) (w : World) : Prop := ∃ M hi, B ≤ M ∧ OwnBT B M w t1 nn nn ws ∧ OwnKidsT D M hi w t2 n xs
theorem CpyM.kept {D B nn n : Nat} {ws : List Int} {xs : List ItT} {t1 t2 : Option Addr} {w w' : World} (h : CpyM D B nn n ws xs t1 t2 w) (hb : Below w.heap.size w w') : CpyM D B nn n ws xs t1 t2 w' := by
  obtain ⟨M, hi, h0, h1, h2⟩ := h
  exact ⟨M, hi, h0, h1.kept hb, h2.kept hb⟩
theorem CpyM.touched {D B nn n g t : Nat} {ws : List Int} {xs : List ItT} {t1 t2 : Option Addr} {w w' : World} {cs : Array Value} {fr : Nat × Nat} (h : CpyM D B nn n ws xs t1 t2 w) (hg : w.heap[g]? = some (.cells cs t fr)) (h1 : t ≠ 5) (h2 : t ≠ 47) (ht : Touch g (g + 1) w w') : CpyM D B nn n ws xs t1 t2 w' := by
  obtain ⟨M, hi, h0, h3, h4⟩ := h
  exact ⟨M, hi, h0, ⟨⟨ownsRow_box h3.own.row hg h1 ht, h3.own.byte⟩, h3.lt⟩, ownKids_touchedT D h4 hg h1 h2 ht⟩

/-- The answer of each. -/
def CsPost (D : Nat) (V : CsV) (w : World) (e : Ending) (w' : World) : Prop := ∃ a1 c1 a2 c2, e = .returned (csOut V a1 c1 a2 c2) ∧ MsgO (D + 2) w.heap.size w' a1 V.ct.length c1 V.ct a2 V.gs.length c2 V.gs ∧ Below w.heap.size w w'
theorem csPost_bad (D : Nat) (c : Int) (w : World) (e : Ending) (w' : World) (h : e = .returned (csOut (csBad c) none 0 none 0) ∧ Below w.heap.size w w') : CsPost D (csBad c) w e w' :=
  ⟨none, 0, none, 0, h.1, MsgI.of (msgX_none (D + 1) w') (fun b hb => hb.elim (fun h => h.elim) (fun h => h.elim)), h.2⟩
theorem implCounterSign_any (D : Nat) (am : Option Addr) (nn cm : Nat) (ws : List Int) (a : Option Addr) (n c : Nat) (xs : List ItT) (i at2 sc x h nx : Int) (w : World) (hr : Row w am nn ws) (hcm : am = none → cm = 0) (hnn : nn ≤ 9223372036854775807) (hk : KidsT D w a n xs) (hx : U64 x) (hi : -9223372036854775808 ≤ i ∧ i ≤ 9223372036854775807) (hwt : wtST D xs ≤ 1048576) :
    Calls Tryz.prog 8 #[.agg #[.slice am nn cm, .slice a n c], .int .i64 i, .int .i64 at2, .agg #[.int .i64 sc, .int .u64 x, .int .i64 h, .int .i64 nx]] w (CsPost D (csV nn ws xs i at2 sc x h nx) w) := by
  by_cases hg : csG nn xs i at2
  · have hV : csV nn ws xs i at2 sc x h nx = csGo ws xs i.toNat (nsV 9 (xs.getD i.toNat default).sg at2 sc x h nx) := by unfold csV; rw [if_pos hg]
    by_cases hcd : (nsV 9 (xs.getD i.toNat default).sg at2 sc x h nx).cd = 0
    · rw [hV]
      refine (implCounterSign_good D am nn cm ws a n c xs i at2 sc x h nx w hr hcm hnn hk hx hg _ rfl hcd (nsV_rngT _ _ _ _ _ _ _ hx) hwt).mono ?_
      rintro e w' ⟨a1, c1, a2, c2, U, S, he, hm, hb, hbl⟩
      exact ⟨a1, c1, a2, c2, he, MsgI.of hm hb, hbl⟩
    · have hV2 : csV nn ws xs i at2 sc x h nx = csBad (nsV 9 (xs.getD i.toNat default).sg at2 sc x h nx).cd := by rw [hV]; unfold csGo; rw [if_neg hcd]
      rw [hV2]
      exact (implCounterSign_code D am nn cm ws a n c xs i at2 sc x h nx w hr hcm hnn hk hx hg _ rfl hcd).mono (fun e w' h => csPost_bad D _ w e w' h)
  · have hV : csV nn ws xs i at2 sc x h nx = csBad 1 := by unfold csV; rw [if_neg hg]
    rw [hV]
    exact (implCounterSign_bad D am nn cm a n c xs i at2 sc x h nx w hnn hk hi.1 hi.2 hg).mono (fun e w' h => csPost_bad D _ w e w' h)
theorem specCounterSign_any (HSPEC : ∀ (seed h next : Int) (am : Option Addr) (n c : Nat) (bs : List Int) (w : World), U64 seed → Row w am n bs → n ≤ 1000000000000 → Calls Tryz.prog 50 #[tkv seed h next, .slice am n c] w fun e w' => ∃ v, e = .returned v ∧ SgR seed h next bs w.heap.size w' v ∧ Below w.heap.size w w') (D : Nat) (am : Option Addr) (nn cm : Nat) (ws : List Int) (a : Option Addr) (n c : Nat) (xs : List ItT) (i at2 sc x h nx : Int) (w : World) (hr : Row w am nn ws) (hcm : am = none → cm = 0) (hnn : nn ≤ 9223372036854775807) (hk : KidsT D w a n xs) (hx : U64 x) (hi : -9223372036854775808 ≤ i ∧ i ≤ 9223372036854775807) (hwt : wtST D xs ≤ 1048576) :
    Calls Tryz.prog 5 #[.agg #[.slice am nn cm, .slice a n c], .int .i64 i, .int .i64 at2, .agg #[.int .i64 sc, .int .u64 x, .int .i64 h, .int .i64 nx]] w (CsPost D (csV nn ws xs i at2 sc x h nx) w) := by
  by_cases hg : csG nn xs i at2
  · have hV : csV nn ws xs i at2 sc x h nx = csGo ws xs i.toNat (nsV 9 (xs.getD i.toNat default).sg at2 sc x h nx) := by unfold csV; rw [if_pos hg]
    by_cases hcd : (nsV 9 (xs.getD i.toNat default).sg at2 sc x h nx).cd = 0
    · rw [hV]
      refine (specCounterSign_good HSPEC D am nn cm ws a n c xs i at2 sc x h nx w hr hcm hnn hk hx hg _ rfl hcd (nsV_rngT _ _ _ _ _ _ _ hx) hwt).mono ?_
      rintro e w' ⟨a1, c1, a2, c2, U, S, he, hm, hb, hbl⟩
      exact ⟨a1, c1, a2, c2, he, MsgI.of hm hb, hbl⟩
    · have hV2 : csV nn ws xs i at2 sc x h nx = csBad (nsV 9 (xs.getD i.toNat default).sg at2 sc x h nx).cd := by rw [hV]; unfold csGo; rw [if_neg hcd]
      rw [hV2]
      exact (specCounterSign_code HSPEC D am nn cm ws a n c xs i at2 sc x h nx w hr hcm hnn hk hx hg _ rfl hcd).mono (fun e w' h => csPost_bad D _ w e w' h)
  · have hV : csV nn ws xs i at2 sc x h nx = csBad 1 := by unfold csV; rw [if_neg hg]
    rw [hV]
    exact (specCounterSign_bad D am nn cm a n c xs i at2 sc x h nx w hnn hk hi.1 hi.2 hg).mono (fun e w' h => csPost_bad D _ w e w' h)

end Go.Proofs.YtpnhhhhmonbajaaGreat

set_option linter.unusedVariables false
namespace Go.Proofs.YtpnhhhhmonbajaaGreat
open Go.RowKit Go.Sort

/-- Boxes that lie there. -/
structure Bxs (L : List (Nat × Array Value × Nat)) (W : World) : Prop where
  all : ∀ p ∈ L, W.heap[p.1]? = some (.cells p.2.1 p.2.2 (0, 0))
theorem Bxs.kept {L : List (Nat × Array Value × Nat)} {W W' : World} (h : Bxs L W) (hb : Below W.heap.size W W') : Bxs L W' := ⟨fun p hp => below_kept (h.all p hp) hb⟩
theorem Bxs.touch {L : List (Nat × Array Value × Nat)} {W W' : World} {lo hi : Nat} (h : Bxs L W) (ht : Touch lo hi W W') (hd : ∀ p ∈ L, p.1 < lo ∨ hi ≤ p.1) : Bxs L W' := ⟨fun p hp => touch_kept ht (h.all p hp) (hd p hp)⟩
theorem markMsgI_any (D lo hi : Nat) (a1 : Option Addr) (n1 c1 : Nat) (ws : List Int) (a2 : Option Addr) (n2 c2 : Nat) (xs : List ItT) (w : World) (h : MsgI D lo hi w a1 n1 c1 ws a2 n2 c2 xs) (hn : n1 ≤ 1048576) (hw : wtST D xs ≤ 2000000) :
    Calls Tryz.prog 11 #[.agg #[.slice a1 n1 c1, .slice a2 n2 c2], .int .i64 1] w fun e w' => e = .returned (.int .i64 ((mkST D xs (1 + n1)).2 : Nat)) ∧ MsgI D lo hi w' a1 n1 c1 (marks 1 n1) a2 n2 c2 (mkST D xs (1 + n1)).1 ∧ Touch lo hi w w' ∧ ∀ (b : Nat) (cs : Array Value) (t : Nat) (fr : Nat × Nat), w.heap[b]? = some (.cells cs t fr) → t ≠ 5 → t ≠ 47 → w'.heap[b]? = some (.cells cs t fr) := by
  obtain ⟨U, V, h1, h2⟩ := h
  refine (markMsgX_any D U V a1 n1 c1 ws a2 n2 c2 xs w h1 (fun b hb => (h2 b (.inl hb)).2.2.1) (fun b hb => (h2 b (.inr hb)).2.2.1) hn hw).mono ?_
  rintro e w' ⟨he, hm, ht⟩
  refine ⟨he, MsgI.of hm (fun b hb => ⟨(h2 b hb).1, (h2 b hb).2.1⟩), ht.touch (fun b hb => ⟨(h2 b hb).1, (h2 b hb).2.1⟩), fun b cs t fr hb h5 h6 => ?_⟩
  exact (ht.block b (Array.getElem?_eq_some_iff.1 hb).1 (fun e => (h2 b e).2.2.2.ne hb h5 h6 rfl)).trans hb

/-- What is known of a region (RJ). -/
def cl5 (D : Nat) (am : Option Addr) (nn cm : Nat) (ws : List Int) (a : Option Addr) (n c : Nat) (xs : List ItT) (i at2 sc x h nx : Int) (V : CsV) (G B : Nat) : RSpec where
  m := 16
  n := 18
  slots := [29, 30, 31, 32, 33, 34, 35, 28, 36, 37, 38, 10, 11, 10, 11, 12, 100016, 100017]
  kills := [[], [], [], [], [], [], [], [], [], [], [], [13], [14], [], [], [], [], []]
  pres := [[], [], [], [], [], [], [], [], [], [], [], [], [], [11], [12], [], [], []]
  fact := fun k v w => match k with
    | 0 => v = .agg #[.slice am nn cm, .slice a n c]
    | 1 => ∃ t1 t2, v = .agg #[.slice t1 nn nn, .slice t2 n n] ∧ CpyM D B nn n ws xs t1 t2 w
    | 2 => v = .int .i64 i
    | 3 => v = .int .i64 at2
    | 4 => v = .agg #[.int .i64 sc, .int .u64 x, .int .i64 h, .int .i64 nx]
    | 5 => v = .agg #[.int .i64 sc, .int .u64 x, .int .i64 h, .int .i64 nx]
    | 6 => ∃ r1 r1c r2 r2c, v = .tuple #[.agg #[.slice r1 V.ct.length r1c, .slice r2 V.gs.length r2c], .agg #[.int .i64 V.t.1, .int .u64 V.t.2.1, .int .i64 V.t.2.2.1, .int .i64 V.t.2.2.2], .int .i64 V.cd] ∧ MsgO (D + 2) B w r1 V.ct.length r1c V.ct r2 V.gs.length r2c V.gs
    | 7 => ∃ r1 r1c r2 r2c, v = .tuple #[.agg #[.slice r1 V.ct.length r1c, .slice r2 V.gs.length r2c], .agg #[.int .i64 V.t.1, .int .u64 V.t.2.1, .int .i64 V.t.2.2.1, .int .i64 V.t.2.2.2], .int .i64 V.cd] ∧ MsgO (D + 2) B w r1 V.ct.length r1c V.ct r2 V.gs.length r2c V.gs
    | 8 => ∃ r1 r1c r2 r2c, v = .agg #[.slice r1 V.ct.length r1c, .slice r2 V.gs.length r2c] ∧ MsgO (D + 2) B w r1 V.ct.length r1c V.ct r2 V.gs.length r2c V.gs
    | 9 => v = .agg #[.int .i64 V.t.1, .int .u64 V.t.2.1, .int .i64 V.t.2.2.1, .int .i64 V.t.2.2.2]
    | 10 => v = .int .i64 V.cd
    | 11 => ∃ gb11, v = .pointer (some ⟨gb11, 0, none⟩) ∧ w.heap[gb11]? = some (.cells #[.slice none 0 0, .slice none 0 0] 32 (0, 0)) ∧ B ≤ gb11
    | 12 => ∃ gb12, v = .pointer (some ⟨gb12, 0, none⟩) ∧ w.heap[gb12]? = some (.cells #[.int .i64 0, .int .u64 0, .int .i64 0, .int .i64 0] 33 (0, 0)) ∧ B ≤ gb12
    | 13 => ∃ gs13 r1 r1c r2 r2c, v = .pointer (some ⟨gs13, 0, none⟩) ∧ w.heap[gs13]? = some (.cells #[.slice r1 V.ct.length r1c, .slice r2 V.gs.length r2c] 32 (0, 0)) ∧ B ≤ gs13 ∧ MsgO (D + 2) B w r1 V.ct.length r1c V.ct r2 V.gs.length r2c V.gs
    | 14 => ∃ gs14, v = .pointer (some ⟨gs14, 0, none⟩) ∧ w.heap[gs14]? = some (.cells #[.int .i64 V.t.1, .int .u64 V.t.2.1, .int .i64 V.t.2.2.1, .int .i64 V.t.2.2.2] 33 (0, 0)) ∧ B ≤ gs14
    | 15 => v = .int .i64 V.cd
    | 16 => w.heap[G]? = some (.cells #[.slice am nn cm, .slice a n c] 25 (0, 0))
    | _ => w.heap[(G + 1)]? = some (.cells #[.int .i64 sc, .int .u64 x, .int .i64 h, .int .i64 nx] 28 (0, 0))
set_option linter.unusedVariables false in
theorem cl5_stb (D : Nat) (am : Option Addr) (nn cm : Nat) (ws : List Int) (a : Option Addr) (n c : Nat) (xs : List ItT) (i at2 sc x h nx : Int) (V : CsV) (G B : Nat) (k : Nat) (hk : k < 18) : StB ((cl5 D am nn cm ws a n c xs i at2 sc x h nx V G (B)).fact k) := by
  match k, hk with
  | 0, _ => exact fun _ _ _ h _ => h
  | 1, _ => exact fun _ _ _ ⟨t1, t2, hv, q_0⟩ hb => ⟨t1, t2, hv, q_0.kept hb⟩
  | 2, _ => exact fun _ _ _ h _ => h
  | 3, _ => exact fun _ _ _ h _ => h
  | 4, _ => exact fun _ _ _ h _ => h
  | 5, _ => exact fun _ _ _ h _ => h
  | 6, _ => exact fun _ _ _ ⟨r1, r1c, r2, r2c, hv, q_0⟩ hb => ⟨r1, r1c, r2, r2c, hv, q_0.kept hb⟩
  | 7, _ => exact fun _ _ _ ⟨r1, r1c, r2, r2c, hv, q_0⟩ hb => ⟨r1, r1c, r2, r2c, hv, q_0.kept hb⟩
  | 8, _ => exact fun _ _ _ ⟨r1, r1c, r2, r2c, hv, q_0⟩ hb => ⟨r1, r1c, r2, r2c, hv, q_0.kept hb⟩
  | 9, _ => exact fun _ _ _ h _ => h
  | 10, _ => exact fun _ _ _ h _ => h
  | 11, _ => exact fun _ _ _ ⟨gb11, hv, q_0, q_1⟩ hb => ⟨gb11, hv, below_kept q_0 hb, q_1⟩
  | 12, _ => exact fun _ _ _ ⟨gb12, hv, q_0, q_1⟩ hb => ⟨gb12, hv, below_kept q_0 hb, q_1⟩
  | 13, _ => exact fun _ _ _ ⟨gs13, r1, r1c, r2, r2c, hv, q_0, q_1, q_2⟩ hb => ⟨gs13, r1, r1c, r2, r2c, hv, below_kept q_0 hb, q_1, q_2.kept hb⟩
  | 14, _ => exact fun _ _ _ ⟨gs14, hv, q_0, q_1⟩ hb => ⟨gs14, hv, below_kept q_0 hb, q_1⟩
  | 15, _ => exact fun _ _ _ h _ => h
  | 16, _ => exact fun _ _ _ q_0 hb => below_kept q_0 hb
  | 17, _ => exact fun _ _ _ q_0 hb => below_kept q_0 hb
  | k + 18, hk => omega
set_option linter.unusedVariables false in
theorem cl5_st13 (D : Nat) (am : Option Addr) (nn cm : Nat) (ws : List Int) (a : Option Addr) (n c : Nat) (xs : List ItT) (i at2 sc x h nx : Int) (V : CsV) (G B : Nat) {W W2 : World} {g : Nat} {cs : Array Value} {fr : Nat × Nat} (hg : W.heap[g]? = some (.cells cs 32 fr)) (ht : Touch (g) (g + 1) W W2) (hge : B ≤ g) (k : Nat) (hk : k < 18) (hne : k ≠ 13) (hkill : 13 ∉ (cl5 D am nn cm ws a n c xs i at2 sc x h nx V G (B)).kill k) (v : Value) (hfact : (cl5 D am nn cm ws a n c xs i at2 sc x h nx V G (B)).fact k v W) : (cl5 D am nn cm ws a n c xs i at2 sc x h nx V G (B)).fact k v W2 := by
  match k, hk, hne, hkill, hfact with
  | 0, _, _, _, hq => exact hq
  | 1, _, _, _, ⟨t1, t2, hv, q_0⟩ => exact ⟨t1, t2, hv, q_0.touched hg (by decide) (by decide) ht⟩
  | 2, _, _, _, hq => exact hq
  | 3, _, _, _, hq => exact hq
  | 4, _, _, _, hq => exact hq
  | 5, _, _, _, hq => exact hq
  | 6, _, _, _, ⟨r1, r1c, r2, r2c, hv, q_0⟩ => exact ⟨r1, r1c, r2, r2c, hv, q_0.touched hg (by decide) (by decide) ht⟩
  | 7, _, _, _, ⟨r1, r1c, r2, r2c, hv, q_0⟩ => exact ⟨r1, r1c, r2, r2c, hv, q_0.touched hg (by decide) (by decide) ht⟩
  | 8, _, _, _, ⟨r1, r1c, r2, r2c, hv, q_0⟩ => exact ⟨r1, r1c, r2, r2c, hv, q_0.touched hg (by decide) (by decide) ht⟩
  | 9, _, _, _, hq => exact hq
  | 10, _, _, _, hq => exact hq
  | 11, _, _, hkill, _ => exact absurd (List.Mem.head _) hkill
  | 12, _, _, _, ⟨gb12, hv, q_0, q_1⟩ => exact ⟨gb12, hv, box_box q_0 hg (by decide) ht, q_1⟩
  | 13, _, hne, _, _ => exact absurd rfl hne
  | 14, _, _, _, ⟨gs14, hv, q_0, q_1⟩ => exact ⟨gs14, hv, box_box q_0 hg (by decide) ht, q_1⟩
  | 15, _, _, _, hq => exact hq
  | 16, _, _, _, q_0 => exact box_box q_0 hg (by decide) ht
  | 17, _, _, _, q_0 => exact box_box q_0 hg (by decide) ht
  | k + 18, hk, _, _, _ => omega
set_option linter.unusedVariables false in
theorem cl5_st14 (D : Nat) (am : Option Addr) (nn cm : Nat) (ws : List Int) (a : Option Addr) (n c : Nat) (xs : List ItT) (i at2 sc x h nx : Int) (V : CsV) (G B : Nat) {W W2 : World} {g : Nat} {cs : Array Value} {fr : Nat × Nat} (hg : W.heap[g]? = some (.cells cs 33 fr)) (ht : Touch (g) (g + 1) W W2) (hge : B ≤ g) (k : Nat) (hk : k < 18) (hne : k ≠ 14) (hkill : 14 ∉ (cl5 D am nn cm ws a n c xs i at2 sc x h nx V G (B)).kill k) (v : Value) (hfact : (cl5 D am nn cm ws a n c xs i at2 sc x h nx V G (B)).fact k v W) : (cl5 D am nn cm ws a n c xs i at2 sc x h nx V G (B)).fact k v W2 := by
  match k, hk, hne, hkill, hfact with
  | 0, _, _, _, hq => exact hq
  | 1, _, _, _, ⟨t1, t2, hv, q_0⟩ => exact ⟨t1, t2, hv, q_0.touched hg (by decide) (by decide) ht⟩
  | 2, _, _, _, hq => exact hq
  | 3, _, _, _, hq => exact hq
  | 4, _, _, _, hq => exact hq
  | 5, _, _, _, hq => exact hq
  | 6, _, _, _, ⟨r1, r1c, r2, r2c, hv, q_0⟩ => exact ⟨r1, r1c, r2, r2c, hv, q_0.touched hg (by decide) (by decide) ht⟩
  | 7, _, _, _, ⟨r1, r1c, r2, r2c, hv, q_0⟩ => exact ⟨r1, r1c, r2, r2c, hv, q_0.touched hg (by decide) (by decide) ht⟩
  | 8, _, _, _, ⟨r1, r1c, r2, r2c, hv, q_0⟩ => exact ⟨r1, r1c, r2, r2c, hv, q_0.touched hg (by decide) (by decide) ht⟩
  | 9, _, _, _, hq => exact hq
  | 10, _, _, _, hq => exact hq
  | 11, _, _, _, ⟨gb11, hv, q_0, q_1⟩ => exact ⟨gb11, hv, box_box q_0 hg (by decide) ht, q_1⟩
  | 12, _, _, hkill, _ => exact absurd (List.Mem.head _) hkill
  | 13, _, _, _, ⟨gs13, r1, r1c, r2, r2c, hv, q_0, q_1, q_2⟩ => exact ⟨gs13, r1, r1c, r2, r2c, hv, box_box q_0 hg (by decide) ht, q_1, q_2.touched hg (by decide) (by decide) ht⟩
  | 14, _, hne, _, _ => exact absurd rfl hne
  | 15, _, _, _, hq => exact hq
  | 16, _, _, _, q_0 => exact box_box q_0 hg (by decide) ht
  | 17, _, _, _, q_0 => exact box_box q_0 hg (by decide) ht
  | k + 18, hk, _, _, _ => omega
/-- What is known of a region (RJ). -/
def cl7 (D : Nat) (am : Option Addr) (nn cm : Nat) (ws : List Int) (a : Option Addr) (n c : Nat) (xs : List ItT) (i at2 sc x h nx : Int) (V : CsV) (p1 p2 : Option Addr) (gx G B : Nat) : RSpec where
  m := 15
  n := 17
  slots := [42, 43, 44, 45, 46, 47, 41, 48, 49, 50, 14, 15, 14, 15, 16, 100015, 100016]
  kills := [[], [], [], [], [], [], [], [], [], [], [12], [13], [], [], [], [], []]
  pres := [[], [], [], [], [], [], [], [], [], [], [], [], [10], [11], [], [], []]
  fact := fun k v w => match k with
    | 0 => v = .agg #[.slice p1 nn nn, .slice p2 n n]
    | 1 => v = .int .i64 i
    | 2 => v = .int .i64 at2
    | 3 => v = .agg #[.int .i64 sc, .int .u64 x, .int .i64 h, .int .i64 nx]
    | 4 => v = .agg #[.int .i64 sc, .int .u64 x, .int .i64 h, .int .i64 nx]
    | 5 => ∃ r1 r1c r2 r2c, v = .tuple #[.agg #[.slice r1 V.ct.length r1c, .slice r2 V.gs.length r2c], .agg #[.int .i64 V.t.1, .int .u64 V.t.2.1, .int .i64 V.t.2.2.1, .int .i64 V.t.2.2.2], .int .i64 V.cd] ∧ MsgO (D + 2) B w r1 V.ct.length r1c V.ct r2 V.gs.length r2c V.gs
    | 6 => ∃ r1 r1c r2 r2c, v = .tuple #[.agg #[.slice r1 V.ct.length r1c, .slice r2 V.gs.length r2c], .agg #[.int .i64 V.t.1, .int .u64 V.t.2.1, .int .i64 V.t.2.2.1, .int .i64 V.t.2.2.2], .int .i64 V.cd] ∧ MsgO (D + 2) B w r1 V.ct.length r1c V.ct r2 V.gs.length r2c V.gs
    | 7 => ∃ r1 r1c r2 r2c, v = .agg #[.slice r1 V.ct.length r1c, .slice r2 V.gs.length r2c] ∧ MsgO (D + 2) B w r1 V.ct.length r1c V.ct r2 V.gs.length r2c V.gs
    | 8 => v = .agg #[.int .i64 V.t.1, .int .u64 V.t.2.1, .int .i64 V.t.2.2.1, .int .i64 V.t.2.2.2]
    | 9 => v = .int .i64 V.cd
    | 10 => ∃ gb10, v = .pointer (some ⟨gb10, 0, none⟩) ∧ w.heap[gb10]? = some (.cells #[.slice none 0 0, .slice none 0 0] 32 (0, 0)) ∧ B ≤ gb10
    | 11 => ∃ gb11, v = .pointer (some ⟨gb11, 0, none⟩) ∧ w.heap[gb11]? = some (.cells #[.int .i64 0, .int .u64 0, .int .i64 0, .int .i64 0] 33 (0, 0)) ∧ B ≤ gb11
    | 12 => ∃ gs12 r1 r1c r2 r2c, v = .pointer (some ⟨gs12, 0, none⟩) ∧ w.heap[gs12]? = some (.cells #[.slice r1 V.ct.length r1c, .slice r2 V.gs.length r2c] 32 (0, 0)) ∧ B ≤ gs12 ∧ MsgO (D + 2) B w r1 V.ct.length r1c V.ct r2 V.gs.length r2c V.gs
    | 13 => ∃ gs13, v = .pointer (some ⟨gs13, 0, none⟩) ∧ w.heap[gs13]? = some (.cells #[.int .i64 V.t.1, .int .u64 V.t.2.1, .int .i64 V.t.2.2.1, .int .i64 V.t.2.2.2] 33 (0, 0)) ∧ B ≤ gs13
    | 14 => v = .int .i64 V.cd
    | 15 => w.heap[gx]? = some (.cells #[.slice p1 nn nn, .slice p2 n n] 32 (0, 0)) ∧ gx < B
    | _ => w.heap[(G + 1)]? = some (.cells #[.int .i64 sc, .int .u64 x, .int .i64 h, .int .i64 nx] 28 (0, 0))
set_option linter.unusedVariables false in
theorem cl7_stb (D : Nat) (am : Option Addr) (nn cm : Nat) (ws : List Int) (a : Option Addr) (n c : Nat) (xs : List ItT) (i at2 sc x h nx : Int) (V : CsV) (p1 p2 : Option Addr) (gx G B : Nat) (k : Nat) (hk : k < 17) : StB ((cl7 D am nn cm ws a n c xs i at2 sc x h nx V p1 p2 gx G (B)).fact k) := by
  match k, hk with
  | 0, _ => exact fun _ _ _ h _ => h
  | 1, _ => exact fun _ _ _ h _ => h
  | 2, _ => exact fun _ _ _ h _ => h
  | 3, _ => exact fun _ _ _ h _ => h
  | 4, _ => exact fun _ _ _ h _ => h
  | 5, _ => exact fun _ _ _ ⟨r1, r1c, r2, r2c, hv, q_0⟩ hb => ⟨r1, r1c, r2, r2c, hv, q_0.kept hb⟩
  | 6, _ => exact fun _ _ _ ⟨r1, r1c, r2, r2c, hv, q_0⟩ hb => ⟨r1, r1c, r2, r2c, hv, q_0.kept hb⟩
  | 7, _ => exact fun _ _ _ ⟨r1, r1c, r2, r2c, hv, q_0⟩ hb => ⟨r1, r1c, r2, r2c, hv, q_0.kept hb⟩
  | 8, _ => exact fun _ _ _ h _ => h
  | 9, _ => exact fun _ _ _ h _ => h
  | 10, _ => exact fun _ _ _ ⟨gb10, hv, q_0, q_1⟩ hb => ⟨gb10, hv, below_kept q_0 hb, q_1⟩
  | 11, _ => exact fun _ _ _ ⟨gb11, hv, q_0, q_1⟩ hb => ⟨gb11, hv, below_kept q_0 hb, q_1⟩
  | 12, _ => exact fun _ _ _ ⟨gs12, r1, r1c, r2, r2c, hv, q_0, q_1, q_2⟩ hb => ⟨gs12, r1, r1c, r2, r2c, hv, below_kept q_0 hb, q_1, q_2.kept hb⟩
  | 13, _ => exact fun _ _ _ ⟨gs13, hv, q_0, q_1⟩ hb => ⟨gs13, hv, below_kept q_0 hb, q_1⟩
  | 14, _ => exact fun _ _ _ h _ => h
  | 15, _ => exact fun _ _ _ ⟨q_0, q_1⟩ hb => ⟨below_kept q_0 hb, q_1⟩
  | 16, _ => exact fun _ _ _ q_0 hb => below_kept q_0 hb
  | k + 17, hk => omega
set_option linter.unusedVariables false in
theorem cl7_st12 (D : Nat) (am : Option Addr) (nn cm : Nat) (ws : List Int) (a : Option Addr) (n c : Nat) (xs : List ItT) (i at2 sc x h nx : Int) (V : CsV) (p1 p2 : Option Addr) (gx G B : Nat) {W W2 : World} {g : Nat} {cs : Array Value} {fr : Nat × Nat} (hg : W.heap[g]? = some (.cells cs 32 fr)) (ht : Touch (g) (g + 1) W W2) (hge : B ≤ g) (k : Nat) (hk : k < 17) (hne : k ≠ 12) (hkill : 12 ∉ (cl7 D am nn cm ws a n c xs i at2 sc x h nx V p1 p2 gx G (B)).kill k) (v : Value) (hfact : (cl7 D am nn cm ws a n c xs i at2 sc x h nx V p1 p2 gx G (B)).fact k v W) : (cl7 D am nn cm ws a n c xs i at2 sc x h nx V p1 p2 gx G (B)).fact k v W2 := by
  match k, hk, hne, hkill, hfact with
  | 0, _, _, _, hq => exact hq
  | 1, _, _, _, hq => exact hq
  | 2, _, _, _, hq => exact hq
  | 3, _, _, _, hq => exact hq
  | 4, _, _, _, hq => exact hq
  | 5, _, _, _, ⟨r1, r1c, r2, r2c, hv, q_0⟩ => exact ⟨r1, r1c, r2, r2c, hv, q_0.touched hg (by decide) (by decide) ht⟩
  | 6, _, _, _, ⟨r1, r1c, r2, r2c, hv, q_0⟩ => exact ⟨r1, r1c, r2, r2c, hv, q_0.touched hg (by decide) (by decide) ht⟩
  | 7, _, _, _, ⟨r1, r1c, r2, r2c, hv, q_0⟩ => exact ⟨r1, r1c, r2, r2c, hv, q_0.touched hg (by decide) (by decide) ht⟩
  | 8, _, _, _, hq => exact hq
  | 9, _, _, _, hq => exact hq
  | 10, _, _, hkill, _ => exact absurd (List.Mem.head _) hkill
  | 11, _, _, _, ⟨gb11, hv, q_0, q_1⟩ => exact ⟨gb11, hv, box_box q_0 hg (by decide) ht, q_1⟩
  | 12, _, hne, _, _ => exact absurd rfl hne
  | 13, _, _, _, ⟨gs13, hv, q_0, q_1⟩ => exact ⟨gs13, hv, box_box q_0 hg (by decide) ht, q_1⟩
  | 14, _, _, _, hq => exact hq
  | 15, _, _, _, ⟨q_0, q_1⟩ => exact ⟨(ht.block _ (Array.getElem?_eq_some_iff.1 q_0).1 (by omega)).trans q_0, q_1⟩
  | 16, _, _, _, q_0 => exact box_box q_0 hg (by decide) ht
  | k + 17, hk, _, _, _ => omega
set_option linter.unusedVariables false in
theorem cl7_st13 (D : Nat) (am : Option Addr) (nn cm : Nat) (ws : List Int) (a : Option Addr) (n c : Nat) (xs : List ItT) (i at2 sc x h nx : Int) (V : CsV) (p1 p2 : Option Addr) (gx G B : Nat) {W W2 : World} {g : Nat} {cs : Array Value} {fr : Nat × Nat} (hg : W.heap[g]? = some (.cells cs 33 fr)) (ht : Touch (g) (g + 1) W W2) (hge : B ≤ g) (k : Nat) (hk : k < 17) (hne : k ≠ 13) (hkill : 13 ∉ (cl7 D am nn cm ws a n c xs i at2 sc x h nx V p1 p2 gx G (B)).kill k) (v : Value) (hfact : (cl7 D am nn cm ws a n c xs i at2 sc x h nx V p1 p2 gx G (B)).fact k v W) : (cl7 D am nn cm ws a n c xs i at2 sc x h nx V p1 p2 gx G (B)).fact k v W2 := by
  match k, hk, hne, hkill, hfact with
  | 0, _, _, _, hq => exact hq
  | 1, _, _, _, hq => exact hq
  | 2, _, _, _, hq => exact hq
  | 3, _, _, _, hq => exact hq
  | 4, _, _, _, hq => exact hq
  | 5, _, _, _, ⟨r1, r1c, r2, r2c, hv, q_0⟩ => exact ⟨r1, r1c, r2, r2c, hv, q_0.touched hg (by decide) (by decide) ht⟩
  | 6, _, _, _, ⟨r1, r1c, r2, r2c, hv, q_0⟩ => exact ⟨r1, r1c, r2, r2c, hv, q_0.touched hg (by decide) (by decide) ht⟩
  | 7, _, _, _, ⟨r1, r1c, r2, r2c, hv, q_0⟩ => exact ⟨r1, r1c, r2, r2c, hv, q_0.touched hg (by decide) (by decide) ht⟩
  | 8, _, _, _, hq => exact hq
  | 9, _, _, _, hq => exact hq
  | 10, _, _, _, ⟨gb10, hv, q_0, q_1⟩ => exact ⟨gb10, hv, box_box q_0 hg (by decide) ht, q_1⟩
  | 11, _, _, hkill, _ => exact absurd (List.Mem.head _) hkill
  | 12, _, _, _, ⟨gs12, r1, r1c, r2, r2c, hv, q_0, q_1, q_2⟩ => exact ⟨gs12, r1, r1c, r2, r2c, hv, box_box q_0 hg (by decide) ht, q_1, q_2.touched hg (by decide) (by decide) ht⟩
  | 13, _, hne, _, _ => exact absurd rfl hne
  | 14, _, _, _, hq => exact hq
  | 15, _, _, _, ⟨q_0, q_1⟩ => exact ⟨box_box q_0 hg (by decide) ht, q_1⟩
  | 16, _, _, _, q_0 => exact box_box q_0 hg (by decide) ht
  | k + 17, hk, _, _, _ => omega
/-- What is known of a region (RJ). -/
def cl24 (D : Nat) (am : Option Addr) (nn cm : Nat) (ws : List Int) (a : Option Addr) (n c : Nat) (xs : List ItT) (i at2 sc x h nx : Int) (V : CsV) (G B : Nat) : RSpec where
  m := 16
  n := 18
  slots := [105, 106, 107, 108, 109, 110, 111, 104, 112, 113, 114, 20, 21, 20, 21, 22, 100016, 100017]
  kills := [[], [], [], [], [], [], [], [], [], [], [], [13], [14], [], [], [], [], []]
  pres := [[], [], [], [], [], [], [], [], [], [], [], [], [], [11], [12], [], [], []]
  fact := fun k v w => match k with
    | 0 => v = .agg #[.slice am nn cm, .slice a n c]
    | 1 => ∃ t1 t2, v = .agg #[.slice t1 nn nn, .slice t2 n n] ∧ CpyM D B nn n ws xs t1 t2 w
    | 2 => v = .int .i64 i
    | 3 => v = .int .i64 at2
    | 4 => v = .agg #[.int .i64 sc, .int .u64 x, .int .i64 h, .int .i64 nx]
    | 5 => v = .agg #[.int .i64 sc, .int .u64 x, .int .i64 h, .int .i64 nx]
    | 6 => ∃ r1 r1c r2 r2c, v = .tuple #[.agg #[.slice r1 V.ct.length r1c, .slice r2 V.gs.length r2c], .agg #[.int .i64 V.t.1, .int .u64 V.t.2.1, .int .i64 V.t.2.2.1, .int .i64 V.t.2.2.2], .int .i64 V.cd] ∧ MsgO (D + 2) B w r1 V.ct.length r1c V.ct r2 V.gs.length r2c V.gs
    | 7 => ∃ r1 r1c r2 r2c, v = .tuple #[.agg #[.slice r1 V.ct.length r1c, .slice r2 V.gs.length r2c], .agg #[.int .i64 V.t.1, .int .u64 V.t.2.1, .int .i64 V.t.2.2.1, .int .i64 V.t.2.2.2], .int .i64 V.cd] ∧ MsgO (D + 2) B w r1 V.ct.length r1c V.ct r2 V.gs.length r2c V.gs
    | 8 => ∃ r1 r1c r2 r2c, v = .agg #[.slice r1 V.ct.length r1c, .slice r2 V.gs.length r2c] ∧ MsgO (D + 2) B w r1 V.ct.length r1c V.ct r2 V.gs.length r2c V.gs
    | 9 => v = .agg #[.int .i64 V.t.1, .int .u64 V.t.2.1, .int .i64 V.t.2.2.1, .int .i64 V.t.2.2.2]
    | 10 => v = .int .i64 V.cd
    | 11 => ∃ gb11, v = .pointer (some ⟨gb11, 0, none⟩) ∧ w.heap[gb11]? = some (.cells #[.slice none 0 0, .slice none 0 0] 32 (0, 0)) ∧ B ≤ gb11
    | 12 => ∃ gb12, v = .pointer (some ⟨gb12, 0, none⟩) ∧ w.heap[gb12]? = some (.cells #[.int .i64 0, .int .u64 0, .int .i64 0, .int .i64 0] 33 (0, 0)) ∧ B ≤ gb12
    | 13 => ∃ gs13 r1 r1c r2 r2c, v = .pointer (some ⟨gs13, 0, none⟩) ∧ w.heap[gs13]? = some (.cells #[.slice r1 V.ct.length r1c, .slice r2 V.gs.length r2c] 32 (0, 0)) ∧ B ≤ gs13 ∧ MsgO (D + 2) B w r1 V.ct.length r1c V.ct r2 V.gs.length r2c V.gs
    | 14 => ∃ gs14, v = .pointer (some ⟨gs14, 0, none⟩) ∧ w.heap[gs14]? = some (.cells #[.int .i64 V.t.1, .int .u64 V.t.2.1, .int .i64 V.t.2.2.1, .int .i64 V.t.2.2.2] 33 (0, 0)) ∧ B ≤ gs14
    | 15 => v = .int .i64 V.cd
    | 16 => w.heap[G]? = some (.cells #[.slice am nn cm, .slice a n c] 25 (0, 0))
    | _ => w.heap[(G + 1)]? = some (.cells #[.int .i64 sc, .int .u64 x, .int .i64 h, .int .i64 nx] 28 (0, 0))
set_option linter.unusedVariables false in
theorem cl24_stb (D : Nat) (am : Option Addr) (nn cm : Nat) (ws : List Int) (a : Option Addr) (n c : Nat) (xs : List ItT) (i at2 sc x h nx : Int) (V : CsV) (G B : Nat) (k : Nat) (hk : k < 18) : StB ((cl24 D am nn cm ws a n c xs i at2 sc x h nx V G (B)).fact k) := by
  match k, hk with
  | 0, _ => exact fun _ _ _ h _ => h
  | 1, _ => exact fun _ _ _ ⟨t1, t2, hv, q_0⟩ hb => ⟨t1, t2, hv, q_0.kept hb⟩
  | 2, _ => exact fun _ _ _ h _ => h
  | 3, _ => exact fun _ _ _ h _ => h
  | 4, _ => exact fun _ _ _ h _ => h
  | 5, _ => exact fun _ _ _ h _ => h
  | 6, _ => exact fun _ _ _ ⟨r1, r1c, r2, r2c, hv, q_0⟩ hb => ⟨r1, r1c, r2, r2c, hv, q_0.kept hb⟩
  | 7, _ => exact fun _ _ _ ⟨r1, r1c, r2, r2c, hv, q_0⟩ hb => ⟨r1, r1c, r2, r2c, hv, q_0.kept hb⟩
  | 8, _ => exact fun _ _ _ ⟨r1, r1c, r2, r2c, hv, q_0⟩ hb => ⟨r1, r1c, r2, r2c, hv, q_0.kept hb⟩
  | 9, _ => exact fun _ _ _ h _ => h
  | 10, _ => exact fun _ _ _ h _ => h
  | 11, _ => exact fun _ _ _ ⟨gb11, hv, q_0, q_1⟩ hb => ⟨gb11, hv, below_kept q_0 hb, q_1⟩
  | 12, _ => exact fun _ _ _ ⟨gb12, hv, q_0, q_1⟩ hb => ⟨gb12, hv, below_kept q_0 hb, q_1⟩
  | 13, _ => exact fun _ _ _ ⟨gs13, r1, r1c, r2, r2c, hv, q_0, q_1, q_2⟩ hb => ⟨gs13, r1, r1c, r2, r2c, hv, below_kept q_0 hb, q_1, q_2.kept hb⟩
  | 14, _ => exact fun _ _ _ ⟨gs14, hv, q_0, q_1⟩ hb => ⟨gs14, hv, below_kept q_0 hb, q_1⟩
  | 15, _ => exact fun _ _ _ h _ => h
  | 16, _ => exact fun _ _ _ q_0 hb => below_kept q_0 hb
  | 17, _ => exact fun _ _ _ q_0 hb => below_kept q_0 hb
  | k + 18, hk => omega
set_option linter.unusedVariables false in
theorem cl24_st13 (D : Nat) (am : Option Addr) (nn cm : Nat) (ws : List Int) (a : Option Addr) (n c : Nat) (xs : List ItT) (i at2 sc x h nx : Int) (V : CsV) (G B : Nat) {W W2 : World} {g : Nat} {cs : Array Value} {fr : Nat × Nat} (hg : W.heap[g]? = some (.cells cs 32 fr)) (ht : Touch (g) (g + 1) W W2) (hge : B ≤ g) (k : Nat) (hk : k < 18) (hne : k ≠ 13) (hkill : 13 ∉ (cl24 D am nn cm ws a n c xs i at2 sc x h nx V G (B)).kill k) (v : Value) (hfact : (cl24 D am nn cm ws a n c xs i at2 sc x h nx V G (B)).fact k v W) : (cl24 D am nn cm ws a n c xs i at2 sc x h nx V G (B)).fact k v W2 := by
  match k, hk, hne, hkill, hfact with
  | 0, _, _, _, hq => exact hq
  | 1, _, _, _, ⟨t1, t2, hv, q_0⟩ => exact ⟨t1, t2, hv, q_0.touched hg (by decide) (by decide) ht⟩
  | 2, _, _, _, hq => exact hq
  | 3, _, _, _, hq => exact hq
  | 4, _, _, _, hq => exact hq
  | 5, _, _, _, hq => exact hq
  | 6, _, _, _, ⟨r1, r1c, r2, r2c, hv, q_0⟩ => exact ⟨r1, r1c, r2, r2c, hv, q_0.touched hg (by decide) (by decide) ht⟩
  | 7, _, _, _, ⟨r1, r1c, r2, r2c, hv, q_0⟩ => exact ⟨r1, r1c, r2, r2c, hv, q_0.touched hg (by decide) (by decide) ht⟩
  | 8, _, _, _, ⟨r1, r1c, r2, r2c, hv, q_0⟩ => exact ⟨r1, r1c, r2, r2c, hv, q_0.touched hg (by decide) (by decide) ht⟩
  | 9, _, _, _, hq => exact hq
  | 10, _, _, _, hq => exact hq
  | 11, _, _, hkill, _ => exact absurd (List.Mem.head _) hkill
  | 12, _, _, _, ⟨gb12, hv, q_0, q_1⟩ => exact ⟨gb12, hv, box_box q_0 hg (by decide) ht, q_1⟩
  | 13, _, hne, _, _ => exact absurd rfl hne
  | 14, _, _, _, ⟨gs14, hv, q_0, q_1⟩ => exact ⟨gs14, hv, box_box q_0 hg (by decide) ht, q_1⟩
  | 15, _, _, _, hq => exact hq
  | 16, _, _, _, q_0 => exact box_box q_0 hg (by decide) ht
  | 17, _, _, _, q_0 => exact box_box q_0 hg (by decide) ht
  | k + 18, hk, _, _, _ => omega
set_option linter.unusedVariables false in
theorem cl24_st14 (D : Nat) (am : Option Addr) (nn cm : Nat) (ws : List Int) (a : Option Addr) (n c : Nat) (xs : List ItT) (i at2 sc x h nx : Int) (V : CsV) (G B : Nat) {W W2 : World} {g : Nat} {cs : Array Value} {fr : Nat × Nat} (hg : W.heap[g]? = some (.cells cs 33 fr)) (ht : Touch (g) (g + 1) W W2) (hge : B ≤ g) (k : Nat) (hk : k < 18) (hne : k ≠ 14) (hkill : 14 ∉ (cl24 D am nn cm ws a n c xs i at2 sc x h nx V G (B)).kill k) (v : Value) (hfact : (cl24 D am nn cm ws a n c xs i at2 sc x h nx V G (B)).fact k v W) : (cl24 D am nn cm ws a n c xs i at2 sc x h nx V G (B)).fact k v W2 := by
  match k, hk, hne, hkill, hfact with
  | 0, _, _, _, hq => exact hq
  | 1, _, _, _, ⟨t1, t2, hv, q_0⟩ => exact ⟨t1, t2, hv, q_0.touched hg (by decide) (by decide) ht⟩
  | 2, _, _, _, hq => exact hq
  | 3, _, _, _, hq => exact hq
  | 4, _, _, _, hq => exact hq
  | 5, _, _, _, hq => exact hq
  | 6, _, _, _, ⟨r1, r1c, r2, r2c, hv, q_0⟩ => exact ⟨r1, r1c, r2, r2c, hv, q_0.touched hg (by decide) (by decide) ht⟩
  | 7, _, _, _, ⟨r1, r1c, r2, r2c, hv, q_0⟩ => exact ⟨r1, r1c, r2, r2c, hv, q_0.touched hg (by decide) (by decide) ht⟩
  | 8, _, _, _, ⟨r1, r1c, r2, r2c, hv, q_0⟩ => exact ⟨r1, r1c, r2, r2c, hv, q_0.touched hg (by decide) (by decide) ht⟩
  | 9, _, _, _, hq => exact hq
  | 10, _, _, _, hq => exact hq
  | 11, _, _, _, ⟨gb11, hv, q_0, q_1⟩ => exact ⟨gb11, hv, box_box q_0 hg (by decide) ht, q_1⟩
  | 12, _, _, hkill, _ => exact absurd (List.Mem.head _) hkill
  | 13, _, _, _, ⟨gs13, r1, r1c, r2, r2c, hv, q_0, q_1, q_2⟩ => exact ⟨gs13, r1, r1c, r2, r2c, hv, box_box q_0 hg (by decide) ht, q_1, q_2.touched hg (by decide) (by decide) ht⟩
  | 14, _, hne, _, _ => exact absurd rfl hne
  | 15, _, _, _, hq => exact hq
  | 16, _, _, _, q_0 => exact box_box q_0 hg (by decide) ht
  | 17, _, _, _, q_0 => exact box_box q_0 hg (by decide) ht
  | k + 18, hk, _, _, _ => omega

set_option maxRecDepth 10000 in
set_option maxHeartbeats 8000000 in
theorem lawCounterSign_walk (HSPEC : ∀ (seed h next : Int) (am : Option Addr) (n c : Nat) (bs : List Int) (w : World), U64 seed → Row w am n bs → n ≤ 1000000000000 → Calls Tryz.prog 50 #[tkv seed h next, .slice am n c] w fun e w' => ∃ v, e = .returned v ∧ SgR seed h next bs w.heap.size w' v ∧ Below w.heap.size w w') (D : Nat) (am : Option Addr) (nn cm : Nat) (ws : List Int) (a : Option Addr) (n c : Nat) (xs : List ItT) (i at2 sc x h nx : Int) (w : World) (hr : Row w am nn ws) (hnn : nn ≤ 9223372036854775807) (hk : KidsT D w a n xs) (hi : -9223372036854775808 ≤ i ∧ i ≤ 9223372036854775807) (hx : U64 x) :
    Calls Tryz.prog 3 #[.agg #[.slice am nn cm, .slice a n c], .int .i64 i, .int .i64 at2, .agg #[.int .i64 sc, .int .u64 x, .int .i64 h, .int .i64 nx]] w fun e w' => e = .returned (.bool true) ∧ Below w.heap.size w w' := by
  obtain ⟨w1, hw1⟩ : ∃ w1, w1 = (w.alloc (.cells #[.slice am nn cm, .slice a n c] 25)).alloc (.cells #[.int .i64 sc, .int .u64 x, .int .i64 h, .int .i64 nx] 28) := ⟨_, rfl⟩
  have hb0 : Below w.heap.size w w1 := by rw [hw1]; exact ((Below.refl _ _).alloc (Nat.le_refl _) _).alloc (by simp) _
  have hn2 := two_blocksT w (.cells #[.slice am nn cm, .slice a n c] 25) (.cells #[.int .i64 sc, .int .u64 x, .int .i64 h, .int .i64 nx] 28)
  rw [← hw1] at hn2
  have HL1 : Hid (Bxs [(w.heap.size, #[.slice am nn cm, .slice a n c], 25), ((w.heap.size + 1), #[.int .i64 sc, .int .u64 x, .int .i64 h, .int .i64 nx], 28)] w1) := by
    refine ⟨fun p hp => ?_⟩
    simp only [List.mem_cons, List.not_mem_nil, or_false] at hp
    rcases hp with rfl | rfl
    · exact hn2.1
    · exact hn2.2
  have hk0 : w.heap.size + 1 < w1.heap.size := by rw [hw1]; simp
  have HRM : Hid (∀ W, Below w1.heap.size w1 W → Row W am nn ws ∧ KidsT D W a n xs) := fun W hW => ⟨hr.kept (keepT hb0 hW), hk.kept (keepT hb0 hW)⟩
  have HKX : Hid (KidsT D w a n xs) := hk
  have HRL : Hid (ws.length = nn) := hr.len
  have HW : Hid (_ = _) := hw1
  clear hw1 hr hk hn2
  obtain ⟨x0, x1⟩ := cells2m (HL1.out.all (w.heap.size, #[.slice am nn cm, .slice a n c], 25) (by simp))
  go_enter Tryz.func3, Tryz.ntmps3
  go_upto_region 2 with fail
  rw [← HW.out]
  clear HW
  go_wp2_with fail
  refine (szMsg_any D am nn cm a n c xs _ _ (by decide) (by decide) hnn (HRM.out _ (Below.refl _ _)).2).mono ?_
  rintro e w2 ⟨r, rfl, hrr, hb2⟩
  clear x0 x1
  by_cases hneg : r < 0
  · go_wp2
    go_ret
    exact ⟨rfl, keepT hb0 hb2⟩
  obtain ⟨hr0, hr1, hnd, hwt⟩ := hrr.resolve_left hneg
  clear hrr
  obtain ⟨V, hV⟩ : ∃ V, V = csV nn ws xs i at2 sc x h nx := ⟨_, rfl⟩
  have hVS := csV_small D nn ws xs i at2 sc x h nx w a n HKX.out hwt (by rw [HRL.out]; exact hnd)
  rw [← hV] at hVS
  obtain ⟨hVw, hVc⟩ := hVS
  have HSP : Hid (∀ (B : Nat) (W : World) (t1 t2 : Option Addr), CpyM D B nn n ws xs t1 t2 W → Calls Tryz.prog 5 #[.agg #[.slice t1 nn nn, .slice t2 n n], .int .i64 i, .int .i64 at2, .agg #[.int .i64 sc, .int .u64 x, .int .i64 h, .int .i64 nx]] W (CsPost D V W)) := by
    intro B W t1 t2 hcp
    obtain ⟨M, hi', h0, h1, h2⟩ := hcp
    rw [hV]
    exact specCounterSign_any HSPEC D t1 nn nn ws t2 n n xs i at2 sc x h nx W h1.own.toRow h1.own.nil hnn h2.over hx hi hwt
  have HIM : Hid (∀ (B : Nat) (W : World) (t1 t2 : Option Addr), CpyM D B nn n ws xs t1 t2 W → Calls Tryz.prog 8 #[.agg #[.slice t1 nn nn, .slice t2 n n], .int .i64 i, .int .i64 at2, .agg #[.int .i64 sc, .int .u64 x, .int .i64 h, .int .i64 nx]] W (CsPost D V W)) := by
    intro B W t1 t2 hcp
    obtain ⟨M, hi', h0, h1, h2⟩ := hcp
    rw [hV]
    exact implCounterSign_any D t1 nn nn ws t2 n n xs i at2 sc x h nx W h1.own.toRow h1.own.nil hnn h2.over hx hi hwt
  clear hV HSPEC HKX HRL
  have t0 : (V.cd != V.cd) = false := by simp
  have hc2 := hb2
  go_upto_region 5 with fail
  have HBB : w2.heap.size ≤ w2.heap.size := Nat.le_refl _
  refine wp_region_ri (cl5 D am nn cm ws a n c xs i at2 sc x h nx V w.heap.size (w2.heap.size)) [10, 11, 12, 28, 29, 30, 31, 32, 33, 34, 35, 36, 37, 38] (w2.heap.size) (fun a0 => a0.tmps.size = 138 ∧ aT a0 1 = .int .i64 i ∧ aT a0 2 = .int .i64 at2 ∧ aT a0 4 = .pointer (some ⟨w.heap.size, 0, none⟩) ∧ aT a0 7 = .pointer (some ⟨(w.heap.size + 1), 0, none⟩)) (by kernel_rfl) rfl (by kernel_rfl) rfl ⟨rfl, rfl, rfl, rfl, rfl⟩ (cl5_stb D am nn cm ws a n c xs i at2 sc x h nx V w.heap.size (w2.heap.size)) ?_ ?_ ?_
  · intro k hk hk2
    match k, hk, hk2 with
    | 16, _, _ => exact (below_kept (HL1.out.all (w.heap.size, #[.slice am nn cm, .slice a n c], 25) (by simp)) hb2)
    | 17, _, _ => exact (below_kept (HL1.out.all ((w.heap.size + 1), #[.int .i64 sc, .int .u64 x, .int .i64 h, .int .i64 nx], 28) (by simp)) hb2)
    | 0, hk, _ => exact absurd hk (by show ¬ (16 ≤ 0); omega)
    | 1, hk, _ => exact absurd hk (by show ¬ (16 ≤ 1); omega)
    | 2, hk, _ => exact absurd hk (by show ¬ (16 ≤ 2); omega)
    | 3, hk, _ => exact absurd hk (by show ¬ (16 ≤ 3); omega)
    | 4, hk, _ => exact absurd hk (by show ¬ (16 ≤ 4); omega)
    | 5, hk, _ => exact absurd hk (by show ¬ (16 ≤ 5); omega)
    | 6, hk, _ => exact absurd hk (by show ¬ (16 ≤ 6); omega)
    | 7, hk, _ => exact absurd hk (by show ¬ (16 ≤ 7); omega)
    | 8, hk, _ => exact absurd hk (by show ¬ (16 ≤ 8); omega)
    | 9, hk, _ => exact absurd hk (by show ¬ (16 ≤ 9); omega)
    | 10, hk, _ => exact absurd hk (by show ¬ (16 ≤ 10); omega)
    | 11, hk, _ => exact absurd hk (by show ¬ (16 ≤ 11); omega)
    | 12, hk, _ => exact absurd hk (by show ¬ (16 ≤ 12); omega)
    | 13, hk, _ => exact absurd hk (by show ¬ (16 ≤ 13); omega)
    | 14, hk, _ => exact absurd hk (by show ¬ (16 ≤ 14); omega)
    | 15, hk, _ => exact absurd hk (by show ¬ (16 ≤ 15); omega)
    | k + 18, _, hk2 => exact absurd hk2 (by show ¬ (k + 18 < 18); omega)
  · rintro a0 ⟨hz, g1, g2, g4, g7⟩
    refine StepsRI.cons ?_ (StepsRI.cons ?_ (StepsRI.cons ?_ (StepsRI.cons ?_ (StepsRI.cons ?_ (StepsRI.cons ?_ (StepsRI.cons ?_ (StepsRI.cons ?_ (StepsRI.cons ?_ (StepsRI.cons ?_ (StepsRI.cons ?_ (StepsRI.cons ?_ (StepsRI.cons ?_ (StepsRI.cons ?_ (StepsRI.cons ?_ (StepsRI.cons ?_ (StepsRI.nil))))))))))))))))
    · intro lQ b W hI hUN hED KQ hKQ
      have hg := (hI.vot 16 (of_decide_eq_true rfl) (of_decide_eq_true rfl) rfl)
      refine wp_load_row 25 _ rfl (w.heap.size) ((hI.fr.same 4 (by decide)).trans g4) 25 #[.slice am nn cm, .slice a n c] (0, 0) _ hg Tryz.underlying25 rfl (by kernel_rfl) ?_
      exact hKQ.out _ _ (hI.put 0 29 rfl rfl (by rw [hz]; decide) rfl hUN rfl HBB (cl5_stb D am nn cm ws a n c xs i at2 sc x h nx V w.heap.size (w2.heap.size)) (Below.refl _ _) rfl)
    · intro lQ b W hI hUN hED KQ hKQ
      have f0 := hI.got 0 (of_decide_eq_true rfl) (edge hED 0 (by kernel_rfl)) rfl
      replace f0 : aT b 29 = .agg #[.slice am nn cm, .slice a n c] := f0
      refine opw_call 6 #[.tmp 29] _ _ _ rfl Tryz.func6 (by kernel_rfl) rfl #[.agg #[.slice am nn cm, .slice a n c]] (by simp [ev, f0]) ?_
      refine (toMsg_any D am nn cm ws a n c xs W (HRM.out W (keepT hc2 hI.bel)).1 hnd (HRM.out W (keepT hc2 hI.bel)).2 hwt).mono ?_
      rintro e W2 ⟨t1, t2, M0, rfl, ho, hb⟩
      exact ⟨_, rfl, hKQ.out _ _ (hI.put 1 30 rfl rfl (by rw [hz]; decide) rfl hUN rfl HBB (cl5_stb D am nn cm ws a n c xs i at2 sc x h nx V w.heap.size (w2.heap.size)) hb ⟨t1, t2, rfl, M0, _, Nat.le_trans (Nat.le_trans HBB hI.bel.size) ho.1, ho.2.2.1.mono (Nat.le_trans HBB hI.bel.size) (Nat.le_refl _), ho.2.2.2⟩)⟩
    · intro lQ b W hI hUN hED KQ hKQ
      exact opw_move 1 rfl (hKQ.out _ _ (hI.put 2 31 rfl rfl (by rw [hz]; decide) rfl hUN rfl HBB (cl5_stb D am nn cm ws a n c xs i at2 sc x h nx V w.heap.size (w2.heap.size)) (Below.refl _ _) ((hI.fr.same 1 (by decide)).trans g1)))
    · intro lQ b W hI hUN hED KQ hKQ
      exact opw_move 2 rfl (hKQ.out _ _ (hI.put 3 32 rfl rfl (by rw [hz]; decide) rfl hUN rfl HBB (cl5_stb D am nn cm ws a n c xs i at2 sc x h nx V w.heap.size (w2.heap.size)) (Below.refl _ _) ((hI.fr.same 2 (by decide)).trans g2)))
    · intro lQ b W hI hUN hED KQ hKQ
      have hg := (hI.vot 17 (of_decide_eq_true rfl) (of_decide_eq_true rfl) rfl)
      refine wp_load_row 28 _ rfl ((w.heap.size + 1)) ((hI.fr.same 7 (by decide)).trans g7) 28 #[.int .i64 sc, .int .u64 x, .int .i64 h, .int .i64 nx] (0, 0) _ hg Tryz.underlying28 rfl (by kernel_rfl) ?_
      exact hKQ.out _ _ (hI.put 4 33 rfl rfl (by rw [hz]; decide) rfl hUN rfl HBB (cl5_stb D am nn cm ws a n c xs i at2 sc x h nx V w.heap.size (w2.heap.size)) (Below.refl _ _) rfl)
    · intro lQ b W hI hUN hED KQ hKQ
      have f0 := hI.got 4 (of_decide_eq_true rfl) (edge hED 4 (by kernel_rfl)) rfl
      replace f0 : aT b 33 = .agg #[.int .i64 sc, .int .u64 x, .int .i64 h, .int .i64 nx] := f0
      refine opw_call 7 #[.tmp 33] _ _ _ rfl Tryz.func7 (by kernel_rfl) rfl #[.agg #[.int .i64 sc, .int .u64 x, .int .i64 h, .int .i64 nx]] (by simp [ev, f0]) ?_
      refine (toSecret_any sc x h nx W).mono ?_
      rintro e W2 ⟨rfl, hb⟩
      exact ⟨_, rfl, hKQ.out _ _ (hI.put 5 34 rfl rfl (by rw [hz]; decide) rfl hUN rfl HBB (cl5_stb D am nn cm ws a n c xs i at2 sc x h nx V w.heap.size (w2.heap.size)) hb rfl)⟩
    · intro lQ b W hI hUN hED KQ hKQ
      have f0 := hI.got 1 (of_decide_eq_true rfl) (edge hED 1 (by kernel_rfl)) rfl
      obtain ⟨t1, t2, f0, o0_0⟩ := f0
      replace f0 : aT b 30 = .agg #[.slice t1 nn nn, .slice t2 n n] := f0
      have f1 := hI.got 2 (of_decide_eq_true rfl) (edge hED 2 (by kernel_rfl)) rfl
      replace f1 : aT b 31 = .int .i64 i := f1
      have f2 := hI.got 3 (of_decide_eq_true rfl) (edge hED 3 (by kernel_rfl)) rfl
      replace f2 : aT b 32 = .int .i64 at2 := f2
      have f3 := hI.got 5 (of_decide_eq_true rfl) (edge hED 5 (by kernel_rfl)) rfl
      replace f3 : aT b 34 = .agg #[.int .i64 sc, .int .u64 x, .int .i64 h, .int .i64 nx] := f3
      refine opw_call 5 #[.tmp 30, .tmp 31, .tmp 32, .tmp 34] _ _ _ rfl Tryz.func5 (by kernel_rfl) rfl #[.agg #[.slice t1 nn nn, .slice t2 n n], .int .i64 i, .int .i64 at2, .agg #[.int .i64 sc, .int .u64 x, .int .i64 h, .int .i64 nx]] (by simp [ev, f0, f1, f2, f3]) ?_
      refine (HSP.out w2.heap.size W t1 t2 o0_0).mono ?_
      rintro e W2 ⟨r1, r1c, r2, r2c, rfl, ho, hb⟩
      exact ⟨_, rfl, hKQ.out _ _ (hI.put 6 35 rfl rfl (by rw [hz]; decide) rfl hUN rfl HBB (cl5_stb D am nn cm ws a n c xs i at2 sc x h nx V w.heap.size (w2.heap.size)) hb ⟨r1, r1c, r2, r2c, rfl, ho.mono (Nat.le_trans HBB hI.bel.size)⟩)⟩
    · intro lQ b W hI hUN hED KQ hKQ
      have f := hI.got 6 (of_decide_eq_true rfl) (edge hED 6 (by kernel_rfl)) rfl
      exact opw_move 35 rfl (hKQ.out _ _ (hI.put 7 28 rfl rfl (by rw [hz]; decide) rfl hUN rfl HBB (cl5_stb D am nn cm ws a n c xs i at2 sc x h nx V w.heap.size (w2.heap.size)) (Below.refl _ _) f))
    · intro lQ b W hI hUN hED KQ hKQ
      have f := hI.got 7 (of_decide_eq_true rfl) (edge hED 7 (by kernel_rfl)) rfl
      obtain ⟨r1, r1c, r2, r2c, f, o_0⟩ := f
      exact opw_extract 28 0 rfl _ _ f rfl (hKQ.out _ _ (hI.put 8 36 rfl rfl (by rw [hz]; decide) rfl hUN rfl HBB (cl5_stb D am nn cm ws a n c xs i at2 sc x h nx V w.heap.size (w2.heap.size)) (Below.refl _ _) ⟨r1, r1c, r2, r2c, rfl, o_0⟩))
    · intro lQ b W hI hUN hED KQ hKQ
      have f := hI.got 7 (of_decide_eq_true rfl) (edge hED 7 (by kernel_rfl)) rfl
      obtain ⟨r1, r1c, r2, r2c, f, o_0⟩ := f
      exact opw_extract 28 1 rfl _ _ f rfl (hKQ.out _ _ (hI.put 9 37 rfl rfl (by rw [hz]; decide) rfl hUN rfl HBB (cl5_stb D am nn cm ws a n c xs i at2 sc x h nx V w.heap.size (w2.heap.size)) (Below.refl _ _) rfl))
    · intro lQ b W hI hUN hED KQ hKQ
      have f := hI.got 7 (of_decide_eq_true rfl) (edge hED 7 (by kernel_rfl)) rfl
      obtain ⟨r1, r1c, r2, r2c, f, o_0⟩ := f
      exact opw_extract 28 2 rfl _ _ f rfl (hKQ.out _ _ (hI.put 10 38 rfl rfl (by rw [hz]; decide) rfl hUN rfl HBB (cl5_stb D am nn cm ws a n c xs i at2 sc x h nx V w.heap.size (w2.heap.size)) (Below.refl _ _) rfl))
    · intro lQ b W hI hUN hED KQ hKQ
      refine opw_value (w' := W.alloc (.cells #[.slice none 0 0, .slice none 0 0] 32)) (.pointer (some ⟨W.heap.size, 0, none⟩)) (by kernel_rfl) ?_
      exact hKQ.out _ _ (hI.put 11 10 rfl rfl (by rw [hz]; decide) rfl hUN rfl HBB (cl5_stb D am nn cm ws a n c xs i at2 sc x h nx V w.heap.size (w2.heap.size)) ((Below.refl _ _).alloc (Nat.le_refl _) _) ⟨W.heap.size, rfl, heap_alloc_new W _, Nat.le_trans HBB hI.bel.size⟩)
    · intro lQ b W hI hUN hED KQ hKQ
      refine opw_value (w' := W.alloc (.cells #[.int .i64 0, .int .u64 0, .int .i64 0, .int .i64 0] 33)) (.pointer (some ⟨W.heap.size, 0, none⟩)) (by kernel_rfl) ?_
      exact hKQ.out _ _ (hI.put 12 11 rfl rfl (by rw [hz]; decide) rfl hUN rfl HBB (cl5_stb D am nn cm ws a n c xs i at2 sc x h nx V w.heap.size (w2.heap.size)) ((Below.refl _ _).alloc (Nat.le_refl _) _) ⟨W.heap.size, rfl, heap_alloc_new W _, Nat.le_trans HBB hI.bel.size⟩)
    · intro lQ b W hI hUN hED KQ hKQ
      obtain ⟨g, fb, hgb, hge⟩ := hI.got1 11 13 (of_decide_eq_true rfl) (edge hED 11 (by kernel_rfl)) hUN rfl
      have f := hI.got 8 (of_decide_eq_true rfl) (edge hED 8 (by kernel_rfl)) rfl
      obtain ⟨r1, r1c, r2, r2c, f, o_0⟩ := f
      refine wp_store_row 32 _ _ rfl g #[.slice r1 V.ct.length r1c, .slice r2 V.gs.length r2c] fb f 32 _ hgb (by kernel_rfl) rfl (by simp [Value.oneCell']) ?_
      have ht := setRow_touch W g #[.slice r1 V.ct.length r1c, .slice r2 V.gs.length r2c]
      exact hKQ.out _ _ (hI.store 13 (fun j hj => by
          rcases List.mem_singleton.1 hj with rfl
          exact edge hED 11 (by kernel_rfl)) (hI.bel.trans (ht.below hge (Nat.le_trans HBB hI.bel.size))) (cl5_st13 D am nn cm ws a n c xs i at2 sc x h nx V w.heap.size (w2.heap.size) hgb ht hge) ⟨g, r1, r1c, r2, r2c, fb, (setRow_heap W g _ _ _ _ hgb), hge, o_0.touched hgb (by decide) (by decide) ht⟩)
    · intro lQ b W hI hUN hED KQ hKQ
      obtain ⟨g, fb, hgb, hge⟩ := hI.got1 12 14 (of_decide_eq_true rfl) (edge hED 12 (by kernel_rfl)) hUN rfl
      have f := hI.got 9 (of_decide_eq_true rfl) (edge hED 9 (by kernel_rfl)) rfl
      refine wp_store_row 33 _ _ rfl g #[.int .i64 V.t.1, .int .u64 V.t.2.1, .int .i64 V.t.2.2.1, .int .i64 V.t.2.2.2] fb f 33 _ hgb (by kernel_rfl) rfl (by simp [Value.oneCell']) ?_
      have ht := setRow_touch W g #[.int .i64 V.t.1, .int .u64 V.t.2.1, .int .i64 V.t.2.2.1, .int .i64 V.t.2.2.2]
      exact hKQ.out _ _ (hI.store 14 (fun j hj => by
          rcases List.mem_singleton.1 hj with rfl
          exact edge hED 12 (by kernel_rfl)) (hI.bel.trans (ht.below hge (Nat.le_trans HBB hI.bel.size))) (cl5_st14 D am nn cm ws a n c xs i at2 sc x h nx V w.heap.size (w2.heap.size) hgb ht hge) ⟨g, fb, (setRow_heap W g _ _ _ _ hgb), hge⟩)
    · intro lQ b W hI hUN hED KQ hKQ
      have f := hI.got 10 (of_decide_eq_true rfl) (edge hED 10 (by kernel_rfl)) rfl
      exact opw_assign 38 rfl (hKQ.out _ _ (hI.put 15 12 rfl rfl (by rw [hz]; decide) rfl hUN rfl HBB (cl5_stb D am nn cm ws a n c xs i at2 sc x h nx V w.heap.size (w2.heap.size)) (Below.refl _ _) f))
  · intro b W hf hb F
    obtain ⟨gc, u1, u1c, u2, u2c, eC, hC0, hCge, hO⟩ := F 13 (of_decide_eq_true rfl) rfl
    obtain ⟨gs, eS, hS0, hSge⟩ := F 14 (of_decide_eq_true rfl) rfl
    have eK := F 15 (of_decide_eq_true rfl) rfl
    replace eC : aT b 10 = _ := eC
    replace eS : aT b 11 = _ := eS
    replace eK : aT b 12 = _ := eK
    rw [hf.eq]
    simp only [puts, Act.put, List.setIfInBounds_toArray, List.set_cons_zero, List.set_cons_succ, eC, eS, eK]
    clear hf F
    clear eC eS eK
    generalize aT b = AT
    clear b
    obtain ⟨wA, hWn⟩ : ∃ wA, wA = W := ⟨_, rfl⟩
    subst hWn
    have HLA : Hid (Bxs [(w.heap.size, #[.slice am nn cm, .slice a n c], 25), ((w.heap.size + 1), #[.int .i64 sc, .int .u64 x, .int .i64 h, .int .i64 nx], 28), (gc, #[.slice u1 V.ct.length u1c, .slice u2 V.gs.length u2c], 32), (gs, #[.int .i64 V.t.1, .int .u64 V.t.2.1, .int .i64 V.t.2.2.1, .int .i64 V.t.2.2.2], 33)] wA) := by
      refine ⟨fun p hp => ?_⟩
      have h1 := HL1.out.kept (keepT hc2 hb)
      simp only [List.mem_cons, List.not_mem_nil, or_false] at hp
      rcases hp with rfl | rfl | rfl | rfl
      all_goals first | exact hC0 | exact hS0 | exact h1.all _ (by simp)
    have hcA := keepT hc2 hb
    have HSA : Hid (MsgI (D + 2) w2.heap.size wA.heap.size wA u1 V.ct.length u1c V.ct u2 V.gs.length u2c V.gs) := hO
    have hsA := hb.size
    have hswA := hcA.size
    have lgc : gc < wA.heap.size := (Array.getElem?_eq_some_iff.1 hC0).1
    have lgs : gs < wA.heap.size := (Array.getElem?_eq_some_iff.1 hS0).1
    clear hC0 hS0 hO HL1 hb hCge hSge
    obtain ⟨x0, x1⟩ := cells2m (HLA.out.all (w.heap.size, #[.slice am nn cm, .slice a n c], 25) (by simp))
    go_wp2_with fail
    refine (toMsg_any D am nn cm ws a n c xs _ (HRM.out _ hcA).1 hnd (HRM.out _ hcA).2 hwt).mono ?_
    rintro e w3 ⟨p1, p2, M, rfl, hox, hbw3⟩
    clear x0 x1
    obtain ⟨w4, hw4⟩ : ∃ w4, w4 = w3.alloc (.cells #[.slice p1 nn nn, .slice p2 n n] 32) := ⟨_, rfl⟩
    have hb4 : Below w3.heap.size w3 w4 := by rw [hw4]; exact (Below.refl _ _).alloc (Nat.le_refl _) _
    have HBX4 : Hid (w4.heap[w3.heap.size]? = some (.cells #[.slice p1 nn nn, .slice p2 n n] 32 (0, 0))) := by show _ = _; rw [hw4]; exact heap_alloc_new w3 _
    have hl4 : w3.heap.size < w4.heap.size := (Array.getElem?_eq_some_iff.1 HBX4.out).1
    have hb34 := keepT hbw3 hb4
    have hc4 := keepT hcA hb34
    have HL4 : Hid (Bxs [(w.heap.size, #[.slice am nn cm, .slice a n c], 25), ((w.heap.size + 1), #[.int .i64 sc, .int .u64 x, .int .i64 h, .int .i64 nx], 28), (gc, #[.slice u1 V.ct.length u1c, .slice u2 V.gs.length u2c], 32), (gs, #[.int .i64 V.t.1, .int .u64 V.t.2.1, .int .i64 V.t.2.2.1, .int .i64 V.t.2.2.2], 33), (w3.heap.size, #[.slice p1 nn nn, .slice p2 n n], 32)] w4) := by
      refine ⟨fun p hp => ?_⟩
      have h1 := HLA.out.kept hb34
      simp only [List.mem_cons, List.not_mem_nil, or_false] at hp
      rcases hp with rfl | rfl | rfl | rfl | rfl
      all_goals first | exact HBX4.out | exact h1.all _ (by simp)
    have HS4 : Hid (_) := HSA.out.kept hb34
    have HX4 : Hid (wA.heap.size ≤ M ∧ M ≤ w3.heap.size ∧ OwnBT wA.heap.size M w4 p1 nn nn ws ∧ OwnKidsT D M w3.heap.size w4 p2 n xs) := ⟨hox.1, hox.2.1, hox.2.2.1.kept hb4, hox.2.2.2.kept hb4⟩
    have HXC : Hid (∀ W, Below w4.heap.size w4 W → Calls Tryz.prog 8 #[.agg #[.slice p1 nn nn, .slice p2 n n], .int .i64 i, .int .i64 at2, .agg #[.int .i64 sc, .int .u64 x, .int .i64 h, .int .i64 nx]] W (CsPost D V W)) := fun W hW => HIM.out wA.heap.size W p1 p2 ⟨M, _, HX4.out.1, HX4.out.2.2.1.kept hW, HX4.out.2.2.2.kept hW⟩
    have hs3 := hbw3.size
    have HW : Hid (_ = _) := hw4
    clear hw4 hox hb4 hb34 hbw3 HSA HBX4 HLA
    go_upto_region 7 with fail
    rw [← HW.out]
    clear HW
    have HBB : w4.heap.size ≤ w4.heap.size := Nat.le_refl _
    refine wp_region_ri (cl7 D am nn cm ws a n c xs i at2 sc x h nx V p1 p2 w3.heap.size w.heap.size (w4.heap.size)) [14, 15, 16, 41, 42, 43, 44, 45, 46, 47, 48, 49, 50] (w4.heap.size) (fun a0 => a0.tmps.size = 138 ∧ aT a0 1 = .int .i64 i ∧ aT a0 2 = .int .i64 at2 ∧ aT a0 7 = .pointer (some ⟨(w.heap.size + 1), 0, none⟩) ∧ aT a0 13 = .pointer (some ⟨w3.heap.size, 0, none⟩)) (by kernel_rfl) rfl (by kernel_rfl) rfl ⟨rfl, rfl, rfl, rfl, rfl⟩ (cl7_stb D am nn cm ws a n c xs i at2 sc x h nx V p1 p2 w3.heap.size w.heap.size (w4.heap.size)) ?_ ?_ ?_
    · intro k hk hk2
      match k, hk, hk2 with
      | 15, _, _ => exact ⟨(HL4.out.all (w3.heap.size, #[.slice p1 nn nn, .slice p2 n n], 32) (by simp)), hl4⟩
      | 16, _, _ => exact (HL4.out.all ((w.heap.size + 1), #[.int .i64 sc, .int .u64 x, .int .i64 h, .int .i64 nx], 28) (by simp))
      | 0, hk, _ => exact absurd hk (by show ¬ (15 ≤ 0); omega)
      | 1, hk, _ => exact absurd hk (by show ¬ (15 ≤ 1); omega)
      | 2, hk, _ => exact absurd hk (by show ¬ (15 ≤ 2); omega)
      | 3, hk, _ => exact absurd hk (by show ¬ (15 ≤ 3); omega)
      | 4, hk, _ => exact absurd hk (by show ¬ (15 ≤ 4); omega)
      | 5, hk, _ => exact absurd hk (by show ¬ (15 ≤ 5); omega)
      | 6, hk, _ => exact absurd hk (by show ¬ (15 ≤ 6); omega)
      | 7, hk, _ => exact absurd hk (by show ¬ (15 ≤ 7); omega)
      | 8, hk, _ => exact absurd hk (by show ¬ (15 ≤ 8); omega)
      | 9, hk, _ => exact absurd hk (by show ¬ (15 ≤ 9); omega)
      | 10, hk, _ => exact absurd hk (by show ¬ (15 ≤ 10); omega)
      | 11, hk, _ => exact absurd hk (by show ¬ (15 ≤ 11); omega)
      | 12, hk, _ => exact absurd hk (by show ¬ (15 ≤ 12); omega)
      | 13, hk, _ => exact absurd hk (by show ¬ (15 ≤ 13); omega)
      | 14, hk, _ => exact absurd hk (by show ¬ (15 ≤ 14); omega)
      | k + 17, _, hk2 => exact absurd hk2 (by show ¬ (k + 17 < 17); omega)
    · rintro a0 ⟨hz, g1, g2, g7, g13⟩
      refine StepsRI.cons ?_ (StepsRI.cons ?_ (StepsRI.cons ?_ (StepsRI.cons ?_ (StepsRI.cons ?_ (StepsRI.cons ?_ (StepsRI.cons ?_ (StepsRI.cons ?_ (StepsRI.cons ?_ (StepsRI.cons ?_ (StepsRI.cons ?_ (StepsRI.cons ?_ (StepsRI.cons ?_ (StepsRI.cons ?_ (StepsRI.cons ?_ (StepsRI.nil)))))))))))))))
      · intro lQ b W hI hUN hED KQ hKQ
        have hg := (hI.vot 15 (of_decide_eq_true rfl) (of_decide_eq_true rfl) rfl).1
        refine wp_load_row 32 _ rfl (w3.heap.size) ((hI.fr.same 13 (by decide)).trans g13) 32 #[.slice p1 nn nn, .slice p2 n n] (0, 0) _ hg Tryz.underlying32 rfl (by kernel_rfl) ?_
        exact hKQ.out _ _ (hI.put 0 42 rfl rfl (by rw [hz]; decide) rfl hUN rfl HBB (cl7_stb D am nn cm ws a n c xs i at2 sc x h nx V p1 p2 w3.heap.size w.heap.size (w4.heap.size)) (Below.refl _ _) rfl)
      · intro lQ b W hI hUN hED KQ hKQ
        exact opw_move 1 rfl (hKQ.out _ _ (hI.put 1 43 rfl rfl (by rw [hz]; decide) rfl hUN rfl HBB (cl7_stb D am nn cm ws a n c xs i at2 sc x h nx V p1 p2 w3.heap.size w.heap.size (w4.heap.size)) (Below.refl _ _) ((hI.fr.same 1 (by decide)).trans g1)))
      · intro lQ b W hI hUN hED KQ hKQ
        exact opw_move 2 rfl (hKQ.out _ _ (hI.put 2 44 rfl rfl (by rw [hz]; decide) rfl hUN rfl HBB (cl7_stb D am nn cm ws a n c xs i at2 sc x h nx V p1 p2 w3.heap.size w.heap.size (w4.heap.size)) (Below.refl _ _) ((hI.fr.same 2 (by decide)).trans g2)))
      · intro lQ b W hI hUN hED KQ hKQ
        have hg := (hI.vot 16 (of_decide_eq_true rfl) (of_decide_eq_true rfl) rfl)
        refine wp_load_row 28 _ rfl ((w.heap.size + 1)) ((hI.fr.same 7 (by decide)).trans g7) 28 #[.int .i64 sc, .int .u64 x, .int .i64 h, .int .i64 nx] (0, 0) _ hg Tryz.underlying28 rfl (by kernel_rfl) ?_
        exact hKQ.out _ _ (hI.put 3 45 rfl rfl (by rw [hz]; decide) rfl hUN rfl HBB (cl7_stb D am nn cm ws a n c xs i at2 sc x h nx V p1 p2 w3.heap.size w.heap.size (w4.heap.size)) (Below.refl _ _) rfl)
      · intro lQ b W hI hUN hED KQ hKQ
        have f0 := hI.got 3 (of_decide_eq_true rfl) (edge hED 3 (by kernel_rfl)) rfl
        replace f0 : aT b 45 = .agg #[.int .i64 sc, .int .u64 x, .int .i64 h, .int .i64 nx] := f0
        refine opw_call 7 #[.tmp 45] _ _ _ rfl Tryz.func7 (by kernel_rfl) rfl #[.agg #[.int .i64 sc, .int .u64 x, .int .i64 h, .int .i64 nx]] (by simp [ev, f0]) ?_
        refine (toSecret_any sc x h nx W).mono ?_
        rintro e W2 ⟨rfl, hb⟩
        exact ⟨_, rfl, hKQ.out _ _ (hI.put 4 46 rfl rfl (by rw [hz]; decide) rfl hUN rfl HBB (cl7_stb D am nn cm ws a n c xs i at2 sc x h nx V p1 p2 w3.heap.size w.heap.size (w4.heap.size)) hb rfl)⟩
      · intro lQ b W hI hUN hED KQ hKQ
        have f0 := hI.got 0 (of_decide_eq_true rfl) (edge hED 0 (by kernel_rfl)) rfl
        replace f0 : aT b 42 = .agg #[.slice p1 nn nn, .slice p2 n n] := f0
        have f1 := hI.got 1 (of_decide_eq_true rfl) (edge hED 1 (by kernel_rfl)) rfl
        replace f1 : aT b 43 = .int .i64 i := f1
        have f2 := hI.got 2 (of_decide_eq_true rfl) (edge hED 2 (by kernel_rfl)) rfl
        replace f2 : aT b 44 = .int .i64 at2 := f2
        have f3 := hI.got 4 (of_decide_eq_true rfl) (edge hED 4 (by kernel_rfl)) rfl
        replace f3 : aT b 46 = .agg #[.int .i64 sc, .int .u64 x, .int .i64 h, .int .i64 nx] := f3
        refine opw_call 8 #[.tmp 42, .tmp 43, .tmp 44, .tmp 46] _ _ _ rfl Tryz.func8 (by kernel_rfl) rfl #[.agg #[.slice p1 nn nn, .slice p2 n n], .int .i64 i, .int .i64 at2, .agg #[.int .i64 sc, .int .u64 x, .int .i64 h, .int .i64 nx]] (by simp [ev, f0, f1, f2, f3]) ?_
        refine (HXC.out W hI.bel).mono ?_
        rintro e W2 ⟨r1, r1c, r2, r2c, rfl, ho, hb⟩
        exact ⟨_, rfl, hKQ.out _ _ (hI.put 5 47 rfl rfl (by rw [hz]; decide) rfl hUN rfl HBB (cl7_stb D am nn cm ws a n c xs i at2 sc x h nx V p1 p2 w3.heap.size w.heap.size (w4.heap.size)) hb ⟨r1, r1c, r2, r2c, rfl, ho.mono (Nat.le_trans HBB hI.bel.size)⟩)⟩
      · intro lQ b W hI hUN hED KQ hKQ
        have f := hI.got 5 (of_decide_eq_true rfl) (edge hED 5 (by kernel_rfl)) rfl
        exact opw_move 47 rfl (hKQ.out _ _ (hI.put 6 41 rfl rfl (by rw [hz]; decide) rfl hUN rfl HBB (cl7_stb D am nn cm ws a n c xs i at2 sc x h nx V p1 p2 w3.heap.size w.heap.size (w4.heap.size)) (Below.refl _ _) f))
      · intro lQ b W hI hUN hED KQ hKQ
        have f := hI.got 6 (of_decide_eq_true rfl) (edge hED 6 (by kernel_rfl)) rfl
        obtain ⟨r1, r1c, r2, r2c, f, o_0⟩ := f
        exact opw_extract 41 0 rfl _ _ f rfl (hKQ.out _ _ (hI.put 7 48 rfl rfl (by rw [hz]; decide) rfl hUN rfl HBB (cl7_stb D am nn cm ws a n c xs i at2 sc x h nx V p1 p2 w3.heap.size w.heap.size (w4.heap.size)) (Below.refl _ _) ⟨r1, r1c, r2, r2c, rfl, o_0⟩))
      · intro lQ b W hI hUN hED KQ hKQ
        have f := hI.got 6 (of_decide_eq_true rfl) (edge hED 6 (by kernel_rfl)) rfl
        obtain ⟨r1, r1c, r2, r2c, f, o_0⟩ := f
        exact opw_extract 41 1 rfl _ _ f rfl (hKQ.out _ _ (hI.put 8 49 rfl rfl (by rw [hz]; decide) rfl hUN rfl HBB (cl7_stb D am nn cm ws a n c xs i at2 sc x h nx V p1 p2 w3.heap.size w.heap.size (w4.heap.size)) (Below.refl _ _) rfl))
      · intro lQ b W hI hUN hED KQ hKQ
        have f := hI.got 6 (of_decide_eq_true rfl) (edge hED 6 (by kernel_rfl)) rfl
        obtain ⟨r1, r1c, r2, r2c, f, o_0⟩ := f
        exact opw_extract 41 2 rfl _ _ f rfl (hKQ.out _ _ (hI.put 9 50 rfl rfl (by rw [hz]; decide) rfl hUN rfl HBB (cl7_stb D am nn cm ws a n c xs i at2 sc x h nx V p1 p2 w3.heap.size w.heap.size (w4.heap.size)) (Below.refl _ _) rfl))
      · intro lQ b W hI hUN hED KQ hKQ
        refine opw_value (w' := W.alloc (.cells #[.slice none 0 0, .slice none 0 0] 32)) (.pointer (some ⟨W.heap.size, 0, none⟩)) (by kernel_rfl) ?_
        exact hKQ.out _ _ (hI.put 10 14 rfl rfl (by rw [hz]; decide) rfl hUN rfl HBB (cl7_stb D am nn cm ws a n c xs i at2 sc x h nx V p1 p2 w3.heap.size w.heap.size (w4.heap.size)) ((Below.refl _ _).alloc (Nat.le_refl _) _) ⟨W.heap.size, rfl, heap_alloc_new W _, Nat.le_trans HBB hI.bel.size⟩)
      · intro lQ b W hI hUN hED KQ hKQ
        refine opw_value (w' := W.alloc (.cells #[.int .i64 0, .int .u64 0, .int .i64 0, .int .i64 0] 33)) (.pointer (some ⟨W.heap.size, 0, none⟩)) (by kernel_rfl) ?_
        exact hKQ.out _ _ (hI.put 11 15 rfl rfl (by rw [hz]; decide) rfl hUN rfl HBB (cl7_stb D am nn cm ws a n c xs i at2 sc x h nx V p1 p2 w3.heap.size w.heap.size (w4.heap.size)) ((Below.refl _ _).alloc (Nat.le_refl _) _) ⟨W.heap.size, rfl, heap_alloc_new W _, Nat.le_trans HBB hI.bel.size⟩)
      · intro lQ b W hI hUN hED KQ hKQ
        obtain ⟨g, fb, hgb, hge⟩ := hI.got1 10 12 (of_decide_eq_true rfl) (edge hED 10 (by kernel_rfl)) hUN rfl
        have f := hI.got 7 (of_decide_eq_true rfl) (edge hED 7 (by kernel_rfl)) rfl
        obtain ⟨r1, r1c, r2, r2c, f, o_0⟩ := f
        refine wp_store_row 32 _ _ rfl g #[.slice r1 V.ct.length r1c, .slice r2 V.gs.length r2c] fb f 32 _ hgb (by kernel_rfl) rfl (by simp [Value.oneCell']) ?_
        have ht := setRow_touch W g #[.slice r1 V.ct.length r1c, .slice r2 V.gs.length r2c]
        exact hKQ.out _ _ (hI.store 12 (fun j hj => by
            rcases List.mem_singleton.1 hj with rfl
            exact edge hED 10 (by kernel_rfl)) (hI.bel.trans (ht.below hge (Nat.le_trans HBB hI.bel.size))) (cl7_st12 D am nn cm ws a n c xs i at2 sc x h nx V p1 p2 w3.heap.size w.heap.size (w4.heap.size) hgb ht hge) ⟨g, r1, r1c, r2, r2c, fb, (setRow_heap W g _ _ _ _ hgb), hge, o_0.touched hgb (by decide) (by decide) ht⟩)
      · intro lQ b W hI hUN hED KQ hKQ
        obtain ⟨g, fb, hgb, hge⟩ := hI.got1 11 13 (of_decide_eq_true rfl) (edge hED 11 (by kernel_rfl)) hUN rfl
        have f := hI.got 8 (of_decide_eq_true rfl) (edge hED 8 (by kernel_rfl)) rfl
        refine wp_store_row 33 _ _ rfl g #[.int .i64 V.t.1, .int .u64 V.t.2.1, .int .i64 V.t.2.2.1, .int .i64 V.t.2.2.2] fb f 33 _ hgb (by kernel_rfl) rfl (by simp [Value.oneCell']) ?_
        have ht := setRow_touch W g #[.int .i64 V.t.1, .int .u64 V.t.2.1, .int .i64 V.t.2.2.1, .int .i64 V.t.2.2.2]
        exact hKQ.out _ _ (hI.store 13 (fun j hj => by
            rcases List.mem_singleton.1 hj with rfl
            exact edge hED 11 (by kernel_rfl)) (hI.bel.trans (ht.below hge (Nat.le_trans HBB hI.bel.size))) (cl7_st13 D am nn cm ws a n c xs i at2 sc x h nx V p1 p2 w3.heap.size w.heap.size (w4.heap.size) hgb ht hge) ⟨g, fb, (setRow_heap W g _ _ _ _ hgb), hge⟩)
      · intro lQ b W hI hUN hED KQ hKQ
        have f := hI.got 9 (of_decide_eq_true rfl) (edge hED 9 (by kernel_rfl)) rfl
        exact opw_assign 50 rfl (hKQ.out _ _ (hI.put 14 16 rfl rfl (by rw [hz]; decide) rfl hUN rfl HBB (cl7_stb D am nn cm ws a n c xs i at2 sc x h nx V p1 p2 w3.heap.size w.heap.size (w4.heap.size)) (Below.refl _ _) f))
    · intro b W hf hb F
      obtain ⟨hc, i1, i1c, i2, i2c, eC, hC0, hCge, hO⟩ := F 12 (of_decide_eq_true rfl) rfl
      obtain ⟨hs2, eS, hS0, hSge⟩ := F 13 (of_decide_eq_true rfl) rfl
      have eK := F 14 (of_decide_eq_true rfl) rfl
      replace eC : aT b 14 = _ := eC
      replace eS : aT b 15 = _ := eS
      replace eK : aT b 16 = _ := eK
      rw [hf.eq]
      simp only [puts, Act.put, List.setIfInBounds_toArray, List.set_cons_zero, List.set_cons_succ, eC, eS, eK]
      clear hf F
      clear eC eS eK
      generalize aT b = AT
      clear b
      obtain ⟨wB, hWn⟩ : ∃ wB, wB = W := ⟨_, rfl⟩
      subst hWn
      have HLB : Hid (Bxs [(w.heap.size, #[.slice am nn cm, .slice a n c], 25), ((w.heap.size + 1), #[.int .i64 sc, .int .u64 x, .int .i64 h, .int .i64 nx], 28), (gc, #[.slice u1 V.ct.length u1c, .slice u2 V.gs.length u2c], 32), (gs, #[.int .i64 V.t.1, .int .u64 V.t.2.1, .int .i64 V.t.2.2.1, .int .i64 V.t.2.2.2], 33), (w3.heap.size, #[.slice p1 nn nn, .slice p2 n n], 32), (hc, #[.slice i1 V.ct.length i1c, .slice i2 V.gs.length i2c], 32), (hs2, #[.int .i64 V.t.1, .int .u64 V.t.2.1, .int .i64 V.t.2.2.1, .int .i64 V.t.2.2.2], 33)] wB) := by
        refine ⟨fun p hp => ?_⟩
        have h1 := HL4.out.kept hb
        simp only [List.mem_cons, List.not_mem_nil, or_false] at hp
        rcases hp with rfl | rfl | rfl | rfl | rfl | rfl | rfl
        all_goals first | exact hC0 | exact hS0 | exact h1.all _ (by simp)
      have hcB := keepT hc4 hb
      have HIB : Hid (MsgI (D + 2) w4.heap.size wB.heap.size wB i1 V.ct.length i1c V.ct i2 V.gs.length i2c V.gs) := hO
      have HSB : Hid (_) := HS4.out.kept hb
      have HXB : Hid (wA.heap.size ≤ M ∧ M ≤ w3.heap.size ∧ OwnBT wA.heap.size M wB p1 nn nn ws ∧ OwnKidsT D M w3.heap.size wB p2 n xs) := ⟨HX4.out.1, HX4.out.2.1, HX4.out.2.2.1.kept hb, HX4.out.2.2.2.kept hb⟩
      have hsB := hb.size
      have lhc : w4.heap.size ≤ hc := hCge
      have lhs : w4.heap.size ≤ hs2 := hSge
      clear hC0 hS0 hO HL4 HS4 HX4 hb hCge hSge
      obtain ⟨x0, x1⟩ := cells2m (HLB.out.all (hc, #[.slice i1 V.ct.length i1c, .slice i2 V.gs.length i2c], 32) (by simp))
      obtain ⟨y0, y1⟩ := cells2m (HLB.out.all (gc, #[.slice u1 V.ct.length u1c, .slice u2 V.gs.length u2c], 32) (by simp))
      go_wp2_with fail
      refine (eqMsg_same (D + 2) i1 V.ct.length i1c i2 V.gs.length i2c u1 u1c u2 u2c V.ct V.gs _ HIB.out.row HSB.out.row (by unfold maxLen; omega) HIB.out.kids HSB.out.kids).mono ?_
      rintro e w8a ⟨rfl, hw8a⟩
      clear x0 x1 y0 y1
      have HZ : Hid (_) := HLB.out.kept hw8a
      obtain ⟨x0, x1, x2, x3⟩ := cells4 (HZ.out.all (hs2, #[.int .i64 V.t.1, .int .u64 V.t.2.1, .int .i64 V.t.2.2.1, .int .i64 V.t.2.2.2], 33) (by simp))
      obtain ⟨y0, y1, y2, y3⟩ := cells4 (HZ.out.all (gs, #[.int .i64 V.t.1, .int .u64 V.t.2.1, .int .i64 V.t.2.2.1, .int .i64 V.t.2.2.2], 33) (by simp))
      go_wp2_with fail
      refine (eqSecret_same V.t _).mono ?_
      rintro e w8 ⟨rfl, hw8b⟩
      clear x0 x1 x2 x3 y0 y1 y2 y3 HZ
      have hw8 := keepT hw8a hw8b
      clear hw8a hw8b
      have hc8 := keepT hcB hw8
      have HL8 : Hid (_) := HLB.out.kept hw8
      have HI8 : Hid (_) := HIB.out.kept hw8
      have HS8 : Hid (_) := HSB.out.kept hw8
      have HX8 : Hid (wA.heap.size ≤ M ∧ M ≤ w3.heap.size ∧ OwnBT wA.heap.size M w8 p1 nn nn ws ∧ OwnKidsT D M w3.heap.size w8 p2 n xs) := ⟨HXB.out.1, HXB.out.2.1, HXB.out.2.2.1.kept hw8, HXB.out.2.2.2.kept hw8⟩
      have hs8 := hw8.size
      clear HLB HIB HSB HXB hw8
      have HCZ : Hid (∀ W, Below w8.heap.size w8 W → W.cell? ⟨w3.heap.size, 0, none⟩ = some (.slice p1 nn nn) ∧ W.cell? ⟨w3.heap.size, 1, none⟩ = some (.slice p2 n n) ∧ W.cell? ⟨w.heap.size, 0, none⟩ = some (.slice am nn cm) ∧ W.cell? ⟨w.heap.size, 1, none⟩ = some (.slice a n c)) := fun W hW => ⟨(cells2m ((HL8.out.kept hW).all (w3.heap.size, #[.slice p1 nn nn, .slice p2 n n], 32) (by simp))).1, (cells2m ((HL8.out.kept hW).all (w3.heap.size, #[.slice p1 nn nn, .slice p2 n n], 32) (by simp))).2, (cells2m ((HL8.out.kept hW).all (w.heap.size, #[.slice am nn cm, .slice a n c], 25) (by simp))).1, (cells2m ((HL8.out.kept hW).all (w.heap.size, #[.slice am nn cm, .slice a n c], 25) (by simp))).2⟩
      go_upto_region 10 with fail
      have hcz : Below w8.heap.size w8 w8.drew := (Below.refl _ _).drew
      have SS0 := HCZ.out _ hcz
      go_region_held3 (fun W => W.cell? ⟨w3.heap.size, 0, none⟩ = some (.slice p1 nn nn) ∧ W.cell? ⟨w3.heap.size, 1, none⟩ = some (.slice p2 n n) ∧ W.cell? ⟨w.heap.size, 0, none⟩ = some (.slice am nn cm) ∧ W.cell? ⟨w.heap.size, 1, none⟩ = some (.slice a n c)) (first | assumption | exact SS0 | exact SS2 | exact SS4)
        (first
          | (go_at_call 6; ((with_reducible refine (toMsg_any D am nn cm ws a n c xs w8.drew (HRM.out _ (keepT hc8 hcz)).1 hnd (HRM.out _ (keepT hc8 hcz)).2 hwt).mono ?_); rintro e wT ⟨r1, r2, M8, rfl, ho8, hb8⟩; have B8 : Below w8.heap.size w8 wT := keepT hcz hb8; have SS2 := HCZ.out _ B8))
          | (go_at_call 9; ((with_reducible refine (eqMsg_same D p1 nn nn p2 n n r1 nn r2 n ws xs wT (HX8.out.2.2.1.kept B8).own.toRow ho8.2.2.1.own.toRow (by unfold maxLen; omega) (HX8.out.2.2.2.kept B8).over ho8.2.2.2.over).mono ?_); rintro e w9 ⟨rfl, hb9⟩; have B9 : Below w8.heap.size w8 w9 := keepT B8 hb9; have SS4 := HCZ.out _ B9)))
      all_goals (
        clear SS0 SS2 SS4
        have hc9 := keepT hc8 B9
        have HL9 : Hid (_) := HL8.out.kept B9
        have HI9 : Hid (_) := HI8.out.kept B9
        have HS9 : Hid (_) := HS8.out.kept B9
        have HX9 : Hid (wA.heap.size ≤ M ∧ M ≤ w3.heap.size ∧ OwnBT wA.heap.size M w9 p1 nn nn ws ∧ OwnKidsT D M w3.heap.size w9 p2 n xs) := ⟨HX8.out.1, HX8.out.2.1, HX8.out.2.2.1.kept B9, HX8.out.2.2.2.kept B9⟩
        have hs9 := B9.size
        clear ho8 HL8 HI8 HS8 HX8
        obtain ⟨x0, x1⟩ := cells2m (HL9.out.all (w3.heap.size, #[.slice p1 nn nn, .slice p2 n n], 32) (by simp))
        go_wp2_with fail
        refine (markMsg_any D wA.heap.size M w3.heap.size p1 nn nn ws p2 n n xs _ HX9.out.1 HX9.out.2.1 (by omega) HX9.out.2.2.1 HX9.out.2.2.2 hnd hwt).mono ?_
        rintro e wG ⟨kk, rfl, hkb, htG⟩
        clear x0 x1
        have hcG : Below w1.heap.size w1 wG := hc9.trans (htG.below (by omega) (by have := hc9.size; omega))
        have HLG : Hid (Bxs [(w.heap.size, #[.slice am nn cm, .slice a n c], 25), ((w.heap.size + 1), #[.int .i64 sc, .int .u64 x, .int .i64 h, .int .i64 nx], 28), (gc, #[.slice u1 V.ct.length u1c, .slice u2 V.gs.length u2c], 32), (gs, #[.int .i64 V.t.1, .int .u64 V.t.2.1, .int .i64 V.t.2.2.1, .int .i64 V.t.2.2.2], 33), (w3.heap.size, #[.slice p1 nn nn, .slice p2 n n], 32), (hc, #[.slice i1 V.ct.length i1c, .slice i2 V.gs.length i2c], 32), (hs2, #[.int .i64 V.t.1, .int .u64 V.t.2.1, .int .i64 V.t.2.2.1, .int .i64 V.t.2.2.2], 33)] wG) := HL9.out.touch htG (by simp; omega)
        have HIG : Hid (MsgI (D + 2) w4.heap.size wB.heap.size wG i1 V.ct.length i1c V.ct i2 V.gs.length i2c V.gs) := HI9.out.touch htG.toX (fun b hb1 hb2 _ e => by omega)
        have HSG : Hid (MsgI (D + 2) w2.heap.size wA.heap.size wG u1 V.ct.length u1c V.ct u2 V.gs.length u2c V.gs) := HS9.out.touch htG.toX (fun b hb1 hb2 _ e => by omega)
        have hsG := htG.size
        clear htG HL9 HI9 HS9 HX9
        have kz : ¬ (((kk : Nat) : Int) < 0) := by omega
        obtain ⟨x0, x1⟩ := cells2m (HLG.out.all (hc, #[.slice i1 V.ct.length i1c, .slice i2 V.gs.length i2c], 32) (by simp))
        obtain ⟨y0, y1⟩ := cells2m (HLG.out.all (gc, #[.slice u1 V.ct.length u1c, .slice u2 V.gs.length u2c], 32) (by simp))
        go_wp2_with fail
        refine (eqMsg_same (D + 2) i1 V.ct.length i1c i2 V.gs.length i2c u1 u1c u2 u2c V.ct V.gs _ HIG.out.row HSG.out.row (by unfold maxLen; omega) HIG.out.kids HSG.out.kids).mono ?_
        rintro e wIa ⟨rfl, hwIa⟩
        clear x0 x1 y0 y1
        have HZ : Hid (_) := HLG.out.kept hwIa
        obtain ⟨x0, x1, x2, x3⟩ := cells4 (HZ.out.all (hs2, #[.int .i64 V.t.1, .int .u64 V.t.2.1, .int .i64 V.t.2.2.1, .int .i64 V.t.2.2.2], 33) (by simp))
        obtain ⟨y0, y1, y2, y3⟩ := cells4 (HZ.out.all (gs, #[.int .i64 V.t.1, .int .u64 V.t.2.1, .int .i64 V.t.2.2.1, .int .i64 V.t.2.2.2], 33) (by simp))
        go_wp2_with fail
        refine (eqSecret_same V.t _).mono ?_
        rintro e wI ⟨rfl, hwIb⟩
        clear x0 x1 x2 x3 y0 y1 y2 y3 HZ
        have hwI := keepT hwIa hwIb
        clear hwIa hwIb
        have hcI := keepT hcG hwI
        have HLI : Hid (_) := HLG.out.kept hwI
        have HIJ : Hid (_) := HIG.out.kept hwI
        have HSI : Hid (_) := HSG.out.kept hwI
        have hsI := hwI.size
        clear HLG HIG HSG hwI
        obtain ⟨MM, hMM⟩ : ∃ MM : Nat, MM = (mkST (D + 2) V.gs (1 + V.ct.length)).2 := ⟨_, rfl⟩
        obtain ⟨GS, hGS⟩ : ∃ GS, GS = (mkST (D + 2) V.gs (1 + V.ct.length)).1 := ⟨_, rfl⟩
        have HHE : Hid (∀ W : World, Row W i1 V.ct.length (marks 1 V.ct.length) → KidsT (D + 2) W i2 V.gs.length GS → Calls Tryz.prog 12 #[.agg #[.slice i1 V.ct.length i1c, .slice i2 V.gs.length i2c], .int .i64 1] W fun e w' => e = .returned (.int .i64 ((MM : Nat) : Int)) ∧ Below W.heap.size W w') := fun W h1 h2 => by
          rw [hMM]
          rw [hGS] at h2
          exact heldMsgX_any (D + 2) i1 V.ct.length i1c i2 V.gs.length i2c V.gs W h1 h2 hVc hVw
        have HMA : Hid (∀ W : World, MsgI (D + 2) w4.heap.size wB.heap.size W i1 V.ct.length i1c V.ct i2 V.gs.length i2c V.gs → Calls Tryz.prog 11 #[.agg #[.slice i1 V.ct.length i1c, .slice i2 V.gs.length i2c], .int .i64 1] W fun e w' => e = .returned (.int .i64 ((MM : Nat) : Int)) ∧ MsgI (D + 2) w4.heap.size wB.heap.size w' i1 V.ct.length i1c (marks 1 V.ct.length) i2 V.gs.length i2c GS ∧ Touch w4.heap.size wB.heap.size W w' ∧ ∀ (b : Nat) (cs : Array Value) (t : Nat) (fr : Nat × Nat), W.heap[b]? = some (.cells cs t fr) → t ≠ 5 → t ≠ 47 → w'.heap[b]? = some (.cells cs t fr)) := fun W hW => by
          rw [hMM, hGS]
          exact markMsgI_any (D + 2) _ _ i1 V.ct.length i1c V.ct i2 V.gs.length i2c V.gs W hW hVc hVw
        clear hMM hGS
        have tq : (((MM : Nat) : Int) != ((MM : Nat) : Int)) = false := by simp
        have tz : ¬ (((MM : Nat) : Int) < 0) := by omega
        obtain ⟨x0, x1⟩ := cells2m (HLI.out.all (hc, #[.slice i1 V.ct.length i1c, .slice i2 V.gs.length i2c], 32) (by simp))
        go_wp2_with fail
        refine (HMA.out _ HIJ.out).mono ?_
        rintro e wK ⟨rfl, hoK, htK, hkp⟩
        clear x0 x1
        have hcK : Below w1.heap.size w1 wK := hcI.trans (htK.below (by omega) (by have := hcI.size; omega))
        have HLK : Hid (Bxs [(w.heap.size, #[.slice am nn cm, .slice a n c], 25), ((w.heap.size + 1), #[.int .i64 sc, .int .u64 x, .int .i64 h, .int .i64 nx], 28), (gc, #[.slice u1 V.ct.length u1c, .slice u2 V.gs.length u2c], 32), (gs, #[.int .i64 V.t.1, .int .u64 V.t.2.1, .int .i64 V.t.2.2.1, .int .i64 V.t.2.2.2], 33), (w3.heap.size, #[.slice p1 nn nn, .slice p2 n n], 32), (hc, #[.slice i1 V.ct.length i1c, .slice i2 V.gs.length i2c], 32), (hs2, #[.int .i64 V.t.1, .int .u64 V.t.2.1, .int .i64 V.t.2.2.1, .int .i64 V.t.2.2.2], 33)] wK) := by
          refine ⟨fun p hp => ?_⟩
          have h1 := HLI.out.all p hp
          simp only [List.mem_cons, List.not_mem_nil, or_false] at hp
          rcases hp with rfl | rfl | rfl | rfl | rfl | rfl | rfl <;> exact hkp _ _ _ _ h1 (by dsimp only; decide) (by dsimp only; decide)
        have HSK : Hid (MsgI (D + 2) w2.heap.size wA.heap.size wK u1 V.ct.length u1c V.ct u2 V.gs.length u2c V.gs) := HSI.out.touch htK.toX (fun b hb1 hb2 _ e => by omega)
        have HOK : Hid (MsgI (D + 2) w4.heap.size wB.heap.size wK i1 V.ct.length i1c (marks 1 V.ct.length) i2 V.gs.length i2c GS) := hoK
        clear hoK htK hkp HLI HIJ HSI
        obtain ⟨x0, x1⟩ := cells2m (HLK.out.all (hc, #[.slice i1 V.ct.length i1c, .slice i2 V.gs.length i2c], 32) (by simp))
        go_wp2_with fail
        refine (HHE.out _ HOK.out.row HOK.out.kids).mono ?_
        rintro e wM ⟨rfl, hwM⟩
        clear x0 x1
        have hcM := keepT hcK hwM
        have hc0 := keepT hb0 hcM
        have HLM : Hid (_) := HLK.out.kept hwM
        have HSM : Hid (_) := HSK.out.kept hwM
        have HOM : Hid (_) := HOK.out.kept hwM
        clear HLK HSK HOK hwM
        go_upto_region 24 with fail
        have HBB : wM.heap.size ≤ wM.heap.size := Nat.le_refl _
        refine wp_region_ri (cl24 D am nn cm ws a n c xs i at2 sc x h nx V w.heap.size (wM.heap.size)) [20, 21, 22, 104, 105, 106, 107, 108, 109, 110, 111, 112, 113, 114] (wM.heap.size) (fun a0 => a0.tmps.size = 138 ∧ aT a0 1 = .int .i64 i ∧ aT a0 2 = .int .i64 at2 ∧ aT a0 4 = .pointer (some ⟨w.heap.size, 0, none⟩) ∧ aT a0 7 = .pointer (some ⟨(w.heap.size + 1), 0, none⟩)) (by kernel_rfl) rfl (by kernel_rfl) rfl ⟨rfl, rfl, rfl, rfl, rfl⟩ (cl24_stb D am nn cm ws a n c xs i at2 sc x h nx V w.heap.size (wM.heap.size)) ?_ ?_ ?_
        · intro k hk hk2
          match k, hk, hk2 with
          | 16, _, _ => exact (HLM.out.all (w.heap.size, #[.slice am nn cm, .slice a n c], 25) (by simp))
          | 17, _, _ => exact (HLM.out.all ((w.heap.size + 1), #[.int .i64 sc, .int .u64 x, .int .i64 h, .int .i64 nx], 28) (by simp))
          | 0, hk, _ => exact absurd hk (by show ¬ (16 ≤ 0); omega)
          | 1, hk, _ => exact absurd hk (by show ¬ (16 ≤ 1); omega)
          | 2, hk, _ => exact absurd hk (by show ¬ (16 ≤ 2); omega)
          | 3, hk, _ => exact absurd hk (by show ¬ (16 ≤ 3); omega)
          | 4, hk, _ => exact absurd hk (by show ¬ (16 ≤ 4); omega)
          | 5, hk, _ => exact absurd hk (by show ¬ (16 ≤ 5); omega)
          | 6, hk, _ => exact absurd hk (by show ¬ (16 ≤ 6); omega)
          | 7, hk, _ => exact absurd hk (by show ¬ (16 ≤ 7); omega)
          | 8, hk, _ => exact absurd hk (by show ¬ (16 ≤ 8); omega)
          | 9, hk, _ => exact absurd hk (by show ¬ (16 ≤ 9); omega)
          | 10, hk, _ => exact absurd hk (by show ¬ (16 ≤ 10); omega)
          | 11, hk, _ => exact absurd hk (by show ¬ (16 ≤ 11); omega)
          | 12, hk, _ => exact absurd hk (by show ¬ (16 ≤ 12); omega)
          | 13, hk, _ => exact absurd hk (by show ¬ (16 ≤ 13); omega)
          | 14, hk, _ => exact absurd hk (by show ¬ (16 ≤ 14); omega)
          | 15, hk, _ => exact absurd hk (by show ¬ (16 ≤ 15); omega)
          | k + 18, _, hk2 => exact absurd hk2 (by show ¬ (k + 18 < 18); omega)
        · rintro a0 ⟨hz, g1, g2, g4, g7⟩
          refine StepsRI.cons ?_ (StepsRI.cons ?_ (StepsRI.cons ?_ (StepsRI.cons ?_ (StepsRI.cons ?_ (StepsRI.cons ?_ (StepsRI.cons ?_ (StepsRI.cons ?_ (StepsRI.cons ?_ (StepsRI.cons ?_ (StepsRI.cons ?_ (StepsRI.cons ?_ (StepsRI.cons ?_ (StepsRI.cons ?_ (StepsRI.cons ?_ (StepsRI.cons ?_ (StepsRI.nil))))))))))))))))
          · intro lQ b W hI hUN hED KQ hKQ
            have hg := (hI.vot 16 (of_decide_eq_true rfl) (of_decide_eq_true rfl) rfl)
            refine wp_load_row 25 _ rfl (w.heap.size) ((hI.fr.same 4 (by decide)).trans g4) 25 #[.slice am nn cm, .slice a n c] (0, 0) _ hg Tryz.underlying25 rfl (by kernel_rfl) ?_
            exact hKQ.out _ _ (hI.put 0 105 rfl rfl (by rw [hz]; decide) rfl hUN rfl HBB (cl24_stb D am nn cm ws a n c xs i at2 sc x h nx V w.heap.size (wM.heap.size)) (Below.refl _ _) rfl)
          · intro lQ b W hI hUN hED KQ hKQ
            have f0 := hI.got 0 (of_decide_eq_true rfl) (edge hED 0 (by kernel_rfl)) rfl
            replace f0 : aT b 105 = .agg #[.slice am nn cm, .slice a n c] := f0
            refine opw_call 6 #[.tmp 105] _ _ _ rfl Tryz.func6 (by kernel_rfl) rfl #[.agg #[.slice am nn cm, .slice a n c]] (by simp [ev, f0]) ?_
            refine (toMsg_any D am nn cm ws a n c xs W (HRM.out W (keepT hcM hI.bel)).1 hnd (HRM.out W (keepT hcM hI.bel)).2 hwt).mono ?_
            rintro e W2 ⟨t1, t2, M0, rfl, ho, hb⟩
            exact ⟨_, rfl, hKQ.out _ _ (hI.put 1 106 rfl rfl (by rw [hz]; decide) rfl hUN rfl HBB (cl24_stb D am nn cm ws a n c xs i at2 sc x h nx V w.heap.size (wM.heap.size)) hb ⟨t1, t2, rfl, M0, _, Nat.le_trans (Nat.le_trans HBB hI.bel.size) ho.1, ho.2.2.1.mono (Nat.le_trans HBB hI.bel.size) (Nat.le_refl _), ho.2.2.2⟩)⟩
          · intro lQ b W hI hUN hED KQ hKQ
            exact opw_move 1 rfl (hKQ.out _ _ (hI.put 2 107 rfl rfl (by rw [hz]; decide) rfl hUN rfl HBB (cl24_stb D am nn cm ws a n c xs i at2 sc x h nx V w.heap.size (wM.heap.size)) (Below.refl _ _) ((hI.fr.same 1 (by decide)).trans g1)))
          · intro lQ b W hI hUN hED KQ hKQ
            exact opw_move 2 rfl (hKQ.out _ _ (hI.put 3 108 rfl rfl (by rw [hz]; decide) rfl hUN rfl HBB (cl24_stb D am nn cm ws a n c xs i at2 sc x h nx V w.heap.size (wM.heap.size)) (Below.refl _ _) ((hI.fr.same 2 (by decide)).trans g2)))
          · intro lQ b W hI hUN hED KQ hKQ
            have hg := (hI.vot 17 (of_decide_eq_true rfl) (of_decide_eq_true rfl) rfl)
            refine wp_load_row 28 _ rfl ((w.heap.size + 1)) ((hI.fr.same 7 (by decide)).trans g7) 28 #[.int .i64 sc, .int .u64 x, .int .i64 h, .int .i64 nx] (0, 0) _ hg Tryz.underlying28 rfl (by kernel_rfl) ?_
            exact hKQ.out _ _ (hI.put 4 109 rfl rfl (by rw [hz]; decide) rfl hUN rfl HBB (cl24_stb D am nn cm ws a n c xs i at2 sc x h nx V w.heap.size (wM.heap.size)) (Below.refl _ _) rfl)
          · intro lQ b W hI hUN hED KQ hKQ
            have f0 := hI.got 4 (of_decide_eq_true rfl) (edge hED 4 (by kernel_rfl)) rfl
            replace f0 : aT b 109 = .agg #[.int .i64 sc, .int .u64 x, .int .i64 h, .int .i64 nx] := f0
            refine opw_call 7 #[.tmp 109] _ _ _ rfl Tryz.func7 (by kernel_rfl) rfl #[.agg #[.int .i64 sc, .int .u64 x, .int .i64 h, .int .i64 nx]] (by simp [ev, f0]) ?_
            refine (toSecret_any sc x h nx W).mono ?_
            rintro e W2 ⟨rfl, hb⟩
            exact ⟨_, rfl, hKQ.out _ _ (hI.put 5 110 rfl rfl (by rw [hz]; decide) rfl hUN rfl HBB (cl24_stb D am nn cm ws a n c xs i at2 sc x h nx V w.heap.size (wM.heap.size)) hb rfl)⟩
          · intro lQ b W hI hUN hED KQ hKQ
            have f0 := hI.got 1 (of_decide_eq_true rfl) (edge hED 1 (by kernel_rfl)) rfl
            obtain ⟨t1, t2, f0, o0_0⟩ := f0
            replace f0 : aT b 106 = .agg #[.slice t1 nn nn, .slice t2 n n] := f0
            have f1 := hI.got 2 (of_decide_eq_true rfl) (edge hED 2 (by kernel_rfl)) rfl
            replace f1 : aT b 107 = .int .i64 i := f1
            have f2 := hI.got 3 (of_decide_eq_true rfl) (edge hED 3 (by kernel_rfl)) rfl
            replace f2 : aT b 108 = .int .i64 at2 := f2
            have f3 := hI.got 5 (of_decide_eq_true rfl) (edge hED 5 (by kernel_rfl)) rfl
            replace f3 : aT b 110 = .agg #[.int .i64 sc, .int .u64 x, .int .i64 h, .int .i64 nx] := f3
            refine opw_call 8 #[.tmp 106, .tmp 107, .tmp 108, .tmp 110] _ _ _ rfl Tryz.func8 (by kernel_rfl) rfl #[.agg #[.slice t1 nn nn, .slice t2 n n], .int .i64 i, .int .i64 at2, .agg #[.int .i64 sc, .int .u64 x, .int .i64 h, .int .i64 nx]] (by simp [ev, f0, f1, f2, f3]) ?_
            refine (HIM.out wM.heap.size W t1 t2 o0_0).mono ?_
            rintro e W2 ⟨r1, r1c, r2, r2c, rfl, ho, hb⟩
            exact ⟨_, rfl, hKQ.out _ _ (hI.put 6 111 rfl rfl (by rw [hz]; decide) rfl hUN rfl HBB (cl24_stb D am nn cm ws a n c xs i at2 sc x h nx V w.heap.size (wM.heap.size)) hb ⟨r1, r1c, r2, r2c, rfl, ho.mono (Nat.le_trans HBB hI.bel.size)⟩)⟩
          · intro lQ b W hI hUN hED KQ hKQ
            have f := hI.got 6 (of_decide_eq_true rfl) (edge hED 6 (by kernel_rfl)) rfl
            exact opw_move 111 rfl (hKQ.out _ _ (hI.put 7 104 rfl rfl (by rw [hz]; decide) rfl hUN rfl HBB (cl24_stb D am nn cm ws a n c xs i at2 sc x h nx V w.heap.size (wM.heap.size)) (Below.refl _ _) f))
          · intro lQ b W hI hUN hED KQ hKQ
            have f := hI.got 7 (of_decide_eq_true rfl) (edge hED 7 (by kernel_rfl)) rfl
            obtain ⟨r1, r1c, r2, r2c, f, o_0⟩ := f
            exact opw_extract 104 0 rfl _ _ f rfl (hKQ.out _ _ (hI.put 8 112 rfl rfl (by rw [hz]; decide) rfl hUN rfl HBB (cl24_stb D am nn cm ws a n c xs i at2 sc x h nx V w.heap.size (wM.heap.size)) (Below.refl _ _) ⟨r1, r1c, r2, r2c, rfl, o_0⟩))
          · intro lQ b W hI hUN hED KQ hKQ
            have f := hI.got 7 (of_decide_eq_true rfl) (edge hED 7 (by kernel_rfl)) rfl
            obtain ⟨r1, r1c, r2, r2c, f, o_0⟩ := f
            exact opw_extract 104 1 rfl _ _ f rfl (hKQ.out _ _ (hI.put 9 113 rfl rfl (by rw [hz]; decide) rfl hUN rfl HBB (cl24_stb D am nn cm ws a n c xs i at2 sc x h nx V w.heap.size (wM.heap.size)) (Below.refl _ _) rfl))
          · intro lQ b W hI hUN hED KQ hKQ
            have f := hI.got 7 (of_decide_eq_true rfl) (edge hED 7 (by kernel_rfl)) rfl
            obtain ⟨r1, r1c, r2, r2c, f, o_0⟩ := f
            exact opw_extract 104 2 rfl _ _ f rfl (hKQ.out _ _ (hI.put 10 114 rfl rfl (by rw [hz]; decide) rfl hUN rfl HBB (cl24_stb D am nn cm ws a n c xs i at2 sc x h nx V w.heap.size (wM.heap.size)) (Below.refl _ _) rfl))
          · intro lQ b W hI hUN hED KQ hKQ
            refine opw_value (w' := W.alloc (.cells #[.slice none 0 0, .slice none 0 0] 32)) (.pointer (some ⟨W.heap.size, 0, none⟩)) (by kernel_rfl) ?_
            exact hKQ.out _ _ (hI.put 11 20 rfl rfl (by rw [hz]; decide) rfl hUN rfl HBB (cl24_stb D am nn cm ws a n c xs i at2 sc x h nx V w.heap.size (wM.heap.size)) ((Below.refl _ _).alloc (Nat.le_refl _) _) ⟨W.heap.size, rfl, heap_alloc_new W _, Nat.le_trans HBB hI.bel.size⟩)
          · intro lQ b W hI hUN hED KQ hKQ
            refine opw_value (w' := W.alloc (.cells #[.int .i64 0, .int .u64 0, .int .i64 0, .int .i64 0] 33)) (.pointer (some ⟨W.heap.size, 0, none⟩)) (by kernel_rfl) ?_
            exact hKQ.out _ _ (hI.put 12 21 rfl rfl (by rw [hz]; decide) rfl hUN rfl HBB (cl24_stb D am nn cm ws a n c xs i at2 sc x h nx V w.heap.size (wM.heap.size)) ((Below.refl _ _).alloc (Nat.le_refl _) _) ⟨W.heap.size, rfl, heap_alloc_new W _, Nat.le_trans HBB hI.bel.size⟩)
          · intro lQ b W hI hUN hED KQ hKQ
            obtain ⟨g, fb, hgb, hge⟩ := hI.got1 11 13 (of_decide_eq_true rfl) (edge hED 11 (by kernel_rfl)) hUN rfl
            have f := hI.got 8 (of_decide_eq_true rfl) (edge hED 8 (by kernel_rfl)) rfl
            obtain ⟨r1, r1c, r2, r2c, f, o_0⟩ := f
            refine wp_store_row 32 _ _ rfl g #[.slice r1 V.ct.length r1c, .slice r2 V.gs.length r2c] fb f 32 _ hgb (by kernel_rfl) rfl (by simp [Value.oneCell']) ?_
            have ht := setRow_touch W g #[.slice r1 V.ct.length r1c, .slice r2 V.gs.length r2c]
            exact hKQ.out _ _ (hI.store 13 (fun j hj => by
                rcases List.mem_singleton.1 hj with rfl
                exact edge hED 11 (by kernel_rfl)) (hI.bel.trans (ht.below hge (Nat.le_trans HBB hI.bel.size))) (cl24_st13 D am nn cm ws a n c xs i at2 sc x h nx V w.heap.size (wM.heap.size) hgb ht hge) ⟨g, r1, r1c, r2, r2c, fb, (setRow_heap W g _ _ _ _ hgb), hge, o_0.touched hgb (by decide) (by decide) ht⟩)
          · intro lQ b W hI hUN hED KQ hKQ
            obtain ⟨g, fb, hgb, hge⟩ := hI.got1 12 14 (of_decide_eq_true rfl) (edge hED 12 (by kernel_rfl)) hUN rfl
            have f := hI.got 9 (of_decide_eq_true rfl) (edge hED 9 (by kernel_rfl)) rfl
            refine wp_store_row 33 _ _ rfl g #[.int .i64 V.t.1, .int .u64 V.t.2.1, .int .i64 V.t.2.2.1, .int .i64 V.t.2.2.2] fb f 33 _ hgb (by kernel_rfl) rfl (by simp [Value.oneCell']) ?_
            have ht := setRow_touch W g #[.int .i64 V.t.1, .int .u64 V.t.2.1, .int .i64 V.t.2.2.1, .int .i64 V.t.2.2.2]
            exact hKQ.out _ _ (hI.store 14 (fun j hj => by
                rcases List.mem_singleton.1 hj with rfl
                exact edge hED 12 (by kernel_rfl)) (hI.bel.trans (ht.below hge (Nat.le_trans HBB hI.bel.size))) (cl24_st14 D am nn cm ws a n c xs i at2 sc x h nx V w.heap.size (wM.heap.size) hgb ht hge) ⟨g, fb, (setRow_heap W g _ _ _ _ hgb), hge⟩)
          · intro lQ b W hI hUN hED KQ hKQ
            have f := hI.got 10 (of_decide_eq_true rfl) (edge hED 10 (by kernel_rfl)) rfl
            exact opw_assign 114 rfl (hKQ.out _ _ (hI.put 15 22 rfl rfl (by rw [hz]; decide) rfl hUN rfl HBB (cl24_stb D am nn cm ws a n c xs i at2 sc x h nx V w.heap.size (wM.heap.size)) (Below.refl _ _) f))
        · intro b W hf hb F
          obtain ⟨qc, q1, q1c, q2, q2c, eC, hC0, hCge, hO⟩ := F 13 (of_decide_eq_true rfl) rfl
          obtain ⟨qs, eS, hS0, hSge⟩ := F 14 (of_decide_eq_true rfl) rfl
          have eK := F 15 (of_decide_eq_true rfl) rfl
          replace eC : aT b 20 = _ := eC
          replace eS : aT b 21 = _ := eS
          replace eK : aT b 22 = _ := eK
          rw [hf.eq]
          simp only [puts, Act.put, List.setIfInBounds_toArray, List.set_cons_zero, List.set_cons_succ, eC, eS, eK]
          clear hf F
          clear eC eS eK
          generalize aT b = AT
          clear b
          obtain ⟨wQ, hWn⟩ : ∃ wQ, wQ = W := ⟨_, rfl⟩
          subst hWn
          have HLQ : Hid (Bxs [(w.heap.size, #[.slice am nn cm, .slice a n c], 25), ((w.heap.size + 1), #[.int .i64 sc, .int .u64 x, .int .i64 h, .int .i64 nx], 28), (gc, #[.slice u1 V.ct.length u1c, .slice u2 V.gs.length u2c], 32), (gs, #[.int .i64 V.t.1, .int .u64 V.t.2.1, .int .i64 V.t.2.2.1, .int .i64 V.t.2.2.2], 33), (w3.heap.size, #[.slice p1 nn nn, .slice p2 n n], 32), (hc, #[.slice i1 V.ct.length i1c, .slice i2 V.gs.length i2c], 32), (hs2, #[.int .i64 V.t.1, .int .u64 V.t.2.1, .int .i64 V.t.2.2.1, .int .i64 V.t.2.2.2], 33), (qc, #[.slice q1 V.ct.length q1c, .slice q2 V.gs.length q2c], 32), (qs, #[.int .i64 V.t.1, .int .u64 V.t.2.1, .int .i64 V.t.2.2.1, .int .i64 V.t.2.2.2], 33)] wQ) := by
            refine ⟨fun p hp => ?_⟩
            have h1 := HLM.out.kept hb
            simp only [List.mem_cons, List.not_mem_nil, or_false] at hp
            rcases hp with rfl | rfl | rfl | rfl | rfl | rfl | rfl | rfl | rfl
            all_goals first | exact hC0 | exact hS0 | exact h1.all _ (by simp)
          have HQQ : Hid (_) := hO
          have HSQ : Hid (_) := HSM.out.kept hb
          have HOQ : Hid (_) := HOM.out.kept hb
          clear hC0 hS0 hO hCge hSge
          obtain ⟨x0, x1⟩ := cells2m (HLQ.out.all (qc, #[.slice q1 V.ct.length q1c, .slice q2 V.gs.length q2c], 32) (by simp))
          obtain ⟨y0, y1⟩ := cells2m (HLQ.out.all (gc, #[.slice u1 V.ct.length u1c, .slice u2 V.gs.length u2c], 32) (by simp))
          go_wp2_with fail
          refine (eqMsg_same (D + 2) q1 V.ct.length q1c q2 V.gs.length q2c u1 u1c u2 u2c V.ct V.gs _ (MsgI.row HQQ.out) HSQ.out.row (by unfold maxLen; omega) (MsgI.kids HQQ.out) HSQ.out.kids).mono ?_
          rintro e wRa ⟨rfl, hwRa⟩
          clear x0 x1 y0 y1
          have HZ : Hid (_) := HLQ.out.kept hwRa
          obtain ⟨x0, x1, x2, x3⟩ := cells4 (HZ.out.all (qs, #[.int .i64 V.t.1, .int .u64 V.t.2.1, .int .i64 V.t.2.2.1, .int .i64 V.t.2.2.2], 33) (by simp))
          obtain ⟨y0, y1, y2, y3⟩ := cells4 (HZ.out.all (gs, #[.int .i64 V.t.1, .int .u64 V.t.2.1, .int .i64 V.t.2.2.1, .int .i64 V.t.2.2.2], 33) (by simp))
          go_wp2_with fail
          refine (eqSecret_same V.t _).mono ?_
          rintro e wR ⟨rfl, hwRb⟩
          clear x0 x1 x2 x3 y0 y1 y2 y3 HZ
          have hwR := keepT hwRa hwRb
          clear hwRa hwRb
          obtain ⟨x0, x1⟩ := cells2m ((HLQ.out.kept hwR).all (hc, #[.slice i1 V.ct.length i1c, .slice i2 V.gs.length i2c], 32) (by simp))
          go_wp2_with fail
          refine (HHE.out _ (HOQ.out.kept hwR).row (HOQ.out.kept hwR).kids).mono ?_
          rintro e wS ⟨rfl, hwS⟩
          clear x0 x1
          go_wp2
          go_ret
          exact ⟨rfl, keepT hc0 (keepT hb (keepT hwR hwS))⟩)

end Go.Proofs.YtpnhhhhmonbajaaGreat

