import Derived.Deep.RegionHeld3
import Derived.Deep.DeepCutAuto
import Derived.BigQuiet
import Derived.Deep.RegionWith
import Derived.Lib.QuietBelow
import Derived.Deep.RegionHeldLaw
import Derived.Test.YtmdfbnlgfhjnoaaGreatDoorFA19
import Derived.Test.YtmdfbnlgfhjnoaaGreatDoorFA18
import Derived.Test.YtmdfbnlgfhjnoaaGreatDoorFA20
import Derived.Test.YtmdfbnlgfhjnoaaGreatDoorFA10
import Derived.Test.YtmdfbnlgfhjnoaaGreatDoorFA02
import Derived.Test.YtmdfbnlgfhjnoaaGreatDoorFA06
import Derived.Test.YtmdfbnlgfhjnoaaGreatDoorFA04
import Derived.Test.YtmdfbnlgfhjnoaaGreatDoorFA07
import Derived.Deep.QuietTactic
import Derived.Laws.Tables
import Derived.Laws.Rows
import Derived.Great.BuildSlice
import Derived.Great.Walk
import Derived.Deep.Cut
import Derived.Test.YtmdfbnlgfhjnoaaGreatDoorFA16
set_option maxRecDepth 10000
set_option maxHeartbeats 8000000
set_option linter.unusedVariables false
namespace Go.Proofs.YtmdfbnlgfhjnoaaGreatDoor
open Go.RowKit
theorem implItemBytes_any (d:Nat)(x:It)(ab:Option Addr)(nb cb:Nat)(ak:Option Addr)(nk ck:Nat)(w:World)(hrow:Row w ab nb x.body)(hnil:ab=none→cb=0)(hnb:nb≤9223372036854775807)(hk:Kids d w ak nk x.kids) :
  Calls Tryz.prog 45 #[itv x ab nb cb ak nk ck] w fun e w'=>AnsI w.heap.size (enc 12 x) e w'∧Below w.heap.size w w':=by
 have hbl:Below w.heap.size w (w.alloc (.cells #[.int .i64 x.cls,.int .i64 x.tag,.bool x.cons,.slice ab nb cb,.slice ak nk ck] 75)):=(Below.refl _ _).alloc (Nat.le_refl _) _
 have HS:Hid (_):=bytesAt_all d 12 1 x ab nb cb ak nk ck _ (by decide) (by decide) (hrow.kept hbl) hnil hnb (hk.kept hbl)
 clear hrow hk hnb hnil
 unfold itv
 go_enter Tryz.func45,Tryz.ntmps45
 go_wp2_with fail
 refine Calls.mono HS.out ?_
 rintro e w1 ⟨hans,hb1⟩
 have hb1':Below w.heap.size w w1:=hbl.trans (hb1.mono hbl.size)
 clear hb1
 rcases hans with ⟨a2,n2,c2,bs2,rfl,he2,ho2⟩ | ⟨rfl,he2⟩
 ·have HO:Hid (Own w.heap.size w1 a2 n2 c2 bs2):=ho2.mono hbl.size
  clear ho2
  go_wp2
  go_ret2
  exact ⟨.inl ⟨a2,n2,c2,bs2,rfl,he2,HO⟩,hb1'⟩
 ·go_wp2
  go_ret2
  exact ⟨.inr ⟨rfl,he2⟩,hb1'⟩
theorem numberItem_agg (n:Int)(w:World)(h0 : -9223372036854775808≤n)(h1:n≤9223372036854775807) :
  Calls Tryz.prog 101 #[.int .i64 n] w fun e w'=>∃ g k,e=.returned (.agg #[.int .i64 0,.int .i64 2,.bool false,.slice (some ⟨g,k,none⟩) (wsz n) (wsz n),.slice none 0 0])∧w.heap.size≤g∧Row w' (some ⟨g,k,none⟩) (wsz n) (wbL n)∧Below w.heap.size w w':=numberItem_any n w h0 h1
theorem digestItem_agg (v:Int)(w:World)(h0:0≤v)(h1:v≤18446744073709551615) :
  Calls Tryz.prog 155 #[.int .u64 v] w fun e w'=>∃ g,e=.returned (.agg #[.int .i64 0,.int .i64 4,.bool false,.slice (some ⟨g,0,none⟩) 8 8,.slice none 0 0])∧w.heap.size≤g∧Row w' (some ⟨g,0,none⟩) 8 (eightI v)∧Below w.heap.size w w':=digestItem_any v w h0 h1
theorem ownItem_agg (tag:Int)(a:Option Addr)(n c:Nat)(w:World) :
  Calls Tryz.prog 59 #[.int .i64 tag,.slice a n c] w fun e w'=>e=.returned (.agg #[.int .i64 1,.int .i64 tag,.bool true,.slice none 0 0,.slice a n c])∧Below w.heap.size w w':=ownItem_any tag a n c [] w
theorem l9Num_agg (n:Int)(w:World):Calls Tryz.prog 81 #[.int .i64 n] w fun e w'=>∃ a c,e=.returned (.agg #[.int .i64 0,.int .i64 2,.bool false,.slice a (wsz n) c,.slice none 0 0])∧Own (w.heap.size+1) w' a (wsz n) c (wbL n)∧Below w.heap.size w w':=l9Num_any n w
theorem l9Bytes_agg (a:Option Addr)(n c:Nat)(bs:List Int)(w:World)(h:Row w a n bs)(hc:a=none→c=0)(hn:n≤1000):Calls Tryz.prog 83 #[.slice a n c] w fun e w'=>∃ a c,e=.returned (.agg #[.int .i64 0,.int .i64 4,.bool false,.slice a n c,.slice none 0 0])∧Own (w.heap.size+1) w' a n c bs∧Below w.heap.size w w':=l9Bytes_any a n c bs w h hc hn
open Go.RowKit
theorem szByteS_k (a:Option Addr)(n cap:Nat)(l:Int)(w:World)(hl0:0≤l)(hl:l≤1048576)(hn:n≤9223372036854775807) :
  Calls Tryz.prog 34 #[.slice a n cap,.int .i64 l] w fun e w'=>∃ r,e=.returned (.int .i64 r)∧(r<0∨(0≤r∧r≤1048576∧n≤1048576))∧w=w':=by
 by_cases hlt:(n:Int)≤l
 ·go_enter Tryz.func34,Tryz.ntmps34
  go_wp2
  go_ret
  exact ⟨_,rfl,.inr (by omega),rfl⟩
 ·go_enter Tryz.func34,Tryz.ntmps34
  go_wp2
  go_ret
  exact ⟨_,rfl,.inl (by decide),rfl⟩
open Go.RowKit
def Stab (B:Nat)(R:World→Prop):Prop:=∀ W W':World,(∀ l,B≤l→l<W.heap.size→W'.heap[l]? = W.heap[l]?)→W.heap.size≤W'.heap.size→R W→R W'
theorem stab_and {B:Nat}{R Q:World→Prop}(h:Stab B R)(k:Stab B Q):Stab B (fun W=>R W∧Q W):=fun W W' e s r=>⟨h W W' e s r.1,k W W' e s r.2⟩
theorem stab_lt (B g:Nat):Stab B (fun W=>g<W.heap.size):=fun _ _ _ s h=>Nat.lt_of_lt_of_le h s
theorem pts_move {B g n:Nat}{xs:List PT}(hB:B≤g)(W W':World)(e:∀ l,B≤l→l<W.heap.size→W'.heap[l]? = W.heap[l]?)(s:W.heap.size≤W'.heap.size)(h:Pts W (some ⟨g,0,none⟩) n xs):Pts W' (some ⟨g,0,none⟩) n xs:=by
 refine ⟨h.len,h.max,fun k hk=>?_⟩
 obtain ⟨b,off,ha,hlt,hc,hn⟩:=h.get k hk
 simp only [Option.some.injEq,Addr.mk.injEq,and_true] at ha
 obtain ⟨rfl,rfl⟩:=ha
 exact ⟨g,0,rfl,Nat.lt_of_lt_of_le hlt s,hc.of (fun i=>by simp [World.cell?,e g hB hlt]),hn⟩
theorem stab_pts {B g n:Nat}{xs:List PT}(hB:B≤g):Stab B (fun W=>Pts W (some ⟨g,0,none⟩) n xs):=fun W W' e s h=>pts_move hB W W' e s h
theorem stab_own {B B':Nat}{a:Option Addr}{n cap:Nat}{bs:List Int}(hB:B≤B'):Stab B (fun W=>Own B' W a n cap bs):=fun W W' e s h=>by
 refine ⟨⟨h.row.1,?_⟩,h.byte⟩
 rcases h.row.2 with q | ⟨g,c,cur,h1,hb,hg,r⟩
 ·exact .inl q
 ·exact .inr ⟨g,c,cur,h1,hb,(e g (by omega) (Array.getElem?_eq_some_iff.1 hg).1).trans hg,r⟩
open Go.RowKit
def calledP (xs:List PT):Prop:=nameP xs∧xs≠[]
open Go.RowKit
def Keeps (B:Nat)(W:World)(Q:World→Prop):Prop:=∃ R:World→Prop,Stab B R∧R W∧∀ W',R W'→Q W'
theorem Keeps.now {B:Nat}{W:World}{Q:World→Prop}(h:Keeps B W Q):Q W:=by
 obtain ⟨R,_,hr,hq⟩:=h
 exact hq _ hr
theorem Keeps.mono {B B':Nat}{W:World}{Q:World→Prop}(h:Keeps B' W Q)(hB:B≤B'):Keeps B W Q:=by
 obtain ⟨R,hs,hr,hq⟩:=h
 exact ⟨R,fun W W' e s r=>hs W W' (fun l hl=>e l (by omega)) s r,hr,hq⟩
theorem stab_keeps (B:Nat)(Q:World→Prop):Stab B (fun W=>Keeps B W Q):=fun W W' e s h=>by
 obtain ⟨R,hs,hr,hq⟩:=h
 exact ⟨R,hs,hs W W' e s hr,hq⟩
theorem keeps_of {B:Nat}{W:World}{Q:World→Prop}(hs:Stab B Q)(h:Q W):Keeps B W Q:=⟨Q,hs,h,fun _ h=>h⟩
theorem Keeps.map {B:Nat}{W:World}{Q P:World→Prop}(h:Keeps B W Q)(f:∀ W,Q W→P W):Keeps B W P:=by
 obtain ⟨R,hs,hr,hq⟩:=h
 exact ⟨R,hs,hr,fun W h=>f W (hq W h)⟩
theorem stab_owns {B t m n:Nat}{v:Value}{vs:List Value}:Stab B (fun W=>W.ownsRow B t m v n vs):=fun W W' e s h=>by
 refine ⟨h.1,?_⟩
 rcases h.2 with q | ⟨g,c,cur,h1,hb,hg,r⟩
 ·exact .inl q
 ·exact .inr ⟨g,c,cur,h1,hb,(e g (by omega) (Array.getElem?_eq_some_iff.1 hg).1).trans hg,r⟩
theorem stab_64 {lo hi:Nat}{a:Option Addr}{n cap:Nat}{zs:List Int}:Stab lo (fun W=>Own64 lo hi W a n cap zs):=fun W W' e s h=>⟨stab_owns W W' e s h.row,h.lt⟩
theorem toInt64S_k (a:Option Addr)(n cap:Nat)(zs:List Int)(w:World)(h:Row64 w a n zs)(hn:n≤1048576) :
  Calls Tryz.prog 40 #[.slice a n cap] w fun e w'=>∃ a',e=.returned (.slice a' n n)∧Keeps w.heap.size w' (fun W=>Row64 W a' n zs)∧Below w.heap.size w w' :=
 (toInt64S_any a n cap zs w h hn).mono fun _ _ ⟨_,h1,h2,h3⟩=>⟨_,h1,(keeps_of stab_64 h2).map (fun _ q=>q.toRow),h3⟩
theorem szInt64S_q (a:Option Addr)(n cap:Nat)(left:Int)(w:World)(hn:n≤9223372036854775807)(h0:0≤left)(h1:left≤1048576) :
  Calls Tryz.prog 31 #[.slice a n cap,.int .i64 left] w fun e w'=>∃ r,e=.returned (.int .i64 r)∧(r<0∨(0≤r∧r≤1048576∧n≤1048576))∧w=w':=by
 by_cases hlt:(n:Int)≤left
 ·go_enter Tryz.func31,Tryz.ntmps31
  go_wp2
  go_ret
  exact ⟨_,rfl,.inr (by omega),rfl⟩
 ·go_enter Tryz.func31,Tryz.ntmps31
  go_wp2
  go_ret
  exact ⟨_,rfl,.inl (by decide),rfl⟩
end Go.Proofs.YtmdfbnlgfhjnoaaGreatDoor
