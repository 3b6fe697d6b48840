/- Texts merged: FabCT, AbsT, FabDT, AcYT, LnVT, AcVT, AcZT, AcBT, AcCT, LnDT, EqsT, AcWT, AcDT, AcET. -/
import Derived.Test.YtbckpadeamlidaaGreatZe5
import Derived.Test.YtbckpadeamlidaaGreatZe7
import Derived.Test.YtbckpadeamlidaaGreatZe6
import Derived.Test.YtbckpadeamlidaaGreatZe4
import Derived.Deep.Cut
import Derived.LoopTactic
import Derived.Lib.Hide
import Derived.Shelf.Slices.Delete
import Derived.Deep.RegionHeld3
import Derived.IntWalk
import Derived.Laws.StructEq
namespace Go.Proofs.YtbckpadeamlidaaGreat
set_option linter.unusedVariables false
set_option linter.unusedSimpArgs false
set_option maxRecDepth 100000
section
open Go.ChangeShapes Go.WideShapes Go.ChangeAt Go.RowKit
theorem sth_at {W:World} {l:List Th} {b o n c:Nat} (h:Sl W 11 Th.cells l (.slice (some ⟨b,o,none⟩) n c)) {j:Nat} (hj:j<l.length):W.cell? ⟨b,o+j * 11,none⟩=some (.int .i64 (gth l j).st)∧W.cell? ⟨b,o+j * 11+1,none⟩=some (.int .i64 (gth l j).ki)∧W.cell? ⟨b,o+j * 11+2,none⟩=some (.int .i64 (gth l j).va)∧W.cell? ⟨b,o+j * 11+3,none⟩=some (.int .i64 (gth l j).un)∧W.cell? ⟨b,o+j * 11+4,none⟩=some (.int .i64 (gth l j).pc)∧W.cell? ⟨b,o+j * 11+5,none⟩=some (.int .i64 (gth l j).re)∧W.cell? ⟨b,o+j * 11+6,none⟩=some (.int .i64 (gth l j).se)∧W.cell? ⟨b,o+j * 11+7,none⟩=some (.int .i64 (gth l j).tr)∧W.cell? ⟨b,o+j * 11+8,none⟩=some (.bool (gth l j).la)∧W.cell? ⟨b,o+j * 11+9,none⟩=some (.int .i64 (gth l j).rs)∧W.cell? ⟨b,o+j * 11+10,none⟩=some (.int .i64 (gth l j).go):=by
 obtain ⟨p,k,e,_,_,_,h4⟩:=h.is
 cases e
 obtain ⟨b',o',e,_,h5⟩:=h4 (by intro h;subst h;simp at hj)
 cases e
 have h6:=h5 j (gth l j) (gth_some hj)
 have k0:=h6 0 (by omega);have k1:=h6 1 (by omega);have k2:=h6 2 (by omega);have k3:=h6 3 (by omega);have k4:=h6 4 (by omega);have k5:=h6 5 (by omega);have k6:=h6 6 (by omega);have k7:=h6 7 (by omega);have k8:=h6 8 (by omega);have k9:=h6 9 (by omega);have k10:=h6 10 (by omega)
 exact ⟨by simpa [Th.cells] using k0,by simpa [Th.cells] using k1,by simpa [Th.cells] using k2,by simpa [Th.cells] using k3,by simpa [Th.cells] using k4,by simpa [Th.cells] using k5,by simpa [Th.cells] using k6,by simpa [Th.cells] using k7,by simpa [Th.cells] using k8,by simpa [Th.cells] using k9,by simpa [Th.cells] using k10⟩
def TellsT (g:Nat) (lb:Array Value) (f:Th→Bool) (w:World):Prop:=∀ (W:World) (t:Th),Below w.heap.size w W→Calls Tryz.prog g (#[.agg #[.int .i64 t.st,.int .i64 t.ki,.int .i64 t.va,.int .i64 t.un,.int .i64 t.pc,.int .i64 t.re,.int .i64 t.se,.int .i64 t.tr,.bool t.la,.int .i64 t.rs,.int .i64 t.go]]++lb) W fun e W' => e = .returned (.bool (f t))∧Kept W W'
theorem TellsT.kept {g:Nat} {lb:Array Value} {f:Th→Bool} {w w' : World} (h:TellsT g lb f w) (hk:Below w.heap.size w w'):TellsT g lb f w' := fun W x hW=>h W x (kept_trans hk hW)
structure Ln where
 p:Option Addr
 k:Nat
 l:List Int
def Ln.cells (x:Ln):List Value:=[.slice x.p x.l.length x.k]
theorem Ln.enc:Enc 1 Ln.cells:=⟨fun _=>rfl,fun x c hc=>by simp [Ln.cells] at hc;subst hc;rfl⟩
end
section
open Go.ChangeShapes Go.WideShapes Go.ChangeAt Go.RowKit
theorem wp_abs {P:Program} {c:Code} {Q:Exit→Act→World→Prop} {a:Act} {W:World} (F:World→Prop) (h:F W) (k:∀ W',F W' → c.wp P Q a W'):c.wp P Q a W:=k W h
end
section
open Go.ChangeShapes Go.WideShapes Go.ChangeAt Go.RowKit
theorem room_in (c:Cf):In64 (cfR c):=by have:=cf_bd c;exact ⟨by omega,by omega⟩
theorem ccheck_val {c:Cf} {b:Bool} (h:Hid (cfB c=b)) (w:World):Calls Tryz.prog 34 #[.agg #[.int .i64 c.lg,.int .i64 c.th,.int .i64 c.po,.int .i64 c.wt,.int .i64 c.sp,.int .i64 c.yi,.bool c.si]] w fun e w' => e = .returned (.int .i64 (if b=true then 0 else 20))∧Kept w w' := by
 have e:ckI c.lg c.th c.po c.wt c.sp c.yi=if b=true then 0 else 20:=by
  have h' := h.out
  cases b
  ·exact ck_no h'
  ·exact ck_yes h'
 rw [← e]
 exact ccheck_any _ _ _ _ _ _ _ _
end
section
open Go.RowKit
theorem ac_croom0 {c:Cf} {R:Int} (h:cfR c=R):AC Tryz.prog 41 [cfT c] (.int .i64 R):=by
 intro O W vs hl hat ;obtain ⟨ys,rfl,_,_,rfl,h0,rfl⟩:=args_of hat
 rw [rp_cfT] at h0
 subst h0
 refine (croom_any c.lg c.th c.po c.wt c.sp c.yi c.si W).mono ?_
 rintro e W' ⟨rfl,hk⟩
 exact ⟨_,rfl,rp_int.2 (by rw [← h];rfl),hk⟩
theorem ac_pck0 {h t m r:Int} {b:Bool} (hb:checkB h t m r=b) (hh:In64 h) (ht:In64 t) (hm:In64 m) (hr:In64 r):AC Tryz.prog 62 [wdT h t m,.int .i64 r] (.bool b):=by
 intro O W vs hl hat ;obtain ⟨ys,rfl,_,_,rfl,h0,_,_,rfl,h1,rfl⟩:=args_of hat
 rw [rp_wdT] at h0
 rw [rp_int] at h1
 subst h0 h1
 refine (check_any h t m r hh ht hm hr W).mono ?_
 rintro e W' ⟨rfl,hk⟩
 exact ⟨_,rfl,rp_bool.2 (by rw [hb]),hk⟩
theorem ac_pring {s:St} {b:Bool} (hb:ringSt s=b) (ho:s.ok):AC Tryz.prog 35 [stT s] (.bool b):=by
 subst hb
 have hRi:In64 (cfR s.cf):=room_in s.cf
 have hRb:=cf_bd s.cf
 cases hA:checkB s.hd s.tl s.md (cfR s.cf)
 ·rw [show ringSt s=false by simp [ringSt,hA]]
  exact ac_path mixed (ext:=[41,62,63,68]) (fuel:=9) (n:=6) (orc:=[.int .i64 (cfR s.cf),vD false]) (an (ac_croom0 (c:=s.cf) rfl)<|an (ac_pck0 hA ho.hd ho.tl ho.md hRi) trivial) (by kernel_rfl)
 ·by_cases hL:(s.sl.length:Int)=cfR s.cf
  ·rw [show ringSt s=okSl s.sl by simp [ringSt,hA,hL]]
   exact ac_path mixed (ext:=[41,62,63,68]) (fuel:=9) (n:=6) (orc:=[.int .i64 (cfR s.cf),vD true,.bool true,.bool (okSl s.sl)]) (an (ac_croom0 (c:=s.cf) rfl)<|an (ac_pck0 hA ho.hd ho.tl ho.md hRi)<|an (show ((s.sl.length:Int)==cfR s.cf)=true by simpa using hL)<|an (ac_pscheck (l:=s.sl) rfl (by omega)) trivial) (by kernel_rfl)
  ·rw [show ringSt s=false by simp [ringSt,hL]]
   exact ac_path mixed (ext:=[41,62,63,68]) (fuel:=9) (n:=6) (orc:=[.int .i64 (cfR s.cf),vD true,.bool false]) (an (ac_croom0 (c:=s.cf) rfl)<|an (ac_pck0 hA ho.hd ho.tl ho.md hRi)<|an (show ((s.sl.length:Int)==cfR s.cf)=false by simpa using hL) trivial) (by kernel_rfl)
def hdYt (l:List Th) (i:Int):Sg:=⟨mkT 19 [(0,rowT l),(1,.func (.func 67) #[] #[]),(7,.int .i64 l.length),(8,.int .i64 i)],[]⟩
def hdYtN (j:Int):Sg:=⟨mkT 19 [(4,.int .i64 j)],[]⟩
theorem in_next {i n:Nat} (h:i<n) (hm:n≤maxLen):In64 ((i:Int)+1):=by unfold maxLen at hm;constructor <;> omega
theorem any_atT {l:List Th} {i:Nat} (h:i<l.length):(l.drop i).any notTh=(!thB (gth l i)||(l.drop (i+1)).any notTh):=by rw [List.drop_eq_getElem_cons h,gth_eq h];rfl
section
variable {l:List Th}
theorem yt_yes (hm:l.length≤maxLen):∀ (k i:Nat),l.length - i=k→i≤l.length→(l.drop i).any notTh=false→LoopP Tryz.prog (loopOf Tryz.prog 127 0) (hdYt l i) (.exit 0) (hdYt l l.length)
 | 0,i,hk,hi,_=>by
  have:i=l.length:=by omega
  subst this
  exact loop_end mixed (fuel:=9) (n:=5) (im:=[]) (keep:=[0,1,7,8]) (ext:=[68]) (orc:=[.bool false]) (an (show decide ((l.length:Int)<l.length)=false by simp) trivial) (by intro e;cases e) (by kernel_rfl)
 | k+1,i,hk,hi,he=>by
  have ha:i<l.length:=by omega
  rw [any_atT ha,Bool.or_eq_false_iff] at he
  have ih:=yt_yes hm k (i+1) (by omega) (by omega) he.2
  rw [show ((i+1:Nat):Int)=(i:Int)+1 by omega] at ih
  exact loop_more mixed (fuel:=9) (n:=5) (im:=[]) (keep:=[0,1,7,8]) (ext:=[68]) (orc:=[.bool true,thT (gth l i),vD true])
   (an (show decide ((i:Int)<l.length)=true by simp;omega)<|an (rowT_el ha)<|an (ac_ptcheck (by simpa using he.1))<|an (in_next ha hm) trivial) (by kernel_rfl) ih
theorem yt_no (hm:l.length≤maxLen):∀ (k i:Nat),l.length - i=k→i≤l.length→(l.drop i).any notTh=true→∃ j:Nat,LoopP Tryz.prog (loopOf Tryz.prog 127 0) (hdYt l i) .ret (hdYtN j)
 | 0,i,hk,hi,he=>absurd he (by rw [List.drop_eq_nil_of_le (by omega)];simp)
 | k+1,i,hk,hi,he=>by
  have ha:i<l.length:=by omega
  rw [any_atT ha] at he
  cases h1:thB (gth l i)
  ·exact ⟨i,loop_end mixed (fuel:=9) (n:=5) (im:=[]) (keep:=[4]) (ext:=[68]) (orc:=[.bool true,thT (gth l i),vD false])
    (an (show decide ((i:Int)<l.length)=true by simp;omega)<|an (rowT_el ha)<|an (ac_ptcheck h1) trivial) (by intro e;cases e) (by kernel_rfl)⟩
  ·rw [h1,Bool.not_true,Bool.false_or] at he
   obtain ⟨j,ih⟩:=yt_no hm k (i+1) (by omega) (by omega) he
   rw [show ((i+1:Nat):Int)=(i:Int)+1 by omega] at ih
   exact ⟨j,loop_more mixed (fuel:=9) (n:=5) (im:=[]) (keep:=[0,1,7,8]) (ext:=[68]) (orc:=[.bool true,thT (gth l i),vD true])
    (an (show decide ((i:Int)<l.length)=true by simp;omega)<|an (rowT_el ha)<|an (ac_ptcheck h1)<|an (in_next ha hm) trivial) (by kernel_rfl) ih⟩
end
theorem ac_pthreads {s:St} {b:Bool} (hb:thsSt s=b) (ho:s.ok):AC Tryz.prog 38 [stT s] (.bool b):=by
 subst hb
 have hm:s.th.length≤maxLen:=ho.th.2
 by_cases hL:(s.th.length:Int)=s.cf.th
 ·cases ha:s.th.any notTh
  ·rw [show thsSt s=true by simp [thsSt,hL,ha]]
   exact ac_path mixed (ext:=[41,62,63,68]) (fuel:=9) (n:=6) (orc:=[.bool true,oL [] [0,1,7,8] 0 [(0,rowT s.th),(1,.func (.func 67) #[] #[]),(7,.int .i64 s.th.length),(8,.int .i64 s.th.length)] []])
    (an (show ((s.th.length:Int)==s.cf.th)=true by simpa using hL)<|an (yt_yes hm s.th.length 0 rfl (by omega) (by simpa using ha)) trivial) (by kernel_rfl)
  ·obtain ⟨j,hj⟩:=yt_no (l:=s.th) hm s.th.length 0 rfl (by omega) (by simpa using ha)
   rw [show thsSt s = !decide (0≤(j:Int)) by simp [thsSt,hL,ha]]
   exact ac_path mixed (ext:=[41,62,63,68]) (fuel:=9) (n:=6) (orc:=[.bool true,oL [] [0,1,7,8] (-1) [(4,.int .i64 j)] []])
    (an (show ((s.th.length:Int)==s.cf.th)=true by simpa using hL)<|an hj trivial) (by kernel_rfl)
 ·rw [show thsSt s=false by simp [thsSt,hL]]
  exact ac_path mixed (ext:=[41,62,63,68]) (fuel:=9) (n:=6) (orc:=[.bool false]) (an (show ((s.th.length:Int)==s.cf.th)=false by simpa using hL) trivial) (by kernel_rfl)
end
section
open Go.RowKit
theorem in_nextV {i n:Nat} (h:i<n) (hm:n≤maxLen):In64 ((i:Int)+1):=by unfold maxLen at hm;constructor <;> omega
theorem ixV {l:List Int} {i:Nat} (h:i<l.length):IxP ((l.map (Value.int .i64 ·)).toArray) (i:Int) (.int .i64 l[i]):=⟨by omega,by simp [h]⟩
theorem lt_yesV {i n:Nat} (h:i<n):decide ((i:Int)<n)=true:=by simp;omega
theorem lt_noV (n:Nat):decide ((n:Int)<n)=false:=by simp
def hdIx (l:List Int) (x i:Int):Sg:=⟨mkT 19 [(0,rowI l),(1,.int .i64 x),(7,.int .i64 l.length),(8,.int .i64 i)],[]⟩
def reIx (j:Int):Sg:=⟨mkT 19 [(4,.int .i64 j)],[]⟩
section
variable {l:List Int} {x:Int}
theorem ix_lp (hm:l.length≤maxLen):∀ (k i:Nat),l.length - i=k→i≤l.length→x∉l.take i→(x∉l∧LoopP Tryz.prog (loopOf Tryz.prog 179 0) (hdIx l x i) (.exit 0) (hdIx l x l.length))∨(x∈l∧LoopP Tryz.prog (loopOf Tryz.prog 179 0) (hdIx l x i) .ret (reIx (ixI l x)))
 | 0,i,hk,hi,h=>by
  have:i=l.length:=by omega
  subst this
  exact .inl ⟨by rwa [List.take_length] at h,loop_end mixed (fuel:=9) (n:=6) (im:=[]) (keep:=[0,1,7,8]) (ext:=[]) (orc:=[.bool false]) (an (lt_noV l.length) trivial) (by intro e;cases e) (by kernel_rfl)⟩
 | k+1,i,hk,hi,h=>by
  have hi' : i<l.length:=by omega
  by_cases he:l[i]=x
  ·have e:=ix_hit hi' he h
   refine .inr ⟨he ▸ List.getElem_mem hi',?_⟩
   rw [e]
   exact loop_end mixed (fuel:=9) (n:=6) (im:=[]) (keep:=[4]) (ext:=[]) (orc:=[.bool true,.int .i64 l[i],.bool true]) (an (lt_yesV hi')<|an (ixV hi')<|an (show (x==l[i])=true by simp [he]) trivial) (by intro e;cases e) (by kernel_rfl)
  ·have more:∀ {S:Sg} {y:Exit},LoopP Tryz.prog (loopOf Tryz.prog 179 0) (hdIx l x ((i:Int)+1)) y S→LoopP Tryz.prog (loopOf Tryz.prog 179 0) (hdIx l x i) y S:=fun hL =>
    loop_more mixed (fuel:=9) (n:=6) (im:=[]) (keep:=[0,1,7,8]) (ext:=[]) (orc:=[.bool true,.int .i64 l[i],.bool false]) (an (lt_yesV hi')<|an (ixV hi')<|an (show (x==l[i])=false by simp [Ne.symm he])<|an (in_nextV hi' hm) trivial) (by kernel_rfl) hL
   rcases ix_lp hm k (i+1) (by omega) (by omega) (not_take_succ hi' he h) with ⟨a,b⟩ | ⟨a,b⟩
   ·exact .inl ⟨a,more b⟩
   ·exact .inr ⟨a,more b⟩
theorem ac_index (hm:l.length≤maxLen):AC Tryz.prog 179 [rowI l,.int .i64 x] (.int .i64 (ixI l x)):=by
 rcases ix_lp (l:=l) (x:=x) hm l.length 0 (by omega) (by omega) (by simp) with ⟨a,b⟩ | ⟨a,b⟩
 ·rw [ix_miss a]
  exact ac_path mixed (ext:=[]) (fuel:=9) (n:=6) (orc:=[oL [] [0,1,7,8] 0 [(0,rowI l),(1,.int .i64 x),(7,.int .i64 l.length),(8,.int .i64 l.length)] []]) (an b trivial) (by kernel_rfl)
 ·exact ac_path mixed (ext:=[]) (fuel:=9) (n:=6) (orc:=[oL [] [0,1,7,8] (-1) [(4,.int .i64 (ixI l x))] []]) (an b trivial) (by kernel_rfl)
theorem ac_contains {b:Bool} (h:decide (x∈l)=b) (hm:l.length≤maxLen):AC Tryz.prog 167 [rowI l,.int .i64 x] (.bool b):=by
 rw [show b=decide (0≤ixI l x) by rw [← h];simp [ix_nonneg]]
 exact ac_path mixed (ext:=[179]) (fuel:=9) (n:=6) (orc:=[.int .i64 (ixI l x)]) (an (ac_index (x:=x) hm) trivial) (by kernel_rfl)
end
def lnB:List (Option Blk):=[some ⟨true,false,1,1,[.int .i64 16]⟩]
def lnT (l:List Int) (i:Int):List (Nat×Value):=[(0,rowI l),(1,.func (.func 166) #[] #[.pointer (some ⟨0,0,some 0⟩)]),(7,.int .i64 l.length),(8,.int .i64 i)]
def lnS (l:List Int) (i:Int):Sg:=⟨mkT 19 (lnT l i),lnB⟩
def lnN (j:Int):Sg:=⟨mkT 19 [(4,.int .i64 j)],lnB⟩
section
variable {l:List Int}
section
variable {i:Nat} (hi:i<l.length)
include hi
theorem fn_low (h0:decide (l[i]<0)=true):LoopP Tryz.prog (loopOf Tryz.prog 121 0) (lnS l i) .ret (lnN i):=loop_end mixed (fuel:=9) (n:=6) (im:=[0]) (ext:=[]) (keep:=[4]) (orc:=[.bool true,.int .i64 l[i],.bool true]) (an (lt_yesV hi)<|an (ixV hi)<|an h0 trivial) (by intro e;cases e) (by kernel_rfl)
variable (h0:decide (l[i]<0)=false)
include h0
theorem fn_high (h1:decide ((16:Int)≤l[i])=true):LoopP Tryz.prog (loopOf Tryz.prog 121 0) (lnS l i) .ret (lnN i):=loop_end mixed (fuel:=9) (n:=6) (im:=[0]) (ext:=[]) (keep:=[4]) (orc:=[.bool true,.int .i64 l[i],.bool false,.bool true]) (an (lt_yesV hi)<|an (ixV hi)<|an h0<|an h1 trivial) (by intro e;cases e) (by kernel_rfl)
theorem fn_more (h1:decide ((16:Int)≤l[i])=false) (hm:l.length≤maxLen) {S:Sg} {y:Exit} (hL:LoopP Tryz.prog (loopOf Tryz.prog 121 0) (lnS l ((i:Int)+1)) y S):LoopP Tryz.prog (loopOf Tryz.prog 121 0) (lnS l i) y S:=loop_more mixed (fuel:=9) (n:=6) (im:=[0]) (ext:=[]) (keep:=[0,1,7,8]) (orc:=[.bool true,.int .i64 l[i],.bool false,.bool false]) (an (lt_yesV hi)<|an (ixV hi)<|an h0<|an h1<|an (in_nextV hi hm) trivial) (by kernel_rfl) hL
end
theorem fn_lp (hm:l.length≤maxLen):∀ (k i:Nat),l.length - i=k→i≤l.length→((l.drop i).any (noneB 16)=false∧LoopP Tryz.prog (loopOf Tryz.prog 121 0) (lnS l i) (.exit 0) (lnS l l.length))∨((l.drop i).any (noneB 16)=true∧∃ j:Nat,LoopP Tryz.prog (loopOf Tryz.prog 121 0) (lnS l i) .ret (lnN j))
 | 0,i,hk,hi=>by
  have:i=l.length:=by omega
  subst this
  exact .inl ⟨by simp,loop_end mixed (fuel:=9) (n:=6) (im:=[0]) (ext:=[]) (keep:=[0,1,7,8]) (orc:=[.bool false]) (an (lt_noV l.length) trivial) (by intro e;cases e) (by kernel_rfl)⟩
 | k+1,i,hk,hi=>by
  have hi' : i<l.length:=by omega
  rw [List.drop_eq_getElem_cons hi',List.any_cons]
  cases h0:decide (l[i]<0)
  ·cases h1:decide ((16:Int)≤l[i])
   ·have e:noneB 16 l[i]=false:=by simp only [noneB,h0,h1];rfl
    rw [e,Bool.false_or]
    rcases fn_lp hm k (i+1) (by omega) (by omega) with ⟨a,b⟩ | ⟨a,j,b⟩
    ·exact .inl ⟨a,fn_more hi' h0 h1 hm b⟩
    ·exact .inr ⟨a,j,fn_more hi' h0 h1 hm b⟩
   ·exact .inr ⟨by simp only [noneB,h1];simp,i,fn_high hi' h0 h1⟩
  ·exact .inr ⟨by simp only [noneB,h0];simp,i,fn_low hi' h0⟩
def hdUn (l:List Int) (i:Int):Sg:=⟨mkT 18 [(0,rowI l),(5,rowI l),(6,.int .i64 l.length),(7,.int .i64 i)],[]⟩
def reUn:Sg:=⟨mkT 18 [(2,vD false)],[]⟩
theorem sub_tkV {l:List Int} {k:Nat} (hk:k≤l.length):SubP (l.take k).length ((l.take k).map (Value.int .i64 ·)) l.length (l.map (Value.int .i64 ·)) 0 k:=by
 refine ⟨by omega,by omega,by omega,by rw [List.length_take];omega,?_⟩
 show (l.take k).map _=((l.map _).drop 0).take (l.take k).length
 rw [List.drop_zero,List.length_take,Nat.min_eq_left hk,List.map_take]
theorem un_lp (hm:l.length≤maxLen):∀ (k i:Nat),l.length - i=k→i≤l.length→(l.take i).Nodup→(l.Nodup∧LoopP Tryz.prog (loopOf Tryz.prog 120 0) (hdUn l i) (.exit 0) (hdUn l l.length))∨(¬ l.Nodup∧LoopP Tryz.prog (loopOf Tryz.prog 120 0) (hdUn l i) .ret reUn)
 | 0,i,hk,hi,h=>by
  have:i=l.length:=by omega
  subst this
  exact .inl ⟨by rwa [List.take_length] at h,loop_end mixed (fuel:=9) (n:=6) (im:=[]) (keep:=[0,5,6,7]) (ext:=[167]) (orc:=[.bool false]) (an (lt_noV l.length) trivial) (by intro e;cases e) (by kernel_rfl)⟩
 | k+1,i,hk,hi,h=>by
  have hi' : i<l.length:=by omega
  cases hc:decide (l[i]∈l.take i)
  ·have hno:=of_decide_eq_false hc
   have more:∀ {S:Sg} {y:Exit},LoopP Tryz.prog (loopOf Tryz.prog 120 0) (hdUn l ((i:Int)+1)) y S→LoopP Tryz.prog (loopOf Tryz.prog 120 0) (hdUn l i) y S:=fun hL =>
    loop_more mixed (fuel:=9) (n:=6) (im:=[]) (keep:=[0,5,6,7]) (ext:=[167]) (orc:=[.bool true,.int .i64 l[i],rowI (l.take i),vD false]) (an (lt_yesV hi')<|an (ixV hi')<|an (sub_tkV (l:=l) (k:=i) (by omega))<|an (allK_I l)<|an (ac_contains (x:=l[i]) hc (by rw [List.length_take];omega))<|an (in_nextV hi' hm) trivial) (by kernel_rfl) hL
   rcases un_lp hm k (i+1) (by omega) (by omega) ((nodup_take_succ hi').2 ⟨h,hno⟩) with ⟨a,b⟩ | ⟨a,b⟩
   ·exact .inl ⟨a,more b⟩
   ·exact .inr ⟨a,more b⟩
  ·exact .inr ⟨not_nodup_of_take hi' (of_decide_eq_true hc),loop_end mixed (fuel:=9) (n:=6) (im:=[]) (keep:=[2]) (ext:=[167]) (orc:=[.bool true,.int .i64 l[i],rowI (l.take i),vD true]) (an (lt_yesV hi')<|an (ixV hi')<|an (sub_tkV (l:=l) (k:=i) (by omega))<|an (allK_I l)<|an (ac_contains (x:=l[i]) hc (by rw [List.length_take];omega)) trivial) (by intro e;cases e) (by kernel_rfl)⟩
theorem ac_unlike {b:Bool} (h:decide l.Nodup=b) (hm:l.length≤maxLen):AC Tryz.prog 120 [rowI l] (.bool b):=by
 subst h
 rcases un_lp (l:=l) hm l.length 0 (by omega) (by omega) (by simp) with ⟨a,b⟩ | ⟨a,b⟩
 ·rw [decide_eq_true a]
  exact ac_path mixed (ext:=[]) (fuel:=9) (n:=6) (orc:=[oL [] [0,5,6,7] 0 [(0,rowI l),(5,rowI l),(6,.int .i64 l.length),(7,.int .i64 l.length)] []]) (an b trivial) (by kernel_rfl)
 ·rw [decide_eq_false a]
  exact ac_path mixed (ext:=[]) (fuel:=9) (n:=6) (orc:=[oL [] [0,5,6,7] (-1) [(2,vD false)] []]) (an b trivial) (by kernel_rfl)
theorem ac_plcheck {b:Bool} (h:okLn l=b):AC Tryz.prog 65 [rowI l] (.bool b):=by
 by_cases hm:l.length≤maxLen
 ·subst h;unfold okLn
  rcases fn_lp (l:=l) hm l.length 0 (by omega) (by omega) with ⟨a,b⟩ | ⟨a,j,b⟩
  ·rw [List.drop_zero] at a
   rw [a]
   exact ac_path mixed (ext:=[120]) (fuel:=9) (n:=6) (orc:=[oL [0] [0,1,7,8] 0 (lnT l l.length) lnB,.nilFunc,.bool (decide l.Nodup)]) (an b<|an (ac_unlike (b:=decide l.Nodup) rfl hm) trivial) (by kernel_rfl)
  ·rw [List.drop_zero] at a
   rw [a]
   exact ac_path mixed (ext:=[120]) (fuel:=9) (n:=6) (orc:=[oL [0] [0,1,7,8] (-1) [(4,.int .i64 j)] lnB,.bool false]) (an b<|an (show (!decide ((0:Int)≤(j:Int)))=false by simp) trivial) (by kernel_rfl)
 ·intro O W vs hl hat
  obtain ⟨ys,rfl,_,_,rfl,h0,rfl⟩:=args_of hat
  obtain ⟨p,k,rfl,hs⟩:=rp_rowI.1 h0
  obtain ⟨_,_,e,h1,h2,h3,h4⟩:=hs.s.is
  cases e
  exact absurd (show l.length≤maxLen by omega) hm
end
theorem ac_lkept (l:List Int) (hm:l.length≤1000000):AC Tryz.prog 218 [rowI l] (rowI l):=by
 by_cases h:l=[]
 ·subst h
  exact ac_path mixed (ext:=[]) (fuel:=9) (n:=3) (orc:=[.slice none 0 0]) (an (allK_I [])<|an (rfl:(0:Nat)=0) trivial) (by kernel_rfl)
 ·exact ac_path mixed (ext:=[]) (fuel:=9) (n:=3) (orc:=[rowI l]) (an (allK_I l)<|an (app_nil (f:=(Value.int .i64 ·)) h hm)<|an (len_map (f:=(Value.int .i64 ·)) l) trivial) (by kernel_rfl)
section
variable {l:List Int} {i:Int}
theorem ac_lplace (hm:l.length≤maxLen):AC Tryz.prog 217 [rowI l,.int .i64 i] (.int .i64 (plI l i)):=by
 unfold plI
 cases h:okLn l
 ·exact ac_path mixed (ext:=[65]) (fuel:=9) (n:=6) (orc:=[vD false]) (an (ac_plcheck h) trivial) (by kernel_rfl)
 ·exact ac_path mixed (ext:=[65,179]) (fuel:=9) (n:=6) (orc:=[vD true,.int .i64 (ixI l i)]) (an (ac_plcheck h)<|an (ac_index (x:=i) hm) trivial) (by kernel_rfl)
theorem ac_pfirst {b:Bool} (hb:(plI l i==0)=b):AC Tryz.prog 254 [rowI l,.int .i64 i] (.bool b):=by
 subst hb
 by_cases hm:l.length≤maxLen
 ·exact ac_path mixed (ext:=[217]) (fuel:=9) (n:=6) (orc:=[.int .i64 (plI l i)]) (an (ac_lplace (i:=i) hm) trivial) (by kernel_rfl)
 ·intro O W vs hl hat
  obtain ⟨ys,rfl,_,_,rfl,h0,_⟩:=args_of hat
  obtain ⟨p,k,rfl,hs⟩:=rp_rowI.1 h0
  obtain ⟨_,_,e,h1,h2,h3,h4⟩:=hs.s.is
  cases e
  exact absurd (show l.length≤maxLen by omega) hm
theorem ac_penter (l:List Int) (i:Int) (hm:l.length≤999999):AC Tryz.prog 252 [rowI l,.int .i64 i] (.tuple #[rowI (entL l i),.int .i64 (entE l i)]):=by
 have hk:=ac_lkept l (by omega)
 have hml:l.length≤maxLen:=by unfold maxLen;omega
 have no:∀ {e:Int},entE l i=e→e≠0→entL l i=l:=fun h hne=>by unfold entL;rw [h,if_neg hne]
 cases h:okLn l
 ·have e:entE l i=40:=by simp [entE,h]
  rw [no e (by decide),e]
  exact ac_path mixed (fuel:=9) (n:=6) (ext:=[65,167,218]) (orc:=[vD false,rowI l]) (an (ac_plcheck h)<|an hk trivial) (by kernel_rfl)
 cases h0:decide (i<0)
 ·cases h1:decide ((16:Int)≤i)
  ·have hn:noneB 16 i=false:=by simp only [noneB,h0,h1];rfl
   cases hc:decide (i∈l)
   ·have hno:=of_decide_eq_false hc
    have e:entE l i=0:=by simp [entE,h,hn,hno]
    rw [ent_yes e,e]
    by_cases hl:l=[]
    ·subst hl
     exact ac_path mixed (fuel:=9) (n:=6) (ext:=[65,167]) (orc:=[vD true,.bool false,.bool false,vD false,.slice none 0 0,rowI ([]++[i])]) (an (ac_plcheck h)<|an h0<|an h1<|an (ac_contains hc hml)<|an (allK_I [])<|an (rfl:(0:Nat)=0)<|an (rfl:(1:Nat)=1)<|an (allK_I [i])<|an (⟨by omega,by simp,by simp,by omega⟩:0<1∧AppP ([]++[i]).length (([]++[i]).map (Value.int .i64 ·)) 0 [] 1 [.int .i64 i])<|an (len_map (f:=(Value.int .i64 ·)) ([]++[i])) trivial) (by kernel_rfl)
    ·exact ac_path mixed (fuel:=9) (n:=6) (ext:=[65,167]) (orc:=[vD true,.bool false,.bool false,vD false,rowI l,rowI (l++[i])]) (an (ac_plcheck h)<|an h0<|an h1<|an (ac_contains hc hml)<|an (allK_I l)<|an (app_nil (f:=(Value.int .i64 ·)) hl (by omega))<|an (rfl:(1:Nat)=1)<|an (allK_I [i])<|an (show l.length=(l.map (Value.int .i64 ·)).length by simp)<|an (⟨by simp,by simp,by omega⟩:AppP (l++[i]).length ((l++[i]).map (Value.int .i64 ·)) l.length (l.map (Value.int .i64 ·)) 1 [.int .i64 i])<|an (len_map (f:=(Value.int .i64 ·)) (l++[i])) trivial) (by kernel_rfl)
   ·have hyes:=of_decide_eq_true hc
    have e:entE l i=60:=by simp [entE,h,hn,hyes]
    rw [no e (by decide),e]
    exact ac_path mixed (fuel:=9) (n:=6) (ext:=[65,167,218]) (orc:=[vD true,.bool false,.bool false,vD true,rowI l]) (an (ac_plcheck h)<|an h0<|an h1<|an (ac_contains hc hml)<|an hk trivial) (by kernel_rfl)
  ·have e:entE l i=40:=by simp only [entE,noneB,h1];simp
   rw [no e (by decide),e]
   exact ac_path mixed (fuel:=9) (n:=6) (ext:=[65,167,218]) (orc:=[vD true,.bool false,.bool true,rowI l]) (an (ac_plcheck h)<|an h0<|an h1<|an hk trivial) (by kernel_rfl)
 ·have e:entE l i=40:=by simp only [entE,noneB,h0];simp
  rw [no e (by decide),e]
  exact ac_path mixed (fuel:=9) (n:=6) (ext:=[65,167,218]) (orc:=[vD true,.bool true,rowI l]) (an (ac_plcheck h)<|an h0<|an hk trivial) (by kernel_rfl)
theorem ac_plnext (l:List Int) (hm:l.length≤999999):AC Tryz.prog 307 [rowI l] (.tuple #[.int .i64 (nxI l),rowI (nxL l),.bool (nxB l)]):=by
 have hk:=ac_lkept l (by omega)
 cases h0:((l.length:Int)==0)
 ·cases h:okLn l
  ·have e:nxB l=false:=by simp [nxB,h]
   rw [show nxI l=0 by simp [nxI,e],show nxL l=l by simp [nxL,e],e]
   exact ac_path mixed (fuel:=9) (n:=6) (ext:=[65,167,218]) (orc:=[.bool false,vD false,rowI l]) (an h0<|an (ac_plcheck h)<|an hk trivial) (by kernel_rfl)
  ·have hl:0<l.length:=by
    have:(l.length:Int)≠0:=by simpa using h0
    omega
   have hne:l≠[]:=by rintro rfl;simp at hl
   have e:nxB l=true:=by simp [nxB,h,hne]
   have e1:nxI l=l[0]:=by
    cases l with
    | nil=>exact absurd rfl hne
    | cons a l=>simp [nxI,e]
   have e2:nxL l=l.drop 1:=by simp [nxL,e]
   rw [e1,e2,e]
   have hs:SubP (l.drop 1).length ((l.drop 1).map (Value.int .i64 ·)) l.length (l.map (Value.int .i64 ·)) 1 l.length:=⟨by omega,by omega,by omega,by rw [List.length_drop];omega,by
    show _=((l.map _).drop 1).take _
    rw [List.map_drop,List.take_of_length_le (by simp)]⟩
   exact ac_path mixed (fuel:=9) (n:=6) (ext:=[65,167,218]) (orc:=[.bool false,vD true,.int .i64 l[0],rowI (l.drop 1),rowI (l.drop 1)]) (an h0<|an (ac_plcheck h)<|an (ixV hl)<|an hs<|an (allK_I l)<|an (ac_lkept (l.drop 1) (by rw [List.length_drop];omega)) trivial) (by kernel_rfl)
 ·have hl:l=[]:=by
   have:(l.length:Int)=0:=by simpa using h0
   exact List.length_eq_zero_iff.1 (by omega)
  subst hl
  exact ac_path mixed (fuel:=9) (n:=6) (ext:=[65,167,218]) (orc:=[.bool true,rowI []]) (an h0<|an hk trivial) (by kernel_rfl)
end
end
section
open Go.RowKit
theorem bne_no {a b:Int} (h:a≠b):(a==b)=false:=by simp [h]
theorem two_no {a:Int} (h:a=2):(a==0)=false:=by simp [h]
theorem bne_yes {a b:Int} (h:a=b):(a==b)=true:=by simp [h]
theorem ac_pruns {t:Th} {e:Int} (he:thRuns t.st=e):AC Tryz.prog 181 [thT t] (.int .i64 e):=by
 subst he
 unfold thRuns
 by_cases h0:t.st=0
 ·rw [if_pos h0];exact ac_path mixed (ext:=[]) (fuel:=9) (n:=6) (orc:=[.bool true]) (an (bne_yes h0) trivial) (by kernel_rfl)
 ·rw [if_neg h0]
  by_cases h2:t.st=2
  ·rw [if_pos h2];exact ac_path mixed (ext:=[]) (fuel:=9) (n:=6) (orc:=[.bool false,.bool true]) (an (bne_no h0)<|an (bne_yes h2) trivial) (by kernel_rfl)
  ·rw [if_neg h2];exact ac_path mixed (ext:=[]) (fuel:=9) (n:=6) (orc:=[.bool false,.bool false]) (an (bne_no h0)<|an (bne_no h2) trivial) (by kernel_rfl)
theorem ac_ppark {t:Th} {p e:Int} {r:Th} (h:thPark t p e r):AC Tryz.prog 265 [thT t,.int .i64 p] (.tuple #[thT r,.int .i64 e]):=by (rcases h with ⟨h0,rfl,rfl⟩ | ⟨h2,rfl,rfl⟩ | ⟨h0,h2,rfl,rfl⟩;(exact ac_path mixed (ext:=[]) (fuel:=9) (n:=6) (orc:=[.bool true,.nilFunc]) (an (bne_yes h0) trivial) (by kernel_rfl));(exact ac_path mixed (ext:=[]) (fuel:=9) (n:=6) (orc:=[.bool false,.bool true,.nilFunc]) (an (two_no h2)<|an (bne_yes h2) trivial) (by kernel_rfl));(exact ac_path mixed (ext:=[]) (fuel:=9) (n:=6) (orc:=[.bool false,.bool false,.nilFunc]) (an (bne_no h0)<|an (bne_no h2) trivial) (by kernel_rfl)))
theorem ac_pdone {t:Th} {e:Int} {r:Th} (h:thDone t e r):AC Tryz.prog 266 [thT t] (.tuple #[thT r,.int .i64 e]):=by (rcases h with ⟨h0,rfl,rfl⟩ | ⟨h2,rfl,rfl⟩ | ⟨h0,h2,rfl,rfl⟩;(exact ac_path mixed (ext:=[]) (fuel:=9) (n:=6) (orc:=[.bool true,.nilFunc]) (an (bne_yes h0) trivial) (by kernel_rfl));(exact ac_path mixed (ext:=[]) (fuel:=9) (n:=6) (orc:=[.bool false,.bool true,.nilFunc]) (an (two_no h2)<|an (bne_yes h2) trivial) (by kernel_rfl));(exact ac_path mixed (ext:=[]) (fuel:=9) (n:=6) (orc:=[.bool false,.bool false,.nilFunc]) (an (bne_no h0)<|an (bne_no h2) trivial) (by kernel_rfl)))
theorem ac_twake (t:Th):AC Tryz.prog 76 [thT t] (thT (wakeT t)):=by
 unfold wakeT
 by_cases h:t.st=2
 ·rw [if_pos h];exact ac_path mixed (ext:=[]) (fuel:=9) (n:=6) (orc:=[.bool true]) (an (bne_yes h) trivial) (by kernel_rfl)
 ·rw [if_neg h];exact ac_path mixed (ext:=[]) (fuel:=9) (n:=6) (orc:=[.bool false]) (an (bne_no h) trivial) (by kernel_rfl)
theorem ac_rpark {t:Th} {p e:Int} {r:Th} (h:thPark t p e r):AC Tryz.prog 154 [thT t,.int .i64 p] (.tuple #[thT r,.int .i64 e]):=by (rcases h with ⟨h0,rfl,rfl⟩ | ⟨h2,rfl,rfl⟩ | ⟨h0,h2,rfl,rfl⟩;(exact ac_path mixed (ext:=[]) (fuel:=9) (n:=6) (orc:=[.bool true,.nilFunc]) (an (bne_yes h0) trivial) (by kernel_rfl));(exact ac_path mixed (ext:=[]) (fuel:=9) (n:=6) (orc:=[.bool false,.bool true,.nilFunc]) (an (two_no h2)<|an (bne_yes h2) trivial) (by kernel_rfl));(exact ac_path mixed (ext:=[]) (fuel:=9) (n:=6) (orc:=[.bool false,.bool false,.nilFunc]) (an (bne_no h0)<|an (bne_no h2) trivial) (by kernel_rfl)))
theorem ac_rdone {t:Th} {e:Int} {r:Th} (h:thDone t e r):AC Tryz.prog 99 [thT t] (.tuple #[thT r,.int .i64 e]):=by (rcases h with ⟨h0,rfl,rfl⟩ | ⟨h2,rfl,rfl⟩ | ⟨h0,h2,rfl,rfl⟩;(exact ac_path mixed (ext:=[]) (fuel:=9) (n:=6) (orc:=[.bool true,.nilFunc]) (an (bne_yes h0) trivial) (by kernel_rfl));(exact ac_path mixed (ext:=[]) (fuel:=9) (n:=6) (orc:=[.bool false,.bool true,.nilFunc]) (an (two_no h2)<|an (bne_yes h2) trivial) (by kernel_rfl));(exact ac_path mixed (ext:=[]) (fuel:=9) (n:=6) (orc:=[.bool false,.bool false,.nilFunc]) (an (bne_no h0)<|an (bne_no h2) trivial) (by kernel_rfl)))
theorem ac_rtwake (t:Th):AC Tryz.prog 152 [thT t] (thT (wakeT t)):=by
 unfold wakeT
 by_cases h:t.st=2
 ·rw [if_pos h];exact ac_path mixed (ext:=[]) (fuel:=9) (n:=6) (orc:=[.bool false]) (an (show (t.st != 2)=false by simp [h]) trivial) (by kernel_rfl)
 ·rw [if_neg h];exact ac_path mixed (ext:=[]) (fuel:=9) (n:=6) (orc:=[.bool true]) (an (show (t.st != 2)=true by simp [h]) trivial) (by kernel_rfl)
theorem ac_tbeg {t r:Th} {k v u E:Int} (h:thBeg t k v u E r):AC Tryz.prog 133 [thT t,.int .i64 k,.int .i64 v,.int .i64 u] (.tuple #[thT r,.int .i64 E]):=by
 have n0:t.st=0→(!(t.st==0))=false:=fun h=>by simp [h]
 rcases h with ⟨h0,rfl,rfl⟩ | ⟨h0,h1,rfl,rfl⟩ | ⟨h0,h1,h2,rfl,rfl⟩ | ⟨h0,h1,h2,h3,rfl,rfl⟩ | ⟨h0,h1,h2,h3,rfl,rfl⟩
 ·exact ac_path mixed (ext:=[57,59]) (fuel:=9) (n:=6) (orc:=[.bool true]) (an (show (!(r.st==0))=true by simp [h0]) trivial) (by kernel_rfl)
 ·exact ac_path mixed (ext:=[57,59]) (fuel:=9) (n:=6) (orc:=[.bool false,vD false]) (an (n0 h0)<|an (ac_ocheck h1) trivial) (by kernel_rfl)
 ·exact ac_path mixed (ext:=[57,59]) (fuel:=9) (n:=6) (orc:=[.bool false,vD true,vD false]) (an (n0 h0)<|an (ac_ocheck h1)<|an (ac_otimed h2) trivial) (by kernel_rfl)
 ·by_cases a:0≤u
  ·exact ac_path mixed (ext:=[57,59]) (fuel:=9) (n:=6) (orc:=[.bool false,vD true,vD true,.bool true,.bool true]) (an (n0 h0)<|an (ac_ocheck h1)<|an (ac_otimed h2)<|an (decide_eq_true a)<|an (show (!decide (u≤1099511627776))=true by simp <;> omega) trivial) (by kernel_rfl)
  ·exact ac_path mixed (ext:=[57,59]) (fuel:=9) (n:=6) (orc:=[.bool false,vD true,vD true,.bool false]) (an (n0 h0)<|an (ac_ocheck h1)<|an (ac_otimed h2)<|an (decide_eq_false a) trivial) (by kernel_rfl)
 ·exact ac_path mixed (ext:=[57,59]) (fuel:=9) (n:=6) (orc:=[.bool false,vD true,vD true,.bool true,.bool false]) (an (n0 h0)<|an (ac_ocheck h1)<|an (ac_otimed h2)<|an (decide_eq_true h3.1)<|an (show (!decide (u≤1099511627776))=false by simp [h3.2]) trivial) (by kernel_rfl)
theorem may_wt {lg th po wt sp yi:Int} (h:mayB lg th po wt sp yi=true):(wt=0∨wt=1∨wt=2∨wt=3)∧(0≤sp∧sp≤8)∧(0≤yi∧yi≤8):=by
 have hp:=may_iff.1 h
 omega
theorem ac_ccheck {c:Cf} {r:Int} (h:(if cfB c=true then 0 else 20)=r):AC Tryz.prog 34 [cfT c] (.int .i64 r):=by
 intro O W vs hl hat
 obtain ⟨ys,rfl,_,_,rfl,h0,rfl⟩:=args_of hat
 rw [rp_cfT] at h0
 subst h0
 refine (ccheck_val (b:=cfB c) (Lib.hid rfl) W).mono ?_
 rintro e W' ⟨rfl,hk⟩
 exact ⟨_,rfl,rp_int.2 (by rw [h]),hk⟩
theorem ac_rccheck {c:Cf} {r:Int} (h:ckI c.lg c.th c.po c.wt c.sp c.yi=r):AC Tryz.prog 139 [cfT c] (.int .i64 r):=by
 intro O W vs hl hat
 obtain ⟨ys,rfl,_,_,rfl,h0,rfl⟩:=args_of hat
 rw [rp_cfT] at h0
 subst h0
 refine (rccheck_any c.lg c.th c.po c.wt c.sp c.yi c.si W).mono ?_
 rintro e W' ⟨rfl,hk⟩
 exact ⟨_,rfl,rp_int.2 (by rw [h]),hk⟩
theorem ac_pnext (c:Cf) (n:Int):AC Tryz.prog 299 [cfT c,.int .i64 n] (.int .i64 (wtnI c.lg c.th c.po c.wt c.sp c.yi (max n 0))):=by
 obtain ⟨lg,th,po,wt,sp,yi,si⟩:=c
 show AC _ _ _ (.int .i64 (wtnI lg th po wt sp yi (max n 0)))
 unfold wtnI
 cases hm:mayB lg th po wt sp yi
 ·exact ac_path mixed (ext:=[34]) (fuel:=9) (n:=6) (orc:=[.int .i64 20,.nilFunc]) (an (ac_ccheck (c:=⟨lg,th,po,wt,sp,yi,si⟩) (r:=20) (by show (if mayB lg th po wt sp yi=true then (0:Int) else 20)=20;rw [hm];rfl)) trivial) (by kernel_rfl)
 ·have hk:AC Tryz.prog 34 [cfT ⟨lg,th,po,wt,sp,yi,si⟩] (.int .i64 0):=ac_ccheck (by show (if mayB lg th po wt sp yi=true then (0:Int) else 20)=0;rw [hm];rfl)
  obtain ⟨h0,h1,h2⟩:=may_wt hm
  rw [if_pos rfl]
  obtain rfl | rfl | rfl | rfl:=h0
  ·exact ac_path mixed (ext:=[34]) (fuel:=9) (n:=6) (orc:=[.int .i64 0,.nilFunc]) (an hk trivial) (by kernel_rfl)
  ·exact ac_path mixed (ext:=[34]) (fuel:=9) (n:=6) (orc:=[.int .i64 0,.nilFunc]) (an hk trivial) (by kernel_rfl)
  ·rw [show wayI 2 sp yi (max n 0)=if max n 0<sp then 0 else if max n 0<sp+yi then 1 else 2 from rfl]
   by_cases a:max n 0<sp
   ·rw [if_pos a];exact ac_path mixed (ext:=[34]) (fuel:=9) (n:=6) (orc:=[.int .i64 0,.nilFunc,.bool true]) (an hk<|an (decide_eq_true a) trivial) (by kernel_rfl)
   ·rw [if_neg a]
    by_cases b:max n 0<sp+yi
    ·rw [if_pos b];exact ac_path mixed (ext:=[34]) (fuel:=9) (n:=6) (orc:=[.int .i64 0,.nilFunc,.bool false,.bool true]) (an hk<|an (decide_eq_false a)<|an (show In64 (sp+yi) by constructor <;> omega)<|an (decide_eq_true b) trivial) (by kernel_rfl)
    ·rw [if_neg b];exact ac_path mixed (ext:=[34]) (fuel:=9) (n:=6) (orc:=[.int .i64 0,.nilFunc,.bool false,.bool false]) (an hk<|an (decide_eq_false a)<|an (show In64 (sp+yi) by constructor <;> omega)<|an (decide_eq_false b) trivial) (by kernel_rfl)
  ·exact ac_path mixed (ext:=[34]) (fuel:=9) (n:=6) (orc:=[.int .i64 0,.nilFunc]) (an hk trivial) (by kernel_rfl)
theorem ac_rnext (c:Cf) (n:Int):AC Tryz.prog 158 [cfT c,.int .i64 n] (.int .i64 (wtnI c.lg c.th c.po c.wt c.sp c.yi n)):=by
 unfold wtnI
 cases hm:mayB c.lg c.th c.po c.wt c.sp c.yi
 ·exact ac_path mixed (ext:=[139]) (fuel:=9) (n:=6) (orc:=[.int .i64 20,.nilFunc]) (an (ac_rccheck (c:=c) (r:=20) (by simp [ckI,hm])) trivial) (by kernel_rfl)
 ·have hk:AC Tryz.prog 139 [cfT c] (.int .i64 0):=ac_rccheck (by simp [ckI,hm])
  obtain ⟨h0,h1,h2⟩:=may_wt hm
  rw [if_pos rfl]
  unfold wayI
  by_cases w0:c.wt=0
  ·rw [if_pos w0];exact ac_path mixed (ext:=[139]) (fuel:=9) (n:=6) (orc:=[.int .i64 0,.nilFunc,.bool true]) (an hk<|an (bne_yes w0) trivial) (by kernel_rfl)
  rw [if_neg w0]
  by_cases w1:c.wt=1
  ·rw [if_pos w1];exact ac_path mixed (ext:=[139]) (fuel:=9) (n:=6) (orc:=[.int .i64 0,.nilFunc,.bool false,.bool true]) (an hk<|an (bne_no w0)<|an (bne_yes w1) trivial) (by kernel_rfl)
  rw [if_neg w1]
  by_cases w2:c.wt=2
  ·rw [if_pos w2]
   by_cases a:n<c.sp
   ·rw [if_pos a];exact ac_path mixed (ext:=[139]) (fuel:=9) (n:=6) (orc:=[.int .i64 0,.nilFunc,.bool false,.bool false,.bool true,.bool true]) (an hk<|an (bne_no w0)<|an (bne_no w1)<|an (bne_yes w2)<|an (decide_eq_true a) trivial) (by kernel_rfl)
   ·rw [if_neg a]
    by_cases b:n<c.sp+c.yi
    ·rw [if_pos b];exact ac_path mixed (ext:=[139]) (fuel:=9) (n:=6) (orc:=[.int .i64 0,.nilFunc,.bool false,.bool false,.bool true,.bool false,.bool true,.bool true]) (an hk<|an (bne_no w0)<|an (bne_no w1)<|an (bne_yes w2)<|an (decide_eq_false a)<|an (bne_yes w2)<|an (show In64 (c.sp+c.yi) by constructor <;> omega)<|an (decide_eq_true b) trivial) (by kernel_rfl)
    ·rw [if_neg b];exact ac_path mixed (ext:=[139]) (fuel:=9) (n:=6) (orc:=[.int .i64 0,.nilFunc,.bool false,.bool false,.bool true,.bool false,.bool true,.bool false]) (an hk<|an (bne_no w0)<|an (bne_no w1)<|an (bne_yes w2)<|an (decide_eq_false a)<|an (bne_yes w2)<|an (show In64 (c.sp+c.yi) by constructor <;> omega)<|an (decide_eq_false b) trivial) (by kernel_rfl)
  ·rw [if_neg w2];exact ac_path mixed (ext:=[139]) (fuel:=9) (n:=6) (orc:=[.int .i64 0,.nilFunc,.bool false,.bool false,.bool false,.bool false]) (an hk<|an (bne_no w0)<|an (bne_no w1)<|an (bne_no w2)<|an (bne_no w2) trivial) (by kernel_rfl)
end
section
open Go.RowKit
theorem ac_pecheck {ep:Int} {l:List Int} {b:Bool} (h:okE ep l=b):AC Tryz.prog 37 [evT ep l] (.bool b):=by
 subst h
 by_cases h0:0≤ep
 ·by_cases h1:ep≤1099511627776
  ·rw [show okE ep l=okLn l by simp [okE,h0,h1]]
   exact ac_path mixed (ext:=[65]) (fuel:=9) (n:=3) (orc:=[.bool true,.bool true,.bool (okLn l)]) (an (show decide (0≤ep)=true by simpa using h0)<|an (show decide (ep≤1099511627776)=true by simpa using h1)<|an (ac_plcheck (l:=l) rfl) trivial) (by kernel_rfl)
  ·rw [show okE ep l=false by simp [okE,h1]]
   exact ac_path mixed (ext:=[65]) (fuel:=9) (n:=3) (orc:=[.bool true,.bool false]) (an (show decide (0≤ep)=true by simpa using h0)<|an (show decide (ep≤1099511627776)=false by simpa using h1) trivial) (by kernel_rfl)
 ·rw [show okE ep l=false by simp [okE,h0]]
  exact ac_path mixed (ext:=[65]) (fuel:=9) (n:=3) (orc:=[.bool false]) (an (show decide (0≤ep)=false by simpa using h0) trivial) (by kernel_rfl)
def gZ (l:List Int) (i:Nat):Int:=l.getD i 0
theorem gZ_eq {l:List Int} {i:Nat} (h:i<l.length):gZ l i=l[i]:=by simp [gZ,h]
theorem ixZ' {l:List Int} {i:Nat} (h:i<l.length):IxP ((l.map (Value.int .i64 ·)).toArray) (i:Int) (.int .i64 (gZ l i)):=⟨by omega,by simp [gZ_eq h,h]⟩
theorem any_at {α:Type} {f:α→Bool} {l:List α} {i:Nat} (h:i<l.length):(l.drop i).any f=(f l[i]||(l.drop (i+1)).any f):=by rw [List.drop_eq_getElem_cons h];rfl
def zkB (m:Int):List (Option Blk):=[some ⟨true,false,1,1,[.int .i64 m]⟩]
def zkT (l:List Int) (i:Int):List (Nat×Value):=[(0,rowI l),(1,.func (.func 64) #[] #[.pointer (some ⟨0,0,some 0⟩)]),(7,.int .i64 l.length),(8,.int .i64 i)]
def zkS (m:Int) (l:List Int) (i:Int):Sg:=⟨mkT 19 (zkT l i),zkB m⟩
def zkN (m j:Int):Sg:=⟨mkT 19 [(4,.int .i64 j)],zkB m⟩
abbrev ZkL (m:Int) (l:List Int) (i:Int) (x:Exit) (S:Sg):Prop:=LoopK Tryz.prog 1 (loopOf Tryz.prog 121 0) (zkS m l i) x S
section
variable {l:List Int} {m:Int}
theorem zk_yes (hm:l.length≤maxLen):∀ (k i:Nat),l.length - i=k→i≤l.length→(l.drop i).any (overB m)=false→ZkL m l i (.exit 0) (zkS m l l.length)
 | 0,i,hk,hi,_=>by
  have:i=l.length:=by omega
  subst this
  exact loopK_end mixed (fuel:=9) (n:=5) (im:=[0]) (keep:=[0,1,7,8]) (ext:=[]) (orc:=[.bool false]) (an (show decide ((l.length:Int)<l.length)=false by simp) trivial) (by intro e;cases e) (by kernel_rfl) (by rfl)
 | k+1,i,hk,hi,he=>by
  have ha:i<l.length:=by omega
  rw [any_at ha,Bool.or_eq_false_iff] at he
  have ih:=zk_yes hm k (i+1) (by omega) (by omega) he.2
  rw [show ((i+1:Nat):Int)=(i:Int)+1 by omega] at ih
  exact loopK_more mixed (fuel:=9) (n:=5) (im:=[0]) (keep:=[0,1,7,8]) (ext:=[]) (orc:=[.bool true,.int .i64 (gZ l i),.bool false])
   (an (show decide ((i:Int)<l.length)=true by simp;omega)<|an (ixZ' ha)<|an (show decide (m≤gZ l i)=false by rw [gZ_eq ha];exact he.1)<|an (in_next ha hm) trivial) (by kernel_rfl) (by rfl) ih
theorem zk_no (hm:l.length≤maxLen):∀ (k i:Nat),l.length - i=k→i≤l.length→(l.drop i).any (overB m)=true→∃ j:Nat,ZkL m l i .ret (zkN m j)
 | 0,i,hk,hi,he=>absurd he (by rw [List.drop_eq_nil_of_le (by omega)];simp)
 | k+1,i,hk,hi,he=>by
  have ha:i<l.length:=by omega
  rw [any_at ha] at he
  cases h1:overB m l[i]
  ·rw [h1,Bool.false_or] at he
   obtain ⟨j,ih⟩:=zk_no hm k (i+1) (by omega) (by omega) he
   rw [show ((i+1:Nat):Int)=(i:Int)+1 by omega] at ih
   exact ⟨j,loopK_more mixed (fuel:=9) (n:=5) (im:=[0]) (keep:=[0,1,7,8]) (ext:=[]) (orc:=[.bool true,.int .i64 (gZ l i),.bool false])
    (an (show decide ((i:Int)<l.length)=true by simp;omega)<|an (ixZ' ha)<|an (show decide (m≤gZ l i)=false by rw [gZ_eq ha];exact h1)<|an (in_next ha hm) trivial) (by kernel_rfl) (by rfl) ih⟩
  ·exact ⟨i,loopK_end mixed (fuel:=9) (n:=5) (im:=[0]) (keep:=[4]) (ext:=[]) (orc:=[.bool true,.int .i64 (gZ l i),.bool true])
    (an (show decide ((i:Int)<l.length)=true by simp;omega)<|an (ixZ' ha)<|an (show decide (m≤gZ l i)=true by rw [gZ_eq ha];exact h1) trivial) (by intro e;cases e) (by kernel_rfl) (by rfl)⟩
end
def zkE:List FuncId:=[34,35,38,65,37]
def zkR (s:St):List Value:=[rowI s.sn,rowI s.rc,rowI s.fl,rowI s.el]
def zk0:List Value:=[.int .i64 0,.nilFunc,vD true]
def zkC (s:St) (l:List Int):List Value:=[.nilFunc,rowI l,vD true,oK 1 [2] [0,1,7,8] 0 (zkT l l.length) (zkB s.cf.th),.nilFunc]
def zkF (l:List Int):List Value:=[.nilFunc,rowI l,vD false]
def zkG (s:St) (l:List Int) (j:Int):List Value:=[.nilFunc,rowI l,vD true,oK 1 [2] [0,1,7,8] (-1) [(4,.int .i64 j)] (zkB s.cf.th),.bool true]
abbrev Zk (s:St) (b:Bool):Prop:=AC Tryz.prog 19 [stT s] (.bool b)
abbrev ZkI (s:St) (i:Nat) (l:List Int) (b:Bool) (B:Prop):Prop:=((0:Int)≤(i:Int)∧(i:Int).toNat<4)∧ElP (zkR s) i (rowI l)∧AC Tryz.prog 65 [rowI l] (.bool b)∧B
section
variable {s:St} {l:List Int} {i:Nat} {B:Prop} (hi:i<4) (he:(zkR s)[i]? = some (rowI l))
include hi he
theorem zk_f (h:okLn l=false):ZkI s i l false True:=⟨⟨by omega,by omega⟩,he,ac_plcheck h,trivial⟩
theorem zk_g (h:okLn l=true) {j:Nat} (hj:ZkL s.cf.th l (0:Nat) .ret (zkN s.cf.th j)):ZkI s i l true (ZkL s.cf.th l (0:Nat) .ret (zkN s.cf.th j)∧decide ((0:Int)≤(j:Int))=true∧True):=⟨⟨by omega,by omega⟩,he,ac_plcheck h,hj,by simp,trivial⟩
theorem zk_c (h:stnB s.cf.th l=true) (hm:l.length≤maxLen) (b:B):ZkI s i l true (ZkL s.cf.th l (0:Nat) (.exit 0) (zkS s.cf.th l l.length)∧In64 ((i:Int)+1)∧B):=by
 simp only [stnB,Bool.and_eq_true,Bool.not_eq_true'] at h
 exact ⟨⟨by omega,by omega⟩,he,ac_plcheck h.1,zk_yes hm l.length 0 rfl (by omega) (by simpa using h.2),⟨by omega,by omega⟩,b⟩
end
theorem zk_or {m:Int} {l:List Int} (h:stnB m l=false) (hm:l.length≤maxLen):okLn l=false∨okLn l=true∧∃ j:Nat,ZkL m l (0:Nat) .ret (zkN m j):=by
 cases h1:okLn l
 ·exact .inl rfl
 ·refine .inr ⟨rfl,zk_no hm l.length 0 rfl (by omega) ?_⟩
  simpa [stnB,h1] using h
theorem ac_pcheck {s:St} {b:Bool} (h:stB s=b) (ho:s.ok):Zk s b:=by
 subst h
 cases h0:cfB s.cf
 ·rw [show stB s=false by simp [stB,h0]]
  exact ac_path mixed (ext:=zkE) (fuel:=9) (n:=6) (orc:=[.int .i64 20,.nilFunc]) (an (ac_ccheck (c:=s.cf) (r:=20) (by simp [h0])) trivial) (by kernel_rfl)
 have c0:=ac_ccheck (c:=s.cf) (r:=0) (by simp [h0])
 cases h1:ringSt s
 ·rw [show stB s=false by simp [stB,h1]]
  exact ac_path mixed (ext:=zkE) (fuel:=9) (n:=6) (orc:=[.int .i64 0,.nilFunc,vD false]) (an c0<|an (ac_pring h1 ho) trivial) (by kernel_rfl)
 have c1:=ac_pring h1 ho
 cases g0:stnB s.cf.th s.sn
 ·rw [show stB s=false by simp [stB,lnsSt,g0]]
  rcases zk_or g0 ho.sn.2 with e | ⟨e,j,hj⟩
  ·exact ac_path mixed (ext:=zkE) (fuel:=9) (n:=6) (orc:=zk0++zkF s.sn) (an c0<|an c1<|zk_f (s:=s) (i:=0) (by decide) rfl e) (by kernel_rfl)
  ·exact ac_path mixed (ext:=zkE) (fuel:=9) (n:=6) (orc:=zk0++zkG s s.sn j) (an c0<|an c1<|zk_g (s:=s) (i:=0) (by decide) rfl e hj) (by kernel_rfl)
 cases g1:stnB s.cf.th s.rc
 ·rw [show stB s=false by simp [stB,lnsSt,g1]]
  rcases zk_or g1 ho.rc.2 with e | ⟨e,j,hj⟩
  ·exact ac_path mixed (ext:=zkE) (fuel:=9) (n:=6) (orc:=zk0++zkC s s.sn++zkF s.rc) (an c0<|an c1<|zk_c (s:=s) (i:=0) (by decide) rfl g0 ho.sn.2<|zk_f (s:=s) (i:=1) (by decide) rfl e) (by kernel_rfl)
  ·exact ac_path mixed (ext:=zkE) (fuel:=9) (n:=6) (orc:=zk0++zkC s s.sn++zkG s s.rc j) (an c0<|an c1<|zk_c (s:=s) (i:=0) (by decide) rfl g0 ho.sn.2<|zk_g (s:=s) (i:=1) (by decide) rfl e hj) (by kernel_rfl)
 cases g2:stnB s.cf.th s.fl
 ·rw [show stB s=false by simp [stB,lnsSt,g2]]
  rcases zk_or g2 ho.fl.2 with e | ⟨e,j,hj⟩
  ·exact ac_path mixed (ext:=zkE) (fuel:=9) (n:=6) (orc:=zk0++zkC s s.sn++zkC s s.rc++zkF s.fl) (an c0<|an c1<|zk_c (s:=s) (i:=0) (by decide) rfl g0 ho.sn.2<|zk_c (s:=s) (i:=1) (by decide) rfl g1 ho.rc.2<|zk_f (s:=s) (i:=2) (by decide) rfl e) (by kernel_rfl)
  ·exact ac_path mixed (ext:=zkE) (fuel:=9) (n:=6) (orc:=zk0++zkC s s.sn++zkC s s.rc++zkG s s.fl j) (an c0<|an c1<|zk_c (s:=s) (i:=0) (by decide) rfl g0 ho.sn.2<|zk_c (s:=s) (i:=1) (by decide) rfl g1 ho.rc.2<|zk_g (s:=s) (i:=2) (by decide) rfl e hj) (by kernel_rfl)
 cases g3:stnB s.cf.th s.el
 ·rw [show stB s=false by simp [stB,lnsSt,g3]]
  rcases zk_or g3 ho.el.2 with e | ⟨e,j,hj⟩
  ·exact ac_path mixed (ext:=zkE) (fuel:=9) (n:=6) (orc:=zk0++zkC s s.sn++zkC s s.rc++zkC s s.fl++zkF s.el) (an c0<|an c1<|zk_c (s:=s) (i:=0) (by decide) rfl g0 ho.sn.2<|zk_c (s:=s) (i:=1) (by decide) rfl g1 ho.rc.2<|zk_c (s:=s) (i:=2) (by decide) rfl g2 ho.fl.2<|zk_f (s:=s) (i:=3) (by decide) rfl e) (by kernel_rfl)
  ·exact ac_path mixed (ext:=zkE) (fuel:=9) (n:=6) (orc:=zk0++zkC s s.sn++zkC s s.rc++zkC s s.fl++zkG s s.el j) (an c0<|an c1<|zk_c (s:=s) (i:=0) (by decide) rfl g0 ho.sn.2<|zk_c (s:=s) (i:=1) (by decide) rfl g1 ho.rc.2<|zk_c (s:=s) (i:=2) (by decide) rfl g2 ho.fl.2<|zk_g (s:=s) (i:=3) (by decide) rfl e hj) (by kernel_rfl)
 cases h2:okE s.fe s.fl
 ·rw [show stB s=false by simp [stB,h2]]
  exact ac_path mixed (ext:=zkE) (fuel:=9) (n:=6) (orc:=zk0++zkC s s.sn++zkC s s.rc++zkC s s.fl++zkC s s.el++[.nilFunc,vD false]) (an c0<|an c1<|zk_c (s:=s) (i:=0) (by decide) rfl g0 ho.sn.2<|zk_c (s:=s) (i:=1) (by decide) rfl g1 ho.rc.2<|zk_c (s:=s) (i:=2) (by decide) rfl g2 ho.fl.2<|zk_c (s:=s) (i:=3) (by decide) rfl g3 ho.el.2<|an (ac_pecheck h2) trivial) (by kernel_rfl)
 cases h3:okE s.ee s.el
 ·rw [show stB s=false by simp [stB,h3]]
  exact ac_path mixed (ext:=zkE) (fuel:=9) (n:=6) (orc:=zk0++zkC s s.sn++zkC s s.rc++zkC s s.fl++zkC s s.el++[.nilFunc,vD true,vD false]) (an c0<|an c1<|zk_c (s:=s) (i:=0) (by decide) rfl g0 ho.sn.2<|zk_c (s:=s) (i:=1) (by decide) rfl g1 ho.rc.2<|zk_c (s:=s) (i:=2) (by decide) rfl g2 ho.fl.2<|zk_c (s:=s) (i:=3) (by decide) rfl g3 ho.el.2<|an (ac_pecheck h2)<|an (ac_pecheck h3) trivial) (by kernel_rfl)
 cases h4:decide (0≤s.nw)
 ·rw [show stB s=false by simp only [stB,h4];simp]
  exact ac_path mixed (ext:=zkE) (fuel:=9) (n:=6) (orc:=zk0++zkC s s.sn++zkC s s.rc++zkC s s.fl++zkC s s.el++[.nilFunc,vD true,vD true,.bool false]) (an c0<|an c1<|zk_c (s:=s) (i:=0) (by decide) rfl g0 ho.sn.2<|zk_c (s:=s) (i:=1) (by decide) rfl g1 ho.rc.2<|zk_c (s:=s) (i:=2) (by decide) rfl g2 ho.fl.2<|zk_c (s:=s) (i:=3) (by decide) rfl g3 ho.el.2<|an (ac_pecheck h2)<|an (ac_pecheck h3)<|an h4 trivial) (by kernel_rfl)
 cases h5:decide (s.nw≤1099511627776)
 ·rw [show stB s=false by simp only [stB,h5];simp]
  exact ac_path mixed (ext:=zkE) (fuel:=9) (n:=6) (orc:=zk0++zkC s s.sn++zkC s s.rc++zkC s s.fl++zkC s s.el++[.nilFunc,vD true,vD true,.bool true,.bool false]) (an c0<|an c1<|zk_c (s:=s) (i:=0) (by decide) rfl g0 ho.sn.2<|zk_c (s:=s) (i:=1) (by decide) rfl g1 ho.rc.2<|zk_c (s:=s) (i:=2) (by decide) rfl g2 ho.fl.2<|zk_c (s:=s) (i:=3) (by decide) rfl g3 ho.el.2<|an (ac_pecheck h2)<|an (ac_pecheck h3)<|an h4<|an h5 trivial) (by kernel_rfl)
 rw [show stB s=thsSt s by simp only [stB,lnsSt,h0,h1,g0,g1,g2,g3,h2,h3,h4,h5];simp]
 exact ac_path mixed (ext:=zkE) (fuel:=9) (n:=6) (orc:=zk0++zkC s s.sn++zkC s s.rc++zkC s s.fl++zkC s s.el++[.nilFunc,vD true,vD true,.bool true,.bool true,.bool (thsSt s)]) (an c0<|an c1<|zk_c (s:=s) (i:=0) (by decide) rfl g0 ho.sn.2<|zk_c (s:=s) (i:=1) (by decide) rfl g1 ho.rc.2<|zk_c (s:=s) (i:=2) (by decide) rfl g2 ho.fl.2<|zk_c (s:=s) (i:=3) (by decide) rfl g3 ho.el.2<|an (ac_pecheck h2)<|an (ac_pecheck h3)<|an h4<|an h5<|an (ac_pthreads (s:=s) rfl ho) trivial) (by kernel_rfl)
theorem ac_phas {s:St} {i:Int} {b:Bool} (h:hasB s i=b) (ho:s.ok):AC Tryz.prog 72 [stT s,.int .i64 i] (.bool b):=by
 subst h
 cases hB:stB s
 ·rw [show hasB s i=false by simp [hasB,hB]]
  exact ac_path mixed (ext:=[19]) (fuel:=9) (n:=4) (orc:=[vD false]) (an (ac_pcheck hB ho) trivial) (by kernel_rfl)
 ·by_cases h0:0≤i
  ·rw [show hasB s i=decide (i<s.th.length) by simp [hasB,hB,h0]]
   exact ac_path mixed (ext:=[19]) (fuel:=9) (n:=4) (orc:=[vD true,.bool true]) (an (ac_pcheck hB ho)<|an (show decide (0≤i)=true by simpa using h0) trivial) (by kernel_rfl)
  ·rw [show hasB s i=false by simp [hasB,h0]]
   exact ac_path mixed (ext:=[19]) (fuel:=9) (n:=4) (orc:=[vD true,.bool false]) (an (ac_pcheck hB ho)<|an (show decide (0≤i)=false by simpa using h0) trivial) (by kernel_rfl)
theorem ac_place0 {p r k:Int} (h:placeI p r=k) (hp:In64 p) (hr:In64 r):AC Tryz.prog 118 [.int .i64 p,.int .i64 r] (.int .i64 k):=by
 intro O W vs hl hat
 obtain ⟨ys,rfl,_,_,rfl,h0,_,_,rfl,h1,rfl⟩:=args_of hat
 rw [rp_int] at h0 h1
 subst h0 h1
 refine (place_any p r hp hr W).mono ?_
 rintro e W' ⟨rfl,hk⟩
 exact ⟨_,rfl,rp_int.2 (by rw [h]),hk⟩
theorem ac_pvalue (s:St) (p:Int) (ho:s.ok) (hp:In64 p):AC Tryz.prog 269 [stT s,.int .i64 p] (.int .i64 (valV s p)):=by
 by_cases h0:p<0
 ·rw [show valV s p=0 by simp [valV,h0]]
  exact ac_path mixed (ext:=[19,118]) (fuel:=9) (n:=4) (orc:=[.bool true]) (an (show decide (p<0)=true by simpa using h0) trivial) (by kernel_rfl)
 ·have d0:decide (p<0)=false:=by simpa using h0
  cases hB:stB s
  ·rw [show valV s p=0 by simp [valV,hB]]
   exact ac_path mixed (ext:=[19,118]) (fuel:=9) (n:=4) (orc:=[.bool false,vD false]) (an d0<|an (ac_pcheck hB ho) trivial) (by kernel_rfl)
  ·have hk:=(word_ok hB).2.1
   obtain ⟨hi,hpl⟩:=plc_lt (l:=s.sl) (p:=p) (lies_iff.2 ⟨by omega,hk⟩)
   have hm:=(ok_iff.1 hk).1
   rw [show valV s p=(gs s.sl (plc s.sl p)).vl by simp [valV,h0,hB,atV]]
   exact ac_path mixed (ext:=[19,118]) (fuel:=9) (n:=4) (orc:=[.bool false,vD true,.int .i64 (plc s.sl p),slT (gs s.sl (plc s.sl p))])
    (an d0<|an (ac_pcheck hB ho)<|an (ac_place0 hpl hp (by constructor <;> omega))<|an (show IxP ((s.sl.map slT).toArray) ((plc s.sl p:Nat):Int) (slT (gs s.sl (plc s.sl p))) from ⟨by omega,by simp [gs_eq hi,hi]⟩) trivial) (by kernel_rfl)
end
section
open Go.RowKit
theorem ac_copI (l:List Int) (hm:l.length≤1000000):AC Tryz.prog 129 [rowI l] (rowI l):=by
 by_cases h:l=[]
 ·subst h
  exact ac_path mixed (ext:=[]) (fuel:=9) (n:=3) (orc:=[.slice none 0 0]) (And.intro (allK_I []) (And.intro (rfl:(0:Nat)=0) trivial)) (by kernel_rfl)
 ·exact ac_path mixed (ext:=[]) (fuel:=9) (n:=3) (orc:=[rowI l]) (And.intro (allK_I l) (And.intro (app_nil (f:=(Value.int .i64 ·)) h hm) (And.intro (len_map (f:=(Value.int .i64 ·)) l) trivial))) (by kernel_rfl)
theorem ac_copS (l:List Slo) (hm:l.length≤1000000):AC Tryz.prog 128 [rowS l] (rowS l):=by
 by_cases h:l=[]
 ·subst h
  exact ac_path mixed (ext:=[]) (fuel:=9) (n:=3) (orc:=[.slice none 0 0]) (And.intro (allK_S []) (And.intro (rfl:(0:Nat)=0) trivial)) (by kernel_rfl)
 ·exact ac_path mixed (ext:=[]) (fuel:=9) (n:=3) (orc:=[rowS l]) (And.intro (allK_S l) (And.intro (app_nil (f:=slT) h hm) (And.intro (len_map (f:=slT) l) trivial))) (by kernel_rfl)
theorem ac_copT (l:List Th) (hm:l.length≤1000000):AC Tryz.prog 130 [rowT l] (rowT l):=by
 by_cases h:l=[]
 ·subst h
  exact ac_path mixed (ext:=[]) (fuel:=9) (n:=3) (orc:=[.slice none 0 0]) (And.intro (allK_T []) (And.intro (rfl:(0:Nat)=0) trivial)) (by kernel_rfl)
 ·exact ac_path mixed (ext:=[]) (fuel:=9) (n:=3) (orc:=[rowT l]) (And.intro (allK_T l) (And.intro (app_nil (f:=thT) h hm) (And.intro (len_map (f:=thT) l) trivial))) (by kernel_rfl)
theorem ac_copE (l:List En) (hm:l.length≤1000000):AC Tryz.prog 131 [rowE l] (rowE l):=by
 by_cases h:l=[]
 ·subst h
  exact ac_path mixed (ext:=[]) (fuel:=9) (n:=3) (orc:=[.slice none 0 0]) (And.intro (allK_E []) (And.intro (rfl:(0:Nat)=0) trivial)) (by kernel_rfl)
 ·exact ac_path mixed (ext:=[]) (fuel:=9) (n:=3) (orc:=[rowE l]) (And.intro (allK_E l) (And.intro (app_nil (f:=enT) h hm) (And.intro (len_map (f:=enT) l) trivial))) (by kernel_rfl)
end
section
open Go.RowKit
def stL (s:St):Array Value:=#[.int .i64 s.cf.lg,.int .i64 s.cf.th,.int .i64 s.cf.po,.int .i64 s.cf.wt,.int .i64 s.cf.sp,.int .i64 s.cf.yi,.bool s.cf.si,.int .i64 s.hd,.int .i64 s.tl,.int .i64 s.md,rowS s.sl,rowI s.sn,rowI s.rc,.int .i64 s.fe,rowI s.fl,.int .i64 s.ee,rowI s.el,.int .i64 s.nw,rowT s.th,rowE s.lg]
def rsT (t:Th) (r:Int):Th:=⟨t.st,t.ki,t.va,t.un,t.pc,t.re,t.se,t.tr,t.la,r,t.go⟩
def rgT (t:Th) (r g:Int):Th:=⟨t.st,t.ki,t.va,t.un,t.pc,t.re,t.se,t.tr,t.la,r,g⟩
structure St.fit (s:St):Prop where
 sl:s.sl.length≤1000000
 sn:s.sn.length≤1000000
 rc:s.rc.length≤1000000
 fl:s.fl.length≤1000000
 el:s.el.length≤1000000
 th:s.th.length≤1000000
 lg:s.lg.length≤1000000
theorem el2 {n:Nat} {l:List Th} (h:n<l.length) (t:Th):ElP ((l.set n t).map thT) (0+(n:Int).toNat) (thT t):=by simp [ElP,h]
theorem set2 (l:List Th) (n:Nat) (t u:Th):(l.set n u).map thT=((l.set n t).map thT).set (0+(n:Int).toNat) (thT u):=by simp [List.map_set]
theorem lenE (l:List En):l.length=(l.map enT).length:=by simp
theorem lenT (l:List Th):l.length=l.length∧l.length=(l.map thT).length:=⟨rfl,by simp⟩
theorem lenTs (l:List Th) (n:Nat) (t:Th):l.length=(l.set n t).length∧l.length=((l.set n t).map thT).length:=⟨by simp,by simp⟩
theorem has_lt {s:St} {n:Nat} (h:hasB s n=true):n<s.th.length:=by have:=(has_iff.1 h).2.2;omega
theorem lt_ne {l:List Th} {n:Nat} (h:n<l.length):l≠[]:=by rintro rfl;simp at h
theorem ao_keep {s:St} {i:Int} (hA:hasB s i=false) (ho:s.ok) (hf:s.fit) (ht:s.th≠[]):AO Tryz.prog 42 [stT s,.int .i64 i] (stL s) 18 11 :=
 ao_path mixed (ext:=[72,129,128,131]) (fuel:=9) (n:=5) (pos:=18) (orc:=[vD false,rowS s.sl,rowI s.sn,rowI s.rc,rowI s.fl,rowI s.el,rowT s.th,rowE s.lg])
  (And.intro (ac_phas hA ho) (And.intro (ac_copS s.sl hf.sl) (And.intro (ac_copI s.sn hf.sn) (And.intro (ac_copI s.rc hf.rc) (And.intro (ac_copI s.fl hf.fl) (And.intro (ac_copI s.el hf.el)
   (And.intro (allK_T s.th) (And.intro (app_nil (f:=thT) ht hf.th) (And.intro (ac_copE s.lg hf.lg) (And.intro (lenT s.th) trivial)))))))))) (by kernel_rfl)
theorem ao_wake {s:St} {n:Nat} (hA:hasB s n=true) (ho:s.ok) (hf:s.fit):AO Tryz.prog 42 [stT s,.int .i64 n] (stL (s.onTh n wakeT)) 18 11 :=
 ao_path mixed (ext:=[72,129,128,131,76]) (fuel:=9) (n:=5) (pos:=18)
  (orc:=[vD true,rowS s.sl,rowI s.sn,rowI s.rc,rowI s.fl,rowI s.el,rowT s.th,rowE s.lg,thT (gth s.th n),thT (wakeT (gth s.th n)),thT (gth s.th n),rowT (s.th.set n (wakeT (gth s.th n)))])
  (And.intro (ac_phas hA ho) (And.intro (ac_copS s.sl hf.sl) (And.intro (ac_copI s.sn hf.sn) (And.intro (ac_copI s.rc hf.rc) (And.intro (ac_copI s.fl hf.fl) (And.intro (ac_copI s.el hf.el)
   (And.intro (allK_T s.th) (And.intro (app_nil (f:=thT) (lt_ne (has_lt hA)) hf.th) (And.intro (ac_copE s.lg hf.lg) (And.intro (idT (has_lt hA)) (And.intro (elT (has_lt hA)) (And.intro (ac_twake (gth s.th n)) (And.intro (elT (has_lt hA))
    (And.intro (setT s.th n (wakeT (gth s.th n))) (And.intro (lenTs s.th n (wakeT (gth s.th n))) trivial))))))))))))))) (by kernel_rfl)
theorem app_one {α:Type} {f:α→Value} (l:List α) (x:α) (hm:l.length≤1000000):AppP (l++[x]).length ((l++[x]).map f) l.length (l.map f) 1 [f x]:=⟨by simp,by simp,by omega⟩
theorem app_fst {α:Type} {f:α→Value} (x:α):0<1∧AppP ([]++[x]).length (([]++[x]).map f) 0 [] 1 [f x]:=⟨by omega,by simp,by simp,by omega⟩
theorem ixT {n:Nat} {l:List Th} (h:n<l.length):IxP ((l.map thT).toArray) (n:Int) (thT (gth l n)):=rowT_el h
theorem allK_1 (x:En):AllK 5 [enT x]:=allK_E [x]
def tlE (s:St) (n:Nat) (k r g:Int):En:=⟨n,k,(gth s.th n).va,r,g⟩
theorem lenA (l:List En) (x:En):LenP (l++[x]).length (l++[x]).length ((l++[x]).map enT):=len_map (f:=enT) (l++[x])
theorem tell_is {s:St} {n:Nat} (hA:hasB s n=true) (k r g:Int):tellS s n k r g=(s.setTh n (tellT (gth s.th n) k r g)).addLg (tlE s n k r g):=by
 unfold tellS
 rw [if_pos hA];rfl
theorem ao_tell {s:St} {n:Nat} {k r g:Int} (hA:hasB s n=true) (hk:(k != 9)=true) (ho:s.ok) (hf:s.fit):AO Tryz.prog 268 [stT s,.int .i64 n,.int .i64 k,.int .i64 r,.int .i64 g] (stL ((s.setTh n (rgT (gth s.th n) r g)).addLg (tlE s n k r g))) 18 11:=by
 have hn:=has_lt hA
 by_cases hl:s.lg=[]
 ·rw [show (s.setTh n (rgT (gth s.th n) r g)).addLg (tlE s n k r g)=⟨s.cf,s.hd,s.tl,s.md,s.sl,s.sn,s.rc,s.fe,s.fl,s.ee,s.el,s.nw,s.th.set n (rgT (gth s.th n) r g),[]++[tlE s n k r g]⟩ by unfold St.addLg St.setTh;rw [hl]]
  refine ao_path mixed (ext:=[72,129,128]) (fuel:=9) (n:=5) (pos:=18)
   (orc:=[vD true,rowS s.sl,rowI s.sn,rowI s.rc,rowI s.fl,rowI s.el,rowT s.th,.slice none 0 0,.bool true,thT (gth s.th n),rowT (s.th.set n (rsT (gth s.th n) r)),thT (rsT (gth s.th n) r),rowT (s.th.set n (rgT (gth s.th n) r g)),thT (gth s.th n),rowE ([]++[tlE s n k r g])])
   (an (ac_phas hA ho)<|an (ac_copS s.sl hf.sl)<|an (ac_copI s.sn hf.sn)<|an (ac_copI s.rc hf.rc)<|an (ac_copI s.fl hf.fl)<|an (ac_copI s.el hf.el)<|an (allK_T s.th)<|an (app_nil (f:=thT) (lt_ne hn) hf.th) <|
    an (allK_E s.lg)<|an (show s.lg.length=0 by rw [hl];rfl)<|an (idT hn)<|an hk<|an (elT hn)<|an (setT s.th n (rsT (gth s.th n) r))<|an (el2 hn (rsT (gth s.th n) r))<|an (set2 s.th n (rsT (gth s.th n) r) (rgT (gth s.th n) r g))<|an (ixT hn)<|an (rfl:(1:Nat)=1)<|an (allK_1 (tlE s n k r g))<|an (app_fst (f:=enT) (tlE s n k r g)) <|
    an (lenTs s.th n (rgT (gth s.th n) r g))<|an (lenA [] (tlE s n k r g)) trivial) (by kernel_rfl)
 ·refine ao_path mixed (ext:=[72,129,128]) (fuel:=9) (n:=5) (pos:=18)
   (orc:=[vD true,rowS s.sl,rowI s.sn,rowI s.rc,rowI s.fl,rowI s.el,rowT s.th,rowE s.lg,.bool true,thT (gth s.th n),rowT (s.th.set n (rsT (gth s.th n) r)),thT (rsT (gth s.th n) r),rowT (s.th.set n (rgT (gth s.th n) r g)),thT (gth s.th n),rowE (s.lg++[tlE s n k r g])])
   (an (ac_phas hA ho)<|an (ac_copS s.sl hf.sl)<|an (ac_copI s.sn hf.sn)<|an (ac_copI s.rc hf.rc)<|an (ac_copI s.fl hf.fl)<|an (ac_copI s.el hf.el)<|an (allK_T s.th)<|an (app_nil (f:=thT) (lt_ne hn) hf.th) <|
    an (allK_E s.lg)<|an (app_nil (f:=enT) hl hf.lg)<|an (idT hn)<|an hk<|an (elT hn)<|an (setT s.th n (rsT (gth s.th n) r))<|an (el2 hn (rsT (gth s.th n) r))<|an (set2 s.th n (rsT (gth s.th n) r) (rgT (gth s.th n) r g))<|an (ixT hn)<|an (rfl:(1:Nat)=1)<|an (allK_1 (tlE s n k r g))<|an (lenE s.lg)<|an (app_one (f:=enT) s.lg (tlE s n k r g) hf.lg) <|
    an (lenTs s.th n (rgT (gth s.th n) r g))<|an (lenA s.lg (tlE s n k r g)) trivial) (by kernel_rfl)
theorem ao_tell9 {s:St} {n:Nat} {r g:Int} (hA:hasB s n=true) (ho:s.ok) (hf:s.fit):AO Tryz.prog 268 [stT s,.int .i64 n,.int .i64 9,.int .i64 r,.int .i64 g] (stL (s.addLg (tlE s n 9 r g))) 18 11:=by
 have hn:=has_lt hA
 by_cases hl:s.lg=[]
 ·rw [show s.addLg (tlE s n 9 r g)=⟨s.cf,s.hd,s.tl,s.md,s.sl,s.sn,s.rc,s.fe,s.fl,s.ee,s.el,s.nw,s.th,[]++[tlE s n 9 r g]⟩ by unfold St.addLg;rw [hl]]
  refine ao_path mixed (ext:=[72,129,128]) (fuel:=9) (n:=5) (pos:=18)
   (orc:=[vD true,rowS s.sl,rowI s.sn,rowI s.rc,rowI s.fl,rowI s.el,rowT s.th,.slice none 0 0,.nilFunc,thT (gth s.th n),rowE ([]++[tlE s n 9 r g])])
   (an (ac_phas hA ho)<|an (ac_copS s.sl hf.sl)<|an (ac_copI s.sn hf.sn)<|an (ac_copI s.rc hf.rc)<|an (ac_copI s.fl hf.fl)<|an (ac_copI s.el hf.el)<|an (allK_T s.th)<|an (app_nil (f:=thT) (lt_ne hn) hf.th) <|
    an (allK_E s.lg)<|an (show s.lg.length=0 by rw [hl];rfl)<|an (idT hn)<|an (ixT hn)<|an (rfl:(1:Nat)=1)<|an (allK_1 (tlE s n 9 r g))<|an (app_fst (f:=enT) (tlE s n 9 r g)) <|
    an (lenT s.th)<|an (lenA [] (tlE s n 9 r g)) trivial) (by kernel_rfl)
 ·refine ao_path mixed (ext:=[72,129,128]) (fuel:=9) (n:=5) (pos:=18)
   (orc:=[vD true,rowS s.sl,rowI s.sn,rowI s.rc,rowI s.fl,rowI s.el,rowT s.th,rowE s.lg,.nilFunc,thT (gth s.th n),rowE (s.lg++[tlE s n 9 r g])])
   (an (ac_phas hA ho)<|an (ac_copS s.sl hf.sl)<|an (ac_copI s.sn hf.sn)<|an (ac_copI s.rc hf.rc)<|an (ac_copI s.fl hf.fl)<|an (ac_copI s.el hf.el)<|an (allK_T s.th)<|an (app_nil (f:=thT) (lt_ne hn) hf.th) <|
    an (allK_E s.lg)<|an (app_nil (f:=enT) hl hf.lg)<|an (idT hn)<|an (ixT hn)<|an (rfl:(1:Nat)=1)<|an (allK_1 (tlE s n 9 r g))<|an (lenE s.lg)<|an (app_one (f:=enT) s.lg (tlE s n 9 r g) hf.lg) <|
    an (lenT s.th)<|an (lenA s.lg (tlE s n 9 r g)) trivial) (by kernel_rfl)
theorem ac_keep {s:St} {i:Int} (hA:hasB s i=false) (ho:s.ok) (hf:s.fit):AC Tryz.prog 42 [stT s,.int .i64 i] (stT s) :=
 ac_path mixed (ext:=[72,129,128,131,130]) (fuel:=9) (n:=5) (orc:=[vD false,rowS s.sl,rowI s.sn,rowI s.rc,rowI s.fl,rowI s.el,rowT s.th,rowE s.lg])
  (an (ac_phas hA ho)<|an (ac_copS s.sl hf.sl)<|an (ac_copI s.sn hf.sn)<|an (ac_copI s.rc hf.rc)<|an (ac_copI s.fl hf.fl)<|an (ac_copI s.el hf.el)<|an (ac_copT s.th hf.th)<|an (ac_copE s.lg hf.lg) trivial) (by kernel_rfl)
end
section
open Go.ChangeShapes Go.WideShapes Go.ChangeAt Go.RowKit
theorem owi_nilV {W:World} {base:Nat}:Ow W base 3 1 intC [] (.slice none 0 0):=⟨by simp,.inl ⟨rfl,rfl⟩⟩
theorem Ow.monoV {α:Type} {W:World} {base base' k:Nat} {e:TypeId} {enc:α→List Value} {xs:List α} {v:Value} (h:Ow W base e k enc xs v) (hb:base' ≤ base):Ow W base' e k enc xs v:=by
 obtain ⟨h0,h1 | ⟨g,cap,cur,hv,hbg,hr⟩⟩:=h
 ·exact ⟨h0,.inl h1⟩
 ·exact ⟨h0,.inr ⟨g,cap,cur,hv,Nat.le_trans hb hbg,hr⟩⟩
def RetOV (w:World) (r:List Int) (e:Ending) (w' : World):Prop :=
 ∃ (p:Option Addr) (k:Nat),e = .returned (.slice p r.length k)∧Ow w' w.heap.size 3 1 intC r (.slice p r.length k)∧Kept w w'
theorem lkept_v (l:List Int) (p:Option Addr) (k:Nat) (w:World) (hl:Sl w 1 intC l (.slice p l.length k)) (hm:l.length≤1000000):Calls Tryz.prog 218 #[.slice p l.length k] w (RetOV w l):=by
 have H:=Lib.hid hl
 clear hl
 go_enter Tryz.func218,Tryz.ntmps218
 go_wp2_with ((at_builtin;refine wpList_app' (wb:=w) rfl _ _ 27 rfl (.int .i64 0) 8 Tryz.underlying27 int_info rfl (by decide) intEnc rfl rfl (xs:=[]) (ys:=l) owi_nilV H.out (Below.refl _ _) (by simp only [List.length_append,List.length_nil,List.length_cons];unfold maxLen;omega) (by simp only [List.length_append,List.length_nil,List.length_cons];omega) ?_);intro v1 w1 h1 hb1)
 obtain ⟨p1,k1,rfl,-⟩:=(Ow.sl intEnc h1).is
 go_ret
 exact ⟨p1,k1,rfl,h1,hb1⟩
def lineDelV_ren:Go.Shelf.Ren:=⟨fun | 23=>219 | n=>n,fun | 22=>27 | 3=>3 | 4=>4 | 0=>0 | n=>n,fun | n=>n⟩
theorem lineDelV:Go.Proofs.Lays2.n23 Tryz.prog lineDelV_ren:={
 mixed:=by kernel_rfl
 f23:=Tryz.func219.trans (congrArg some (by kernel_rfl))
 t0:=Tryz.underlying0
 a0:=Tryz.isAgg0
 z0:=Tryz.sizeOf0
 v0:=Tryz.zeroValue0
 t3:=Tryz.underlying3
 a3:=Tryz.isAgg3
 z3:=Tryz.sizeOf3
 v3:=Tryz.zeroValue3
 t4:=Tryz.underlying4
 a4:=Tryz.isAgg4
 z4:=Tryz.sizeOf4
 v4:=Tryz.zeroValue4
 t22:=Tryz.underlying27
 a22:=Tryz.isAgg27
 z22:=Tryz.sizeOf27
 v22:=Tryz.zeroValue27
 i3:=by kernel_rfl }
theorem flat_intCV (l:List Int):l.flatMap intC=l.map (.int .i64):=by induction l <;> simp_all [intC]
theorem delete_v (l:List Int) (i:Nat) (p:Option Addr) (k base:Nat) (w:World) (ho:Ow w base 3 1 intC l (.slice p l.length k)) (hi:i<l.length) :
  Calls Tryz.prog 219 #[.slice p l.length k,.int .i64 i,.int .i64 (i+1:Nat)] w fun e w' => e = .returned (.slice p (l.length - 1) k)∧Ow w' base 3 1 intC (l.eraseIdx i) (.slice p (l.length - 1) k)∧Below base w w' := by
 obtain ⟨hlen,⟨h1,h2⟩ | ⟨g,cap,cur,h1,hb,hg,hl,hm,hs,ht⟩⟩:=ho
 ·omega
 ·cases h1
  have hcell:∀ j,j<l.length→cur[j]? = some (.int .i64 l.toArray[j]!):=by
   intro j hj
   have h3:cur.toList[j]? = some (.int .i64 l[j]):=by
    have h4:(cur.toList.take (l.length * 1))[j]? = cur.toList[j]? := List.getElem?_take_of_lt (by omega)
    rw [← h4,ht,flat_intCV]
    simp [hj]
   rw [← Array.getElem?_toList,h3]
   simp [hj]
  have hH:Go.Sort.Holds (Value.int .i64) w g 0 l.toArray:=by
   intro j hj
   have hj' : j<l.length:=by simpa using hj
   refine ⟨?_,by simp [World.frozen?,hg]⟩
   simp only [World.cell?,hg,Nat.zero_add]
   simpa using hcell j hj'
  refine (Go.Proofs.Any.slices_Delete_int lineDelV g 0 k i (i+1) l w hH hl hm (by omega) (by omega)).mono ?_
  rintro e w' ⟨rfl,q,rfl⟩
  have hsz:(l.take i++l.drop (i+1)++List.replicate (i+1 - i) (0:Int)).toArray.size=l.length:=by simp;omega
  have her:l.take i++l.drop (i+1)=l.eraseIdx i:=(List.eraseIdx_eq_take_drop_succ l i).symm
  have hel:(l.eraseIdx i).length=l.length - 1:=List.length_eraseIdx_of_lt hi
  rw [her] at hsz ⊢
  obtain ⟨D,hD⟩:∃ D,(l.eraseIdx i++List.replicate (i+1 - i) (0:Int)).toArray=D:=⟨_,rfl⟩
  rw [hD] at hsz ⊢
  have hDl:D.toList.take (l.length - 1)=l.eraseIdx i:=by rw [← hD,← hel];simp
  have hheap:(Go.Sort.putRow (Value.int .i64) (Go.Sort.ahead w q) g 0 D).heap[g]? = some (.cells (Go.Sort.putCells (Value.int .i64) 0 D cur) 3 (0,0)):=by
   simp [Go.Sort.putRow,Go.Sort.mapBlock,Go.Sort.ahead,Array.getElem?_modify,hg,Go.Sort.onCells]
  refine ⟨by rw [show l.length - (i+1 - i)=l.length - 1 by omega],⟨by rw [flat_len intEnc,hel],.inr ⟨g,k,_,by rw [hel],hb,hheap,by omega,hm,by simpa [Go.Sort.putCells] using hs,?_⟩⟩,?_⟩
  ·apply List.ext_getElem?
   intro j
   rw [List.getElem?_take,flat_intCV,hel,← hDl]
   split
   ·rename_i hj
    have hjD:j<D.size:=by omega
    have hjc:j<cur.size:=by omega
    have h5:(D.toList.take (l.length - 1))[j]? = some D[j]:=by rw [List.getElem?_take_of_lt (by omega)];simp [hjD]
    rw [List.getElem?_map,h5]
    simp [Go.Sort.putCells,hjD,hjc]
   ·rename_i hj
    rw [List.getElem?_eq_none (by simp;omega)]
  ·refine ⟨rfl,rfl,rfl,by simp [Go.Sort.ahead],fun j hj=>?_⟩
   simp [Go.Sort.putRow,Go.Sort.mapBlock,Go.Sort.ahead,Array.getElem?_modify]
   intro e;omega
def RetLOV (w:World) (r:List Int) (c:Int) (e:Ending) (w' : World):Prop :=
 ∃ (p:Option Addr) (k:Nat),e = .returned (.tuple #[.slice p r.length k,.int .i64 c])∧Ow w' w.heap.size 3 1 intC r (.slice p r.length k)∧Kept w w'
theorem lv_negV {l:List Int} {i:Int} (h:plI l i<0):lvE l i=40∧lvL l i=l:=by simp [lvE,lvL,h]
theorem lv_posV {l:List Int} {i:Int} (h:¬ plI l i<0):∃ n:Nat,plI l i=n∧n<l.length∧lvE l i=0∧lvL l i=l.eraseIdx n:=by
 have h1:=pl_ge (l:=l) (i:=i)
 exact ⟨(plI l i).toNat,by omega,by omega,by simp [lvE,h],by simp [lvL,h]⟩
theorem lplace_v (l:List Int) (i:Int) (p:Option Addr) (k:Nat) (w:World) (hl:Sl w 1 intC l (.slice p l.length k)):Calls Tryz.prog 217 #[.slice p l.length k,.int .i64 i] w fun e w' => e = .returned (.int .i64 (plI l i))∧Kept w w' := by
 obtain ⟨_,_,e,h1,h2,h3,h4⟩:=hl.is
 cases e
 refine ((ac_lplace (l:=l) (i:=i) (by omega)) (fun _=>False) w _ (fun g h=>h.elim) (cells_at.2 ⟨_,_,rfl,rp_rowI.2 ⟨p,k,rfl,(Sl.loc hl).mono fun _ _ h=>h⟩,_,_,rfl,rp_int.2 rfl,rfl⟩)).mono ?_
 rintro e w' ⟨c,rfl,hr,hk⟩
 rw [rp_int] at hr
 exact ⟨by rw [hr],hk⟩
set_option maxHeartbeats 2000000 in
theorem lleave_v (l:List Int) (i:Int) (p:Option Addr) (k:Nat) (w:World) (hl:Sl w 1 intC l (.slice p l.length k)) (hm:l.length≤999999) :
  Calls Tryz.prog 202 #[.slice p l.length k,.int .i64 i] w (RetLOV w (lvL l i) (lvE l i)):=by
 have H:=Lib.hid hl
 clear hl
 by_cases hn:plI l i<0
 ·obtain ⟨e1,e2⟩:=lv_negV hn
  rw [e1,e2]
  clear e1 e2
  go_enter Tryz.func202,Tryz.ntmps202
  go_wp2_with fail
  refine (lplace_v l i p k _ (H.out.kept (by repeat' (first | (with_reducible exact Below.refl _ _) | (with_reducible assumption) | (with_reducible refine kept_alloc ?_ _) | (with_reducible refine kept_drewN ?_ _) | (with_reducible refine Below.drew ?_) | (with_reducible refine Below.setCell ?_ (by first | omega | (simp;omega) | (simp;done)) _) | (refine kept_trans ?_ (by with_reducible assumption)))))).mono ?_
  rintro e w1 ⟨rfl,hg1⟩
  go_wp2_with fail
  refine (lkept_v l p k _ (H.out.kept (by repeat' (first | (with_reducible exact Below.refl _ _) | (with_reducible assumption) | (with_reducible refine kept_alloc ?_ _) | (with_reducible refine kept_drewN ?_ _) | (with_reducible refine Below.drew ?_) | (with_reducible refine Below.setCell ?_ (by first | omega | (simp;omega) | (simp;done)) _) | (refine kept_trans ?_ (by with_reducible assumption))))) (by omega)).mono ?_
  rintro e w3 ⟨p3,k3,rfl,hO3,hg3⟩
  have hS3:=Ow.monoV hO3 hg1.size
  clear hO3
  go_wp2
  go_ret2
  exact ⟨p3,k3,rfl,hS3,by repeat' (first | (with_reducible exact Below.refl _ _) | (with_reducible assumption) | (with_reducible refine kept_alloc ?_ _) | (with_reducible refine kept_drewN ?_ _) | (with_reducible refine Below.drew ?_) | (with_reducible refine Below.setCell ?_ (by first | omega | (simp;omega) | (simp;done)) _) | (refine kept_trans ?_ (by with_reducible assumption)))⟩
 ·obtain ⟨n,h1,h2,e1,e2⟩:=lv_posV hn
  rw [e1,e2]
  have HP:=Lib.hid h1
  have hel:(l.eraseIdx n).length=l.length - 1:=List.length_eraseIdx_of_lt h2
  have HE:=Lib.hid hel
  clear e1 e2 hn h1 hel
  have i1:¬ (n:Int)<0:=by omega
  have i2:IntKind.i64.wrap ((n:Int)+1)=(n:Int)+1:=IntWalk.i64_in _ (by omega)
  go_enter Tryz.func202,Tryz.ntmps202
  go_wp2_with fail
  refine (lplace_v l i p k _ (H.out.kept (by repeat' (first | (with_reducible exact Below.refl _ _) | (with_reducible assumption) | (with_reducible refine kept_alloc ?_ _) | (with_reducible refine kept_drewN ?_ _) | (with_reducible refine Below.drew ?_) | (with_reducible refine Below.setCell ?_ (by first | omega | (simp;omega) | (simp;done)) _) | (refine kept_trans ?_ (by with_reducible assumption)))))).mono ?_
  rintro e w1 ⟨rfl,hg1⟩
  rw [HP.out]
  go_wp2_with fail
  refine (lkept_v l p k _ (H.out.kept (by repeat' (first | (with_reducible exact Below.refl _ _) | (with_reducible assumption) | (with_reducible refine kept_alloc ?_ _) | (with_reducible refine kept_drewN ?_ _) | (with_reducible refine Below.drew ?_) | (with_reducible refine Below.setCell ?_ (by first | omega | (simp;omega) | (simp;done)) _) | (refine kept_trans ?_ (by with_reducible assumption))))) (by omega)).mono ?_
  rintro e w3 ⟨p3,k3,rfl,hO3,hg3⟩
  have HO:=Lib.hid (delete_v l n p3 k3 w1.heap.size w3 hO3 h2)
  clear hO3
  go_wp2_with fail
  refine HO.out.mono ?_
  rintro e w4 ⟨rfl,hO4,hg4⟩
  have hS4:=Ow.monoV (HE.out.symm ▸ hO4:Ow w4 w1.heap.size 3 1 intC (l.eraseIdx n) (.slice p3 (l.eraseIdx n).length k3)) hg1.size
  have hB4:Below w.heap.size w w4:=hg1.trans ((hg3.trans hg4).mono hg1.size)
  clear hO4 hg1 hg3 hg4
  go_wp2
  go_ret2
  exact ⟨p3,k3,by rw [HE.out];rfl,hS4,hB4⟩
theorem ac_pleave (l:List Int) (i:Int) (hm:l.length≤999999):AC Tryz.prog 202 [rowI l,.int .i64 i] (.tuple #[rowI (lvL l i),.int .i64 (lvE l i)]):=by
 intro O W vs hl hat
 obtain ⟨ys,rfl,_,_,rfl,h0,_,_,rfl,h1,rfl⟩:=args_of hat
 obtain ⟨p,k,rfl,hs⟩:=rp_rowI.1 h0
 rw [rp_int] at h1
 subst h1
 refine (lleave_v l i p k W hs.s hm).mono ?_
 rintro e W' ⟨p',k',rfl,ho,hk⟩
 exact ⟨_,rfl,rp_tupL.2 ⟨_,rfl,_,_,rfl,rp_rowI.2 ⟨p',k',rfl,(Ow.loc intEnc ho).mono fun g hg hO=>by have:=hl g hO;omega⟩,_,_,rfl,rp_int.2 rfl,rfl⟩,hk⟩
end
section
open Go.ChangeShapes Go.WideShapes Go.ChangeAt Go.RowKit
structure Wo3 where
 hd:Int
 tl:Int
 md:Int
instance enEq:DecidableEq En:=fun a b=>decidable_of_iff (a.th=b.th∧a.ki=b.ki∧a.va=b.va∧a.re=b.re∧a.go=b.go) (by cases a;cases b;simp)
set_option maxHeartbeats 1000000 in
theorem en_equal (a b:En) (w:World):(Op.equal 78 (.agg #[.int .i64 a.th,.int .i64 a.ki,.int .i64 a.va,.int .i64 a.re,.int .i64 a.go]) (.agg #[.int .i64 b.th,.int .i64 b.ki,.int .i64 b.va,.int .i64 b.re,.int .i64 b.go])).run Tryz.prog w = .ok (decide (a=b)) w:=by
 have hu:=Tryz.underlying78
 have h3:=Tryz.underlying3
 have h4:=Tryz.underlying4
 have hp:Tryz.prog.stoodInHeld 78=false:=by kernel_rfl
 have hc:Tryz.prog.info? 3=_:=rfl
 have hd:Tryz.prog.info? 4=_:=rfl
 have e:decide (a=b)=(a.th==b.th&&((a.ki==b.ki&&((a.va==b.va&&((a.re==b.re&&(a.go==b.go)))))))):=by
  rw [Bool.eq_iff_iff];cases a;cases b;simp [and_assoc]
 rw [e]
 unfold Op.equal Op.maxDepth
 rw [run_equalIn_struct w 9999 _ _ _ (by unfold Program.fieldsOf;rw [hu]) hp]
 unfold Program.fieldsOf
 rw [hu]
 cases c0:(a.th==b.th)
 ·simp [Op.eqFields,part,isAgg,run_underlying h3,run_underlying h4,run_equalIn_int _ _ _ _ _ _ _ h3,run_equalIn_bool _ _ _ _ _ h4,c0]
 cases c1:(a.ki==b.ki)
 ·simp [Op.eqFields,part,isAgg,run_underlying h3,run_underlying h4,run_equalIn_int _ _ _ _ _ _ _ h3,run_equalIn_bool _ _ _ _ _ h4,c0,c1]
 cases c2:(a.va==b.va)
 ·simp [Op.eqFields,part,isAgg,run_underlying h3,run_underlying h4,run_equalIn_int _ _ _ _ _ _ _ h3,run_equalIn_bool _ _ _ _ _ h4,c0,c1,c2]
 cases c3:(a.re==b.re)
 ·simp [Op.eqFields,part,isAgg,run_underlying h3,run_underlying h4,run_equalIn_int _ _ _ _ _ _ _ h3,run_equalIn_bool _ _ _ _ _ h4,c0,c1,c2,c3]
 cases c4:(a.go==b.go)
 ·simp [Op.eqFields,part,isAgg,run_underlying h3,run_underlying h4,run_equalIn_int _ _ _ _ _ _ _ h3,run_equalIn_bool _ _ _ _ _ h4,c0,c1,c2,c3,c4]
 simp [Op.eqFields,part,isAgg,run_underlying h3,run_underlying h4,run_equalIn_int _ _ _ _ _ _ _ h3,run_equalIn_bool _ _ _ _ _ h4,c0,c1,c2,c3,c4]
theorem en_neq (a b:En) (w:World):(binOp .neq 78 (.agg #[.int .i64 a.th,.int .i64 a.ki,.int .i64 a.va,.int .i64 a.re,.int .i64 a.go]) (.agg #[.int .i64 b.th,.int .i64 b.ki,.int .i64 b.va,.int .i64 b.re,.int .i64 b.go])).run Tryz.prog w = .ok (.bool (!decide (a=b))) w:=by
 have h:=en_equal a b w
 have hu:=Tryz.underlying78
 simp [binOp,h,run_underlying hu,Result.andThen]
instance cfEq:DecidableEq Cf:=fun a b=>decidable_of_iff (a.lg=b.lg∧a.th=b.th∧a.po=b.po∧a.wt=b.wt∧a.sp=b.sp∧a.yi=b.yi∧a.si=b.si) (by cases a;cases b;simp)
set_option maxHeartbeats 1000000 in
theorem cf_equal (a b:Cf) (w:World):(Op.equal 23 (.agg #[.int .i64 a.lg,.int .i64 a.th,.int .i64 a.po,.int .i64 a.wt,.int .i64 a.sp,.int .i64 a.yi,.bool a.si]) (.agg #[.int .i64 b.lg,.int .i64 b.th,.int .i64 b.po,.int .i64 b.wt,.int .i64 b.sp,.int .i64 b.yi,.bool b.si])).run Tryz.prog w = .ok (decide (a=b)) w:=by
 have hu:=Tryz.underlying23
 have h3:=Tryz.underlying3
 have h4:=Tryz.underlying4
 have hp:Tryz.prog.stoodInHeld 23=false:=by kernel_rfl
 have hc:Tryz.prog.info? 3=_:=rfl
 have hd:Tryz.prog.info? 4=_:=rfl
 have e:decide (a=b)=(a.lg==b.lg&&((a.th==b.th&&((a.po==b.po&&((a.wt==b.wt&&((a.sp==b.sp&&((a.yi==b.yi&&(a.si==b.si)))))))))))):=by
  rw [Bool.eq_iff_iff];cases a;cases b;simp [and_assoc]
 rw [e]
 unfold Op.equal Op.maxDepth
 rw [run_equalIn_struct w 9999 _ _ _ (by unfold Program.fieldsOf;rw [hu]) hp]
 unfold Program.fieldsOf
 rw [hu]
 cases c0:(a.lg==b.lg)
 ·simp [Op.eqFields,part,isAgg,run_underlying h3,run_underlying h4,run_equalIn_int _ _ _ _ _ _ _ h3,run_equalIn_bool _ _ _ _ _ h4,c0]
 cases c1:(a.th==b.th)
 ·simp [Op.eqFields,part,isAgg,run_underlying h3,run_underlying h4,run_equalIn_int _ _ _ _ _ _ _ h3,run_equalIn_bool _ _ _ _ _ h4,c0,c1]
 cases c2:(a.po==b.po)
 ·simp [Op.eqFields,part,isAgg,run_underlying h3,run_underlying h4,run_equalIn_int _ _ _ _ _ _ _ h3,run_equalIn_bool _ _ _ _ _ h4,c0,c1,c2]
 cases c3:(a.wt==b.wt)
 ·simp [Op.eqFields,part,isAgg,run_underlying h3,run_underlying h4,run_equalIn_int _ _ _ _ _ _ _ h3,run_equalIn_bool _ _ _ _ _ h4,c0,c1,c2,c3]
 cases c4:(a.sp==b.sp)
 ·simp [Op.eqFields,part,isAgg,run_underlying h3,run_underlying h4,run_equalIn_int _ _ _ _ _ _ _ h3,run_equalIn_bool _ _ _ _ _ h4,c0,c1,c2,c3,c4]
 cases c5:(a.yi==b.yi)
 ·simp [Op.eqFields,part,isAgg,run_underlying h3,run_underlying h4,run_equalIn_int _ _ _ _ _ _ _ h3,run_equalIn_bool _ _ _ _ _ h4,c0,c1,c2,c3,c4,c5]
 cases c6:(a.si==b.si)
 ·simp [Op.eqFields,part,isAgg,run_underlying h3,run_underlying h4,run_equalIn_int _ _ _ _ _ _ _ h3,run_equalIn_bool _ _ _ _ _ h4,c0,c1,c2,c3,c4,c5,c6]
 simp [Op.eqFields,part,isAgg,run_underlying h3,run_underlying h4,run_equalIn_int _ _ _ _ _ _ _ h3,run_equalIn_bool _ _ _ _ _ h4,c0,c1,c2,c3,c4,c5,c6]
theorem cf_eql (a b:Cf) (w:World):(binOp .eql 23 (.agg #[.int .i64 a.lg,.int .i64 a.th,.int .i64 a.po,.int .i64 a.wt,.int .i64 a.sp,.int .i64 a.yi,.bool a.si]) (.agg #[.int .i64 b.lg,.int .i64 b.th,.int .i64 b.po,.int .i64 b.wt,.int .i64 b.sp,.int .i64 b.yi,.bool b.si])).run Tryz.prog w = .ok (.bool (decide (a=b))) w:=by
 have h:=cf_equal a b w
 have hu:=Tryz.underlying23
 simp [binOp,h,run_underlying hu,Result.andThen]
instance woEq:DecidableEq Wo3:=fun a b=>decidable_of_iff (a.hd=b.hd∧a.tl=b.tl∧a.md=b.md) (by cases a;cases b;simp)
set_option maxHeartbeats 1000000 in
theorem wo_equal (a b:Wo3) (w:World):(Op.equal 25 (.agg #[.int .i64 a.hd,.int .i64 a.tl,.int .i64 a.md]) (.agg #[.int .i64 b.hd,.int .i64 b.tl,.int .i64 b.md])).run Tryz.prog w = .ok (decide (a=b)) w:=by
 have hu:=Tryz.underlying25
 have h3:=Tryz.underlying3
 have h4:=Tryz.underlying4
 have hp:Tryz.prog.stoodInHeld 25=false:=by kernel_rfl
 have hc:Tryz.prog.info? 3=_:=rfl
 have hd:Tryz.prog.info? 4=_:=rfl
 have e:decide (a=b)=(a.hd==b.hd&&((a.tl==b.tl&&(a.md==b.md)))):=by
  rw [Bool.eq_iff_iff];cases a;cases b;simp [and_assoc]
 rw [e]
 unfold Op.equal Op.maxDepth
 rw [run_equalIn_struct w 9999 _ _ _ (by unfold Program.fieldsOf;rw [hu]) hp]
 unfold Program.fieldsOf
 rw [hu]
 cases c0:(a.hd==b.hd)
 ·simp [Op.eqFields,part,isAgg,run_underlying h3,run_underlying h4,run_equalIn_int _ _ _ _ _ _ _ h3,run_equalIn_bool _ _ _ _ _ h4,c0]
 cases c1:(a.tl==b.tl)
 ·simp [Op.eqFields,part,isAgg,run_underlying h3,run_underlying h4,run_equalIn_int _ _ _ _ _ _ _ h3,run_equalIn_bool _ _ _ _ _ h4,c0,c1]
 cases c2:(a.md==b.md)
 ·simp [Op.eqFields,part,isAgg,run_underlying h3,run_underlying h4,run_equalIn_int _ _ _ _ _ _ _ h3,run_equalIn_bool _ _ _ _ _ h4,c0,c1,c2]
 simp [Op.eqFields,part,isAgg,run_underlying h3,run_underlying h4,run_equalIn_int _ _ _ _ _ _ _ h3,run_equalIn_bool _ _ _ _ _ h4,c0,c1,c2]
theorem wo_neq (a b:Wo3) (w:World):(binOp .neq 25 (.agg #[.int .i64 a.hd,.int .i64 a.tl,.int .i64 a.md]) (.agg #[.int .i64 b.hd,.int .i64 b.tl,.int .i64 b.md])).run Tryz.prog w = .ok (.bool (!decide (a=b))) w:=by
 have h:=wo_equal a b w
 have hu:=Tryz.underlying25
 simp [binOp,h,run_underlying hu,Result.andThen]
theorem wo_eql (a b:Wo3) (w:World):(binOp .eql 25 (.agg #[.int .i64 a.hd,.int .i64 a.tl,.int .i64 a.md]) (.agg #[.int .i64 b.hd,.int .i64 b.tl,.int .i64 b.md])).run Tryz.prog w = .ok (.bool (decide (a=b))) w:=by
 have h:=wo_equal a b w
 have hu:=Tryz.underlying25
 simp [binOp,h,run_underlying hu,Result.andThen]
end
section
open Go.RowKit
section
variable {h t m r:Int}
theorem ac_poschk {b:Bool} (hb:checkB h t m r=b) (hh:In64 h) (ht:In64 t) (hm:In64 m) (hr:In64 r):AC Tryz.prog 62 [wdT h t m,.int .i64 r] (.bool b):=by
 intro O W vs hl hat ;obtain ⟨ys,rfl,_,_,rfl,h0,_,_,rfl,h1,rfl⟩:=args_of hat
 rw [rp_wdT] at h0
 rw [rp_int] at h1
 subst h0 h1
 refine (check_any h t m r hh ht hm hr W).mono ?_
 rintro e W' ⟨rfl,hk⟩
 exact ⟨_,rfl,rp_bool.2 (by rw [hb]),hk⟩
theorem ac_posfull {b:Bool} (hb:fullB h t r=b) (hh:In64 h) (ht:In64 t):AC Tryz.prog 290 [wdT h t m,.int .i64 r] (.bool b):=by
 intro O W vs hl hat ;obtain ⟨ys,rfl,_,_,rfl,h0,_,_,rfl,h1,rfl⟩:=args_of hat
 rw [rp_wdT] at h0
 rw [rp_int] at h1
 subst h0 h1
 refine (full_any h t m r hh ht W).mono ?_
 rintro e W' ⟨rfl,hk⟩
 exact ⟨_,rfl,rp_bool.2 (by rw [hb]),hk⟩
theorem ew_accept (hh:In64 h) (ht:In64 t) (hm:In64 m) (hr:In64 r):AC Tryz.prog 261 [wdT h t m,.int .i64 r] (.tuple #[wdT h (acT h t m r) m,.int .i64 (acP h t m r),.int .i64 (acR h t m r)]):=by
 have no:acR h t m r≠1→acT h t m r=t∧acP h t m r=0:=fun e=>by simp [acT,acP,e]
 by_cases h2:m=2
 ·have e:acR h t m r=7:=by simp [acR,haltB,h2]
  rw [(no (by omega)).1,(no (by omega)).2,e]
  exact ac_path mixed (ext:=[62,290]) (fuel:=9) (n:=6) (orc:=[.bool true]) (an (show (m==2)=true by simp [h2]) trivial) (by kernel_rfl)
 ·cases hc:checkB h t m r
  ·have e:acR h t m r=7:=by simp [acR,haltB,hc]
   rw [(no (by omega)).1,(no (by omega)).2,e]
   exact ac_path mixed (ext:=[62,290]) (fuel:=9) (n:=6) (orc:=[.bool false,vD false]) (an (show (m==2)=false by simp [h2])<|an (ac_poschk hc hh ht hm hr) trivial) (by kernel_rfl)
  ·have hH:haltB h t m r=false:=by simp [haltB,h2,hc]
   by_cases h1:m=1
   ·have e:acR h t m r=6:=by unfold acR;rw [hH];simp [h1]
    rw [(no (by omega)).1,(no (by omega)).2,e]
    exact ac_path mixed (ext:=[62,290]) (fuel:=9) (n:=6) (orc:=[.bool false,vD true,.bool true]) (an (show (m==2)=false by simp [h2])<|an (ac_poschk hc hh ht hm hr)<|an (show (m==1)=true by simp [h1]) trivial) (by kernel_rfl)
   ·cases hf:fullB h t r
    ·by_cases h3:t=1099511627776
     ·have e:acR h t m r=2:=by unfold acR;rw [hH];simp [h1,h3]
      rw [(no (by omega)).1,(no (by omega)).2,e]
      exact ac_path mixed (ext:=[62,290]) (fuel:=9) (n:=6) (orc:=[.bool false,vD true,.bool false,vD false,.bool true]) (an (show (m==2)=false by simp [h2])<|an (ac_poschk hc hh ht hm hr)<|an (show (m==1)=false by simp [h1])<|an (ac_posfull (m:=m) hf hh ht)<|an (show (t==1099511627776)=true by simp [h3]) trivial) (by kernel_rfl)
     ·have e:acR h t m r=1:=by unfold acR;rw [hH,hf];simp [h1,h3]
      rw [show acT h t m r=t+1 by simp [acT,e],show acP h t m r=t by simp [acP,e],e]
      have hb:t≤1099511627776:=by simp only [checkB,Bool.and_eq_true,decide_eq_true_eq] at hc;omega
      exact ac_path mixed (ext:=[62,290]) (fuel:=9) (n:=6) (orc:=[.bool false,vD true,.bool false,vD false,.bool false]) (an (show (m==2)=false by simp [h2])<|an (ac_poschk hc hh ht hm hr)<|an (show (m==1)=false by simp [h1])<|an (ac_posfull (m:=m) hf hh ht)<|an (show (t==1099511627776)=false by simp [h3])<|an (show In64 (t+1) by have:=ht;simp only [In64] at this ⊢;omega) trivial) (by kernel_rfl)
    ·have e:acR h t m r=2:=by unfold acR;rw [hH,hf];simp [h1]
     rw [(no (by omega)).1,(no (by omega)).2,e]
     exact ac_path mixed (ext:=[62,290]) (fuel:=9) (n:=6) (orc:=[.bool false,vD true,.bool false,vD true]) (an (show (m==2)=false by simp [h2])<|an (ac_poschk hc hh ht hm hr)<|an (show (m==1)=false by simp [h1])<|an (ac_posfull (m:=m) hf hh ht) trivial) (by kernel_rfl)
theorem ac_poslen (hh:In64 h) (ht:In64 t):AC Tryz.prog 117 [wdT h t m] (.int .i64 (lenI h t)):=by
 intro O W vs hl hat
 obtain ⟨ys,rfl,_,_,rfl,h0,rfl⟩:=args_of hat
 rw [rp_wdT] at h0
 subst h0
 refine (len_any h t m hh ht W).mono ?_
 rintro e W' ⟨rfl,hk⟩
 exact ⟨_,rfl,rp_int.2 rfl,hk⟩
theorem ew_take (hh:In64 h) (ht:In64 t) (hm:In64 m) (hr:In64 r):AC Tryz.prog 275 [wdT h t m,.int .i64 r] (.tuple #[wdT (tkH h t m r) t m,.int .i64 (tkP h t m r),.int .i64 (tkR h t m r)]):=by
 by_cases h2:m=2
 ·have e:tkR h t m r=7:=by simp [tkR,haltB,h2]
  rw [(tk_n (by omega)).1,(tk_n (by omega)).2,e]
  exact ac_path mixed (ext:=[62,117]) (fuel:=9) (n:=6) (orc:=[.bool true]) (an (show (m==2)=true by simp [h2]) trivial) (by kernel_rfl)
 ·cases hc:checkB h t m r
  ·have e:tkR h t m r=7:=by simp [tkR,haltB,hc]
   rw [(tk_n (by omega)).1,(tk_n (by omega)).2,e]
   exact ac_path mixed (ext:=[62,117]) (fuel:=9) (n:=6) (orc:=[.bool false,vD false]) (an (show (m==2)=false by simp [h2])<|an (ac_poschk hc hh ht hm hr) trivial) (by kernel_rfl)
  ·have hH:haltB h t m r=false:=by simp [haltB,h2,hc]
   by_cases hs:0<lenI h t
   ·have e:tkR h t m r=1:=by unfold tkR;rw [hH];simp [someB,hs]
    rw [(tk_y e).1,(tk_y e).2,e]
    have hb:h≤t:=by simp only [checkB,Bool.and_eq_true,decide_eq_true_eq] at hc;omega
    have hb2:t≤1099511627776:=by simp only [checkB,Bool.and_eq_true,decide_eq_true_eq] at hc;omega
    exact ac_path mixed (ext:=[62,117]) (fuel:=9) (n:=6) (orc:=[.bool false,vD true,.int .i64 (lenI h t),.bool true]) (an (show (m==2)=false by simp [h2])<|an (ac_poschk hc hh ht hm hr)<|an (ac_poslen (m:=m) hh ht)<|an (show decide (0<lenI h t)=true by simp [hs])<|an (show In64 (h+1) by have:=hh;simp only [In64] at this ⊢;omega) trivial) (by kernel_rfl)
   ·by_cases h1:m=1
    ·have e:tkR h t m r=6:=by unfold tkR;rw [hH];simp [someB,hs,h1]
     rw [(tk_n (by omega)).1,(tk_n (by omega)).2,e]
     exact ac_path mixed (ext:=[62,117]) (fuel:=9) (n:=6) (orc:=[.bool false,vD true,.int .i64 (lenI h t),.bool false,.bool true]) (an (show (m==2)=false by simp [h2])<|an (ac_poschk hc hh ht hm hr)<|an (ac_poslen (m:=m) hh ht)<|an (show decide (0<lenI h t)=false by simp [hs])<|an (show (m==1)=true by simp [h1]) trivial) (by kernel_rfl)
    ·have e:tkR h t m r=4:=by unfold tkR;rw [hH];simp [someB,hs,h1]
     rw [(tk_n (by omega)).1,(tk_n (by omega)).2,e]
     exact ac_path mixed (ext:=[62,117]) (fuel:=9) (n:=6) (orc:=[.bool false,vD true,.int .i64 (lenI h t),.bool false,.bool false]) (an (show (m==2)=false by simp [h2])<|an (ac_poschk hc hh ht hm hr)<|an (ac_poslen (m:=m) hh ht)<|an (show decide (0<lenI h t)=false by simp [hs])<|an (show (m==1)=false by simp [h1]) trivial) (by kernel_rfl)
theorem ew_sees (hh:In64 h) (ht:In64 t) (hm:In64 m) (hr:In64 r):AC Tryz.prog 281 [wdT h t m,.int .i64 r] (.tuple #[.int .i64 (acR h t m r),.int .i64 (tkR h t m r)]):=by
 exact ac_path mixed (ext:=[261,275]) (fuel:=9) (n:=6) (orc:=[.tuple #[wdT h (acT h t m r) m,.int .i64 (acP h t m r),.int .i64 (acR h t m r)],.tuple #[wdT (tkH h t m r) t m,.int .i64 (tkP h t m r),.int .i64 (tkR h t m r)]]) (an (ew_accept hh ht hm hr)<|an (ew_take hh ht hm hr) trivial) (by kernel_rfl)
theorem ask_wn {a b c d e f:Int} {q:Bool} (hq:(!decide ((⟨a,b,c⟩:Wo3)=⟨d,e,f⟩))=q) (x y:Operand):AskP Tryz.prog (.binOp .neq 25 x y 25) [wdT a b c,wdT d e f] (.bool q) :=
 ask_bin (fun x y W=>(guard_agg (by kernel_rfl) x y _ _ W).1) (fun W=>by rw [← hq];exact wo_neq ⟨a,b,c⟩ ⟨d,e,f⟩ W) x y
theorem ew_evict {x:Int} (hh:In64 h) (ht:In64 t) (hm:In64 m) (hr:In64 r):AC Tryz.prog 267 [wdT h t m,.int .i64 r,.int .i64 x] (.tuple #[wdT (evH h t m r x) t m,.bool (evwB h t m r x)]):=by
 have no:evwB h t m r x=false→evH h t m r x=h:=fun e=>by simp [evH,e]
 by_cases hx:h=x∧m=0
 ·have hn:(!decide ((⟨h,t,m⟩:Wo3)=⟨x,t,0⟩))=false:=by simp [hx.1,hx.2]
  cases hc:checkB h t m r
  ·have e:evwB h t m r x=false:=by simp [evwB,hc]
   rw [no e,e]
   exact ac_path mixed (ext:=[62,290,117]) (fuel:=9) (n:=6) (orc:=[.bool false,.nilFunc,vD false]) (an (ask_wn hn (.tmp 13) (.tmp 14))<|an (ac_poschk hc hh ht hm hr) trivial) (by kernel_rfl)
  ·cases hf:fullB h t r
   ·have e:evwB h t m r x=false:=by simp [evwB,hf]
    rw [no e,e]
    exact ac_path mixed (ext:=[62,290,117]) (fuel:=9) (n:=6) (orc:=[.bool false,.nilFunc,vD true,vD false]) (an (ask_wn hn (.tmp 13) (.tmp 14))<|an (ac_poschk hc hh ht hm hr)<|an (ac_posfull (m:=m) hf hh ht) trivial) (by kernel_rfl)
   ·by_cases hs:0<lenI h t
    ·have e:evwB h t m r x=true:=by
      unfold evwB someB
      rw [hc,hf]
      simp [hx.1,hx.2]
      rw [← hx.1];exact hs
     rw [show evH h t m r x=h+1 by simp [evH,e],e]
     have hb:h≤t∧t≤1099511627776:=by simp only [checkB,Bool.and_eq_true,decide_eq_true_eq] at hc;omega
     exact ac_path mixed (ext:=[62,290,117]) (fuel:=9) (n:=6) (orc:=[.bool false,.nilFunc,vD true,vD true,.int .i64 (lenI h t),.bool false]) (an (ask_wn hn (.tmp 13) (.tmp 14))<|an (ac_poschk hc hh ht hm hr)<|an (ac_posfull (m:=m) hf hh ht)<|an (ac_poslen (m:=m) hh ht)<|an (show (!decide (0<lenI h t))=false by simp [hs])<|an (show In64 (h+1) by have:=hh;simp only [In64] at this ⊢;omega) trivial) (by kernel_rfl)
    ·have e:evwB h t m r x=false:=by simp [evwB,someB,hs]
     rw [no e,e]
     exact ac_path mixed (ext:=[62,290,117]) (fuel:=9) (n:=6) (orc:=[.bool false,.nilFunc,vD true,vD true,.int .i64 (lenI h t),.bool true]) (an (ask_wn hn (.tmp 13) (.tmp 14))<|an (ac_poschk hc hh ht hm hr)<|an (ac_posfull (m:=m) hf hh ht)<|an (ac_poslen (m:=m) hh ht)<|an (show (!decide (0<lenI h t))=true by simp [hs]) trivial) (by kernel_rfl)
 ·have e:evwB h t m r x=false:=by
   cases he:evwB h t m r x
   ·rfl
   ·simp only [evwB,Bool.and_eq_true,beq_iff_eq] at he;exact absurd ⟨he.1.1.1.1,he.1.1.1.2⟩ hx
  rw [no e,e]
  exact ac_path mixed (ext:=[62,290,117]) (fuel:=9) (n:=6) (orc:=[.bool true,.nilFunc]) (an (ask_wn (show (!decide ((⟨h,t,m⟩:Wo3)=⟨x,t,0⟩))=true by simp;omega) (.tmp 13) (.tmp 14)) trivial) (by kernel_rfl)
theorem ac_rposchk {b:Bool} (hb:checkB h t m r=b) (hh:In64 h) (ht:In64 t) (hm:In64 m) (hr:In64 r):AC Tryz.prog 82 [wdT h t m,.int .i64 r] (.bool b):=by
 intro O W vs hl hat ;obtain ⟨ys,rfl,_,_,rfl,h0,_,_,rfl,h1,rfl⟩:=args_of hat
 rw [rp_wdT] at h0
 rw [rp_int] at h1
 subst h0 h1
 refine (rcheck_any h t m r hh ht hm hr W).mono ?_
 rintro e W' ⟨rfl,hk⟩
 exact ⟨_,rfl,rp_bool.2 (by rw [← hb,check_ref hr]),hk⟩
theorem er_accept (hh:In64 h) (ht:In64 t) (hm:In64 m) (hr:In64 r):AC Tryz.prog 150 [wdT h t m,.int .i64 r] (.tuple #[wdT h (acT h t m r) m,.int .i64 (acP h t m r),.int .i64 (acR h t m r)]):=by
 have no:acR h t m r≠1→acT h t m r=t∧acP h t m r=0:=fun e=>by simp [acT,acP,e]
 cases hc:checkB h t m r
 ·have e:acR h t m r=7:=by simp [acR,haltB,hc]
  rw [(no (by omega)).1,(no (by omega)).2,e]
  exact ac_path mixed (ext:=[82]) (fuel:=9) (n:=6) (orc:=[vD false]) (an (ac_rposchk hc hh ht hm hr) trivial) (by kernel_rfl)
 ·have hb:=check_len hc
  by_cases h2:m=2
  ·have e:acR h t m r=7:=by simp [acR,haltB,h2]
   rw [(no (by omega)).1,(no (by omega)).2,e]
   exact ac_path mixed (ext:=[82]) (fuel:=9) (n:=6) (orc:=[vD true,.bool true]) (an (ac_rposchk hc hh ht hm hr)<|an (show (m==2)=true by simp [h2]) trivial) (by kernel_rfl)
  ·have hH:haltB h t m r=false:=by simp [haltB,h2,hc]
   by_cases h1:m=1
   ·have e:acR h t m r=6:=by unfold acR;rw [hH];simp [h1]
    rw [(no (by omega)).1,(no (by omega)).2,e]
    exact ac_path mixed (ext:=[82]) (fuel:=9) (n:=6) (orc:=[vD true,.bool false,.bool true]) (an (ac_rposchk hc hh ht hm hr)<|an (show (m==2)=false by simp [h2])<|an (show (m==1)=true by simp [h1]) trivial) (by kernel_rfl)
   ·have hi:In64 (t - h):=by simp only [In64];omega
    by_cases hf:r≤t - h
    ·have e:acR h t m r=2:=by unfold acR;rw [hH];simp [h1,fullB,hb.2.2.2.2.2.1,hf]
     rw [(no (by omega)).1,(no (by omega)).2,e]
     exact ac_path mixed (ext:=[82]) (fuel:=9) (n:=6) (orc:=[vD true,.bool false,.bool false,.bool true]) (an (ac_rposchk hc hh ht hm hr)<|an (show (m==2)=false by simp [h2])<|an (show (m==1)=false by simp [h1])<|an hi<|an (show decide (r≤t - h)=true by simp [hf]) trivial) (by kernel_rfl)
    ·by_cases h3:t=1099511627776
     ·have e:acR h t m r=2:=by unfold acR;rw [hH];simp [h1,h3]
      rw [(no (by omega)).1,(no (by omega)).2,e]
      exact ac_path mixed (ext:=[82]) (fuel:=9) (n:=6) (orc:=[vD true,.bool false,.bool false,.bool false,.bool true]) (an (ac_rposchk hc hh ht hm hr)<|an (show (m==2)=false by simp [h2])<|an (show (m==1)=false by simp [h1])<|an hi<|an (show decide (r≤t - h)=false by simp;omega)<|an (show (t==1099511627776)=true by simp [h3]) trivial) (by kernel_rfl)
     ·have e:acR h t m r=1:=by unfold acR;rw [hH];simp [h1,fullB,hb.2.2.2.2.2.1,hf,h3]
      rw [show acT h t m r=t+1 by simp [acT,e],show acP h t m r=t by simp [acP,e],e]
      exact ac_path mixed (ext:=[82]) (fuel:=9) (n:=6) (orc:=[vD true,.bool false,.bool false,.bool false,.bool false]) (an (ac_rposchk hc hh ht hm hr)<|an (show (m==2)=false by simp [h2])<|an (show (m==1)=false by simp [h1])<|an hi<|an (show decide (r≤t - h)=false by simp;omega)<|an (show (t==1099511627776)=false by simp [h3])<|an (show In64 (t+1) by simp only [In64];omega) trivial) (by kernel_rfl)
theorem er_evict {x:Int} (hh:In64 h) (ht:In64 t) (hm:In64 m) (hr:In64 r):AC Tryz.prog 156 [wdT h t m,.int .i64 r,.int .i64 x] (.tuple #[wdT (evH h t m r x) t m,.bool (evwB h t m r x)]):=by
 have no:evwB h t m r x=false→evH h t m r x=h:=fun e=>by simp [evH,e]
 cases hc:checkB h t m r
 ·have e:evwB h t m r x=false:=by simp [evwB,hc]
  rw [no e,e]
  exact ac_path mixed (ext:=[82]) (fuel:=9) (n:=6) (orc:=[vD false]) (an (ac_rposchk hc hh ht hm hr) trivial) (by kernel_rfl)
 ·have hb:=check_len hc
  have hi:In64 (t - h):=by simp only [In64];omega
  by_cases h0:m=0
  ·by_cases hx:h=x
   ·by_cases he:t=h
    ·have e:evwB h t m r x=false:=by unfold evwB someB;rw [hb.2.2.2.2.2.1];simp [he]
     rw [no e,e]
     exact ac_path mixed (ext:=[82]) (fuel:=9) (n:=6) (orc:=[vD true,.bool false,.bool false,.bool true]) (an (ac_rposchk hc hh ht hm hr)<|an (show (m != 0)=false by simp [h0])<|an (show (h != x)=false by simp [hx])<|an (show (t==h)=true by simp [he]) trivial) (by kernel_rfl)
    ·by_cases hf:t - h<r
     ·have e:evwB h t m r x=false:=by unfold evwB fullB;rw [hb.2.2.2.2.2.1];simp;omega
      rw [no e,e]
      exact ac_path mixed (ext:=[82]) (fuel:=9) (n:=6) (orc:=[vD true,.bool false,.bool false,.bool false,.bool true]) (an (ac_rposchk hc hh ht hm hr)<|an (show (m != 0)=false by simp [h0])<|an (show (h != x)=false by simp [hx])<|an (show (t==h)=false by simp [he])<|an hi<|an (show decide (t - h<r)=true by simp [hf]) trivial) (by kernel_rfl)
     ·have e:evwB h t m r x=true:=by
       unfold evwB fullB someB
       rw [hb.2.2.2.2.2.1,hc]
       simp [hx,h0]
       omega
      rw [show evH h t m r x=h+1 by simp [evH,e],e]
      have hg:∀ m' : Int,m' = 0→AC Tryz.prog 156 [wdT h t m',.int .i64 r,.int .i64 x] (.tuple #[wdT (h+1) t m',.bool true]):=fun m' hm' => by
       subst hm'
       subst h0
       exact ac_path mixed (ext:=[82]) (fuel:=9) (n:=6) (orc:=[vD true,.nilFunc,.bool false,.bool false,.bool false]) (an (ac_rposchk hc hh ht hm hr)<|an (show (h != x)=false by simp [hx])<|an (show (t==h)=false by simp [he])<|an hi<|an (show decide (t - h<r)=false by simp [hf])<|an (show In64 (h+1) by simp only [In64];omega) trivial) (by kernel_rfl)
      exact hg m h0
   ·have e:evwB h t m r x=false:=by simp [evwB,hx]
    rw [no e,e]
    exact ac_path mixed (ext:=[82]) (fuel:=9) (n:=6) (orc:=[vD true,.bool false,.bool true]) (an (ac_rposchk hc hh ht hm hr)<|an (show (m != 0)=false by simp [h0])<|an (show (h != x)=true by simp [hx]) trivial) (by kernel_rfl)
  ·have e:evwB h t m r x=false:=by simp [evwB,h0]
   rw [no e,e]
   exact ac_path mixed (ext:=[82]) (fuel:=9) (n:=6) (orc:=[vD true,.bool true]) (an (ac_rposchk hc hh ht hm hr)<|an (show (m != 0)=true by simp [h0]) trivial) (by kernel_rfl)
end
end
section
open Go.RowKit
section
variable {O:Nat→Prop} {W W' : World}
end
theorem ac_pekept (ep:Int) (l:List Int) (hm:l.length≤1000000):AC Tryz.prog 201 [evT ep l] (evT ep l):=by
 by_cases h:l=[]
 ·subst h
  exact ac_path mixed (ext:=[]) (fuel:=9) (n:=3) (orc:=[.slice none 0 0]) (an (allK_I [])<|an (rfl:(0:Nat)=0) trivial) (by kernel_rfl)
 ·exact ac_path mixed (ext:=[]) (fuel:=9) (n:=3) (orc:=[rowI l]) (an (allK_I l)<|an (app_nil (f:=(Value.int .i64 ·)) h hm)<|an (len_map (f:=(Value.int .i64 ·)) l) trivial) (by kernel_rfl)
def evE:List FuncId:=[37,201,252,307]
theorem ac_pprep (ep:Int) (l:List Int):AC Tryz.prog 262 [evT ep l] (.int .i64 (prE ep l)):=by
 cases h:okE ep l
 ·rw [show prE ep l = -1 by simp [prE,h]]
  exact ac_path mixed (ext:=evE) (fuel:=9) (n:=3) (orc:=[vD false]) (an (ac_pecheck h) trivial) (by kernel_rfl)
 ·rw [show prE ep l=ep by simp [prE,h]]
  exact ac_path mixed (ext:=evE) (fuel:=9) (n:=3) (orc:=[vD true]) (an (ac_pecheck h) trivial) (by kernel_rfl)
theorem nxE_mn (ep:Int):nxE ep=min (ep+1) 1099511627776:=by unfold nxE;split <;> omega
theorem ac_pnotify {ep:Int} {l:List Int} {b:Bool} (hb:hdB (ntT 1 ep l)=b) (hm:l.length≤999999):AC Tryz.prog 263 [evT ep l] (.tuple #[evT (ntE ep l) (ntL 1 ep l),.int .i64 (hdI (ntT 1 ep l)),.bool b]):=by
 subst hb
 cases h:okE ep l
 ·rw [show ntE ep l=ep by simp [ntE,h],show ntL 1 ep l=l by simp [ntL,h],show ntT 1 ep l=[] by simp [ntT,h]]
  exact ac_path mixed (ext:=evE) (fuel:=9) (n:=9) (orc:=[vD false,evT ep l,.nilFunc]) (an (ac_pecheck h)<|an (ac_pekept ep l (by omega)) trivial) (by kernel_rfl)
 ·have ho:=okE_ln h
  have he:=(okE_iff.1 h).1
  rw [show ntE ep l=min (ep+1) 1099511627776 by rw [← nxE_mn];simp [ntE,h],show ntL 1 ep l=l.drop 1 by simp [ntL,h],show ntT 1 ep l=l.take 1 by simp [ntT,h]]
  have hn:=ac_plnext l hm
  cases l with
  | nil =>
   rw [show nxI []=0 from rfl,show nxL []=[] from rfl,show nxB []=false from rfl] at hn
   exact ac_path mixed (ext:=evE) (fuel:=9) (n:=9) (orc:=[vD true,evT ep [],.nilFunc,.tuple #[.int .i64 0,rowI [],vD false],.nilFunc]) (an (ac_pecheck h)<|an (ac_pekept ep [] (by omega))<|an hn<|an (show In64 (ep+1) by constructor <;> omega) trivial) (by kernel_rfl)
  | cons x r =>
   have h1:nxB (x::r)=true:=by simp [nxB,ho]
   rw [show nxI (x::r)=x by simp [nxI,h1],show nxL (x::r)=r by simp [nxL,h1],h1] at hn
   exact ac_path mixed (ext:=evE) (fuel:=9) (n:=9) (orc:=[vD true,evT ep (x::r),.nilFunc,.tuple #[.int .i64 x,rowI r,vD true],rowI [x],.nilFunc,.nilFunc,.int .i64 x])
    (an (ac_pecheck h)<|an (ac_pekept ep (x::r) (by omega))<|an hn<|an (rfl:(1:Nat)=1)<|an (allK_I [x])<|an (app_nil (f:=(Value.int .i64 ·)) (l:=[x]) (by simp) (by simp))<|an (show In64 (ep+1) by constructor <;> omega)<|an (len_map (f:=(Value.int .i64 ·)) [x]) <|
     an (show IxP (([x].map (Value.int .i64 ·)).toArray) 0 (.int .i64 x) from ⟨by omega,rfl⟩) trivial) (by kernel_rfl)
theorem ac_pcommit {ep:Int} {l:List Int} {s i:Int} {b:Bool} (hb:cmB ep l s i=b) (hm:l.length≤999999):AC Tryz.prog 264 [evT ep l,.int .i64 s,.int .i64 i] (.tuple #[evT ep (cmL ep l s i),.bool b,.int .i64 (cmC ep l i)]):=by
 subst hb
 have hk:=ac_pekept ep l (by omega)
 cases h:okE ep l
 ·have h1:cmB ep l s i=false:=by simp [cmB,h]
  rw [show cmL ep l s i=l by unfold cmL;rw [h1];rfl,h1,show cmC ep l i=40 by simp [cmC,h]]
  exact ac_path mixed (ext:=evE) (fuel:=9) (n:=5) (orc:=[vD false,evT ep l]) (an (ac_pecheck h)<|an hk trivial) (by kernel_rfl)
 ·rw [show cmC ep l i=entE l i by simp [cmC,h]]
  have hn:=ac_penter l i hm
  by_cases he:entE l i=0
  ·rw [he] at hn ⊢
   by_cases hq:ep=s
   ·have h1:cmB ep l s i=true:=by subst hq;simp [cmB,h,he]
    rw [show cmL ep l s i=entL l i by unfold cmL;rw [if_pos h1,ent_yes he],h1]
    exact ac_path mixed (ext:=evE) (fuel:=9) (n:=5) (orc:=[vD true,.tuple #[rowI (entL l i),.int .i64 0],.nilFunc,.bool false]) (an (ac_pecheck h)<|an hn<|an (show (ep != s)=false by simp [hq]) trivial) (by kernel_rfl)
   ·have h1:cmB ep l s i=false:=by simp [cmB,hq]
    rw [show cmL ep l s i=l by unfold cmL;rw [h1];rfl,h1]
    exact ac_path mixed (ext:=evE) (fuel:=9) (n:=5) (orc:=[vD true,.tuple #[rowI (entL l i),.int .i64 0],.nilFunc,.bool true,evT ep l]) (an (ac_pecheck h)<|an hn<|an (show (ep != s)=true by simp [hq])<|an hk trivial) (by kernel_rfl)
  ·have h1:cmB ep l s i=false:=by simp [cmB,he]
   rw [show cmL ep l s i=l by unfold cmL;rw [h1];rfl,h1]
   exact ac_path mixed (ext:=evE) (fuel:=9) (n:=5) (orc:=[vD true,.tuple #[rowI (entL l i),.int .i64 (entE l i)],.bool true,evT ep l]) (an (ac_pecheck h)<|an hn<|an (show (entE l i != 0)=true by simpa using he)<|an hk trivial) (by kernel_rfl)
theorem ac_paccept (h t m r:Int) (hh:In64 h) (ht:In64 t) (hm:In64 m) (hr:In64 r):AC Tryz.prog 261 [wdT h t m,.int .i64 r] (.tuple #[wdT h (acT h t m r) m,.int .i64 (acP h t m r),.int .i64 (acR h t m r)]):=ew_accept hh ht hm hr
theorem ac_psees (h t m r:Int) (hh:In64 h) (ht:In64 t) (hm:In64 m) (hr:In64 r):AC Tryz.prog 281 [wdT h t m,.int .i64 r] (.tuple #[.int .i64 (acR h t m r),.int .i64 (tkR h t m r)]):=ew_sees hh ht hm hr
theorem ac_pevict {h t m r x:Int} {b:Bool} (hb:evwB h t m r x=b) (hh:In64 h) (ht:In64 t) (hm:In64 m) (hr:In64 r) (hx:In64 x):AC Tryz.prog 267 [wdT h t m,.int .i64 r,.int .i64 x] (.tuple #[wdT (evH h t m r x) t m,.bool b]):=hb ▸ ew_evict hh ht hm hr
end
section
open Go.RowKit
def pt (k:Nat):Value:=.pointer (some ⟨k,0,some 0⟩)
def stO (s:St) (k N:Nat):List Value:=[.int .i64 s.cf.lg,.int .i64 s.cf.th,.int .i64 s.cf.po,.int .i64 s.cf.wt,.int .i64 s.cf.sp,.int .i64 s.cf.yi,.bool s.cf.si,.int .i64 s.hd,.int .i64 s.tl,.int .i64 s.md,rowS s.sl,rowI s.sn,rowI s.rc,.int .i64 s.fe,rowI s.fl,.int .i64 s.ee,rowI s.el,.int .i64 s.nw,.slice (some ⟨k,0,some 0⟩) N 0,rowE s.lg]
def zSt:Value:=.agg #[.int .i64 0,.int .i64 0,.int .i64 0,.int .i64 0,.int .i64 0,.int .i64 0,vD false,.int .i64 0,.int .i64 0,.int .i64 0,.slice none 0 0,.slice none 0 0,.slice none 0 0,.int .i64 0,.slice none 0 0,.int .i64 0,.slice none 0 0,.int .i64 0,.slice none 0 0,.slice none 0 0]
def bT (l:List Th) (N:Nat):Option Blk:=some ⟨true,true,11,N,l.map thT⟩
def bX (s:St) (i:Int) (N:Nat):Option Blk:=some ⟨true,false,21,1,[.agg (stO s 1 N++[Value.int .i64 i]).toArray]⟩
def bZ:Option Blk:=some ⟨true,false,20,1,[zSt]⟩
def hdS (s:St) (i m o:Int) (N:Nat):Sg:=⟨mkT 33 [(2,.int .i64 m),(6,pt 2),(8,pt 0),(9,.int .i64 o)],[bX s i N,bT s.th N,bZ]⟩
def sPO (t:Th) (c k:Int):List Value:=[.bool true,vD true,.bool false,.bool false,thT (pcT t c),.int .i64 0,.nilFunc,thT (pcT t c),.int .i64 k,.nilFunc,thT (pcT t c)]
structure Rn (s:St) (n:Nat) (t:Th) (c m o:Int):Prop where
 lt:decide (o<min m 1000)=true
 ck:stB s=true
 ok:s.ok
 hn:n<s.th.length
 ht:gth s.th n=pcT t c
 rs:thRuns t.st=0
 sd:opSide t.ki=1
 fit:s.fit
 o1:In64 (o+1)
section
variable {s:St} {n:Nat} {t:Th} {c m o:Int}
theorem Rn.ge (_h:Rn s n t c m o):decide ((n:Int)<0)=false:=by simp
theorem Rn.le (h:Rn s n t c m o):decide ((s.th.length:Int)≤n)=false:=by have:=h.hn;simp;omega
theorem Rn.el (h:Rn s n t c m o):ElP (s.th.map thT) (0+(n:Int).toNat) (thT (pcT t c)):=h.ht ▸ elT h.hn
theorem Rn.ru (h:Rn s n t c m o):AC Tryz.prog 181 [thT (pcT t c)] (.int .i64 0):=ac_pruns (t:=pcT t c) h.rs
theorem Rn.si (h:Rn s n t c m o):AC Tryz.prog 58 [.int .i64 (pcT t c).ki] (.int .i64 1):=by have:=ac_pside (pcT t c).ki;exact h.sd ▸ this
theorem Rn.id (h:Rn s n t c m o):0≤(n:Int)∧(n:Int).toNat<s.th.length:=idT h.hn
theorem Rn.ln (_h:Rn s n t c m o):LenP s.th.length s.th.length (s.th.map thT):=len_map s.th
theorem Rn.pa {B:Prop} (h:Rn s n t c m o) (k:B):decide (o<min m 1000)=true∧LenP s.th.length s.th.length (s.th.map thT)∧AC Tryz.prog 19 [stT s] (.bool true)∧decide ((n:Int)<0)=false∧decide ((s.th.length:Int)≤n)=false∧(0≤(n:Int)∧(n:Int).toNat<s.th.length)∧ElP (s.th.map thT) (0+(n:Int).toNat) (thT (pcT t c))∧AC Tryz.prog 181 [thT (pcT t c)] (.int .i64 0)∧(0≤(n:Int)∧(n:Int).toNat<s.th.length)∧ElP (s.th.map thT) (0+(n:Int).toNat) (thT (pcT t c))∧AC Tryz.prog 58 [.int .i64 (pcT t c).ki] (.int .i64 1)∧(0≤(n:Int)∧(n:Int).toNat<s.th.length)∧ElP (s.th.map thT) (0+(n:Int).toNat) (thT (pcT t c))∧B:=an h.lt<|an h.ln<|an (ac_pcheck h.ck h.ok)<|an h.ge<|an h.le<|an h.id<|an h.el<|an h.ru<|an h.id<|an h.el<|an h.si<|an h.id<|an h.el k
end
section
variable {s:St} {n:Nat} {t:Th} {m o:Int} {x:Exit} {S:Sg}
theorem ac_pprep' {ep v:Int} {l:List Int} (h:prE ep l=v):AC Tryz.prog 262 [evT ep l] (.int .i64 v):=h ▸ ac_pprep ep l
theorem lp_prep (h:Rn s n t 5 m o) (he:prE s.fe s.fl=s.fe) (hL:LoopP Tryz.prog (loopOf Tryz.prog 194 0) (hdS (s.setTh n (seenT t s.fe 7)) n m (o+1) s.th.length) x S):LoopP Tryz.prog (loopOf Tryz.prog 194 0) (hdS s n m o s.th.length) x S :=
 loop_more mixed (fuel:=9) (n:=9) (im:=[0,1,2]) (keep:=[2,6,8,9]) (ext:=[19,181,58,262]) (orc:=[.bool true,vD true,.bool false,.bool false,thT (pcT t 5),.int .i64 0,.nilFunc,thT (pcT t 5),.int .i64 1,.nilFunc,thT (pcT t 5),.int .i64 s.fe,thT (pcT t 5),vRow s.th.length ((s.th.set n (seenT t s.fe 5)).map thT),thT (seenT t s.fe 5),vRow s.th.length ((s.th.set n (seenT t s.fe 7)).map thT)])
  (an h.lt<|an h.ln<|an (ac_pcheck h.ck h.ok)<|an h.ge<|an h.le<|an h.id<|an h.el<|an h.ru<|an h.id<|an h.el<|an h.si<|an h.id<|an h.el<|an h.id<|an (ac_pprep' he)<|an h.el<|an (setT s.th n (seenT t s.fe 5))<|an h.id<|an (el2 h.hn (seenT t s.fe 5))<|an (set2 s.th n (seenT t s.fe 5) (seenT t s.fe 7))<|an h.o1 trivial) (by kernel_rfl) hL
end
end
end Go.Proofs.YtbckpadeamlidaaGreat
