/- Texts merged: OpCT, ThCT, ThDT, FabCT, AbsT, FabDT, AcYT, LnVT, AcVT, AcZT, AcBT, AcCT, LnDT, EqsT. -/
import Derived.Test.YtfogkllejkmpdaaGreatZf5
import Derived.Test.YtfogkllejkmpdaaGreatZf4
import Derived.Deep.RegionHeld3
import Derived.Lib.Hide
import Derived.Test.YtfogkllejkmpdaaGreatZf7
import Derived.Test.YtfogkllejkmpdaaGreatZf6
import Derived.Deep.Cut
import Derived.LoopTactic
import Derived.Shelf.Slices.Delete
import Derived.IntWalk
import Derived.Laws.StructEq
namespace Go.Proofs.YtfogkllejkmpdaaGreat
set_option linter.unusedVariables false
set_option linter.unusedSimpArgs false
set_option maxRecDepth 100000
section
open Go.ChangeShapes Go.WideShapes Go.ChangeAt Go.RowKit
end
section
open Go.ChangeShapes Go.WideShapes Go.ChangeAt Go.RowKit
end
section
open Go.ChangeShapes Go.WideShapes Go.ChangeAt Go.RowKit
end
section
open Go.ChangeShapes Go.WideShapes Go.ChangeAt Go.RowKit
theorem a1f {W:World} {l:List Th} {b o n c:Nat} (h:Sl W 11 Th.cells l (.slice (some ⟨b,o,none⟩) n c)) {j:Nat} (hj:j<l.length):W.cell? ⟨b,o+j * 11,none⟩=some (.int .i64 (gth l j).st)∧W.cell? ⟨b,o+j * 11+1,none⟩=some (.int .i64 (gth l j).ki)∧W.cell? ⟨b,o+j * 11+2,none⟩=some (.int .i64 (gth l j).va)∧W.cell? ⟨b,o+j * 11+3,none⟩=some (.int .i64 (gth l j).un)∧W.cell? ⟨b,o+j * 11+4,none⟩=some (.int .i64 (gth l j).pc)∧W.cell? ⟨b,o+j * 11+5,none⟩=some (.int .i64 (gth l j).re)∧W.cell? ⟨b,o+j * 11+6,none⟩=some (.int .i64 (gth l j).se)∧W.cell? ⟨b,o+j * 11+7,none⟩=some (.int .i64 (gth l j).tr)∧W.cell? ⟨b,o+j * 11+8,none⟩=some (.bool (gth l j).la)∧W.cell? ⟨b,o+j * 11+9,none⟩=some (.int .i64 (gth l j).rs)∧W.cell? ⟨b,o+j * 11+10,none⟩=some (.int .i64 (gth l j).go):=by
 obtain ⟨p,k,e,_,_,_,h4⟩:=h.is
 cases e
 obtain ⟨b',o',e,_,h5⟩:=h4 (by intro h;subst h;simp at hj)
 cases e
 have h6:=h5 j (gth l j) (Rx hj)
 have k0:=h6 0 (by omega);have k1:=h6 1 (by omega);have k2:=h6 2 (by omega);have k3:=h6 3 (by omega);have k4:=h6 4 (by omega);have k5:=h6 5 (by omega);have k6:=h6 6 (by omega);have k7:=h6 7 (by omega);have k8:=h6 8 (by omega);have k9:=h6 9 (by omega);have k10:=h6 10 (by omega)
 exact ⟨by simpa [Th.cells] using k0,by simpa [Th.cells] using k1,by simpa [Th.cells] using k2,by simpa [Th.cells] using k3,by simpa [Th.cells] using k4,by simpa [Th.cells] using k5,by simpa [Th.cells] using k6,by simpa [Th.cells] using k7,by simpa [Th.cells] using k8,by simpa [Th.cells] using k9,by simpa [Th.cells] using k10⟩
def TellsT (g:Nat) (lb:Array Value) (f:Th→Bool) (w:World):Prop:=∀ (W:World) (t:Th),Below w.heap.size w W→Calls Tryz.prog g (#[.agg #[.int .i64 t.st,.int .i64 t.ki,.int .i64 t.va,.int .i64 t.un,.int .i64 t.pc,.int .i64 t.re,.int .i64 t.se,.int .i64 t.tr,.bool t.la,.int .i64 t.rs,.int .i64 t.go]]++lb) W fun e W' => e = .returned (.bool (f t))∧Kept W W'
theorem TellsT.kept {g:Nat} {lb:Array Value} {f:Th→Bool} {w w' : World} (h:TellsT g lb f w) (hk:Below w.heap.size w w'):TellsT g lb f w' := fun W x hW=>h W x (kept_trans hk hW)
structure Ln where
 p:Option Addr
 k:Nat
 l:List Int
def Ln.cells (x:Ln):List Value:=[.slice x.p x.l.length x.k]
theorem Ln.enc:Enc 1 Ln.cells:=⟨fun _=>rfl,fun x c hc=>by simp [Ln.cells] at hc;subst hc;rfl⟩
end
section
open Go.ChangeShapes Go.WideShapes Go.ChangeAt Go.RowKit
theorem QP {P:Program} {c:Code} {Q:Exit→Act→World→Prop} {a:Act} {W:World} (F:World→Prop) (h:F W) (k:∀ W',F W' → c.wp P Q a W'):c.wp P Q a W:=k W h
end
section
open Go.ChangeShapes Go.WideShapes Go.ChangeAt Go.RowKit
theorem BJ (c:Cf):In64 (cfR c):=by have:=Zf c;exact ⟨by omega,by omega⟩
theorem Jq {c:Cf} {b:Bool} (h:Hid (cfB c=b)) (w:World):Calls Tryz.prog 58 #[.agg #[.int .i64 c.lg,.int .i64 c.th,.int .i64 c.po,.int .i64 c.wt,.int .i64 c.sp,.int .i64 c.yi,.bool c.si]] w fun e w' => e = .returned (.int .i64 (if b=true then 0 else 20))∧Kept w w' := by
 have e:ckI c.lg c.th c.po c.wt c.sp c.yi=if b=true then 0 else 20:=by
  have h' := h.out
  cases b
  ·exact PR h'
  ·exact IA h'
 rw [← e]
 exact oV _ _ _ _ _ _ _ _
end
section
open Go.RowKit
theorem uC {c:Cf} {R:Int} (h:cfR c=R):AC Tryz.prog 43 [cfT c] (.int .i64 R):=by
 intro O W vs hl hat ;obtain ⟨ys,rfl,_,_,rfl,h0,rfl⟩:=T9 hat
 rw [ng] at h0
 subst h0
 refine (Bg c.lg c.th c.po c.wt c.sp c.yi c.si W).mono ?_
 rintro e W' ⟨rfl,hk⟩
 exact ⟨_,rfl,p8.2 (by rw [← h];rfl),hk⟩
theorem CQ {h t m r:Int} {b:Bool} (hb:H6 h t m r=b) (hh:In64 h) (ht:In64 t) (hm:In64 m) (hr:In64 r):AC Tryz.prog 100 [wdT h t m,.int .i64 r] (.bool b):=by
 intro O W vs hl hat ;obtain ⟨ys,rfl,_,_,rfl,h0,_,_,rfl,h1,rfl⟩:=T9 hat
 rw [Br] at h0
 rw [p8] at h1
 subst h0 h1
 refine (Bl h t m r hh ht hm hr W).mono ?_
 rintro e W' ⟨rfl,hk⟩
 exact ⟨_,rfl,H5.2 (by rw [hb]),hk⟩
theorem Gr {s:St} {b:Bool} (hb:bY s=b) (ho:s.ok):AC Tryz.prog 68 [stT s] (.bool b):=by
 subst hb
 have hRi:In64 (cfR s.cf):=BJ s.cf
 have hRb:=Zf s.cf
 cases hA:H6 s.hd s.tl s.md (cfR s.cf)
 ·rw [show bY s=false by simp [bY,hA]]
  exact d9 mixed (ext:=[43,100,101,106]) (fuel:=9) (n:=6) (orc:=[.int .i64 (cfR s.cf),vD false]) (an (uC (c:=s.cf) rfl)<|an (CQ hA ho.hd ho.tl ho.md hRi) trivial) (by kernel_rfl)
 ·by_cases hL:(s.sl.length:Int)=cfR s.cf
  ·rw [show bY s=fH s.sl by simp [bY,hA,hL]]
   exact d9 mixed (ext:=[43,100,101,106]) (fuel:=9) (n:=6) (orc:=[.int .i64 (cfR s.cf),vD true,.bool true,.bool (fH s.sl)]) (an (uC (c:=s.cf) rfl)<|an (CQ hA ho.hd ho.tl ho.md hRi)<|an (show ((s.sl.length:Int)==cfR s.cf)=true by simpa using hL)<|an (yS (l:=s.sl) rfl (by omega)) trivial) (by kernel_rfl)
  ·rw [show bY s=false by simp [bY,hL]]
   exact d9 mixed (ext:=[43,100,101,106]) (fuel:=9) (n:=6) (orc:=[.int .i64 (cfR s.cf),vD true,.bool false]) (an (uC (c:=s.cf) rfl)<|an (CQ hA ho.hd ho.tl ho.md hRi)<|an (show ((s.sl.length:Int)==cfR s.cf)=false by simpa using hL) trivial) (by kernel_rfl)
def a1d (l:List Th) (i:Int):Sg:=⟨mkT 19 [(0,aT l),(1,.func (.func 105) #[] #[]),(7,.int .i64 l.length),(8,.int .i64 i)],[]⟩
def a2I (j:Int):Sg:=⟨mkT 19 [(4,.int .i64 j)],[]⟩
theorem vS {i n:Nat} (h:i<n) (hm:n≤maxLen):In64 ((i:Int)+1):=by unfold maxLen at hm;constructor <;> omega
theorem KA {l:List Th} {i:Nat} (h:i<l.length):(l.drop i).any mg=(!thB (gth l i)||(l.drop (i+1)).any mg):=by rw [List.drop_eq_getElem_cons h,pO h];rfl
section
variable {l:List Th}
theorem Tk (hm:l.length≤maxLen):∀ (k i:Nat),l.length - i=k→i≤l.length→(l.drop i).any mg=false→j4 Tryz.prog (j3 Tryz.prog 150 0) (a1d l i) (.exit 0) (a1d l l.length)
 | 0,i,hk,hi,_=>by
  have:i=l.length:=by omega
  subst this
  exact o5 mixed (fuel:=9) (n:=5) (im:=[]) (keep:=[0,1,7,8]) (ext:=[106]) (orc:=[.bool false]) (an (show decide ((l.length:Int)<l.length)=false by simp) trivial) (by intro e;cases e) (by kernel_rfl)
 | k+1,i,hk,hi,he=>by
  have ha:i<l.length:=by omega
  rw [KA ha,Bool.or_eq_false_iff] at he
  have ih:=Tk hm k (i+1) (by omega) (by omega) he.2
  rw [show ((i+1:Nat):Int)=(i:Int)+1 by omega] at ih
  exact j5 mixed (fuel:=9) (n:=5) (im:=[]) (keep:=[0,1,7,8]) (ext:=[106]) (orc:=[.bool true,thT (gth l i),vD true])
   (an (show decide ((i:Int)<l.length)=true by simp;omega)<|an (vO ha)<|an (pI (by simpa using he.1))<|an (vS ha hm) trivial) (by kernel_rfl) ih
theorem Ze (hm:l.length≤maxLen):∀ (k i:Nat),l.length - i=k→i≤l.length→(l.drop i).any mg=true→∃ j:Nat,j4 Tryz.prog (j3 Tryz.prog 150 0) (a1d l i) .ret (a2I j)
 | 0,i,hk,hi,he=>absurd he (by rw [List.drop_eq_nil_of_le (by omega)];simp)
 | k+1,i,hk,hi,he=>by
  have ha:i<l.length:=by omega
  rw [KA ha] at he
  cases h1:thB (gth l i)
  ·exact ⟨i,o5 mixed (fuel:=9) (n:=5) (im:=[]) (keep:=[4]) (ext:=[106]) (orc:=[.bool true,thT (gth l i),vD false])
    (an (show decide ((i:Int)<l.length)=true by simp;omega)<|an (vO ha)<|an (pI h1) trivial) (by intro e;cases e) (by kernel_rfl)⟩
  ·rw [h1,Bool.not_true,Bool.false_or] at he
   obtain ⟨j,ih⟩:=Ze hm k (i+1) (by omega) (by omega) he
   rw [show ((i+1:Nat):Int)=(i:Int)+1 by omega] at ih
   exact ⟨j,j5 mixed (fuel:=9) (n:=5) (im:=[]) (keep:=[0,1,7,8]) (ext:=[106]) (orc:=[.bool true,thT (gth l i),vD true])
    (an (show decide ((i:Int)<l.length)=true by simp;omega)<|an (vO ha)<|an (pI h1)<|an (vS ha hm) trivial) (by kernel_rfl) ih⟩
end
theorem DI {s:St} {b:Bool} (hb:iU s=b) (ho:s.ok):AC Tryz.prog 71 [stT s] (.bool b):=by
 subst hb
 have hm:s.th.length≤maxLen:=ho.th.2
 by_cases hL:(s.th.length:Int)=s.cf.th
 ·cases ha:s.th.any mg
  ·rw [show iU s=true by simp [iU,hL,ha]]
   exact d9 mixed (ext:=[43,100,101,106]) (fuel:=9) (n:=6) (orc:=[.bool true,oL [] [0,1,7,8] 0 [(0,aT s.th),(1,.func (.func 105) #[] #[]),(7,.int .i64 s.th.length),(8,.int .i64 s.th.length)] []])
    (an (show ((s.th.length:Int)==s.cf.th)=true by simpa using hL)<|an (Tk hm s.th.length 0 rfl (by omega) (by simpa using ha)) trivial) (by kernel_rfl)
  ·obtain ⟨j,hj⟩:=Ze (l:=s.th) hm s.th.length 0 rfl (by omega) (by simpa using ha)
   rw [show iU s = !decide (0≤(j:Int)) by simp [iU,hL,ha]]
   exact d9 mixed (ext:=[43,100,101,106]) (fuel:=9) (n:=6) (orc:=[.bool true,oL [] [0,1,7,8] (-1) [(4,.int .i64 j)] []])
    (an (show ((s.th.length:Int)==s.cf.th)=true by simpa using hL)<|an hj trivial) (by kernel_rfl)
 ·rw [show iU s=false by simp [iU,hL]]
  exact d9 mixed (ext:=[43,100,101,106]) (fuel:=9) (n:=6) (orc:=[.bool false]) (an (show ((s.th.length:Int)==s.cf.th)=false by simpa using hL) trivial) (by kernel_rfl)
end
abbrev qL13:=j4 Tryz.prog (j3 Tryz.prog 144 0)
abbrev qL17:=j4 Tryz.prog (j3 Tryz.prog 227 0)
abbrev qL18:=j4 Tryz.prog (j3 Tryz.prog 143 0)
section
open Go.RowKit
theorem yN {i n:Nat} (h:i<n) (hm:n≤maxLen):In64 ((i:Int)+1):=by unfold maxLen at hm;constructor <;> omega
theorem ixV {l:List Int} {i:Nat} (h:i<l.length):IxP ((l.map (Value.int .i64 ·)).toArray) (i:Int) (.int .i64 l[i]):=⟨by omega,by simp [h]⟩
theorem iY {i n:Nat} (h:i<n):decide ((i:Int)<n)=true:=by simp;omega
theorem Cb (n:Nat):decide ((n:Int)<n)=false:=by simp
def Rk (l:List Int) (x i:Int):Sg:=⟨mkT 19 [(0,l5 l),(1,.int .i64 x),(7,.int .i64 l.length),(8,.int .i64 i)],[]⟩
def a3p (j:Int):Sg:=⟨mkT 19 [(4,.int .i64 j)],[]⟩
section
variable {l:List Int} {x:Int}
theorem YD (hm:l.length≤maxLen):∀ (k i:Nat),l.length - i=k→i≤l.length→x∉l.take i→(x∉l∧qL17 (Rk l x i) (.exit 0) (Rk l x l.length))∨(x∈l∧qL17 (Rk l x i) .ret (a3p (ixI l x)))
 | 0,i,hk,hi,h=>by
  have:i=l.length:=by omega
  subst this
  exact .inl ⟨by rwa [List.take_length] at h,o5 mixed (fuel:=9) (n:=6) (im:=[]) (keep:=[0,1,7,8]) (ext:=[]) (orc:=[.bool false]) (an (Cb l.length) trivial) (by intro e;cases e) (by kernel_rfl)⟩
 | k+1,i,hk,hi,h=>by
  have hi' : i<l.length:=by omega
  by_cases he:l[i]=x
  ·have e:=SB hi' he h
   refine .inr ⟨he ▸ List.getElem_mem hi',?_⟩
   rw [e]
   exact o5 mixed (fuel:=9) (n:=6) (im:=[]) (keep:=[4]) (ext:=[]) (orc:=[.bool true,.int .i64 l[i],.bool true]) (an (iY hi')<|an (ixV hi')<|an (show (x==l[i])=true by simp [he]) trivial) (by intro e;cases e) (by kernel_rfl)
  ·have more:∀ {S:Sg} {y:Exit},qL17 (Rk l x ((i:Int)+1)) y S→qL17 (Rk l x i) y S:=fun hL =>
    j5 mixed (fuel:=9) (n:=6) (im:=[]) (keep:=[0,1,7,8]) (ext:=[]) (orc:=[.bool true,.int .i64 l[i],.bool false]) (an (iY hi')<|an (ixV hi')<|an (show (x==l[i])=false by simp [Ne.symm he])<|an (yN hi' hm) trivial) (by kernel_rfl) hL
   rcases YD hm k (i+1) (by omega) (by omega) (ze hi' he h) with ⟨a,b⟩ | ⟨a,b⟩
   ·exact .inl ⟨a,more b⟩
   ·exact .inr ⟨a,more b⟩
theorem FE (hm:l.length≤maxLen):AC Tryz.prog 227 [l5 l,.int .i64 x] (.int .i64 (ixI l x)):=by
 rcases YD (l:=l) (x:=x) hm l.length 0 (by omega) (by omega) (by simp) with ⟨a,b⟩ | ⟨a,b⟩
 ·rw [Ws a]
  exact d9 mixed (ext:=[]) (fuel:=9) (n:=6) (orc:=[oL [] [0,1,7,8] 0 [(0,l5 l),(1,.int .i64 x),(7,.int .i64 l.length),(8,.int .i64 l.length)] []]) (an b trivial) (by kernel_rfl)
 ·exact d9 mixed (ext:=[]) (fuel:=9) (n:=6) (orc:=[oL [] [0,1,7,8] (-1) [(4,.int .i64 (ixI l x))] []]) (an b trivial) (by kernel_rfl)
theorem fu {b:Bool} (h:decide (x∈l)=b) (hm:l.length≤maxLen):AC Tryz.prog 194 [l5 l,.int .i64 x] (.bool b):=by
 rw [show b=decide (0≤ixI l x) by rw [← h];simp [uo]]
 exact d9 mixed (ext:=[227]) (fuel:=9) (n:=6) (orc:=[.int .i64 (ixI l x)]) (an (FE (x:=x) hm) trivial) (by kernel_rfl)
end
def lnB:List (Option Blk):=[some ⟨true,false,1,1,[.int .i64 16]⟩]
def lnT (l:List Int) (i:Int):List (Nat×Value):=[(0,l5 l),(1,.func (.func 193) #[] #[.pointer (some ⟨0,0,some 0⟩)]),(7,.int .i64 l.length),(8,.int .i64 i)]
def lnS (l:List Int) (i:Int):Sg:=⟨mkT 19 (lnT l i),lnB⟩
def lnN (j:Int):Sg:=⟨mkT 19 [(4,.int .i64 j)],lnB⟩
section
variable {l:List Int}
section
variable {i:Nat} (hi:i<l.length)
include hi
theorem ZU (h0:decide (l[i]<0)=true):qL13 (lnS l i) .ret (lnN i):=o5 mixed (fuel:=9) (n:=6) (im:=[0]) (ext:=[]) (keep:=[4]) (orc:=[.bool true,.int .i64 l[i],.bool true]) (an (iY hi)<|an (ixV hi)<|an h0 trivial) (by intro e;cases e) (by kernel_rfl)
variable (h0:decide (l[i]<0)=false)
include h0
theorem XI (h1:decide ((16:Int)≤l[i])=true):qL13 (lnS l i) .ret (lnN i):=o5 mixed (fuel:=9) (n:=6) (im:=[0]) (ext:=[]) (keep:=[4]) (orc:=[.bool true,.int .i64 l[i],.bool false,.bool true]) (an (iY hi)<|an (ixV hi)<|an h0<|an h1 trivial) (by intro e;cases e) (by kernel_rfl)
theorem Kr (h1:decide ((16:Int)≤l[i])=false) (hm:l.length≤maxLen) {S:Sg} {y:Exit} (hL:qL13 (lnS l ((i:Int)+1)) y S):qL13 (lnS l i) y S:=j5 mixed (fuel:=9) (n:=6) (im:=[0]) (ext:=[]) (keep:=[0,1,7,8]) (orc:=[.bool true,.int .i64 l[i],.bool false,.bool false]) (an (iY hi)<|an (ixV hi)<|an h0<|an h1<|an (yN hi hm) trivial) (by kernel_rfl) hL
end
theorem Zi (hm:l.length≤maxLen):∀ (k i:Nat),l.length - i=k→i≤l.length→((l.drop i).any (gQ 16)=false∧qL13 (lnS l i) (.exit 0) (lnS l l.length))∨((l.drop i).any (gQ 16)=true∧∃ j:Nat,qL13 (lnS l i) .ret (lnN j))
 | 0,i,hk,hi=>by
  have:i=l.length:=by omega
  subst this
  exact .inl ⟨by simp,o5 mixed (fuel:=9) (n:=6) (im:=[0]) (ext:=[]) (keep:=[0,1,7,8]) (orc:=[.bool false]) (an (Cb l.length) trivial) (by intro e;cases e) (by kernel_rfl)⟩
 | k+1,i,hk,hi=>by
  have hi' : i<l.length:=by omega
  rw [List.drop_eq_getElem_cons hi',List.any_cons]
  cases h0:decide (l[i]<0)
  ·cases h1:decide ((16:Int)≤l[i])
   ·have e:gQ 16 l[i]=false:=by simp only [gQ,h0,h1];rfl
    rw [e,Bool.false_or]
    rcases Zi hm k (i+1) (by omega) (by omega) with ⟨a,b⟩ | ⟨a,j,b⟩
    ·exact .inl ⟨a,Kr hi' h0 h1 hm b⟩
    ·exact .inr ⟨a,j,Kr hi' h0 h1 hm b⟩
   ·exact .inr ⟨by simp only [gQ,h1];simp,i,XI hi' h0 h1⟩
  ·exact .inr ⟨by simp only [gQ,h0];simp,i,ZU hi' h0⟩
def Tz (l:List Int) (i:Int):Sg:=⟨mkT 18 [(0,l5 l),(5,l5 l),(6,.int .i64 l.length),(7,.int .i64 i)],[]⟩
def a3y:Sg:=⟨mkT 18 [(2,vD false)],[]⟩
theorem Lb {l:List Int} {k:Nat} (hk:k≤l.length):Eo (l.take k).length ((l.take k).map (Value.int .i64 ·)) l.length (l.map (Value.int .i64 ·)) 0 k:=by
 refine ⟨by omega,by omega,by omega,by rw [List.length_take];omega,?_⟩
 show (l.take k).map _=((l.map _).drop 0).take (l.take k).length
 rw [List.drop_zero,List.length_take,Nat.min_eq_left hk,List.map_take]
theorem YP (hm:l.length≤maxLen):∀ (k i:Nat),l.length - i=k→i≤l.length→(l.take i).Nodup→(l.Nodup∧qL18 (Tz l i) (.exit 0) (Tz l l.length))∨(¬ l.Nodup∧qL18 (Tz l i) .ret a3y)
 | 0,i,hk,hi,h=>by
  have:i=l.length:=by omega
  subst this
  exact .inl ⟨by rwa [List.take_length] at h,o5 mixed (fuel:=9) (n:=6) (im:=[]) (keep:=[0,5,6,7]) (ext:=[194]) (orc:=[.bool false]) (an (Cb l.length) trivial) (by intro e;cases e) (by kernel_rfl)⟩
 | k+1,i,hk,hi,h=>by
  have hi' : i<l.length:=by omega
  cases hc:decide (l[i]∈l.take i)
  ·have hno:=of_decide_eq_false hc
   have more:∀ {S:Sg} {y:Exit},qL18 (Tz l ((i:Int)+1)) y S→qL18 (Tz l i) y S:=fun hL =>
    j5 mixed (fuel:=9) (n:=6) (im:=[]) (keep:=[0,5,6,7]) (ext:=[194]) (orc:=[.bool true,.int .i64 l[i],l5 (l.take i),vD false]) (an (iY hi')<|an (ixV hi')<|an (Lb (l:=l) (k:=i) (by omega))<|an (N8 l)<|an (fu (x:=l[i]) hc (by rw [List.length_take];omega))<|an (yN hi' hm) trivial) (by kernel_rfl) hL
   rcases YP hm k (i+1) (by omega) (by omega) ((lw hi').2 ⟨h,hno⟩) with ⟨a,b⟩ | ⟨a,b⟩
   ·exact .inl ⟨a,more b⟩
   ·exact .inr ⟨a,more b⟩
  ·exact .inr ⟨rE hi' (of_decide_eq_true hc),o5 mixed (fuel:=9) (n:=6) (im:=[]) (keep:=[2]) (ext:=[194]) (orc:=[.bool true,.int .i64 l[i],l5 (l.take i),vD true]) (an (iY hi')<|an (ixV hi')<|an (Lb (l:=l) (k:=i) (by omega))<|an (N8 l)<|an (fu (x:=l[i]) hc (by rw [List.length_take];omega)) trivial) (by intro e;cases e) (by kernel_rfl)⟩
theorem LZ {b:Bool} (h:decide l.Nodup=b) (hm:l.length≤maxLen):AC Tryz.prog 143 [l5 l] (.bool b):=by
 subst h
 rcases YP (l:=l) hm l.length 0 (by omega) (by omega) (by simp) with ⟨a,b⟩ | ⟨a,b⟩
 ·rw [decide_eq_true a]
  exact d9 mixed (ext:=[]) (fuel:=9) (n:=6) (orc:=[oL [] [0,5,6,7] 0 [(0,l5 l),(5,l5 l),(6,.int .i64 l.length),(7,.int .i64 l.length)] []]) (an b trivial) (by kernel_rfl)
 ·rw [decide_eq_false a]
  exact d9 mixed (ext:=[]) (fuel:=9) (n:=6) (orc:=[oL [] [0,5,6,7] (-1) [(2,vD false)] []]) (an b trivial) (by kernel_rfl)
theorem L8 {b:Bool} (h:P5 l=b):AC Tryz.prog 103 [l5 l] (.bool b):=by
 by_cases hm:l.length≤maxLen
 ·subst h;unfold P5
  rcases Zi (l:=l) hm l.length 0 (by omega) (by omega) with ⟨a,b⟩ | ⟨a,j,b⟩
  ·rw [List.drop_zero] at a
   rw [a]
   exact d9 mixed (ext:=[143]) (fuel:=9) (n:=6) (orc:=[oL [0] [0,1,7,8] 0 (lnT l l.length) lnB,.nilFunc,.bool (decide l.Nodup)]) (an b<|an (LZ (b:=decide l.Nodup) rfl hm) trivial) (by kernel_rfl)
  ·rw [List.drop_zero] at a
   rw [a]
   exact d9 mixed (ext:=[143]) (fuel:=9) (n:=6) (orc:=[oL [0] [0,1,7,8] (-1) [(4,.int .i64 j)] lnB,.bool false]) (an b<|an (show (!decide ((0:Int)≤(j:Int)))=false by simp) trivial) (by kernel_rfl)
 ·intro O W vs hl hat
  obtain ⟨ys,rfl,_,_,rfl,h0,rfl⟩:=T9 hat
  obtain ⟨p,k,rfl,hs⟩:=V5.1 h0
  obtain ⟨_,_,e,h1,h2,h3,h4⟩:=hs.s.is
  cases e
  exact absurd (show l.length≤maxLen by omega) hm
end
theorem xS (l:List Int) (hm:l.length≤1000000):AC Tryz.prog 285 [l5 l] (l5 l):=by
 by_cases h:l=[]
 ·subst h
  exact d9 mixed (ext:=[]) (fuel:=9) (n:=3) (orc:=[.slice none 0 0]) (an (N8 [])<|an (rfl:(0:Nat)=0) trivial) (by kernel_rfl)
 ·exact d9 mixed (ext:=[]) (fuel:=9) (n:=3) (orc:=[l5 l]) (an (N8 l)<|an (P6 (f:=(Value.int .i64 ·)) h hm)<|an (l7 (f:=(Value.int .i64 ·)) l) trivial) (by kernel_rfl)
section
variable {l:List Int} {i:Int}
theorem zC (hm:l.length≤maxLen):AC Tryz.prog 284 [l5 l,.int .i64 i] (.int .i64 (plI l i)):=by
 unfold plI
 cases h:P5 l
 ·exact d9 mixed (ext:=[103]) (fuel:=9) (n:=6) (orc:=[vD false]) (an (L8 h) trivial) (by kernel_rfl)
 ·exact d9 mixed (ext:=[103,227]) (fuel:=9) (n:=6) (orc:=[vD true,.int .i64 (ixI l i)]) (an (L8 h)<|an (FE (x:=i) hm) trivial) (by kernel_rfl)
theorem gH {b:Bool} (hb:(plI l i==0)=b):AC Tryz.prog 321 [l5 l,.int .i64 i] (.bool b):=by
 subst hb
 by_cases hm:l.length≤maxLen
 ·exact d9 mixed (ext:=[284]) (fuel:=9) (n:=6) (orc:=[.int .i64 (plI l i)]) (an (zC (i:=i) hm) trivial) (by kernel_rfl)
 ·intro O W vs hl hat
  obtain ⟨ys,rfl,_,_,rfl,h0,_⟩:=T9 hat
  obtain ⟨p,k,rfl,hs⟩:=V5.1 h0
  obtain ⟨_,_,e,h1,h2,h3,h4⟩:=hs.s.is
  cases e
  exact absurd (show l.length≤maxLen by omega) hm
theorem uA (l:List Int) (i:Int) (hm:l.length≤999999):AC Tryz.prog 319 [l5 l,.int .i64 i] (.tuple #[l5 (Z0 l i),.int .i64 (aX l i)]):=by
 have hk:=xS l (by omega)
 have hml:l.length≤maxLen:=by unfold maxLen;omega
 have no:∀ {e:Int},aX l i=e→e≠0→Z0 l i=l:=fun h hne=>by unfold Z0;rw [h,if_neg hne]
 cases h:P5 l
 ·have e:aX l i=40:=by simp [aX,h]
  rw [no e (by decide),e]
  exact d9 mixed (fuel:=9) (n:=6) (ext:=[103,194,285]) (orc:=[vD false,l5 l]) (an (L8 h)<|an hk trivial) (by kernel_rfl)
 cases h0:decide (i<0)
 ·cases h1:decide ((16:Int)≤i)
  ·have hn:gQ 16 i=false:=by simp only [gQ,h0,h1];rfl
   cases hc:decide (i∈l)
   ·have hno:=of_decide_eq_false hc
    have e:aX l i=0:=by simp [aX,h,hn,hno]
    rw [qf e,e]
    by_cases hl:l=[]
    ·subst hl
     exact d9 mixed (fuel:=9) (n:=6) (ext:=[103,194]) (orc:=[vD true,.bool false,.bool false,vD false,.slice none 0 0,l5 ([]++[i])]) (an (L8 h)<|an h0<|an h1<|an (fu hc hml)<|an (N8 [])<|an (rfl:(0:Nat)=0)<|an (rfl:(1:Nat)=1)<|an (N8 [i])<|an (⟨by omega,by simp,by simp,by omega⟩:0<1∧vo ([]++[i]).length (([]++[i]).map (Value.int .i64 ·)) 0 [] 1 [.int .i64 i])<|an (l7 (f:=(Value.int .i64 ·)) ([]++[i])) trivial) (by kernel_rfl)
    ·exact d9 mixed (fuel:=9) (n:=6) (ext:=[103,194]) (orc:=[vD true,.bool false,.bool false,vD false,l5 l,l5 (l++[i])]) (an (L8 h)<|an h0<|an h1<|an (fu hc hml)<|an (N8 l)<|an (P6 (f:=(Value.int .i64 ·)) hl (by omega))<|an (rfl:(1:Nat)=1)<|an (N8 [i])<|an (show l.length=(l.map (Value.int .i64 ·)).length by simp)<|an (⟨by simp,by simp,by omega⟩:vo (l++[i]).length ((l++[i]).map (Value.int .i64 ·)) l.length (l.map (Value.int .i64 ·)) 1 [.int .i64 i])<|an (l7 (f:=(Value.int .i64 ·)) (l++[i])) trivial) (by kernel_rfl)
   ·have hyes:=of_decide_eq_true hc
    have e:aX l i=60:=by simp [aX,h,hn,hyes]
    rw [no e (by decide),e]
    exact d9 mixed (fuel:=9) (n:=6) (ext:=[103,194,285]) (orc:=[vD true,.bool false,.bool false,vD true,l5 l]) (an (L8 h)<|an h0<|an h1<|an (fu hc hml)<|an hk trivial) (by kernel_rfl)
  ·have e:aX l i=40:=by simp only [aX,gQ,h1];simp
   rw [no e (by decide),e]
   exact d9 mixed (fuel:=9) (n:=6) (ext:=[103,194,285]) (orc:=[vD true,.bool false,.bool true,l5 l]) (an (L8 h)<|an h0<|an h1<|an hk trivial) (by kernel_rfl)
 ·have e:aX l i=40:=by simp only [aX,gQ,h0];simp
  rw [no e (by decide),e]
  exact d9 mixed (fuel:=9) (n:=6) (ext:=[103,194,285]) (orc:=[vD true,.bool true,l5 l]) (an (L8 h)<|an h0<|an hk trivial) (by kernel_rfl)
theorem AQ (l:List Int) (hm:l.length≤999999):AC Tryz.prog 373 [l5 l] (.tuple #[.int .i64 (nxI l),l5 (nxL l),.bool (nxB l)]):=by
 have hk:=xS l (by omega)
 cases h0:((l.length:Int)==0)
 ·cases h:P5 l
  ·have e:nxB l=false:=by simp [nxB,h]
   rw [show nxI l=0 by simp [nxI,e],show nxL l=l by simp [nxL,e],e]
   exact d9 mixed (fuel:=9) (n:=6) (ext:=[103,194,285]) (orc:=[.bool false,vD false,l5 l]) (an h0<|an (L8 h)<|an hk trivial) (by kernel_rfl)
  ·have hl:0<l.length:=by
    have:(l.length:Int)≠0:=by simpa using h0
    omega
   have hne:l≠[]:=by rintro rfl;simp at hl
   have e:nxB l=true:=by simp [nxB,h,hne]
   have e1:nxI l=l[0]:=by
    cases l with
    | nil=>exact absurd rfl hne
    | cons a l=>simp [nxI,e]
   have e2:nxL l=l.drop 1:=by simp [nxL,e]
   rw [e1,e2,e]
   have hs:Eo (l.drop 1).length ((l.drop 1).map (Value.int .i64 ·)) l.length (l.map (Value.int .i64 ·)) 1 l.length:=⟨by omega,by omega,by omega,by rw [List.length_drop];omega,by
    show _=((l.map _).drop 1).take _
    rw [List.map_drop,List.take_of_length_le (by simp)]⟩
   exact d9 mixed (fuel:=9) (n:=6) (ext:=[103,194,285]) (orc:=[.bool false,vD true,.int .i64 l[0],l5 (l.drop 1),l5 (l.drop 1)]) (an h0<|an (L8 h)<|an (ixV hl)<|an hs<|an (N8 l)<|an (xS (l.drop 1) (by rw [List.length_drop];omega)) trivial) (by kernel_rfl)
 ·have hl:l=[]:=by
   have:(l.length:Int)=0:=by simpa using h0
   exact List.length_eq_zero_iff.1 (by omega)
  subst hl
  exact d9 mixed (fuel:=9) (n:=6) (ext:=[103,194,285]) (orc:=[.bool true,l5 []]) (an h0<|an hk trivial) (by kernel_rfl)
end
end
section
open Go.RowKit
theorem Y5 {a b:Int} (h:a≠b):(a==b)=false:=by simp [h]
theorem Um {a:Int} (h:a=2):(a==0)=false:=by simp [h]
theorem aj {a b:Int} (h:a=b):(a==b)=true:=by simp [h]
theorem V6 {t:Th} {e:Int} (he:H7 t.st=e):AC Tryz.prog 248 [thT t] (.int .i64 e):=by
 subst he
 unfold H7
 by_cases h0:t.st=0
 ·rw [if_pos h0];exact d9 mixed (ext:=[]) (fuel:=9) (n:=6) (orc:=[.bool true]) (an (aj h0) trivial) (by kernel_rfl)
 ·rw [if_neg h0]
  by_cases h2:t.st=2
  ·rw [if_pos h2];exact d9 mixed (ext:=[]) (fuel:=9) (n:=6) (orc:=[.bool false,.bool true]) (an (Y5 h0)<|an (aj h2) trivial) (by kernel_rfl)
  ·rw [if_neg h2];exact d9 mixed (ext:=[]) (fuel:=9) (n:=6) (orc:=[.bool false,.bool false]) (an (Y5 h0)<|an (Y5 h2) trivial) (by kernel_rfl)
theorem EF {t:Th} {p e:Int} {r:Th} (h:Qd t p e r):AC Tryz.prog 332 [thT t,.int .i64 p] (.tuple #[thT r,.int .i64 e]):=by (rcases h with ⟨h0,rfl,rfl⟩ | ⟨h2,rfl,rfl⟩ | ⟨h0,h2,rfl,rfl⟩;(exact d9 mixed (ext:=[]) (fuel:=9) (n:=6) (orc:=[.bool true,.nilFunc]) (an (aj h0) trivial) (by kernel_rfl));(exact d9 mixed (ext:=[]) (fuel:=9) (n:=6) (orc:=[.bool false,.bool true,.nilFunc]) (an (Um h2)<|an (aj h2) trivial) (by kernel_rfl));(exact d9 mixed (ext:=[]) (fuel:=9) (n:=6) (orc:=[.bool false,.bool false,.nilFunc]) (an (Y5 h0)<|an (Y5 h2) trivial) (by kernel_rfl)))
theorem mf {t:Th} {e:Int} {r:Th} (h:Py t e r):AC Tryz.prog 333 [thT t] (.tuple #[thT r,.int .i64 e]):=by (rcases h with ⟨h0,rfl,rfl⟩ | ⟨h2,rfl,rfl⟩ | ⟨h0,h2,rfl,rfl⟩;(exact d9 mixed (ext:=[]) (fuel:=9) (n:=6) (orc:=[.bool true,.nilFunc]) (an (aj h0) trivial) (by kernel_rfl));(exact d9 mixed (ext:=[]) (fuel:=9) (n:=6) (orc:=[.bool false,.bool true,.nilFunc]) (an (Um h2)<|an (aj h2) trivial) (by kernel_rfl));(exact d9 mixed (ext:=[]) (fuel:=9) (n:=6) (orc:=[.bool false,.bool false,.nilFunc]) (an (Y5 h0)<|an (Y5 h2) trivial) (by kernel_rfl)))
theorem Gt (t:Th):AC Tryz.prog 203 [thT t] (thT (D8 t)):=by
 unfold D8
 by_cases h:t.st=2
 ·rw [if_pos h];exact d9 mixed (ext:=[]) (fuel:=9) (n:=6) (orc:=[.bool true]) (an (aj h) trivial) (by kernel_rfl)
 ·rw [if_neg h];exact d9 mixed (ext:=[]) (fuel:=9) (n:=6) (orc:=[.bool false]) (an (Y5 h) trivial) (by kernel_rfl)
theorem Xz {t r:Th} {k v u E:Int} (h:zU t k v u E r):AC Tryz.prog 233 [thT t,.int .i64 k,.int .i64 v,.int .i64 u] (.tuple #[thT r,.int .i64 E]):=by
 have n0:t.st=0→(!(t.st==0))=false:=fun h=>by simp [h]
 rcases h with ⟨h0,rfl,rfl⟩ | ⟨h0,h1,rfl,rfl⟩ | ⟨h0,h1,h2,rfl,rfl⟩ | ⟨h0,h1,h2,h3,rfl,rfl⟩ | ⟨h0,h1,h2,h3,rfl,rfl⟩
 ·exact d9 mixed (ext:=[75,198]) (fuel:=9) (n:=6) (orc:=[.bool true]) (an (show (!(r.st==0))=true by simp [h0]) trivial) (by kernel_rfl)
 ·exact d9 mixed (ext:=[75,198]) (fuel:=9) (n:=6) (orc:=[.bool false,vD false]) (an (n0 h0)<|an (J7 h1) trivial) (by kernel_rfl)
 ·exact d9 mixed (ext:=[75,198]) (fuel:=9) (n:=6) (orc:=[.bool false,vD true,vD false]) (an (n0 h0)<|an (J7 h1)<|an (R5 h2) trivial) (by kernel_rfl)
 ·by_cases a:0≤u
  ·exact d9 mixed (ext:=[75,198]) (fuel:=9) (n:=6) (orc:=[.bool false,vD true,vD true,.bool true,.bool true]) (an (n0 h0)<|an (J7 h1)<|an (R5 h2)<|an (decide_eq_true a)<|an (show (!decide (u≤1099511627776))=true by simp <;> omega) trivial) (by kernel_rfl)
  ·exact d9 mixed (ext:=[75,198]) (fuel:=9) (n:=6) (orc:=[.bool false,vD true,vD true,.bool false]) (an (n0 h0)<|an (J7 h1)<|an (R5 h2)<|an (decide_eq_false a) trivial) (by kernel_rfl)
 ·exact d9 mixed (ext:=[75,198]) (fuel:=9) (n:=6) (orc:=[.bool false,vD true,vD true,.bool true,.bool false]) (an (n0 h0)<|an (J7 h1)<|an (R5 h2)<|an (decide_eq_true h3.1)<|an (show (!decide (u≤1099511627776))=false by simp [h3.2]) trivial) (by kernel_rfl)
theorem Ul {lg th po wt sp yi:Int} (h:fD lg th po wt sp yi=true):(wt=0∨wt=1∨wt=2∨wt=3)∧(0≤sp∧sp≤8)∧(0≤yi∧yi≤8):=by
 have hp:=nA.1 h
 omega
theorem dJ {c:Cf} {r:Int} (h:(if cfB c=true then 0 else 20)=r):AC Tryz.prog 58 [cfT c] (.int .i64 r):=by
 intro O W vs hl hat
 obtain ⟨ys,rfl,_,_,rfl,h0,rfl⟩:=T9 hat
 rw [ng] at h0
 subst h0
 refine (Jq (b:=cfB c) (Lib.hid rfl) W).mono ?_
 rintro e W' ⟨rfl,hk⟩
 exact ⟨_,rfl,p8.2 (by rw [h]),hk⟩
theorem xu {c:Cf} {r:Int} (h:ckI c.lg c.th c.po c.wt c.sp c.yi=r):AC Tryz.prog 50 [cfT c] (.int .i64 r):=by
 intro O W vs hl hat
 obtain ⟨ys,rfl,_,_,rfl,h0,rfl⟩:=T9 hat
 rw [ng] at h0
 subst h0
 refine (Gh c.lg c.th c.po c.wt c.sp c.yi c.si W).mono ?_
 rintro e W' ⟨rfl,hk⟩
 exact ⟨_,rfl,p8.2 (by rw [h]),hk⟩
theorem TI (c:Cf) (n:Int):AC Tryz.prog 365 [cfT c,.int .i64 n] (.int .i64 (Ih c.lg c.th c.po c.wt c.sp c.yi (max n 0))):=by
 obtain ⟨lg,th,po,wt,sp,yi,si⟩:=c
 show AC _ _ _ (.int .i64 (Ih lg th po wt sp yi (max n 0)))
 unfold Ih
 cases hm:fD lg th po wt sp yi
 ·exact d9 mixed (ext:=[58]) (fuel:=9) (n:=6) (orc:=[.int .i64 20,.nilFunc]) (an (dJ (c:=⟨lg,th,po,wt,sp,yi,si⟩) (r:=20) (by show (if fD lg th po wt sp yi=true then (0:Int) else 20)=20;rw [hm];rfl)) trivial) (by kernel_rfl)
 ·have hk:AC Tryz.prog 58 [cfT ⟨lg,th,po,wt,sp,yi,si⟩] (.int .i64 0):=dJ (by show (if fD lg th po wt sp yi=true then (0:Int) else 20)=0;rw [hm];rfl)
  obtain ⟨h0,h1,h2⟩:=Ul hm
  rw [if_pos rfl]
  obtain rfl | rfl | rfl | rfl:=h0
  ·exact d9 mixed (ext:=[58]) (fuel:=9) (n:=6) (orc:=[.int .i64 0,.nilFunc]) (an hk trivial) (by kernel_rfl)
  ·exact d9 mixed (ext:=[58]) (fuel:=9) (n:=6) (orc:=[.int .i64 0,.nilFunc]) (an hk trivial) (by kernel_rfl)
  ·rw [show a1s 2 sp yi (max n 0)=if max n 0<sp then 0 else if max n 0<sp+yi then 1 else 2 from rfl]
   by_cases a:max n 0<sp
   ·rw [if_pos a];exact d9 mixed (ext:=[58]) (fuel:=9) (n:=6) (orc:=[.int .i64 0,.nilFunc,.bool true]) (an hk<|an (decide_eq_true a) trivial) (by kernel_rfl)
   ·rw [if_neg a]
    by_cases b:max n 0<sp+yi
    ·rw [if_pos b];exact d9 mixed (ext:=[58]) (fuel:=9) (n:=6) (orc:=[.int .i64 0,.nilFunc,.bool false,.bool true]) (an hk<|an (decide_eq_false a)<|an (show In64 (sp+yi) by constructor <;> omega)<|an (decide_eq_true b) trivial) (by kernel_rfl)
    ·rw [if_neg b];exact d9 mixed (ext:=[58]) (fuel:=9) (n:=6) (orc:=[.int .i64 0,.nilFunc,.bool false,.bool false]) (an hk<|an (decide_eq_false a)<|an (show In64 (sp+yi) by constructor <;> omega)<|an (decide_eq_false b) trivial) (by kernel_rfl)
  ·exact d9 mixed (ext:=[58]) (fuel:=9) (n:=6) (orc:=[.int .i64 0,.nilFunc]) (an hk trivial) (by kernel_rfl)
theorem DC (c:Cf) (n:Int):AC Tryz.prog 222 [cfT c,.int .i64 n] (.int .i64 (Ih c.lg c.th c.po c.wt c.sp c.yi n)):=by
 unfold Ih
 cases hm:fD c.lg c.th c.po c.wt c.sp c.yi
 ·exact d9 mixed (ext:=[50]) (fuel:=9) (n:=6) (orc:=[.int .i64 20,.nilFunc]) (an (xu (c:=c) (r:=20) (by simp [ckI,hm])) trivial) (by kernel_rfl)
 ·have hk:AC Tryz.prog 50 [cfT c] (.int .i64 0):=xu (by simp [ckI,hm])
  obtain ⟨h0,h1,h2⟩:=Ul hm
  rw [if_pos rfl]
  unfold a1s
  by_cases w0:c.wt=0
  ·rw [if_pos w0];exact d9 mixed (ext:=[50]) (fuel:=9) (n:=6) (orc:=[.int .i64 0,.nilFunc,.bool true]) (an hk<|an (aj w0) trivial) (by kernel_rfl)
  rw [if_neg w0]
  by_cases w1:c.wt=1
  ·rw [if_pos w1];exact d9 mixed (ext:=[50]) (fuel:=9) (n:=6) (orc:=[.int .i64 0,.nilFunc,.bool false,.bool true]) (an hk<|an (Y5 w0)<|an (aj w1) trivial) (by kernel_rfl)
  rw [if_neg w1]
  by_cases w2:c.wt=2
  ·rw [if_pos w2]
   by_cases a:n<c.sp
   ·rw [if_pos a];exact d9 mixed (ext:=[50]) (fuel:=9) (n:=6) (orc:=[.int .i64 0,.nilFunc,.bool false,.bool false,.bool true,.bool true]) (an hk<|an (Y5 w0)<|an (Y5 w1)<|an (aj w2)<|an (decide_eq_true a) trivial) (by kernel_rfl)
   ·rw [if_neg a]
    by_cases b:n<c.sp+c.yi
    ·rw [if_pos b];exact d9 mixed (ext:=[50]) (fuel:=9) (n:=6) (orc:=[.int .i64 0,.nilFunc,.bool false,.bool false,.bool true,.bool false,.bool true,.bool true]) (an hk<|an (Y5 w0)<|an (Y5 w1)<|an (aj w2)<|an (decide_eq_false a)<|an (aj w2)<|an (show In64 (c.sp+c.yi) by constructor <;> omega)<|an (decide_eq_true b) trivial) (by kernel_rfl)
    ·rw [if_neg b];exact d9 mixed (ext:=[50]) (fuel:=9) (n:=6) (orc:=[.int .i64 0,.nilFunc,.bool false,.bool false,.bool true,.bool false,.bool true,.bool false]) (an hk<|an (Y5 w0)<|an (Y5 w1)<|an (aj w2)<|an (decide_eq_false a)<|an (aj w2)<|an (show In64 (c.sp+c.yi) by constructor <;> omega)<|an (decide_eq_false b) trivial) (by kernel_rfl)
  ·rw [if_neg w2];exact d9 mixed (ext:=[50]) (fuel:=9) (n:=6) (orc:=[.int .i64 0,.nilFunc,.bool false,.bool false,.bool false,.bool false]) (an hk<|an (Y5 w0)<|an (Y5 w1)<|an (Y5 w2)<|an (Y5 w2) trivial) (by kernel_rfl)
end
section
open Go.RowKit
theorem F9 {ep:Int} {l:List Int} {b:Bool} (h:okE ep l=b):AC Tryz.prog 70 [evT ep l] (.bool b):=by
 subst h
 by_cases h0:0≤ep
 ·by_cases h1:ep≤1099511627776
  ·rw [show okE ep l=P5 l by simp [okE,h0,h1]]
   exact d9 mixed (ext:=[103]) (fuel:=9) (n:=3) (orc:=[.bool true,.bool true,.bool (P5 l)]) (an (show decide (0≤ep)=true by simpa using h0)<|an (show decide (ep≤1099511627776)=true by simpa using h1)<|an (L8 (l:=l) rfl) trivial) (by kernel_rfl)
  ·rw [show okE ep l=false by simp [okE,h1]]
   exact d9 mixed (ext:=[103]) (fuel:=9) (n:=3) (orc:=[.bool true,.bool false]) (an (show decide (0≤ep)=true by simpa using h0)<|an (show decide (ep≤1099511627776)=false by simpa using h1) trivial) (by kernel_rfl)
 ·rw [show okE ep l=false by simp [okE,h0]]
  exact d9 mixed (ext:=[103]) (fuel:=9) (n:=3) (orc:=[.bool false]) (an (show decide (0≤ep)=false by simpa using h0) trivial) (by kernel_rfl)
def gZ (l:List Int) (i:Nat):Int:=l.getD i 0
theorem Km {l:List Int} {i:Nat} (h:i<l.length):gZ l i=l[i]:=by simp [gZ,h]
theorem Zr {l:List Int} {i:Nat} (h:i<l.length):IxP ((l.map (Value.int .i64 ·)).toArray) (i:Int) (.int .i64 (gZ l i)):=⟨by omega,by simp [Km h,h]⟩
theorem OY {α:Type} {f:α→Bool} {l:List α} {i:Nat} (h:i<l.length):(l.drop i).any f=(f l[i]||(l.drop (i+1)).any f):=by rw [List.drop_eq_getElem_cons h];rfl
def zkB (m:Int):List (Option Blk):=[some ⟨true,false,1,1,[.int .i64 m]⟩]
def zkT (l:List Int) (i:Int):List (Nat×Value):=[(0,l5 l),(1,.func (.func 102) #[] #[.pointer (some ⟨0,0,some 0⟩)]),(7,.int .i64 l.length),(8,.int .i64 i)]
def zkS (m:Int) (l:List Int) (i:Int):Sg:=⟨mkT 19 (zkT l i),zkB m⟩
def zkN (m j:Int):Sg:=⟨mkT 19 [(4,.int .i64 j)],zkB m⟩
abbrev ZkL (m:Int) (l:List Int) (i:Int) (x:Exit) (S:Sg):Prop:=eY Tryz.prog 1 (j3 Tryz.prog 144 0) (zkS m l i) x S
section
variable {l:List Int} {m:Int}
theorem Qo (hm:l.length≤maxLen):∀ (k i:Nat),l.length - i=k→i≤l.length→(l.drop i).any (EP m)=false→ZkL m l i (.exit 0) (zkS m l l.length)
 | 0,i,hk,hi,_=>by
  have:i=l.length:=by omega
  subst this
  exact jo mixed (fuel:=9) (n:=5) (im:=[0]) (keep:=[0,1,7,8]) (ext:=[]) (orc:=[.bool false]) (an (show decide ((l.length:Int)<l.length)=false by simp) trivial) (by intro e;cases e) (by kernel_rfl) (by rfl)
 | k+1,i,hk,hi,he=>by
  have ha:i<l.length:=by omega
  rw [OY ha,Bool.or_eq_false_iff] at he
  have ih:=Qo hm k (i+1) (by omega) (by omega) he.2
  rw [show ((i+1:Nat):Int)=(i:Int)+1 by omega] at ih
  exact bC mixed (fuel:=9) (n:=5) (im:=[0]) (keep:=[0,1,7,8]) (ext:=[]) (orc:=[.bool true,.int .i64 (gZ l i),.bool false])
   (an (show decide ((i:Int)<l.length)=true by simp;omega)<|an (Zr ha)<|an (show decide (m≤gZ l i)=false by rw [Km ha];exact he.1)<|an (vS ha hm) trivial) (by kernel_rfl) (by rfl) ih
theorem YT (hm:l.length≤maxLen):∀ (k i:Nat),l.length - i=k→i≤l.length→(l.drop i).any (EP m)=true→∃ j:Nat,ZkL m l i .ret (zkN m j)
 | 0,i,hk,hi,he=>absurd he (by rw [List.drop_eq_nil_of_le (by omega)];simp)
 | k+1,i,hk,hi,he=>by
  have ha:i<l.length:=by omega
  rw [OY ha] at he
  cases h1:EP m l[i]
  ·rw [h1,Bool.false_or] at he
   obtain ⟨j,ih⟩:=YT hm k (i+1) (by omega) (by omega) he
   rw [show ((i+1:Nat):Int)=(i:Int)+1 by omega] at ih
   exact ⟨j,bC mixed (fuel:=9) (n:=5) (im:=[0]) (keep:=[0,1,7,8]) (ext:=[]) (orc:=[.bool true,.int .i64 (gZ l i),.bool false])
    (an (show decide ((i:Int)<l.length)=true by simp;omega)<|an (Zr ha)<|an (show decide (m≤gZ l i)=false by rw [Km ha];exact h1)<|an (vS ha hm) trivial) (by kernel_rfl) (by rfl) ih⟩
  ·exact ⟨i,jo mixed (fuel:=9) (n:=5) (im:=[0]) (keep:=[4]) (ext:=[]) (orc:=[.bool true,.int .i64 (gZ l i),.bool true])
    (an (show decide ((i:Int)<l.length)=true by simp;omega)<|an (Zr ha)<|an (show decide (m≤gZ l i)=true by rw [Km ha];exact h1) trivial) (by intro e;cases e) (by kernel_rfl) (by rfl)⟩
end
def zkE:List FuncId:=[58,68,71,103,70]
def zkR (s:St):List Value:=[l5 s.sn,l5 s.rc,l5 s.fl,l5 s.el]
def zk0:List Value:=[.int .i64 0,.nilFunc,vD true]
def zkC (s:St) (l:List Int):List Value:=[.nilFunc,l5 l,vD true,oK 1 [2] [0,1,7,8] 0 (zkT l l.length) (zkB s.cf.th),.nilFunc]
def zkF (l:List Int):List Value:=[.nilFunc,l5 l,vD false]
def zkG (s:St) (l:List Int) (j:Int):List Value:=[.nilFunc,l5 l,vD true,oK 1 [2] [0,1,7,8] (-1) [(4,.int .i64 j)] (zkB s.cf.th),.bool true]
abbrev Zk (s:St) (b:Bool):Prop:=AC Tryz.prog 42 [stT s] (.bool b)
abbrev ZkI (s:St) (i:Nat) (l:List Int) (b:Bool) (B:Prop):Prop:=((0:Int)≤(i:Int)∧(i:Int).toNat<4)∧ElP (zkR s) i (l5 l)∧AC Tryz.prog 103 [l5 l] (.bool b)∧B
section
variable {s:St} {l:List Int} {i:Nat} {B:Prop} (hi:i<4) (he:(zkR s)[i]? = some (l5 l))
include hi he
theorem WN (h:P5 l=false):ZkI s i l false True:=⟨⟨by omega,by omega⟩,he,L8 h,trivial⟩
theorem Yj (h:P5 l=true) {j:Nat} (hj:ZkL s.cf.th l (0:Nat) .ret (zkN s.cf.th j)):ZkI s i l true (ZkL s.cf.th l (0:Nat) .ret (zkN s.cf.th j)∧decide ((0:Int)≤(j:Int))=true∧True):=⟨⟨by omega,by omega⟩,he,L8 h,hj,by simp,trivial⟩
theorem aW (h:W9 s.cf.th l=true) (hm:l.length≤maxLen) (b:B):ZkI s i l true (ZkL s.cf.th l (0:Nat) (.exit 0) (zkS s.cf.th l l.length)∧In64 ((i:Int)+1)∧B):=by
 simp only [W9,Bool.and_eq_true,Bool.not_eq_true'] at h
 exact ⟨⟨by omega,by omega⟩,he,L8 h.1,Qo hm l.length 0 rfl (by omega) (by simpa using h.2),⟨by omega,by omega⟩,b⟩
end
theorem JR {m:Int} {l:List Int} (h:W9 m l=false) (hm:l.length≤maxLen):P5 l=false∨P5 l=true∧∃ j:Nat,ZkL m l (0:Nat) .ret (zkN m j):=by
 cases h1:P5 l
 ·exact .inl rfl
 ·refine .inr ⟨rfl,YT hm l.length 0 rfl (by omega) ?_⟩
  simpa [W9,h1] using h
theorem o7 {s:St} {b:Bool} (h:stB s=b) (ho:s.ok):Zk s b:=by
 subst h
 cases h0:cfB s.cf
 ·rw [show stB s=false by simp [stB,h0]]
  exact d9 mixed (ext:=zkE) (fuel:=9) (n:=6) (orc:=[.int .i64 20,.nilFunc]) (an (dJ (c:=s.cf) (r:=20) (by simp [h0])) trivial) (by kernel_rfl)
 have c0:=dJ (c:=s.cf) (r:=0) (by simp [h0])
 cases h1:bY s
 ·rw [show stB s=false by simp [stB,h1]]
  exact d9 mixed (ext:=zkE) (fuel:=9) (n:=6) (orc:=[.int .i64 0,.nilFunc,vD false]) (an c0<|an (Gr h1 ho) trivial) (by kernel_rfl)
 have c1:=Gr h1 ho
 cases g0:W9 s.cf.th s.sn
 ·rw [show stB s=false by simp [stB,oq,g0]]
  rcases JR g0 ho.sn.2 with e | ⟨e,j,hj⟩
  ·exact d9 mixed (ext:=zkE) (fuel:=9) (n:=6) (orc:=zk0++zkF s.sn) (an c0<|an c1<|WN (s:=s) (i:=0) (by decide) rfl e) (by kernel_rfl)
  ·exact d9 mixed (ext:=zkE) (fuel:=9) (n:=6) (orc:=zk0++zkG s s.sn j) (an c0<|an c1<|Yj (s:=s) (i:=0) (by decide) rfl e hj) (by kernel_rfl)
 cases g1:W9 s.cf.th s.rc
 ·rw [show stB s=false by simp [stB,oq,g1]]
  rcases JR g1 ho.rc.2 with e | ⟨e,j,hj⟩
  ·exact d9 mixed (ext:=zkE) (fuel:=9) (n:=6) (orc:=zk0++zkC s s.sn++zkF s.rc) (an c0<|an c1<|aW (s:=s) (i:=0) (by decide) rfl g0 ho.sn.2<|WN (s:=s) (i:=1) (by decide) rfl e) (by kernel_rfl)
  ·exact d9 mixed (ext:=zkE) (fuel:=9) (n:=6) (orc:=zk0++zkC s s.sn++zkG s s.rc j) (an c0<|an c1<|aW (s:=s) (i:=0) (by decide) rfl g0 ho.sn.2<|Yj (s:=s) (i:=1) (by decide) rfl e hj) (by kernel_rfl)
 cases g2:W9 s.cf.th s.fl
 ·rw [show stB s=false by simp [stB,oq,g2]]
  rcases JR g2 ho.fl.2 with e | ⟨e,j,hj⟩
  ·exact d9 mixed (ext:=zkE) (fuel:=9) (n:=6) (orc:=zk0++zkC s s.sn++zkC s s.rc++zkF s.fl) (an c0<|an c1<|aW (s:=s) (i:=0) (by decide) rfl g0 ho.sn.2<|aW (s:=s) (i:=1) (by decide) rfl g1 ho.rc.2<|WN (s:=s) (i:=2) (by decide) rfl e) (by kernel_rfl)
  ·exact d9 mixed (ext:=zkE) (fuel:=9) (n:=6) (orc:=zk0++zkC s s.sn++zkC s s.rc++zkG s s.fl j) (an c0<|an c1<|aW (s:=s) (i:=0) (by decide) rfl g0 ho.sn.2<|aW (s:=s) (i:=1) (by decide) rfl g1 ho.rc.2<|Yj (s:=s) (i:=2) (by decide) rfl e hj) (by kernel_rfl)
 cases g3:W9 s.cf.th s.el
 ·rw [show stB s=false by simp [stB,oq,g3]]
  rcases JR g3 ho.el.2 with e | ⟨e,j,hj⟩
  ·exact d9 mixed (ext:=zkE) (fuel:=9) (n:=6) (orc:=zk0++zkC s s.sn++zkC s s.rc++zkC s s.fl++zkF s.el) (an c0<|an c1<|aW (s:=s) (i:=0) (by decide) rfl g0 ho.sn.2<|aW (s:=s) (i:=1) (by decide) rfl g1 ho.rc.2<|aW (s:=s) (i:=2) (by decide) rfl g2 ho.fl.2<|WN (s:=s) (i:=3) (by decide) rfl e) (by kernel_rfl)
  ·exact d9 mixed (ext:=zkE) (fuel:=9) (n:=6) (orc:=zk0++zkC s s.sn++zkC s s.rc++zkC s s.fl++zkG s s.el j) (an c0<|an c1<|aW (s:=s) (i:=0) (by decide) rfl g0 ho.sn.2<|aW (s:=s) (i:=1) (by decide) rfl g1 ho.rc.2<|aW (s:=s) (i:=2) (by decide) rfl g2 ho.fl.2<|Yj (s:=s) (i:=3) (by decide) rfl e hj) (by kernel_rfl)
 cases h2:okE s.fe s.fl
 ·rw [show stB s=false by simp [stB,h2]]
  exact d9 mixed (ext:=zkE) (fuel:=9) (n:=6) (orc:=zk0++zkC s s.sn++zkC s s.rc++zkC s s.fl++zkC s s.el++[.nilFunc,vD false]) (an c0<|an c1<|aW (s:=s) (i:=0) (by decide) rfl g0 ho.sn.2<|aW (s:=s) (i:=1) (by decide) rfl g1 ho.rc.2<|aW (s:=s) (i:=2) (by decide) rfl g2 ho.fl.2<|aW (s:=s) (i:=3) (by decide) rfl g3 ho.el.2<|an (F9 h2) trivial) (by kernel_rfl)
 cases h3:okE s.ee s.el
 ·rw [show stB s=false by simp [stB,h3]]
  exact d9 mixed (ext:=zkE) (fuel:=9) (n:=6) (orc:=zk0++zkC s s.sn++zkC s s.rc++zkC s s.fl++zkC s s.el++[.nilFunc,vD true,vD false]) (an c0<|an c1<|aW (s:=s) (i:=0) (by decide) rfl g0 ho.sn.2<|aW (s:=s) (i:=1) (by decide) rfl g1 ho.rc.2<|aW (s:=s) (i:=2) (by decide) rfl g2 ho.fl.2<|aW (s:=s) (i:=3) (by decide) rfl g3 ho.el.2<|an (F9 h2)<|an (F9 h3) trivial) (by kernel_rfl)
 cases h4:decide (0≤s.nw)
 ·rw [show stB s=false by simp only [stB,h4];simp]
  exact d9 mixed (ext:=zkE) (fuel:=9) (n:=6) (orc:=zk0++zkC s s.sn++zkC s s.rc++zkC s s.fl++zkC s s.el++[.nilFunc,vD true,vD true,.bool false]) (an c0<|an c1<|aW (s:=s) (i:=0) (by decide) rfl g0 ho.sn.2<|aW (s:=s) (i:=1) (by decide) rfl g1 ho.rc.2<|aW (s:=s) (i:=2) (by decide) rfl g2 ho.fl.2<|aW (s:=s) (i:=3) (by decide) rfl g3 ho.el.2<|an (F9 h2)<|an (F9 h3)<|an h4 trivial) (by kernel_rfl)
 cases h5:decide (s.nw≤1099511627776)
 ·rw [show stB s=false by simp only [stB,h5];simp]
  exact d9 mixed (ext:=zkE) (fuel:=9) (n:=6) (orc:=zk0++zkC s s.sn++zkC s s.rc++zkC s s.fl++zkC s s.el++[.nilFunc,vD true,vD true,.bool true,.bool false]) (an c0<|an c1<|aW (s:=s) (i:=0) (by decide) rfl g0 ho.sn.2<|aW (s:=s) (i:=1) (by decide) rfl g1 ho.rc.2<|aW (s:=s) (i:=2) (by decide) rfl g2 ho.fl.2<|aW (s:=s) (i:=3) (by decide) rfl g3 ho.el.2<|an (F9 h2)<|an (F9 h3)<|an h4<|an h5 trivial) (by kernel_rfl)
 rw [show stB s=iU s by simp only [stB,oq,h0,h1,g0,g1,g2,g3,h2,h3,h4,h5];simp]
 exact d9 mixed (ext:=zkE) (fuel:=9) (n:=6) (orc:=zk0++zkC s s.sn++zkC s s.rc++zkC s s.fl++zkC s s.el++[.nilFunc,vD true,vD true,.bool true,.bool true,.bool (iU s)]) (an c0<|an c1<|aW (s:=s) (i:=0) (by decide) rfl g0 ho.sn.2<|aW (s:=s) (i:=1) (by decide) rfl g1 ho.rc.2<|aW (s:=s) (i:=2) (by decide) rfl g2 ho.fl.2<|aW (s:=s) (i:=3) (by decide) rfl g3 ho.el.2<|an (F9 h2)<|an (F9 h3)<|an h4<|an h5<|an (DI (s:=s) rfl ho) trivial) (by kernel_rfl)
theorem fQ {s:St} {i:Int} {b:Bool} (h:hasB s i=b) (ho:s.ok):AC Tryz.prog 199 [stT s,.int .i64 i] (.bool b):=by
 subst h
 cases hB:stB s
 ·rw [show hasB s i=false by simp [hasB,hB]]
  exact d9 mixed (ext:=[42]) (fuel:=9) (n:=4) (orc:=[vD false]) (an (o7 hB ho) trivial) (by kernel_rfl)
 ·by_cases h0:0≤i
  ·rw [show hasB s i=decide (i<s.th.length) by simp [hasB,hB,h0]]
   exact d9 mixed (ext:=[42]) (fuel:=9) (n:=4) (orc:=[vD true,.bool true]) (an (o7 hB ho)<|an (show decide (0≤i)=true by simpa using h0) trivial) (by kernel_rfl)
  ·rw [show hasB s i=false by simp [hasB,h0]]
   exact d9 mixed (ext:=[42]) (fuel:=9) (n:=4) (orc:=[vD true,.bool false]) (an (o7 hB ho)<|an (show decide (0≤i)=false by simpa using h0) trivial) (by kernel_rfl)
theorem Oq {p r k:Int} (h:I9 p r=k) (hp:In64 p) (hr:In64 r):AC Tryz.prog 74 [.int .i64 p,.int .i64 r] (.int .i64 k):=by
 intro O W vs hl hat
 obtain ⟨ys,rfl,_,_,rfl,h0,_,_,rfl,h1,rfl⟩:=T9 hat
 rw [p8] at h0 h1
 subst h0 h1
 refine (zZ p r hp hr W).mono ?_
 rintro e W' ⟨rfl,hk⟩
 exact ⟨_,rfl,p8.2 (by rw [h]),hk⟩
theorem Bf (s:St) (p:Int) (ho:s.ok) (hp:In64 p):AC Tryz.prog 336 [stT s,.int .i64 p] (.int .i64 (Q7 s p)):=by
 by_cases h0:p<0
 ·rw [show Q7 s p=0 by simp [Q7,h0]]
  exact d9 mixed (ext:=[42,74]) (fuel:=9) (n:=4) (orc:=[.bool true]) (an (show decide (p<0)=true by simpa using h0) trivial) (by kernel_rfl)
 ·have d0:decide (p<0)=false:=by simpa using h0
  cases hB:stB s
  ·rw [show Q7 s p=0 by simp [Q7,hB]]
   exact d9 mixed (ext:=[42,74]) (fuel:=9) (n:=4) (orc:=[.bool false,vD false]) (an d0<|an (o7 hB ho) trivial) (by kernel_rfl)
  ·have hk:=(C8 hB).2.1
   obtain ⟨hi,hpl⟩:=oW (l:=s.sl) (p:=p) (eP.2 ⟨by omega,hk⟩)
   have hm:=(aR.1 hk).1
   rw [show Q7 s p=(gs s.sl (plc s.sl p)).vl by simp [Q7,h0,hB,atV]]
   exact d9 mixed (ext:=[42,74]) (fuel:=9) (n:=4) (orc:=[.bool false,vD true,.int .i64 (plc s.sl p),slT (gs s.sl (plc s.sl p))])
    (an d0<|an (o7 hB ho)<|an (Oq hpl hp (by constructor <;> omega))<|an (show IxP ((s.sl.map slT).toArray) ((plc s.sl p:Nat):Int) (slT (gs s.sl (plc s.sl p))) from ⟨by omega,by simp [oG hi,hi]⟩) trivial) (by kernel_rfl)
end
section
open Go.RowKit
theorem C9 (l:List Int) (hm:l.length≤1000000):AC Tryz.prog 229 [l5 l] (l5 l):=by
 by_cases h:l=[]
 ·subst h
  exact d9 mixed (ext:=[]) (fuel:=9) (n:=3) (orc:=[.slice none 0 0]) (And.intro (N8 []) (And.intro (rfl:(0:Nat)=0) trivial)) (by kernel_rfl)
 ·exact d9 mixed (ext:=[]) (fuel:=9) (n:=3) (orc:=[l5 l]) (And.intro (N8 l) (And.intro (P6 (f:=(Value.int .i64 ·)) h hm) (And.intro (l7 (f:=(Value.int .i64 ·)) l) trivial))) (by kernel_rfl)
theorem bi (l:List Slo) (hm:l.length≤1000000):AC Tryz.prog 228 [U0 l] (U0 l):=by
 by_cases h:l=[]
 ·subst h
  exact d9 mixed (ext:=[]) (fuel:=9) (n:=3) (orc:=[.slice none 0 0]) (And.intro (mQ []) (And.intro (rfl:(0:Nat)=0) trivial)) (by kernel_rfl)
 ·exact d9 mixed (ext:=[]) (fuel:=9) (n:=3) (orc:=[U0 l]) (And.intro (mQ l) (And.intro (P6 (f:=slT) h hm) (And.intro (l7 (f:=slT) l) trivial))) (by kernel_rfl)
theorem rP (l:List Th) (hm:l.length≤1000000):AC Tryz.prog 230 [aT l] (aT l):=by
 by_cases h:l=[]
 ·subst h
  exact d9 mixed (ext:=[]) (fuel:=9) (n:=3) (orc:=[.slice none 0 0]) (And.intro (kD []) (And.intro (rfl:(0:Nat)=0) trivial)) (by kernel_rfl)
 ·exact d9 mixed (ext:=[]) (fuel:=9) (n:=3) (orc:=[aT l]) (And.intro (kD l) (And.intro (P6 (f:=thT) h hm) (And.intro (l7 (f:=thT) l) trivial))) (by kernel_rfl)
theorem nJ (l:List En) (hm:l.length≤1000000):AC Tryz.prog 231 [K5 l] (K5 l):=by
 by_cases h:l=[]
 ·subst h
  exact d9 mixed (ext:=[]) (fuel:=9) (n:=3) (orc:=[.slice none 0 0]) (And.intro (X5 []) (And.intro (rfl:(0:Nat)=0) trivial)) (by kernel_rfl)
 ·exact d9 mixed (ext:=[]) (fuel:=9) (n:=3) (orc:=[K5 l]) (And.intro (X5 l) (And.intro (P6 (f:=enT) h hm) (And.intro (l7 (f:=enT) l) trivial))) (by kernel_rfl)
end
section
open Go.RowKit
def stL (s:St):Array Value:=#[.int .i64 s.cf.lg,.int .i64 s.cf.th,.int .i64 s.cf.po,.int .i64 s.cf.wt,.int .i64 s.cf.sp,.int .i64 s.cf.yi,.bool s.cf.si,.int .i64 s.hd,.int .i64 s.tl,.int .i64 s.md,U0 s.sl,l5 s.sn,l5 s.rc,.int .i64 s.fe,l5 s.fl,.int .i64 s.ee,l5 s.el,.int .i64 s.nw,aT s.th,K5 s.lg]
def rsT (t:Th) (r:Int):Th:=⟨t.st,t.ki,t.va,t.un,t.pc,t.re,t.se,t.tr,t.la,r,t.go⟩
def rgT (t:Th) (r g:Int):Th:=⟨t.st,t.ki,t.va,t.un,t.pc,t.re,t.se,t.tr,t.la,r,g⟩
structure St.fit (s:St):Prop where
 sl:s.sl.length≤1000000
 sn:s.sn.length≤1000000
 rc:s.rc.length≤1000000
 fl:s.fl.length≤1000000
 el:s.el.length≤1000000
 th:s.th.length≤1000000
 lg:s.lg.length≤1000000
theorem el2 {n:Nat} {l:List Th} (h:n<l.length) (t:Th):ElP ((l.set n t).map thT) (0+(n:Int).toNat) (thT t):=by simp [ElP,h]
theorem set2 (l:List Th) (n:Nat) (t u:Th):(l.set n u).map thT=((l.set n t).map thT).set (0+(n:Int).toNat) (thT u):=by simp [List.map_set]
theorem ND (l:List En):l.length=(l.map enT).length:=by simp
theorem lenT (l:List Th):l.length=l.length∧l.length=(l.map thT).length:=⟨rfl,by simp⟩
theorem Qx (l:List Th) (n:Nat) (t:Th):l.length=(l.set n t).length∧l.length=((l.set n t).map thT).length:=⟨by simp,by simp⟩
theorem uq {s:St} {n:Nat} (h:hasB s n=true):n<s.th.length:=by have:=(J5.1 h).2.2;omega
theorem Ab {l:List Th} {n:Nat} (h:n<l.length):l≠[]:=by rintro rfl;simp at h
theorem kN {s:St} {i:Int} (hA:hasB s i=false) (ho:s.ok) (hf:s.fit) (ht:s.th≠[]):AO Tryz.prog 154 [stT s,.int .i64 i] (stL s) 18 11 :=
 kS mixed (ext:=[199,229,228,231]) (fuel:=9) (n:=5) (pos:=18) (orc:=[vD false,U0 s.sl,l5 s.sn,l5 s.rc,l5 s.fl,l5 s.el,aT s.th,K5 s.lg])
  (And.intro (fQ hA ho) (And.intro (bi s.sl hf.sl) (And.intro (C9 s.sn hf.sn) (And.intro (C9 s.rc hf.rc) (And.intro (C9 s.fl hf.fl) (And.intro (C9 s.el hf.el)
   (And.intro (kD s.th) (And.intro (P6 (f:=thT) ht hf.th) (And.intro (nJ s.lg hf.lg) (And.intro (lenT s.th) trivial)))))))))) (by kernel_rfl)
theorem CE {s:St} {n:Nat} (hA:hasB s n=true) (ho:s.ok) (hf:s.fit):AO Tryz.prog 154 [stT s,.int .i64 n] (stL (s.onTh n D8)) 18 11 :=
 kS mixed (ext:=[199,229,228,231,203]) (fuel:=9) (n:=5) (pos:=18)
  (orc:=[vD true,U0 s.sl,l5 s.sn,l5 s.rc,l5 s.fl,l5 s.el,aT s.th,K5 s.lg,thT (gth s.th n),thT (D8 (gth s.th n)),thT (gth s.th n),aT (s.th.set n (D8 (gth s.th n)))])
  (And.intro (fQ hA ho) (And.intro (bi s.sl hf.sl) (And.intro (C9 s.sn hf.sn) (And.intro (C9 s.rc hf.rc) (And.intro (C9 s.fl hf.fl) (And.intro (C9 s.el hf.el)
   (And.intro (kD s.th) (And.intro (P6 (f:=thT) (Ab (uq hA)) hf.th) (And.intro (nJ s.lg hf.lg) (And.intro (idT (uq hA)) (And.intro (elT (uq hA)) (And.intro (Gt (gth s.th n)) (And.intro (elT (uq hA))
    (And.intro (K4 s.th n (D8 (gth s.th n))) (And.intro (Qx s.th n (D8 (gth s.th n))) trivial))))))))))))))) (by kernel_rfl)
theorem bU {α:Type} {f:α→Value} (l:List α) (x:α) (hm:l.length≤1000000):vo (l++[x]).length ((l++[x]).map f) l.length (l.map f) 1 [f x]:=⟨by simp,by simp,by omega⟩
theorem gm {α:Type} {f:α→Value} (x:α):0<1∧vo ([]++[x]).length (([]++[x]).map f) 0 [] 1 [f x]:=⟨by omega,by simp,by simp,by omega⟩
theorem ixT {n:Nat} {l:List Th} (h:n<l.length):IxP ((l.map thT).toArray) (n:Int) (thT (gth l n)):=vO h
theorem CR (x:En):uD 5 [enT x]:=X5 [x]
def tlE (s:St) (n:Nat) (k r g:Int):En:=⟨n,k,(gth s.th n).va,r,g⟩
theorem Xk (l:List En) (x:En):pu (l++[x]).length (l++[x]).length ((l++[x]).map enT):=l7 (f:=enT) (l++[x])
theorem Lc {s:St} {n:Nat} {k r g:Int} (hA:hasB s n=true) (hk:(k != 9)=true) (ho:s.ok) (hf:s.fit):AO Tryz.prog 335 [stT s,.int .i64 n,.int .i64 k,.int .i64 r,.int .i64 g] (stL ((s.setTh n (rgT (gth s.th n) r g)).addLg (tlE s n k r g))) 18 11:=by
 have hn:=uq hA
 by_cases hl:s.lg=[]
 ·rw [show (s.setTh n (rgT (gth s.th n) r g)).addLg (tlE s n k r g)=⟨s.cf,s.hd,s.tl,s.md,s.sl,s.sn,s.rc,s.fe,s.fl,s.ee,s.el,s.nw,s.th.set n (rgT (gth s.th n) r g),[]++[tlE s n k r g]⟩ by unfold St.addLg St.setTh;rw [hl]]
  refine kS mixed (ext:=[199,229,228]) (fuel:=9) (n:=5) (pos:=18)
   (orc:=[vD true,U0 s.sl,l5 s.sn,l5 s.rc,l5 s.fl,l5 s.el,aT s.th,.slice none 0 0,.bool true,thT (gth s.th n),aT (s.th.set n (rsT (gth s.th n) r)),thT (rsT (gth s.th n) r),aT (s.th.set n (rgT (gth s.th n) r g)),thT (gth s.th n),K5 ([]++[tlE s n k r g])])
   (an (fQ hA ho)<|an (bi s.sl hf.sl)<|an (C9 s.sn hf.sn)<|an (C9 s.rc hf.rc)<|an (C9 s.fl hf.fl)<|an (C9 s.el hf.el)<|an (kD s.th)<|an (P6 (f:=thT) (Ab hn) hf.th) <|
    an (X5 s.lg)<|an (show s.lg.length=0 by rw [hl];rfl)<|an (idT hn)<|an hk<|an (elT hn)<|an (K4 s.th n (rsT (gth s.th n) r))<|an (el2 hn (rsT (gth s.th n) r))<|an (set2 s.th n (rsT (gth s.th n) r) (rgT (gth s.th n) r g))<|an (ixT hn)<|an (rfl:(1:Nat)=1)<|an (CR (tlE s n k r g))<|an (gm (f:=enT) (tlE s n k r g)) <|
    an (Qx s.th n (rgT (gth s.th n) r g))<|an (Xk [] (tlE s n k r g)) trivial) (by kernel_rfl)
 ·refine kS mixed (ext:=[199,229,228]) (fuel:=9) (n:=5) (pos:=18)
   (orc:=[vD true,U0 s.sl,l5 s.sn,l5 s.rc,l5 s.fl,l5 s.el,aT s.th,K5 s.lg,.bool true,thT (gth s.th n),aT (s.th.set n (rsT (gth s.th n) r)),thT (rsT (gth s.th n) r),aT (s.th.set n (rgT (gth s.th n) r g)),thT (gth s.th n),K5 (s.lg++[tlE s n k r g])])
   (an (fQ hA ho)<|an (bi s.sl hf.sl)<|an (C9 s.sn hf.sn)<|an (C9 s.rc hf.rc)<|an (C9 s.fl hf.fl)<|an (C9 s.el hf.el)<|an (kD s.th)<|an (P6 (f:=thT) (Ab hn) hf.th) <|
    an (X5 s.lg)<|an (P6 (f:=enT) hl hf.lg)<|an (idT hn)<|an hk<|an (elT hn)<|an (K4 s.th n (rsT (gth s.th n) r))<|an (el2 hn (rsT (gth s.th n) r))<|an (set2 s.th n (rsT (gth s.th n) r) (rgT (gth s.th n) r g))<|an (ixT hn)<|an (rfl:(1:Nat)=1)<|an (CR (tlE s n k r g))<|an (ND s.lg)<|an (bU (f:=enT) s.lg (tlE s n k r g) hf.lg) <|
    an (Qx s.th n (rgT (gth s.th n) r g))<|an (Xk s.lg (tlE s n k r g)) trivial) (by kernel_rfl)
theorem TL {s:St} {n:Nat} {r g:Int} (hA:hasB s n=true) (ho:s.ok) (hf:s.fit):AO Tryz.prog 335 [stT s,.int .i64 n,.int .i64 9,.int .i64 r,.int .i64 g] (stL (s.addLg (tlE s n 9 r g))) 18 11:=by
 have hn:=uq hA
 by_cases hl:s.lg=[]
 ·rw [show s.addLg (tlE s n 9 r g)=⟨s.cf,s.hd,s.tl,s.md,s.sl,s.sn,s.rc,s.fe,s.fl,s.ee,s.el,s.nw,s.th,[]++[tlE s n 9 r g]⟩ by unfold St.addLg;rw [hl]]
  refine kS mixed (ext:=[199,229,228]) (fuel:=9) (n:=5) (pos:=18)
   (orc:=[vD true,U0 s.sl,l5 s.sn,l5 s.rc,l5 s.fl,l5 s.el,aT s.th,.slice none 0 0,.nilFunc,thT (gth s.th n),K5 ([]++[tlE s n 9 r g])])
   (an (fQ hA ho)<|an (bi s.sl hf.sl)<|an (C9 s.sn hf.sn)<|an (C9 s.rc hf.rc)<|an (C9 s.fl hf.fl)<|an (C9 s.el hf.el)<|an (kD s.th)<|an (P6 (f:=thT) (Ab hn) hf.th) <|
    an (X5 s.lg)<|an (show s.lg.length=0 by rw [hl];rfl)<|an (idT hn)<|an (ixT hn)<|an (rfl:(1:Nat)=1)<|an (CR (tlE s n 9 r g))<|an (gm (f:=enT) (tlE s n 9 r g)) <|
    an (lenT s.th)<|an (Xk [] (tlE s n 9 r g)) trivial) (by kernel_rfl)
 ·refine kS mixed (ext:=[199,229,228]) (fuel:=9) (n:=5) (pos:=18)
   (orc:=[vD true,U0 s.sl,l5 s.sn,l5 s.rc,l5 s.fl,l5 s.el,aT s.th,K5 s.lg,.nilFunc,thT (gth s.th n),K5 (s.lg++[tlE s n 9 r g])])
   (an (fQ hA ho)<|an (bi s.sl hf.sl)<|an (C9 s.sn hf.sn)<|an (C9 s.rc hf.rc)<|an (C9 s.fl hf.fl)<|an (C9 s.el hf.el)<|an (kD s.th)<|an (P6 (f:=thT) (Ab hn) hf.th) <|
    an (X5 s.lg)<|an (P6 (f:=enT) hl hf.lg)<|an (idT hn)<|an (ixT hn)<|an (rfl:(1:Nat)=1)<|an (CR (tlE s n 9 r g))<|an (ND s.lg)<|an (bU (f:=enT) s.lg (tlE s n 9 r g) hf.lg) <|
    an (lenT s.th)<|an (Xk s.lg (tlE s n 9 r g)) trivial) (by kernel_rfl)
theorem kQ {s:St} {i:Int} (hA:hasB s i=false) (ho:s.ok) (hf:s.fit):AC Tryz.prog 154 [stT s,.int .i64 i] (stT s) :=
 d9 mixed (ext:=[199,229,228,231,230]) (fuel:=9) (n:=5) (orc:=[vD false,U0 s.sl,l5 s.sn,l5 s.rc,l5 s.fl,l5 s.el,aT s.th,K5 s.lg])
  (an (fQ hA ho)<|an (bi s.sl hf.sl)<|an (C9 s.sn hf.sn)<|an (C9 s.rc hf.rc)<|an (C9 s.fl hf.fl)<|an (C9 s.el hf.el)<|an (rP s.th hf.th)<|an (nJ s.lg hf.lg) trivial) (by kernel_rfl)
end
section
open Go.ChangeShapes Go.WideShapes Go.ChangeAt Go.RowKit
theorem Tt {W:World} {base:Nat}:Ow W base 3 1 Z8 [] (.slice none 0 0):=⟨by simp,.inl ⟨rfl,rfl⟩⟩
theorem Ow.monoV {α:Type} {W:World} {base base' k:Nat} {e:TypeId} {enc:α→List Value} {xs:List α} {v:Value} (h:Ow W base e k enc xs v) (hb:base' ≤ base):Ow W base' e k enc xs v:=by
 obtain ⟨h0,h1 | ⟨g,cap,cur,hv,hbg,hr⟩⟩:=h
 ·exact ⟨h0,.inl h1⟩
 ·exact ⟨h0,.inr ⟨g,cap,cur,hv,Nat.le_trans hb hbg,hr⟩⟩
def a2c (w:World) (r:List Int) (e:Ending) (w' : World):Prop :=
 ∃ (p:Option Addr) (k:Nat),e = .returned (.slice p r.length k)∧Ow w' w.heap.size 3 1 Z8 r (.slice p r.length k)∧Kept w w'
theorem Kq (l:List Int) (p:Option Addr) (k:Nat) (w:World) (hl:Sl w 1 Z8 l (.slice p l.length k)) (hm:l.length≤1000000):Calls Tryz.prog 285 #[.slice p l.length k] w (a2c w l):=by
 have H:=Lib.hid hl
 clear hl
 go_enter Tryz.func285,Tryz.ntmps285
 go_wp2_with ((at_builtin;refine Ga (wb:=w) rfl _ _ 28 rfl (.int .i64 0) 8 Tryz.underlying28 sJ rfl (by decide) jk rfl rfl (xs:=[]) (ys:=l) Tt H.out (Below.refl _ _) (by simp only [List.length_append,List.length_nil,List.length_cons];unfold maxLen;omega) (by simp only [List.length_append,List.length_nil,List.length_cons];omega) ?_);intro v1 w1 h1 hb1)
 obtain ⟨p1,k1,rfl,-⟩:=(Ow.sl jk h1).is
 go_ret
 exact ⟨p1,k1,rfl,h1,hb1⟩
def Cc:Go.Shelf.Ren:=⟨fun | 23=>286 | n=>n,fun | 22=>28 | 3=>3 | 4=>4 | 0=>0 | n=>n,fun | n=>n⟩
theorem QO:Go.Proofs.Lays2.n23 Tryz.prog Cc:={
 mixed:=by kernel_rfl
 f23:=Tryz.func286.trans (congrArg some (by kernel_rfl))
 t0:=Tryz.underlying0
 a0:=Tryz.isAgg0
 z0:=Tryz.sizeOf0
 v0:=Tryz.zeroValue0
 t3:=Tryz.underlying3
 a3:=Tryz.isAgg3
 z3:=Tryz.sizeOf3
 v3:=Tryz.zeroValue3
 t4:=Tryz.underlying4
 a4:=Tryz.isAgg4
 z4:=Tryz.sizeOf4
 v4:=Tryz.zeroValue4
 t22:=Tryz.underlying28
 a22:=Tryz.isAgg28
 z22:=Tryz.sizeOf28
 v22:=Tryz.zeroValue28
 i3:=by kernel_rfl }
theorem yX (l:List Int):l.flatMap Z8=l.map (.int .i64):=by induction l <;> simp_all [Z8]
theorem Su (l:List Int) (i:Nat) (p:Option Addr) (k base:Nat) (w:World) (ho:Ow w base 3 1 Z8 l (.slice p l.length k)) (hi:i<l.length) :
  Calls Tryz.prog 286 #[.slice p l.length k,.int .i64 i,.int .i64 (i+1:Nat)] w fun e w' => e = .returned (.slice p (l.length - 1) k)∧Ow w' base 3 1 Z8 (l.eraseIdx i) (.slice p (l.length - 1) k)∧Below base w w' := by
 obtain ⟨hlen,⟨h1,h2⟩ | ⟨g,cap,cur,h1,hb,hg,hl,hm,hs,ht⟩⟩:=ho
 ·omega
 ·cases h1
  have hcell:∀ j,j<l.length→cur[j]? = some (.int .i64 l.toArray[j]!):=by
   intro j hj
   have h3:cur.toList[j]? = some (.int .i64 l[j]):=by
    have h4:(cur.toList.take (l.length * 1))[j]? = cur.toList[j]? := List.getElem?_take_of_lt (by omega)
    rw [← h4,ht,yX]
    simp [hj]
   rw [← Array.getElem?_toList,h3]
   simp [hj]
  have hH:Go.Sort.Holds (Value.int .i64) w g 0 l.toArray:=by
   intro j hj
   have hj' : j<l.length:=by simpa using hj
   refine ⟨?_,by simp [World.frozen?,hg]⟩
   simp only [World.cell?,hg,Nat.zero_add]
   simpa using hcell j hj'
  refine (Go.Proofs.Any.slices_Delete_int QO g 0 k i (i+1) l w hH hl hm (by omega) (by omega)).mono ?_
  rintro e w' ⟨rfl,q,rfl⟩
  have hsz:(l.take i++l.drop (i+1)++List.replicate (i+1 - i) (0:Int)).toArray.size=l.length:=by simp;omega
  have her:l.take i++l.drop (i+1)=l.eraseIdx i:=(List.eraseIdx_eq_take_drop_succ l i).symm
  have hel:(l.eraseIdx i).length=l.length - 1:=List.length_eraseIdx_of_lt hi
  rw [her] at hsz ⊢
  obtain ⟨D,hD⟩:∃ D,(l.eraseIdx i++List.replicate (i+1 - i) (0:Int)).toArray=D:=⟨_,rfl⟩
  rw [hD] at hsz ⊢
  have hDl:D.toList.take (l.length - 1)=l.eraseIdx i:=by rw [← hD,← hel];simp
  have hheap:(Go.Sort.putRow (Value.int .i64) (Go.Sort.ahead w q) g 0 D).heap[g]? = some (.cells (Go.Sort.putCells (Value.int .i64) 0 D cur) 3 (0,0)):=by
   simp [Go.Sort.putRow,Go.Sort.mapBlock,Go.Sort.ahead,Array.getElem?_modify,hg,Go.Sort.onCells]
  refine ⟨by rw [show l.length - (i+1 - i)=l.length - 1 by omega],⟨by rw [X4 jk,hel],.inr ⟨g,k,_,by rw [hel],hb,hheap,by omega,hm,by simpa [Go.Sort.putCells] using hs,?_⟩⟩,?_⟩
  ·apply List.ext_getElem?
   intro j
   rw [List.getElem?_take,yX,hel,← hDl]
   split
   ·rename_i hj
    have hjD:j<D.size:=by omega
    have hjc:j<cur.size:=by omega
    have h5:(D.toList.take (l.length - 1))[j]? = some D[j]:=by rw [List.getElem?_take_of_lt (by omega)];simp [hjD]
    rw [List.getElem?_map,h5]
    simp [Go.Sort.putCells,hjD,hjc]
   ·rename_i hj
    rw [List.getElem?_eq_none (by simp;omega)]
  ·refine ⟨rfl,rfl,rfl,by simp [Go.Sort.ahead],fun j hj=>?_⟩
   simp [Go.Sort.putRow,Go.Sort.mapBlock,Go.Sort.ahead,Array.getElem?_modify]
   intro e;omega
def a0z (w:World) (r:List Int) (c:Int) (e:Ending) (w' : World):Prop :=
 ∃ (p:Option Addr) (k:Nat),e = .returned (.tuple #[.slice p r.length k,.int .i64 c])∧Ow w' w.heap.size 3 1 Z8 r (.slice p r.length k)∧Kept w w'
theorem UU {l:List Int} {i:Int} (h:plI l i<0):lvE l i=40∧lvL l i=l:=by simp [lvE,lvL,h]
theorem Wq {l:List Int} {i:Int} (h:¬ plI l i<0):∃ n:Nat,plI l i=n∧n<l.length∧lvE l i=0∧lvL l i=l.eraseIdx n:=by
 have h1:=YB (l:=l) (i:=i)
 exact ⟨(plI l i).toNat,by omega,by omega,by simp [lvE,h],by simp [lvL,h]⟩
theorem Fg (l:List Int) (i:Int) (p:Option Addr) (k:Nat) (w:World) (hl:Sl w 1 Z8 l (.slice p l.length k)):Calls Tryz.prog 284 #[.slice p l.length k,.int .i64 i] w fun e w' => e = .returned (.int .i64 (plI l i))∧Kept w w' := by
 obtain ⟨_,_,e,h1,h2,h3,h4⟩:=hl.is
 cases e
 refine ((zC (l:=l) (i:=i) (by omega)) (fun _=>False) w _ (fun g h=>h.elim) (X7.2 ⟨_,_,rfl,V5.2 ⟨p,k,rfl,(Sl.loc hl).mono fun _ _ h=>h⟩,_,_,rfl,p8.2 rfl,rfl⟩)).mono ?_
 rintro e w' ⟨c,rfl,hr,hk⟩
 rw [p8] at hr
 exact ⟨by rw [hr],hk⟩
set_option maxHeartbeats 2000000 in
theorem Sy (l:List Int) (i:Int) (p:Option Addr) (k:Nat) (w:World) (hl:Sl w 1 Z8 l (.slice p l.length k)) (hm:l.length≤999999) :
  Calls Tryz.prog 269 #[.slice p l.length k,.int .i64 i] w (a0z w (lvL l i) (lvE l i)):=by
 have H:=Lib.hid hl
 clear hl
 by_cases hn:plI l i<0
 ·obtain ⟨e1,e2⟩:=UU hn
  rw [e1,e2]
  clear e1 e2
  go_enter Tryz.func269,Tryz.ntmps269
  go_wp2_with fail
  refine (Fg l i p k _ (H.out.kept (by exact F6))).mono ?_
  rintro e w1 ⟨rfl,hg1⟩
  go_wp2_with fail
  refine (Kq l p k _ (H.out.kept (by exact F6)) (by omega)).mono ?_
  rintro e w3 ⟨p3,k3,rfl,hO3,hg3⟩
  have hS3:=Ow.monoV hO3 hg1.size
  clear hO3
  go_wp2
  go_ret2
  exact ⟨p3,k3,rfl,hS3,by exact F6⟩
 ·obtain ⟨n,h1,h2,e1,e2⟩:=Wq hn
  rw [e1,e2]
  have HP:=Lib.hid h1
  have hel:(l.eraseIdx n).length=l.length - 1:=List.length_eraseIdx_of_lt h2
  have HE:=Lib.hid hel
  clear e1 e2 hn h1 hel
  have i1:¬ (n:Int)<0:=by omega
  have i2:IntKind.i64.wrap ((n:Int)+1)=(n:Int)+1:=IntWalk.i64_in _ (by omega)
  go_enter Tryz.func269,Tryz.ntmps269
  go_wp2_with fail
  refine (Fg l i p k _ (H.out.kept (by exact F6))).mono ?_
  rintro e w1 ⟨rfl,hg1⟩
  rw [HP.out]
  go_wp2_with fail
  refine (Kq l p k _ (H.out.kept (by exact F6)) (by omega)).mono ?_
  rintro e w3 ⟨p3,k3,rfl,hO3,hg3⟩
  have HO:=Lib.hid (Su l n p3 k3 w1.heap.size w3 hO3 h2)
  clear hO3
  go_wp2_with fail
  refine HO.out.mono ?_
  rintro e w4 ⟨rfl,hO4,hg4⟩
  have hS4:=Ow.monoV (HE.out.symm ▸ hO4:Ow w4 w1.heap.size 3 1 Z8 (l.eraseIdx n) (.slice p3 (l.eraseIdx n).length k3)) hg1.size
  have hB4:Below w.heap.size w w4:=hg1.trans ((hg3.trans hg4).mono hg1.size)
  clear hO4 hg1 hg3 hg4
  go_wp2
  go_ret2
  exact ⟨p3,k3,by rw [HE.out];rfl,hS4,hB4⟩
theorem jA (l:List Int) (i:Int) (hm:l.length≤999999):AC Tryz.prog 269 [l5 l,.int .i64 i] (.tuple #[l5 (lvL l i),.int .i64 (lvE l i)]):=by
 intro O W vs hl hat
 obtain ⟨ys,rfl,_,_,rfl,h0,_,_,rfl,h1,rfl⟩:=T9 hat
 obtain ⟨p,k,rfl,hs⟩:=V5.1 h0
 rw [p8] at h1
 subst h1
 refine (Sy l i p k W hs.s hm).mono ?_
 rintro e W' ⟨p',k',rfl,ho,hk⟩
 exact ⟨_,rfl,vX.2 ⟨_,rfl,_,_,rfl,V5.2 ⟨p',k',rfl,(Ow.loc jk ho).mono fun g hg hO=>by have:=hl g hO;omega⟩,_,_,rfl,p8.2 rfl,rfl⟩,hk⟩
end
section
open Go.ChangeShapes Go.WideShapes Go.ChangeAt Go.RowKit
structure Wo3 where
 hd:Int
 tl:Int
 md:Int
instance enEq:DecidableEq En:=fun a b=>decidable_of_iff (a.th=b.th∧a.ki=b.ki∧a.va=b.va∧a.re=b.re∧a.go=b.go) (by cases a;cases b;simp)
set_option maxHeartbeats 1000000 in
theorem Uz (a b:En) (w:World):(Op.equal 60 (.agg #[.int .i64 a.th,.int .i64 a.ki,.int .i64 a.va,.int .i64 a.re,.int .i64 a.go]) (.agg #[.int .i64 b.th,.int .i64 b.ki,.int .i64 b.va,.int .i64 b.re,.int .i64 b.go])).run Tryz.prog w = .ok (decide (a=b)) w:=by
 have hu:=Tryz.underlying60
 have h3:=Tryz.underlying3
 have h4:=Tryz.underlying4
 have hp:Tryz.prog.stoodInHeld 60=false:=by kernel_rfl
 have hc:Tryz.prog.info? 3=_:=rfl
 have hd:Tryz.prog.info? 4=_:=rfl
 have e:decide (a=b)=(a.th==b.th&&((a.ki==b.ki&&((a.va==b.va&&((a.re==b.re&&(a.go==b.go)))))))):=by
  rw [Bool.eq_iff_iff];cases a;cases b;simp [and_assoc]
 rw [e]
 unfold Op.equal Op.maxDepth
 rw [run_equalIn_struct w 9999 _ _ _ (by unfold Program.fieldsOf;rw [hu]) hp]
 unfold Program.fieldsOf
 rw [hu]
 cases c0:(a.th==b.th)
 ·simp [Op.eqFields,part,isAgg,run_underlying h3,run_underlying h4,run_equalIn_int _ _ _ _ _ _ _ h3,run_equalIn_bool _ _ _ _ _ h4,c0]
 cases c1:(a.ki==b.ki)
 ·simp [Op.eqFields,part,isAgg,run_underlying h3,run_underlying h4,run_equalIn_int _ _ _ _ _ _ _ h3,run_equalIn_bool _ _ _ _ _ h4,c0,c1]
 cases c2:(a.va==b.va)
 ·simp [Op.eqFields,part,isAgg,run_underlying h3,run_underlying h4,run_equalIn_int _ _ _ _ _ _ _ h3,run_equalIn_bool _ _ _ _ _ h4,c0,c1,c2]
 cases c3:(a.re==b.re)
 ·simp [Op.eqFields,part,isAgg,run_underlying h3,run_underlying h4,run_equalIn_int _ _ _ _ _ _ _ h3,run_equalIn_bool _ _ _ _ _ h4,c0,c1,c2,c3]
 cases c4:(a.go==b.go)
 ·simp [Op.eqFields,part,isAgg,run_underlying h3,run_underlying h4,run_equalIn_int _ _ _ _ _ _ _ h3,run_equalIn_bool _ _ _ _ _ h4,c0,c1,c2,c3,c4]
 simp [Op.eqFields,part,isAgg,run_underlying h3,run_underlying h4,run_equalIn_int _ _ _ _ _ _ _ h3,run_equalIn_bool _ _ _ _ _ h4,c0,c1,c2,c3,c4]
theorem a1R (a b:En) (w:World):(binOp .neq 60 (.agg #[.int .i64 a.th,.int .i64 a.ki,.int .i64 a.va,.int .i64 a.re,.int .i64 a.go]) (.agg #[.int .i64 b.th,.int .i64 b.ki,.int .i64 b.va,.int .i64 b.re,.int .i64 b.go])).run Tryz.prog w = .ok (.bool (!decide (a=b))) w:=by
 have h:=Uz a b w
 have hu:=Tryz.underlying60
 simp [binOp,h,run_underlying hu,Result.andThen]
instance cfEq:DecidableEq Cf:=fun a b=>decidable_of_iff (a.lg=b.lg∧a.th=b.th∧a.po=b.po∧a.wt=b.wt∧a.sp=b.sp∧a.yi=b.yi∧a.si=b.si) (by cases a;cases b;simp)
instance woEq:DecidableEq Wo3:=fun a b=>decidable_of_iff (a.hd=b.hd∧a.tl=b.tl∧a.md=b.md) (by cases a;cases b;simp)
set_option maxHeartbeats 1000000 in
theorem Qt (a b:Wo3) (w:World):(Op.equal 46 (.agg #[.int .i64 a.hd,.int .i64 a.tl,.int .i64 a.md]) (.agg #[.int .i64 b.hd,.int .i64 b.tl,.int .i64 b.md])).run Tryz.prog w = .ok (decide (a=b)) w:=by
 have hu:=Tryz.underlying46
 have h3:=Tryz.underlying3
 have h4:=Tryz.underlying4
 have hp:Tryz.prog.stoodInHeld 46=false:=by kernel_rfl
 have hc:Tryz.prog.info? 3=_:=rfl
 have hd:Tryz.prog.info? 4=_:=rfl
 have e:decide (a=b)=(a.hd==b.hd&&((a.tl==b.tl&&(a.md==b.md)))):=by
  rw [Bool.eq_iff_iff];cases a;cases b;simp [and_assoc]
 rw [e]
 unfold Op.equal Op.maxDepth
 rw [run_equalIn_struct w 9999 _ _ _ (by unfold Program.fieldsOf;rw [hu]) hp]
 unfold Program.fieldsOf
 rw [hu]
 cases c0:(a.hd==b.hd)
 ·simp [Op.eqFields,part,isAgg,run_underlying h3,run_underlying h4,run_equalIn_int _ _ _ _ _ _ _ h3,run_equalIn_bool _ _ _ _ _ h4,c0]
 cases c1:(a.tl==b.tl)
 ·simp [Op.eqFields,part,isAgg,run_underlying h3,run_underlying h4,run_equalIn_int _ _ _ _ _ _ _ h3,run_equalIn_bool _ _ _ _ _ h4,c0,c1]
 cases c2:(a.md==b.md)
 ·simp [Op.eqFields,part,isAgg,run_underlying h3,run_underlying h4,run_equalIn_int _ _ _ _ _ _ _ h3,run_equalIn_bool _ _ _ _ _ h4,c0,c1,c2]
 simp [Op.eqFields,part,isAgg,run_underlying h3,run_underlying h4,run_equalIn_int _ _ _ _ _ _ _ h3,run_equalIn_bool _ _ _ _ _ h4,c0,c1,c2]
theorem a0S (a b:Wo3) (w:World):(binOp .neq 46 (.agg #[.int .i64 a.hd,.int .i64 a.tl,.int .i64 a.md]) (.agg #[.int .i64 b.hd,.int .i64 b.tl,.int .i64 b.md])).run Tryz.prog w = .ok (.bool (!decide (a=b))) w:=by
 have h:=Qt a b w
 have hu:=Tryz.underlying46
 simp [binOp,h,run_underlying hu,Result.andThen]
end
end Go.Proofs.YtfogkllejkmpdaaGreat
