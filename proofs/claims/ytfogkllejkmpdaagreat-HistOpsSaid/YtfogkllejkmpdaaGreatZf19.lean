/- Texts merged: FifoUT, FifoDT, FdoT, FifoAT, FalT, HbVT, HyDT, HyGT, HbPT, HiCT, FwT, Hi0T, Hi1T, RrT. -/
import Derived.Test.YtfogkllejkmpdaaGreatZf18
import Derived.Deep.QuietTactic
import Derived.Deep.RegionHeld3
import Derived.Test.YtfogkllejkmpdaaGreatZf11
import Derived.LoopTactic
import Derived.Test.YtfogkllejkmpdaaGreatZf17
import Derived.Test.YtfogkllejkmpdaaGreatZf13
namespace Go.Proofs.YtfogkllejkmpdaaGreat
set_option linter.unusedVariables false
set_option linter.unusedSimpArgs false
set_option maxRecDepth 100000
section
open Go.ChangeShapes Go.WideShapes Go.ChangeAt Go.RowKit
theorem PS {s r:Int} {mb i:Nat} (hi:i<14) (hk:aD s r=U1 i) {W:World} (h:RulesAt W mb) :
  (Instr.lookup 126 (.map (some mb)) (aD s r) true).run Tryz.prog W = .ok (.tuple #[zh i,.bool true]) W:=by
 rcases xy h s r with ⟨j,hj,hkj,hr⟩ | ⟨hno,_⟩
 ·have:i=j:=by
   have:=hk.symm.trans hkj
   rw [U1,U1,jL] at this
   exact Aw i hi j hj this
  subst this
  exact hr
 ·exact absurd hk (hno i hi)
theorem MK {s r:Int} {mb:Nat} (hk:∀ i,i<14→aD s r≠U1 i) {W:World} (h:RulesAt W mb) :
  (Instr.lookup 126 (.map (some mb)) (aD s r) true).run Tryz.prog W = .ok (.tuple #[.nilFunc,.bool false]) W:=by
 rcases xy h s r with ⟨j,hj,hkj,hr⟩ | ⟨_,hr⟩
 ·exact absurd hkj (hk j hj)
 ·exact hr
set_option maxHeartbeats 4000000 in
theorem Hw (base qb:Nat) (a:Qu) (p:Option Addr) (k:Nat) (w:World) (hA:At w base qb a p k) (th ki va re go:Int) (mb:Nat) (hR:RulesAt w mb) (hk:∀ i,i<14→aD (fq ki) re≠U1 i):Calls Tryz.prog 87 #[.pointer (some ⟨qb,0,none⟩),.map (some mb),.agg #[.int .i64 th,.int .i64 ki,.int .i64 va,.int .i64 re,.int .i64 go]] w (Told base qb p (a,false) w):=by
 obtain ⟨es,ck,ho,hL⟩:=hR;have hlt:mb<w.heap.size:=BU ho;obtain ⟨L,hLL⟩:∃ L:List (Nat×Obj),[(mb,Obj.map es ck),(w.heap.size,.cells #[.int .i64 th,.int .i64 ki,.int .i64 va,.int .i64 re,.int .i64 go] 60 (0,0))]=L:=⟨_,rfl⟩;have hL2:∀ x:Wo w L,ib x.at [(mb,Obj.map es ck),(w.heap.size,.cells #[.int .i64 th,.int .i64 ki,.int .i64 va,.int .i64 re,.int .i64 go] 60 (0,0))]:=fun x=>hLL.symm ▸ x.objs
 have hlk:∀ x:Wo w L,(Instr.lookup 126 (.map (some mb)) (.agg #[.int .i64 (fq ki),.int .i64 re]) true).run Tryz.prog x.at = .ok (.tuple #[.nilFunc,.bool false]) x.at:=fun x=>MK hk ⟨es,ck,(hL2 x).1,hL⟩
 have q1:∀ x:Wo w L,x.at.cell? ⟨w.heap.size,1,none⟩=some (.int .i64 ki):=fun x=>U8 (hL2 x).2.1 1;have q3:∀ x:Wo w L,x.at.cell? ⟨w.heap.size,3,none⟩=some (.int .i64 re):=fun x=>U8 (hL2 x).2.1 3;have hob:ib (w.alloc (.cells #[.int .i64 th,.int .i64 ki,.int .i64 va,.int .i64 re,.int .i64 go] 60 (0,0))) L:=(by rw [← hLL];exact ⟨Gu hlt ho,BP rfl,trivial⟩);have hLh:=Lib.hid hLL;have hL2h:=Lib.hid hL2;have hkh:=Lib.hid hk;have hoh:=Lib.hid ho;clear hLL hk ho hL2
 go_enter Tryz.func87,Tryz.ntmps87
 go_wp2
 refine mH (w:=w) L (by kernel_rfl) (by kernel_rfl) (by exact F6) hob (fun hne=>?_);(repeat (go_big_quiet_step ((go_at_call 137;exact uS (zX _ _)))));refine wpQuiet_nil ?_;intro wq hwq;obtain ⟨xwd,hxwd⟩:=hwq;have hgx:Below w.heap.size w wq:=(by rw [hxwd];exact xwd.kept);have hoe:wq.heap[w.heap.size]? = some (.cells #[.int .i64 th,.int .i64 ki,.int .i64 va,.int .i64 re,.int .i64 go] 60 (0,0)):=(by rw [hxwd];exact (hL2h.out xwd).2.1);clear hlk q1 q3 hxwd xwd hne hL2h;have u0:=U8 hoe 0;have u1:=U8 hoe 1;have u2:=U8 hoe 2;have u3:=U8 hoe 3;have u4:=U8 hoe 4;have huz:=BU hoe;have hoeh:=Lib.hid hoe;clear hoe
 go_wp2
 go_ret
 exact Q9 hA ⟨rfl,by exact F6⟩
set_option maxHeartbeats 4000000 in
theorem MM (base qb:Nat) (a:Qu) (p:Option Addr) (k:Nat) (w:World) (hA:At w base qb a p k) (th ki va re go:Int) (hm:a.vals.length≤1000) (mb:Nat) (hR:RulesAt w mb) (i:Nat) (hi:i<14) (hk:aD (fq ki) re=U1 i):Calls Tryz.prog 87 #[.pointer (some ⟨qb,0,none⟩),.map (some mb),.agg #[.int .i64 th,.int .i64 ki,.int .i64 va,.int .i64 re,.int .i64 go]] w (Told base qb p (a.rule ⟨th,ki,va,re,go⟩ i) w):=by
 obtain ⟨es,ck,ho,hL⟩:=hR;have hlt:mb<w.heap.size:=BU ho;obtain ⟨L,hLL⟩:∃ L:List (Nat×Obj),[(mb,Obj.map es ck),(w.heap.size,.cells #[.int .i64 th,.int .i64 ki,.int .i64 va,.int .i64 re,.int .i64 go] 60 (0,0))]=L:=⟨_,rfl⟩;have hL2:∀ x:Wo w L,ib x.at [(mb,Obj.map es ck),(w.heap.size,.cells #[.int .i64 th,.int .i64 ki,.int .i64 va,.int .i64 re,.int .i64 go] 60 (0,0))]:=fun x=>hLL.symm ▸ x.objs
 have hlk:∀ x:Wo w L,(Instr.lookup 126 (.map (some mb)) (.agg #[.int .i64 (fq ki),.int .i64 re]) true).run Tryz.prog x.at = .ok (.tuple #[zh i,.bool true]) x.at:=fun x=>PS hi hk ⟨es,ck,(hL2 x).1,hL⟩
 have hC:∀ W,Below w.heap.size w W→Calls Tryz.prog (M5.getD i (0,0,0)).2.2 #[.pointer (some ⟨qb,0,none⟩),.agg #[.int .i64 th,.int .i64 ki,.int .i64 va,.int .i64 re,.int .i64 go]] W (Told base qb p (a.rule ⟨th,ki,va,re,go⟩ i) W):=fun W hW=>LX base qb a p k W (hA.kept hW) ⟨th,ki,va,re,go⟩ hm i hi
 have q1:∀ x:Wo w L,x.at.cell? ⟨w.heap.size,1,none⟩=some (.int .i64 ki):=fun x=>U8 (hL2 x).2.1 1;have q3:∀ x:Wo w L,x.at.cell? ⟨w.heap.size,3,none⟩=some (.int .i64 re):=fun x=>U8 (hL2 x).2.1 3;have hob:ib (w.alloc (.cells #[.int .i64 th,.int .i64 ki,.int .i64 va,.int .i64 re,.int .i64 go] 60 (0,0))) L:=(by rw [← hLL];exact ⟨Gu hlt ho,BP rfl,trivial⟩);have hLh:=Lib.hid hLL;have hL2h:=Lib.hid hL2;have hkh:=Lib.hid hk;have hoh:=Lib.hid ho;clear hLL hk ho hL2
 unfold zh fnV at hlk
 generalize hr:a.rule ⟨th,ki,va,re,go⟩ i=rr at hC ⊢
 have hrh:=Lib.hid hr
 clear hr
 obtain rfl | rfl | rfl | rfl | rfl | rfl | rfl | rfl | rfl | rfl | rfl | rfl | rfl | rfl:i=0∨i=1∨i=2∨i=3∨i=4∨i=5∨i=6∨i=7∨i=8∨i=9∨i=10∨i=11∨i=12∨i=13:=by omega
 all_goals
  simp only [M5,List.getD_cons_zero,List.getD_cons_succ] at hlk hC
  go_enter Tryz.func87,Tryz.ntmps87
  go_wp2
  refine mH (w:=w) L (by kernel_rfl) (by kernel_rfl) (by exact F6) hob (fun hne=>?_);(repeat (go_big_quiet_step ((go_at_call 137;exact uS (zX _ _)))));refine wpQuiet_nil ?_;intro wq hwq;obtain ⟨xwd,hxwd⟩:=hwq;have hgx:Below w.heap.size w wq:=(by rw [hxwd];exact xwd.kept);have hoe:wq.heap[w.heap.size]? = some (.cells #[.int .i64 th,.int .i64 ki,.int .i64 va,.int .i64 re,.int .i64 go] 60 (0,0)):=(by rw [hxwd];exact (hL2h.out xwd).2.1);clear hlk q1 q3 hxwd xwd hne hL2h;have u0:=U8 hoe 0;have u1:=U8 hoe 1;have u2:=U8 hoe 2;have u3:=U8 hoe 3;have u4:=U8 hoe 4;have huz:=BU hoe;have hoeh:=Lib.hid hoe;clear hoe
  go_wp2_with ((refine (hC _ (by exact F6)).mono ?_;rintro e wy hT;obtain ⟨rfl,hT2⟩:=hT))
  go_ret
  exact Told.after (by exact F6) ⟨rfl,hT2⟩
theorem zP (base qb:Nat) (a:Qu) (p:Option Addr) (k:Nat) (w:World) (hA:At w base qb a p k) (e:En) (hm:a.vals.length≤1000) (mb:Nat) (hR:RulesAt w mb):Calls Tryz.prog 87 #[.pointer (some ⟨qb,0,none⟩),.map (some mb),.agg #[.int .i64 e.th,.int .i64 e.ki,.int .i64 e.va,.int .i64 e.re,.int .i64 e.go]] w (Told base qb p (a.tell e) w):=by
 by_cases h:∃ i,i<14∧aD (fq e.ki) e.re=U1 i
 ·obtain ⟨i,hi,hk⟩:=h
  rw [MF i hi hk]
  exact MM base qb a p k w hA e.th e.ki e.va e.re e.go hm mb hR i hi hk
 ·have hk:∀ i,i<14→aD (fq e.ki) e.re≠U1 i:=fun i hi hk=>h ⟨i,hi,hk⟩
  rw [Oi hk]
  exact Hw base qb a p k w hA e.th e.ki e.va e.re e.go mb hR hk
end
section
open Go.ChangeShapes Go.WideShapes Go.ChangeAt Go.RowKit
end
section
open Go.RowKit
end
section
open Go.ChangeShapes Go.WideShapes Go.ChangeAt Go.RowKit
def a2p (w:World) (r:Qu×Nat) (e:Ending) (w' : World):Prop :=
 ∃ (p:Option Addr) (k:Nat),e = .returned (.tuple #[.agg #[.slice p r.1.vals.length k,.int .i64 r.1.cap,.int .i64 r.1.pol,.int .i64 r.1.mode],.int .i64 r.2])∧Sl w' 1 Z8 r.1.vals (.slice p r.1.vals.length k)∧Kept w w' ∧ ∀ x,p=some x→w.heap.size≤x.block
theorem Ug (a:Qu) (n:Int):(a.gone n).1.vals.length≤a.vals.length:=by
 obtain ⟨l,c,p,m⟩:=a
 cases l with
 | nil=>simp [Qu.gone]
 | cons v r=>simp only [Qu.gone];split <;> simp [Qu.with]
theorem Mi (a:Qu) (e:En):(a.tell e).1.vals.length≤a.vals.length+1:=by
 have:=Ug a e.go
 unfold Qu.tell Qu.send Qu.recv
 repeat' split
 all_goals (simp [Qu.with];try omega)
def zo (a:Qu) (es:List En) (j:Nat) (b:Qu):Prop:=a.all es=((b.all (es.drop j)).1,(b.all (es.drop j)).2+j)
theorem Oc (a:Qu) (es:List En):zo a es 0 a:=by simp [zo]
theorem OD {a b:Qu} {es:List En} {j:Nat} (hj:j<es.length) (h:zo a es j b) (ht:(b.tell es[j]).2=true):zo a es (j+1) (b.tell es[j]).1:=by
 unfold zo at *
 rw [h,List.drop_eq_getElem_cons hj]
 simp [Qu.all,ht];omega
theorem LV {a b:Qu} {es:List En} {j:Nat} (hj:j<es.length) (h:zo a es j b) (ht:(b.tell es[j]).2=false):a.all es=(b,j):=by
 unfold zo at h
 rw [h,List.drop_eq_getElem_cons hj]
 simp [Qu.all,ht]
theorem Tn {a b:Qu} {es:List En} (h:zo a es es.length b):a.all es=(b,es.length):=by
 unfold zo at h
 rw [h]
 simp [Qu.all]
theorem Jk (a:Qu) (e:En) (h:(a.tell e).2=false):(a.tell e).1=a:=by
 have g:∀ n,(a.gone n).2=false→(a.gone n).1=a:=fun n h=>by
  obtain ⟨l,c,p,m⟩:=a
  cases l with
  | nil=>rfl
  | cons v r=>simp only [Qu.gone] at h ⊢;split at h <;> simp_all
 revert h
 unfold Qu.tell Qu.send Qu.recv
 repeat' split
 all_goals first | (intro _;rfl) | (intro h;exact g _ h) | (intro h;cases h)
def Zj (V:World) (base ob mb:Nat) (a:Qu) (es:List En) (j:Nat) (wr:World):Prop :=
 ∃ (b:Qu) (p' : Option Addr) (k' : Nat),zo a es j b∧b.vals.length≤a.vals.length+j∧At wr base ob b p' k' ∧ RulesAt wr mb∧(∀ x,p' = some x→x.block≠mb)∧Below base V wr
set_option maxHeartbeats 4000000 in
theorem SH (a:Qu) (es:List En) (p pl:Option Addr) (k kl:Nat) (w:World) (hl:Sl w 1 Z8 a.vals (.slice p a.vals.length k)) (hes:Sl w 5 En.cells es (.slice pl es.length kl)) (hm:a.vals.length≤200) (hn:es.length≤200) :
  Calls Tryz.prog 62 #[.agg #[.slice p a.vals.length k,.int .i64 a.cap,.int .i64 a.pol,.int .i64 a.mode],.slice pl es.length kl] w (a2p w (a.all es)):=by
 obtain ⟨_,_,e1,_,_,_,hec⟩:=hes.is
 cases e1
 have hech:=Lib.hid hec
 clear hec
 go_enter Tryz.func62,Tryz.ntmps62
 go_wp2_with (first
  | (go_at_call 85;refine (NR a p k _ (hl.kept (by exact F6)) (by omega)).mono ?_;rintro e wx hT;obtain ⟨g,rfl,hg,hO,hgx⟩:=hT)
  | (go_at_call 86;refine (Ik _).mono ?_;rintro e wy hT;obtain ⟨mb,rfl,hmb,hRt,hgy⟩:=hT))
 obtain ⟨V0,hV0⟩:∃ V0,(w.alloc (.cells #[.slice p a.vals.length k,.int .i64 a.cap,.int .i64 a.pol,.int .i64 a.mode] 63)).alloc (.cells #[.slice none 0 0,.int .i64 0,.int .i64 0,.int .i64 0] 63)=V0:=⟨_,rfl⟩
 have hs0:V0.heap.size=w.heap.size+2:=by rw [← hV0];simp
 have hcs0:E8 V0 [(w.heap.size+1,0,.slice none 0 0),(w.heap.size+1,1,.int .i64 0),(w.heap.size+1,2,.int .i64 0),(w.heap.size+1,3,.int .i64 0)]:=by rw [← hV0];(exact xP)
 have hfr0:∀ j,V0.frozen? ⟨w.heap.size+1,j,none⟩=false:=by intro j;rw [← hV0];exact World.frozen?_alloc_at _ _ _ _ (by simp)
 have hB0:Below w.heap.size w V0:=by rw [← hV0];exact F6
 rw [hV0] at hg hO hgx
 clear hV0
 rw [hs0] at hg hO
 obtain ⟨V,hV⟩:∃ V,wy.alloc (.cells #[.slice (some ⟨g,0,none⟩) a.vals.length a.vals.length,.int .i64 a.cap,.int .i64 a.pol,.int .i64 a.mode] 124)=V:=⟨_,rfl⟩
 have hgV:Below V0.heap.size V0 V:=by rw [← hV];exact (hgx.trans (hgy.mono hgx.size)).alloc (Nat.le_trans hgx.size hgy.size) _
 have hglt:=(hO.lt _ rfl).2
 have hA:At V (w.heap.size+2) wy.heap.size a (some ⟨g,0,none⟩) a.vals.length:=by
  rw [← hV]
  refine ⟨?_,BP rfl,(hO.kept hgy).kept (by exact F6),fun x hx=>?_⟩
  ·have:=hgx.size;have:=hgy.size;omega
  ·cases hx;have:=hgy.size;show g≠_;simp at hglt;omega
 have hRV:RulesAt V mb:=hRt.kept (by rw [← hV];exact Below.heap_alloc _ _ _ hRt.lt)
 have hne1:mb≠wy.heap.size:=by have:=hRt.lt;omega
 have hR0:Zj V (w.heap.size+2) wy.heap.size mb a es 0 V:=⟨a,_,_,Oc a es,by omega,hA,hRV,fun x hx=>by cases hx;show g≠mb;simp at hglt;omega,Below.refl _ _⟩
 rw [hV]
 have hs0h:=Lib.hid hs0
 have hfr0h:=Lib.hid hfr0
 have hcs0h:=Lib.hid hcs0
 clear hV hO hA hs0 hfr0 hcs0 hg hglt hmb hRt hRV
 obtain ⟨ob,hob⟩:∃ ob,wy.heap.size=ob:=⟨_,rfl⟩
 have hob1:ob<V.heap.size:=by obtain ⟨b,p',k',_,_,hA,_⟩:=hR0;rw [← hob];exact hA.lt
 rw [hob] at hR0 hne1 ⊢
 clear hob hgx hgy
 go_loopw [15] (fun i wr=>∃ j:Nat,j≤es.length∧i = .int .i64 j∧Zj V (w.heap.size+2) ob mb a es j wr) (fun i _=>es.length - (intOf i).toNat)
 case atStart=>exact ⟨0,by omega,rfl,hR0⟩
 case round =>
  obtain ⟨j,hj,rfl,b,p',k',hU,hbl,hA,hR,hpm,hB⟩:=hrel
  have hs2:=hs0h.out
  have hs3:w.heap.size+2≤V.heap.size:=by have:=hgV.size;omega
  have hs4:w.heap.size+2≤wr.heap.size:=by have:=hB.size;omega
  have hlt:=hA.lt
  have hUh:=Lib.hid hU
  have hBw:Below w.heap.size w wr:=hB0.trans ((hgV.mono (by omega)).trans (hB.mono (by omega)))
  have hres:∀ W,Below (w.heap.size+2) V W→(W.cell? ⟨w.heap.size+1,0,none⟩=some (.slice none 0 0)∧W.cell? ⟨w.heap.size+1,1,none⟩=some (.int .i64 0)∧W.cell? ⟨w.heap.size+1,2,none⟩=some (.int .i64 0)∧W.cell? ⟨w.heap.size+1,3,none⟩=some (.int .i64 0))∧∀ j,W.frozen? ⟨w.heap.size+1,j,none⟩=false:=fun W hW=>by
   have hcs:=ax hgV hcs0h.out
   have hc:∀ j,W.cell? ⟨w.heap.size+1,j,none⟩=V.cell? ⟨w.heap.size+1,j,none⟩:=fun j=>hW.cell (p:=⟨w.heap.size+1,j,none⟩) (by show w.heap.size+1<_;omega)
   refine ⟨⟨(hc 0).trans hcs.1.2,(hc 1).trans hcs.2.1.2,(hc 2).trans hcs.2.2.1.2,(hc 3).trans hcs.2.2.2.1.2⟩,fun j=>?_⟩
   exact (hW.frozen (p:=⟨w.heap.size+1,j,none⟩) (by show w.heap.size+1<_;omega)).trans ((hgV.frozen (p:=⟨w.heap.size+1,j,none⟩) (by show w.heap.size+1<_;omega)).trans (hfr0h.out j))
  have hresh:=Lib.hid hres
  clear hU hs2 hres
  by_cases hlt' : j<es.length
  ·obtain ⟨bl,o,rfl,hblk,hcell⟩:=hech.out (by intro h;subst h;simp at hlt')
   have hx:=hcell j es[j] (List.getElem?_eq_getElem hlt')
   have hst:=fun h=>Lib.hid (OD hlt' hUh.out h)
   have hsp:=fun h=>Lib.hid (LV hlt' hUh.out h)
   generalize es[j]=x at hx hst hsp
   have c0:=(hBw.cell (p:=⟨bl,_,none⟩) hblk).trans (hx 0 (by omega))
   have c1:=(hBw.cell (p:=⟨bl,_,none⟩) hblk).trans (hx 1 (by omega))
   have c2:=(hBw.cell (p:=⟨bl,_,none⟩) hblk).trans (hx 2 (by omega))
   have c3:=(hBw.cell (p:=⟨bl,_,none⟩) hblk).trans (hx 3 (by omega))
   have c4:=(hBw.cell (p:=⟨bl,_,none⟩) hblk).trans (hx 4 (by omega))
   simp [En.cells] at c0 c1 c2 c3 c4
   clear hx hcell
   have hblw:bl<wr.heap.size:=Nat.lt_of_lt_of_le hblk hBw.size
   have htl:=Mi b x
   have hts:=fun h=>Lib.hid (Jk b x h)
   cases hmay:(b.tell x).2
   ·have hsp:=hsp hmay
    have hts:=hts hmay
    clear hst
    go_wp2_with ((go_at_call 87;refine (zP (w.heap.size+2) ob b p' k' _ (hA.kept (by exact F6)) x (by omega) mb (hR.kept (Below.heap_alloc _ _ _ hR.lt))).mono ?_;rintro e wt hT;obtain ⟨rfl,p2,k2,hA2,hC,hp2⟩:=hT;rw [hmay];obtain ⟨⟨t0,t1,t2,t3⟩,-⟩:=hA2.cells;have hlt2:=hA2.lt;have hBt:Below (w.heap.size+2) V wt:=Chg.below (hB.alloc hs4 _) hC hA.ge (fun x hx=>(hA.own.lt x hx).1) (by simp;omega);obtain ⟨⟨r0,r1,r2,r3⟩,hfr⟩:=hresh.out wt hBt;have f0:=hfr 0;have f1:=hfr 1;have f2:=hfr 2;have f3:=hfr 3;have hge2:=hA2.ge;have hsz2:w.heap.size+1<wt.heap.size:=(by have:=hBt.size;omega);clear hfr;have hA2h:=Lib.hid hA2;have hCh:=Lib.hid hC;have hp2h:=Lib.hid hp2;clear hA2 hC hp2))
    go_wp2
    refine bodyPost_ret (v:=.tuple #[.agg #[.slice p2 (b.tell x).1.vals.length k2,.int .i64 (b.tell x).1.cap,.int .i64 (b.tell x).1.pol,.int .i64 (b.tell x).1.mode],.int .i64 j]) (by simp [results,Tryz.results62,go_sem, *]) rfl ?_
    rw [hsp.out]
    have hO:=hA2h.out.own
    obtain ⟨y,hy⟩:∃ y,p2=some y:=by obtain ⟨g,o,_,h,_⟩:=hO;exact ⟨_,h⟩
    subst hy
    have hly:=(hO.lt y rfl).1
    have hF:=(Ov.setCell (Ov.setCell (Ov.setCell (Ov.setCell hO (p:=⟨w.heap.size+1,0,none⟩) (by show _≠w.heap.size+1;omega) (.slice (some y) (b.tell x).1.vals.length k2)) (p:=⟨w.heap.size+1,1,none⟩) (by show _≠w.heap.size+1;omega) (.int .i64 (b.tell x).1.cap)) (p:=⟨w.heap.size+1,2,none⟩) (by show _≠w.heap.size+1;omega) (.int .i64 (b.tell x).1.pol)) (p:=⟨w.heap.size+1,3,none⟩) (by show _≠w.heap.size+1;omega) (.int .i64 (b.tell x).1.mode)).sl
    have hs2:=hs0h.out
    have hB1:Below w.heap.size w wt:=hB0.trans ((hgV.mono (by omega)).trans (hBt.mono (by omega)))
    rw [hts.out] at hF ⊢
    exact ⟨_,_,rfl,hF,(by exact F6),fun x hx=>by cases hx;omega⟩
   ·have hst:=hst hmay
    clear hsp hts
    go_wp2_with ((go_at_call 87;refine (zP (w.heap.size+2) ob b p' k' _ (hA.kept (by exact F6)) x (by omega) mb (hR.kept (Below.heap_alloc _ _ _ hR.lt))).mono ?_;rintro e wt hT;obtain ⟨rfl,p2,k2,hA2,hC,hp2⟩:=hT;rw [hmay];obtain ⟨⟨t0,t1,t2,t3⟩,-⟩:=hA2.cells;have hlt2:=hA2.lt;have hBt:Below (w.heap.size+2) V wt:=Chg.below (hB.alloc hs4 _) hC hA.ge (fun x hx=>(hA.own.lt x hx).1) (by simp;omega);obtain ⟨⟨r0,r1,r2,r3⟩,hfr⟩:=hresh.out wt hBt;have f0:=hfr 0;have f1:=hfr 1;have f2:=hfr 2;have f3:=hfr 3;have hge2:=hA2.ge;have hsz2:w.heap.size+1<wt.heap.size:=(by have:=hBt.size;omega);clear hfr;have hA2h:=Lib.hid hA2;have hCh:=Lib.hid hC;have hp2h:=Lib.hid hp2;clear hA2 hC hp2))
    go_roundw
    case rel =>
     refine ⟨j+1,by omega,by go_num,(b.tell x).1,p2,k2,hst.out,by omega,hA2h.out,(hR.kept (Below.heap_alloc _ _ _ hR.lt)).kept (hCh.out.block mb (by have:=hR.lt;simp;omega) hne1 (fun x hx h=>hpm x hx h.symm)),fun y hy h=>?_,hBt⟩
     rcases hp2h.out y hy with ⟨z,hz,e⟩ | h'
     ·exact hpm z hz (e.symm.trans h)
     ·have:=hR.lt;simp at h';omega
    case measure=>simp [intOf];omega
  ·have:j=es.length:=by omega
   subst this
   have hend:=Lib.hid (Tn hUh.out)
   obtain ⟨⟨t0,t1,t2,t3⟩,-⟩:=hA.cells
   obtain ⟨⟨r0,r1,r2,r3⟩,hfr⟩:=hresh.out wr hB
   have f0:=hfr 0
   have f1:=hfr 1
   have f2:=hfr 2
   have f3:=hfr 3
   have hsz2:w.heap.size+1<wr.heap.size:=by omega
   have hge2:=hA.ge
   clear hfr
   go_wp2
   refine bodyPost_ret (v:=.tuple #[.agg #[.slice p' b.vals.length k',.int .i64 b.cap,.int .i64 b.pol,.int .i64 b.mode],.int .i64 es.length]) (by simp [results,Tryz.results62,go_sem, *]) rfl ?_
   rw [hend.out]
   have hO:=hA.own
   obtain ⟨y,hy⟩:∃ y,p' = some y:=by obtain ⟨g,o,_,h,_⟩:=hO;exact ⟨_,h⟩
   subst hy
   have hly:=(hO.lt y rfl).1
   have hF:=(Ov.setCell (Ov.setCell (Ov.setCell (Ov.setCell hO (p:=⟨w.heap.size+1,0,none⟩) (by show _≠w.heap.size+1;omega) (.slice (some y) b.vals.length k')) (p:=⟨w.heap.size+1,1,none⟩) (by show _≠w.heap.size+1;omega) (.int .i64 b.cap)) (p:=⟨w.heap.size+1,2,none⟩) (by show _≠w.heap.size+1;omega) (.int .i64 b.pol)) (p:=⟨w.heap.size+1,3,none⟩) (by show _≠w.heap.size+1;omega) (.int .i64 b.mode)).sl
   exact ⟨_,_,rfl,hF,(by exact F6),fun x hx=>by cases hx;omega⟩
end
section
open Go.RowKit
theorem Xg {q r:Qu} {es:List En} {n:Nat} (h:q.all es=(r,n)) (hm:q.vals.length≤200) (hn:es.length≤200):AC Tryz.prog 62 [quT q,K5 es] (.tuple #[quT r,.int .i64 n]):=by
 intro O W vs hl hat
 obtain ⟨ys,rfl,_,_,rfl,h0,_,_,rfl,h1,rfl⟩:=T9 hat
 obtain ⟨us,rfl,hu⟩:=vQ.1 h0
 obtain ⟨_,_,rfl,g0,_,_,rfl,g1,_,_,rfl,g2,_,_,rfl,g3,rfl⟩:=hu
 obtain ⟨p,k,rfl,hs⟩:=V5.1 g0
 obtain ⟨pl,kl,rfl,hes⟩:=Dx.1 h1
 rw [p8] at g1 g2 g3
 subst g1 g2 g3
 refine (SH q es p pl k kl W hs.s hes.s hm hn).mono ?_
 rintro e' W' ⟨p',k',rfl,hS,hk,hb⟩
 rw [h] at hS ⊢
 refine ⟨_,rfl,a2l (vQ.2 ⟨_,rfl,_,_,rfl,V5.2 ⟨p',k',rfl,⟨hS,fun hne x hx=>Vu hl _ (hb x hx)⟩⟩,_,_,rfl,p8.2 rfl,_,_,rfl,p8.2 rfl,_,_,rfl,p8.2 rfl,rfl⟩) (p8.2 rfl),hk⟩
end
abbrev qL8:=j4 Tryz.prog (j3 Tryz.prog 88 0)
abbrev qL14:=j4 Tryz.prog (j3 Tryz.prog 61 0)
section
open Go.RowKit
def bO1 (x:Op):Option Blk:=some ⟨true,false,7,1,[opT x]⟩
def tdT (z:List En) (v:Value) (i:Int):List (Nat×Value):=[(3,pt 0),(8,v),(47,K5 z),(48,.int .i64 z.length),(49,.int .i64 i)]
def zk (x:Op) (z a:List En) (i:Int):Sg:=match a with
 | []=>⟨mkT 69 (tdT z qy i),[bO1 x]⟩
 | e::l=>⟨mkT 69 (tdT z (uB 1 (e::l).length) i),[bO1 x,bLg (e::l)]⟩
theorem a3z {z:List En} {i:Nat} (h:i<z.length):IxP ((z.map enT).toArray) (i:Int) (enT z[i]):=⟨by omega,by simp [h]⟩
theorem TB {x:Op} {z:List En} {i:Nat} (h:i<z.length):(z.take (i+1)).filter (lH x)=(z.take i).filter (lH x)++if lH x z[i]=true then [z[i]] else []:=by
 rw [List.take_succ_eq_append_getElem h,List.filter_append]
 congr 1
 cases hb:lH x z[i]
 ·rw [List.filter_cons_of_neg (by simp [hb])];rfl
 ·rw [List.filter_cons_of_pos hb];rfl
theorem Zt {x:Op} {z a:List En} {i:Nat} {ex:Exit} {S:Sg} (hi:i<z.length) (hm:z.length≤1000) (ha:a.length≤i) (hL:qL14 (zk x z (a++if lH x z[i]=true then [z[i]] else []) ((i:Int)+1)) ex S):qL14 (zk x z a i) ex S:=by
 have d0:=K8 hi
 have hx:=a3z hi
 have dn:=M9 hi (show z.length≤1000000 by omega)
 generalize z[i]=e at hx hL
 cases h1:e.th==x.th
 ·rw [show lH x e=false by unfold lH;rw [h1];rfl,if_neg (by decide),List.append_nil] at hL
  cases a with
  | nil=>exact j5 mixed (fuel:=9) (n:=6) (keep:=[3,8,47,48,49]) (ext:=[]) (im:=[0]) (orc:=[.bool true,enT e,.bool false]) (an d0<|an hx<|an h1<|an dn trivial) (by kernel_rfl) hL
  | cons b l=>exact j5 mixed (fuel:=9) (n:=6) (keep:=[3,8,47,48,49]) (ext:=[]) (im:=[0,1]) (orc:=[.bool true,enT e,.bool false]) (an d0<|an hx<|an h1<|an dn trivial) (by kernel_rfl) hL
 ·cases h2:e.ki != 9
  ·rw [show lH x e=false by unfold lH;rw [h1,h2];rfl,if_neg (by decide),List.append_nil] at hL
   cases a with
   | nil=>exact j5 mixed (fuel:=9) (n:=6) (keep:=[3,8,47,48,49]) (ext:=[]) (im:=[0]) (orc:=[.bool true,enT e,.bool true,.bool false]) (an d0<|an hx<|an h1<|an h2<|an dn trivial) (by kernel_rfl) hL
   | cons b l=>exact j5 mixed (fuel:=9) (n:=6) (keep:=[3,8,47,48,49]) (ext:=[]) (im:=[0,1]) (orc:=[.bool true,enT e,.bool true,.bool false]) (an d0<|an hx<|an h1<|an h2<|an dn trivial) (by kernel_rfl) hL
  ·rw [show lH x e=true by unfold lH;rw [h1,h2];rfl,if_pos rfl] at hL
   cases a with
   | nil=>exact j5 mixed (fuel:=9) (n:=6) (keep:=[3,8,47,48,49]) (ext:=[]) (im:=[0,3]) (orc:=[.bool true,enT e,.bool true,.bool true,K5 [e]]) (an d0<|an hx<|an h1<|an h2<|an (rfl:(1:Nat)=1)<|an (X5 [e])<|an (gm (f:=enT) e)<|an dn trivial) (by kernel_rfl) hL
   | cons b l =>
    have hl:(b::l).length≤1000:=by omega
    exact j5 mixed (fuel:=9) (n:=6) (keep:=[3,8,47,48,49]) (ext:=[]) (im:=[0,4]) (orc:=[.bool true,enT e,.bool true,.bool true,K5 ((b::l)++[e])]) (an d0<|an hx<|an h1<|an h2<|an (rfl:(1:Nat)=1)<|an (X5 [e])<|an (ND (b::l))<|an (bU (f:=enT) (b::l) e (by omega))<|an dn trivial) (by kernel_rfl) hL
theorem Zh {x:Op} {z:List En} (hm:z.length≤1000):∀ (k i:Nat),z.length - i=k→i≤z.length→qL14 (zk x z ((z.take i).filter (lH x)) i) (.exit 0) (zk x z (z.filter (lH x)) z.length)
 | 0,i,hk,hi=>by
  have:i=z.length:=by omega
  subst this
  rw [List.take_length]
  generalize z.filter (lH x)=a
  cases a with
  | nil=>exact o5 mixed (fuel:=9) (n:=6) (keep:=[3,8,47,48,49]) (ext:=[]) (im:=[0]) (orc:=[.bool false]) (an (aG z.length) trivial) (by intro e;cases e) (by kernel_rfl)
  | cons b l=>exact o5 mixed (fuel:=9) (n:=6) (keep:=[3,8,47,48,49]) (ext:=[]) (im:=[0,1]) (orc:=[.bool false]) (an (aG z.length) trivial) (by intro e;cases e) (by kernel_rfl)
 | k+1,i,hk,hi' => by
  have hi:i<z.length:=by omega
  have ih:=Zh (x:=x) hm k (i+1) (by omega) (by omega)
  rw [TB hi,show ((i+1:Nat):Int)=(i:Int)+1 by omega] at ih
  exact Zt hi hm (Nat.le_trans (List.length_filter_le _ _) (by rw [List.length_take];omega)) ih
structure OkO (T:List (Nat×En)) (x:Op):Prop where
 be:0≤x.be∧x.be≤1000000
 en:(x.en = -1∧((T.filter (au x)).map Prod.snd=[]∨∃ e,(T.filter (au x)).map Prod.snd=[e]))∨(x.en≠-1∧x.be<x.en∧0≤x.en∧x.en≤1000000∧(T.filter (au x)).map Prod.snd=[⟨x.th,x.ki,x.va,x.re,x.go⟩])
def bBv (o:List Op) (T:List (Nat×En)):Option Blk:=some ⟨true,false,1,1,[bkV o T]⟩
def fnL:Value:=.func (.func 60) #[] #[pt 0]
def ifT (o:List Op) (i:Int):List (Nat×Value):=[(0,jR o),(1,fnL),(7,.int .i64 o.length),(8,.int .i64 i)]
def zi (o:List Op) (T:List (Nat×En)) (i:Int):Sg:=⟨mkT 19 (ifT o i),[bBv o T]⟩
theorem a3q {l:List Op} {i:Nat} (h:i<l.length):IxP ((l.map opT).toArray) (i:Int) (opT l[i]):=⟨by omega,by simp [h]⟩
section
variable {x:Op} {o:List Op} {T:List (Nat×En)} {q:List Int} {l:List En} {z:List En} {e:En} {i f m:Nat} {b1 b2:Bool} {ex:Exit} {S:Sg}
variable (d0:decide ((i:Int)<o.length)=true) (hx:IxP ((o.map opT).toArray) (i:Int) (opT x)) (dn:In64 ((i:Int)+1)) (i1:In64 (x.be+1)) (hb1:AC Tryz.prog 84 [l5 (atN T),.int .i64 (x.be+1)] (.tuple #[.int .i64 f,.bool b1]))
variable (hK:uD 5 ((T.map Prod.snd).map enT))
include d0 hx dn i1 hb1 hK
theorem VJ (g1:(x.en != -1)=false) (g3:(x.en == -1)=true) (g2:Eo z.length (z.map enT) (T.map Prod.snd).length ((T.map Prod.snd).map enT) ((some (f:Int)).getD 0) ((some ((atN T).length:Int)).getD (T.map Prod.snd).length)) (hL:qL14 (zk x z [] 0) (.exit 0) (zk x z [] z.length))
  (ih:qL8 (zi o T ((i:Int)+1)) ex S):qL8 (zi o T i) ex S :=
 j5 mixed (fuel:=9) (n:=6) (im:=[0]) (keep:=[0,1,7,8]) (ext:=[84]) (orc:=[.bool true,opT x,.tuple #[.int .i64 f,.bool b1],.bool false,K5 z,oL [2] [3,8,47,48,49] 0 (tdT z qy z.length) [bO1 x],.bool true,.nilFunc]) (an d0<|an hx<|an i1<|an hb1<|an g1<|an g2<|an hK<|an hL<|an g3<|an dn trivial) (by kernel_rfl) ih
theorem We (g1:(x.en != -1)=false) (g3:(x.en == -1)=true) (g2:Eo z.length (z.map enT) (T.map Prod.snd).length ((T.map Prod.snd).map enT) ((some (f:Int)).getD 0) ((some ((atN T).length:Int)).getD (T.map Prod.snd).length)) (hL:qL14 (zk x z [] 0) (.exit 0) (zk x z [e] z.length))
  (ih:qL8 (zi o T ((i:Int)+1)) ex S):qL8 (zi o T i) ex S :=
 j5 mixed (fuel:=9) (n:=6) (im:=[0]) (keep:=[0,1,7,8]) (ext:=[84]) (orc:=[.bool true,opT x,.tuple #[.int .i64 f,.bool b1],.bool false,K5 z,oL [2] [3,8,47,48,49] 0 (tdT z (uB 1 1) z.length) [bO1 x,bLg [e]],.bool true,.nilFunc]) (an d0<|an hx<|an i1<|an hb1<|an g1<|an g2<|an hK<|an hL<|an g3<|an dn trivial) (by kernel_rfl) ih
theorem Yh (g1:(x.en != -1)=true) (g3:(x.en == -1)=false) (i2:In64 (x.en+1)) (hb2:AC Tryz.prog 84 [l5 (atN T),.int .i64 (x.en+1)] (.tuple #[.int .i64 m,.bool b2])) (g2:Eo z.length (z.map enT) (T.map Prod.snd).length ((T.map Prod.snd).map enT) ((some (f:Int)).getD 0) ((some (m:Int)).getD (T.map Prod.snd).length)) (hL:qL14 (zk x z [] 0) (.exit 0) (zk x z [⟨x.th,x.ki,x.va,x.re,x.go⟩] z.length))
  (ih:qL8 (zi o T ((i:Int)+1)) ex S):qL8 (zi o T i) ex S :=
 j5 mixed (fuel:=9) (n:=6) (im:=[0]) (keep:=[0,1,7,8]) (ext:=[84]) (orc:=[.bool true,opT x,.tuple #[.int .i64 f,.bool b1],.bool true,.tuple #[.int .i64 m,.bool b2],K5 z,oL [2] [3,8,47,48,49] 0 (tdT z (uB 1 1) z.length) [bO1 x,bLg [⟨x.th,x.ki,x.va,x.re,x.go⟩]],.bool false,.nilFunc,enT ⟨x.th,x.ki,x.va,x.re,x.go⟩,.bool false,.nilFunc])
  (an d0<|an hx<|an i1<|an hb1<|an g1<|an i2<|an hb2<|an g2<|an hK<|an hL<|an g3<|an (show (0:Int)≤0∧(0:Int).toNat<1 by decide)<|an (show ElP [enT ⟨x.th,x.ki,x.va,x.re,x.go⟩] (0+(0:Int).toNat) (enT ⟨x.th,x.ki,x.va,x.re,x.go⟩) from rfl)<|an (Pm ⟨x.th,x.ki,x.va,x.re,x.go⟩ (.tmp 20) (.tmp 31))<|an dn trivial) (by kernel_rfl) ih
end
theorem Pt {T:List (Nat×En)} {x:Op} (h1:frN x T≤toN x T) (h2:toN x T≤T.length) {m:Int} (hm:m=toN x T):Eo ((((T.map Prod.snd).drop (frN x T)).take (toN x T - frN x T))).length (((((T.map Prod.snd).drop (frN x T)).take (toN x T - frN x T))).map enT) (T.map Prod.snd).length ((T.map Prod.snd).map enT) ((some (frN x T:Int)).getD 0) ((some m).getD (T.map Prod.snd).length):=by
 subst hm
 have hz:(((T.map Prod.snd).drop (frN x T)).take (toN x T - frN x T)).length=toN x T - frN x T:=by rw [List.length_take,List.length_drop,List.length_map];omega
 refine ⟨by show (0:Int)≤frN x T;omega,by show (frN x T:Int)≤toN x T;omega,by show (toN x T:Int)≤(T.map Prod.snd).length;rw [List.length_map];omega,by rw [hz];show ((toN x T - frN x T:Nat):Int)=(toN x T:Int) - frN x T;omega,?_⟩
 rw [hz,List.map_take,List.map_drop]
 show _=List.take (toN x T - frN x T) (List.drop (frN x T:Int).toNat _)
 rw [Int.toNat_natCast]
theorem a1j {o:List Op} {T:List (Nat×En)} {i:Nat} {ex:Exit} {S:Sg} (hi:i<o.length) (ho:o.length≤1000) (hT:T.Pairwise (fun x y=>x.1<y.1)) (hm:T.length≤1000) (hok:OkO T o[i]) (ih:qL8 (zi o T ((i:Int)+1)) ex S):qL8 (zi o T i) ex S:=by
 have d0:=K8 hi
 have hx:=a3q hi
 have dn:=M9 hi (show o.length≤1000000 by omega)
 have hs:=a2Y hT
 have hal:(atN T).length=T.length:=by simp [atN]
 have hK:=X5 (T.map Prod.snd)
 obtain ⟨hbe,hen⟩:=hok
 obtain ⟨b1,hb1⟩:=YJ (t:=o[i].be+1) hs (by omega)
 obtain ⟨b2,hb2⟩:=YJ (t:=o[i].en+1) hs (by omega)
 have i1:In64 (o[i].be+1):=by constructor <;> omega
 have he:o[i].en = -1∨(o[i].be<o[i].en∧0≤o[i].en):=by rcases hen with h | h;exact .inl h.1;exact .inr ⟨h.2.1,h.2.2.1⟩
 have hown:=a1A hT he
 obtain ⟨h1,h2⟩:=a2k (he.imp id (·.1)) T
 have hL:=Zh (x:=o[i]) (z:=((T.map Prod.snd).drop (frN o[i] T)).take (toN o[i] T - frN o[i] T)) (by rw [List.length_take,List.length_drop,List.length_map];omega) _ 0 rfl (by omega)
 rw [List.take_zero,hown] at hL
 have hsub:=fun {m} hm=>Pt (m:=m) h1 h2 hm
 generalize ((T.map Prod.snd).drop (frN o[i] T)).take (toN o[i] T - frN o[i] T)=z at hL hsub
 rcases hen with ⟨hen,h3⟩ | ⟨hen,-,-,h6,h7⟩
 ·have g1:(o[i].en != -1)=false:=by rw [hen];rfl
  have g3:(o[i].en == -1)=true:=by rw [hen];rfl
  have g2:=hsub (m:=(atN T).length) (by rw [hal];unfold toN;rw [if_pos hen])
  rcases h3 with h3 | ⟨e,h3⟩
  ·rw [h3] at hL
   exact VJ d0 hx dn i1 hb1 hK g1 g3 g2 hL ih
  ·rw [h3] at hL
   exact We d0 hx dn i1 hb1 hK g1 g3 g2 hL ih
 ·have g1:(o[i].en != -1)=true:=by simpa using hen
  have g3:(o[i].en == -1)=false:=by simpa using hen
  have g2:=hsub (m:=(Z9 (atN T) (o[i].en+1):Nat)) (by unfold toN;rw [if_neg hen])
  rw [h7] at hL
  exact Yh d0 hx dn i1 hb1 hK g1 g3 (by constructor <;> omega) hb2 g2 hL ih
theorem YC {o:List Op} {T:List (Nat×En)} (ho:o.length≤1000) (hT:T.Pairwise (fun x y=>x.1<y.1)) (hm:T.length≤1000) (hok:∀ x∈o,OkO T x):∀ (k i:Nat),o.length - i=k→i≤o.length→qL8 (zi o T i) (.exit 0) (zi o T o.length)
 | 0,i,hk,hi=>by
  have:i=o.length:=by omega
  subst this
  exact o5 mixed (fuel:=9) (n:=6) (im:=[0]) (keep:=[0,1,7,8]) (ext:=[84]) (orc:=[.bool false]) (an (aG o.length) trivial) (by intro e;cases e) (by kernel_rfl)
 | k+1,i,hk,hi' => by
  have hi:i<o.length:=by omega
  have ih:=YC ho hT hm hok k (i+1) (by omega) (by omega)
  rw [show ((i+1:Nat):Int)=(i:Int)+1 by omega] at ih
  exact a1j hi ho hT hm (hok _ (List.getElem_mem hi)) ih
theorem Xo {c:Cf} {raw:List (List Int)} (hm:raw.length≤100):∀ x∈opsOf c raw,OkO (O3 c raw) x:=by
 unfold opsOf O3
 cases hc:cfB c
 ·intro x hx;rw [if_neg (by simp)] at hx;cases hx
 ·rw [if_pos rfl,if_pos rfl]
  intro x hx
  obtain ⟨j,e1,-,e2,e3,h⟩:=Hl (dU hc) (raw:=raw) (by omega) hx
  refine ⟨⟨e2,by omega⟩,?_⟩
  rcases h with ⟨-,-,-,e4,-,-,-,h⟩ | ⟨h1,h2,-,a,-,-,h3⟩
  ·refine .inl ⟨e4,?_⟩
   rcases h with ⟨h,-⟩ | ⟨a,h,-⟩
   ·exact .inl (by rw [h];rfl)
   ·exact .inr ⟨_,by rw [h];rfl⟩
  ·exact .inr ⟨by omega,h1,by omega,by omega,by rw [h3,e1];rfl⟩
theorem Oy (c:Cf) {raw:List (List Int)} (hm:raw.length≤100):(O3 c raw).Pairwise fun x y=>x.1<y.1:=by
 unfold O3
 cases hc:cfB c
 ·rw [if_neg (by simp)];exact .nil
 ·rw [if_pos rfl];exact Iq raw 0 (dU hc) (by omega)
theorem wh {c:Cf} {raw:List (List Int)} (hc:c.ok) (hr:∀ l∈raw,∀ n∈l,In64 n) (hm:raw.length≤100):AC Tryz.prog 19 [cfT c,eG raw] (.bool (oD c raw)):=by
 have hlin:=wJ (c:=c) (raw:=raw) (by omega)
 rw [hlin]
 unfold oD at hlin
 rw [Bool.and_eq_true] at hlin
 obtain ⟨E,hn,hok⟩:∃ E,AC Tryz.prog 35 [cfT c] (.tuple #[stT (if cfB c=true then E5 c else st0),.int .i64 E])∧(if cfB c=true then E5 c else st0).ok:=by
  cases hcf:cfB c
  ·exact ⟨20,oU hcf,by constructor <;> simp [st0,Cf.ok,In64,cf0,maxLen]⟩
  ·exact ⟨0,Kt hcf,(Cq hc hcf).ok⟩
 have hw:=oP hc hr (by omega)
 have hqv:(quV (if cfB c=true then E5 c else st0)).vals.length≤200:=by
  cases hcf:cfB c
  ·exact Nat.zero_le _
  ·rw [if_pos rfl,ae (Co hcf)];simp [E5]
 have hlen:(O3 c raw).length≤raw.length:=by
  have h1:=sW (c:=c) (raw:=raw) (by omega)
  have h2:(dO c raw).lg.length≤raw.length:=by
   unfold dO
   cases hcf:cfB c
   ·exact Nat.zero_le _
   ·rw [if_pos rfl];exact (qE hc hcf hr (by omega)).lg
  rw [← h1] at h2
  unfold U9 at h2
  rwa [List.length_map] at h2
 have hol:(opsOf c raw).length≤raw.length:=by
  unfold opsOf
  split
  ·exact qz raw (E5 c) 0
  ·simp
 have hL:=YC (by omega) (Oy c hm) (by omega) (Xo hm) (opsOf c raw).length 0 rfl (by omega)
 have hq:=tC (q:=quV (if cfB c=true then E5 c else st0)) rfl hok
 generalize (if cfB c=true then E5 c else st0)=s at hn hq hlin hqv
 obtain ⟨r,n,ha⟩:∃ r n,(quV s).all (U9 c raw)=(r,n):=⟨_,_,rfl⟩
 have hfa:=Xg ha hqv (by unfold U9;rw [List.length_map];omega)
 have e0:((n:Int)==((O3 c raw).map Prod.snd).length)=true:=by
  have:=hlin.1
  rw [ha] at this
  have e:n=(U9 c raw).length:=by simpa using this
  rw [e];unfold U9;simp
 unfold U9 at hfa
 exact d9 mixed (fuel:=9) (n:=6) (ext:=[26,35,25,62]) (orc:=[.tuple #[stT s,.int .i64 E],bkV (opsOf c raw) (O3 c raw),quT (quV s),.tuple #[quT r,.int .i64 n],.bool true,oL [9] [0,1,7,8] 0 (ifT (opsOf c raw) (opsOf c raw).length) [bBv (opsOf c raw) (O3 c raw)]]) (an hn<|an hw<|an hq<|an hfa<|an e0<|an hL trivial) (by kernel_rfl)
end
section
open Go.ChangeShapes Go.WideShapes Go.ChangeAt Go.RowKit
def bO (o:Op):Option Blk:=some ⟨true,false,7,1,[opT o]⟩
section
variable {o:Op} {l:List En} {m:List Int} {n i:Nat} {e:En} {a:Int} {x:Exit} {S:Sg}
variable (hi:i<l.length) (hm:l.length≤10000) (he:IxP ((l.map enT).toArray) (i:Int) (enT e)) (ha:IxP ((m.map (Value.int .i64 ·)).toArray) (i:Int) (.int .i64 a)) (hn:n≤10000)
include hi hm he ha hn
end
end
section
open Go.ChangeShapes Go.WideShapes Go.ChangeAt Go.RowKit
def twT (x:Nat×Nat):Value:=.agg #[.int .i64 x.1,.int .i64 x.2]
def kX (l:List (Nat×Nat)):Value:=F4 l.length (l.map twT)
theorem Sm (l:List (Nat×Nat)):uD 2 (l.map twT):=jS (f:=twT) (fun _=>⟨rfl,rfl⟩) l
section
variable {l:List En} {o:List (Nat×Nat)} {p i:Nat} {x:Exit} {S:Sg}
section
variable (hp:p<i) (hi:i≤l.length) (hm:l.length≤10000)
include hp hi hm
end
section
variable (hi:i<l.length) (hm:l.length≤10000)
include hi hm
end
end
def uy (l:List En):List (Nat×Nat):=(P9 0 [] l).getD []
def tL (l:List En):Bool:=(P9 0 [] l).isSome
end
abbrev qL7:=j4 Tryz.prog (j3 Tryz.prog 12 0)
section
open Go.RowKit
theorem dN (k:Int):AC Tryz.prog 24 [.int .i64 k] (.bool (F5 k)):=by
 intro O W vs hl hat ;obtain ⟨ys,rfl,_,_,rfl,h0,rfl⟩:=T9 hat
 rw [p8] at h0
 subst h0
 refine (yK k W).mono ?_
 rintro e W' ⟨rfl,hk⟩
 exact ⟨_,rfl,H5.2 rfl,hk⟩
theorem LM (k:Int):AC Tryz.prog 54 [.int .i64 k] (.bool (I5 k)):=by
 intro O W vs hl hat ;obtain ⟨ys,rfl,_,_,rfl,h0,rfl⟩:=T9 hat
 rw [p8] at h0
 subst h0
 refine (yY k W).mono ?_
 rintro e W' ⟨rfl,hk⟩
 exact ⟨_,rfl,H5.2 rfl,hk⟩
theorem lT {e:En} {b:Bool} (hb:Q4 e=b):AC Tryz.prog 29 [enT e] (.bool b):=by
 subst hb
 unfold Q4
 cases h:e.re==1
 ·exact d9 mixed (fuel:=9) (n:=6) (ext:=[24,54]) (orc:=[.bool false]) (an h trivial) (by kernel_rfl)
 ·exact d9 mixed (fuel:=9) (n:=6) (ext:=[24,54]) (orc:=[.bool true,.bool (F5 e.ki)]) (an h<|an (dN e.ki) trivial) (by kernel_rfl)
theorem vW {e:En} {b:Bool} (hb:bQ e=b):AC Tryz.prog 30 [enT e] (.bool b):=by
 subst hb
 unfold bQ
 cases h:e.re==1
 ·exact d9 mixed (fuel:=9) (n:=6) (ext:=[24,54]) (orc:=[.bool false]) (an h trivial) (by kernel_rfl)
 ·have hr:=LM e.ki
  cases h2:I5 e.ki
  ·rw [h2] at hr
   exact d9 mixed (fuel:=9) (n:=6) (ext:=[24,54]) (orc:=[.bool true,vD false]) (an h<|an hr trivial) (by kernel_rfl)
  ·rw [h2] at hr
   exact d9 mixed (fuel:=9) (n:=6) (ext:=[24,54]) (orc:=[.bool true,vD true]) (an h<|an hr trivial) (by kernel_rfl)
def bTv (l:List (Nat×Nat)):Option Blk:=some ⟨true,true,2,l.length,l.map twT⟩
def hpT (l:List En) (p n:Value) (i:Int):List (Nat×Value):=[(0,K5 l),(4,p),(5,n),(9,K5 l),(10,.int .i64 l.length),(11,.int .i64 i)]
def owZ (k n:Nat):Value:=.slice (some ⟨k,0,some 0⟩) n 0
def hpS (l:List En) (p:List (Nat×Nat)) (n:List Int) (i:Int):Sg:=match n,p with
 | [],_=>⟨mkT 56 (hpT l (.slice none 0 0) (.slice none 0 0) i),[]⟩
 | a::n,[]=>⟨mkT 56 (hpT l (.slice none 0 0) (owZ 0 (a::n).length) i),[bIx (a::n)]⟩
 | a::n,b::p=>⟨mkT 56 (hpT l (owZ 1 (b::p).length) (owZ 0 (a::n).length) i),[bIx (a::n),bTv (b::p)]⟩
def hpR:Sg:=⟨mkT 56 [(2,.slice none 0 0),(3,vD false)],[]⟩
theorem a1U {z:List En} {i:Nat} (h:i<z.length):IxP ((z.map enT).toArray) (i:Int) (enT z[i]):=⟨by omega,by simp [h]⟩
section
variable {l:List En} {p:List (Nat×Nat)} {n:List Int} {i:Nat} {e:En} {x:Exit} {S:Sg}
variable (d0:decide ((i:Int)<l.length)=true) (hx:IxP ((l.map enT).toArray) (i:Int) (enT e)) (dn:In64 ((i:Int)+1))
include d0 hx dn
theorem YG (hc:Q4 e=false) (hg:bQ e=false) (ih:qL7 (hpS l p n ((i:Int)+1)) x S):qL7 (hpS l p n i) x S:=by
 have hc:=lT hc
 have hg:=vW hg
 cases n with
 | nil=>exact j5 mixed (fuel:=9) (n:=6) (keep:=[0,4,5,9,10,11]) (ext:=[29,30]) (im:=[]) (orc:=[.bool true,enT e,vD false,vD false]) (an d0<|an hx<|an hc<|an hg<|an dn trivial) (by kernel_rfl) ih
 | cons a n=>cases p with
  | nil=>exact j5 mixed (fuel:=9) (n:=6) (keep:=[0,4,5,9,10,11]) (ext:=[29,30]) (im:=[0]) (orc:=[.bool true,enT e,vD false,vD false]) (an d0<|an hx<|an hc<|an hg<|an dn trivial) (by kernel_rfl) ih
  | cons b p=>exact j5 mixed (fuel:=9) (n:=6) (keep:=[0,4,5,9,10,11]) (ext:=[29,30]) (im:=[0,1]) (orc:=[.bool true,enT e,vD false,vD false]) (an d0<|an hx<|an hc<|an hg<|an dn trivial) (by kernel_rfl) ih
theorem YR (hc:Q4 e=true) (hn:n.length≤10000) (h1:n=[]→p=[]) (ih:qL7 (hpS l p (n++[(i:Int)]) ((i:Int)+1)) x S):qL7 (hpS l p n i) x S:=by
 have hc:=lT hc
 cases n with
 | nil =>
  rw [h1 rfl] at ih ⊢
  exact j5 mixed (fuel:=9) (n:=6) (keep:=[0,4,5,9,10,11]) (ext:=[29,30]) (im:=[2]) (orc:=[.bool true,enT e,vD true,l5 [(i:Int)]]) (an d0<|an hx<|an hc<|an (rfl:(1:Nat)=1)<|an (N8 [(i:Int)])<|an (gm (f:=(Value.int .i64 ·)) (i:Int))<|an dn trivial) (by kernel_rfl) ih
 | cons a n=>cases p with
  | nil=>exact j5 mixed (fuel:=9) (n:=6) (keep:=[0,4,5,9,10,11]) (ext:=[29,30]) (im:=[3]) (orc:=[.bool true,enT e,vD true,l5 ((a::n)++[(i:Int)])]) (an d0<|an hx<|an hc<|an (rfl:(1:Nat)=1)<|an (N8 [(i:Int)])<|an (show (a::n).length=((a::n).map (Value.int .i64 ·)).length by simp)<|an (bU (f:=(Value.int .i64 ·)) (a::n) (i:Int) (by omega))<|an dn trivial) (by kernel_rfl) ih
  | cons b p=>exact j5 mixed (fuel:=9) (n:=6) (keep:=[0,4,5,9,10,11]) (ext:=[29,30]) (im:=[4,1]) (orc:=[.bool true,enT e,vD true,l5 ((a::n)++[(i:Int)])]) (an d0<|an hx<|an hc<|an (rfl:(1:Nat)=1)<|an (N8 [(i:Int)])<|an (show (a::n).length=((a::n).map (Value.int .i64 ·)).length by simp)<|an (bU (f:=(Value.int .i64 ·)) (a::n) (i:Int) (by omega))<|an dn trivial) (by kernel_rfl) ih
theorem TK {k:Nat} {d:En} (hc:Q4 e=false) (hg:bQ e=true) (hp:p.length≤10000) (hpn:p.length<n.length) (hk:n[p.length]? = some (k:Int)) (hd:IxP ((l.map enT).toArray) (k:Int) (enT d)) (hv:(d.va != e.go)=false) (ih:qL7 (hpS l (p++[(k,i)]) n ((i:Int)+1)) x S):qL7 (hpS l p n i) x S:=by
 have hc:=lT hc
 have hg:=vW hg
 have e1:((p.length:Int)==n.length)=false:=by simp;omega
 have e2:0≤(p.length:Int)∧(p.length:Int).toNat<n.length:=⟨by omega,by omega⟩
 have e3:ElP (n.map (Value.int .i64 ·)) (0+(p.length:Int).toNat) (.int .i64 k):=by unfold ElP;rw [Nat.zero_add,Int.toNat_natCast,List.getElem?_map,hk];rfl
 cases n with
 | nil=>simp at hpn
 | cons a n=>cases p with
  | nil=>exact j5 mixed (fuel:=9) (n:=6) (keep:=[0,4,5,9,10,11]) (ext:=[29,30]) (im:=[0,3]) (orc:=[.bool true,enT e,vD false,vD true,.bool false,.int .i64 k,enT d,.bool false,.int .i64 k,kX [(k,i)]]) (an d0<|an hx<|an hc<|an hg<|an e1<|an e2<|an e3<|an hd<|an hv<|an e2<|an e3<|an (rfl:(1:Nat)=1)<|an (Sm [(k,i)])<|an (gm (f:=twT) (k,i))<|an dn trivial) (by kernel_rfl) ih
  | cons b p=>exact j5 mixed (fuel:=9) (n:=6) (keep:=[0,4,5,9,10,11]) (ext:=[29,30]) (im:=[0,4]) (orc:=[.bool true,enT e,vD false,vD true,.bool false,.int .i64 k,enT d,.bool false,.int .i64 k,kX ((b::p)++[(k,i)])]) (an d0<|an hx<|an hc<|an hg<|an e1<|an e2<|an e3<|an hd<|an hv<|an e2<|an e3<|an (rfl:(1:Nat)=1)<|an (Sm [(k,i)])<|an (show (b::p).length=((b::p).map twT).length by simp)<|an (bU (f:=twT) (b::p) (k,i) (by omega))<|an dn trivial) (by kernel_rfl) ih
omit dn in
theorem QJ (hc:Q4 e=false) (hg:bQ e=true) (hpn:p.length=n.length):qL7 (hpS l p n i) .ret hpR:=by
 have hc:=lT hc
 have hg:=vW hg
 have e1:((p.length:Int)==n.length)=true:=by simp;omega
 cases n with
 | nil=>exact o5 mixed (fuel:=9) (n:=6) (im:=[]) (keep:=[2,3]) (ext:=[29,30]) (orc:=[.bool true,enT e,vD false,vD true,.nilFunc]) (an d0<|an hx<|an hc<|an hg trivial) (by intro e;cases e) (by kernel_rfl)
 | cons a n=>cases p with
  | nil=>simp at hpn
  | cons b p=>exact o5 mixed (fuel:=9) (n:=6) (im:=[]) (keep:=[2,3]) (ext:=[29,30]) (orc:=[.bool true,enT e,vD false,vD true,.bool true]) (an d0<|an hx<|an hc<|an hg<|an e1 trivial) (by intro e;cases e) (by kernel_rfl)
omit dn in
theorem a0s {k:Nat} {d:En} (hc:Q4 e=false) (hg:bQ e=true) (hpn:p.length<n.length) (hk:n[p.length]? = some (k:Int)) (hd:IxP ((l.map enT).toArray) (k:Int) (enT d)) (hv:(d.va != e.go)=true):qL7 (hpS l p n i) .ret hpR:=by
 have hc:=lT hc
 have hg:=vW hg
 have e1:((p.length:Int)==n.length)=false:=by simp;omega
 have e2:0≤(p.length:Int)∧(p.length:Int).toNat<n.length:=⟨by omega,by omega⟩
 have e3:ElP (n.map (Value.int .i64 ·)) (0+(p.length:Int).toNat) (.int .i64 k):=by unfold ElP;rw [Nat.zero_add,Int.toNat_natCast,List.getElem?_map,hk];rfl
 cases n with
 | nil=>simp at hpn
 | cons a n=>cases p with
  | nil=>exact o5 mixed (fuel:=9) (n:=6) (im:=[]) (keep:=[2,3]) (ext:=[29,30]) (orc:=[.bool true,enT e,vD false,vD true,.bool false,.int .i64 k,enT d,.bool true]) (an d0<|an hx<|an hc<|an hg<|an e1<|an e2<|an e3<|an hd<|an hv trivial) (by intro e;cases e) (by kernel_rfl)
  | cons b p=>exact o5 mixed (fuel:=9) (n:=6) (im:=[]) (keep:=[2,3]) (ext:=[29,30]) (orc:=[.bool true,enT e,vD false,vD true,.bool false,.int .i64 k,enT d,.bool true]) (an d0<|an hx<|an hc<|an hg<|an e1<|an e2<|an e3<|an hd<|an hv trivial) (by intro e;cases e) (by kernel_rfl)
end
theorem iM (i:Nat) (pend:List (Nat×Int)) (e:En) (l:List En):P9 i pend (e::l)=if bQ e=true then (match pend with
   | []=>none
   | (n,v)::p=>if v=e.go then (P9 (i+1) p l).map ((n,i)::·) else none)
  else if Q4 e=true then P9 (i+1) (pend++[(i,e.va)]) l else P9 (i+1) pend l:=by
 rw [P9.eq_def]
 rfl
def fO (l:List En) (n:List Nat) (p:List (Nat×Nat)):List (Nat×Int):=(n.drop p.length).map fun k=>(k,(l.getD k ⟨0,0,0,0,0⟩).va)
def qV (n:List Nat):List Int:=n.map fun (k:Nat)=>(k:Int)
theorem KI {l:List En} (hm:l.length≤10000):∀ (k i:Nat) {p:List (Nat×Nat)} {n:List Nat},l.length - i=k→i≤l.length→n.length≤i→p.length≤n.length→(∀ q∈n,q<i) →
  (∀ r,P9 i (fO l n p) (l.drop i)=some r→∃ n',qL7 (hpS l p (qV n) i) (.exit 0) (hpS l (p++r) (qV n') l.length)∧(n' = []→p++r=[])) ∧
  (P9 i (fO l n p) (l.drop i)=none→qL7 (hpS l p (qV n) i) .ret hpR)
 | 0,i,p,n,hk,hi,hn,hp,hq=>by
  have:i=l.length:=by omega
  subst this
  rw [List.drop_length]
  refine ⟨fun r hr=>?_,fun h=>by cases h⟩
  cases hr
  have hL:∀ (n:List Int) (p:List (Nat×Nat)),qL7 (hpS l p n l.length) (.exit 0) (hpS l p n l.length):=fun n p=>by
   cases n with
   | nil=>exact o5 mixed (fuel:=9) (n:=6) (keep:=[0,4,5,9,10,11]) (ext:=[29,30]) (im:=[]) (orc:=[.bool false]) (an (aG l.length) trivial) (by intro e;cases e) (by kernel_rfl)
   | cons a n=>cases p with
    | nil=>exact o5 mixed (fuel:=9) (n:=6) (keep:=[0,4,5,9,10,11]) (ext:=[29,30]) (im:=[0]) (orc:=[.bool false]) (an (aG l.length) trivial) (by intro e;cases e) (by kernel_rfl)
    | cons b p=>exact o5 mixed (fuel:=9) (n:=6) (keep:=[0,4,5,9,10,11]) (ext:=[29,30]) (im:=[0,1]) (orc:=[.bool false]) (an (aG l.length) trivial) (by intro e;cases e) (by kernel_rfl)
  refine ⟨n,by rw [List.append_nil];exact hL _ _,fun e=>?_⟩
  subst e
  rw [List.append_nil]
  exact List.length_eq_zero_iff.1 (by simpa using hp)
 | k+1,i,p,n,hk,hi',hn,hp,hq=>by
  have hi:i<l.length:=by omega
  have d0:=K8 hi
  have hx:=a1U hi
  have dn:=M9 hi (show l.length≤1000000 by omega)
  have hnl:(qV n).length=n.length:=by simp [qV]
  rw [List.drop_eq_getElem_cons hi]
  cases hg:bQ l[i]
  ·cases hc:Q4 l[i]
   ·have ih:=KI hm k (i+1) (p:=p) (n:=n) (by omega) (by omega) (by omega) hp (fun q h=>by have:=hq q h;omega)
    rw [show ((i+1:Nat):Int)=(i:Int)+1 by omega] at ih
    have e:P9 i (fO l n p) (l[i]::l.drop (i+1))=P9 (i+1) (fO l n p) (l.drop (i+1)):=by
     rw [iM,if_neg (by rw [hg];decide),if_neg (by rw [hc];decide)]
    rw [e]
    refine ⟨fun r hr=>?_,fun h=>YG d0 hx dn hc hg (ih.2 h)⟩
    obtain ⟨n',h1,h2⟩:=ih.1 r hr
    exact ⟨n',YG d0 hx dn hc hg h1,h2⟩
   ·have ih:=KI hm k (i+1) (p:=p) (n:=n++[i]) (by omega) (by omega) (by simp;omega) (by simp;omega) (fun q h=>by
     rcases List.mem_append.1 h with h | h
     ·have:=hq q h;omega
     ·have:q=i:=by simpa using h
      omega)
    rw [show ((i+1:Nat):Int)=(i:Int)+1 by omega,show qV (n++[i])=qV n++[(i:Int)] by simp [qV]] at ih
    have e:P9 i (fO l n p) (l[i]::l.drop (i+1))=P9 (i+1) (fO l (n++[i]) p) (l.drop (i+1)):=by
     rw [iM,if_neg (by rw [hg];decide),if_pos hc]
     congr 1
     unfold fO
     rw [List.drop_append_of_le_length hp,List.map_append]
     congr 1
     simp [List.getD,hi]
    rw [e]
    have h1:qV n=[]→p=[]:=fun e=>List.length_eq_zero_iff.1 (by rw [← List.length_eq_zero_iff,hnl] at e;omega)
    refine ⟨fun r hr=>?_,fun h=>YR d0 hx dn hc (by omega) h1 (ih.2 h)⟩
    obtain ⟨n',h2,h3⟩:=ih.1 r hr
    exact ⟨n',YR d0 hx dn hc (by omega) h1 h2,h3⟩
  ·have hc:=Fh hg
   by_cases hpn:p.length<n.length
   ·have hkn:(qV n)[p.length]? = some ((n[p.length]:Nat):Int):=by simp [qV,hpn]
    have hlt:=hq _ (List.getElem_mem hpn)
    have hkl:n[p.length]<l.length:=by omega
    have hd:=a1U hkl
    have hpe:fO l n p=(n[p.length],l[n[p.length]].va)::fO l n (p++[(n[p.length],i)]):=by
     unfold fO
     rw [List.drop_eq_getElem_cons hpn,List.map_cons,List.length_append,List.length_singleton]
     congr 2
     simp [List.getD,hkl]
    have e:P9 i (fO l n p) (l[i]::l.drop (i+1))=if l[n[p.length]].va=l[i].go then (P9 (i+1) (fO l n (p++[(n[p.length],i)])) (l.drop (i+1))).map ((n[p.length],i)::·) else none:=by
     rw [iM,if_pos hg,hpe]
    rw [e]
    by_cases hv:l[n[p.length]].va=l[i].go
    ·have hv' : (l[n[p.length]].va != l[i].go)=false:=by simpa using hv
     have ih:=KI hm k (i+1) (p:=p++[(n[p.length],i)]) (n:=n) (by omega) (by omega) (by omega) (by simp;omega) (fun q h=>by have:=hq q h;omega)
     rw [show ((i+1:Nat):Int)=(i:Int)+1 by omega] at ih
     rw [if_pos hv]
     refine ⟨fun r hr=>?_,fun h=>TK d0 hx dn hc hg (by omega) (by omega) hkn hd hv' (ih.2 (by simpa using h))⟩
     obtain ⟨r',hr',rfl⟩:=Option.map_eq_some_iff.1 hr
     obtain ⟨n',h2,h3⟩:=ih.1 r' hr'
     rw [List.append_assoc,List.singleton_append] at h2 h3
     exact ⟨n',TK d0 hx dn hc hg (by omega) (by omega) hkn hd hv' h2,h3⟩
    ·have hv' : (l[n[p.length]].va != l[i].go)=true:=by simpa using hv
     rw [if_neg hv]
     exact ⟨fun r hr=>(by cases hr),fun _=>a0s d0 hx hc hg (by omega) hkn hd hv'⟩
   ·have e:P9 i (fO l n p) (l[i]::l.drop (i+1))=none:=by
     rw [iM,if_pos hg]
     have:fO l n p=[]:=by unfold fO;rw [List.drop_eq_nil_of_le (by omega)];rfl
     rw [this]
    rw [e]
    exact ⟨fun r hr=>(by cases hr),fun _=>QJ d0 hx hc hg (by omega)⟩
theorem sO {l:List En} (hm:l.length≤10000):AC Tryz.prog 12 [K5 l] (.tuple #[kX (uy l),.bool (tL l)]):=by
 have hL:=KI hm l.length 0 (p:=[]) (n:=[]) rfl (by omega) (by simp) (by simp) (fun q h=>by cases h)
 rw [List.drop_zero,show fO l [] []=[] from rfl,show qV []=[] from rfl] at hL
 unfold uy tL
 cases hp:P9 0 [] l with
 | none =>
  have h:=hL.2 hp
  exact d9 mixed (fuel:=9) (n:=6) (ext:=[29,30]) (orc:=[oL [] [0,4,5,9,10,11] (-1) [(2,.slice none 0 0),(3,vD false)] []]) (an h trivial) (by kernel_rfl)
 | some r =>
  obtain ⟨n',h,h1⟩:=hL.1 r hp
  rw [List.nil_append] at h h1
  show AC _ _ _ (.tuple #[kX r,.bool true])
  have h2:qV n' = []→r=[]:=fun e=>h1 (List.map_eq_nil_iff.1 e)
  generalize qV n' = n at h h2
  cases n with
  | nil =>
   rw [h2 rfl] at h ⊢
   exact d9 mixed (fuel:=9) (n:=6) (ext:=[29,30]) (orc:=[oL [] [0,4,5,9,10,11] 0 (hpT l (.slice none 0 0) (.slice none 0 0) l.length) []]) (an h trivial) (by kernel_rfl)
  | cons a n=>cases r with
   | nil=>exact d9 mixed (fuel:=9) (n:=6) (ext:=[29,30]) (orc:=[oL [] [0,4,5,9,10,11] 0 (hpT l (.slice none 0 0) (owZ 0 (a::n).length) l.length) [bIx (a::n)]]) (an h trivial) (by kernel_rfl)
   | cons b p=>exact d9 mixed (fuel:=9) (n:=6) (ext:=[29,30]) (orc:=[oL [] [0,4,5,9,10,11] 0 (hpT l (owZ 1 (b::p).length) (owZ 0 (a::n).length) l.length) [bIx (a::n),bTv (b::p)]]) (an h<|an (l7 (f:=twT) (b::p)) trivial) (by kernel_rfl)
end
section
end
section
open Go.ChangeShapes Go.WideShapes Go.ChangeAt Go.RowKit
def CF (raw:List (List Int)) (m:Int):Bool:=raw.all (fun l=>decide ((l.length:Int)≤10))&&decide ((raw.length:Int)≤m)
def fwT (raw:List (List Int)) (m i:Int):List (Nat×Value):=[(0,eG raw),(1,.int .i64 m),(5,.int .i64 i)]
def a1b (raw:List (List Int)) (m i:Int):Sg:=⟨mkT 22 (fwT raw m i),[]⟩
def a3G:Sg:=⟨mkT 22 [(4,vD false)],[]⟩
theorem YS {raw:List (List Int)} {m:Int} (hm:raw.length≤maxLen):∀ (k i:Nat),raw.length - i=k→i≤raw.length →
  ((raw.drop i).all (fun l=>decide ((l.length:Int)≤10))=true→j4 Tryz.prog (j3 Tryz.prog 9 0) (a1b raw m i) (.exit 0) (a1b raw m raw.length)) ∧
  ((raw.drop i).all (fun l=>decide ((l.length:Int)≤10))=false→j4 Tryz.prog (j3 Tryz.prog 9 0) (a1b raw m i) .ret a3G)
 | 0,i,hk,hi=>by
  have:i=raw.length:=by omega
  subst this
  rw [List.drop_length]
  exact ⟨fun _=>o5 mixed (fuel:=9) (n:=3) (im:=[]) (keep:=[0,1,5]) (ext:=[]) (orc:=[.bool false]) (an (aG raw.length) trivial) (by intro e;cases e) (by kernel_rfl),fun h=>(by cases h)⟩
 | k+1,i,hk,hi' => by
  have hi:i<raw.length:=by omega
  have hm' : raw.length≤9223372036854775807:=hm
  have ih:=YS (m:=m) hm k (i+1) (by omega) (by omega)
  have d1:In64 ((i:Int)+1):=by constructor <;> omega
  rw [List.drop_eq_getElem_cons hi,List.all_cons]
  cases hb:decide ((raw[i].length:Int)≤10)
  ·have h1:decide (10<(raw[i].length:Int))=true:=by have:=of_decide_eq_false hb;simp;omega
   exact ⟨fun h=>(by cases h),fun _=>o5 mixed (fuel:=9) (n:=3) (im:=[]) (keep:=[4]) (ext:=[]) (orc:=[.bool true,l5 raw[i],.bool true]) (an (K8 hi)<|an (ixR hi)<|an h1 trivial) (by intro e;cases e) (by kernel_rfl)⟩
  ·have h1:decide (10<(raw[i].length:Int))=false:=by have:=of_decide_eq_true hb;simp;omega
   rw [Bool.true_and]
   exact ⟨fun h=>j5 mixed (fuel:=9) (n:=3) (im:=[]) (keep:=[0,1,5]) (ext:=[]) (orc:=[.bool true,l5 raw[i],.bool false]) (an (K8 hi)<|an (ixR hi)<|an h1<|an d1 trivial) (by kernel_rfl) (ih.1 h),fun h=>j5 mixed (fuel:=9) (n:=3) (im:=[]) (keep:=[0,1,5]) (ext:=[]) (orc:=[.bool true,l5 raw[i],.bool false]) (an (K8 hi)<|an (ixR hi)<|an h1<|an d1 trivial) (by kernel_rfl) (ih.2 h)⟩
theorem Z4 {raw:List (List Int)} {m:Int} {b:Bool} (h:CF raw m=b) (hm:raw.length≤maxLen):AC Tryz.prog 9 [eG raw,.int .i64 m] (.bool b):=by
 subst h
 unfold CF
 have hL:=YS (m:=m) hm raw.length 0 rfl (by omega)
 rw [List.drop_zero] at hL
 cases hb:raw.all (fun l=>decide ((l.length:Int)≤10))
 ·have hL:=hL.2 hb
  exact d9 mixed (fuel:=9) (n:=3) (ext:=[]) (orc:=[oL [] [0,1,5] (-1) [(4,vD false)] []]) (an hL trivial) (by kernel_rfl)
 ·have hL:=hL.1 hb
  exact d9 mixed (fuel:=9) (n:=3) (ext:=[]) (orc:=[oL [] [0,1,5] 0 (fwT raw m raw.length) []]) (an hL trivial) (by kernel_rfl)
theorem vK {raw:List (List Int)} {m:Nat} (h:CF raw m=true):raw.length≤m:=by
 unfold CF at h
 simp only [Bool.and_eq_true,decide_eq_true_eq] at h
 omega
end
section
open Go.ChangeShapes Go.WideShapes Go.ChangeAt Go.RowKit
theorem QW (a:Op) (w:World):(Go.Op.equal 43 (opT a) (opT a)).run Tryz.prog w = .ok true w:=by
 have hu:=Tryz.underlying43
 have h3:=Tryz.underlying3
 have hp:Tryz.prog.stoodInHeld 43=false:=by kernel_rfl
 unfold opT Go.Op.equal Go.Op.maxDepth
 rw [run_equalIn_struct w 9999 _ _ _ (by unfold Program.fieldsOf;rw [hu]) hp]
 unfold Program.fieldsOf
 rw [hu]
 simp [Go.Op.eqFields,part,isAgg,run_underlying h3,run_equalIn_int _ _ _ _ _ _ _ h3]
theorem a0j (a:Op) (w:World):(binOp .neq 43 (opT a) (opT a)).run Tryz.prog w = .ok (.bool false) w:=by
 have h:=QW a w
 have hu:=Tryz.underlying43
 unfold opT at h ⊢
 simp [binOp,h,run_underlying hu,Result.andThen]
theorem a0g (t:Op) (x y:Operand):uj Tryz.prog (.binOp .neq 43 x y 43) [opT t,opT t] (.bool false) :=
 nQ (fun x y W=>(gF (by kernel_rfl) x y _ _ W).1) (fun W=>a0j t W) x y
def a1T (l:List Op) (i:Int):Sg:=⟨mkT 26 [(0,jR l),(1,jR l),(5,.int .i64 i)],[]⟩
theorem ixO {l:List Op} {i:Nat} (h:i<l.length):IxP ((l.map opT).toArray) (i:Int) (opT l[i]):=⟨by omega,by simp [h]⟩
theorem YY (l:List Op) (hm:l.length≤1000000):∀ (k i:Nat),l.length - i=k→i≤l.length→j4 Tryz.prog (j3 Tryz.prog 14 0) (a1T l i) (.exit 0) (a1T l l.length)
 | 0,i,hk,hi=>by
  have:i=l.length:=by omega
  subst this
  exact o5 mixed (fuel:=9) (n:=3) (im:=[]) (keep:=[0,1,5]) (ext:=[]) (orc:=[.bool false]) (an (aG l.length) trivial) (by intro e;cases e) (by kernel_rfl)
 | k+1,i,hk,hi' => by
  have hi:i<l.length:=by omega
  exact j5 mixed (fuel:=9) (n:=3) (im:=[]) (keep:=[0,1,5]) (ext:=[]) (orc:=[.bool true,opT l[i],opT l[i],.bool false,.bool false]) (an (K8 hi)<|an (ixO hi)<|an (ixO hi)<|an (a0g l[i] (.tmp 20) (.tmp 24))<|an (rfl:false=false)<|an (M9 hi hm) trivial) (by kernel_rfl) (YY l hm k (i+1) (by omega) (by omega))
theorem LY (l:List Op) (hm:l.length≤1000000):AC Tryz.prog 14 [jR l,jR l] (.bool true) :=
 d9 mixed (fuel:=9) (n:=3) (ext:=[]) (orc:=[.bool false,oL [] [0,1,5] 0 [(0,jR l),(1,jR l),(5,.int .i64 l.length)] []]) (an (show ((l.length:Int) != l.length)=false by simp)<|an (YY l hm l.length 0 rfl (by omega)) trivial) (by kernel_rfl)
theorem UI (a:Nat×Nat) (w:World):(Go.Op.equal 61 (twT a) (twT a)).run Tryz.prog w = .ok true w:=by
 have hu:=Tryz.underlying61
 have h3:=Tryz.underlying3
 have hc:Tryz.prog.cellsOf 3=1:=by kernel_rfl
 obtain ⟨i,hi⟩:∃ i,Tryz.prog.info? 3=some i:=Option.isSome_iff_exists.1 (by kernel_rfl)
 unfold twT Go.Op.equal Go.Op.maxDepth
 rw [run_equalIn_array w 9999 _ _ hu hi,hc]
 simp [Go.Op.eqItems,List.range,List.range.loop,part,isAgg,run_underlying h3,run_equalIn_int _ _ _ _ _ _ _ h3]
theorem a0i (a:Nat×Nat) (w:World):(binOp .neq 61 (twT a) (twT a)).run Tryz.prog w = .ok (.bool false) w:=by
 have h:=UI a w
 have hu:=Tryz.underlying61
 unfold twT at h ⊢
 simp [binOp,h,run_underlying hu,Result.andThen]
theorem a1i (t:Nat×Nat) (x y:Operand):uj Tryz.prog (.binOp .neq 61 x y 61) [twT t,twT t] (.bool false) :=
 nQ (fun x y W=>(gF (by kernel_rfl) x y _ _ W).1) (fun W=>a0i t W) x y
def a2s (l:List (Nat×Nat)) (i:Int):Sg:=⟨mkT 26 [(0,kX l),(1,kX l),(5,.int .i64 i)],[]⟩
theorem VT {l:List (Nat×Nat)} {i:Nat} (h:i<l.length):IxP ((l.map twT).toArray) (i:Int) (twT l[i]):=⟨by omega,by simp [h]⟩
theorem YI (l:List (Nat×Nat)) (hm:l.length≤1000000):∀ (k i:Nat),l.length - i=k→i≤l.length→j4 Tryz.prog (j3 Tryz.prog 21 0) (a2s l i) (.exit 0) (a2s l l.length)
 | 0,i,hk,hi=>by
  have:i=l.length:=by omega
  subst this
  exact o5 mixed (fuel:=9) (n:=3) (im:=[]) (keep:=[0,1,5]) (ext:=[]) (orc:=[.bool false]) (an (aG l.length) trivial) (by intro e;cases e) (by kernel_rfl)
 | k+1,i,hk,hi' => by
  have hi:i<l.length:=by omega
  exact j5 mixed (fuel:=9) (n:=3) (im:=[]) (keep:=[0,1,5]) (ext:=[]) (orc:=[.bool true,twT l[i],twT l[i],.bool false,.bool false]) (an (K8 hi)<|an (VT hi)<|an (VT hi)<|an (a1i l[i] (.tmp 20) (.tmp 24))<|an (rfl:false=false)<|an (M9 hi hm) trivial) (by kernel_rfl) (YI l hm k (i+1) (by omega) (by omega))
theorem Uc (l:List (Nat×Nat)) (hm:l.length≤1000000):AC Tryz.prog 21 [kX l,kX l] (.bool true) :=
 d9 mixed (fuel:=9) (n:=3) (ext:=[]) (orc:=[.bool false,oL [] [0,1,5] 0 [(0,kX l),(1,kX l),(5,.int .i64 l.length)] []]) (an (show ((l.length:Int) != l.length)=false by simp)<|an (YI l hm l.length 0 rfl (by omega)) trivial) (by kernel_rfl)
def cH:Cf:=⟨1,2,0,0,0,0,false⟩
def CZ:List (List Int):=[[1,0,7,0],[9],[10,0,0,0],[10,0,0,0],[10,0,0,0],[10,0,0,0],[10,0,0,0],[10,0,0,0],[10,0,0,0],[4,1,0,0],[10,1,0,0]]
def Wz:List Op:=[⟨0,1,7,0,8,1,0⟩,⟨1,4,0,9,-1,0,0⟩]
def Yc:List En:=[⟨0,1,7,1,0⟩]
def enH:List En:=[⟨0,1,7,1,0⟩,⟨0,4,0,1,7⟩,⟨0,2,8,1,0⟩]
theorem Zv:cH.ok:=by unfold cH Cf.ok In64;decide
theorem ZE:∀ l∈CZ,∀ n∈l,In64 n:=by unfold CZ In64;decide
theorem a2G:opsOf cH CZ=Wz:=by rfl
theorem YQ:U9 cH CZ=Yc∧a2P cH CZ=[6]:=⟨by rfl,by rfl⟩
theorem vM:uy enH=[(0,1)]∧tL enH=true∧uy [⟨0,4,0,1,7⟩]=[]∧tL [⟨0,4,0,1,7⟩]=false:=⟨by rfl,by rfl,by rfl,by rfl⟩
def hwX:List FuncId:=[15,10,12,19,14,17,18,21]
theorem U4 (hlin:∀ {c:Cf} {raw:List (List Int)},c.ok→(∀ l∈raw,∀ n∈l,In64 n)→raw.length≤100→AC Tryz.prog 19 [cfT c,eG raw] (.bool (oD c raw))):AC Tryz.prog 8 [] (.bool true):=by
 have h1:=CP Zv ZE (show CZ.length≤100 by decide)
 have h2:=tH Zv ZE (show CZ.length≤100 by decide)
 have h3:=hlin Zv ZE (show CZ.length≤100 by decide)
 have p1:=sO (l:=enH) (by decide)
 have p2:=sO (l:=[⟨0,4,0,1,7⟩]) (by decide)
 rw [a2G] at h1
 rw [YQ.1,YQ.2] at h2
 rw [wJ (by decide)] at h3
 rw [vM.1,vM.2.1] at p1
 rw [vM.2.2.1,vM.2.2.2] at p2
 exact d9 mixed (fuel:=9) (n:=3) (ext:=hwX) (orc:=[jR Wz,.tuple #[K5 Yc,l5 [6]],.tuple #[kX [(0,1)],.bool true],.tuple #[kX [],.bool false],vD true,vD true,vD true,vD true,vD true,.nilFunc])
  (an (l7 (f:=(Value.int .i64 ·)) ([1,0,7,0]:List Int))<|an (l7 (f:=(Value.int .i64 ·)) ([9]:List Int))<|an (l7 (f:=(Value.int .i64 ·)) ([10,0,0,0]:List Int))<|an (l7 (f:=(Value.int .i64 ·)) ([10,0,0,0]:List Int))<|an (l7 (f:=(Value.int .i64 ·)) ([10,0,0,0]:List Int))<|an (l7 (f:=(Value.int .i64 ·)) ([10,0,0,0]:List Int))<|an (l7 (f:=(Value.int .i64 ·)) ([10,0,0,0]:List Int))<|an (l7 (f:=(Value.int .i64 ·)) ([10,0,0,0]:List Int))<|an (l7 (f:=(Value.int .i64 ·)) ([10,0,0,0]:List Int))<|an (l7 (f:=(Value.int .i64 ·)) ([4,1,0,0]:List Int))<|an (l7 (f:=(Value.int .i64 ·)) ([10,1,0,0]:List Int))<|an (l7 (f:=l5) CZ)<|an h1<|an h2<|an (l7 (f:=enT) enH)<|an p1<|an (l7 (f:=enT) ([⟨0,4,0,1,7⟩]:List En))<|an p2<|an (l7 (f:=opT) Wz)<|an (LY Wz (by decide))<|an (l7 (f:=enT) Yc)<|an (Uj Yc (by decide))<|an (l7 (f:=(Value.int .i64 ·)) ([6]:List Int))<|an (wN [6] (by decide))<|an h3<|an (l7 (f:=twT) ([(0,1)]:List (Nat×Nat)))<|an (Uc [(0,1)] (by decide)) trivial) (by kernel_rfl)
end
section
open Go.ChangeShapes Go.WideShapes Go.ChangeAt Go.RowKit
theorem zm (hlin:∀ {c:Cf} {raw:List (List Int)},c.ok→(∀ l∈raw,∀ n∈l,In64 n)→raw.length≤100→AC Tryz.prog 19 [cfT c,eG raw] (.bool (oD c raw))) {c:Cf} {raw:List (List Int)} (hc:c.ok) (hr:∀ l∈raw,∀ n∈l,In64 n) (hm:raw.length≤maxLen):AC Tryz.prog 4 [cfT c,eG raw] (.bool true):=by
 cases hF:CF raw 60
 ·exact d9 mixed (fuel:=9) (n:=3) (ext:=[8,9,19]) (orc:=[vD true,vD false]) (an (U4 hlin)<|an (Z4 hF hm) trivial) (by kernel_rfl)
 ·have hl:=vK (m:=60) hF
  have h:=hlin hc hr (by omega)
  rw [wJ (by omega)] at h
  exact d9 mixed (fuel:=9) (n:=3) (ext:=[8,9,19]) (orc:=[vD true,vD true,vD true]) (an (U4 hlin)<|an (Z4 hF hm)<|an h trivial) (by kernel_rfl)
end
section
open Go.ChangeShapes Go.WideShapes Go.ChangeAt Go.RowKit
structure Rw where
 l:List Int
 p:Option Addr
 k:Nat
def Rw.cells (x:Rw):List Value:=[.slice x.p x.l.length x.k]
def Rw.shape:List (Ck 1):=[.row xA]
def Rw.ok (x:Rw):Prop:=(∀ n∈x.l,In64 n)∧x.l.length≤maxLen
structure RrAt (W:World) (q:List Rw) (v:Value):Prop where
 sl:Sl W 1 Rw.cells q v
 el:∀ x∈q,Sl W 1 Z8 x.l (.slice x.p x.l.length x.k)
theorem vI {W:World} {v:Value} (h:lV W (Ck.row Rw.shape:Ck 2) v):∃ q:List Rw,RrAt W q v∧(∀ x∈q,x.ok)∧q.length≤maxLen:=by
 obtain ⟨q,hs,ho,hl⟩:=Sl.of_read (e:=Rw.shape) Rw.cells (fun x=>x.ok∧Sl W 1 Z8 x.l (.slice x.p x.l.length x.k)) (by decide) h (fun vs h=>by
  obtain ⟨v,r,rfl,hv,hr⟩:=gy.1 h
  obtain rfl:=mX.1 hr
  obtain ⟨xs,p,k,rfl,h1,h2,h3⟩:=row_of Z8 In64 (by decide) hv (fun vs h=>DL h)
  exact ⟨⟨xs,p,k⟩,rfl,⟨h2,h3⟩,h1⟩)
 exact ⟨q,⟨hs,fun x hx=>(ho x hx).2⟩,fun x hx=>(ho x hx).1,hl⟩
theorem ww {W:World} {q:List Rw} {v:Value} (h:RrAt W q v):Rp nowhere (fun _=>False) W (eG (q.map Rw.l)) v:=by
 obtain ⟨p,cap,rfl,h1,h2,h3,h4⟩:=h.sl.is
 refine kH.2 ⟨p,cap,rfl,by simp,by simp,by simpa using h1,h2,h3,fun hne=>?_⟩
 have hx:q≠[]:=by intro e;subst e;simp at hne
 obtain ⟨g,o,hp,hg,hc⟩:=h4 hx
 refine ⟨g,o,1,hp,hg,id,fun n el hel=>?_⟩
 simp only [List.getElem?_toArray,List.getElem?_map] at hel
 obtain ⟨x',hx',rfl⟩:=Option.map_eq_some_iff.1 hel
 obtain ⟨x,hx,rfl⟩:=Option.map_eq_some_iff.1 hx'
 refine ⟨rfl,fun j u hu=>?_⟩
 have hj:j=0:=by
  have:=(Array.getElem?_eq_some_iff.1 hu).1
  have:j<1:=this
  omega
 subst hj
 have hu' : u=l5 x.l:=by
  have:some (l5 x.l)=some u:=hu
  exact (Option.some.inj this).symm
 subst hu'
 refine ⟨_,hc n x hx 0 (by omega),?_⟩
 exact V5.2 ⟨_,_,rfl,(h.el x (List.mem_of_getElem? hx)).loc.mono fun _ _ h=>h⟩
theorem Lf {q:List Rw} (h:∀ x∈q,x.ok):∀ l∈q.map Rw.l,∀ n∈l,In64 n:=fun l hl n hn=>by
 obtain ⟨x,hx,rfl⟩:=List.mem_map.1 hl
 exact (h x hx).1 n hn
end
end Go.Proofs.YtfogkllejkmpdaaGreat
