/- What is not asked of a kind has to be 0, and a thread has to be one of sixteen: true of every kind, thread and number. -/
import Derived.Test.YtbckpadeamlidaaGreatCa1TZe
import Derived.Test.YtbckpadeamlidaaGreatZe12
import Derived.Test.YtbckpadeamlidaaGreatZe11
namespace Go.Proofs.YtbckpadeamlidaaGreat
set_option linter.unusedVariables false
set_option linter.unusedSimpArgs false
set_option maxRecDepth 100000
section
open Go.ChangeShapes Go.WideShapes Go.ChangeAt Go.RowKit
def kE (k:Int):Int:=if k=9 then 190 else 0
def vE (k:Int):Int:=if k=1∨k=2∨k=3∨k=11 then 0 else 190
def uE (k:Int):Int:=if k=3∨k=6 then 0 else 190
theorem ask_u32L (v:Int) (h0:0≤v) (h1:v≤4294967295) (x:Operand):AskP Tryz.prog (.convert 54 3 x) [.int .u32 v] (.int .i64 v):=by
 intro W o f ho hm
 have h:f x = .int .u32 v:=by simpa [ho,Op.operands] using hm
 have hu:=Tryz.underlying3
 have hw:IntKind.i64.wrap v=v:=wrap_in ⟨by omega,by omega⟩
 have hv:=Tryz.underlying54
 simp [execOp,ho,h,convert,run_underlying hu,run_underlying hv,Conv.intToInt,hw]
theorem ck_vals {r w d n:Int} (hr:0≤r∧r≤10) (hw:0≤w∧w≤15) (h0:r=10→w=0) (hd:0≤d) (hn:0≤n∧n≤4294967295):caE ⟨1+r,w,0,0⟩=kE (1+r)∧caE ⟨1+r,16+d,0,0⟩=190∧caE ⟨1+r,w,1+n,0⟩=vE (1+r)∧caE ⟨1+r,w,0,1+n⟩=uE (1+r):=by
 unfold caE kE vE uE
 dsimp only
 refine ⟨?_,?_,?_,?_⟩ <;> repeat' split
 all_goals first | rfl | (exfalso;omega)
theorem ac_callKinds {kd d n:Int} (hk:0≤kd∧kd≤255) (hd:0≤d∧d≤255) (hn:0≤n∧n≤4294967295):AC Tryz.prog 7 [.int .u8 kd,.int .u8 d,.int .u32 n] (.bool true):=by
 obtain ⟨r,hr⟩:∃ r,kd % 11=r:=⟨_,rfl⟩
 have hc:AskP Tryz.prog (.convert 5 3 (.tmp 17)) [.int .u8 (kd % 11)] (.int .i64 r):=by rw [hr];exact ask_u8 r (by omega) (by omega) _
 have hb:0≤r∧r≤10:=by omega
 by_cases h10:r=10
 ·obtain ⟨e1,e2,e3,e4⟩:=ck_vals (w:=0) (d:=d) (n:=n) hb (by omega) (fun _=>rfl) hd.1 hn
  have h1:=e1 ▸ ac_pcae ⟨1+r,0,0,0⟩
  have h2:=e2 ▸ ac_pcae ⟨1+r,16+d,0,0⟩
  have h3:=e3 ▸ ac_pcae ⟨1+r,0,1+n,0⟩
  have h4:=e4 ▸ ac_pcae ⟨1+r,0,0,1+n⟩
  clear e1 e2 e3 e4 hr
  subst h10
  (exact ac_path mixed (ext:=llX) (fuel:=9) (n:=6) (orc:=[vD true,.int .i64 10,.int .i64 d,.nilFunc,.int .i64 d,.int .i64 n,.int .i64 n,.nilFunc,.int .i64 (kE (1+10)),.bool true,.nilFunc,.int .i64 190,.nilFunc,.int .i64 (vE (1+10)),.nilFunc,.bool true,.nilFunc,.int .i64 (uE (1+10)),.bool true]) (an ac_awakeL<|an (show 0≤kd∧(0:Int)<11 by omega)<|an hc<|an (show In64 (1+10) by decide)<|an (ask_u8 d hd.1 hd.2 (.tmp 21))<|an (show 0≤d∧(0:Int)<16 by omega)<|an (ask_u8 d hd.1 hd.2 (.tmp 29))<|an (show In64 (16+d) by constructor <;> omega)<|an (ask_u32L n hn.1 hn.2 (.tmp 34))<|an (show In64 (1+n) by constructor <;> omega)<|an (ask_u32L n hn.1 hn.2 (.tmp 39))<|an (show In64 (1+n) by constructor <;> omega)<|an h1<|an (ask_bb (a:=kE (1+10)==0) (b:=(1+10:Int) != 9) (by decide) (.tmp 55) (.tmp 57))<|an h2<|an h3<|an (ask_bb (a:=vE (1+10)==0) (b:=decide ((1+10:Int)≤3)||(1+10:Int)==11) (by decide) (.tmp 68) (.tmp 73))<|an h4<|an (ask_bb (a:=uE (1+10)==0) (b:=(1+10:Int)==3||(1+10:Int)==6) (by decide) (.tmp 79) (.tmp 80)) trivial) (by kernel_rfl))
 ·obtain ⟨e1,e2,e3,e4⟩:=ck_vals (w:=d % 16) (d:=d) (n:=n) hb (by omega) (fun h=>absurd h h10) hd.1 hn
  have h1:=e1 ▸ ac_pcae ⟨1+r,d % 16,0,0⟩
  have h2:=e2 ▸ ac_pcae ⟨1+r,16+d,0,0⟩
  have h3:=e3 ▸ ac_pcae ⟨1+r,d % 16,1+n,0⟩
  have h4:=e4 ▸ ac_pcae ⟨1+r,d % 16,0,1+n⟩
  clear e1 e2 e3 e4 hr
  have h11:r=0∨r=1∨r=2∨r=3∨r=4∨r=5∨r=6∨r=7∨r=8∨r=9:=by omega
  clear hb h10
  rcases h11 with rfl | rfl | rfl | rfl | rfl | rfl | rfl | rfl | rfl | rfl
  ·(exact ac_path mixed (ext:=llX) (fuel:=9) (n:=6) (orc:=[vD true,.int .i64 0,.int .i64 d,.nilFunc,.int .i64 d,.int .i64 n,.int .i64 n,.nilFunc,.int .i64 (kE (1+0)),.bool true,.nilFunc,.int .i64 190,.nilFunc,.int .i64 (vE (1+0)),.nilFunc,.bool true,.nilFunc,.int .i64 (uE (1+0)),.bool true]) (an ac_awakeL<|an (show 0≤kd∧(0:Int)<11 by omega)<|an hc<|an (show In64 (1+0) by decide)<|an (ask_u8 d hd.1 hd.2 (.tmp 21))<|an (show 0≤d∧(0:Int)<16 by omega)<|an (ask_u8 d hd.1 hd.2 (.tmp 29))<|an (show In64 (16+d) by constructor <;> omega)<|an (ask_u32L n hn.1 hn.2 (.tmp 34))<|an (show In64 (1+n) by constructor <;> omega)<|an (ask_u32L n hn.1 hn.2 (.tmp 39))<|an (show In64 (1+n) by constructor <;> omega)<|an h1<|an (ask_bb (a:=kE (1+0)==0) (b:=(1+0:Int) != 9) (by decide) (.tmp 55) (.tmp 57))<|an h2<|an h3<|an (ask_bb (a:=vE (1+0)==0) (b:=decide ((1+0:Int)≤3)||(1+0:Int)==11) (by decide) (.tmp 68) (.tmp 73))<|an h4<|an (ask_bb (a:=uE (1+0)==0) (b:=(1+0:Int)==3||(1+0:Int)==6) (by decide) (.tmp 79) (.tmp 80)) trivial) (by kernel_rfl))
  ·(exact ac_path mixed (ext:=llX) (fuel:=9) (n:=6) (orc:=[vD true,.int .i64 1,.int .i64 d,.nilFunc,.int .i64 d,.int .i64 n,.int .i64 n,.nilFunc,.int .i64 (kE (1+1)),.bool true,.nilFunc,.int .i64 190,.nilFunc,.int .i64 (vE (1+1)),.nilFunc,.bool true,.nilFunc,.int .i64 (uE (1+1)),.bool true]) (an ac_awakeL<|an (show 0≤kd∧(0:Int)<11 by omega)<|an hc<|an (show In64 (1+1) by decide)<|an (ask_u8 d hd.1 hd.2 (.tmp 21))<|an (show 0≤d∧(0:Int)<16 by omega)<|an (ask_u8 d hd.1 hd.2 (.tmp 29))<|an (show In64 (16+d) by constructor <;> omega)<|an (ask_u32L n hn.1 hn.2 (.tmp 34))<|an (show In64 (1+n) by constructor <;> omega)<|an (ask_u32L n hn.1 hn.2 (.tmp 39))<|an (show In64 (1+n) by constructor <;> omega)<|an h1<|an (ask_bb (a:=kE (1+1)==0) (b:=(1+1:Int) != 9) (by decide) (.tmp 55) (.tmp 57))<|an h2<|an h3<|an (ask_bb (a:=vE (1+1)==0) (b:=decide ((1+1:Int)≤3)||(1+1:Int)==11) (by decide) (.tmp 68) (.tmp 73))<|an h4<|an (ask_bb (a:=uE (1+1)==0) (b:=(1+1:Int)==3||(1+1:Int)==6) (by decide) (.tmp 79) (.tmp 80)) trivial) (by kernel_rfl))
  ·(exact ac_path mixed (ext:=llX) (fuel:=9) (n:=6) (orc:=[vD true,.int .i64 2,.int .i64 d,.nilFunc,.int .i64 d,.int .i64 n,.int .i64 n,.nilFunc,.int .i64 (kE (1+2)),.bool true,.nilFunc,.int .i64 190,.nilFunc,.int .i64 (vE (1+2)),.nilFunc,.bool true,.nilFunc,.int .i64 (uE (1+2)),.bool true]) (an ac_awakeL<|an (show 0≤kd∧(0:Int)<11 by omega)<|an hc<|an (show In64 (1+2) by decide)<|an (ask_u8 d hd.1 hd.2 (.tmp 21))<|an (show 0≤d∧(0:Int)<16 by omega)<|an (ask_u8 d hd.1 hd.2 (.tmp 29))<|an (show In64 (16+d) by constructor <;> omega)<|an (ask_u32L n hn.1 hn.2 (.tmp 34))<|an (show In64 (1+n) by constructor <;> omega)<|an (ask_u32L n hn.1 hn.2 (.tmp 39))<|an (show In64 (1+n) by constructor <;> omega)<|an h1<|an (ask_bb (a:=kE (1+2)==0) (b:=(1+2:Int) != 9) (by decide) (.tmp 55) (.tmp 57))<|an h2<|an h3<|an (ask_bb (a:=vE (1+2)==0) (b:=decide ((1+2:Int)≤3)||(1+2:Int)==11) (by decide) (.tmp 68) (.tmp 73))<|an h4<|an (ask_bb (a:=uE (1+2)==0) (b:=(1+2:Int)==3||(1+2:Int)==6) (by decide) (.tmp 79) (.tmp 80)) trivial) (by kernel_rfl))
  ·(exact ac_path mixed (ext:=llX) (fuel:=9) (n:=6) (orc:=[vD true,.int .i64 3,.int .i64 d,.nilFunc,.int .i64 d,.int .i64 n,.int .i64 n,.nilFunc,.int .i64 (kE (1+3)),.bool true,.nilFunc,.int .i64 190,.nilFunc,.int .i64 (vE (1+3)),.nilFunc,.bool true,.nilFunc,.int .i64 (uE (1+3)),.bool true]) (an ac_awakeL<|an (show 0≤kd∧(0:Int)<11 by omega)<|an hc<|an (show In64 (1+3) by decide)<|an (ask_u8 d hd.1 hd.2 (.tmp 21))<|an (show 0≤d∧(0:Int)<16 by omega)<|an (ask_u8 d hd.1 hd.2 (.tmp 29))<|an (show In64 (16+d) by constructor <;> omega)<|an (ask_u32L n hn.1 hn.2 (.tmp 34))<|an (show In64 (1+n) by constructor <;> omega)<|an (ask_u32L n hn.1 hn.2 (.tmp 39))<|an (show In64 (1+n) by constructor <;> omega)<|an h1<|an (ask_bb (a:=kE (1+3)==0) (b:=(1+3:Int) != 9) (by decide) (.tmp 55) (.tmp 57))<|an h2<|an h3<|an (ask_bb (a:=vE (1+3)==0) (b:=decide ((1+3:Int)≤3)||(1+3:Int)==11) (by decide) (.tmp 68) (.tmp 73))<|an h4<|an (ask_bb (a:=uE (1+3)==0) (b:=(1+3:Int)==3||(1+3:Int)==6) (by decide) (.tmp 79) (.tmp 80)) trivial) (by kernel_rfl))
  ·(exact ac_path mixed (ext:=llX) (fuel:=9) (n:=6) (orc:=[vD true,.int .i64 4,.int .i64 d,.nilFunc,.int .i64 d,.int .i64 n,.int .i64 n,.nilFunc,.int .i64 (kE (1+4)),.bool true,.nilFunc,.int .i64 190,.nilFunc,.int .i64 (vE (1+4)),.nilFunc,.bool true,.nilFunc,.int .i64 (uE (1+4)),.bool true]) (an ac_awakeL<|an (show 0≤kd∧(0:Int)<11 by omega)<|an hc<|an (show In64 (1+4) by decide)<|an (ask_u8 d hd.1 hd.2 (.tmp 21))<|an (show 0≤d∧(0:Int)<16 by omega)<|an (ask_u8 d hd.1 hd.2 (.tmp 29))<|an (show In64 (16+d) by constructor <;> omega)<|an (ask_u32L n hn.1 hn.2 (.tmp 34))<|an (show In64 (1+n) by constructor <;> omega)<|an (ask_u32L n hn.1 hn.2 (.tmp 39))<|an (show In64 (1+n) by constructor <;> omega)<|an h1<|an (ask_bb (a:=kE (1+4)==0) (b:=(1+4:Int) != 9) (by decide) (.tmp 55) (.tmp 57))<|an h2<|an h3<|an (ask_bb (a:=vE (1+4)==0) (b:=decide ((1+4:Int)≤3)||(1+4:Int)==11) (by decide) (.tmp 68) (.tmp 73))<|an h4<|an (ask_bb (a:=uE (1+4)==0) (b:=(1+4:Int)==3||(1+4:Int)==6) (by decide) (.tmp 79) (.tmp 80)) trivial) (by kernel_rfl))
  ·(exact ac_path mixed (ext:=llX) (fuel:=9) (n:=6) (orc:=[vD true,.int .i64 5,.int .i64 d,.nilFunc,.int .i64 d,.int .i64 n,.int .i64 n,.nilFunc,.int .i64 (kE (1+5)),.bool true,.nilFunc,.int .i64 190,.nilFunc,.int .i64 (vE (1+5)),.nilFunc,.bool true,.nilFunc,.int .i64 (uE (1+5)),.bool true]) (an ac_awakeL<|an (show 0≤kd∧(0:Int)<11 by omega)<|an hc<|an (show In64 (1+5) by decide)<|an (ask_u8 d hd.1 hd.2 (.tmp 21))<|an (show 0≤d∧(0:Int)<16 by omega)<|an (ask_u8 d hd.1 hd.2 (.tmp 29))<|an (show In64 (16+d) by constructor <;> omega)<|an (ask_u32L n hn.1 hn.2 (.tmp 34))<|an (show In64 (1+n) by constructor <;> omega)<|an (ask_u32L n hn.1 hn.2 (.tmp 39))<|an (show In64 (1+n) by constructor <;> omega)<|an h1<|an (ask_bb (a:=kE (1+5)==0) (b:=(1+5:Int) != 9) (by decide) (.tmp 55) (.tmp 57))<|an h2<|an h3<|an (ask_bb (a:=vE (1+5)==0) (b:=decide ((1+5:Int)≤3)||(1+5:Int)==11) (by decide) (.tmp 68) (.tmp 73))<|an h4<|an (ask_bb (a:=uE (1+5)==0) (b:=(1+5:Int)==3||(1+5:Int)==6) (by decide) (.tmp 79) (.tmp 80)) trivial) (by kernel_rfl))
  ·(exact ac_path mixed (ext:=llX) (fuel:=9) (n:=6) (orc:=[vD true,.int .i64 6,.int .i64 d,.nilFunc,.int .i64 d,.int .i64 n,.int .i64 n,.nilFunc,.int .i64 (kE (1+6)),.bool true,.nilFunc,.int .i64 190,.nilFunc,.int .i64 (vE (1+6)),.nilFunc,.bool true,.nilFunc,.int .i64 (uE (1+6)),.bool true]) (an ac_awakeL<|an (show 0≤kd∧(0:Int)<11 by omega)<|an hc<|an (show In64 (1+6) by decide)<|an (ask_u8 d hd.1 hd.2 (.tmp 21))<|an (show 0≤d∧(0:Int)<16 by omega)<|an (ask_u8 d hd.1 hd.2 (.tmp 29))<|an (show In64 (16+d) by constructor <;> omega)<|an (ask_u32L n hn.1 hn.2 (.tmp 34))<|an (show In64 (1+n) by constructor <;> omega)<|an (ask_u32L n hn.1 hn.2 (.tmp 39))<|an (show In64 (1+n) by constructor <;> omega)<|an h1<|an (ask_bb (a:=kE (1+6)==0) (b:=(1+6:Int) != 9) (by decide) (.tmp 55) (.tmp 57))<|an h2<|an h3<|an (ask_bb (a:=vE (1+6)==0) (b:=decide ((1+6:Int)≤3)||(1+6:Int)==11) (by decide) (.tmp 68) (.tmp 73))<|an h4<|an (ask_bb (a:=uE (1+6)==0) (b:=(1+6:Int)==3||(1+6:Int)==6) (by decide) (.tmp 79) (.tmp 80)) trivial) (by kernel_rfl))
  ·(exact ac_path mixed (ext:=llX) (fuel:=9) (n:=6) (orc:=[vD true,.int .i64 7,.int .i64 d,.nilFunc,.int .i64 d,.int .i64 n,.int .i64 n,.nilFunc,.int .i64 (kE (1+7)),.bool true,.nilFunc,.int .i64 190,.nilFunc,.int .i64 (vE (1+7)),.nilFunc,.bool true,.nilFunc,.int .i64 (uE (1+7)),.bool true]) (an ac_awakeL<|an (show 0≤kd∧(0:Int)<11 by omega)<|an hc<|an (show In64 (1+7) by decide)<|an (ask_u8 d hd.1 hd.2 (.tmp 21))<|an (show 0≤d∧(0:Int)<16 by omega)<|an (ask_u8 d hd.1 hd.2 (.tmp 29))<|an (show In64 (16+d) by constructor <;> omega)<|an (ask_u32L n hn.1 hn.2 (.tmp 34))<|an (show In64 (1+n) by constructor <;> omega)<|an (ask_u32L n hn.1 hn.2 (.tmp 39))<|an (show In64 (1+n) by constructor <;> omega)<|an h1<|an (ask_bb (a:=kE (1+7)==0) (b:=(1+7:Int) != 9) (by decide) (.tmp 55) (.tmp 57))<|an h2<|an h3<|an (ask_bb (a:=vE (1+7)==0) (b:=decide ((1+7:Int)≤3)||(1+7:Int)==11) (by decide) (.tmp 68) (.tmp 73))<|an h4<|an (ask_bb (a:=uE (1+7)==0) (b:=(1+7:Int)==3||(1+7:Int)==6) (by decide) (.tmp 79) (.tmp 80)) trivial) (by kernel_rfl))
  ·(exact ac_path mixed (ext:=llX) (fuel:=9) (n:=6) (orc:=[vD true,.int .i64 8,.int .i64 d,.nilFunc,.int .i64 d,.int .i64 n,.int .i64 n,.nilFunc,.int .i64 (kE (1+8)),.bool true,.nilFunc,.int .i64 190,.nilFunc,.int .i64 (vE (1+8)),.nilFunc,.bool true,.nilFunc,.int .i64 (uE (1+8)),.bool true]) (an ac_awakeL<|an (show 0≤kd∧(0:Int)<11 by omega)<|an hc<|an (show In64 (1+8) by decide)<|an (ask_u8 d hd.1 hd.2 (.tmp 21))<|an (show 0≤d∧(0:Int)<16 by omega)<|an (ask_u8 d hd.1 hd.2 (.tmp 29))<|an (show In64 (16+d) by constructor <;> omega)<|an (ask_u32L n hn.1 hn.2 (.tmp 34))<|an (show In64 (1+n) by constructor <;> omega)<|an (ask_u32L n hn.1 hn.2 (.tmp 39))<|an (show In64 (1+n) by constructor <;> omega)<|an h1<|an (ask_bb (a:=kE (1+8)==0) (b:=(1+8:Int) != 9) (by decide) (.tmp 55) (.tmp 57))<|an h2<|an h3<|an (ask_bb (a:=vE (1+8)==0) (b:=decide ((1+8:Int)≤3)||(1+8:Int)==11) (by decide) (.tmp 68) (.tmp 73))<|an h4<|an (ask_bb (a:=uE (1+8)==0) (b:=(1+8:Int)==3||(1+8:Int)==6) (by decide) (.tmp 79) (.tmp 80)) trivial) (by kernel_rfl))
  ·(exact ac_path mixed (ext:=llX) (fuel:=9) (n:=6) (orc:=[vD true,.int .i64 9,.int .i64 d,.nilFunc,.int .i64 d,.int .i64 n,.int .i64 n,.nilFunc,.int .i64 (kE (1+9)),.bool true,.nilFunc,.int .i64 190,.nilFunc,.int .i64 (vE (1+9)),.nilFunc,.bool true,.nilFunc,.int .i64 (uE (1+9)),.bool true]) (an ac_awakeL<|an (show 0≤kd∧(0:Int)<11 by omega)<|an hc<|an (show In64 (1+9) by decide)<|an (ask_u8 d hd.1 hd.2 (.tmp 21))<|an (show 0≤d∧(0:Int)<16 by omega)<|an (ask_u8 d hd.1 hd.2 (.tmp 29))<|an (show In64 (16+d) by constructor <;> omega)<|an (ask_u32L n hn.1 hn.2 (.tmp 34))<|an (show In64 (1+n) by constructor <;> omega)<|an (ask_u32L n hn.1 hn.2 (.tmp 39))<|an (show In64 (1+n) by constructor <;> omega)<|an h1<|an (ask_bb (a:=kE (1+9)==0) (b:=(1+9:Int) != 9) (by decide) (.tmp 55) (.tmp 57))<|an h2<|an h3<|an (ask_bb (a:=vE (1+9)==0) (b:=decide ((1+9:Int)≤3)||(1+9:Int)==11) (by decide) (.tmp 68) (.tmp 73))<|an h4<|an (ask_bb (a:=uE (1+9)==0) (b:=(1+9:Int)==3||(1+9:Int)==6) (by decide) (.tmp 79) (.tmp 80)) trivial) (by kernel_rfl))
theorem callKinds_walk (kd:Int) (hkd:0≤kd∧kd≤255) (d:Int) (hd:0≤d∧d≤255) (n:Int) (hn:0≤n∧n≤4294967295) (w:World) :
  Calls Tryz.prog 7 #[.int .u8 kd,.int .u8 d,.int .u32 n] w fun e w' => e = .returned (.bool true)∧Kept w w' := by
 refine law_of (ac_callKinds (kd:=kd) (d:=d) (n:=n) hkd hd hn) (cells_at.2 ?_)
 exact ⟨_,_,rfl,rp_int.2 rfl,_,_,rfl,rp_int.2 rfl,_,_,rfl,rp_int.2 rfl,rfl⟩
theorem callKinds_lifted (os:Os) (started:os.Started) (H:Type) (enc:TypeId×Value→H) :
  ReturnsInHanded {} Tryz.checked os 7 .any (Rows.callKindsSpec.pre6 enc Tryz.prog Tryz.f7 Rows.callKindsRow.domain false) (Rows.callKindsSpec.post enc Tryz.prog Tryz.f7 false true false false):=by
 refine returnsInHanded_of_change (C:=Tryz.checked) own started (by kernel_rfl) Tryz.func7
  (ChangeSpec.witness6 (enc:=enc) (C:=Tryz.checked) false ⟨#[],#[.int .u8 0,.int .u8 0,.int .u32 0],[]⟩ 8 (by kernel_rfl) (by kernel_rfl) (by kernel_rfl) (by kernel_rfl)) ?_
 intro W base args ds gs before hval0 hW hcnd _
 have hval:∀ (j:Nat) t v,Tryz.f7.params[j]? = some t→args[j]? = some v→Value.okWide Tryz.prog W .any base t v:=hval0
 have hW' := hW
 obtain ⟨p,q,hA0,hV,rfl,hfz,hnd⟩:=hW
 have hA:DataW.TrodAll enc Tryz.prog W 0 (fun _=>true) true Tryz.f7.params.toList args.toList ds p:=hA0
 rw [Tryz.params7] at hA hval
 obtain ⟨v0,vs0,d0,ds0,p0,q0,hargs,rfl,rfl,h0,r0⟩:=trodAll_cons hA
 obtain ⟨v1,vs1,d1,ds1,p1,q1,rfl,rfl,rfl,h1,r1⟩:=trodAll_cons r0
 obtain ⟨v2,vs2,d2,ds2,p2,q2,rfl,rfl,rfl,h2,r2⟩:=trodAll_cons r1
 obtain ⟨rfl,rfl,rfl⟩:=trodAll_nil r2
 obtain rfl:args=#[v0,v1,v2]:=by cases args;simp_all
 obtain ⟨rfl,rfl⟩:=trodVars_none hV
 obtain ⟨kd,rfl,rfl,rfl,wf0⟩:=open_int Tryz.underlying5 (hval 0 5 v0 rfl rfl) h0
 obtain ⟨d,rfl,rfl,rfl,wf1⟩:=open_int Tryz.underlying5 (hval 1 5 v1 rfl rfl) h1
 obtain ⟨n,rfl,rfl,rfl,wf2⟩:=open_int Tryz.underlying54 (hval 2 54 v2 rfl rfl) h2
 clear hA0 hval0
 refine (callKinds_walk kd (bounds_u8 wf0) d (bounds_u8 wf1) n (bounds_u32 wf2) W).mono fun e W' ⟨he,hg⟩=>?_
 subst he
 exact ⟨_,rfl,law_post laid hW' rfl (by kernel_rfl) rfl Tryz.underlying4 rfl hg⟩
theorem callKinds_holds:Rows.CallKindsSaid :=
 OpenClaim.holds_of_wide 7 Tryz.f7 rfl rfl rfl rfl rfl rfl rfl ⟨rfl,rfl,rfl,rfl,rfl⟩ rfl rfl rfl rfl rfl (by kernel_rfl) Tryz.func7 (by kernel_rfl)
  (of_decide_eq_true (by kernel_rfl)) (by unfold Func.isWrapper;rw [if_neg (of_decide_eq_false (by kernel_rfl))];exact ⟨rfl,rfl⟩)
  (fun os started H enc _=>callKinds_lifted os started H enc)
end
end Go.Proofs.YtbckpadeamlidaaGreat
