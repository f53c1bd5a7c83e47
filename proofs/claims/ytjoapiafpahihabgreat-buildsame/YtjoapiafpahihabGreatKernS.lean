import Derived.Test.YtjoapiafpahihabGreatMaths
import Derived.Test.YtjoapiafpahihabGreatLoopStmt
import Derived.Test.YtjoapiafpahihabGreatLoopP
import Derived.Deep.QuietTactic
import Derived.BigQuiet
namespace Go.Proofs.YtjoapiafpahihabGreat
open Go.RowKit Go.Joins
set_option linter.unusedVariables false
def yX (x:Kop):Array Value:=#[iV x.sl,iV x.sg,iV x.o,iV x.d,iV x.a,iV x.b,iV x.ar,iV x.sp,iV x.pl,iV x.nn]
def Xz (w:World) (v:Value) (l:List Kop):Prop :=
 ∃ a cap,v=.slice a l.length cap/\l.length<=cap/\cap<=maxLen /\
   (0<l.length->∃blk off,a=some ⟨blk,off,none⟩/\blk<w.heap.size/\∀i,i<l.length->∀j,j<10->w.cell? ⟨blk,off+i*10+j,none⟩=(yX (zq l i))[j]?)
theorem Xz.below {w w':World} {v:Value} {l:List Kop} (h:Xz w v l) (hb:Below w.heap.size w w'):Xz w' v l:=by
 obtain⟨a,cap,e,h1,h2,h4⟩:=h
 refine⟨a,cap,e,h1,h2,fun hp=>?_⟩
 obtain⟨b,off,e2,h5,h6⟩:=h4 hp
 exact⟨b,off,e2,Nat.lt_of_lt_of_le h5 hb.size,fun i hi j hj=>by rw [zc hb _ _ h5];exact h6 i hi j hj⟩
def xh (w:World) (v:Value) (K:Kn):Prop:=∃kv,v=.agg #[iV K.pc,iV K.st,kv]/\Xz w kv K.ops
theorem xh.below {w w':World} {v:Value} {K:Kn} (h:xh w v K) (hb:Below w.heap.size w w'):xh w' v K:=by
 obtain⟨kv,e,h1⟩:=h
 exact⟨kv,e,h1.below hb⟩
theorem ten {w:World} {b o:Nat} {x:Kop} (h:∀j,j<10->w.cell? ⟨b,o+j,none⟩=(yX x)[j]?) :
  w.cell? ⟨b,o,none⟩=some (iV x.sl)/\w.cell? ⟨b,o+1,none⟩=some (iV x.sg)/\w.cell? ⟨b,o+2,none⟩=some (iV x.o)/\w.cell? ⟨b,o+3,none⟩=some (iV x.d)/\w.cell? ⟨b,o+4,none⟩=some (iV x.a) /\
   w.cell? ⟨b,o+5,none⟩=some (iV x.b)/\w.cell? ⟨b,o+6,none⟩=some (iV x.ar)/\w.cell? ⟨b,o+7,none⟩=some (iV x.sp)/\w.cell? ⟨b,o+8,none⟩=some (iV x.pl)/\w.cell? ⟨b,o+9,none⟩=some (iV x.nn) :=
 ⟨h 0 (by omega),h 1 (by omega),h 2 (by omega),h 3 (by omega),h 4 (by omega),h 5 (by omega),h 6 (by omega),h 7 (by omega),h 8 (by omega),h 9 (by omega)⟩
theorem zp6 {t:Tg} {K:Kn} {logs:List Int} (h:zp t=false\/inR K.pc 1 200=false\/inR K.st 1 1001=false\/inR K.ops.length 1 16=false):Z6 t K logs=false:=by
 unfold Z6
 rcases h with h | h | h | h <;> rw [h] <;> simp
theorem zma {t:Tg} {K:Kn} {logs:List Int} (h1:zp t=true) (h2:inR K.pc 1 200=true) (h3:inR K.st 1 1001=true) (h4:inR K.ops.length 1 16=true) :
  Z6 t K logs=zh (fun i=>yF t.r K.pc K.st logs (zq K.ops i) && decide ((Un K.ops i:Int)<=zF t (zC (zq K.ops i).o))) K.ops.length:=by
 unfold Z6
 rw [h1,h2,h3,h4];simp
theorem zgt {t:Tg} {c:Int} (h:c=0\/c=1\/c=2):(#[iV t.u0,iV t.u1,iV t.u2,iV t.w0,iV t.w1,iV t.w2,iV t.r])[c.toNat]?=some (iV (zF t c)):=by
 rcases h with rfl | rfl | rfl <;> rfl
set_option maxHeartbeats 400000 in
theorem Ve (op:Int) (w:World):Calls Tryz.prog 99 #[iV op] w fun e w'=>e=.returned (iV (Xo op))/\w'=w:=by
 rcases zdf op with ⟨h,hx⟩ | ⟨h,h2,hx⟩ | ⟨h,h2,hx⟩
 ·have HX:=z5 hx
  have hb:(op == 4)=true:=by simpa using h
  clear h hx
  go_enter Tryz.func99,Tryz.ntmps99
  go_wp2_with fail
  go_ret
  exact⟨yk HX.out.symm,rfl⟩
 ·have HX:=z5 hx
  have hb:(op == 4)=false:=by simpa using h
  clear h hx
  go_enter Tryz.func99,Tryz.ntmps99
  go_wp2_with (go_at_call 140;refine (zY _ _ _ _).mono ?_;rintro e w' ⟨rfl,rfl⟩)
  go_ret
  exact⟨yk HX.out.symm,rfl⟩
 ·have HX:=z5 hx
  have hb:(op == 4)=false:=by simpa using h
  clear h hx
  go_enter Tryz.func99,Tryz.ntmps99
  go_wp2_with (go_at_call 140;refine (zY _ _ _ _).mono ?_;rintro e w' ⟨rfl,rfl⟩)
  go_ret
  exact⟨yk HX.out.symm,rfl⟩
end Go.Proofs.YtjoapiafpahihabGreat
