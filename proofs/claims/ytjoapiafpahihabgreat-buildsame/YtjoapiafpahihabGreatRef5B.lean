import Derived.Test.YtjoapiafpahihabGreatRef5M
import Derived.Test.YtjoapiafpahihabGreatRef5A
import Derived.Test.YtjoapiafpahihabGreatRef5Play
import Derived.Test.YtjoapiafpahihabGreatRef3A
namespace Go.Proofs.YtjoapiafpahihabGreat
open Go.RowKit Go.Joins
set_option linter.unusedVariables false
def zt1 (t:Tg) (K:Kn) (regs:Nat) (M:List (List Int)) (turns:Int):Int :=
 if zs3 M=true/\Z6 t K (zrp M)=true/\(regs:Int)=t.r then (if 0<=turns/\turns<=200 then 0 else 3) else 2
theorem zsx {t:Tg} {K:Kn} {n:Nat} {M:List (List Int)} {turns:Int} (h:zt1 t K n M turns=0):zs3 M=true/\Z6 t K (zrp M)=true/\(n:Int)=t.r/\0<=turns/\turns<=200:=by
 unfold zt1 at h
 split at h
 ·rename_i h1
  split at h
  ·rename_i h2;exact⟨h1.1,h1.2.1,h1.2.2,h2.1,h2.2⟩
  ·exact absurd h (by decide)
 ·exact absurd h (by decide)
theorem zvd (t:Tg) (kv rv mv:Value) (K:Kn) (R:List Int) (M:List (List Int)) (turns:Int) (w:World) (hK:xh w kv K) (hR:yf w rv R) (hM:YY w mv M) (hw:zt1 t K R.length M turns=0) (hnn:∀x∈K.ops,I64 x.nn) :
  Calls Tryz.prog 37 #[.agg t.cells,kv,rv,mv,iV turns] w fun e w'=>∃rv' mv',e=.returned (.tuple #[rv',mv'])/\yf w' rv' (zs5 R.length (zq2 t K (zrp M) turns R M))/\YY w' mv' (zrz M (zq2 t K (zrp M) turns R M))/\Below w.heap.size w w':=by
 obtain⟨h1,h2,h3,h4,h5⟩:=zsx hw
 obtain⟨m1,m2,m3,m4,m5,m6,m7,m8⟩:=zss h2
 obtain⟨p0,p1,p2,q0,q1,q2,r⟩:=t
 obtain⟨pc,st,ops⟩:=K
 dsimp only at m2 m3 m4 m5 h3
 obtain⟨PC,rfl⟩:=Int.eq_ofNat_of_zero_le (show 0<=pc by omega)
 obtain⟨ST,rfl⟩:=Int.eq_ofNat_of_zero_le (show 0<=st by omega)
 obtain⟨T,rfl⟩:=Int.eq_ofNat_of_zero_le h4
 subst h3
 have hR':=hR
 have hM':=hM
 obtain⟨ov,rfl,hO⟩:=hK
 have hO':=hO
 obtain⟨ra,rc,rfl,-⟩:=hR'
 obtain⟨ma,mc,rfl,-⟩:=hM'
 obtain⟨ka,kc,rfl,-⟩:=hO'
 exact zud p0 p1 p2 q0 q1 q2 R.length PC ST T ops ka kc ra rc R ma mc M w hO hR hM h2 h1 rfl (by omega) hnn
set_option maxHeartbeats 400000 in
theorem zwm (PC ST turns P:Nat) (ov:Value) (w:World) (h1:PC<=200) (h2:ST<=1001) (h3:turns<=200) (hP:((turns:Int)+(ST:Int))*(PC:Int)=(P:Int)) (hP2:P<=300000) :
  Calls Tryz.prog 11 #[.agg #[iV PC,iV ST,ov],iV turns] w fun e w'=>e=.returned (.bool (decide (20000<(P:Int))))/\Below w.heap.size w w':=by
 have hw:IntKind.i64.wrap (((turns:Int)+(ST:Int))*(PC:Int))=(P:Int):=by rw [hP,IntKind.wrap_i64];omega
 have e1:¬(300:Int)<(turns:Int):=by omega
 have e2:¬(2000:Int)<(ST:Int):=by omega
 have e3:¬(300:Int)<(PC:Int):=by omega
 have d1:decide ((300:Int)<(turns:Int))=false:=decide_eq_false e1
 have d2:decide ((2000:Int)<(ST:Int))=false:=decide_eq_false e2
 have d3:decide ((300:Int)<(PC:Int))=false:=decide_eq_false e3
 clear hP
 by_cases hb:(20000:Int)<(P:Int)
 ·rw [decide_eq_true hb]
  go_enter Tryz.func11,Tryz.ntmps11
  go_wp2_with fail
  go_ret
  exact⟨by simp,below_alloc1 _ _⟩
 ·rw [decide_eq_false hb]
  go_enter Tryz.func11,Tryz.ntmps11
  go_wp2_with fail
  go_ret
  exact⟨by simp,below_alloc1 _ _⟩
theorem zwl (t:Tg) (K:Kn) (n:Nat) (M:List (List Int)) (turns:Int) (ov:Value) (w:World) (h:zt1 t K n M turns=0) :
  Calls Tryz.prog 11 #[.agg #[iV K.pc,iV K.st,ov],iV turns] w fun e w'=>e=.returned (.bool (decide (20000<(turns+K.st)*K.pc)))/\Below w.heap.size w w':=by
 obtain⟨h1,h2,h3,h4,h5⟩:=zsx h
 obtain⟨m1,m2,m3,m4,m5,m6,m7,m8⟩:=zss h2
 obtain⟨pc,st,ops⟩:=K
 dsimp only at m2 m3 m4 m5 ⊢
 obtain⟨PC,rfl⟩:=Int.eq_ofNat_of_zero_le (show 0<=pc by omega)
 obtain⟨ST,rfl⟩:=Int.eq_ofNat_of_zero_le (show 0<=st by omega)
 obtain⟨T,rfl⟩:=Int.eq_ofNat_of_zero_le h4
 have hP:((T:Int)+(ST:Int))*(PC:Int)=(((T+ST)*PC:Nat):Int):=by rw [<-Int.natCast_add];exact (Int.natCast_mul _ _).symm
 rw [hP]
 exact zwm PC ST T ((T+ST)*PC) ov w (by omega) (by omega) (by omega) hP (Nat.le_trans (Nat.mul_le_mul (show T+ST<=1201 by omega) (show PC<=200 by omega)) (by decide))
def wn (W:World) (g:Nat):World:=(((W.alloc (.cells #[iV 0,iV 0,iV 2,iV 0,iV 0,iV 0,iV 0,iV 0,iV 0,iV 0] 37)).alloc (.cells #[iV 1,iV 1,.slice (some ⟨g,0,none⟩) 1 1] 31)).alloc (.cells #[iV 1,iV 1,iV 1,iV 1,iV 1,iV 1,iV 1] 28)).alloc (.cells #[iV 7] 2)
end Go.Proofs.YtjoapiafpahihabGreat
