import Derived.Test.YtjoapiafpahihabGreatRegsA
import Derived.Maps.AppendAt
import Derived.Deep.AppendLies
import Derived.Test.YtjoapiafpahihabGreatRegsE
import Derived.Test.YtjoapiafpahihabGreatDepQ
set_option maxHeartbeats 20000000
namespace Go.Proofs.YtjoapiafpahihabGreat
open Go.Proofs.Tryz
open Go.RowKit Go.Joins
set_option linter.unusedVariables false
set_option linter.unusedSimpArgs false
set_option maxRecDepth 8192
variable {a p R o d m at' g s i:Nat} {q by' P:Int} {L:Lp} {t:Tg} {T:List Int}
section
structure Fc where
 b:Bc
 fb:Nat
 ib:Nat
 pb:Nat
 ka:Nat
 kc:Nat
 kb:Nat->Nat
def zzw (c:Fc) (k:Int) (i:Nat):Value:=if i=0 then .slice (pA c.b.ob) c.b.n c.b.n else if i=1 then .slice (pA c.ib) c.b.n c.b.n else if i=2 then .slice (pA c.pb) c.b.n c.b.n else if i=3 then .slice (pA c.ka) c.b.n c.kc else iV k
structure yJ (c:Fc) (base:Nat) (B:Nat->Nat->Nat->Bool) (I:Nat->Bool) (Q:Nat->Int) (C:Nat->Nat->Int) (k:Int) (x:World):Prop where
 bars:Zl c.b base B x
 fin:zu x c.fb 151 5 (zzw c k)
 ir:zu x c.ib 4 c.b.n (fun i=>.bool (I i))
 pr:zu x c.pb 3 c.b.n (fun i=>iV (Q i))
 kr:zu x c.ka 22 c.b.n (fun a=>.slice (pA (c.kb a)) c.b.R c.b.R)
 kk:∀a,a<c.b.n->zu x (c.kb a) 3 c.b.R (fun p=>iV (C a p))
 ibn:∀a m,a<c.b.n->m<c.b.n->c.ib≠c.b.cb a m
 pbn:∀a,a<c.b.n->c.pb≠c.kb a
 kinj:∀a a',a<c.b.n->a'<c.b.n->c.kb a=c.kb a'->a=a'
 ge:base<=c.fb/\base<=c.ib/\base<=c.pb/\base<=c.ka
 gek:∀a,a<c.b.n->base<=c.kb a
 cap:c.b.n<=c.kc/\c.kc<=9223372036854775807
variable {c:Fc} {base:Nat} {B:Nat->Nat->Nat->Bool} {I:Nat->Bool} {Q:Nat->Int} {C:Nat->Nat->Int} {k:Int} {x y:World}
theorem zp4:(151:TypeId)≠4:=by decide
theorem ze1:(151:TypeId)≠3:=by decide
theorem ybm:(151:TypeId)≠22:=by decide
theorem zbu:(3:TypeId)≠4:=by decide
theorem zkq:(3:TypeId)≠22:=by decide
theorem zzi:(4:TypeId)≠22:=by decide
theorem yJ.gE (h:yJ c base B I Q C k x) (hb:Bw x y):yJ c base B I Q C k y :=
 ⟨h.bars.gE hb,h.fin.gE hb h.fin.lt,h.ir.gE hb h.ir.lt,h.pr.gE hb h.pr.lt,h.kr.gE hb h.kr.lt,fun a ha=>(h.kk a ha).gE hb (h.kk a ha).lt,h.ibn,h.pbn,h.kinj,h.ge,h.gek,h.cap⟩
theorem yJ.congr (h:yJ c base B I Q C k x) {C':Nat->Nat->Int} (hc:∀a,a<c.b.n->∀p,p<c.b.R->C a p=C' a p):yJ c base B I Q C' k x :=
 ⟨h.bars,h.fin,h.ir,h.pr,h.kr,fun a ha=>(h.kk a ha).congr fun p hp=>by rw [hc a ha p hp],h.ibn,h.pbn,h.kinj,h.ge,h.gek,h.cap⟩
theorem yJ.fields (h:yJ c base B I Q C k x):x.cell? (ad c.fb 0)=some (.slice (pA c.b.ob) c.b.n c.b.n)/\x.cell? (ad c.fb 1)=some (.slice (pA c.ib) c.b.n c.b.n)/\x.cell? (ad c.fb 2)=some (.slice (pA c.pb) c.b.n c.b.n)/\x.cell? (ad c.fb 3)=some (.slice (pA c.ka) c.b.n c.kc)/\x.cell? (ad c.fb 4)=sI k :=
 ⟨h.fin.cell (by decide),h.fin.cell (by decide),h.fin.cell (by decide),h.fin.cell (by decide),h.fin.cell (by decide)⟩
theorem yJ.setIn (h:yJ c base B I Q C k x) (ha:a<c.b.n) (b:Bool):yJ c base B (upB I a b) Q C k (x.setCell (ad c.ib a) (.bool b))/\Below base x (x.setCell (ad c.ib a) (.bool b)):=by
 refine⟨⟨h.bars.otherB h.ir h.ibn _ _,h.fin.gF (h.fin.apart h.ir zp4) _,(h.ir.set a (.bool b) ha).congr fun i _=>?_,h.pr.gF (h.pr.apart h.ir zbu) _,h.kr.gF (h.ir.apart h.kr zzi).symm _,fun q hq=>(h.kk q hq).gF ((h.kk q hq).apart h.ir zbu) _,h.ibn,h.pbn,h.kinj,h.ge,h.gek,h.cap⟩,(Below.refl _ _).setCell h.ge.2.1 _⟩
 unfold upB
 by_cases e:i=a
 ·rw [if_pos e,if_pos e]
 ·rw [if_neg e,if_neg e]
theorem zzj:(3:TypeId)≠148:=by decide
theorem zwk:(3:TypeId)≠197:=by decide
theorem ybn:(151:TypeId)≠148:=by decide
theorem yax:(151:TypeId)≠197:=by decide
theorem yJ.setQ (h:yJ c base B I Q C k x) (ha:a<c.b.n) (v:Int):yJ c base B I (upI Q a v) C k (x.setCell (ad c.pb a) (iV v))/\Below base x (x.setCell (ad c.pb a) (iV v)):=by
 refine⟨⟨h.bars.other h.pr zbu zzj zwk _ _,h.fin.gF (h.fin.apart h.pr ze1) _,h.ir.gF (h.pr.apart h.ir zbu).symm _,(h.pr.set a (iV v) ha).congr fun i _=>?_,h.kr.gF (h.pr.apart h.kr zkq).symm _,fun q hq=>(h.kk q hq).gF (h.pbn q hq).symm _,h.ibn,h.pbn,h.kinj,h.ge,h.gek,h.cap⟩,(Below.refl _ _).setCell h.ge.2.2.1 _⟩
 unfold upI
 by_cases e:i=a
 ·rw [if_pos e,if_pos e]
 ·rw [if_neg e,if_neg e]
theorem yJ.setK (h:yJ c base B I Q C k x) (v:Int):yJ c base B I Q C v (x.setCell (ad c.fb 4) (iV v))/\Below base x (x.setCell (ad c.fb 4) (iV v)):=by
 refine⟨⟨h.bars.other h.fin zp4 ybn yax _ _,(h.fin.set 4 (iV v) (by decide)).congr fun i hi=>?_,h.ir.gF (h.fin.apart h.ir zp4).symm _,h.pr.gF (h.fin.apart h.pr ze1).symm _,h.kr.gF (h.fin.apart h.kr ybm).symm _,fun q hq=>(h.kk q hq).gF (h.fin.apart (h.kk q hq) ze1).symm _,h.ibn,h.pbn,h.kinj,h.ge,h.gek,h.cap⟩,(Below.refl _ _).setCell h.ge.1 _⟩
 by_cases e:i=4
 ·rw [if_pos e,e];rfl
 ·rw [if_neg e]
  unfold zzw
  obtain rfl | rfl | rfl | rfl:i=0\/i=1\/i=2\/i=3:=by omega
  all_goals rfl
def upK (C:Nat->Nat->Int) (a p:Nat) (v:Int):Nat->Nat->Int:=fun a' p'=>if a'=a/\p'=p then v else C a' p'
theorem yJ.setC (h:yJ c base B I Q C k x) (ha:a<c.b.n) (hp:p<c.b.R) (v:Int):yJ c base B I Q (upK C a p v) k (x.setCell (ad (c.kb a) p) (iV v))/\Below base x (x.setCell (ad (c.kb a) p) (iV v)):=by
 have hr:=h.kk a ha
 refine⟨⟨h.bars.other hr zbu zzj zwk _ _,h.fin.gF (h.fin.apart hr ze1) _,h.ir.gF (hr.apart h.ir zbu).symm _,h.pr.gF (h.pbn a ha) _,h.kr.gF (hr.apart h.kr zkq).symm _,fun q hq=>?_,h.ibn,h.pbn,h.kinj,h.ge,h.gek,h.cap⟩,(Below.refl _ _).setCell (h.gek a ha) _⟩
 by_cases e:q=a
 ·subst e
  refine (hr.set p (iV v) hp).congr fun i _=>?_
  unfold upK
  by_cases e2:i=p
  ·rw [if_pos e2,if_pos ⟨rfl,e2⟩]
  ·rw [if_neg e2,if_neg (fun h=>e2 h.2)]
 ·refine ((h.kk q hq).gF (fun e2=>e (h.kinj q a hq ha e2)) _).congr fun i _=>?_
  unfold upK
  rw [if_neg (fun h=>e h.1)]
def upD (R:Int) (B:Nat->Nat->Nat->Bool) (C:Nat->Nat->Int) (m:Nat) (q by':Int) (at' o:Nat):Nat->Nat->Int:=fun a p=>if a<at'\/(a=at'/\(((p:Int) - q) % R).toNat<o) then upC R B C m q by' a p else C a p
theorem zos (ho:o<R) (hp:p<R) (h:(q+o) % (R:Int)=d):(((p:Int) - q) % (R:Int)).toNat=o↔p=d:=by
 have h0:=Int.emod_nonneg ((p:Int) - q) (show (R:Int)≠0 by omega)
 have h1:=Int.emod_add_mul_ediv ((p:Int) - q) R
 have h2:=Int.emod_add_mul_ediv (q+o) R
 constructor
 ·intro e
  have e1:((p:Int) - q) % (R:Int)=o:=by omega
  have e2:(p:Int)=(q+o)+R*(((p:Int) - q) / R):=by omega
  have e3:(p:Int) % R=(q+o) % R:=by rw [e2,Int.add_mul_emod_self_left]
  rw [Int.emod_eq_of_lt (by omega) (by omega),h] at e3
  omega
 ·rintro rfl
  have e2:(p:Int) - q=o+R*(-((q+o) / R)):=by rw [Int.mul_neg];omega
  rw [e2,Int.add_mul_emod_self_left,Int.emod_eq_of_lt (by omega) (by omega)]
  omega
theorem zwp {R m q by'} (a p:Nat):C a p=upD R B C m q by' 0 0 a p:=by unfold upD;rw [if_neg (by omega)]
theorem zz3 (hR:1<=R) (a p:Nat):upD R B C m q by' at' R a p=upD R B C m q by' (at'+1) 0 a p:=by
 unfold upD
 have h1:=Int.emod_lt_of_pos ((p:Int) - q) (show 0<(R:Int) by omega)
 by_cases e:a<at'+1
 ·rw [if_pos (by omega),if_pos (.inl e)]
 ·rw [if_neg (by omega),if_neg (by omega)]
theorem zz2 {R:Int} {n:Nat} (ha:a<n) (p:Nat):upD R B C m q by' n 0 a p=upC R B C m q by' a p:=by unfold upD;rw [if_pos (.inl ha)]
theorem yaz (hB:B at' m o=false) (a p:Nat):upD R B C m q by' at' o a p=upD R B C m q by' at' (o+1) a p:=by
 unfold upD
 by_cases e:a<at'\/(a=at'/\(((p:Int) - q) % (R:Int)).toNat<o)
 ·rw [if_pos e,if_pos (by omega)]
 ·rw [if_neg e]
  by_cases e2:a<at'\/(a=at'/\(((p:Int) - q) % (R:Int)).toNat<o+1)
  ·rw [if_pos e2]
   unfold upC
   have e3:a=at'/\(((p:Int) - q) % (R:Int)).toNat=o:=by omega
   rw [e3.2,e3.1,if_neg (by rw [hB];simp)]
  ·rw [if_neg e2]
theorem zz4 (ho:o<R) (hB:B at' m o=true) (hd:(q+o) % (R:Int)=d) (a p:Nat) (hp:p<R):upK (upD R B C m q by' at' o) at' d (C at' d+by') a p=upD R B C m q by' at' (o+1) a p:=by
 unfold upK
 have hr:=zos ho hp hd
 by_cases e:a=at'/\p=d
 ·rw [if_pos e]
  unfold upD upC
  have e2:=hr.2 e.2
  rw [if_pos (by omega),e.1,e2,hB,if_pos rfl,e.2]
 ·rw [if_neg e]
  unfold upD
  by_cases e2:a<at'\/(a=at'/\(((p:Int) - q) % (R:Int)).toNat<o)
  ·rw [if_pos e2,if_pos (by omega)]
  ·have e3:¬(a<at'\/(a=at'/\(((p:Int) - q) % (R:Int)).toNat<o+1)):=by
    intro h
    have:a=at'/\(((p:Int) - q) % (R:Int)).toNat=o:=by omega
    exact e ⟨this.1,hr.1 this.2⟩
   rw [if_neg e2,if_neg e3]
theorem yay (ho:o<R) (hd:(q+o) % (R:Int)=d) (hdl:d<R):upD R B C m q by' at' o at' d=C at' d:=by
 unfold upD
 have:=(zos ho hdl hd).2 rfl
 rw [if_neg (by omega)]
end
section
variable {c:Fc} {base:Nat} {B:Nat->Nat->Nat->Bool} {I:Nat->Bool} {Q:Nat->Int} {C:Nat->Nat->Int} {k:Int}
def zwx (c:Fc) (base:Nat) (B:Nat->Nat->Nat->Bool) (I:Nat->Bool) (Q:Nat->Int) (C:Nat->Nat->Int) (k:Int) (w:World) (e:Ending) (w':World):Prop:=e=.returned (.tuple #[])/\yJ c base B I Q C k w'/\Below base w w'
structure zp9 (c:Fc):Prop where
 n1:1<=c.b.n
 n2:c.b.n<=16
 r1:1<=c.b.R
 r2:c.b.R<=128
theorem zf1 (m:Nat) (by':Int) (w:World) (ok:zp9 c) (h:yJ c base B I Q C k w) (hm:m<c.b.n) (hb1:-1<=by') (hb2:by'<=1) (hC:∀a,a<c.b.n->∀p,p<c.b.R->-100<=C a p/\C a p<=100) (hQ:0<=Q m/\Q m<c.b.R) :
  Calls prog 135 #[.pointer (pA c.fb),iV m,iV by'] w fun e w'=>zwx c base B I Q (upC c.b.R B C m (Q m) by') k w e w':=by
 obtain⟨n1,n2,r1,r2⟩:=ok
 obtain⟨f0,f1,f2,f3,f4⟩:=h.fields
 have hfz:=h.fin.lt
 obtain⟨hc1,hc2⟩:=h.cap
 have hmi:(m:Int)<(c.b.n:Int):=by omega
 have HC:=z9 hC
 have HST:Hid (yJ c base B I Q (upD c.b.R B C m (Q m) by' 0 0) k w):=h.congr fun a ha p hp=>zwp _ _
 have gS:Hid (∀(a:Nat) W,yJ c base B I Q (upD c.b.R B C m (Q m) by' a c.b.R) k W->yJ c base B I Q (upD c.b.R B C m (Q m) by' (a+1) 0) k W):=fun a W hW=>hW.congr fun a' _ p _=>zz3 r1 _ _
 have HEND:Hid (∀W,yJ c base B I Q (upD c.b.R B C m (Q m) by' c.b.n 0) k W->Below base w W->zwx c base B I Q (upC c.b.R B C m (Q m) by') k w (.returned (.tuple #[])) W):=fun W hW hb=>⟨rfl,hW.congr fun a' ha' p _=>zz2 ha' _,hb⟩
 have HNO:Hid (∀(a o:Nat) W,B a m o=false->yJ c base B I Q (upD c.b.R B C m (Q m) by' a o) k W->yJ c base B I Q (upD c.b.R B C m (Q m) by' a (o+1)) k W):=fun a o W hB hW=>hW.congr fun a' _ p _=>yaz hB _ _
 have HYES:Hid (∀(a o d:Nat) W,a<c.b.n->o<c.b.R->d<c.b.R->B a m o=true->(Q m+o) % (c.b.R:Int)=d->yJ c base B I Q (upD c.b.R B C m (Q m) by' a o) k W->yJ c base B I Q (upD c.b.R B C m (Q m) by' a (o+1)) k (W.setCell (ad (c.kb a) d) (iV (C a d+by')))/\Below base W (W.setCell (ad (c.kb a) d) (iV (C a d+by')))/\upD c.b.R B C m (Q m) by' a o a d=C a d):=fun a o d W ha ho hd hB hr hW=>by
  obtain⟨g1,g2⟩:=hW.setC ha hd (C a d+by')
  exact⟨g1.congr fun a' _ p hp=>zz4 ho hB hr _ _ hp,g2,yay ho hr hd⟩
 clear h hC
 obtain⟨q,hq⟩:∃q,Q m=q:=⟨_,rfl⟩
 rw [hq] at hQ HYES HST gS HEND HNO ⊢
 have HQE:=z9 hq
 clear hq
 obtain⟨q1,q2⟩:=hQ
 go_enter func135,ntmps135
 go_wp2_with fail
 clear f0 f1 f2 f3 f4 hfz
 go_loopw [15] (fun av wr=>∃a:Nat,a<=c.b.n/\av=iV a/\yJ c base B I Q (upD c.b.R B C m q by' a 0) k wr/\Below base w wr) (fun av _=>c.b.n - (intOf av).toNat)
 case atStart=>exact⟨0,Nat.zero_le _,rfl,HST.out,Below.refl _ _⟩
 case round =>
  clear HST
  obtain⟨a,ha,rfl,hF,gH⟩:=hrel
  have HF:=z9 hF
  have HB:=z9 gH
  clear gH
  by_cases hal:a<c.b.n
  ·have hai:(a:Int)<(c.b.n:Int):=by omega
   obtain⟨f0,f1,f2,f3,f4⟩:=hF.fields
   have hfz:=hF.fin.lt
   have k1:=hF.kr.cell hal
   have kz:=hF.kr.lt
   have o1:=hF.bars.o.cell hal
   have oz:=hF.bars.o.lt
   have r3:=(hF.bars.r a hal).cell hm
   have rz:=(hF.bars.r a hal).lt
   clear hF
   rename World=>wo
   go_wp2_with fail
   clear f0 f1 f2 f3 f4 hfz k1 kz o1 oz r3 rz
   go_loopw [36] (fun ov wr=>∃o:Nat,o<=c.b.R/\ov=iV o/\yJ c base B I Q (upD c.b.R B C m q by' a o) k wr/\Below base w wr) (fun ov _=>c.b.R - (intOf ov).toNat)
   case atStart=>exact⟨0,Nat.zero_le _,rfl,HF.out,HB.out⟩
   case round =>
    clear HF HB
    obtain⟨o,ho,rfl,hF,gH⟩:=hrel
    have HF:=z9 hF
    have HB:=z9 gH
    clear gH
    by_cases hol:o<c.b.R
    ·have hoi:(o:Int)<(c.b.R:Int):=by omega
     have e1:=(hF.bars.cc a m hal hm).cell hol
     have ez:=(hF.bars.cc a m hal hm).lt
     obtain⟨bo,hbo⟩:∃bo,B a m o=bo:=⟨_,rfl⟩
     rw [hbo] at e1
     cases bo with
     | false =>
       have HN:=z9 (HNO.out a o wr hbo hF)
       clear hF hbo
       go_wp2_with fail
       go_roundw
       case rel=>exact⟨o+1,by omega,by go_num,HN.out,HB.out⟩
       case measure=>simp [intOf];omega
     | true =>
       obtain⟨d,hd⟩:∃d:Nat,(q+o) % (c.b.R:Int)=d:=⟨((q+o) % (c.b.R:Int)).toNat,by have:=Int.emod_nonneg (q+o) (show (c.b.R:Int)≠0 by omega);omega⟩
       have hdl:(d:Int)<(c.b.R:Int):=by rw [<-hd];exact Int.emod_lt_of_pos _ (by omega)
       obtain⟨y1,y2,y3⟩:=HYES.out a o d wr hal hol (by omega) hbo hd hF
       have HL:=z9 (fun W=>XL (q+o) c.b.R d W (by omega) (by omega) (by omega) (by omega) hd)
       obtain⟨f0,f1,f2,f3,f4⟩:=hF.fields
       have hfz:=hF.fin.lt
       have p1:=hF.pr.cell hm
       have pz:=hF.pr.lt
       have kd:=(hF.kk a hal).cell (show d<c.b.R by omega)
       have kf:=(hF.kk a hal).frozen d
       have kz:=(hF.kk a hal).lt
       rw [y3] at kd
       rw [HQE.out] at p1
       obtain⟨u1,u2⟩:=HC.out a hal d (by omega)
       have hw1:wrap64 (q+o)=q+o:=by unfold wrap64;omega
       have hw2:wrap64 (C a d+by')=C a d+by':=by unfold wrap64;omega
       have HY1:=z9 y1
       have HY2:=z9 (HB.out.trans y2)
       clear y1 y2 y3 hF hbo hd u1 u2
       generalize C a d=cd at *
       go_wp2_with fail
       refine (HL.out _).mono ?_
       rintro e x2 ⟨rfl,rfl⟩
       go_wp2_with fail
       go_roundw
       case rel=>exact⟨o+1,by omega,by go_num,HY1.out,HY2.out⟩
       case measure=>simp [intOf];omega
    ·have e:o=c.b.R:=by omega
     have hoi:¬(o:Int)<(c.b.R:Int):=by omega
     have HR:=z9 (gS.out a wr (by rw [e] at hF;exact hF))
     clear hF e
     go_wp2_with fail
     go_roundw
     case rel=>exact⟨a+1,by omega,by go_num,HR.out,HB.out⟩
     case measure=>simp [intOf];omega
  ·have e:a=c.b.n:=by omega
   have hai:¬(a:Int)<(c.b.n:Int):=by omega
   have HP:=z9 (HEND.out wr (by rw [e] at hF;exact hF) HB.out)
   clear hF e
   go_wp2_with fail
   go_end0
   exact HP.out
end
section
variable {c:Fc} {base:Nat} {B:Nat->Nat->Nat->Bool} {I:Nat->Bool} {Q:Nat->Int} {C:Nat->Nat->Int} {k:Int}
theorem zwe (a:Nat) (w:World) (ok:zp9 c) (h:yJ c base B I Q C k w) (ha:a<c.b.n) (hC:∀a,a<c.b.n->∀p,p<c.b.R->-100<=C a p/\C a p<=100) (hQ:0<=Q a/\Q a<c.b.R) :
  Calls prog 137 #[.pointer (pA c.fb),iV a] w fun e w'=>zwx c base B (upB I a false) Q (upC c.b.R B C a (Q a) (-1)) k w e w':=by
 obtain⟨g1,g2⟩:=h.setIn ha false
 have HC:=z9 (zf1 a (-1) _ ok g1 ha (by decide) (by decide) hC hQ)
 have HB:=z9 g2
 obtain⟨f0,f1,f2,f3,f4⟩:=h.fields
 have hfz:=h.fin.lt
 have i1:=h.ir.cell ha
 have i2:=h.ir.frozen a
 have iz:=h.ir.lt
 have hai:(a:Int)<(c.b.n:Int):=by omega
 have hn2:=ok.n2
 clear h g1 g2 hC hQ ok
 go_enter func137,ntmps137
 go_wp2_with fail
 refine HC.out.mono ?_
 rintro e x2 ⟨rfl,hF,hb⟩
 have HF:=z9 hF
 have HB2:=z9 (HB.out.trans hb)
 clear hF hb HC
 go_wp2_with fail
 go_end0
 exact⟨rfl,HF.out,HB2.out⟩
theorem zoo (a p:Nat) (w:World) (ok:zp9 c) (h:yJ c base B I Q C k w) (ha:a<c.b.n) (hp:p<c.b.R) (hk0:0<=k) (hk1:k<=1000) (hC:∀a,a<c.b.n->∀p,p<c.b.R->-100<=C a p/\C a p<=100) :
  Calls prog 92 #[.pointer (pA c.fb),iV a,iV p] w fun e w'=>zwx c base B (upB I a true) (upI Q a p) (upC c.b.R B C a p 1) (k+1) w e w':=by
 obtain⟨g1,g2⟩:=h.setK (k+1)
 obtain⟨f0,f1,f2,f3,f4⟩:=h.fields
 have hfz:=h.fin.lt
 have hff:=h.fin.frozen 4
 have hai:(a:Int)<(c.b.n:Int):=by omega
 have hpi:(p:Int)<(c.b.R:Int):=by omega
 have hn2:=ok.n2
 have HG1:=z9 g1
 have HG2:=z9 g2
 have HOK:=z9 ok
 have HHC:=z9 hC
 have hw1:wrap64 (k+1)=k+1:=by unfold wrap64;omega
 clear h g1 g2 ok hC
 go_enter func92,ntmps92
 go_wp2_with fail
 clear f0 f1 f2 f3 f4 hfz hff
 generalize w.setCell (ad c.fb 4) (iV (k+1))=y at *
 obtain⟨f0,f1,f2,f3,f4⟩:=HG1.out.fields
 have hfz:=HG1.out.fin.lt
 have i1:=HG1.out.ir.cell ha
 have i2:=HG1.out.ir.frozen a
 have iz:=HG1.out.ir.lt
 have p1:=HG1.out.pr.cell ha
 have p2:=HG1.out.pr.frozen a
 have pz:=HG1.out.pr.lt
 have hne:¬c.ib=c.pb:=(HG1.out.pr.apart HG1.out.ir zbu).symm
 have hne2:¬c.pb=c.ib:=HG1.out.pr.apart HG1.out.ir zbu
 obtain⟨g3,g4⟩:=HG1.out.setIn ha true
 obtain⟨g5,g6⟩:=g3.setQ ha p
 have HG5:=z9 g5
 have HG6:=z9 (g4.trans g6)
 clear g3 g4 g5 g6
 have HC:=z9 (zf1 a 1 _ HOK.out (HG5.out.gE (below_draws _ _ 1)) ha (by decide) (by decide) HHC.out (by simp only [upI,if_true];omega))
 have hqa:upI Q a p a=p:=by unfold upI;rw [if_pos rfl]
 rw [hqa] at HC
 have HB9:=z9 (HG2.out.trans (HG6.out.trans (below_draws base _ 1)))
 clear hqa HG5 HG6 HG1 HG2 HHC HOK
 go_region
 go_wp2_with fail
 refine HC.out.mono ?_
 rintro e x2 ⟨rfl,hF,hb⟩
 have HF:=z9 hF
 have HB2:=z9 (HB9.out.trans hb)
 clear hF hb HC HB9
 go_wp2_with fail
 go_end0
 exact⟨rfl,HF.out,HB2.out⟩
def yb3 (R:Nat) (w:World) (e:Ending) (w':World):Prop:=∃v:Nat,v<=R/\e=.returned (iV v)/\w'=w
theorem zu5 (a:Nat) (w:World) (ok:zp9 c) (h:yJ c base B I Q C k w) (ha:a<c.b.n) (hC:∀p,p<c.b.R->-100<=C a p/\C a p<=100) :
  Calls prog 166 #[.pointer (pA c.fb),iV a] w fun e w'=>yb3 c.b.R w e w':=by
 obtain⟨f0,f1,f2,f3,f4⟩:=h.fields
 have hfz:=h.fin.lt
 have hai:(a:Int)<(c.b.n:Int):=by omega
 have k1:=h.kr.cell ha
 have kz:=h.kr.lt
 obtain⟨hc1,hc2⟩:=h.cap
 have HK:=z9 (h.kk a ha)
 have HC:=z9 hC
 have hn2:=ok.n2
 have hr2:=ok.r2
 clear h hC ok
 go_enter func166,ntmps166
 go_wp2_with fail
 clear f0 f1 f2 f3 f4 k1 kz
 go_loopw [5,16] (fun fv pv wr=>∃p v:Nat,p<=c.b.R/\v<=p/\pv=iV p/\fv=iV v/\wr=w) (fun _ pv _=>c.b.R - (intOf pv).toNat)
 case atStart=>exact⟨0,0,Nat.zero_le _,Nat.le_refl _,rfl,rfl,rfl⟩
 case round =>
  obtain⟨p,v,hp,hv,rfl,rfl,hw⟩:=hrel
  subst hw
  by_cases hpl:p<c.b.R
  ·have hpi:(p:Int)<(c.b.R:Int):=by omega
   have kc:=HK.out.cell hpl
   have kz:=HK.out.lt
   obtain⟨u1,u2⟩:=HC.out p hpl
   generalize C a p=cc at *
   by_cases hz:cc=0
   ·subst hz
    go_wp2_with fail
    go_roundw
    case rel=>exact⟨p+1,v+1,by omega,by omega,by go_num,by go_num,by trivial⟩
    case measure=>simp [intOf];omega
   ·have hzb:(cc == 0)=false:=by simp [hz]
    go_wp2_with fail
    go_roundw
    case rel=>exact⟨p+1,v,by omega,by omega,by go_num,rfl,by trivial⟩
    case measure=>simp [intOf];omega
  ·have hpi:¬(p:Int)<(c.b.R:Int):=by omega
   go_wp2_with fail
   go_ret
   exact⟨v,by omega,rfl,rfl⟩
def zt8 (c:Fc) (I:Nat->Bool) (w:World) (e:Ending) (w':World):Prop:=∃(fd:Nat) (lf:Bool),e=.returned (.tuple #[iV fd,.bool lf])/\fd<c.b.n/\(lf=false->∀j,j<c.b.n->I j=true)/\(lf=true->I fd=false)/\w'=w
theorem zsq (w:World) (ok:zp9 c) (h:yJ c base B I Q C k w) (hC:∀a,a<c.b.n->∀p,p<c.b.R->-100<=C a p/\C a p<=100) :
  Calls prog 136 #[.pointer (pA c.fb)] w fun e w'=>zt8 c I w e w':=by
 obtain⟨f0,f1,f2,f3,f4⟩:=h.fields
 have hfz:=h.fin.lt
 have HI:=z9 h.ir
 have HFR:=z9 (fun a (ha:a<c.b.n)=>zu5 a w ok h ha (hC a ha))
 have hn1:=ok.n1
 have hn2:=ok.n2
 have hr2:=ok.r2
 clear h hC ok f0 f2 f3 f4
 go_enter func136,ntmps136
 go_wp2_with fail
 go_loopw [4,5,6,14] (fun fv nv lv i wr=>∃(q fd fw:Nat) (lf:Bool),q<=c.b.n/\i=iV q/\fv=iV fd/\nv=iV fw/\lv=.bool lf/\fd<c.b.n/\fw<=128/\(lf=false->∀j,j<q->I j=true)/\(lf=true->I fd=false)/\wr=w) (fun _ _ _ i _=>c.b.n - (intOf i).toNat)
 case atStart=>exact⟨0,0,0,false,Nat.zero_le _,rfl,rfl,rfl,rfl,by omega,by omega,fun _ j hj=>absurd hj (Nat.not_lt_zero _),fun h=>absurd h (by simp),rfl⟩
 case round =>
  obtain⟨q,fd,fw,lf,hq,rfl,rfl,rfl,rfl,hfd,hfw,hno,hyes,hw⟩:=hrel
  subst hw
  have HNO:=z9 hno
  have HYES:=z9 hyes
  clear hno hyes
  by_cases hql:q<c.b.n
  ·have hqi:(q:Int)<(c.b.n:Int):=by omega
   have i1:=HI.out.cell hql
   have iz:=HI.out.lt
   have HF:=z9 (HFR.out q hql)
   obtain⟨ik,hik⟩:∃ik,I q=ik:=⟨_,rfl⟩
   rw [hik] at i1
   have HIK:=z9 hik
   clear hik
   cases ik with
   | true =>
     go_wp2_with fail
     go_roundw
     case rel =>
      refine⟨q+1,fd,fw,lf,by omega,by go_num,rfl,rfl,rfl,hfd,hfw,fun h j hj=>?_,HYES.out,by trivial⟩
      by_cases e:j=q
      ·rw [e];exact HIK.out
      ·exact HNO.out h j (by omega)
     case measure=>simp [intOf];omega
   | false =>
     go_wp2_with fail
     refine HF.out.mono ?_
     rintro e x2 ⟨v,hv,rfl,hx⟩
     have hx:=hx.symm
     subst hx
     cases lf with
     | false =>
       go_wp2_with fail
       go_roundw
       case rel=>exact⟨q+1,q,v,true,by omega,by go_num,rfl,rfl,rfl,hql,by omega,fun h=>absurd h (by simp),fun _=>HIK.out,by trivial⟩
       case measure=>simp [intOf];omega
     | true =>
       by_cases hgt:(v:Int)<(fw:Int)
       ·have hgt2:v<fw:=by omega
        go_wp2_with fail
        go_roundw
        case rel=>exact⟨q+1,q,v,true,by omega,by go_num,rfl,rfl,rfl,hql,by omega,fun h=>absurd h (by simp),fun _=>HIK.out,by trivial⟩
        case measure=>simp [intOf];omega
       ·have hgt2:¬v<fw:=by omega
        go_wp2_with fail
        go_roundw
        case rel=>exact⟨q+1,fd,fw,true,by omega,by go_num,rfl,rfl,rfl,hfd,hfw,fun h=>absurd h (by simp),fun _=>by first | exact HYES.out rfl | exact HYES.out trivial,by trivial⟩
        case measure=>simp [intOf];omega
  ·have hqi:¬(q:Int)<(c.b.n:Int):=by omega
   have HP:Hid (zt8 c I wr (.returned (.tuple #[iV fd,.bool lf])) wr):=⟨fd,lf,rfl,hfd,fun h j hj=>HNO.out h j (by omega),HYES.out,rfl⟩
   go_wp2_with fail
   exact bodyPost_ret (v:=.tuple #[iV fd,.bool lf]) (by simp [results,results136,go_sem]) rfl HP.out
end
section
variable {c:Fc} {base:Nat} {B:Nat->Nat->Nat->Bool}
def zi1 (c:Fc) (base:Nat) (B:Nat->Nat->Nat->Bool) (I:Nat->Bool) (E:Prop) (w:World) (e:Ending) (w':World):Prop :=
 ∃(b:Bool) (I':Nat->Bool) (Q':Nat->Int) (C':Nat->Nat->Int) (k':Int),e=.returned (.bool b)/\yJ c base B I' Q' C' k' w'/\FOk c.b.n c.b.R B I' Q' C' k'/\(b=true->∀j,j<c.b.n->I' j=true)/\(b=false->I'=I)/\(E->b=true)/\Below base w w'
theorem zax (hn:c.b.n<=16) {I:Nat->Bool} {Q:Nat->Int} {C:Nat->Nat->Int} {k:Int} (h:FOk c.b.n c.b.R B I Q C k):∀a,a<c.b.n->∀p,p<c.b.R->-100<=C a p/\C a p<=100:=fun a ha p hp=>by
 have:=h.range hn ha (p:=p) (by omega)
 omega
theorem ztz (ok:zp9 c) (hs:zt7 c.b.n c.b.R B):∀(d:Nat) (I:Nat->Bool) (Q:Nat->Int) (C:Nat->Nat->Int) (k:Int) (w:World),yJ c base B I Q C k w->FOk c.b.n c.b.R B I Q C k->c.b.n<=cnt I c.b.n+d ->
  Calls prog 93 #[.pointer (pA c.fb)] w fun e w'=>zi1 c base B I (EOk c.b.n c.b.R B I Q k) w e w':=by
 intro d
 induction d using Nat.strongRecOn with
 | _ d ih =>
   intro I Q C k w h hf hd
   have HT:=z9 (zsq w ok h (zax ok.n2 hf))
   have HIH:=z9 ih
   have HH:=z9 h
   have HFO:=z9 hf
   have HOK:=z9 ok
   have HS:=z9 hs
   have HD:=z9 hd
   have hn2:=ok.n2
   have hr2:=ok.r2
   obtain⟨E,hE⟩:∃E,EOk c.b.n c.b.R B I Q k=E:=⟨_,rfl⟩
   rw [hE]
   have HEE:=z9 hE
   clear ih h hf hd ok hs hE
   go_enter func93,ntmps93
   go_wp2_with fail
   refine HT.out.mono ?_
   rintro e x ⟨fd,lf,rfl,hfd,hno,hyes,hx⟩
   have hx:=hx.symm
   subst hx
   cases lf with
   | false =>
     have HP:Hid (zi1 c base B I E w (.returned (.bool true)) w):=⟨true,I,Q,C,k,rfl,HH.out,HFO.out,fun _=>hno rfl,fun h=>absurd h (by simp),fun _=>rfl,Below.refl _ _⟩
     clear hno hyes HT
     go_wp2_with fail
     go_ret
     exact HP.out
   | true =>
     have hIf:=hyes rfl
     have HIF:=z9 hIf
     have HD1:Hid (1<=d/\c.b.n<=cnt (upB I fd true) c.b.n+(d - 1)):=by
      have h1:=zo1 hfd hIf
      have h2:=US hfd hIf
      have h3:=HD.out
      show _/\_
      omega
     have hfi:(fd:Int)<(c.b.n:Int):=by omega
     obtain⟨f0,f1,f2,f3,f4⟩:=HH.out.fields
     have hfz:=HH.out.fin.lt
     have k1:=HH.out.kr.cell hfd
     have kz:=HH.out.kr.lt
     obtain⟨hc1,hc2⟩:=HH.out.cap
     clear hno hyes hIf HT HD
     go_wp2_with fail
     clear f0 f1 f2 f3 f4 hfz k1 kz
     go_loopw [22] (fun pv wr=>∃(p:Nat) (Q:Nat->Int) (C:Nat->Nat->Int) (k:Int),p<=c.b.R/\pv=iV p/\yJ c base B I Q C k wr/\FOk c.b.n c.b.R B I Q C k/\Below base w wr/\(E->EOk c.b.n c.b.R B I Q k/\∀p',p'<p->C fd p'≠0)) (fun pv _=>c.b.R - (intOf pv).toNat)
     case atStart=>exact⟨0,Q,C,k,Nat.zero_le _,rfl,HH.out,HFO.out,Below.refl _ _,fun hE=>⟨by rw [HEE.out];exact hE,fun p' hp'=>absurd hp' (Nat.not_lt_zero _)⟩⟩
     case round =>
      clear HH HFO HEE Q C k
      obtain⟨p,Q,C,k,hp,rfl,hF,hO,gH,hEz⟩:=hrel
      have HF:=z9 hF
      have HO:=z9 hO
      have HB:=z9 gH
      have HEZ:=z9 hEz
      clear gH hEz
      by_cases hpl:p<c.b.R
      ·have hpi:(p:Int)<(c.b.R:Int):=by omega
       have kc:=(hF.kk fd hfd).cell hpl
       have kz:=(hF.kk fd hfd).lt
       obtain⟨u1,u2⟩:=hO.range hn2 hfd hpi
       obtain⟨cv,hcv⟩:∃cv,C fd p=cv:=⟨_,rfl⟩
       have HCV:=z9 hcv
       rw [hcv] at kc u1 u2
       clear hcv
       by_cases hz:0<cv
       ·have HN:Hid (E->EOk c.b.n c.b.R B I Q k/\∀p',p'<p+1->C fd p'≠0):=fun hE=>⟨(HEZ.out hE).1,fun p' hp'=>by
         by_cases e:p'=p
         ·rw [e,HCV.out];omega
         ·exact (HEZ.out hE).2 p' (by omega)⟩
        clear hF hO
        go_wp2_with fail
        go_roundw
        case rel=>exact⟨p+1,Q,C,k,by omega,by go_num,HF.out,HO.out,HB.out,HN.out⟩
        case measure=>simp [intOf];omega
       ·have hz0:cv=0:=by omega
        subst hz0
        obtain⟨f0,f1,f2,f3,f4⟩:=hF.fields
        have hfz:=hF.fin.lt
        have hk0:=hO.k0
        have hk1:=hO.k1
        clear hF hO u1 u2 hz
        by_cases hk:k=1000
        ·subst hk
         have HP:Hid (zi1 c base B I E w (.returned (.bool false)) wr):=⟨false,I,Q,C,1000,rfl,HF.out,HO.out,fun h=>absurd h (by simp),fun _=>rfl,fun hE=>by have:=zlp (HEZ.out hE).1 hn2;omega,HB.out⟩
         go_wp2_with fail
         go_ret
         exact HP.out
        ·have hkb:(k == 1000)=false:=by simp [hk]
         have HPUT:=z9 (zoo fd p wr HOK.out HF.out hfd hpl hk0 hk1 (zax hn2 HO.out))
         have HO2:=z9 (HO.out.put HS.out hfd HIF.out hpi HCV.out (by omega))
         have HE2:Hid (E->EOk c.b.n c.b.R B (upB I fd true) (upI Q fd p) (k+1)):=fun hE=>by
          obtain⟨g1,g2⟩:=HEZ.out hE
          obtain⟨g3,g4⟩:=zf3 HO.out g1 hfd HIF.out
          refine zio g1 hfd HIF.out (Nat.le_of_not_lt fun hlt=>?_)
          exact g2 _ hlt g4
         clear hk0 hk1
         go_wp2_with fail
         refine HPUT.out.mono ?_
         rintro e x2 ⟨rfl,hF2,hb2⟩
         have HREC:=z9 (HIH.out (d - 1) (by have:=HD1.out;omega) _ _ _ _ x2 hF2 HO2.out HD1.out.2)
         have HB2:=z9 (HB.out.trans hb2)
         clear hF2 hb2 HPUT f0 f1 f2 f3 f4 hfz kc kz
         go_wp2_with fail
         refine HREC.out.mono ?_
         rintro e x3 ⟨b,I3,Q3,C3,k3,rfl,hF3,hO3,hall,hsame,hEb,hb3⟩
         have HF3:=z9 hF3
         have HO3:=z9 hO3
         have HB3:=z9 (HB2.out.trans hb3)
         cases b with
         | true =>
           have HP:Hid (zi1 c base B I E w (.returned (.bool true)) x3):=⟨true,I3,Q3,C3,k3,rfl,HF3.out,HO3.out,fun _=>hall rfl,fun h=>absurd h (by simp),fun _=>rfl,HB3.out⟩
           clear hF3 hO3 hall hsame hEb hb3 HREC
           go_wp2_with fail
           go_ret
           exact HP.out
         | false =>
           have hI3:=hsame rfl
           have HNE:Hid (¬E):=fun hE=>by have:=hEb (HE2.out hE);simp at this
           have hin:I3 fd=true:=by rw [hI3];unfold upB;rw [if_pos rfl]
           have HTK:=z9 (zwe fd x3 HOK.out hF3 hfd (zax hn2 hO3) (hO3.pr fd hfd))
           have HO4:=z9 (hO3.out hfd hin)
           have hI4:upB I3 fd false=I:=by rw [hI3];exact zz1 HIF.out true
           rw [hI4] at HTK HO4
           clear hF3 hO3 hall hsame hEb hb3 HREC hI3 hin hI4
           go_wp2_with fail
           refine HTK.out.mono ?_
           rintro e x4 ⟨rfl,hF4,hb4⟩
           have HF4:=z9 hF4
           have HB4:=z9 (HB3.out.trans hb4)
           clear hF4 hb4 HTK
           go_wp2_with fail
           go_roundw
           case rel=>exact⟨p+1,_,_,_,by omega,by go_num,HF4.out,HO4.out,HB4.out,fun hE=>absurd hE HNE.out⟩
           case measure=>simp [intOf];omega
      ·have hpi:¬(p:Int)<(c.b.R:Int):=by omega
       have HP:Hid (zi1 c base B I E w (.returned (.bool false)) wr):=⟨false,I,Q,C,k,rfl,HF.out,HO.out,fun h=>absurd h (by simp),fun _=>rfl,fun hE=>by
        obtain⟨g1,g2⟩:=HEZ.out hE
        obtain⟨g3,g4⟩:=zf3 HO.out g1 hfd HIF.out
        exact absurd g4 (g2 _ (by omega)),HB.out⟩
       clear hF hO
       go_wp2_with fail
       go_ret
       exact HP.out
end
section
def nfC (b:Bc) (ib pb:Nat) (kv:Value) (i:Nat):Value:=if i=0 then .slice (pA b.ob) b.n b.n else if i=1 then .slice (pA ib) b.n b.n else if i=2 then .slice (pA pb) b.n b.n else if i=3 then kv else iV 0
structure NfI (b:Bc) (w:World) (fb ib pb j:Nat) (kb:Nat->Nat) (la:Option Addr) (lc:Nat) (x:World):Prop where
 bel:Bw w x
 fin:zu x fb 151 5 (nfC b ib pb (.slice la j lc))
 own:x.ownsRow w.heap.size 22 1 (.slice la j lc) j ((List.range j).map fun a=>.slice (pA (kb a)) b.R b.R)
 ir:zu x ib 4 b.n (fun _=>.bool false)
 pr:zu x pb 3 b.n (fun _=>iV 0)
 kk:∀a,a<j->zu x (kb a) 3 b.R (fun _=>iV 0)
 pbn:∀a,a<j->pb≠kb a
 kinj:∀a a',a<j->a'<j->kb a=kb a'->a=a'
 ge:w.heap.size<=fb/\w.heap.size<=ib/\w.heap.size<=pb
 gek:∀a,a<j->w.heap.size<=kb a
variable {b:Bc} {w x y w1:World} {fb ib pb j:Nat} {kb:Nat->Nat} {la la':Option Addr} {lc lc':Nat}
theorem NfI.gE (h:NfI b w fb ib pb j kb la lc x) (hb:Bw x y):NfI b w fb ib pb j kb la lc y :=
 ⟨h.bel.trans (hb.mono h.bel.size),h.fin.gE hb h.fin.lt,zA h.own hb,h.ir.gE hb h.ir.lt,h.pr.gE hb h.pr.lt,fun a ha=>(h.kk a ha).gE hb (h.kk a ha).lt,h.pbn,h.kinj,h.ge,h.gek⟩
theorem zvp {base n:Nat} {e:TypeId} {v u:Value} {xs:List Value} (h:x.ownsRow base e 1 v n xs) (hne:some g≠v.ownBlock):(x.setCell (ad g o) u).ownsRow base e 1 v n xs:=by
 obtain⟨hl,h⟩:=h
 refine⟨hl,?_⟩
 rcases h with h | ⟨g',cap,cur,hv,hb,hk,r⟩
 ·exact .inl h
 ·exact .inr ⟨g',cap,cur,hv,hb,by rw [Below.heap_setCell _ _ _ _ (fun e=>hne (by have e:g'=g:=e;rw [hv,<-e];rfl))];exact hk,r⟩
theorem zzk:(151:TypeId)≠22:=by decide
theorem NfI.next (h:NfI b w fb ib pb j kb la lc y)
  (gJ:w1.ownsRow w.heap.size 22 1 (.slice la' (j+1) lc') (j+1) (((List.range j).map fun a=>.slice (pA (kb a)) b.R b.R)++[.slice (pA y.heap.size) b.R b.R]))
  (hgr:((y.alloc (.cells (madeCells #[iV 0] b.R) 3)).alloc (.cells #[.slice (pA y.heap.size) b.R b.R] 22)).grownBy w1 (Value.ownBlock (.slice la j lc))) :
  NfI b w fb ib pb (j+1) (upN kb j y.heap.size) la' lc' (w1.setCell (ad fb 3) (.slice la' (j+1) lc'))/\zu w1 fb 151 5 (nfC b ib pb (.slice la j lc)):=by
 have hbz:Bw y ((y.alloc (.cells (madeCells #[iV 0] b.R) 3)).alloc (.cells #[.slice (pA y.heap.size) b.R b.R] 22)):=below_alloc2 _ _ _
 have hz:=h.gE hbz
 have hnew:zu ((y.alloc (.cells (madeCells #[iV 0] b.R) 3)).alloc (.cells #[.slice (pA y.heap.size) b.R b.R] 22)) y.heap.size 3 b.R (fun _=>iV 0):=(zu.zeros y (iV 0) b.R _).alloc _
 have hne:∀a,a<j->upN kb j y.heap.size a=kb a:=fun a ha=>by unfold upN;rw [if_neg (by omega)]
 have heq:upN kb j y.heap.size j=y.heap.size:=by unfold upN;rw [if_pos rfl]
 have hfin:zu w1 fb 151 5 (nfC b ib pb (.slice la j lc)):=hz.fin.grown hgr (Zh hz.own hz.fin zzk)
 have hir:zu w1 ib 4 b.n (fun _=>.bool false):=hz.ir.grown hgr (Zh hz.own hz.ir zzi)
 have hpr:zu w1 pb 3 b.n (fun _=>iV 0):=hz.pr.grown hgr (Zh hz.own hz.pr zkq)
 have hkk:∀a,a<j->zu w1 (kb a) 3 b.R (fun _=>iV 0):=fun a ha=>(hz.kk a ha).grown hgr (Zh hz.own (hz.kk a ha) zkq)
 have hkn:zu w1 y.heap.size 3 b.R (fun _=>iV 0):=hnew.grown hgr (Zh hz.own hnew zkq)
 refine⟨⟨(hz.bel.grown hgr hz.bel.size (yc hz.own)).setCell h.ge.1 _,(hfin.set 3 _ (by decide)).congr fun i hi=>?_,?_,hir.gF (hfin.apart hir zp4).symm _,hpr.gF (hfin.apart hpr ze1).symm _,fun a ha=>?_,fun a ha=>?_,fun a a' ha ha' e=>?_,h.ge,fun a ha=>?_⟩,hfin⟩
 ·unfold nfC
  obtain rfl | rfl | rfl | rfl | rfl:i=0\/i=1\/i=2\/i=3\/i=4:=by omega
  all_goals rfl
 ·have e1:((List.range (j+1)).map fun a=>(Value.slice (pA (upN kb j y.heap.size a)) b.R b.R))=((List.range j).map fun a=>.slice (pA (kb a)) b.R b.R)++[.slice (pA y.heap.size) b.R b.R]:=by
   rw [List.range_succ,List.map_append]
   congr 1
   ·exact List.map_congr_left fun a ha=>by rw [hne a (List.mem_range.1 ha)]
   ·simp [heq]
  rw [e1]
  exact zvp gJ (Zh gJ hfin zzk)
 ·by_cases e:a=j
  ·rw [e,heq];exact hkn.gF (hfin.apart hkn ze1).symm _
  ·rw [hne a (by omega)]
   have:=hkk a (by omega)
   exact this.gF (hfin.apart this ze1).symm _
 ·by_cases e:a=j
  ·rw [e,heq];exact Nat.ne_of_lt h.pr.lt
  ·rw [hne a (by omega)];exact h.pbn a (by omega)
 ·by_cases e1:a=j
  ·by_cases e2:a'=j
   ·omega
   ·rw [e1,heq,hne a' (by omega)] at e
    have:=(h.kk a' (by omega)).lt
    omega
  ·by_cases e2:a'=j
   ·rw [e2,heq,hne a (by omega)] at e
    have:=(h.kk a (by omega)).lt
    omega
   ·rw [hne a (by omega),hne a' (by omega)] at e
    exact h.kinj a a' (by omega) (by omega) e
 ·by_cases e:a=j
  ·rw [e,heq];exact h.bel.size
  ·rw [hne a (by omega)];exact h.gek a (by omega)
def NfP (b:Bc) (base:Nat) (B:Nat->Nat->Nat->Bool) (w:World) (e:Ending) (w':World):Prop:=∃c:Fc,c.b=b/\e=.returned (.pointer (pA c.fb))/\yJ c base B (fun _=>false) (fun _=>0) (fun _ _=>0) 0 w'/\Bw w w'
theorem NfI.done {base:Nat} {B:Nat->Nat->Nat->Bool} (h:NfI b w fb ib pb b.n kb la lc x) (hV:Zl b base B w) (hbz:base<=w.heap.size) (hn1:1<=b.n):NfP b base B w (.returned (.pointer (pA fb))) x:=by
 obtain⟨ka,kc,hv,hg,hc1,hc2,gI⟩:=yx h.own (.inr hn1)
 injection hv with e1 e2 e3
 subst e1 e3
 unfold maxLen at hc2
 refine⟨⟨b,fb,ib,pb,ka,lc,kb⟩,rfl,rfl,⟨hV.gE h.bel,h.fin.congr fun i hi=>?_,h.ir,h.pr,gI.congr fun i hi=>?_,h.kk,fun a m ha hm e=>?_,h.pbn,h.kinj,⟨?_,?_,?_,?_⟩,fun a ha=>?_,hc1,by omega⟩,h.bel⟩
 ·unfold nfC zzw
  obtain rfl | rfl | rfl | rfl | rfl:i=0\/i=1\/i=2\/i=3\/i=4:=by omega
  all_goals rfl
 ·exact Y5 _ _ _ hi
 ·have h1:=(hV.cc a m ha hm).lt
  have h2:=h.ge.2.1
  have e:ib=b.cb a m:=e
  omega
 ·exact Nat.le_trans hbz h.ge.1
 ·exact Nat.le_trans hbz h.ge.2.1
 ·exact Nat.le_trans hbz h.ge.2.2
 ·exact Nat.le_trans hbz hg
 ·exact Nat.le_trans hbz (h.gek a ha)
theorem zr4 (b:Bc) (w:World):Hid (NfI b w (w.heap.size+1+1) w.heap.size (w.heap.size+1) 0 (fun _=>0) none 0 (((w.alloc (.cells (madeCells #[.bool false] b.n) 4)).alloc (.cells (madeCells #[iV 0] b.n) 3)).alloc (.cells #[.slice (pA b.ob) b.n b.n,.slice (pA w.heap.size) b.n b.n,.slice (some (ad ((w.heap.size+1)) 0)) b.n b.n,.slice none 0 0,iV 0] 151)).drew):=by
 have hs:(w.alloc (.cells (madeCells #[.bool false] b.n) 4)).heap.size=w.heap.size+1:=by simp
 have h2:=zu.zeros (w.alloc (.cells (madeCells #[.bool false] b.n) 4)) (iV 0) b.n 3
 rw [hs] at h2
 have hs2:((w.alloc (.cells (madeCells #[.bool false] b.n) 4)).alloc (.cells (madeCells #[iV 0] b.n) 3)).heap.size=w.heap.size+1+1:=by simp
 have h3:=zu.made ((w.alloc (.cells (madeCells #[.bool false] b.n) 4)).alloc (.cells (madeCells #[iV 0] b.n) 3)) #[.slice (pA b.ob) b.n b.n,.slice (pA w.heap.size) b.n b.n,.slice (some (ad ((w.heap.size+1)) 0)) b.n b.n,.slice none 0 0,iV 0] 151 5 (nfC b w.heap.size (w.heap.size+1) (.slice none 0 0)) (Nat.le_refl 5) (fun i hi=>by
  obtain rfl | rfl | rfl | rfl | rfl:i=0\/i=1\/i=2\/i=3\/i=4:=by omega
  all_goals rfl)
 rw [hs2] at h3
 exact⟨(below_alloc3 w _ _ _).trans (below_draws _ _ 1),h3,⟨rfl,.inl ⟨rfl,rfl⟩⟩,((zu.zeros w (.bool false) b.n _).alloc _).alloc _,h2.alloc _,fun a ha=>absurd ha (Nat.not_lt_zero _),fun a ha=>absurd ha (Nat.not_lt_zero _),fun a a' ha=>absurd ha (Nat.not_lt_zero _),⟨by omega,by omega,by omega⟩,fun a ha=>absurd ha (Nat.not_lt_zero _)⟩
theorem zr5 (b:Bc) (w:World):Hid (NfI b w (w.heap.size+1+1) (w.heap.size+1) w.heap.size 0 (fun _=>0) none 0 (((w.alloc (.cells (madeCells #[iV 0] b.n) 3)).alloc (.cells (madeCells #[.bool false] b.n) 4)).alloc (.cells #[.slice (pA b.ob) b.n b.n,.slice (some (ad ((w.heap.size+1)) 0)) b.n b.n,.slice (pA w.heap.size) b.n b.n,.slice none 0 0,iV 0] 151)).drew):=by
 have hs:(w.alloc (.cells (madeCells #[iV 0] b.n) 3)).heap.size=w.heap.size+1:=by simp
 have h2:=zu.zeros (w.alloc (.cells (madeCells #[iV 0] b.n) 3)) (.bool false) b.n 4
 rw [hs] at h2
 have hs2:((w.alloc (.cells (madeCells #[iV 0] b.n) 3)).alloc (.cells (madeCells #[.bool false] b.n) 4)).heap.size=w.heap.size+1+1:=by simp
 have h3:=zu.made ((w.alloc (.cells (madeCells #[iV 0] b.n) 3)).alloc (.cells (madeCells #[.bool false] b.n) 4)) #[.slice (pA b.ob) b.n b.n,.slice (some (ad ((w.heap.size+1)) 0)) b.n b.n,.slice (pA w.heap.size) b.n b.n,.slice none 0 0,iV 0] 151 5 (nfC b (w.heap.size+1) w.heap.size (.slice none 0 0)) (Nat.le_refl 5) (fun i hi=>by
  obtain rfl | rfl | rfl | rfl | rfl:i=0\/i=1\/i=2\/i=3\/i=4:=by omega
  all_goals rfl)
 rw [hs2] at h3
 exact⟨(below_alloc3 w _ _ _).trans (below_draws _ _ 1),h3,⟨rfl,.inl ⟨rfl,rfl⟩⟩,h2.alloc _,((zu.zeros w (iV 0) b.n _).alloc _).alloc _,fun a ha=>absurd ha (Nat.not_lt_zero _),fun a ha=>absurd ha (Nat.not_lt_zero _),fun a a' ha=>absurd ha (Nat.not_lt_zero _),⟨by omega,by omega,by omega⟩,fun a ha=>absurd ha (Nat.not_lt_zero _)⟩
theorem zr7 (w:World) (x:Value) (t:TypeId):∀(j:Nat) (u:Value),[x][j]?=some u->(w.alloc (.cells #[x] t)).cell? (((ad w.heap.size 0):Addr).add j)=some u:=by
 intro j u hj
 have ha:((ad w.heap.size 0):Addr).add j=(ad w.heap.size j):=by simp [Addr.add];omega
 rw [ha,cell_of_block (zD w #[x] t)]
 simpa using hj
theorem zw6:(prog.info? 22).map (fun i=>(i.zero,i.size,i.bytes))=some (some (.slice none 0 0),1,24):=by kernel_rfl
theorem zj4:(prog.info? 3).map (fun i=>(i.zero,i.size,i.bytes))=some (some (iV 0),1,8):=by kernel_rfl
theorem zen {base:Nat} {B:Nat->Nat->Nat->Bool} (b:Bc) (w:World) (hV:Zl b base B w) (hbz:base<=w.heap.size) (hn1:1<=b.n) (hn2:b.n<=16) (hr1:1<=b.R) (hr2:b.R<=128) :
  Calls prog 91 #[.slice (pA b.ob) b.n b.n] w fun e w'=>NfP b base B w e w':=by
 have hmk1:=run_make_row' (P:=prog) 148 4 (.bool false) 1 underlying148 zoq rfl .i64 .i64 b.n (by omega) (by omega)
 have hmk2:=run_make_row' (P:=prog) 22 3 (iV 0) 8 underlying22 zj4 rfl .i64 .i64 b.n (by omega) (by omega)
 have hmk3:=run_make_row' (P:=prog) 22 3 (iV 0) 8 underlying22 zj4 rfl .i64 .i64 b.R (by omega) (by omega)
 obtain⟨j0,ji,jz0,jz1,jz2⟩:=info_parts zw6
 have HV:=z9 hV
 clear hV
 go_enter func91,ntmps91
 go_wp2_with fail
 go_region
 all_goals (go_wp2_with fail)
 have HST:Hid (NfI b w (w.heap.size+1+1) w.heap.size (w.heap.size+1) 0 (fun _=>0) none 0 (((w.alloc (.cells (madeCells #[.bool false] b.n) 4)).alloc (.cells (madeCells #[iV 0] b.n) 3)).alloc (.cells #[.slice (pA b.ob) b.n b.n,.slice (pA w.heap.size) b.n b.n,.slice (some (ad ((w.heap.size+1)) 0)) b.n b.n,.slice none 0 0,iV 0] 151)).drew):=zr4 b w
 generalize (((w.alloc (.cells (madeCells #[.bool false] b.n) 4)).alloc (.cells (madeCells #[iV 0] b.n) 3)).alloc (.cells #[.slice (pA b.ob) b.n b.n,.slice (pA w.heap.size) b.n b.n,.slice (some (ad ((w.heap.size+1)) 0)) b.n b.n,.slice none 0 0,iV 0] 151)).drew=Y at HST ⊢
 generalize w.heap.size+1+1=fb at HST ⊢
 generalize w.heap.size+1=pb at HST ⊢
 generalize hxx:w.heap.size=ib at HST ⊢
 clear hxx
 rotate_left
 have HST:Hid (NfI b w (w.heap.size+1+1) (w.heap.size+1) w.heap.size 0 (fun _=>0) none 0 (((w.alloc (.cells (madeCells #[iV 0] b.n) 3)).alloc (.cells (madeCells #[.bool false] b.n) 4)).alloc (.cells #[.slice (pA b.ob) b.n b.n,.slice (some (ad ((w.heap.size+1)) 0)) b.n b.n,.slice (pA w.heap.size) b.n b.n,.slice none 0 0,iV 0] 151)).drew):=zr5 b w
 generalize (((w.alloc (.cells (madeCells #[iV 0] b.n) 3)).alloc (.cells (madeCells #[.bool false] b.n) 4)).alloc (.cells #[.slice (pA b.ob) b.n b.n,.slice (some (ad ((w.heap.size+1)) 0)) b.n b.n,.slice (pA w.heap.size) b.n b.n,.slice none 0 0,iV 0] 151)).drew=Y at HST ⊢
 generalize w.heap.size+1+1=fb at HST ⊢
 generalize w.heap.size+1=ib at HST ⊢
 generalize hxx:w.heap.size=pb at HST ⊢
 clear hxx
 all_goals (
  go_loopw [16] (fun jv wr=>∃(j:Nat) (kb:Nat->Nat) (la:Option Addr) (lc:Nat),j<=b.n/\jv=iV j/\NfI b w fb ib pb j kb la lc wr) (fun jv _=>b.n - (intOf jv).toNat)
  case atStart=>exact⟨0,_,_,_,Nat.zero_le _,rfl,HST.out⟩
  case round =>
   clear HST
   obtain⟨j,kb,la,lc,hj,rfl,hI⟩:=hrel
   by_cases hjn:j<b.n
   ·have hji:(j:Int)<(b.n:Int):=by omega
    have HI:Hid (NfI b w fb ib pb j kb la lc wr.drew):=hI.gE (below_draws _ wr 1)
    have hfz:=hI.fin.lt
    have hff:=hI.fin.frozen 3
    have hVw:=HV.out.gE hI.bel
    have oz:=hVw.o.lt
    have rz:=(hVw.r j hjn).lt
    have HSS:Hid (∀w',Bw w w'->zu w' fb 151 5 (nfC b ib pb (.slice la j lc))->w'.cell? (ad fb 3)=some (.slice la j lc)/\w'.cell? (ad b.ob j)=some (.slice (pA (b.rb j)) b.n b.n)/\w'.cell? (ad (b.rb j) j)=some (.slice (pA (b.cb j j)) b.R b.R)):=fun w' h1 h2=>⟨h2.cell (by decide),(HV.out.gE h1).o.cell hjn,((HV.out.gE h1).r j hjn).cell hjn⟩
    have HNX:=z9 (fun w1 la' lc'=>@NfI.next b w wr.drew w1 fb ib pb j kb la la' lc lc' HI.out)
    clear hI hVw
    generalize b.cb j j=cj at *
    generalize b.rb j=rj at *
    go_wp2_with fail
    refine wp_region_noPanic ?_
    refine zm 18 (fun w'=>w'.cell? (ad fb 3)=some (.slice la j lc)/\w'.cell? (ad b.ob j)=some (.slice (pA rj) b.n b.n)/\w'.cell? (ad rj j)=some (.slice (pA cj) b.R b.R)) (by kernel_rfl) (HSS.out _ HI.out.bel HI.out.fin) (fun h9=>?_)
    generalize wr.drew=y at *
    refine uk 0 h9 ?_
    refine uk 1 h9 ?_
    refine uk 2 h9 ?_
    refine uk 3 h9 ?_
    refine uk 4 h9 ?_
    refine uk 5 h9 ?_
    refine uk 6 h9 ?_
    refine uk 7 h9 ?_
    refine uk 8 h9 ?_
    refine uk 9 h9 ?_
    refine uk 10 h9 ?_
    refine uk 11 h9 ?_
    refine uk 12 h9 ?_
    have hz1:NfI b w fb ib pb j kb la lc (y.alloc (.cells (madeCells #[iV 0] b.R) 3)):=HI.out.gE (below_alloc1 _ _)
    have hz2:NfI b w fb ib pb j kb la lc ((y.alloc (.cells (madeCells #[iV 0] b.R) 3)).alloc (.cells #[.slice (pA y.heap.size) b.R b.R] 22)):=HI.out.gE (below_alloc2 _ _ _)
    have hH1:=HSS.out _ hz1.bel hz1.fin
    have hH2:=HSS.out _ hz2.bel hz2.fin
    have HZ2:=z9 hz2
    have HONE:=z9 (zr7 (y.alloc (.cells (madeCells #[iV 0] b.R) 3)) (.slice (pA y.heap.size) b.R b.R) 22)
    clear hz1 hz2
    refine ze (i:=13) rfl (by kernel_rfl) (fun K hK=>?_)
    go_simp
    refine nxt hK.out (.inr hH1) ?_
    clear hK K
    refine ze (i:=14) rfl (by kernel_rfl) (fun K hK=>?_)
    go_simp
    refine nxt hK.out (.inr hH2) ?_
    clear hK K
    refine ze (i:=15) rfl (by kernel_rfl) (fun K hK=>?_)
    refine step_append_lies _ (by rfl) (.tmp 23) (.tmp 33) 149 (by rfl) w.heap.size 22 j0 (.slice none 0 0) 1 24 underlying149 ji jz0 jz1 jz2 rfl (by decide) _ j _ (by rfl) HZ2.out.own (ad (y.heap.size+1) 0) 1 1 [.slice (pA y.heap.size) b.R b.R] (by rfl) rfl (by have h:=HONE.out;have e:(y.alloc (.cells (madeCells #[iV 0] b.R) 3)).heap.size=y.heap.size+1:=(by simp);rw [e] at h;exact h) (by intro u hu;simp at hu;subst hu;rfl) (by decide) (by unfold maxLen;omega) (by omega) HZ2.out.bel.size _ rfl ?_
    intro g2 e2 w2 gJ gK hat hlt
    obtain⟨x1,x2⟩:=HNX.out w2 _ _ gJ gK
    have hH3:=HSS.out _ (HZ2.out.bel.grown gK HZ2.out.bel.size (yc HZ2.out.own)) x2
    have c3:=x2.cell (show 3<5 by decide)
    have f3:=x2.frozen 3
    have z3:=x2.lt
    have HX:=z9 x1
    clear x1 x2 gJ gK hat hlt hH1 hH2
    refine nxt hK.out (.inr hH3) ?_
    clear hK K
    refine uk 16 hH3 ?_
    refine uk 17 hH3 ?_
    refine ze (i:=18) rfl (by kernel_rfl) (fun K hK=>?_)
    go_simp
    refine nxt hK.out (.inl rfl) ?_
    clear hK K
    refine zq (by kernel_rfl) ?_ _
    refine NoPanic.normal ?_
    clear h9 hH3 c3 f3 z3 HSS HNX HI HZ2 HONE
    go_wp2_with fail
    go_roundw
    case rel=>exact⟨j+1,_,_,_,by omega,by go_num,HX.out⟩
    case measure=>simp [intOf];omega
   ·have e:j=b.n:=by omega
    have hji:¬(j:Int)<(b.n:Int):=by omega
    have HP:Hid (NfP b base B w (.returned (.pointer (pA fb))) wr):=by rw [e] at hI;exact hI.done HV.out hbz hn1
    clear hI e
    go_wp2_with fail
    go_ret
    exact HP.out)
end
def zt2 (b:Bc) (base:Nat) (B:Nat->Nat->Nat->Bool) (w:World) (e:Ending) (w':World):Prop :=
 ∃(va:Value) (ok:Bool),e=.returned (.tuple #[va,.bool ok])/\Below base w w'/\(zce b.n b.R B->ok=true)/\(ok=true->∃(pb:Nat) (Q:Nat->Int),va=.slice (pA pb) b.n b.n/\zu w' pb 3 b.n (fun i=>iV (Q i))/\(∀m,m<b.n->0<=Q m/\Q m<b.R)/\(∀a,a<b.n->B a a 0=false)/\∀a m,a<b.n->m<b.n->a≠m->B a m ((Q a - Q m) % (b.R:Int)).toNat=false)
theorem zcw {base:Nat} {B:Nat->Nat->Nat->Bool} (b:Bc) (w:World) (hV:Zl b base B w) (hs:zt7 b.n b.R B) (hbz:base<=w.heap.size) (hn1:1<=b.n) (hn2:b.n<=16) (hr1:1<=b.R) (hr2:b.R<=128) :
  Calls prog 41 #[.slice (pA b.ob) b.n b.n] w fun e w'=>zt2 b base B w e w':=by
 have HIT:=z9 (fun a (ha:a<b.n)=>zm4 a w hV ha hn2 hr1 hr2)
 have HNF:=z9 (zen b w hV hbz hn1 hn2 hr1 hr2)
 have HS:=z9 hs
 clear hV hs
 go_enter func41,ntmps41
 go_wp2_with fail
 go_loopw [8] (fun av wr=>∃a:Nat,a<=b.n/\av=iV a/\(∀i,i<a->B i i 0=false)/\wr=w) (fun av _=>b.n - (intOf av).toNat)
 case atStart=>exact⟨0,Nat.zero_le _,rfl,fun i hi=>absurd hi (Nat.not_lt_zero _),rfl⟩
 case round =>
  obtain⟨a,ha,rfl,hno,hw⟩:=hrel
  subst hw
  have HNO:=z9 hno
  clear hno
  by_cases hal:a<b.n
  ·have hai:(a:Int)<(b.n:Int):=by omega
   have HC:=z9 (HIT.out a hal)
   obtain⟨bo,hbo⟩:∃bo,B a a 0=bo:=⟨_,rfl⟩
   rw [hbo] at HC
   have HBO:=z9 hbo
   clear hbo
   cases bo with
   | true =>
     have HP:Hid (zt2 b base B wr (.returned (.tuple #[.slice none 0 0,.bool false])) wr):=⟨_,_,rfl,Below.refl _ _,fun h=>(by have:=zr2 h hal;rw [HBO.out] at this;cases this),fun h=>absurd h (by simp)⟩
     go_wp2_with fail
     refine HC.out.mono ?_
     rintro e x2 ⟨rfl,hx⟩
     have hx:=hx.symm
     subst hx
     go_wp2_with fail
     go_ret2
     exact HP.out
   | false =>
     have HN:Hid (∀i,i<a+1->B i i 0=false):=fun i hi=>by
      by_cases e:i=a
      ·rw [e];exact HBO.out
      ·exact HNO.out i (by omega)
     go_wp2_with fail
     refine HC.out.mono ?_
     rintro e x2 ⟨rfl,hx⟩
     have hx:=hx.symm
     subst hx
     go_wp2_with fail
     go_roundw
     case rel=>exact⟨a+1,by omega,by go_num,HN.out,by trivial⟩
     case measure=>simp [intOf];omega
  ·have hai:¬(a:Int)<(b.n:Int):=by omega
   have HSELF:Hid (∀i,i<b.n->B i i 0=false):=fun i hi=>HNO.out i (by omega)
   clear HNO HIT
   go_wp2_with fail
   refine HNF.out.mono ?_
   rintro e x1 ⟨c,hcb,rfl,hF,hb1⟩
   subst hcb
   have HB1:=z9 (hb1.mono hbz)
   have HPUT:=z9 (zoo 0 0 x1 ⟨hn1,hn2,hr1,hr2⟩ hF hn1 hr1 (by decide) (by decide) (fun a _ p _=>by decide))
   clear hF hb1 HNF
   go_wp2_with fail
   refine HPUT.out.mono ?_
   rintro e x2 ⟨rfl,hF,hb2⟩
   have HB2:=z9 (HB1.out.trans hb2)
   have HF:=z9 hF
   have hO:=(FOk.start (n:=c.b.n) (B:=B) (show 1<=(c.b.R:Int) by omega)).put HS.out (a:=0) hn1 rfl (p:=0) (by omega) rfl (by decide)
   have HFILL:=z9 (fun W (hW:Bw x2 W)=>ztz (base:=base) ⟨hn1,hn2,hr1,hr2⟩ HS.out c.b.n _ _ _ _ W (hF.gE hW) hO (by omega))
   have HEASY:Hid (zce c.b.n c.b.R B->EOk c.b.n c.b.R B (upB (fun _=>false) 0 true) (upI (fun _=>0) 0 ((0:Nat):Int)) (0+1)):=fun h=>zio (zlq h) hn1 rfl (Nat.zero_le _)
   have hfz:=hF.fin.lt
   obtain⟨f0,f1,f2,f3,f4⟩:=hF.fields
   clear hF hb2 HPUT hO HB1 f0 f1 f3 f4
   go_wp2_with fail
   refine wp_region_noPanic ?_
   refine zm 99 (fun w'=>w'.cell? (ad c.fb 2)=some (.slice (pA c.pb) c.b.n c.b.n)) (by kernel_rfl) f2 (fun h9=>?_)
   refine uk 0 h9 ?_
   refine uk 1 h9 ?_
   refine uk 2 h9 ?_
   refine uk 3 h9 ?_
   refine uk 4 h9 ?_
   refine ze (i:=5) rfl (by kernel_rfl) (fun K hK=>?_)
   go_simp
   refine (HFILL.out _ (below_draws _ _ 1)).mono ?_
   rintro e x3 ⟨bo,I3,Q3,C3,k3,rfl,hF3,hO3,hall,hsame,hE,hb3⟩
   obtain⟨-,-,g2,-,-⟩:=hF3.fields
   have HP:Hid (zt2 c.b base B wr (.returned (.tuple #[.slice (pA c.pb) c.b.n c.b.n,.bool bo])) x3):=⟨_,_,rfl,HB2.out.trans ((below_draws _ _ 1).trans hb3),fun h=>hE (HEASY.out h),fun h=>⟨c.pb,Q3,rfl,hF3.pr,hO3.pr,HSELF.out,fun a m ha hm hne=>hO3.ok a m ha hm hne (hall h a ha) (hall h m hm)⟩⟩
   clear hF3 hO3 hall hsame hE hb3 HFILL HEASY
   refine nxt hK.out (.inr g2) ?_
   clear hK K
   refine uk 6 g2 ?_
   refine uk 7 g2 ?_
   refine zq (by kernel_rfl) ?_ _
   refine NoPanic.normal ?_
   go_wp2_with fail
   go_ret2
   exact HP.out
section
theorem zut:(prog.info? 158).map (fun i=>(i.zero,i.size,i.bytes))=some (some (.agg #[iV 0,iV 0,iV 0,.bool false]),4,32):=by kernel_rfl
theorem zm9 (n:Nat) (hn:n<=16) (w:World):(Instr.makeSlice 94 (iV (n:Int)) (iV (n:Int))).run prog w=.ok (.slice (pA w.heap.size) n n) (w.alloc (.cells (madeCells #[iV 0,iV 0,iV 0,.bool false] (n*4)) 158)):=by
 obtain⟨i,hi,hzz⟩:=Option.map_eq_some_iff.1 zut
 simp only [Prod.mk.injEq] at hzz
 obtain⟨hz,hs,hb⟩:=hzz
 have hr:=run_make (P:=prog) w 94 158 i _ underlying94 hi hz .i64 .i64 n n (by omega) (Int.le_refl _) (by rw [hb];omega) (by omega)
 simp only [Int.toNat_natCast,hs] at hr
 exact hr
def lf0:Lf:=⟨fun _=>0,fun _=>0,fun _=>0,fun _=>false⟩
theorem LvV.start (w:World) (n:Nat):LvV n w.heap.size lf0 (w.alloc (.cells (madeCells #[iV 0,iV 0,iV 0,.bool false] (n*4)) 158)):=by
 refine zu.made w _ _ _ _ (by rw [size_madeCells];exact Nat.le_refl _) fun i hi=>?_
 unfold madeCells Vf lf0
 simp only [Array.getElem?_map,Array.getElem?_range,hi,Option.map_some,if_true]
 have h4:i % 4<4:=Nat.mod_lt _ (by decide)
 show some ((#[iV 0,iV 0,iV 0,.bool false]:Array Value)[i % 4]!)=_
 obtain e | e | e | e:i % 4=0\/i % 4=1\/i % 4=2\/i % 4=3:=by omega
 all_goals (rw [e];rfl)
variable {n lb:Nat} {l l':Lf} {x:World}
theorem LvV.congr (h:LvV n lb l x) (h1:∀a,a<n->l.rd a=l'.rd a/\l.un a=l'.un a/\l.bk a=l'.bk a/\l.ou a=l'.ou a):LvV n lb l' x:=by
 refine zu.congr h fun i hi=>?_
 obtain⟨e1,e2,e3,e4⟩:=h1 (i / 4) (by omega)
 unfold Vf
 rw [e1,e2,e3,e4]
theorem LvV.setRd (h:LvV n lb l x) (ha:a<n) (v:Int):LvV n lb ⟨upI l.rd a v,l.un,l.bk,l.ou⟩ (x.setCell (ad lb (a*4)) (iV v)):=by
 refine zu.congr (zu.set h (a*4) (iV v) (by omega)) fun i hi=>?_
 unfold Vf upI
 by_cases e:i=a*4
 ·rw [if_pos e,if_pos (by omega)];simp only [];rw [if_pos (by omega)]
 ·rw [if_neg e]
  by_cases e0:i % 4=0
  ·rw [if_pos e0,if_pos e0];simp only [];rw [if_neg (by omega)]
  ·rw [if_neg e0,if_neg e0]
theorem LvV.setUn (h:LvV n lb l x) (ha:a<n) (v:Int):LvV n lb ⟨l.rd,upI l.un a v,l.bk,l.ou⟩ (x.setCell (ad lb (a*4+1)) (iV v)):=by
 refine zu.congr (zu.set h (a*4+1) (iV v) (by omega)) fun i hi=>?_
 unfold Vf upI
 by_cases e:i=a*4+1
 ·rw [if_pos e,if_neg (by omega),if_pos (by omega)];simp only [];rw [if_pos (by omega)]
 ·rw [if_neg e]
  by_cases e0:i % 4=0
  ·rw [if_pos e0,if_pos e0]
  ·rw [if_neg e0,if_neg e0]
   by_cases e1:i % 4=1
   ·rw [if_pos e1,if_pos e1];simp only [];rw [if_neg (by omega)]
   ·rw [if_neg e1,if_neg e1]
theorem LvV.setBk (h:LvV n lb l x) (ha:a<n) (v:Int):LvV n lb ⟨l.rd,l.un,upI l.bk a v,l.ou⟩ (x.setCell (ad lb (a*4+2)) (iV v)):=by
 refine zu.congr (zu.set h (a*4+2) (iV v) (by omega)) fun i hi=>?_
 unfold Vf upI
 by_cases e:i=a*4+2
 ·rw [if_pos e,if_neg (by omega),if_neg (by omega),if_pos (by omega)];simp only [];rw [if_pos (by omega)]
 ·rw [if_neg e]
  by_cases e0:i % 4=0
  ·rw [if_pos e0,if_pos e0]
  ·rw [if_neg e0,if_neg e0]
   by_cases e1:i % 4=1
   ·rw [if_pos e1,if_pos e1]
   ·rw [if_neg e1,if_neg e1]
    by_cases e2:i % 4=2
    ·rw [if_pos e2,if_pos e2];simp only [];rw [if_neg (by omega)]
    ·rw [if_neg e2,if_neg e2]
theorem LvV.setOu (h:LvV n lb l x) (ha:a<n) (v:Bool):LvV n lb ⟨l.rd,l.un,l.bk,upB l.ou a v⟩ (x.setCell (ad lb (a*4+3)) (.bool v)):=by
 refine zu.congr (zu.set h (a*4+3) (.bool v) (by omega)) fun i hi=>?_
 unfold Vf upB
 by_cases e:i=a*4+3
 ·rw [if_pos e,if_neg (by omega),if_neg (by omega),if_neg (by omega)];simp only [];rw [if_pos (by omega)]
 ·rw [if_neg e]
  by_cases e0:i % 4=0
  ·rw [if_pos e0,if_pos e0]
  ·rw [if_neg e0,if_neg e0]
   by_cases e1:i % 4=1
   ·rw [if_pos e1,if_pos e1]
   ·rw [if_neg e1,if_neg e1]
    by_cases e2:i % 4=2
    ·rw [if_pos e2,if_pos e2]
    ·rw [if_neg e2,if_neg e2];simp only [];rw [if_neg (by omega)]
def lf1 (L:Lp) (t:Tg) (T:List Int) (k:Nat):Lf:=⟨fun a=>if a<k then nth T a+zO t (zc L.b a).o else 0,fun a=>if a<k then nth T a+zO t (zc L.b a).o - 1 else 0,fun _=>0,fun _=>false⟩
def lf2 (L:Lp) (t:Tg) (P:Int) (T:List Int) (s i:Nat):Lf:=⟨fun a=>nth T a+zO t (zc L.b a).o,fun a=>zam (zj (zc L.b s)) a P (nth T s) (UJ L t P T a s) i,fun a=>Xx (zj (zc L.b s)) a (zbx L a s) i,fun _=>false⟩
def lf3 (L:Lp) (t:Tg) (P:Int) (T:List Int) (o:Nat):Lf:=⟨fun a=>nth T a+zO t (zc L.b a).o,fun a=>UJ L t P T a L.b.length,fun a=>Vw L a,fun a=>zmm L.o a o⟩
theorem LvV.one {k:Nat} (h:LvV n lb (lf1 L t T k) x) (hk:k<n) :
  LvV n lb (lf1 L t T (k+1)) ((((x.setCell (ad lb (k*4)) (iV (nth T k+zO t (zc L.b k).o))).setCell (ad lb (k*4+1)) (iV (nth T k+zO t (zc L.b k).o - 1))).setCell (ad lb (k*4+2)) (iV 0)).setCell (ad lb (k*4+3)) (.bool false)):=by
 refine ((((h.setRd hk _).setUn hk _).setBk hk 0).setOu hk false).congr fun a ha=>?_
 unfold lf1 upI upB
 simp only []
 by_cases e:a=k
 ·rw [if_pos e,if_pos (show a<k+1 by omega),if_pos e,if_pos e,if_pos e,e];simp
 ·rw [if_neg e,if_neg e,if_neg e,if_neg e]
  by_cases e2:a<k
  ·rw [if_pos e2,if_pos e2,if_pos (show a<k+1 by omega),if_pos (show a<k+1 by omega)];simp
  ·rw [if_neg e2,if_neg e2,if_neg (show ¬a<k+1 by omega),if_neg (show ¬a<k+1 by omega)];simp
theorem LvV.two (h:LvV L.b.length lb (lf1 L t T L.b.length) x):LvV L.b.length lb (lf2 L t P T 0 0) x:=by
 refine h.congr fun a ha=>?_
 unfold lf1 lf2
 simp only [if_pos ha]
 exact⟨trivial,rfl,rfl,trivial⟩
theorem zy3 (L:Lp) (t:Tg) (P:Int) (T:List Int) (s:Nat):lf2 L t P T s (zj (zc L.b s)).length=lf2 L t P T (s+1) 0:=rfl
theorem zy2 (L:Lp) (t:Tg) (P:Int) (T:List Int):lf2 L t P T L.b.length 0=lf3 L t P T 0:=rfl
theorem zy4 (L:Lp) (t:Tg) (P:Int) (T:List Int):lf3 L t P T L.o.length=yT L t P T:=rfl
theorem LvV.told (h:LvV n lb (lf3 L t P T o) x) (ha:at'<n) (ho:nth L.o o=(at':Int)):LvV n lb (lf3 L t P T (o+1)) (x.setCell (ad lb (at'*4+3)) (.bool true)):=by
 refine (h.setOu ha true).congr fun a _=>⟨rfl,rfl,rfl,?_⟩
 show upB (fun a=>zmm L.o a o) at' true a=(zmm L.o a o || decide (nth L.o o=(a:Int)))
 unfold upB
 by_cases e:a=at'
 ·rw [if_pos e,decide_eq_true (by omega),Bool.or_true]
 ·rw [if_neg e,decide_eq_false (by omega),Bool.or_false]
theorem zqn (h:zV L t P T=true) (hs:s<L.b.length) (hi:i<=(zj (zc L.b s)).length) (ha:a<L.b.length):0<=(lf2 L t P T s i).un a/\(lf2 L t P T s i).un a<=1606/\0<=(lf2 L t P T s i).bk a/\(lf2 L t P T s i).bk a<=3:=by
 obtain⟨h1,h2,h3,h4,-,-,-⟩:=yd h
 have hw:=Zk (zc L.b a).o h2
 obtain⟨ta1,ta2,-⟩:=xr h ha
 have hu:∀s,s<L.b.length->∀i,i<(zj (zc L.b s)).length->(zy (zj (zc L.b s)) i).1=(a:Int)->nth T s+(zy (zj (zc L.b s)) i).2*P<=1606:=fun s hs i hi _=>by
  obtain⟨r1,r2,r3,r4⟩:=Ze h1 hs _ (Zi hi)
  obtain⟨t1,t2,-⟩:=xr h hs
  have hb:(zy (zj (zc L.b s)) i).2*P<=3*200:=Int.mul_le_mul r4 h4 (by omega) (by omega)
  omega
 have g1:=zp7 L t P T a s
 have g2:=zhy (zj (zc L.b s)) a P (nth T s) (UJ L t P T a s) i
 have g3:=ze6 L t P T a 1606 (by omega) L.b.length hu s (by omega)
 have g4:=zku (zj (zc L.b s)) a P (nth T s) (UJ L t P T a s) 1606 g3 (hu s hs) i hi
 have g5:=zh8 L a s
 have g6:=zh7 (zj (zc L.b s)) a (zbx L a s) i
 have g7:=UX h1 a s (by omega)
 have g8:=zit (zj (zc L.b s)) a (zbx L a s) 3 g7 (fun i hi=>(Ze h1 hs _ (Zi hi)).2.2.2) i hi
 show 0<=zam _ _ _ _ _ _/\zam _ _ _ _ _ _<=1606/\0<=Xx _ _ _ _/\Xx _ _ _ _<=3
 exact⟨by omega,by omega,by omega,by omega⟩
theorem zuu (h:zV L t P T=true):zt3 L.b.length (yT L t P T):=by
 obtain⟨h1,h2,h3,h4,-,-,-⟩:=yd h
 have hu:∀a:Nat,∀s,s<L.b.length->∀i,i<(zj (zc L.b s)).length->(zy (zj (zc L.b s)) i).1=(a:Int)->nth T s+(zy (zj (zc L.b s)) i).2*P<=1606:=fun a s hs i hi _=>by
  obtain⟨r1,r2,r3,r4⟩:=Ze h1 hs _ (Zi hi)
  obtain⟨t1,t2,-⟩:=xr h hs
  have hb:(zy (zj (zc L.b s)) i).2*P<=3*200:=Int.mul_le_mul r4 h4 (by omega) (by omega)
  omega
 refine⟨fun a ha=>?_,fun a ha=>?_,fun a ha=>⟨zh8 L a _,UX h1 a _ (Nat.le_refl _)⟩⟩
 ·have hw:=Zk (zc L.b a).o h2
  obtain⟨ta1,ta2,-⟩:=xr h ha
  show 1<=nth T a+zO t (zc L.b a).o/\nth T a+zO t (zc L.b a).o<=1006
  omega
 ·have hw:=Zk (zc L.b a).o h2
  obtain⟨ta1,ta2,-⟩:=xr h ha
  have g1:=zp7 L t P T a L.b.length
  have g3:=ze6 L t P T a 1606 (by omega) L.b.length (hu a) L.b.length (Nat.le_refl _)
  show 0<=UJ L t P T a L.b.length/\UJ L t P T a L.b.length<=1606
  omega
end
theorem zvx (w:World):(sizeOf (prog.elem 159)).run prog w=.ok 2 w:=by
 kernel_rfl
theorem zs9 (g n:Nat) (hn:n<=2) (w:World):(Instr.sliceAt 159 (.pointer (pA g)) none (some (iV (n:Int))) none).run prog w=.ok (.slice (pA g) n 2) w:=by
 have ht:prog.underlying 159=some (.array (prog.arrayLen 159) (prog.elem 159)):=by kernel_rfl
 have hl:prog.arrayLen 159=2:=by kernel_rfl
 rw [run_sliceAt_array_h w _ _ ht .i64 n (by omega) (by rw [hl];omega),zvx,hl]
 simp [slicedAt,Result.andThen_ok,Addr.add]
theorem ybo:(159:TypeId)≠158:=by decide
theorem zg0 {x:World} {lb n:Nat} {l:Lf} {f:Nat->Value} (h:zu x g 159 4 f) (hv:LvV n lb l x) (i:Nat) (v:Value):zu (x.setCell (ad lb i) v) g 159 4 f:=by
 have hne:g≠lb:=zu.apart h (show zu x lb 158 (n*4) (Vf l) from hv) ybo
 exact h.gF hne v
theorem LvV.read2 {n lb:Nat} {x:World} {ra:Nat} {u:Int} (hu:u=(if (lf2 L t P T s i).un ra<nth T s+(zy (zj (zc L.b s)) i).2*P then nth T s+(zy (zj (zc L.b s)) i).2*P else (lf2 L t P T s i).un ra))
  (h:LvV n lb ⟨(lf2 L t P T s i).rd,upI (lf2 L t P T s i).un ra u,(lf2 L t P T s i).bk,(lf2 L t P T s i).ou⟩ x) (hra:ra<n) (hr:(zy (zj (zc L.b s)) i).1=(ra:Int)) :
  LvV n lb (lf2 L t P T s (i+1)) (x.setCell (ad lb (ra*4+2)) (iV (if (lf2 L t P T s i).bk ra<(zy (zj (zc L.b s)) i).2 then (zy (zj (zc L.b s)) i).2 else (lf2 L t P T s i).bk ra))):=by
 refine (h.setBk hra _).congr fun a ha=>?_
 rw [hu]
 unfold lf2 upI
 simp only []
 refine⟨trivial,?_,?_,trivial⟩
 ·rw [zam]
  by_cases e:a=ra
  ·subst e
   rw [if_pos rfl]
   by_cases e2:zam (zj (zc L.b s)) a P (nth T s) (UJ L t P T a s) i<nth T s+(zy (zj (zc L.b s)) i).2*P
   ·rw [if_pos e2,if_pos ⟨hr,e2⟩]
   ·rw [if_neg e2,if_neg (fun h=>e2 h.2)]
  ·rw [if_neg e,if_neg (fun h=>e (by have:=h.1;omega))]
 ·rw [Xx]
  by_cases e:a=ra
  ·subst e
   rw [if_pos rfl]
   by_cases e2:Xx (zj (zc L.b s)) a (zbx L a s) i<(zy (zj (zc L.b s)) i).2
   ·rw [if_pos e2,if_pos ⟨hr,e2⟩]
   ·rw [if_neg e2,if_neg (fun h=>e2 h.2)]
  ·rw [if_neg e,if_neg (fun h=>e (by have:=h.1;omega))]
def zt4 (L:Lp) (t:Tg) (P:Int) (T:List Int) (w:World) (e:Ending) (w':World):Prop:=∃lb,e=.returned (.slice (pA lb) L.b.length L.b.length)/\LvV L.b.length lb (yT L t P T) w'/\w.heap.size<=lb/\Bw w w'
set_option maxRecDepth 100000 in
theorem zm7 (p0 p1 p2 q0 q1 q2 r:Int) (L:Lp) (a0 a2:Option Addr) (b off gA gB gC:Nat) (P:Int) (T:List Int) (tb to tc:Nat) (w:World) (hlg:zV L ⟨p0,p1,p2,q0,q1,q2,r⟩ P T=true) (hbz:b<w.heap.size) (gQ:∀i,i<L.b.length->∀j,j<9->w.cell? (ad b (off+i*9+j))=(zP (zc L.b i))[j]?) (hl1:L.b.length<=gB) (hm1:gB<=9223372036854775807)
  (htz:tb<w.heap.size) (htcell:∀i,i<T.length->w.cell? (ad tb (to+i))=sI (nth T i)) (htl1:T.length<=tc) (htm:tc<=9223372036854775807)
  (hout:0<L.o.length->∃ob oo,a2=some (ad ob oo)/\ob<w.heap.size/\∀i,i<L.o.length->w.cell? (ad ob (oo+i))=sI (nth L.o i)) (hol:L.o.length<=gC) (hom:gC<=9223372036854775807) :
  Calls prog 43 #[(lv L a0 (some (ad b off)) a2 gA gB gC),(tv p0 p1 p2 q0 q1 q2 r),.agg #[iV P,.slice (some (ad tb to)) T.length tc]] w fun e w'=>zt4 L ⟨p0,p1,p2,q0,q1,q2,r⟩ P T w e w':=by
 obtain⟨hm,hmt,hp1,hp2,htl,-,-⟩:=yd hlg
 obtain⟨-,h1n,h16,-⟩:=zw hm
 have HLG:=z9 hlg
 have HTM:=z9 (fun s (h:s<L.b.length)=>xr hlg h)
 have HWO:=z9 (fun o=>Zk (t:=⟨p0,p1,p2,q0,q1,q2,r⟩) o hmt)
 have HWT:=z9 (fun op W=>Xn p0 p1 p2 q0 q1 q2 r op W)
 have HTL:=z9 htl
 have HBODY:=z9 gQ
 have HTC:=z9 htcell
 have HOUT:=z9 hout
 have HM:=z9 hm
 have HS:Hid ((((w.alloc (.cells #[.slice a0 L.l.length gA,.slice (some (ad b off)) L.b.length gB,.slice a2 L.o.length gC] 25)).alloc (.cells #[iV p0,iV p1,iV p2,iV q0,iV q1,iV q2,iV r] 28)).alloc (.cells #[iV P,.slice (some (ad tb to)) T.length tc] 49)).heap.size=w.heap.size+1+1+1):=by show _=_;simp
 have HST:Hid (LvV L.b.length (w.heap.size+1+1+1) (lf1 L ⟨p0,p1,p2,q0,q1,q2,r⟩ T 0) ((((w.alloc (.cells #[.slice a0 L.l.length gA,.slice (some (ad b off)) L.b.length gB,.slice a2 L.o.length gC] 25)).alloc (.cells #[iV p0,iV p1,iV p2,iV q0,iV q1,iV q2,iV r] 28)).alloc (.cells #[iV P,.slice (some (ad tb to)) T.length tc] 49)).alloc (.cells (madeCells #[iV 0,iV 0,iV 0,.bool false] (L.b.length*4)) 158))):=by
  have h:=LvV.start (((w.alloc (.cells #[.slice a0 L.l.length gA,.slice (some (ad b off)) L.b.length gB,.slice a2 L.o.length gC] 25)).alloc (.cells #[iV p0,iV p1,iV p2,iV q0,iV q1,iV q2,iV r] 28)).alloc (.cells #[iV P,.slice (some (ad tb to)) T.length tc] 49)) L.b.length
  rw [HS.out] at h
  exact h.congr fun a _=>⟨rfl,rfl,rfl,rfl⟩
 have HSB:Hid (Below (w.heap.size+1+1+1) (((w.alloc (.cells #[.slice a0 L.l.length gA,.slice (some (ad b off)) L.b.length gB,.slice a2 L.o.length gC] 25)).alloc (.cells #[iV p0,iV p1,iV p2,iV q0,iV q1,iV q2,iV r] 28)).alloc (.cells #[iV P,.slice (some (ad tb to)) T.length tc] 49)) ((((w.alloc (.cells #[.slice a0 L.l.length gA,.slice (some (ad b off)) L.b.length gB,.slice a2 L.o.length gC] 25)).alloc (.cells #[iV p0,iV p1,iV p2,iV q0,iV q1,iV q2,iV r] 28)).alloc (.cells #[iV P,.slice (some (ad tb to)) T.length tc] 49)).alloc (.cells (madeCells #[iV 0,iV 0,iV 0,.bool false] (L.b.length*4)) 158))):=by
  have h:=below_alloc1 (((w.alloc (.cells #[.slice a0 L.l.length gA,.slice (some (ad b off)) L.b.length gB,.slice a2 L.o.length gC] 25)).alloc (.cells #[iV p0,iV p1,iV p2,iV q0,iV q1,iV q2,iV r] 28)).alloc (.cells #[iV P,.slice (some (ad tb to)) T.length tc] 49)) (.cells (madeCells #[iV 0,iV 0,iV 0,.bool false] (L.b.length*4)) 158)
  rw [HS.out] at h
  exact h
 have hmk:=zm9 L.b.length h16
 clear hlg hm hmt htl gQ htcell hout
 go_enter func43,ntmps43
 go_wp2_with fail
 clear hmk
 go_loopw [25] (fun iv wr=>∃k:Nat,k<=L.b.length/\iv=iV k/\LvV L.b.length (w.heap.size+1+1+1) (lf1 L ⟨p0,p1,p2,q0,q1,q2,r⟩ T k) wr/\Below (w.heap.size+1+1+1) (((w.alloc (.cells #[.slice a0 L.l.length gA,.slice (some (ad b off)) L.b.length gB,.slice a2 L.o.length gC] 25)).alloc (.cells #[iV p0,iV p1,iV p2,iV q0,iV q1,iV q2,iV r] 28)).alloc (.cells #[iV P,.slice (some (ad tb to)) T.length tc] 49)) wr) (fun iv _=>L.b.length - (intOf iv).toNat)
 case atStart=>exact⟨0,Nat.zero_le _,rfl,HST.out,HSB.out⟩
 case round =>
  clear HST HSB
  obtain⟨k,hk,rfl,hV,gH⟩:=hrel
  have HV:=z9 hV
  have HB:=z9 gH
  obtain⟨⟨l0,l1,l2⟩,⟨t0,t1,t2,t3,t4,t5,t6⟩,⟨y0,y1⟩,hz,hbw⟩:=xM gH
  have HW:=z9 hbw
  have hlbz:=hV.lt
  clear gH hV hbw
  by_cases hkl:k<L.b.length
  ·have hki:(k:Int)<(L.b.length:Int):=by omega
   have hbz2:b<wr.heap.size:=by have:=HW.out.size;omega
   have htz2:tb<wr.heap.size:=by have:=HW.out.size;omega
   have c0:=(V5 (fun j hj=>(zf HW.out b (off+k*9+j) hbz).trans (HBODY.out k hkl j hj))).1
   have hkT:(k:Int)<(T.length:Int):=by have:=HTL.out;omega
   have cT:=(zf HW.out tb (to+k) htz).trans (HTC.out k (by have:=HTL.out;omega))
   obtain⟨tm1,tm2,-⟩:=HTM.out k hkl
   have HONE:=z9 (fun W (hW:Bw wr W)=>(HV.out.gE hW HV.out.lt).one hkl)
   have HONF:=z9 (fun W (hW:Bw wr W)=>HV.out.gE hW HV.out.lt)
   have HWC:=z9 (HWT.out (zc L.b k).o)
   obtain⟨wv1,wv2⟩:=HWO.out (zc L.b k).o
   obtain⟨wv,hwv⟩:∃wv,zO ⟨p0,p1,p2,q0,q1,q2,r⟩ (zc L.b k).o=wv:=⟨_,rfl⟩
   rw [hwv] at HWC wv1 wv2 HONE
   generalize (zc L.b k).o=oo at *
   generalize nth T k=tk at *
   have hza:w.heap.size<wr.heap.size:=by omega
   have hzb:w.heap.size+1<wr.heap.size:=by omega
   have hzc:w.heap.size+1+1<wr.heap.size:=by omega
   have HSS:Hid (∀w':World,Bw wr w'->w'.cell? (ad w.heap.size 1)=some (.slice (some (ad b off)) L.b.length gB)/\w'.cell? (ad (w.heap.size+1) 0)=sI p0/\w'.cell? (ad (w.heap.size+1) 1)=sI p1/\w'.cell? (ad (w.heap.size+1) 2)=sI p2/\w'.cell? (ad (w.heap.size+1) 3)=sI q0/\w'.cell? (ad (w.heap.size+1) 4)=sI q1/\w'.cell? (ad (w.heap.size+1) 5)=sI q2/\w'.cell? (ad (w.heap.size+1) 6)=sI r/\w'.cell? (ad (w.heap.size+1+1) 1)=some (.slice (some (ad tb to)) T.length tc)/\w'.cell? (ad b (off+k*9))=sI oo/\w'.cell? (ad tb (to+k))=sI tk):=by
    intro w' h
    refine⟨?_,?_,?_,?_,?_,?_,?_,?_,?_,?_,?_⟩
    all_goals (rw [zf h _ _ (by omega)];assumption)
   clear hwv
   go_wp2_with fail
   refine wp_region_noPanic ?_
   refine zm 99 (fun w'=>w'.cell? (ad w.heap.size 1)=some (.slice (some (ad b off)) L.b.length gB)/\w'.cell? (ad (w.heap.size+1) 0)=sI p0/\w'.cell? (ad (w.heap.size+1) 1)=sI p1/\w'.cell? (ad (w.heap.size+1) 2)=sI p2/\w'.cell? (ad (w.heap.size+1) 3)=sI q0/\w'.cell? (ad (w.heap.size+1) 4)=sI q1/\w'.cell? (ad (w.heap.size+1) 5)=sI q2/\w'.cell? (ad (w.heap.size+1) 6)=sI r/\w'.cell? (ad (w.heap.size+1+1) 1)=some (.slice (some (ad tb to)) T.length tc)/\w'.cell? (ad b (off+k*9))=sI oo/\w'.cell? (ad tb (to+k))=sI tk) (by kernel_rfl) (HSS.out _ (below_draws _ _ 1)) (fun h9=>?_)
   refine uk 0 h9 ?_
   refine uk 1 h9 ?_
   refine uk 2 h9 ?_
   refine uk 3 h9 ?_
   refine uk 4 h9 ?_
   refine uk 5 h9 ?_
   refine uk 6 h9 ?_
   refine uk 7 h9 ?_
   refine uk 8 h9 ?_
   refine uk 9 h9 ?_
   refine uk 10 h9 ?_
   refine uk 11 h9 ?_
   refine ze (i:=12) rfl (by kernel_rfl) (fun K hK9=>?_)
   go_simp
   refine (HWC.out _).mono ?_
   rintro e y ⟨rfl,hy⟩
   have HY:=z9 ((below_draws wr.heap.size wr 1).trans (show Below wr.heap.size wr.drew y from hy))
   have h9:=HSS.out _ HY.out
   clear hy
   refine nxt hK9.out (.inr h9) ?_
   clear hK9 K
   have hwr:IntKind.i64.wrap (tk+wv)=tk+wv:=xw _ (by omega) (by omega)
   refine uk 13 h9 ?_
   refine uk 14 h9 ?_
   refine zq (by kernel_rfl) ?_ _
   refine NoPanic.normal ?_
   have HN:=z9 (HONE.out y HY.out)
   have hVy:=HONF.out y HY.out
   have hyz:=hVy.lt
   obtain⟨v0,v1,v2,v3⟩:=hVy.cells hkl
   have z0:=zu.frozen hVy (k*4)
   have z1:=zu.frozen hVy (k*4+1)
   have z2:=zu.frozen hVy (k*4+2)
   have z3:=zu.frozen hVy (k*4+3)
   have hw1:wrap64 (tk+wv)=tk+wv:=by unfold wrap64;omega
   have hw2:wrap64 (tk+wv - 1)=tk+wv - 1:=by unfold wrap64;omega
   generalize (lf1 L ⟨p0,p1,p2,q0,q1,q2,r⟩ T k).rd k=e0 at *
   generalize (lf1 L ⟨p0,p1,p2,q0,q1,q2,r⟩ T k).un k=e1 at *
   generalize (lf1 L ⟨p0,p1,p2,q0,q1,q2,r⟩ T k).bk k=e2 at *
   generalize (lf1 L ⟨p0,p1,p2,q0,q1,q2,r⟩ T k).ou k=e3 at *
   clear h9 HSS hVy HONE HONF HWC l0 l1 l2 t0 t1 t2 t3 t4 t5 t6 y0 y1 c0 cT
   go_wp2_with fail
   go_roundw
   case rel=>exact⟨k+1,by omega,by go_num,HN.out,(HB.out.trans (HY.out.mono (by omega))).setCell (Nat.le_refl _) _ |>.setCell (Nat.le_refl _) _ |>.setCell (Nat.le_refl _) _ |>.setCell (Nat.le_refl _) _⟩
   case measure=>simp [intOf];omega
  ·have e:k=L.b.length:=by omega
   have hki:¬(k:Int)<(L.b.length:Int):=by omega
   have HV2:Hid (LvV L.b.length (w.heap.size+1+1+1) (lf2 L ⟨p0,p1,p2,q0,q1,q2,r⟩ P T 0 0) wr):=by
    have h:=HV.out
    rw [e] at h
    exact h.two
   clear e HV
   rename World=>wa
   go_wp2_with fail
   clear l0 l1 l2 t0 t1 t2 t3 t4 t5 t6 y0 y1
   go_loopw [53] (fun iv wr=>∃s:Nat,s<=L.b.length/\iv=iV s/\LvV L.b.length (w.heap.size+1+1+1) (lf2 L ⟨p0,p1,p2,q0,q1,q2,r⟩ P T s 0) wr/\Below (w.heap.size+1+1+1) (((w.alloc (.cells #[.slice a0 L.l.length gA,.slice (some (ad b off)) L.b.length gB,.slice a2 L.o.length gC] 25)).alloc (.cells #[iV p0,iV p1,iV p2,iV q0,iV q1,iV q2,iV r] 28)).alloc (.cells #[iV P,.slice (some (ad tb to)) T.length tc] 49)) wr) (fun iv _=>L.b.length - (intOf iv).toNat)
   case atStart=>exact⟨0,Nat.zero_le _,rfl,HV2.out,HB.out⟩
   case round =>
    clear HV2 HB HW hlbz hz
    obtain⟨s,hs,rfl,hV,gH⟩:=hrel
    have HV:=z9 hV
    have HB:=z9 gH
    obtain⟨⟨l0,l1,l2⟩,⟨t0,t1,t2,t3,t4,t5,t6⟩,⟨y0,y1⟩,hz,hbw⟩:=xM gH
    have HW:=z9 hbw
    have hlbz:=hV.lt
    clear gH hV hbw
    by_cases hsl:s<L.b.length
    ·have hsi:(s:Int)<(L.b.length:Int):=by omega
     have hbz2:b<wr.heap.size:=by have:=HW.out.size;omega
     obtain⟨c0,c1,c2,c3,c4,c5,c6,c7,c8⟩:=V5 (fun j hj=>(zf HW.out b (off+s*9+j) hbz).trans (HBODY.out s hsl j hj))
     obtain⟨hlk,hnl2⟩:=V0 (zo (zw HM.out).2.2.2.2.2.2 s hsl)
     have HUS:=z9 (fun i (h:i<(zj (zc L.b s)).length)=>Ze HM.out hsl _ (Zi h))
     have HRG:=z9 (fun i a (h:i<=(zj (zc L.b s)).length) (ha:a<L.b.length)=>zqn HLG.out hsl h ha)
     have HRD:=z9 (fun i ra (Z:World) (u:Int) (hu:u=(if (lf2 L ⟨p0,p1,p2,q0,q1,q2,r⟩ P T s i).un ra<nth T s+(zy (zj (zc L.b s)) i).2*P then nth T s+(zy (zj (zc L.b s)) i).2*P else (lf2 L ⟨p0,p1,p2,q0,q1,q2,r⟩ P T s i).un ra)) (h:LvV L.b.length (w.heap.size+1+1+1) ⟨(lf2 L ⟨p0,p1,p2,q0,q1,q2,r⟩ P T s i).rd,upI (lf2 L ⟨p0,p1,p2,q0,q1,q2,r⟩ P T s i).un ra u,(lf2 L ⟨p0,p1,p2,q0,q1,q2,r⟩ P T s i).bk,(lf2 L ⟨p0,p1,p2,q0,q1,q2,r⟩ P T s i).ou⟩ Z) (hra:ra<L.b.length) (hr:(zy (zj (zc L.b s)) i).1=(ra:Int))=>LvV.read2 hu h hra hr)
     have HREND:Hid (lf2 L ⟨p0,p1,p2,q0,q1,q2,r⟩ P T s (zj (zc L.b s)).length=lf2 L ⟨p0,p1,p2,q0,q1,q2,r⟩ P T (s+1) 0):=zy3 _ _ _ _ _
     have HRW:=z9 (ziz (wr.alloc (.cells #[iV (zc L.b s).o,iV (zc L.b s).xa,iV (zc L.b s).xb,iV (zc L.b s).ya,iV (zc L.b s).yb,iV (zc L.b s).ar,iV (zc L.b s).sp,iV (zc L.b s).pl,iV (zc L.b s).nn] 41)) (iV (zc L.b s).xa) (iV (zc L.b s).xb) (iV (zc L.b s).ya) (iV (zc L.b s).yb) 159 (Uq (zc L.b s)) rfl rfl rfl rfl)
     have ez:(wr.alloc (.cells #[iV (zc L.b s).o,iV (zc L.b s).xa,iV (zc L.b s).xb,iV (zc L.b s).ya,iV (zc L.b s).yb,iV (zc L.b s).ar,iV (zc L.b s).sp,iV (zc L.b s).pl,iV (zc L.b s).nn] 41)).heap.size=wr.heap.size+1:=by simp
     rw [ez] at HRW
     have HRF:=z9 (fun (x:World) (g:Nat) (h:zu x g 159 4 (Uq (zc L.b s))) i (hi:i<(zj (zc L.b s)).length)=>zho h hi)
     generalize hxk:zc L.b s=xk at *
     clear hxk ez
     obtain⟨o,xa,xb,ya,yb,ar,sp,pl,nn⟩:=xk
     generalize zj ⟨o,xa,xb,ya,yb,ar,sp,pl,nn⟩=us at *
     simp only at c0 c1 c2 c3 c4 c5 c6 c7 c8 HRW hlk
     have hsl2:=zs9 (wr.heap.size+1) us.length hnl2
     rename World=>wo
     go_wp2_with (go_at_call 99;refine (Z3 _ _).mono ?_;rintro e w' ⟨rfl,rfl⟩)
     clear l0 l1 l2 t0 t1 t2 t3 t4 t5 t6 y0 y1 c0 c1 c2 c3 c4 c5 c6 c7 c8
     go_loopw [71] (fun iv wr=>∃i:Nat,i<=us.length/\iv=iV i/\zu wr (wo.heap.size+1) 159 4 (Uq ⟨o,xa,xb,ya,yb,ar,sp,pl,nn⟩)/\LvV L.b.length (w.heap.size+1+1+1) (lf2 L ⟨p0,p1,p2,q0,q1,q2,r⟩ P T s i) wr/\Below (w.heap.size+1+1+1) (((w.alloc (.cells #[.slice a0 L.l.length gA,.slice (some (ad b off)) L.b.length gB,.slice a2 L.o.length gC] 25)).alloc (.cells #[iV p0,iV p1,iV p2,iV q0,iV q1,iV q2,iV r] 28)).alloc (.cells #[iV P,.slice (some (ad tb to)) T.length tc] 49)) wr) (fun iv _=>us.length - (intOf iv).toNat)
     case atStart=>exact⟨0,Nat.zero_le _,rfl,HRW.out,HV.out.gE (below_alloc2 wo _ _) HV.out.lt,HB.out.trans ((below_alloc2 wo _ _).mono (Nat.le_of_lt hlbz))⟩
     case round =>
      clear HV HB HW HRW hlbz hz hbz2 hsl2
      obtain⟨i,hi,rfl,gI,hV,gH⟩:=hrel
      have HV:=z9 hV
      have HB:=z9 gH
      have HR:=z9 gI
      obtain⟨⟨l0,l1,l2⟩,⟨t0,t1,t2,t3,t4,t5,t6⟩,⟨y0,y1⟩,hz,hbw⟩:=xM gH
      have HW:=z9 hbw
      have hlbz:=hV.lt
      have hGz:wo.heap.size+1<wr.heap.size:=gI.lt
      by_cases hil:i<us.length
      ·have hii:(i:Int)<(us.length:Int):=by omega
       obtain⟨u1,u2,u3,u4⟩:=HUS.out i hil
       obtain⟨f0,f1⟩:=HRF.out wr _ gI i hil
       have HRDI:=z9 (fun ra Z u hu h=>HRD.out i ra Z u hu h)
       have HRGI:=z9 (fun a ha=>HRG.out i a (by omega) ha)
       generalize zy us i=rf at *
       obtain⟨ra',rb⟩:=rf
       simp only at f0 f1 u1 u2 u3 u4 HRDI
       obtain⟨ra,rfl⟩:=Int.eq_ofNat_of_zero_le u1
       have hra:ra<L.b.length:=by omega
       have hrai:(ra:Int)<(L.b.length:Int):=by omega
       obtain⟨g1,g2,g3,g4⟩:=HRGI.out ra hra
       obtain⟨v0,v1,v2,v3⟩:=hV.cells hra
       have z1:=zu.frozen hV (ra*4+1)
       have z2:=zu.frozen hV (ra*4+2)
       have hsT:(s:Int)<(T.length:Int):=by have:=HTL.out;omega
       have htz2:tb<wr.heap.size:=by have:=HW.out.size;omega
       have cT:=(zf HW.out tb (to+s) htz).trans (HTC.out s (by have:=HTL.out;omega))
       obtain⟨tm1,tm2,-⟩:=HTM.out s hsl
       have hpr1:0<=rb*P:=Int.mul_nonneg (by omega) (by omega)
       have hpr2:rb*P<=3*200:=Int.mul_le_mul u4 hp2 (by omega) (by omega)
       have HRX:Hid (∀(Z:World) (u:Int),u=(if (lf2 L ⟨p0,p1,p2,q0,q1,q2,r⟩ P T s i).un ra<nth T s+rb*P then nth T s+rb*P else (lf2 L ⟨p0,p1,p2,q0,q1,q2,r⟩ P T s i).un ra)->LvV L.b.length (w.heap.size+1+1+1) ⟨(lf2 L ⟨p0,p1,p2,q0,q1,q2,r⟩ P T s i).rd,upI (lf2 L ⟨p0,p1,p2,q0,q1,q2,r⟩ P T s i).un ra u,(lf2 L ⟨p0,p1,p2,q0,q1,q2,r⟩ P T s i).bk,(lf2 L ⟨p0,p1,p2,q0,q1,q2,r⟩ P T s i).ou⟩ Z->LvV L.b.length (w.heap.size+1+1+1) (lf2 L ⟨p0,p1,p2,q0,q1,q2,r⟩ P T s (i+1)) (Z.setCell (ad ((w.heap.size+1+1+1)) (ra*4+2)) (iV (if (lf2 L ⟨p0,p1,p2,q0,q1,q2,r⟩ P T s i).bk ra<rb then rb else (lf2 L ⟨p0,p1,p2,q0,q1,q2,r⟩ P T s i).bk ra)))):=fun Z u hu hZ=>HRDI.out ra Z u hu hZ hra rfl
       have HL1:Hid (LvV L.b.length (w.heap.size+1+1+1) (lf2 L ⟨p0,p1,p2,q0,q1,q2,r⟩ P T s i) (wr.alloc (.cells #[iV (ra:Int),iV rb] 39))):=hV.gE (below_alloc1 _ _) hV.lt
       have HR1:Hid (zu (wr.alloc (.cells #[iV (ra:Int),iV rb] 39)) (wo.heap.size+1) 159 4 (Uq ⟨o,xa,xb,ya,yb,ar,sp,pl,nn⟩)):=gI.alloc _
       have HB1:Hid (Below (w.heap.size+1+1+1) (((w.alloc (.cells #[.slice a0 L.l.length gA,.slice (some (ad b off)) L.b.length gB,.slice a2 L.o.length gC] 25)).alloc (.cells #[iV p0,iV p1,iV p2,iV q0,iV q1,iV q2,iV r] 28)).alloc (.cells #[iV P,.slice (some (ad tb to)) T.length tc] 49)) (wr.alloc (.cells #[iV (ra:Int),iV rb] 39))):=gH.trans ((below_alloc1 wr _).mono (Nat.le_of_lt hlbz))
       generalize nth T s=ts at *
       obtain⟨un,hun⟩:∃un,(lf2 L ⟨p0,p1,p2,q0,q1,q2,r⟩ P T s i).un ra=un:=⟨_,rfl⟩
       have HUN:=z9 hun
       have HBK0:Hid (∃bk,(lf2 L ⟨p0,p1,p2,q0,q1,q2,r⟩ P T s i).bk ra=bk):=⟨_,rfl⟩
       obtain⟨bk,hbk⟩:∃bk,(lf2 L ⟨p0,p1,p2,q0,q1,q2,r⟩ P T s i).bk ra=bk:=⟨_,rfl⟩
       have HBK:Hid ((some (iV ((lf2 L ⟨p0,p1,p2,q0,q1,q2,r⟩ P T s i).bk ra)):Option Value)=sI bk):=by show _=_;rw [hbk]
       clear HBK0
       rw [hun,hbk] at HRX
       rw [hun] at v1 g1 g2
       rw [hbk] at v2 g3 g4
       obtain⟨pr,hpr⟩:∃pr,rb*P=pr:=⟨_,rfl⟩
       rw [hpr] at HRX hpr1 hpr2
       have hw1:wrap64 (rb*P)=pr:=by rw [hpr];unfold wrap64;omega
       have hw2:wrap64 (ts+pr)=ts+pr:=by unfold wrap64;omega
       have hwk1:IntKind.i64.wrap (rb*P)=pr:=by rw [hpr];exact xw _ (by omega) (by omega)
       have hwk2:IntKind.i64.wrap (ts+pr)=ts+pr:=xw _ (by omega) (by omega)
       have hne1:¬wr.heap.size=(w.heap.size+1+1+1):=by omega
       have hne2:¬(w.heap.size+1+1+1)=wr.heap.size:=by omega
       clear gI hV gH hbw hun hbk hpr v0 v3 l0 l2 t0 t1 t2 t3 t4 t5 t6 HRDI HRGI
       have HGB:Hid ((wr.alloc (.cells #[iV (ra:Int),iV rb] 39)).heap[wr.heap.size]?=some (.cells #[iV (ra:Int),iV rb] 39 (0,0))):=zD _ _ _
       have HS17:Hid ((wr.alloc (.cells #[iV (ra:Int),iV rb] 39)).cell? (ad ((w.heap.size+1+1+1)) (ra*4+1))=sI un/\(wr.alloc (.cells #[iV (ra:Int),iV rb] 39)).cell? (ad (w.heap.size+1+1) 1)=some (.slice (some (ad tb to)) T.length tc)/\(wr.alloc (.cells #[iV (ra:Int),iV rb] 39)).cell? (ad (w.heap.size+1+1) 0)=sI P/\(wr.alloc (.cells #[iV (ra:Int),iV rb] 39)).cell? (ad tb (to+s))=sI ts/\(wr.alloc (.cells #[iV (ra:Int),iV rb] 39)).cell? (ad wr.heap.size 1)=sI rb):=by
        obtain⟨-,q1,-,-⟩:=HL1.out.cells hra
        obtain⟨-,-,⟨k0,k1⟩,-,-⟩:=xM HB1.out
        have q6:=(zf (below_alloc1 wr (.cells #[iV (ra:Int),iV rb] 39)) tb (to+s) htz2).trans cT
        refine⟨?_,k1,k0,q6,?_⟩
        ·rw [q1,HUN.out]
        ·rw [cell_of_block HGB.out];rfl
       have f7:=zu.frozen HL1.out (ra*4+1)
       have hYz:=HL1.out.lt
       go_wp2_with fail
       clear y0 y1 f0 f1 v1 v2 cT z1 z2
       have z1:=f7
       generalize wr.alloc (.cells #[iV (ra:Int),iV rb] 39)=Y at *
       generalize wr.heap.size=gz at *
       refine wp_region_noPanic ?_
       refine zm 19 (fun w'=>w'.cell? (ad ((w.heap.size+1+1+1)) (ra*4+1))=sI un/\w'.cell? (ad (w.heap.size+1+1) 1)=some (.slice (some (ad tb to)) T.length tc)/\w'.cell? (ad (w.heap.size+1+1) 0)=sI P/\w'.cell? (ad tb (to+s))=sI ts/\w'.cell? (ad gz 1)=sI rb) (by kernel_rfl) HS17.out (fun h9=>?_)
       refine uk 0 h9 ?_
       refine uk 1 h9 ?_
       refine uk 2 h9 ?_
       refine uk 3 h9 ?_
       refine uk 4 h9 ?_
       refine uk 5 h9 ?_
       refine uk 6 h9 ?_
       refine uk 7 h9 ?_
       refine uk 8 h9 ?_
       refine uk 9 h9 ?_
       refine uk 10 h9 ?_
       refine uk 11 h9 ?_
       refine uk 12 h9 ?_
       refine uk 13 h9 ?_
       refine uk 14 h9 ?_
       refine uk 15 h9 ?_
       refine uk 16 h9 ?_
       refine uk 17 h9 ?_
       refine uk 18 h9 ?_
       refine ze (i:=19) rfl (by kernel_rfl) (fun K hK9=>?_)
       go_simp
       refine nxt hK9.out (.inl rfl) ?_
       clear hK9 K
       refine zq (by kernel_rfl) ?_ _
       refine NoPanic.normal ?_
       have HZ:Hid (LvV L.b.length (w.heap.size+1+1+1) ⟨(lf2 L ⟨p0,p1,p2,q0,q1,q2,r⟩ P T s i).rd,upI (lf2 L ⟨p0,p1,p2,q0,q1,q2,r⟩ P T s i).un ra (if un<ts+pr then ts+pr else un),(lf2 L ⟨p0,p1,p2,q0,q1,q2,r⟩ P T s i).bk,(lf2 L ⟨p0,p1,p2,q0,q1,q2,r⟩ P T s i).ou⟩ ((Y.setCell (ad ((w.heap.size+1+1+1)) (ra*4+1)) (iV (if un<ts+pr then ts+pr else un))).drew)):=(HL1.out.setUn hra (if un<ts+pr then ts+pr else un):LvV _ _ _ (Y.setCell _ _))
       have HZR:Hid (zu ((Y.setCell (ad ((w.heap.size+1+1+1)) (ra*4+1)) (iV (if un<ts+pr then ts+pr else un))).drew) (wo.heap.size+1) 159 4 (Uq ⟨o,xa,xb,ya,yb,ar,sp,pl,nn⟩)):=zg0 HR1.out HL1.out _ _
       have HZB:Hid (Below (w.heap.size+1+1+1) (((w.alloc (.cells #[.slice a0 L.l.length gA,.slice (some (ad b off)) L.b.length gB,.slice a2 L.o.length gC] 25)).alloc (.cells #[iV p0,iV p1,iV p2,iV q0,iV q1,iV q2,iV r] 28)).alloc (.cells #[iV P,.slice (some (ad tb to)) T.length tc] 49)) ((Y.setCell (ad ((w.heap.size+1+1+1)) (ra*4+1)) (iV (if un<ts+pr then ts+pr else un))).drew)):=(HB1.out.setCell (Nat.le_refl _) _).trans (below_draws _ _ 1)
       have HZG:Hid (((Y.setCell (ad ((w.heap.size+1+1+1)) (ra*4+1)) (iV (if un<ts+pr then ts+pr else un))).drew).cell? (ad gz 1)=sI rb):=(by have h:((Y.setCell (ad ((w.heap.size+1+1+1)) (ra*4+1)) (iV (if un<ts+pr then ts+pr else un))).drew).heap[gz]?=some (.cells #[iV (ra:Int),iV rb] 39 (0,0)):=(Below.heap_setCell Y _ _ _ hne1).trans HGB.out;rw [cell_of_block h];rfl)
       have HFIN:Hid (∀Z,LvV L.b.length (w.heap.size+1+1+1) ⟨(lf2 L ⟨p0,p1,p2,q0,q1,q2,r⟩ P T s i).rd,upI (lf2 L ⟨p0,p1,p2,q0,q1,q2,r⟩ P T s i).un ra (if un<ts+pr then ts+pr else un),(lf2 L ⟨p0,p1,p2,q0,q1,q2,r⟩ P T s i).bk,(lf2 L ⟨p0,p1,p2,q0,q1,q2,r⟩ P T s i).ou⟩ Z->LvV L.b.length (w.heap.size+1+1+1) (lf2 L ⟨p0,p1,p2,q0,q1,q2,r⟩ P T s (i+1)) (Z.setCell (ad ((w.heap.size+1+1+1)) (ra*4+2)) (iV (if bk<rb then rb else bk)))):=fun Z hZ=>HRX.out Z (if un<ts+pr then ts+pr else un) rfl hZ
       clear h9 HS17 f7 z1
       generalize (if un<ts+pr then ts+pr else un)=mu at *
       generalize (Y.setCell (ad ((w.heap.size+1+1+1)) (ra*4+1)) (iV mu)).drew=Z at *
       obtain⟨-,-,w2,-⟩:=HZ.out.cells hra
       have w2:=w2.trans HBK.out
       have z2:=zu.frozen HZ.out (ra*4+2)
       have zz:=HZ.out.lt
       go_wp2_with fail
       refine wp_region_noPanic ?_
       refine zm 10 (fun w'=>w'.cell? (ad ((w.heap.size+1+1+1)) (ra*4+2))=sI bk/\w'.cell? (ad gz 1)=sI rb) (by kernel_rfl) ⟨w2,HZG.out⟩ (fun h9=>?_)
       refine uk 0 h9 ?_
       refine uk 1 h9 ?_
       refine uk 2 h9 ?_
       refine uk 3 h9 ?_
       refine uk 4 h9 ?_
       refine uk 5 h9 ?_
       refine uk 6 h9 ?_
       refine uk 7 h9 ?_
       refine uk 8 h9 ?_
       refine uk 9 h9 ?_
       refine ze (i:=10) rfl (by kernel_rfl) (fun K hK9=>?_)
       go_simp
       refine nxt hK9.out (.inl rfl) ?_
       clear hK9 K
       refine zq (by kernel_rfl) ?_ _
       refine NoPanic.normal ?_
       clear h9 w2 z2 zz
       have HN:Hid (LvV L.b.length (w.heap.size+1+1+1) (lf2 L ⟨p0,p1,p2,q0,q1,q2,r⟩ P T s (i+1)) ((Z.setCell (ad ((w.heap.size+1+1+1)) (ra*4+2)) (iV (if bk<rb then rb else bk))).drew)):=(show LvV _ _ _ (Z.setCell _ _) from HFIN.out Z HZ.out)
       have HNR:Hid (zu ((Z.setCell (ad ((w.heap.size+1+1+1)) (ra*4+2)) (iV (if bk<rb then rb else bk))).drew) (wo.heap.size+1) 159 4 (Uq ⟨o,xa,xb,ya,yb,ar,sp,pl,nn⟩)):=zg0 HZR.out HZ.out _ _
       have HNB:Hid (Below (w.heap.size+1+1+1) (((w.alloc (.cells #[.slice a0 L.l.length gA,.slice (some (ad b off)) L.b.length gB,.slice a2 L.o.length gC] 25)).alloc (.cells #[iV p0,iV p1,iV p2,iV q0,iV q1,iV q2,iV r] 28)).alloc (.cells #[iV P,.slice (some (ad tb to)) T.length tc] 49)) ((Z.setCell (ad ((w.heap.size+1+1+1)) (ra*4+2)) (iV (if bk<rb then rb else bk))).drew)):=(HZB.out.setCell (Nat.le_refl _) _).trans (below_draws _ _ 1)
       generalize (if bk<rb then rb else bk)=mb at *
       go_wp2_with fail
       go_roundw
       case rel=>exact⟨i+1,by omega,by go_num,HNR.out,HN.out,HNB.out⟩
       case measure=>simp [intOf];omega
      ·have e:i=us.length:=by omega
       have hii:¬(i:Int)<(us.length:Int):=by omega
       have HN:Hid (LvV L.b.length (w.heap.size+1+1+1) (lf2 L ⟨p0,p1,p2,q0,q1,q2,r⟩ P T (s+1) 0) wr):=by rw [<-HREND.out,<-e];exact hV
       clear e gI hV gH hbw
       go_wp2_with fail
       go_roundw
       case rel=>exact⟨s+1,by omega,by go_num,HN.out,HB.out⟩
       case measure=>simp [intOf];omega
    ·have e:s=L.b.length:=by omega
     have hsi:¬(s:Int)<(L.b.length:Int):=by omega
     have HV3:Hid (LvV L.b.length (w.heap.size+1+1+1) (lf3 L ⟨p0,p1,p2,q0,q1,q2,r⟩ P T 0) wr):=by
      have h:=HV.out
      rw [e,zy2] at h
      exact h
     clear e HV
     rename World=>wb
     go_wp2_with fail
     clear l0 l1 l2 t0 t1 t2 t3 t4 t5 t6 y0 y1
     go_loopw [113] (fun iv wr=>∃q:Nat,q<=L.o.length/\iv=iV q/\LvV L.b.length (w.heap.size+1+1+1) (lf3 L ⟨p0,p1,p2,q0,q1,q2,r⟩ P T q) wr/\Below (w.heap.size+1+1+1) (((w.alloc (.cells #[.slice a0 L.l.length gA,.slice (some (ad b off)) L.b.length gB,.slice a2 L.o.length gC] 25)).alloc (.cells #[iV p0,iV p1,iV p2,iV q0,iV q1,iV q2,iV r] 28)).alloc (.cells #[iV P,.slice (some (ad tb to)) T.length tc] 49)) wr) (fun iv _=>L.o.length - (intOf iv).toNat)
     case atStart=>exact⟨0,Nat.zero_le _,rfl,HV3.out,HB.out⟩
     case round =>
      clear HV3 HB HW hlbz hz
      obtain⟨q,hq,rfl,hV,gH⟩:=hrel
      have HV:=z9 hV
      have HB:=z9 gH
      obtain⟨-,-,-,hz,hbw⟩:=xM gH
      have hlbz:=hV.lt
      by_cases hql:q<L.o.length
      ·have hqi:(q:Int)<(L.o.length:Int):=by omega
       obtain⟨ob,oo,rfl,hobz,hoc⟩:=HOUT.out (by omega)
       have c0:=(zf hbw ob (oo+q) hobz).trans (hoc q hql)
       have hobz2:ob<wr.heap.size:=by have:=hbw.size;omega
       obtain⟨r1,r2⟩:=Y8 HM.out hql
       obtain⟨at',hat⟩:=Int.eq_ofNat_of_zero_le r1
       have hal:at'<L.b.length:=by omega
       have HN:=z9 (hV.told hal hat)
       obtain⟨-,-,-,v3⟩:=hV.cells hal
       have z3:=zu.frozen hV (at'*4+3)
       rw [hat] at c0
       have hali:(at':Int)<(L.b.length:Int):=by omega
       generalize (lf3 L ⟨p0,p1,p2,q0,q1,q2,r⟩ P T q).ou at'=e3 at *
       clear hV gH hbw hoc r1 r2 hat
       go_wp2_with fail
       go_roundw
       case rel=>exact⟨q+1,by omega,by go_num,HN.out,HB.out.setCell (Nat.le_refl _) _⟩
       case measure=>simp [intOf];omega
      ·have e:q=L.o.length:=by omega
       have hqi:¬(q:Int)<(L.o.length:Int):=by omega
       have HP:Hid (zt4 L ⟨p0,p1,p2,q0,q1,q2,r⟩ P T w (.returned (.slice (some (ad ((w.heap.size+1+1+1)) 0)) L.b.length L.b.length)) wr):=⟨(w.heap.size+1+1+1),rfl,by rw [e,zy4] at hV;exact hV,by omega,hbw⟩
       clear hV gH hbw e
       go_wp2_with fail
       go_ret
       exact HP.out
def znv (L:Lp) (t:Tg) (P:Int) (T:List Int) (w:World) (e:Ending) (w':World):Prop:=Bw w w'/\∃da dl dc c,e=.returned (.tuple #[.slice da dl dc,iV c])/\(zV L t P T=false->c=2/\dl=0) /\
    (zV L t P T=true->(c=1/\dl=0/\¬(5*(L.b.length:Int)<=t.r/\zaf L t P T=true))\/(c=0/\∃D,zK w' (.slice da dl dc) D/\xj L t D=true/\zQ L t (zR L t P T D) (yI L.b.length)=true))
def Vt (Q:Nat->Int) (T:List Int) (P R:Int) (k:Nat):List Int:=(List.range k).map fun s=>(Q s - nth T s / P) % R
theorem zau (Q:Nat->Int) (T:List Int) (P R:Int) (k:Nat):(Vt Q T P R k).length=k:=by unfold Vt;simp
theorem zcs {Q:Nat->Int} {R:Int} {k:Nat} (h:s<k):nth (Vt Q T P R k) s=(Q s - nth T s / P) % R:=xI h
theorem zln (Q:Nat->Int) (T:List Int) (P R:Int) (k:Nat):(Vt Q T P R k).map (Value.int .i64)++[iV ((Q k - nth T k / P) % R)]=(Vt Q T P R (k+1)).map (Value.int .i64):=by
 unfold Vt
 rw [List.range_succ]
 simp
theorem zr6 (w:World) (x:Value) (t:TypeId) (g:Nat) (hg:w.heap.size=g):∀(j:Nat) (u:Value),[x][j]?=some u->(w.alloc (.cells #[x] t)).cell? (((ad g 0):Addr).add j)=some u:=by
 intro j u hj
 subst hg
 have ha:((ad w.heap.size 0):Addr).add j=(ad w.heap.size j):=by simp [Addr.add];omega
 rw [ha,cell_of_block (zD w #[x] t)]
 simpa using hj
theorem zn0 (hR:t.r=(R:Int)) (hR1:1<=R) (hlg:zV L t P T=true) {B:Nat->Nat->Nat->Bool} (hB:Ui L.b.length R (EvR (yT L t P T) P R) B) {Q:Nat->Int} (hself:∀a,a<L.b.length->B a a 0=false) (hpair:∀a m,a<L.b.length->m<L.b.length->a≠m->B a m ((Q a - Q m) % (R:Int)).toNat=false) :
  xj L t (Vt Q T P R L.b.length)=true/\zQ L t (zR L t P T (Vt Q T P R L.b.length)) (yI L.b.length)=true:=by
 have hd:xj L t (Vt Q T P R L.b.length)=true:=by
  unfold xj
  rw [zau,decide_eq_true rfl,Bool.true_and]
  refine zL fun s hs=>?_
  rw [zcs hs,hR]
  have h1:=Int.emod_nonneg (Q s - nth T s / P) (show (R:Int)≠0 by omega)
  have h2:=Int.emod_lt_of_pos (Q s - nth T s / P) (show 0<(R:Int) by omega)
  exact yf ⟨h1,by omega⟩
 refine⟨hd,zhm hlg hd (B:=B) (Q:=Q) (by rw [hR];exact hB) hself (fun a m ha hm hne=>by rw [hR];exact hpair a m ha hm hne) (fun s hs=>by rw [hR];exact zcs hs)⟩
theorem zrz (hR:t.r=(R:Int)) (hlg:zV L t P T=true) {B:Nat->Nat->Nat->Bool} (hB:Ui L.b.length R (EvR (yT L t P T) P R) B) (h5:5*(L.b.length:Int)<=t.r) (hov:zaf L t P T=true):zce L.b.length R B:=by
 have h:=zr1 (B:=B) hlg (fun s hs=>of_decide_eq_true (zo hov s hs)) h5 (by rw [hR];exact hB)
 rw [hR] at h
 exact h
set_option maxRecDepth 100000 in
theorem zn1 (hS:zcf) (p0 p1 p2 q0 q1 q2:Int) (R:Nat) (L:Lp) (a0 a2:Option Addr) (b off gA gB gC:Nat) (P:Int) (T:List Int) (tb to tc:Nat) (w:World) (hL:zE w ((lv L a0 (some (ad b off)) a2 gA gB gC)) L) (hP:YI w (.agg #[iV P,.slice (some (ad tb to)) T.length tc]) P T) (hlg:zV L ⟨p0,p1,p2,q0,q1,q2,R⟩ P T=true) (hbz:b<w.heap.size) (gQ:∀i,i<L.b.length->∀j,j<9->w.cell? (ad b (off+i*9+j))=(zP (zc L.b i))[j]?) (hl1:L.b.length<=gB) (hm1:gB<=9223372036854775807)
  (htz:tb<w.heap.size) (htcell:∀i,i<T.length->w.cell? (ad tb (to+i))=sI (nth T i)) (htl1:T.length<=tc) (htm:tc<=9223372036854775807)
  (hout:0<L.o.length->∃ob oo,a2=some (ad ob oo)/\ob<w.heap.size/\∀i,i<L.o.length->w.cell? (ad ob (oo+i))=sI (nth L.o i)) (hol:L.o.length<=gC) (hom:gC<=9223372036854775807) :
  Calls prog 13 #[(lv L a0 (some (ad b off)) a2 gA gB gC),(tv p0 p1 p2 q0 q1 q2 R),.agg #[iV P,.slice (some (ad tb to)) T.length tc]] w fun e w'=>znv L ⟨p0,p1,p2,q0,q1,q2,R⟩ P T w e w':=by
 obtain⟨hm,hmt,hp1,hp2,htl,-,-⟩:=yd hlg
 obtain⟨-,h1n,h16,-⟩:=zw hm
 have hR:1<=R/\R<=128:=by obtain⟨-,-,-,h4,h5⟩:=ym hmt;have h4:1<=(R:Int):=h4;have h5:(R:Int)<=128:=h5;omega
 obtain⟨hR1,hR2⟩:=hR
 obtain⟨j0,ji,jz0,jz1,jz2⟩:=info_parts Tryz.j3
 have HB3:=z9 (below_alloc3 w (.cells #[.slice a0 L.l.length gA,.slice (some (ad b off)) L.b.length gB,.slice a2 L.o.length gC] 25) (.cells #[iV p0,iV p1,iV p2,iV q0,iV q1,iV q2,iV R] 28) (.cells #[iV P,.slice (some (ad tb to)) T.length tc] 49))
 have HS:Hid ((((w.alloc (.cells #[.slice a0 L.l.length gA,.slice (some (ad b off)) L.b.length gB,.slice a2 L.o.length gC] 25)).alloc (.cells #[iV p0,iV p1,iV p2,iV q0,iV q1,iV q2,iV R] 28)).alloc (.cells #[iV P,.slice (some (ad tb to)) T.length tc] 49)).heap.size=w.heap.size+1+1+1):=by show _=_;simp
 have HLG:=z9 ((hS ((lv L a0 (some (ad b off)) a2 gA gB gC)) (.agg #[iV P,.slice (some (ad tb to)) T.length tc]) ⟨p0,p1,p2,q0,q1,q2,R⟩ L P T (((w.alloc (.cells #[.slice a0 L.l.length gA,.slice (some (ad b off)) L.b.length gB,.slice a2 L.o.length gC] 25)).alloc (.cells #[iV p0,iV p1,iV p2,iV q0,iV q1,iV q2,iV R] 28)).alloc (.cells #[iV P,.slice (some (ad tb to)) T.length tc] 49)) (hL.gE HB3.out) (hP.gE HB3.out) hlg).mono (R':=fun e w'=>e=.returned (.bool true)/\Below (w.heap.size+1+1+1) _ w') fun e w' h=>⟨h.1,h.2.mono (Nat.le_of_eq HS.out.symm)⟩)
 have HLV:=z9 (fun W (hW:Bw w W)=>zm7 p0 p1 p2 q0 q1 q2 R L a0 a2 b off gA gB gC P T tb to tc W hlg (Nat.lt_of_lt_of_le hbz hW.size) (fun i hi j hj=>(zf hW _ _ hbz).trans (gQ i hi j hj)) hl1 hm1 (Nat.lt_of_lt_of_le htz hW.size) (fun i hi=>(zf hW _ _ htz).trans (htcell i hi)) htl1 htm (fun h=>by obtain⟨ob,oo,e,h1,h2⟩:=hout h;exact⟨ob,oo,e,Nat.lt_of_lt_of_le h1 hW.size,fun i hi=>(zf hW _ _ h1).trans (h2 i hi)⟩) hol hom)
 have HTB:=z9 (fun W lb (h:LvV L.b.length lb (yT L ⟨p0,p1,p2,q0,q1,q2,R⟩ P T) W)=>zl9 L.b.length R lb (yT L ⟨p0,p1,p2,q0,q1,q2,R⟩ P T) P W h (zuu hlg) h1n h16 hR1 hR2 hp1 hp2)
 have HFP:=z9 (fun W rb cb base B (h:Zl ⟨L.b.length,R,base,rb,cb⟩ base B W) (hs:zt7 L.b.length R B) (hz:base<=W.heap.size)=>zcw ⟨L.b.length,R,base,rb,cb⟩ W h hs hz h1n h16 hR1 hR2)
 have HFOUND:=z9 (fun B (hB:Ui L.b.length R (EvR (yT L ⟨p0,p1,p2,q0,q1,q2,R⟩ P T) P R) B) Q hself hpair=>zn0 (t:=⟨p0,p1,p2,q0,q1,q2,R⟩) (R:=R) rfl hR1 hlg hB (Q:=Q) hself hpair)
 have HNEAR:=z9 (fun B (hB:Ui L.b.length R (EvR (yT L ⟨p0,p1,p2,q0,q1,q2,R⟩ P T) P R) B) (h5:5*(L.b.length:Int)<=R) (hov:zaf L ⟨p0,p1,p2,q0,q1,q2,R⟩ P T=true)=>zrz (t:=⟨p0,p1,p2,q0,q1,q2,R⟩) (R:=R) rfl hlg hB h5 hov)
 have HNONE:Hid (∀w',Bw w w'->¬(5*(L.b.length:Int)<=R/\zaf L ⟨p0,p1,p2,q0,q1,q2,R⟩ P T=true)->znv L ⟨p0,p1,p2,q0,q1,q2,R⟩ P T w (.returned (.tuple #[.slice none 0 0,iV 1])) w'):=fun w' h hn=>⟨h,none,0,0,1,rfl,fun h=>(by rw [hlg] at h;cases h),fun _=>.inl ⟨rfl,rfl,hn⟩⟩
 have HYES:Hid (∀w' da dc D,Bw w w'->zK w' (.slice da L.b.length dc) D->xj L ⟨p0,p1,p2,q0,q1,q2,R⟩ D=true->zQ L ⟨p0,p1,p2,q0,q1,q2,R⟩ (zR L ⟨p0,p1,p2,q0,q1,q2,R⟩ P T D) (yI L.b.length)=true->znv L ⟨p0,p1,p2,q0,q1,q2,R⟩ P T w (.returned (.tuple #[.slice da L.b.length dc,iV 0])) w'):=fun w' da dc D h h1 h2 h3=>⟨h,da,_,dc,0,rfl,fun h=>(by rw [hlg] at h;cases h),fun _=>.inr ⟨rfl,D,h1,h2,h3⟩⟩
 have HTM:=z9 (fun s (h:s<L.b.length)=>xr hlg h)
 have HTL:=z9 htl
 have HTC:=z9 htcell
 clear hL hP hlg hm hmt htl gQ htcell hout
 go_enter func13,ntmps13
 go_wp2_with fail
 refine HLG.out.mono ?_
 rintro e x1 ⟨rfl,hb1⟩
 have HB1:=z9 hb1
 have HSS:Hid (∀w',Below (w.heap.size+1+1+1) (((w.alloc (.cells #[.slice a0 L.l.length gA,.slice (some (ad b off)) L.b.length gB,.slice a2 L.o.length gC] 25)).alloc (.cells #[iV p0,iV p1,iV p2,iV q0,iV q1,iV q2,iV R] 28)).alloc (.cells #[iV P,.slice (some (ad tb to)) T.length tc] 49)) w'->w'.cell? (ad w.heap.size 0)=some (.slice a0 L.l.length gA)/\w'.cell? (ad w.heap.size 1)=some (.slice (some (ad b off)) L.b.length gB)/\w'.cell? (ad w.heap.size 2)=some (.slice a2 L.o.length gC)/\w'.cell? (ad (w.heap.size+1) 0)=sI p0/\w'.cell? (ad (w.heap.size+1) 1)=sI p1/\w'.cell? (ad (w.heap.size+1) 2)=sI p2/\w'.cell? (ad (w.heap.size+1) 3)=sI q0/\w'.cell? (ad (w.heap.size+1) 4)=sI q1/\w'.cell? (ad (w.heap.size+1) 5)=sI q2/\w'.cell? (ad (w.heap.size+1) 6)=sI R/\w'.cell? (ad (w.heap.size+1+1) 0)=sI P/\w'.cell? (ad (w.heap.size+1+1) 1)=some (.slice (some (ad tb to)) T.length tc)):=fun w' h=>by
  obtain⟨⟨l0,l1,l2⟩,⟨t0,t1,t2,t3,t4,t5,t6⟩,⟨y0,y1⟩,-,-⟩:=xM h
  exact⟨l0,l1,l2,t0,t1,t2,t3,t4,t5,t6,y0,y1⟩
 have hx1:w.heap.size+1+1+1<=x1.heap.size:=by have:=hb1.size;rw [HS.out] at this;exact this
 clear hb1 HLG
 go_wp2_with fail
 refine wp_region_noPanic ?_
 refine zm 99 (fun w'=>w'.cell? (ad w.heap.size 0)=some (.slice a0 L.l.length gA)/\w'.cell? (ad w.heap.size 1)=some (.slice (some (ad b off)) L.b.length gB)/\w'.cell? (ad w.heap.size 2)=some (.slice a2 L.o.length gC)/\w'.cell? (ad (w.heap.size+1) 0)=sI p0/\w'.cell? (ad (w.heap.size+1) 1)=sI p1/\w'.cell? (ad (w.heap.size+1) 2)=sI p2/\w'.cell? (ad (w.heap.size+1) 3)=sI q0/\w'.cell? (ad (w.heap.size+1) 4)=sI q1/\w'.cell? (ad (w.heap.size+1) 5)=sI q2/\w'.cell? (ad (w.heap.size+1) 6)=sI R/\w'.cell? (ad (w.heap.size+1+1) 0)=sI P/\w'.cell? (ad (w.heap.size+1+1) 1)=some (.slice (some (ad tb to)) T.length tc)) (by kernel_rfl) (HSS.out _ (HB1.out.trans (below_draws _ _ 1))) (fun h9=>?_)
 refine uk 0 h9 ?_
 refine uk 1 h9 ?_
 refine uk 2 h9 ?_
 refine uk 4 h9 ?_
 refine uk 5 h9 ?_
 refine uk 6 h9 ?_
 refine uk 7 h9 ?_
 refine ze (i:=3) rfl (by kernel_rfl) (fun K hK9=>?_)
 go_simp
 refine (HLV.out _ ((HB3.out.trans (HB1.out.mono (by omega))).trans (below_draws _ _ 1))).mono ?_
 rintro e y1 ⟨lb,rfl,hLv,hlb,hby1⟩
 have HY1:Hid (Below (w.heap.size+1+1+1) (((w.alloc (.cells #[.slice a0 L.l.length gA,.slice (some (ad b off)) L.b.length gB,.slice a2 L.o.length gC] 25)).alloc (.cells #[iV p0,iV p1,iV p2,iV q0,iV q1,iV q2,iV R] 28)).alloc (.cells #[iV P,.slice (some (ad tb to)) T.length tc] 49)) y1):=HB1.out.trans ((below_draws _ x1 1).trans (hby1.mono hx1))
 have HLIV:=z9 hLv
 have hH1:=HSS.out _ HY1.out
 clear hLv hby1 hlb
 refine nxt hK9.out (.inr hH1) ?_
 clear hK9 K
 refine ze (i:=8) rfl (by kernel_rfl) (fun K hK9=>?_)
 go_simp
 refine (HTB.out y1 lb HLIV.out).mono ?_
 rintro e y2 ⟨rb,cb,rfl,⟨B,hBV,hBO⟩,hby2⟩
 have hy1z:w.heap.size+1+1+1<=y1.heap.size:=by have:=HY1.out.size;rw [HS.out] at this;exact this
 have HY2:Hid (Below (w.heap.size+1+1+1) (((w.alloc (.cells #[.slice a0 L.l.length gA,.slice (some (ad b off)) L.b.length gB,.slice a2 L.o.length gC] 25)).alloc (.cells #[iV p0,iV p1,iV p2,iV q0,iV q1,iV q2,iV R] 28)).alloc (.cells #[iV P,.slice (some (ad tb to)) T.length tc] 49)) y2):=HY1.out.trans (hby2.mono hy1z)
 have HCALL:=z9 (HFP.out y2 rb cb y1.heap.size B hBV (hBO.sym (by omega)) hby2.size)
 have HBO:=z9 hBO
 have hH2:=HSS.out _ HY2.out
 clear hBV hBO hby2
 refine nxt hK9.out (.inr hH2) ?_
 clear hK9 K
 refine ze (i:=9) rfl (by kernel_rfl) (fun K hK9=>?_)
 go_simp
 refine HCALL.out.mono ?_
 rintro e y3 ⟨va,ok,rfl,hby3,hnear,hok⟩
 have HY3:Hid (Below (w.heap.size+1+1+1) (((w.alloc (.cells #[.slice a0 L.l.length gA,.slice (some (ad b off)) L.b.length gB,.slice a2 L.o.length gC] 25)).alloc (.cells #[iV p0,iV p1,iV p2,iV q0,iV q1,iV q2,iV R] 28)).alloc (.cells #[iV P,.slice (some (ad tb to)) T.length tc] 49)) y3):=HY2.out.trans (hby3.mono hy1z)
 have hH3:=HSS.out _ HY3.out
 have HNE:=z9 hnear
 have HOK:=z9 hok
 clear hby3 hnear hok HCALL
 refine nxt hK9.out (.inr hH3) ?_
 clear hK9 K
 refine uk 10 hH3 ?_
 refine uk 11 hH3 ?_
 refine uk 12 hH3 ?_
 refine uk 13 hH3 ?_
 refine uk 14 hH3 ?_
 refine zq (by kernel_rfl) ?_ _
 refine NoPanic.normal ?_
 clear h9 hH1 hH2 hH3 HLV HTB HFP HLIV
 have HW3:Hid (Bw w y3):=HB3.out.trans (HY3.out.mono (by omega))
 cases ok with
 | false =>
   have HP:=z9 (HNONE.out y3 HW3.out (fun h=>by have:=HNE.out (HNEAR.out B HBO.out h.1 h.2);cases this))
   go_wp2_with fail
   go_ret2
   exact HP.out
 | true =>
   obtain⟨pb,Q,rfl,gI,hqr,hself,hpair⟩:=HOK.out rfl
   have gS:=z9 gI
   have HQR:=z9 hqr
   have HFD:=z9 (HFOUND.out B HBO.out Q hself hpair)
   have hpz:=gI.lt
   clear gI hqr hself hpair HOK HNE HNEAR HFOUND HBO HNONE
   obtain⟨⟨l0,l1,l2⟩,-,-,hz,-⟩:=xM HY3.out
   have HST:=z9 (U8 y3 3)
   have hza:w.heap.size<y3.heap.size:=by omega
   have hzb:w.heap.size+1<y3.heap.size:=by omega
   have hzc:w.heap.size+1+1<y3.heap.size:=by omega
   go_wp2_with fail
   clear l0 l1 l2
   go_loopw [10,37] (fun ov iv wr=>∃k:Nat,k<=L.b.length/\iv=iV k/\∃ua uc,ov=.slice ua k uc/\wr.ownsRow y3.heap.size 3 1 (.slice ua k uc) k ((Vt Q T P R k).map (Value.int .i64))/\Bw y3 wr) (fun _ iv _=>L.b.length - (intOf iv).toNat)
   case atStart=>exact⟨0,Nat.zero_le _,rfl,_,_,rfl,HST.out,below_alloc1 _ _⟩
   case round =>
    clear HST
    obtain⟨k,hk,rfl,ua,uc,rfl,gJ,gH⟩:=hrel
    have HOW:=z9 gJ
    have HBL:=z9 gH
    have HYW:Hid (Below (w.heap.size+1+1+1) (((w.alloc (.cells #[.slice a0 L.l.length gA,.slice (some (ad b off)) L.b.length gB,.slice a2 L.o.length gC] 25)).alloc (.cells #[iV p0,iV p1,iV p2,iV q0,iV q1,iV q2,iV R] 28)).alloc (.cells #[iV P,.slice (some (ad tb to)) T.length tc] 49)) wr):=HY3.out.trans (gH.mono (by omega))
    have hzr:=gH.size
    clear gJ gH
    by_cases hkl:k<L.b.length
    ·have hki:(k:Int)<(L.b.length:Int):=by omega
     obtain⟨-,⟨-,-,-,-,-,-,t6⟩,⟨y0,y1'⟩,hz2,hbw⟩:=xM HYW.out
     have hzd:w.heap.size<wr.heap.size:=by omega
     have hze:w.heap.size+1<wr.heap.size:=by omega
     have hzf:w.heap.size+1+1<wr.heap.size:=by omega
     have htz2:tb<wr.heap.size:=by have:=hbw.size;omega
     have hkT:(k:Int)<(T.length:Int):=by have:=HTL.out;omega
     have cT:=(zf hbw tb (to+k) htz).trans (HTC.out k (by have:=HTL.out;omega))
     have cQ:=(gS.out.gE HBL.out hpz).cell hkl
     have hpz2:pb<wr.heap.size:=by omega
     obtain⟨tm1,tm2,-⟩:=HTM.out k hkl
     obtain⟨q1,q2⟩:=HQR.out k hkl
     have hq128:Q k<128:=by have:(⟨L.b.length,R,y1.heap.size,rb,cb⟩:Bc).R=R:=rfl;omega
     have hSN:=zln Q T P R k
     have hst0:0<=nth T k / P:=Int.ediv_nonneg tm1 (by omega)
     have hst1:nth T k / P<=1000:=Int.le_trans (Int.ediv_le_self _ tm1) tm2
     have htd:(nth T k).tdiv P=nth T k / P:=Int.tdiv_eq_ediv_of_nonneg tm1
     obtain⟨dk,hdk⟩:∃dk,(Q k - nth T k / P) % (R:Int)=dk:=⟨_,rfl⟩
     have HL:=z9 (fun W=>XL (Q k - nth T k / P) R dk W (by omega) (by omega) (by omega) (by omega) hdk)
     rw [hdk] at hSN
     have HSN:=z9 hSN
     generalize Q k=qk at *
     generalize nth T k=tk at *
     obtain⟨st,hst⟩:∃st,tk / P=st:=⟨_,rfl⟩
     rw [hst] at htd HL hst0 hst1
     have hw1:wrap64 st=st:=by unfold wrap64;omega
     have hw2:wrap64 (qk - st)=qk - st:=by unfold wrap64;omega
     have hw3:IntKind.i64.wrap (qk - st)=qk - st:=xw _ (by omega) (by omega)
     have hw4:IntKind.i64.wrap st=st:=xw _ (by omega) (by omega)
     have hP0:¬P=0:=by omega
     have HQK:Hid (∀W,Bw y3 W->W.cell? (ad pb k)=sI qk):=fun W hW=>by rw [zf hW _ _ hpz,<-zf HBL.out _ _ hpz];exact cQ
     clear hSN hst hdk hbw
     have HSS2:Hid (∀W,Bw wr W->W.cell? (ad (w.heap.size+1) 6)=sI R/\W.cell? (ad pb k)=sI qk):=fun W hW=>⟨by rw [zf hW _ _ (by omega)];exact t6,by rw [zf hW _ _ hpz2];exact cQ⟩
     go_wp2_with fail
     go_big_quiet ((fail))
     go_wp2_with fail
     have HQD:Hid (Bw wr (wr.drewN nq)):=below_draws _ _ _
     generalize hyy:wr.drewN nq=yq at *
     refine wp_region_noPanic ?_
     refine zm 99 (fun w'=>w'.cell? (ad (w.heap.size+1) 6)=sI R/\w'.cell? (ad pb k)=sI qk) (by kernel_rfl) (HSS2.out _ (HQD.out.trans (below_draws _ _ 1))) (fun h9=>?_)
     refine uk 0 h9 ?_
     refine uk 1 h9 ?_
     refine uk 2 h9 ?_
     refine uk 3 h9 ?_
     refine uk 4 h9 ?_
     refine uk 5 h9 ?_
     refine uk 6 h9 ?_
     refine uk 7 h9 ?_
     refine uk 8 h9 ?_
     refine ze (i:=9) rfl (by kernel_rfl) (fun K hK9=>?_)
     go_simp
     refine (HL.out _).mono ?_
     rintro e x2 ⟨rfl,rfl⟩
     refine nxt hK9.out (.inr h9) ?_
     clear hK9 K
     have HBA:Hid (Bw wr (yq.drew.alloc (.cells #[iV dk] 3))):=(HQD.out.trans (below_draws _ _ 1)).trans ((below_alloc1 yq.drew _).mono (HQD.out.trans (below_draws _ _ 1)).size)
     have hH2:=HSS2.out _ HBA.out
     refine ze (i:=10) rfl (by kernel_rfl) (fun K hK9=>?_)
     go_simp
     refine nxt hK9.out (.inr hH2) ?_
     clear hK9 K
     refine ze (i:=11) rfl (by kernel_rfl) (fun K hK9=>?_)
     refine step_append_lies _ (by rfl) (.tmp 48) (.tmp 58) 22 (by rfl) y3.heap.size 3 j0 (iV 0) 1 8 underlying22 ji jz0 jz1 jz2 rfl (by decide) _ k _ (by rfl) (zA HOW.out HBA.out) (ad yq.drew.heap.size 0) 1 1 [iV dk] (by rfl) rfl (zr6 _ _ _ _ rfl) (by intro u hu;simp at hu;subst hu;rfl) (by decide) (by unfold maxLen;omega) (by omega) (Nat.le_trans hzr HBA.out.size) _ rfl ?_
     intro g2 e2 w2 gP gN hat hlt
     rw [HSN.out] at gP
     have HO2:=z9 gP
     have HG2:=z9 (((HBL.out.trans (HBA.out.mono hzr))).grown gN (Nat.le_trans hzr HBA.out.size) (yc HOW.out))
     have hH4:w2.cell? (ad (w.heap.size+1) 6)=sI R/\w2.cell? (ad pb k)=sI qk:=by
      have hY:=HY3.out.trans (HG2.out.mono (by omega))
      obtain⟨-,⟨-,-,-,-,-,-,u6⟩,-,-,-⟩:=xM hY
      exact⟨u6,HQK.out w2 HG2.out⟩
     clear gP gN hat hlt
     refine nxt hK9.out (.inr hH4) ?_
     clear hK9 K
     refine uk 12 hH4 ?_
     refine zq (by kernel_rfl) ?_ _
     refine NoPanic.normal ?_
     clear h9 hH2 hH4 HSS2 HBA HQD
     go_wp2_with fail
     go_roundw
     case rel=>exact⟨k+1,by omega,by go_num,_,_,rfl,HO2.out,HG2.out⟩
     case measure=>simp [intOf];omega
    ·have e:k=L.b.length:=by omega
     have hki:¬(k:Int)<(L.b.length:Int):=by omega
     have HP:Hid (znv L ⟨p0,p1,p2,q0,q1,q2,R⟩ P T w (.returned (.tuple #[.slice ua k uc,iV 0])) wr):=by
      have h:=HOW.out
      subst e
      refine HYES.out wr ua uc _ (HW3.out.trans (HBL.out.mono HW3.out.size)) ?_ HFD.out.1 HFD.out.2
      have h2:=zhf (zs:=Vt Q T P R L.b.length) (by rw [zau];exact h) (fun i hi=>by
       rw [zau] at hi
       rw [zcs hi]
       have h1:=Int.emod_nonneg (Q i - nth T i / P) (show (R:Int)≠0 by omega)
       have h2:=Int.emod_lt_of_pos (Q i - nth T i / P) (show 0<(R:Int) by omega)
       omega)
      exact h2
     clear e
     go_wp2_with fail
     go_ret2
     exact HP.out
end Go.Proofs.YtjoapiafpahihabGreat
